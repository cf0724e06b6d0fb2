/-
  P4.1: what is within goes on from one to another, and of two just both are within their Join, each way.
  Conditions: none beyond the row's own.
-/
import Derived.Test.YtkiekbkjhlbnhaaTnumOrderA
import Derived.Test.YtkiekbkjhlbnhaaTnumOrderB
import Derived.Test.YtkiekbkjhlbnhaaTnumOrderC
import Derived.Test.YtkiekbkjhlbnhaaTnumOrderD
import Derived.Test.YtkiekbkjhlbnhaaTnumOrderE
import Derived.Test.YtkiekbkjhlbnhaaTnumOrderF
import Derived.Test.YtkiekbkjhlbnhaaTnumOrderG
namespace Go.Proofs.Ytkiekbkjhlbnhaa
open Go.RowKit
set_option linter.unusedVariables false

theorem order_walk (v m x k y o : BitVec 64) (w : World) : Calls Try.prog 9 #[uV v, uV m, uV x, uV k, uV y, uV o] w (Fine w) := by
  have ra := made_right v m
  have rb := made_right x k
  have rc := made_right y o
  have M1 := Lib.hid (made_pick v m 0#64)
  have M2 := Lib.hid (made_pick x k 0#64)
  have M3 := Lib.hid (made_pick y o 0#64)
  have J1 := Lib.hid (join_says (tMade v m) (tMade x k))
  have J2' : ∀ w, Calls _ _ _ _ _ := join_says (tMade x k) (tMade v m)
  rw [join_comm ra rb] at J2'
  have J2 := Lib.hid J2'
  have h4 := join_least ra rb rc
  have hh := @within_on (tMade v m) (tMade x k) (tMade y o)
  cases h1 : tW (tMade v m) (tMade x k)
  · cases h2 : tW (tMade x k) (tMade y o)
    · rw [h2] at h4
      cases h3 : tW (tMade v m) (tMade y o)
      · rw [h3] at h4
        exact order_a v m x k y o _ _ _ _ _ _ _ w M1 M2 M3 J1 J2 (Lib.hid h1) (Lib.hid h2) (Lib.hid h3) (Lib.hid h4)
      · rw [h3] at h4
        exact order_c v m x k y o _ _ _ _ _ _ _ w M1 M2 M3 J1 J2 (Lib.hid h1) (Lib.hid h2) (Lib.hid h3) (Lib.hid h4)
    · rw [h2] at h4
      cases h3 : tW (tMade v m) (tMade y o)
      · rw [h3] at h4
        exact order_b v m x k y o _ _ _ _ _ _ _ w M1 M2 M3 J1 J2 (Lib.hid h1) (Lib.hid h2) (Lib.hid h3) (Lib.hid h4)
      · rw [h3] at h4
        exact order_d v m x k y o _ _ _ _ _ _ _ w M1 M2 M3 J1 J2 (Lib.hid h1) (Lib.hid h2) (Lib.hid h3) (Lib.hid h4)
  · cases h2 : tW (tMade x k) (tMade y o)
    · rw [h2] at h4
      cases h3 : tW (tMade v m) (tMade y o)
      · rw [h3] at h4
        exact order_e v m x k y o _ _ _ _ _ _ _ w M1 M2 M3 J1 J2 (Lib.hid h1) (Lib.hid h2) (Lib.hid h3) (Lib.hid h4)
      · rw [h3] at h4
        exact order_f v m x k y o _ _ _ _ _ _ _ w M1 M2 M3 J1 J2 (Lib.hid h1) (Lib.hid h2) (Lib.hid h3) (Lib.hid h4)
    · have h3 := hh h1 h2
      rw [h2, h3] at h4
      exact order_g v m x k y o _ _ _ _ _ _ _ w M1 M2 M3 J1 J2 (Lib.hid h1) (Lib.hid h2) (Lib.hid h3) (Lib.hid h4)

end Go.Proofs.Ytkiekbkjhlbnhaa
