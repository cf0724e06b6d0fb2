/-
  New blocks that hold facts, one or two, in whatever world comes of them.
  Conditions: none.
-/
import Derived.Test.YtfepokiibdkoeaaAllA3
namespace Go.Proofs.Ytfepokiibdkoeaa
open Go.RowKit
set_option linter.unusedVariables false

theorem nB.allocd {g : Nat} {w : World} (h : nB g w) (o : Obj) : nB g (w.alloc o) := nB.after h (below_alloc (Below.refl _ _) o)
theorem nB.one {w w' : World} (b : Below (w.alloc (.cells #[.int .u64 0, .int .u64 0, .int .u64 0, .int .u64 0] 28)).heap.size (w.alloc (.cells #[.int .u64 0, .int .u64 0, .int .u64 0, .int .u64 0] 28)) w') : nB w.heap.size w' := nB.made b
theorem nB.oned {w w' : World} (b : Below ((w.alloc (.cells #[.int .u64 0, .int .u64 0, .int .u64 0, .int .u64 0] 28)).drew).heap.size ((w.alloc (.cells #[.int .u64 0, .int .u64 0, .int .u64 0, .int .u64 0] 28)).drew) w') : nB w.heap.size w' := nB.made (w := w.drew) b
theorem nB.two {w w' : World} (b : Below ((w.alloc (.cells #[.int .u64 0, .int .u64 0, .int .u64 0, .int .u64 0] 28)).alloc (.cells #[.int .u64 0, .int .u64 0, .int .u64 0, .int .u64 0] 28)).heap.size ((w.alloc (.cells #[.int .u64 0, .int .u64 0, .int .u64 0, .int .u64 0] 28)).alloc (.cells #[.int .u64 0, .int .u64 0, .int .u64 0, .int .u64 0] 28)) w') : nB w.heap.size w' ∧ nB (w.heap.size + 1) w' :=
  ⟨nB.after (nB.allocd (show nB _ _ from Blk.new w _ _ rfl) _) b, nB.after (show nB _ _ from Blk.new _ _ _ (by simp)) b⟩
theorem nB.twod {w w' : World} (b : Below (((w.alloc (.cells #[.int .u64 0, .int .u64 0, .int .u64 0, .int .u64 0] 28)).alloc (.cells #[.int .u64 0, .int .u64 0, .int .u64 0, .int .u64 0] 28)).drew).heap.size (((w.alloc (.cells #[.int .u64 0, .int .u64 0, .int .u64 0, .int .u64 0] 28)).alloc (.cells #[.int .u64 0, .int .u64 0, .int .u64 0, .int .u64 0] 28)).drew) w') : nB w.heap.size w' ∧ nB (w.heap.size + 1) w' := nB.two (w := w.drew) b

theorem below_4v {B k : Nat} {w u : World} (h : Below B w u) (hk : B ≤ k) (p q r s : Value) :
    Below B w ((((u.setCell ⟨k, 0, none⟩ p).setCell ⟨k, 1, none⟩ q).setCell ⟨k, 2, none⟩ r).setCell ⟨k, 3, none⟩ s) :=
  (((h.setCell (p := ⟨k, 0, none⟩) hk _).setCell (p := ⟨k, 1, none⟩) hk _).setCell (p := ⟨k, 2, none⟩) hk _).setCell (p := ⟨k, 3, none⟩) hk _

end Go.Proofs.Ytfepokiibdkoeaa
