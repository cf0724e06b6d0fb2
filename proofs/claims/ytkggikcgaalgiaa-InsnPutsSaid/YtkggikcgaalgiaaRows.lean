/-
  No cell of these rows narrows 'for every input' (looked for: loops, veiled, ifaces, maps, wideKeys, modest, calm, conditions, laid).
  DERIVED. THE GIVEN ROWS OF THIS SEAT. 5 by the template 'for every input the law returns true; each argument reads behind the call as it read before'; 0 by the template 'total and deterministic' (their statements: YtkggikcgaalgiaaTotals.lean).
  GIVEN WITH THE SEED: the statements are not yours to turn. If you find one false, say at which input.
  Laid BY PROGRAM, IN A SANDBOX (cutbox-rows.mjs): the forced cells as the released guide's own fill.sh prints them over the translation 00528a5523810987… (all of the seat's roots in one cut). By AI agents, Wed Nov 11 2026. No macro, syntax, notation, axiom, sorry.
-/
import Derived.Test.YtkggikcgaalgiaaChecked
import GoSem.Claim
import GoSem.ClaimJoined
import GoSem.ClaimMapViews
import Derived.JoinedTies
import Derived.KernelRfl
namespace Go.Proofs.Ytkggikcgaalgiaa
/- THE CELL 'sum', in the pinned program and in every row, IS THE sha256 OF THE DUMP (.gsa) THAT YtkggikcgaalgiaaProg.lean LOADS. Nothing in Lean hashes anything: it is a label: what it is worth is what the hold of that sum in a sandbox is worth. -/
noncomputable def Try.pinned : Pinned := { name := "ytkggikcgaalgiaa", sum := "00528a55238109874ae3582b2927f2ab049af42d880c1bfae2df9735b317c184", checked := Try.checked }
namespace Rows
def none {H : Type} : Left H := { results := [], args := [] }

/-- 'hacklelaw01.InsnPuts': WHATEVER THE INPUT: true; the input reads as it did. -/
def insnPutsSpec : ChangeSpec := { name := "insnPuts", fn := fun _ => fun
  | [d1, d2] => { results := [.lit (.bool true)], args := [d1, d2] }
  | _ => none }
def insnPutsRow : OpenClaim := { program := "ytkggikcgaalgiaa", sum := "00528a55238109874ae3582b2927f2ab049af42d880c1bfae2df9735b317c184", func := "hackle/hacklelaw01.InsnPuts", spec := "insnPuts", apart := false }
def InsnPutsSaid : Prop := insnPutsRow.holds Try.pinned (OpenSpec.ofChange insnPutsSpec)

/-- ITS FALSE NEIGHBOUR: 'it returns false'. Refute it at one input. -/
def insnPutsWrong : ChangeSpec := { name := "insnPuts", fn := fun _ => fun
  | [d1, d2] => { results := [.lit (.bool false)], args := [d1, d2] }
  | _ => none }
def InsnPutsWrongFalsely : Prop := insnPutsRow.holds Try.pinned (OpenSpec.ofChange insnPutsWrong)

/-- 'hacklelaw01.InsnTakes': WHATEVER THE INPUT: true; the input reads as it did. -/
def insnTakesSpec : ChangeSpec := { name := "insnTakes", fn := fun _ => fun
  | [d] => { results := [.lit (.bool true)], args := [d] }
  | _ => none }
def insnTakesRow : OpenClaim := { program := "ytkggikcgaalgiaa", sum := "00528a55238109874ae3582b2927f2ab049af42d880c1bfae2df9735b317c184", func := "hackle/hacklelaw01.InsnTakes", spec := "insnTakes", apart := false }
def InsnTakesSaid : Prop := insnTakesRow.holds Try.pinned (OpenSpec.ofChange insnTakesSpec)

/-- ITS FALSE NEIGHBOUR: 'it returns false'. Refute it at one input. -/
def insnTakesWrong : ChangeSpec := { name := "insnTakes", fn := fun _ => fun
  | [d] => { results := [.lit (.bool false)], args := [d] }
  | _ => none }
def InsnTakesWrongFalsely : Prop := insnTakesRow.holds Try.pinned (OpenSpec.ofChange insnTakesWrong)

/-- 'hacklelaw01.InsnBack': WHATEVER THE INPUT: true; the input reads as it did. -/
def insnBackSpec : ChangeSpec := { name := "insnBack", fn := fun _ => fun
  | [d1, d2] => { results := [.lit (.bool true)], args := [d1, d2] }
  | _ => none }
def insnBackRow : OpenClaim := { program := "ytkggikcgaalgiaa", sum := "00528a55238109874ae3582b2927f2ab049af42d880c1bfae2df9735b317c184", func := "hackle/hacklelaw01.InsnBack", spec := "insnBack", apart := false }
def InsnBackSaid : Prop := insnBackRow.holds Try.pinned (OpenSpec.ofChange insnBackSpec)

/-- ITS FALSE NEIGHBOUR: 'it returns false'. Refute it at one input. -/
def insnBackWrong : ChangeSpec := { name := "insnBack", fn := fun _ => fun
  | [d1, d2] => { results := [.lit (.bool false)], args := [d1, d2] }
  | _ => none }
def InsnBackWrongFalsely : Prop := insnBackRow.holds Try.pinned (OpenSpec.ofChange insnBackWrong)

/-- 'hacklelaw01.InsnLong': WHATEVER THE INPUT: true; the input reads as it did. -/
def insnLongSpec : ChangeSpec := { name := "insnLong", fn := fun _ => fun
  | [d1, d2, d3, d4] => { results := [.lit (.bool true)], args := [d1, d2, d3, d4] }
  | _ => none }
def insnLongRow : OpenClaim := { program := "ytkggikcgaalgiaa", sum := "00528a55238109874ae3582b2927f2ab049af42d880c1bfae2df9735b317c184", func := "hackle/hacklelaw01.InsnLong", spec := "insnLong", apart := false }
def InsnLongSaid : Prop := insnLongRow.holds Try.pinned (OpenSpec.ofChange insnLongSpec)

/-- ITS FALSE NEIGHBOUR: 'it returns false'. Refute it at one input. -/
def insnLongWrong : ChangeSpec := { name := "insnLong", fn := fun _ => fun
  | [d1, d2, d3, d4] => { results := [.lit (.bool false)], args := [d1, d2, d3, d4] }
  | _ => none }
def InsnLongWrongFalsely : Prop := insnLongRow.holds Try.pinned (OpenSpec.ofChange insnLongWrong)

/-- 'hacklelaw01.InsnParts': WHATEVER THE INPUT: true; the input reads as it did. -/
def insnPartsSpec : ChangeSpec := { name := "insnParts", fn := fun _ => fun
  | [d1, d2] => { results := [.lit (.bool true)], args := [d1, d2] }
  | _ => none }
def insnPartsRow : OpenClaim := { program := "ytkggikcgaalgiaa", sum := "00528a55238109874ae3582b2927f2ab049af42d880c1bfae2df9735b317c184", func := "hackle/hacklelaw01.InsnParts", spec := "insnParts", apart := false }
def InsnPartsSaid : Prop := insnPartsRow.holds Try.pinned (OpenSpec.ofChange insnPartsSpec)

/-- ITS FALSE NEIGHBOUR: 'it returns false'. Refute it at one input. -/
def insnPartsWrong : ChangeSpec := { name := "insnParts", fn := fun _ => fun
  | [d1, d2] => { results := [.lit (.bool false)], args := [d1, d2] }
  | _ => none }
def InsnPartsWrongFalsely : Prop := insnPartsRow.holds Try.pinned (OpenSpec.ofChange insnPartsWrong)

/- THE SECOND FORM. 'bulk': how many values and letters a reading holds, each counted each time it is reached (what is shared counts as often as it is met; a slice's spare places count too). A statement '..UptoSaid' is the law's where the arguments, and the package variables that the reading takes, are together of bulk at most 1048576: NARROWER than '..Said'. Prove '..Said' where nothing that the law and all that it calls make is longer than what came in: it says more and counts as full. Else prove '..UptoSaid'. A law counts once. -/
mutual
def uptoBulk {H : Type} : DataW H → Nat
  | .lit (.string bytes) => bytes.length + 1
  | .lit _ => 1
  | .nil => 1
  | .ptr d => uptoBulk d + 1
  | .slice elems spare => uptoBulkAll elems + uptoBulkAll spare + 1
  | .agg parts => uptoBulkAll parts + 1
  | .iface _ d => uptoBulk d + 1
  | .map entries => uptoBulkEntries entries + 1
  | .held _ => 1
def uptoBulkAll {H : Type} : List (DataW H) → Nat
  | [] => 0
  | d :: r => uptoBulk d + uptoBulkAll r
def uptoBulkEntries {H : Type} : List (Lit × DataW H) → Nat
  | [] => 0
  | x :: r => uptoBulkEntry x + uptoBulkEntries r
def uptoBulkEntry {H : Type} : Lit × DataW H → Nat
  | (.string bytes, d) => bytes.length + uptoBulk d + 1
  | (_, d) => uptoBulk d + 1
 end
def uptoSmall : (H : Type) → List (DataW H) → Bool := fun _ ds => decide (uptoBulkAll ds ≤ 1048576)
def OpenSpec.upto (s : _root_.Go.ChangeSpec) : _root_.Go.OpenSpec := { _root_.Go.OpenSpec.ofChange s with cond := some uptoSmall }

/-- 'hacklelaw01.InsnPuts', WHERE WHAT IT READS IS OF BULK AT MOST 1048576: true; the input reads as it did. -/
def insnPutsUptoRow : OpenClaim := { program := "ytkggikcgaalgiaa", sum := "00528a55238109874ae3582b2927f2ab049af42d880c1bfae2df9735b317c184", func := "hackle/hacklelaw01.InsnPuts", spec := "insnPuts", apart := false, narrowed := true }
def InsnPutsUptoSaid : Prop := insnPutsUptoRow.holds Try.pinned (OpenSpec.upto insnPutsSpec)

/-- 'hacklelaw01.InsnTakes', WHERE WHAT IT READS IS OF BULK AT MOST 1048576: true; the input reads as it did. -/
def insnTakesUptoRow : OpenClaim := { program := "ytkggikcgaalgiaa", sum := "00528a55238109874ae3582b2927f2ab049af42d880c1bfae2df9735b317c184", func := "hackle/hacklelaw01.InsnTakes", spec := "insnTakes", apart := false, narrowed := true }
def InsnTakesUptoSaid : Prop := insnTakesUptoRow.holds Try.pinned (OpenSpec.upto insnTakesSpec)

/-- 'hacklelaw01.InsnBack', WHERE WHAT IT READS IS OF BULK AT MOST 1048576: true; the input reads as it did. -/
def insnBackUptoRow : OpenClaim := { program := "ytkggikcgaalgiaa", sum := "00528a55238109874ae3582b2927f2ab049af42d880c1bfae2df9735b317c184", func := "hackle/hacklelaw01.InsnBack", spec := "insnBack", apart := false, narrowed := true }
def InsnBackUptoSaid : Prop := insnBackUptoRow.holds Try.pinned (OpenSpec.upto insnBackSpec)

/-- 'hacklelaw01.InsnLong', WHERE WHAT IT READS IS OF BULK AT MOST 1048576: true; the input reads as it did. -/
def insnLongUptoRow : OpenClaim := { program := "ytkggikcgaalgiaa", sum := "00528a55238109874ae3582b2927f2ab049af42d880c1bfae2df9735b317c184", func := "hackle/hacklelaw01.InsnLong", spec := "insnLong", apart := false, narrowed := true }
def InsnLongUptoSaid : Prop := insnLongUptoRow.holds Try.pinned (OpenSpec.upto insnLongSpec)

/-- 'hacklelaw01.InsnParts', WHERE WHAT IT READS IS OF BULK AT MOST 1048576: true; the input reads as it did. -/
def insnPartsUptoRow : OpenClaim := { program := "ytkggikcgaalgiaa", sum := "00528a55238109874ae3582b2927f2ab049af42d880c1bfae2df9735b317c184", func := "hackle/hacklelaw01.InsnParts", spec := "insnParts", apart := false, narrowed := true }
def InsnPartsUptoSaid : Prop := insnPartsUptoRow.holds Try.pinned (OpenSpec.upto insnPartsSpec)

end Rows
end Go.Proofs.Ytkggikcgaalgiaa
