/-
  No cell of these rows narrows 'for every input' (looked for: loops, veiled, ifaces, maps, wideKeys, modest, calm, conditions, laid).
  DERIVED. THE GIVEN ROWS OF THIS SEAT. 6 by the template 'for every input the law returns true; each argument reads behind the call as it read before'; 0 by the template 'total and deterministic' (their statements: YteljcgdenagcmaaTotals.lean).
  GIVEN WITH THE SEED: the statements are not yours to turn. If you find one false, say at which input.
  Laid BY PROGRAM, IN A SANDBOX (cutbox-rows.mjs): the forced cells as the released guide's own fill.sh prints them over the translation 3f87afcc6f0b4943… (all of the seat's roots in one cut). By AI agents, Wed Nov 11 2026. No macro, syntax, notation, axiom, sorry.
-/
import Derived.Test.YteljcgdenagcmaaChecked
import GoSem.Claim
import GoSem.ClaimJoined
import GoSem.ClaimMapViews
import Derived.JoinedTies
import Derived.KernelRfl
namespace Go.Proofs.Yteljcgdenagcmaa
/- THE CELL 'sum', in the pinned program and in every row, IS THE sha256 OF THE DUMP (.gsa) THAT YteljcgdenagcmaaProg.lean LOADS. Nothing in Lean hashes anything: it is a label: what it is worth is what the hold of that sum in a sandbox is worth. -/
noncomputable def Try.pinned : Pinned := { name := "yteljcgdenagcmaa", sum := "3f87afcc6f0b4943549f49422dc393db2d742549a70675a233d4771384851865", checked := Try.checked }
namespace Rows
def none {H : Type} : Left H := { results := [], args := [] }

/-- 'pontagelaw04.PbbEncodes': WHATEVER THE INPUT: true; the input reads as it did. -/
def pbbEncodesSpec : ChangeSpec := { name := "pbbEncodes", fn := fun _ => fun
  | [d] => { results := [.lit (.bool true)], args := [d] }
  | _ => none }
def pbbEncodesRow : OpenClaim := { program := "yteljcgdenagcmaa", sum := "3f87afcc6f0b4943549f49422dc393db2d742549a70675a233d4771384851865", func := "pontage/pontagelaw04.PbbEncodes", spec := "pbbEncodes", unfollowed := true, recurses := true, apart := false }
def PbbEncodesSaid : Prop := pbbEncodesRow.holds Try.pinned (OpenSpec.ofChange pbbEncodesSpec)

/-- ITS FALSE NEIGHBOUR: 'it returns false'. Refute it at one input. -/
def pbbEncodesWrong : ChangeSpec := { name := "pbbEncodes", fn := fun _ => fun
  | [d] => { results := [.lit (.bool false)], args := [d] }
  | _ => none }
def PbbEncodesWrongFalsely : Prop := pbbEncodesRow.holds Try.pinned (OpenSpec.ofChange pbbEncodesWrong)

/-- 'pontagelaw04.PbbDecodes': WHATEVER THE INPUT: true; the input reads as it did. -/
def pbbDecodesSpec : ChangeSpec := { name := "pbbDecodes", fn := fun _ => fun
  | [d] => { results := [.lit (.bool true)], args := [d] }
  | _ => none }
def pbbDecodesRow : OpenClaim := { program := "yteljcgdenagcmaa", sum := "3f87afcc6f0b4943549f49422dc393db2d742549a70675a233d4771384851865", func := "pontage/pontagelaw04.PbbDecodes", spec := "pbbDecodes", unfollowed := true, recurses := true, apart := false }
def PbbDecodesSaid : Prop := pbbDecodesRow.holds Try.pinned (OpenSpec.ofChange pbbDecodesSpec)

/-- ITS FALSE NEIGHBOUR: 'it returns false'. Refute it at one input. -/
def pbbDecodesWrong : ChangeSpec := { name := "pbbDecodes", fn := fun _ => fun
  | [d] => { results := [.lit (.bool false)], args := [d] }
  | _ => none }
def PbbDecodesWrongFalsely : Prop := pbbDecodesRow.holds Try.pinned (OpenSpec.ofChange pbbDecodesWrong)

/-- 'pontagelaw04.PbbHides': WHATEVER THE INPUT: true; the input reads as it did. -/
def pbbHidesSpec : ChangeSpec := { name := "pbbHides", fn := fun _ => fun
  | [d1, d2, d3, d4, d5, d6, d7] => { results := [.lit (.bool true)], args := [d1, d2, d3, d4, d5, d6, d7] }
  | _ => none }
def pbbHidesRow : OpenClaim := { program := "yteljcgdenagcmaa", sum := "3f87afcc6f0b4943549f49422dc393db2d742549a70675a233d4771384851865", func := "pontage/pontagelaw04.PbbHides", spec := "pbbHides", unfollowed := true, recurses := true, apart := false }
def PbbHidesSaid : Prop := pbbHidesRow.holds Try.pinned (OpenSpec.ofChange pbbHidesSpec)

/-- ITS FALSE NEIGHBOUR: 'it returns false'. Refute it at one input. -/
def pbbHidesWrong : ChangeSpec := { name := "pbbHides", fn := fun _ => fun
  | [d1, d2, d3, d4, d5, d6, d7] => { results := [.lit (.bool false)], args := [d1, d2, d3, d4, d5, d6, d7] }
  | _ => none }
def PbbHidesWrongFalsely : Prop := pbbHidesRow.holds Try.pinned (OpenSpec.ofChange pbbHidesWrong)

/-- 'pontagelaw04.PbbBack': WHATEVER THE INPUT: true; the input reads as it did. -/
def pbbBackSpec : ChangeSpec := { name := "pbbBack", fn := fun _ => fun
  | [d1, d2] => { results := [.lit (.bool true)], args := [d1, d2] }
  | _ => none }
def pbbBackRow : OpenClaim := { program := "yteljcgdenagcmaa", sum := "3f87afcc6f0b4943549f49422dc393db2d742549a70675a233d4771384851865", func := "pontage/pontagelaw04.PbbBack", spec := "pbbBack", unfollowed := true, recurses := true, apart := false }
def PbbBackSaid : Prop := pbbBackRow.holds Try.pinned (OpenSpec.ofChange pbbBackSpec)

/-- ITS FALSE NEIGHBOUR: 'it returns false'. Refute it at one input. -/
def pbbBackWrong : ChangeSpec := { name := "pbbBack", fn := fun _ => fun
  | [d1, d2] => { results := [.lit (.bool false)], args := [d1, d2] }
  | _ => none }
def PbbBackWrongFalsely : Prop := pbbBackRow.holds Try.pinned (OpenSpec.ofChange pbbBackWrong)

/-- 'pontagelaw04.PbbThrough': WHATEVER THE INPUT: true; the input reads as it did. -/
def pbbThroughSpec : ChangeSpec := { name := "pbbThrough", fn := fun _ => fun
  | [d1, d2, d3, d4, d5, d6] => { results := [.lit (.bool true)], args := [d1, d2, d3, d4, d5, d6] }
  | _ => none }
def pbbThroughRow : OpenClaim := { program := "yteljcgdenagcmaa", sum := "3f87afcc6f0b4943549f49422dc393db2d742549a70675a233d4771384851865", func := "pontage/pontagelaw04.PbbThrough", spec := "pbbThrough", unfollowed := true, recurses := true, apart := false }
def PbbThroughSaid : Prop := pbbThroughRow.holds Try.pinned (OpenSpec.ofChange pbbThroughSpec)

/-- ITS FALSE NEIGHBOUR: 'it returns false'. Refute it at one input. -/
def pbbThroughWrong : ChangeSpec := { name := "pbbThrough", fn := fun _ => fun
  | [d1, d2, d3, d4, d5, d6] => { results := [.lit (.bool false)], args := [d1, d2, d3, d4, d5, d6] }
  | _ => none }
def PbbThroughWrongFalsely : Prop := pbbThroughRow.holds Try.pinned (OpenSpec.ofChange pbbThroughWrong)

/-- 'pontagelaw04.PbbOwn': WHATEVER THE INPUT: true; the input reads as it did. -/
def pbbOwnSpec : ChangeSpec := { name := "pbbOwn", fn := fun _ => fun
  | [d1, d2, d3] => { results := [.lit (.bool true)], args := [d1, d2, d3] }
  | _ => none }
def pbbOwnRow : OpenClaim := { program := "yteljcgdenagcmaa", sum := "3f87afcc6f0b4943549f49422dc393db2d742549a70675a233d4771384851865", func := "pontage/pontagelaw04.PbbOwn", spec := "pbbOwn", unfollowed := true, recurses := true, apart := false }
def PbbOwnSaid : Prop := pbbOwnRow.holds Try.pinned (OpenSpec.ofChange pbbOwnSpec)

/-- ITS FALSE NEIGHBOUR: 'it returns false'. Refute it at one input. -/
def pbbOwnWrong : ChangeSpec := { name := "pbbOwn", fn := fun _ => fun
  | [d1, d2, d3] => { results := [.lit (.bool false)], args := [d1, d2, d3] }
  | _ => none }
def PbbOwnWrongFalsely : Prop := pbbOwnRow.holds Try.pinned (OpenSpec.ofChange pbbOwnWrong)

/- THE SECOND FORM. 'bulk': how many values and letters a reading holds, each counted each time it is reached (what is shared counts as often as it is met; a slice's spare places count too). A statement '..UptoSaid' is the law's where the arguments, and the package variables that the reading takes, are together of bulk at most 1048576: NARROWER than '..Said'. Prove '..Said' where nothing that the law and all that it calls make is longer than what came in: it says more and counts as full. Else prove '..UptoSaid'. A law counts once. -/
mutual
def uptoBulk {H : Type} : DataW H → Nat
  | .lit (.string bytes) => bytes.length + 1
  | .lit _ => 1
  | .nil => 1
  | .ptr d => uptoBulk d + 1
  | .slice elems spare => uptoBulkAll elems + uptoBulkAll spare + 1
  | .agg parts => uptoBulkAll parts + 1
  | .iface _ d => uptoBulk d + 1
  | .map entries => uptoBulkEntries entries + 1
  | .held _ => 1
def uptoBulkAll {H : Type} : List (DataW H) → Nat
  | [] => 0
  | d :: r => uptoBulk d + uptoBulkAll r
def uptoBulkEntries {H : Type} : List (Lit × DataW H) → Nat
  | [] => 0
  | x :: r => uptoBulkEntry x + uptoBulkEntries r
def uptoBulkEntry {H : Type} : Lit × DataW H → Nat
  | (.string bytes, d) => bytes.length + uptoBulk d + 1
  | (_, d) => uptoBulk d + 1
 end
def uptoSmall : (H : Type) → List (DataW H) → Bool := fun _ ds => decide (uptoBulkAll ds ≤ 1048576)
def OpenSpec.upto (s : _root_.Go.ChangeSpec) : _root_.Go.OpenSpec := { _root_.Go.OpenSpec.ofChange s with cond := some uptoSmall }

/-- 'pontagelaw04.PbbEncodes', WHERE WHAT IT READS IS OF BULK AT MOST 1048576: true; the input reads as it did. -/
def pbbEncodesUptoRow : OpenClaim := { program := "yteljcgdenagcmaa", sum := "3f87afcc6f0b4943549f49422dc393db2d742549a70675a233d4771384851865", func := "pontage/pontagelaw04.PbbEncodes", spec := "pbbEncodes", unfollowed := true, recurses := true, apart := false, narrowed := true }
def PbbEncodesUptoSaid : Prop := pbbEncodesUptoRow.holds Try.pinned (OpenSpec.upto pbbEncodesSpec)

/-- 'pontagelaw04.PbbDecodes', WHERE WHAT IT READS IS OF BULK AT MOST 1048576: true; the input reads as it did. -/
def pbbDecodesUptoRow : OpenClaim := { program := "yteljcgdenagcmaa", sum := "3f87afcc6f0b4943549f49422dc393db2d742549a70675a233d4771384851865", func := "pontage/pontagelaw04.PbbDecodes", spec := "pbbDecodes", unfollowed := true, recurses := true, apart := false, narrowed := true }
def PbbDecodesUptoSaid : Prop := pbbDecodesUptoRow.holds Try.pinned (OpenSpec.upto pbbDecodesSpec)

/-- 'pontagelaw04.PbbHides', WHERE WHAT IT READS IS OF BULK AT MOST 1048576: true; the input reads as it did. -/
def pbbHidesUptoRow : OpenClaim := { program := "yteljcgdenagcmaa", sum := "3f87afcc6f0b4943549f49422dc393db2d742549a70675a233d4771384851865", func := "pontage/pontagelaw04.PbbHides", spec := "pbbHides", unfollowed := true, recurses := true, apart := false, narrowed := true }
def PbbHidesUptoSaid : Prop := pbbHidesUptoRow.holds Try.pinned (OpenSpec.upto pbbHidesSpec)

/-- 'pontagelaw04.PbbBack', WHERE WHAT IT READS IS OF BULK AT MOST 1048576: true; the input reads as it did. -/
def pbbBackUptoRow : OpenClaim := { program := "yteljcgdenagcmaa", sum := "3f87afcc6f0b4943549f49422dc393db2d742549a70675a233d4771384851865", func := "pontage/pontagelaw04.PbbBack", spec := "pbbBack", unfollowed := true, recurses := true, apart := false, narrowed := true }
def PbbBackUptoSaid : Prop := pbbBackUptoRow.holds Try.pinned (OpenSpec.upto pbbBackSpec)

/-- 'pontagelaw04.PbbThrough', WHERE WHAT IT READS IS OF BULK AT MOST 1048576: true; the input reads as it did. -/
def pbbThroughUptoRow : OpenClaim := { program := "yteljcgdenagcmaa", sum := "3f87afcc6f0b4943549f49422dc393db2d742549a70675a233d4771384851865", func := "pontage/pontagelaw04.PbbThrough", spec := "pbbThrough", unfollowed := true, recurses := true, apart := false, narrowed := true }
def PbbThroughUptoSaid : Prop := pbbThroughUptoRow.holds Try.pinned (OpenSpec.upto pbbThroughSpec)

/-- 'pontagelaw04.PbbOwn', WHERE WHAT IT READS IS OF BULK AT MOST 1048576: true; the input reads as it did. -/
def pbbOwnUptoRow : OpenClaim := { program := "yteljcgdenagcmaa", sum := "3f87afcc6f0b4943549f49422dc393db2d742549a70675a233d4771384851865", func := "pontage/pontagelaw04.PbbOwn", spec := "pbbOwn", unfollowed := true, recurses := true, apart := false, narrowed := true }
def PbbOwnUptoSaid : Prop := pbbOwnUptoRow.holds Try.pinned (OpenSpec.upto pbbOwnSpec)

end Rows
end Go.Proofs.Yteljcgdenagcmaa
