/-
  No cell of these rows narrows 'for every input' (looked for: loops, veiled, ifaces, maps, wideKeys, modest, calm, conditions, laid).
  DERIVED. THE GIVEN ROWS OF THIS SEAT. 5 by the template 'for every input the law returns true; each argument reads behind the call as it read before'; 0 by the template 'total and deterministic' (their statements: YtgjagedngdhdaaaTotals.lean).
  GIVEN WITH THE SEED: the statements are not yours to turn. If you find one false, say at which input.
  Laid BY PROGRAM, IN A SANDBOX (cutbox-rows.mjs): the forced cells as the released guide's own fill.sh prints them over the translation 11cc880d37a9880c… (all of the seat's roots in one cut). By AI agents, Wed Nov 11 2026. No macro, syntax, notation, axiom, sorry.
-/
import Derived.Test.YtgjagedngdhdaaaChecked
import GoSem.Claim
import GoSem.ClaimJoined
import GoSem.ClaimMapViews
import Derived.JoinedTies
import Derived.KernelRfl
namespace Go.Proofs.Ytgjagedngdhdaaa
/- THE CELL 'sum', in the pinned program and in every row, IS THE sha256 OF THE DUMP (.gsa) THAT YtgjagedngdhdaaaProg.lean LOADS. Nothing in Lean hashes anything: it is a label: what it is worth is what the hold of that sum in a sandbox is worth. -/
noncomputable def Try.pinned : Pinned := { name := "ytgjagedngdhdaaa", sum := "11cc880d37a9880c383c622c424348169ba63f233643c6e47c9fa859efda1493", checked := Try.checked }
namespace Rows
def none {H : Type} : Left H := { results := [], args := [] }

/-- 'pontagelaw20.IcompReads': WHATEVER THE INPUT: true; the input reads as it did. -/
def icompReadsSpec : ChangeSpec := { name := "icompReads", fn := fun _ => fun
  | [d1, d2, d3, d4, d5] => { results := [.lit (.bool true)], args := [d1, d2, d3, d4, d5] }
  | _ => none }
def icompReadsRow : OpenClaim := { program := "ytgjagedngdhdaaa", sum := "11cc880d37a9880c383c622c424348169ba63f233643c6e47c9fa859efda1493", func := "pontage/pontagelaw20.IcompReads", spec := "icompReads", unfollowed := true, recurses := true, apart := false }
def IcompReadsSaid : Prop := icompReadsRow.holds Try.pinned (OpenSpec.ofChange icompReadsSpec)

/-- ITS FALSE NEIGHBOUR: 'it returns false'. Refute it at one input. -/
def icompReadsWrong : ChangeSpec := { name := "icompReads", fn := fun _ => fun
  | [d1, d2, d3, d4, d5] => { results := [.lit (.bool false)], args := [d1, d2, d3, d4, d5] }
  | _ => none }
def IcompReadsWrongFalsely : Prop := icompReadsRow.holds Try.pinned (OpenSpec.ofChange icompReadsWrong)

/-- 'pontagelaw20.IcompEncaps': WHATEVER THE INPUT: true; the input reads as it did. -/
def icompEncapsSpec : ChangeSpec := { name := "icompEncaps", fn := fun _ => fun
  | [d1, d2, d3, d4, d5] => { results := [.lit (.bool true)], args := [d1, d2, d3, d4, d5] }
  | _ => none }
def icompEncapsRow : OpenClaim := { program := "ytgjagedngdhdaaa", sum := "11cc880d37a9880c383c622c424348169ba63f233643c6e47c9fa859efda1493", func := "pontage/pontagelaw20.IcompEncaps", spec := "icompEncaps", unfollowed := true, recurses := true, apart := false }
def IcompEncapsSaid : Prop := icompEncapsRow.holds Try.pinned (OpenSpec.ofChange icompEncapsSpec)

/-- ITS FALSE NEIGHBOUR: 'it returns false'. Refute it at one input. -/
def icompEncapsWrong : ChangeSpec := { name := "icompEncaps", fn := fun _ => fun
  | [d1, d2, d3, d4, d5] => { results := [.lit (.bool false)], args := [d1, d2, d3, d4, d5] }
  | _ => none }
def IcompEncapsWrongFalsely : Prop := icompEncapsRow.holds Try.pinned (OpenSpec.ofChange icompEncapsWrong)

/-- 'pontagelaw20.IcompThrough': WHATEVER THE INPUT: true; the input reads as it did. -/
def icompThroughSpec : ChangeSpec := { name := "icompThrough", fn := fun _ => fun
  | [d1, d2, d3, d4, d5, d6, d7] => { results := [.lit (.bool true)], args := [d1, d2, d3, d4, d5, d6, d7] }
  | _ => none }
def icompThroughRow : OpenClaim := { program := "ytgjagedngdhdaaa", sum := "11cc880d37a9880c383c622c424348169ba63f233643c6e47c9fa859efda1493", func := "pontage/pontagelaw20.IcompThrough", spec := "icompThrough", unfollowed := true, recurses := true, apart := false }
def IcompThroughSaid : Prop := icompThroughRow.holds Try.pinned (OpenSpec.ofChange icompThroughSpec)

/-- ITS FALSE NEIGHBOUR: 'it returns false'. Refute it at one input. -/
def icompThroughWrong : ChangeSpec := { name := "icompThrough", fn := fun _ => fun
  | [d1, d2, d3, d4, d5, d6, d7] => { results := [.lit (.bool false)], args := [d1, d2, d3, d4, d5, d6, d7] }
  | _ => none }
def IcompThroughWrongFalsely : Prop := icompThroughRow.holds Try.pinned (OpenSpec.ofChange icompThroughWrong)

/-- 'pontagelaw20.IcompApart': WHATEVER THE INPUT: true; the input reads as it did. -/
def icompApartSpec : ChangeSpec := { name := "icompApart", fn := fun _ => fun
  | [d1, d2, d3, d4, d5] => { results := [.lit (.bool true)], args := [d1, d2, d3, d4, d5] }
  | _ => none }
def icompApartRow : OpenClaim := { program := "ytgjagedngdhdaaa", sum := "11cc880d37a9880c383c622c424348169ba63f233643c6e47c9fa859efda1493", func := "pontage/pontagelaw20.IcompApart", spec := "icompApart", unfollowed := true, recurses := true, apart := false }
def IcompApartSaid : Prop := icompApartRow.holds Try.pinned (OpenSpec.ofChange icompApartSpec)

/-- ITS FALSE NEIGHBOUR: 'it returns false'. Refute it at one input. -/
def icompApartWrong : ChangeSpec := { name := "icompApart", fn := fun _ => fun
  | [d1, d2, d3, d4, d5] => { results := [.lit (.bool false)], args := [d1, d2, d3, d4, d5] }
  | _ => none }
def IcompApartWrongFalsely : Prop := icompApartRow.holds Try.pinned (OpenSpec.ofChange icompApartWrong)

/-- 'pontagelaw20.IcompAll': WHATEVER THE INPUT: true; the input reads as it did. -/
def icompAllSpec : ChangeSpec := { name := "icompAll", fn := fun _ => fun
  | [d1, d2, d3, d4, d5, d6] => { results := [.lit (.bool true)], args := [d1, d2, d3, d4, d5, d6] }
  | _ => none }
def icompAllRow : OpenClaim := { program := "ytgjagedngdhdaaa", sum := "11cc880d37a9880c383c622c424348169ba63f233643c6e47c9fa859efda1493", func := "pontage/pontagelaw20.IcompAll", spec := "icompAll", unfollowed := true, recurses := true, apart := false }
def IcompAllSaid : Prop := icompAllRow.holds Try.pinned (OpenSpec.ofChange icompAllSpec)

/-- ITS FALSE NEIGHBOUR: 'it returns false'. Refute it at one input. -/
def icompAllWrong : ChangeSpec := { name := "icompAll", fn := fun _ => fun
  | [d1, d2, d3, d4, d5, d6] => { results := [.lit (.bool false)], args := [d1, d2, d3, d4, d5, d6] }
  | _ => none }
def IcompAllWrongFalsely : Prop := icompAllRow.holds Try.pinned (OpenSpec.ofChange icompAllWrong)

/- THE SECOND FORM. 'bulk': how many values and letters a reading holds, each counted each time it is reached (what is shared counts as often as it is met; a slice's spare places count too). A statement '..UptoSaid' is the law's where the arguments, and the package variables that the reading takes, are together of bulk at most 1048576: NARROWER than '..Said'. Prove '..Said' where nothing that the law and all that it calls make is longer than what came in: it says more and counts as full. Else prove '..UptoSaid'. A law counts once. -/
mutual
def uptoBulk {H : Type} : DataW H → Nat
  | .lit (.string bytes) => bytes.length + 1
  | .lit _ => 1
  | .nil => 1
  | .ptr d => uptoBulk d + 1
  | .slice elems spare => uptoBulkAll elems + uptoBulkAll spare + 1
  | .agg parts => uptoBulkAll parts + 1
  | .iface _ d => uptoBulk d + 1
  | .map entries => uptoBulkEntries entries + 1
  | .held _ => 1
def uptoBulkAll {H : Type} : List (DataW H) → Nat
  | [] => 0
  | d :: r => uptoBulk d + uptoBulkAll r
def uptoBulkEntries {H : Type} : List (Lit × DataW H) → Nat
  | [] => 0
  | x :: r => uptoBulkEntry x + uptoBulkEntries r
def uptoBulkEntry {H : Type} : Lit × DataW H → Nat
  | (.string bytes, d) => bytes.length + uptoBulk d + 1
  | (_, d) => uptoBulk d + 1
 end
def uptoSmall : (H : Type) → List (DataW H) → Bool := fun _ ds => decide (uptoBulkAll ds ≤ 1048576)
def OpenSpec.upto (s : _root_.Go.ChangeSpec) : _root_.Go.OpenSpec := { _root_.Go.OpenSpec.ofChange s with cond := some uptoSmall }

/-- 'pontagelaw20.IcompReads', WHERE WHAT IT READS IS OF BULK AT MOST 1048576: true; the input reads as it did. -/
def icompReadsUptoRow : OpenClaim := { program := "ytgjagedngdhdaaa", sum := "11cc880d37a9880c383c622c424348169ba63f233643c6e47c9fa859efda1493", func := "pontage/pontagelaw20.IcompReads", spec := "icompReads", unfollowed := true, recurses := true, apart := false, narrowed := true }
def IcompReadsUptoSaid : Prop := icompReadsUptoRow.holds Try.pinned (OpenSpec.upto icompReadsSpec)

/-- 'pontagelaw20.IcompEncaps', WHERE WHAT IT READS IS OF BULK AT MOST 1048576: true; the input reads as it did. -/
def icompEncapsUptoRow : OpenClaim := { program := "ytgjagedngdhdaaa", sum := "11cc880d37a9880c383c622c424348169ba63f233643c6e47c9fa859efda1493", func := "pontage/pontagelaw20.IcompEncaps", spec := "icompEncaps", unfollowed := true, recurses := true, apart := false, narrowed := true }
def IcompEncapsUptoSaid : Prop := icompEncapsUptoRow.holds Try.pinned (OpenSpec.upto icompEncapsSpec)

/-- 'pontagelaw20.IcompThrough', WHERE WHAT IT READS IS OF BULK AT MOST 1048576: true; the input reads as it did. -/
def icompThroughUptoRow : OpenClaim := { program := "ytgjagedngdhdaaa", sum := "11cc880d37a9880c383c622c424348169ba63f233643c6e47c9fa859efda1493", func := "pontage/pontagelaw20.IcompThrough", spec := "icompThrough", unfollowed := true, recurses := true, apart := false, narrowed := true }
def IcompThroughUptoSaid : Prop := icompThroughUptoRow.holds Try.pinned (OpenSpec.upto icompThroughSpec)

/-- 'pontagelaw20.IcompApart', WHERE WHAT IT READS IS OF BULK AT MOST 1048576: true; the input reads as it did. -/
def icompApartUptoRow : OpenClaim := { program := "ytgjagedngdhdaaa", sum := "11cc880d37a9880c383c622c424348169ba63f233643c6e47c9fa859efda1493", func := "pontage/pontagelaw20.IcompApart", spec := "icompApart", unfollowed := true, recurses := true, apart := false, narrowed := true }
def IcompApartUptoSaid : Prop := icompApartUptoRow.holds Try.pinned (OpenSpec.upto icompApartSpec)

/-- 'pontagelaw20.IcompAll', WHERE WHAT IT READS IS OF BULK AT MOST 1048576: true; the input reads as it did. -/
def icompAllUptoRow : OpenClaim := { program := "ytgjagedngdhdaaa", sum := "11cc880d37a9880c383c622c424348169ba63f233643c6e47c9fa859efda1493", func := "pontage/pontagelaw20.IcompAll", spec := "icompAll", unfollowed := true, recurses := true, apart := false, narrowed := true }
def IcompAllUptoSaid : Prop := icompAllUptoRow.holds Try.pinned (OpenSpec.upto icompAllSpec)

end Rows
end Go.Proofs.Ytgjagedngdhdaaa
