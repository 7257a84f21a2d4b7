/-
  NARROWER THAN 'FOR EVERY INPUT', by the rows' own cells (each row's printed sentence says how): BpduBytes: laid · BpduReads: laid · BpduFrames: laid · BpduBack: laid.
  DERIVED. THE GIVEN ROWS OF THIS SEAT. 4 by the template 'for every input the law returns true; each argument reads behind the call as it read before'; 0 by the template 'total and deterministic' (their statements: YtfpoopllkmnagaaDoorTotals.lean).
  GIVEN WITH THE SEED: the statements are not yours to turn. If you find one false, say at which input.
  Laid BY PROGRAM, IN A SANDBOX (cutbox-rows.mjs): the forced cells as the released guide's own fill.sh prints them over the translation 968f71ba8b282630… (all of the seat's roots in one cut). By AI agents, Wed Nov 11 2026. No macro, syntax, notation, axiom, sorry.
-/
import Derived.Test.YtfpoopllkmnagaaDoorChecked
import GoSem.Claim
import GoSem.ClaimJoined
import GoSem.ClaimMapViews
import Derived.JoinedTies
import Derived.KernelRfl
namespace Go.Proofs.YtfpoopllkmnagaaDoor
/- THE CELL 'sum', in the pinned program and in every row, IS THE sha256 OF THE DUMP (.gsa) THAT YtfpoopllkmnagaaDoorProg.lean LOADS. Nothing in Lean hashes anything: it is a label: what it is worth is what the hold of that sum in a sandbox is worth. -/
noncomputable def Tryd.pinned : Pinned := { name := "ytfpoopllkmnagaadoor", sum := "968f71ba8b282630e2d57b00709eb0d360f5f2c8c035652c72c4ce379b4999b4", checked := Tryd.checked }
namespace Rows
def none {H : Type} : Left H := { results := [], args := [] }

/- WHAT THE LISTED PACKAGE-LEVEL VARIABLES READ AS WHEN THE CALL BEGINS. Each datum BY PROGRAM (the guide's laid-datum.mjs) off the statement by which the dump's own 'gosem.cut.vars' lays the variable. In a bare row this is a premise. The card (YtfpoopllkmnagaaDoorCards.lean) ties it to the program's text. -/
def laid_pontage_bpdu_roles {H : Type} : DataW H := .agg [.lit (.int .i64 0), .lit (.int .i64 1), .lit (.int .i64 3), .lit (.int .i64 4)]

/-- 'pontagelaw05.BpduBytes': WHATEVER THE INPUT: true; the input reads as it did. -/
def bpduBytesSpec : ChangeSpec := { name := "bpduBytes", fn := fun _ => fun
  | [d] => { results := [.lit (.bool true)], args := [d] }
  | _ => none }
def bpduBytesRow : OpenClaim := { program := "ytfpoopllkmnagaadoor", sum := "968f71ba8b282630e2d57b00709eb0d360f5f2c8c035652c72c4ce379b4999b4", func := "pontage/pontagelaw05.BpduBytes", spec := "bpduBytes", unfollowed := true, recurses := true, named := ["pontage/bpdu.roles"], apart := false, laid := [("pontage/bpdu.roles", laid_pontage_bpdu_roles)] }
def BpduBytesSaid : Prop := bpduBytesRow.holds Tryd.pinned (OpenSpec.ofChange bpduBytesSpec)

/-- ITS FALSE NEIGHBOUR: 'it returns false'. Refute it at one input. -/
def bpduBytesWrong : ChangeSpec := { name := "bpduBytes", fn := fun _ => fun
  | [d] => { results := [.lit (.bool false)], args := [d] }
  | _ => none }
def BpduBytesWrongFalsely : Prop := bpduBytesRow.holds Tryd.pinned (OpenSpec.ofChange bpduBytesWrong)

/-- 'pontagelaw05.BpduReads': WHATEVER THE INPUT: true; the input reads as it did. -/
def bpduReadsSpec : ChangeSpec := { name := "bpduReads", fn := fun _ => fun
  | [d] => { results := [.lit (.bool true)], args := [d] }
  | _ => none }
def bpduReadsRow : OpenClaim := { program := "ytfpoopllkmnagaadoor", sum := "968f71ba8b282630e2d57b00709eb0d360f5f2c8c035652c72c4ce379b4999b4", func := "pontage/pontagelaw05.BpduReads", spec := "bpduReads", unfollowed := true, recurses := true, named := ["pontage/bpdu.roles"], apart := false, laid := [("pontage/bpdu.roles", laid_pontage_bpdu_roles)] }
def BpduReadsSaid : Prop := bpduReadsRow.holds Tryd.pinned (OpenSpec.ofChange bpduReadsSpec)

/-- ITS FALSE NEIGHBOUR: 'it returns false'. Refute it at one input. -/
def bpduReadsWrong : ChangeSpec := { name := "bpduReads", fn := fun _ => fun
  | [d] => { results := [.lit (.bool false)], args := [d] }
  | _ => none }
def BpduReadsWrongFalsely : Prop := bpduReadsRow.holds Tryd.pinned (OpenSpec.ofChange bpduReadsWrong)

/-- 'pontagelaw05.BpduFrames': WHATEVER THE INPUT: true; the input reads as it did. -/
def bpduFramesSpec : ChangeSpec := { name := "bpduFrames", fn := fun _ => fun
  | [d1, d2, d3] => { results := [.lit (.bool true)], args := [d1, d2, d3] }
  | _ => none }
def bpduFramesRow : OpenClaim := { program := "ytfpoopllkmnagaadoor", sum := "968f71ba8b282630e2d57b00709eb0d360f5f2c8c035652c72c4ce379b4999b4", func := "pontage/pontagelaw05.BpduFrames", spec := "bpduFrames", unfollowed := true, recurses := true, named := ["pontage/bpdu.roles"], apart := false, laid := [("pontage/bpdu.roles", laid_pontage_bpdu_roles)] }
def BpduFramesSaid : Prop := bpduFramesRow.holds Tryd.pinned (OpenSpec.ofChange bpduFramesSpec)

/-- ITS FALSE NEIGHBOUR: 'it returns false'. Refute it at one input. -/
def bpduFramesWrong : ChangeSpec := { name := "bpduFrames", fn := fun _ => fun
  | [d1, d2, d3] => { results := [.lit (.bool false)], args := [d1, d2, d3] }
  | _ => none }
def BpduFramesWrongFalsely : Prop := bpduFramesRow.holds Tryd.pinned (OpenSpec.ofChange bpduFramesWrong)

/-- 'pontagelaw05.BpduBack': WHATEVER THE INPUT: true; the input reads as it did. -/
def bpduBackSpec : ChangeSpec := { name := "bpduBack", fn := fun _ => fun
  | [d1, d2, d3] => { results := [.lit (.bool true)], args := [d1, d2, d3] }
  | _ => none }
def bpduBackRow : OpenClaim := { program := "ytfpoopllkmnagaadoor", sum := "968f71ba8b282630e2d57b00709eb0d360f5f2c8c035652c72c4ce379b4999b4", func := "pontage/pontagelaw05.BpduBack", spec := "bpduBack", unfollowed := true, recurses := true, named := ["pontage/bpdu.roles"], apart := false, laid := [("pontage/bpdu.roles", laid_pontage_bpdu_roles)] }
def BpduBackSaid : Prop := bpduBackRow.holds Tryd.pinned (OpenSpec.ofChange bpduBackSpec)

/-- ITS FALSE NEIGHBOUR: 'it returns false'. Refute it at one input. -/
def bpduBackWrong : ChangeSpec := { name := "bpduBack", fn := fun _ => fun
  | [d1, d2, d3] => { results := [.lit (.bool false)], args := [d1, d2, d3] }
  | _ => none }
def BpduBackWrongFalsely : Prop := bpduBackRow.holds Tryd.pinned (OpenSpec.ofChange bpduBackWrong)

/- THE SECOND FORM. 'bulk': how many values and letters a reading holds, each counted each time it is reached (what is shared counts as often as it is met; a slice's spare places count too). A statement '..UptoSaid' is the law's where the arguments, and the package variables that the reading takes, are together of bulk at most 1048576: NARROWER than '..Said'. Prove '..Said' where nothing that the law and all that it calls make is longer than what came in: it says more and counts as full. Else prove '..UptoSaid'. A law counts once. -/
mutual
def uptoBulk {H : Type} : DataW H → Nat
  | .lit (.string bytes) => bytes.length + 1
  | .lit _ => 1
  | .nil => 1
  | .ptr d => uptoBulk d + 1
  | .slice elems spare => uptoBulkAll elems + uptoBulkAll spare + 1
  | .agg parts => uptoBulkAll parts + 1
  | .iface _ d => uptoBulk d + 1
  | .map entries => uptoBulkEntries entries + 1
  | .held _ => 1
def uptoBulkAll {H : Type} : List (DataW H) → Nat
  | [] => 0
  | d :: r => uptoBulk d + uptoBulkAll r
def uptoBulkEntries {H : Type} : List (Lit × DataW H) → Nat
  | [] => 0
  | x :: r => uptoBulkEntry x + uptoBulkEntries r
def uptoBulkEntry {H : Type} : Lit × DataW H → Nat
  | (.string bytes, d) => bytes.length + uptoBulk d + 1
  | (_, d) => uptoBulk d + 1
 end
def uptoSmall : (H : Type) → List (DataW H) → Bool := fun _ ds => decide (uptoBulkAll ds ≤ 1048576)
def OpenSpec.upto (s : _root_.Go.ChangeSpec) : _root_.Go.OpenSpec := { _root_.Go.OpenSpec.ofChange s with cond := some uptoSmall }

/-- 'pontagelaw05.BpduBytes', WHERE WHAT IT READS IS OF BULK AT MOST 1048576: true; the input reads as it did. -/
def bpduBytesUptoRow : OpenClaim := { program := "ytfpoopllkmnagaadoor", sum := "968f71ba8b282630e2d57b00709eb0d360f5f2c8c035652c72c4ce379b4999b4", func := "pontage/pontagelaw05.BpduBytes", spec := "bpduBytes", unfollowed := true, recurses := true, named := ["pontage/bpdu.roles"], apart := false, laid := [("pontage/bpdu.roles", laid_pontage_bpdu_roles)], narrowed := true }
def BpduBytesUptoSaid : Prop := bpduBytesUptoRow.holds Tryd.pinned (OpenSpec.upto bpduBytesSpec)

/-- 'pontagelaw05.BpduReads', WHERE WHAT IT READS IS OF BULK AT MOST 1048576: true; the input reads as it did. -/
def bpduReadsUptoRow : OpenClaim := { program := "ytfpoopllkmnagaadoor", sum := "968f71ba8b282630e2d57b00709eb0d360f5f2c8c035652c72c4ce379b4999b4", func := "pontage/pontagelaw05.BpduReads", spec := "bpduReads", unfollowed := true, recurses := true, named := ["pontage/bpdu.roles"], apart := false, laid := [("pontage/bpdu.roles", laid_pontage_bpdu_roles)], narrowed := true }
def BpduReadsUptoSaid : Prop := bpduReadsUptoRow.holds Tryd.pinned (OpenSpec.upto bpduReadsSpec)

/-- 'pontagelaw05.BpduFrames', WHERE WHAT IT READS IS OF BULK AT MOST 1048576: true; the input reads as it did. -/
def bpduFramesUptoRow : OpenClaim := { program := "ytfpoopllkmnagaadoor", sum := "968f71ba8b282630e2d57b00709eb0d360f5f2c8c035652c72c4ce379b4999b4", func := "pontage/pontagelaw05.BpduFrames", spec := "bpduFrames", unfollowed := true, recurses := true, named := ["pontage/bpdu.roles"], apart := false, laid := [("pontage/bpdu.roles", laid_pontage_bpdu_roles)], narrowed := true }
def BpduFramesUptoSaid : Prop := bpduFramesUptoRow.holds Tryd.pinned (OpenSpec.upto bpduFramesSpec)

/-- 'pontagelaw05.BpduBack', WHERE WHAT IT READS IS OF BULK AT MOST 1048576: true; the input reads as it did. -/
def bpduBackUptoRow : OpenClaim := { program := "ytfpoopllkmnagaadoor", sum := "968f71ba8b282630e2d57b00709eb0d360f5f2c8c035652c72c4ce379b4999b4", func := "pontage/pontagelaw05.BpduBack", spec := "bpduBack", unfollowed := true, recurses := true, named := ["pontage/bpdu.roles"], apart := false, laid := [("pontage/bpdu.roles", laid_pontage_bpdu_roles)], narrowed := true }
def BpduBackUptoSaid : Prop := bpduBackUptoRow.holds Tryd.pinned (OpenSpec.upto bpduBackSpec)

end Rows
end Go.Proofs.YtfpoopllkmnagaaDoor
