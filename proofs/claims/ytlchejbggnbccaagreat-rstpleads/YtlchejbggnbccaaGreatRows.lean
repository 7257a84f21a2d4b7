/-
  No cell of these rows narrows 'for every input' (looked for: loops, veiled, ifaces, maps, wideKeys, modest, calm, conditions, laid).
  DERIVED. THE GIVEN ROWS OF THIS SEAT. 6 by the template 'for every input the law returns true; each argument reads behind the call as it read before'; 0 by the template 'total and deterministic' (their statements: YtlchejbggnbccaaGreatTotals.lean).
  GIVEN WITH THE SEED: the statements are not yours to turn. If you find one false, say at which input.
  Laid BY PROGRAM, IN A SANDBOX (cutbox-rows.mjs): the forced cells as the released guide's own fill.sh prints them over the translation da6f55bac0a89952… (all of the seat's roots in one cut). By AI agents, Wed Nov 11 2026. No macro, syntax, notation, axiom, sorry.
-/
import Derived.Test.YtlchejbggnbccaaGreatChecked
import GoSem.Claim
import GoSem.ClaimJoined
import GoSem.ClaimMapViews
import Derived.JoinedTies
import Derived.KernelRfl
namespace Go.Proofs.YtlchejbggnbccaaGreat
/- THE CELL 'sum', in the pinned program and in every row, IS THE sha256 OF THE DUMP (.gsa) THAT YtlchejbggnbccaaGreatProg.lean LOADS. Nothing in Lean hashes anything: it is a label: what it is worth is what the hold of that sum in a sandbox is worth. -/
noncomputable def Tryz.pinned : Pinned := { name := "ytlchejbggnbccaagreat", sum := "da6f55bac0a89952ec36e1154c4e259379f047b39b0fef01857fca696c63cccc", checked := Tryz.checked }
namespace Rows
def none {H : Type} : Left H := { results := [], args := [] }

/-- 'pontagelaw17.RstpRuns': WHATEVER THE INPUT: true; the input reads as it did. -/
def rstpRunsSpec : ChangeSpec := { name := "rstpRuns", fn := fun _ => fun
  | [d1, d2] => { results := [.lit (.bool true)], args := [d1, d2] }
  | _ => none }
def rstpRunsRow : OpenClaim := { program := "ytlchejbggnbccaagreat", sum := "da6f55bac0a89952ec36e1154c4e259379f047b39b0fef01857fca696c63cccc", func := "pontage/pontagelaw17.RstpRuns", spec := "rstpRuns", unfollowed := true, recurses := true, apart := false }
def RstpRunsSaid : Prop := rstpRunsRow.holds Tryz.pinned (OpenSpec.ofChange rstpRunsSpec)

/-- ITS FALSE NEIGHBOUR: 'it returns false'. Refute it at one input. -/
def rstpRunsWrong : ChangeSpec := { name := "rstpRuns", fn := fun _ => fun
  | [d1, d2] => { results := [.lit (.bool false)], args := [d1, d2] }
  | _ => none }
def RstpRunsWrongFalsely : Prop := rstpRunsRow.holds Tryz.pinned (OpenSpec.ofChange rstpRunsWrong)

/-- 'pontagelaw17.RstpLeads': WHATEVER THE INPUT: true; the input reads as it did. -/
def rstpLeadsSpec : ChangeSpec := { name := "rstpLeads", fn := fun _ => fun
  | [d] => { results := [.lit (.bool true)], args := [d] }
  | _ => none }
def rstpLeadsRow : OpenClaim := { program := "ytlchejbggnbccaagreat", sum := "da6f55bac0a89952ec36e1154c4e259379f047b39b0fef01857fca696c63cccc", func := "pontage/pontagelaw17.RstpLeads", spec := "rstpLeads", unfollowed := true, recurses := true, apart := false }
def RstpLeadsSaid : Prop := rstpLeadsRow.holds Tryz.pinned (OpenSpec.ofChange rstpLeadsSpec)

/-- ITS FALSE NEIGHBOUR: 'it returns false'. Refute it at one input. -/
def rstpLeadsWrong : ChangeSpec := { name := "rstpLeads", fn := fun _ => fun
  | [d] => { results := [.lit (.bool false)], args := [d] }
  | _ => none }
def RstpLeadsWrongFalsely : Prop := rstpLeadsRow.holds Tryz.pinned (OpenSpec.ofChange rstpLeadsWrong)

/-- 'pontagelaw17.RstpRests': WHATEVER THE INPUT: true; the input reads as it did. -/
def rstpRestsSpec : ChangeSpec := { name := "rstpRests", fn := fun _ => fun
  | [d1, d2] => { results := [.lit (.bool true)], args := [d1, d2] }
  | _ => none }
def rstpRestsRow : OpenClaim := { program := "ytlchejbggnbccaagreat", sum := "da6f55bac0a89952ec36e1154c4e259379f047b39b0fef01857fca696c63cccc", func := "pontage/pontagelaw17.RstpRests", spec := "rstpRests", unfollowed := true, recurses := true, apart := false }
def RstpRestsSaid : Prop := rstpRestsRow.holds Tryz.pinned (OpenSpec.ofChange rstpRestsSpec)

/-- ITS FALSE NEIGHBOUR: 'it returns false'. Refute it at one input. -/
def rstpRestsWrong : ChangeSpec := { name := "rstpRests", fn := fun _ => fun
  | [d1, d2] => { results := [.lit (.bool false)], args := [d1, d2] }
  | _ => none }
def RstpRestsWrongFalsely : Prop := rstpRestsRow.holds Tryz.pinned (OpenSpec.ofChange rstpRestsWrong)

/-- 'pontagelaw17.RstpAlone': WHATEVER THE INPUT: true; the input reads as it did. -/
def rstpAloneSpec : ChangeSpec := { name := "rstpAlone", fn := fun _ => fun
  | [d1, d2] => { results := [.lit (.bool true)], args := [d1, d2] }
  | _ => none }
def rstpAloneRow : OpenClaim := { program := "ytlchejbggnbccaagreat", sum := "da6f55bac0a89952ec36e1154c4e259379f047b39b0fef01857fca696c63cccc", func := "pontage/pontagelaw17.RstpAlone", spec := "rstpAlone", unfollowed := true, recurses := true, apart := false }
def RstpAloneSaid : Prop := rstpAloneRow.holds Tryz.pinned (OpenSpec.ofChange rstpAloneSpec)

/-- ITS FALSE NEIGHBOUR: 'it returns false'. Refute it at one input. -/
def rstpAloneWrong : ChangeSpec := { name := "rstpAlone", fn := fun _ => fun
  | [d1, d2] => { results := [.lit (.bool false)], args := [d1, d2] }
  | _ => none }
def RstpAloneWrongFalsely : Prop := rstpAloneRow.holds Tryz.pinned (OpenSpec.ofChange rstpAloneWrong)

/-- 'pontagelaw17.RstpTwo': WHATEVER THE INPUT: true; the input reads as it did. -/
def rstpTwoSpec : ChangeSpec := { name := "rstpTwo", fn := fun _ => fun
  | [d1, d2, d3] => { results := [.lit (.bool true)], args := [d1, d2, d3] }
  | _ => none }
def rstpTwoRow : OpenClaim := { program := "ytlchejbggnbccaagreat", sum := "da6f55bac0a89952ec36e1154c4e259379f047b39b0fef01857fca696c63cccc", func := "pontage/pontagelaw17.RstpTwo", spec := "rstpTwo", unfollowed := true, recurses := true, apart := false }
def RstpTwoSaid : Prop := rstpTwoRow.holds Tryz.pinned (OpenSpec.ofChange rstpTwoSpec)

/-- ITS FALSE NEIGHBOUR: 'it returns false'. Refute it at one input. -/
def rstpTwoWrong : ChangeSpec := { name := "rstpTwo", fn := fun _ => fun
  | [d1, d2, d3] => { results := [.lit (.bool false)], args := [d1, d2, d3] }
  | _ => none }
def RstpTwoWrongFalsely : Prop := rstpTwoRow.holds Tryz.pinned (OpenSpec.ofChange rstpTwoWrong)

/-- 'pontagelaw17.RstpNobody': WHATEVER THE INPUT: true; the input reads as it did. -/
def rstpNobodySpec : ChangeSpec := { name := "rstpNobody", fn := fun _ => fun
  | [d] => { results := [.lit (.bool true)], args := [d] }
  | _ => none }
def rstpNobodyRow : OpenClaim := { program := "ytlchejbggnbccaagreat", sum := "da6f55bac0a89952ec36e1154c4e259379f047b39b0fef01857fca696c63cccc", func := "pontage/pontagelaw17.RstpNobody", spec := "rstpNobody", unfollowed := true, recurses := true, apart := false }
def RstpNobodySaid : Prop := rstpNobodyRow.holds Tryz.pinned (OpenSpec.ofChange rstpNobodySpec)

/-- ITS FALSE NEIGHBOUR: 'it returns false'. Refute it at one input. -/
def rstpNobodyWrong : ChangeSpec := { name := "rstpNobody", fn := fun _ => fun
  | [d] => { results := [.lit (.bool false)], args := [d] }
  | _ => none }
def RstpNobodyWrongFalsely : Prop := rstpNobodyRow.holds Tryz.pinned (OpenSpec.ofChange rstpNobodyWrong)

/- THE SECOND FORM. 'bulk': how many values and letters a reading holds, each counted each time it is reached (what is shared counts as often as it is met; a slice's spare places count too). A statement '..UptoSaid' is the law's where the arguments, and the package variables that the reading takes, are together of bulk at most 1048576: NARROWER than '..Said'. Prove '..Said' where nothing that the law and all that it calls make is longer than what came in: it says more and counts as full. Else prove '..UptoSaid'. A law counts once. -/
mutual
def uptoBulk {H : Type} : DataW H → Nat
  | .lit (.string bytes) => bytes.length + 1
  | .lit _ => 1
  | .nil => 1
  | .ptr d => uptoBulk d + 1
  | .slice elems spare => uptoBulkAll elems + uptoBulkAll spare + 1
  | .agg parts => uptoBulkAll parts + 1
  | .iface _ d => uptoBulk d + 1
  | .map entries => uptoBulkEntries entries + 1
  | .held _ => 1
def uptoBulkAll {H : Type} : List (DataW H) → Nat
  | [] => 0
  | d :: r => uptoBulk d + uptoBulkAll r
def uptoBulkEntries {H : Type} : List (Lit × DataW H) → Nat
  | [] => 0
  | x :: r => uptoBulkEntry x + uptoBulkEntries r
def uptoBulkEntry {H : Type} : Lit × DataW H → Nat
  | (.string bytes, d) => bytes.length + uptoBulk d + 1
  | (_, d) => uptoBulk d + 1
 end
def uptoSmall : (H : Type) → List (DataW H) → Bool := fun _ ds => decide (uptoBulkAll ds ≤ 1048576)
def OpenSpec.upto (s : _root_.Go.ChangeSpec) : _root_.Go.OpenSpec := { _root_.Go.OpenSpec.ofChange s with cond := some uptoSmall }

/-- 'pontagelaw17.RstpRuns', WHERE WHAT IT READS IS OF BULK AT MOST 1048576: true; the input reads as it did. -/
def rstpRunsUptoRow : OpenClaim := { program := "ytlchejbggnbccaagreat", sum := "da6f55bac0a89952ec36e1154c4e259379f047b39b0fef01857fca696c63cccc", func := "pontage/pontagelaw17.RstpRuns", spec := "rstpRuns", unfollowed := true, recurses := true, apart := false, narrowed := true }
def RstpRunsUptoSaid : Prop := rstpRunsUptoRow.holds Tryz.pinned (OpenSpec.upto rstpRunsSpec)

/-- 'pontagelaw17.RstpLeads', WHERE WHAT IT READS IS OF BULK AT MOST 1048576: true; the input reads as it did. -/
def rstpLeadsUptoRow : OpenClaim := { program := "ytlchejbggnbccaagreat", sum := "da6f55bac0a89952ec36e1154c4e259379f047b39b0fef01857fca696c63cccc", func := "pontage/pontagelaw17.RstpLeads", spec := "rstpLeads", unfollowed := true, recurses := true, apart := false, narrowed := true }
def RstpLeadsUptoSaid : Prop := rstpLeadsUptoRow.holds Tryz.pinned (OpenSpec.upto rstpLeadsSpec)

/-- 'pontagelaw17.RstpRests', WHERE WHAT IT READS IS OF BULK AT MOST 1048576: true; the input reads as it did. -/
def rstpRestsUptoRow : OpenClaim := { program := "ytlchejbggnbccaagreat", sum := "da6f55bac0a89952ec36e1154c4e259379f047b39b0fef01857fca696c63cccc", func := "pontage/pontagelaw17.RstpRests", spec := "rstpRests", unfollowed := true, recurses := true, apart := false, narrowed := true }
def RstpRestsUptoSaid : Prop := rstpRestsUptoRow.holds Tryz.pinned (OpenSpec.upto rstpRestsSpec)

/-- 'pontagelaw17.RstpAlone', WHERE WHAT IT READS IS OF BULK AT MOST 1048576: true; the input reads as it did. -/
def rstpAloneUptoRow : OpenClaim := { program := "ytlchejbggnbccaagreat", sum := "da6f55bac0a89952ec36e1154c4e259379f047b39b0fef01857fca696c63cccc", func := "pontage/pontagelaw17.RstpAlone", spec := "rstpAlone", unfollowed := true, recurses := true, apart := false, narrowed := true }
def RstpAloneUptoSaid : Prop := rstpAloneUptoRow.holds Tryz.pinned (OpenSpec.upto rstpAloneSpec)

/-- 'pontagelaw17.RstpTwo', WHERE WHAT IT READS IS OF BULK AT MOST 1048576: true; the input reads as it did. -/
def rstpTwoUptoRow : OpenClaim := { program := "ytlchejbggnbccaagreat", sum := "da6f55bac0a89952ec36e1154c4e259379f047b39b0fef01857fca696c63cccc", func := "pontage/pontagelaw17.RstpTwo", spec := "rstpTwo", unfollowed := true, recurses := true, apart := false, narrowed := true }
def RstpTwoUptoSaid : Prop := rstpTwoUptoRow.holds Tryz.pinned (OpenSpec.upto rstpTwoSpec)

/-- 'pontagelaw17.RstpNobody', WHERE WHAT IT READS IS OF BULK AT MOST 1048576: true; the input reads as it did. -/
def rstpNobodyUptoRow : OpenClaim := { program := "ytlchejbggnbccaagreat", sum := "da6f55bac0a89952ec36e1154c4e259379f047b39b0fef01857fca696c63cccc", func := "pontage/pontagelaw17.RstpNobody", spec := "rstpNobody", unfollowed := true, recurses := true, apart := false, narrowed := true }
def RstpNobodyUptoSaid : Prop := rstpNobodyUptoRow.holds Tryz.pinned (OpenSpec.upto rstpNobodySpec)

end Rows
end Go.Proofs.YtlchejbggnbccaaGreat
