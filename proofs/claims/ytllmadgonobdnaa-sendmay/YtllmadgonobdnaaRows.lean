/-
  No cell of these rows narrows 'for every input' (looked for: loops, veiled, ifaces, maps, wideKeys, modest, calm, conditions, laid).
  DERIVED. THE GIVEN ROWS OF THIS SEAT. 4 by the template 'for every input the law returns true; each argument reads behind the call as it read before'; 0 by the template 'total and deterministic' (their statements: YtllmadgonobdnaaTotals.lean).
  GIVEN WITH THE SEED: the statements are not yours to turn. If you find one false, say at which input.
  Laid BY PROGRAM, IN A SANDBOX (cutbox-rows.mjs): the forced cells as the released guide's own fill.sh prints them over the translation 7e7eec2133ffaaa3… (all of the seat's roots in one cut). By AI agents, Wed Nov 11 2026. No macro, syntax, notation, axiom, sorry.
-/
import Derived.Test.YtllmadgonobdnaaChecked
import GoSem.Claim
import GoSem.ClaimJoined
import GoSem.ClaimMapViews
import Derived.JoinedTies
import Derived.KernelRfl
namespace Go.Proofs.Ytllmadgonobdnaa
/- THE CELL 'sum', in the pinned program and in every row, IS THE sha256 OF THE DUMP (.gsa) THAT YtllmadgonobdnaaProg.lean LOADS. Nothing in Lean hashes anything: it is a label: what it is worth is what the hold of that sum in a sandbox is worth. -/
noncomputable def Try.pinned : Pinned := { name := "ytllmadgonobdnaa", sum := "7e7eec2133ffaaa33201d18170941012d1d6571909e8dcbc6455eaa314ad997d", checked := Try.checked }
namespace Rows
def none {H : Type} : Left H := { results := [], args := [] }

/-- 'pontagelaw15.SendSteps': WHATEVER THE INPUT: true; the input reads as it did. -/
def sendStepsSpec : ChangeSpec := { name := "sendSteps", fn := fun _ => fun
  | [d1, d2] => { results := [.lit (.bool true)], args := [d1, d2] }
  | _ => none }
def sendStepsRow : OpenClaim := { program := "ytllmadgonobdnaa", sum := "7e7eec2133ffaaa33201d18170941012d1d6571909e8dcbc6455eaa314ad997d", func := "pontage/pontagelaw15.SendSteps", spec := "sendSteps", unfollowed := true, recurses := true, apart := false }
def SendStepsSaid : Prop := sendStepsRow.holds Try.pinned (OpenSpec.ofChange sendStepsSpec)

/-- ITS FALSE NEIGHBOUR: 'it returns false'. Refute it at one input. -/
def sendStepsWrong : ChangeSpec := { name := "sendSteps", fn := fun _ => fun
  | [d1, d2] => { results := [.lit (.bool false)], args := [d1, d2] }
  | _ => none }
def SendStepsWrongFalsely : Prop := sendStepsRow.holds Try.pinned (OpenSpec.ofChange sendStepsWrong)

/-- 'pontagelaw15.SendMay': WHATEVER THE INPUT: true; the input reads as it did. -/
def sendMaySpec : ChangeSpec := { name := "sendMay", fn := fun _ => fun
  | [d1, d2] => { results := [.lit (.bool true)], args := [d1, d2] }
  | _ => none }
def sendMayRow : OpenClaim := { program := "ytllmadgonobdnaa", sum := "7e7eec2133ffaaa33201d18170941012d1d6571909e8dcbc6455eaa314ad997d", func := "pontage/pontagelaw15.SendMay", spec := "sendMay", unfollowed := true, recurses := true, apart := false }
def SendMaySaid : Prop := sendMayRow.holds Try.pinned (OpenSpec.ofChange sendMaySpec)

/-- ITS FALSE NEIGHBOUR: 'it returns false'. Refute it at one input. -/
def sendMayWrong : ChangeSpec := { name := "sendMay", fn := fun _ => fun
  | [d1, d2] => { results := [.lit (.bool false)], args := [d1, d2] }
  | _ => none }
def SendMayWrongFalsely : Prop := sendMayRow.holds Try.pinned (OpenSpec.ofChange sendMayWrong)

/-- 'pontagelaw15.SendHeld': WHATEVER THE INPUT: true; the input reads as it did. -/
def sendHeldSpec : ChangeSpec := { name := "sendHeld", fn := fun _ => fun
  | [d1, d2, d3] => { results := [.lit (.bool true)], args := [d1, d2, d3] }
  | _ => none }
def sendHeldRow : OpenClaim := { program := "ytllmadgonobdnaa", sum := "7e7eec2133ffaaa33201d18170941012d1d6571909e8dcbc6455eaa314ad997d", func := "pontage/pontagelaw15.SendHeld", spec := "sendHeld", unfollowed := true, recurses := true, apart := false }
def SendHeldSaid : Prop := sendHeldRow.holds Try.pinned (OpenSpec.ofChange sendHeldSpec)

/-- ITS FALSE NEIGHBOUR: 'it returns false'. Refute it at one input. -/
def sendHeldWrong : ChangeSpec := { name := "sendHeld", fn := fun _ => fun
  | [d1, d2, d3] => { results := [.lit (.bool false)], args := [d1, d2, d3] }
  | _ => none }
def SendHeldWrongFalsely : Prop := sendHeldRow.holds Try.pinned (OpenSpec.ofChange sendHeldWrong)

/-- 'pontagelaw15.SendFalls': WHATEVER THE INPUT: true; the input reads as it did. -/
def sendFallsSpec : ChangeSpec := { name := "sendFalls", fn := fun _ => fun
  | [d1, d2] => { results := [.lit (.bool true)], args := [d1, d2] }
  | _ => none }
def sendFallsRow : OpenClaim := { program := "ytllmadgonobdnaa", sum := "7e7eec2133ffaaa33201d18170941012d1d6571909e8dcbc6455eaa314ad997d", func := "pontage/pontagelaw15.SendFalls", spec := "sendFalls", unfollowed := true, recurses := true, apart := false }
def SendFallsSaid : Prop := sendFallsRow.holds Try.pinned (OpenSpec.ofChange sendFallsSpec)

/-- ITS FALSE NEIGHBOUR: 'it returns false'. Refute it at one input. -/
def sendFallsWrong : ChangeSpec := { name := "sendFalls", fn := fun _ => fun
  | [d1, d2] => { results := [.lit (.bool false)], args := [d1, d2] }
  | _ => none }
def SendFallsWrongFalsely : Prop := sendFallsRow.holds Try.pinned (OpenSpec.ofChange sendFallsWrong)

/- THE SECOND FORM. 'bulk': how many values and letters a reading holds, each counted each time it is reached (what is shared counts as often as it is met; a slice's spare places count too). A statement '..UptoSaid' is the law's where the arguments, and the package variables that the reading takes, are together of bulk at most 1048576: NARROWER than '..Said'. Prove '..Said' where nothing that the law and all that it calls make is longer than what came in: it says more and counts as full. Else prove '..UptoSaid'. A law counts once. -/
mutual
def uptoBulk {H : Type} : DataW H → Nat
  | .lit (.string bytes) => bytes.length + 1
  | .lit _ => 1
  | .nil => 1
  | .ptr d => uptoBulk d + 1
  | .slice elems spare => uptoBulkAll elems + uptoBulkAll spare + 1
  | .agg parts => uptoBulkAll parts + 1
  | .iface _ d => uptoBulk d + 1
  | .map entries => uptoBulkEntries entries + 1
  | .held _ => 1
def uptoBulkAll {H : Type} : List (DataW H) → Nat
  | [] => 0
  | d :: r => uptoBulk d + uptoBulkAll r
def uptoBulkEntries {H : Type} : List (Lit × DataW H) → Nat
  | [] => 0
  | x :: r => uptoBulkEntry x + uptoBulkEntries r
def uptoBulkEntry {H : Type} : Lit × DataW H → Nat
  | (.string bytes, d) => bytes.length + uptoBulk d + 1
  | (_, d) => uptoBulk d + 1
 end
def uptoSmall : (H : Type) → List (DataW H) → Bool := fun _ ds => decide (uptoBulkAll ds ≤ 1048576)
def OpenSpec.upto (s : _root_.Go.ChangeSpec) : _root_.Go.OpenSpec := { _root_.Go.OpenSpec.ofChange s with cond := some uptoSmall }

/-- 'pontagelaw15.SendSteps', WHERE WHAT IT READS IS OF BULK AT MOST 1048576: true; the input reads as it did. -/
def sendStepsUptoRow : OpenClaim := { program := "ytllmadgonobdnaa", sum := "7e7eec2133ffaaa33201d18170941012d1d6571909e8dcbc6455eaa314ad997d", func := "pontage/pontagelaw15.SendSteps", spec := "sendSteps", unfollowed := true, recurses := true, apart := false, narrowed := true }
def SendStepsUptoSaid : Prop := sendStepsUptoRow.holds Try.pinned (OpenSpec.upto sendStepsSpec)

/-- 'pontagelaw15.SendMay', WHERE WHAT IT READS IS OF BULK AT MOST 1048576: true; the input reads as it did. -/
def sendMayUptoRow : OpenClaim := { program := "ytllmadgonobdnaa", sum := "7e7eec2133ffaaa33201d18170941012d1d6571909e8dcbc6455eaa314ad997d", func := "pontage/pontagelaw15.SendMay", spec := "sendMay", unfollowed := true, recurses := true, apart := false, narrowed := true }
def SendMayUptoSaid : Prop := sendMayUptoRow.holds Try.pinned (OpenSpec.upto sendMaySpec)

/-- 'pontagelaw15.SendHeld', WHERE WHAT IT READS IS OF BULK AT MOST 1048576: true; the input reads as it did. -/
def sendHeldUptoRow : OpenClaim := { program := "ytllmadgonobdnaa", sum := "7e7eec2133ffaaa33201d18170941012d1d6571909e8dcbc6455eaa314ad997d", func := "pontage/pontagelaw15.SendHeld", spec := "sendHeld", unfollowed := true, recurses := true, apart := false, narrowed := true }
def SendHeldUptoSaid : Prop := sendHeldUptoRow.holds Try.pinned (OpenSpec.upto sendHeldSpec)

/-- 'pontagelaw15.SendFalls', WHERE WHAT IT READS IS OF BULK AT MOST 1048576: true; the input reads as it did. -/
def sendFallsUptoRow : OpenClaim := { program := "ytllmadgonobdnaa", sum := "7e7eec2133ffaaa33201d18170941012d1d6571909e8dcbc6455eaa314ad997d", func := "pontage/pontagelaw15.SendFalls", spec := "sendFalls", unfollowed := true, recurses := true, apart := false, narrowed := true }
def SendFallsUptoSaid : Prop := sendFallsUptoRow.holds Try.pinned (OpenSpec.upto sendFallsSpec)

end Rows
end Go.Proofs.Ytllmadgonobdnaa
