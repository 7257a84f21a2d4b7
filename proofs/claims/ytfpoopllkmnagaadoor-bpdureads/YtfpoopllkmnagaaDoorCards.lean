/-
  DERIVED. GIVEN WITH THE SEED: THE CARDS: each row of YtfpoopllkmnagaaDoorRows.lean that lists a variable, with what it lists TIED to the program's text (the seventh form; the later family's looks); each row that meets fmt, with fmt's text TOLD by the authors' own Lean function (tested against real Go, not proved from fmt's source: count such statements apart). THE CARD IS WHAT COUNTS. Prove the row's statement (the work); the ties are given (YtfpoopllkmnagaaDoorTie.lean); close each card by the builder's one call (the guide's Derived/Test/ToyasCard.lean, 'card_holds'). Laid BY PROGRAM, IN A SANDBOX (cutbox-door.mjs). By AI agents, Wed Nov 11 2026. No macro, syntax, notation, axiom, sorry.
-/
import Derived.Test.YtfpoopllkmnagaaDoorRows
import GoSem.ClaimSeven
namespace Go.Proofs.YtfpoopllkmnagaaDoor
namespace Rows

/-- THE TIED CARD OF 'pontagelaw05.BpduBytes'. -/
def bpduBytesCard : Claim7 := { stood := { row := bpduBytesRow, standIns := [], harness := (true, "80956059b287855ac09605dab9211d2da28a48d83242653d0d0ed5ee06135fde"), looks := false }, kinds := [], alts := [], laidByText := true, laidKinds := [.data], laidTests := true, laidLooks := .later }
def BpduBytesCardSaid : Prop := Claim7.holds Tryd.pinned (.plain (OpenSpec.ofChange bpduBytesSpec)) bpduBytesCard

/-- THE TIED CARD OF 'pontagelaw05.BpduReads'. -/
def bpduReadsCard : Claim7 := { stood := { row := bpduReadsRow, standIns := [], harness := (true, "80956059b287855ac09605dab9211d2da28a48d83242653d0d0ed5ee06135fde"), looks := false }, kinds := [], alts := [], laidByText := true, laidKinds := [.data], laidTests := true, laidLooks := .later }
def BpduReadsCardSaid : Prop := Claim7.holds Tryd.pinned (.plain (OpenSpec.ofChange bpduReadsSpec)) bpduReadsCard

/-- THE TIED CARD OF 'pontagelaw05.BpduFrames'. -/
def bpduFramesCard : Claim7 := { stood := { row := bpduFramesRow, standIns := [], harness := (true, "80956059b287855ac09605dab9211d2da28a48d83242653d0d0ed5ee06135fde"), looks := false }, kinds := [], alts := [], laidByText := true, laidKinds := [.data], laidTests := true, laidLooks := .later }
def BpduFramesCardSaid : Prop := Claim7.holds Tryd.pinned (.plain (OpenSpec.ofChange bpduFramesSpec)) bpduFramesCard

/-- THE TIED CARD OF 'pontagelaw05.BpduBack'. -/
def bpduBackCard : Claim7 := { stood := { row := bpduBackRow, standIns := [], harness := (true, "80956059b287855ac09605dab9211d2da28a48d83242653d0d0ed5ee06135fde"), looks := false }, kinds := [], alts := [], laidByText := true, laidKinds := [.data], laidTests := true, laidLooks := .later }
def BpduBackCardSaid : Prop := Claim7.holds Tryd.pinned (.plain (OpenSpec.ofChange bpduBackSpec)) bpduBackCard

/-- THE SECOND FORM's CARD OF 'pontagelaw05.BpduBytes'. -/
def bpduBytesUptoCard : Claim7 := { stood := { row := bpduBytesUptoRow, standIns := [], harness := (true, "80956059b287855ac09605dab9211d2da28a48d83242653d0d0ed5ee06135fde"), looks := false }, kinds := [], alts := [], laidByText := true, laidKinds := [.data], laidTests := true, laidLooks := .later }
def BpduBytesUptoCardSaid : Prop := Claim7.holds Tryd.pinned (.plain (OpenSpec.upto bpduBytesSpec)) bpduBytesUptoCard

/-- THE SECOND FORM's CARD OF 'pontagelaw05.BpduReads'. -/
def bpduReadsUptoCard : Claim7 := { stood := { row := bpduReadsUptoRow, standIns := [], harness := (true, "80956059b287855ac09605dab9211d2da28a48d83242653d0d0ed5ee06135fde"), looks := false }, kinds := [], alts := [], laidByText := true, laidKinds := [.data], laidTests := true, laidLooks := .later }
def BpduReadsUptoCardSaid : Prop := Claim7.holds Tryd.pinned (.plain (OpenSpec.upto bpduReadsSpec)) bpduReadsUptoCard

/-- THE SECOND FORM's CARD OF 'pontagelaw05.BpduFrames'. -/
def bpduFramesUptoCard : Claim7 := { stood := { row := bpduFramesUptoRow, standIns := [], harness := (true, "80956059b287855ac09605dab9211d2da28a48d83242653d0d0ed5ee06135fde"), looks := false }, kinds := [], alts := [], laidByText := true, laidKinds := [.data], laidTests := true, laidLooks := .later }
def BpduFramesUptoCardSaid : Prop := Claim7.holds Tryd.pinned (.plain (OpenSpec.upto bpduFramesSpec)) bpduFramesUptoCard

/-- THE SECOND FORM's CARD OF 'pontagelaw05.BpduBack'. -/
def bpduBackUptoCard : Claim7 := { stood := { row := bpduBackUptoRow, standIns := [], harness := (true, "80956059b287855ac09605dab9211d2da28a48d83242653d0d0ed5ee06135fde"), looks := false }, kinds := [], alts := [], laidByText := true, laidKinds := [.data], laidTests := true, laidLooks := .later }
def BpduBackUptoCardSaid : Prop := Claim7.holds Tryd.pinned (.plain (OpenSpec.upto bpduBackSpec)) bpduBackUptoCard
end Rows
end Go.Proofs.YtfpoopllkmnagaaDoor
