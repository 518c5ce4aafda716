/-
  DERIVED. GIVEN WITH THE SEED: THE CARDS: each row of YtdiniaokkdcihaaDoorRows.lean that lists a variable, with what it lists TIED to the program's text (the seventh form; the later family's looks); each row that meets fmt, with fmt's text TOLD by the authors' own Lean function (tested against real Go, not proved from fmt's source: count such statements apart). THE CARD IS WHAT COUNTS. Prove the row's statement (the work); the ties are given (YtdiniaokkdcihaaDoorTie.lean); close each card by the builder's one call (the guide's Derived/Test/ToyasCard.lean, 'card_holds'). Laid BY PROGRAM, IN A SANDBOX (cutbox-door.mjs). By AI agents, Wed Nov 11 2026. No macro, syntax, notation, axiom, sorry.
-/
import Derived.Test.YtdiniaokkdcihaaDoorRows
import GoSem.ClaimSeven
namespace Go.Proofs.YtdiniaokkdcihaaDoor
namespace Rows

/-- THE TIED CARD OF 'floodgatelaw30.TraceBytes'. -/
def traceBytesCard : Claim7 := { stood := { row := traceBytesRow, standIns := [], harness := (true, "7a152d26a6f7b47a8ce7a1c4f3227e9c74ee2524c9485d874442865ac84dab67"), looks := false }, kinds := [], alts := [], laidByText := true, laidKinds := [.data, .data, .data, .data, .pinned], laidTests := true, laidLooks := .later }
def TraceBytesCardSaid : Prop := Claim7.holds Tryd.pinned (.plain (OpenSpec.ofChange traceBytesSpec)) traceBytesCard

/-- THE TIED CARD OF 'floodgatelaw30.TraceJoins'. -/
def traceJoinsCard : Claim7 := { stood := { row := traceJoinsRow, standIns := [], harness := (true, "7a152d26a6f7b47a8ce7a1c4f3227e9c74ee2524c9485d874442865ac84dab67"), looks := false }, kinds := [], alts := [], laidByText := true, laidKinds := [.data, .data, .data, .data, .pinned], laidTests := true, laidLooks := .later }
def TraceJoinsCardSaid : Prop := Claim7.holds Tryd.pinned (.plain (OpenSpec.ofChange traceJoinsSpec)) traceJoinsCard

/-- THE TIED CARD OF 'floodgatelaw30.TraceLines'. -/
def traceLinesCard : Claim7 := { stood := { row := traceLinesRow, standIns := [], harness := (true, "7a152d26a6f7b47a8ce7a1c4f3227e9c74ee2524c9485d874442865ac84dab67"), looks := false }, kinds := [], alts := [], laidByText := true, laidKinds := [.data, .data, .data, .data, .pinned], laidTests := true, laidLooks := .later }
def TraceLinesCardSaid : Prop := Claim7.holds Tryd.pinned (.plain (OpenSpec.ofChange traceLinesSpec)) traceLinesCard

/-- THE TIED CARD OF 'floodgatelaw30.TraceParses'. -/
def traceParsesCard : Claim7 := { stood := { row := traceParsesRow, standIns := [], harness := (true, "7a152d26a6f7b47a8ce7a1c4f3227e9c74ee2524c9485d874442865ac84dab67"), looks := false }, kinds := [], alts := [], laidByText := true, laidKinds := [.data, .data, .data, .data, .pinned], laidTests := true, laidLooks := .later }
def TraceParsesCardSaid : Prop := Claim7.holds Tryd.pinned (.plain (OpenSpec.ofChange traceParsesSpec)) traceParsesCard

/-- THE TIED CARD OF 'floodgatelaw40.InspectNumbers'. -/
def inspectNumbersCard : Claim7 := { stood := { row := inspectNumbersRow, standIns := [], harness := (true, "7a152d26a6f7b47a8ce7a1c4f3227e9c74ee2524c9485d874442865ac84dab67"), looks := false }, kinds := [], alts := [], laidByText := true, laidKinds := [.data, .data, .data], laidTests := true, laidLooks := .later }
def InspectNumbersCardSaid : Prop := Claim7.holds Tryd.pinned (.plain (OpenSpec.ofChange inspectNumbersSpec)) inspectNumbersCard

/-- THE TIED CARD OF 'floodgatelaw40.InspectCurves'. -/
def inspectCurvesCard : Claim7 := { stood := { row := inspectCurvesRow, standIns := [], harness := (true, "7a152d26a6f7b47a8ce7a1c4f3227e9c74ee2524c9485d874442865ac84dab67"), looks := false }, kinds := [], alts := [], laidByText := true, laidKinds := [.data, .data, .data], laidTests := true, laidLooks := .later }
def InspectCurvesCardSaid : Prop := Claim7.holds Tryd.pinned (.plain (OpenSpec.ofChange inspectCurvesSpec)) inspectCurvesCard

/-- THE TIED CARD OF 'floodgatelaw40.InspectTells'. -/
def inspectTellsCard : Claim7 := { stood := { row := inspectTellsRow, standIns := [], harness := (true, "7a152d26a6f7b47a8ce7a1c4f3227e9c74ee2524c9485d874442865ac84dab67"), looks := false }, kinds := [], alts := [], laidByText := true, laidKinds := [.data, .data, .data], laidTests := true, laidLooks := .later }
def InspectTellsCardSaid : Prop := Claim7.holds Tryd.pinned (.plain (OpenSpec.ofChange inspectTellsSpec)) inspectTellsCard

/-- THE TIED CARD OF 'floodgatelaw40.InspectParses'. -/
def inspectParsesCard : Claim7 := { stood := { row := inspectParsesRow, standIns := [], harness := (true, "7a152d26a6f7b47a8ce7a1c4f3227e9c74ee2524c9485d874442865ac84dab67"), looks := false }, kinds := [], alts := [], laidByText := true, laidKinds := [.data, .data, .data], laidTests := true, laidLooks := .later }
def InspectParsesCardSaid : Prop := Claim7.holds Tryd.pinned (.plain (OpenSpec.ofChange inspectParsesSpec)) inspectParsesCard

/-- THE TIED CARD OF 'floodgatelaw43.RateReads'. -/
def rateReadsCard : Claim7 := { stood := { row := rateReadsRow, standIns := [], harness := (true, "7a152d26a6f7b47a8ce7a1c4f3227e9c74ee2524c9485d874442865ac84dab67"), looks := false }, kinds := [], alts := [], laidByText := true, laidKinds := [.data, .data, .data, .data, .pinned], laidTests := true, laidLooks := .later }
def RateReadsCardSaid : Prop := Claim7.holds Tryd.pinned (.plain (OpenSpec.ofChange rateReadsSpec)) rateReadsCard

/-- THE TIED CARD OF 'floodgatelaw43.RateTells'. -/
def rateTellsCard : Claim7 := { stood := { row := rateTellsRow, standIns := [], harness := (true, "7a152d26a6f7b47a8ce7a1c4f3227e9c74ee2524c9485d874442865ac84dab67"), looks := false }, kinds := [], alts := [], laidByText := true, laidKinds := [.data, .data, .data, .data, .pinned], laidTests := true, laidLooks := .later }
def RateTellsCardSaid : Prop := Claim7.holds Tryd.pinned (.plain (OpenSpec.ofChange rateTellsSpec)) rateTellsCard

/-- THE TIED CARD OF 'floodgatelaw43.RateTurns'. -/
def rateTurnsCard : Claim7 := { stood := { row := rateTurnsRow, standIns := [], harness := (true, "7a152d26a6f7b47a8ce7a1c4f3227e9c74ee2524c9485d874442865ac84dab67"), looks := false }, kinds := [], alts := [], laidByText := true, laidKinds := [.data, .data, .data, .data, .pinned], laidTests := true, laidLooks := .later }
def RateTurnsCardSaid : Prop := Claim7.holds Tryd.pinned (.plain (OpenSpec.ofChange rateTurnsSpec)) rateTurnsCard

/-- THE TIED CARD OF 'floodgatelaw43.RateSums'. -/
def rateSumsCard : Claim7 := { stood := { row := rateSumsRow, standIns := [], harness := (true, "7a152d26a6f7b47a8ce7a1c4f3227e9c74ee2524c9485d874442865ac84dab67"), looks := false }, kinds := [], alts := [], laidByText := true, laidKinds := [.data, .data, .data, .data, .pinned], laidTests := true, laidLooks := .later }
def RateSumsCardSaid : Prop := Claim7.holds Tryd.pinned (.plain (OpenSpec.ofChange rateSumsSpec)) rateSumsCard

/-- THE TIED CARD OF 'floodgatelaw43.RateTicks'. -/
def rateTicksCard : Claim7 := { stood := { row := rateTicksRow, standIns := [], harness := (true, "7a152d26a6f7b47a8ce7a1c4f3227e9c74ee2524c9485d874442865ac84dab67"), looks := false }, kinds := [], alts := [], laidByText := true, laidKinds := [.data, .data, .data, .data, .pinned], laidTests := true, laidLooks := .later }
def RateTicksCardSaid : Prop := Claim7.holds Tryd.pinned (.plain (OpenSpec.ofChange rateTicksSpec)) rateTicksCard

/-- THE TIED CARD OF 'floodgatelaw43.RateCurves'. -/
def rateCurvesCard : Claim7 := { stood := { row := rateCurvesRow, standIns := [], harness := (true, "7a152d26a6f7b47a8ce7a1c4f3227e9c74ee2524c9485d874442865ac84dab67"), looks := false }, kinds := [], alts := [], laidByText := true, laidKinds := [.data, .data, .data, .data, .pinned], laidTests := true, laidLooks := .later }
def RateCurvesCardSaid : Prop := Claim7.holds Tryd.pinned (.plain (OpenSpec.ofChange rateCurvesSpec)) rateCurvesCard

/-- THE SECOND FORM's CARD OF 'floodgatelaw30.TraceBytes'. -/
def traceBytesUptoCard : Claim7 := { stood := { row := traceBytesUptoRow, standIns := [], harness := (true, "7a152d26a6f7b47a8ce7a1c4f3227e9c74ee2524c9485d874442865ac84dab67"), looks := false }, kinds := [], alts := [], laidByText := true, laidKinds := [.data, .data, .data, .data, .pinned], laidTests := true, laidLooks := .later }
def TraceBytesUptoCardSaid : Prop := Claim7.holds Tryd.pinned (.plain (OpenSpec.upto traceBytesSpec)) traceBytesUptoCard

/-- THE SECOND FORM's CARD OF 'floodgatelaw30.TraceJoins'. -/
def traceJoinsUptoCard : Claim7 := { stood := { row := traceJoinsUptoRow, standIns := [], harness := (true, "7a152d26a6f7b47a8ce7a1c4f3227e9c74ee2524c9485d874442865ac84dab67"), looks := false }, kinds := [], alts := [], laidByText := true, laidKinds := [.data, .data, .data, .data, .pinned], laidTests := true, laidLooks := .later }
def TraceJoinsUptoCardSaid : Prop := Claim7.holds Tryd.pinned (.plain (OpenSpec.upto traceJoinsSpec)) traceJoinsUptoCard

/-- THE SECOND FORM's CARD OF 'floodgatelaw30.TraceLines'. -/
def traceLinesUptoCard : Claim7 := { stood := { row := traceLinesUptoRow, standIns := [], harness := (true, "7a152d26a6f7b47a8ce7a1c4f3227e9c74ee2524c9485d874442865ac84dab67"), looks := false }, kinds := [], alts := [], laidByText := true, laidKinds := [.data, .data, .data, .data, .pinned], laidTests := true, laidLooks := .later }
def TraceLinesUptoCardSaid : Prop := Claim7.holds Tryd.pinned (.plain (OpenSpec.upto traceLinesSpec)) traceLinesUptoCard

/-- THE SECOND FORM's CARD OF 'floodgatelaw30.TraceParses'. -/
def traceParsesUptoCard : Claim7 := { stood := { row := traceParsesUptoRow, standIns := [], harness := (true, "7a152d26a6f7b47a8ce7a1c4f3227e9c74ee2524c9485d874442865ac84dab67"), looks := false }, kinds := [], alts := [], laidByText := true, laidKinds := [.data, .data, .data, .data, .pinned], laidTests := true, laidLooks := .later }
def TraceParsesUptoCardSaid : Prop := Claim7.holds Tryd.pinned (.plain (OpenSpec.upto traceParsesSpec)) traceParsesUptoCard

/-- THE SECOND FORM's CARD OF 'floodgatelaw40.InspectNumbers'. -/
def inspectNumbersUptoCard : Claim7 := { stood := { row := inspectNumbersUptoRow, standIns := [], harness := (true, "7a152d26a6f7b47a8ce7a1c4f3227e9c74ee2524c9485d874442865ac84dab67"), looks := false }, kinds := [], alts := [], laidByText := true, laidKinds := [.data, .data, .data], laidTests := true, laidLooks := .later }
def InspectNumbersUptoCardSaid : Prop := Claim7.holds Tryd.pinned (.plain (OpenSpec.upto inspectNumbersSpec)) inspectNumbersUptoCard

/-- THE SECOND FORM's CARD OF 'floodgatelaw40.InspectCurves'. -/
def inspectCurvesUptoCard : Claim7 := { stood := { row := inspectCurvesUptoRow, standIns := [], harness := (true, "7a152d26a6f7b47a8ce7a1c4f3227e9c74ee2524c9485d874442865ac84dab67"), looks := false }, kinds := [], alts := [], laidByText := true, laidKinds := [.data, .data, .data], laidTests := true, laidLooks := .later }
def InspectCurvesUptoCardSaid : Prop := Claim7.holds Tryd.pinned (.plain (OpenSpec.upto inspectCurvesSpec)) inspectCurvesUptoCard

/-- THE SECOND FORM's CARD OF 'floodgatelaw40.InspectTells'. -/
def inspectTellsUptoCard : Claim7 := { stood := { row := inspectTellsUptoRow, standIns := [], harness := (true, "7a152d26a6f7b47a8ce7a1c4f3227e9c74ee2524c9485d874442865ac84dab67"), looks := false }, kinds := [], alts := [], laidByText := true, laidKinds := [.data, .data, .data], laidTests := true, laidLooks := .later }
def InspectTellsUptoCardSaid : Prop := Claim7.holds Tryd.pinned (.plain (OpenSpec.upto inspectTellsSpec)) inspectTellsUptoCard

/-- THE SECOND FORM's CARD OF 'floodgatelaw40.InspectParses'. -/
def inspectParsesUptoCard : Claim7 := { stood := { row := inspectParsesUptoRow, standIns := [], harness := (true, "7a152d26a6f7b47a8ce7a1c4f3227e9c74ee2524c9485d874442865ac84dab67"), looks := false }, kinds := [], alts := [], laidByText := true, laidKinds := [.data, .data, .data], laidTests := true, laidLooks := .later }
def InspectParsesUptoCardSaid : Prop := Claim7.holds Tryd.pinned (.plain (OpenSpec.upto inspectParsesSpec)) inspectParsesUptoCard

/-- THE SECOND FORM's CARD OF 'floodgatelaw43.RateReads'. -/
def rateReadsUptoCard : Claim7 := { stood := { row := rateReadsUptoRow, standIns := [], harness := (true, "7a152d26a6f7b47a8ce7a1c4f3227e9c74ee2524c9485d874442865ac84dab67"), looks := false }, kinds := [], alts := [], laidByText := true, laidKinds := [.data, .data, .data, .data, .pinned], laidTests := true, laidLooks := .later }
def RateReadsUptoCardSaid : Prop := Claim7.holds Tryd.pinned (.plain (OpenSpec.upto rateReadsSpec)) rateReadsUptoCard

/-- THE SECOND FORM's CARD OF 'floodgatelaw43.RateTells'. -/
def rateTellsUptoCard : Claim7 := { stood := { row := rateTellsUptoRow, standIns := [], harness := (true, "7a152d26a6f7b47a8ce7a1c4f3227e9c74ee2524c9485d874442865ac84dab67"), looks := false }, kinds := [], alts := [], laidByText := true, laidKinds := [.data, .data, .data, .data, .pinned], laidTests := true, laidLooks := .later }
def RateTellsUptoCardSaid : Prop := Claim7.holds Tryd.pinned (.plain (OpenSpec.upto rateTellsSpec)) rateTellsUptoCard

/-- THE SECOND FORM's CARD OF 'floodgatelaw43.RateTurns'. -/
def rateTurnsUptoCard : Claim7 := { stood := { row := rateTurnsUptoRow, standIns := [], harness := (true, "7a152d26a6f7b47a8ce7a1c4f3227e9c74ee2524c9485d874442865ac84dab67"), looks := false }, kinds := [], alts := [], laidByText := true, laidKinds := [.data, .data, .data, .data, .pinned], laidTests := true, laidLooks := .later }
def RateTurnsUptoCardSaid : Prop := Claim7.holds Tryd.pinned (.plain (OpenSpec.upto rateTurnsSpec)) rateTurnsUptoCard

/-- THE SECOND FORM's CARD OF 'floodgatelaw43.RateSums'. -/
def rateSumsUptoCard : Claim7 := { stood := { row := rateSumsUptoRow, standIns := [], harness := (true, "7a152d26a6f7b47a8ce7a1c4f3227e9c74ee2524c9485d874442865ac84dab67"), looks := false }, kinds := [], alts := [], laidByText := true, laidKinds := [.data, .data, .data, .data, .pinned], laidTests := true, laidLooks := .later }
def RateSumsUptoCardSaid : Prop := Claim7.holds Tryd.pinned (.plain (OpenSpec.upto rateSumsSpec)) rateSumsUptoCard

/-- THE SECOND FORM's CARD OF 'floodgatelaw43.RateTicks'. -/
def rateTicksUptoCard : Claim7 := { stood := { row := rateTicksUptoRow, standIns := [], harness := (true, "7a152d26a6f7b47a8ce7a1c4f3227e9c74ee2524c9485d874442865ac84dab67"), looks := false }, kinds := [], alts := [], laidByText := true, laidKinds := [.data, .data, .data, .data, .pinned], laidTests := true, laidLooks := .later }
def RateTicksUptoCardSaid : Prop := Claim7.holds Tryd.pinned (.plain (OpenSpec.upto rateTicksSpec)) rateTicksUptoCard

/-- THE SECOND FORM's CARD OF 'floodgatelaw43.RateCurves'. -/
def rateCurvesUptoCard : Claim7 := { stood := { row := rateCurvesUptoRow, standIns := [], harness := (true, "7a152d26a6f7b47a8ce7a1c4f3227e9c74ee2524c9485d874442865ac84dab67"), looks := false }, kinds := [], alts := [], laidByText := true, laidKinds := [.data, .data, .data, .data, .pinned], laidTests := true, laidLooks := .later }
def RateCurvesUptoCardSaid : Prop := Claim7.holds Tryd.pinned (.plain (OpenSpec.upto rateCurvesSpec)) rateCurvesUptoCard
end Rows
end Go.Proofs.YtdiniaokkdcihaaDoor
