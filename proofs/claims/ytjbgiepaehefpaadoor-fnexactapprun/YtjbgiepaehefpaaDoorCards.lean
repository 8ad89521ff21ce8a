/-
  DERIVED. GIVEN WITH THE SEED: THE CARDS: each row of YtjbgiepaehefpaaDoorRows.lean that lists a variable, with what it lists TIED to the program's text (the seventh form; the later family's looks); each row that meets fmt, with fmt's text TOLD by the authors' own Lean function (tested against real Go, not proved from fmt's source: count such statements apart). THE CARD IS WHAT COUNTS. Prove the row's statement (the work); the ties are given (YtjbgiepaehefpaaDoorTie.lean); close each card by the builder's one call (the guide's Derived/Test/ToyasCard.lean, 'card_holds'). Laid BY PROGRAM, IN A SANDBOX (cutbox-door.mjs). By AI agents, Wed Nov 11 2026. No macro, syntax, notation, axiom, sorry.
-/
import Derived.Test.YtjbgiepaehefpaaDoorRows
import GoSem.ClaimSeven
namespace Go.Proofs.YtjbgiepaehefpaaDoor
namespace Rows

/-- THE TIED CARD OF 'laws.FnAppText'. -/
def fnAppTextCard : Claim7 := { stood := { row := fnAppTextRow, standIns := [], harness := (true, "2980ac5220a842b53c484138ffd8799254d966c550a8527dc4a641ef5692d556"), looks := true }, kinds := [], alts := [], laidByText := true, laidKinds := [.data, .data, .data, .data, .sentinel, .sentinel, .data, .pinned], laidTests := true, laidLooks := .later }
def FnAppTextCardSaid : Prop := Claim7.holds Tryd.pinned (.plain (OpenSpec.ofChange fnAppTextSpec)) fnAppTextCard

/-- THE TIED CARD OF 'laws.FnAppStrict'. -/
def fnAppStrictCard : Claim7 := { stood := { row := fnAppStrictRow, standIns := [], harness := (true, "2980ac5220a842b53c484138ffd8799254d966c550a8527dc4a641ef5692d556"), looks := true }, kinds := [], alts := [], laidByText := true, laidKinds := [.data, .data, .data, .data, .sentinel, .sentinel, .data, .pinned], laidTests := true, laidLooks := .later }
def FnAppStrictCardSaid : Prop := Claim7.holds Tryd.pinned (.plain (OpenSpec.ofChange fnAppStrictSpec)) fnAppStrictCard

/-- THE TIED CARD OF 'laws.FnAppRun'. -/
def fnAppRunCard : Claim7 := { stood := { row := fnAppRunRow, standIns := [], harness := (true, "2980ac5220a842b53c484138ffd8799254d966c550a8527dc4a641ef5692d556"), looks := true }, kinds := [], alts := [], laidByText := true, laidKinds := [.data], laidTests := true, laidLooks := .later }
def FnAppRunCardSaid : Prop := Claim7.holds Tryd.pinned (.plain (OpenSpec.ofChange fnAppRunSpec)) fnAppRunCard

/-- THE TIED CARD OF 'laws.FnAppMost'. -/
def fnAppMostCard : Claim7 := { stood := { row := fnAppMostRow, standIns := [], harness := (true, "2980ac5220a842b53c484138ffd8799254d966c550a8527dc4a641ef5692d556"), looks := true }, kinds := [], alts := [], laidByText := true, laidKinds := [.data], laidTests := true, laidLooks := .later }
def FnAppMostCardSaid : Prop := Claim7.holds Tryd.pinned (.plain (OpenSpec.ofChange fnAppMostSpec)) fnAppMostCard

/-- THE TIED CARD OF 'laws.FnAppKind'. -/
def fnAppKindCard : Claim7 := { stood := { row := fnAppKindRow, standIns := [], harness := (true, "2980ac5220a842b53c484138ffd8799254d966c550a8527dc4a641ef5692d556"), looks := true }, kinds := [], alts := [], laidByText := true, laidKinds := [.data], laidTests := true, laidLooks := .later }
def FnAppKindCardSaid : Prop := Claim7.holds Tryd.pinned (.plain (OpenSpec.ofChange fnAppKindSpec)) fnAppKindCard

/-- THE TIED CARD OF 'laws.FnAppShift'. -/
def fnAppShiftCard : Claim7 := { stood := { row := fnAppShiftRow, standIns := [], harness := (true, "2980ac5220a842b53c484138ffd8799254d966c550a8527dc4a641ef5692d556"), looks := true }, kinds := [], alts := [], laidByText := true, laidKinds := [.data], laidTests := true, laidLooks := .later }
def FnAppShiftCardSaid : Prop := Claim7.holds Tryd.pinned (.plain (OpenSpec.ofChange fnAppShiftSpec)) fnAppShiftCard

/-- THE TIED CARD OF 'laws.FnExactAppOk'. -/
def fnExactAppOkCard : Claim7 := { stood := { row := fnExactAppOkRow, standIns := [], harness := (true, "2980ac5220a842b53c484138ffd8799254d966c550a8527dc4a641ef5692d556"), looks := true }, kinds := [], alts := [], laidByText := true, laidKinds := [.data], laidTests := true, laidLooks := .later }
def FnExactAppOkCardSaid : Prop := Claim7.holds Tryd.pinned (.plain (OpenSpec.ofChange fnExactAppOkSpec)) fnExactAppOkCard

/-- THE TIED CARD OF 'laws.FnExactAppRun'. -/
def fnExactAppRunCard : Claim7 := { stood := { row := fnExactAppRunRow, standIns := [], harness := (true, "2980ac5220a842b53c484138ffd8799254d966c550a8527dc4a641ef5692d556"), looks := true }, kinds := [], alts := [], laidByText := true, laidKinds := [.data], laidTests := true, laidLooks := .later }
def FnExactAppRunCardSaid : Prop := Claim7.holds Tryd.pinned (.plain (OpenSpec.ofChange fnExactAppRunSpec)) fnExactAppRunCard

/-- THE TIED CARD OF 'laws.FnExactAppWrite'. -/
def fnExactAppWriteCard : Claim7 := { stood := { row := fnExactAppWriteRow, standIns := [], harness := (true, "2980ac5220a842b53c484138ffd8799254d966c550a8527dc4a641ef5692d556"), looks := true }, kinds := [], alts := [], laidByText := true, laidKinds := [.data, .data, .data, .data], laidTests := true, laidLooks := .later }
def FnExactAppWriteCardSaid : Prop := Claim7.holds Tryd.pinned (.plain (OpenSpec.ofChange fnExactAppWriteSpec)) fnExactAppWriteCard

/-- THE SECOND FORM's CARD OF 'laws.FnAppText'. -/
def fnAppTextUptoCard : Claim7 := { stood := { row := fnAppTextUptoRow, standIns := [], harness := (true, "2980ac5220a842b53c484138ffd8799254d966c550a8527dc4a641ef5692d556"), looks := true }, kinds := [], alts := [], laidByText := true, laidKinds := [.data, .data, .data, .data, .sentinel, .sentinel, .data, .pinned], laidTests := true, laidLooks := .later }
def FnAppTextUptoCardSaid : Prop := Claim7.holds Tryd.pinned (.plain (OpenSpec.upto fnAppTextSpec)) fnAppTextUptoCard

/-- THE SECOND FORM's CARD OF 'laws.FnAppStrict'. -/
def fnAppStrictUptoCard : Claim7 := { stood := { row := fnAppStrictUptoRow, standIns := [], harness := (true, "2980ac5220a842b53c484138ffd8799254d966c550a8527dc4a641ef5692d556"), looks := true }, kinds := [], alts := [], laidByText := true, laidKinds := [.data, .data, .data, .data, .sentinel, .sentinel, .data, .pinned], laidTests := true, laidLooks := .later }
def FnAppStrictUptoCardSaid : Prop := Claim7.holds Tryd.pinned (.plain (OpenSpec.upto fnAppStrictSpec)) fnAppStrictUptoCard

/-- THE SECOND FORM's CARD OF 'laws.FnAppRun'. -/
def fnAppRunUptoCard : Claim7 := { stood := { row := fnAppRunUptoRow, standIns := [], harness := (true, "2980ac5220a842b53c484138ffd8799254d966c550a8527dc4a641ef5692d556"), looks := true }, kinds := [], alts := [], laidByText := true, laidKinds := [.data], laidTests := true, laidLooks := .later }
def FnAppRunUptoCardSaid : Prop := Claim7.holds Tryd.pinned (.plain (OpenSpec.upto fnAppRunSpec)) fnAppRunUptoCard

/-- THE SECOND FORM's CARD OF 'laws.FnAppMost'. -/
def fnAppMostUptoCard : Claim7 := { stood := { row := fnAppMostUptoRow, standIns := [], harness := (true, "2980ac5220a842b53c484138ffd8799254d966c550a8527dc4a641ef5692d556"), looks := true }, kinds := [], alts := [], laidByText := true, laidKinds := [.data], laidTests := true, laidLooks := .later }
def FnAppMostUptoCardSaid : Prop := Claim7.holds Tryd.pinned (.plain (OpenSpec.upto fnAppMostSpec)) fnAppMostUptoCard

/-- THE SECOND FORM's CARD OF 'laws.FnAppKind'. -/
def fnAppKindUptoCard : Claim7 := { stood := { row := fnAppKindUptoRow, standIns := [], harness := (true, "2980ac5220a842b53c484138ffd8799254d966c550a8527dc4a641ef5692d556"), looks := true }, kinds := [], alts := [], laidByText := true, laidKinds := [.data], laidTests := true, laidLooks := .later }
def FnAppKindUptoCardSaid : Prop := Claim7.holds Tryd.pinned (.plain (OpenSpec.upto fnAppKindSpec)) fnAppKindUptoCard

/-- THE SECOND FORM's CARD OF 'laws.FnAppShift'. -/
def fnAppShiftUptoCard : Claim7 := { stood := { row := fnAppShiftUptoRow, standIns := [], harness := (true, "2980ac5220a842b53c484138ffd8799254d966c550a8527dc4a641ef5692d556"), looks := true }, kinds := [], alts := [], laidByText := true, laidKinds := [.data], laidTests := true, laidLooks := .later }
def FnAppShiftUptoCardSaid : Prop := Claim7.holds Tryd.pinned (.plain (OpenSpec.upto fnAppShiftSpec)) fnAppShiftUptoCard

/-- THE SECOND FORM's CARD OF 'laws.FnExactAppOk'. -/
def fnExactAppOkUptoCard : Claim7 := { stood := { row := fnExactAppOkUptoRow, standIns := [], harness := (true, "2980ac5220a842b53c484138ffd8799254d966c550a8527dc4a641ef5692d556"), looks := true }, kinds := [], alts := [], laidByText := true, laidKinds := [.data], laidTests := true, laidLooks := .later }
def FnExactAppOkUptoCardSaid : Prop := Claim7.holds Tryd.pinned (.plain (OpenSpec.upto fnExactAppOkSpec)) fnExactAppOkUptoCard

/-- THE SECOND FORM's CARD OF 'laws.FnExactAppRun'. -/
def fnExactAppRunUptoCard : Claim7 := { stood := { row := fnExactAppRunUptoRow, standIns := [], harness := (true, "2980ac5220a842b53c484138ffd8799254d966c550a8527dc4a641ef5692d556"), looks := true }, kinds := [], alts := [], laidByText := true, laidKinds := [.data], laidTests := true, laidLooks := .later }
def FnExactAppRunUptoCardSaid : Prop := Claim7.holds Tryd.pinned (.plain (OpenSpec.upto fnExactAppRunSpec)) fnExactAppRunUptoCard

/-- THE SECOND FORM's CARD OF 'laws.FnExactAppWrite'. -/
def fnExactAppWriteUptoCard : Claim7 := { stood := { row := fnExactAppWriteUptoRow, standIns := [], harness := (true, "2980ac5220a842b53c484138ffd8799254d966c550a8527dc4a641ef5692d556"), looks := true }, kinds := [], alts := [], laidByText := true, laidKinds := [.data, .data, .data, .data], laidTests := true, laidLooks := .later }
def FnExactAppWriteUptoCardSaid : Prop := Claim7.holds Tryd.pinned (.plain (OpenSpec.upto fnExactAppWriteSpec)) fnExactAppWriteUptoCard
end Rows
end Go.Proofs.YtjbgiepaehefpaaDoor
