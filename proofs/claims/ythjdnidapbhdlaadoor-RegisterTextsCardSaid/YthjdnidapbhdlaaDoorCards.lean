/-
  DERIVED. GIVEN WITH THE SEED: THE CARDS: each row of YthjdnidapbhdlaaDoorRows.lean that lists a variable, with what it lists TIED to the program's text (the seventh form; the later family's looks); each row that meets fmt, with fmt's text TOLD by the authors' own Lean function (tested against real Go, not proved from fmt's source: count such statements apart). THE CARD IS WHAT COUNTS. Prove the row's statement (the work); the ties are given (YthjdnidapbhdlaaDoorTie.lean); close each card by the builder's one call (the guide's Derived/Test/ToyasCard.lean, 'card_holds'). Laid BY PROGRAM, IN A SANDBOX (cutbox-door.mjs). By AI agents, Wed Nov 11 2026. No macro, syntax, notation, axiom, sorry.
-/
import Derived.Test.YthjdnidapbhdlaaDoorRows
import GoSem.ClaimSeven
namespace Go.Proofs.YthjdnidapbhdlaaDoor
namespace Rows

/-- THE TIED CARD OF 'arithmancylaw01.LargeTexts'. -/
def largeTextsCard : Claim7 := { stood := { row := largeTextsRow, standIns := [], harness := (true, "125290f20126b9346a8a576e0848549504e4e0c10c7c10e769ebd0686dd2a9e5"), looks := true }, kinds := [], alts := [], laidByText := true, laidKinds := [.data, .data, .data], laidTests := true, laidLooks := .later }
def LargeTextsCardSaid : Prop := Claim7.holds Tryd.pinned (.plain (OpenSpec.ofChange largeTextsSpec)) largeTextsCard

/-- THE TIED CARD OF 'arithmancylaw13.RegisterRuns'. -/
def registerRunsCard : Claim7 := { stood := { row := registerRunsRow, standIns := [], harness := (true, "125290f20126b9346a8a576e0848549504e4e0c10c7c10e769ebd0686dd2a9e5"), looks := true }, kinds := [], alts := [], laidByText := true, laidKinds := [.data, .data, .data, .data, .sentinel, .sentinel, .pinned], laidTests := true, laidLooks := .later }
def RegisterRunsCardSaid : Prop := Claim7.holds Tryd.pinned (.plain (OpenSpec.ofChange registerRunsSpec)) registerRunsCard

/-- THE TIED CARD OF 'arithmancylaw13.RegisterTexts'. -/
def registerTextsCard : Claim7 := { stood := { row := registerTextsRow, standIns := [], harness := (true, "125290f20126b9346a8a576e0848549504e4e0c10c7c10e769ebd0686dd2a9e5"), looks := true }, kinds := [], alts := [], laidByText := true, laidKinds := [.data, .data, .data, .data, .sentinel, .sentinel, .pinned], laidTests := true, laidLooks := .later }
def RegisterTextsCardSaid : Prop := Claim7.holds Tryd.pinned (.plain (OpenSpec.ofChange registerTextsSpec)) registerTextsCard

/-- THE TIED CARD OF 'arithmancylaw13.RegisterParts'. -/
def registerPartsCard : Claim7 := { stood := { row := registerPartsRow, standIns := [], harness := (true, "125290f20126b9346a8a576e0848549504e4e0c10c7c10e769ebd0686dd2a9e5"), looks := true }, kinds := [], alts := [], laidByText := true, laidKinds := [.data, .data, .data, .data, .sentinel, .sentinel, .pinned], laidTests := true, laidLooks := .later }
def RegisterPartsCardSaid : Prop := Claim7.holds Tryd.pinned (.plain (OpenSpec.ofChange registerPartsSpec)) registerPartsCard

/-- THE TIED CARD OF 'arithmancylaw13.RegisterNames'. -/
def registerNamesCard : Claim7 := { stood := { row := registerNamesRow, standIns := [], harness := (true, "125290f20126b9346a8a576e0848549504e4e0c10c7c10e769ebd0686dd2a9e5"), looks := true }, kinds := [], alts := [], laidByText := true, laidKinds := [.data, .data, .data, .data, .sentinel, .sentinel, .pinned], laidTests := true, laidLooks := .later }
def RegisterNamesCardSaid : Prop := Claim7.holds Tryd.pinned (.plain (OpenSpec.ofChange registerNamesSpec)) registerNamesCard

/-- THE SECOND FORM's CARD OF 'arithmancylaw01.LargeTexts'. -/
def largeTextsUptoCard : Claim7 := { stood := { row := largeTextsUptoRow, standIns := [], harness := (true, "125290f20126b9346a8a576e0848549504e4e0c10c7c10e769ebd0686dd2a9e5"), looks := true }, kinds := [], alts := [], laidByText := true, laidKinds := [.data, .data, .data], laidTests := true, laidLooks := .later }
def LargeTextsUptoCardSaid : Prop := Claim7.holds Tryd.pinned (.plain (OpenSpec.upto largeTextsSpec)) largeTextsUptoCard

/-- THE SECOND FORM's CARD OF 'arithmancylaw13.RegisterRuns'. -/
def registerRunsUptoCard : Claim7 := { stood := { row := registerRunsUptoRow, standIns := [], harness := (true, "125290f20126b9346a8a576e0848549504e4e0c10c7c10e769ebd0686dd2a9e5"), looks := true }, kinds := [], alts := [], laidByText := true, laidKinds := [.data, .data, .data, .data, .sentinel, .sentinel, .pinned], laidTests := true, laidLooks := .later }
def RegisterRunsUptoCardSaid : Prop := Claim7.holds Tryd.pinned (.plain (OpenSpec.upto registerRunsSpec)) registerRunsUptoCard

/-- THE SECOND FORM's CARD OF 'arithmancylaw13.RegisterTexts'. -/
def registerTextsUptoCard : Claim7 := { stood := { row := registerTextsUptoRow, standIns := [], harness := (true, "125290f20126b9346a8a576e0848549504e4e0c10c7c10e769ebd0686dd2a9e5"), looks := true }, kinds := [], alts := [], laidByText := true, laidKinds := [.data, .data, .data, .data, .sentinel, .sentinel, .pinned], laidTests := true, laidLooks := .later }
def RegisterTextsUptoCardSaid : Prop := Claim7.holds Tryd.pinned (.plain (OpenSpec.upto registerTextsSpec)) registerTextsUptoCard

/-- THE SECOND FORM's CARD OF 'arithmancylaw13.RegisterParts'. -/
def registerPartsUptoCard : Claim7 := { stood := { row := registerPartsUptoRow, standIns := [], harness := (true, "125290f20126b9346a8a576e0848549504e4e0c10c7c10e769ebd0686dd2a9e5"), looks := true }, kinds := [], alts := [], laidByText := true, laidKinds := [.data, .data, .data, .data, .sentinel, .sentinel, .pinned], laidTests := true, laidLooks := .later }
def RegisterPartsUptoCardSaid : Prop := Claim7.holds Tryd.pinned (.plain (OpenSpec.upto registerPartsSpec)) registerPartsUptoCard

/-- THE SECOND FORM's CARD OF 'arithmancylaw13.RegisterNames'. -/
def registerNamesUptoCard : Claim7 := { stood := { row := registerNamesUptoRow, standIns := [], harness := (true, "125290f20126b9346a8a576e0848549504e4e0c10c7c10e769ebd0686dd2a9e5"), looks := true }, kinds := [], alts := [], laidByText := true, laidKinds := [.data, .data, .data, .data, .sentinel, .sentinel, .pinned], laidTests := true, laidLooks := .later }
def RegisterNamesUptoCardSaid : Prop := Claim7.holds Tryd.pinned (.plain (OpenSpec.upto registerNamesSpec)) registerNamesUptoCard
end Rows
end Go.Proofs.YthjdnidapbhdlaaDoor
