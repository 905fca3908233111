/-
  DERIVED. GIVEN WITH THE SEED: THE CARDS: each row of YtjdkdhpippapmaaGreatDoorRows.lean that lists a variable, with what it lists TIED to the program's text (the seventh form; the later family's looks); each row that meets fmt, with fmt's text TOLD by the authors' own Lean function (tested against real Go, not proved from fmt's source: count such statements apart). THE CARD IS WHAT COUNTS. Prove the row's statement (the work); the ties are given (YtjdkdhpippapmaaGreatDoorTie.lean); close each card by the builder's one call (the guide's Derived/Test/ToyasCard.lean, 'card_holds'). Laid BY PROGRAM, IN A SANDBOX (cutbox-door.mjs). By AI agents, Wed Nov 11 2026. No macro, syntax, notation, axiom, sorry.
-/
import Derived.Test.YtjdkdhpippapmaaGreatDoorRows
import GoSem.ClaimSeven
namespace Go.Proofs.YtjdkdhpippapmaaGreatDoor
namespace Rows

/-- THE TIED CARD OF 'frankinglaw37.StampsSpec'. -/
def stampsSpecCard : Claim7 := { stood := { row := stampsSpecRow, standIns := [], harness := (true, "08aa77cb6b5e7032e714fb6e8234f1d1e81e8e126b602c27ba0bf5d0ec3bd074"), looks := true }, kinds := [], alts := [], laidByText := true, laidKinds := [.data], laidTests := true, laidLooks := .later }
def StampsSpecCardSaid : Prop := Claim7.holds Tryz.pinned (.plain (OpenSpec.ofChange stampsSpecSpec)) stampsSpecCard

/-- THE TIED CARD OF 'frankinglaw37.StampsSpendSpec'. -/
def stampsSpendSpecCard : Claim7 := { stood := { row := stampsSpendSpecRow, standIns := [], harness := (true, "08aa77cb6b5e7032e714fb6e8234f1d1e81e8e126b602c27ba0bf5d0ec3bd074"), looks := true }, kinds := [], alts := [], laidByText := true, laidKinds := [.data], laidTests := true, laidLooks := .later }
def StampsSpendSpecCardSaid : Prop := Claim7.holds Tryz.pinned (.plain (OpenSpec.ofChange stampsSpendSpecSpec)) stampsSpendSpecCard

/-- THE TIED CARD OF 'frankinglaw37.StampsIssued'. -/
def stampsIssuedCard : Claim7 := { stood := { row := stampsIssuedRow, standIns := [], harness := (true, "08aa77cb6b5e7032e714fb6e8234f1d1e81e8e126b602c27ba0bf5d0ec3bd074"), looks := true }, kinds := [], alts := [], laidByText := true, laidKinds := [.data], laidTests := true, laidLooks := .later }
def StampsIssuedCardSaid : Prop := Claim7.holds Tryz.pinned (.plain (OpenSpec.ofChange stampsIssuedSpec)) stampsIssuedCard

/-- THE TIED CARD OF 'frankinglaw37.StampsUnseen'. -/
def stampsUnseenCard : Claim7 := { stood := { row := stampsUnseenRow, standIns := [], harness := (true, "08aa77cb6b5e7032e714fb6e8234f1d1e81e8e126b602c27ba0bf5d0ec3bd074"), looks := true }, kinds := [], alts := [], laidByText := true, laidKinds := [.data], laidTests := true, laidLooks := .later }
def StampsUnseenCardSaid : Prop := Claim7.holds Tryz.pinned (.plain (OpenSpec.ofChange stampsUnseenSpec)) stampsUnseenCard

/-- THE TIED CARD OF 'frankinglaw37.StampsOnce'. -/
def stampsOnceCard : Claim7 := { stood := { row := stampsOnceRow, standIns := [], harness := (true, "08aa77cb6b5e7032e714fb6e8234f1d1e81e8e126b602c27ba0bf5d0ec3bd074"), looks := true }, kinds := [], alts := [], laidByText := true, laidKinds := [.data], laidTests := true, laidLooks := .later }
def StampsOnceCardSaid : Prop := Claim7.holds Tryz.pinned (.plain (OpenSpec.ofChange stampsOnceSpec)) stampsOnceCard

/-- THE SECOND FORM's CARD OF 'frankinglaw37.StampsSpec'. -/
def stampsSpecUptoCard : Claim7 := { stood := { row := stampsSpecUptoRow, standIns := [], harness := (true, "08aa77cb6b5e7032e714fb6e8234f1d1e81e8e126b602c27ba0bf5d0ec3bd074"), looks := true }, kinds := [], alts := [], laidByText := true, laidKinds := [.data], laidTests := true, laidLooks := .later }
def StampsSpecUptoCardSaid : Prop := Claim7.holds Tryz.pinned (.plain (OpenSpec.upto stampsSpecSpec)) stampsSpecUptoCard

/-- THE SECOND FORM's CARD OF 'frankinglaw37.StampsSpendSpec'. -/
def stampsSpendSpecUptoCard : Claim7 := { stood := { row := stampsSpendSpecUptoRow, standIns := [], harness := (true, "08aa77cb6b5e7032e714fb6e8234f1d1e81e8e126b602c27ba0bf5d0ec3bd074"), looks := true }, kinds := [], alts := [], laidByText := true, laidKinds := [.data], laidTests := true, laidLooks := .later }
def StampsSpendSpecUptoCardSaid : Prop := Claim7.holds Tryz.pinned (.plain (OpenSpec.upto stampsSpendSpecSpec)) stampsSpendSpecUptoCard

/-- THE SECOND FORM's CARD OF 'frankinglaw37.StampsIssued'. -/
def stampsIssuedUptoCard : Claim7 := { stood := { row := stampsIssuedUptoRow, standIns := [], harness := (true, "08aa77cb6b5e7032e714fb6e8234f1d1e81e8e126b602c27ba0bf5d0ec3bd074"), looks := true }, kinds := [], alts := [], laidByText := true, laidKinds := [.data], laidTests := true, laidLooks := .later }
def StampsIssuedUptoCardSaid : Prop := Claim7.holds Tryz.pinned (.plain (OpenSpec.upto stampsIssuedSpec)) stampsIssuedUptoCard

/-- THE SECOND FORM's CARD OF 'frankinglaw37.StampsUnseen'. -/
def stampsUnseenUptoCard : Claim7 := { stood := { row := stampsUnseenUptoRow, standIns := [], harness := (true, "08aa77cb6b5e7032e714fb6e8234f1d1e81e8e126b602c27ba0bf5d0ec3bd074"), looks := true }, kinds := [], alts := [], laidByText := true, laidKinds := [.data], laidTests := true, laidLooks := .later }
def StampsUnseenUptoCardSaid : Prop := Claim7.holds Tryz.pinned (.plain (OpenSpec.upto stampsUnseenSpec)) stampsUnseenUptoCard

/-- THE SECOND FORM's CARD OF 'frankinglaw37.StampsOnce'. -/
def stampsOnceUptoCard : Claim7 := { stood := { row := stampsOnceUptoRow, standIns := [], harness := (true, "08aa77cb6b5e7032e714fb6e8234f1d1e81e8e126b602c27ba0bf5d0ec3bd074"), looks := true }, kinds := [], alts := [], laidByText := true, laidKinds := [.data], laidTests := true, laidLooks := .later }
def StampsOnceUptoCardSaid : Prop := Claim7.holds Tryz.pinned (.plain (OpenSpec.upto stampsOnceSpec)) stampsOnceUptoCard
end Rows
end Go.Proofs.YtjdkdhpippapmaaGreatDoor
