/-
  DERIVED. GIVEN WITH THE SEED: THE CARDS: each row of YthhlpkppcbillaaGreatDoorRows.lean that lists a variable, with what it lists TIED to the program's text (the seventh form; the later family's looks); each row that meets fmt, with fmt's text TOLD by the authors' own Lean function (tested against real Go, not proved from fmt's source: count such statements apart). THE CARD IS WHAT COUNTS. Prove the row's statement (the work); the ties are given (YthhlpkppcbillaaGreatDoorTie.lean); close each card by the builder's one call (the guide's Derived/Test/ToyasCard.lean, 'card_holds'). Laid BY PROGRAM, IN A SANDBOX (cutbox-door.mjs). By AI agents, Wed Nov 11 2026. No macro, syntax, notation, axiom, sorry.
-/
import Derived.Test.YthhlpkppcbillaaGreatDoorRows
import GoSem.ClaimSeven
namespace Go.Proofs.YthhlpkppcbillaaGreatDoor
namespace Rows

/-- THE TIED CARD OF 'frankinglaw15.BlindSpec'. -/
def blindSpecCard : Claim7 := { stood := { row := blindSpecRow, standIns := [], harness := (true, "f447158e6a39751497c68a2ed9a84fd5f99f8ca2eebfe285d534610ba04c3d43"), looks := true }, kinds := [], alts := [], laidByText := true, laidKinds := [.data], laidTests := true, laidLooks := .later }
def BlindSpecCardSaid : Prop := Claim7.holds Tryz.pinned (.plain (OpenSpec.ofChange blindSpecSpec)) blindSpecCard

/-- THE TIED CARD OF 'frankinglaw15.BlindFinishSpec'. -/
def blindFinishSpecCard : Claim7 := { stood := { row := blindFinishSpecRow, standIns := [], harness := (true, "f447158e6a39751497c68a2ed9a84fd5f99f8ca2eebfe285d534610ba04c3d43"), looks := true }, kinds := [], alts := [], laidByText := true, laidKinds := [.data], laidTests := true, laidLooks := .later }
def BlindFinishSpecCardSaid : Prop := Claim7.holds Tryz.pinned (.plain (OpenSpec.ofChange blindFinishSpecSpec)) blindFinishSpecCard

/-- THE SECOND FORM's CARD OF 'frankinglaw15.BlindSpec'. -/
def blindSpecUptoCard : Claim7 := { stood := { row := blindSpecUptoRow, standIns := [], harness := (true, "f447158e6a39751497c68a2ed9a84fd5f99f8ca2eebfe285d534610ba04c3d43"), looks := true }, kinds := [], alts := [], laidByText := true, laidKinds := [.data], laidTests := true, laidLooks := .later }
def BlindSpecUptoCardSaid : Prop := Claim7.holds Tryz.pinned (.plain (OpenSpec.upto blindSpecSpec)) blindSpecUptoCard

/-- THE SECOND FORM's CARD OF 'frankinglaw15.BlindFinishSpec'. -/
def blindFinishSpecUptoCard : Claim7 := { stood := { row := blindFinishSpecUptoRow, standIns := [], harness := (true, "f447158e6a39751497c68a2ed9a84fd5f99f8ca2eebfe285d534610ba04c3d43"), looks := true }, kinds := [], alts := [], laidByText := true, laidKinds := [.data], laidTests := true, laidLooks := .later }
def BlindFinishSpecUptoCardSaid : Prop := Claim7.holds Tryz.pinned (.plain (OpenSpec.upto blindFinishSpecSpec)) blindFinishSpecUptoCard
end Rows
end Go.Proofs.YthhlpkppcbillaaGreatDoor
