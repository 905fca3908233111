/-
  DERIVED. GIVEN WITH THE SEED: THE CARDS: each row of YtpjobllfiimdkaaGreatDoorRows.lean that lists a variable, with what it lists TIED to the program's text (the seventh form; the later family's looks); each row that meets fmt, with fmt's text TOLD by the authors' own Lean function (tested against real Go, not proved from fmt's source: count such statements apart). THE CARD IS WHAT COUNTS. Prove the row's statement (the work); the ties are given (YtpjobllfiimdkaaGreatDoorTie.lean); close each card by the builder's one call (the guide's Derived/Test/ToyasCard.lean, 'card_holds'). Laid BY PROGRAM, IN A SANDBOX (cutbox-door.mjs). By AI agents, Wed Nov 11 2026. No macro, syntax, notation, axiom, sorry.
-/
import Derived.Test.YtpjobllfiimdkaaGreatDoorRows
import GoSem.ClaimSeven
namespace Go.Proofs.YtpjobllfiimdkaaGreatDoor
namespace Rows

/-- THE TIED CARD OF 'frankinglaw43.ReceiptsSpec'. -/
def receiptsSpecCard : Claim7 := { stood := { row := receiptsSpecRow, standIns := [], harness := (true, "58b6b481e969e72b720ff011ab0f9cffa635a12db93c1569dbd034029958b849"), looks := true }, kinds := [], alts := [], laidByText := true, laidKinds := [.data], laidTests := true, laidLooks := .later }
def ReceiptsSpecCardSaid : Prop := Claim7.holds Tryz.pinned (.plain (OpenSpec.ofChange receiptsSpecSpec)) receiptsSpecCard

/-- THE TIED CARD OF 'frankinglaw43.ReceiptsCheckSpec'. -/
def receiptsCheckSpecCard : Claim7 := { stood := { row := receiptsCheckSpecRow, standIns := [], harness := (true, "58b6b481e969e72b720ff011ab0f9cffa635a12db93c1569dbd034029958b849"), looks := true }, kinds := [], alts := [], laidByText := true, laidKinds := [.data], laidTests := true, laidLooks := .later }
def ReceiptsCheckSpecCardSaid : Prop := Claim7.holds Tryz.pinned (.plain (OpenSpec.ofChange receiptsCheckSpecSpec)) receiptsCheckSpecCard

/-- THE SECOND FORM's CARD OF 'frankinglaw43.ReceiptsSpec'. -/
def receiptsSpecUptoCard : Claim7 := { stood := { row := receiptsSpecUptoRow, standIns := [], harness := (true, "58b6b481e969e72b720ff011ab0f9cffa635a12db93c1569dbd034029958b849"), looks := true }, kinds := [], alts := [], laidByText := true, laidKinds := [.data], laidTests := true, laidLooks := .later }
def ReceiptsSpecUptoCardSaid : Prop := Claim7.holds Tryz.pinned (.plain (OpenSpec.upto receiptsSpecSpec)) receiptsSpecUptoCard

/-- THE SECOND FORM's CARD OF 'frankinglaw43.ReceiptsCheckSpec'. -/
def receiptsCheckSpecUptoCard : Claim7 := { stood := { row := receiptsCheckSpecUptoRow, standIns := [], harness := (true, "58b6b481e969e72b720ff011ab0f9cffa635a12db93c1569dbd034029958b849"), looks := true }, kinds := [], alts := [], laidByText := true, laidKinds := [.data], laidTests := true, laidLooks := .later }
def ReceiptsCheckSpecUptoCardSaid : Prop := Claim7.holds Tryz.pinned (.plain (OpenSpec.upto receiptsCheckSpecSpec)) receiptsCheckSpecUptoCard
end Rows
end Go.Proofs.YtpjobllfiimdkaaGreatDoor
