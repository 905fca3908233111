/-
  DERIVED. GIVEN WITH THE SEED: THE CARDS: each row of YtcedmiojmepioaaGreatDoorRows.lean that lists a variable, with what it lists TIED to the program's text (the seventh form; the later family's looks); each row that meets fmt, with fmt's text TOLD by the authors' own Lean function (tested against real Go, not proved from fmt's source: count such statements apart). THE CARD IS WHAT COUNTS. Prove the row's statement (the work); the ties are given (YtcedmiojmepioaaGreatDoorTie.lean); close each card by the builder's one call (the guide's Derived/Test/ToyasCard.lean, 'card_holds'). Laid BY PROGRAM, IN A SANDBOX (cutbox-door.mjs). By AI agents, Wed Nov 11 2026. No macro, syntax, notation, axiom, sorry.
-/
import Derived.Test.YtcedmiojmepioaaGreatDoorRows
import GoSem.ClaimSeven
namespace Go.Proofs.YtcedmiojmepioaaGreatDoor
namespace Rows

/-- THE TIED CARD OF 'frankinglaw16.OnetimeSpec'. -/
def onetimeSpecCard : Claim7 := { stood := { row := onetimeSpecRow, standIns := [], harness := (true, "2945dd45cb54298148d20fc3ddd31a466de9b69a6089ff3bdcb76d6b52769d97"), looks := false }, kinds := [], alts := [], laidByText := true, laidKinds := [.data], laidTests := true, laidLooks := .later }
def OnetimeSpecCardSaid : Prop := Claim7.holds Tryz.pinned (.plain (OpenSpec.ofChange onetimeSpecSpec)) onetimeSpecCard

/-- THE TIED CARD OF 'frankinglaw16.OnetimeUseSpec'. -/
def onetimeUseSpecCard : Claim7 := { stood := { row := onetimeUseSpecRow, standIns := [], harness := (true, "2945dd45cb54298148d20fc3ddd31a466de9b69a6089ff3bdcb76d6b52769d97"), looks := false }, kinds := [], alts := [], laidByText := true, laidKinds := [.data], laidTests := true, laidLooks := .later }
def OnetimeUseSpecCardSaid : Prop := Claim7.holds Tryz.pinned (.plain (OpenSpec.ofChange onetimeUseSpecSpec)) onetimeUseSpecCard

/-- THE TIED CARD OF 'frankinglaw16.OnetimeSpent'. -/
def onetimeSpentCard : Claim7 := { stood := { row := onetimeSpentRow, standIns := [], harness := (true, "2945dd45cb54298148d20fc3ddd31a466de9b69a6089ff3bdcb76d6b52769d97"), looks := false }, kinds := [], alts := [], laidByText := true, laidKinds := [.data], laidTests := true, laidLooks := .later }
def OnetimeSpentCardSaid : Prop := Claim7.holds Tryz.pinned (.plain (OpenSpec.ofChange onetimeSpentSpec)) onetimeSpentCard

/-- THE TIED CARD OF 'frankinglaw16.OnetimeBound'. -/
def onetimeBoundCard : Claim7 := { stood := { row := onetimeBoundRow, standIns := [], harness := (true, "2945dd45cb54298148d20fc3ddd31a466de9b69a6089ff3bdcb76d6b52769d97"), looks := false }, kinds := [], alts := [], laidByText := true, laidKinds := [.data], laidTests := true, laidLooks := .later }
def OnetimeBoundCardSaid : Prop := Claim7.holds Tryz.pinned (.plain (OpenSpec.ofChange onetimeBoundSpec)) onetimeBoundCard

/-- THE SECOND FORM's CARD OF 'frankinglaw16.OnetimeSpec'. -/
def onetimeSpecUptoCard : Claim7 := { stood := { row := onetimeSpecUptoRow, standIns := [], harness := (true, "2945dd45cb54298148d20fc3ddd31a466de9b69a6089ff3bdcb76d6b52769d97"), looks := false }, kinds := [], alts := [], laidByText := true, laidKinds := [.data], laidTests := true, laidLooks := .later }
def OnetimeSpecUptoCardSaid : Prop := Claim7.holds Tryz.pinned (.plain (OpenSpec.upto onetimeSpecSpec)) onetimeSpecUptoCard

/-- THE SECOND FORM's CARD OF 'frankinglaw16.OnetimeUseSpec'. -/
def onetimeUseSpecUptoCard : Claim7 := { stood := { row := onetimeUseSpecUptoRow, standIns := [], harness := (true, "2945dd45cb54298148d20fc3ddd31a466de9b69a6089ff3bdcb76d6b52769d97"), looks := false }, kinds := [], alts := [], laidByText := true, laidKinds := [.data], laidTests := true, laidLooks := .later }
def OnetimeUseSpecUptoCardSaid : Prop := Claim7.holds Tryz.pinned (.plain (OpenSpec.upto onetimeUseSpecSpec)) onetimeUseSpecUptoCard

/-- THE SECOND FORM's CARD OF 'frankinglaw16.OnetimeSpent'. -/
def onetimeSpentUptoCard : Claim7 := { stood := { row := onetimeSpentUptoRow, standIns := [], harness := (true, "2945dd45cb54298148d20fc3ddd31a466de9b69a6089ff3bdcb76d6b52769d97"), looks := false }, kinds := [], alts := [], laidByText := true, laidKinds := [.data], laidTests := true, laidLooks := .later }
def OnetimeSpentUptoCardSaid : Prop := Claim7.holds Tryz.pinned (.plain (OpenSpec.upto onetimeSpentSpec)) onetimeSpentUptoCard

/-- THE SECOND FORM's CARD OF 'frankinglaw16.OnetimeBound'. -/
def onetimeBoundUptoCard : Claim7 := { stood := { row := onetimeBoundUptoRow, standIns := [], harness := (true, "2945dd45cb54298148d20fc3ddd31a466de9b69a6089ff3bdcb76d6b52769d97"), looks := false }, kinds := [], alts := [], laidByText := true, laidKinds := [.data], laidTests := true, laidLooks := .later }
def OnetimeBoundUptoCardSaid : Prop := Claim7.holds Tryz.pinned (.plain (OpenSpec.upto onetimeBoundSpec)) onetimeBoundUptoCard
end Rows
end Go.Proofs.YtcedmiojmepioaaGreatDoor
