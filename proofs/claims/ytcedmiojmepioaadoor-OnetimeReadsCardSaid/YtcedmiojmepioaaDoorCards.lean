/-
  DERIVED. GIVEN WITH THE SEED: THE CARDS: each row of YtcedmiojmepioaaDoorRows.lean that lists a variable, with what it lists TIED to the program's text (the seventh form; the later family's looks); each row that meets fmt, with fmt's text TOLD by the authors' own Lean function (tested against real Go, not proved from fmt's source: count such statements apart). THE CARD IS WHAT COUNTS. Prove the row's statement (the work); the ties are given (YtcedmiojmepioaaDoorTie.lean); close each card by the builder's one call (the guide's Derived/Test/ToyasCard.lean, 'card_holds'). Laid BY PROGRAM, IN A SANDBOX (cutbox-door.mjs). By AI agents, Wed Nov 11 2026. No macro, syntax, notation, axiom, sorry.
-/
import Derived.Test.YtcedmiojmepioaaDoorRows
import GoSem.ClaimSeven
namespace Go.Proofs.YtcedmiojmepioaaDoor
namespace Rows

/-- THE TIED CARD OF 'frankinglaw16.OnetimeReads'. -/
def onetimeReadsCard : Claim7 := { stood := { row := onetimeReadsRow, standIns := [], harness := (true, "48b241c494b1766600b3c9a1f13317d893376b1912b4a40efa5fe89d39ab7e7a"), looks := false }, kinds := [], alts := [], laidByText := true, laidKinds := [.data], laidTests := true, laidLooks := .later }
def OnetimeReadsCardSaid : Prop := Claim7.holds Tryd.pinned (.plain (OpenSpec.ofChange onetimeReadsSpec)) onetimeReadsCard

/-- THE TIED CARD OF 'frankinglaw16.OnetimeHidden'. -/
def onetimeHiddenCard : Claim7 := { stood := { row := onetimeHiddenRow, standIns := [], harness := (true, "48b241c494b1766600b3c9a1f13317d893376b1912b4a40efa5fe89d39ab7e7a"), looks := false }, kinds := [], alts := [], laidByText := true, laidKinds := [.data], laidTests := true, laidLooks := .later }
def OnetimeHiddenCardSaid : Prop := Claim7.holds Tryd.pinned (.plain (OpenSpec.ofChange onetimeHiddenSpec)) onetimeHiddenCard

/-- THE SECOND FORM's CARD OF 'frankinglaw16.OnetimeReads'. -/
def onetimeReadsUptoCard : Claim7 := { stood := { row := onetimeReadsUptoRow, standIns := [], harness := (true, "48b241c494b1766600b3c9a1f13317d893376b1912b4a40efa5fe89d39ab7e7a"), looks := false }, kinds := [], alts := [], laidByText := true, laidKinds := [.data], laidTests := true, laidLooks := .later }
def OnetimeReadsUptoCardSaid : Prop := Claim7.holds Tryd.pinned (.plain (OpenSpec.upto onetimeReadsSpec)) onetimeReadsUptoCard

/-- THE SECOND FORM's CARD OF 'frankinglaw16.OnetimeHidden'. -/
def onetimeHiddenUptoCard : Claim7 := { stood := { row := onetimeHiddenUptoRow, standIns := [], harness := (true, "48b241c494b1766600b3c9a1f13317d893376b1912b4a40efa5fe89d39ab7e7a"), looks := false }, kinds := [], alts := [], laidByText := true, laidKinds := [.data], laidTests := true, laidLooks := .later }
def OnetimeHiddenUptoCardSaid : Prop := Claim7.holds Tryd.pinned (.plain (OpenSpec.upto onetimeHiddenSpec)) onetimeHiddenUptoCard
end Rows
end Go.Proofs.YtcedmiojmepioaaDoor
