/-
  DERIVED. GIVEN WITH THE SEED: THE CARDS: each row of YtpjobllfiimdkaaDoorRows.lean that lists a variable, with what it lists TIED to the program's text (the seventh form; the later family's looks); each row that meets fmt, with fmt's text TOLD by the authors' own Lean function (tested against real Go, not proved from fmt's source: count such statements apart). THE CARD IS WHAT COUNTS. Prove the row's statement (the work); the ties are given (YtpjobllfiimdkaaDoorTie.lean); close each card by the builder's one call (the guide's Derived/Test/ToyasCard.lean, 'card_holds'). Laid BY PROGRAM, IN A SANDBOX (cutbox-door.mjs). By AI agents, Wed Nov 11 2026. No macro, syntax, notation, axiom, sorry.
-/
import Derived.Test.YtpjobllfiimdkaaDoorRows
import GoSem.ClaimSeven
namespace Go.Proofs.YtpjobllfiimdkaaDoor
namespace Rows

/-- THE TIED CARD OF 'frankinglaw43.ReceiptsBack'. -/
def receiptsBackCard : Claim7 := { stood := { row := receiptsBackRow, standIns := [], harness := (true, "6a74bf4fb0f8714b97243300452f04d842f8285a55243ab119fe20efcdbd8f15"), looks := true }, kinds := [], alts := [], laidByText := true, laidKinds := [.data], laidTests := true, laidLooks := .later }
def ReceiptsBackCardSaid : Prop := Claim7.holds Tryd.pinned (.plain (OpenSpec.ofChange receiptsBackSpec)) receiptsBackCard

/-- THE TIED CARD OF 'frankinglaw43.ReceiptsLike'. -/
def receiptsLikeCard : Claim7 := { stood := { row := receiptsLikeRow, standIns := [], harness := (true, "6a74bf4fb0f8714b97243300452f04d842f8285a55243ab119fe20efcdbd8f15"), looks := true }, kinds := [], alts := [], laidByText := true, laidKinds := [.data], laidTests := true, laidLooks := .later }
def ReceiptsLikeCardSaid : Prop := Claim7.holds Tryd.pinned (.plain (OpenSpec.ofChange receiptsLikeSpec)) receiptsLikeCard

/-- THE TIED CARD OF 'frankinglaw43.ReceiptsMeans'. -/
def receiptsMeansCard : Claim7 := { stood := { row := receiptsMeansRow, standIns := [], harness := (true, "6a74bf4fb0f8714b97243300452f04d842f8285a55243ab119fe20efcdbd8f15"), looks := true }, kinds := [], alts := [], laidByText := true, laidKinds := [.data], laidTests := true, laidLooks := .later }
def ReceiptsMeansCardSaid : Prop := Claim7.holds Tryd.pinned (.plain (OpenSpec.ofChange receiptsMeansSpec)) receiptsMeansCard

/-- THE SECOND FORM's CARD OF 'frankinglaw43.ReceiptsBack'. -/
def receiptsBackUptoCard : Claim7 := { stood := { row := receiptsBackUptoRow, standIns := [], harness := (true, "6a74bf4fb0f8714b97243300452f04d842f8285a55243ab119fe20efcdbd8f15"), looks := true }, kinds := [], alts := [], laidByText := true, laidKinds := [.data], laidTests := true, laidLooks := .later }
def ReceiptsBackUptoCardSaid : Prop := Claim7.holds Tryd.pinned (.plain (OpenSpec.upto receiptsBackSpec)) receiptsBackUptoCard

/-- THE SECOND FORM's CARD OF 'frankinglaw43.ReceiptsLike'. -/
def receiptsLikeUptoCard : Claim7 := { stood := { row := receiptsLikeUptoRow, standIns := [], harness := (true, "6a74bf4fb0f8714b97243300452f04d842f8285a55243ab119fe20efcdbd8f15"), looks := true }, kinds := [], alts := [], laidByText := true, laidKinds := [.data], laidTests := true, laidLooks := .later }
def ReceiptsLikeUptoCardSaid : Prop := Claim7.holds Tryd.pinned (.plain (OpenSpec.upto receiptsLikeSpec)) receiptsLikeUptoCard

/-- THE SECOND FORM's CARD OF 'frankinglaw43.ReceiptsMeans'. -/
def receiptsMeansUptoCard : Claim7 := { stood := { row := receiptsMeansUptoRow, standIns := [], harness := (true, "6a74bf4fb0f8714b97243300452f04d842f8285a55243ab119fe20efcdbd8f15"), looks := true }, kinds := [], alts := [], laidByText := true, laidKinds := [.data], laidTests := true, laidLooks := .later }
def ReceiptsMeansUptoCardSaid : Prop := Claim7.holds Tryd.pinned (.plain (OpenSpec.upto receiptsMeansSpec)) receiptsMeansUptoCard
end Rows
end Go.Proofs.YtpjobllfiimdkaaDoor
