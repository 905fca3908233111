/-
  NARROWER THAN 'FOR EVERY INPUT', by the rows' own cells (each row's printed sentence says how): SignSpec: laid · SignRight: laid · SignMeans: laid · SignTwice: laid · BlindRight: laid · BlindAny: laid · BlindFinished: laid · BlindModulo: laid.
  DERIVED. THE GIVEN ROWS OF THIS SEAT. 8 by the template 'for every input the law returns true; each argument reads behind the call as it read before'; 0 by the template 'total and deterministic' (their statements: YthhlpkppcbillaaDoorTotals.lean).
  GIVEN WITH THE SEED: the statements are not yours to turn. If you find one false, say at which input.
  Laid BY PROGRAM, IN A SANDBOX (cutbox-rows.mjs): the forced cells as the released guide's own fill.sh prints them over the translation b73d50f7c5f395b1… (all of the seat's roots in one cut). By AI agents, Wed Nov 11 2026. No macro, syntax, notation, axiom, sorry.
-/
import Derived.Test.YthhlpkppcbillaaDoorChecked
import GoSem.Claim
import GoSem.ClaimJoined
import GoSem.ClaimMapViews
import Derived.JoinedTies
import Derived.KernelRfl
namespace Go.Proofs.YthhlpkppcbillaaDoor
/- THE CELL 'sum', in the pinned program and in every row, IS THE sha256 OF THE DUMP (.gsa) THAT YthhlpkppcbillaaDoorProg.lean LOADS. Nothing in Lean hashes anything: it is a label: what it is worth is what the hold of that sum in a sandbox is worth. -/
noncomputable def Tryd.pinned : Pinned := { name := "ythhlpkppcbillaadoor", sum := "b73d50f7c5f395b15ad335d87fdb5caefdbcea6297550ebaeb137482db094b27", checked := Tryd.checked }
namespace Rows
def none {H : Type} : Left H := { results := [], args := [] }

/- WHAT THE LISTED PACKAGE-LEVEL VARIABLES READ AS WHEN THE CALL BEGINS. Each datum BY PROGRAM (the guide's laid-datum.mjs) off the statement by which the dump's own 'gosem.cut.vars' lays the variable. In a bare row this is a premise. The card (YthhlpkppcbillaaDoorCards.lean) ties it to the program's text. -/
def laid_franking_digest_keys {H : Type} : DataW H := .agg [.lit (.int .u32 1116352408), .lit (.int .u32 1899447441), .lit (.int .u32 3049323471), .lit (.int .u32 3921009573), .lit (.int .u32 961987163), .lit (.int .u32 1508970993), .lit (.int .u32 2453635748), .lit (.int .u32 2870763221), .lit (.int .u32 3624381080), .lit (.int .u32 310598401), .lit (.int .u32 607225278), .lit (.int .u32 1426881987), .lit (.int .u32 1925078388), .lit (.int .u32 2162078206), .lit (.int .u32 2614888103), .lit (.int .u32 3248222580), .lit (.int .u32 3835390401), .lit (.int .u32 4022224774), .lit (.int .u32 264347078), .lit (.int .u32 604807628), .lit (.int .u32 770255983), .lit (.int .u32 1249150122), .lit (.int .u32 1555081692), .lit (.int .u32 1996064986), .lit (.int .u32 2554220882), .lit (.int .u32 2821834349), .lit (.int .u32 2952996808), .lit (.int .u32 3210313671), .lit (.int .u32 3336571891), .lit (.int .u32 3584528711), .lit (.int .u32 113926993), .lit (.int .u32 338241895), .lit (.int .u32 666307205), .lit (.int .u32 773529912), .lit (.int .u32 1294757372), .lit (.int .u32 1396182291), .lit (.int .u32 1695183700), .lit (.int .u32 1986661051), .lit (.int .u32 2177026350), .lit (.int .u32 2456956037), .lit (.int .u32 2730485921), .lit (.int .u32 2820302411), .lit (.int .u32 3259730800), .lit (.int .u32 3345764771), .lit (.int .u32 3516065817), .lit (.int .u32 3600352804), .lit (.int .u32 4094571909), .lit (.int .u32 275423344), .lit (.int .u32 430227734), .lit (.int .u32 506948616), .lit (.int .u32 659060556), .lit (.int .u32 883997877), .lit (.int .u32 958139571), .lit (.int .u32 1322822218), .lit (.int .u32 1537002063), .lit (.int .u32 1747873779), .lit (.int .u32 1955562222), .lit (.int .u32 2024104815), .lit (.int .u32 2227730452), .lit (.int .u32 2361852424), .lit (.int .u32 2428436474), .lit (.int .u32 2756734187), .lit (.int .u32 3204031479), .lit (.int .u32 3329325298)]

/-- 'frankinglaw11.SignSpec': WHATEVER THE INPUT: true; the input reads as it did. -/
def signSpecSpec : ChangeSpec := { name := "signSpec", fn := fun _ => fun
  | [d1, d2, d3, d4] => { results := [.lit (.bool true)], args := [d1, d2, d3, d4] }
  | _ => none }
def signSpecRow : OpenClaim := { program := "ythhlpkppcbillaadoor", sum := "b73d50f7c5f395b15ad335d87fdb5caefdbcea6297550ebaeb137482db094b27", func := "franking/frankinglaw11.SignSpec", spec := "signSpec", unfollowed := true, recurses := true, named := ["franking/digest.keys"], apart := false, laid := [("franking/digest.keys", laid_franking_digest_keys)] }
def SignSpecSaid : Prop := signSpecRow.holds Tryd.pinned (OpenSpec.ofChange signSpecSpec)

/-- ITS FALSE NEIGHBOUR: 'it returns false'. Refute it at one input. -/
def signSpecWrong : ChangeSpec := { name := "signSpec", fn := fun _ => fun
  | [d1, d2, d3, d4] => { results := [.lit (.bool false)], args := [d1, d2, d3, d4] }
  | _ => none }
def SignSpecWrongFalsely : Prop := signSpecRow.holds Tryd.pinned (OpenSpec.ofChange signSpecWrong)

/-- 'frankinglaw11.SignRight': WHATEVER THE INPUT: true; the input reads as it did. -/
def signRightSpec : ChangeSpec := { name := "signRight", fn := fun _ => fun
  | [d1, d2] => { results := [.lit (.bool true)], args := [d1, d2] }
  | _ => none }
def signRightRow : OpenClaim := { program := "ythhlpkppcbillaadoor", sum := "b73d50f7c5f395b15ad335d87fdb5caefdbcea6297550ebaeb137482db094b27", func := "franking/frankinglaw11.SignRight", spec := "signRight", unfollowed := true, recurses := true, named := ["franking/digest.keys"], apart := false, laid := [("franking/digest.keys", laid_franking_digest_keys)] }
def SignRightSaid : Prop := signRightRow.holds Tryd.pinned (OpenSpec.ofChange signRightSpec)

/-- ITS FALSE NEIGHBOUR: 'it returns false'. Refute it at one input. -/
def signRightWrong : ChangeSpec := { name := "signRight", fn := fun _ => fun
  | [d1, d2] => { results := [.lit (.bool false)], args := [d1, d2] }
  | _ => none }
def SignRightWrongFalsely : Prop := signRightRow.holds Tryd.pinned (OpenSpec.ofChange signRightWrong)

/-- 'frankinglaw11.SignMeans': WHATEVER THE INPUT: true; the input reads as it did. -/
def signMeansSpec : ChangeSpec := { name := "signMeans", fn := fun _ => fun
  | [d1, d2, d3] => { results := [.lit (.bool true)], args := [d1, d2, d3] }
  | _ => none }
def signMeansRow : OpenClaim := { program := "ythhlpkppcbillaadoor", sum := "b73d50f7c5f395b15ad335d87fdb5caefdbcea6297550ebaeb137482db094b27", func := "franking/frankinglaw11.SignMeans", spec := "signMeans", unfollowed := true, recurses := true, named := ["franking/digest.keys"], apart := false, laid := [("franking/digest.keys", laid_franking_digest_keys)] }
def SignMeansSaid : Prop := signMeansRow.holds Tryd.pinned (OpenSpec.ofChange signMeansSpec)

/-- ITS FALSE NEIGHBOUR: 'it returns false'. Refute it at one input. -/
def signMeansWrong : ChangeSpec := { name := "signMeans", fn := fun _ => fun
  | [d1, d2, d3] => { results := [.lit (.bool false)], args := [d1, d2, d3] }
  | _ => none }
def SignMeansWrongFalsely : Prop := signMeansRow.holds Tryd.pinned (OpenSpec.ofChange signMeansWrong)

/-- 'frankinglaw11.SignTwice': WHATEVER THE INPUT: true; the input reads as it did. -/
def signTwiceSpec : ChangeSpec := { name := "signTwice", fn := fun _ => fun
  | [d1, d2, d3, d4, d5, d6] => { results := [.lit (.bool true)], args := [d1, d2, d3, d4, d5, d6] }
  | _ => none }
def signTwiceRow : OpenClaim := { program := "ythhlpkppcbillaadoor", sum := "b73d50f7c5f395b15ad335d87fdb5caefdbcea6297550ebaeb137482db094b27", func := "franking/frankinglaw11.SignTwice", spec := "signTwice", unfollowed := true, recurses := true, named := ["franking/digest.keys"], apart := false, laid := [("franking/digest.keys", laid_franking_digest_keys)] }
def SignTwiceSaid : Prop := signTwiceRow.holds Tryd.pinned (OpenSpec.ofChange signTwiceSpec)

/-- ITS FALSE NEIGHBOUR: 'it returns false'. Refute it at one input. -/
def signTwiceWrong : ChangeSpec := { name := "signTwice", fn := fun _ => fun
  | [d1, d2, d3, d4, d5, d6] => { results := [.lit (.bool false)], args := [d1, d2, d3, d4, d5, d6] }
  | _ => none }
def SignTwiceWrongFalsely : Prop := signTwiceRow.holds Tryd.pinned (OpenSpec.ofChange signTwiceWrong)

/-- 'frankinglaw15.BlindRight': WHATEVER THE INPUT: true; the input reads as it did. -/
def blindRightSpec : ChangeSpec := { name := "blindRight", fn := fun _ => fun
  | [d1, d2, d3, d4, d5] => { results := [.lit (.bool true)], args := [d1, d2, d3, d4, d5] }
  | _ => none }
def blindRightRow : OpenClaim := { program := "ythhlpkppcbillaadoor", sum := "b73d50f7c5f395b15ad335d87fdb5caefdbcea6297550ebaeb137482db094b27", func := "franking/frankinglaw15.BlindRight", spec := "blindRight", unfollowed := true, recurses := true, named := ["franking/digest.keys"], apart := false, laid := [("franking/digest.keys", laid_franking_digest_keys)] }
def BlindRightSaid : Prop := blindRightRow.holds Tryd.pinned (OpenSpec.ofChange blindRightSpec)

/-- ITS FALSE NEIGHBOUR: 'it returns false'. Refute it at one input. -/
def blindRightWrong : ChangeSpec := { name := "blindRight", fn := fun _ => fun
  | [d1, d2, d3, d4, d5] => { results := [.lit (.bool false)], args := [d1, d2, d3, d4, d5] }
  | _ => none }
def BlindRightWrongFalsely : Prop := blindRightRow.holds Tryd.pinned (OpenSpec.ofChange blindRightWrong)

/-- 'frankinglaw15.BlindAny': WHATEVER THE INPUT: true; the input reads as it did. -/
def blindAnySpec : ChangeSpec := { name := "blindAny", fn := fun _ => fun
  | [d1, d2, d3, d4, d5, d6] => { results := [.lit (.bool true)], args := [d1, d2, d3, d4, d5, d6] }
  | _ => none }
def blindAnyRow : OpenClaim := { program := "ythhlpkppcbillaadoor", sum := "b73d50f7c5f395b15ad335d87fdb5caefdbcea6297550ebaeb137482db094b27", func := "franking/frankinglaw15.BlindAny", spec := "blindAny", unfollowed := true, recurses := true, named := ["franking/digest.keys"], apart := false, laid := [("franking/digest.keys", laid_franking_digest_keys)] }
def BlindAnySaid : Prop := blindAnyRow.holds Tryd.pinned (OpenSpec.ofChange blindAnySpec)

/-- ITS FALSE NEIGHBOUR: 'it returns false'. Refute it at one input. -/
def blindAnyWrong : ChangeSpec := { name := "blindAny", fn := fun _ => fun
  | [d1, d2, d3, d4, d5, d6] => { results := [.lit (.bool false)], args := [d1, d2, d3, d4, d5, d6] }
  | _ => none }
def BlindAnyWrongFalsely : Prop := blindAnyRow.holds Tryd.pinned (OpenSpec.ofChange blindAnyWrong)

/-- 'frankinglaw15.BlindFinished': WHATEVER THE INPUT: true; the input reads as it did. -/
def blindFinishedSpec : ChangeSpec := { name := "blindFinished", fn := fun _ => fun
  | [d1, d2, d3, d4, d5, d6] => { results := [.lit (.bool true)], args := [d1, d2, d3, d4, d5, d6] }
  | _ => none }
def blindFinishedRow : OpenClaim := { program := "ythhlpkppcbillaadoor", sum := "b73d50f7c5f395b15ad335d87fdb5caefdbcea6297550ebaeb137482db094b27", func := "franking/frankinglaw15.BlindFinished", spec := "blindFinished", unfollowed := true, recurses := true, named := ["franking/digest.keys"], apart := false, laid := [("franking/digest.keys", laid_franking_digest_keys)] }
def BlindFinishedSaid : Prop := blindFinishedRow.holds Tryd.pinned (OpenSpec.ofChange blindFinishedSpec)

/-- ITS FALSE NEIGHBOUR: 'it returns false'. Refute it at one input. -/
def blindFinishedWrong : ChangeSpec := { name := "blindFinished", fn := fun _ => fun
  | [d1, d2, d3, d4, d5, d6] => { results := [.lit (.bool false)], args := [d1, d2, d3, d4, d5, d6] }
  | _ => none }
def BlindFinishedWrongFalsely : Prop := blindFinishedRow.holds Tryd.pinned (OpenSpec.ofChange blindFinishedWrong)

/-- 'frankinglaw15.BlindModulo': WHATEVER THE INPUT: true; the input reads as it did. -/
def blindModuloSpec : ChangeSpec := { name := "blindModulo", fn := fun _ => fun
  | [d1, d2, d3, d4, d5, d6, d7, d8, d9] => { results := [.lit (.bool true)], args := [d1, d2, d3, d4, d5, d6, d7, d8, d9] }
  | _ => none }
def blindModuloRow : OpenClaim := { program := "ythhlpkppcbillaadoor", sum := "b73d50f7c5f395b15ad335d87fdb5caefdbcea6297550ebaeb137482db094b27", func := "franking/frankinglaw15.BlindModulo", spec := "blindModulo", unfollowed := true, recurses := true, named := ["franking/digest.keys"], apart := false, laid := [("franking/digest.keys", laid_franking_digest_keys)] }
def BlindModuloSaid : Prop := blindModuloRow.holds Tryd.pinned (OpenSpec.ofChange blindModuloSpec)

/-- ITS FALSE NEIGHBOUR: 'it returns false'. Refute it at one input. -/
def blindModuloWrong : ChangeSpec := { name := "blindModulo", fn := fun _ => fun
  | [d1, d2, d3, d4, d5, d6, d7, d8, d9] => { results := [.lit (.bool false)], args := [d1, d2, d3, d4, d5, d6, d7, d8, d9] }
  | _ => none }
def BlindModuloWrongFalsely : Prop := blindModuloRow.holds Tryd.pinned (OpenSpec.ofChange blindModuloWrong)

/- THE SECOND FORM. 'bulk': how many values and letters a reading holds, each counted each time it is reached (what is shared counts as often as it is met; a slice's spare places count too). A statement '..UptoSaid' is the law's where the arguments, and the package variables that the reading takes, are together of bulk at most 1048576: NARROWER than '..Said'. Prove '..Said' where nothing that the law and all that it calls make is longer than what came in: it says more and counts as full. Else prove '..UptoSaid'. A law counts once. -/
mutual
def uptoBulk {H : Type} : DataW H → Nat
  | .lit (.string bytes) => bytes.length + 1
  | .lit _ => 1
  | .nil => 1
  | .ptr d => uptoBulk d + 1
  | .slice elems spare => uptoBulkAll elems + uptoBulkAll spare + 1
  | .agg parts => uptoBulkAll parts + 1
  | .iface _ d => uptoBulk d + 1
  | .map entries => uptoBulkEntries entries + 1
  | .held _ => 1
def uptoBulkAll {H : Type} : List (DataW H) → Nat
  | [] => 0
  | d :: r => uptoBulk d + uptoBulkAll r
def uptoBulkEntries {H : Type} : List (Lit × DataW H) → Nat
  | [] => 0
  | x :: r => uptoBulkEntry x + uptoBulkEntries r
def uptoBulkEntry {H : Type} : Lit × DataW H → Nat
  | (.string bytes, d) => bytes.length + uptoBulk d + 1
  | (_, d) => uptoBulk d + 1
 end
def uptoSmall : (H : Type) → List (DataW H) → Bool := fun _ ds => decide (uptoBulkAll ds ≤ 1048576)
def OpenSpec.upto (s : _root_.Go.ChangeSpec) : _root_.Go.OpenSpec := { _root_.Go.OpenSpec.ofChange s with cond := some uptoSmall }

/-- 'frankinglaw11.SignSpec', WHERE WHAT IT READS IS OF BULK AT MOST 1048576: true; the input reads as it did. -/
def signSpecUptoRow : OpenClaim := { program := "ythhlpkppcbillaadoor", sum := "b73d50f7c5f395b15ad335d87fdb5caefdbcea6297550ebaeb137482db094b27", func := "franking/frankinglaw11.SignSpec", spec := "signSpec", unfollowed := true, recurses := true, named := ["franking/digest.keys"], apart := false, laid := [("franking/digest.keys", laid_franking_digest_keys)], narrowed := true }
def SignSpecUptoSaid : Prop := signSpecUptoRow.holds Tryd.pinned (OpenSpec.upto signSpecSpec)

/-- 'frankinglaw11.SignRight', WHERE WHAT IT READS IS OF BULK AT MOST 1048576: true; the input reads as it did. -/
def signRightUptoRow : OpenClaim := { program := "ythhlpkppcbillaadoor", sum := "b73d50f7c5f395b15ad335d87fdb5caefdbcea6297550ebaeb137482db094b27", func := "franking/frankinglaw11.SignRight", spec := "signRight", unfollowed := true, recurses := true, named := ["franking/digest.keys"], apart := false, laid := [("franking/digest.keys", laid_franking_digest_keys)], narrowed := true }
def SignRightUptoSaid : Prop := signRightUptoRow.holds Tryd.pinned (OpenSpec.upto signRightSpec)

/-- 'frankinglaw11.SignMeans', WHERE WHAT IT READS IS OF BULK AT MOST 1048576: true; the input reads as it did. -/
def signMeansUptoRow : OpenClaim := { program := "ythhlpkppcbillaadoor", sum := "b73d50f7c5f395b15ad335d87fdb5caefdbcea6297550ebaeb137482db094b27", func := "franking/frankinglaw11.SignMeans", spec := "signMeans", unfollowed := true, recurses := true, named := ["franking/digest.keys"], apart := false, laid := [("franking/digest.keys", laid_franking_digest_keys)], narrowed := true }
def SignMeansUptoSaid : Prop := signMeansUptoRow.holds Tryd.pinned (OpenSpec.upto signMeansSpec)

/-- 'frankinglaw11.SignTwice', WHERE WHAT IT READS IS OF BULK AT MOST 1048576: true; the input reads as it did. -/
def signTwiceUptoRow : OpenClaim := { program := "ythhlpkppcbillaadoor", sum := "b73d50f7c5f395b15ad335d87fdb5caefdbcea6297550ebaeb137482db094b27", func := "franking/frankinglaw11.SignTwice", spec := "signTwice", unfollowed := true, recurses := true, named := ["franking/digest.keys"], apart := false, laid := [("franking/digest.keys", laid_franking_digest_keys)], narrowed := true }
def SignTwiceUptoSaid : Prop := signTwiceUptoRow.holds Tryd.pinned (OpenSpec.upto signTwiceSpec)

/-- 'frankinglaw15.BlindRight', WHERE WHAT IT READS IS OF BULK AT MOST 1048576: true; the input reads as it did. -/
def blindRightUptoRow : OpenClaim := { program := "ythhlpkppcbillaadoor", sum := "b73d50f7c5f395b15ad335d87fdb5caefdbcea6297550ebaeb137482db094b27", func := "franking/frankinglaw15.BlindRight", spec := "blindRight", unfollowed := true, recurses := true, named := ["franking/digest.keys"], apart := false, laid := [("franking/digest.keys", laid_franking_digest_keys)], narrowed := true }
def BlindRightUptoSaid : Prop := blindRightUptoRow.holds Tryd.pinned (OpenSpec.upto blindRightSpec)

/-- 'frankinglaw15.BlindAny', WHERE WHAT IT READS IS OF BULK AT MOST 1048576: true; the input reads as it did. -/
def blindAnyUptoRow : OpenClaim := { program := "ythhlpkppcbillaadoor", sum := "b73d50f7c5f395b15ad335d87fdb5caefdbcea6297550ebaeb137482db094b27", func := "franking/frankinglaw15.BlindAny", spec := "blindAny", unfollowed := true, recurses := true, named := ["franking/digest.keys"], apart := false, laid := [("franking/digest.keys", laid_franking_digest_keys)], narrowed := true }
def BlindAnyUptoSaid : Prop := blindAnyUptoRow.holds Tryd.pinned (OpenSpec.upto blindAnySpec)

/-- 'frankinglaw15.BlindFinished', WHERE WHAT IT READS IS OF BULK AT MOST 1048576: true; the input reads as it did. -/
def blindFinishedUptoRow : OpenClaim := { program := "ythhlpkppcbillaadoor", sum := "b73d50f7c5f395b15ad335d87fdb5caefdbcea6297550ebaeb137482db094b27", func := "franking/frankinglaw15.BlindFinished", spec := "blindFinished", unfollowed := true, recurses := true, named := ["franking/digest.keys"], apart := false, laid := [("franking/digest.keys", laid_franking_digest_keys)], narrowed := true }
def BlindFinishedUptoSaid : Prop := blindFinishedUptoRow.holds Tryd.pinned (OpenSpec.upto blindFinishedSpec)

/-- 'frankinglaw15.BlindModulo', WHERE WHAT IT READS IS OF BULK AT MOST 1048576: true; the input reads as it did. -/
def blindModuloUptoRow : OpenClaim := { program := "ythhlpkppcbillaadoor", sum := "b73d50f7c5f395b15ad335d87fdb5caefdbcea6297550ebaeb137482db094b27", func := "franking/frankinglaw15.BlindModulo", spec := "blindModulo", unfollowed := true, recurses := true, named := ["franking/digest.keys"], apart := false, laid := [("franking/digest.keys", laid_franking_digest_keys)], narrowed := true }
def BlindModuloUptoSaid : Prop := blindModuloUptoRow.holds Tryd.pinned (OpenSpec.upto blindModuloSpec)

end Rows
end Go.Proofs.YthhlpkppcbillaaDoor
