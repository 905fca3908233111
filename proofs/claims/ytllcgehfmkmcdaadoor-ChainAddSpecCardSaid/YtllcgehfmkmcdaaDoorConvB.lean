/- A slice of bytes as a string. -/
import Derived.Laws.BytesArg
import Derived.Shelf.Bytes.SlSmallAll
import Derived.Test.YtllcgehfmkmcdaaDoorDigPad
import Derived.Test.YtllcgehfmkmcdaaDoorCodZ
namespace Go.Proofs.YtllcgehfmkmcdaaDoor
open Go.RowKit
set_option linter.unusedVariables false
set_option linter.unusedSimpArgs false

theorem conv_srcW {w : World} {p : Option Addr} {m c : Nat} {bs : List Int} (h : SrcW w p m c bs) : (convert 23 9 (.slice p m c)).run Tryd.prog w = .ok (.string (strB bs)) w := by
  rcases h with ⟨rfl, ⟨rfl, h0, rfl⟩ | ⟨b, off, rfl, hb, hc⟩⟩ | ⟨rfl, rfl, rfl, ad, rfl⟩
  · obtain rfl : bs = [] := List.eq_nil_of_length_eq_zero h0
    exact run_convert_bytes_zero w 23 5 Tryd.underlying23 Tryd.underlying5 none 0 _ Tryd.underlying9
  · exact run_convert_bytes_arg w 23 5 Tryd.underlying23 Tryd.underlying5 b off bs.length c bs rfl hc _ Tryd.underlying9
  · exact run_convert_bytes_zero w 23 5 Tryd.underlying23 Tryd.underlying5 (some ad) 0 _ Tryd.underlying9
end Go.Proofs.YtllcgehfmkmcdaaDoor
