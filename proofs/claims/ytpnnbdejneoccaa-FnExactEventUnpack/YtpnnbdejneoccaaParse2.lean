/-
  Plain mathematics: what has a text is read from it; what is read has that text.
-/
import Derived.Test.YtpnnbdejneoccaaText
import Derived.Test.YtpnnbdejneoccaaB1
import Derived.Lib.ItoaMem
import Derived.Laws.Closers25b
namespace Go.Proofs.Ytpnnbdejneoccaa
open Go.RowKit

theorem ba_empty {x : ByteArray} (h : x.toList.isEmpty = true) : x = ByteArray.empty :=
  (toList_nil_iff_emptyBytes x).1 (by simpa using h)

end Go.Proofs.Ytpnnbdejneoccaa
