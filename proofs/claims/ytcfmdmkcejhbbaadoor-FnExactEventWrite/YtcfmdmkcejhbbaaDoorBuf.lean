/-
  A number into a buffer of bytes that a call owns.
-/
import Derived.Test.YtcfmdmkcejhbbaaDoorBufN
import Derived.Test.YtcfmdmkcejhbbaaDoorText
import Derived.Test.YtcfmdmkcejhbbaaDoorShelf
import Derived.Lib.AppendIntMem
namespace Go.Proofs.YtcfmdmkcejhbbaaDoor
open Go.RowKit

/-- A number into the buffer. -/
theorem buf_int (B : Nat) (w0 w : World) (v : Value) (l : List UInt8) (i : Int) (h0 : -9223372036854775808 ≤ i) (h1 : i ≤ 9223372036854775807) (hb : Buf B w0 w v l) (hlen : l.length ≤ 1000000)
    (htab : Lib.TabBelow Tryd.prog B w "internal/strconv.uint64pow10" .u64 Lib.pow10Tab) :
    Calls Tryd.prog 38 #[v, .int .i64 i, .int .i64 10] w fun e w' => ∃ v', e = .returned v' ∧ Buf B w0 w' v' (l ++ Lib.itoa i) := by
  refine (Tryd.strconv_AppendInt_10 B l.length i h0 h1 v (Lib.byteCells l) w hb.own hb.le (by omega) htab).mono ?_
  rintro e w' ⟨v', rfl, hown, hbel, hkept⟩
  refine ⟨v', rfl, ?_, hb.below.trans hbel, Nat.le_trans hb.le hbel.size, hb.kept.trans hkept⟩
  rw [List.length_append, Lib.byteCells_append]
  exact hown

end Go.Proofs.YtcfmdmkcejhbbaaDoor
