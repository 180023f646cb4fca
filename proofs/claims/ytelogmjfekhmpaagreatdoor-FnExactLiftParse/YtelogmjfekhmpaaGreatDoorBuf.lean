import Derived.Test.YtelogmjfekhmpaaGreatDoorBufN
import Derived.Test.YtelogmjfekhmpaaGreatDoorText
import Derived.Test.YtelogmjfekhmpaaGreatDoorShelf
import Derived.Lib.AppendIntMem
namespace Go.Proofs.YtelogmjfekhmpaaGreatDoor
open Go.RowKit
theorem xjO (B:Nat) (w0 w:World) (v:Value) (l:List UInt8) (i:Int) (h0 : -9223372036854775808<=i) (h1:i<=9223372036854775807) (hb:Buf B w0 w v l) (hlen:l.length<=1000000)
  (htab:Lib.TabBelow Tryz.prog B w "internal/strconv.uint64pow10" .u64 Lib.pow10Tab) :
  Calls Tryz.prog 148 #[v,.int .i64 i,.int .i64 10] w fun e w'=>∃ v',e=.returned v' /\ Buf B w0 w' v' (l++Lib.itoa i):=by
 refine (Tryz.strconv_AppendInt_10 B l.length i h0 h1 v (Lib.byteCells l) w hb.own hb.le (by omega) htab).mono ?_
 rintro e w' ⟨v',rfl,aC,aA,aB⟩
 refine⟨v',rfl,?_,hb.below.trans aA,Nat.le_trans hb.le aA.size,hb.kept.trans aB⟩
 rw[List.length_append,Lib.byteCells_append]
 exact aC
end Go.Proofs.YtelogmjfekhmpaaGreatDoor
