import Derived.Test.YtelogmjfekhmpaaGreatDoorNB8
import Derived.Test.YtelogmjfekhmpaaGreatDoorNP0
import Derived.Test.YtelogmjfekhmpaaGreatDoorDem
import Derived.RegionDies
import Derived.Deep.RegionLaw
import Derived.Laws.IdiomStrings
import Derived.BigQuiet
import Derived.Lib.Hide
namespace Go.Proofs.YtelogmjfekhmpaaGreatDoor
set_option maxRecDepth 100000
set_option maxHeartbeats 16000000
open Go.RowKit
def qbV (code:Int) (a:Nat):List PanicEntry:=[{ v:=.iface 61 (.agg #[.int .i64 code,.int .i64 (a:Int)]),recovered:=false }]
structure Rdr (w:World) (R bk:Nat) (wv:Value) (ws:List ByteArray) (a c:Nat):Prop where
 box:w.heap[R]?=some (.cells #[.pointer (some ⟨bk,0,none⟩),wv,.int .i64 (a:Int),.int .i64 (c:Int)] 84 (0,0))
 words:StrsIn (fun b=>b<w.heap.size/\b≠R) w ws wv
 book:Book w bk
 nk:bk≠R
 short:∀ s,s∈ws->s.size<=3000
 few:ws.length<=3000
theorem Rdr.lt {w:World} {R bk:Nat} {wv:Value} {ws:List ByteArray} {a c:Nat} (h:Rdr w R bk wv ws a c):R<w.heap.size:=(Array.getElem?_eq_some_iff.1 h.box).1
theorem Rdr.keep {w w':World} {R bk:Nat} {wv:Value} {ws:List ByteArray} {a c a' c':Nat} (h:Rdr w R bk wv ws a c) (hn:Near R w w')
  (hb:w'.heap[R]?=some (.cells #[.pointer (some ⟨bk,0,none⟩),wv,.int .i64 (a':Int),.int .i64 (c':Int)] 84 (0,0))):Rdr w' R bk wv ws a' c':=
 ⟨hb,h.words.keep (fun b hb=>hn.block b hb.1 hb.2) (fun _ hb=>⟨Nat.lt_of_lt_of_le hb.1 hn.size,hb.2⟩),h.book.keep (hn.block bk h.book.lt h.nk),h.nk,h.short,h.few⟩
theorem Rdr.same {w w':World} {R bk:Nat} {wv:Value} {ws:List ByteArray} {a c:Nat} (h:Rdr w R bk wv ws a c) (hb:Below w.heap.size w w'):Rdr w' R bk wv ws a c:=h.keep (Near.of_below hb) ((hb.block R h.lt).trans h.box)
theorem Rdr.drewN {w:World} {R bk:Nat} {wv:Value} {ws:List ByteArray} {a c:Nat} (h:Rdr w R bk wv ws a c) (n:Nat):Rdr (w.drewN n) R bk wv ws a c:=⟨h.box,h.words,h.book,h.nk,h.short,h.few⟩
theorem Rdr.cells {w:World} {R bk:Nat} {wv:Value} {ws:List ByteArray} {a c:Nat} (h:Rdr w R bk wv ws a c) :
  (w.cell? ⟨R,0,none⟩=some (.pointer (some ⟨bk,0,none⟩))/\w.cell? ⟨R,1,none⟩=some wv/\w.cell? ⟨R,2,none⟩=some (.int .i64 (a:Int))/\w.cell? ⟨R,3,none⟩=some (.int .i64 (c:Int)))/\w.frozen? ⟨R,2,none⟩=false/\w.frozen? ⟨R,3,none⟩=false:=by
 have hb:=h.box
 refine⟨⟨?_,?_,?_,?_⟩,?_,?_⟩ <;> simp[World.cell?,World.frozen?,hb]
theorem Rdr.setAt {w:World} {R bk:Nat} {wv:Value} {ws:List ByteArray} {a c:Nat} (h:Rdr w R bk wv ws a c) (j:Nat):Rdr (w.setCell ⟨R,2,none⟩ (.int .i64 (j:Int))) R bk wv ws j c:=
 h.keep (Near.set R 2 w _) (by simp[World.setCell,Array.getElem?_modify,h.box])
theorem Rdr.setNo {w:World} {R bk:Nat} {wv:Value} {ws:List ByteArray} {a c:Nat} (h:Rdr w R bk wv ws a c) (j:Nat):Rdr (w.setCell ⟨R,3,none⟩ (.int .i64 (j:Int))) R bk wv ws a j:=
 h.keep (Near.set R 3 w _) (by simp[World.setCell,Array.getElem?_modify,h.box])
theorem qaK {R:Nat} {w w':World} (h:Near R w w') (n:Nat):Near R w (w'.drewN n):=⟨h.os,h.tape,h.output,h.size,h.block⟩
theorem qbM (R:Nat) (code:Int) (w:World):Calls Tryz.prog 52 #[.pointer (some ⟨R,0,none⟩),.bool true,.int .i64 code] w fun e w'=>e=.returned (.tuple #[])/\w'=w:=by
 go_enter Tryz.func52,Tryz.ntmps52
 go_wp2
 go_end0
 exact⟨rfl,rfl⟩
theorem qcG {w:World} {R bk:Nat} {wv:Value} {ws:List ByteArray} {a c:Nat} (h:Rdr w R bk wv ws a c) (code:Int):Calls Tryz.prog 52 #[.pointer (some ⟨R,0,none⟩),.bool false,.int .i64 code] w fun e w'=>e=.panicked (qbV code a)/\w'=w:=by
 obtain⟨⟨c0,c1,c2,c3⟩,-⟩:=h.cells
 clear h
 go_enter Tryz.func52,Tryz.ntmps52
 go_wp2_with fail
 exact⟨rfl,rfl,rfl⟩
theorem qgF {w:World} {R bk:Nat} {wv:Value} {ws:List ByteArray} {a c:Nat} (h:Rdr w R bk wv ws a c) (ha:a<ws.length) :
  Calls Tryz.prog 66 #[.pointer (some ⟨R,0,none⟩)] w fun e w'=>e=.returned (.string ws[a])/\∃ n,w'=w.drewN n:=by
 obtain⟨⟨c0,c1,c2,c3⟩,-⟩:=h.cells
 obtain⟨ao,cap,rfl,aD,-,hw⟩:=h.words
 obtain⟨b,off,rfl,-,hc⟩:=hw (by intro e;rw[e]at ha;simp at ha)
 have aE:=hc a ha
 have aA:=h.few
 generalize ws[a]=s at *
 obtain⟨ln,aB⟩:∃ ln,ws.length=ln:=⟨_,rfl⟩
 rw[aB]at ha c1 aA
 have aF:(a:Int)<(ln:Int):=by omega
 have aC:decide ((a:Int)<(ln:Int))=true:=decide_eq_true (by omega)
 clear h aB hc hw aD
 go_enter Tryz.func66,Tryz.ntmps66
 go_wp2_with fail
 go_quiet (first|(go_at_call 52;refine Calls.quiet_of_same (qbM _ _ _)))
 go_wp2_with fail
 go_quiet (fail)
 go_wp2_with fail
 go_ret
 exact⟨rfl,_,World.drewN_drewN ..⟩
theorem qjG {w:World} {R bk:Nat} {wv:Value} {ws:List ByteArray} {a c:Nat} (h:Rdr w R bk wv ws a c) (ha:¬ a<ws.length) :
  Calls Tryz.prog 66 #[.pointer (some ⟨R,0,none⟩)] w fun e w'=>e=.panicked (qbV 2 a)/\∃ n,w'=w.drewN n:=by
 obtain⟨⟨c0,c1,c2,c3⟩,-⟩:=h.cells
 obtain⟨ao,cap,rfl,aD,-,hw⟩:=h.words
 have aA:=h.few
 have HD:=Lib.hid (qcG (h.drewN 1) 2)
 obtain⟨ln,aB⟩:∃ ln,ws.length=ln:=⟨_,rfl⟩
 rw[aB]at ha c1 aA
 have aE:¬ (a:Int)<(ln:Int):=by omega
 have aC:decide ((a:Int)<(ln:Int))=false:=decide_eq_false (by omega)
 have HE:Hid (∃ n,w.drew=w.drewN n):=⟨1,rfl⟩
 clear h aB hw aD
 go_enter Tryz.func66,Tryz.ntmps66
 go_wp2_with fail
 go_region_dies
 all_goals (go_at_call 52;refine HD.out.mono ?_;rintro e w' ⟨rfl,rfl⟩;exact⟨rfl,rfl,HE.out⟩)
end Go.Proofs.YtelogmjfekhmpaaGreatDoor
