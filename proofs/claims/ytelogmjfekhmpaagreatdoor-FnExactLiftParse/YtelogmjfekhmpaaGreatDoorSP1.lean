import Derived.Test.YtelogmjfekhmpaaGreatDoorSP4
import Derived.Test.YtelogmjfekhmpaaGreatDoorMN0
import Derived.Deep.RegionLaw
import Derived.Laws.IdiomStrings
import Derived.BigQuiet
import Derived.Lib.Hide
namespace Go.Proofs.YtelogmjfekhmpaaGreatDoor
set_option maxRecDepth 100000
set_option maxHeartbeats 16000000
open Go.RowKit
structure Prs (w:World) (P:Nat) (wv:Value) (ws:List ByteArray) (a c:Nat) (fc fa:Int):Prop where
 box:w.heap[P]?=some (.cells #[wv,.int .i64 (a:Int),.int .i64 (c:Int),.int .i64 fc,.int .i64 fa] 37 (0,0))
 words:StrsIn (fun b=>b<w.heap.size/\b≠P) w ws wv
 short:∀ s,s∈ws->s.size<=3000
 few:ws.length<=3000
theorem Prs.lt {w:World} {P:Nat} {wv:Value} {ws:List ByteArray} {a c:Nat} {fc fa:Int} (h:Prs w P wv ws a c fc fa):P<w.heap.size:=(Array.getElem?_eq_some_iff.1 h.box).1
theorem Prs.keep {w w':World} {P:Nat} {wv:Value} {ws:List ByteArray} {a c a' c':Nat} {fc fa fc' fa':Int} (h:Prs w P wv ws a c fc fa) (hn:Near P w w')
  (hb:w'.heap[P]?=some (.cells #[wv,.int .i64 (a':Int),.int .i64 (c':Int),.int .i64 fc',.int .i64 fa'] 37 (0,0))):Prs w' P wv ws a' c' fc' fa':=
 ⟨hb,h.words.keep (fun b hb=>hn.block b hb.1 hb.2) (fun _ hb=>⟨Nat.lt_of_lt_of_le hb.1 hn.size,hb.2⟩),h.short,h.few⟩
theorem Prs.same {w w':World} {P:Nat} {wv:Value} {ws:List ByteArray} {a c:Nat} {fc fa:Int} (h:Prs w P wv ws a c fc fa) (hb:Below w.heap.size w w'):Prs w' P wv ws a c fc fa:=h.keep (Near.of_below hb) ((hb.block P h.lt).trans h.box)
theorem Prs.drewN {w:World} {P:Nat} {wv:Value} {ws:List ByteArray} {a c:Nat} {fc fa:Int} (h:Prs w P wv ws a c fc fa) (n:Nat):Prs (w.drewN n) P wv ws a c fc fa:=⟨h.box,h.words,h.short,h.few⟩
theorem Prs.cells {w:World} {P:Nat} {wv:Value} {ws:List ByteArray} {a c:Nat} {fc fa:Int} (h:Prs w P wv ws a c fc fa) :
  (w.cell? ⟨P,0,none⟩=some wv/\w.cell? ⟨P,1,none⟩=some (.int .i64 (a:Int))/\w.cell? ⟨P,2,none⟩=some (.int .i64 (c:Int))/\w.cell? ⟨P,3,none⟩=some (.int .i64 fc)/\w.cell? ⟨P,4,none⟩=some (.int .i64 fa))/\∀ o,w.frozen? ⟨P,o,none⟩=false:=by
 have hb:=h.box
 refine⟨⟨?_,?_,?_,?_,?_⟩,fun o=>?_⟩ <;> simp[World.cell?,World.frozen?,hb]
theorem Prs.setAt {w:World} {P:Nat} {wv:Value} {ws:List ByteArray} {a c:Nat} {fc fa:Int} (h:Prs w P wv ws a c fc fa) (j:Nat):Prs (w.setCell ⟨P,1,none⟩ (.int .i64 (j:Int))) P wv ws j c fc fa:=
 h.keep (Near.set P 1 w _) (by simp[World.setCell,Array.getElem?_modify,h.box])
theorem Prs.setNo {w:World} {P:Nat} {wv:Value} {ws:List ByteArray} {a c:Nat} {fc fa:Int} (h:Prs w P wv ws a c fc fa) (j:Nat):Prs (w.setCell ⟨P,2,none⟩ (.int .i64 (j:Int))) P wv ws a j fc fa:=
 h.keep (Near.set P 2 w _) (by simp[World.setCell,Array.getElem?_modify,h.box])
theorem Prs.setFt {w:World} {P:Nat} {wv:Value} {ws:List ByteArray} {a c:Nat} {fc fa:Int} (h:Prs w P wv ws a c fc fa) (x y:Int):Prs ((w.setCell ⟨P,3,none⟩ (.int .i64 x)).setCell ⟨P,4,none⟩ (.int .i64 y)) P wv ws a c x y:=
 h.keep ((Near.set P 3 w _).trans (Near.set P 4 _ _)) (by simp[World.setCell,Array.getElem?_modify,h.box])
theorem qbH {P:Nat} {w w':World} (h:Near P w w') (n:Nat):Near P w (w'.drewN n):=⟨h.os,h.tape,h.output,h.size,h.block⟩
def PPost (P:Nat) (wv:Value) (ws:List ByteArray) (a c:Nat) (fc fa:Int) (w w':World):Prop:=Near P w w' /\ Prs w' P wv ws a c fc fa
theorem qdE {w:World} {P:Nat} {wv:Value} {ws:List ByteArray} {a c:Nat} {fc fa:Int} (h:Prs w P wv ws a c fc fa) (code:Int) :
  Calls Tryz.prog 12 #[.pointer (some ⟨P,0,none⟩),.int .i64 code] w fun e w'=>e=.returned (.tuple #[])/\PPost P wv ws a c (ftC fc code) (ftA fc fa a) w w':=by
 obtain⟨⟨c0,c1,c2,c3,c4⟩,hf⟩:=h.cells
 have f3:=hf 3
 have f4:=hf 4
 by_cases h0:fc=0
 ·subst h0
  have HE:Hid (PPost P wv ws a c (ftC 0 code) (ftA 0 fa a) w ((w.setCell ⟨P,3,none⟩ (.int .i64 code)).setCell ⟨P,4,none⟩ (.int .i64 (a:Int)))):=⟨(Near.set P 3 w _).trans (Near.set P 4 _ _),h.setFt code a⟩
  clear h hf
  go_enter Tryz.func12,Tryz.ntmps12
  go_wp2_with fail
  go_end0
  exact⟨rfl,HE.out⟩
 ·have aA:(fc==0)=false:=by simp[h0]
  have HE:Hid (PPost P wv ws a c (ftC fc code) (ftA fc fa a) w w):=⟨Near.refl P w,by unfold ftC ftA;rw[if_neg h0,if_neg h0];exact h⟩
  clear h hf
  go_enter Tryz.func12,Tryz.ntmps12
  go_wp2_with fail
  go_end0
  exact⟨rfl,HE.out⟩
theorem qfE {w:World} {P:Nat} {wv:Value} {ws:List ByteArray} {a c:Nat} {fc fa:Int} (h:Prs w P wv ws a c fc fa) :
  Calls Tryz.prog 21 #[.pointer (some ⟨P,0,none⟩)] w fun e w'=>e=.returned (.string (wordD ws a))/\∃ n,w'=w.drewN n:=by
 obtain⟨⟨c0,c1,c2,c3,c4⟩,-⟩:=h.cells
 obtain⟨ao,cap,rfl,aE,-,hw⟩:=h.words
 have aB:=h.few
 by_cases aA:a<ws.length
 ·obtain⟨b,off,rfl,-,hc⟩:=hw (by intro e;rw[e]at aA;simp at aA)
  have aG:=hc a aA
  have HW:Hid (wordD ws a=ws[a]):=qdI (List.getElem?_eq_getElem aA)
  generalize ws[a]=s at *
  obtain⟨ln,aC⟩:∃ ln,ws.length=ln:=⟨_,rfl⟩
  rw[aC]at aA c0 aB
  have aF:(a:Int)<(ln:Int):=by omega
  have aD:decide ((a:Int)<(ln:Int))=true:=decide_eq_true (by omega)
  rw[HW.out]
  clear h aC hc hw aE
  go_enter Tryz.func21,Tryz.ntmps21
  go_wp2_with fail
  go_quiet (fail)
  go_wp2_with fail
  go_quiet (fail)
  go_wp2_with fail
  go_ret
  exact⟨rfl,_,World.drewN_drewN ..⟩
 ·have HW:Hid (wordD ws a=⟨#[]⟩):=qbO (List.getElem?_eq_none (by omega))
  obtain⟨ln,aC⟩:∃ ln,ws.length=ln:=⟨_,rfl⟩
  rw[aC]at aA c0 aB
  have aF:¬ (a:Int)<(ln:Int):=by omega
  have aD:decide ((a:Int)<(ln:Int))=false:=decide_eq_false (by omega)
  rw[HW.out]
  clear h aC hw aE
  go_enter Tryz.func21,Tryz.ntmps21
  go_wp2_with fail
  go_quiet (fail)
  go_wp2_with fail
  go_ret
  exact⟨rfl,_,rfl⟩
end Go.Proofs.YtelogmjfekhmpaaGreatDoor
