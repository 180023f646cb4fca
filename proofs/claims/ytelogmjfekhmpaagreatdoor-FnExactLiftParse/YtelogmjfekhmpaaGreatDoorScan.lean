import Derived.Test.YtelogmjfekhmpaaGreatDoorEat
import Derived.Test.YtelogmjfekhmpaaGreatDoorNear
import Derived.Test.YtelogmjfekhmpaaGreatDoorShelf
import Derived.Test.YtelogmjfekhmpaaGreatDoorDem
import Derived.Lib.IndexLaws
import Derived.Laws.IdiomStrings
import Derived.Deep.QuietTactic
import Derived.BigQuiet
namespace Go.Proofs.YtelogmjfekhmpaaGreatDoor
set_option maxRecDepth 100000
set_option maxHeartbeats 16000000
open Go.RowKit
structure Sc (w:World) (R:Nat) (s:ByteArray) (i:Nat):Prop where
 c0:w.cell? ⟨R,0,none⟩=some (.string s)
 c1:w.cell? ⟨R,1,none⟩=some (.int .i64 (i:Int))
 f1:w.frozen? ⟨R,1,none⟩=false
structure Scan (R:Nat) (w w':World) (q:Nat):Prop where
 near:Near R w w'
 cells:∀ o,o≠1->w'.cell? ⟨R,o,none⟩=w.cell? ⟨R,o,none⟩
 at1:w'.cell? ⟨R,1,none⟩=some (.int .i64 (q:Int))
 fz:∀ o,w'.frozen? ⟨R,o,none⟩=w.frozen? ⟨R,o,none⟩
theorem Scan.sc {R:Nat} {w w':World} {q i:Nat} {s:ByteArray} (h:Scan R w w' q) (k:Sc w R s i):Sc w' R s q:=⟨(h.cells 0 (by decide)).trans k.c0,h.at1,(h.fz 1).trans k.f1⟩
theorem Scan.trans {R:Nat} {a b c:World} {p q:Nat} (h:Scan R a b p) (k:Scan R b c q):Scan R a c q:=
 ⟨h.near.trans k.near,fun o ho=>(k.cells o ho).trans (h.cells o ho),k.at1,fun o=>(k.fz o).trans (h.fz o)⟩
theorem Scan.refl {R:Nat} {w:World} {i:Nat} {s:ByteArray} (k:Sc w R s i):Scan R w w i:=⟨Near.refl _ _,fun _ _=>rfl,k.c1,fun _=>rfl⟩
theorem Scan.drewN {R:Nat} {a w:World} {q:Nat} (h:Scan R a w q) (n:Nat):Scan R a (w.drewN n) q:=⟨⟨h.near.os,h.near.tape,h.near.output,h.near.size,h.near.block⟩,h.cells,h.at1,h.fz⟩
theorem Sc.lt {w:World} {R:Nat} {s:ByteArray} {i:Nat} (h:Sc w R s i):R<w.heap.size:=
 Classical.byContradiction fun hge=>by
  have:w.heap[R]?=none:=Array.getElem?_eq_none (by omega)
  have h0:=h.c0
  simp[World.cell?,this]at h0
theorem Scan.set {w:World} {R:Nat} {s:ByteArray} {i:Nat} (h:Sc w R s i) (q:Nat):Scan R w (w.setCell ⟨R,1,none⟩ (.int .i64 (q:Int))) q:=
 ⟨Near.set R 1 w _,fun o ho=>World.cell?_setCell_other _ _ _ _ (fun e=>ho (by have:=congrArg Addr.off e;simpa using this.symm)),World.cell?_setCell_same _ _ _ h.c1,fun o=>World.frozen?_setCell _ _ _ _⟩
theorem Scan.below {R:Nat} {a b c:World} {q:Nat} (h:Scan R a b q) (hb:Below b.heap.size b c) (hR:R<b.heap.size):Scan R a c q:=
 ⟨h.near.trans (Near.of_below hb),fun o ho=>(hb.cell (p:=⟨R,o,none⟩) hR).trans (h.cells o ho),(hb.cell (p:=⟨R,1,none⟩) hR).trans h.at1,fun o=>(hb.frozen (p:=⟨R,o,none⟩) hR).trans (h.fz o)⟩
theorem qmG (s:ByteArray) (i:Nat):(s.extract i s.size).data.toList=s.data.toList.drop i:=by
 simp[ByteArray.data_extract,List.extract_eq_take_drop]
 rw[List.take_of_length_le];simp
theorem xcL {x l r:List UInt8} (h:eatP x l=some r):r=l.drop x.length:=by
 unfold eatP at h
 split at h
 ·cases h;rfl
 ·cases h
theorem xgJ {x:List UInt8} {s:ByteArray} {i:Nat} {r:List UInt8} (h:eatP x (s.data.toList.drop i)=some r):(i<=s.size->i+x.length<=s.size)/\r=s.data.toList.drop (i+x.length):=by
 have h1:=qbR h
 have h2:=xcL h
 rw[List.drop_drop]at h2
 refine⟨fun hi=>?_,h2⟩
 have:=congrArg List.length h1
 simp at this
 omega
def xgK (w:World) (R:Nat) (s x:ByteArray) (i:Nat) (e:Ending) (w':World):Prop:=
 (eatP x.data.toList (s.data.toList.drop i)=some (s.data.toList.drop (i+x.size))/\e=.returned (.bool true)/\Scan R w w' (i+x.size)/\i+x.size<=s.size) ∨
  (eatP x.data.toList (s.data.toList.drop i)=none/\e=.returned (.bool false)/\Scan R w w' i)
theorem qdJ (w:World) (R:Nat) (s x:ByteArray) (i:Nat) (h:Sc w R s i) (hs:s.size<=10000) (hx:x.size<=10000) (hi:i<=s.size) :
  Calls Tryz.prog 155 #[.pointer (some ⟨R,0,none⟩),.string x] w (xgK w R s x i):=by
 have c0:=h.c0
 have c1:=h.c1
 have f1:=h.f1
 have aA:(i:Int)<=(s.size:Int):=by omega
 have hw:IntKind.i64.wrap ((i:Int)+(x.size:Int))=(i:Int)+(x.size:Int):=by rw[IntKind.wrap_i64];omega
 have HC:Hid (∀ W,Calls Tryz.prog 180 #[.string (s.extract i s.size),.string x] W fun e w'=>e=.returned (.bool (Lib.hasPrefix (s.extract i s.size).data.toList x.data.toList))/\w'=W):=fun W=>Tryz.strings_HasPrefix _ _ W
 have hh:Lib.hasPrefix (s.extract i s.size).data.toList x.data.toList=x.data.toList.isPrefixOf (s.data.toList.drop i):=by rw[qmG];rfl
 have H1:Hid (∀ m,Scan R w ((w.drewN m).setCell ⟨R,1,none⟩ (.int .i64 ((i:Int)+(x.size:Int)))) (i+x.size)):=fun m=>by
  have:=((Scan.refl h).drewN m).trans (Scan.set (((Scan.refl h).drewN m).sc h) (i+x.size))
  rw[show ((i+x.size:Nat):Int)=(i:Int)+(x.size:Int) by omega]at this
  exact this
 have H2:Hid (∀ m,Scan R w (w.drewN m) i):=fun m=>(Scan.refl h).drewN m
 clear h
 cases hp:x.data.toList.isPrefixOf (s.data.toList.drop i) with
 | true=>
  have HE:Hid (eatP x.data.toList (s.data.toList.drop i)=some (s.data.toList.drop (i+x.size))/\i+x.size<=s.size):=by
   have e:eatP x.data.toList (s.data.toList.drop i)=some ((s.data.toList.drop i).drop x.data.toList.length):=by unfold eatP;rw[if_pos hp]
   have h2:=xgJ e
   rw[List.drop_drop]at e
   have e3:x.data.toList.length=x.size:=by simp
   rw[e3]at e h2
   exact⟨e,h2.1 hi⟩
  rw[hp]at hh
  rw[hh]at HC
  clear hh hp
  go_enter Tryz.func155,Tryz.ntmps155
  go_wp2_with fail
  go_quiet (first|(go_at_call 180;refine Calls.quiet_of_same (HC.out _)))
  go_wp2_with fail
  go_ret
  exact .inl ⟨HE.out.1,rfl,H1.out _,HE.out.2⟩
 | false=>
  have HE:Hid (eatP x.data.toList (s.data.toList.drop i)=none):=by
   show _=_
   unfold eatP;rw[if_neg (by rw[hp];simp)]
  rw[hp]at hh
  rw[hh]at HC
  clear hh hp
  go_enter Tryz.func155,Tryz.ntmps155
  go_wp2_with fail
  go_quiet (first|(go_at_call 180;refine Calls.quiet_of_same (HC.out _)))
  go_wp2_with fail
  go_ret
  exact .inr ⟨HE.out,rfl,H2.out _⟩
def qpU (w:World) (R:Nat) (s x:ByteArray) (i:Nat) (e:Ending) (w':World):Prop:=
 (eatP x.data.toList (s.data.toList.drop i)=some (s.data.toList.drop (i+x.size))/\e=.returned (.tuple #[])/\Scan R w w' (i+x.size)/\i+x.size<=s.size) ∨
  (eatP x.data.toList (s.data.toList.drop i)=none/\e=.panicked refusal/\Near R w w')
theorem qcY (w:World) (R:Nat) (s x:ByteArray) (i:Nat) (h:Sc w R s i) (hs:s.size<=10000) (hx:x.size<=10000) (hi:i<=s.size) :
  Calls Tryz.prog 157 #[.pointer (some ⟨R,0,none⟩),.string x] w (qpU w R s x i):=by
 have HC:Hid (Calls Tryz.prog 155 _ _ _):=qdJ w R s x i h hs hx hi
 clear h
 go_enter Tryz.func157,Tryz.ntmps157
 go_wp2_with fail
 refine HC.out.mono ?_
 rintro e w1 (⟨h1,rfl,h2,h3⟩|⟨h1,rfl,h2⟩)
 ·have HP:Hid (qpU w R s x i (.returned (.tuple #[])) w1):=.inl ⟨h1,rfl,h2,h3⟩
  clear HC h1 h2 h3
  go_wp2_with (go_at_call 156;refine (qbC _).mono ?_;rintro e w' ⟨rfl,rfl⟩)
  go_end0
  exact HP.out
 ·have HP:Hid (qpU w R s x i (.panicked refusal) w1):=.inr ⟨h1,rfl,h2.near⟩
  clear HC h1 h2
  go_wp2_with (go_at_call 156;refine (qfJ _).mono ?_;rintro e w' ⟨rfl,rfl⟩)
  exact⟨rfl,HP.out⟩
end Go.Proofs.YtelogmjfekhmpaaGreatDoor
