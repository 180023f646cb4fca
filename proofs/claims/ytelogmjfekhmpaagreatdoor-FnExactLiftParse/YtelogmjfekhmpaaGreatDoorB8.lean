import Derived.Test.YtelogmjfekhmpaaGreatDoorB1
import Derived.Test.YtelogmjfekhmpaaGreatDoorShelf
import Derived.Test.YtelogmjfekhmpaaGreatDoorB2
import Derived.Lib.IndexLaws
import Derived.Laws.IdiomStrings
import Derived.Deep.QuietTactic
import Derived.BigQuiet
import Derived.RegionDies
namespace Go.Proofs.YtelogmjfekhmpaaGreatDoor
open Go.RowKit Go.Proofs.Tryz
set_option maxRecDepth 100000
set_option maxHeartbeats 16000000
structure Sc(w:World)(R:Nat)(s:ByteArray)(i:Nat):Prop where
 c0:w.cell? ⟨R,0,none⟩=some (.string s)
 c1:w.cell? ⟨R,1,none⟩=some (.int .i64 (i:Int))
 f1:w.frozen? ⟨R,1,none⟩=false
structure Scan(R:Nat)(w w':World)(q:Nat):Prop where
 near:Near R w w'
 cells:∀o,o≠1->w'.cell? ⟨R,o,none⟩=w.cell? ⟨R,o,none⟩
 at1:w'.cell? ⟨R,1,none⟩=some (.int .i64 (q:Int))
 fz:∀o,w'.frozen? ⟨R,o,none⟩=w.frozen? ⟨R,o,none⟩
theorem Scan.sc{R:Nat}{w w':World}{q i:Nat}{s:ByteArray}(h:Scan R w w' q)(k:Sc w R s i):Sc w' R s q:=⟨(h.cells 0 (by decide)).trans k.c0,h.at1,(h.fz 1).trans k.f1⟩
theorem Scan.trans{R:Nat}{a b c:World}{p q:Nat}(h:Scan R a b p)(k:Scan R b c q):Scan R a c q:=
 ⟨h.near.trans k.near,fun o ho=>(k.cells o ho).trans (h.cells o ho),k.at1,fun o=>(k.fz o).trans (h.fz o)⟩
theorem Scan.refl{R:Nat}{w:World}{i:Nat}{s:ByteArray}(k:Sc w R s i):Scan R w w i:=⟨Near.refl _ _,fun _ _=>rfl,k.c1,fun _=>rfl⟩
theorem Scan.drewN{R:Nat}{a w:World}{q:Nat}(h:Scan R a w q)(n:Nat):Scan R a (w.drewN n) q:=⟨⟨h.near.os,h.near.tape,h.near.output,h.near.size,h.near.block⟩,h.cells,h.at1,h.fz⟩
theorem Sc.lt{w:World}{R:Nat}{s:ByteArray}{i:Nat}(h:Sc w R s i):R<w.heap.size:=
 Classical.byContradiction fun hge=>by
  have:w.heap[R]?=none:=Array.getElem?_eq_none (by omega)
  have h0:=h.c0
  simp[World.cell?,this]at h0
theorem Scan.set{w:World}{R:Nat}{s:ByteArray}{i:Nat}(h:Sc w R s i)(q:Nat):Scan R w (w.setCell ⟨R,1,none⟩ (.int .i64 (q:Int))) q:=
 ⟨Near.set R 1 w _,fun o ho=>World.cell?_setCell_other _ _ _ _ (fun e=>ho (by have:=congrArg Addr.off e;simpa using this.symm)),World.cell?_setCell_same _ _ _ h.c1,fun o=>World.frozen?_setCell _ _ _ _⟩
theorem Scan.below{R:Nat}{a b c:World}{q:Nat}(h:Scan R a b q)(hb:Below b.heap.size b c)(hR:R<b.heap.size):Scan R a c q:=
 ⟨h.near.trans (Near.of_below hb),fun o ho=>(hb.cell (p:=⟨R,o,none⟩) hR).trans (h.cells o ho),(hb.cell (p:=⟨R,1,none⟩) hR).trans h.at1,fun o=>(hb.frozen (p:=⟨R,o,none⟩) hR).trans (h.fz o)⟩
theorem qmE(s:ByteArray)(i:Nat):(s.extract i s.size).data.toList=s.data.toList.drop i:=by
 simp[ByteArray.data_extract,List.extract_eq_take_drop]
 rw[List.take_of_length_le];simp
theorem xcL{x l r:List UInt8}(h:eatP x l=some r):r=l.drop x.length:=by
 unfold eatP at h
 split at h
 ·cases h;rfl
 ·cases h
theorem xgK{x:List UInt8}{s:ByteArray}{i:Nat}{r:List UInt8}(h:eatP x (s.data.toList.drop i)=some r):(i<=s.size->i+x.length<=s.size)/\r=s.data.toList.drop (i+x.length):=by
 have b:=qbP h
 have a:=xcL h
 rw[List.drop_drop]at a
 refine⟨fun hi=>?_,a⟩
 have:=congrArg List.length b
 simp at this
 omega
def xgL(w:World)(R:Nat)(s x:ByteArray)(i:Nat)(e:Ending)(w':World):Prop:=
 (eatP x.data.toList (s.data.toList.drop i)=some (s.data.toList.drop (i+x.size))/\e=.returned (.bool true)/\Scan R w w' (i+x.size)/\i+x.size<=s.size) ∨
  (eatP x.data.toList (s.data.toList.drop i)=none/\e=.returned (.bool false)/\Scan R w w' i)
theorem qdG (w:World) (R:Nat) (s x:ByteArray) (i:Nat) (h:Sc w R s i) (hs:s.size<=10000) (hx:x.size<=10000) (hi:i<=s.size) :
  Calls prog 155 #[.pointer (some ⟨R,0,none⟩),.string x] w (xgL w R s x i):=by
 have c0:=h.c0
 have c1:=h.c1
 have f1:=h.f1
 have f:(i:Int)<=(s.size:Int):=by omega
 have l:IntKind.i64.wrap ((i:Int)+(x.size:Int))=(i:Int)+(x.size:Int):=by rw[IntKind.wrap_i64];omega
 have b:Hid (∀W,Calls prog 180 #[.string (s.extract i s.size),.string x] W fun e w'=>e=.returned (.bool (Lib.hasPrefix (s.extract i s.size).data.toList x.data.toList))/\w'=W):=fun W=>Tryz.strings_HasPrefix _ _ W
 have a:Lib.hasPrefix (s.extract i s.size).data.toList x.data.toList=x.data.toList.isPrefixOf (s.data.toList.drop i):=by rw[qmE];rfl
 have g:Hid (∀m,Scan R w ((w.drewN m).setCell ⟨R,1,none⟩ (.int .i64 ((i:Int)+(x.size:Int)))) (i+x.size)):=fun m=>by
  have:=((Scan.refl h).drewN m).trans (Scan.set (((Scan.refl h).drewN m).sc h) (i+x.size))
  rw[show ((i+x.size:Nat):Int)=(i:Int)+(x.size:Int) by omega]at this
  exact this
 have j:Hid (∀m,Scan R w (w.drewN m) i):=fun m=>(Scan.refl h).drewN m
 clear h
 cases hp:x.data.toList.isPrefixOf (s.data.toList.drop i) with
 | true=>
  have c:Hid (eatP x.data.toList (s.data.toList.drop i)=some (s.data.toList.drop (i+x.size))/\i+x.size<=s.size):=by
   have e:eatP x.data.toList (s.data.toList.drop i)=some ((s.data.toList.drop i).drop x.data.toList.length):=by unfold eatP;rw[if_pos hp]
   have d:=xgK e
   rw[List.drop_drop]at e
   have k:x.data.toList.length=x.size:=by simp
   rw[k]at e d
   exact⟨e,d.1 hi⟩
  rw[hp]at a
  rw[a]at b
  clear a hp
  go_enter func155,ntmps155
  go_wp2_with fail
  go_quiet (first|(go_at_call 180;refine Calls.quiet_of_same (b.out _)))
  go_wp2_with fail
  go_ret
  exact .inl ⟨c.out.1,rfl,g.out _,c.out.2⟩
 | false=>
  have c:Hid (eatP x.data.toList (s.data.toList.drop i)=none):=by
   show _=_
   unfold eatP;rw[if_neg (by rw[hp];simp)]
  rw[hp]at a
  rw[a]at b
  clear a hp
  go_enter func155,ntmps155
  go_wp2_with fail
  go_quiet (first|(go_at_call 180;refine Calls.quiet_of_same (b.out _)))
  go_wp2_with fail
  go_ret
  exact .inr ⟨c.out,rfl,j.out _⟩
def qpU(w:World)(R:Nat)(s x:ByteArray)(i:Nat)(e:Ending)(w':World):Prop:=
 (eatP x.data.toList (s.data.toList.drop i)=some (s.data.toList.drop (i+x.size))/\e=.returned (.tuple #[])/\Scan R w w' (i+x.size)/\i+x.size<=s.size) ∨
  (eatP x.data.toList (s.data.toList.drop i)=none/\e=.panicked refusal/\Near R w w')
theorem qcW (w:World) (R:Nat) (s x:ByteArray) (i:Nat) (h:Sc w R s i) (hs:s.size<=10000) (hx:x.size<=10000) (hi:i<=s.size) :
  Calls prog 157 #[.pointer (some ⟨R,0,none⟩),.string x] w (qpU w R s x i):=by
 have c:Hid (Calls prog 155 _ _ _):=qdG w R s x i h hs hx hi
 clear h
 go_enter func157,ntmps157
 go_wp2_with fail
 refine c.out.mono ?_
 rintro e f (⟨a,rfl,b,g⟩|⟨a,rfl,b⟩)
 ·have d:Hid (qpU w R s x i (.returned (.tuple #[])) f):=.inl ⟨a,rfl,b,g⟩
  clear c a b g
  go_wp2_with (go_at_call 156;refine (qbA _).mono ?_;rintro e w' ⟨rfl,rfl⟩)
  go_end0
  exact d.out
 ·have d:Hid (qpU w R s x i (.panicked refusal) f):=.inr ⟨a,rfl,b.near⟩
  clear c a b
  go_wp2_with (go_at_call 156;refine (qfH _).mono ?_;rintro e w' ⟨rfl,rfl⟩)
  exact⟨rfl,d.out⟩
def qiX(c:UInt8)(w:World)(R:Nat)(s:ByteArray)(i:Nat)(e:Ending)(w':World):Prop:=
 (∃x,qbQ c (s.data.toList.drop i)=some (x,s.data.toList.drop (i+x.length))/\e=.returned (.string (bs x))/\Scan R w w' (i+x.length)/\i+x.length<s.size) ∨
  (qbQ c (s.data.toList.drop i)=none/\e=.panicked refusal/\Near R w w')
theorem qmF (c:UInt8) (w:World) (R:Nat) (s:ByteArray) (i:Nat) (h:Sc w R s i) (hs:s.size<=10000) (hi:i<=s.size) :
  Calls prog 158 #[.pointer (some ⟨R,0,none⟩),.int .u8 (c.toNat:Int)] w (qiX c w R s i):=by
 have c0:=h.c0
 have c1:=h.c1
 have f1:=h.f1
 have H:(i:Int)<=(s.size:Int):=by omega
 have n:((c.toNat:Int)).toNat.toUInt8=c:=by
  apply UInt8.toNat_inj.1
  simp
 have g:Hid (∀W,Calls prog 122 #[.string (s.extract i s.size),.int .u8 (c.toNat:Int)] W fun e w'=>e=.returned (.int .i64 (Lib.indexByte (s.data.toList.drop i) c))/\w'=W):=fun W=>by
  have:=Tryz.strings_IndexByte (s.extract i s.size) (c.toNat:Int) W
  rw[n,qmE]at this
  exact this
 have d:=Lib.indexByte_ge (s.data.toList.drop i) c
 have I:Hid (∀m,Near R w (w.drewN m)):=fun m=>((Scan.refl h).drewN m).near
 rcases Int.lt_or_le (Lib.indexByte (s.data.toList.drop i) c) 0 with f|b
 ·have p:Lib.indexByte (s.data.toList.drop i) c = -1:=by omega
  have q:Hid (qbQ c (s.data.toList.drop i)=none):=by
   refine qkJ c _ fun x hx e=>?_
   obtain⟨k,j,B⟩:=List.getElem_of_mem hx
   exact Lib.indexByte_none p k (by rw[List.getElem?_eq_getElem j,B,e])
  rw[p]at g
  clear f d p h
  go_enter func158,ntmps158
  go_wp2_with fail
  go_quiet (first|(go_at_call 122;refine Calls.quiet_of_same (g.out _)))
  go_wp2_with (go_at_call 156;refine (qfH _).mono ?_;rintro e w' ⟨rfl,rfl⟩)
  exact⟨rfl,.inr ⟨q.out,rfl,I.out _⟩⟩
 ·obtain⟨o,C⟩:∃o:Nat,Lib.indexByte (s.data.toList.drop i) c=o:=⟨_,(Int.toNat_of_nonneg b).symm⟩
  obtain⟨l,G⟩:=Lib.indexByte_some C
  have r:i+o<s.size:=by
   have:=(List.getElem?_eq_some_iff.1 l).1
   simp at this;omega
  have a:((s.data.toList.drop i).take o).length=o:=by simp;omega
  have q:Hid (qbQ c (s.data.toList.drop i)=some ((s.data.toList.drop i).take o,s.data.toList.drop (i+o))):=by
   have:=qrH c (s.data.toList.drop i) o (fun x hx e=>by
    obtain⟨k,j,B⟩:=List.getElem_of_mem hx
    have t:k<o:=by rw[a]at j;exact j
    have u:k<(s.data.toList.drop i).length:=by simp;omega
    refine G k t ?_
    rw[List.getElem?_eq_getElem u,<- e,<- B];simp) (by
    have v:=(List.getElem?_eq_some_iff.1 l).1
    have:=(List.getElem?_eq_some_iff.1 l).2
    rw[List.drop_eq_getElem_cons v,this])
   rw[List.drop_drop]at this
   exact this
  have J:Hid (s.extract i (i+o)=bs ((s.data.toList.drop i).take o)):=qfX s i o
  rw[C]at g
  have L:IntKind.i64.wrap ((i:Int)+(o:Int))=(i:Int)+(o:Int):=by rw[IntKind.wrap_i64];omega
  have D:(0:Int)<=(o:Int):=by omega
  have y:Hid (∀m,Scan R w ((w.drewN m).setCell ⟨R,1,none⟩ (.int .i64 ((i:Int)+(o:Int)))) (i+o)):=fun m=>by
   have:=((Scan.refl h).drewN m).trans (Scan.set (((Scan.refl h).drewN m).sc h) (i+o))
   rw[show ((i+o:Nat):Int)=(i:Int)+(o:Int) by omega]at this
   exact this
  have K:(i:Int)+(o:Int)<=(s.size:Int):=by omega
  have E:(i:Int)<=(i:Int)+(o:Int):=by omega
  have F:((i:Int)+(o:Int)).toNat=i+o:=by omega
  have z:∀m,((w.drewN m).setCell ⟨R,1,none⟩ (.int .i64 ((i:Int)+(o:Int)))).cell? ⟨R,0,none⟩=some (.string s):=fun m=>((y.out m).cells 0 (by decide)).trans c0
  have A:∀m,((w.drewN m).setCell ⟨R,1,none⟩ (.int .i64 ((i:Int)+(o:Int)))).cell? ⟨R,1,none⟩=some (.int .i64 ((i:Int)+(o:Int))):=fun m=>(y.out m).at1
  clear b d C l G h
  go_enter func158,ntmps158
  go_wp2_with fail
  go_quiet (first|(go_at_call 122;refine Calls.quiet_of_same (g.out _)))
  go_wp2_with (go_at_call 156;refine (qbA _).mono ?_;rintro e w' ⟨rfl,rfl⟩)
  have M:=z nq
  have N:=A nq
  go_quiet (fail)
  go_wp2_with fail
  go_ret
  refine .inl ⟨_,by rw[a];exact q.out,congrArg (fun x=>Ending.returned (.string x)) J.out,?_,by rw[a];exact r⟩
  rw[a]
  exact (y.out _).drewN _
def xcM(w:World)(R:Nat)(s:ByteArray)(i:Nat)(e:Ending)(w':World):Prop:=
 (i=s.size/\e=.returned (.tuple #[])/\Scan R w w' i)∨(i≠s.size/\e=.panicked refusal/\Near R w w')
theorem qmG (w:World) (R:Nat) (s:ByteArray) (i:Nat) (h:Sc w R s i) :
  Calls prog 134 #[.pointer (some ⟨R,0,none⟩)] w (xcM w R s i):=by
 have c0:=h.c0
 have c1:=h.c1
 have a:Hid (∀m,Scan R w (w.drewN m) i):=fun m=>(Scan.refl h).drewN m
 clear h
 by_cases he:i=s.size
 ·have b:((i:Int)==(s.size:Int))=true:=by simp[he]
  have c:Hid (i=s.size):=he
  clear he
  go_enter func134,ntmps134
  go_wp2_with fail
  go_quiet (first|(go_at_call 156;refine Calls.quiet_of_same (qbA _)))
  go_wp2_with fail
  go_end0
  exact .inl ⟨c.out,rfl,a.out _⟩
 ·have b:((i:Int)==(s.size:Int))=false:=by simp;omega
  have d:Hid (xcM w R s i (.panicked refusal) w.drew):=.inr ⟨he,rfl,⟨rfl,rfl,rfl,Nat.le_refl _,fun _ _ _=>rfl⟩⟩
  clear he
  go_enter func134,ntmps134
  go_wp2_with fail
  go_region_dies
  all_goals (go_at_call 156;refine (qfH _).mono ?_;rintro e w' ⟨rfl,rfl⟩;exact⟨rfl,d.out⟩)
end Go.Proofs.YtelogmjfekhmpaaGreatDoor
