import Derived.Test.YtelogmjfekhmpaaGreatDoorManyO
import Derived.Deep.RegionLaw
namespace Go.Proofs.YtelogmjfekhmpaaGreatDoor
set_option maxRecDepth 100000
set_option maxHeartbeats 16000000
open Go.RowKit
def qbB (m n:Nat) (w:World) (R:Nat) (s:ByteArray) (i:Nat) (bad:Bool) (e:Ending) (w':World):Prop:=
 Near R w w' /\ ∃ (t:T m) (c0 c1 c2 c3 c4:Value) (i':Nat) (bad':Bool),e=.returned (.agg #[c0,c1,c2,c3,c4])/\TreeIn (fun b=>w.heap.size<=b/\b<w'.heap.size) w' m t c0 c1 c2 c3 c4/\RdS w' R s i' bad' /\
  i<=i' /\ (bad'=false->bad=false/\i<i' /\ i'<=s.size)/\(bad=false->i'<=s.size+n)/\(bad=true->i'=i) /\
  (∀ (t0:T m) post,bad=false->s.data.toList.drop i=txtL m t0++post->goodT m t0 (7 - (n:Int))=true->noDig post=true->t=t0/\bad'=false/\i'=i+(txtL m t0).length)
def qeI (n:Nat):Prop:=∀ (m R:Nat) (s:ByteArray) (i:Nat) (bad:Bool) (w:World),n+1<=m->RdS w R s i bad->s.size<=10000->(bad=false->i<=s.size)->i<=20000 ->
 Calls Tryz.prog 54 #[.pointer (some ⟨R,0,none⟩),.int .i64 (7 - (n:Int))] w (qbB m n w R s i bad)
def qwD (w:World) (R:Nat) (H:Nat):Nat:=match w.cell? ⟨R,2,none⟩ with|some (.bool true)=>0|_=>H+1 - atOf w R
theorem RdS.left {w:World} {R:Nat} {s:ByteArray} {i:Nat} {b:Bool} (h:RdS w R s i b) (H:Nat):qwD w R H=if b=true then 0 else H+1 - i:=by
 unfold qwD
 rw[h.cell2,h.atOf]
 cases b <;> simp
def qpJ (m n:Nat) (s:ByteArray) (i:Nat) (ks:List (T m)) (i':Nat) (bad':Bool):Prop:=
 i<i' /\ (bad'=false->i'<=s.size)/\i'<=s.size+n/\ks.length<=i'+(if bad'=true then 1 else 0) /\
  ∀ (ks0:List (T m)) post,s.data.toList.drop (i+1)=joinL (ks0.map (txtL m))++93 :: post->(∀ k,k∈ks0->goodT m k (7 - (n:Int))=true) ->
   ∃ k,k<=ks0.length/\ks=ks0.take k/\bad'=false/\s.data.toList.drop i'=tailL (decide (k=0)) ((ks0.drop k).map (txtL m))++93 :: post
theorem Tryz.info_treeR:(Tryz.prog.info? 67).map (fun i=>(i.zero,i.size,i.bytes))=some (some (.agg #[.int .i64 0,.int .i64 0,.string ⟨#[]⟩,.slice none 0 0,.slice none 0 0]),5,80):=by kernel_rfl
theorem qiA {R X k z:Nat} {e:TypeId} {v:Value} {xs:List Value} {W w2:World} (h:W.ownsRow (X+1) e z v k xs) (hRX:R<X) (hn:Near R W w2) (o:Obj):(w2.alloc o).ownsRow (X+1) e z v k xs:=
 qaL h fun g hg=>by
  have h1:=qaF h g hg
  have h2:=hn.size
  rw[Below.heap_alloc _ _ _ (by omega)]
  exact hn.block g h1.2 (by omega)
theorem qlE {R X k z:Nat} {e:TypeId} {v u:Value} {xs:List Value} {W w2 w3:World} {o:Obj} {s:ByteArray} {j:Int} {b:Bool} {q:Nat} (hr:RdS w2 R s j b) (h:W.ownsRow (X+1) e z v k xs) (hRX:R<X) (hg:(w2.alloc o).grownBy w3 v.ownBlock) :
  RdS (w3.setCell ⟨X,q,none⟩ u) R s j b:=by
 have hl:=hr.lt
 unfold RdS at hr ⊢
 rw[Below.heap_setCell _ _ _ _ (by show R≠X;omega),hg.block R (by simp;omega) (fun e=>by have:=qaF h R e.symm;omega),Below.heap_alloc _ _ _ hl]
 exact hr
theorem qiP {R X k z:Nat} {e:TypeId} {v:Value} {xs:List Value} {W w2 w3:World} {o:Obj} (h:W.ownsRow (X+1) e z v k xs) (hX:X<W.heap.size) (hRX:R<X) (hn:Near R W w2) (hg:(w2.alloc o).grownBy w3 v.ownBlock):w3.heap[X]?=W.heap[X]?:=by
 have hl:=hn.size
 rw[hg.block X (by simp;omega) (fun e=>by have:=qaF h X e.symm;omega),Below.heap_alloc _ _ _ (by omega)]
 exact hn.block X hX (by omega)
theorem Many.kidD {R X n:Nat} {w wr W1 W2:World} {so:Int} {ns:List ByteArray} {ks:List (T n)} {nv kv:Value} {t:T n} {c0 c1 c2 c3 c4:Value} {one:Obj} {g cap:Nat} (m:Nat) (h0:Many R X n w wr so ns ks nv kv) (hRX:R<X) (hw:w.heap.size<=X)
  (hn:Near R (wr.drewN m) W1) (ht:TreeIn (fun b=>(wr.drewN m).heap.size<=b/\b<W1.heap.size) W1 n t c0 c1 c2 c3 c4) {xs:List Value}
  (hxs:wr.ownsRow (X+1) 67 5 kv ks.length xs) (hk:∀ j (h:j<ks.length),∃ c0 c1 c2 c3 c4,(xs[j*5]?=some c0/\xs[j*5+1]?=some c1/\xs[j*5+2]?=some c2/\xs[j*5+3]?=some c3/\xs[j*5+4]?=some c4)/\TreeIn (Far (X+1) nv kv wr.heap.size) wr n ks[j] c0 c1 c2 c3 c4)
  (hown:W2.ownsRow (X+1) 67 5 (.slice (some ⟨g,0,none⟩) (ks.length+1) cap) (ks.length+1) (xs++[c0,c1,c2,c3,c4])) (hgrow:(W1.alloc one).grownBy W2 kv.ownBlock) (hat:kv.ownBlock=some g∨g=W1.heap.size+1) :
  Many R X n w (W2.setCell ⟨X,4,none⟩ (.slice (some ⟨g,0,none⟩) (ks.length+1) cap)) so ns (ks++[t]) nv (.slice (some ⟨g,0,none⟩) (ks.length+1) cap):=
 Many.kid (W:=wr.drewN m) (Wa:=W1.alloc one) (one:=one) (h0.keep hRX ((Near.refl R wr).drewN m)) hRX hw hn ht rfl ⟨rfl,rfl,rfl⟩ hxs
  (fun j hj=>by obtain⟨d0,d1,d2,d3,d4,hd,hdt⟩:=hk j hj;exact⟨d0,d1,d2,d3,d4,hd,TreeIn.keep (S:=Far (X+1) nv kv wr.heap.size) (w:=wr) (w':=wr.drewN m) (fun _ _=>rfl) (fun _ h=>h) hdt⟩) hown hgrow hat
theorem xaS {R X n k:Nat} {wr w1:World} {ks:List (T n)} {nv kv:Value} {xs:List Value} (hxs:wr.ownsRow (X+1) 67 5 kv k xs)
  (hk:∀ j (h:j<ks.length),∃ c0 c1 c2 c3 c4,(xs[j*5]?=some c0/\xs[j*5+1]?=some c1/\xs[j*5+2]?=some c2/\xs[j*5+3]?=some c3/\xs[j*5+4]?=some c4)/\TreeIn (Far (X+1) nv kv wr.heap.size) wr n ks[j] c0 c1 c2 c3 c4)
  (hRX:R<X) (hn:Near R wr w1):w1.ownsRow (X+1) 67 5 kv k xs /\
   ∀ j (h:j<ks.length),∃ c0 c1 c2 c3 c4,(xs[j*5]?=some c0/\xs[j*5+1]?=some c1/\xs[j*5+2]?=some c2/\xs[j*5+3]?=some c3/\xs[j*5+4]?=some c4)/\TreeIn (Far (X+1) nv kv w1.heap.size) w1 n ks[j] c0 c1 c2 c3 c4:=by
 refine⟨qaL hxs fun g hg=>?_,fun j hj=>?_⟩
 ·have h1:=qaF hxs g hg
  exact hn.block g h1.2 (by omega)
 ·obtain⟨d0,d1,d2,d3,d4,hd,aA⟩:=hk j hj
  refine⟨d0,d1,d2,d3,d4,hd,aA.keep (fun b hb=>hn.block b hb.2.1 (by have:=hb.1;omega)) (fun b hb=>⟨hb.1,Nat.lt_of_lt_of_le hb.2.1 hn.size,hb.2.2⟩)⟩
def Comma (s:ByteArray) (L i' i1:Nat) (bad1:Bool):Prop:=
 (L=0/\i1=i' /\ bad1=false)∨(¬ L=0/\((eatP [44] (s.data.toList.drop i')=some (s.data.toList.drop (i'+1))/\i'+1<=s.size/\i1=i'+1/\bad1=false)∨(eatP [44] (s.data.toList.drop i')=none/\i1=i' /\ bad1=true)))
theorem qrP {m n:Nat} {s:ByteArray} {i:Nat} {ks:List (T m)} {i' i1 i2:Nat} {bad1 bad2:Bool} {t2:T m} (hI:qpJ m n s i ks i' false) (hne:¬ lookB s i'=93) (hc:Comma s ks.length i' i1 bad1)
  (hp:i1<=i2/\(bad2=false->bad1=false/\i1<i2/\i2<=s.size)/\(bad1=false->i2<=s.size+n)/\(bad1=true->i2=i1) /\
   (∀ (t0:T m) post,bad1=false->s.data.toList.drop i1=txtL m t0++post->goodT m t0 (7 - (n:Int))=true->noDig post=true->t2=t0/\bad2=false/\i2=i1+(txtL m t0).length)) :
  qpJ m n s i (ks++[t2]) i2 bad2/\(if bad2=true then 0 else s.size+1 - i2)<s.size+1 - i':=by
 obtain⟨h1,h2,h3,h4,h5⟩:=hI
 obtain⟨p1,p2,p3,p4,p5⟩:=hp
 have h2:=h2 rfl
 have h4:ks.length<=i':=by simpa using h4
 have aG:i'<=i1:=by
  rcases hc with ⟨-,h,-⟩|⟨-,⟨-,-,h,-⟩|⟨-,h,-⟩⟩ <;> omega
 refine⟨⟨by omega,fun h=>(p2 h).2.2,?_,?_,fun ks0 post he hg=>?_⟩,?_⟩
 ·cases bad1 with
  | false=>exact p3 rfl
  | true=>
   have:=p4 rfl
   rcases hc with ⟨-,-,h⟩|⟨-,⟨-,-,-,h⟩|⟨-,h,-⟩⟩
   ·cases h
   ·cases h
   ·omega
 ·rw[List.length_append,List.length_singleton]
  cases bad2 with
  | false=>have:=(p2 rfl).2.1;simp;omega
  | true=>simp;omega
 ·obtain⟨k,hk,aD,-,hd⟩:=h5 ks0 post he hg
  have aH:ks.length=k:=by rw[aD,List.length_take];omega
  have aC:k<ks0.length:=by
   refine Classical.byContradiction fun hge=>hne ?_
   have:ks0.drop k=[]:=List.drop_of_length_le (by omega)
   rw[this]at hd
   unfold lookB
   rw[hd];rfl
  have aE:ks0.drop k=ks0[k] :: ks0.drop (k+1):=List.drop_eq_getElem_cons aC
  rw[aE,List.map_cons,tailL,List.append_assoc]at hd
  have aA:bad1=false/\s.data.toList.drop i1=txtL m ks0[k]++(tailL false ((ks0.drop (k+1)).map (txtL m))++93 :: post):=by
   by_cases hk0:k=0
   ·simp only[hk0,decide_true,if_true]at hd
    rcases hc with ⟨-,h,hb⟩|⟨h,-⟩
    ·refine⟨hb,?_⟩
     rw[h,hd]
     simp only[hk0]
    ·exact absurd (by omega) h
   ·simp only[hk0,decide_false,Bool.false_eq_true,if_false,List.cons_append]at hd
    rcases hc with ⟨h,-⟩|⟨-,⟨aB,-,h,hb⟩|⟨aB,-⟩⟩
    ·exact absurd (by omega) hk0
    ·refine⟨hb,?_⟩
     rw[hd,qaE]at aB
     rw[h]
     exact (Option.some.inj aB).symm
    ·rw[hd,qaE]at aB;cases aB
  have aF:noDig (tailL false ((ks0.drop (k+1)).map (txtL m))++93 :: post)=true:=by
   cases ks0.drop (k+1) with
   | nil=>rfl
   | cons y r=>rw[List.map_cons,qcM];rfl
  obtain⟨q1,q2,q3⟩:=p5 ks0[k] _ aA.1 aA.2 (hg _ (List.getElem_mem aC)) aF
  refine⟨k+1,by omega,?_,q2,?_⟩
  ·rw[List.take_succ_eq_append_getElem aC,<- aD,q1]
  ·rw[q3,<- List.drop_drop,aA.2,List.drop_left]
   simp
 ·cases bad2 with
  | true=>simp;omega
  | false=>have:=(p2 rfl).2;simp;omega
def qiQ (m n:Nat) (w:World) (R:Nat) (s:ByteArray) (i:Nat) (e:Ending) (w':World):Prop:=
 Near R w w' /\ ∃ (ks:List (T m)) (nv kv:Value) (i':Nat) (bad':Bool),e=.returned (.agg #[.int .i64 4,.int .i64 0,.string ByteArray.empty,nv,kv]) /\
  TreeIn (fun b=>w.heap.size<=b/\b<w'.heap.size) w' (m+1) (⟨4,0,ByteArray.empty,[],ks⟩:Nd (T m)) (.int .i64 4) (.int .i64 0) (.string ByteArray.empty) nv kv/\RdS w' R s i' bad' /\
  i<i' /\ (bad'=false->i'<=s.size)/\i'<=s.size+n+1 /\
  (∀ (ks0:List (T m)) post,s.data.toList.drop (i+1)=joinL (ks0.map (txtL m))++93 :: post->(∀ k,k∈ks0->goodT m k (7 - (n:Int))=true) ->
   ks=ks0/\bad'=false/\i'=i+(joinL (ks0.map (txtL m))).length+2)
theorem qwE {m n:Nat} {w Wb wr:World} {R:Nat} {s:ByteArray} {i i':Nat} {bad':Bool} {ks:List (T m)} {nv kv:Value} (h:Many R (w.heap.size+1) m Wb wr 4 [] ks nv kv) (hR:R<w.heap.size) (hwb:Near R w Wb)
  (hbs:Wb.heap.size=w.heap.size+1) (hr:RdS wr R s i' bad') (hI:qpJ m n s i ks i' bad') (hs:s.size<=10000) (hn6:n<=5) (hend:bad'=false->lookB s i'=93) :
  qiQ m n w R s i (.returned (.agg #[.int .i64 4,.int .i64 0,.string ByteArray.empty,nv,kv])) (put5 (wr.setCell ⟨R,1,none⟩ (.int .i64 ((i':Int)+1))) w.heap.size 0 (.int .i64 4) (.int .i64 0) (.string ByteArray.empty) nv kv):=by
 obtain⟨h1,h2,h3,h4,h5⟩:=hI
 have hl:ks.length<=20000:=by cases bad' <;> simp at h4 <;> omega
 obtain⟨q1,q2,q3⟩:=qwC h hR hwb hbs hr (by rfl) (Nat.zero_le _) hl
 refine⟨q1,ks,nv,kv,i'+1,bad',rfl,q3,q2,by omega,fun hb=>?_,by omega,fun ks0 post he hg=>?_⟩
 ·have:=h2 hb
  have aA:=hend hb
  refine Classical.byContradiction fun hge=>?_
  rw[qbW s i' (by omega)]at aA
  exact absurd aA (by decide)
 ·obtain⟨k,hk,aE,hb,hd⟩:=h5 ks0 post he hg
  have aA:=hend hb
  have aD:k=ks0.length:=by
   refine Classical.byContradiction fun hne=>?_
   have aB:k<ks0.length:=by omega
   unfold lookB at aA
   rw[hd,List.drop_eq_getElem_cons aB,List.map_cons,tailL]at aA
   obtain⟨c,r,e,aC⟩:=qlR m ks0[k] (7 - (n:Int)) (hg _ (List.getElem_mem aB))
   by_cases hk0:k=0
   ·simp only[hk0,decide_true,if_true]at aA
    simp only[hk0]at e
    rw[e]at aA
    simp only[List.cons_append,List.headD_cons]at aA
    exact (xhV aC).1 aA
   ·simp only[hk0,decide_false,Bool.false_eq_true,if_false,List.cons_append,List.headD_cons]at aA
    exact absurd aA (by decide)
  refine⟨by rw[aE,aD,List.take_length],hb,?_⟩
  have aF:=h2 hb
  have e1:=congrArg List.length hd
  have e2:=congrArg List.length he
  rw[aD,List.drop_length]at e1
  simp[tailL]at e1 e2
  have aB:i'<s.size:=by
   refine Classical.byContradiction fun hge=>?_
   rw[qbW s i' (by omega)]at aA
   exact absurd aA (by decide)
  omega
theorem xaT (n:Nat) (hn:qeI n) (hn6:n<=5) (m R:Nat) (hm:n+1<=m) (s:ByteArray) (i:Nat) (w:World) (h:RdS w R s i false) (hs:s.size<=10000) (hi:i<s.size) :
  Calls Tryz.prog 72 #[.pointer (some ⟨R,0,none⟩),.int .i64 4,.int .u8 93,.int .i64 (6 - n)] w (qiQ m n w R s i):=by
 have c0:=h.cell0
 have c1:=h.cell1
 have c2:=h.cell2
 have f1:=h.free 1
 have hR:=h.lt
 have bW:IntKind.i64.wrap ((i:Int)+1)=(i:Int)+1:=by rw[IntKind.wrap_i64];omega
 have bB:Near R w ((w.setCell ⟨R,1,none⟩ (.int .i64 ((i:Int)+1))).alloc (.cells #[.int .i64 0,.int .i64 0,.string ⟨#[]⟩,.slice none 0 0,.slice none 0 0] 67)):=(Near.set R 1 w _).trans (Near.alloc _ _ _)
 have bP:RdS ((w.setCell ⟨R,1,none⟩ (.int .i64 ((i:Int)+1))).alloc (.cells #[.int .i64 0,.int .i64 0,.string ⟨#[]⟩,.slice none 0 0,.slice none 0 0] 67)) R s ((i+1:Nat):Int) false:=
  (Below.heap_alloc _ _ _ (by simpa using hR)).trans (h.set1 ((i:Int)+1))
 have aI:((w.setCell ⟨R,1,none⟩ (.int .i64 ((i:Int)+1))).alloc (.cells #[.int .i64 0,.int .i64 0,.string ⟨#[]⟩,.slice none 0 0,.slice none 0 0] 67)).heap[w.heap.size]?=some (.cells #[.int .i64 0,.int .i64 0,.string ⟨#[]⟩,.slice none 0 0,.slice none 0 0] 67 (0,0)):=by
  have:=heap_alloc_new (w.setCell ⟨R,1,none⟩ (.int .i64 ((i:Int)+1))) (.cells #[.int .i64 0,.int .i64 0,.string ⟨#[]⟩,.slice none 0 0,.slice none 0 0] 67)
  simpa using this
 have aT:((w.setCell ⟨R,1,none⟩ (.int .i64 ((i:Int)+1))).alloc (.cells #[.int .i64 0,.int .i64 0,.string ⟨#[]⟩,.slice none 0 0,.slice none 0 0] 67)).heap.size=w.heap.size+1:=by simp
 go_enter Tryz.func72,Tryz.ntmps72
 go_wp2_with fail
 generalize ((w.setCell ⟨R,1,none⟩ (.int .i64 ((i:Int)+1))).alloc (.cells #[.int .i64 0,.int .i64 0,.string ⟨#[]⟩,.slice none 0 0,.slice none 0 0] 67))=Wb at *
 go_loopw [23] (fun _ wr=>∃ (ks:List (T m)) (nv kv:Value) (i':Nat) (bad':Bool),Many R (w.heap.size+1) m Wb wr 4 [] ks nv kv/\RdS wr R s i' bad' /\ qpJ m n s i ks i' bad') (fun _ wr=>qwD wr R s.size)
 case atStart=>
  refine⟨[],.slice none 0 0,.slice none 0 0,i+1,false,⟨Near.alloc _ _ _,?_,⟨rfl,.inl ⟨rfl,rfl⟩⟩,by simp,⟨[],⟨rfl,.inl ⟨rfl,rfl⟩⟩,fun j hj=>absurd hj (Nat.not_lt_zero _)⟩,fun b hb=>by cases hb⟩,?_,?_⟩
  ·rw[<- aT];exact heap_alloc_new _ _
  ·exact (Below.heap_alloc _ _ _ (by omega)).trans bP
  ·refine⟨by omega,fun _=>by omega,by omega,by simp,fun ks0 post he hg=>⟨0,Nat.zero_le _,by simp,rfl,?_⟩⟩
   rw[he];simp[qcV]
 case round=>
  obtain⟨ks,nv,kv,i',bad',hM,hr,hI⟩:=hrel
  obtain⟨na,nc,rfl⟩:=qeW hM.names
  obtain⟨xs,aZ,aF⟩:=hM.kids
  obtain⟨ka,kc,rfl⟩:=qeW aZ
  have hX:=hM.lt
  have x3:wr.cell? ⟨w.heap.size+1,3,none⟩=some (.slice na 0 nc):=by simp[World.cell?,hM.box]
  have x4:wr.cell? ⟨w.heap.size+1,4,none⟩=some (.slice ka ks.length kc):=by simp[World.cell?,hM.box]
  have xf:wr.frozen? ⟨w.heap.size+1,4,none⟩=false:=by simp[World.frozen?,hM.box]
  have d1:=hr.cell1
  have d2:=hr.cell2
  have df:=hr.free 1
  have bQ:=hI
  obtain⟨cC,bF,cD,bG,-⟩:=bQ
  have HM:=hidF hM
  have HR:Hid (RdS wr R s i' bad'):=hr
  have HI:=hidF hI
  have HX:=hidF aZ
  have HK:=hidF aF
  clear hM hr hI aZ aF c0 c1 c2 f1 h
  cases bad' with
  | true=>
   have bR:IntKind.i64.wrap ((i':Int)+1)=(i':Int)+1:=by rw[IntKind.wrap_i64];omega
   have gb:wr.heap[w.heap.size]?=_:=(HM.out.near.block w.heap.size (by omega) (by omega)).trans aI
   have g0:wr.cell? ⟨w.heap.size,0,none⟩=some (.int .i64 0):=by simp[World.cell?,gb]
   have g1:wr.cell? ⟨w.heap.size,1,none⟩=some (.int .i64 0):=by simp[World.cell?,gb]
   have g2:wr.cell? ⟨w.heap.size,2,none⟩=some (.string ⟨#[]⟩):=by simp[World.cell?,gb]
   have g3:wr.cell? ⟨w.heap.size,3,none⟩=some (.slice none 0 0):=by simp[World.cell?,gb]
   have g4:wr.cell? ⟨w.heap.size,4,none⟩=some (.slice none 0 0):=by simp[World.cell?,gb]
   have gf:∀ o,wr.frozen? ⟨w.heap.size,o,none⟩=false:=fun o=>by simp[World.frozen?,gb]
   have gf0:=gf 0
   have gf1:=gf 1
   have gf2:=gf 2
   have gf3:=gf 3
   have gf4:=gf 4
   have y0:wr.cell? ⟨w.heap.size+1,0,none⟩=some (.int .i64 4):=by simp[World.cell?,HM.out.box]
   have y1:wr.cell? ⟨w.heap.size+1,1,none⟩=some (.int .i64 0):=by simp[World.cell?,HM.out.box]
   have y2:wr.cell? ⟨w.heap.size+1,2,none⟩=some (.string ByteArray.empty):=by simp[World.cell?,HM.out.box]
   clear gb gf
   have HZ:Hid (qiQ m n w R s i _ _):=qwE HM.out hR bB aT HR.out HI.out hs hn6 (fun h=>by cases h)
   go_wp2_with fail
   refine bodyPost_ret (v:=.agg #[.int .i64 4,.int .i64 0,.string ByteArray.empty,.slice na 0 nc,.slice ka ks.length kc]) (by simp[results,Tryz.results72,go_sem,g0,g1,g2,g3,g4]) rfl ?_
   exact HZ.out
  | false=>
   have bC:i'<=s.size:=bF rfl
   have bS:ks.length<=i':=by simpa using bG
   clear bF bG
   have HL:Hid (Calls Tryz.prog 56 #[.pointer (some ⟨R,0,none⟩)] wr fun e w'=>e=.returned (.int .u8 ((lookB s i').toNat:Int))/\∃ m',w'=wr.drewN m'):=qbL wr R s i' false HR.out
   have bX:((lookB s i').toNat:Int)<=255:=by have:=(lookB s i').toNat_lt;omega
   by_cases aB:lookB s i'=93
   ·have bR:IntKind.i64.wrap ((i':Int)+1)=(i':Int)+1:=by rw[IntKind.wrap_i64];omega
    have gb:wr.heap[w.heap.size]?=_:=(HM.out.near.block w.heap.size (by omega) (by omega)).trans aI
    have g0:wr.cell? ⟨w.heap.size,0,none⟩=some (.int .i64 0):=by simp[World.cell?,gb]
    have g1:wr.cell? ⟨w.heap.size,1,none⟩=some (.int .i64 0):=by simp[World.cell?,gb]
    have g2:wr.cell? ⟨w.heap.size,2,none⟩=some (.string ⟨#[]⟩):=by simp[World.cell?,gb]
    have g3:wr.cell? ⟨w.heap.size,3,none⟩=some (.slice none 0 0):=by simp[World.cell?,gb]
    have g4:wr.cell? ⟨w.heap.size,4,none⟩=some (.slice none 0 0):=by simp[World.cell?,gb]
    have gf:∀ o,wr.frozen? ⟨w.heap.size,o,none⟩=false:=fun o=>by simp[World.frozen?,gb]
    have gf0:=gf 0
    have gf1:=gf 1
    have gf2:=gf 2
    have gf3:=gf 3
    have gf4:=gf 4
    have y0:wr.cell? ⟨w.heap.size+1,0,none⟩=some (.int .i64 4):=by simp[World.cell?,HM.out.box]
    have y1:wr.cell? ⟨w.heap.size+1,1,none⟩=some (.int .i64 0):=by simp[World.cell?,HM.out.box]
    have y2:wr.cell? ⟨w.heap.size+1,2,none⟩=some (.string ByteArray.empty):=by simp[World.cell?,HM.out.box]
    clear gb gf
    have aJ:(lookB s i').toNat=93:=by rw[aB];rfl
    have HZ:Hid (∀ q,qiQ m n w R s i _ _):=fun q=>qwE (HM.out.keep (by omega) ((Near.refl R wr).drewN q)) hR bB aT (HR.out.drewN q) HI.out hs hn6 (fun _=>aB)
    rw[aJ]at HL
    clear aJ aB
    go_wp2_with (go_at_call 56;refine HL.out.mono ?_;rintro e w' ⟨rfl,nq,rfl⟩)
    refine bodyPost_ret (v:=.agg #[.int .i64 4,.int .i64 0,.string ByteArray.empty,.slice na 0 nc,.slice ka ks.length kc]) (by simp[results,Tryz.results72,go_sem,g0,g1,g2,g3,g4]) rfl ?_
    exact HZ.out nq
   ·have bY:(((lookB s i').toNat:Int)==93)=false:=by
     rw[beq_eq_false_iff_ne]
     intro e;apply aB;apply UInt8.toNat_inj.1
     have bZ:(93:UInt8).toNat=93:=rfl
     omega
    have HE:Hid (¬ lookB s i'=93):=aB
    clear aB
    generalize (lookB s i').toNat=c at *
    have HW:Hid (∃ hgt:Bool,hgt=decide ((0:Int)<(ks.length:Int))):=⟨_,rfl⟩
    obtain⟨i0,bH,bI,bJ,bK⟩:=info_parts Tryz.info_treeR
    have aE:Hid (_/\_/\_/\_):=⟨bH,bI,bJ,bK⟩
    have cA:IntKind.i64.wrap (6 - (n:Int)+1)=7 - (n:Int):=by rw[IntKind.wrap_i64];omega
    clear bH bI bJ bK
    cases hgt:decide ((0:Int)<(ks.length:Int)) with
    | false=>
     have cB:((ks.length:Nat):Int)<=0:=by simpa using hgt
     clear hgt
     have HC:Hid (∀ q,Calls Tryz.prog 54 #[.pointer (some ⟨R,0,none⟩),.int .i64 (7 - (n:Int))] (wr.drewN q) (qbB m n (wr.drewN q) R s i' false)):=fun q=>hn m R s i' false _ hm (HR.out.drewN m) hs (fun _=>bC) (by omega)
     have aU:Hid (Comma s ks.length i' i' false):=.inl ⟨by omega,rfl,rfl⟩
     go_wp2_with (go_at_call 56;refine HL.out.mono ?_;rintro e w' ⟨rfl,nq,rfl⟩)
     have aV:Hid (Calls Tryz.prog 54 #[.pointer (some ⟨R,0,none⟩),.int .i64 (7 - (n:Int))] (wr.drewN nq).drew (qbB m n (wr.drewN nq).drew R s i' false)):=HC.out (nq+1)
     go_region_law (first
      | (refine step_append_lies _ (by rfl) (.tmp 49) (.tmp 54) 65 (by rfl) (w.heap.size+1+1) 67 i0 _ 5 80 Tryz.underlying65 aE.out.1 aE.out.2.1 aE.out.2.2.1 aE.out.2.2.2 rfl (by decide) (.slice ka ks.length kc) ks.length xs (by rfl) (aK _) ⟨w2.heap.size,0,none⟩ 1 1 [.int .i64 y0',.int .i64 y1',.string y2',.slice ya yl yc,.slice za zl zc] (by rfl) rfl (World.news_of_block (heap_alloc_new w2 _)) (by simp[Value.oneCell']) (by decide) (by unfold maxLen;omega) (by omega) (by simp;omega) (w2.heap.size+1) (by simp) ?_;intro g cap w3 aD aA aN bV;have aG:=(qiP (W:=(wr.drewN nq).drew) HX.out hX (by omega) aC aA).trans HM.out.box;have x4'':w3.cell? ⟨w.heap.size+1,4,none⟩=some (.slice ka ks.length kc):=(by simp[World.cell?,aG]);have xf'':w3.frozen? ⟨w.heap.size+1,4,none⟩=false:=(by simp[World.frozen?,aG]))
      | (go_simp;go_at_call 54;refine aV.out.mono ?_;rintro e w2 ⟨aC,t2,y0,y1,y2,y3,y4,i2,bad2,rfl,aH,aO,aP⟩;obtain⟨y0',y1',y2',ya,yl,yc,za,zl,zc,rfl,rfl,rfl,rfl,rfl⟩:=aH.shape;have aW:wr.heap.size<=w2.heap.size:=aC.size;have aK:=fun o=>qiA (R:=R) (X:=w.heap.size+1) (W:=(wr.drewN nq).drew) HX.out (by omega) aC o;have x4':w2.cell? ⟨w.heap.size+1,4,none⟩=some (.slice ka ks.length kc):=(World.cell?_of_block (aC.block (w.heap.size+1) (by simpa using hX) (by omega))).trans x4;have x4a:(w2.alloc (.cells #[.int .i64 y0',.int .i64 y1',.string y2',.slice ya yl yc,.slice za zl zc] 67)).cell? ⟨w.heap.size+1,4,none⟩=some (.slice ka ks.length kc):=(World.cell?_of_block (Below.heap_alloc _ _ _ (by show w.heap.size+1<_;omega))).trans x4'))
     all_goals
      have HF:Hid (Many R (w.heap.size+1) m Wb (w3.setCell ⟨w.heap.size+1,4,none⟩ (.slice (some ⟨g,0,none⟩) (ks.length+1) cap)) 4 [] (ks++[t2]) (.slice na 0 nc) (.slice (some ⟨g,0,none⟩) (ks.length+1) cap)):=
       Many.kidD (nq+1) HM.out (by omega) (by omega) aC aH HX.out HK.out aD aA aN
      have HG:=qlE (X:=w.heap.size+1) (q:=4) (u:=.slice (some ⟨g,0,none⟩) (ks.length+1) cap) (W:=(wr.drewN nq).drew) aO HX.out (by omega) aA
      have HS:=qrP HI.out HE.out aU.out aP
      have aL:Hid (RdS (w3.setCell ⟨w.heap.size+1,4,none⟩ (.slice (some ⟨g,0,none⟩) (ks.length+1) cap)) R s i2 bad2):=HG
      have aM:Hid _:=HS
      clear HG HS aD aA aN aH aO aP aC aK x4' x4a x4'' xf'' aG
      go_wp2_with fail
      go_roundw
      case rel=>exact⟨_,_,_,i2,bad2,HF.out,aL.out,aM.out.1⟩
      case measure=>rw[RdS.left aL.out,RdS.left HR.out];simpa using aM.out.2
    | true=>
     have bT:(0:Int)<((ks.length:Nat):Int):=by simpa using hgt
     have bD:Hid (¬ ks.length=0):=by show ¬ _;omega
     clear hgt
     go_wp2_with (go_at_call 56;refine HL.out.mono ?_;rintro e w' ⟨rfl,nq,rfl⟩)
     refine (qcK _ R s ⟨#[44]⟩ i' false (HR.out.drewN nq) hs (by decide) bC).mono ?_
     rintro e w1 ⟨rfl,bL,bM⟩
     obtain⟨i1,bad1,bN,bO,bA,aQ⟩:∃ (i1:Nat) (bad1:Bool),RdS w1 R s i1 bad1/\Comma s ks.length i' i1 bad1/\(bad1=false->i1<=s.size)/\i1<=20000:=by
      rcases bM with ⟨he,hz,h⟩|⟨he,h⟩
      ·exact⟨i'+1,false,h,.inr ⟨bD.out,.inl ⟨he,hz,rfl,rfl⟩⟩,fun _=>hz,by omega⟩
      ·exact⟨i',true,h,.inr ⟨bD.out,.inr ⟨he,rfl,rfl⟩⟩,(fun h=>by cases h),by omega⟩
     have aX:Near R wr w1:=((Near.refl R wr).drewN nq).trans bL
     have aR:Hid (Many R (w.heap.size+1) m Wb w1 4 [] ks (.slice na 0 nc) (.slice ka ks.length kc)):=HM.out.keep (by omega) aX
     have aY:=xaS HX.out HK.out (by omega) aX
     have aS:Hid (w1.ownsRow (w.heap.size+1+1) 67 5 (.slice ka ks.length kc) ks.length xs):=aY.1
     have bU:Hid (∀ j (h:j<ks.length),_):=aY.2
     have aU:=hidF bO
     have bE:=aR.out.lt
     have x4w:w1.cell? ⟨w.heap.size+1,4,none⟩=some (.slice ka ks.length kc):=by simp[World.cell?,aR.out.box]
     have aV:Hid (Calls Tryz.prog 54 #[.pointer (some ⟨R,0,none⟩),.int .i64 (7 - (n:Int))] w1.drew (qbB m n w1.drew R s i1 bad1)):=hn m R s i1 bad1 _ hm (bN.drewN 1) hs bA aQ
     clear aY bO bM bN bL aX x3 x4 xf d1 d2 df HL HX HK HM
     go_wp2_with fail
     go_region_law (first
      | (refine step_append_lies _ (by rfl) (.tmp 49) (.tmp 54) 65 (by rfl) (w.heap.size+1+1) 67 i0 _ 5 80 Tryz.underlying65 aE.out.1 aE.out.2.1 aE.out.2.2.1 aE.out.2.2.2 rfl (by decide) (.slice ka ks.length kc) ks.length xs (by rfl) (aK _) ⟨w2.heap.size,0,none⟩ 1 1 [.int .i64 y0',.int .i64 y1',.string y2',.slice ya yl yc,.slice za zl zc] (by rfl) rfl (World.news_of_block (heap_alloc_new w2 _)) (by simp[Value.oneCell']) (by decide) (by unfold maxLen;omega) (by omega) (by simp;omega) (w2.heap.size+1) (by simp) ?_;intro g cap w3 aD aA aN bV;have aG:=(qiP (W:=w1.drew) aS.out bE (by omega) aC aA).trans aR.out.box;have x4'':w3.cell? ⟨w.heap.size+1,4,none⟩=some (.slice ka ks.length kc):=(by simp[World.cell?,aG]);have xf'':w3.frozen? ⟨w.heap.size+1,4,none⟩=false:=(by simp[World.frozen?,aG]))
      | (go_simp;go_at_call 54;refine aV.out.mono ?_;rintro e w2 ⟨aC,t2,y0,y1,y2,y3,y4,i2,bad2,rfl,aH,aO,aP⟩;obtain⟨y0',y1',y2',ya,yl,yc,za,zl,zc,rfl,rfl,rfl,rfl,rfl⟩:=aH.shape;have aW:w1.heap.size<=w2.heap.size:=aC.size;have aK:=fun o=>qiA (R:=R) (X:=w.heap.size+1) (W:=w1.drew) aS.out (by omega) aC o;have x4':w2.cell? ⟨w.heap.size+1,4,none⟩=some (.slice ka ks.length kc):=(World.cell?_of_block (aC.block (w.heap.size+1) (by simpa using bE) (by omega))).trans x4w;have x4a:(w2.alloc (.cells #[.int .i64 y0',.int .i64 y1',.string y2',.slice ya yl yc,.slice za zl zc] 67)).cell? ⟨w.heap.size+1,4,none⟩=some (.slice ka ks.length kc):=(World.cell?_of_block (Below.heap_alloc _ _ _ (by show w.heap.size+1<_;omega))).trans x4'))
     all_goals
      have HF:Hid (Many R (w.heap.size+1) m Wb (w3.setCell ⟨w.heap.size+1,4,none⟩ (.slice (some ⟨g,0,none⟩) (ks.length+1) cap)) 4 [] (ks++[t2]) (.slice na 0 nc) (.slice (some ⟨g,0,none⟩) (ks.length+1) cap)):=
       Many.kidD 1 aR.out (by omega) (by omega) aC aH aS.out bU.out aD aA aN
      have HG:=qlE (X:=w.heap.size+1) (q:=4) (u:=.slice (some ⟨g,0,none⟩) (ks.length+1) cap) (W:=w1.drew) aO aS.out (by omega) aA
      have HS:=qrP HI.out HE.out aU.out aP
      have aL:Hid (RdS (w3.setCell ⟨w.heap.size+1,4,none⟩ (.slice (some ⟨g,0,none⟩) (ks.length+1) cap)) R s i2 bad2):=HG
      have aM:Hid _:=HS
      clear HG HS aD aA aN aH aO aP aC aK x4' x4a x4'' xf'' aG
      go_wp2_with fail
      go_roundw
      case rel=>exact⟨_,_,_,i2,bad2,HF.out,aL.out,aM.out.1⟩
      case measure=>rw[RdS.left aL.out,RdS.left HR.out];simpa using aM.out.2
end Go.Proofs.YtelogmjfekhmpaaGreatDoor
