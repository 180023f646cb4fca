import Derived.Test.YtelogmjfekhmpaaGreatDoorB11
import Derived.Deep.RegionLaw
import Derived.Test.YtelogmjfekhmpaaGreatDoorB1
import Derived.Test.YtelogmjfekhmpaaGreatDoorB6
namespace Go.Proofs.YtelogmjfekhmpaaGreatDoor
open Go.RowKit Go.Proofs.Tryz
set_option maxRecDepth 100000
set_option maxHeartbeats 16000000
def qaZ(m n:Nat)(w:World)(R:Nat)(s:ByteArray)(i:Nat)(bad:Bool)(e:Ending)(w':World):Prop:=
 Near R w w' /\ ∃(t:T m)(c0 c1 c2 c3 c4:Value)(i':Nat)(bad':Bool),e=.returned (.agg #[c0,c1,c2,c3,c4])/\TreeIn (fun b=>w.heap.size<=b/\b<w'.heap.size) w' m t c0 c1 c2 c3 c4/\RdS w' R s i' bad' /\
  i<=i' /\ (bad'=false->bad=false/\i<i' /\ i'<=s.size)/\(bad=false->i'<=s.size+n)/\(bad=true->i'=i) /\
  (∀(t0:T m) post,bad=false->s.data.toList.drop i=txtL m t0++post->goodT m t0 (7-(n:Int))=true->noDig post=true->t=t0/\bad'=false/\i'=i+(txtL m t0).length)
def qeF(n:Nat):Prop:=∀(m R:Nat)(s:ByteArray)(i:Nat)(bad:Bool)(w:World),n+1<=m->RdS w R s i bad->s.size<=10000->(bad=false->i<=s.size)->i<=20000 ->
 Calls prog 54 #[.pointer (some ⟨R,0,none⟩),.int .i64 (7-(n:Int))] w (qaZ m n w R s i bad)
def qwD(w:World)(R:Nat)(H:Nat):Nat:=match w.cell? ⟨R,2,none⟩ with|some (.bool true)=>0|_=>H+1-atOf w R
theorem RdS.left{w:World}{R:Nat}{s:ByteArray}{i:Nat}{b:Bool}(h:RdS w R s i b)(H:Nat):qwD w R H=if b=true then 0 else H+1-i:=by
 unfold qwD
 rw[h.cell2,h.atOf]
 cases b<;>simp
def qpJ(m n:Nat)(s:ByteArray)(i:Nat)(ks:List (T m))(i':Nat)(bad':Bool):Prop:=
 i<i' /\ (bad'=false->i'<=s.size)/\i'<=s.size+n/\ks.length<=i'+(if bad'=true then 1 else 0) /\
  ∀(ks0:List (T m)) post,s.data.toList.drop (i+1)=joinL (ks0.map (txtL m))++93 :: post->(∀k,k∈ks0->goodT m k (7-(n:Int))=true) ->
   ∃k,k<=ks0.length/\ks=ks0.take k/\bad'=false/\s.data.toList.drop i'=tailL (decide (k=0)) ((ks0.drop k).map (txtL m))++93 :: post
theorem Tryz.info_treeR:(prog.info? 67).map (fun i=>(i.zero,i.size,i.bytes))=some (some (.agg #[.int .i64 0,.int .i64 0,.string ⟨#[]⟩,.slice none 0 0,.slice none 0 0]),5,80):=by kernel_rfl
theorem qhX{R X k z:Nat}{e:TypeId}{v:Value}{xs:List Value}{W w2:World}(h:W.ownsRow (X+1) e z v k xs)(hRX:R<X)(hn:Near R W w2)(o:Obj):(w2.alloc o).ownsRow (X+1) e z v k xs:=
 qaK h fun g hg=>by
  have h1:=qaF h g hg
  have h2:=hn.size
  rw[Below.heap_alloc _ _ _ (by omega)]
  exact hn.block g h1.2 (by omega)
theorem qlB {R X k z:Nat} {e:TypeId} {v u:Value} {xs:List Value} {W w2 w3:World} {o:Obj} {s:ByteArray} {j:Int} {b:Bool} {q:Nat} (hr:RdS w2 R s j b) (h:W.ownsRow (X+1) e z v k xs) (hRX:R<X) (hg:(w2.alloc o).grownBy w3 v.ownBlock) :
  RdS (w3.setCell ⟨X,q,none⟩ u) R s j b:=by
 have a:=hr.lt
 unfold RdS at hr ⊢
 rw[Below.heap_setCell _ _ _ _ (by show R≠X;omega),hg.block R (by simp;omega) (fun e=>by have:=qaF h R e.symm;omega),Below.heap_alloc _ _ _ a]
 exact hr
theorem qiL{R X k z:Nat}{e:TypeId}{v:Value}{xs:List Value}{W w2 w3:World}{o:Obj}(h:W.ownsRow (X+1) e z v k xs)(hX:X<W.heap.size)(hRX:R<X)(hn:Near R W w2)(hg:(w2.alloc o).grownBy w3 v.ownBlock):w3.heap[X]?=W.heap[X]?:=by
 have a:=hn.size
 rw[hg.block X (by simp;omega) (fun e=>by have:=qaF h X e.symm;omega),Below.heap_alloc _ _ _ (by omega)]
 exact hn.block X hX (by omega)
theorem Many.kidD {R X n:Nat} {w wr W1 W2:World} {so:Int} {ns:List ByteArray} {ks:List (T n)} {nv kv:Value} {t:T n} {c0 c1 c2 c3 c4:Value} {one:Obj} {g cap:Nat} (m:Nat) (h0:Many R X n w wr so ns ks nv kv) (hRX:R<X) (hw:w.heap.size<=X)
  (hn:Near R (wr.drewN m) W1) (ht:TreeIn (fun b=>(wr.drewN m).heap.size<=b/\b<W1.heap.size) W1 n t c0 c1 c2 c3 c4) {xs:List Value}
  (hxs:wr.ownsRow (X+1) 67 5 kv ks.length xs) (hk:∀j (h:j<ks.length),∃c0 c1 c2 c3 c4,(xs[j*5]?=some c0/\xs[j*5+1]?=some c1/\xs[j*5+2]?=some c2/\xs[j*5+3]?=some c3/\xs[j*5+4]?=some c4)/\TreeIn (Far (X+1) nv kv wr.heap.size) wr n ks[j] c0 c1 c2 c3 c4)
  (hown:W2.ownsRow (X+1) 67 5 (.slice (some ⟨g,0,none⟩) (ks.length+1) cap) (ks.length+1) (xs++[c0,c1,c2,c3,c4])) (hgrow:(W1.alloc one).grownBy W2 kv.ownBlock) (hat:kv.ownBlock=some g∨g=W1.heap.size+1) :
  Many R X n w (W2.setCell ⟨X,4,none⟩ (.slice (some ⟨g,0,none⟩) (ks.length+1) cap)) so ns (ks++[t]) nv (.slice (some ⟨g,0,none⟩) (ks.length+1) cap):=
 Many.kid (W:=wr.drewN m) (Wa:=W1.alloc one) (one:=one) (h0.keep hRX ((Near.refl R wr).drewN m)) hRX hw hn ht rfl ⟨rfl,rfl,rfl⟩ hxs
  (fun j hj=>by obtain⟨d0,d1,d2,d3,d4,hd,hdt⟩:=hk j hj;exact⟨d0,d1,d2,d3,d4,hd,TreeIn.keep (S:=Far (X+1) nv kv wr.heap.size) (w:=wr) (w':=wr.drewN m) (fun _ _=>rfl) (fun _ h=>h) hdt⟩) hown hgrow hat
theorem xaS {R X n k:Nat} {wr w1:World} {ks:List (T n)} {nv kv:Value} {xs:List Value} (hxs:wr.ownsRow (X+1) 67 5 kv k xs)
  (hk:∀j (h:j<ks.length),∃c0 c1 c2 c3 c4,(xs[j*5]?=some c0/\xs[j*5+1]?=some c1/\xs[j*5+2]?=some c2/\xs[j*5+3]?=some c3/\xs[j*5+4]?=some c4)/\TreeIn (Far (X+1) nv kv wr.heap.size) wr n ks[j] c0 c1 c2 c3 c4)
  (hRX:R<X) (hn:Near R wr w1):w1.ownsRow (X+1) 67 5 kv k xs /\
   ∀j (h:j<ks.length),∃c0 c1 c2 c3 c4,(xs[j*5]?=some c0/\xs[j*5+1]?=some c1/\xs[j*5+2]?=some c2/\xs[j*5+3]?=some c3/\xs[j*5+4]?=some c4)/\TreeIn (Far (X+1) nv kv w1.heap.size) w1 n ks[j] c0 c1 c2 c3 c4:=by
 refine⟨qaK hxs fun g hg=>?_,fun j hj=>?_⟩
 ·have c:=qaF hxs g hg
  exact hn.block g c.2 (by omega)
 ·obtain⟨d,e,f,i,l,m,a⟩:=hk j hj
  refine⟨d,e,f,i,l,m,a.keep (fun b hb=>hn.block b hb.2.1 (by have:=hb.1;omega)) (fun b hb=>⟨hb.1,Nat.lt_of_lt_of_le hb.2.1 hn.size,hb.2.2⟩)⟩
def Comma(s:ByteArray)(L i' i1:Nat)(bad1:Bool):Prop:=
 (L=0/\i1=i' /\ bad1=false)∨(¬L=0/\((eatP [44] (s.data.toList.drop i')=some (s.data.toList.drop (i'+1))/\i'+1<=s.size/\i1=i'+1/\bad1=false)∨(eatP [44] (s.data.toList.drop i')=none/\i1=i' /\ bad1=true)))
theorem qrP {m n:Nat} {s:ByteArray} {i:Nat} {ks:List (T m)} {i' i1 i2:Nat} {bad1 bad2:Bool} {t2:T m} (hI:qpJ m n s i ks i' false) (hne:¬ lookB s i'=93) (hc:Comma s ks.length i' i1 bad1)
  (hp:i1<=i2/\(bad2=false->bad1=false/\i1<i2/\i2<=s.size)/\(bad1=false->i2<=s.size+n)/\(bad1=true->i2=i1) /\
   (∀(t0:T m) post,bad1=false->s.data.toList.drop i1=txtL m t0++post->goodT m t0 (7-(n:Int))=true->noDig post=true->t2=t0/\bad2=false/\i2=i1+(txtL m t0).length)) :
  qpJ m n s i (ks++[t2]) i2 bad2/\(if bad2=true then 0 else s.size+1-i2)<s.size+1-i':=by
 obtain⟨C,o,D,p,u⟩:=hI
 obtain⟨E,j,v,w,x⟩:=hp
 have o:=o rfl
 have p:ks.length<=i':=by simpa using p
 have q:i'<=i1:=by
  rcases hc with ⟨-,h,-⟩|⟨-,⟨-,-,h,-⟩|⟨-,h,-⟩⟩<;>omega
 refine⟨⟨by omega,fun h=>(j h).2.2,?_,?_,fun ks0 post he hg=>?_⟩,?_⟩
 ·cases bad1 with
  | false=>exact v rfl
  | true=>
   have:=w rfl
   rcases hc with ⟨-,-,h⟩|⟨-,⟨-,-,-,h⟩|⟨-,h,-⟩⟩
   ·cases h
   ·cases h
   ·omega
 ·rw[List.length_append,List.length_singleton]
  cases bad2 with
  | false=>have:=(j rfl).2.1;simp;omega
  | true=>simp;omega
 ·obtain⟨k,F,e,-,c⟩:=u ks0 post he hg
  have t:ks.length=k:=by rw[e,List.length_take];omega
  have d:k<ks0.length:=by
   refine Classical.byContradiction fun hge=>hne ?_
   have:ks0.drop k=[]:=List.drop_of_length_le (by omega)
   rw[this]at c
   unfold lookB
   rw[c];rfl
  have f:ks0.drop k=ks0[k] :: ks0.drop (k+1):=List.drop_eq_getElem_cons d
  rw[f,List.map_cons,tailL,List.append_assoc]at c
  have a:bad1=false/\s.data.toList.drop i1=txtL m ks0[k]++(tailL false ((ks0.drop (k+1)).map (txtL m))++93 :: post):=by
   by_cases hk0:k=0
   ·simp only[hk0,decide_true,if_true]at c
    rcases hc with ⟨-,h,l⟩|⟨h,-⟩
    ·refine⟨l,?_⟩
     rw[h,c]
     simp only[hk0]
    ·exact absurd (by omega) h
   ·simp only[hk0,decide_false,Bool.false_eq_true,if_false,List.cons_append]at c
    rcases hc with ⟨h,-⟩|⟨-,⟨b,-,h,l⟩|⟨b,-⟩⟩
    ·exact absurd (by omega) hk0
    ·refine⟨l,?_⟩
     rw[c,qaE]at b
     rw[h]
     exact (Option.some.inj b).symm
    ·rw[c,qaE]at b;cases b
  have g:noDig (tailL false ((ks0.drop (k+1)).map (txtL m))++93 :: post)=true:=by
   cases ks0.drop (k+1) with
   | nil=>rfl
   | cons y r=>rw[List.map_cons,qcK];rfl
  obtain⟨z,A,B⟩:=x ks0[k] _ a.1 a.2 (hg _ (List.getElem_mem d)) g
  refine⟨k+1,by omega,?_,A,?_⟩
  ·rw[List.take_succ_eq_append_getElem d,<- e,z]
  ·rw[B,<- List.drop_drop,a.2,List.drop_left]
   simp
 ·cases bad2 with
  | true=>simp;omega
  | false=>have:=(j rfl).2;simp;omega
def qiM(m n:Nat)(w:World)(R:Nat)(s:ByteArray)(i:Nat)(e:Ending)(w':World):Prop:=
 Near R w w' /\ ∃(ks:List (T m))(nv kv:Value)(i':Nat)(bad':Bool),e=.returned (.agg #[.int .i64 4,.int .i64 0,.string ByteArray.empty,nv,kv]) /\
  TreeIn (fun b=>w.heap.size<=b/\b<w'.heap.size) w' (m+1) (⟨4,0,ByteArray.empty,[],ks⟩:Nd (T m)) (.int .i64 4) (.int .i64 0) (.string ByteArray.empty) nv kv/\RdS w' R s i' bad' /\
  i<i' /\ (bad'=false->i'<=s.size)/\i'<=s.size+n+1 /\
  (∀(ks0:List (T m)) post,s.data.toList.drop (i+1)=joinL (ks0.map (txtL m))++93 :: post->(∀k,k∈ks0->goodT m k (7-(n:Int))=true) ->
   ks=ks0/\bad'=false/\i'=i+(joinL (ks0.map (txtL m))).length+2)
theorem qwE {m n:Nat} {w Wb wr:World} {R:Nat} {s:ByteArray} {i i':Nat} {bad':Bool} {ks:List (T m)} {nv kv:Value} (h:Many R (w.heap.size+1) m Wb wr 4 [] ks nv kv) (hR:R<w.heap.size) (hwb:Near R w Wb)
  (hbs:Wb.heap.size=w.heap.size+1) (hr:RdS wr R s i' bad') (hI:qpJ m n s i ks i' bad') (hs:s.size<=10000) (hn6:n<=5) (hend:bad'=false->lookB s i'=93) :
  qiM m n w R s i (.returned (.agg #[.int .i64 4,.int .i64 0,.string ByteArray.empty,nv,kv])) (put5 (wr.setCell ⟨R,1,none⟩ (.int .i64 ((i':Int)+1))) w.heap.size 0 (.int .i64 4) (.int .i64 0) (.string ByteArray.empty) nv kv):=by
 obtain⟨B,o,C,v,x⟩:=hI
 have q:ks.length<=20000:=by cases bad'<;>simp at v<;>omega
 obtain⟨y,z,A⟩:=qwC h hR hwb hbs hr (by rfl) (Nat.zero_le _) q
 refine⟨y,ks,nv,kv,i'+1,bad',rfl,A,z,by omega,fun d=>?_,by omega,fun ks0 post he hg=>?_⟩
 ·have:=o d
  have a:=hend d
  refine Classical.byContradiction fun hge=>?_
  rw[qbU s i' (by omega)]at a
  exact absurd a (by decide)
 ·obtain⟨k,D,j,d,p⟩:=x ks0 post he hg
  have a:=hend d
  have f:k=ks0.length:=by
   refine Classical.byContradiction fun hne=>?_
   have b:k<ks0.length:=by omega
   unfold lookB at a
   rw[p,List.drop_eq_getElem_cons b,List.map_cons,tailL]at a
   obtain⟨c,r,e,g⟩:=qlO m ks0[k] (7-(n:Int)) (hg _ (List.getElem_mem b))
   by_cases hk0:k=0
   ·simp only[hk0,decide_true,if_true]at a
    simp only[hk0]at e
    rw[e]at a
    simp only[List.cons_append,List.headD_cons]at a
    exact (xhW g).1 a
   ·simp only[hk0,decide_false,Bool.false_eq_true,if_false,List.cons_append,List.headD_cons]at a
    exact absurd a (by decide)
  refine⟨by rw[j,f,List.take_length],d,?_⟩
  have t:=o d
  have l:=congrArg List.length p
  have u:=congrArg List.length he
  rw[f,List.drop_length]at l
  simp[tailL]at l u
  have b:i'<s.size:=by
   refine Classical.byContradiction fun hge=>?_
   rw[qbU s i' (by omega)]at a
   exact absurd a (by decide)
  omega
theorem xaT (n:Nat) (hn:qeF n) (hn6:n<=5) (m R:Nat) (hm:n+1<=m) (s:ByteArray) (i:Nat) (w:World) (h:RdS w R s i false) (hs:s.size<=10000) (hi:i<s.size) :
  Calls prog 72 #[.pointer (some ⟨R,0,none⟩),.int .i64 4,.int .u8 93,.int .i64 (6-n)] w (qiM m n w R s i):=by
 have c0:=h.cell0
 have c1:=h.cell1
 have c2:=h.cell2
 have f1:=h.free 1
 have hR:=h.lt
 have bL:IntKind.i64.wrap ((i:Int)+1)=(i:Int)+1:=by rw[IntKind.wrap_i64];omega
 have aI:Near R w ((w.setCell ⟨R,1,none⟩ (.int .i64 ((i:Int)+1))).alloc (.cells #[.int .i64 0,.int .i64 0,.string ⟨#[]⟩,.slice none 0 0,.slice none 0 0] 67)):=(Near.set R 1 w _).trans (Near.alloc _ _ _)
 have aY:RdS ((w.setCell ⟨R,1,none⟩ (.int .i64 ((i:Int)+1))).alloc (.cells #[.int .i64 0,.int .i64 0,.string ⟨#[]⟩,.slice none 0 0,.slice none 0 0] 67)) R s ((i+1:Nat):Int) false:=
  (Below.heap_alloc _ _ _ (by simpa using hR)).trans (h.set1 ((i:Int)+1))
 have Y:((w.setCell ⟨R,1,none⟩ (.int .i64 ((i:Int)+1))).alloc (.cells #[.int .i64 0,.int .i64 0,.string ⟨#[]⟩,.slice none 0 0,.slice none 0 0] 67)).heap[w.heap.size]?=some (.cells #[.int .i64 0,.int .i64 0,.string ⟨#[]⟩,.slice none 0 0,.slice none 0 0] 67 (0,0)):=by
  have:=heap_alloc_new (w.setCell ⟨R,1,none⟩ (.int .i64 ((i:Int)+1))) (.cells #[.int .i64 0,.int .i64 0,.string ⟨#[]⟩,.slice none 0 0,.slice none 0 0] 67)
  simpa using this
 have aA:((w.setCell ⟨R,1,none⟩ (.int .i64 ((i:Int)+1))).alloc (.cells #[.int .i64 0,.int .i64 0,.string ⟨#[]⟩,.slice none 0 0,.slice none 0 0] 67)).heap.size=w.heap.size+1:=by simp
 go_enter func72,ntmps72
 go_wp2_with fail
 generalize ((w.setCell ⟨R,1,none⟩ (.int .i64 ((i:Int)+1))).alloc (.cells #[.int .i64 0,.int .i64 0,.string ⟨#[]⟩,.slice none 0 0,.slice none 0 0] 67))=Wb at *
 go_loopw [23] (fun _ wr=>∃(a:List (T m))(nv kv:Value)(f:Nat)(r:Bool),Many R (w.heap.size+1) m Wb wr 4 [] a nv kv/\RdS wr R s f r/\qpJ m n s i a f r) (fun _ wr=>qwD wr R s.size)
 case atStart=>
  refine⟨[],.slice none 0 0,.slice none 0 0,i+1,false,⟨Near.alloc _ _ _,?_,⟨rfl,.inl ⟨rfl,rfl⟩⟩,by simp,⟨[],⟨rfl,.inl ⟨rfl,rfl⟩⟩,fun j hj=>absurd hj (Nat.not_lt_zero _)⟩,fun b hb=>by cases hb⟩,?_,?_⟩
  ·rw[<- aA];exact heap_alloc_new _ _
  ·exact (Below.heap_alloc _ _ _ (by omega)).trans aY
  ·refine⟨by omega,fun _=>by omega,by omega,by simp,fun ks0 post he hg=>⟨0,Nat.zero_le _,by simp,rfl,?_⟩⟩
   rw[he];simp[qcT]
 case round=>
  obtain⟨a,nv,kv,f,r,hM,hr,hI⟩:=hrel
  obtain⟨na,nc,rfl⟩:=qeU hM.names
  obtain⟨xs,aG,K⟩:=hM.kids
  obtain⟨C,D,rfl⟩:=qeU aG
  have hX:=hM.lt
  have x3:wr.cell? ⟨w.heap.size+1,3,none⟩=some (.slice na 0 nc):=by simp[World.cell?,hM.box]
  have x4:wr.cell? ⟨w.heap.size+1,4,none⟩=some (.slice C a.length D):=by simp[World.cell?,hM.box]
  have xf:wr.frozen? ⟨w.heap.size+1,4,none⟩=false:=by simp[World.frozen?,hM.box]
  have d1:=hr.cell1
  have d2:=hr.cell2
  have df:=hr.free 1
  have aZ:=hI
  obtain⟨bR,aN,bS,aO,-⟩:=aZ
  have B:=hidF hM
  have HR:Hid (RdS wr R s f r):=hr
  have HI:=hidF hI
  have HX:=hidF aG
  have HK:=hidF K
  clear hM hr hI aG K c0 c1 c2 f1 h
  cases r with
  | true=>
   have bA:IntKind.i64.wrap ((f:Int)+1)=(f:Int)+1:=by rw[IntKind.wrap_i64];omega
   have y:wr.heap[w.heap.size]?=_:=(B.out.near.block w.heap.size (by omega) (by omega)).trans Y
   have g0:wr.cell? ⟨w.heap.size,0,none⟩=some (.int .i64 0):=by simp[World.cell?,y]
   have g1:wr.cell? ⟨w.heap.size,1,none⟩=some (.int .i64 0):=by simp[World.cell?,y]
   have g2:wr.cell? ⟨w.heap.size,2,none⟩=some (.string ⟨#[]⟩):=by simp[World.cell?,y]
   have g3:wr.cell? ⟨w.heap.size,3,none⟩=some (.slice none 0 0):=by simp[World.cell?,y]
   have g4:wr.cell? ⟨w.heap.size,4,none⟩=some (.slice none 0 0):=by simp[World.cell?,y]
   have gf:∀o,wr.frozen? ⟨w.heap.size,o,none⟩=false:=fun o=>by simp[World.frozen?,y]
   have bB:=gf 0
   have bC:=gf 1
   have bD:=gf 2
   have bE:=gf 3
   have bF:=gf 4
   have y0:wr.cell? ⟨w.heap.size+1,0,none⟩=some (.int .i64 4):=by simp[World.cell?,B.out.box]
   have y1:wr.cell? ⟨w.heap.size+1,1,none⟩=some (.int .i64 0):=by simp[World.cell?,B.out.box]
   have y2:wr.cell? ⟨w.heap.size+1,2,none⟩=some (.string ByteArray.empty):=by simp[World.cell?,B.out.box]
   clear y gf
   have HZ:Hid (qiM m n w R s i _ _):=qwE B.out hR aI aA HR.out HI.out hs hn6 (fun h=>by cases h)
   go_wp2_with fail
   refine bodyPost_ret (v:=.agg #[.int .i64 4,.int .i64 0,.string ByteArray.empty,.slice na 0 nc,.slice C a.length D]) (by simp[results,results72,go_sem,g0,g1,g2,g3,g4]) rfl ?_
   exact HZ.out
  | false=>
   have aJ:f<=s.size:=aN rfl
   have bJ:a.length<=f:=by simpa using aO
   clear aN aO
   have HL:Hid (Calls prog 56 #[.pointer (some ⟨R,0,none⟩)] wr fun e w'=>e=.returned (.int .u8 ((lookB s f).toNat:Int))/\∃m',w'=wr.drewN m'):=qeS wr R s f false HR.out
   have bM:((lookB s f).toNat:Int)<=255:=by have:=(lookB s f).toNat_lt;omega
   by_cases hend:lookB s f=93
   ·have bA:IntKind.i64.wrap ((f:Int)+1)=(f:Int)+1:=by rw[IntKind.wrap_i64];omega
    have y:wr.heap[w.heap.size]?=_:=(B.out.near.block w.heap.size (by omega) (by omega)).trans Y
    have g0:wr.cell? ⟨w.heap.size,0,none⟩=some (.int .i64 0):=by simp[World.cell?,y]
    have g1:wr.cell? ⟨w.heap.size,1,none⟩=some (.int .i64 0):=by simp[World.cell?,y]
    have g2:wr.cell? ⟨w.heap.size,2,none⟩=some (.string ⟨#[]⟩):=by simp[World.cell?,y]
    have g3:wr.cell? ⟨w.heap.size,3,none⟩=some (.slice none 0 0):=by simp[World.cell?,y]
    have g4:wr.cell? ⟨w.heap.size,4,none⟩=some (.slice none 0 0):=by simp[World.cell?,y]
    have gf:∀o,wr.frozen? ⟨w.heap.size,o,none⟩=false:=fun o=>by simp[World.frozen?,y]
    have bB:=gf 0
    have bC:=gf 1
    have bD:=gf 2
    have bE:=gf 3
    have bF:=gf 4
    have y0:wr.cell? ⟨w.heap.size+1,0,none⟩=some (.int .i64 4):=by simp[World.cell?,B.out.box]
    have y1:wr.cell? ⟨w.heap.size+1,1,none⟩=some (.int .i64 0):=by simp[World.cell?,B.out.box]
    have y2:wr.cell? ⟨w.heap.size+1,2,none⟩=some (.string ByteArray.empty):=by simp[World.cell?,B.out.box]
    clear y gf
    have Z:(lookB s f).toNat=93:=by rw[hend];rfl
    have HZ:Hid (∀q,qiM m n w R s i _ _):=fun q=>qwE (B.out.keep (by omega) ((Near.refl R wr).drewN q)) hR aI aA (HR.out.drewN q) HI.out hs hn6 (fun _=>hend)
    rw[Z]at HL
    clear Z hend
    go_wp2_with (go_at_call 56;refine HL.out.mono ?_;rintro e w' ⟨rfl,nq,rfl⟩)
    refine bodyPost_ret (v:=.agg #[.int .i64 4,.int .i64 0,.string ByteArray.empty,.slice na 0 nc,.slice C a.length D]) (by simp[results,results72,go_sem,g0,g1,g2,g3,g4]) rfl ?_
    exact HZ.out nq
   ·have bN:(((lookB s f).toNat:Int)==93)=false:=by
     rw[beq_eq_false_iff_ne]
     intro e;apply hend;apply UInt8.toNat_inj.1
     have bO:(93:UInt8).toNat=93:=rfl
     omega
    have HE:Hid (¬lookB s f=93):=hend
    clear hend
    generalize (lookB s f).toNat=c at *
    have HW:Hid (∃hgt:Bool,hgt=decide ((0:Int)<(a.length:Int))):=⟨_,rfl⟩
    obtain⟨i0,aP,aQ,aR,aS⟩:=info_parts Tryz.info_treeR
    have p:Hid (_/\_/\_/\_):=⟨aP,aQ,aR,aS⟩
    have bP:IntKind.i64.wrap (6-(n:Int)+1)=7-(n:Int):=by rw[IntKind.wrap_i64];omega
    clear aP aQ aR aS
    cases hgt:decide ((0:Int)<(a.length:Int)) with
    | false=>
     have bQ:((a.length:Nat):Int)<=0:=by simpa using hgt
     clear hgt
     have HC:Hid (∀q,Calls prog 54 #[.pointer (some ⟨R,0,none⟩),.int .i64 (7-(n:Int))] (wr.drewN q) (qaZ m n (wr.drewN q) R s f false)):=fun q=>hn m R s f false _ hm (HR.out.drewN m) hs (fun _=>aJ) (by omega)
     have aB:Hid (Comma s a.length f f false):=.inl ⟨by omega,rfl,rfl⟩
     go_wp2_with (go_at_call 56;refine HL.out.mono ?_;rintro e w' ⟨rfl,nq,rfl⟩)
     have aC:Hid (Calls prog 54 #[.pointer (some ⟨R,0,none⟩),.int .i64 (7-(n:Int))] (wr.drewN nq).drew (qaZ m n (wr.drewN nq).drew R s f false)):=HC.out (nq+1)
     go_region_law (first
      | (refine step_append_lies _ (by rfl) (.tmp 49) (.tmp 54) 65 (by rfl) (w.heap.size+1+1) 67 i0 _ 5 80 underlying65 p.out.1 p.out.2.1 p.out.2.2.1 p.out.2.2.2 rfl (by decide) (.slice C a.length D) a.length xs (by rfl) (G _) ⟨w2.heap.size,0,none⟩ 1 1 [.int .i64 O,.int .i64 P,.string Q,.slice ya yl yc,.slice za zl zc] (by rfl) rfl (World.news_of_block (heap_alloc_new w2 _)) (by simp[Value.oneCell']) (by decide) (by unfold maxLen;omega) (by omega) (by simp;omega) (w2.heap.size+1) (by simp) ?_;intro g cap w3 t d L bI;have z:=(qiL (W:=(wr.drewN nq).drew) HX.out hX (by omega) k d).trans B.out.box;have E:w3.cell? ⟨w.heap.size+1,4,none⟩=some (.slice C a.length D):=(by simp[World.cell?,z]);have F:w3.frozen? ⟨w.heap.size+1,4,none⟩=false:=(by simp[World.frozen?,z]))
      | (go_simp;go_at_call 54;refine aC.out.mono ?_;rintro e w2 ⟨k,t2,y0,y1,y2,y3,y4,i2,x,rfl,A,M,N⟩;obtain⟨O,P,Q,ya,yl,yc,za,zl,zc,rfl,rfl,rfl,rfl,rfl⟩:=A.shape;have aK:wr.heap.size<=w2.heap.size:=k.size;have G:=fun o=>qhX (R:=R) (X:=w.heap.size+1) (W:=(wr.drewN nq).drew) HX.out (by omega) k o;have H:w2.cell? ⟨w.heap.size+1,4,none⟩=some (.slice C a.length D):=(World.cell?_of_block (k.block (w.heap.size+1) (by simpa using hX) (by omega))).trans x4;have aD:(w2.alloc (.cells #[.int .i64 O,.int .i64 P,.string Q,.slice ya yl yc,.slice za zl zc] 67)).cell? ⟨w.heap.size+1,4,none⟩=some (.slice C a.length D):=(World.cell?_of_block (Below.heap_alloc _ _ _ (by show w.heap.size+1<_;omega))).trans H))
     all_goals
      have HF:Hid (Many R (w.heap.size+1) m Wb (w3.setCell ⟨w.heap.size+1,4,none⟩ (.slice (some ⟨g,0,none⟩) (a.length+1) cap)) 4 [] (a++[t2]) (.slice na 0 nc) (.slice (some ⟨g,0,none⟩) (a.length+1) cap)):=
       Many.kidD (nq+1) B.out (by omega) (by omega) k A HX.out HK.out t d L
      have HG:=qlB (X:=w.heap.size+1) (q:=4) (u:=.slice (some ⟨g,0,none⟩) (a.length+1) cap) (W:=(wr.drewN nq).drew) M HX.out (by omega) d
      have HS:=qrP HI.out HE.out aB.out N
      have I:Hid (RdS (w3.setCell ⟨w.heap.size+1,4,none⟩ (.slice (some ⟨g,0,none⟩) (a.length+1) cap)) R s i2 x):=HG
      have J:Hid _:=HS
      clear HG HS t d L A M N k G H aD E F z
      go_wp2_with fail
      go_roundw
      case rel=>exact⟨_,_,_,i2,x,HF.out,I.out,J.out.1⟩
      case measure=>rw[RdS.left I.out,RdS.left HR.out];simpa using J.out.2
    | true=>
     have bK:(0:Int)<((a.length:Nat):Int):=by simpa using hgt
     have aL:Hid (¬a.length=0):=by show ¬_;omega
     clear hgt
     go_wp2_with (go_at_call 56;refine HL.out.mono ?_;rintro e w' ⟨rfl,nq,rfl⟩)
     refine (qcI _ R s ⟨#[44]⟩ f false (HR.out.drewN nq) hs (by decide) aJ).mono ?_
     rintro e S ⟨rfl,aT,aU⟩
     obtain⟨i1,l,aV,aW,aX,aH⟩:∃(i1:Nat)(l:Bool),RdS S R s i1 l/\Comma s a.length f i1 l/\(l=false->i1<=s.size)/\i1<=20000:=by
      rcases aU with ⟨he,hz,h⟩|⟨he,h⟩
      ·exact⟨f+1,false,h,.inr ⟨aL.out,.inl ⟨he,hz,rfl,rfl⟩⟩,fun _=>hz,by omega⟩
      ·exact⟨f,true,h,.inr ⟨aL.out,.inr ⟨he,rfl,rfl⟩⟩,(fun h=>by cases h),by omega⟩
     have aE:Near R wr S:=((Near.refl R wr).drewN nq).trans aT
     have U:Hid (Many R (w.heap.size+1) m Wb S 4 [] a (.slice na 0 nc) (.slice C a.length D)):=B.out.keep (by omega) aE
     have aF:=xaS HX.out HK.out (by omega) aE
     have V:Hid (S.ownsRow (w.heap.size+1+1) 67 5 (.slice C a.length D) a.length xs):=aF.1
     have bG:Hid (∀j (h:j<a.length),_):=aF.2
     have aB:=hidF aW
     have aM:=U.out.lt
     have bH:S.cell? ⟨w.heap.size+1,4,none⟩=some (.slice C a.length D):=by simp[World.cell?,U.out.box]
     have aC:Hid (Calls prog 54 #[.pointer (some ⟨R,0,none⟩),.int .i64 (7-(n:Int))] S.drew (qaZ m n S.drew R s i1 l)):=hn m R s i1 l _ hm (aV.drewN 1) hs aX aH
     clear aF aW aU aV aT aE x3 x4 xf d1 d2 df HL HX HK B
     go_wp2_with fail
     go_region_law (first
      | (refine step_append_lies _ (by rfl) (.tmp 49) (.tmp 54) 65 (by rfl) (w.heap.size+1+1) 67 i0 _ 5 80 underlying65 p.out.1 p.out.2.1 p.out.2.2.1 p.out.2.2.2 rfl (by decide) (.slice C a.length D) a.length xs (by rfl) (G _) ⟨w2.heap.size,0,none⟩ 1 1 [.int .i64 O,.int .i64 P,.string Q,.slice ya yl yc,.slice za zl zc] (by rfl) rfl (World.news_of_block (heap_alloc_new w2 _)) (by simp[Value.oneCell']) (by decide) (by unfold maxLen;omega) (by omega) (by simp;omega) (w2.heap.size+1) (by simp) ?_;intro g cap w3 t d L bI;have z:=(qiL (W:=S.drew) V.out aM (by omega) k d).trans U.out.box;have E:w3.cell? ⟨w.heap.size+1,4,none⟩=some (.slice C a.length D):=(by simp[World.cell?,z]);have F:w3.frozen? ⟨w.heap.size+1,4,none⟩=false:=(by simp[World.frozen?,z]))
      | (go_simp;go_at_call 54;refine aC.out.mono ?_;rintro e w2 ⟨k,t2,y0,y1,y2,y3,y4,i2,x,rfl,A,M,N⟩;obtain⟨O,P,Q,ya,yl,yc,za,zl,zc,rfl,rfl,rfl,rfl,rfl⟩:=A.shape;have aK:S.heap.size<=w2.heap.size:=k.size;have G:=fun o=>qhX (R:=R) (X:=w.heap.size+1) (W:=S.drew) V.out (by omega) k o;have H:w2.cell? ⟨w.heap.size+1,4,none⟩=some (.slice C a.length D):=(World.cell?_of_block (k.block (w.heap.size+1) (by simpa using aM) (by omega))).trans bH;have aD:(w2.alloc (.cells #[.int .i64 O,.int .i64 P,.string Q,.slice ya yl yc,.slice za zl zc] 67)).cell? ⟨w.heap.size+1,4,none⟩=some (.slice C a.length D):=(World.cell?_of_block (Below.heap_alloc _ _ _ (by show w.heap.size+1<_;omega))).trans H))
     all_goals
      have HF:Hid (Many R (w.heap.size+1) m Wb (w3.setCell ⟨w.heap.size+1,4,none⟩ (.slice (some ⟨g,0,none⟩) (a.length+1) cap)) 4 [] (a++[t2]) (.slice na 0 nc) (.slice (some ⟨g,0,none⟩) (a.length+1) cap)):=
       Many.kidD 1 U.out (by omega) (by omega) k A V.out bG.out t d L
      have HG:=qlB (X:=w.heap.size+1) (q:=4) (u:=.slice (some ⟨g,0,none⟩) (a.length+1) cap) (W:=S.drew) M V.out (by omega) d
      have HS:=qrP HI.out HE.out aB.out N
      have I:Hid (RdS (w3.setCell ⟨w.heap.size+1,4,none⟩ (.slice (some ⟨g,0,none⟩) (a.length+1) cap)) R s i2 x):=HG
      have J:Hid _:=HS
      clear HG HS t d L A M N k G H aD E F z
      go_wp2_with fail
      go_roundw
      case rel=>exact⟨_,_,_,i2,x,HF.out,I.out,J.out.1⟩
      case measure=>rw[RdS.left I.out,RdS.left HR.out];simpa using J.out.2
def Colon(s:ByteArray)(j i3:Nat)(bad1 bad3:Bool):Prop:=
 (eatP [58] (s.data.toList.drop j)=some (s.data.toList.drop (j+1))/\j+1<=s.size/\i3=j+1/\bad3=bad1)∨(eatP [58] (s.data.toList.drop j)=none/\i3=j/\bad3=true)
def qlS(m n:Nat)(s:ByteArray)(i:Nat)(ns:List ByteArray)(ks:List (T m))(i':Nat)(bad':Bool):Prop:=
 i<i' /\ (bad'=false->i'<=s.size)/\i'<=s.size+n/\ks.length<=i'+(if bad'=true then 1 else 0)/\ns.length=ks.length /\
  ∀(ns0:List ByteArray)(ks0:List (T m)) post,ns0.length=ks0.length->(∀x,x∈ns0->nameB x=true)->s.data.toList.drop (i+1)=joinL (zipL ns0 (ks0.map (txtL m)))++125 :: post->(∀k,k∈ks0->goodT m k (7-(n:Int))=true) ->
   ∃k,k<=ks0.length/\ks=ks0.take k/\ns=ns0.take k/\bad'=false/\s.data.toList.drop i'=tailL (decide (k=0)) ((zipL ns0 (ks0.map (txtL m))).drop k)++125 :: post
theorem qrQ{x:ByteArray}(h:nameB x=true):∃c r,x.data.toList=c :: r/\qaT c=true:=by
 have a:1<=x.size:=by simp only[nameB,Bool.and_eq_true,decide_eq_true_eq]at h;exact h.1.1.1
 cases hd:x.data.toList with
 | nil=>
  have b:x.data.toList.length=0:=by rw[hd];rfl
  have d:x.data.toList.length=x.size:=by simp
  omega
 | cons c r=>exact⟨c,r,rfl,qdZ h c (by rw[hd];exact List.mem_cons_self ..)⟩
theorem xaU {m n:Nat} {s:ByteArray} {i:Nat} {ns:List ByteArray} {ks:List (T m)} {i' i1 i3 i2:Nat} {bad1 bad3 bad2:Bool} {t2:T m} (hI:qlS m n s i ns ks i' false) (hne:¬ lookB s i'=125) (hc:Comma s ks.length i' i1 bad1)
  (hco:Colon s (i1+((s.data.toList.drop i1).takeWhile qaT).length) i3 bad1 bad3)
  (hp:i3<=i2/\(bad2=false->bad3=false/\i3<i2/\i2<=s.size)/\(bad3=false->i2<=s.size+n)/\(bad3=true->i2=i3) /\
   (∀(t0:T m) post,bad3=false->s.data.toList.drop i3=txtL m t0++post->goodT m t0 (7-(n:Int))=true->noDig post=true->t2=t0/\bad2=false/\i2=i3+(txtL m t0).length))
  (hsz:i1+((s.data.toList.drop i1).takeWhile qaT).length<=s.size) :
  qlS m n s i (ns++[bs ((s.data.toList.drop i1).takeWhile qaT)]) (ks++[t2]) i2 bad2/\(if bad2=true then 0 else s.size+1-i2)<s.size+1-i':=by
 obtain⟨N,z,O,A,F,G⟩:=hI
 obtain⟨P,w,H,I,J⟩:=hp
 have z:=z rfl
 have A:ks.length<=i':=by simpa using A
 have B:i'<=i1:=by
  rcases hc with ⟨-,h,-⟩|⟨-,⟨-,-,h,-⟩|⟨-,h,-⟩⟩<;>omega
 have C:i1<=i3/\i3<=s.size:=by
  rcases hco with ⟨-,h,Q,-⟩|⟨-,h,-⟩<;>omega
 refine⟨⟨by omega,fun h=>(w h).2.2,?_,?_,by simp[F],fun ns0 ks0 post hlen hnm he hg=>?_⟩,?_⟩
 ·cases bad3 with
  | false=>exact H rfl
  | true=>have:=I rfl;omega
 ·rw[List.length_append,List.length_singleton]
  cases bad2 with
  | false=>have:=(w rfl).2.1;simp;omega
  | true=>simp;omega
 ·obtain⟨k,R,q,x,-,g⟩:=G ns0 ks0 post hlen hnm he hg
  have D:ks.length=k:=by rw[q,List.length_take];omega
  have E:(zipL ns0 (ks0.map (txtL m))).length=ks0.length:=by rw[qbN _ _ (by simpa using hlen)];simp
  have j:k<ks0.length:=by
   refine Classical.byContradiction fun hge=>hne ?_
   have:(zipL ns0 (ks0.map (txtL m))).drop k=[]:=List.drop_of_length_le (by omega)
   rw[this]at g
   unfold lookB
   rw[g];rfl
  have f:k<(zipL ns0 (ks0.map (txtL m))).length:=by omega
  have l:k<ns0.length:=by omega
  rw[List.drop_eq_getElem_cons f,qiG _ _ _ l (by simpa using j) f,List.getElem_map,tailL,List.append_assoc]at g
  have b:bad1=false/\s.data.toList.drop i1=ns0[k].data.toList++58 :: (txtL m ks0[k]++(tailL false ((zipL ns0 (ks0.map (txtL m))).drop (k+1))++125 :: post)):=by
   by_cases hk0:k=0
   ·simp only[hk0,decide_true,if_true,List.append_assoc,List.cons_append]at g
    rcases hc with ⟨-,h,t⟩|⟨h,-⟩
    ·refine⟨t,?_⟩
     rw[h,g]
     simp only[hk0]
    ·exact absurd (by omega) h
   ·simp only[hk0,decide_false,Bool.false_eq_true,if_false,List.cons_append,List.append_assoc]at g
    rcases hc with ⟨h,-⟩|⟨-,⟨a,-,h,t⟩|⟨a,-⟩⟩
    ·exact absurd (by omega) hk0
    ·refine⟨t,?_⟩
     rw[g,qaE]at a
     rw[h]
     exact (Option.some.inj a).symm
    ·rw[g,qaE]at a;cases a
  have u:=hnm ns0[k] (List.getElem_mem l)
  have o:(s.data.toList.drop i1).takeWhile qaT=ns0[k].data.toList:=by
   rw[b.2]
   exact qcR _ _ (qdZ u) (by intro c r e;cases e;decide)
  have p:s.data.toList.drop (i1+((s.data.toList.drop i1).takeWhile qaT).length)=58 :: (txtL m ks0[k]++(tailL false ((zipL ns0 (ks0.map (txtL m))).drop (k+1))++125 :: post)):=by
   rw[o,<- List.drop_drop,b.2,List.drop_left]
  have d:bad3=false/\s.data.toList.drop i3=txtL m ks0[k]++(tailL false ((zipL ns0 (ks0.map (txtL m))).drop (k+1))++125 :: post):=by
   rcases hco with ⟨a,-,h,t⟩|⟨a,-⟩
   ·rw[p,qaE]at a
    exact⟨by rw[t];exact b.1,by rw[h];exact (Option.some.inj a).symm⟩
   ·rw[p,qaE]at a;cases a
  have v:noDig (tailL false ((zipL ns0 (ks0.map (txtL m))).drop (k+1))++125 :: post)=true:=by
   cases (zipL ns0 (ks0.map (txtL m))).drop (k+1) with
   | nil=>rfl
   | cons y r=>rw[qcK];rfl
  obtain⟨K,L,M⟩:=J ks0[k] _ d.1 d.2 (hg _ (List.getElem_mem j)) v
  refine⟨k+1,by omega,?_,?_,L,?_⟩
  ·rw[List.take_succ_eq_append_getElem j,<- q,K]
  ·rw[List.take_succ_eq_append_getElem l,<- x,o,bs_of]
  ·rw[M,<- List.drop_drop,d.2,List.drop_left]
   simp
 ·cases bad2 with
  | true=>simp;omega
  | false=>have:=(w rfl).2;simp;omega
def GotT(m n:Nat)(s:ByteArray)(i:Nat)(bad:Bool)(t:T m)(i':Nat)(bad':Bool):Prop:=
 i<=i' /\ (bad'=false->bad=false/\i<i' /\ i'<=s.size)/\(bad=false->i'<=s.size+n)/\(bad=true->i'=i) /\
  (∀(t0:T m) post,bad=false->s.data.toList.drop i=txtL m t0++post->goodT m t0 (7-(n:Int))=true->noDig post=true->t=t0/\bad'=false/\i'=i+(txtL m t0).length)
theorem qbR {m:Nat} {t:T (m+1)} {d:Int} (h:goodT (m+1) t d=true) :
  (∃k:Int,(-999999999<=k/\k<=999999999)/\t=(⟨1,k,ByteArray.empty,[],[]⟩:Nd (T m))/\txtL (m+1) t=Lib.itoa k) ∨
  (∃x:ByteArray,textB x=true/\t=(⟨2,0,x,[],[]⟩:Nd (T m))/\txtL (m+1) t=34 :: (x.data.toList++[34])) ∨
  (t=(⟨3,1,ByteArray.empty,[],[]⟩:Nd (T m))/\txtL (m+1) t=[121,101,115])∨(t=(⟨3,0,ByteArray.empty,[],[]⟩:Nd (T m))/\txtL (m+1) t=[110,111]) ∨
  (∃ks,t=(⟨4,0,ByteArray.empty,[],ks⟩:Nd (T m))/\(∀k,k∈ks->goodT m k (d+1)=true)/\txtL (m+1) t=91 :: (joinL (ks.map (txtL m))++[93])) ∨
  (∃ns ks,t=(⟨5,0,ByteArray.empty,ns,ks⟩:Nd (T m))/\ns.length=ks.length/\(∀x,x∈ns->nameB x=true)/\(∀k,k∈ks->goodT m k (d+1)=true)/\txtL (m+1) t=123 :: (joinL (zipL ns (ks.map (txtL m)))++[125])) ∨
  (t=(⟨6,0,ByteArray.empty,[],[]⟩:Nd (T m))/\txtL (m+1) t=[126]) ∨
  (∃k,t=(⟨6,0,ByteArray.empty,[],[k]⟩:Nd (T m))/\goodT m k (d+1)=true/\txtL (m+1) t=63 :: txtL m k):=by
 simp only[goodT,Bool.and_eq_true]at h
 have b:qiF (show Nd (T m) from t)=true:=h.1.2
 have j:=List.all_eq_true.1 h.2
 obtain⟨n,p,tx,na,q⟩:Nd (T m):=t
 simp only[qiF]at b j
 unfold qaO at b
 have c:∀l:List ByteArray,(l.length:Int)=0->l=[]:=fun l hl=>List.eq_nil_of_length_eq_zero (by omega)
 have e:∀l:List (T m),(l.length:Int)=0->l=[]:=fun l hl=>List.eq_nil_of_length_eq_zero (by omega)
 by_cases h1:n=1
 ·rw[if_pos h1]at b
  simp only[Bool.and_eq_true,beq_iff_eq,decide_eq_true_eq]at b
  obtain⟨⟨⟨f,a2⟩,a3⟩,a4⟩:=b
  have g:=qiK a2
  have i:=c _ a3
  have o:=e _ a4
  subst g i o h1
  exact .inl ⟨p,f,rfl,by simp[txtL]⟩
 rw[if_neg h1]at b
 by_cases h2:n=2
 ·rw[if_pos h2]at b
  simp only[Bool.and_eq_true,beq_iff_eq]at b
  obtain⟨⟨⟨f,a2⟩,a3⟩,a4⟩:=b
  have i:=c _ a3
  have o:=e _ a4
  subst f i o h2
  exact .inr (.inl ⟨tx,a2,rfl,by simp[txtL]⟩)
 rw[if_neg h2]at b
 by_cases h3:n=3
 ·rw[if_pos h3]at b
  simp only[Bool.and_eq_true,beq_iff_eq,decide_eq_true_eq]at b
  obtain⟨⟨⟨f,a2⟩,a3⟩,a4⟩:=b
  have g:=qiK a2
  have i:=c _ a3
  have o:=e _ a4
  subst g i o h3
  by_cases hn:0<p
  ·have:p=1:=by omega
   subst this
   exact .inr (.inr (.inl ⟨rfl,by simp[txtL]⟩))
  ·have:p=0:=by omega
   subst this
   exact .inr (.inr (.inr (.inl ⟨rfl,by simp[txtL]⟩)))
 rw[if_neg h3]at b
 by_cases h4:n=4
 ·rw[if_pos h4]at b
  simp only[Bool.and_eq_true,beq_iff_eq,decide_eq_true_eq]at b
  obtain⟨⟨⟨f,a2⟩,a3⟩,a4⟩:=b
  have g:=qiK a2
  have i:=c _ a3
  subst f g i h4
  exact .inr (.inr (.inr (.inr (.inl ⟨q,rfl,fun k hk'=>j k hk',by simp[txtL]⟩))))
 rw[if_neg h4]at b
 by_cases h5:n=5
 ·rw[if_pos h5]at b
  simp only[Bool.and_eq_true,beq_iff_eq]at b
  obtain⟨⟨⟨f,a2⟩,a3⟩,a4⟩:=b
  have g:=qiK a2
  subst f g h5
  exact .inr (.inr (.inr (.inr (.inr (.inl ⟨na,q,rfl,by omega,qjR a4,fun k hk'=>j k hk',by simp[txtL]⟩)))))
 rw[if_neg h5]at b
 by_cases h6:n=6
 ·rw[if_pos h6]at b
  simp only[Bool.and_eq_true,beq_iff_eq,decide_eq_true_eq]at b
  obtain⟨⟨⟨f,a2⟩,a3⟩,a4⟩:=b
  have g:=qiK a2
  have i:=c _ a3
  subst f g i h6
  match q,a4,j with
  | [],_,_=>exact .inr (.inr (.inr (.inr (.inr (.inr (.inl ⟨rfl,by simp[txtL,qeZ]⟩))))))
  | [x],_,j=>exact .inr (.inr (.inr (.inr (.inr (.inr (.inr ⟨x,rfl,j x (List.mem_cons_self ..),by simp[txtL,qeZ]⟩))))))
  | _ :: _ :: r,a4,_=>simp at a4;omega
 ·rw[if_neg h6]at b;cases b
theorem lookT{s:ByteArray}{i:Nat}{c:UInt8}{r:List UInt8}(h:s.data.toList.drop i=c :: r):lookB s i=c:=by
 unfold lookB;rw[h];rfl
theorem quF(n:Nat):(7-((n+1:Nat):Int))+1=7-(n:Int):=by omega
theorem qdE{s:ByteArray}{i:Nat}{k:Int}{post:List UInt8}(h:s.data.toList.drop i=Lib.itoa k++post):digC (lookB s i)=true∨lookB s i=45:=by
 obtain⟨c,r,e,a⟩:=qiJ k
 rw[e]at h
 rw[lookT h];exact a
theorem qhH {m n:Nat} {s x:ByteArray} {i:Nat} {i':Nat} {bad':Bool} {t:T (m+1)} (hi:i<=s.size) (hs:(eatP x.data.toList (s.data.toList.drop i)=some (s.data.toList.drop (i+x.size))/\i+x.size<=s.size/\i'=i+x.size/\bad'=false)∨(eatP x.data.toList (s.data.toList.drop i)=none/\i'=i/\bad'=true))
  (hx:0<x.size) (hone:∀(t0:T (m+1)) post,s.data.toList.drop i=txtL (m+1) t0++post->goodT (m+1) t0 (7-((n+1:Nat):Int))=true->t0=t/\txtL (m+1) t0=x.data.toList) :
  GotT (m+1) (n+1) s i false t i' bad':=by
 rcases hs with ⟨a,d,rfl,rfl⟩|⟨a,rfl,rfl⟩
 ·refine⟨by omega,fun _=>⟨rfl,by omega,d⟩,fun _=>by omega,fun h=>(by cases h),fun t0 post _ he hg _=>?_⟩
  obtain⟨c,b⟩:=hone t0 post he hg
  exact⟨c.symm,rfl,by rw[b];simp⟩
 ·refine⟨Nat.le_refl _,fun h=>(by cases h),fun _=>by omega,fun h=>(by cases h),fun t0 post _ he hg _=>?_⟩
  obtain⟨c,b⟩:=hone t0 post he hg
  rw[he,b,qdH]at a
  cases a
theorem xaV{m:Nat}{s:ByteArray}{i:Nat}{d:Int}(hl:lookB s i=121)(t0:T (m+1))(post:List UInt8)(he:s.data.toList.drop i=txtL (m+1) t0++post)(hg:goodT (m+1) t0 d=true):t0=(⟨3,1,ByteArray.empty,[],[]⟩:Nd (T m))/\txtL (m+1) t0=[121,101,115]:=by
 rcases qbR hg with ⟨k,-,b,a⟩|⟨x,-,b,a⟩|⟨b,a⟩|⟨b,a⟩|⟨c,b,-,a⟩|⟨e,c,b,-,-,-,a⟩|⟨b,a⟩|⟨k,b,-,a⟩
 ·rw[a]at he;have:=qdE he;rw[hl]at this;exact absurd this (by decide)
 ·rw[a]at he;rw[lookT he]at hl;exact absurd hl (by decide)
 ·exact⟨b,a⟩
 all_goals (rw[a]at he;rw[lookT he]at hl;exact absurd hl (by decide))
theorem xhX{m:Nat}{s:ByteArray}{i:Nat}{d:Int}(hl:lookB s i=110)(t0:T (m+1))(post:List UInt8)(he:s.data.toList.drop i=txtL (m+1) t0++post)(hg:goodT (m+1) t0 d=true):t0=(⟨3,0,ByteArray.empty,[],[]⟩:Nd (T m))/\txtL (m+1) t0=[110,111]:=by
 rcases qbR hg with ⟨k,-,b,a⟩|⟨x,-,b,a⟩|⟨b,a⟩|⟨b,a⟩|⟨c,b,-,a⟩|⟨e,c,b,-,-,-,a⟩|⟨b,a⟩|⟨k,b,-,a⟩
 ·rw[a]at he;have:=qdE he;rw[hl]at this;exact absurd this (by decide)
 ·rw[a]at he;rw[lookT he]at hl;exact absurd hl (by decide)
 ·rw[a]at he;rw[lookT he]at hl;exact absurd hl (by decide)
 ·exact⟨b,a⟩
 all_goals (rw[a]at he;rw[lookT he]at hl;exact absurd hl (by decide))
theorem qwF{m:Nat}{s:ByteArray}{i:Nat}{d:Int}(hl:lookB s i=126)(t0:T (m+1))(post:List UInt8)(he:s.data.toList.drop i=txtL (m+1) t0++post)(hg:goodT (m+1) t0 d=true):t0=(⟨6,0,ByteArray.empty,[],[]⟩:Nd (T m))/\txtL (m+1) t0=[126]:=by
 rcases qbR hg with ⟨k,-,b,a⟩|⟨x,-,b,a⟩|⟨b,a⟩|⟨b,a⟩|⟨c,b,-,a⟩|⟨e,c,b,-,-,-,a⟩|⟨b,a⟩|⟨k,b,-,a⟩
 ·rw[a]at he;have:=qdE he;rw[hl]at this;exact absurd this (by decide)
 case inr.inr.inr.inr.inr.inr.inl=>exact⟨b,a⟩
 all_goals (rw[a]at he;rw[lookT he]at hl;exact absurd hl (by decide))
theorem xfT{m n:Nat}{s:ByteArray}{i i':Nat}{bad':Bool}{x:T m}(hl:lookB s i=63)(hp:GotT m n s (i+1) false x i' bad'):GotT (m+1) (n+1) s i false (⟨6,0,ByteArray.empty,[],[x]⟩:Nd (T m)) i' bad':=by
 obtain⟨q,e,f,r,g⟩:=hp
 refine⟨by omega,fun h=>⟨rfl,by omega,(e h).2.2⟩,fun _=>by have:=f rfl;omega,fun h=>(by cases h),fun t0 post _ he hg hnd=>?_⟩
 rcases qbR hg with ⟨k,-,b,a⟩|⟨x,-,b,a⟩|⟨b,a⟩|⟨b,a⟩|⟨j,b,-,a⟩|⟨t,j,b,-,-,-,a⟩|⟨b,a⟩|⟨y,b,d,a⟩
 ·rw[a]at he;have:=qdE he;rw[hl]at this;exact absurd this (by decide)
 case inr.inr.inr.inr.inr.inr.inr=>
  rw[a]at he
  rw[quF]at d
  have c:s.data.toList.drop (i+1)=txtL m y++post:=by rw[<- List.drop_drop,he];rfl
  obtain⟨l,o,p⟩:=g y post rfl c d hnd
  exact⟨by rw[b,l],o,by rw[a,p,List.length_cons];omega⟩
 all_goals (rw[a]at he;rw[lookT he]at hl;exact absurd hl (by decide))
theorem qxO {m n:Nat} {s:ByteArray} {i:Nat} {x r:List UInt8} (hl:lookB s i=34) (hu:qbQ 34 (s.data.toList.drop (i+1))=some (x,r)) (hsz:i+1+x.length+1<=s.size) :
  GotT (m+1) (n+1) s i false (⟨2,0,bs x,[],[]⟩:Nd (T m)) (i+1+x.length+1) false:=by
 refine⟨by omega,fun _=>⟨rfl,by omega,hsz⟩,fun _=>by omega,fun h=>(by cases h),fun t0 post _ he hg _=>?_⟩
 rcases qbR hg with ⟨k,-,b,a⟩|⟨y,e,b,a⟩|⟨b,a⟩|⟨b,a⟩|⟨f,b,-,a⟩|⟨g,f,b,-,-,-,a⟩|⟨b,a⟩|⟨y,b,e,a⟩
 ·rw[a]at he;have:=qdE he;rw[hl]at this;exact absurd this (by decide)
 ·rw[a]at he
  have d:s.data.toList.drop (i+1)=y.data.toList++34 :: post:=by rw[<- List.drop_drop,he];simp
  rw[d,qcS 34 _ _ (qhV e)]at hu
  have c:y.data.toList=x:=(Prod.mk.inj (Option.some.inj hu)).1
  refine⟨by rw[b,<- c,bs_of],rfl,?_⟩
  rw[a,<- c];simp;omega
 all_goals (rw[a]at he;rw[lookT he]at hl;exact absurd hl (by decide))
theorem qxP{m n:Nat}{s:ByteArray}{i:Nat}{t:T (m+1)}(hl:lookB s i=34)(hi:i<=s.size)(hu:qbQ 34 (s.data.toList.drop (i+1))=none):GotT (m+1) (n+1) s i false t s.size true:=by
 refine⟨hi,fun h=>(by cases h),fun _=>by omega,fun h=>(by cases h),fun t0 post _ he hg _=>?_⟩
 rcases qbR hg with ⟨k,-,b,a⟩|⟨y,d,b,a⟩|⟨b,a⟩|⟨b,a⟩|⟨e,b,-,a⟩|⟨f,e,b,-,-,-,a⟩|⟨b,a⟩|⟨y,b,d,a⟩
 ·rw[a]at he;have:=qdE he;rw[hl]at this;exact absurd this (by decide)
 ·rw[a]at he
  have c:s.data.toList.drop (i+1)=y.data.toList++34 :: post:=by rw[<- List.drop_drop,he];simp
  rw[c,qcS 34 _ _ (qhV d)]at hu
  cases hu
 all_goals (rw[a]at he;rw[lookT he]at hl;exact absurd hl (by decide))
theorem xaW {m n:Nat} {s:ByteArray} {i i':Nat} {bad':Bool} {ks:List (T m)} (hl:lookB s i=91) (h1:i<i') (h2:bad'=false->i'<=s.size) (h3:i'<=s.size+n+1)
  (h4:∀(ks0:List (T m)) post,s.data.toList.drop (i+1)=joinL (ks0.map (txtL m))++93 :: post->(∀k,k∈ks0->goodT m k (7-(n:Int))=true)->ks=ks0/\bad'=false/\i'=i+(joinL (ks0.map (txtL m))).length+2) :
  GotT (m+1) (n+1) s i false (⟨4,0,ByteArray.empty,[],ks⟩:Nd (T m)) i' bad':=by
 refine⟨by omega,fun h=>⟨rfl,h1,h2 h⟩,fun _=>by omega,fun h=>(by cases h),fun t0 post _ he hg _=>?_⟩
 rcases qbR hg with ⟨k,-,b,a⟩|⟨y,d,b,a⟩|⟨b,a⟩|⟨b,a⟩|⟨ks0,b,d,a⟩|⟨j,ks,b,-,-,-,a⟩|⟨b,a⟩|⟨y,b,d,a⟩
 ·rw[a]at he;have:=qdE he;rw[hl]at this;exact absurd this (by decide)
 case inr.inr.inr.inr.inl=>
  rw[a]at he
  have c:s.data.toList.drop (i+1)=joinL (ks0.map (txtL m))++93 :: post:=by rw[<- List.drop_drop,he];simp
  obtain⟨e,f,g⟩:=h4 ks0 post c (fun k hk=>by have:=d k hk;rwa [quF]at this)
  exact⟨by rw[b,e],f,by rw[g,a];simp;omega⟩
 all_goals (rw[a]at he;rw[lookT he]at hl;exact absurd hl (by decide))
theorem xaX {m n:Nat} {s:ByteArray} {i i':Nat} {bad':Bool} {ns:List ByteArray} {ks:List (T m)} (hl:lookB s i=123) (h1:i<i') (h2:bad'=false->i'<=s.size) (h3:i'<=s.size+n+1)
  (h4:∀(ns0:List ByteArray)(ks0:List (T m)) post,ns0.length=ks0.length->(∀x,x∈ns0->nameB x=true)->s.data.toList.drop (i+1)=joinL (zipL ns0 (ks0.map (txtL m)))++125 :: post->(∀k,k∈ks0->goodT m k (7-(n:Int))=true) ->
   ns=ns0/\ks=ks0/\bad'=false/\i'=i+(joinL (zipL ns0 (ks0.map (txtL m)))).length+2) :
  GotT (m+1) (n+1) s i false (⟨5,0,ByteArray.empty,ns,ks⟩:Nd (T m)) i' bad':=by
 refine⟨by omega,fun h=>⟨rfl,h1,h2 h⟩,fun _=>by omega,fun h=>(by cases h),fun t0 post _ he hg _=>?_⟩
 rcases qbR hg with ⟨k,-,b,a⟩|⟨y,c,b,a⟩|⟨b,a⟩|⟨b,a⟩|⟨ks0,b,c,a⟩|⟨ns0,ks0,b,c,e,f,a⟩|⟨b,a⟩|⟨y,b,c,a⟩
 ·rw[a]at he;have:=qdE he;rw[hl]at this;exact absurd this (by decide)
 case inr.inr.inr.inr.inr.inl=>
  rw[a]at he
  have d:s.data.toList.drop (i+1)=joinL (zipL ns0 (ks0.map (txtL m)))++125 :: post:=by rw[<- List.drop_drop,he];simp
  obtain⟨r0,g,j,l⟩:=h4 ns0 ks0 post c e d (fun k hk=>by have:=f k hk;rwa [quF]at this)
  exact⟨by rw[b,r0,g],j,by rw[l,a];simp;omega⟩
 all_goals (rw[a]at he;rw[lookT he]at hl;exact absurd hl (by decide))
theorem xfU {m n:Nat} {s:ByteArray} {i k F:Nat} {neg:Bool} {v:Int} (h1:¬ lookB s i=34) (h2:¬ lookB s i=121) (h3:¬ lookB s i=110) (h4:¬ lookB s i=126) (h5:¬ lookB s i=63) (h6:¬ lookB s i=91) (h7:¬ lookB s i=123)
  (hneg:neg=decide (lookB s i=45)) (hF:F=if neg=true then i+1 else i) (hsz:F+k<=s.size) (hall:∀c,c∈(s.data.toList.drop F).take k->digC c=true) (hend:k=10∨digC (lookB s (F+k))=false)
  (hv:v=if neg=true then -(qcD ((s.data.toList.drop F).take k):Int) else (qcD ((s.data.toList.drop F).take k):Int)) :
  GotT (m+1) (n+1) s i false (⟨1,v,ByteArray.empty,[],[]⟩:Nd (T m)) (F+k) (false || k==0):=by
 have f:i<=F:=by cases neg<;>simp at hF<;>omega
 refine⟨by omega,fun h=>⟨rfl,?_,hsz⟩,fun _=>by omega,fun h=>(by cases h),fun t0 post _ he hg hnd=>?_⟩
 ·simp at h;omega
 rcases qbR hg with ⟨q,g,b,a⟩|⟨y,d,b,a⟩|⟨b,a⟩|⟨b,a⟩|⟨e,b,d,a⟩|⟨j,e,b,d,r,t,a⟩|⟨b,a⟩|⟨y,b,d,a⟩
 ·rw[a]at he
  obtain⟨l,o,p⟩:=xaR s i k F neg q post g he hnd hneg hF hsz hall hend
  exact⟨by rw[b,hv,l],by simpa using p,by rw[a];exact o⟩
 ·rw[a]at he;exact absurd (lookT he) h1
 ·rw[a]at he;exact absurd (lookT he) h2
 ·rw[a]at he;exact absurd (lookT he) h3
 ·rw[a]at he;exact absurd (lookT he) h6
 ·rw[a]at he;exact absurd (lookT he) h7
 ·rw[a]at he;exact absurd (lookT he) h4
 ·rw[a]at he;exact absurd (lookT he) h5
def listQ{α:Type}(f:List UInt8->Option (α×List UInt8)):Nat->List α->List UInt8->Option (List α×List UInt8)
 | 0,_,_=>none
 | k+1,acc,s=>
  match eatP [93] s with
  | some r=>some (acc,r)
  | none=>
   match (if acc.length=0 then some s else eatP [44] s) with
   | none=>none
   | some s1=>
    match f s1 with
    | none=>none
    | some (t,r)=>listQ f k (acc++[t]) r
def qaH:(n:Nat)->List UInt8->Option (T n×List UInt8)
 | 0,_=>none
 | n+1,s=>
  if digC (s.headD 0)=true∨s.headD 0=45 then
   match numOf (numW s) with
   | none=>none
   | some m=>some ((⟨1,m,ByteArray.empty,[],[]⟩:Nd (T n)),s.drop (numW s).length)
  else if s.headD 0=34 then
   match qbQ 34 (s.drop 1) with
   | none=>none
   | some (w,r)=>some ((⟨2,0,bs w,[],[]⟩:Nd (T n)),r.drop 1)
  else if s.headD 0=121∨s.headD 0=110 then
   match eatP [121,101,115] s with
   | some r=>some ((⟨3,1,ByteArray.empty,[],[]⟩:Nd (T n)),r)
   | none=>
    match eatP [110,111] s with
    | some r=>some ((⟨3,0,ByteArray.empty,[],[]⟩:Nd (T n)),r)
    | none=>none
  else if s.headD 0=91 then
   match listQ (qaH n) ((s.drop 1).length+1) [] (s.drop 1) with
   | none=>none
   | some (l,r)=>some ((⟨4,0,ByteArray.empty,[],l⟩:Nd (T n)),r)
  else if s.headD 0=123 then
   match formQ (qaH n) ((s.drop 1).length+1) [] [] (s.drop 1) with
   | none=>none
   | some (ns,l,r)=>some ((⟨5,0,ByteArray.empty,ns,l⟩:Nd (T n)),r)
  else if s.headD 0=126 then some ((⟨6,0,ByteArray.empty,[],[]⟩:Nd (T n)),s.drop 1)
  else if s.headD 0=63 then
   match qaH n (s.drop 1) with
   | none=>none
   | some (t,r)=>some ((⟨6,0,ByteArray.empty,[],[t]⟩:Nd (T n)),r)
  else none
theorem quG {α:Type} (f:List UInt8->Option (α × List UInt8)) (txt:α->List UInt8) (hf:∀ s t r,f s=some (t,r)->s=txt t++r)
  (fuel:Nat) (acc:List α) (s:List UInt8) (l:List α) (r:List UInt8) (h:listQ f fuel acc s=some (l,r)) :
  ∃ks,l=acc++ks/\s=tailL (decide (acc.length=0)) (ks.map txt)++93 :: r:=by
 induction fuel generalizing acc s with
 | zero=>simp[listQ]at h
 | succ k ih=>
  rw[listQ]at h
  cases h1:eatP [93] s with
  | some r1=>
   rw[h1]at h
   simp only[Option.some.injEq,Prod.mk.injEq]at h
   obtain⟨rfl,rfl⟩:=h
   exact⟨[],by simp,by simpa [tailL] using qbP h1⟩
  | none=>
   rw[h1]at h
   simp only at h
   cases h2:(if acc.length=0 then some s else eatP [44] s) with
   | none=>rw[h2]at h;cases h
   | some s1=>
    rw[h2]at h
    simp only at h
    cases h3:f s1 with
    | none=>rw[h3]at h;cases h
    | some x=>
     obtain⟨t,e⟩:=x
     rw[h3]at h
     simp only at h
     have c:=hf _ _ _ h3
     obtain⟨ks,d,b⟩:=ih _ _ h
     have a:decide ((acc++[t]).length=0)=false:=by simp
     rw[a]at b
     refine⟨t :: ks,by simpa using d,?_⟩
     simp only[List.map_cons,tailL,List.append_assoc]
     by_cases h0:acc.length=0
     ·rw[if_pos h0]at h2;cases h2
      simp only[h0,decide_true,if_true]
      rw[<- b];exact c
     ·rw[if_neg h0]at h2
      simp only[h0,decide_false,Bool.false_eq_true,if_false,List.cons_append]
      rw[<- b,<- c];exact qbP h2
theorem qhI{s:List UInt8}{c:UInt8}(h:s.headD 0=c)(hc:c≠0):s=c :: s.drop 1:=by
 cases s with
 | nil=>exact absurd h.symm hc
 | cons d r=>simp at h;subst h;rfl
theorem qkK:∀(n:Nat)(s:List UInt8)(t:T n)(r:List UInt8),qaH n s=some (t,r)->s=txtL n t++r:=by
 intro n
 induction n with
 | zero=>intro s t r h;simp[qaH]at h
 | succ n ih=>
  intro s t r h
  rw[qaH]at h
  split at h
  ·cases h1:numOf (numW s) with
   | none=>rw[h1]at h;cases h
   | some m=>
    rw[h1]at h;cases h
    have:=(qdN h1).2
    simp only[txtL,if_true]
    rw[this];exact (quB s).symm
  split at h
  ·next hc=>
   cases h1:qbQ 34 (s.drop 1) with
   | none=>rw[h1]at h;cases h
   | some x=>
    obtain⟨w,a⟩:=x
    rw[h1]at h;cases h
    obtain⟨i,e,f,-⟩:=qdJ h1
    rw[qhI hc (by decide),f,e]
    simp[txtL,qcB]
  split at h
  ·cases h1:eatP [121,101,115] s with
   | some a=>rw[h1]at h;cases h;simpa [txtL] using qbP h1
   | none=>
    rw[h1]at h
    simp only at h
    cases h2:eatP [110,111] s with
    | some a=>rw[h2]at h;cases h;simpa [txtL] using qbP h2
    | none=>rw[h2]at h;cases h
  split at h
  ·next hc=>
   cases h1:listQ (qaH n) ((s.drop 1).length+1) [] (s.drop 1) with
   | none=>rw[h1]at h;cases h
   | some x=>
    obtain⟨l,a⟩:=x
    rw[h1]at h;cases h
    obtain⟨g,b,c⟩:=quG _ (txtL n) (fun s t r h=>ih s t r h) _ _ _ _ _ h1
    simp only[List.nil_append]at b
    subst b
    simp only[List.length_nil,decide_true,qcT]at c
    rw[qhI hc (by decide),c];simp[txtL]
  split at h
  ·next hc=>
   cases h1:formQ (qaH n) ((s.drop 1).length+1) [] [] (s.drop 1) with
   | none=>rw[h1]at h;cases h
   | some x=>
    obtain⟨j,l,a⟩:=x
    rw[h1]at h;cases h
    obtain⟨k,g,d,b,o,c⟩:=qlM _ (txtL n) (fun s t r h=>ih s t r h) _ _ _ _ _ _ _ h1
    simp only[List.nil_append]at d b
    subst d b
    simp only[List.length_nil,decide_true,qcT]at c
    rw[qhI hc (by decide),c];simp[txtL]
  split at h
  ·next hc=>cases h;rw[qhI hc (by decide)];simp[txtL,qeZ]
  split at h
  ·next hc=>
   cases h1:qaH n (s.drop 1) with
   | none=>rw[h1]at h;cases h
   | some x=>
    obtain⟨p,a⟩:=x
    rw[h1]at h;cases h
    have:=ih _ _ _ h1
    rw[qhI hc (by decide),this];simp[txtL,qeZ]
  ·cases h
theorem xfV(n:Nat)(t:T (n+1)):1<=(txtL (n+1) t).length:=by
 obtain⟨c,r,e,-⟩:=qrN n t
 rw[e];simp
theorem qnI(n:Nat)(s:List UInt8)(t:T n)(r:List UInt8)(h:qaH n s=some (t,r)):r.length<s.length:=by
 have:=qkK n s t r h
 cases n with
 | zero=>simp[qaH]at h
 | succ n=>
  have a:=xfV n t
  rw[this,List.length_append];omega
theorem qnJ {α:Type} (f:List UInt8->Option (α × List UInt8)) (txt:α->List UInt8) (ks:List α) (hf:∀ k,k∈ks->∀ post,noDig post=true->f (txt k++post)=some (k,post))
  (hh:∀k,k∈ks->∃c r,txt k=c :: r/\begB c=true) (fuel:Nat) (acc:List α) (post:List UInt8) (hfu:ks.length<fuel) :
  listQ f fuel acc (tailL (decide (acc.length=0)) (ks.map txt)++93 :: post)=some (acc++ks,post):=by
 induction ks generalizing fuel acc with
 | nil=>
  cases fuel with
  | zero=>simp at hfu
  | succ k=>simp[listQ,tailL,qaE]
 | cons x ks ih=>
  cases fuel with
  | zero=>omega
  | succ k=>
   have b:noDig (tailL false (ks.map txt)++93 :: post)=true:=by
    cases ks with
    | nil=>rfl
    | cons y r=>rw[List.map_cons,qcK];rfl
   have step:=hf x (List.mem_cons_self ..) (tailL false (ks.map txt)++93 :: post) b
   have rest:=ih (fun k hk=>hf k (List.mem_cons_of_mem _ hk)) (fun k hk=>hh k (List.mem_cons_of_mem _ hk)) k (acc++[x]) (by simp at hfu;omega)
   have a:decide ((acc++[x]).length=0)=false:=by simp
   rw[a]at rest
   obtain⟨c,r,e,g⟩:=hh x (List.mem_cons_self ..)
   simp only[List.map_cons,tailL,List.append_assoc]
   by_cases h0:acc.length=0
   ·simp only[h0,decide_true,if_true]
    rw[listQ]
    have d:eatP [93] (txt x++(tailL false (ks.map txt)++93 :: post))=none:=by rw[e,List.cons_append];exact qdI _ _ _ (xhW g).1
    rw[d]
    simp only[h0,if_true]
    rw[step]
    simp only
    rw[rest]
    simp
   ·simp only[h0,decide_false,if_false,Bool.false_eq_true,List.cons_append]
    rw[listQ,qdI _ _ _ (by decide)]
    simp only[h0,if_false,qaE]
    rw[step]
    simp only
    rw[rest]
    simp
theorem qlT {α:Type} (f:List UInt8->Option (α × List UInt8)) (txt:α->List UInt8) (ks:List α) (hf:∀ k,k∈ks->∀ post,noDig post=true->f (txt k++post)=some (k,post))
  (ms:List ByteArray) (hms:∀s,s∈ms->nameB s=true) (hlen:ms.length=ks.length) (fuel:Nat) (ns:List ByteArray) (acc:List α) (post:List UInt8) (hfu:ks.length<fuel) :
  formQ f fuel ns acc (tailL (decide (ns.length=0)) (zipL ms (ks.map txt))++125 :: post)=some (ns++ms,acc++ks,post):=by
 induction ks generalizing fuel ns acc ms with
 | nil=>
  have:ms=[]:=List.eq_nil_of_length_eq_zero (by simpa using hlen)
  subst this
  cases fuel with
  | zero=>simp at hfu
  | succ k=>simp[formQ,tailL,zipL,qaE]
 | cons x ks ih=>
  cases ms with
  | nil=>simp at hlen
  | cons m ms=>
  cases fuel with
  | zero=>omega
  | succ k=>
   have l:=hms m (List.mem_cons_self ..)
   have d:=qdZ l
   have g:noDig (tailL false (zipL ms (ks.map txt))++125 :: post)=true:=by
    cases zipL ms (ks.map txt) with
    | nil=>rfl
    | cons y r=>rw[qcK];rfl
   have step:=hf x (List.mem_cons_self ..) (tailL false (zipL ms (ks.map txt))++125 :: post) g
   have rest:=ih (fun k hk=>hf k (List.mem_cons_of_mem _ hk)) ms (fun s hs=>hms s (List.mem_cons_of_mem _ hs)) (by simpa using hlen) k (ns++[m]) (acc++[x]) (by simp at hfu;omega)
   have a:decide ((ns++[m]).length=0)=false:=by simp
   rw[a]at rest
   have b:=qcS 58 m.data.toList (txt x++(tailL false (zipL ms (ks.map txt))++125 :: post)) (fun c hc=>(nm_ne (d c hc)).1)
   obtain⟨c,r,e,j⟩:=qrQ l
   have h:=nm_ne j
   simp only[List.map_cons,zipL,tailL,List.append_assoc]
   by_cases h0:ns.length=0
   ·simp only[h0,decide_true,if_true,List.append_assoc,List.cons_append]
    rw[formQ]
    have i:eatP [125] (m.data.toList++58 :: (txt x++(tailL false (zipL ms (ks.map txt))++125 :: post)))=none:=by rw[e,List.cons_append];exact qdI _ _ _ h.2.1
    rw[i]
    simp only[h0,if_true]
    rw[b]
    simp only[List.drop_succ_cons,List.drop_zero]
    rw[step]
    simp only[bs_of]
    rw[rest]
    simp
   ·simp only[h0,decide_false,if_false,Bool.false_eq_true,List.append_assoc,List.cons_append]
    rw[formQ,qdI _ _ _ (by decide)]
    simp only[h0,if_false,qaE]
    rw[b]
    simp only[List.drop_succ_cons,List.drop_zero]
    rw[step]
    simp only[bs_of]
    rw[rest]
    simp
theorem qlU:∀(n:Nat)(t:T n)(d:Int)(post:List UInt8),goodT n t d=true->noDig post=true->qaH n (txtL n t++post)=some (t,post):=by
 intro n
 induction n with
 | zero=>intro t d post h;simp[goodT]at h
 | succ n ih=>
  intro t d post h o
  rcases qbR h with ⟨k,u,a,b⟩|⟨y,j,a,b⟩|⟨a,b⟩|⟨a,b⟩|⟨i,a,j,b⟩|⟨p,i,a,j,v,w,b⟩|⟨a,b⟩|⟨y,a,j,b⟩
  ·rw[b,qaH]
   obtain⟨c,r,e,z⟩:=qiJ k
   have s:(Lib.itoa k++post).headD 0=c:=by rw[e];rfl
   rw[s,if_pos z,xaO k post o,qjU k u]
   simp[a]
  ·have e:txtL (n+1) t++post=34 :: (y.data.toList++34 :: post):=by rw[b];simp
   rw[e,qaH]
   simp only[List.headD_cons,List.drop_succ_cons,List.drop_zero,qcS 34 _ _ (qhV j),bs_of,a]
   simp[digC]
  ·rw[b,qaH]
   simp only[List.cons_append,List.nil_append,List.headD_cons,a]
   simp[digC,eatP,List.isPrefixOf]
  ·rw[b,qaH]
   simp only[List.cons_append,List.nil_append,List.headD_cons,a]
   simp[digC,eatP,List.isPrefixOf]
  ·have e:txtL (n+1) t++post=91 :: (tailL true (i.map (txtL n))++93 :: post):=by rw[b,qcT];simp
   have l:i.length<(tailL true (i.map (txtL n))++93 :: post).length+1:=by
    have q:=qhT (i.map (txtL n)) (fun x hx=>by
     obtain⟨k,m,rfl⟩:=List.mem_map.1 hx
     obtain⟨c,r,e,-⟩:=qlO n k (d+1) (j k m)
     rw[e];simp) true
    rw[List.length_map]at q
    simp only[List.length_append,List.length_cons];omega
   have f:=qnJ (qaH n) (txtL n) i (fun k m post hp=>ih k (d+1) post (j k m) hp) (fun k m=>qlO n k (d+1) (j k m)) _ [] post l
   simp only[List.length_nil,decide_true,List.nil_append]at f
   rw[e,qaH]
   simp only[List.headD_cons,List.drop_succ_cons,List.drop_zero,f,a]
   simp[digC]
  ·have e:txtL (n+1) t++post=123 :: (tailL true (zipL p (i.map (txtL n)))++125 :: post):=by rw[b,qcT];simp
   have l:i.length<(tailL true (zipL p (i.map (txtL n)))++125 :: post).length+1:=by
    have q:=qhT (zipL p (i.map (txtL n))) (xaJ _ _) true
    rw[qbN _ _ (by simpa using j),List.length_map]at q
    simp only[List.length_append,List.length_cons];omega
   have g:=qlT (qaH n) (txtL n) i (fun k m post hp=>ih k (d+1) post (w k m) hp) p v j _ [] [] post l
   simp only[List.length_nil,decide_true,List.nil_append]at g
   rw[e,qaH]
   simp only[List.headD_cons,List.drop_succ_cons,List.drop_zero,g,a]
   simp[digC]
  ·rw[b,qaH]
   simp only[List.cons_append,List.nil_append,List.headD_cons,a]
   simp[digC]
  ·rw[b,qaH]
   simp only[List.cons_append,List.headD_cons,List.drop_succ_cons,List.drop_zero,ih y (d+1) post j o,a]
   simp[digC]
def readT(n:Nat)(s:ByteArray):Option (T n):=
 if s.size<=10000 then
  match qaH n s.data.toList with
  | some (t,[])=>if okT n t=true then some t else none
  | _=>none
 else none
theorem qiN{n:Nat}{t:T n}(h:okT n t=true):goodT n t 1=true/\cntT n t<=120:=by
 simpa only[okT,Bool.and_eq_true,decide_eq_true_eq] using h
theorem qeV{n:Nat}{s:ByteArray}{t:T n}(h:readT n s=some t):s.size<=10000/\okT n t=true/\txtL n t=s.data.toList:=by
 unfold readT at h
 split at h
 ·next h8=>
  split at h
  ·next t' hp=>
   split at h
   ·next hok=>
    cases h
    exact⟨h8,hok,by have:=qkK n _ _ _ hp;simpa using this.symm⟩
   ·cases h
  ·cases h
 ·cases h
theorem qwG{n:Nat}{s:ByteArray}{t:T n}(h8:s.size<=10000)(hok:okT n t=true)(ht:txtL n t=s.data.toList):readT n s=some t:=by
 unfold readT
 rw[if_pos h8,<- ht]
 have:=qlU n t 1 [] (qiN hok).1 rfl
 rw[List.append_nil]at this
 rw[this]
 simp only[hok,if_true]
def ansU(m:Nat)(s:ByteArray):T (m+1):=(readT (m+1) s).getD (⟨0,0,ByteArray.empty,[],[]⟩:Nd (T m))
def okU(m:Nat)(s:ByteArray):Bool:=(readT (m+1) s).isSome
theorem qiO{m:Nat}{s:ByteArray}{t:T (m+1)}(h:readT (m+1) s=some t):ansU m s=t/\okU m s=true:=by
 unfold ansU okU;rw[h];exact⟨rfl,rfl⟩
theorem qlV{m:Nat}{s:ByteArray}(h:readT (m+1) s=none):ansU m s=(⟨0,0,ByteArray.empty,[],[]⟩:Nd (T m))/\okU m s=false:=by
 unfold ansU okU;rw[h];exact⟨rfl,rfl⟩
theorem qoG{n:Nat}{s:ByteArray}(h:¬s.size<=10000):readT n s=none:=by unfold readT;rw[if_neg h]
theorem xfW{n:Nat}{s:ByteArray}(h:∀t,qaH n s.data.toList≠some (t,[])):readT n s=none:=by
 unfold readT
 split
 ·split
  ·next t hp=>exact absurd hp (h t)
  ·rfl
 ·rfl
theorem xaY{n:Nat}{s:ByteArray}{t:T n}(h:qaH n s.data.toList=some (t,[]))(hok:okT n t=false):readT n s=none:=by
 unfold readT
 split
 ·rw[h];simp only[hok,Bool.false_eq_true,if_false]
 ·rfl
theorem xaZ{n:Nat}{s:ByteArray}{t:T n}(h8:s.size<=10000)(h:qaH n s.data.toList=some (t,[]))(hok:okT n t=true):readT n s=some t:=by
 unfold readT
 rw[if_pos h8,h];simp only[hok,if_true]
def qaP(c:UInt8):Bool:=c==32 || c==10
def qaU:List UInt8->Nat
 | []=>0
 | c :: r=>if c=34 then 1+(r.takeWhile (fun x=>!(x==34))).length+(if (r.takeWhile (fun x=>!(x==34))).length<r.length then 1 else 0)
  else 1+(r.takeWhile (fun x=>!qaP x)).length
def qbI:Nat->List UInt8->List ByteArray
 | 0,_=>[]
 | f+1,s=>
  match s.dropWhile qaP with
  | []=>[]
  | c :: r=>bs ((c :: r).take (qaU (c :: r))) :: qbI f ((c :: r).drop (qaU (c :: r)))
def leafW(M:Nat)(s:ByteArray):Option (Int×Int×ByteArray):=
 match readT (M+1) s with
 | some t=>if Nd.sort t<=3 then some (Nd.sort t,Nd.num t,Nd.text t) else none
 | none=>none
def opA(M:Nat)(s:ByteArray):Nat:=
 if opW s=0 then (match leafW M s with
  | some l=>l.1.toNat
  | none=>if freeB s=true then 4 else 0)
 else opW s
abbrev Er:=Int×Nat
abbrev Rd3(α:Type):=Except Er (α×Nat×Nat)
def qaR{α:Type}(rk:Nat->Nat->Rd3 α)(ws:List ByteArray):Nat->Nd α->Nat->Nat->Rd3 (Nd α)
 | 0,_,a,_=>.error (2,a)
 | f+1,n,a,c=>
  match ws[a]? with
  | none=>.error (2,a)
  | some s=>
   if (s==bs [101,110,100])=true then .ok (n,a+1,c)
   else if qcM (n.names++[s]) n.names.length=true then
    match rk (a+1) c with
    | .error e=>.error e
    | .ok r=>qaR rk ws f ⟨n.sort,n.num,n.text,n.names++[s],n.kids++[r.1]⟩ r.2.1 r.2.2
   else .error (2,a)
def stepR{α:Type}(M:Nat)(rk:Bool->Nat->Nat->Rd3 α)(ws:List ByteArray)(p:UInt8)(n:Nd α)(a c:Nat):Rd3 (Nd α):=
 if p=86∨p=65 then
  match rk (p==65) a c with
  | .error e=>.error e
  | .ok r=>.ok (⟨n.sort,n.num,n.text,n.names,n.kids++[r.1]⟩,r.2.1,r.2.2)
 else if p=70 then qaR (rk false) ws (ws.length+1) n a c
 else
  match ws[a]? with
  | none=>.error (2,a)
  | some s=>
   if p=84 then
    match leafW M s with
    | some l=>.ok (⟨n.sort,l.2.1,l.2.2,n.names,n.kids⟩,a+1,c)
    | none=>.error (2,a)
   else if p=35 then
    match numOf s.data.toList with
    | some v=>if lst n.sort.toNat<=v/\v<=mst n.sort.toNat then .ok (⟨n.sort,v,n.text,n.names,n.kids⟩,a+1,c) else .error (2,a)
    | none=>.error (2,a)
   else if p=75 then (if kindB s=true then .ok (⟨n.sort,n.num,s,n.names,n.kids⟩,a+1,c) else .error (2,a))
   else if qaY p s n.names=true then .ok (⟨n.sort,n.num,n.text,n.names++[s],n.kids⟩,a+1,c) else .error (2,a)
def qcN{α:Type}(M:Nat)(rk:Bool->Nat->Nat->Rd3 α)(ws:List ByteArray):List UInt8->Nd α->Nat->Nat->Rd3 (Nd α)
 | [],n,a,c=>.ok (n,a,c)
 | p :: ps,n,a,c=>
  match stepR M rk ws p n a c with
  | .error e=>.error e
  | .ok r=>qcN M rk ws ps r.1 r.2.1 r.2.2
def bodyR{α:Type}(M:Nat)(rk:Bool->Nat->Nat->Rd3 α)(ws:List ByteArray)(act:Bool)(d:Int)(a c:Nat):Rd3 (Nd α):=
 if 24<d then .error (3,a)
 else if 200<=c then .error (4,a)
 else
  match ws[a]? with
  | none=>.error (2,a)
  | some s=>
   if poF (opA M s:Int)=(if act=true then 65 else 86) then
    qcN M rk ws (prt (opA M s)) ⟨(opA M s:Int),0,ByteArray.empty,[],[]⟩ (if opA M s<=4 then a else a+1) (c+1)
   else .error (2,a)
def qaI(M:Nat)(ws:List ByteArray):(m:Nat)->Bool->Int->Nat->Nat->Rd3 (T m)
 | 0,_,_,a,_=>.error (3,a)
 | m+1,act,d,a,c=>bodyR M (fun b=>qaI M ws m b (d+1)) ws act d a c
theorem qcU{M:Nat}{s:ByteArray}{l:Int×Int×ByteArray}(h:leafW M s=some l):1<=l.1/\l.1<=3/\qaO l.1 l.2.1 l.2.2 [] 0=true:=by
 unfold leafW at h
 cases hr:readT (M+1) s with
 | none=>rw[hr]at h;cases h
 | some t=>
  rw[hr]at h
  dsimp only at h
  split at h
  ·rename_i h3
   cases h
   have c:=(qiN (qeV hr).2.1).1
   simp only[goodT,Bool.and_eq_true]at c
   have b:qiF (show Nd (T M) from t)=true:=c.1.2
   unfold qiF at b
   change qaO (Nd.sort t) (Nd.num t) (Nd.text t) (Nd.names t) (Nd.kids t).length=true at b
   dsimp only
   have d:1<=Nd.sort t:=by
    rcases Int.lt_or_le 0 (Nd.sort t) with f|f
    ·omega
    ·unfold qaO at b
     rw[if_neg (by omega),if_neg (by omega),if_neg (by omega),if_neg (by omega),if_neg (by omega),if_neg (by omega)]at b
     cases b
   refine⟨d,h3,?_⟩
   have:Nd.sort t=1∨Nd.sort t=2∨Nd.sort t=3:=by omega
   rcases this with e|e|e
   ·rw[e]at b ⊢;simp[qaO]at b ⊢;exact b.1.1
   ·rw[e]at b ⊢;simp[qaO]at b ⊢;exact b.1.1
   ·rw[e]at b ⊢;simp[qaO]at b ⊢;exact b.1.1
  ·cases h
theorem xhY(M:Nat)(s:ByteArray):opA M s<44:=by
 have a:∀n k,k+n<=44->opF s k n<44:=by
  intro n
  induction n with
  | zero=>intro k _;simp[opF]
  | succ n ih => intro k b; simp only [opF]; split
                 ·omega
                 ·exact ih (k+1) (by omega)
 have h:=a 39 5 (by omega)
 unfold opA
 split
 ·split
  ·rename_i l hl;have:=qcU hl;omega
  ·split<;>omega
 ·exact h
structure KidsGood{α:Type}(ws:List ByteArray)(rk:Bool->Nat->Nat->Rd3 α)(po:α->Int)(good:α->Bool)(cnt:α->Nat):Prop where
 all:∀b a c r,rk b a c=.ok r->good r.1=true/\po r.1=(if b=true then 65 else 86)/\r.2.2=c+cnt r.1/\r.2.2<=200/\a<r.2.1/\r.2.1<=ws.length
theorem qpK{v:UInt8}(h:v=86∨v=65):(if (v==65)=true then (65:Int) else 86)=(v.toNat:Int):=by
 rcases h with rfl|rfl<;>decide
theorem qxQ{α:Type}(f:α->Nat)(l:List α)(x:α):sumL f (l++[x])=sumL f l+f x:=by
 rw[qcP];simp[sumL]
theorem quH {α:Type} (M:Nat) (ws:List ByteArray) (rk:Bool->Nat->Nat->Rd3 α) (po:α->Int) (good:α->Bool) (cnt:α->Nat) (HK:KidsGood ws rk po good cnt) :
  ∀(vs:List UInt8),(∀v,v∈vs->v=86∨v=65)->∀(n:Nd α)(a c:Nat)(r:Nd α×Nat×Nat),qcN M rk ws vs n a c=.ok r ->
   ∃ks:List α,r.1=⟨n.sort,n.num,n.text,n.names,n.kids++ks⟩/\ks.map po=vs.map (fun v=>(v.toNat:Int))/\(∀k,k∈ks->good k=true)/\r.2.2=c+sumL cnt ks/\(c<=200->r.2.2<=200)/\a<=r.2.1/\(a<=ws.length->r.2.1<=ws.length):=by
 intro vs
 induction vs with
 | nil=>
  intro _ n a c r h
  simp only[qcN,Except.ok.injEq]at h
  subst h
  exact⟨[],by simp,rfl,fun _ h=>(by cases h),by simp[sumL],fun h=>h,Nat.le_refl _,fun h=>h⟩
 | cons v vs ih=>
  intro f n a c r h
  have d:=f v (List.mem_cons_self ..)
  simp only[qcN,stepR,if_pos d]at h
  cases hk:rk (v==65) a c with
  | error e=>rw[hk]at h;cases h
  | ok q=>
   rw[hk]at h
   dsimp only at h
   obtain⟨g,i,g3,g4,u,j⟩:=HK.all _ _ _ _ hk
   obtain⟨ks,l,m,o,p,s,w,t⟩:=ih (fun x hx=>f x (List.mem_cons_of_mem _ hx)) _ _ _ _ h
   refine⟨q.1 :: ks,by rw[l];simp,?_,?_,?_,fun _=>s g4,by omega,fun _=>t j⟩
   ·rw[List.map_cons,List.map_cons,m,i,qpK d]
   ·intro k b
    rcases List.mem_cons.1 b with rfl|b
    ·exact g
    ·exact o k b
   ·rw[p,g3];simp only[sumL];omega
theorem qlW{β:Type}(l:List β)(s d:β)(i:Nat)(h:i<l.length):(l++[s]).getD i d=l.getD i d:=by
 simp[List.getD_eq_getElem?_getD,List.getElem?_append_left h]
theorem quI(l:List ByteArray)(s:ByteArray)(i:Nat)(h:i<l.length):qcM (l++[s]) i=qcM l i:=by
 unfold qcM qdQ
 rw[qlW l s _ i h,qlW l s _ (i-1) (by omega)]
theorem qpL {α:Type} (po:α->Int) (n:Nd α) (s:ByteArray) (k:α) (hl:n.names.length=n.kids.length) (h:qdD po n n.names.length=true) (hf:qcM (n.names++[s]) n.names.length=true) (hk:po k=86) :
  qdD po ⟨n.sort,n.num,n.text,n.names++[s],n.kids++[k]⟩ (n.names.length+1)=true:=by
 rw[qpH]
 dsimp only
 rw[hf]
 have e:(List.map po (n.kids++[k])).getD n.names.length 0=86:=by
  rw[List.map_append,List.map_singleton,List.getD_eq_getElem?_getD,List.getElem?_append_right (by simp[hl])]
  simp[hl,hk]
 rw[e]
 simp only[beq_self_eq_true,Bool.and_true]
 unfold qdD at h ⊢
 rw[List.all_eq_true]at h ⊢
 intro i b
 have a:=List.mem_range.1 b
 have:=h i b
 dsimp only at this ⊢
 rw[quI _ _ _ a,List.map_append,List.map_singleton,qlW _ _ _ _ (by simp;omega)]
 exact this
theorem qrR {α:Type} (ws:List ByteArray) (rk:Bool->Nat->Nat->Rd3 α) (po:α->Int) (good:α->Bool) (cnt:α->Nat) (HK:KidsGood ws rk po good cnt) :
  ∀(f:Nat)(n:Nd α)(a c:Nat)(r:Nd α×Nat×Nat),qaR (rk false) ws f n a c=.ok r->n.names.length=n.kids.length->qdD po n n.names.length=true->(∀k,k∈n.kids->good k=true)->c<=200 ->
   r.1.sort=n.sort/\r.1.num=n.num/\r.1.text=n.text/\qeK po r.1=true/\(∀k,k∈r.1.kids->good k=true)/\r.2.2+sumL cnt n.kids=c+sumL cnt r.1.kids/\r.2.2<=200/\a<r.2.1/\r.2.1<=ws.length:=by
 intro f
 induction f with
 | zero=>intro n a c r h;simp[qaR]at h
 | succ f ih=>
  intro n a c r h d j l m
  simp only[qaR]at h
  cases hw:ws[a]? with
  | none=>rw[hw]at h;cases h
  | some s=>
   have B:a<ws.length:=by
    rcases Nat.lt_or_ge a ws.length with i|i
    ·exact i
    ·rw[List.getElem?_eq_none i]at hw;cases hw
   rw[hw]at h
   dsimp only at h
   split at h
   ·cases h
    exact⟨rfl,rfl,rfl,by unfold qeK;simp[d] ;rw[<- d];exact j,l,rfl,m,by show a<a+1;omega,by show a+1<=_;omega⟩
   split at h
   ·rename_i hfb
    cases hk:rk false (a+1) c with
    | error e=>rw[hk]at h;cases h
    | ok q=>
     rw[hk]at h
     dsimp only at h
     obtain⟨o,p,g3,g4,C,D⟩:=HK.all _ _ _ _ hk
     have b:po q.1=86:=by simpa using p
     obtain⟨t,u,v,w,x,y,z,E,A⟩:=ih _ _ _ _ h (by simp[d]) (by
      have:=qpL po n s q.1 d j hfb b
      simpa using this) (fun k hk2=>by
       rcases List.mem_append.1 hk2 with g|g
       ·exact l k g
       ·rw[List.mem_singleton]at g;subst g;exact o) g4
     rw[qxQ]at y
     exact⟨t,u,v,w,x,by omega,z,by omega,A⟩
   ·cases h
theorem qeG{β:Type}{l:List β}{i:Nat}{x:β}(h:l[i]?=some x):i<l.length:=by
 rcases Nat.lt_or_ge i l.length with a|a
 ·exact a
 ·rw[List.getElem?_eq_none a]at h;cases h
theorem qxR {α:Type} (M:Nat) (ws:List ByteArray) (rk:Bool->Nat->Nat->Rd3 α) (po:α->Int) (good:α->Bool) (cnt:α->Nat) (HK:KidsGood ws rk po good cnt)
  (act:Bool) (d:Int) (a c:Nat) (r:Nd α×Nat×Nat) (h:bodyR M rk ws act d a c=.ok r) :
  d<=24/\justB po r.1=true/\poF r.1.sort=(if act=true then 65 else 86)/\(∀k,k∈r.1.kids->good k=true)/\r.2.2=c+1+sumL cnt r.1.kids/\r.2.2<=200/\a<r.2.1/\r.2.1<=ws.length:=by
 unfold bodyR at h
 split at h
 ·cases h
 rename_i hd
 split at h
 ·cases h
 rename_i hc
 cases hw:ws[a]? with
 | none=>rw[hw]at h;cases h
 | some s=>
  have ha:a<ws.length:=by
   rcases Nat.lt_or_ge a ws.length with o|o
   ·exact o
   ·rw[List.getElem?_eq_none o]at hw;cases hw
  rw[hw]at h
  dsimp only at h
  have b:=xhY M s
  have u:∀l,leafW M s=some l->opW s=0->opA M s=l.1.toNat:=fun l z h0=>by unfold opA;rw[if_pos h0,z]
  have p:opA M s<=3->1<=opA M s->∃l,leafW M s=some l/\opA M s=l.1.toNat:=fun j o=>by
   by_cases h0:opW s=0
   ·cases z:leafW M s with
    | some l=>exact⟨l,rfl,u l z h0⟩
    | none=>
     exfalso
     unfold opA at j o
     rw[if_pos h0,z]at j o
     dsimp only at j o
     by_cases hf:freeB s=true
     ·rw[if_pos hf]at j;omega
     ·rw[if_neg hf]at o;omega
   ·exfalso
    have:∀n k,5<=k->opF s k n=0∨5<=opF s k n:=by
     intro n
     induction n with
     | zero=>intro k _;simp[opF]
     | succ n ih => intro k V; simp only [opF]; split
                    ·exact .inr V
                    ·exact ih (k+1) (by omega)
    have i:=this 39 5 (Nat.le_refl _)
    have e:opA M s=opW s:=by unfold opA;rw[if_neg h0]
    unfold opW at e h0
    omega
  generalize hop:opA M s=k at h b p
  by_cases hpo:poF (k:Int)=(if act=true then 65 else 86)
  case neg=>rw[if_neg hpo]at h;cases h
  rw[if_pos hpo]at h
  have U:1<=k/\k<=43:=by
   have B:=hpo
   unfold poF at B
   by_cases j:(k:Int)<1∨43<(k:Int)
   ·rw[if_pos j]at B;cases act<;>simp at B
   ·omega
  refine⟨by omega,?_⟩
  by_cases h24:k=24
  ·subst h24
   rw[show prt 24=[70] by decide]at h
   simp only[qcN,stepR,show ¬((70:UInt8)=86∨(70:UInt8)=65) by decide,if_false,if_true,show ¬(24<=4) by omega]at h
   cases hf:qaR (rk false) ws (ws.length+1) ⟨((24:Nat):Int),0,ByteArray.empty,[],[]⟩ (a+1) (c+1) with
   | error e=>rw[hf]at h;cases h
   | ok q=>
    rw[hf]at h
    dsimp only at h
    obtain rfl:=Except.ok.inj h
    obtain⟨t,F,G,O,P,Q,R,e8,W⟩:=qrR ws rk po good cnt HK _ _ _ _ _ hf rfl (by simp[qdD]) (fun _ h=>(by cases h)) (by omega)
    dsimp only at t F G Q ⊢
    refine⟨?_,by rw[t];exact hpo,P,by simp only[sumL]at Q;omega,R,by omega,W⟩
    rw[qdT po q.1 t,O,F,G,emp_E];rfl
  ·rw[qiH k b]at h
   have I:=qiI k
   have f:∀ (n:Nd α) (H:Nat),n.sort=(k:Int)->n.kids=[]->preC n (preL k)=true->a<H->H<=ws.length->qcN M rk ws (kdV k) n H (c+1)=.ok r ->
     justB po r.1=true/\poF r.1.sort=(if act=true then 65 else 86)/\(∀k,k∈r.1.kids->good k=true)/\r.2.2=c+1+sumL cnt r.1.kids/\r.2.2<=200/\a<r.2.1/\r.2.1<=ws.length:=by
    intro n H X S Y o B Z
    obtain⟨ks,t,F,G,O,P,Q,R⟩:=quH M ws rk po good cnt HK _ I _ _ _ _ Z
    rw[S,List.nil_append]at t
    have J:r.1.sort=(k:Int):=by rw[t];exact X
    have w:r.1.kids=ks:=by rw[t]
    have K:r.1.sort.toNat=k:=by omega
    have L:preC r.1 (preL k)=preC n (preL k):=by
     rw[t]
     rcases (qeA k b).resolve_left h24 with q|q|q|q|q|q|q|q<;>rw[q]<;>simp[preC]
    refine⟨?_,by rw[J];exact hpo,by rw[w];exact G,by rw[w];exact O,P (by omega),by omega,R B⟩
    rw[qfA po r.1 (by omega) (by omega) (by omega),K,L,Y,w,F];simp
   have C:ByteArray.empty.toList.isEmpty=true:=emp_E
   rcases (qeA k b).resolve_left h24 with q|q|q|q|q|q|q|q
   ·rw[q,List.nil_append]at h
    have i:¬k<=4:=by
     intro E
     have:k=1∨k=2∨k=3∨k=4:=by omega
     rcases this with rfl|rfl|rfl|rfl<;>exact absurd q (by decide)
    rw[if_neg i]at h
    try dsimp only at h
    refine f _ _ rfl rfl ?_ (by omega) (by omega) h
    rw[q];simp[preC]
   ·rw[q]at h
    have j:k<=3:=by
     rcases Nat.lt_or_ge 3 k with j|j
     ·exfalso
      have:∀k,k<44->3<k->preL k≠[84]:=by decide
      exact this k b j q
     ·exact j
    obtain⟨l,z,aA⟩:=p j U.1
    have N:=qcU z
    rw[if_pos (by omega)]at h
    simp only[List.cons_append,List.nil_append,qcN,stepR,show ¬((84:UInt8)=86∨(84:UInt8)=65) by decide,show ¬((84:UInt8)=70) by decide,if_false,if_true,hw,z]at h
    try dsimp only at h
    refine f _ _ rfl rfl ?_ (by omega) (by omega) h
    rw[q]
    simp only[preC,List.length_nil]
    have e:(k:Int)=l.1:=by omega
    rw[e,N.2.2];rfl
   ·rw[q]at h
    have i:¬k<=4:=by
     intro E
     have:k=1∨k=2∨k=3∨k=4:=by omega
     rcases this with rfl|rfl|rfl|rfl<;>exact absurd q (by decide)
    rw[if_neg i]at h
    simp only[List.cons_append,List.nil_append,qcN,stepR,show ¬((75:UInt8)=86∨(75:UInt8)=65) by decide,show ¬((75:UInt8)=70) by decide,show ¬((75:UInt8)=84) by decide,show ¬((75:UInt8)=35) by decide,if_false,if_true]at h
    cases hw2:ws[a+1]? with
    | none=>rw[hw2]at h;cases h
    | some x=>
     have m:=qeG hw2
     rw[hw2]at h
     dsimp only at h
     by_cases hx:kindB x=true
     ·rw[if_pos hx]at h
      try dsimp only at h
      refine f _ _ rfl rfl ?_ (by omega) (by omega) h
      rw[q];simp[preC,hx]
     ·rw[if_neg hx]at h;cases h
   ·rw[q]at h
    have i:¬k<=4:=by
     intro E
     have:k=1∨k=2∨k=3∨k=4:=by omega
     rcases this with rfl|rfl|rfl|rfl<;>exact absurd q (by decide)
    rw[if_neg i]at h
    simp only[List.cons_append,List.nil_append,qcN,stepR,show ¬((35:UInt8)=86∨(35:UInt8)=65) by decide,show ¬((35:UInt8)=70) by decide,show ¬((35:UInt8)=84) by decide,if_false,if_true]at h
    cases hw2:ws[a+1]? with
    | none=>rw[hw2]at h;cases h
    | some x=>
     have m:=qeG hw2
     rw[hw2]at h
     dsimp only at h
     cases hv:numOf x.data.toList with
     | none=>rw[hv]at h;cases h
     | some v=>
      rw[hv]at h
      dsimp only at h
      by_cases hx:lst ((k:Int)).toNat<=v/\v<=mst ((k:Int)).toNat
      ·rw[if_pos hx]at h
       try dsimp only at h
       refine f _ _ rfl rfl ?_ (by omega) (by omega) h
       rw[q];simp only[preC,decide_eq_true hx,C];rfl
      ·rw[if_neg hx]at h;cases h
   ·rw[q]at h
    simp only[List.cons_append,List.nil_append,qcN,stepR,show ¬((88:UInt8)=86∨(88:UInt8)=65) by decide,show ¬((88:UInt8)=70) by decide,show ¬((88:UInt8)=84) by decide,show ¬((88:UInt8)=35) by decide,show ¬((88:UInt8)=75) by decide,if_false]at h
    obtain⟨a0,T,aB⟩:∃a0,a0=(if k<=4 then a else a+1)/\a<=a0:=⟨_,rfl,by split<;>omega⟩
    rw[<- T]at h
    cases hw2:ws[a0]? with
    | none=>rw[hw2]at h;cases h
    | some x=>
     have m:=qeG hw2
     rw[hw2]at h
     dsimp only at h
     by_cases hx:qaY 88 x []=true
     ·rw[if_pos hx]at h
      try dsimp only at h
      refine f _ _ rfl rfl ?_ (by omega) (by omega) h
      rw[q]
      have g:freeB x=true:=by simpa [qaY] using hx
      simp[preC,g]
     ·rw[if_neg hx]at h;cases h
   ·rw[q]at h
    have i:¬k<=4:=by
     intro E
     have:k=1∨k=2∨k=3∨k=4:=by omega
     rcases this with rfl|rfl|rfl|rfl<;>exact absurd q (by decide)
    rw[if_neg i]at h
    simp only[List.cons_append,List.nil_append,qcN,stepR,show ¬((78:UInt8)=86∨(78:UInt8)=65) by decide,show ¬((78:UInt8)=70) by decide,show ¬((78:UInt8)=84) by decide,show ¬((78:UInt8)=35) by decide,show ¬((78:UInt8)=75) by decide,if_false]at h
    cases hw2:ws[a+1]? with
    | none=>rw[hw2]at h;cases h
    | some x=>
     have m:=qeG hw2
     rw[hw2]at h
     dsimp only at h
     by_cases hx:qaY 78 x []=true
     ·rw[if_pos hx]at h
      try dsimp only at h
      refine f _ _ rfl rfl ?_ (by omega) (by omega) h
      rw[q]
      have g:nameB x=true:=by simpa [qaY] using hx
      simp[preC,g]
     ·rw[if_neg hx]at h;cases h
   ·rw[q]at h
    have i:¬k<=4:=by
     intro E
     have:k=1∨k=2∨k=3∨k=4:=by omega
     rcases this with rfl|rfl|rfl|rfl<;>exact absurd q (by decide)
    rw[if_neg i]at h
    simp only[List.cons_append,List.nil_append,qcN,stepR,show ¬((88:UInt8)=86∨(88:UInt8)=65) by decide,show ¬((88:UInt8)=70) by decide,show ¬((88:UInt8)=84) by decide,show ¬((88:UInt8)=35) by decide,show ¬((88:UInt8)=75) by decide,if_false]at h
    cases hw2:ws[a+1]? with
    | none=>rw[hw2]at h;cases h
    | some x=>
     rw[hw2]at h
     dsimp only at h
     by_cases hx:qaY 88 x []=true
     ·rw[if_pos hx]at h
      dsimp only[List.nil_append]at h
      cases hw3:ws[a+1+1]? with
      | none=>rw[hw3]at h;cases h
      | some y=>
       have m:=qeG hw3
       rw[hw3]at h
       dsimp only at h
       by_cases hy:qaY 88 y [x]=true
       ·rw[if_pos hy]at h
        try dsimp only at h
        refine f _ _ rfl rfl ?_ (by omega) (by omega) h
        rw[q]
        have g:freeB x=true:=by simpa [qaY] using hx
        have D:freeB y=true/\(y==x)=false:=by simpa [qaY] using hy
        simp[preC,g,D.1,D.2]
       ·rw[if_neg hy]at h;cases h
     ·rw[if_neg hx]at h;cases h
   ·rw[q]at h
    have i:¬k<=4:=by
     intro E
     have:k=1∨k=2∨k=3∨k=4:=by omega
     rcases this with rfl|rfl|rfl|rfl<;>exact absurd q (by decide)
    rw[if_neg i]at h
    simp only[List.cons_append,List.nil_append,qcN,stepR,show ¬((78:UInt8)=86∨(78:UInt8)=65) by decide,show ¬((78:UInt8)=70) by decide,show ¬((78:UInt8)=84) by decide,show ¬((78:UInt8)=35) by decide,show ¬((78:UInt8)=75) by decide,show ¬((35:UInt8)=86∨(35:UInt8)=65) by decide,show ¬((35:UInt8)=70) by decide,show ¬((35:UInt8)=84) by decide,if_false,if_true]at h
    cases hw2:ws[a+1]? with
    | none=>rw[hw2]at h;cases h
    | some x=>
     rw[hw2]at h
     dsimp only at h
     by_cases hx:qaY 78 x []=true
     ·rw[if_pos hx]at h
      dsimp only[List.nil_append]at h
      cases hw3:ws[a+1+1]? with
      | none=>rw[hw3]at h;cases h
      | some y=>
       have m:=qeG hw3
       rw[hw3]at h
       dsimp only at h
       cases hv:numOf y.data.toList with
       | none=>rw[hv]at h;cases h
       | some v=>
        rw[hv]at h
        dsimp only at h
        by_cases hy:lst ((k:Int)).toNat<=v/\v<=mst ((k:Int)).toNat
        ·rw[if_pos hy]at h
         try dsimp only at h
         refine f _ _ rfl rfl ?_ (by omega) (by omega) h
         rw[q]
         have g:nameB x=true:=by simpa [qaY] using hx
         simp only[preC,decide_eq_true hy,C,g];rfl
        ·rw[if_neg hy]at h;cases h
     ·rw[if_neg hx]at h;cases h
theorem qbS (M:Nat) (ws:List ByteArray):∀ (m:Nat) (act:Bool) (d:Int) (a c:Nat) (r:T m × Nat × Nat),qaI M ws m act d a c=.ok r ->
  goodN m r.1 d=true/\poT m r.1=(if act=true then 65 else 86)/\r.2.2=c+cntT m r.1/\r.2.2<=200/\a<r.2.1/\r.2.1<=ws.length:=by
 intro m
 induction m with
 | zero=>intro act d a c r h;cases h
 | succ m ih=>
  intro act d a c r h
  have e:KidsGood ws (fun b=>qaI M ws m b (d+1)) (poT m) (fun t=>goodN m t (d+1)) (cntT m):=⟨fun b a c r h=>ih b (d+1) a c r h⟩
  obtain⟨f,g,g3,g4,i,j,k,l⟩:=qxR M ws _ _ _ _ e act d a c r h
  refine⟨?_,g3,?_,j,k,l⟩
  ·simp only[goodN,Bool.and_eq_true,List.all_eq_true,decide_eq_true_eq]
   exact⟨⟨f,g⟩,g4⟩
  ·rw[i]
   show c+1+sumL (cntT m) (Nd.kids r.1)=c+(1+sumL (cntT m) (Nd.kids r.1))
   omega
theorem qsV {S:Nat->Prop} {n:Nat} {w:World} {M:Nat} {e:TypeId} {v:Value} {l:List (T n)} {xs:List Value} (h:w.ownsRow M e 5 v l.length xs) (hl:l.length<=20000) (hS:∀ g,v.ownBlock=some g->S g)
  (hk:∀j (h:j<l.length),∃c0 c1 c2 c3 c4,(xs[j*5]?=some c0/\xs[j*5+1]?=some c1/\xs[j*5+2]?=some c2/\xs[j*5+3]?=some c3/\xs[j*5+4]?=some c4)/\NodeIn S w n l[j] c0 c1 c2 c3 c4):RowIn S w (NodeIn S w n) l v:=by
 have a:l.length<=maxLen:=by unfold maxLen;omega
 rcases id h.2 with ⟨rfl,d⟩|⟨g,cap,f,rfl,k,z,m,o,p,c⟩
 ·exact⟨none,0,by rw[d],a,fun hne=>absurd (List.eq_nil_of_length_eq_zero d) hne⟩
 ·refine⟨_,_,rfl,a,fun _=>⟨g,0,rfl,hS g rfl,fun i hi=>?_⟩⟩
  obtain⟨c0,c1,c2,c3,c4,⟨q,r,s,t,x⟩,y⟩:=hk i hi
  have b:∀j u,xs[j]?=some u->w.cell? ⟨g,0+j,none⟩=some u:=fun j u hu=>by
   have:=h.cells (g:=g) rfl j u hu
   rwa [Addr.add_lit]at this
  exact⟨c0,c1,c2,c3,c4,b _ _ q,b _ _ r,b _ _ s,b _ _ t,b _ _ x,y⟩
theorem qsW{w:World}{M:Nat}{e:TypeId}{z:Nat}{ao:Option Addr}{k c:Nat}{xs:List Value}(h:w.ownsRow M e z (.slice ao k c) k xs):k<=c:=by
 rcases h.2 with ⟨d,m⟩|⟨g,cap,f,d,i,n,a,j,l,b⟩
 ·omega
 ·cases d;exact a
theorem ManyN.kid {R X Y n:Nat} {w W W1 Wa W2:World} {so nm:Int} {tx:ByteArray} {ns:List ByteArray} {ks:List (T n)} {nv kv:Value} {t:T n} {c0 c1 c2 c3 c4:Value} {one:Obj} {g cap:Nat} (h0:ManyN R X Y n w W so nm tx ns ks nv kv) (hRX:R<X) (hw:w.heap.size<=X)
  (hn:Near R W W1) (ht:NodeIn (fun b=>W.heap.size<=b/\b<W1.heap.size) W1 n t c0 c1 c2 c3 c4)
  (ha:Wa.heap=W1.heap.push one) (ho:Wa.os=W1.os/\Wa.tape=W1.tape/\Wa.output=W1.output) {xs:List Value}
  (hxs:W.ownsRow (Y+1) 25 5 kv ks.length xs) (hk:∀j (h:j<ks.length),∃c0 c1 c2 c3 c4,(xs[j*5]?=some c0/\xs[j*5+1]?=some c1/\xs[j*5+2]?=some c2/\xs[j*5+3]?=some c3/\xs[j*5+4]?=some c4)/\NodeIn (Far (Y+1) nv kv W.heap.size) W n ks[j] c0 c1 c2 c3 c4)
  (hown:W2.ownsRow (Y+1) 25 5 (.slice (some ⟨g,0,none⟩) (ks.length+1) cap) (ks.length+1) (xs++[c0,c1,c2,c3,c4])) (hgrow:Wa.grownBy W2 kv.ownBlock) (hat:kv.ownBlock=some g∨g=W1.heap.size+1) :
  ManyN R X Y n w (W2.setCell ⟨X,4,none⟩ (.slice (some ⟨g,0,none⟩) (ks.length+1) cap)) so nm tx ns (ks++[t]) nv (.slice (some ⟨g,0,none⟩) (ks.length+1) cap):=by
 have A:=h0.lt
 have r:=h0.xy
 have B:=hn.size
 have O:W2.heap.size ≥ W1.heap.size+1:=by have:=hgrow.size;rw[ha]at this;simp at this;omega
 have k:=qaF h0.names
 have f:=qaF hxs
 have C:=qaF hown g rfl
 have y:∀b,b<W1.heap.size->kv.ownBlock≠some b->W2.heap[b]?=W1.heap[b]?:=fun b hb hne=>by
  rw[hgrow.block b (by rw[ha];simp;omega) (fun e=>hne e.symm),ha,Array.getElem?_push_lt hb,Array.getElem?_eq_getElem hb]
 have q:∀b,b<W.heap.size->b≠R->kv.ownBlock≠some b->W2.heap[b]?=W.heap[b]?:=fun b hb hR hne=>by
  rw[y b (by omega) hne,hn.block b hb hR]
 have m:∀b,b≠X->(W2.setCell ⟨X,4,none⟩ (.slice (some ⟨g,0,none⟩) (ks.length+1) cap)).heap[b]?=W2.heap[b]?:=fun b hb=>Below.heap_setCell _ _ _ _ hb
 have d:(W2.setCell ⟨X,4,none⟩ (.slice (some ⟨g,0,none⟩) (ks.length+1) cap)).heap.size=W2.heap.size:=by simp
 have s:kv.ownBlock≠some X:=fun e=>by have:=f X e;omega
 have l:=(q X A (by omega) s).trans h0.box
 have u:xs.length=ks.length*5:=hxs.1
 refine⟨⟨?_,?_,?_,by rw[d];have:=h0.near.size;omega,fun b hb hne=>?_⟩,?_,qaK h0.names fun g' hg'=>?_,h0.short,⟨xs++[c0,c1,c2,c3,c4],?_,fun j hj=>?_⟩,fun b hb=>?_,⟨r.1,by first|(rw[d,p5s];omega)|(rw[d];omega)⟩⟩
 ·show W2.os=w.os
  rw[hgrow.os,ho.1];exact hn.os.trans h0.near.os
 ·show W2.tape=w.tape
  rw[hgrow.tape,ho.2.1];exact hn.tape.trans h0.near.tape
 ·show W2.output=w.output
  rw[hgrow.output,ho.2.2];exact hn.output.trans h0.near.output
 ·have P:=h0.near.size
  rw[m b (by omega),q b (by omega) hne (fun e=>by have:=f b e;omega)]
  exact h0.near.block b hb hne
 ·simp[World.setCell,Array.getElem?_modify,l]
 ·have:=k g' hg'
  rw[m g' (by omega),q g' this.2 (by omega) (h0.apart g' hg')]
 ·rw[List.length_append,List.length_singleton]
  exact qaK hown fun g' hg'=>m g' (by have:=qaF hown g' hg';omega)
 ·have i:∀ b,kv.ownBlock≠some b->b<W1.heap.size->(Value.slice (some ⟨g,0,none⟩) (ks.length+1) cap).ownBlock≠some b:=by
   intro b p Q e
   have e:g=b:=by simpa [Value.ownBlock] using e
   rcases hat with z|z
   ·exact p (by rw[z,e])
   ·omega
  by_cases hjk:j<ks.length
  ·obtain⟨D,E,F,G,H,⟨I,J,K,L,M⟩,N⟩:=hk j hjk
   have a:∀o v,o<5->xs[j*5+o]?=some v->(xs++[c0,c1,c2,c3,c4])[j*5+o]?=some v:=fun o v ho h=>by
    rw[List.getElem?_append_left (by omega)];exact h
   refine⟨D,E,F,G,H,⟨a 0 _ (by omega) I,a 1 _ (by omega) J,a 2 _ (by omega) K,a 3 _ (by omega) L,a 4 _ (by omega) M⟩,?_⟩
   rw[List.getElem_append_left hjk]
   refine N.keep (fun b hb=>?_) (fun b hb=>⟨hb.1,by rw[d];have:=hb.2.1;omega,hb.2.2.1,i b hb.2.2.2 (by have:=hb.2.1;omega)⟩)
   rw[m b (by have:=hb.1;omega),q b hb.2.1 (by have:=hb.1;omega) hb.2.2.2]
  ·have x:j=ks.length:=by simp at hj;omega
   subst x
   have c:∀o v,o<5->[c0,c1,c2,c3,c4][o]?=some v->(xs++[c0,c1,c2,c3,c4])[ks.length*5+o]?=some v:=fun o v ho h=>by
    rw[List.getElem?_append_right (by omega),u,Nat.add_sub_cancel_left];exact h
   refine⟨c0,c1,c2,c3,c4,⟨c 0 _ (by omega) rfl,c 1 _ (by omega) rfl,c 2 _ (by omega) rfl,c 3 _ (by omega) rfl,c 4 _ (by omega) rfl⟩,?_⟩
   have:(ks++[t])[ks.length]=t:=by simp
   rw[this]
   refine ht.keep (fun b hb=>?_) (fun b hb=>⟨by omega,by rw[d];omega,fun e=>by have:=k b e;omega,i b (fun e=>by have:=f b e;omega) hb.2⟩)
   rw[m b (by omega),y b hb.2 (fun e=>by have:=f b e;omega)]
 ·intro e
  have e:g=b:=by simpa [Value.ownBlock] using e
  subst e
  rcases hat with p|p
  ·exact h0.apart g hb p
  ·have:=k g hb;omega
theorem ManyN.kidD {R X Y n:Nat} {w wr W1 W2:World} {so nm:Int} {tx:ByteArray} {ns:List ByteArray} {ks:List (T n)} {nv kv:Value} {t:T n} {c0 c1 c2 c3 c4:Value} {one:Obj} {g cap:Nat} (m:Nat) (h0:ManyN R X Y n w wr so nm tx ns ks nv kv) (hRX:R<X) (hw:w.heap.size<=X)
  (hn:Near R (wr.drewN m) W1) (ht:NodeIn (fun b=>(wr.drewN m).heap.size<=b/\b<W1.heap.size) W1 n t c0 c1 c2 c3 c4) {xs:List Value}
  (hxs:wr.ownsRow (Y+1) 25 5 kv ks.length xs) (hk:∀j (h:j<ks.length),∃c0 c1 c2 c3 c4,(xs[j*5]?=some c0/\xs[j*5+1]?=some c1/\xs[j*5+2]?=some c2/\xs[j*5+3]?=some c3/\xs[j*5+4]?=some c4)/\NodeIn (Far (Y+1) nv kv wr.heap.size) wr n ks[j] c0 c1 c2 c3 c4)
  (hown:W2.ownsRow (Y+1) 25 5 (.slice (some ⟨g,0,none⟩) (ks.length+1) cap) (ks.length+1) (xs++[c0,c1,c2,c3,c4])) (hgrow:(W1.alloc one).grownBy W2 kv.ownBlock) (hat:kv.ownBlock=some g∨g=W1.heap.size+1) :
  ManyN R X Y n w (W2.setCell ⟨X,4,none⟩ (.slice (some ⟨g,0,none⟩) (ks.length+1) cap)) so nm tx ns (ks++[t]) nv (.slice (some ⟨g,0,none⟩) (ks.length+1) cap):=
 ManyN.kid (W:=wr.drewN m) (Wa:=W1.alloc one) (one:=one) (h0.keep hRX ((Near.refl R wr).drewN m)) hRX hw hn ht rfl ⟨rfl,rfl,rfl⟩ hxs
  (fun j hj=>by obtain⟨d0,d1,d2,d3,d4,hd,hdt⟩:=hk j hj;exact⟨d0,d1,d2,d3,d4,hd,NodeIn.keep (S:=Far (Y+1) nv kv wr.heap.size) (w:=wr) (w':=wr.drewN m) (fun _ _=>rfl) (fun _ h=>h) hdt⟩) hown hgrow hat
theorem qwU {R X Y n:Nat} {w wr:World} {so nm:Int} {tx:ByteArray} {ns:List ByteArray} {ks:List (T n)} {nv kv:Value} (h:ManyN R X Y n w wr so nm tx ns ks nv kv) (h0:(Lit.int .i64 so).wf=true) (h1:(Lit.int .i64 nm).wf=true) (h2:tx.size<=10000) (hns:ns.length<=20000) (hks:ks.length<=20000) :
  NodeIn (fun b=>Y+1<=b/\b<wr.heap.size) wr (n+1) (⟨so,nm,tx,ns,ks⟩:Nd (T n)) (.int .i64 so) (.int .i64 nm) (.string tx) nv kv:=by
 obtain⟨xs,c,d⟩:=h.kids
 obtain⟨na,p,rfl⟩:=qeU h.names
 obtain⟨q,r,rfl⟩:=qeU c
 refine⟨rfl,rfl,rfl,by show tx.size<=maxLen;unfold maxLen;omega,h0,h1,?_,?_,⟨_,_,_,rfl,qsW h.names⟩,⟨_,_,_,rfl,qsW c⟩⟩
 ·exact qcQ h.names hns h.short fun g hg=>qaF h.names g hg
 ·refine qsV c hks (fun g hg=>qaF c g hg) fun j hj=>?_
  obtain⟨e,f,i,k,l,m,o⟩:=d j hj
  exact⟨e,f,i,k,l,m,o.keep (fun _ _=>rfl) (fun b hb=>⟨hb.1,hb.2.1⟩)⟩
theorem xdY{P n:Nat}{w W:World}(so nm:Int)(tx:ByteArray)(hW:W=w.alloc (.cells #[.int .i64 so,.int .i64 nm,.string tx,.slice none 0 0,.slice none 0 0] 25)):ManyN P w.heap.size w.heap.size n w W so nm tx [] [] (.slice none 0 0) (.slice none 0 0):=by
 have c:Below w.heap.size w W:=by rw[hW];exact (Below.refl _ _).alloc (Nat.le_refl _) _
 exact⟨Near.of_below c,by rw[hW];exact heap_alloc_new _ _,⟨rfl,.inl ⟨rfl,rfl⟩⟩,by simp,⟨[],⟨rfl,.inl ⟨rfl,rfl⟩⟩,fun j hj=>absurd hj (Nat.not_lt_zero _)⟩,fun b c=>(by cases c),⟨Nat.le_refl _,by rw[hW];simp⟩⟩
end Go.Proofs.YtelogmjfekhmpaaGreatDoor
