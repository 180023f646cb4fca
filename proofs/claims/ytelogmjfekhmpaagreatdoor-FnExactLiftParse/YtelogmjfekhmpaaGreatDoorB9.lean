import Derived.Test.YtelogmjfekhmpaaGreatDoorB1
import Derived.Test.YtelogmjfekhmpaaGreatDoorB3
import Derived.Maps.Own
import Derived.Deep.RegionLaw
namespace Go.Proofs.YtelogmjfekhmpaaGreatDoor
set_option maxRecDepth 100000
set_option maxHeartbeats 16000000
open Go.RowKit Go.WideMaps Go.Maps
def qjA(l:List ByteArray):Nat->DataW Unit
 | 0=>.map []
 | k+1=>(qjA l k).put (.string (l.getD k ByteArray.empty).data.toList) (.lit (.int .i64 k))
def PlacesIn(S:Nat->Prop)(w:World)(l:List ByteArray)(v:Value):Prop:=
 ∃mb,v=.map (some mb)/\S mb/\w.ownsMap Tryz.prog 9 (plainElem Tryz.prog 3) mb l.length (qjA l l.length)
theorem PlacesIn.keep{S S':Nat->Prop}{w w':World}{l:List ByteArray}{v:Value}(h:PlacesIn S w l v)(hb:Same S w w')(hS:∀b,S b->S' b):PlacesIn S' w' l v:=by
 obtain⟨c,rfl,d,e,a,f,g⟩:=h
 exact⟨c,rfl,hS c d,e,a,by rw[hb c d];exact f,g⟩
def InnerK(S:Nat->Prop)(w:World):(n:Nat)->K n->Value->Prop
 | 0,_,_=>False
 | n + 1, t, v => ∃ b nv pv kv, v = .pointer (some ⟨b, 0, none⟩) /\ S b /\ w.heap[b]? = some (.cells #[.int .i64 (Kd.sort t), nv, pv, kv] 185 (0, 0)) /\ StrsIn S w (Kd.names t) nv /\
   (Kd.sort t=5->PlacesIn S w (Kd.names t) pv)/\Row1 S w (InnerK S w n) (Kd.kids t) kv
theorem InnerK.keep{S S':Nat->Prop}{w w':World}(hb:Same S w w')(hS:∀b,S b->S' b):∀ {n:Nat} {t:K n} {v:Value},InnerK S w n t v->InnerK S' w' n t v:=by
 intro n
 induction n with
 | zero=>intro t v h;exact h.elim
 | succ n ih=>
  intro t v h
  obtain⟨b,d,pv,e,f,c,a,g,i,j⟩:=h
  exact⟨b,d,pv,e,f,hS b c,by rw[hb b c];exact a,g.keep hb hS,fun h5=>(i h5).keep hb hS,j.keep hb hS fun _ _ _ hx=>ih hx⟩
theorem InnerK.ptr{S:Nat->Prop}{w:World}{n:Nat}{t:K n}{v:Value}(h:InnerK S w n t v):∃b,v=.pointer (some ⟨b,0,none⟩)/\S b:=by
 cases n with
 | zero=>exact h.elim
 | succ n=>obtain⟨b,d,pv,e,a,c,-⟩:=h;exact⟨b,a,c⟩
theorem Tryz.skeyed:Keyed Tryz.prog 9:=string_keyed Tryz.underlying9
theorem qsG (S:Nat->Prop) (l:List ByteArray) (v:Value) (w:World) (hl:StrsIn S w l v) (hB:∀ b,S b->b<w.heap.size) :
  Calls Tryz.prog 172 #[v] w fun e w'=>∃v',e=.returned v' /\ PlacesIn (fun b=>w.heap.size<=b/\b<w'.heap.size) w' l v' /\ Below w.heap.size w w':=by
 obtain⟨H,cap,rfl,r,u,x⟩:=hl
 have A:∀(m:Int)(w:World),(Instr.makeMap 182 (some (.int .i64 m))).run Tryz.prog w=.ok (.map (some w.heap.size)) (w.alloc (.map #[] 0)):=by
  intro m w
  simp[Instr.makeMap,go_sem]
 unfold maxLen at r
 go_enter Tryz.func172,Tryz.ntmps172
 go_wp2_with fail
 go_loopw [11] (fun i wr=>∃k:Nat,k<=l.length/\i=.int .i64 k/\wr.ownsMap Tryz.prog 9 (plainElem Tryz.prog 3) w.heap.size k (qjA l k)/\Below w.heap.size w wr) (fun i _=>l.length-(intOf i).toNat)
 case atStart=>exact⟨0,Nat.zero_le _,rfl,World.ownsMap_made _ _ _ _,(Below.refl _ _).alloc (Nat.le_refl _) _⟩
 case round=>
  obtain⟨k,I,rfl,a,c⟩:=hrel
  by_cases hlt:k<l.length
  ·obtain⟨b,y,rfl,z,f⟩:=x (by intro h;rw[h]at hlt;simp at hlt)
   have G:=(c.cell (p:=⟨b,y+k,none⟩) (hB b z)).trans (f k hlt)
   have n:=u l[k] (List.getElem_mem hlt)
   have B:Hid (l.getD k ByteArray.empty=l[k]):=by show _=_;simp[List.getD,hlt]
   have o:keyOf Tryz.prog 9 (.string l[k])=some (.string l[k].data.toList):=keyOf_string_mk Tryz.underlying9 n
   have t:(Lit.int .i64 (k:Int)).wf=true:=by
    have e:wrap64 (k:Int)=(k:Int):=by unfold wrap64;omega
    have h:=wrap64_wf (k:Int)
    rwa [e]at h
   clear x u f n
   generalize l[k]=s at *
   go_wp2_with (first
    | (at_mapUpdate;refine wpList_mapUpdate_own _ rfl _ _ _ 182 rfl 9 3 Tryz.skeyed Tryz.underlying182 _ w.heap.size k _ rfl a (by unfold maxLen;omega) _ _ _ rfl rfl o _ [] (plainElem_int Tryz.underlying3 t) ?_)
    | go_in)
   intro F g d
   have C:Hid (F.ownsMap Tryz.prog 9 (plainElem Tryz.prog 3) w.heap.size (k+1) (qjA l (k+1))):=by
    show World.ownsMap _ _ _ _ _ _ _
    rw[qjA,B.out];exact g
   have D:=c.grown d c.size (fun j hj=>by cases hj;exact Nat.le_refl _)
   clear g d a
   go_wp2_with fail
   go_roundw
   case rel=>exact⟨k+1,by omega,by go_num,C.out,D⟩
   case measure=>simp[intOf];omega
  ·have q:k=l.length:=by omega
   have E:Hid (PlacesIn (fun b=>w.heap.size<=b/\b<wr.heap.size) wr l (.map (some w.heap.size))):=by
    rw[q]at a
    exact⟨_,rfl,⟨Nat.le_refl _,a.lt⟩,a⟩
   clear q x u a
   go_wp2_with fail
   go_ret
   exact⟨_,rfl,E.out,c⟩
end Go.Proofs.YtelogmjfekhmpaaGreatDoor
namespace Go.Proofs.YtelogmjfekhmpaaGreatDoor
set_option maxRecDepth 100000
set_option maxHeartbeats 16000000
open Go.RowKit Go.WideMaps Go.Maps
theorem Tryz.info_pk:(Tryz.prog.info? 148).map (fun i=>(i.zero,i.size,i.bytes))=some (some (.pointer none),1,8):=by kernel_rfl
structure MadeLoop(S:Nat->Prop)(M n:Nat)(ks:List (K n))(s:Int)(nv:Value)(w1:World)(k:Nat)(v:Value)(wr:World):Prop where
 below:Below M w1 wr
 box:wr.heap[M]?=some (.cells #[.int .i64 s,nv,.map none,v] 185 (0,0))
 row:∃xs:List Value,wr.ownsRow (M+1) 148 1 v k xs/\∀j (h:j<ks.length) (hx:j<xs.length),InnerK (fun b=>S b∨(M+1<=b/\b<wr.heap.size/\v.ownBlock≠some b)) wr n ks[j] xs[j]
theorem MadeLoop.lt{S:Nat->Prop}{M n:Nat}{ks:List (K n)}{s:Int}{nv:Value}{w1:World}{k:Nat}{v:Value}{wr:World}(h:MadeLoop S M n ks s nv w1 k v wr):M<wr.heap.size:=(Array.getElem?_eq_some_iff.1 h.box).1
theorem xcT {S:Nat->Prop} {M n:Nat} {ks:List (K n)} {s:Int} {nv:Value} {w1 wr W w2 w3:World} {k g cap:Nat} {v kv:Value} {xs:List Value} {box one:Obj} (h:MadeLoop S M n ks s nv w1 k v wr) (hk:k<ks.length) (hS:∀ b,S b->b<M) (_hM:M<=w1.heap.size)
  (hW:∀b:Nat,W.heap[b]?=(wr.alloc box).heap[b]?) (hWs:W.heap.size=wr.heap.size+1) (hWo:W.os=wr.os/\W.tape=wr.tape/\W.output=wr.output)
  (hown:wr.ownsRow (M+1) 148 1 v k xs) (hxs:∀j (h:j<ks.length) (hx:j<xs.length),InnerK (fun b=>S b∨(M+1<=b/\b<wr.heap.size/\v.ownBlock≠some b)) wr n ks[j] xs[j])
  (hb2:Below W.heap.size W w2) (hin:InnerK (fun b=>S b∨(W.heap.size<=b/\b<w2.heap.size)) w2 n ks[k] kv)
  (hown':w3.ownsRow (M+1) 148 1 (.slice (some ⟨g,0,none⟩) (k+1) cap) (k+1) (xs++[kv])) (hgrow:(w2.alloc one).grownBy w3 v.ownBlock) (hat:v.ownBlock=some g∨g=w2.heap.size+1) :
  MadeLoop S M n ks s nv w1 (k+1) (.slice (some ⟨g,0,none⟩) (k+1) cap) (w3.setCell ⟨M,3,none⟩ (.slice (some ⟨g,0,none⟩) (k+1) cap)):=by
 have t:=h.lt
 have A:=hb2.size
 have u:=hgrow.size
 simp at u
 have c:∀b,v.ownBlock=some b->M+1<=b/\b<wr.heap.size:=r1_lt hown
 have w:xs.length=k:=by simpa using hown.1
 have x:∀b,b<w2.heap.size->v.ownBlock≠some b->w3.heap[b]?=w2.heap[b]?:=fun b a hne=>by
  rw[hgrow.block b (by simp;omega) (fun e=>hne e.symm),Below.heap_alloc _ _ _ a]
 have r:∀b,b<wr.heap.size->v.ownBlock≠some b->w3.heap[b]?=wr.heap[b]?:=fun b a hno=>by
  rw[x b (by omega) hno,hb2.block b (by omega),hW,Below.heap_alloc _ _ _ a]
 have m:∀b,b≠M->(w3.setCell ⟨M,3,none⟩ (.slice (some ⟨g,0,none⟩) (k+1) cap)).heap[b]?=w3.heap[b]?:=fun b a=>Below.heap_setCell _ _ _ _ a
 have f:(w3.setCell ⟨M,3,none⟩ (.slice (some ⟨g,0,none⟩) (k+1) cap)).heap.size=w3.heap.size:=by simp
 have y:v.ownBlock≠some M:=fun e=>by have:=c M e;omega
 have i:=(r M t y).trans h.box
 have d:∀b,v.ownBlock≠some b->b<w2.heap.size->(Value.slice (some ⟨g,0,none⟩) (k+1) cap).ownBlock≠some b:=by
  intro b B C e
  have e:g=b:=by simpa [Value.ownBlock] using e
  rcases hat with z|z
  ·exact B (by rw[z,e])
  ·omega
 refine⟨⟨?_,?_,?_,by rw[f];have:=h.below.size;omega,fun b a=>?_⟩,?_,xs++[kv],?_,fun j hj hx=>?_⟩
 ·show w3.os=w1.os
  rw[hgrow.os];exact hb2.os.trans (hWo.1.trans h.below.os)
 ·show w3.tape=w1.tape
  rw[hgrow.tape];exact hb2.tape.trans (hWo.2.1.trans h.below.tape)
 ·show w3.output=w1.output
  rw[hgrow.output];exact hb2.output.trans (hWo.2.2.trans h.below.output)
 ·rw[m b (by omega),r b (by omega) (fun e=>by have:=c b e;omega)];exact h.below.block b a
 ·simp[World.setCell,Array.getElem?_modify,i]
 ·exact qbF hown' fun g' hg'=>m g' (by have:=r1_lt hown' g' hg';omega)
 ·by_cases hjk:j<k
  ·have o:j<xs.length:=by omega
   rw[List.getElem_append_left o]
   refine (hxs j hj o).keep (fun b a=>?_) (fun b a=>?_)
   ·rcases a with a|⟨q,hb2,l⟩
    ·have:=hS b a
     rw[m b (by omega),r b (by omega) (fun e=>by have:=c b e;omega)]
    ·rw[m b (by omega),r b hb2 l]
   ·rcases a with a|⟨q,hb2,l⟩
    ·exact .inl a
    ·exact .inr ⟨q,by rw[f];omega,d b l (by omega)⟩
  ·have p:j=k:=by simp at hx;omega
   subst p
   have:(xs++[kv])[j]=kv:=by simp[<- w]
   rw[this]
   refine hin.keep (fun b a=>?_) (fun b a=>?_)
   ·rcases a with a|a
    ·have:=hS b a
     rw[m b (by omega),x b (by omega) (fun e=>by have:=c b e;omega)]
    ·rw[m b (by omega),x b a.2 (fun e=>by have:=c b e;omega)]
   ·rcases a with a|a
    ·exact .inl a
    ·exact .inr ⟨by omega,by rw[f];omega,d b (fun e=>by have:=c b e;omega) a.2⟩
theorem xcU{n:Nat}{d:Int}(l:List (K n))(h:l.all (fun x=>goodK n x d)=true):l.length<=sumL (fun x=>cntK n x) l:=by
 induction l with
 | nil=>simp
 | cons x r ih=>
  simp only[List.all_cons,Bool.and_eq_true]at h
  have a:=qvW n x d h.1
  have b:=ih h.2
  simp only[sumL,List.length_cons];omega
def qlF(S:Nat->Prop)(n:Nat)(t:K n)(w:World)(e:Ending)(w':World):Prop:=
 Below w.heap.size w w' /\ ∃v,e=.returned v/\InnerK (fun b=>S b∨(w.heap.size<=b/\b<w'.heap.size)) w' n t v
def qpV(n:Nat):Prop:=∀(S:Nat->Prop)(t:K n)(c0 c1 c2:Value)(d:Int)(w:World),KindIn S w n t c0 c1 c2->(∀b,S b->b<w.heap.size)->goodK n t d=true->cntK n t<=40 ->
 Calls Tryz.prog 145 #[.agg #[c0,c1,c2]] w (qlF S n t w)
theorem qwM {S:Nat->Prop} {w w1 wr w':World} {n:Nat} {t:K (n+1)} {s:Int} {v nv pv:Value} (hs:Kd.sort t=s) (hL:MadeLoop S (w.heap.size+1) n (Kd.kids t) s nv w1 (Kd.kids t).length v wr) (hB:∀ b,S b->b<w.heap.size) (hw1:Below w.heap.size w w1)
  (hl:(Kd.kids t).length<=maxLen) (hbox:w'.heap[w.heap.size+1]?=some (.cells #[.int .i64 s,nv,pv,v] 185 (0,0))) (hsz:wr.heap.size<=w'.heap.size)
  (hk:∀b:Nat,b<wr.heap.size->b≠w.heap.size+1->w'.heap[b]?=wr.heap[b]?) (ho:w'.os=wr.os/\w'.tape=wr.tape/\w'.output=wr.output) (hn:StrsIn S wr (Kd.names t) nv)
  (hp:s=5->PlacesIn (fun b=>w.heap.size<=b/\b<w'.heap.size) w' (Kd.names t) pv):qlF S (n+1) t w (.returned (.pointer (some ⟨w.heap.size+1,0,none⟩))) w':=by
 have k:=hL.lt
 obtain⟨xs,d,f⟩:=hL.row
 have l:=hw1.size
 refine⟨⟨ho.1.trans (hL.below.os.trans hw1.os),ho.2.1.trans (hL.below.tape.trans hw1.tape),ho.2.2.trans (hL.below.output.trans hw1.output),by omega,fun b a=>?_⟩,_,rfl,w.heap.size+1,nv,pv,v,rfl,.inr ⟨by omega,by omega⟩,by rw[hs];exact hbox,?_,fun h5=>(hp (by rw[<- hs];exact h5)).keep (fun _ _=>rfl) (fun b a=>.inr a),?_⟩
 ·rw[hk b (by omega) (by omega),hL.below.block b (by omega)];exact hw1.block b a
 ·exact hn.keep (fun b a=>hk b (by have:=hB b a;omega) (by have:=hB b a;omega)) (fun b a=>.inl a)
 ·have c:=qbF (w':=w') d (fun g hg=>hk g (r1_lt d g hg).2 (by have:=r1_lt d g hg;omega))
  refine qgU c hl (fun g hg=>.inr ?_) (fun i hi hx=>?_)
  ·have:=r1_lt c g hg;omega
  ·refine (f i hi hx).keep (fun b a=>?_) (fun b a=>?_)
   ·rcases a with a|⟨h,e,j⟩
    ·exact hk b (by have:=hB b a;omega) (by have:=hB b a;omega)
    ·exact hk b e (by omega)
   ·rcases a with a|⟨h,e,j⟩
    ·exact .inl a
    ·exact .inr ⟨by omega,by omega⟩
theorem xcV(n:Nat)(hn:qpV n):qpV (n+1):=by
 intro S t c0 c1 c2 d w ht A hg hc
 obtain⟨rfl,-,h3,h4⟩:=ht
 obtain⟨na,l,rfl,-,-,-⟩:=id h3
 obtain⟨G,H,rfl,Z,-⟩:=id h4
 simp only[goodK,Bool.and_eq_true]at hg
 have aO:(Kd.kids t).length<=40:=by have:=xcU (Kd.kids t) hg.2;simp only[cntK]at hc;omega
 have O:Hid (∀k (h:k<(Kd.kids t).length),goodK n (Kd.kids t)[k] (d+1)=true/\cntK n (Kd.kids t)[k]<=40):=by
  intro k h
  refine⟨List.all_eq_true.1 hg.2 _ (List.getElem_mem h),?_⟩
  have:=qcA (fun x=>cntK n x) (Kd.kids t) _ (List.getElem_mem h)
  simp only[cntK]at hc;omega
 clear hg hc
 unfold maxLen at Z
 generalize hs:Kd.sort t=s at *
 have HS:Hid (Kd.sort t=s):=hs
 clear hs
 have C:Below w.heap.size w ((w.alloc (.cells #[.int .i64 s,.slice na (Kd.names t).length l,.slice G (Kd.kids t).length H] 55)).alloc (.cells #[.int .i64 s,.slice na (Kd.names t).length l,.map none,.slice none 0 0] 185)):=
  ((Below.refl _ _).alloc (Nat.le_refl _) _).alloc (by simp) _
 have aF:=h3.keep (qaB C A) (fun _ h=>h)
 have aG:=h4.keepK (qaB C A) (fun _ h=>h)
 have P:((w.alloc (.cells #[.int .i64 s,.slice na (Kd.names t).length l,.slice G (Kd.kids t).length H] 55)).alloc (.cells #[.int .i64 s,.slice na (Kd.names t).length l,.map none,.slice none 0 0] 185)).heap[w.heap.size+1]? =
   some (.cells #[.int .i64 s,.slice na (Kd.names t).length l,.map none,.slice none 0 0] 185 (0,0)):=by
  have:=heap_alloc_new (w.alloc (.cells #[.int .i64 s,.slice na (Kd.names t).length l,.slice G (Kd.kids t).length H] 55)) (.cells #[.int .i64 s,.slice na (Kd.names t).length l,.map none,.slice none 0 0] 185)
  simpa using this
 have k0:((w.alloc (.cells #[.int .i64 s,.slice na (Kd.names t).length l,.slice G (Kd.kids t).length H] 55)).alloc (.cells #[.int .i64 s,.slice na (Kd.names t).length l,.map none,.slice none 0 0] 185)).cell? ⟨w.heap.size,0,none⟩=some (.int .i64 s):=by simp[go_sem]
 have k1:((w.alloc (.cells #[.int .i64 s,.slice na (Kd.names t).length l,.slice G (Kd.kids t).length H] 55)).alloc (.cells #[.int .i64 s,.slice na (Kd.names t).length l,.map none,.slice none 0 0] 185)).cell? ⟨w.heap.size,1,none⟩=some (.slice na (Kd.names t).length l):=by simp[go_sem]
 have aL:((w.alloc (.cells #[.int .i64 s,.slice na (Kd.names t).length l,.slice G (Kd.kids t).length H] 55)).alloc (.cells #[.int .i64 s,.slice na (Kd.names t).length l,.map none,.slice none 0 0] 185)).heap.size=w.heap.size+1+1:=by simp
 obtain⟨_,_,aJ,-,r⟩:=aG
 cases aJ
 clear h3 h4
 go_enter Tryz.func145,Tryz.ntmps145
 go_wp2_with fail
 generalize ((w.alloc (.cells #[.int .i64 s,.slice na (Kd.names t).length l,.slice G (Kd.kids t).length H] 55)).alloc (.cells #[.int .i64 s,.slice na (Kd.names t).length l,.map none,.slice none 0 0] 185))=w1 at *
 have aH:Hid (∀b,S b->b<w.heap.size+1):=fun b hb=>by have:=A b hb;omega
 go_loopw [15] (fun i wr=>∃(k:Nat)(v:Value),k<=(Kd.kids t).length/\i=.int .i64 k/\MadeLoop S (w.heap.size+1) n (Kd.kids t) s (.slice na (Kd.names t).length l) w1 k v wr) (fun i _=>(Kd.kids t).length-(intOf i).toNat)
 case atStart=>exact⟨0,.slice none 0 0,Nat.zero_le _,rfl,Below.refl _ _,P,[],World.ownsRow_nil _ _ _ _,fun j _ hx=>absurd hx (Nat.not_lt_zero _)⟩
 case round=>
  obtain⟨k,v,hk,rfl,I⟩:=hrel
  obtain⟨xs,m,aA⟩:=I.row
  obtain⟨M,N,rfl⟩:=qhK m
  have hX:=I.lt
  have c:=I.below
  have aP:=c.size
  have HL:=hidF I
  have Q:=hidF m
  have HK:=hidF aA
  have x3:wr.cell? ⟨w.heap.size+1,3,none⟩=some (.slice M k N):=by simp[World.cell?,I.box]
  have xf:∀o,wr.frozen? ⟨w.heap.size+1,o,none⟩=false:=fun o=>by simp[World.frozen?,I.box]
  have j0:=(c.cell (p:=⟨w.heap.size,0,none⟩) (by show w.heap.size<_;omega)).trans k0
  have j1:=(c.cell (p:=⟨w.heap.size,1,none⟩) (by show w.heap.size<_;omega)).trans k1
  clear I m aA
  by_cases hlt:k<(Kd.kids t).length
  ·obtain⟨b,J,rfl,aK,B⟩:=r (by intro h;rw[h]at hlt;simp at hlt)
   obtain⟨y0,y1,y2,e0,e1,e2,hr⟩:=B k hlt
   have aQ:=A b aK
   have f0:=(c.cell (p:=⟨b,J+k*3,none⟩) (by show b<_;omega)).trans e0
   have f1:=(c.cell (p:=⟨b,J+k*3+1,none⟩) (by show b<_;omega)).trans e1
   have f2:=(c.cell (p:=⟨b,J+k*3+2,none⟩) (by show b<_;omega)).trans e2
   have q:=hr.keep (qaB c (fun b hb=>by have:=A b hb;omega)) (fun _ h=>h)
   obtain⟨z0,za,zl,zc,ua,ul,uc,rfl,rfl,rfl⟩:=q.shape
   clear r B e0 e1 e2 hr
   have R:=(Below.refl wr.heap.size wr).alloc (Nat.le_refl _) (.cells #[.int .i64 z0,.slice za zl zc,.slice ua ul uc] 55)
   have q5:=q.keep (w':=(wr.alloc (.cells #[.int .i64 z0,.slice za zl zc,.slice ua ul uc] 55)).drew) (qaB R.drew (fun b hb=>by have:=A b hb;omega)) (fun _ h=>h)
   have HC:Hid (Calls Tryz.prog 145 _ _ _):=hn S (Kd.kids t)[k] _ _ _ (d+1) _ q5 (fun b hb=>by have:=A b hb;simp;omega) (O.out k hlt).1 (O.out k hlt).2
   obtain⟨i0,aB,aC,aD,E⟩:=info_parts Tryz.info_pk
   have D:Hid (_/\_/\_/\_):=⟨aB,aC,aD,E⟩
   clear aB aC aD E q q5 R
   go_wp2_with fail
   go_region_law (first
    | (refine step_append_lies _ (by rfl) (.tmp 23) (.tmp 26) 183 (by rfl) (w.heap.size+1+1) 148 i0 _ 1 8 Tryz.underlying183 D.out.1 D.out.2.1 D.out.2.2.1 D.out.2.2.2 rfl (by decide) (.slice M k N) k xs (by rfl) V ⟨w2.heap.size,0,none⟩ 1 1 [.pointer (some ⟨kb,0,none⟩)] (by rfl) rfl (World.news_of_block (heap_alloc_new w2 _)) (by simp[Value.oneCell']) (by decide) (by unfold maxLen;omega) (by omega) (by simp;omega) (w2.heap.size+1) (by simp) ?_;intro g cap w3 m u aE aN;have F:=((u.block (w.heap.size+1) (by simp;omega) (fun e=>by have:=r1_lt Q.out _ e.symm;omega)).trans (Below.heap_alloc _ _ _ (by omega))).trans f;have T:w3.cell? ⟨w.heap.size+1,3,none⟩=some (.slice M k N):=(by simp[World.cell?,F]);have U:∀o,w3.frozen? ⟨w.heap.size+1,o,none⟩=false:=(fun o=>by simp[World.frozen?,F]))
    | (go_simp;go_at_call 145;refine HC.out.mono ?_;rintro e w2 ⟨a,kv,rfl,K⟩;obtain⟨kb,rfl,-⟩:=K.ptr;have aM:wr.heap.size+1<=w2.heap.size:=(by have:=a.size;simpa using this);have f:=((a.block (w.heap.size+1) (by simp;omega)).trans (Below.heap_alloc _ _ _ (by omega))).trans HL.out.box;have V:=qbF (w':=w2.alloc (.cells #[.pointer (some ⟨kb,0,none⟩)] 148)) Q.out (fun g' hg'=>by have:=r1_lt Q.out g' hg';rw[Below.heap_alloc _ _ _ (by omega)];exact (a.block g' (by simp;omega)).trans (Below.heap_alloc _ _ _ this.2));have X:w2.cell? ⟨w.heap.size+1,3,none⟩=some (.slice M k N):=(by simp[World.cell?,f]);have aI:(w2.alloc (.cells #[.pointer (some ⟨kb,0,none⟩)] 148)).cell? ⟨w.heap.size+1,3,none⟩=some (.slice M k N):=(World.cell?_of_block (Below.heap_alloc _ _ _ (by show w.heap.size+1<_;omega))).trans X))
   all_goals
    have HF:Hid (MadeLoop S (w.heap.size+1) n (Kd.kids t) s (.slice na (Kd.names t).length l) w1 (k+1) (.slice (some ⟨g,0,none⟩) (k+1) cap) (w3.setCell ⟨w.heap.size+1,3,none⟩ (.slice (some ⟨g,0,none⟩) (k+1) cap))):=
     xcT (W:=(wr.alloc (.cells #[.int .i64 z0,.slice za zl zc,.slice ua ul uc] 55)).drew) HL.out hlt aH.out (by omega) (fun _=>rfl) (by simp) ⟨rfl,rfl,rfl⟩ Q.out HK.out a K m u aE
    clear m u aE K a V X aI T U F f
    go_wp2_with fail
    go_roundw
    case rel=>exact⟨k+1,_,by omega,by go_num,HF.out⟩
    case measure=>simp[intOf];omega
  ·have Y:k=(Kd.kids t).length:=by omega
   have z:=aF.keep (qaB c (fun b hb=>by have:=A b hb;omega)) (fun _ h=>h)
   have y:Hid (MadeLoop S (w.heap.size+1) n (Kd.kids t) s (.slice na (Kd.names t).length l) w1 (Kd.kids t).length (.slice M k N) wr):=by
    have:=HL.out
    rw[Y]at this ⊢
    exact this
   clear Y r Q HK HL
   by_cases h5:s=5
   ·subst h5
    have HC:Hid (Calls Tryz.prog 172 _ _ _):=qsG S (Kd.names t) (.slice na (Kd.names t).length l) wr z (fun b hb=>by have:=A b hb;omega)
    go_wp2_with fail
    refine HC.out.mono ?_
    rintro e w2 ⟨pv,rfl,L,a⟩
    have E:=a.size
    obtain⟨mb,rfl,aU,-⟩:=id L
    have f:=(a.block (w.heap.size+1) hX).trans y.out.box
    have aR:w2.frozen? ⟨w.heap.size+1,2,none⟩=false:=by simp[World.frozen?,f]
    have aS:w2.cell? ⟨w.heap.size+1,2,none⟩=some (.map none):=by simp[World.cell?,f]
    have qs:∀b,b≠w.heap.size+1->(w2.setCell ⟨w.heap.size+1,2,none⟩ (.map (some mb))).heap[b]?=w2.heap[b]?:=fun b hb=>Below.heap_setCell _ _ _ _ hb
    have HP:Hid (qlF S (n+1) t w (.returned (.pointer (some ⟨w.heap.size+1,0,none⟩))) (w2.setCell ⟨w.heap.size+1,2,none⟩ (.map (some mb)))):=by
     refine qwM (pv:=.map (some mb)) HS.out y.out A C (by unfold maxLen;omega) ?_ (by simpa using E) (fun b hb hne=>?_) ⟨a.os,a.tape,a.output⟩ z (fun _=>L.keep (fun b hb=>qs b (by omega)) (fun b hb=>⟨by omega,by simpa using hb.2⟩))
     ·simp[World.setCell,Array.getElem?_modify,f]
     ·rw[qs b hne];exact a.block b hb
    clear HC L a f qs y z
    go_wp2_with fail
    go_ret
    exact HP.out
   ·have aT:(s==5)=false:=by simpa using h5
    have HP:Hid (qlF S (n+1) t w (.returned (.pointer (some ⟨w.heap.size+1,0,none⟩))) wr):=
     qwM HS.out y.out A C (by unfold maxLen;omega) y.out.box (Nat.le_refl _) (fun _ _ _=>rfl) ⟨rfl,rfl,rfl⟩ z (fun h=>absurd h h5)
    clear y z h5
    go_wp2_with fail
    go_ret
    exact HP.out
theorem xgN:∀n,qpV n:=by
 intro n
 induction n with
 | zero=>intro S t c0 c1 c2 d w a;exact a.elim
 | succ n ih=>exact xcV n ih
def FaceK(S:Nat->Prop)(n:Nat)(t:K n)(w:World)(e:Ending)(w':World):Prop:=
 Below w.heap.size w w' /\ ((okK n t=true/\∃v,e=.returned (.tuple #[v,.bool true])/\InnerK (fun b=>S b∨(w.heap.size<=b/\b<w'.heap.size)) w' n t v)∨(okK n t=false/\e=.returned (.tuple #[.pointer none,.bool false])))
theorem qpW (n:Nat) (S:Nat->Prop) (t:K n) (c0 c1 c2:Value) (w:World) (ht:KindIn S w n t c0 c1 c2) (hB:∀ b,S b->b<w.heap.size) :
  Calls Tryz.prog 113 #[.agg #[c0,c1,c2]] w (FaceK S n t w):=by
 obtain⟨r,s,u,x,y,z,A,rfl,rfl,rfl⟩:=ht.shape
 have d:=(Below.refl w.heap.size w).alloc (Nat.le_refl _) (.cells #[.int .i64 r,.slice s u x,.slice y z A] 55)
 have j:=Box3.new w (.int .i64 r) (.slice s u x) (.slice y z A) 55
 obtain⟨f,g⟩:=ht.step hB d
 clear ht
 go_enter Tryz.func113,Tryz.ntmps113
 go_wp2_with fail
 refine (quQ n S t _ _ _ _ f g).mono ?_
 rintro e B ⟨rfl,c⟩
 have a:=qaA d (by simp) c
 obtain⟨k,l⟩:=f.step g c
 obtain⟨E,F,G⟩:=j.keep c
 have C:=a.size
 clear d c j f g
 cases hok:okK n t with
 | false=>
  have o:Hid (FaceK S n t w (.returned (.tuple #[.pointer none,.bool false])) B):=⟨a,.inr ⟨hok,rfl⟩⟩
  clear hok
  go_wp2_with fail
  go_ret2
  exact o.out
 | true=>
  have p:Hid (okK n t=true):=hok
  simp only[okK,Bool.and_eq_true,decide_eq_true_eq]at hok
  have q:Hid (Calls Tryz.prog 145 _ _ _):=xgN n S t _ _ _ 1 B k l hok.1 hok.2
  clear hok k l
  go_wp2_with fail
  refine q.out.mono ?_
  rintro e w2 ⟨m,v,rfl,i⟩
  obtain⟨D,rfl,-⟩:=id i.ptr
  have o:Hid (FaceK S n t w (.returned (.tuple #[.pointer (some ⟨D,0,none⟩),.bool true])) w2):=
   ⟨qaA a a.size m,.inl ⟨p.out,_,rfl,i.keep (fun _ _=>rfl) (fun b hb=>hb.elim .inl (fun h=>.inr ⟨by omega,h.2⟩))⟩⟩
  clear m i q
  go_wp2_with fail
  go_ret2
  exact o.out
end Go.Proofs.YtelogmjfekhmpaaGreatDoor
