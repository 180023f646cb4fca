import Derived.Test.YtelogmjfekhmpaaGreatDoorB1
import Derived.Test.YtelogmjfekhmpaaGreatDoorB3
import Derived.Deep.RegionWith
import Derived.Lib.Hide
namespace Go.Proofs.YtelogmjfekhmpaaGreatDoor
open Go.RowKit Go.Proofs.Tryz
set_option maxRecDepth 100000
set_option maxHeartbeats 16000000
def InnerT(S:Nat->Prop)(w:World):(n:Nat)->T n->Value->Prop
 | 0,_,_=>False
 | n+1,t,v=>
  (Nd.sort t=1/\v=.iface 166 (.int .i64 (Nd.num t)))∨(Nd.sort t=2/\v=.iface 167 (.string (Nd.text t))) ∨
  (Nd.sort t=3/\v=.iface 168 (.bool (Nd.num t==1))) ∨
  (Nd.sort t=4/\∃kv,v=.iface 170 kv/\Row1 S w (InnerT S w n) (Nd.kids t) kv) ∨
  (Nd.sort t=5/\∃nv kv,v=.iface 173 (.agg #[nv,kv])/\StrsIn S w (Nd.names t) nv/\Row1 S w (InnerT S w n) (Nd.kids t) kv) ∨
  (Nd.sort t=6/\∃kv,v=.iface 175 kv/\Row1 S w (InnerT S w n) (Nd.kids t) kv)
theorem InnerT.keep{S S':Nat->Prop}{w w':World}(hb:Same S w w')(hS:∀b,S b->S' b):∀ {n:Nat} {t:T n} {v:Value},InnerT S w n t v->InnerT S' w' n t v:=by
 intro n
 induction n with
 | zero=>intro t v h;exact h.elim
 | succ n ih=>
  intro t v h
  rcases h with h|h|h|⟨a,c,d,e⟩|⟨a,f,c,d,g,e⟩|⟨a,c,d,e⟩
  ·exact .inl h
  ·exact .inr (.inl h)
  ·exact .inr (.inr (.inl h))
  ·exact .inr (.inr (.inr (.inl ⟨a,c,d,e.keep hb hS fun _ _ _ hx=>ih hx⟩)))
  ·exact .inr (.inr (.inr (.inr (.inl ⟨a,f,c,d,g.keep hb hS,e.keep hb hS fun _ _ _ hx=>ih hx⟩))))
  ·exact .inr (.inr (.inr (.inr (.inr ⟨a,c,d,e.keep hb hS fun _ _ _ hx=>ih hx⟩))))
theorem InnerT.iface{S:Nat->Prop}{w:World}:∀ {n:Nat} {t:T n} {v:Value},InnerT S w n t v->∃u x,v=.iface u x:=by
 intro n
 cases n with
 | zero=>intro t v h;exact h.elim
 | succ n=>
  intro t v h
  rcases h with h|h|h|⟨b,c,a,d⟩|⟨b,e,c,a,f,d⟩|⟨b,c,a,d⟩
  ·exact⟨_,_,h.2⟩
  ·exact⟨_,_,h.2⟩
  ·exact⟨_,_,h.2⟩
  ·exact⟨_,_,a⟩
  ·exact⟨_,_,a⟩
  ·exact⟨_,_,a⟩
theorem Tryz.info_at:(prog.info? 133).map (fun i=>(i.zero,i.size,i.bytes))=some (some .nilIface,1,16):=by kernel_rfl
structure MadeTLoop(S:Nat->Prop)(M n:Nat)(ks:List (T n))(w1:World)(k:Nat)(v:Value)(wr:World):Prop where
 below:Below M w1 wr
 row:∃xs:List Value,wr.ownsRow M 133 1 v k xs/\∀j (h:j<ks.length) (hx:j<xs.length),InnerT (fun b=>S b∨(M<=b/\b<wr.heap.size/\v.ownBlock≠some b)) wr n ks[j] xs[j]
theorem qyK {S:Nat->Prop} {M n:Nat} {ks:List (T n)} {w1 wr w2 w3:World} {k g cap:Nat} {v kv:Value} {xs:List Value} {box one:Obj} (h:MadeTLoop S M n ks w1 k v wr) (hk:k<ks.length) (hS:∀ b,S b->b<M) (hMr:M<=wr.heap.size)
  (hown:wr.ownsRow M 133 1 v k xs) (hxs:∀j (h:j<ks.length) (hx:j<xs.length),InnerT (fun b=>S b∨(M<=b/\b<wr.heap.size/\v.ownBlock≠some b)) wr n ks[j] xs[j])
  (hb2:Below (wr.alloc box).heap.size (wr.alloc box) w2) (hin:InnerT (fun b=>S b∨((wr.alloc box).heap.size<=b/\b<w2.heap.size)) w2 n ks[k] kv)
  (hown':w3.ownsRow M 133 1 (.slice (some ⟨g,0,none⟩) (k+1) cap) (k+1) (xs++[kv])) (hgrow:(w2.alloc one).grownBy w3 v.ownBlock) (hat:v.ownBlock=some g∨g=w2.heap.size+1) :
  MadeTLoop S M n ks w1 (k+1) (.slice (some ⟨g,0,none⟩) (k+1) cap) w3:=by
 have o:=hb2.size
 have p:=hgrow.size
 simp at p
 simp at o
 have c:∀b,v.ownBlock=some b->M<=b/\b<wr.heap.size:=r1_lt hown
 have q:xs.length=k:=by simpa using hown.1
 have r:∀b,b<w2.heap.size->v.ownBlock≠some b->w3.heap[b]?=w2.heap[b]?:=fun b a hne=>by
  rw[hgrow.block b (by simp;omega) (fun e=>hne e.symm),Below.heap_alloc _ _ _ a]
 have s:∀b,b<wr.heap.size->v.ownBlock≠some b->w3.heap[b]?=wr.heap[b]?:=fun b a hno=>by
  rw[r b (by omega) hno,hb2.block b (by simp;omega),Below.heap_alloc _ _ _ a]
 have d:∀b,v.ownBlock≠some b->b<w2.heap.size->(Value.slice (some ⟨g,0,none⟩) (k+1) cap).ownBlock≠some b:=by
  intro b u w e
  have e:g=b:=by simpa [Value.ownBlock] using e
  rcases hat with t|t
  ·exact u (by rw[t,e])
  ·omega
 refine⟨⟨?_,?_,?_,by have:=h.below.size;omega,fun b a=>?_⟩,xs++[kv],hown',fun j hj hx=>?_⟩
 ·rw[hgrow.os];exact hb2.os.trans h.below.os
 ·rw[hgrow.tape];exact hb2.tape.trans h.below.tape
 ·rw[hgrow.output];exact hb2.output.trans h.below.output
 ·rw[s b (by omega) (fun e=>by have:=c b e;omega)];exact h.below.block b a
 ·by_cases hjk:j<k
  ·have i:j<xs.length:=by omega
   rw[List.getElem_append_left i]
   refine (hxs j hj i).keep (fun b a=>?_) (fun b a=>?_)
   ·rcases a with a|⟨m,hb2,f⟩
    ·have:=hS b a
     exact s b (by omega) (fun e=>by have:=c b e;omega)
    ·exact s b hb2 f
   ·rcases a with a|⟨m,hb2,f⟩
    ·exact .inl a
    ·exact .inr ⟨m,by omega,d b f (by omega)⟩
  ·have l:j=k:=by simp at hx;omega
   subst l
   have:(xs++[kv])[j]=kv:=by simp[<- q]
   rw[this]
   refine hin.keep (fun b a=>?_) (fun b a=>?_)
   ·rcases a with a|a
    ·have:=hS b a
     exact r b (by omega) (fun e=>by have:=c b e;omega)
    ·simp at a
     exact r b a.2 (fun e=>by have:=c b e;omega)
   ·rcases a with a|a
    ·exact .inl a
    ·simp at a
     exact .inr ⟨by omega,by omega,d b (fun e=>by have:=c b e;omega) a.2⟩
def qsO(S:Nat->Prop)(n:Nat)(t:T n)(w:World)(e:Ending)(w':World):Prop:=
 Below w.heap.size w w' /\ ∃v,e=.returned v/\InnerT (fun b=>S b∨(w.heap.size<=b/\b<w'.heap.size)) w' n t v
def qjC(n:Nat):Prop:=∀(S:Nat->Prop)(t:T n)(c0 c1 c2 c3 c4:Value)(d:Int)(w:World),TreeIn S w n t c0 c1 c2 c3 c4->(∀b,S b->b<w.heap.size)->goodT n t d=true->cntT n t<=120 ->
 Calls prog 147 #[.agg #[c0,c1,c2,c3,c4]] w (qsO S n t w)
theorem xjA{n:Nat}{d:Int}(l:List (T n))(h:l.all (fun x=>goodT n x d)=true):l.length<=sumL (fun x=>cntT n x) l:=by
 induction l with
 | nil=>simp
 | cons x r ih=>
  simp only[List.all_cons,Bool.and_eq_true]at h
  have a:=qvT n x d h.1
  have b:=ih h.2
  simp only[sumL,List.length_cons];omega
theorem qqC (n:Nat) (hn:qjC n) (S:Nat->Prop) (ks:List (T n)) (v:Value) (d:Int) (w:World) (hr:RowIn S w (TreeIn S w n) ks v) (hB:∀ b,S b->b<w.heap.size) (hg:ks.all (fun x=>goodT n x d)=true) (hc:1+sumL (fun x=>cntT n x) ks<=120) :
  Calls prog 173 #[v] w fun e w'=>Below w.heap.size w w' /\ ∃v',e=.returned v' /\ Row1 (fun b=>S b∨(w.heap.size<=b/\b<w'.heap.size)) w' (InnerT (fun b=>S b∨(w.heap.size<=b/\b<w'.heap.size)) w' n) ks v':=by
 obtain⟨ao,cap,rfl,I,c⟩:=hr
 have aB:ks.length<=120:=by have:=xjA ks hg;omega
 have F:Hid (∀k (h:k<ks.length),goodT n ks[k] d=true/\cntT n ks[k]<=120):=by
  intro k h
  refine⟨List.all_eq_true.1 hg _ (List.getElem_mem h),?_⟩
  have:=qcA (fun x=>cntT n x) ks _ (List.getElem_mem h)
  omega
 clear hg hc I
 obtain⟨i0,M,u,y,z⟩:=info_parts Tryz.info_at
 have K:Hid (_/\_/\_/\_):=⟨M,u,y,z⟩
 clear M u y z
 go_enter func173,ntmps173
 go_wp2_with fail
 go_loopw [3,8] (fun v i wr=>∃k:Nat,k<=ks.length/\i=.int .i64 k/\MadeTLoop S w.heap.size n ks w k v wr) (fun _ i _=>ks.length-(intOf i).toNat)
 case atStart=>exact⟨0,Nat.zero_le _,rfl,Below.refl _ _,[],World.ownsRow_nil _ _ _ _,fun j _ hx=>absurd hx (Nat.not_lt_zero _)⟩
 case round=>
  obtain⟨k,hk,rfl,N⟩:=hrel
  obtain⟨xs,m,J⟩:=N.row
  obtain⟨R,U,rfl⟩:=qhK m
  have a:=N.below
  have O:=a.size
  have P:=hidF N
  have E:=hidF m
  have L:=hidF J
  clear N m J
  by_cases hlt:k<ks.length
  ·obtain⟨b,o,rfl,V,r⟩:=c (by intro h;rw[h]at hlt;simp at hlt)
   obtain⟨y0,y1,y2,y3,y4,e0,e1,e2,e3,e4,hr⟩:=r k hlt
   have l:=hB b V
   have f0:=(a.cell (p:=⟨b,o+k*5,none⟩) l).trans e0
   have f1:=(a.cell (p:=⟨b,o+k*5+1,none⟩) l).trans e1
   have f2:=(a.cell (p:=⟨b,o+k*5+2,none⟩) l).trans e2
   have f3:=(a.cell (p:=⟨b,o+k*5+3,none⟩) l).trans e3
   have f4:=(a.cell (p:=⟨b,o+k*5+4,none⟩) l).trans e4
   have q:=hr.keep (qaB a hB) (fun _ h=>h)
   obtain⟨z0,z1,z2,za,zl,zc,ua,ul,uc,rfl,rfl,rfl,rfl,rfl⟩:=q.shape
   clear c r e0 e1 e2 e3 e4 hr
   have G:=(Below.refl wr.heap.size wr).alloc (Nat.le_refl _) (.cells #[.int .i64 z0,.int .i64 z1,.string z2,.slice za zl zc,.slice ua ul uc] 67)
   have W:=q.keep (qaB G (fun b hb=>by have:=hB b hb;omega)) (fun _ h=>h)
   have X:Hid (Calls prog 147 _ _ _):=hn S ks[k] _ _ _ _ _ d _ W (fun b hb=>by have:=hB b hb;simp;omega) (F.out k hlt).1 (F.out k hlt).2
   clear q W G
   go_wp2_with fail
   refine X.out.mono ?_
   rintro e w2 ⟨t,kv,rfl,D⟩
   obtain⟨ku,kx,rfl⟩:=D.iface
   have Y:wr.heap.size+1<=w2.heap.size:=by have:=t.size;simpa using this
   have H:Hid (w2.ownsRow w.heap.size 133 1 (.slice R k U) k xs):=qbF E.out (fun g' hg'=>by have:=r1_lt E.out g' hg';exact (t.block g' (by simp;omega)).trans (Below.heap_alloc _ _ _ this.2))
   have B:Hid (_/\_):=⟨t,D⟩
   clear t D f0 f1 f2 f3 f4 X
   go_wp2_with (at_builtin;refine wpList_append_lies _ rfl (.tmp 12) (.tmp 15) 169 rfl w.heap.size 133 i0 .nilIface 1 16 underlying169 K.out.1 K.out.2.1 K.out.2.2.1 K.out.2.2.2 rfl (by decide) (.slice R k U) k xs rfl (H.out.alloc _) ⟨w2.heap.size,0,none⟩ 1 1 [.iface ku kx] rfl rfl (World.news_of_block (heap_alloc_new w2 _)) (by simp[Value.oneCell']) (by decide) (by unfold maxLen;omega) (by omega) (by simp;omega) (w2.heap.size+1) (by simp) ?_;intro g cap w3 s f A aA;refine Hid.out ?_)
   refine Lib.hid ?_
   have HF:Hid (MadeTLoop S w.heap.size n ks w (k+1) (.slice (some ⟨g,0,none⟩) (k+1) cap) w3):=qyK P.out hlt hB O E.out L.out B.out.1 B.out.2 s f A
   clear s f A B H E L P
   go_wp2_with fail
   go_roundw
   case rel=>exact⟨k+1,by omega,by go_num,HF.out⟩
   case measure=>simp[intOf];omega
  ·have C:k=ks.length:=by omega
   have Z:Hid (Below w.heap.size w wr/\Row1 (fun b=>S b∨(w.heap.size<=b/\b<wr.heap.size)) wr (InnerT (fun b=>S b∨(w.heap.size<=b/\b<wr.heap.size)) wr n) ks (.slice R k U)):=by
    refine⟨a,?_⟩
    have Q:=E.out
    rw[C]at Q ⊢
    refine qgU Q (by unfold maxLen;omega) (fun g hg=>.inr (r1_lt Q g hg)) (fun i M hx=>?_)
    have:=L.out i M hx
    rw[C]at this
    exact this.keep (fun _ _=>rfl) (fun b hb=>hb.elim .inl (fun h=>.inr ⟨h.1,h.2.1⟩))
   clear C c E L P
   go_wp2_with fail
   go_ret
   exact⟨Z.out.1,_,rfl,Z.out.2⟩
theorem qqQ(n:Nat)(hn:qjC n):qjC (n+1):=by
 intro S t c0 c1 c2 c3 c4 d w Q G J P
 have K:∀(v:Value)(w:World),True:=fun _ _=>trivial
 clear K
 obtain⟨rfl,rfl,rfl,R,-,-,u,z⟩:=Q
 obtain⟨na,p,rfl,-,-,-⟩:=id u
 obtain⟨A,B,rfl,-,-⟩:=id z
 simp only[goodT,Bool.and_eq_true]at J
 have I:qaO (Nd.sort t) (Nd.num t) (Nd.text t) (Nd.names t) (Nd.kids t).length=true:=J.1.2
 have C:1+sumL (fun x=>cntT n x) (Nd.kids t)<=120:=by simpa only[cntT] using P
 have r:Nd.sort t=1∨Nd.sort t=2∨Nd.sort t=3∨Nd.sort t=4∨Nd.sort t=5∨Nd.sort t=6:=by
  unfold qaO at I
  by_cases h1:Nd.sort t=1
  ·exact .inl h1
  by_cases h2:Nd.sort t=2
  ·exact .inr (.inl h2)
  by_cases u:Nd.sort t=3
  ·exact .inr (.inr (.inl u))
  by_cases z:Nd.sort t=4
  ·exact .inr (.inr (.inr (.inl z)))
  by_cases h5:Nd.sort t=5
  ·exact .inr (.inr (.inr (.inr (.inl h5))))
  by_cases h6:Nd.sort t=6
  ·exact .inr (.inr (.inr (.inr (.inr h6))))
  rw[if_neg h1,if_neg h2,if_neg u,if_neg z,if_neg h5,if_neg h6]at I
  cases I
 generalize hs:Nd.sort t=s at *
 have y:Hid (Nd.sort t=s):=hs
 clear hs I
 have i:=(Below.refl w.heap.size w).alloc (Nat.le_refl _) (.cells #[.int .i64 s,.int .i64 (Nd.num t),.string (Nd.text t),.slice na (Nd.names t).length p,.slice A (Nd.kids t).length B] 67)
 have D:=Box5.new w (.int .i64 s) (.int .i64 (Nd.num t)) (.string (Nd.text t)) (.slice na (Nd.names t).length p) (.slice A (Nd.kids t).length B) 67
 have L:=u.keep (qaB i G) (fun _ h=>h)
 have E:=z.keepT (qaB i G) (fun _ h=>h)
 have m:Hid (∀ W,Below (w.alloc (.cells #[.int .i64 s,.int .i64 (Nd.num t),.string (Nd.text t),.slice na (Nd.names t).length p,.slice A (Nd.kids t).length B] 67)).heap.size (w.alloc (.cells #[.int .i64 s,.int .i64 (Nd.num t),.string (Nd.text t),.slice na (Nd.names t).length p,.slice A (Nd.kids t).length B] 67)) W ->
   W.heap.size=w.heap.size+1->Calls prog 173 #[.slice A (Nd.kids t).length B] W fun e w'=>∃k q l,e=.returned (.slice k q l)/\Below w.heap.size w w' /\ w'.cell? ⟨w.heap.size,3,none⟩=some (.slice na (Nd.names t).length p) /\
    StrsIn (fun b=>S b∨(w.heap.size<=b/\b<w'.heap.size)) w' (Nd.names t) (.slice na (Nd.names t).length p)/\Row1 (fun b=>S b∨(w.heap.size<=b/\b<w'.heap.size)) w' (InnerT (fun b=>S b∨(w.heap.size<=b/\b<w'.heap.size)) w' n) (Nd.kids t) (.slice k q l)):=by
  intro W O T
  have M:∀b,S b->b<(w.alloc (.cells #[.int .i64 s,.int .i64 (Nd.num t),.string (Nd.text t),.slice na (Nd.names t).length p,.slice A (Nd.kids t).length B] 67)).heap.size:=fun b g=>by have:=G b g;simp;omega
  have N:=E.keepT (qaB O M) (fun _ h=>h)
  refine (qqC n hn S (Nd.kids t) _ (d+1) W N (fun b g=>by have:=G b g;omega) J.2 C).mono ?_
  rintro e w' ⟨g,V,rfl,a⟩
  obtain⟨k,l,rfl,-⟩:=id a
  have F:Below w.heap.size w w':=(qaA i (by simp) O).trans (g.mono (by omega))
  refine⟨_,_,_,rfl,F,(D.keep (O.trans (g.mono (by simp;omega)))).c3,?_,?_⟩
  ·exact u.keep (qaB F G) (fun b g=>.inl g)
  ·exact a.keep (fun _ _=>rfl) (fun b g=>g.elim .inl (fun h=>.inr ⟨by omega,h.2⟩)) (fun _ _ _ hx=>hx.keep (fun _ _=>rfl) (fun b g=>g.elim .inl (fun h=>.inr ⟨by omega,h.2⟩)))
 have c:Hid (∀v W,Below w.heap.size w W->InnerT (fun b=>S b∨(w.heap.size<=b/\b<W.heap.size)) W (n+1) t v->qsO S (n+1) t w (.returned v) W):=fun v W g hv=>⟨g,v,rfl,hv⟩
 clear u z L E D hn J P C
 rcases r with rfl|rfl|rfl|rfl|rfl|rfl
 ·clear m
  go_enter func147,ntmps147
  go_wp2_with fail
  go_ret
  exact c.out _ _ i (.inl ⟨y.out,rfl⟩)
 ·clear m
  go_enter func147,ntmps147
  go_wp2_with fail
  go_ret
  exact c.out _ _ i (.inr (.inl ⟨y.out,rfl⟩))
 ·clear m
  go_enter func147,ntmps147
  go_wp2_with fail
  go_ret
  exact c.out _ _ i (.inr (.inr (.inl ⟨y.out,rfl⟩)))
 ·go_enter func147,ntmps147
  go_wp2_with fail
  refine (m.out _ (Below.refl _ _) (by simp)).mono ?_
  rintro e w2 ⟨k,q,l,rfl,f,-,-,a⟩
  have o:=c.out (.iface 170 (.slice k q l)) w2 f (.inr (.inr (.inr (.inl ⟨y.out,_,rfl,a⟩))))
  have j:Hid _:=o
  clear o a m f
  go_wp2_with fail
  go_ret
  exact j.out
 ·go_enter func147,ntmps147
  go_wp2_with fail
  go_region_with (go_at_call 173;refine (m.out _ ((Below.refl _ _).drew) (by simp)).mono ?_;rintro e w2 ⟨k,q,l,rfl,f,U,H,a⟩)
  all_goals
   have o:=c.out (.iface 173 (.agg #[.slice na (Nd.names t).length p,.slice k q l])) w2 f (.inr (.inr (.inr (.inr (.inl ⟨y.out,_,_,rfl,H,a⟩)))))
   have j:Hid _:=o
   clear o a f H
   go_wp2_with fail
   go_ret
   exact j.out
 ·go_enter func147,ntmps147
  go_wp2_with fail
  refine (m.out _ (Below.refl _ _) (by simp)).mono ?_
  rintro e w2 ⟨k,q,l,rfl,f,-,-,a⟩
  have o:=c.out (.iface 175 (.slice k q l)) w2 f (.inr (.inr (.inr (.inr (.inr ⟨y.out,_,rfl,a⟩)))))
  have j:Hid _:=o
  clear o a m f
  go_wp2_with fail
  go_ret
  exact j.out
theorem qtH:∀n,qjC n:=by
 intro n
 induction n with
 | zero=>intro S t c0 c1 c2 c3 c4 d w a;exact a.elim
 | succ n ih=>exact qqQ n ih
def FaceT(S:Nat->Prop)(n:Nat)(t:T n)(w:World)(e:Ending)(w':World):Prop:=
 Below w.heap.size w w' /\ ((okT n t=true/\∃v,e=.returned (.tuple #[v,.bool true])/\InnerT (fun b=>S b∨(w.heap.size<=b/\b<w'.heap.size)) w' n t v)∨(okT n t=false/\e=.returned (.tuple #[.nilIface,.bool false])))
theorem qqR (n:Nat) (S:Nat->Prop) (t:T n) (c0 c1 c2 c3 c4:Value) (w:World) (ht:TreeIn S w n t c0 c1 c2 c3 c4) (hB:∀ b,S b->b<w.heap.size) :
  Calls prog 117 #[.agg #[c0,c1,c2,c3,c4]] w (FaceT S n t w):=by
 obtain⟨r,s,u,x,y,z,A,B,C,rfl,rfl,rfl,rfl,rfl⟩:=ht.shape
 have d:=(Below.refl w.heap.size w).alloc (Nat.le_refl _) (.cells #[.int .i64 r,.int .i64 s,.string u,.slice x y z,.slice A B C] 67)
 have j:=Box5.new w (.int .i64 r) (.int .i64 s) (.string u) (.slice x y z) (.slice A B C) 67
 obtain⟨f,g⟩:=ht.step hB d
 clear ht
 go_enter func117,ntmps117
 go_wp2_with fail
 refine (qoM n S t _ _ _ _ _ _ f g).mono ?_
 rintro e D ⟨rfl,c⟩
 have a:=qaA d (by simp) c
 obtain⟨k,l⟩:=f.step g c
 obtain⟨H,I,J,k3,k4⟩:=j.keep c
 have E:=a.size
 clear d c j f g
 cases hok:okT n t with
 | false=>
  have o:Hid (FaceT S n t w (.returned (.tuple #[.nilIface,.bool false])) D):=⟨a,.inr ⟨hok,rfl⟩⟩
  clear hok
  go_wp2_with fail
  go_ret2
  exact o.out
 | true=>
  have p:Hid (okT n t=true):=hok
  simp only[okT,Bool.and_eq_true,decide_eq_true_eq]at hok
  have q:Hid (Calls prog 147 _ _ _):=qtH n S t _ _ _ _ _ 1 D k l hok.1 hok.2
  clear hok k l
  go_wp2_with fail
  refine q.out.mono ?_
  rintro e w2 ⟨m,v,rfl,i⟩
  obtain⟨F,G,rfl⟩:=id i.iface
  have o:Hid (FaceT S n t w (.returned (.tuple #[.iface F G,.bool true])) w2):=
   ⟨qaA a a.size m,.inl ⟨p.out,_,rfl,i.keep (fun _ _=>rfl) (fun b hb=>hb.elim .inl (fun h=>.inr ⟨by omega,h.2⟩))⟩⟩
  clear m i q
  go_wp2_with fail
  go_ret2
  exact o.out
end Go.Proofs.YtelogmjfekhmpaaGreatDoor
