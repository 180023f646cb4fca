import Derived.Test.YtelogmjfekhmpaaGreatDoorB24
import Derived.Test.YtelogmjfekhmpaaGreatDoorB12
import Derived.Test.YtelogmjfekhmpaaGreatDoorB2
import Derived.RegionDies
import Derived.Deep.RegionLaw
import Derived.Laws.IdiomStrings
import Derived.BigQuiet
import Derived.Lib.Hide
import Derived.Test.YtelogmjfekhmpaaGreatDoorB20
import Derived.Test.YtelogmjfekhmpaaGreatDoorB11
namespace Go.Proofs.YtelogmjfekhmpaaGreatDoor
open Go.RowKit Go.Proofs.Tryz
set_option maxRecDepth 100000
set_option maxHeartbeats 16000000
theorem qbH {w:World} {N:Nat} (h:w.heap[N]?=some (.cells #[.int .i64 0,.int .i64 0,.string ⟨#[]⟩,.slice none 0 0,.slice none 0 0] 67 (0,0))) :
  (w.cell? ⟨N,0,none⟩=some (.int .i64 0)/\w.cell? ⟨N,1,none⟩=some (.int .i64 0)/\w.cell? ⟨N,2,none⟩=some (.string ⟨#[]⟩)/\w.cell? ⟨N,3,none⟩=some (.slice none 0 0)/\w.cell? ⟨N,4,none⟩=some (.slice none 0 0)) /\
   w.frozen? ⟨N,0,none⟩=false/\w.frozen? ⟨N,1,none⟩=false/\w.frozen? ⟨N,2,none⟩=false/\w.frozen? ⟨N,3,none⟩=false/\w.frozen? ⟨N,4,none⟩=false:=by
 refine⟨⟨?_,?_,?_,?_,?_⟩,?_,?_,?_,?_,?_⟩<;>simp[World.cell?,World.frozen?,h]
theorem qdV(S:Nat->Prop)(w:World)(m:Nat)(x v:Int)(tx:ByteArray)(hx:(Lit.int .i64 x).wf=true)(hv:(Lit.int .i64 v).wf=true)(ht:tx.size<=10000):TreeIn S w (m+1) (⟨x,v,tx,[],[]⟩:Nd (T m)) (.int .i64 x) (.int .i64 v) (.string tx) (.slice none 0 0) (.slice none 0 0):=
 ⟨rfl,rfl,rfl,by show tx.size<=_;unfold maxLen;omega,hx,hv,⟨none,0,rfl,by simp[maxLen],fun s h=>(by cases h),fun h=>absurd rfl h⟩,⟨none,0,rfl,by simp[maxLen],fun h=>absurd rfl h⟩⟩
theorem wfT(x:Int)(h0 : -9999999999<=x)(h1:x<=9999999999):(Lit.int .i64 x).wf=true:=by
 simp only[Lit.wf,Bool.and_eq_true,decide_eq_true_eq]
 have a:IntKind.i64.min = -9223372036854775808:=by rfl
 have b:IntKind.i64.max=9223372036854775807:=by rfl
 rw[a,b];omega
theorem qfD {m n R i i':Nat} {s:ByteArray} {bad bad':Bool} {w W:World} {t:T m} {g0 g1 g2 g3 g4:Value} (hn:Near R w W) (hR:R<w.heap.size) (hr:RdS W R s i' bad') (hk:TreeIn (fun b=>w.heap.size+1<=b/\b<W.heap.size) W m t g0 g1 g2 g3 g4) (hg:GotT m n s i bad t i' bad') :
  qaZ m n w R s i bad (.returned (.agg #[g0,g1,g2,g3,g4])) (put5 W w.heap.size 0 g0 g1 g2 g3 g4):=by
 have q:∀b,b≠w.heap.size->(put5 W w.heap.size 0 g0 g1 g2 g3 g4).heap[b]?=W.heap[b]?:=fun b h=>qaQ h
 have c:(put5 W w.heap.size 0 g0 g1 g2 g3 g4).heap.size=W.heap.size:=qbO
 have a:Below 0 W (put5 W w.heap.size 0 g0 g1 g2 g3 g4):=qaX (Below.refl 0 W) (Nat.zero_le _)
 exact⟨⟨a.os.trans hn.os,a.tape.trans hn.tape,a.output.trans hn.output,by rw[c];exact hn.size,fun b hb hne=>(q b (by omega)).trans (hn.block b hb hne)⟩,t,_,_,_,_,_,i',bad',rfl,hk.keep (fun b hb=>q b (by omega)) (fun b hb=>⟨by omega,by rw[c];exact hb.2⟩),(q R (by omega)).trans hr,hg⟩
theorem xbN (n m R:Nat) (s:ByteArray) (i:Nat) (bad:Bool) (w:World) (h:RdS w R s i bad) (hb:bad=true∨n=0) (hi:bad=false->i<=s.size) :
  Calls prog 54 #[.pointer (some ⟨R,0,none⟩),.int .i64 (7-(n:Int))] w (qaZ (m+1) n w R s i bad):=by
 have d:=h.lt
 have b:GotT (m+1) n s i bad (⟨0,0,⟨#[]⟩,[],[]⟩:Nd (T m)) i true:=by
  refine⟨Nat.le_refl _,fun h=>(by cases h),fun hf=>(by have:=hi hf;omega),fun _=>rfl,fun t0 post hf he hg _=>?_⟩
  rcases hb with hb|hb
  ·rw[hb]at hf;cases hf
  ·subst hb
   simp[goodT]at hg
 have c:Hid (∀o,qaZ (m+1) n w R s i bad (.returned (.agg #[.int .i64 0,.int .i64 0,.string ⟨#[]⟩,.slice none 0 0,.slice none 0 0])) ((w.setCell ⟨R,2,none⟩ (.bool true)).alloc o)):=fun o=>
  ⟨(Near.set R 2 w _).trans (Near.alloc _ _ _),_,_,_,_,_,_,i,true,rfl,qdV _ _ m 0 0 _ rfl rfl (by decide),(Below.heap_alloc _ _ _ (by simpa using d)).trans (h.set2 true),b⟩
 have c2:=h.cell2
 have fz:=h.free 2
 have a:bad=false->(6:Int)<7-(n:Int):=fun hf=>by
  rcases hb with hb|hb
  ·rw[hb]at hf;cases hf
  ·omega
 clear b h
 cases bad with
 | true=>
  clear a hi
  go_enter func54,ntmps54
  go_wp2_with fail
  refine bodyPost_ret (v:=.agg #[.int .i64 0,.int .i64 0,.string ⟨#[]⟩,.slice none 0 0,.slice none 0 0]) (by simp[results,results54,go_sem]) rfl ?_
  exact c.out _
 | false=>
  have e:=a rfl
  clear a hi
  go_enter func54,ntmps54
  go_wp2_with fail
  refine bodyPost_ret (v:=.agg #[.int .i64 0,.int .i64 0,.string ⟨#[]⟩,.slice none 0 0,.slice none 0 0]) (by simp[results,results54,go_sem]) rfl ?_
  exact c.out _
theorem l1_yes (n m R:Nat) (s:ByteArray) (i:Nat) (w:World) (h:RdS w R s i false) (hs:s.size<=10000) (hi:i<=s.size) (hl:lookB s i=121) :
  Calls prog 54 #[.pointer (some ⟨R,0,none⟩),.int .i64 (7-((n+1:Nat):Int))] w (qaZ (m+1) (n+1) w R s i false):=by
 have q:=h.lt
 obtain⟨W1,f,z,c2,t⟩:=qbV (k:=121) (.cells #[.int .i64 0,.int .i64 0,.string ⟨#[]⟩,.slice none 0 0,.slice none 0 0] 67) h (by rw[hl];rfl)
 have l:¬(6:Int)<7-((n+1:Nat):Int):=by omega
 have d:Hid (lookB s i=121):=hl
 clear h hl
 generalize hdp:7-((n+1:Nat):Int)=dp at *
 clear hdp
 go_enter func54,ntmps54
 go_wp2_with fail
 rw[<- f]
 clear f c2
 refine t.out.mono ?_
 rintro e w2 ⟨rfl,c,g,A,a⟩
 have r:Hid (Calls prog 57 #[.pointer (some ⟨R,0,none⟩),.string ⟨#[121,101,115]⟩] w2 _):=qcI w2 R s ⟨#[121,101,115]⟩ i false g hs (by decide) hi
 clear t g
 go_wp2_with fail
 refine r.out.mono ?_
 rintro e w3 ⟨rfl,b,j⟩
 have u:=b.size
 obtain⟨⟨r0,B,C,D,E⟩,G,f1,H,I,J⟩:=qbH ((b.block w.heap.size (by omega) (by omega)).trans a)
 have y:Hid (qaZ (m+1) (n+1) w R s i false (.returned (.agg #[.int .i64 3,.int .i64 1,.string ⟨#[]⟩,.slice none 0 0,.slice none 0 0])) (put5 w3 w.heap.size 0 (.int .i64 3) (.int .i64 1) (.string ⟨#[]⟩) (.slice none 0 0) (.slice none 0 0))):=by
  rcases j with ⟨o,F,p⟩|⟨o,p⟩
  ·exact qfD (c.trans b) q p (qdV _ _ m 3 1 _ rfl rfl (by decide)) (qhH (x:=⟨#[121,101,115]⟩) hi (.inl ⟨o,F,rfl,rfl⟩) (by decide) (fun t0 post he hg=>xaV d.out t0 post he hg))
  ·exact qfD (c.trans b) q p (qdV _ _ m 3 1 _ rfl rfl (by decide)) (qhH (x:=⟨#[121,101,115]⟩) hi (.inr ⟨o,rfl,rfl⟩) (by decide) (fun t0 post he hg=>xaV d.out t0 post he hg))
 clear r j b c a
 go_wp2_with fail
 refine bodyPost_ret (v:=.agg #[.int .i64 3,.int .i64 1,.string ⟨#[]⟩,.slice none 0 0,.slice none 0 0]) (by simp[results,results54,go_sem,r0,B,C,D,E]) rfl ?_
 exact y.out
theorem l1_no (n m R:Nat) (s:ByteArray) (i:Nat) (w:World) (h:RdS w R s i false) (hs:s.size<=10000) (hi:i<=s.size) (hl:lookB s i=110) :
  Calls prog 54 #[.pointer (some ⟨R,0,none⟩),.int .i64 (7-((n+1:Nat):Int))] w (qaZ (m+1) (n+1) w R s i false):=by
 have q:=h.lt
 obtain⟨W1,f,z,c2,t⟩:=qbV (k:=110) (.cells #[.int .i64 0,.int .i64 0,.string ⟨#[]⟩,.slice none 0 0,.slice none 0 0] 67) h (by rw[hl];rfl)
 have l:¬(6:Int)<7-((n+1:Nat):Int):=by omega
 have d:Hid (lookB s i=110):=hl
 clear h hl
 generalize hdp:7-((n+1:Nat):Int)=dp at *
 clear hdp
 go_enter func54,ntmps54
 go_wp2_with fail
 rw[<- f]
 clear f c2
 refine t.out.mono ?_
 rintro e w2 ⟨rfl,c,g,A,a⟩
 have r:Hid (Calls prog 57 #[.pointer (some ⟨R,0,none⟩),.string ⟨#[110,111]⟩] w2 _):=qcI w2 R s ⟨#[110,111]⟩ i false g hs (by decide) hi
 clear t g
 go_wp2_with fail
 refine r.out.mono ?_
 rintro e w3 ⟨rfl,b,j⟩
 have u:=b.size
 obtain⟨⟨r0,B,C,D,E⟩,G,f1,H,I,J⟩:=qbH ((b.block w.heap.size (by omega) (by omega)).trans a)
 have y:Hid (qaZ (m+1) (n+1) w R s i false (.returned (.agg #[.int .i64 3,.int .i64 0,.string ⟨#[]⟩,.slice none 0 0,.slice none 0 0])) (put5 w3 w.heap.size 0 (.int .i64 3) (.int .i64 0) (.string ⟨#[]⟩) (.slice none 0 0) (.slice none 0 0))):=by
  rcases j with ⟨o,F,p⟩|⟨o,p⟩
  ·exact qfD (c.trans b) q p (qdV _ _ m 3 0 _ rfl rfl (by decide)) (qhH (x:=⟨#[110,111]⟩) hi (.inl ⟨o,F,rfl,rfl⟩) (by decide) (fun t0 post he hg=>xhX d.out t0 post he hg))
  ·exact qfD (c.trans b) q p (qdV _ _ m 3 0 _ rfl rfl (by decide)) (qhH (x:=⟨#[110,111]⟩) hi (.inr ⟨o,rfl,rfl⟩) (by decide) (fun t0 post he hg=>xhX d.out t0 post he hg))
 clear r j b c a
 go_wp2_with fail
 refine bodyPost_ret (v:=.agg #[.int .i64 3,.int .i64 0,.string ⟨#[]⟩,.slice none 0 0,.slice none 0 0]) (by simp[results,results54,go_sem,r0,B,C,D,E]) rfl ?_
 exact y.out
theorem xiP (n m R:Nat) (s:ByteArray) (i:Nat) (w:World) (h:RdS w R s i false) (hs:s.size<=10000) (hi:i<=s.size) (hl:lookB s i=126) :
  Calls prog 54 #[.pointer (some ⟨R,0,none⟩),.int .i64 (7-((n+1:Nat):Int))] w (qaZ (m+1) (n+1) w R s i false):=by
 have q:=h.lt
 obtain⟨W1,f,z,c2,t⟩:=qbV (k:=126) (.cells #[.int .i64 0,.int .i64 0,.string ⟨#[]⟩,.slice none 0 0,.slice none 0 0] 67) h (by rw[hl];rfl)
 have l:¬(6:Int)<7-((n+1:Nat):Int):=by omega
 have d:Hid (lookB s i=126):=hl
 clear h hl
 generalize hdp:7-((n+1:Nat):Int)=dp at *
 clear hdp
 go_enter func54,ntmps54
 go_wp2_with fail
 rw[<- f]
 clear f c2
 refine t.out.mono ?_
 rintro e w2 ⟨rfl,c,g,A,a⟩
 have r:Hid (Calls prog 57 #[.pointer (some ⟨R,0,none⟩),.string ⟨#[126]⟩] w2 _):=qcI w2 R s ⟨#[126]⟩ i false g hs (by decide) hi
 clear t g
 go_wp2_with fail
 refine r.out.mono ?_
 rintro e w3 ⟨rfl,b,j⟩
 have u:=b.size
 obtain⟨⟨r0,B,C,D,E⟩,G,f1,H,I,J⟩:=qbH ((b.block w.heap.size (by omega) (by omega)).trans a)
 have y:Hid (qaZ (m+1) (n+1) w R s i false (.returned (.agg #[.int .i64 6,.int .i64 0,.string ⟨#[]⟩,.slice none 0 0,.slice none 0 0])) (put5 w3 w.heap.size 0 (.int .i64 6) (.int .i64 0) (.string ⟨#[]⟩) (.slice none 0 0) (.slice none 0 0))):=by
  rcases j with ⟨o,F,p⟩|⟨o,p⟩
  ·exact qfD (c.trans b) q p (qdV _ _ m 6 0 _ rfl rfl (by decide)) (qhH (x:=⟨#[126]⟩) hi (.inl ⟨o,F,rfl,rfl⟩) (by decide) (fun t0 post he hg=>qwF d.out t0 post he hg))
  ·exact qfD (c.trans b) q p (qdV _ _ m 6 0 _ rfl rfl (by decide)) (qhH (x:=⟨#[126]⟩) hi (.inr ⟨o,rfl,rfl⟩) (by decide) (fun t0 post he hg=>qwF d.out t0 post he hg))
 clear r j b c a
 go_wp2_with fail
 refine bodyPost_ret (v:=.agg #[.int .i64 6,.int .i64 0,.string ⟨#[]⟩,.slice none 0 0,.slice none 0 0]) (by simp[results,results54,go_sem,r0,B,C,D,E]) rfl ?_
 exact y.out
theorem xiQ (n m R:Nat) (s:ByteArray) (i:Nat) (w:World) (h:RdS w R s i false) (hs:s.size<=10000) (hi:i<=s.size) (hl:lookB s i=34) :
  Calls prog 54 #[.pointer (some ⟨R,0,none⟩),.int .i64 (7-((n+1:Nat):Int))] w (qaZ (m+1) (n+1) w R s i false):=by
 have D:=h.lt
 obtain⟨W1,j,G,c2,B⟩:=qbV (k:=34) (.cells #[.int .i64 0,.int .i64 0,.string ⟨#[]⟩,.slice none 0 0,.slice none 0 0] 67) h (by rw[hl];rfl)
 have t:¬(6:Int)<7-((n+1:Nat):Int):=by omega
 have f:Hid (lookB s i=34):=hl
 have d:i<s.size:=Classical.byContradiction fun hge=>by rw[qbU s i (by omega)]at hl;exact absurd hl (by decide)
 have g:s[i]=34:=by rw[<- qeR s i d];exact hl
 clear h hl
 generalize hdp:7-((n+1:Nat):Int)=dp at *
 clear hdp
 go_enter func54,ntmps54
 go_wp2_with fail
 rw[<- j]
 clear j c2
 refine B.out.mono ?_
 rintro e w2 ⟨rfl,l,o,H,a⟩
 have A:Hid (Calls prog 71 #[.pointer (some ⟨R,0,none⟩)] w2 (qvZ w2 R s i false)):=xfS w2 R s i false o hs d g
 clear B o g
 go_wp2_with fail
 refine A.out.mono ?_
 rintro e w3 ⟨c,p⟩
 obtain⟨x,u,b,rfl,I,q,C⟩:∃(x:ByteArray)(u:Nat)(b:Bool),e=.returned (.string x)/\x.size<=10000/\RdS w3 R s u b/\GotT (m+1) (n+1) s i false (⟨2,0,x,[],[]⟩:Nd (T m)) u b:=by
  rcases p with ⟨x,r,y,rfl,z,J⟩|⟨y,x,K,rfl,z⟩
  ·exact⟨bs x,_,false,rfl,by rw[qaL];omega,z,qxO f.out y J⟩
  ·exact⟨x,s.size,true,rfl,K,z,qxP f.out hi y⟩
 have E:=c.size
 obtain⟨⟨r0,L,M,N,O⟩,P,f1,Q,S,U⟩:=qbH ((c.block w.heap.size (by omega) (by omega)).trans a)
 have F:Hid (qaZ (m+1) (n+1) w R s i false (.returned (.agg #[.int .i64 2,.int .i64 0,.string x,.slice none 0 0,.slice none 0 0])) (put5 w3 w.heap.size 0 (.int .i64 2) (.int .i64 0) (.string x) (.slice none 0 0) (.slice none 0 0))):=
  qfD (l.trans c) D q (qdV _ _ m 2 0 _ rfl rfl I) C
 clear A p c l a q C
 go_wp2_with fail
 refine bodyPost_ret (v:=.agg #[.int .i64 2,.int .i64 0,.string x,.slice none 0 0,.slice none 0 0]) (by simp[results,results54,go_sem,r0,L,M,N,O]) rfl ?_
 exact F.out
theorem l1_num (n m R:Nat) (s:ByteArray) (i:Nat) (w:World) (h:RdS w R s i false) (hs:s.size<=10000) (hi:i<=s.size) (h1n:¬ lookB s i=34) (h2n:¬ lookB s i=121) (h3n:¬ lookB s i=110) (h4n:¬ lookB s i=126) (h5n:¬ lookB s i=63) (h6n:¬ lookB s i=91) (h7n:¬ lookB s i=123) :
  Calls prog 54 #[.pointer (some ⟨R,0,none⟩),.int .i64 (7-((n+1:Nat):Int))] w (qaZ (m+1) (n+1) w R s i false):=by
 have I:=h.lt
 obtain⟨W1,r,V,c2,G⟩:=qbV (.cells #[.int .i64 0,.int .i64 0,.string ⟨#[]⟩,.slice none 0 0,.slice none 0 0] 67) h rfl
 have B:¬(6:Int)<7-((n+1:Nat):Int):=by omega
 have a:∀c:UInt8,¬lookB s i=c->((((lookB s i).toNat:Nat):Int)==(c.toNat:Int))=false:=fun c hc=>by
  rw[beq_eq_false_iff_ne]
  intro e
  apply hc
  apply UInt8.toNat_inj.1
  omega
 have J:((((lookB s i).toNat:Nat):Int)==34)=false:=a 34 h1n
 have K:((((lookB s i).toNat:Nat):Int)==121)=false:=a 121 h2n
 have L:((((lookB s i).toNat:Nat):Int)==110)=false:=a 110 h3n
 have M:((((lookB s i).toNat:Nat):Int)==126)=false:=a 126 h4n
 have N:((((lookB s i).toNat:Nat):Int)==63)=false:=a 63 h5n
 have O:((((lookB s i).toNat:Nat):Int)==91)=false:=a 91 h6n
 have P:((((lookB s i).toNat:Nat):Int)==123)=false:=a 123 h7n
 have Q:Hid (¬lookB s i=34/\¬lookB s i=121/\¬lookB s i=110/\¬lookB s i=126/\¬lookB s i=63/\¬lookB s i=91/\¬lookB s i=123):=⟨h1n,h2n,h3n,h4n,h5n,h6n,h7n⟩
 have o:Hid (∀w2,RdS w2 R s i false->Calls prog 73 #[.pointer (some ⟨R,0,none⟩)] w2 fun e w'=>Near R w2 w' /\ ∃(v:Int)(l:Nat)(b:Bool),e=.returned (.int .i64 v)/\(Lit.int .i64 v).wf=true/\RdS w' R s l b/\GotT (m+1) (n+1) s i false (⟨1,v,ByteArray.empty,[],[]⟩:Nd (T m)) l b):=by
  intro w2 f
  have p:∀(neg:Bool)(F:Nat),neg=decide (lookB s i=45)->F=(if neg=true then i+1 else i)->∀e w',quD w2 R s false neg F e w'->(Near R w2 w' /\ ∃(v:Int)(l:Nat)(b:Bool),e=.returned (.int .i64 v)/\(Lit.int .i64 v).wf=true/\RdS w' R s l b/\GotT (m+1) (n+1) s i false (⟨1,v,ByteArray.empty,[],[]⟩:Nd (T m)) l b):=by
   rintro neg F t W e w' ⟨X,k,hk,D,j,x,rfl,Y⟩
   have C:=qhW _ j (by rw[List.length_take];omega)
   refine⟨X,_,F+k,_,rfl,?_,Y,xfU h1n h2n h3n h4n h5n h6n h7n t W D j x rfl⟩
   generalize qcD ((s.data.toList.drop F).take k)=u at C
   refine wfT _ ?_ ?_<;>(cases neg<;>simp<;>omega)
  by_cases h45:lookB s i=45
  ·have q:i<s.size:=Classical.byContradiction fun hge=>by rw[qbU s i (by omega)]at h45;exact absurd h45 (by decide)
   exact (xiH w2 R s i false f hs q h45).mono (p true (i+1) (by simp[h45]) rfl)
  ·exact (xiI w2 R s i false f hs hi h45).mono (p false i (by simp[h45]) rfl)
 clear a h1n h2n h3n h4n h5n h6n h7n
 generalize ((lookB s i).toNat:Nat)=cc at *
 clear h
 generalize hdp:7-((n+1:Nat):Int)=dp at *
 clear hdp
 go_enter func54,ntmps54
 go_wp2_with fail
 rw[<- r]
 clear r c2
 refine G.out.mono ?_
 rintro e w2 ⟨rfl,y,f,Z,d⟩
 have E:Hid (Calls prog 73 #[.pointer (some ⟨R,0,none⟩)] w2 _):=o.out w2 f
 clear G f o
 go_wp2_with fail
 refine E.out.mono ?_
 rintro e w3 ⟨g,v,l,b,rfl,z,A,H⟩
 have S:=g.size
 obtain⟨⟨r0,r1,r2,r3,r4⟩,f0,f1,f2,f3,f4⟩:=qbH ((g.block w.heap.size (by omega) (by omega)).trans d)
 have U:Hid (qaZ (m+1) (n+1) w R s i false (.returned (.agg #[.int .i64 1,.int .i64 v,.string ⟨#[]⟩,.slice none 0 0,.slice none 0 0])) (put5 w3 w.heap.size 0 (.int .i64 1) (.int .i64 v) (.string ⟨#[]⟩) (.slice none 0 0) (.slice none 0 0))):=
  qfD (y.trans g) I A (qdV _ _ m 1 v _ rfl z (by decide)) H
 clear E g y d A H J K L M N O P z
 go_wp2_with fail
 refine bodyPost_ret (v:=.agg #[.int .i64 1,.int .i64 v,.string ⟨#[]⟩,.slice none 0 0,.slice none 0 0]) (by simp[results,results54,go_sem,r0,r1,r2,r3,r4]) rfl ?_
 exact U.out
def qbT(code:Int)(a:Nat):List PanicEntry:=[{ v:=.iface 61 (.agg #[.int .i64 code,.int .i64 (a:Int)]),recovered:=false }]
structure Rdr(w:World)(R bk:Nat)(wv:Value)(ws:List ByteArray)(a c:Nat):Prop where
 box:w.heap[R]?=some (.cells #[.pointer (some ⟨bk,0,none⟩),wv,.int .i64 (a:Int),.int .i64 (c:Int)] 84 (0,0))
 words:StrsIn (fun b=>b<w.heap.size/\b≠R) w ws wv
 book:Book w bk
 nk:bk≠R
 short:∀s,s∈ws->s.size<=3000
 few:ws.length<=3000
theorem Rdr.lt{w:World}{R bk:Nat}{wv:Value}{ws:List ByteArray}{a c:Nat}(h:Rdr w R bk wv ws a c):R<w.heap.size:=(Array.getElem?_eq_some_iff.1 h.box).1
theorem Rdr.keep {w w':World} {R bk:Nat} {wv:Value} {ws:List ByteArray} {a c a' c':Nat} (h:Rdr w R bk wv ws a c) (hn:Near R w w')
  (hb:w'.heap[R]?=some (.cells #[.pointer (some ⟨bk,0,none⟩),wv,.int .i64 (a':Int),.int .i64 (c':Int)] 84 (0,0))):Rdr w' R bk wv ws a' c':=
 ⟨hb,h.words.keep (fun b hb=>hn.block b hb.1 hb.2) (fun _ hb=>⟨Nat.lt_of_lt_of_le hb.1 hn.size,hb.2⟩),h.book.keep (hn.block bk h.book.lt h.nk),h.nk,h.short,h.few⟩
theorem Rdr.same{w w':World}{R bk:Nat}{wv:Value}{ws:List ByteArray}{a c:Nat}(h:Rdr w R bk wv ws a c)(hb:Below w.heap.size w w'):Rdr w' R bk wv ws a c:=h.keep (Near.of_below hb) ((hb.block R h.lt).trans h.box)
theorem Rdr.drewN{w:World}{R bk:Nat}{wv:Value}{ws:List ByteArray}{a c:Nat}(h:Rdr w R bk wv ws a c)(n:Nat):Rdr (w.drewN n) R bk wv ws a c:=⟨h.box,h.words,h.book,h.nk,h.short,h.few⟩
theorem Rdr.cells {w:World} {R bk:Nat} {wv:Value} {ws:List ByteArray} {a c:Nat} (h:Rdr w R bk wv ws a c) :
  (w.cell? ⟨R,0,none⟩=some (.pointer (some ⟨bk,0,none⟩))/\w.cell? ⟨R,1,none⟩=some wv/\w.cell? ⟨R,2,none⟩=some (.int .i64 (a:Int))/\w.cell? ⟨R,3,none⟩=some (.int .i64 (c:Int)))/\w.frozen? ⟨R,2,none⟩=false/\w.frozen? ⟨R,3,none⟩=false:=by
 have b:=h.box
 refine⟨⟨?_,?_,?_,?_⟩,?_,?_⟩<;>simp[World.cell?,World.frozen?,b]
theorem Rdr.setAt{w:World}{R bk:Nat}{wv:Value}{ws:List ByteArray}{a c:Nat}(h:Rdr w R bk wv ws a c)(j:Nat):Rdr (w.setCell ⟨R,2,none⟩ (.int .i64 (j:Int))) R bk wv ws j c:=
 h.keep (Near.set R 2 w _) (by simp[World.setCell,Array.getElem?_modify,h.box])
theorem Rdr.setNo{w:World}{R bk:Nat}{wv:Value}{ws:List ByteArray}{a c:Nat}(h:Rdr w R bk wv ws a c)(j:Nat):Rdr (w.setCell ⟨R,3,none⟩ (.int .i64 (j:Int))) R bk wv ws a j:=
 h.keep (Near.set R 3 w _) (by simp[World.setCell,Array.getElem?_modify,h.box])
theorem qaJ{R:Nat}{w w':World}(h:Near R w w')(n:Nat):Near R w (w'.drewN n):=⟨h.os,h.tape,h.output,h.size,h.block⟩
theorem qbK(R:Nat)(code:Int)(w:World):Calls prog 52 #[.pointer (some ⟨R,0,none⟩),.bool true,.int .i64 code] w fun e w'=>e=.returned (.tuple #[])/\w'=w:=by
 go_enter func52,ntmps52
 go_wp2
 go_end0
 exact⟨rfl,rfl⟩
theorem qcE{w:World}{R bk:Nat}{wv:Value}{ws:List ByteArray}{a c:Nat}(h:Rdr w R bk wv ws a c)(code:Int):Calls prog 52 #[.pointer (some ⟨R,0,none⟩),.bool false,.int .i64 code] w fun e w'=>e=.panicked (qbT code a)/\w'=w:=by
 obtain⟨⟨c0,c1,c2,c3⟩,-⟩:=h.cells
 clear h
 go_enter func52,ntmps52
 go_wp2_with fail
 exact⟨rfl,rfl,rfl⟩
theorem qgC {w:World} {R bk:Nat} {wv:Value} {ws:List ByteArray} {a c:Nat} (h:Rdr w R bk wv ws a c) (ha:a<ws.length) :
  Calls prog 66 #[.pointer (some ⟨R,0,none⟩)] w fun e w'=>e=.returned (.string ws[a])/\∃n,w'=w.drewN n:=by
 obtain⟨⟨c0,c1,c2,c3⟩,-⟩:=h.cells
 obtain⟨q,cap,rfl,i,-,k⟩:=h.words
 obtain⟨b,p,rfl,-,l⟩:=k (by intro e;rw[e]at ha;simp at ha)
 have m:=l a ha
 have d:=h.few
 generalize ws[a]=s at *
 obtain⟨g,f⟩:∃g,ws.length=g:=⟨_,rfl⟩
 rw[f]at ha c1 d
 have o:(a:Int)<(g:Int):=by omega
 have j:decide ((a:Int)<(g:Int))=true:=decide_eq_true (by omega)
 clear h f l k i
 go_enter func66,ntmps66
 go_wp2_with fail
 go_quiet (first|(go_at_call 52;refine Calls.quiet_of_same (qbK _ _ _)))
 go_wp2_with fail
 go_quiet (fail)
 go_wp2_with fail
 go_ret
 exact⟨rfl,_,World.drewN_drewN ..⟩
theorem qjB {w:World} {R bk:Nat} {wv:Value} {ws:List ByteArray} {a c:Nat} (h:Rdr w R bk wv ws a c) (ha:¬ a<ws.length) :
  Calls prog 66 #[.pointer (some ⟨R,0,none⟩)] w fun e w'=>e=.panicked (qbT 2 a)/\∃n,w'=w.drewN n:=by
 obtain⟨⟨c0,c1,c2,c3⟩,-⟩:=h.cells
 obtain⟨o,cap,rfl,g,-,m⟩:=h.words
 have b:=h.few
 have j:=Lib.hid (qcE (h.drewN 1) 2)
 obtain⟨f,d⟩:∃f,ws.length=f:=⟨_,rfl⟩
 rw[d]at ha c1 b
 have k:¬(a:Int)<(f:Int):=by omega
 have i:decide ((a:Int)<(f:Int))=false:=decide_eq_false (by omega)
 have l:Hid (∃n,w.drew=w.drewN n):=⟨1,rfl⟩
 clear h d m g
 go_enter func66,ntmps66
 go_wp2_with fail
 go_region_dies
 all_goals (go_at_call 52;refine j.out.mono ?_;rintro e w' ⟨rfl,rfl⟩;exact⟨rfl,rfl,l.out⟩)
theorem spL_le:∀(n:Nat)(t:T n)(d:Int),goodT n t d=true->spL n t+4<=4*cntT n t:=by
 intro n
 induction n with
 | zero=>intro t d h;simp[goodT]at h
 | succ n ih=>
  intro t d h
  have i:∀c:List (T n),(∀k,k∈c->goodT n k (d+1)=true)->c.length+sumL (fun k=>3+spL n k) c<=4*sumL (fun k=>cntT n k) c:=by
   intro c
   induction c with
   | nil=>intro _;simp[sumL]
   | cons k r ihk=>
    intro f
    have o:=ih k (d+1) (f k (List.mem_cons_self ..))
    have j:=ihk (fun x hx=>f x (List.mem_cons_of_mem _ hx))
    simp only[sumL,List.length_cons]at j ⊢
    omega
  have l:cntT (n+1) t=1+sumL (fun k=>cntT n k) (Nd.kids t):=rfl
  have m:spL (n+1) t=(Nd.names t).length+sumL (fun k=>3+spL n k) (Nd.kids t):=rfl
  rw[l,m]
  have f:=List.all_eq_true.1 (by simp only[goodT,Bool.and_eq_true]at h;exact h.2)
  have p:=i (Nd.kids t) f
  have q:(Nd.names t).length<=(Nd.kids t).length:=by
   rcases qbR h with ⟨k,s,b,e⟩|⟨y,g,b,e⟩|⟨b,e⟩|⟨b,e⟩|⟨c,b,g,e⟩|⟨u,c,b,g,v,w,e⟩|⟨b,e⟩|⟨y,b,g,e⟩
   case inr.inr.inr.inr.inr.inl=>rw[b];exact Nat.le_of_eq g
   all_goals (rw[b];exact Nat.zero_le _)
  omega
theorem qwR{x l r:List UInt8}(h:eatP x l=some r):l.length=x.length+r.length:=by
 have:=congrArg List.length (qbP h)
 simpa using this
theorem xdS {α:Type} (f:List UInt8->Option (α × List UInt8)) (P:α->Prop) (N:Nat) (hf:∀ s t r,s.length<=N->f s=some (t,r)->P t/\r.length<s.length) :
  ∀(fuel:Nat)(acc:List α)(s:List UInt8)(l:List α)(r:List UInt8),s.length<=N->(∀x,x∈acc->P x)->listQ f fuel acc s=some (l,r)->(∀x,x∈l->P x)/\l.length<=acc.length+s.length:=by
 intro fuel
 induction fuel with
 | zero=>intro acc s l r _ _ h;simp[listQ]at h
 | succ k ih=>
  intro acc s l r j a h
  rw[listQ]at h
  cases h1:eatP [93] s with
  | some r1=>
   rw[h1]at h
   simp only[Option.some.injEq,Prod.mk.injEq]at h
   obtain⟨rfl,rfl⟩:=h
   exact⟨a,by omega⟩
  | none=>
   rw[h1]at h
   simp only at h
   cases h2:(if acc.length=0 then some s else eatP [44] s) with
   | none=>rw[h2]at h;cases h
   | some s1=>
    rw[h2]at h
    simp only at h
    have d:s1.length<=s.length:=by
     by_cases h0:acc.length=0
     ·rw[if_pos h0]at h2;cases h2;exact Nat.le_refl _
     ·rw[if_neg h0]at h2;have:=qwR h2;simp at this;omega
    cases h3:f s1 with
    | none=>rw[h3]at h;cases h
    | some x=>
     obtain⟨t,c⟩:=x
     rw[h3]at h
     simp only at h
     obtain⟨e,m⟩:=hf s1 t c (by omega) h3
     obtain⟨g,i⟩:=ih (acc++[t]) c l r (by omega) (fun x b=>by
      rcases List.mem_append.1 b with b|b
      ·exact a x b
      ·rw[List.mem_singleton]at b;subst b;exact e) h
     exact⟨g,by rw[List.length_append,List.length_singleton]at i;omega⟩
theorem xdT {α:Type} (f:List UInt8->Option (α × List UInt8)) (P:α->Prop) (N:Nat) (hf:∀ s t r,s.length<=N->f s=some (t,r)->P t/\r.length<s.length) :
  ∀(fuel:Nat)(ns:List ByteArray)(acc:List α)(s:List UInt8)(nl:List ByteArray)(l:List α)(r:List UInt8),s.length<=N->(∀x,x∈acc->P x)->(∀x,x∈ns->x.size<=N)->formQ f fuel ns acc s=some (nl,l,r) ->
   (∀x,x∈l->P x)/\(∀x,x∈nl->x.size<=N)/\l.length<=acc.length+s.length/\nl.length<=ns.length+s.length:=by
 intro fuel
 induction fuel with
 | zero=>intro ns acc s nl l r _ _ _ h;simp[formQ]at h
 | succ k ih=>
  intro ns acc s nl l r v b c h
  rw[formQ]at h
  cases h1:eatP [125] s with
  | some r1=>
   rw[h1]at h
   simp only[Option.some.injEq,Prod.mk.injEq]at h
   obtain⟨rfl,rfl,rfl⟩:=h
   exact⟨b,c,by omega,by omega⟩
  | none=>
   rw[h1]at h
   simp only at h
   cases h2:(if ns.length=0 then some s else eatP [44] s) with
   | none=>rw[h2]at h;cases h
   | some s1=>
    rw[h2]at h
    simp only at h
    have g:s1.length<=s.length:=by
     by_cases h0:ns.length=0
     ·rw[if_pos h0]at h2;cases h2;exact Nat.le_refl _
     ·rw[if_neg h0]at h2;have:=qwR h2;simp at this;omega
    cases hu:qbQ 58 s1 with
    | none=>rw[hu]at h;cases h
    | some x=>
    obtain⟨w,y⟩:=x
    rw[hu]at h
    simp only at h
    obtain⟨d,j,m,-⟩:=qdJ hu
    subst j
    have i:=congrArg List.length m
    rw[List.length_append,List.length_cons]at i
    simp only[List.drop_succ_cons,List.drop_zero]at h
    cases h3:f d with
    | none=>rw[h3]at h;cases h
    | some x=>
     obtain⟨t,e⟩:=x
     rw[h3]at h
     simp only at h
     obtain⟨n,z⟩:=hf d t e (by omega) h3
     obtain⟨o,p,q,u⟩:=ih (ns++[bs w]) (acc++[t]) e nl l r (by omega) (fun x a=>by
      rcases List.mem_append.1 a with a|a
      ·exact b x a
      ·rw[List.mem_singleton]at a;subst a;exact n) (fun x a=>by
      rcases List.mem_append.1 a with a|a
      ·exact c x a
      ·rw[List.mem_singleton]at a;subst a;rw[qaL];omega) h
     exact⟨o,p,by rw[List.length_append,List.length_singleton]at q;omega,by rw[List.length_append,List.length_singleton]at u;omega⟩
theorem qeH {n:Nat} {so nu:Int} {tx:ByteArray} {na:List ByteArray} {ki:List (T n)} (h1:so=1->tx=ByteArray.empty/\na=[]/\ki=[]) (h2:so=2->nu=0/\na=[]/\ki=[]) (h3:so=3->tx=ByteArray.empty/\na=[]/\ki=[]/\(nu=0∨nu=1))
  (h4:so=4->nu=0/\tx=ByteArray.empty/\na=[]) (h5:so=5->nu=0/\tx=ByteArray.empty) (h6:so=6->nu=0/\tx=ByteArray.empty/\na=[]) (h7 : -999999999<=nu) (h8:nu<=999999999) (h9:tx.size<=10000) (h10:na.length<=10000)
  (h11:∀s,s∈na->s.size<=10000) (h12:ki.length<=10000) (h13:∀k,k∈ki->qeO n k):qeO (n+1) (⟨so,nu,tx,na,ki⟩:Nd (T n)):=⟨h1,h2,h3,h4,h5,h6,h7,h8,h9,h10,h11,h12,h13⟩
theorem qsQ:∀(n:Nat)(s:List UInt8)(t:T n)(r:List UInt8),s.length<=10000->qaH n s=some (t,r)->qeO n t:=by
 intro n
 induction n with
 | zero=>intro s t r _ h;simp[qaH]at h
 | succ n ih=>
  intro s t r u h
  have a:ByteArray.empty.size<=10000:=by decide
  have g:∀s t r,s.length<=10000->qaH n s=some (t,r)->qeO n t/\r.length<s.length:=fun s t r hs h=>⟨ih s t r hs h,qnI n s t r h⟩
  have c:(s.drop 1).length<=10000:=by simp;omega
  rw[qaH]at h
  split at h
  ·cases h1:numOf (numW s) with
   | none=>rw[h1]at h;cases h
   | some m=>
    rw[h1]at h;cases h
    have i:=(qdN h1).1
    exact qeH (fun _=>⟨rfl,rfl,rfl⟩) (fun e=>by cases e) (fun e=>by cases e) (fun e=>by cases e) (fun e=>by cases e) (fun e=>by cases e) i.1 i.2 a (by simp) (fun s h=>by cases h) (by simp) (fun k h=>by cases h)
  split at h
  ·cases h1:qbQ 34 (s.drop 1) with
   | none=>rw[h1]at h;cases h
   | some x=>
    obtain⟨w,b⟩:=x
    rw[h1]at h;cases h
    obtain⟨v,y,o,-⟩:=qdJ h1
    have j:=congrArg List.length o
    rw[List.length_append]at j
    exact qeH (fun e=>by cases e) (fun _=>⟨rfl,rfl,rfl⟩) (fun e=>by cases e) (fun e=>by cases e) (fun e=>by cases e) (fun e=>by cases e) (by omega) (by omega) (by rw[qaL];omega) (by simp) (fun s h=>by cases h) (by simp) (fun k h=>by cases h)
  split at h
  ·cases h1:eatP [121,101,115] s with
   | some b=>
    rw[h1]at h;cases h
    exact qeH (fun e=>by cases e) (fun e=>by cases e) (fun _=>⟨rfl,rfl,rfl,.inr rfl⟩) (fun e=>by cases e) (fun e=>by cases e) (fun e=>by cases e) (by omega) (by omega) a (by simp) (fun s h=>by cases h) (by simp) (fun k h=>by cases h)
   | none=>
    rw[h1]at h
    simp only at h
    cases h2:eatP [110,111] s with
    | some b=>
     rw[h2]at h;cases h
     exact qeH (fun e=>by cases e) (fun e=>by cases e) (fun _=>⟨rfl,rfl,rfl,.inl rfl⟩) (fun e=>by cases e) (fun e=>by cases e) (fun e=>by cases e) (by omega) (by omega) a (by simp) (fun s h=>by cases h) (by simp) (fun k h=>by cases h)
    | none=>rw[h2]at h;cases h
  split at h
  ·cases h1:listQ (qaH n) ((s.drop 1).length+1) [] (s.drop 1) with
   | none=>rw[h1]at h;cases h
   | some x=>
    obtain⟨l,b⟩:=x
    rw[h1]at h;cases h
    obtain⟨d,f⟩:=xdS (qaH n) (qeO n) 10000 g _ _ _ _ _ c (fun x hx=>by cases hx) h1
    exact qeH (fun e=>by cases e) (fun e=>by cases e) (fun e=>by cases e) (fun _=>⟨rfl,rfl,rfl⟩) (fun e=>by cases e) (fun e=>by cases e) (by omega) (by omega) a (by simp) (fun s h=>by cases h) (by simp only[List.length_nil]at f;omega) d
  split at h
  ·cases h1:formQ (qaH n) ((s.drop 1).length+1) [] [] (s.drop 1) with
   | none=>rw[h1]at h;cases h
   | some x=>
    obtain⟨z,l,b⟩:=x
    rw[h1]at h;cases h
    obtain⟨d,f,p,q⟩:=xdT (qaH n) (qeO n) 10000 g _ _ _ _ _ _ _ c (fun x hx=>by cases hx) (fun x hx=>by cases hx) h1
    exact qeH (fun e=>by cases e) (fun e=>by cases e) (fun e=>by cases e) (fun e=>by cases e) (fun _=>⟨rfl,rfl⟩) (fun e=>by cases e) (by omega) (by omega) a (by simp only[List.length_nil]at q;omega) f (by simp only[List.length_nil]at p;omega) d
  split at h
  ·cases h
   exact qeH (fun e=>by cases e) (fun e=>by cases e) (fun e=>by cases e) (fun e=>by cases e) (fun e=>by cases e) (fun _=>⟨rfl,rfl,rfl⟩) (by omega) (by omega) a (by simp) (fun s h=>by cases h) (by simp) (fun k h=>by cases h)
  split at h
  ·cases h1:qaH n (s.drop 1) with
   | none=>rw[h1]at h;cases h
   | some x=>
    obtain⟨A,b⟩:=x
    rw[h1]at h;cases h
    have:=ih _ _ _ c h1
    exact qeH (fun e=>by cases e) (fun e=>by cases e) (fun e=>by cases e) (fun e=>by cases e) (fun e=>by cases e) (fun _=>⟨rfl,rfl,rfl⟩) (by omega) (by omega) a (by simp) (fun s h=>by cases h) (by simp) (fun k h=>by rw[List.mem_singleton]at h;subst h;exact this)
  ·cases h
def KidsOwnN(P:Nat->Prop)(w:World)(n:Nat)(ks:List (T n))(xs:List Value)(Ps:List (List Spot)):Prop:=
 Own P Ps.flatten/\∀j (h:j<ks.length) (hp:j<Ps.length),∃c0 c1 c2 c3 c4 L3 L4,(xs[j*5]?=some c0/\xs[j*5+1]?=some c1/\xs[j*5+2]?=some c2/\xs[j*5+3]?=some c3/\xs[j*5+4]?=some c4)/\Ps[j]=L3++L4 /\
  NodeIn P w n ks[j] c0 c1 c2 c3 c4/\SpN w c3 L3/\SpR w (n-1) c4 L4
theorem qsR {n:Nat} {w:World} {M:Nat} {e:TypeId} {v:Value} {l:List (T n)} {xs:List Value} {Ps:List (List Spot)} {P:Nat->Prop} (h:w.ownsRow M e 5 v l.length xs) (hl:l.length<=20000) (hlp:Ps.length=l.length) (hk:KidsOwnN P w n l xs Ps) (hP:∀ b,P b->v.ownBlock≠some b) :
  ∃L,SpR w n v L/\Own (fun b=>P b∨v.ownBlock=some b) L/\L.length=3*l.length+Ps.flatten.length:=by
 rcases id h.2 with ⟨rfl,C⟩|⟨g,cap,K,rfl,N,O,Q,R,S,F⟩
 ·have:Ps=[]:=List.eq_nil_of_length_eq_zero (by omega)
  subst this
  exact⟨[],SpR.no w n,Own.nil _,by simp[C]⟩
 ·have D:∀ (i:Nat),i<l.length->n≠0:=by
   intro i c U
   subst U
   obtain⟨c0,c1,c2,c3,c4,L3,L4,-,-,G,-⟩:=hk.2 i c (by omega)
   exact G.elim
  have r:∀i (c:i<l.length),((List.range l.length).map (fun i=>sp5 g (0+i*5)++Ps.getD i []))[i]'(by simpa using c)=sp5 g (0+i*5)++Ps[i]'(by omega):=by
   intro i c
   have:i<Ps.length:=by omega
   simp[List.getD,this]
  have t:Own (fun b=>P b∨(Value.slice (some ⟨g,0,none⟩) l.length cap).ownBlock=some b) ((List.range l.length).map (fun i=>sp5 g (0+i*5)++Ps.getD i [])).flatten:=by
   have y:=List.pairwise_flatten.1 hk.1.2
   have k:∀i s,s∈Ps.getD i []->P s.b:=fun i s hs=>by
    by_cases c:i<Ps.length
    ·rw[List.getD_eq_getElem?_getD,List.getElem?_eq_getElem c,Option.getD_some]at hs
     exact hk.1.1 s (List.mem_flatten.2 ⟨_,List.getElem_mem c,hs⟩)
    ·rw[List.getD_eq_getElem?_getD,List.getElem?_eq_none (by omega)]at hs;cases hs
   have q:∀o (s:Spot),s∈sp5 g o->s.b=g/\o<=s.o/\s.o<=o+2:=fun o s hs=>by
    simp only[sp5,List.mem_cons,List.not_mem_nil,or_false]at hs
    rcases hs with rfl|rfl|rfl<;>exact⟨rfl,by simp,by simp⟩
   have p:∀(s:Spot),P s.b->s.b≠g:=fun s hs e=>hP g (by rw[<- e];exact hs) rfl
   refine⟨fun s hs=>?_,List.pairwise_flatten.2 ⟨fun x H=>?_,?_⟩⟩
   ·obtain⟨x,H,I⟩:=List.mem_flatten.1 hs
    obtain⟨i,c,rfl⟩:=List.mem_map.1 H
    rcases List.mem_append.1 I with d|d
    ·right;rw[(q _ s d).1];rfl
    ·left;exact k i s d
   ·obtain⟨i,c,rfl⟩:=List.mem_map.1 H
    refine List.pairwise_append.2 ⟨?_,?_,fun a ha b hb=>at_ne fun e=>p b (k i b hb) (by rw[<- e,(q _ a ha).1])⟩
    ·simp[sp5,Spot.at]
    ·by_cases c:i<Ps.length
     ·rw[List.getD_eq_getElem?_getD,List.getElem?_eq_getElem c,Option.getD_some]
      exact y.1 _ (List.getElem_mem c)
     ·rw[List.getD_eq_getElem?_getD,List.getElem?_eq_none (by omega)];exact List.Pairwise.nil
   ·refine List.pairwise_map.2 (List.Pairwise.imp (fun {i j} hij a ha b hb=>?_) List.pairwise_lt_range)
    rcases List.mem_append.1 ha with d|d
    ·rcases List.mem_append.1 hb with f|f
     ·intro e
      have e':a.o=b.o:=by simpa [Spot.at] using congrArg Addr.off e
      have q1:=(q _ a d).2.2
      have q2:=(q _ b f).2.1
      omega
     ·exact at_ne fun e=>p b (k j b f) (by rw[<- e,(q _ a d).1])
    ·rcases List.mem_append.1 hb with f|f
     ·exact at_ne fun e=>p a (k i a d) (by rw[e,(q _ b f).1])
     ·by_cases hj:j<Ps.length
      ·rw[List.getD_eq_getElem?_getD,List.getElem?_eq_getElem hj,Option.getD_some]at f
       rw[List.getD_eq_getElem?_getD,List.getElem?_eq_getElem (by omega:i<Ps.length),Option.getD_some]at d
       exact (List.pairwise_iff_getElem.1 y.2) i j (by omega) hj hij a d b f
      ·rw[List.getD_eq_getElem?_getD,List.getElem?_eq_none (by omega)]at f;cases f
  have z:((List.range l.length).map (fun i=>sp5 g (0+i*5)++Ps.getD i [])).flatten.length=3*l.length+Ps.flatten.length:=by
   have e:Ps=(List.range l.length).map (fun i=>Ps.getD i []):=by
    refine List.ext_getElem (by simp[hlp]) fun i d f=>?_
    simp[List.getD,d]
   conv=>rhs;rw[e]
   generalize l.length=m
   induction m with
   | zero=>rfl
   | succ m ih=>
    rw[List.range_succ,List.map_append,List.flatten_append,List.length_append,ih,List.map_append,List.flatten_append,List.length_append]
    simp[sp5];omega
  refine⟨_,?_,t,z⟩
  cases n with
  | zero=>
   have C:l.length=0:=Nat.eq_zero_of_not_pos fun hpos=>D 0 hpos rfl
   exact⟨some ⟨g,0,none⟩,cap,by rw[C],by rw[C];rfl⟩
  | succ m=>
   refine⟨some ⟨g,0,none⟩,cap,_,by rw[List.length_map,List.length_range],by simp[maxLen];omega,rfl,fun i c=>?_⟩
   have A:i<l.length:=by simpa using c
   obtain⟨c0,c1,c2,c3,c4,L3,L4,⟨V,W,X,Y,Z⟩,J,G,h3,h4⟩:=hk.2 i A (by omega)
   have B:∀j u,xs[j]?=some u->w.cell? ⟨g,0+j,none⟩=some u:=fun j u hu=>by
    have:=h.cells (g:=g) rfl j u hu
    rwa [Addr.add_lit]at this
   obtain⟨rfl,rfl,rfl,-⟩:=G
   refine⟨g,0,c3,c4,L3,L4,rfl,by rw[r i A,J],fun s hs=>?_,B _ _ Y,B _ _ Z,h3,h4⟩
   have E:∀o,w.frozen? ⟨g,o,none⟩=false:=fun o=>by simp[World.frozen?,O]
   simp only[sp5,List.mem_cons,List.not_mem_nil,or_false]at hs
   rcases hs with rfl|rfl|rfl
   ·exact⟨⟨_,B _ _ V⟩,E _⟩
   ·exact⟨⟨_,B _ _ W⟩,E _⟩
   ·exact⟨⟨_,B _ _ X⟩,E _⟩
def OwnN(P:Nat->Prop)(w:World)(n:Nat)(t:T n)(c3 c4:Value):Prop:=∃L3 L4,SpN w c3 L3/\SpR w (n-1) c4 L4/\Own P (L3++L4)/\(L3++L4).length=spL n t
theorem OwnN.keep{P P':Nat->Prop}{w w':World}{n:Nat}{t:T n}{c3 c4:Value}(h:OwnN P w n t c3 c4)(hb:∀b,P b->w'.heap[b]?=w.heap[b]?)(hP:∀b,P b->P' b):OwnN P' w' n t c3 c4:=by
 obtain⟨L3,L4,c,d,a,e⟩:=h
 exact⟨L3,L4,c.same (fun s hs=>hb _ (a.1 s (List.mem_append_left _ hs))),d.same (fun s hs=>hb _ (a.1 s (List.mem_append_right _ hs))),a.mono hP,e⟩
theorem KidsOwnN.keep{P P':Nat->Prop}{w w':World}{n:Nat}{ks:List (T n)}{xs:List Value}{Ps:List (List Spot)}(h:KidsOwnN P w n ks xs Ps)(hb:∀b,P b->w'.heap[b]?=w.heap[b]?)(hP:∀b,P b->P' b):KidsOwnN P' w' n ks xs Ps:=by
 refine⟨h.1.mono hP,fun j hj hp=>?_⟩
 obtain⟨c0,c1,c2,c3,c4,L3,L4,d,a,e,f,g⟩:=h.2 j hj hp
 have c:∀s,s∈L3++L4->w'.heap[s.b]?=w.heap[s.b]?:=fun s hs=>hb _ (h.1.1 s (List.mem_flatten.2 ⟨_,List.getElem_mem hp,by rw[a];exact hs⟩))
 exact⟨c0,c1,c2,c3,c4,L3,L4,d,a,e.keep (fun b h=>hb b h) hP,f.same (fun s hs=>c s (List.mem_append_left _ hs)),g.same (fun s hs=>c s (List.mem_append_right _ hs))⟩
theorem KidsOwnN.snoc {P Q:Nat->Prop} {w:World} {n:Nat} {ks:List (T n)} {xs:List Value} {Ps:List (List Spot)} {t:T n} {c0 c1 c2 c3 c4:Value} {L3 L4:List Spot} (h:KidsOwnN P w n ks xs Ps) (hpl:Ps.length=ks.length) (hxl:xs.length=ks.length*5) (ht:NodeIn Q w n t c0 c1 c2 c3 c4) (h3:SpN w c3 L3) (h4:SpR w (n - 1) c4 L4) (ho:Own Q (L3++L4)) (hd:∀ b,P b->Q b->False) :
  KidsOwnN (fun b=>P b∨Q b) w n (ks++[t]) (xs++[c0,c1,c2,c3,c4]) (Ps++[L3++L4]):=by
 refine⟨?_,fun j hj hp=>?_⟩
 ·rw[List.flatten_append,List.flatten_singleton]
  exact h.1.app ho (fun b hb=>.inl hb) (fun b hb=>.inr hb) hd
 ·by_cases hjk:j<ks.length
  ·have a:j<Ps.length:=by omega
   obtain⟨i,k,l,m,o,p,q,r,d,e,f,g⟩:=h.2 j hjk a
   refine⟨i,k,l,m,o,p,q,?_,by rw[List.getElem_append_left a];exact d,?_,f,g⟩
   ·rw[List.getElem?_append_left (by omega),List.getElem?_append_left (by omega),List.getElem?_append_left (by omega),List.getElem?_append_left (by omega),List.getElem?_append_left (by omega)]
    exact r
   ·rw[List.getElem_append_left hjk]
    exact e.keep (fun _ _=>rfl) (fun b hb=>.inl hb)
  ·have c:j=ks.length:=by
    rw[List.length_append,List.length_singleton]at hj;omega
   subst c
   refine⟨c0,c1,c2,c3,c4,L3,L4,?_,by simp[<- hpl],?_,h3,h4⟩
   ·rw[List.getElem?_append_right (by omega),List.getElem?_append_right (by omega),List.getElem?_append_right (by omega),List.getElem?_append_right (by omega),List.getElem?_append_right (by omega),hxl,
     Nat.sub_self,show ks.length*5+1-ks.length*5=1 by omega,show ks.length*5+2-ks.length*5=2 by omega,show ks.length*5+3-ks.length*5=3 by omega,show ks.length*5+4-ks.length*5=4 by omega]
    exact⟨rfl,rfl,rfl,rfl,rfl⟩
   ·rw[List.getElem_append_right (Nat.le_refl _)]
    simp only[Nat.sub_self,List.getElem_cons_zero]
    exact ht.keep (fun _ _=>rfl) (fun b hb=>.inr hb)
theorem qyX{α:Type}(f:α->Nat)(l:List α)(x:α):sumL f (l++[x])=sumL f l+f x:=by
 induction l with
 | nil=>simp[sumL]
 | cons a r ih=>simp only[List.cons_append,sumL,ih];omega
structure ManyNP(R X Y n:Nat)(w wr:World)(so nm:Int)(tx:ByteArray)(ns:List ByteArray)(ks:List (T n))(nv kv:Value):Prop extends ManyN R X Y n w wr so nm tx ns ks nv kv where
 own:∃xs Ps,wr.ownsRow (Y+1) 25 5 kv ks.length xs/\Ps.length=ks.length/\KidsOwnN (Far (Y+1) nv kv wr.heap.size) wr n ks xs Ps/\Ps.flatten.length+3*ks.length=sumL (fun x=>3+spL n x) ks
theorem ManyNP.start{R X Y n:Nat}{w wr:World}{so nm:Int}{tx:ByteArray}(h:ManyN R X Y n w wr so nm tx [] [] (.slice none 0 0) (.slice none 0 0)):ManyNP R X Y n w wr so nm tx [] [] (.slice none 0 0) (.slice none 0 0):=
 ⟨h,[],[],⟨rfl,.inl ⟨rfl,rfl⟩⟩,rfl,⟨Own.nil _,fun _ hj=>absurd hj (Nat.not_lt_zero _)⟩,rfl⟩
theorem ManyNP.keep{R X Y n:Nat}{w wr W:World}{so nm:Int}{tx:ByteArray}{ns:List ByteArray}{ks:List (T n)}{nv kv:Value}(h:ManyNP R X Y n w wr so nm tx ns ks nv kv)(hRX:R<X)(hn:Near R wr W):ManyNP R X Y n w W so nm tx ns ks nv kv:=by
 obtain⟨xs,d,a,e,f,i⟩:=h.own
 have c:=h.xy
 refine⟨h.toManyN.keep hRX hn,xs,d,qaK a fun g hg=>?_,e,f.keep (fun b hb=>?_) (fun b hb=>⟨hb.1,Nat.lt_of_lt_of_le hb.2.1 hn.size,hb.2.2⟩),i⟩
 ·have:=qaF a g hg
  exact hn.block g this.2 (by omega)
 ·have:=hb.1
  exact hn.block b hb.2.1 (by omega)
theorem ManyNP.name {R X Y n:Nat} {w W Wa W2:World} {so nm:Int} {tx:ByteArray} {ns:List ByteArray} {ks:List (T n)} {nv kv:Value} {x:ByteArray} {one:Obj} {g cap:Nat} (h:ManyNP R X Y n w W so nm tx ns ks nv kv) (hw:w.heap.size<=X)
  (ha:Wa.heap=W.heap.push one) (ho:Wa.os=W.os/\Wa.tape=W.tape/\Wa.output=W.output) (hx:x.size<=10000)
  (hown:W2.ownsRow (Y+1) 9 1 (.slice (some ⟨g,0,none⟩) (ns.length+1) cap) (ns.length+1) (ns.map .string++[.string x])) (hgrow:Wa.grownBy W2 nv.ownBlock) (hat:nv.ownBlock=some g∨g=W.heap.size+1) :
  ManyNP R X Y n w (W2.setCell ⟨X,3,none⟩ (.slice (some ⟨g,0,none⟩) (ns.length+1) cap)) so nm tx (ns++[x]) ks (.slice (some ⟨g,0,none⟩) (ns.length+1) cap) kv:=by
 have k:=h.toManyN.name hw ha ho hx hown hgrow hat
 have s:=h.lt
 have c:=h.xy
 have t:W2.heap.size ≥ W.heap.size+1:=by have:=hgrow.size;rw[ha]at this;simp at this;omega
 have l:=qaF h.names
 have q:∀b,b<W.heap.size->nv.ownBlock≠some b->W2.heap[b]?=W.heap[b]?:=fun b hb hne=>by
  rw[hgrow.block b (by rw[ha];simp;omega) (fun e=>hne e.symm),ha,Array.getElem?_push_lt hb,Array.getElem?_eq_getElem hb]
 have j:∀b,b≠X->(W2.setCell ⟨X,3,none⟩ (.slice (some ⟨g,0,none⟩) (ns.length+1) cap)).heap[b]?=W2.heap[b]?:=fun b hb=>Below.heap_setCell _ _ _ _ hb
 have d:(W2.setCell ⟨X,3,none⟩ (.slice (some ⟨g,0,none⟩) (ns.length+1) cap)).heap.size=W2.heap.size:=by simp
 obtain⟨xs,m,a,o,p,r⟩:=h.own
 have c:=h.xy
 have f:=qaF a
 refine⟨k,xs,m,qaK a fun g' hg'=>?_,o,p.keep (fun b hb=>?_) (fun b hb=>?_),r⟩
 ·have:=f g' hg'
  rw[j g' (by omega),q g' this.2 (fun e=>h.apart g' e hg')]
 ·have i:=hb.1
  rw[j b (by omega),q b hb.2.1 hb.2.2.1]
 ·refine⟨hb.1,by rw[d];have:=hb.2.1;omega,?_,hb.2.2.2⟩
  intro e
  have e:g=b:=by simpa [Value.ownBlock] using e
  rcases hat with i|i
  ·exact hb.2.2.1 (by rw[i,e])
  ·have:=hb.2.1;omega
theorem ManyNP.owns {R X Y n:Nat} {w wr:World} {so nm:Int} {tx:ByteArray} {ns:List ByteArray} {ks:List (T n)} {nv kv:Value} (h:ManyNP R X Y n w wr so nm tx ns ks nv kv) (hns:ns.length<=20000) (hks:ks.length<=20000) :
  OwnN (fun b=>X<=b/\b<wr.heap.size) wr (n+1) (⟨so,nm,tx,ns,ks⟩:Nd (T n)) nv kv:=by
 obtain⟨xs,s,c,i,j,t⟩:=h.own
 have g:=h.xy
 obtain⟨L3,l,m,o⟩:=qhY h.names hns
 obtain⟨L4,p,q,r⟩:=qsR c hks i j (fun b a=>a.2.2.2)
 have e:=qaF h.names
 have f:=qaF c
 refine⟨L3,L4,l,p,o.app q (fun b a=>?_) (fun b a=>?_) (fun b h1 d=>?_),?_⟩
 ·have:=e b a
  exact⟨by omega,this.2⟩
 ·rcases a with a|a
  ·have:=a.1
   exact⟨by omega,a.2.1⟩
  ·have:=f b a
   exact⟨by omega,this.2⟩
 ·rcases d with d|d
  ·exact d.2.2.1 h1
  ·exact h.apart b h1 d
 ·rw[List.length_append,m,r]
  show _=ns.length+sumL (fun k=>3+spL n k) ks
  omega
theorem ManyNP.put {R X Y n o:Nat} {w wr:World} {so nm nm':Int} {tx tx':ByteArray} {ns:List ByteArray} {ks:List (T n)} {nv kv v:Value} (h:ManyNP R X Y n w wr so nm tx ns ks nv kv) (hw:w.heap.size<=X)
  (ho:(o=1/\v=.int .i64 nm' /\ tx'=tx)∨(o=2/\v=.string tx' /\ nm'=nm)):ManyNP R X Y n w (wr.setCell ⟨X,o,none⟩ v) so nm' tx' ns ks nv kv:=by
 have c:∀b,b≠X->(wr.setCell ⟨X,o,none⟩ v).heap[b]?=wr.heap[b]?:=fun b hb=>Below.heap_setCell _ _ _ _ hb
 have a:(wr.setCell ⟨X,o,none⟩ v).heap.size=wr.heap.size:=by simp
 obtain⟨xs,f,d,i,j,k⟩:=h.own
 have e:=h.xy
 exact⟨h.toManyN.put hw ho,xs,f,qaK d fun g hg=>c g (by have:=qaF d g hg;omega),i,j.keep (fun b hb=>c b (by have:=hb.1;omega)) (fun b hb=>⟨hb.1,by rw[a];exact hb.2.1,hb.2.2⟩),k⟩
theorem qdC{w:World}{base z:Nat}{e:TypeId}{v:Value}{n:Nat}{xs:List Value}(h:w.ownsRow base e z v n xs)(g j:Nat)(hv:v.ownBlock=some g)(x:Value):(w.setCell ⟨g,j,none⟩ x).ownsRow base e z v n (xs.set j x):=by
 obtain⟨l,m⟩:=h
 refine⟨by rw[List.length_set];exact l,?_⟩
 rcases m with ⟨rfl,p⟩|⟨k,cap,b,rfl,c,o,d,f,i,a⟩
 ·cases hv
 ·have e:k=g:=by simpa [Value.ownBlock] using hv
  subst e
  refine .inr ⟨k,cap,b.setIfInBounds j x,rfl,c,?_,d,f,by rw[Array.size_setIfInBounds];exact i,?_⟩
  ·simp[World.setCell,Array.getElem?_modify,o]
  ·rw[Array.toList_setIfInBounds,List.take_set,a]
theorem qsS{xs:List Value}{q:Nat}(hq:xs.length=q)(a b c d e a' b' c' d' e':Value):(((((xs++[a,b,c,d,e]).set q a').set (q+1) b').set (q+2) c').set (q+3) d').set (q+4) e'=xs++[a',b',c',d',e']:=by
 subst hq
 rw[List.set_append_right _ _ (Nat.le_refl _),List.set_append_right _ _ (by omega),List.set_append_right _ _ (by omega),List.set_append_right _ _ (by omega),List.set_append_right _ _ (by omega)]
 congr 1
 rw[show xs.length-xs.length=0 by omega,show xs.length+1-xs.length=1 by omega,show xs.length+2-xs.length=2 by omega,show xs.length+3-xs.length=3 by omega,show xs.length+4-xs.length=4 by omega]
 rfl
theorem qgY(w:World)(X o g p:Nat)(u v:Value)(h:X≠g):(w.setCell ⟨X,o,none⟩ u).setCell ⟨g,p,none⟩ v=(w.setCell ⟨g,p,none⟩ v).setCell ⟨X,o,none⟩ u:=by
 unfold World.setCell
 congr 1
 apply Array.ext_getElem?
 intro i
 simp only[Array.getElem?_modify]
 by_cases h1:X=i
 ·have a:¬g=i:=by omega
  simp[h1,a]
 ·by_cases a:g=i
  ·simp[h1,a]
  ·simp[h1,a]
theorem xdW(w:World)(X o g p:Nat)(u a b c d e:Value)(h:X≠g):put5 (w.setCell ⟨X,o,none⟩ u) g p a b c d e=(put5 w g p a b c d e).setCell ⟨X,o,none⟩ u:=by
 unfold put5
 rw[qgY _ _ _ _ _ _ _ h,qgY _ _ _ _ _ _ _ h,qgY _ _ _ _ _ _ _ h,qgY _ _ _ _ _ _ _ h,qgY _ _ _ _ _ _ _ h]
theorem qgG {W:World} {Y g j cap:Nat} {xs:List Value} {a b c d e:Value} (h:W.ownsRow (Y+1) 25 5 (.slice (some ⟨g,0,none⟩) (j+1) cap) (j+1) (xs++[a,b,c,d,e])) (hx:xs.length=j*5) :
  (W.cell? ⟨g,j*5,none⟩=some a/\W.cell? ⟨g,j*5+1,none⟩=some b/\W.cell? ⟨g,j*5+2,none⟩=some c/\W.cell? ⟨g,j*5+3,none⟩=some d/\W.cell? ⟨g,j*5+4,none⟩=some e)/\∀o,W.frozen? ⟨g,o,none⟩=false:=by
 have q:∀k v,(xs++[a,b,c,d,e])[k]?=some v->W.cell? ⟨g,k,none⟩=some v:=fun k v f=>by
  have:=h.cells (g:=g) rfl k v f
  rw[Addr.add_lit,Nat.zero_add]at this
  exact this
 refine⟨⟨q _ _ ?_,q _ _ ?_,q _ _ ?_,q _ _ ?_,q _ _ ?_⟩,fun o=>?_⟩
 ·rw[List.getElem?_append_right (by omega),show j*5-xs.length=0 by omega];rfl
 ·rw[List.getElem?_append_right (by omega),show j*5+1-xs.length=1 by omega];rfl
 ·rw[List.getElem?_append_right (by omega),show j*5+2-xs.length=2 by omega];rfl
 ·rw[List.getElem?_append_right (by omega),show j*5+3-xs.length=3 by omega];rfl
 ·rw[List.getElem?_append_right (by omega),show j*5+4-xs.length=4 by omega];rfl
 ·rcases h.2 with ⟨w,x⟩|⟨m,l,n,f,p,r,s,t,u,i⟩
  ·omega
  ·have e:g=m:=by simpa [Value.ownBlock] using congrArg (fun v=>v.ownBlock) f
   subst e
   simp[World.frozen?,r]
theorem ManyN.kidZ {R X Y n:Nat} {w W Wp W2:World} {so nm:Int} {tx:ByteArray} {ns:List ByteArray} {ks:List (T n)} {nv kv:Value} {t:T n} {c0 c1 c2 c3 c4 z0 z1 z2 z3 z4:Value} {g cap:Nat} (h0:ManyN R X Y n w W so nm tx ns ks nv kv) (hRX:R<X) (hw:w.heap.size<=X)
  (hn:Near R W Wp) (ht:NodeIn (fun b=>W.heap.size<=b/\b<Wp.heap.size) Wp n t c0 c1 c2 c3 c4) {xs:List Value}
  (hxs:W.ownsRow (Y+1) 25 5 kv ks.length xs) (hk:∀j (h:j<ks.length),∃c0 c1 c2 c3 c4,(xs[j*5]?=some c0/\xs[j*5+1]?=some c1/\xs[j*5+2]?=some c2/\xs[j*5+3]?=some c3/\xs[j*5+4]?=some c4)/\NodeIn (Far (Y+1) nv kv W.heap.size) W n ks[j] c0 c1 c2 c3 c4)
  (hown:W2.ownsRow (Y+1) 25 5 (.slice (some ⟨g,0,none⟩) (ks.length+1) cap) (ks.length+1) (xs++[z0,z1,z2,z3,z4])) (hgrow:Wp.grownBy W2 kv.ownBlock) (hat:kv.ownBlock=some g∨g=Wp.heap.size) :
  ManyN R X Y n w ((put5 W2 g (ks.length*5) c0 c1 c2 c3 c4).setCell ⟨X,4,none⟩ (.slice (some ⟨g,0,none⟩) (ks.length+1) cap)) so nm tx ns (ks++[t]) nv (.slice (some ⟨g,0,none⟩) (ks.length+1) cap):=by
 have G:=h0.lt
 have s:=h0.xy
 have H:=hn.size
 have hz:W2.heap.size ≥ Wp.heap.size:=hgrow.size
 have p:=qaF h0.names
 have l:=qaF hxs
 have I:=qaF hown g rfl
 have u:xs.length=ks.length*5:=hxs.1
 have B:∀b,b<Wp.heap.size->kv.ownBlock≠some b->W2.heap[b]?=Wp.heap[b]?:=fun b hb hne=>hgrow.block b hb (fun e=>hne e.symm)
 have x:g≠X:=by omega
 have d:(put5 W2 g (ks.length*5) c0 c1 c2 c3 c4).ownsRow (Y+1) 25 5 (.slice (some ⟨g,0,none⟩) (ks.length+1) cap) (ks.length+1) (xs++[c0,c1,c2,c3,c4]):=by
  unfold put5
  rw[<- qsS u z0 z1 z2 z3 z4 c0 c1 c2 c3 c4]
  exact qdC (qdC (qdC (qdC (qdC hown g _ rfl c0) g _ rfl c1) g _ rfl c2) g _ rfl c3) g _ rfl c4
 have C:∀b,b≠g->(put5 W2 g (ks.length*5) c0 c1 c2 c3 c4).heap[b]?=W2.heap[b]?:=fun b hb=>qaQ hb
 have m:(put5 W2 g (ks.length*5) c0 c1 c2 c3 c4).heap.size=W2.heap.size:=qbO
 have f:Below 0 W2 (put5 W2 g (ks.length*5) c0 c1 c2 c3 c4):=qaX (Below.refl 0 W2) (Nat.zero_le _)
 generalize put5 W2 g (ks.length*5) c0 c1 c2 c3 c4=W3 at *
 have D:∀b,b≠X->(W3.setCell ⟨X,4,none⟩ (.slice (some ⟨g,0,none⟩) (ks.length+1) cap)).heap[b]?=W3.heap[b]?:=fun b hb=>Below.heap_setCell _ _ _ _ hb
 have i:(W3.setCell ⟨X,4,none⟩ (.slice (some ⟨g,0,none⟩) (ks.length+1) cap)).heap.size=W3.heap.size:=by simp
 have y:kv.ownBlock≠some X:=fun e=>by have:=l X e;omega
 have r:∀b,b<Wp.heap.size->kv.ownBlock≠some b->b≠g:=fun b hb hne e=>by
  subst e
  rcases hat with h|h
  ·exact hne h
  ·omega
 have E:∀b,b<Wp.heap.size->b≠X->kv.ownBlock≠some b->(W3.setCell ⟨X,4,none⟩ (.slice (some ⟨g,0,none⟩) (ks.length+1) cap)).heap[b]?=Wp.heap[b]?:=fun b hb hbX hne=>by
  rw[D b hbX,C b (r b hb hne),B b hb hne]
 have z:∀b,b<W.heap.size->b≠R->b≠X->kv.ownBlock≠some b->(W3.setCell ⟨X,4,none⟩ (.slice (some ⟨g,0,none⟩) (ks.length+1) cap)).heap[b]?=W.heap[b]?:=fun b hb hR hbX hne=>by
  rw[E b (by omega) hbX hne,hn.block b hb hR]
 have q:W3.heap[X]?=_:=(C X (fun e=>x e.symm)).trans ((B X (by omega) y).trans ((hn.block X G (by omega)).trans h0.box))
 have k:∀b,kv.ownBlock≠some b->b<Wp.heap.size->(Value.slice (some ⟨g,0,none⟩) (ks.length+1) cap).ownBlock≠some b:=by
  intro b F J e
  have e:g=b:=by simpa [Value.ownBlock] using e
  exact r b J F e.symm
 refine⟨⟨?_,?_,?_,by rw[i,m];have:=h0.near.size;omega,fun b hb hne=>?_⟩,?_,qaK h0.names fun g' hg'=>?_,h0.short,⟨xs++[c0,c1,c2,c3,c4],?_,fun j hj=>?_⟩,fun b hb=>?_,⟨s.1,by first|(rw[i,m];omega)|(rw[i];omega)⟩⟩
 ·show W3.os=w.os
  rw[f.os,hgrow.os];exact hn.os.trans h0.near.os
 ·show W3.tape=w.tape
  rw[f.tape,hgrow.tape];exact hn.tape.trans h0.near.tape
 ·show W3.output=w.output
  rw[f.output,hgrow.output];exact hn.output.trans h0.near.output
 ·have hs:=h0.near.size
  rw[z b (by omega) hne (by omega) (fun e=>by have:=l b e;omega)]
  exact h0.near.block b hb hne
 ·simp[World.setCell,Array.getElem?_modify,q]
 ·have:=p g' hg'
  exact z g' this.2 (by omega) (by omega) (h0.apart g' hg')
 ·rw[List.length_append,List.length_singleton]
  exact qaK d fun g' hg'=>D g' (by have:=qaF d g' hg';omega)
 ·by_cases hjk:j<ks.length
  ·obtain⟨K,L,M,N,O,⟨P,Q,S,U,V⟩,Z⟩:=hk j hjk
   have c:∀o v,o<5->xs[j*5+o]?=some v->(xs++[c0,c1,c2,c3,c4])[j*5+o]?=some v:=fun o v ho h=>by
    rw[List.getElem?_append_left (by omega)];exact h
   refine⟨K,L,M,N,O,⟨c 0 _ (by omega) P,c 1 _ (by omega) Q,c 2 _ (by omega) S,c 3 _ (by omega) U,c 4 _ (by omega) V⟩,?_⟩
   rw[List.getElem_append_left hjk]
   refine Z.keep (fun b hb=>?_) (fun b hb=>⟨hb.1,by rw[i,m];have:=hb.2.1;omega,hb.2.2.1,k b hb.2.2.2 (by have:=hb.2.1;omega)⟩)
   have F:=hb.1
   exact z b hb.2.1 (by omega) (by omega) hb.2.2.2
  ·have A:j=ks.length:=by
    rw[List.length_append,List.length_singleton]at hj;omega
   subst A
   refine⟨c0,c1,c2,c3,c4,⟨?_,?_,?_,?_,?_⟩,?_⟩
   ·rw[List.getElem?_append_right (by omega),show ks.length*5-xs.length=0 by omega];rfl
   ·rw[List.getElem?_append_right (by omega),show ks.length*5+1-xs.length=1 by omega];rfl
   ·rw[List.getElem?_append_right (by omega),show ks.length*5+2-xs.length=2 by omega];rfl
   ·rw[List.getElem?_append_right (by omega),show ks.length*5+3-xs.length=3 by omega];rfl
   ·rw[List.getElem?_append_right (by omega),show ks.length*5+4-xs.length=4 by omega];rfl
   ·rw[List.getElem_append_right (Nat.le_refl _)]
    simp only[Nat.sub_self,List.getElem_cons_zero]
    refine ht.keep (fun b hb=>?_) (fun b hb=>⟨by omega,by rw[i,m];omega,fun e=>by have:=p b e;omega,k b (fun e=>by have:=l b e;omega) hb.2⟩)
    exact E b hb.2 (by omega) (fun e=>by have:=l b e;omega)
 ·have:=p b hb
  exact k b (h0.apart b hb) (by omega)
theorem xdX{R X Y n g q:Nat}{W Wp W2:World}{kv u c0 c1 c2 c3 c4:Value}{xs:List Value}{c:Obj}(hRX:R<X)(hXY:X<=Y)(hxs:W.ownsRow (Y+1) 25 5 kv n xs)(hgrow:Wp.grownBy W2 kv.ownBlock)(hgX:X<g)(hRl:R<Wp.heap.size)(hc:Wp.heap[R]?=some c):((put5 W2 g q c0 c1 c2 c3 c4).setCell ⟨X,4,none⟩ u).heap[R]?=some c:=by
 rw[Below.heap_setCell _ _ _ _ (by show R≠X;omega),qaQ (by omega),hgrow.block R hRl (fun e=>by have:=qaF hxs R e.symm;omega)]
 exact hc
abbrev zeroN:Obj:=.cells #[.int .i64 0,.int .i64 0,.string ⟨#[]⟩,.slice none 0 0,.slice none 0 0] 25
theorem qgH{R X Y k z:Nat}{e:TypeId}{v:Value}{xs:List Value}{W Wp W2:World}{c:Obj}(hb:W.heap[X]?=some c)(hx:W.ownsRow (Y+1) e z v k xs)(hRX:R<X)(hXY:X<=Y)(hn:Near R W Wp)(hg:Wp.grownBy W2 v.ownBlock):W2.heap[X]?=some c:=by
 have a:X<W.heap.size:=(Array.getElem?_eq_some_iff.1 hb).1
 have:=hn.size
 rw[hg.block X (by omega) (fun e=>by have:=qaF hx X e.symm;omega),hn.block X a (by omega)]
 exact hb
theorem qoS{R:Nat}{wc v2:World}(hn:Near R (wc.drew.alloc zeroN) v2)(hR:R<wc.heap.size):v2.heap[wc.heap.size]?=some (.cells #[.int .i64 0,.int .i64 0,.string ⟨#[]⟩,.slice none 0 0,.slice none 0 0] 25 (0,0)):=by
 rw[hn.block wc.heap.size (by show _<(wc.heap.push _).size;simp) (by omega)]
 exact heap_alloc_new wc.drew zeroN
theorem qhM{R Y k z:Nat}{e:TypeId}{v:Value}{xs:List Value}{W w2:World}(h:W.ownsRow (Y+1) e z v k xs)(hRX:R<Y)(hn:Near R W w2):w2.ownsRow (Y+1) e z v k xs:=
 qaK h fun g hg=>hn.block g (qaF h g hg).2 (by have:=(qaF h g hg).1;omega)
theorem ManyNP.kidZ {R X Y n:Nat} {w W Wp W2:World} {so nm:Int} {tx:ByteArray} {ns:List ByteArray} {ks:List (T n)} {nv kv:Value} {t:T n} {c0 c1 c2 c3 c4 z0 z1 z2 z3 z4:Value} {g cap:Nat} (h0:ManyN R X Y n w W so nm tx ns ks nv kv) (hRX:R<X) (hw:w.heap.size<=X)
  (hn:Near R W Wp) (ht:NodeIn (fun b=>W.heap.size<=b/\b<Wp.heap.size) Wp n t c0 c1 c2 c3 c4) (hot:OwnN (fun b=>W.heap.size<=b/\b<Wp.heap.size) Wp n t c3 c4) {xs:List Value} {Ps:List (List Spot)}
  (hxs:W.ownsRow (Y+1) 25 5 kv ks.length xs) (hpl:Ps.length=ks.length) (hko:KidsOwnN (Far (Y+1) nv kv W.heap.size) W n ks xs Ps) (hln:Ps.flatten.length+3*ks.length=sumL (fun x=>3+spL n x) ks)
  (hown:W2.ownsRow (Y+1) 25 5 (.slice (some ⟨g,0,none⟩) (ks.length+1) cap) (ks.length+1) (xs++[z0,z1,z2,z3,z4])) (hgrow:Wp.grownBy W2 kv.ownBlock) (hat:kv.ownBlock=some g∨g=Wp.heap.size) :
  ManyNP R X Y n w ((put5 W2 g (ks.length*5) c0 c1 c2 c3 c4).setCell ⟨X,4,none⟩ (.slice (some ⟨g,0,none⟩) (ks.length+1) cap)) so nm tx ns (ks++[t]) nv (.slice (some ⟨g,0,none⟩) (ks.length+1) cap):=by
 have A:=ManyN.kidZ h0 hRX hw hn ht hxs (fun j hj=>by
  obtain⟨H,I,J,K,L,S,U,M,-,v,-⟩:=hko.2 j hj (by omega)
  exact⟨H,I,J,K,L,M,v⟩) hown hgrow hat
 have P:=h0.lt
 have B:=h0.xy
 have C:=hn.size
 have Q:W2.heap.size ≥ Wp.heap.size:=hgrow.size
 have f:=qaF hxs
 have D:=qaF hown g rfl
 have i:xs.length=ks.length*5:=hxs.1
 have E:∀b,b<Wp.heap.size->kv.ownBlock≠some b->W2.heap[b]?=Wp.heap[b]?:=fun b a hne=>hgrow.block b a (fun e=>hne e.symm)
 have c:(put5 W2 g (ks.length*5) c0 c1 c2 c3 c4).ownsRow (Y+1) 25 5 (.slice (some ⟨g,0,none⟩) (ks.length+1) cap) (ks.length+1) (xs++[c0,c1,c2,c3,c4]):=by
  unfold put5
  rw[<- qsS i z0 z1 z2 z3 z4 c0 c1 c2 c3 c4]
  exact qdC (qdC (qdC (qdC (qdC hown g _ rfl c0) g _ rfl c1) g _ rfl c2) g _ rfl c3) g _ rfl c4
 have F:∀b,b≠g->(put5 W2 g (ks.length*5) c0 c1 c2 c3 c4).heap[b]?=W2.heap[b]?:=fun b a=>qaQ a
 have k:(put5 W2 g (ks.length*5) c0 c1 c2 c3 c4).heap.size=W2.heap.size:=qbO
 generalize put5 W2 g (ks.length*5) c0 c1 c2 c3 c4=W3 at *
 have z:∀b,b≠X->(W3.setCell ⟨X,4,none⟩ (.slice (some ⟨g,0,none⟩) (ks.length+1) cap)).heap[b]?=W3.heap[b]?:=fun b a=>Below.heap_setCell _ _ _ _ a
 have l:(W3.setCell ⟨X,4,none⟩ (.slice (some ⟨g,0,none⟩) (ks.length+1) cap)).heap.size=W3.heap.size:=by simp
 have m:∀b,b<Wp.heap.size->kv.ownBlock≠some b->b≠g:=fun b a hne e=>by
  subst e
  rcases hat with h|h
  ·exact hne h
  ·omega
 have q:∀b,b<Wp.heap.size->b≠X->kv.ownBlock≠some b->(W3.setCell ⟨X,4,none⟩ (.slice (some ⟨g,0,none⟩) (ks.length+1) cap)).heap[b]?=Wp.heap[b]?:=fun b a hbX hne=>by
  rw[z b hbX,F b (m b a hne),E b a hne]
 have d:∀b,kv.ownBlock≠some b->b<Wp.heap.size->(Value.slice (some ⟨g,0,none⟩) (ks.length+1) cap).ownBlock≠some b:=by
  intro b o p e
  have e:g=b:=by simpa [Value.ownBlock] using e
  exact m b p o e.symm
 have r:=qaF h0.names
 obtain⟨L3,L4,N,O,y,sl⟩:=hot.keep (w':=W3.setCell ⟨X,4,none⟩ (.slice (some ⟨g,0,none⟩) (ks.length+1) cap)) (fun b a=>q b a.2 (by omega) (fun e=>by have:=f b e;omega)) (fun _ h=>h)
 have s:=ht.keep (w':=W3.setCell ⟨X,4,none⟩ (.slice (some ⟨g,0,none⟩) (ks.length+1) cap)) (fun b a=>q b a.2 (by omega) (fun e=>by have:=f b e;omega)) (fun _ h=>h)
 have u:=hko.keep (w':=W3.setCell ⟨X,4,none⟩ (.slice (some ⟨g,0,none⟩) (ks.length+1) cap)) (fun b a=>by
  have o:=a.1
  have p:=a.2.1
  rw[q b (by omega) (by omega) a.2.2.2,hn.block b p (by omega)]) (fun _ h=>h)
 have G:=u.snoc hpl i s N O y (fun b o p=>by have:=o.2.1;omega)
 refine⟨A,xs++[c0,c1,c2,c3,c4],Ps++[L3++L4],?_,by simp[hpl],G.keep (fun _ _=>rfl) (fun b a=>?_),?_⟩
 ·rw[List.length_append,List.length_singleton]
  exact qaK c fun g' hg'=>z g' (by have:=qaF c g' hg';omega)
 ·rcases a with a|a
  ·exact⟨a.1,by rw[l,k];have:=a.2.1;omega,a.2.2.1,d b a.2.2.2 (by have:=a.2.1;omega)⟩
  ·exact⟨by omega,by rw[l,k];omega,fun e=>by have:=r b e;omega,d b (fun e=>by have:=f b e;omega) a.2⟩
 ·rw[qyX,<- hln,List.flatten_append,List.flatten_singleton,List.length_append,sl,List.length_append,List.length_singleton];omega
end Go.Proofs.YtelogmjfekhmpaaGreatDoor
