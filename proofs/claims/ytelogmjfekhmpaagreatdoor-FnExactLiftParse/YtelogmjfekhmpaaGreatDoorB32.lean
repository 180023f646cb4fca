import Derived.Test.YtelogmjfekhmpaaGreatDoorB30
import Derived.Test.YtelogmjfekhmpaaGreatDoorB12
import Derived.Test.YtelogmjfekhmpaaGreatDoorB29
import Derived.Test.YtelogmjfekhmpaaGreatDoorPNA
namespace Go.Proofs.YtelogmjfekhmpaaGreatDoor
open Go.RowKit Go.Proofs.Tryz
def NPost(M m P:Nat)(wv:Value)(ws:List ByteArray)(act:Bool)(d:Int)(a c:Nat)(w:World)(e:Ending)(w':World):Prop:=
 Near P w w' /\ ∃(t:T m)(c0 c1 c2 c3 c4:Value)(a' c':Nat)(fc fa:Int),e=.returned (.agg #[c0,c1,c2,c3,c4])/\NodeIn (fun b=>w.heap.size<=b/\b<w'.heap.size) w' m t c0 c1 c2 c3 c4/\Prs w' P wv ws a' c' fc fa /\
  (a':Int)+d<=(ws.length:Int)+27/\c'<=201/\Got (qaI M ws m act d a c) t a' c' fc fa
def NSaid(M m:Nat):Prop:=∀(P:Nat)(wv:Value)(ws:List ByteArray)(act:Bool)(d:Int)(a c:Nat)(w:World),1<=d->d<=25->26<=d+(m:Int)->Prs w P wv ws a c 0 0->a<=ws.length->c<=200 ->
 Calls prog 11 #[.pointer (some ⟨P,0,none⟩),.bool act,.int .i64 d] w (NPost M m P wv ws act d a c w)
def FPost(M m P:Nat)(wv:Value)(ws:List ByteArray)(d:Int)(a c:Nat)(fc fa:Int)(w:World)(e:Ending)(w':World):Prop:=
 Near P w w' /\ ∃(t:Nd (T m))(c0 c1 c2 c3 c4:Value)(a' c':Nat)(fc' fa':Int),e=.returned (.agg #[c0,c1,c2,c3,c4])/\NodeIn (fun b=>w.heap.size<=b/\b<w'.heap.size) w' (m+1) t c0 c1 c2 c3 c4/\Prs w' P wv ws a' c' fc' fa' /\
  (a':Int)+d<=(ws.length:Int)+27/\c'<=201/\(fc=0->Got (qaR (qaI M ws m false (d+1)) ws (ws.length+1) (⟨24,0,ByteArray.empty,[],[]⟩:Nd (T m)) a c) t a' c' fc' fa')/\(fc≠0->fc'=fc/\fa'=fa)
def FSaid(M m:Nat):Prop:=∀(P:Nat)(wv:Value)(ws:List ByteArray)(d:Int)(a c:Nat)(fc fa:Int)(w:World),1<=d->d<=25->25<=d+(m:Int)->Prs w P wv ws a c fc fa->a<=ws.length->c<=201->(fc=0->fa=0/\d<=24/\c<=200) ->
 Calls prog 24 #[.pointer (some ⟨P,0,none⟩),.agg #[.int .i64 24,.int .i64 0,.string ⟨#[]⟩,.slice none 0 0,.slice none 0 0],.int .i64 d] w (FPost M m P wv ws d a c fc fa w)
theorem qwV{P Z:Nat}{w W:World}{g0 g1 g2 g3 g4:Value}(hn:Near P w W)(hZ:Z=w.heap.size):Near P w (put5 W Z 0 g0 g1 g2 g3 g4):=by
 have c:(put5 W Z 0 g0 g1 g2 g3 g4).heap.size=W.heap.size:=qbO
 have a:Below 0 W (put5 W Z 0 g0 g1 g2 g3 g4):=qaX (Below.refl 0 W) (Nat.zero_le _)
 exact⟨a.os.trans hn.os,a.tape.trans hn.tape,a.output.trans hn.output,by rw[c];exact hn.size,fun b h1 h2=>(qaQ (by omega)).trans (hn.block b h1 h2)⟩
theorem xjI{P Z:Nat}{w W:World}{g0 g1 g2 g3 g4:Value}{wv:Value}{ws:List ByteArray}{a c a0 c0:Nat}{fc fa f0 g:Int}(hp:Prs w P wv ws a0 c0 f0 g)(hn:Near P w W)(hZ:Z=w.heap.size)(h:Prs W P wv ws a c fc fa):Prs (put5 W Z 0 g0 g1 g2 g3 g4) P wv ws a c fc fa:=
 hp.keep (qwV hn hZ) ((qaQ (by have:=hp.lt;omega)).trans h.box)
theorem qsX {M m P:Nat} {wv:Value} {ws:List ByteArray} {act:Bool} {d:Int} {a c:Nat} {w W:World} {t:T m} {g0 g1 g2 g3 g4:Value} {a' c':Nat} {fc fa:Int} (hp:Prs w P wv ws a c 0 0) (hn:Near P w W) (h:Prs W P wv ws a' c' fc fa)
  (hk:NodeIn (fun b=>w.heap.size+1<=b/\b<W.heap.size) W m t g0 g1 g2 g3 g4) (ha:(a':Int)+d<=(ws.length:Int)+27) (hc:c'<=201) (hg:Got (qaI M ws m act d a c) t a' c' fc fa) :
  NPost M m P wv ws act d a c w (.returned (.agg #[g0,g1,g2,g3,g4])) (put5 W w.heap.size 0 g0 g1 g2 g3 g4):=
 ⟨qwV hn rfl,t,_,_,_,_,_,a',c',fc,fa,rfl,hk.keep (fun b hb=>qaQ (by omega)) (fun b hb=>⟨by omega,by rw[qbO];exact hb.2⟩),xjI hp hn rfl h,ha,hc,hg⟩
theorem f_exit {M m P:Nat} {wv:Value} {ws:List ByteArray} {d:Int} {a c:Nat} {w W:World} {t:Nd (T m)} {g0 g1 g2 g3 g4:Value} {a' c':Nat} {fc fa fc' fa':Int} (Z:Nat) (hZ:Z=w.heap.size+1) (hp:Prs w P wv ws a c fc fa) (hn:Near P w W) (h:Prs W P wv ws a' c' fc' fa')
  (hk:NodeIn (fun b=>w.heap.size+2<=b/\b<W.heap.size) W (m+1) t g0 g1 g2 g3 g4) (ha:(a':Int)+d<=(ws.length:Int)+27) (hc:c'<=201) (hg:fc=0->Got (qaR (qaI M ws m false (d+1)) ws (ws.length+1) (⟨24,0,ByteArray.empty,[],[]⟩:Nd (T m)) a c) t a' c' fc' fa') (hb:fc≠0->fc'=fc/\fa'=fa) :
  FPost M m P wv ws d a c fc fa w (.returned (.agg #[g0,g1,g2,g3,g4])) (put5 W Z 0 g0 g1 g2 g3 g4):=by
 have i:=hp.lt
 have g:(put5 W Z 0 g0 g1 g2 g3 g4).heap.size=W.heap.size:=qbO
 have f:Below 0 W (put5 W Z 0 g0 g1 g2 g3 g4):=qaX (Below.refl 0 W) (Nat.zero_le _)
 have e:Near P w (put5 W Z 0 g0 g1 g2 g3 g4):=⟨f.os.trans hn.os,f.tape.trans hn.tape,f.output.trans hn.output,by rw[g];exact hn.size,fun b h1 h2=>(qaQ (by omega)).trans (hn.block b h1 h2)⟩
 exact⟨e,t,_,_,_,_,_,a',c',fc',fa',rfl,hk.keep (fun b hb=>qaQ (by omega)) (fun b hb=>⟨by omega,by rw[qbO];exact hb.2⟩),hp.keep e ((qaQ (by omega)).trans h.box),ha,hc,hg,hb⟩
theorem qqI(S:Nat->Prop)(w:World)(m:Nat)(x v:Int)(tx:ByteArray)(hx:(Lit.int .i64 x).wf=true)(hv:(Lit.int .i64 v).wf=true)(ht:tx.size<=10000):NodeIn S w (m+1) (⟨x,v,tx,[],[]⟩:Nd (T m)) (.int .i64 x) (.int .i64 v) (.string tx) (.slice none 0 0) (.slice none 0 0):=
 ⟨rfl,rfl,rfl,by show tx.size<=maxLen;unfold maxLen;omega,hx,hv,⟨none,0,rfl,by unfold maxLen;simp,by simp,fun h=>absurd rfl h⟩,⟨none,0,rfl,by unfold maxLen;simp,fun h=>absurd rfl h⟩,⟨_,_,_,rfl,Nat.le_refl _⟩,⟨_,_,_,rfl,Nat.le_refl _⟩⟩
theorem xgY(S:Nat->Prop)(w:World)(m g:Nat)(s:ByteArray)(hs:s.size<=3000)(hg:S g)(hb:w.heap[g]?=some (.cells #[.string s] 9 (0,0))):NodeIn S w (m+1) (⟨4,0,ByteArray.empty,[s],[]⟩:Nd (T m)) (.int .i64 4) (.int .i64 0) (.string ⟨#[]⟩) (.slice (some ⟨g,0,none⟩) 1 1) (.slice none 0 0):=by
 refine⟨rfl,rfl,rfl,by show ByteArray.empty.size<=maxLen;decide,by show (Lit.int .i64 4).wf=true;decide,by show (Lit.int .i64 0).wf=true;decide,?_,⟨none,0,rfl,by unfold maxLen;simp,fun h=>absurd rfl h⟩,⟨_,_,_,rfl,Nat.le_refl _⟩,⟨_,_,_,rfl,Nat.le_refl _⟩⟩
 have a:w.ownsRow 0 9 1 (.slice (some ⟨g,0,none⟩) 1 1) [s].length ([s].map .string):=⟨rfl,.inr ⟨g,1,_,rfl,Nat.zero_le _,hb,Nat.le_refl _,by unfold maxLen;simp,rfl,rfl⟩⟩
 exact qcQ a (by simp) (by simp;omega) (fun b hb=>by cases hb;exact hg)
set_option maxRecDepth 100000
set_option maxHeartbeats 16000000
theorem qzY{M:Nat}:qhA M 0:=by
 intro B R l m ws a c j d w t u i y v z
 have o:=i.lt
 have f:=i.same ((Below.refl w.heap.size w).alloc (Nat.le_refl _) zeroN)
 obtain⟨⟨-,-,-,x⟩,-,n⟩:=f.cells
 obtain⟨W1,b⟩:∃W1,W1=(w.setCell ⟨R,3,none⟩ (.int .i64 ((c:Int)+1))).alloc zeroN:=⟨_,rfl⟩
 have g:Rdr W1 R l m ws a (c+1):=by rw[b];exact (i.setNo (c+1)).same ((Below.refl _ _).alloc (Nat.le_refl _) zeroN)
 have h:Near R w W1:=by rw[b];exact (Near.set R 3 w _).trans (Near.alloc R _ zeroN)
 have p:IntKind.i64.wrap ((c:Int)+1)=(c:Int)+1:=by rw[IntKind.wrap_i64];omega
 have q:decide (d<=24)=false:=decide_eq_false (by omega)
 have k:¬d<=24:=by omega
 have r:=Lib.hid (qcE g 3)
 have s:Hid (qnE 0 R l m ws a w (qaI M ws 0 j d a c) (.panicked (qbT 3 a)) W1):=⟨h,.inr ⟨3,a,rfl,rfl⟩⟩
 clear t u i f g h
 go_enter func51,ntmps51
 go_wp2_with fail
 rw[<- b]
 refine r.out.mono ?_
 rintro e w2 ⟨rfl,rfl⟩
 exact⟨rfl,s.out⟩
theorem xfD{M:Nat}(hM:3000<=M):∀m,qhA M m:=by
 intro m
 induction m with
 | zero=>exact qzY
 | succ m ih=>exact qzX hM ih
end Go.Proofs.YtelogmjfekhmpaaGreatDoor
