import Derived.Test.YtelogmjfekhmpaaGreatDoorB33
import Derived.Test.YtelogmjfekhmpaaGreatDoorSPC
import Derived.Test.YtelogmjfekhmpaaGreatDoorB34
import Derived.Test.YtelogmjfekhmpaaGreatDoorB35
import Derived.Test.YtelogmjfekhmpaaGreatDoorSP2
import Derived.Test.YtelogmjfekhmpaaGreatDoorB36
import Derived.Test.YtelogmjfekhmpaaGreatDoorQW4
namespace Go.Proofs.YtelogmjfekhmpaaGreatDoor
open Go.RowKit Go.Proofs.Tryz
set_option maxRecDepth 100000
set_option maxHeartbeats 16000000
theorem xfE(M:Nat)(hM:3000<=M):∀m,NSaid M m:=by
 intro m
 induction m with
 | zero=>intro P e ws b d a c w f g h;exfalso;have:((0:Nat):Int)=0:=rfl;omega
 | succ m ih=>
  intro P e ws b d a c w
  by_cases h0:opW (wordD ws a)=0
  ·exact qiB M m hM ih P e ws b d a c w (.inl h0)
  by_cases ha:b=decide ((36:Int)<=(opW (wordD ws a):Int))
  case neg=>exact qiB M m hM ih P e ws b d a c w (.inr (.inl ha))
  by_cases h24:opW (wordD ws a)=24
  ·exact qiB M m hM ih P e ws b d a c w (.inr (.inr h24))
  ·exact xhJ M m hM ih P e ws b d a c w _ rfl h0 h24 ha.symm
theorem xhU(m:Nat)(t:T m)(d:Int)(hg:goodN m t d=true)(h:poT m t=65):1<=lenN m t:=by
 cases m with
 | zero=>simp[goodN]at hg
 | succ m=>
  have b:36<=Nd.sort t/\Nd.sort t<=43:=by
   have a:poF (Nd.sort t)=65:=h
   unfold poF at a
   split at a
   ·cases a
   ·split at a
    ·cases a
    ·omega
  have c:=((qkZ (Nd.sort t).toNat (by omega)).2 (by omega)).1
  show 1<=lenF (lenN m) (show Nd (T m) from t)
  unfold lenF
  rw[if_neg (by show ¬Nd.sort t<=3;omega),if_neg (by show ¬Nd.sort t=4;omega)]
  have:1<=(wrd (show Nd (T m) from t).sort.toNat).size:=c
  omega
theorem qoC (m:Nat) (S:Nat->Prop) (t:T m) (c0 c1 c2 c3 c4:Value) (w:World) (hin:NodeIn S w m t c0 c1 c2 c3 c4) (hB:∀ b,S b->b<w.heap.size) (hg:goodN m t 1=true) (hpo:poT m t=65) (hc:cntT m t<=200) :
  Calls prog 13 #[.agg #[c0,c1,c2,c3,c4]] w fun e w'=>Below w.heap.size w w' /\ ∃s,e=.returned (.string s)/\(s.size=0↔¬lenN m t<=3000):=by
 have U:=xjR m t 1 hg
 have V:=qvG m t 1 hg
 have J:=xhU m t 1 hg hpo
 obtain⟨y,z,A,B,C,D,E,F,G,rfl,rfl,rfl,rfl,rfl⟩:=hin.shape
 obtain⟨g,d⟩:∃g,g=w.alloc (.cells #[.int .i64 y,.int .i64 z,.string A,.slice B C D,.slice E F G] 25):=⟨_,rfl⟩
 have i:Below w.heap.size w g:=by rw[d];exact (Below.refl _ _).alloc (Nat.le_refl _) _
 have j:g.heap[w.heap.size]?=some (.cells #[.int .i64 y,.int .i64 z,.string A,.slice B C D,.slice E F G] 25 (0,0)):=by rw[d];exact heap_alloc_new _ _
 obtain⟨f,r⟩:=hin.step hB i
 have X:g.heap.size=w.heap.size+1:=by rw[d];simp
 have c:Hid (Calls prog 31 _ _ _):=qvH m S t _ _ _ _ _ g f r (by omega)
 have k:Hid (∀W,Below g.heap.size g W->Calls prog 32 #[.agg #[.int .i64 y,.int .i64 z,.string A,.slice B C D,.slice E F G]] W fun e w'=>Below W.heap.size W w' /\ ∃s,e=.returned (.string s)/\s.size=lenN m t):=fun W hb=>by
  obtain⟨u,H⟩:=f.step r hb
  refine (qtJ m S t _ _ _ _ _ 1 W u H hg (by omega)).mono ?_
  rintro e w' h
  exact⟨h.1,h.2⟩
 have o:okA m t=decide (lenN m t<=3000):=by
  unfold okA okN
  rw[decide_eq_true hpo,hg,decide_eq_true hc];rfl
 rw[o]at c
 have p:=Lib.hid i
 obtain⟨⟨M,N,O,P,Q⟩,-⟩:=qaC j
 have l:=Lib.hid j
 clear hin f i o j
 by_cases h3:lenN m t<=3000
 ·rw[decide_eq_true h3]at c
  have x:Hid (∀s:ByteArray,s.size=lenN m t->(s.size=0↔¬lenN m t<=3000)):=fun s I=>⟨fun h=>by omega,fun h=>absurd h3 h⟩
  generalize lenN m t=L at *
  go_enter func13,ntmps13
  go_upto_region 1 with fail
  rw[<- d]
  clear d
  go_wp2_with fail
  refine c.out.mono ?_
  rintro e R ⟨rfl,a⟩
  have q:=Lib.hid (k.out R a)
  obtain⟨⟨z0,Z,z2,z3,z4⟩,-⟩:=qaC ((a.block w.heap.size (by omega)).trans l.out)
  have n:=Lib.hid (qaA p.out (by omega) a)
  have Y:=a.size
  clear a k c M N O P Q l
  go_wp2_with fail
  refine q.out.mono ?_
  rintro e w2 ⟨v,s,rfl,I⟩
  have K:Hid (Below w.heap.size w w2/\(s.size=0↔¬L<=3000)):=⟨qaA n.out (by omega) v,x.out s I⟩
  clear v I x q
  go_wp2_with fail
  go_ret
  exact⟨K.out.1,s,rfl,K.out.2⟩
 ·rw[decide_eq_false h3]at c
  have x:Hid ((⟨#[]⟩:ByteArray).size=0↔¬lenN m t<=3000):=⟨fun _=>h3,fun _=>rfl⟩
  generalize lenN m t=L at *
  go_enter func13,ntmps13
  go_upto_region 1 with fail
  rw[<- d]
  clear d
  go_wp2_with fail
  refine c.out.mono ?_
  rintro e R ⟨rfl,a⟩
  have n:=Lib.hid (qaA p.out (by omega) a)
  clear a k c M N O P Q l
  go_wp2_with fail
  go_ret
  exact⟨n.out,_,rfl,x.out⟩
def qtR(r:Except Er (T 25))(w:World)(e:Ending)(w':World):Prop:=
 Below w.heap.size w w' /\ ((∃(t:T 25)(c0 c1 c2 c3 c4:Value),r=.ok t/\e=.returned (.tuple #[.agg #[c0,c1,c2,c3,c4],.agg #[.int .i64 0,.int .i64 0]])/\NodeIn (fun b=>w.heap.size<=b/\b<w'.heap.size) w' 25 t c0 c1 c2 c3 c4) ∨
  (∃(code:Int)(at':Nat),r=.error (code,at')/\e=.returned (.tuple #[.agg #[.int .i64 0,.int .i64 0,.string ⟨#[]⟩,.slice none 0 0,.slice none 0 0],.agg #[.int .i64 code,.int .i64 (at':Int)]])))
theorem qrB{n₀ P:Nat}{a w w':World}(h:Below n₀ a w)(hP:n₀<=P)(hw:n₀<=w.heap.size)(hn:Near P w w'):Below n₀ a w':=
 ⟨hn.os.trans h.os,hn.tape.trans h.tape,hn.output.trans h.output,Nat.le_trans h.size hn.size,fun k hk=>(hn.block k (by omega) (by omega)).trans (h.block k hk)⟩
theorem qoD (M:Nat) (hM:3000<=M) (text:ByteArray) (hsz:text.size<=1048576) (w:World) :
  Calls prog 4 #[.string text] w (qtR (liftR M text (qbI text.size text.data.toList)) w):=by
 obtain⟨W,C⟩:∃W,W=(w.alloc zeroN).alloc (.cells #[.int .i64 0,.int .i64 0] 27):=⟨_,rfl⟩
 have hs:W.heap.size=w.heap.size+2:=by rw[C];simp
 have aS:Below w.heap.size w W:=by rw[C];exact ((Below.refl _ _).alloc (Nat.le_refl _) _).alloc (by simp) _
 have hA:W.heap[w.heap.size]?=some (.cells #[.int .i64 0,.int .i64 0,.string ⟨#[]⟩,.slice none 0 0,.slice none 0 0] 25 (0,0)):=by rw[C];exact (Below.heap_alloc _ _ _ (by simp)).trans (heap_alloc_new w zeroN)
 have hF:W.heap[w.heap.size+1]?=some (.cells #[.int .i64 0,.int .i64 0] 27 (0,0)):=by
  have:=heap_alloc_new (w.alloc zeroN) (.cells #[.int .i64 0,.int .i64 0] 27)
  rw[show (w.alloc zeroN).heap.size=w.heap.size+1 by simp]at this
  rw[C];exact this
 by_cases h3:text.size<=3000
 case neg=>
  have cJ:(3000:Int)<(text.size:Int):=by omega
  have HP:Hid (qtR (liftR M text (qbI text.size text.data.toList)) w (.returned (.tuple #[.agg #[.int .i64 0,.int .i64 0,.string ⟨#[]⟩,.slice none 0 0,.slice none 0 0],.agg #[.int .i64 1,.int .i64 0]])) ((w.alloc zeroN).alloc (.cells #[.int .i64 1,.int .i64 0] 27))):=⟨((Below.refl _ _).alloc (Nat.le_refl _) _).alloc (by simp) _,.inr ⟨1,0,by unfold liftR;rw[if_neg h3],rfl⟩⟩
  clear h3 hA hF aS hs C
  go_enter func4,ntmps4
  go_wp2_with fail
  refine bodyPost_ret (v:=.tuple #[.agg #[.int .i64 0,.int .i64 0,.string ⟨#[]⟩,.slice none 0 0,.slice none 0 0],.agg #[.int .i64 1,.int .i64 0]]) (by simp[results,results4,go_sem]) rfl ?_
  exact HP.out
 have cJ:¬(3000:Int)<(text.size:Int):=by omega
 obtain⟨ws,bD⟩:∃ws,qbI text.size text.data.toList=ws:=⟨_,rfl⟩
 have aT:=Lib.hid (qtN text h3 W)
 have bK:=qkI text.size text.data.toList
 have aU:=qkU text.size text.data.toList (by show text.size<=3000;exact h3)
 rw[bD]at aT bK aU
 rw[bD]
 have B:Hid (liftR M text ws=qgD M ws):=by show _=_;unfold liftR;rw[if_pos h3]
 have aA:Hid (qgD M ws=match qaI M ws 25 true 1 0 0 with|.error e=>.error e|.ok r=>if r.2.1=ws.length then (if lenN 25 r.1<=3000 then .ok r.1 else .error (1,0)) else .error (2,r.2.1)):=rfl
 have i:=Lib.hid (qbS M ws 25 true 1 0 0)
 have bL:=Lib.hid aU
 have cK:=Lib.hid aS
 have HA:=Lib.hid hA
 have HF:=Lib.hid hF
 have aN:ws.length<=3000:=by omega
 clear aS hA hF h3 aU bD bK
 go_enter func4,ntmps4
 go_upto_region 1 with fail
 rw[<- C]
 clear C
 go_wp2_with fail
 refine aT.out.mono ?_
 clear aT
 rintro e w3 ⟨v,rfl,bE,o⟩
 obtain⟨va,vc,rfl⟩:=qeU o
 have cL:=bE.size
 obtain⟨j,D⟩:∃j,j=w3.alloc (.cells #[.slice va ws.length vc,.int .i64 0,.int .i64 0,.int .i64 0,.int .i64 0] 37):=⟨_,rfl⟩
 have dG:j.heap.size=w3.heap.size+1:=by rw[D];simp
 have aV:Below w3.heap.size w3 j:=by rw[D];exact (Below.refl _ _).alloc (Nat.le_refl _) _
 have bM:Prs j w3.heap.size (.slice va ws.length vc) ws 0 0 0 0:=by
  refine⟨by rw[D];exact heap_alloc_new _ _,?_,bL.out,aN⟩
  refine qcQ (qaK o fun g hg=>aV.block g (qaF o g hg).2) (by omega) (fun s h=>by have:=bL.out s h;omega) (fun g hg=>?_)
  have:=qaF o g hg
  exact⟨by omega,by omega⟩
 have bN:Below W.heap.size W j:=bE.trans (aV.mono cL)
 have aW:=Lib.hid (xfE M hM 25 w3.heap.size _ ws true 1 0 0 j (by omega) (by omega) (by decide) bM (by omega) (by omega))
 have aB:=Lib.hid bN
 obtain⟨m,bF⟩:∃m,ws.length=m:=⟨_,rfl⟩
 have aX:=Lib.hid bF
 rw[bF]at D aW aN ⊢
 clear bE o aV bM bN bF
 go_upto_region 4 with fail
 rw[<- D]
 clear D
 go_wp2_with fail
 refine aW.out.mono ?_
 clear aW
 rintro e k ⟨aJ,t,c0,c1,c2,c3,c4,l,N,fc,fa,rfl,O,bG,dT,dU,aQ⟩
 obtain⟨S,T,U,V,X,Y,Z,yl,yc,rfl,rfl,rfl,rfl,rfl⟩:=O.shape
 obtain⟨P,hP⟩:∃P,w3.heap.size=P:=⟨_,rfl⟩
 rw[hP]at aJ bG
 have dH:=aJ.size
 obtain⟨f,Q⟩:∃f,f=k.alloc (.cells #[.int .i64 S,.int .i64 T,.string U,.slice V X Y,.slice Z yl yc] 25):=⟨_,rfl⟩
 have aC:Below k.heap.size k f:=by rw[Q];exact (Below.refl _ _).alloc (Nat.le_refl _) _
 have dI:f.heap.size=k.heap.size+1:=by rw[Q];simp
 have bO:Near P j f:=aJ.trans (Near.of_below aC)
 have bP:=bG.same aC
 have aO:NodeIn (fun b=>j.heap.size<=b/\b<k.heap.size) f 25 t (.int .i64 S) (.int .i64 T) (.string U) (.slice V X Y) (.slice Z yl yc):=O.keep (fun b hb=>aC.block b hb.2) (fun _ h=>h)
 have aP:f.heap[k.heap.size]?=some (.cells #[.int .i64 S,.int .i64 T,.string U,.slice V X Y,.slice Z yl yc] 25 (0,0)):=by rw[Q];exact heap_alloc_new _ _
 have H:=Lib.hid bO
 have q:=Lib.hid bP
 have I:=Lib.hid aO
 have u:=Lib.hid aP
 have z:=Lib.hid aQ
 have dJ:=Lib.hid hP
 have dK:w.heap.size+2<=P:=by omega
 have dL:P<j.heap.size:=by omega
 clear aJ bG O bO bP aO aP aQ aC
 obtain⟨p,a⟩:∃p,p=(if l<m then ftC fc 2 else fc):=⟨_,rfl⟩
 obtain⟨F,c⟩:∃F,F=(if l<m then ftA fc fa l else fa):=⟨_,rfl⟩
 have d:Hid ((p≠0->∃aL:Nat,F=(aL:Int)/\qgD M ws=.error (p,aL))/\(p=0->l=m/\F=0/\qaI M ws 25 true 1 0 0=.ok (t,l,N))):=by
  have C:=aA.out
  cases hres:qaI M ws 25 true 1 0 0 with
  | error e=>
   have hg:=z.out
   rw[hres]at hg C
   obtain⟨e1,e2,e3⟩:=hg
   have aD:p=fc:=by
    rw[a];split
    ·unfold ftC;rw[if_neg e3]
    ·rfl
   have aY:F=fa:=by
    rw[c];split
    ·unfold ftA;rw[if_neg e3]
    ·rfl
   rw[aD,aY]
   exact⟨fun _=>⟨e.2,e2,by rw[C,e1]⟩,fun h=>absurd h e3⟩
  | ok r=>
   have hg:=z.out
   rw[hres]at hg C
   obtain⟨rfl,rfl,rfl,rfl,rfl⟩:=hg
   have cM:=i.out _ hres
   have cN:=cM.2.2.2.2.2
   rw[aX.out]at cN C
   by_cases hlt:r.2.1<m
   ·rw[if_pos hlt]at a c
    have aD:p=2:=a
    have aY:F=(r.2.1:Int):=c
    refine⟨fun _=>⟨r.2.1,aY,?_⟩,fun h=>by rw[aD]at h;cases h⟩
    rw[C,aD];dsimp only;rw[if_neg (by omega)]
   ·rw[if_neg hlt]at a c
    exact⟨fun h=>absurd a h,fun _=>⟨by omega,c,rfl⟩⟩
 obtain⟨⟨q0,q1,q2,q3,q4⟩,-⟩:=q.out.cells
 go_upto_region 5 with fail
 rw[<- Q]
 clear Q
 clear hP
 have dC:l<=5000:=by have:=aX.out;omega
 have aZ:decide ((l:Int)<(m:Int))=decide (l<m):=by
  by_cases h:l<m
  ·rw[decide_eq_true h,decide_eq_true (by omega)]
  ·rw[decide_eq_false h,decide_eq_false (by omega)]
 clear aZ
 go_quiet (fail)
 go_upto_if 26 with fail
 go_cut [] from 6 to 28 (fun wx=>Near P j wx/\Prs wx P (.slice va m vc) ws l N p F/\wx.heap[k.heap.size]?=f.heap[k.heap.size]?/\(∀b,j.heap.size<=b->b<k.heap.size->wx.heap[b]?=f.heap[b]?)/\f.heap.size<=wx.heap.size)
 case first=>
  have aE:Hid (∀n,Calls prog 12 #[.pointer (some ⟨P,0,none⟩),.int .i64 2] (f.drewN n) fun e w'=>e=.returned (.tuple #[])/\Near P f w' /\ Prs w' P (.slice va m vc) ws l N (ftC fc 2) (ftA fc fa l)):=fun n=>by
   refine (qdB (q.out.drewN n) 2).mono ?_
   rintro e w' ⟨rfl,h1,h2⟩
   exact⟨rfl,(qbG (Near.refl P f) n).trans h1,h2⟩
  have A:Hid (∀w',Near P f w'->Prs w' P (.slice va m vc) ws l N p F->Near P j w' /\ Prs w' P (.slice va m vc) ws l N p F/\w'.heap[k.heap.size]?=f.heap[k.heap.size]?/\(∀b,j.heap.size<=b->b<k.heap.size->w'.heap[b]?=f.heap[b]?)/\f.heap.size<=w'.heap.size):=fun w' hn hp=>
   ⟨H.out.trans hn,hp,hn.block _ (by omega) (by omega),fun b h1 h2=>hn.block b (by omega) (by omega),hn.size⟩
  by_cases hlt:l<m
  ·have hl:(l:Int)<(m:Int):=by omega
   have cO:decide ((l:Int)<(m:Int))=true:=decide_eq_true hl
   rw[if_pos hlt]at a c
   rw[<- a,<- c]at aE
   clear d q H a c
   go_wp2_with fail
   refine (aE.out _).mono ?_
   rintro e w8 ⟨rfl,bU,bV⟩
   have HE:=Lib.hid (A.out w8 bU bV)
   clear bU bV aE A
   go_wp2_with fail
   go_meet
   exact HE.out
  ·have hl:¬(l:Int)<(m:Int):=by omega
   have cO:decide ((l:Int)<(m:Int))=false:=decide_eq_false hl
   rw[if_neg hlt]at a c
   subst a c
   have HE:Hid (∀n,Near P j (f.drewN n)/\_):=fun n=>A.out (f.drewN n) (qbG (Near.refl P f) n) (q.out.drewN n)
   clear d q H aE A
   go_wp2_with fail
   go_meet
   exact HE.out _
 case rest=>
  obtain⟨hn,hp,aK,R,bW⟩:=hcut
  have aF:Below w.heap.size w j:=cK.out.trans (aB.out.mono (by omega))
  have dD:=aB.out.size
  have bA:Below w.heap.size w wc:=qrB aF (by omega) aF.size hn
  have hZ:wc.heap[w.heap.size]?=_:=(hn.block w.heap.size (by omega) (by omega)).trans ((aB.out.block w.heap.size (by omega)).trans HA.out)
  have aG:wc.heap[w.heap.size+1]?=_:=(hn.block (w.heap.size+1) (by omega) (by omega)).trans ((aB.out.block (w.heap.size+1) (by omega)).trans HF.out)
  obtain⟨⟨z0,z1,z2,z3,z4⟩,E⟩:=qaC hZ
  have cP:=E 0
  have cQ:=E 1
  have cR:=E 2
  have cS:=E 3
  have cT:=E 4
  obtain⟨⟨k0,k1⟩,cU,cV⟩:=qbY aG
  obtain⟨⟨y0,y1,y2,y3,y4⟩,-⟩:=qaC (aK.trans u.out)
  obtain⟨⟨cW,cX,cY,cZ,dA⟩,-⟩:=hp.cells
  have e1:¬P=w.heap.size:=by omega
  have e2:¬P=w.heap.size+1:=by omega
  have e3:¬w.heap.size=P:=by omega
  have e4:¬w.heap.size+1=P:=by omega
  have e5:¬w.heap.size=w.heap.size+1:=by omega
  have e6:¬w.heap.size+1=w.heap.size:=by omega
  have e7:¬k.heap.size=w.heap.size:=by omega
  have e8:¬k.heap.size=w.heap.size+1:=by omega
  have e9:¬w.heap.size=k.heap.size:=by omega
  have bB:=Lib.hid bA
  clear E q0 q1 q2 q3 q4 cW cX cY a c
  by_cases hf0:p=0
  case neg=>
   have dM:(p==0)=false:=by simp[hf0]
   obtain⟨aL,bX,bY⟩:=d.out.1 hf0
   have HP:Hid (∀W',Below w.heap.size w W'->qtR (liftR M text ws) w (.returned (.tuple #[.agg #[.int .i64 0,.int .i64 0,.string ⟨#[]⟩,.slice none 0 0,.slice none 0 0],.agg #[.int .i64 p,.int .i64 F]])) W'):=fun W' hb=>⟨hb,.inr ⟨p,aL,by rw[B.out];exact bY,by rw[bX]⟩⟩
   have bQ:Hid (∀W',Below w.heap.size w W'->Below w.heap.size w (((put5 W' w.heap.size 0 (.int .i64 0) (.int .i64 0) (.string ⟨#[]⟩) (.slice none 0 0) (.slice none 0 0)).setCell ⟨w.heap.size+1,0,none⟩ (.int .i64 p)).setCell ⟨w.heap.size+1,1,none⟩ (.int .i64 F))):=fun W' hb=>(qjO hb).1
   clear hn hp aK R bW aF bA hZ aG d I u z q H aA i B bY bX y0 y1 y2 y3 y4
   go_wp2_with fail
   go_region
   all_goals
    go_wp2_with fail
    refine bodyPost_ret (v:=.tuple #[.agg #[.int .i64 0,.int .i64 0,.string ⟨#[]⟩,.slice none 0 0,.slice none 0 0],.agg #[.int .i64 p,.int .i64 F]]) (by simp[results,results4,go_sem,z0,z1,z2,z3,z4,k0,k1]) rfl ?_
    exact HP.out _ (bQ.out _ bB.out).drew
  ·subst hf0
   obtain⟨dB,rfl,bH⟩:=d.out.2 rfl
   obtain⟨g1,gp,g3,g4,-,-⟩:=i.out _ bH
   dsimp only at g1 gp g3 g4
   have bC:NodeIn (fun b=>j.heap.size<=b/\b<k.heap.size) wc 25 t (.int .i64 S) (.int .i64 T) (.string U) (.slice V X Y) (.slice Z yl yc):=I.out.keep (fun b hb=>R b hb.1 hb.2) (fun _ h=>h)
   have bR:=Lib.hid (qoC 25 _ t _ _ _ _ _ wc bC (fun b hb=>by omega) g1 (by simpa using gp) (by omega))
   have aH:Hid (qgD M ws=if lenN 25 t<=3000 then .ok t else .error (1,0)):=by
    show _=_
    rw[aA.out,bH]
    dsimp only
    rw[if_pos (by rw[aX.out];exact dB)]
   have bS:=Lib.hid bC
   have J:Hid (∀G,Below wc.heap.size wc G->Below w.heap.size w G/\G.heap[w.heap.size]?=some (.cells #[.int .i64 0,.int .i64 0,.string ⟨#[]⟩,.slice none 0 0,.slice none 0 0] 25 (0,0))/\G.heap[w.heap.size+1]?=some (.cells #[.int .i64 0,.int .i64 0] 27 (0,0))/\G.heap[k.heap.size]?=some (.cells #[.int .i64 S,.int .i64 T,.string U,.slice V X Y,.slice Z yl yc] 25 (0,0))/\NodeIn (fun b=>j.heap.size<=b/\b<k.heap.size) G 25 t (.int .i64 S) (.int .i64 T) (.string U) (.slice V X Y) (.slice Z yl yc)):=fun G hb=>
    ⟨bB.out.trans (hb.mono bB.out.size),(hb.block _ (by omega)).trans hZ,(hb.block _ (by omega)).trans aG,(hb.block _ (by omega)).trans (aK.trans u.out),bS.out.keep (fun b h=>hb.block b (by omega)) (fun _ h=>h)⟩
   have dN:w.heap.size+2<j.heap.size:=by omega
   clear hn hp aK R bW aF bA hZ aG d I u z q H aA i bC bH g1 gp g3 g4
   go_wp2_with fail
   refine bR.out.mono ?_
   clear bR
   rintro e G ⟨bI,sx,rfl,aM⟩
   obtain⟨bZ,cA,cB,bJ,aR⟩:=J.out G bI
   have dE:=bI.size
   obtain⟨⟨cC,cD,cE,cF,cG⟩,E⟩:=qaC cA
   have dO:=E 0
   have dP:=E 1
   have dQ:=E 2
   have dR:=E 3
   have dS:=E 4
   obtain⟨⟨cH,cI⟩,dV,dW⟩:=qbY cB
   obtain⟨⟨dX,dY,dZ,eA,eB⟩,-⟩:=qaC bJ
   have aI:=Lib.hid bZ
   have K:=Lib.hid aR
   have dF:k.heap.size<=G.heap.size:=by
    have:=(Array.getElem?_eq_some_iff.1 bJ).1
    omega
   clear E cA cB bJ bZ aR bI J bS z0 z1 z2 z3 z4 cP cQ cR cS cT k0 k1 cU cV y0 y1 y2 y3 y4 cZ dA
   by_cases h3:lenN 25 t<=3000
   ·have L:¬sx.size=0:=fun h=>(aM.1 h) h3
    have bT:((sx.size:Int)==0)=false:=by rw[beq_eq_false_iff_ne];omega
    have HP:Hid (qtR (liftR M text ws) w (.returned (.tuple #[.agg #[.int .i64 S,.int .i64 T,.string U,.slice V X Y,.slice Z yl yc],.agg #[.int .i64 0,.int .i64 0]])) (((put5 G w.heap.size 0 (.int .i64 S) (.int .i64 T) (.string U) (.slice V X Y) (.slice Z yl yc)).setCell ⟨w.heap.size+1,0,none⟩ (.int .i64 0)).setCell ⟨w.heap.size+1,1,none⟩ (.int .i64 0))):=by
     obtain⟨p1,p2,p3⟩:=qjO (c0:=.int .i64 S) (c1:=.int .i64 T) (c2:=.string U) (c3:=.slice V X Y) (c4:=.slice Z yl yc) (x:=.int .i64 0) (y:=.int .i64 0) aI.out
     refine⟨p1,.inl ⟨t,_,_,_,_,_,by rw[B.out,aH.out,if_pos h3],rfl,K.out.keep (fun b hb=>p3 b (by omega)) (fun b hb=>⟨by omega,by rw[p2];omega⟩)⟩⟩
    clear K aI aH B aM h3
    go_wp2_with fail
    refine bodyPost_ret (v:=.tuple #[.agg #[.int .i64 S,.int .i64 T,.string U,.slice V X Y,.slice Z yl yc],.agg #[.int .i64 0,.int .i64 0]]) (by simp[results,results4,go_sem,cC,cD,cE,cF,cG,cH,cI]) rfl ?_
    exact HP.out
   ·have L:sx.size=0:=aM.2 h3
    have bT:((sx.size:Int)==0)=true:=by rw[L];rfl
    have HP:Hid (qtR (liftR M text ws) w (.returned (.tuple #[.agg #[.int .i64 0,.int .i64 0,.string ⟨#[]⟩,.slice none 0 0,.slice none 0 0],.agg #[.int .i64 1,.int .i64 0]])) (((put5 G w.heap.size 0 (.int .i64 0) (.int .i64 0) (.string ⟨#[]⟩) (.slice none 0 0) (.slice none 0 0)).setCell ⟨w.heap.size+1,0,none⟩ (.int .i64 1)).setCell ⟨w.heap.size+1,1,none⟩ (.int .i64 0))):=
     ⟨(qjO aI.out).1,.inr ⟨1,0,by rw[B.out,aH.out,if_neg h3],rfl⟩⟩
    clear K aI aH B aM h3 L
    go_wp2_with fail
    refine bodyPost_ret (v:=.tuple #[.agg #[.int .i64 0,.int .i64 0,.string ⟨#[]⟩,.slice none 0 0,.slice none 0 0],.agg #[.int .i64 1,.int .i64 0]]) (by simp[results,results4,go_sem,cC,cD,cE,cF,cG,cH,cI]) rfl ?_
    exact HP.out
end Go.Proofs.YtelogmjfekhmpaaGreatDoor
