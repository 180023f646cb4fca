import Derived.Test.YtelogmjfekhmpaaGreatDoorB2
import Derived.Test.YtelogmjfekhmpaaGreatDoorB1
import Derived.Lib.Hide
import Derived.Test.YtelogmjfekhmpaaGreatDoorB23
import Derived.Laws.RangeString
import Derived.Lib.OthersKept
import Derived.WalkSmall
import Derived.Test.YtelogmjfekhmpaaGreatDoorB21
namespace Go.Proofs.YtelogmjfekhmpaaGreatDoor
open Go.RowKit Go.Proofs.Tryz
theorem qbV {w:World} {R k i:Nat} {s:ByteArray} (o:Obj) (h:RdS w R s i false) (hc:(lookB s i).toNat=k):∃ W1,W1=w.alloc o/\W1.heap.size=w.heap.size+1/\(w.alloc o).cell? ⟨R,2,none⟩=some (.bool false) /\
  Hid (Calls prog 56 #[.pointer (some ⟨R,0,none⟩)] W1 fun e w'=>e=.returned (.int .u8 ((k:Nat):Int))/\Near R w w' /\ RdS w' R s i false/\w'.heap.size=w.heap.size+1/\w'.heap[w.heap.size]?=some o):=by
 have b:Below w.heap.size w (w.alloc o):=(Below.refl _ _).alloc (Nat.le_refl _) _
 have a:RdS (w.alloc o) R s i false:=(b.block R h.lt).trans h
 refine⟨_,rfl,by simp,a.cell2,(qeS _ R s i false a).mono fun e w' ⟨he,k,hk⟩=>?_⟩
 subst hk
 rw[hc]at he
 exact⟨he,((Near.of_below b).trans (Near.refl R _)).drewN k,a.drewN k,by simp,heap_alloc_new _ _⟩
def letP(p:UInt8):Prop:=p=84∨p=75∨p=70∨p=35∨p=78∨p=88∨p=86∨p=65
theorem xdE:∀k,k<44->∀p,p∈prt k->p=84∨p=75∨p=70∨p=35∨p=78∨p=88∨p=86∨p=65:=by decide
theorem qdM {w:World} {b:Nat} {c0 c1 c2 c3 c4:Value} {t:TypeId} (h:w.heap[b]?=some (.cells #[c0,c1,c2,c3,c4] t (0,0))) :
  w.cell? ⟨b,0,none⟩=some c0/\w.cell? ⟨b,1,none⟩=some c1/\w.cell? ⟨b,2,none⟩=some c2/\w.cell? ⟨b,3,none⟩=some c3/\w.cell? ⟨b,4,none⟩=some c4:=by
 refine⟨?_,?_,?_,?_,?_⟩<;>simp[World.cell?,h]
theorem qmK:∀k,k<44->∀p,p∈prt k->p.toNat<128:=by decide
theorem qkQ(l:List UInt8)(i:Nat)(h:i<(bs l).size):(bs l)[i]'h=l[i]'(by rw[qaL]at h;exact h):=by
 simp[bs,ByteArray.getElem_eq_getElem_data]
set_option maxRecDepth 100000
set_option maxHeartbeats 16000000
theorem qgJ(S:Nat->Prop)(w:World)(m:Nat)(x:Int)(hx:(Lit.int .i64 x).wf=true):KindIn S w (m+1) (⟨x,[],[]⟩:Kd (K m)) (.int .i64 x) (.slice none 0 0) (.slice none 0 0):=
 ⟨rfl,hx,⟨none,0,rfl,by simp[maxLen],fun s h=>(by cases h),fun h=>absurd rfl h⟩,⟨none,0,rfl,by simp[maxLen],fun h=>absurd rfl h⟩⟩
theorem qbX {w:World} {N:Nat} (h:w.heap[N]?=some (.cells #[.int .i64 0,.slice none 0 0,.slice none 0 0] 55 (0,0))) :
  (w.cell? ⟨N,0,none⟩=some (.int .i64 0)/\w.cell? ⟨N,1,none⟩=some (.slice none 0 0)/\w.cell? ⟨N,2,none⟩=some (.slice none 0 0)) /\
   w.frozen? ⟨N,0,none⟩=false/\w.frozen? ⟨N,1,none⟩=false/\w.frozen? ⟨N,2,none⟩=false:=by
 refine⟨⟨?_,?_,?_⟩,?_,?_,?_⟩<;>simp[World.cell?,World.frozen?,h]
theorem xeC (n m R:Nat) (s:ByteArray) (i:Nat) (bad:Bool) (w:World) (h:RdS w R s i bad) (hb:bad=true∨n=0) (hi:bad=false->i<=s.size) :
  Calls prog 41 #[.pointer (some ⟨R,0,none⟩),.int .i64 (7-(n:Int))] w (qbC (m+1) n w R s i bad):=by
 have d:=h.lt
 have b:GotK (m+1) n s i bad (⟨0,[],[]⟩:Kd (K m)) i true:=by
  refine⟨Nat.le_refl _,fun h=>(by cases h),fun hf=>(by have:=hi hf;omega),fun _=>rfl,fun t0 post hf he hg=>?_⟩
  rcases hb with hb|hb
  ·rw[hb]at hf;cases hf
  ·subst hb
   simp[goodK]at hg
 have c:Hid (∀o,qbC (m+1) n w R s i bad (.returned (.agg #[.int .i64 0,.slice none 0 0,.slice none 0 0])) ((w.setCell ⟨R,2,none⟩ (.bool true)).alloc o)):=fun o=>
  ⟨(Near.set R 2 w _).trans (Near.alloc _ _ _),_,_,_,_,i,true,rfl,qgJ _ _ m 0 rfl,(Below.heap_alloc _ _ _ (by simpa using d)).trans (h.set2 true),b⟩
 have c2:=h.cell2
 have fz:=h.free 2
 have a:bad=false->(6:Int)<7-(n:Int):=fun hf=>by
  rcases hb with hb|hb
  ·rw[hb]at hf;cases hf
  ·omega
 clear b h
 cases bad with
 | true=>
  clear a hi
  go_enter func41,ntmps41
  go_wp2_with fail
  refine bodyPost_ret (v:=.agg #[.int .i64 0,.slice none 0 0,.slice none 0 0]) (by simp[results,results41,go_sem]) rfl ?_
  exact c.out _
 | false=>
  have e:=a rfl
  clear a hi
  go_enter func41,ntmps41
  go_wp2_with fail
  refine bodyPost_ret (v:=.agg #[.int .i64 0,.slice none 0 0,.slice none 0 0]) (by simp[results,results41,go_sem]) rfl ?_
  exact c.out _
theorem l2_num (n m R:Nat) (s:ByteArray) (i:Nat) (w:World) (h:RdS w R s i false) (hs:s.size<=10000) (hi:i<=s.size) (hl:lookB s i=110) :
  Calls prog 41 #[.pointer (some ⟨R,0,none⟩),.int .i64 (7-((n+1:Nat):Int))] w (qbC (m+1) (n+1) w R s i false):=by
 have q:=h.lt
 obtain⟨W1,f,z,c2,t⟩:=qbV (k:=110) (.cells #[.int .i64 0,.slice none 0 0,.slice none 0 0] 55) h (by rw[hl];rfl)
 have l:¬(6:Int)<7-((n+1:Nat):Int):=by omega
 have d:Hid (lookB s i=110):=hl
 clear h hl
 generalize hdp:7-((n+1:Nat):Int)=dp at *
 go_enter func41,ntmps41
 go_wp2_with fail
 rw[<- f]
 clear f c2
 refine t.out.mono ?_
 rintro e w2 ⟨rfl,c,g,A,a⟩
 have r:Hid (Calls prog 57 #[.pointer (some ⟨R,0,none⟩),.string ⟨#[110,117,109]⟩] w2 _):=qcI w2 R s ⟨#[110,117,109]⟩ i false g hs (by decide) hi
 clear t g
 go_wp2_with fail
 refine r.out.mono ?_
 rintro e w3 ⟨rfl,b,j⟩
 have u:=b.size
 obtain⟨⟨r0,B,C⟩,E,f1,F⟩:=qbX ((b.block w.heap.size (by omega) (by omega)).trans a)
 have y:Hid (qbC (m+1) (n+1) w R s i false (.returned (.agg #[.int .i64 1,.slice none 0 0,.slice none 0 0])) (put3 w3 w.heap.size 0 (.int .i64 1) (.slice none 0 0) (.slice none 0 0))):=by
  rcases j with ⟨o,D,p⟩|⟨o,p⟩
  ·exact qgI (c.trans b) q p (qgJ _ _ m 1 rfl) (qhO (x:=⟨#[110,117,109]⟩) hi (.inl ⟨o,D,rfl,rfl⟩) (by decide) (fun t0 post he hg=>xeA d.out t0 post he hg))
  ·exact qgI (c.trans b) q p (qgJ _ _ m 1 rfl) (qhO (x:=⟨#[110,117,109]⟩) hi (.inr ⟨o,rfl,rfl⟩) (by decide) (fun t0 post he hg=>xeA d.out t0 post he hg))
 clear r j b c a
 go_wp2_with fail
 refine bodyPost_ret (v:=.agg #[.int .i64 1,.slice none 0 0,.slice none 0 0]) (by simp[results,results41,go_sem,r0,B,C]) rfl ?_
 exact y.out
theorem xjL (n m R:Nat) (s:ByteArray) (i:Nat) (w:World) (h:RdS w R s i false) (hs:s.size<=10000) (hi:i<=s.size) (hl:lookB s i=116) :
  Calls prog 41 #[.pointer (some ⟨R,0,none⟩),.int .i64 (7-((n+1:Nat):Int))] w (qbC (m+1) (n+1) w R s i false):=by
 have q:=h.lt
 obtain⟨W1,f,z,c2,t⟩:=qbV (k:=116) (.cells #[.int .i64 0,.slice none 0 0,.slice none 0 0] 55) h (by rw[hl];rfl)
 have l:¬(6:Int)<7-((n+1:Nat):Int):=by omega
 have d:Hid (lookB s i=116):=hl
 clear h hl
 generalize hdp:7-((n+1:Nat):Int)=dp at *
 go_enter func41,ntmps41
 go_wp2_with fail
 rw[<- f]
 clear f c2
 refine t.out.mono ?_
 rintro e w2 ⟨rfl,c,g,A,a⟩
 have r:Hid (Calls prog 57 #[.pointer (some ⟨R,0,none⟩),.string ⟨#[116,101,120,116]⟩] w2 _):=qcI w2 R s ⟨#[116,101,120,116]⟩ i false g hs (by decide) hi
 clear t g
 go_wp2_with fail
 refine r.out.mono ?_
 rintro e w3 ⟨rfl,b,j⟩
 have u:=b.size
 obtain⟨⟨r0,B,C⟩,E,f1,F⟩:=qbX ((b.block w.heap.size (by omega) (by omega)).trans a)
 have y:Hid (qbC (m+1) (n+1) w R s i false (.returned (.agg #[.int .i64 2,.slice none 0 0,.slice none 0 0])) (put3 w3 w.heap.size 0 (.int .i64 2) (.slice none 0 0) (.slice none 0 0))):=by
  rcases j with ⟨o,D,p⟩|⟨o,p⟩
  ·exact qgI (c.trans b) q p (qgJ _ _ m 2 rfl) (qhO (x:=⟨#[116,101,120,116]⟩) hi (.inl ⟨o,D,rfl,rfl⟩) (by decide) (fun t0 post he hg=>qwX d.out t0 post he hg))
  ·exact qgI (c.trans b) q p (qgJ _ _ m 2 rfl) (qhO (x:=⟨#[116,101,120,116]⟩) hi (.inr ⟨o,rfl,rfl⟩) (by decide) (fun t0 post he hg=>qwX d.out t0 post he hg))
 clear r j b c a
 go_wp2_with fail
 refine bodyPost_ret (v:=.agg #[.int .i64 2,.slice none 0 0,.slice none 0 0]) (by simp[results,results41,go_sem,r0,B,C]) rfl ?_
 exact y.out
theorem xjM (n m R:Nat) (s:ByteArray) (i:Nat) (w:World) (h:RdS w R s i false) (hs:s.size<=10000) (hi:i<=s.size) (hl:lookB s i=102) :
  Calls prog 41 #[.pointer (some ⟨R,0,none⟩),.int .i64 (7-((n+1:Nat):Int))] w (qbC (m+1) (n+1) w R s i false):=by
 have q:=h.lt
 obtain⟨W1,f,z,c2,t⟩:=qbV (k:=102) (.cells #[.int .i64 0,.slice none 0 0,.slice none 0 0] 55) h (by rw[hl];rfl)
 have l:¬(6:Int)<7-((n+1:Nat):Int):=by omega
 have d:Hid (lookB s i=102):=hl
 clear h hl
 generalize hdp:7-((n+1:Nat):Int)=dp at *
 go_enter func41,ntmps41
 go_wp2_with fail
 rw[<- f]
 clear f c2
 refine t.out.mono ?_
 rintro e w2 ⟨rfl,c,g,A,a⟩
 have r:Hid (Calls prog 57 #[.pointer (some ⟨R,0,none⟩),.string ⟨#[102,108,97,103]⟩] w2 _):=qcI w2 R s ⟨#[102,108,97,103]⟩ i false g hs (by decide) hi
 clear t g
 go_wp2_with fail
 refine r.out.mono ?_
 rintro e w3 ⟨rfl,b,j⟩
 have u:=b.size
 obtain⟨⟨r0,B,C⟩,E,f1,F⟩:=qbX ((b.block w.heap.size (by omega) (by omega)).trans a)
 have y:Hid (qbC (m+1) (n+1) w R s i false (.returned (.agg #[.int .i64 3,.slice none 0 0,.slice none 0 0])) (put3 w3 w.heap.size 0 (.int .i64 3) (.slice none 0 0) (.slice none 0 0))):=by
  rcases j with ⟨o,D,p⟩|⟨o,p⟩
  ·exact qgI (c.trans b) q p (qgJ _ _ m 3 rfl) (qhO (x:=⟨#[102,108,97,103]⟩) hi (.inl ⟨o,D,rfl,rfl⟩) (by decide) (fun t0 post he hg=>qwY d.out t0 post he hg))
  ·exact qgI (c.trans b) q p (qgJ _ _ m 3 rfl) (qhO (x:=⟨#[102,108,97,103]⟩) hi (.inr ⟨o,rfl,rfl⟩) (by decide) (fun t0 post he hg=>qwY d.out t0 post he hg))
 clear r j b c a
 go_wp2_with fail
 refine bodyPost_ret (v:=.agg #[.int .i64 3,.slice none 0 0,.slice none 0 0]) (by simp[results,results41,go_sem,r0,B,C]) rfl ?_
 exact y.out
theorem xeD {S:Nat->Prop} {w:World} {m:Nat} {x:Int} {t:K m} {b c:Nat} {c0 c1 c2:Value} (hx:(Lit.int .i64 x).wf=true) (hb:S b) (h0:w.cell? ⟨b,0,none⟩=some c0) (h1:w.cell? ⟨b,1,none⟩=some c1) (h2:w.cell? ⟨b,2,none⟩=some c2) (ht:KindIn S w m t c0 c1 c2) :
  KindIn S w (m+1) (⟨x,[],[t]⟩:Kd (K m)) (.int .i64 x) (.slice none 0 0) (.slice (some ⟨b,0,none⟩) 1 c):=by
 refine⟨rfl,hx,⟨none,0,rfl,by simp[maxLen],fun s h=>(by cases h),fun h=>absurd rfl h⟩,⟨some ⟨b,0,none⟩,c,rfl,by simp[maxLen],fun _=>⟨b,0,rfl,hb,fun i hi=>?_⟩⟩⟩
 have:i=0:=by simpa using hi
 subst this
 exact⟨c0,c1,c2,by simpa using h0,by simpa using h1,by simpa using h2,ht⟩
theorem xhA (n:Nat) (hn:qfK n) (m R:Nat) (s:ByteArray) (i:Nat) (w:World) (hm:n+1<=m) (hn6:n<=6) (h:RdS w R s i false) (hs:s.size<=10000) (hi:i<=s.size) (hl:lookB s i=63) :
  Calls prog 41 #[.pointer (some ⟨R,0,none⟩),.int .i64 (7-((n+1:Nat):Int))] w (qbC (m+1) (n+1) w R s i false):=by
 have U:=h.lt
 obtain⟨W1,y,Z,c2,K⟩:=qbV (.cells #[.int .i64 0,.slice none 0 0,.slice none 0 0] 55) h rfl
 have I:¬(6:Int)<7-((n+1:Nat):Int):=by omega
 have J:Hid (lookB s i=63):=hl
 have o:Hid (_/\_):=qwZ hl (by decide)
 have M:((lookB s i).toNat:Nat)=63:=by rw[hl];rfl
 rw[M]at K
 have V:IntKind.i64.wrap (7-((n+1:Nat):Int)+1)=7-(n:Int):=by rw[IntKind.wrap_i64];omega
 have N:Hid (qfK n):=hn
 clear h hl M hn
 generalize hdp:7-((n+1:Nat):Int)=dp at *
 clear hdp
 go_enter func41,ntmps41
 go_wp2_with fail
 rw[<- y]
 clear y c2
 refine K.out.mono ?_
 rintro e w2 ⟨rfl,z,A,aA,d⟩
 have O:Hid (Calls prog 57 #[.pointer (some ⟨R,0,none⟩),.string ⟨#[63]⟩] w2 _):=qcI w2 R s ⟨#[63]⟩ i false A hs (by decide) hi
 clear K A
 go_wp2_with fail
 refine O.out.mono ?_
 rintro e w3 ⟨rfl,g,⟨r,q2,u⟩|⟨r,u⟩⟩
 case inr=>
  have r:eatP [63] (s.data.toList.drop i)=none:=r
  rw[o.out.1]at r
  cases r
 have u:RdS w3 R s ((i+1:Nat):Int) false:=u
 have W:=g.size
 have a:=(g.block w.heap.size (by omega) (by omega)).trans d
 have k:=z.trans g
 have P:=o.out.2
 have Q:Hid (Calls prog 41 #[.pointer (some ⟨R,0,none⟩),.int .i64 (7-(n:Int))] w3 (qbC m n w3 R s (i+1) false)):=N.out m R s (i+1) false w3 hm u hs (fun _=>by omega) (by omega)
 clear O z g d r q2 u N o
 go_wp2_with fail
 refine Q.out.mono ?_
 rintro e p ⟨j,t,d0,d1,d2,i1,S,rfl,L,q,T⟩
 obtain⟨B,C,D,E,F,G,H,rfl,rfl,rfl⟩:=L.shape
 have X:=j.size
 have c:=(j.block w.heap.size (by omega) (by omega)).trans a
 have l:=k.trans j
 clear Q a k
 have f:=Box3.new p (.int .i64 B) (.slice C D E) (.slice F G H) 55
 have x:Near R w (p.alloc (.cells #[.int .i64 B,.slice C D E,.slice F G H] 55)):=l.trans (Near.alloc _ _ _)
 obtain⟨⟨r0,r1,r2⟩,f0,f1,f2⟩:=qbX ((Below.heap_alloc p (.cells #[.int .i64 B,.slice C D E,.slice F G H] 55) w.heap.size (by omega)).trans c)
 have Y:Hid (qbC (m+1) (n+1) w R s i false (.returned (.agg #[.int .i64 6,.slice none 0 0,.slice (some ⟨p.heap.size,0,none⟩) 1 1])) (put3 (p.alloc (.cells #[.int .i64 B,.slice C D E,.slice F G H] 55)) w.heap.size 0 (.int .i64 6) (.slice none 0 0) (.slice (some ⟨p.heap.size,0,none⟩) 1 1))):=by
  refine qgI x U ((Below.heap_alloc _ _ _ (by have:=q.lt;omega)).trans q) (xeD (t:=t) rfl ⟨by omega,by simp⟩ f.c0 f.c1 f.c2 ?_) (xeB J.out T)
  exact L.keep (fun b hb=>Below.heap_alloc _ _ _ hb.2) (fun b hb=>⟨by omega,by simp;omega⟩)
 clear q T L f x c l j
 go_wp2_with fail
 refine bodyPost_ret (v:=.agg #[.int .i64 6,.slice none 0 0,.slice (some ⟨p.heap.size,0,none⟩) 1 1]) (by simp[results,results41,go_sem,r0,r1,r2]) rfl ?_
 exact Y.out
theorem xjN (n:Nat) (hn:qfK n) (m R:Nat) (s:ByteArray) (i:Nat) (w:World) (hm:n+1<=m) (hn6:n<=6) (h:RdS w R s i false) (hs:s.size<=10000) (hi:i<=s.size) (hl:lookB s i=91) :
  Calls prog 41 #[.pointer (some ⟨R,0,none⟩),.int .i64 (7-((n+1:Nat):Int))] w (qbC (m+1) (n+1) w R s i false):=by
 have hR:=h.lt
 obtain⟨W1,M,aJ,c2,HL⟩:=qbV (.cells #[.int .i64 0,.slice none 0 0,.slice none 0 0] 55) h rfl
 have aA:¬(6:Int)<7-((n+1:Nat):Int):=by omega
 have G:Hid (lookB s i=91):=hl
 have H:Hid (_/\_):=qwZ hl (by decide)
 have J:((lookB s i).toNat:Nat)=91:=by rw[hl];rfl
 rw[J]at HL
 have aD:IntKind.i64.wrap (7-((n+1:Nat):Int)+1)=7-(n:Int):=by rw[IntKind.wrap_i64];omega
 have HN:Hid (qfK n):=hn
 clear h hl J hn
 generalize hdp:7-((n+1:Nat):Int)=dp at *
 clear hdp
 go_enter func41,ntmps41
 go_wp2_with fail
 rw[<- M]
 clear M c2
 refine HL.out.mono ?_
 rintro e w2 ⟨rfl,N,O,aK,p⟩
 have HE:Hid (Calls prog 57 #[.pointer (some ⟨R,0,none⟩),.string ⟨#[91]⟩] w2 _):=qcI w2 R s ⟨#[91]⟩ i false O hs (by decide) hi
 clear HL O
 go_wp2_with fail
 refine HE.out.mono ?_
 rintro e w3 ⟨rfl,z,⟨x,q2,r⟩|⟨x,r⟩⟩
 case inr=>
  have x:eatP [91] (s.data.toList.drop i)=none:=x
  rw[H.out.1]at x
  cases x
 have r:RdS w3 R s ((i+1:Nat):Int) false:=r
 have aE:=z.size
 have k:=(z.block w.heap.size (by omega) (by omega)).trans p
 have D:=N.trans z
 have aB:=H.out.2
 have HK:Hid (Calls prog 41 #[.pointer (some ⟨R,0,none⟩),.int .i64 (7-(n:Int))] w3 (qbC m n w3 R s (i+1) false)):=HN.out m R s (i+1) false w3 hm r hs (fun _=>by omega) (by omega)
 clear HE N z p x q2 r HN H
 go_wp2_with fail
 refine HK.out.mono ?_
 rintro e c ⟨A,t,d0,d1,d2,F,g,rfl,ht,B,hG⟩
 obtain⟨P,Q,S,T,U,V,W,rfl,rfl,rfl⟩:=ht.shape
 have aF:=A.size
 have l:=(A.block w.heap.size (by omega) (by omega)).trans k
 have E:=D.trans A
 clear HK k D
 obtain⟨j,q⟩:∃j,j=(c.alloc (.cells #[.int .i64 P,.slice Q S T,.slice U V W] 55)).alloc (.cells #[.int .i64 4,.slice none 0 0,.slice (some ⟨c.heap.size,0,none⟩) 1 1] 55):=⟨_,rfl⟩
 have aG:j.heap.size=c.heap.size+2:=by rw[q];simp
 have f:Below c.heap.size c j:=by rw[q];exact ((Below.refl _ _).alloc (Nat.le_refl _) _).alloc (by simp) _
 have y:Box3 j c.heap.size (.int .i64 P) (.slice Q S T) (.slice U V W):=by
  rw[q];exact (Box3.new c (.int .i64 P) (.slice Q S T) (.slice U V W) 55).keep ((Below.refl _ _).alloc (Nat.le_refl _) _)
 have u:Box3 j (c.heap.size+1) (.int .i64 4) (.slice none 0 0) (.slice (some ⟨c.heap.size,0,none⟩) 1 1):=by
  have:=Box3.new (c.alloc (.cells #[.int .i64 P,.slice Q S T,.slice U V W] 55)) (.int .i64 4) (.slice none 0 0) (.slice (some ⟨c.heap.size,0,none⟩) 1 1) 55
  rw[q];simpa using this
 have I:RdS j R s F g:=(f.block R B.lt).trans B
 have aH:=B.lt
 obtain⟨g1,g2,g3,g4,g5⟩:=id hG
 have g3:=g3 rfl
 have Z:Hid (GotK m n s (i+1) false t F g):=hG
 have L:Hid (Calls prog 57 #[.pointer (some ⟨R,0,none⟩),.string ⟨#[93]⟩] j fun e w'=>e=.returned (.tuple #[])/\Near R j w' /\ ∃(i':Nat)(bad':Bool),RdS w' R s i' bad' /\ GotK (m+1) (n+1) s i false (⟨4,[],[t]⟩:Kd (K m)) i' bad'):=by
  by_cases hin:F<=s.size
  ·refine (qcI j R s ⟨#[93]⟩ F g I hs (by decide) hin).mono ?_
   rintro e w' ⟨rfl,hn,⟨x,q2,r⟩|⟨x,r⟩⟩
   ·exact⟨rfl,hn,F+1,g,r,qqK G.out Z.out (.inl ⟨x,q2,rfl,rfl⟩)⟩
   ·exact⟨rfl,hn,F,true,r,qqK G.out Z.out (.inr ⟨fun _=>x,rfl,rfl⟩)⟩
  ·refine (xjK j R s ⟨#[93]⟩ F g I (by decide) (by have:(⟨#[93]⟩:ByteArray).size=1:=rfl;omega) (by omega)).mono ?_
   rintro e w' ⟨rfl,hn,r⟩
   exact⟨rfl,hn,F,true,r,qqK G.out Z.out (.inr ⟨fun hf=>absurd (g2 hf).2.2 hin,rfl,rfl⟩)⟩
 have HT:Hid (KindIn (fun b=>w3.heap.size<=b/\b<c.heap.size) c m t (.int .i64 P) (.slice Q S T) (.slice U V W)):=ht
 clear hG B I ht g1 g2 g3 g4 g5
 go_wp2_with fail
 rw[<- q]
 clear q
 refine L.out.mono ?_
 rintro e C ⟨rfl,d,i2,aC,X,Y⟩
 have aI:=d.size
 have y6:=u.c0
 have k0:C.cell? ⟨c.heap.size+1,0,none⟩=some (.int .i64 4):=(World.cell?_of_block (w:=j) (w':=C) (a:=⟨c.heap.size+1,0,none⟩) (d.block (c.heap.size+1) (by omega) (by omega))).trans u.c0
 have k1:C.cell? ⟨c.heap.size+1,1,none⟩=some (.slice none 0 0):=(World.cell?_of_block (w:=j) (w':=C) (a:=⟨c.heap.size+1,1,none⟩) (d.block (c.heap.size+1) (by omega) (by omega))).trans u.c1
 have k2:C.cell? ⟨c.heap.size+1,2,none⟩=some (.slice (some ⟨c.heap.size,0,none⟩) 1 1):=(World.cell?_of_block (w:=j) (w':=C) (a:=⟨c.heap.size+1,2,none⟩) (d.block (c.heap.size+1) (by omega) (by omega))).trans u.c2
 obtain⟨⟨r0,r1,r2⟩,f0,f1,f2⟩:=qbX ((d.block w.heap.size (by omega) (by omega)).trans ((f.block _ (by omega)).trans l))
 have HP:Hid (qbC (m+1) (n+1) w R s i false (.returned (.agg #[.int .i64 4,.slice none 0 0,.slice (some ⟨c.heap.size,0,none⟩) 1 1])) (put3 C w.heap.size 0 (.int .i64 4) (.slice none 0 0) (.slice (some ⟨c.heap.size,0,none⟩) 1 1))):=by
  have J:∀o,C.cell? ⟨c.heap.size,o,none⟩=j.cell? ⟨c.heap.size,o,none⟩:=fun o=>World.cell?_of_block (w:=j) (w':=C) (a:=⟨c.heap.size,o,none⟩) (d.block c.heap.size (by omega) (by omega))
  refine qgI ((E.trans (Near.of_below f)).trans d) hR X (xeD (t:=t) rfl ⟨by omega,by omega⟩ ((J 0).trans y.c0) ((J 1).trans y.c1) ((J 2).trans y.c2) ?_) Y
  refine HT.out.keep (fun b hb=>?_) (fun b hb=>⟨by omega,by omega⟩)
  rw[d.block b (by omega) (by omega),f.block b hb.2]
 clear L d X Y y u y6 f l E A HT Z
 go_wp2_with fail
 refine bodyPost_ret (v:=.agg #[.int .i64 4,.slice none 0 0,.slice (some ⟨c.heap.size,0,none⟩) 1 1]) (by simp[results,results41,go_sem,r0,r1,r2]) rfl ?_
 exact HP.out
end Go.Proofs.YtelogmjfekhmpaaGreatDoor
