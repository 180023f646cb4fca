import Derived.Test.YtcfojmaccikgeaaGreatDoorB24
import Derived.Deep.CutRange
open Go.Value renaming slice→Zs,int→Zi,string→Zt,pointer→Zp,agg→Za,tuple→Zu,bool→Zb
open Go.IntKind renaming i64→Zk
open Go.Ending renaming returned→Zr
open Go.Obj renaming cells→Zc
open Option renaming none→Zn,some→Zo
open Go renaming World→Zw,Value→Zv
open Nat renaming le_refl→Zl,lt_of_lt_of_le→Zd
open Bool renaming and_eq_true→Zq
open List renaming eq_nil_of_length_eq_zero→Zz
namespace Go.Proofs.YtcfojmaccikgeaaGreatDoor
open Go.RowKit Go.Proofs.Tryz
set_option maxRecDepth 100000
set_option maxHeartbeats 16000000
variable {α:Type}
theorem xd(d:α->Nat)(n:Nd α):∀(f:List UInt8)(c:List ZN)(b:List α)(k:Nat),k<=jv d n f c b k:=by
 intro f;induction f with
 | nil=>intro c b k;rw[jv.eq_def];exact Zl _
 | cons p f e=>
  intro c b k;rw[jv.eq_def];dsimp only;split;·have:=e c b (wk k (kL n.sort n.num n.text).length);have:=lu k (kL n.sort n.num n.text).length;omega
  split;·have:=e c b (wk k (Lib.itoa n.num).length);have:=lu k (Lib.itoa n.num).length;omega
  split;·have:=e c b (wk k n.text.size);have:=lu k n.text.size;omega
  split;·have:=e c b (wk (jc d n.names n.kids k) 3);have:=lu (jc d n.names n.kids k) 3;have:=yS d n.names n.kids k;omega
  split
  ·cases c with
   | nil=>exact Zl _
   | cons a q=>have:=e q b (wk k a.size);have:=lu k a.size;show k<=jv d n f q b (wk k a.size);omega
  ·cases b with
   | nil=>exact Zl _
   | cons x q=>have:=e c q (wk k (d x));have:=lu k (d x);show k<=jv d n f c q (wk k (d x));omega
theorem JV:∀k,k<44->84∈jF k->k≠24/\iR k=[84]:=by decide
theorem JX:∀k,k<44->35∈jF k->k≠24/\(iR k=[35]∨iR k=[78,35]):=by decide
theorem JU:∀k,k<44->70∈jF k->k=24:=by decide
theorem Gg:∀k,k<44->0<=lst k/\uu k<=99:=by decide
theorem tu(g:α->Int)(n:Nd α)(k:Nat)(i:n.sort=(k:Int))(b:gZ g n=true):k<44/\(84∈jF k->gM n.sort n.num n.text [] 0=true)/\(35∈jF k->0<=n.num/\n.num<=99)/\(70∈jF k->n.names.length=n.kids.length):=by
 have f:1<=n.sort/\n.sort<=43:=by have h:=b;unfold gZ at h;simp only[Zq,decide_eq_true_eq]at h;exact h.1
 have a:k<44:=om;have c:n.sort.toNat=k:=om;refine⟨a,fun h=>?_,fun h=>?_,fun h=>?_⟩;·obtain⟨e,d⟩:=JV k a h;rw[la g n f.1 f.2 om,c,d]at b;simp only[gr,Zq]at b;exact b.1.1
 ·obtain⟨e,d⟩:=JX k a h;rw[la g n f.1 f.2 om,c]at b;have:=Gg k a;rcases d with d|d<;>rw[d]at b<;>simp only[gr,Zq,decide_eq_true_eq,c]at b;·have:=b.1.1.1;omega
  ·have:=b.1.1.1;omega
 ·have e:=JU k a h;rw[lP g n om]at b;simp only[Zq]at b;have:=b.1;unfold iH at this;simp only[Zq,beq_iff_eq]at this;exact this.1
theorem lz.iter{B b bk ib:Nat}{w0 w:Zw}{v:Zv}{l:List UInt8}{s:ZN}{j:Nat}(h:lz B b bk w0 w v l)(hi:w.heap[ib]?=Zo (.stringIter s j))(x:w0.heap.size<=ib)(y:B<=w0.heap.size)(a:Nat):lz B b bk w0 (w.iterAt ib s a) v l:=by
 have i:b≠ib:=by intro e;have:=h.box;rw[e,hi]at this;cases this
 refine⟨⟨h.own.1,?_⟩,Lib.below_iterAt h.below om _ _,by rw[Lib.iterAt_size];exact h.le,?_,(Lib.iterAt_other w ib b _ _ i).trans h.box,h.ge⟩
 ·rcases h.own.2 with q|⟨g,cap,c,u,d,f,t⟩;·exact .inl q
  ·refine .inr ⟨g,cap,c,u,d,?_,t⟩;rw[Lib.iterAt_other w ib g _ _ (fun e=>by rw[e,hi]at f;cases f)];exact f
 ·intro k o m n r;have p:=(Array.getElem?_eq_some_iff.1 m).1;rw[Lib.iterAt_other w ib k _ _ om];exact h.kept k o m n r
structure rg(m B wb bk:Nat)(W0 wr:Zw)(n:Nd (T m))(d:Int)(k pos ib L:Nat)(a b v:Zv)(l:List UInt8)(ns:List ZN)(ks:List (T m)):Prop where
 wrt:lz B wb bk W0 wr v l
 iter:wr.heap[ib]?=Zo (.stringIter (bs (jF k)) pos)
 le:pos<=(jF k).length
 names:fL (fun b=>b<B) W0 ns a
 capn:mn a
 kids:ik (fun b=>b<B) W0 (fT (fun b=>b<B) W0 m) ks b
 capk:mn b
 len:jv (gw m) n ((jF k).drop pos) ns ks l.length=L
 fit:lC (jM m) ((jF k).drop pos) ns ks
 good:ks.all (fun x=>gp m x d)=true
theorem DS (m:Nat) (hn:EY m) (B G bk:Nat) (w:Zw) (v:Zv) (l:List UInt8) (n:Nd (T m)) (na ka:ZO) (nc kc:Nat) (d:Int) (h:lz B G bk w w v l) (bo:(Lit.int Zk n.sort).wf=true) (bp:(Lit.int Zk n.num).wf=true) (hx:n.text.size<=maxLen)
  (h3:fL (fun b=>b<B) w n.names (Zs na n.names.length nc)) (bf:n.names.length<=nc) (h4:ik (fun b=>b<B) w (fT (fun b=>b<B) w m) n.kids (Zs ka n.kids.length kc)) (bg:n.kids.length<=kc) (au:lg w bk) (aE:bk<B)
  (Y:gZ (jM m) n=true) (hg:n.kids.all (fun x=>gp m x d)=true) (hl:wk l.length (kD (gw m) n)<=800000) (hT:rM B w) :
  Calls prog 148 #[Zp (Zo ⟨G,0,Zn⟩),Za #[Zi Zk n.sort,Zi Zk n.num,Zt n.text,Zs na n.names.length nc,Zs ka n.kids.length kc]] w (nO B G bk w (wk l.length (kD (gw m) n))):=by
 obtain⟨k,hk⟩:∃k:Nat,n.sort=(k:Int):=⟨n.sort.toNat,by
  have h:=Y
  unfold gZ at h;simp only[Zq,decide_eq_true_eq]at h;omega⟩
 obtain⟨ah,aH,aG,aF⟩:=tu (jM m) n k hk Y;have am:n.sort.toNat=k:=om;obtain⟨aB,ay⟩:=F7 (jM m) (gw m) n Y l.length;rw[am]at aB ay;obtain⟨W1,ai⟩:=ii (w.alloc (Zc #[Zi Zk n.sort,Zi Zk n.num,Zt n.text,Zs na n.names.length nc,Zs ka n.kids.length kc] 40));obtain⟨W2,aj⟩:=ii ((W1.alloc (Zc #[Zt (ld k),Zt (bs (jF k)),Zi Zk (lst k),Zi Zk (uu k)] 174)).drew);have aI:lz B G bk w W1 v l:=by rw[ai];exact h.alloc _
 have aJ:lz B G bk w W2 v l:=by rw[aj];exact (aI.alloc _).drew
 have bO:=h.lt;have bR:=h.le;have aV:W1.heap.size=w.heap.size+1:=by rw[ai];simp
 have bL:W2.heap.size=w.heap.size+2:=by rw[aj];show (W1.heap.push _).size=_;simp;exact aV
 have av:W1.heap[w.heap.size]?=Zo (Zc #[Zi Zk n.sort,Zi Zk n.num,Zt n.text,Zs na n.names.length nc,Zs ka n.kids.length kc] 40 (0,0)):=by rw[ai];exact heap_alloc_last _ _
 have aw:W2.heap[w.heap.size]?=Zo (Zc #[Zi Zk n.sort,Zi Zk n.num,Zt n.text,Zs na n.names.length nc,Zs ka n.kids.length kc] 40 (0,0)):=by rw[aj];exact (Below.heap_alloc _ _ _ (by show w.heap.size<W1.heap.size;omega)).trans av
 have af:W2.heap[w.heap.size+1]?=Zo (Zc #[Zt (ld k),Zt (bs (jF k)),Zi Zk (lst k),Zi Zk (uu k)] 174 (0,0)):=by rw[aj,<- aV];exact heap_alloc_last W1 _
 obtain⟨b0,b1,b2,b3⟩:=au k ah;have bM:=au.lt;obtain⟨r0,-,-⟩:=h.cells;have y0:W2.cell? ⟨w.heap.size+1,0,Zn⟩=Zo (Zt (ld k)):=by simp[World.cell?,af]
 rw[hk]at ai;have bD:=a7 ai;have bE:=a7 aj;have aD:=a7 aJ;have bx:=a7 aB;have bu:=a7 ay;have bP:=a7 hn;have bt:Hid (∀ (wr:Zw) (U:Zv) (u:List UInt8),lz B G bk w wr U u->70∈jF k->jc (gw m) n.names n.kids u.length<=800000 ->
   Calls prog 189 #[Zp (Zo ⟨G,0,Zn⟩),Za #[Zi Zk (k:Int),Zi Zk n.num,Zt n.text,Zs na n.names.length nc,Zs ka n.kids.length kc]] wr (nO B G bk wr (wk (jc (gw m) n.names n.kids u.length) 3))):=by
  intro wr U u N hF aR
  have:=Ar m hn B G bk wr U u n na ka nc kc d N.here (h3.keep N.same (fun _ h=>h)) (h4.keepN N.same (fun _ h=>h)) (aF hF) (au.keep (N.below.block bk aE)) aE hg aR (hT.on N.below)
  rw[hk]at this
  exact this
 have HK:Hid (∀ (wr:Zw) (U:Zv) (u:List UInt8) (t:T m) (c0 c1 c2 c3 c4:Zv),lz B G bk w wr U u->fT (fun b=>b<B) wr m t c0 c1 c2 c3 c4->gp m t d=true->wk u.length (gw m t)<=800000 ->
   Calls prog 148 #[Zp (Zo ⟨G,0,Zn⟩),Za #[c0,c1,c2,c3,c4]] wr (nO B G bk wr (wk u.length (gw m t)))):=by
  intro wr U u t c0 c1 c2 c3 c4 N al ak aR
  exact hn B G bk wr U u t _ _ _ _ _ d N.here al (au.keep (N.below.block bk aE)) aE ak aR (hT.on N.below)
 have bC:Hid (∀(wr:Zw)(U:Zv)(u:List UInt8),lz B G bk w wr U u->84∈jF k->Calls prog 187 #[Za #[Zi Zk (k:Int),Zi Zk n.num,Zt n.text,Zs Zn 0 0,Zs Zn 0 0]] wr fun e w'=>e=Zr (Zt (bs (kL n.sort n.num n.text)))/\Bw wr w'):=by
  intro wr U u N bb;have bI:ly wr:=fun w2 h2=>(hT.on N.below) w2 (h2.mono N.le);have:=uK 1 (fun _=>False) (lF n.sort n.num n.text) _ _ _ _ _ wr (tw _ wr n.sort n.num n.text bo bp hx) (fun _ h=>h.elim) bI;have e:uh 1 (lF n.sort n.num n.text)=bs (kL n.sort n.num n.text):=by unfold uh;rw[if_pos (by rw[B4];exact aH bb)];rfl
  rw[e,hk]at this;rw[hk];exact this
 have bB:Hid (∀w,Calls prog 181 #[Za #[Zi Zk (k:Int),Zi Zk n.num,Zt n.text,Zs na n.names.length nc,Zs ka n.kids.length kc]] w _):=fun w=>oz k n.num n.text na ka n.names.length n.kids.length nc kc w;have bv:Hid (35∈jF k->∀w,Calls prog 188 #[Zi Zk n.num] w fun e w'=>e=Zr (Zt (bs (Lib.itoa n.num)))/\w'=w):=by
  intro hN w;obtain⟨h0,bQ⟩:=aG hN;have:=Tryz.strconv_Itoa_small n.num.toNat om w;rw[show ((n.num.toNat:Nat):Int)=n.num by omega]at this;have e:Lib.itoa n.num=Lib.decDigits n.num.toNat:=by unfold Lib.itoa;rw[if_neg om]
  rw[e];exact this
 have bz:Hid (fL (fun b=>b<B) w n.names (Zs na n.names.length nc)/\ik (fun b=>b<B) w (fT (fun b=>b<B) w m) n.kids (Zs ka n.kids.length kc)/\n.names.length<=nc/\n.kids.length<=kc/\n.kids.all (fun x=>gp m x d)=true):=⟨h3,h4,bf,bg,hg⟩;rw[hk];have bw:=a7 hk;have aZ:=a7 hl;have bF:=a7 (uq k ah);clear h3 h4 au hn hT Y hg aH aG aF aB ay aI aJ ai aj bf bg am hl bo bp hx hk;have an:=a7 aw;have ap:=a7 af;have aK:w.heap.size+2<=W2.heap.size:=om;clear av aw af;go_in;go_wp2_with fail;go_region;rw[<- bD.out,<- bE.out];clear b0 b1 b2 b3 r0 aV;go_upto_if 21 with fail;go_cut [] from 9 to 25 (fun wx=>∃v3 l3,lz B G bk w wx v3 l3/\l3.length=EK k l.length/\wx.heap[w.heap.size]?=Zo (Zc #[Zi Zk n.sort,Zi Zk n.num,Zt n.text,Zs na n.names.length nc,Zs ka n.kids.length kc] 40 (0,0))/\wx.heap[w.heap.size+1]?=Zo (Zc #[Zt (ld k),Zt (bs (jF k)),Zi Zk (lst k),Zi Zk (uu k)] 174 (0,0))/\w.heap.size+2<=wx.heap.size);case first=>
  have X:Hid ((!(ld k).toList.isEmpty)=true↔(ld k).size≠0):=by show _↔_;rw[ByteArray.toList_eq];have h2:(ld k).data.toList.length=(ld k).size:=zS;rw[<- h2];cases (ld k).data.toList<;>simp
  have bJ:(ld k).size<=6:=by
   have:=bF.out;by_cases h5:k<5;·have:=this.1 h5;omega
   ·exact (this.2 om).2
  have aX:=a7 (mj B G bk W2 v l (ld k) aD.out.here (by have:=aZ.out;have:=lu l.length (kD (gw m) n);omega));clear bJ;go_wp2_with fail
  ·have h0:=X.out.1 (by assumption);refine aX.out.mono ?_;rintro e W3 ⟨rfl,v3,l3,bq,aA⟩;have HR:=a7 bq;have aM:Hid (l3.length=EK k l.length):=by show _=_;unfold EK;rw[if_neg h0];exact aA
   clear bq aA aX;go_wp2;go_meet;have hr:=HR.out.kept (w.heap.size+1) _ ap.out zE (fun c fz e=>by cases e);exact⟨v3,l3,HR.out.from aD.out,aM.out,HR.out.kept w.heap.size _ an.out zE (fun c fz e=>by cases e),hr,(Array.getElem?_eq_some_iff.1 hr).1⟩
  ·have hw:(!(ld k).toList.isEmpty)=false:=by assumption
   have h0:=Decidable.of_not_not fun h=>by rw[X.out.2 h]at hw;cases hw
   go_meet;exact⟨v,l,aD.out,by unfold EK;rw[if_pos h0],an.out,ap.out,aK⟩
 case rest=>
  obtain⟨v3,l3,bc,aA,be,bn,br⟩:=hcut;have aL:=a7 bc;have aM:=a7 aA;have aW:=a7 be;have bA:=a7 bn;have bG:=a7 br;clear bc aA be bn br y0 an ap bL aK aD;have aa:=aL.out;have bH:=aa.le;have bT:=bG.out;obtain⟨p0,p1,p2,p3,p4⟩:=fZ aW.out;have p5:wc.cell? ⟨w.heap.size+1,1,Zn⟩=Zo (Zt (bs (jF k))):=by simp[World.cell?,bA.out]
  have HJ:Hid (∀j,rg m B G bk wc ((wc.drewN j).iter (bs (jF k)) 0) n d k 0 wc.heap.size (wk l.length (kD (gw m) n)) (Zs na n.names.length nc) (Zs ka n.kids.length kc) v3 l3 n.names n.kids):=by
   intro j;obtain⟨g3,g4,g5,g6,g7⟩:=bz.out;refine⟨?_,World.iter_heap (wc.drewN j) _ _,Nat.zero_le _,g3.keep aa.same (fun _ h=>h),⟨_,_,_,rfl,g5⟩,g4.keepN aa.same (fun _ h=>h),⟨_,_,_,rfl,g6⟩,?_,?_,g7⟩;·have h0:lz B G bk wc (wc.drewN j) v3 l3:=⟨aa.own,⟨rfl,rfl,rfl,Zl _,fun _ _=>rfl⟩,aa.le,fun _ _ h _ _=>h,aa.box,aa.ge⟩;exact h0.alloc _
   ·have h0:=bx.out;rw[<- aM.out]at h0;rw[List.drop_zero];exact h0
   ·rw[List.drop_zero];exact bu.out
  clear aa;go_wp2_with fail;go_quiet (fail);go_wp2;go_loopw [5,6] (fun a b wr=>∃i U u ns ks,rg m B G bk wc wr n d k i wc.heap.size (wk l.length (kD (gw m) n)) a b U u ns ks) (fun _ _ wr=>(jF k).length-wr.iterPos wc.heap.size);case atStart=>exact⟨0,_,_,_,_,HJ.out _⟩
  case round=>
   obtain⟨i,U,u,ns,ks,Y⟩:=hrel;have bS:=Y.le;have ae:=Y.iter;by_cases hp:i<(jF k).length
   ·have o:=fun ty=>Lib.run_next_ascii_at (P:=prog) wr wc.heap.size (bs (jF k)) i ty ae (by rw[gq];exact hp) (by rw[sS];exact vM k ah _ (List.getElem_mem hp));rw[sS]at o;obtain⟨V,hV⟩:=ii (wr.iterAt wc.heap.size (bs (jF k)) (i+1));rw[<- hV]at o;have aC:lz B G bk wc V U u:=by rw[hV];exact Y.wrt.iter ae (Zl _) bH _
    have bl:V.heap[wc.heap.size]?=Zo (.stringIter (bs (jF k)) (i+1)):=by rw[hV];exact Lib.iterAt_heap _ _ _ _ _ ae
    have bd:=aC.kept w.heap.size _ aW.out zE (fun c fz e=>by cases e);obtain⟨z0,z1,z2,z3,z4⟩:=fZ bd;rw[bw.out]at z0;have ad:=List.drop_eq_getElem_cons hp;have H:=List.getElem_mem hp;have f:=Y.len;rw[ad]at f;have g:=Y.fit;rw[ad]at g;obtain⟨xa,xl,xc,rfl,bh⟩:=Y.capn;obtain⟨ya,yl,yc,rfl,bi⟩:=Y.capk;have HI:=a7 (iterPos_of ae);have O:=a7 aC;have aO:=a7 (aC.from aL.out);have r:=a7 Y;have bN:=aZ.out;have M:Hid (∀(K:Zw)(L:Zv)(J:List UInt8),lz B G bk V K L J->lz B G bk wc K L J/\K.heap[wc.heap.size]?=Zo (.stringIter (bs (jF k)) (i+1))/\K.iterPos wc.heap.size=i+1):=by intro K L J h6;have bj:=h6.kept wc.heap.size _ bl zE (fun c fz e=>by cases e);exact⟨h6.from aC,bj,iterPos_of bj⟩
    have W:=fun q=>xd (gw m) n ((jF k).drop (i+1)) ns ks q;clear Y ae hV aC bl bd ad;rcases xv k ah _ H with Z|Z|Z|Z|Z|Z|Z|Z
    ·rw[Z]at f g o H;have I:=o;rw[JQ]at f;rw[Aw _ (.inl rfl)]at g;have D:=W (wk u.length (kL n.sort n.num n.text).length);rw[f]at D;have S:=lu u.length (kL n.sort n.num n.text).length;have A:=a7 f;have s:=a7 g;have bK:u.length+1+(bs (kL n.sort n.num n.text)).size<=900000:=by rw[gq];omega
     clear f g o W D S Z;go_wp2_with fail;refine (bB.out _).mono ?_;rintro e w4 ⟨rfl,aP⟩;have ao:=a7 (bC.out w4 U u (aO.out.on aP) H);have aN:=a7 (O.out.here.on aP);clear aP;go_wp2_with fail;refine ao.out.mono ?_;rintro e w5 ⟨rfl,aQ⟩;have ba:=a7 (aN.out.on aQ);have y:=a7 (mj B G bk w5 U u _ (aN.out.on aQ).here bK);clear aQ ao aN;go_wp2_with fail;refine y.out.mono ?_;rintro e K ⟨rfl,L,J,F,E⟩;have C:=a7 (F.from ba.out);have z:Hid (J.length=wk u.length (kL n.sort n.num n.text).length):=by show _=_;rw[E,gq]
     clear F E y ba;have X:Hid (rg m B G bk wc K n d k (i+1) wc.heap.size (wk l.length (kD (gw m) n)) (Zs xa xl xc) (Zs ya yl yc) L J ns ks/\K.iterPos wc.heap.size=i+1):=by obtain⟨g1,g2,g3⟩:=M.out K L J C.out;exact⟨⟨g1,g2,hp,r.out.names,r.out.capn,r.out.kids,r.out.capk,by rw[z.out];exact A.out,s.out,r.out.good⟩,g3⟩
     clear C z A s M I z0 z1 z2 z3 z4;go_wp2;go_roundw;case rel=>exact⟨i+1,L,J,_,_,X.out.1⟩
     case measure=>rw[X.out.2,HI.out];omega
    ·rw[Z]at f g o H;have I:=o;rw[JP]at f;rw[Aw _ (.inr (.inr (.inl rfl)))]at g;have D:=W (wk u.length n.text.size);rw[f]at D;have S:=lu u.length n.text.size;have A:=a7 f;have s:=a7 g;have y:=a7 (mj B G bk V U u n.text O.out.here om);clear f g o W D S Z;go_wp2_with fail;refine y.out.mono ?_;rintro e K ⟨rfl,L,J,F,E⟩;have C:=a7 F;have z:=a7 E;clear F E y;have X:Hid (rg m B G bk wc K n d k (i+1) wc.heap.size (wk l.length (kD (gw m) n)) (Zs xa xl xc) (Zs ya yl yc) L J ns ks/\K.iterPos wc.heap.size=i+1):=by obtain⟨g1,g2,g3⟩:=M.out K L J C.out;exact⟨⟨g1,g2,hp,r.out.names,r.out.capn,r.out.kids,r.out.capk,by rw[z.out];exact A.out,s.out,r.out.good⟩,g3⟩
     clear C z A s M I z0 z1 z2 z3 z4;go_wp2;go_roundw;case rel=>exact⟨i+1,L,J,_,_,X.out.1⟩
     case measure=>rw[X.out.2,HI.out];omega
    ·rw[Z]at f g o H;have I:=o;rw[JO]at f;rw[Aw _ (.inr (.inr (.inr rfl)))]at g;have D:=W (wk (jc (gw m) n.names n.kids u.length) 3);rw[f]at D;have S:=lu (jc (gw m) n.names n.kids u.length) 3;have A:=a7 f;have s:=a7 g;have y:=a7 (bt.out V U u aO.out H om);clear f g o W D S Z;go_wp2_with fail;refine y.out.mono ?_;rintro e K ⟨rfl,L,J,F,E⟩;have C:=a7 F;have z:=a7 E;clear F E y;have X:Hid (rg m B G bk wc K n d k (i+1) wc.heap.size (wk l.length (kD (gw m) n)) (Zs xa xl xc) (Zs ya yl yc) L J ns ks/\K.iterPos wc.heap.size=i+1):=by obtain⟨g1,g2,g3⟩:=M.out K L J C.out;exact⟨⟨g1,g2,hp,r.out.names,r.out.capn,r.out.kids,r.out.capk,by rw[z.out];exact A.out,s.out,r.out.good⟩,g3⟩
     clear C z A s M I z0 z1 z2 z3 z4;go_wp2;go_roundw;case rel=>exact⟨i+1,L,J,_,_,X.out.1⟩
     case measure=>rw[X.out.2,HI.out];omega
    ·rw[Z]at f g o H;have I:=o;rw[Jk]at f;rw[Aw _ (.inr (.inl rfl))]at g;have D:=W (wk u.length (Lib.itoa n.num).length);rw[f]at D;have S:=lu u.length (Lib.itoa n.num).length;have A:=a7 f;have s:=a7 g;have ao:=a7 (bv.out H V);have y:=a7 (mj B G bk V U u (bs (Lib.itoa n.num)) O.out.here (by rw[gq];omega));clear f g o W D S Z;go_wp2_with fail;refine ao.out.mono ?_;rintro e w5 ⟨rfl,rfl⟩;go_wp2_with fail;refine y.out.mono ?_;rintro e K ⟨rfl,L,J,F,E⟩;have C:=a7 F;have z:Hid (J.length=wk u.length (Lib.itoa n.num).length):=by show _=_;rw[E,gq]
     clear F E y ao;have X:Hid (rg m B G bk wc K n d k (i+1) wc.heap.size (wk l.length (kD (gw m) n)) (Zs xa xl xc) (Zs ya yl yc) L J ns ks/\K.iterPos wc.heap.size=i+1):=by obtain⟨g1,g2,g3⟩:=M.out K L J C.out;exact⟨⟨g1,g2,hp,r.out.names,r.out.capn,r.out.kids,r.out.capk,by rw[z.out];exact A.out,s.out,r.out.good⟩,g3⟩
     clear C z A s M I z0 z1 z2 z3 z4;go_wp2;go_roundw;case rel=>exact⟨i+1,L,J,_,_,X.out.1⟩
     case measure=>rw[X.out.2,HI.out];omega
    iterate 2
     ·rw[Z]at f g o H
      first
       | have I:∀ty,(Instr.next (Zp (Zo ⟨wc.heap.size,0,Zn⟩)) true ty).run prog wr=.ok (Zu #[Zb true,Zi Zk (i:Int),Zi .i32 78]) V:=o
       | have I:∀ty,(Instr.next (Zp (Zo ⟨wc.heap.size,0,Zn⟩)) true ty).run prog wr=.ok (Zu #[Zb true,Zi Zk (i:Int),Zi .i32 88]) V:=o
      obtain⟨nm,nq,rfl,az⟩:=Ka _ (by first|exact .inl rfl|exact .inr rfl) _ _ _ g
      first
       | rw[yV _ _ (.inl rfl)]at f
       | rw[yV _ _ (.inr rfl)]at f
      have D:=xd (gw m) n ((jF k).drop (i+1)) nq ks (wk u.length nm.size)
      rw[f]at D
      have S:=lu u.length nm.size
      obtain⟨_,_,hv,aU,-,ax⟩:=id r.out.names
      cases hv
      obtain⟨b,off,rfl,ab,R⟩:=ax zS
      have e0:=R 0 zS
      have e1:=(O.out.below.cell (p:=⟨b,off,Zn⟩) ab).trans e0
      simp only[List.getElem_cons_zero]at e1
      have aS:1<=(nm :: nq).length:=zS
      have ag:=r.out.names.tail bh
      clear ax R e0
      generalize am:(nm :: nq).length=kn at *
      have aT:=nC (P:=prog) 23 1 underlying23 (fun _=>by simp[go_sem]) (Zo ⟨b,off,Zn⟩) kn xc aS
      obtain⟨ta,tn,tc,ac⟩:∃ta tn tc,sliced (Zo ⟨b,off,Zn⟩) 1 kn xc 1=Zs ta tn tc:=⟨_,_,_,rfl⟩
      have Q:mn (Zs ta tn tc):=by
       rw[<- ac];exact⟨_,_,_,rfl,om⟩
      rw[ac]at aT ag
      have A:=a7 f
      have s:=a7 az
      have ar:=a7 ag
      have aq:=a7 Q
      have y:=a7 (mj B G bk V U u nm O.out.here om)
      have bm:(1:Int)<=(kn:Int):=om
      unfold maxLen at aU
      clear f g o W D S Z ag Q ac az am
      go_wp2_with fail
      refine y.out.mono ?_
      rintro e K ⟨rfl,L,J,F,E⟩
      have C:=a7 F
      have z:=a7 E
      clear F E y
      have X:Hid (rg m B G bk wc K n d k (i+1) wc.heap.size (wk l.length (kD (gw m) n)) (Zs ta tn tc) (Zs ya yl yc) L J nq ks/\K.iterPos wc.heap.size=i+1):=by
       obtain⟨g1,g2,g3⟩:=M.out K L J C.out
       exact⟨⟨g1,g2,hp,ar.out,aq.out,r.out.kids,r.out.capk,by rw[z.out];exact A.out,s.out,r.out.good⟩,g3⟩
      clear C z A s M I z0 z1 z2 z3 z4 ar aq e1
      go_wp2
      go_roundw
      case rel=>exact⟨i+1,L,J,_,_,X.out.1⟩
      case measure=>rw[X.out.2,HI.out];omega
    iterate 2
     ·rw[Z]at f g o H
      first
       | have I:∀ty,(Instr.next (Zp (Zo ⟨wc.heap.size,0,Zn⟩)) true ty).run prog wr=.ok (Zu #[Zb true,Zi Zk (i:Int),Zi .i32 86]) V:=o
       | have I:∀ty,(Instr.next (Zp (Zo ⟨wc.heap.size,0,Zn⟩)) true ty).run prog wr=.ok (Zu #[Zb true,Zi Zk (i:Int),Zi .i32 65]) V:=o
      obtain⟨kx,kq,rfl,-,az⟩:=Kb _ (by first|exact .inl rfl|exact .inr rfl) _ _ _ g
      first
       | rw[JT _ _ (.inl rfl)]at f
       | rw[JT _ _ (.inr rfl)]at f
      have D:=xd (gw m) n ((jF k).drop (i+1)) ns kq (wk u.length (gw m kx))
      rw[f]at D
      have S:=lu u.length (gw m kx)
      have ak:=r.out.good
      simp only[List.all_cons,Zq]at ak
      obtain⟨_,_,hv,aU,ax⟩:=id r.out.kids
      cases hv
      obtain⟨b,off,rfl,ab,R⟩:=ax zS
      obtain⟨d0,d1,d2,d3,d4,k0,k1,k2,k3,k4,al⟩:=R 0 zS
      obtain⟨x0,x1,x2,bU,bW,bV,bX,bZ,bY,rfl,rfl,rfl,rfl,rfl⟩:=al.shape
      simp only[Nat.zero_mul,Nat.add_zero,List.getElem_cons_zero]at k0 k1 k2 k3 k4 al
      have o0:=(O.out.below.cell (p:=⟨b,off,Zn⟩) ab).trans k0
      have o1:=(O.out.below.cell (p:=⟨b,off+1,Zn⟩) ab).trans k1
      have o2:=(O.out.below.cell (p:=⟨b,off+2,Zn⟩) ab).trans k2
      have o3:=(O.out.below.cell (p:=⟨b,off+3,Zn⟩) ab).trans k3
      have o4:=(O.out.below.cell (p:=⟨b,off+4,Zn⟩) ab).trans k4
      have y:=a7 (HK.out V U u kx _ _ _ _ _ aO.out (al.keep O.out.same (fun _ h=>h)) ak.1 om)
      have aS:1<=(kx :: kq).length:=zS
      have ag:=r.out.kids.tail bi
      clear R ax k0 k1 k2 k3 k4 al
      generalize am:(kx :: kq).length=kn at *
      have aT:=nC (P:=prog) 38 5 underlying38 (fun _=>by simp[go_sem]) (Zo ⟨b,off,Zn⟩) kn yc aS
      obtain⟨ta,tn,tc,ac⟩:∃ta tn tc,sliced (Zo ⟨b,off,Zn⟩) 1 kn yc 5=Zs ta tn tc:=⟨_,_,_,rfl⟩
      have Q:mn (Zs ta tn tc):=by
       rw[<- ac];exact⟨_,_,_,rfl,om⟩
      rw[ac]at aT ag
      have A:=a7 f
      have s:=a7 az
      have ar:=a7 ag
      have aq:=a7 Q
      have aY:=a7 ak.2
      have bm:(1:Int)<=(kn:Int):=om
      unfold maxLen at aU
      clear f g o W D S Z ag Q ac az am ak
      go_wp2_with fail
      refine y.out.mono ?_
      rintro e K ⟨rfl,L,J,F,E⟩
      have C:=a7 F
      have z:=a7 E
      clear F E y
      have X:Hid (rg m B G bk wc K n d k (i+1) wc.heap.size (wk l.length (kD (gw m) n)) (Zs xa xl xc) (Zs ta tn tc) L J ns kq/\K.iterPos wc.heap.size=i+1):=by
       obtain⟨g1,g2,g3⟩:=M.out K L J C.out
       exact⟨⟨g1,g2,hp,r.out.names,r.out.capn,ar.out,aq.out,by rw[z.out];exact A.out,s.out,aY.out⟩,g3⟩
      clear C z A s M I z0 z1 z2 z3 z4 ar aq aY o0 o1 o2 o3 o4
      go_wp2
      go_roundw
      case rel=>exact⟨i+1,L,J,_,_,X.out.1⟩
      case measure=>rw[X.out.2,HI.out];omega
   ·have I:=fun ty=>Lib.run_next_end_at (P:=prog) wr wc.heap.size (bs (jF k)) i ty ae (by rw[gq];exact hp);have f:=Y.len;rw[List.drop_of_length_le om,jv]at f;have HP:Hid (nO B G bk w (wk l.length (kD (gw m) n)) (Zr (Zu #[])) wr):=⟨rfl,U,u,Y.wrt.from aL.out,f⟩;obtain⟨xa,xl,xc,rfl,bh⟩:=Y.capn;obtain⟨ya,yl,yc,rfl,bi⟩:=Y.capk;clear Y ae f;go_wp2_with fail;refine bodyPost_end (results_none rfl _ _ _) rfl ?_;exact HP.out
theorem DR:∀m,EY m:=by
 intro m;induction m with
 | zero=>intro B p bk w v l t c0 c1 c2 c3 c4 d h a;exact a.elim
 | succ m u=>
  intro B p bk w v l t c0 c1 c2 c3 c4 d h a c b g r q;obtain⟨rfl,rfl,rfl,s,j,k,n,o,⟨na,C,z,rfl,e⟩,⟨x,A,y,rfl,f⟩⟩:=a;obtain⟨_,_,i,-⟩:=id n;cases i
  obtain⟨_,_,i,-⟩:=id o;cases i
  simp only[gp,Zq]at g;exact DS m u B p bk w v l (show Nd (T m) from t) na x z y (d+1) h j k s n e o f c b g.1.2 g.2 r q
theorem Gq(n:Nd α)(k:Nat)(j:5<=k)(h:gr n (iR k)=true)(i:k<44)(g:k≠24):jk n.names+(if n.text.size=0 then 0 else n.text.size+1)<=850:=by
 have nm:∀a,gj a=true->a.size<=8:=fun a d=>by simp only[gj,Zq,decide_eq_true_eq]at d;exact d.1.1.2
 have f:∀a,il a=true->a.size<=8:=fun a d=>nm a (by
  simp only[il,Zq]at d;exact d.1.1.1.1)
 rcases (nx k i).resolve_left g with e|e|e|e|e|e|e|e;·rw[e]at h;simp only[gr,Zq,beq_iff_eq]at h;have c:n.names=[]:=Zz om;rw[if_pos (gH _ h.1.2),c];simp[jk]
 ·exact absurd e (zh k i j)
 ·rw[e]at h;simp only[gr,Zq,beq_iff_eq]at h;have c:n.names=[]:=Zz om;have m:n.text.size<=800:=by have:=h.1.2;unfold jV at this;obtain⟨q,l⟩:=Option.isSome_iff_exists.1 this;exact (kr l).1
  rw[c];simp only[jk];split<;>omega
 ·rw[e]at h;simp only[gr,Zq,beq_iff_eq]at h;have c:n.names=[]:=Zz om;rw[if_pos (gH _ h.1.2),c];simp[jk]
 ·rw[e]at h;simp only[gr,Zq]at h;rw[if_pos (gH _ h.1.2)];match c:n.names,h.2 with
  | [a],h2=>have:=f a h2;simp only[jk];omega
 ·rw[e]at h;simp only[gr,Zq]at h;rw[if_pos (gH _ h.1.2)];match c:n.names,h.2 with
  | [a],h2=>have:=nm a h2;simp only[jk];omega
 ·rw[e]at h;simp only[gr,Zq]at h;rw[if_pos (gH _ h.1.2)];match c:n.names,h.2 with
  | [a,b],h2=>simp only[Zq]at h2;have:=f a h2.1.1;have:=f b h2.1.2;simp only[jk];omega
 ·rw[e]at h;simp only[gr,Zq]at h;rw[if_pos (gH _ h.1.2)];match c:n.names,h.2 with
  | [a],h2=>have:=nm a h2;simp only[jk];omega
theorem As(j:α->Int)(n:Nd α)(h:iH j n=true):jk n.names<=9*n.kids.length:=by
 unfold iH at h;simp only[Zq,beq_iff_eq]at h;have b:=h.2;rw[<- h.1];unfold iN at b;rw[List.all_eq_true]at b;have e:∀(l:List ZN),(∀s,s∈l->s.size<=8)->jk l<=9*l.length:=by
  intro l;induction l with
  | nil=>intro _;simp[jk]
  | cons a r g=>intro c;have k:=c a (List.mem_cons_self ..);have b:=g (fun s d=>c s (List.mem_cons_of_mem _ d));simp only[jk,List.length_cons];omega
 refine e _ fun s c=>?_;obtain⟨i,hi,rfl⟩:=List.getElem_of_mem c;have:=b i (List.mem_range.2 hi);simp only[Zq,kJ,i8]at this;have f:=this.1.1.1;simp only[gj,Zq,decide_eq_true_eq,List.getD_eq_getElem?_getD,List.getElem?_eq_getElem hi,Option.getD_some]at f;exact f.1.1.2
theorem F5(s m:Int)(x:ZN)(h:gM s m x [] 0=true):(kL s m x).length<=800:=by
 have b:ie 1 (lF s m x) 1=true:=by show (decide ((1:Int)<=6) && gM s m x [] 0 && List.all ([]:List (T 0)) _)=_;rw[h];rfl
 have:=mW 1 (lF s m x) 1 b;have a:d9 1 (lF s m x)=1:=rfl;rw[a]at this;unfold kL;omega
theorem FU:∀n:Int,0<=n->n<=99->(Lib.itoa n).length<=20:=by
 intro n b c;unfold Lib.itoa;rw[if_neg om];have a:n.toNat<100:=om;generalize n.toNat=k at a;rw[Lib.decDigits];split;·simp
 ·rw[Lib.decDigits];split;·simp
  ·omega
theorem B5:∀(m:Nat)(t:T m)(d:Int),gp m t d=true->gw m t+100<=1000*d9 m t:=by
 intro m;induction m with
 | zero=>intro t d h;simp[gp]at h
 | succ m H=>
  intro t d h;simp only[gp,Zq,List.all_eq_true]at h;obtain⟨⟨-,B⟩,C⟩:=h;obtain⟨n,j⟩:∃n:Nd (T m),n=t:=⟨t,rfl⟩;have A:d9 (m+1) t=1+b4 (fun k=>d9 m k) n.kids:=by rw[j];rfl
  have D:gw (m+1) t=kD (gw m) n:=by rw[j];rfl
  have q:∀x,x∈n.kids->gp m x (d+1)=true:=by rw[j];exact C
  have b:gZ (jM m) n=true:=by rw[j];exact B
  rw[A,D];have z:b4 (fun x=>gw m x+100) n.kids<=1000*b4 (fun x=>d9 m x) n.kids:=by rw[<- t6];exact xE _ _ _ (fun x u=>H x (d+1) (q x u))
  have E:b4 (fun x=>gw m x+1) n.kids+9*n.kids.length<=b4 (fun x=>gw m x+100) n.kids:=by
   have:∀l:List (T m),b4 (fun x=>gw m x+1) l+9*l.length<=b4 (fun x=>gw m x+100) l:=by
    intro l;induction l with
    | nil=>simp[b4]
    | cons a r I=>simp only[b4,List.length_cons];omega
   exact this _
  obtain⟨k,s⟩:∃k:Nat,n.sort=(k:Int):=⟨n.sort.toNat,by
   have h:=b
   unfold gZ at h;simp only[Zq,decide_eq_true_eq]at h;omega⟩
  have o:1<=n.sort/\n.sort<=43:=by have h:=b;unfold gZ at h;simp only[Zq,decide_eq_true_eq]at h;exact h.1
  obtain⟨e,i,g,y⟩:=tu (jM m) n k s b;have f:n.sort.toNat=k:=om;have F:=uq k e;unfold kD;by_cases v:n.sort<=3;·rw[if_pos v];have:=F5 _ _ _ (i (by rcases (by omega:k=1∨k=2∨k=3) with rfl|rfl|rfl<;>decide));omega
  rw[if_neg v];by_cases w:n.sort=4
  ·rw[if_pos w];rw[la (jM m) n o.1 o.2 om,f,show k=4 by omega,tJ.1]at b;simp only[gr,Zq]at b;match hnn:n.names,b.1.2 with
   | [a],h2=>
    have:a.size<=8:=by simp only[il,gj,Zq,decide_eq_true_eq]at h2;exact h2.1.1.1.1.1.1.2
    simp only[List.headD_cons];omega
  rw[if_neg w,f];have G:=(F.2 om).2;by_cases c:n.sort=24;·rw[lP (jM m) n c]at b;simp only[Zq]at b;have u:=gH _ b.2.2;have J:=As (jM m) n b.1;rw[if_pos u,if_neg om,if_pos c];omega
  ·rw[la (jM m) n o.1 o.2 c,f]at b;simp only[Zq]at b;have K:=Gq n k om b.1 e om;have hi:(if n.sort=37∨n.sort=39 then (Lib.itoa n.num).length+1 else 0)<=21:=by
    split
    ·have p:35∈jF k:=by have:k=37∨k=39:=om;rcases this with rfl|rfl<;>decide
     have:=g p;have:=FU n.num this.1 this.2;omega
    ·omega
   rw[if_neg c];omega
def EJ(m:Nat)(t:T m):Bool:=gp m t 1 && decide (d9 m t<=200) && decide (gw m t<=3000)
theorem Bq (m bk:Nat) (S:ZP) (w:Zw) (t:T m) (c0 c1 c2 c3 c4:Zv) (d:Int) (f:fT S w m t c0 c1 c2 c3 c4) (G:Bd S w) (c:lg w bk) (H:gp m t d=true) (hc:d9 m t<=200) (O:ly w) :
  Calls prog 112 #[Zp (Zo ⟨bk,0,Zn⟩),Za #[c0,c1,c2,c3,c4]] w fun e Y=>Bw w Y/\∃s,e=Zr (Zt s)/\s.size=gw m t:=by
 obtain⟨v,x,y,z,B,A,C,E,D,rfl,rfl,rfl,rfl,rfl⟩:=f.shape;have U:=B5 m t d H;obtain⟨W,p⟩:=ii ((w.alloc (Zc #[Zi Zk v,Zi Zk x,Zt y,Zs z B A,Zs C E D] 40)).alloc (Zc #[Zp (Zo ⟨bk,0,Zn⟩),Zs Zn 0 0] 219));have b:Bw w W:=by rw[p];exact (gx _ _).alloc zS _
 have hz:W.heap.size=w.heap.size+2:=by rw[p];simp
 have n:W.heap[w.heap.size+1]?=Zo (Zc #[Zp (Zo ⟨bk,0,Zn⟩),Zs Zn 0 0] 219 (0,0)):=by have:=heap_alloc_last (w.alloc (Zc #[Zi Zk v,Zi Zk x,Zt y,Zs z B A,Zs C E D] 40)) (Zc #[Zp (Zo ⟨bk,0,Zn⟩),Zs Zn 0 0] 219);rw[show (w.alloc (Zc #[Zi Zk v,Zi Zk x,Zt y,Zs z B A,Zs C E D] 40)).heap.size=w.heap.size+1 by simp]at this;rw[p];exact this
 have o:lz w.heap.size (w.heap.size+1) bk W W (Zs Zn 0 0) []:=⟨World.ownsRow_nil _ _ _ _,Below.refl _ _,om,Lib.OthersKept.refl _ _ _,n,om⟩;have i:rM w.heap.size W:=fun Z N=>O Z (b.trans N);have F:=a7 (DR m w.heap.size (w.heap.size+1) bk W _ [] t _ _ _ _ _ d o (f.keep (a6 b G) G) (c.keep (b.block bk c.lt)) c.lt H (by simp only[List.length_nil,wk,if_true];omega) i);have r:=a7 b;clear f c o i b n;subst p;go_in;go_wp2_with fail;refine F.out.mono ?_;rintro e w1 ⟨rfl,v1,q,a,k⟩;obtain⟨-,L,-⟩:=a.cells;obtain⟨V,X,I,rfl⟩:=a.buf.shape;have h:q.length=gw m t:=by rw[k];rfl
 have K:=a7 (r.out.trans a.below);have HL:=a7 h;have Q:(convert 156 9 (Zs V X I)).run prog w1=.ok (Zt (bs q)) w1:=by
  by_cases l:q=[]
  ·subst l;rcases a.own.2 with ⟨u,-⟩|⟨g,cap,M,u,-⟩;·cases u;exact run_convert_bytes_nil w1 156 5 underlying156 underlying5 0 0 9 underlying9
   ·cases u
    exact run_convert_bytes_back (P:=prog) w1 156 9 5 ⟨g,0,Zn⟩ I [] underlying156 underlying5 underlying9 (fun j R=>by simp at R)
  ·exact kU _ _ _ _ _ a.buf l
 have J:Hid ((bs q).size=gw m t):=by show _=_;rw[gq];exact h
 clear a F k h;go_wp2;go_ret;exact⟨K.out,_,rfl,J.out⟩
theorem Ag (m bk:Nat) (S:ZP) (w:Zw) (t:T m) (c0 c1 c2 c3 c4:Zv) (j:fT S w m t c0 c1 c2 c3 c4) (M:Bd S w) (i:lg w bk) (K:jR m t<=1048576) (Y:ly w) :
  Calls prog 79 #[Zp (Zo ⟨bk,0,Zn⟩),Za #[c0,c1,c2,c3,c4]] w fun e Q=>e=Zr (Zb (EJ m t))/\Bw w Q:=by
 have aa:∀(V:Fn)(first cap:Array Zv)(w:Zw),(Instr.makeFunc V first cap).run prog w=.ok (.func V first cap) w:=fun _ _ _ _=>rfl;obtain⟨u,v,x,y,A,z,B,D,C,rfl,rfl,rfl,rfl,rfl⟩:=j.shape;obtain⟨W,q⟩:=ii (((w.alloc (Zc #[Zp (Zo ⟨bk,0,Zn⟩)] 127)).alloc (Zc #[Zi Zk u,Zi Zk v,Zt x,Zs y A z,Zs B D C] 40)).alloc (Zc #[Zi Zk 0] 3));have f:Bw w W:=by rw[q];exact ((gx _ _).alloc zS _).alloc zE _
 have hz:W.heap.size=w.heap.size+3:=by rw[q];simp
 have k:=i.lt;have n:lm W (w.heap.size+1+1) 0:=by have:=lm.new ((w.alloc (Zc #[Zp (Zo ⟨bk,0,Zn⟩)] 127)).alloc (Zc #[Zi Zk u,Zi Zk v,Zt x,Zs y A z,Zs B D C] 40)) 0;rw[show ((w.alloc (Zc #[Zp (Zo ⟨bk,0,Zn⟩)] 127)).alloc (Zc #[Zi Zk u,Zi Zk v,Zt x,Zs y A z,Zs B D C] 40)).heap.size=w.heap.size+1+1 by simp]at this;rw[q];exact this
 have o:W.cell? ⟨w.heap.size,0,Zn⟩=Zo (Zp (Zo ⟨bk,0,Zn⟩)):=by rw[q];simp[go_sem]
 have c:(W.cell? ⟨w.heap.size+1,0,Zn⟩=Zo (Zi Zk u)/\W.cell? ⟨w.heap.size+1,1,Zn⟩=Zo (Zi Zk v)/\W.cell? ⟨w.heap.size+1,2,Zn⟩=Zo (Zt x))/\W.cell? ⟨w.heap.size+1,3,Zn⟩=Zo (Zs y A z)/\W.cell? ⟨w.heap.size+1,4,Zn⟩=Zo (Zs B D C):=by rw[q];refine⟨⟨?_,?_,?_⟩,?_,?_⟩<;>simp[go_sem]
 have l:=j.keep (a6 f M) (fun _ h=>h);have L:=a7 (Er m S t _ _ _ _ _ 1 0 (w.heap.size+1+1) w.heap.size bk W l (fun b O=>by have:=M b O;omega) ⟨n,o,i.keep (f.block bk k),om,om⟩ K om om om om);unfold J2 at L;have N:Hid (∀ w1,b8 (w.heap.size+1+1) W w1->gp m t 1=true->d9 m t<=200->(Calls prog 112 #[Zp (Zo ⟨bk,0,Zn⟩),Za #[Zi Zk u,Zi Zk v,Zt x,Zs y A z,Zs B D C]] w1 fun e Q=>Bw w1 Q/\∃ s,e=Zr (Zt s)/\s.size=gw m t) /\
   (w1.cell? ⟨w.heap.size,0,Zn⟩=Zo (Zp (Zo ⟨bk,0,Zn⟩))/\w1.cell? ⟨w.heap.size+1,0,Zn⟩=Zo (Zi Zk u)/\w1.cell? ⟨w.heap.size+1,1,Zn⟩=Zo (Zi Zk v)/\w1.cell? ⟨w.heap.size+1,2,Zn⟩=Zo (Zt x)/\w1.cell? ⟨w.heap.size+1,3,Zn⟩=Zo (Zs y A z)/\w1.cell? ⟨w.heap.size+1,4,Zn⟩=Zo (Zs B D C))):=by
  intro w1 d J P
  have a:=f.trans (d.below om om)
  refine⟨Bq m bk S w1 t _ _ _ _ _ 1 (j.keep (a6 a M) (fun _ h=>h)) (fun b O=>Zd (M b O) a.size) (i.keep (a.block bk k)) J P (Y.step a),d.cell o om,d.cell c.1.1 om,d.cell c.1.2.1 om,d.cell c.1.2.2 om,d.cell c.2.1 om,d.cell c.2.2 om⟩
 have R:=a7 f;have HZ:=a7 hz;clear j l n o c f hz i Y K;subst q;go_in;go_wp2_with fail;refine L.out.mono ?_;rintro e w1 ⟨d,r,rfl,g,p⟩;have a:=R.out.trans (d.below om R.out.size);cases r with
 | false=>
  have G:Hid (EJ m t=false/\Bw w w1):=by refine⟨?_,a⟩;rw[Bool.eq_false_iff];intro h;simp only[EJ,Zq,decide_eq_true_eq]at h;exact p rfl ⟨h.1.1,om⟩
  clear g p d a L N;go_wp2;go_ret;exact⟨b6 G.out.1.symm,G.out.2⟩
 | true=>
  obtain⟨J,P,-⟩:=g rfl;obtain⟨I,z0,z1,z2,z3,z4,z5⟩:=N.out w1 d J om;have F:=a7 I;have U:Hid (EJ m t=decide ((gw m t:Int)<=3000)):=by
   show _=_;unfold EJ;rw[J,decide_eq_true (show d9 m t<=200 by omega)];by_cases X:gw m t<=3000;·rw[decide_eq_true X,decide_eq_true om];rfl
   ·rw[decide_eq_false X,decide_eq_false om];rfl
  have E:=a7 a;clear g p d a L N I J P;go_wp2_with fail;refine F.out.mono ?_;rintro e w2 ⟨H,s,rfl,Z⟩;have G:Hid (EJ m t=decide ((s.size:Int)<=3000)/\Bw w w2):=⟨by rw[U.out,Z],E.out.trans (H.mono E.out.size)⟩;clear H Z F U z0 z1 z2 z3 z4 z5;go_wp2;go_ret;exact⟨b6 G.out.1.symm,G.out.2⟩
theorem wG (m:Nat) (S:ZP) (w:Zw) (t:T m) (c0 c1 c2 c3 c4:Zv) (g:fT S w m t c0 c1 c2 c3 c4) (B:Bd S w) (y:jR m t<=1048576) (C:ly w) :
  Calls prog 38 #[Za #[c0,c1,c2,c3,c4]] w fun e a=>e=Zr (Zb (EJ m t))/\Bw w a:=by
 obtain⟨k,l,n,o,q,p,r,u,s,rfl,rfl,rfl,rfl,rfl⟩:=g.shape;have x:=(Below.refl w.heap.size w).alloc (Zl _) (Zc #[Zi Zk k,Zi Zk l,Zt n,Zs o q p,Zs r u s] 40);have z:Hid (∀w1 bk,Bw w w1->lg w1 bk->Calls prog 79 #[Zp (Zo ⟨bk,0,Zn⟩),Za #[Zi Zk k,Zi Zk l,Zt n,Zs o q p,Zs r u s]] w1 fun e a=>e=Zr (Zb (EJ m t))/\Bw w1 a):=by intro w1 bk v d;exact Ag m bk S w1 t _ _ _ _ _ (g.keep (a6 v B) (fun _ h=>h)) (fun b f=>Zd (B b f) v.size) d y (C.step v)
 have A:Hid (Calls prog 78 #[] (w.alloc (Zc #[Zi Zk k,Zi Zk l,Zt n,Zs o q p,Zs r u s] 40)).drew fun e a=>∃ b,e=Zr (Zp (Zo ⟨b,0,Zn⟩))/\lg a b/\Bw w a /\
   a.cell? ⟨w.heap.size,0,Zn⟩=Zo (Zi Zk k)/\a.cell? ⟨w.heap.size,1,Zn⟩=Zo (Zi Zk l)/\a.cell? ⟨w.heap.size,2,Zn⟩=Zo (Zt n)/\a.cell? ⟨w.heap.size,3,Zn⟩=Zo (Zs o q p)/\a.cell? ⟨w.heap.size,4,Zn⟩=Zo (Zs r u s)):=by
  refine (uW _).mono ?_
  rintro e a ⟨b,rfl,-,-,d,i⟩
  have c:=(x.drew).trans (i.mono (by show w.heap.size<=(w.heap.push _).size;simp))
  have j:=(i.block w.heap.size (by show w.heap.size<(w.heap.push _).size;simp)).trans (heap_alloc_last w _)
  exact⟨b,rfl,d,c,fZ j⟩
 clear g C;go_in;go_wp2_with fail;go_region_with (first
  | (go_at_call 78;refine A.out.mono ?_;rintro e w1 ⟨b,rfl,d,c,z0,E,z2,z3,z4⟩)
  | (go_at_call 79;refine (z.out _ _ (by with_reducible assumption) (by with_reducible assumption)).mono ?_;rintro e F ⟨rfl,f⟩))
 all_goals
  have D:=a7 (c.trans (f.mono c.size))
  clear d c f z A z0 E z2 z3 z4
  go_wp2
  go_ret
  exact⟨rfl,D.out⟩
def Gh(m:Nat)(t:T m):Bool:=decide (jM m t=65) && EJ m t
theorem yB (m:Nat) (S:ZP) (w:Zw) (t:T m) (c0 c1 c2 c3 c4:Zv) (b:fT S w m t c0 c1 c2 c3 c4) (q:Bd S w) (l:jR m t<=1048576) (o:ly w) :
  Calls prog 64 #[Za #[c0,c1,c2,c3,c4]] w fun e r=>e=Zr (Zb (Gh m t))/\Bw w r:=by
 obtain⟨d,s,u,v,y,x,z,B,A,rfl,rfl,rfl,rfl,rfl⟩:=b.shape;have g:=(Value.int.inj b.op).2;have a:=(Below.refl w.heap.size w).alloc (Zl _) (Zc #[Zi Zk d,Zi Zk s,Zt u,Zs v y x,Zs z B A] 40);obtain⟨c,k⟩:=b.step q a;have n:=a7 (wG m S _ t _ _ _ _ _ c k l (o.step a));have j:Hid (∀w,Calls prog 37 #[Zi Zk d] w _):=fun w=>nt d w;have i:Hid (Gh m t=((rF d==65) && EJ m t)):=by
  show _=_;unfold Gh jM;rw[<- g];by_cases h:rF d=65;·rw[decide_eq_true h,h];rfl
  ·rw[decide_eq_false h];simp[h]
 clear b c g o;generalize rF d=po at *;cases hp:(po==65) with
 | false=>rw[hp]at i;go_in;go_wp2_with fail;refine (j.out _).mono ?_;rintro e w1 ⟨rfl,rfl⟩;go_wp2;go_ret;exact⟨b6 (by rw[i.out];rfl),a⟩
 | true=>rw[hp]at i;go_in;go_wp2_with fail;refine (j.out _).mono ?_;rintro e w1 ⟨rfl,rfl⟩;go_wp2_with fail;refine n.out.mono ?_;rintro e C ⟨rfl,f⟩;have p:=a7 (b5 a zS f);clear f n j;go_wp2;go_ret;exact⟨b6 (by rw[i.out];rfl),p.out⟩
def o7(s:Int):Int:=if s=20∨s=32∨s=33∨s=34∨s=42∨s=43 then 1 else if s=35 then 2 else -1
theorem jI(s:Int)(w:Zw):Calls prog 140 #[Zi Zk s] w fun e b=>e=Zr (Zi Zk (o7 s))/\b=w:=by
 by_cases h:s=20∨s=32∨s=33∨s=34∨s=42∨s=43∨s=35
 ·rcases h with rfl|rfl|rfl|rfl|rfl|rfl|rfl;all_goals
   go_in
   go_wp2
   go_ret
   exact⟨fJ zC,rfl⟩
 ·have c:(s==20)=false:=by simp;omega
  have d:(s==32)=false:=zE;have f:(s==33)=false:=zE;have g:(s==34)=false:=zE;have i:(s==42)=false:=zE;have j:(s==43)=false:=zE;have k:(s==35)=false:=zE;have a:Hid (o7 s = -1):=by show _=_;unfold o7;rw[if_neg om,if_neg om]
  clear h;go_in;go_wp2;go_ret;exact⟨fJ a.out.symm,rfl⟩
theorem rK(s:Int)(i:Nat)(w:Zw):Calls prog 94 #[Zi Zk s,Zi Zk (i:Int)] w fun e g=>e=Zr (Zi Zk (iQ s i))/\g=w:=by
 have c:=a7 (jI s);by_cases h:s=33∨s=34∨s=35∨s=43
 ·have b:Hid (iQ s i=if (i:Int)=o7 s then 20 else 1):=by
   show _=_;rcases h with rfl|rfl|rfl|rfl;·rw[show o7 33=1 from rfl];unfold iQ;split<;>split<;>omega
   ·rw[show o7 34=1 from rfl];unfold iQ;split<;>split<;>omega
   ·rw[show o7 35=2 from rfl];unfold iQ;split<;>split<;>omega
   ·rw[show o7 43=1 from rfl];unfold iQ;split<;>split<;>omega
  by_cases a:(i:Int)=o7 s
  ·have d:((i:Int)==o7 s)=true:=by simp[a]
   rw[if_pos a]at b;clear a;generalize o7 s=bp at *;rcases h with rfl|rfl|rfl|rfl;all_goals
    go_in
    go_wp2_with fail
    refine (c.out _).mono ?_
    rintro e w1 ⟨rfl,rfl⟩
    go_wp2
    go_ret
    exact⟨fJ b.out.symm,rfl⟩
  ·have d:((i:Int)==o7 s)=false:=by simp[a]
   rw[if_neg a]at b;clear a;generalize o7 s=bp at *;rcases h with rfl|rfl|rfl|rfl;all_goals
    go_in
    go_wp2_with fail
    refine (c.out _).mono ?_
    rintro e w1 ⟨rfl,rfl⟩
    go_wp2
    go_ret
    exact⟨fJ b.out.symm,rfl⟩
 ·have j:(s==33)=false:=by simp;omega
  have k:(s==34)=false:=zE;have l:(s==43)=false:=zE;have m:(s==35)=false:=zE;have f:Hid (iQ s i=1):=by show _=_;unfold iQ;rw[if_neg om]
  clear h c;go_in;go_wp2;go_ret;exact⟨fJ f.out.symm,rfl⟩
end Go.Proofs.YtcfojmaccikgeaaGreatDoor
