import Derived.Test.YtcfojmaccikgeaaGreatDoorB29
import Derived.Deep.Cut
import Derived.Deep.CutRange
import Derived.Test.YtcfojmaccikgeaaGreatDoorB3
open Go.Value renaming slice→Zs,int→Zi,string→Zt,pointer→Zp,agg→Za,tuple→Zu,bool→Zb
open Go.IntKind renaming i64→Zk
open Go.Ending renaming returned→Zr
open Go.Obj renaming cells→Zc
open Option renaming none→Zn,some→Zo
open Go renaming World→Zw,Value→Zv
open Bool renaming and_eq_true→Zq
open List renaming eq_nil_of_length_eq_zero→Zz
namespace Go.Proofs.YtcfojmaccikgeaaGreatDoor
open Go.RowKit Go.Proofs.Tryz
set_option maxRecDepth 100000
set_option maxHeartbeats 16000000
variable {α:Type}
theorem wW(d:α->Nat)(n:Nd α):∀(f:List UInt8)(b:List ByteArray)(c:List α)(k:Nat),k<=jn d n f b c k:=by
 intro f;induction f with
 | nil=>intro b c k;rw[jn.eq_def];exact Nat.le_refl _
 | cons p f e=>
  intro b c k;rw[jn.eq_def];dsimp only;split;·have:=e b c (wk k (ky n.sort n.num n.text).length);have:=ll k (ky n.sort n.num n.text).length;omega
  split;·have:=e b c (wk k (Lib.itoa n.num).length);have:=ll k (Lib.itoa n.num).length;omega
  split;·have:=e b c (wk k n.text.size);have:=ll k n.text.size;omega
  split;·have:=e b c (wk (i6 d n.names n.kids k) 3);have:=ll (i6 d n.names n.kids k) 3;have:=xM d n.names n.kids k;omega
  split
  ·cases b with
   | nil=>exact Nat.le_refl _
   | cons a q=>have:=e q c (wk k a.size);have:=ll k a.size;show k<=jn d n f q c (wk k a.size);omega
  ·cases c with
   | nil=>exact Nat.le_refl _
   | cons x q=>have:=e b q (wk k (d x));have:=ll k (d x);show k<=jn d n f b q (wk k (d x));omega
theorem I8:∀k,k<44->84∈jz k->k≠24/\iM k=[84]:=by decide
theorem I7:∀k,k<44->35∈jz k->k≠24/\(iM k=[35]∨iM k=[78,35]):=by decide
theorem I4:∀k,k<44->70∈jz k->k=24:=by decide
theorem EL:∀k,k<44->0<=lst k/\tX k<=99:=by decide
theorem sj(g:α->Int)(n:Nd α)(k:Nat)(i:n.sort=(k:Int))(b:iu g n=true):k<44/\(84∈jz k->gS n.sort n.num n.text [] 0=true)/\(35∈jz k->0<=n.num/\n.num<=99)/\(70∈jz k->n.names.length=n.kids.length):=by
 have f:1<=n.sort/\n.sort<=43:=by have h:=b;unfold iu at h;simp only[Zq,decide_eq_true_eq]at h;exact h.1
 have a:k<44:=om;have c:n.sort.toNat=k:=om;refine⟨a,fun h=>?_,fun h=>?_,fun h=>?_⟩;·obtain⟨e,d⟩:=I8 k a h;rw[mx g n f.1 f.2 om,c,d]at b;simp only[gy,Zq]at b;exact b.1.1
 ·obtain⟨e,d⟩:=I7 k a h;rw[mx g n f.1 f.2 om,c]at b;have:=EL k a;rcases d with d|d<;>rw[d]at b<;>simp only[gy,Zq,decide_eq_true_eq,c]at b;·have:=b.1.1.1;omega
  ·have:=b.1.1.1;omega
 ·have e:=I4 k a h;rw[lN g n om]at b;simp only[Zq]at b;have:=b.1;unfold iH at this;simp only[Zq,beq_iff_eq]at this;exact this.1
theorem lp.iter{B b j ib:Nat}{w0 w:Zw}{v:Zv}{l:List UInt8}{s:ByteArray}{pos:Nat}(h:lp B b j w0 w v l)(hi:w.heap[ib]?=Zo (.stringIter s pos))(x:w0.heap.size<=ib)(y:B<=w0.heap.size)(a:Nat):lp B b j w0 (w.iterAt ib s a) v l:=by
 have d:b≠ib:=by intro e;have:=h.box;rw[e,hi]at this;cases this
 refine⟨⟨h.own.1,?_⟩,Lib.below_iterAt h.below om _ _,by rw[Lib.iterAt_size];exact h.le,?_,(Lib.iterAt_other w ib b _ _ d).trans h.box,h.ge⟩
 ·rcases h.own.2 with t|⟨g,cap,f,q,i,c,n⟩;·exact .inl t
  ·refine .inr ⟨g,cap,f,q,i,?_,n⟩;rw[Lib.iterAt_other w ib g _ _ (fun e=>by rw[e,hi]at c;cases c)];exact c
 ·intro k o m u r;have p:k<w0.heap.size:=(Array.getElem?_eq_some_iff.1 m).1;rw[Lib.iterAt_other w ib k _ _ om];exact h.kept k o m u r
structure rd(m B wb bk:Nat)(W0 wr:Zw)(n:Nd (T m))(d:Int)(k pos ib L:Nat)(a b v:Zv)(l:List UInt8)(ns:List ByteArray)(ks:List (T m)):Prop where
 wrt:lp B wb bk W0 wr v l
 iter:wr.heap[ib]?=Zo (.stringIter (bs (jz k)) pos)
 le:pos<=(jz k).length
 names:fL (fun b=>b<B) W0 ns a
 capn:mz a
 kids:ig (fun b=>b<B) W0 (fZ (fun b=>b<B) W0 m) ks b
 capk:mz b
 len:jn (gx m) n ((jz k).drop pos) ns ks l.length=L
 fit:lw (jT m) ((jz k).drop pos) ns ks
 good:ks.all (fun x=>gD m x d)=true
theorem DY (m:Nat) (hn:Cd m) (B H G:Nat) (w:Zw) (v:Zv) (l:List UInt8) (n:Nd (T m)) (na ka:Option Addr) (nc kc:Nat) (d:Int) (h:lp B H G w w v l) (bb:(Lit.int Zk n.sort).wf=true) (bj:(Lit.int Zk n.num).wf=true) (hx:n.text.size<=maxLen)
  (h3:fL (fun b=>b<B) w n.names (Zs na n.names.length nc)) (bh:n.names.length<=nc) (h4:ig (fun b=>b<B) w (fZ (fun b=>b<B) w m) n.kids (Zs ka n.kids.length kc)) (aZ:n.kids.length<=kc) (aw:kz w G) (aE:G<B)
  (hj:iu (jT m) n=true) (hg:n.kids.all (fun x=>gD m x d)=true) (hl:wk l.length (jY (gx m) n)<=800000) (hT:qo B w) :
  Calls prog 148 #[Zp (Zo ⟨H,0,Zn⟩),Za #[Zi Zk n.sort,Zi Zk n.num,Zt n.text,Zs na n.names.length nc,Zs ka n.kids.length kc]] w (nS B H G w (wk l.length (jY (gx m) n))):=by
 obtain⟨k,hk⟩:∃k:Nat,n.sort=(k:Int):=⟨n.sort.toNat,by
  have h:=hj
  unfold iu at h;simp only[Zq,decide_eq_true_eq]at h;omega⟩
 obtain⟨ah,aH,aG,aJ⟩:=sj (jT m) n k hk hj;have al:n.sort.toNat=k:=om;obtain⟨aC,aq⟩:=Gi (jT m) (gx m) n hj l.length;rw[al]at aC aq;obtain⟨W1,ak⟩:=iw (w.alloc (Zc #[Zi Zk n.sort,Zi Zk n.num,Zt n.text,Zs na n.names.length nc,Zs ka n.kids.length kc] 40));obtain⟨W2,ai⟩:=iw ((W1.alloc (Zc #[Zt (km k),Zt (bs (jz k)),Zi Zk (lst k),Zi Zk (tX k)] 174)).drew);have aK:lp B H G w W1 v l:=by rw[ak];exact h.alloc _
 have aI:lp B H G w W2 v l:=by rw[ai];exact (aK.alloc _).drew
 have bO:=h.lt;have bT:=h.le;have aM:W1.heap.size=w.heap.size+1:=by rw[ak];simp
 have bv:W2.heap.size=w.heap.size+2:=by rw[ai];show (W1.heap.push _).size=_;simp;exact aM
 have ap:W1.heap[w.heap.size]?=Zo (Zc #[Zi Zk n.sort,Zi Zk n.num,Zt n.text,Zs na n.names.length nc,Zs ka n.kids.length kc] 40 (0,0)):=by rw[ak];exact heap_alloc_last _ _
 have az:W2.heap[w.heap.size]?=Zo (Zc #[Zi Zk n.sort,Zi Zk n.num,Zt n.text,Zs na n.names.length nc,Zs ka n.kids.length kc] 40 (0,0)):=by rw[ai];exact (Below.heap_alloc _ _ _ (by show w.heap.size<W1.heap.size;omega)).trans ap
 have ad:W2.heap[w.heap.size+1]?=Zo (Zc #[Zt (km k),Zt (bs (jz k)),Zi Zk (lst k),Zi Zk (tX k)] 174 (0,0)):=by rw[ai,<- aM];exact heap_alloc_last W1 _
 obtain⟨b0,b1,b2,b3⟩:=aw k ah;have bM:=aw.lt;obtain⟨r0,-,-⟩:=h.cells;have y0:W2.cell? ⟨w.heap.size+1,0,Zn⟩=Zo (Zt (km k)):=by simp[World.cell?,ad]
 rw[hk]at ak;have bG:=a7 ak;have bH:=a7 ai;have aD:=a7 aI;have bz:=a7 aC;have bt:=a7 aq;have bX:Hid (Cd m):=hn;have bu:Hid (∀ (wr:Zw) (W:Zv) (u:List UInt8),lp B H G w wr W u->70∈jz k->i6 (gx m) n.names n.kids u.length<=800000 ->
   Calls prog 189 #[Zp (Zo ⟨H,0,Zn⟩),Za #[Zi Zk (k:Int),Zi Zk n.num,Zt n.text,Zs na n.names.length nc,Zs ka n.kids.length kc]] wr (nS B H G wr (wk (i6 (gx m) n.names n.kids u.length) 3))):=by
  intro wr W u O hF aV
  have:=Bc m hn B H G wr W u n na ka nc kc d O.here (h3.keep O.same (fun _ h=>h)) (h4.keepN O.same (fun _ h=>h)) (aJ hF) (aw.keep (O.below.block G aE)) aE hg aV (hT.on O.below)
  rw[hk]at this
  exact this
 have HK:Hid (∀ (wr:Zw) (W:Zv) (u:List UInt8) (t:T m) (c0 c1 c2 c3 c4:Zv),lp B H G w wr W u->fZ (fun b=>b<B) wr m t c0 c1 c2 c3 c4->gD m t d=true->wk u.length (gx m t)<=800000 ->
   Calls prog 148 #[Zp (Zo ⟨H,0,Zn⟩),Za #[c0,c1,c2,c3,c4]] wr (nS B H G wr (wk u.length (gx m t)))):=by
  intro wr W u t c0 c1 c2 c3 c4 O aj am aV
  exact hn B H G wr W u t _ _ _ _ _ d O.here aj (aw.keep (O.below.block G aE)) aE am aV (hT.on O.below)
 have bD:Hid (∀(wr:Zw)(W:Zv)(u:List UInt8),lp B H G w wr W u->84∈jz k->Calls prog 187 #[Za #[Zi Zk (k:Int),Zi Zk n.num,Zt n.text,Zs Zn 0 0,Zs Zn 0 0]] wr fun e w'=>e=Zr (Zt (bs (ky n.sort n.num n.text)))/\Bw wr w'):=by
  intro wr W u O ba;have bI:lr wr:=fun w2 h2=>(hT.on O.below) w2 (h2.mono O.le);have:=uh 1 (fun _=>False) (lB n.sort n.num n.text) _ _ _ _ _ wr (tJ _ wr n.sort n.num n.text bb bj hx) (fun _ h=>h.elim) bI;have e:su 1 (lB n.sort n.num n.text)=bs (ky n.sort n.num n.text):=by unfold su;rw[if_pos (by rw[B4];exact aH ba)];rfl
  rw[e,hk]at this;rw[hk];exact this
 have bK:Hid (∀w,Calls prog 181 #[Za #[Zi Zk (k:Int),Zi Zk n.num,Zt n.text,Zs na n.names.length nc,Zs ka n.kids.length kc]] w _):=fun w=>oh k n.num n.text na ka n.names.length n.kids.length nc kc w;have bJ:Hid (35∈jz k->∀w,Calls prog 188 #[Zi Zk n.num] w fun e w'=>e=Zr (Zt (bs (Lib.itoa n.num)))/\w'=w):=by
  intro hN w;obtain⟨h0,bP⟩:=aG hN;have:=Tryz.strconv_Itoa_small n.num.toNat om w;rw[show ((n.num.toNat:Nat):Int)=n.num by omega]at this;have e:Lib.itoa n.num=Lib.decDigits n.num.toNat:=by unfold Lib.itoa;rw[if_neg om]
  rw[e];exact this
 have bE:Hid (fL (fun b=>b<B) w n.names (Zs na n.names.length nc)/\ig (fun b=>b<B) w (fZ (fun b=>b<B) w m) n.kids (Zs ka n.kids.length kc)/\n.names.length<=nc/\n.kids.length<=kc/\n.kids.all (fun x=>gD m x d)=true):=⟨h3,h4,bh,aZ,hg⟩;rw[hk];have bx:=a7 hk;have br:Hid (wk l.length (jY (gx m) n)<=800000):=hl;have bA:Hid ((k<5->(km k).size=0)/\(5<=k->1<=(km k).size/\(km k).size<=6)):=sI k ah;clear h3 h4 aw hn hT hj hg aH aG aJ aC aq aK aI ak ai bh aZ al hl bb bj hx hk;have ay:=a7 az;have ax:=a7 ad;have aF:w.heap.size+2<=W2.heap.size:=om;clear ap az ad;go_in;go_wp2_with fail;go_region;rw[<- bG.out,<- bH.out];clear b0 b1 b2 b3 r0 aM;go_upto_if 21 with fail;go_cut [] from 9 to 25 (fun wx=>∃v3 l3,lp B H G w wx v3 l3/\l3.length=En k l.length/\wx.heap[w.heap.size]?=Zo (Zc #[Zi Zk n.sort,Zi Zk n.num,Zt n.text,Zs na n.names.length nc,Zs ka n.kids.length kc] 40 (0,0))/\wx.heap[w.heap.size+1]?=Zo (Zc #[Zt (km k),Zt (bs (jz k)),Zi Zk (lst k),Zi Zk (tX k)] 174 (0,0))/\w.heap.size+2<=wx.heap.size);case first=>
  have Y:Hid ((!(km k).toList.isEmpty)=true↔(km k).size≠0):=by show _↔_;rw[ByteArray.toList_eq];have h2:(km k).data.toList.length=(km k).size:=zS;rw[<- h2];cases (km k).data.toList<;>simp
  have bw:(km k).size<=6:=by
   have:=bA.out;by_cases h5:k<5;·have:=this.1 h5;omega
   ·exact (this.2 om).2
  have bi:=a7 (l8 B H G W2 v l (km k) aD.out.here (by have:=br.out;have:=ll l.length (jY (gx m) n);omega));clear bw;go_wp2_with fail
  ·have h0:=Y.out.1 (by assumption);refine bi.out.mono ?_;rintro e W3 ⟨rfl,v3,l3,bq,aA⟩;have HR:=a7 bq;have aR:Hid (l3.length=En k l.length):=by show _=_;unfold En;rw[if_neg h0];exact aA
   clear bq aA bi;go_wp2;go_meet;have hr:=HR.out.kept (w.heap.size+1) _ ax.out zE (fun c fz e=>by cases e);exact⟨v3,l3,HR.out.from aD.out,aR.out,HR.out.kept w.heap.size _ ay.out zE (fun c fz e=>by cases e),hr,(Array.getElem?_eq_some_iff.1 hr).1⟩
  ·have hw:(!(km k).toList.isEmpty)=false:=by assumption
   have h0:(km k).size=0:=Decidable.of_not_not fun h=>by rw[Y.out.2 h]at hw;cases hw
   go_meet;exact⟨v,l,aD.out,by unfold En;rw[if_pos h0],ay.out,ax.out,aF⟩
 case rest=>
  obtain⟨v3,l3,be,aA,bo,bp,bm⟩:=hcut;have aQ:=a7 be;have aR:=a7 aA;have bg:=a7 bo;have bF:=a7 bp;have bL:=a7 bm;clear be aA bo bp bm y0 ay ax bv aF aD;have aa:=aQ.out;have bB:B<=wc.heap.size:=aa.le;have bS:w.heap.size+2<=wc.heap.size:=bL.out;obtain⟨p0,p1,p2,p3,p4⟩:=gE bg.out;have p5:wc.cell? ⟨w.heap.size+1,1,Zn⟩=Zo (Zt (bs (jz k))):=by simp[World.cell?,bF.out]
  have HJ:Hid (∀j,rd m B H G wc ((wc.drewN j).iter (bs (jz k)) 0) n d k 0 wc.heap.size (wk l.length (jY (gx m) n)) (Zs na n.names.length nc) (Zs ka n.kids.length kc) v3 l3 n.names n.kids):=by
   intro j;obtain⟨g3,g4,g5,g6,g7⟩:=bE.out;refine⟨?_,World.iter_heap (wc.drewN j) _ _,Nat.zero_le _,g3.keep aa.same (fun _ h=>h),⟨_,_,_,rfl,g5⟩,g4.keepN aa.same (fun _ h=>h),⟨_,_,_,rfl,g6⟩,?_,?_,g7⟩;·have h0:lp B H G wc (wc.drewN j) v3 l3:=⟨aa.own,⟨rfl,rfl,rfl,Nat.le_refl _,fun _ _=>rfl⟩,aa.le,fun _ _ h _ _=>h,aa.box,aa.ge⟩;exact h0.alloc _
   ·have h0:=bz.out;rw[<- aR.out]at h0;rw[List.drop_zero];exact h0
   ·rw[List.drop_zero];exact bt.out
  clear aa;go_wp2_with fail;go_quiet (fail);go_wp2;go_loopw [5,6] (fun a b wr=>∃pos W u ns ks,rd m B H G wc wr n d k pos wc.heap.size (wk l.length (jY (gx m) n)) a b W u ns ks) (fun _ _ wr=>(jz k).length-wr.iterPos wc.heap.size);case atStart=>exact⟨0,_,_,_,_,HJ.out _⟩
  case round=>
   obtain⟨pos,W,u,ns,ks,hj⟩:=hrel;have bZ:=hj.le;have ab:=hj.iter;by_cases hp:pos<(jz k).length
   ·have i:=fun Z=>Lib.run_next_ascii_at (P:=prog) wr wc.heap.size (bs (jz k)) pos Z ab (by rw[go];exact hp) (by rw[sW];exact vv k ah _ (List.getElem_mem hp));rw[sW]at i;obtain⟨V,hV⟩:=iw (wr.iterAt wc.heap.size (bs (jz k)) (pos+1));rw[<- hV]at i;have ar:lp B H G wc V W u:=by rw[hV];exact hj.wrt.iter ab (Nat.le_refl _) bB _
    have bn:V.heap[wc.heap.size]?=Zo (.stringIter (bs (jz k)) (pos+1)):=by rw[hV];exact Lib.iterAt_heap _ _ _ _ _ ab
    have aY:=ar.kept w.heap.size _ bg.out zE (fun c fz e=>by cases e);obtain⟨z0,z1,z2,z3,z4⟩:=gE aY;rw[bx.out]at z0;have ae:=List.drop_eq_getElem_cons hp;have I:=List.getElem_mem hp;have f:=hj.len;rw[ae]at f;have g:=hj.fit;rw[ae]at g;obtain⟨xa,xl,xc,rfl,aX⟩:=hj.capn;obtain⟨ya,yl,yc,rfl,bd⟩:=hj.capk;have HI:Hid (wr.iterPos wc.heap.size=pos):=iterPos_of ab;have Q:=a7 ar;have aP:=a7 (ar.from aQ.out);have o:=a7 hj;have bN:wk l.length (jY (gx m) n)<=800000:=br.out;have N:Hid (∀(K:Zw)(M:Zv)(L:List UInt8),lp B H G V K M L->lp B H G wc K M L/\K.heap[wc.heap.size]?=Zo (.stringIter (bs (jz k)) (pos+1))/\K.iterPos wc.heap.size=pos+1):=by intro K M L h6;have bf:=h6.kept wc.heap.size _ bn zE (fun c fz e=>by cases e);exact⟨h6.from ar,bf,iterPos_of bf⟩
    have X:=fun q=>wW (gx m) n ((jz k).drop (pos+1)) ns ks q;clear hj ab hV ar bn aY ae;rcases wL k ah _ I with hq|hq|hq|hq|hq|hq|hq|hq
    ·rw[hq]at f g i I;have J:∀Z,(Instr.next (Zp (Zo ⟨wc.heap.size,0,Zn⟩)) true Z).run prog wr=.ok (Zu #[Zb true,Zi Zk (pos:Int),Zi .i32 84]) V:=i;rw[Jb]at f;rw[zy _ (.inl rfl)]at g;have E:=X (wk u.length (ky n.sort n.num n.text).length);rw[f]at E;have S:=ll u.length (ky n.sort n.num n.text).length;have A:=a7 f;have r:=a7 g;have bC:u.length+1+(bs (ky n.sort n.num n.text)).size<=900000:=by rw[go];omega
     clear f g i X E S hq;go_wp2_with fail;refine (bK.out _).mono ?_;rintro e w4 ⟨rfl,aS⟩;have au:=a7 (bD.out w4 W u (aP.out.on aS) I);have aL:=a7 (Q.out.here.on aS);clear aS;go_wp2_with fail;refine au.out.mono ?_;rintro e w5 ⟨rfl,aU⟩;have bl:=a7 (aL.out.on aU);have y:=a7 (l8 B H G w5 W u _ (aL.out.on aU).here bC);clear aU au aL;go_wp2_with fail;refine y.out.mono ?_;rintro e K ⟨rfl,M,L,F,D⟩;have C:=a7 (F.from bl.out);have z:Hid (L.length=wk u.length (ky n.sort n.num n.text).length):=by show _=_;rw[D,go]
     clear F D y bl;have Y:Hid (rd m B H G wc K n d k (pos+1) wc.heap.size (wk l.length (jY (gx m) n)) (Zs xa xl xc) (Zs ya yl yc) M L ns ks/\K.iterPos wc.heap.size=pos+1):=by obtain⟨g1,g2,g3⟩:=N.out K M L C.out;exact⟨⟨g1,g2,hp,o.out.names,o.out.capn,o.out.kids,o.out.capk,by rw[z.out];exact A.out,r.out,o.out.good⟩,g3⟩
     clear C z A r N J z0 z1 z2 z3 z4;go_wp2;go_roundw;case rel=>exact⟨pos+1,M,L,_,_,Y.out.1⟩
     case measure=>rw[Y.out.2,HI.out];omega
    ·rw[hq]at f g i I;have J:∀Z,(Instr.next (Zp (Zo ⟨wc.heap.size,0,Zn⟩)) true Z).run prog wr=.ok (Zu #[Zb true,Zi Zk (pos:Int),Zi .i32 75]) V:=i;rw[Ji]at f;rw[zy _ (.inr (.inr (.inl rfl)))]at g;have E:=X (wk u.length n.text.size);rw[f]at E;have S:=ll u.length n.text.size;have A:=a7 f;have r:=a7 g;have y:=a7 (l8 B H G V W u n.text Q.out.here om);clear f g i X E S hq;go_wp2_with fail;refine y.out.mono ?_;rintro e K ⟨rfl,M,L,F,D⟩;have C:=a7 F;have z:=a7 D;clear F D y;have Y:Hid (rd m B H G wc K n d k (pos+1) wc.heap.size (wk l.length (jY (gx m) n)) (Zs xa xl xc) (Zs ya yl yc) M L ns ks/\K.iterPos wc.heap.size=pos+1):=by obtain⟨g1,g2,g3⟩:=N.out K M L C.out;exact⟨⟨g1,g2,hp,o.out.names,o.out.capn,o.out.kids,o.out.capk,by rw[z.out];exact A.out,r.out,o.out.good⟩,g3⟩
     clear C z A r N J z0 z1 z2 z3 z4;go_wp2;go_roundw;case rel=>exact⟨pos+1,M,L,_,_,Y.out.1⟩
     case measure=>rw[Y.out.2,HI.out];omega
    ·rw[hq]at f g i I;have J:∀Z,(Instr.next (Zp (Zo ⟨wc.heap.size,0,Zn⟩)) true Z).run prog wr=.ok (Zu #[Zb true,Zi Zk (pos:Int),Zi .i32 70]) V:=i;rw[I6]at f;rw[zy _ (.inr (.inr (.inr rfl)))]at g;have E:=X (wk (i6 (gx m) n.names n.kids u.length) 3);rw[f]at E;have S:=ll (i6 (gx m) n.names n.kids u.length) 3;have A:=a7 f;have r:=a7 g;have y:=a7 (bu.out V W u aP.out I om);clear f g i X E S hq;go_wp2_with fail;refine y.out.mono ?_;rintro e K ⟨rfl,M,L,F,D⟩;have C:=a7 F;have z:=a7 D;clear F D y;have Y:Hid (rd m B H G wc K n d k (pos+1) wc.heap.size (wk l.length (jY (gx m) n)) (Zs xa xl xc) (Zs ya yl yc) M L ns ks/\K.iterPos wc.heap.size=pos+1):=by obtain⟨g1,g2,g3⟩:=N.out K M L C.out;exact⟨⟨g1,g2,hp,o.out.names,o.out.capn,o.out.kids,o.out.capk,by rw[z.out];exact A.out,r.out,o.out.good⟩,g3⟩
     clear C z A r N J z0 z1 z2 z3 z4;go_wp2;go_roundw;case rel=>exact⟨pos+1,M,L,_,_,Y.out.1⟩
     case measure=>rw[Y.out.2,HI.out];omega
    ·rw[hq]at f g i I;have J:∀Z,(Instr.next (Zp (Zo ⟨wc.heap.size,0,Zn⟩)) true Z).run prog wr=.ok (Zu #[Zb true,Zi Zk (pos:Int),Zi .i32 35]) V:=i;rw[ID]at f;rw[zy _ (.inr (.inl rfl))]at g;have E:=X (wk u.length (Lib.itoa n.num).length);rw[f]at E;have S:=ll u.length (Lib.itoa n.num).length;have A:=a7 f;have r:=a7 g;have au:=a7 (bJ.out I V);have y:=a7 (l8 B H G V W u (bs (Lib.itoa n.num)) Q.out.here (by rw[go];omega));clear f g i X E S hq;go_wp2_with fail;refine au.out.mono ?_;rintro e w5 ⟨rfl,rfl⟩;go_wp2_with fail;refine y.out.mono ?_;rintro e K ⟨rfl,M,L,F,D⟩;have C:=a7 F;have z:Hid (L.length=wk u.length (Lib.itoa n.num).length):=by show _=_;rw[D,go]
     clear F D y au;have Y:Hid (rd m B H G wc K n d k (pos+1) wc.heap.size (wk l.length (jY (gx m) n)) (Zs xa xl xc) (Zs ya yl yc) M L ns ks/\K.iterPos wc.heap.size=pos+1):=by obtain⟨g1,g2,g3⟩:=N.out K M L C.out;exact⟨⟨g1,g2,hp,o.out.names,o.out.capn,o.out.kids,o.out.capk,by rw[z.out];exact A.out,r.out,o.out.good⟩,g3⟩
     clear C z A r N J z0 z1 z2 z3 z4;go_wp2;go_roundw;case rel=>exact⟨pos+1,M,L,_,_,Y.out.1⟩
     case measure=>rw[Y.out.2,HI.out];omega
    iterate 2
     ·rw[hq]at f g i I
      first
       | have J:∀Z,(Instr.next (Zp (Zo ⟨wc.heap.size,0,Zn⟩)) true Z).run prog wr=.ok (Zu #[Zb true,Zi Zk (pos:Int),Zi .i32 78]) V:=i
       | have J:∀Z,(Instr.next (Zp (Zo ⟨wc.heap.size,0,Zn⟩)) true Z).run prog wr=.ok (Zu #[Zb true,Zi Zk (pos:Int),Zi .i32 88]) V:=i
      obtain⟨nm,nq,rfl,av⟩:=JD _ (by first|exact .inl rfl|exact .inr rfl) _ _ _ g
      first
       | rw[zb _ _ (.inl rfl)]at f
       | rw[zb _ _ (.inr rfl)]at f
      have E:=wW (gx m) n ((jz k).drop (pos+1)) nq ks (wk u.length nm.size)
      rw[f]at E
      have S:=ll u.length nm.size
      obtain⟨_,_,hv,aN,-,an⟩:=id o.out.names
      cases hv
      obtain⟨b,off,rfl,ac,U⟩:=an zS
      have e0:=U 0 zS
      have e1:=(Q.out.below.cell (p:=⟨b,off,Zn⟩) ac).trans e0
      simp only[List.getElem_cons_zero]at e1
      have aT:1<=(nm :: nq).length:=zS
      have af:=o.out.names.tail aX
      clear an U e0
      generalize al:(nm :: nq).length=kn at *
      have aO:=nd (P:=prog) 23 1 underlying23 (fun _=>by simp[go_sem]) (Zo ⟨b,off,Zn⟩) kn xc aT
      obtain⟨ta,tn,tc,ag⟩:∃ta tn tc,sliced (Zo ⟨b,off,Zn⟩) 1 kn xc 1=Zs ta tn tc:=⟨_,_,_,rfl⟩
      have R:mz (Zs ta tn tc):=by
       rw[<- ag];exact⟨_,_,_,rfl,om⟩
      rw[ag]at aO af
      have A:=a7 f
      have r:=a7 av
      have aB:=a7 af
      have ao:=a7 R
      have y:=a7 (l8 B H G V W u nm Q.out.here om)
      have bc:(1:Int)<=(kn:Int):=om
      unfold maxLen at aN
      clear f g i X E S hq af R ag av al
      go_wp2_with fail
      refine y.out.mono ?_
      rintro e K ⟨rfl,M,L,F,D⟩
      have C:=a7 F
      have z:=a7 D
      clear F D y
      have Y:Hid (rd m B H G wc K n d k (pos+1) wc.heap.size (wk l.length (jY (gx m) n)) (Zs ta tn tc) (Zs ya yl yc) M L nq ks/\K.iterPos wc.heap.size=pos+1):=by
       obtain⟨g1,g2,g3⟩:=N.out K M L C.out
       exact⟨⟨g1,g2,hp,aB.out,ao.out,o.out.kids,o.out.capk,by rw[z.out];exact A.out,r.out,o.out.good⟩,g3⟩
      clear C z A r N J z0 z1 z2 z3 z4 aB ao e1
      go_wp2
      go_roundw
      case rel=>exact⟨pos+1,M,L,_,_,Y.out.1⟩
      case measure=>rw[Y.out.2,HI.out];omega
    iterate 2
     ·rw[hq]at f g i I
      first
       | have J:∀Z,(Instr.next (Zp (Zo ⟨wc.heap.size,0,Zn⟩)) true Z).run prog wr=.ok (Zu #[Zb true,Zi Zk (pos:Int),Zi .i32 86]) V:=i
       | have J:∀Z,(Instr.next (Zp (Zo ⟨wc.heap.size,0,Zn⟩)) true Z).run prog wr=.ok (Zu #[Zb true,Zi Zk (pos:Int),Zi .i32 65]) V:=i
      obtain⟨kx,kq,rfl,-,av⟩:=JA _ (by first|exact .inl rfl|exact .inr rfl) _ _ _ g
      first
       | rw[Je _ _ (.inl rfl)]at f
       | rw[Je _ _ (.inr rfl)]at f
      have E:=wW (gx m) n ((jz k).drop (pos+1)) ns kq (wk u.length (gx m kx))
      rw[f]at E
      have S:=ll u.length (gx m kx)
      have am:=o.out.good
      simp only[List.all_cons,Zq]at am
      obtain⟨_,_,hv,aN,an⟩:=id o.out.kids
      cases hv
      obtain⟨b,off,rfl,ac,U⟩:=an zS
      obtain⟨d0,d1,d2,d3,d4,k0,k1,k2,k3,k4,aj⟩:=U 0 zS
      obtain⟨x0,x1,x2,bV,bU,bY,bR,bW,bQ,rfl,rfl,rfl,rfl,rfl⟩:=aj.shape
      simp only[Nat.zero_mul,Nat.add_zero,List.getElem_cons_zero]at k0 k1 k2 k3 k4 aj
      have o0:=(Q.out.below.cell (p:=⟨b,off,Zn⟩) ac).trans k0
      have o1:=(Q.out.below.cell (p:=⟨b,off+1,Zn⟩) ac).trans k1
      have o2:=(Q.out.below.cell (p:=⟨b,off+2,Zn⟩) ac).trans k2
      have o3:=(Q.out.below.cell (p:=⟨b,off+3,Zn⟩) ac).trans k3
      have o4:=(Q.out.below.cell (p:=⟨b,off+4,Zn⟩) ac).trans k4
      have y:=a7 (HK.out V W u kx _ _ _ _ _ aP.out (aj.keep Q.out.same (fun _ h=>h)) am.1 om)
      have aT:1<=(kx :: kq).length:=zS
      have af:=o.out.kids.tail bd
      clear U an k0 k1 k2 k3 k4 aj
      generalize al:(kx :: kq).length=kn at *
      have aO:=nd (P:=prog) 38 5 underlying38 (fun _=>by simp[go_sem]) (Zo ⟨b,off,Zn⟩) kn yc aT
      obtain⟨ta,tn,tc,ag⟩:∃ta tn tc,sliced (Zo ⟨b,off,Zn⟩) 1 kn yc 5=Zs ta tn tc:=⟨_,_,_,rfl⟩
      have R:mz (Zs ta tn tc):=by
       rw[<- ag];exact⟨_,_,_,rfl,om⟩
      rw[ag]at aO af
      have A:=a7 f
      have r:=a7 av
      have aB:=a7 af
      have ao:=a7 R
      have aW:=a7 am.2
      have bc:(1:Int)<=(kn:Int):=om
      unfold maxLen at aN
      clear f g i X E S hq af R ag av al am
      go_wp2_with fail
      refine y.out.mono ?_
      rintro e K ⟨rfl,M,L,F,D⟩
      have C:=a7 F
      have z:=a7 D
      clear F D y
      have Y:Hid (rd m B H G wc K n d k (pos+1) wc.heap.size (wk l.length (jY (gx m) n)) (Zs xa xl xc) (Zs ta tn tc) M L ns kq/\K.iterPos wc.heap.size=pos+1):=by
       obtain⟨g1,g2,g3⟩:=N.out K M L C.out
       exact⟨⟨g1,g2,hp,o.out.names,o.out.capn,aB.out,ao.out,by rw[z.out];exact A.out,r.out,aW.out⟩,g3⟩
      clear C z A r N J z0 z1 z2 z3 z4 aB ao aW o0 o1 o2 o3 o4
      go_wp2
      go_roundw
      case rel=>exact⟨pos+1,M,L,_,_,Y.out.1⟩
      case measure=>rw[Y.out.2,HI.out];omega
   ·have J:=fun Z=>Lib.run_next_end_at (P:=prog) wr wc.heap.size (bs (jz k)) pos Z ab (by rw[go];exact hp);have f:=hj.len;rw[List.drop_of_length_le om,jn]at f;have HP:Hid (nS B H G w (wk l.length (jY (gx m) n)) (Zr (Zu #[])) wr):=⟨rfl,W,u,hj.wrt.from aQ.out,f⟩;obtain⟨xa,xl,xc,rfl,aX⟩:=hj.capn;obtain⟨ya,yl,yc,rfl,bd⟩:=hj.capk;clear hj ab f;go_wp2_with fail;refine bodyPost_end (results_none rfl _ _ _) rfl ?_;exact HP.out
theorem DO:∀m,Cd m:=by
 intro m;induction m with
 | zero=>intro B n p w v l t c0 c1 c2 c3 c4 d h a;exact a.elim
 | succ m y=>
  intro B n p w v l t c0 c1 c2 c3 c4 d h a f j c A r;obtain⟨rfl,rfl,rfl,u,i,g,q,o,⟨na,D,x,rfl,b⟩,⟨z,C,s,rfl,k⟩⟩:=a;obtain⟨_,_,e,-⟩:=id q;cases e
  obtain⟨_,_,e,-⟩:=id o;cases e
  simp only[gD,Zq]at c;exact DY m y B n p w v l (show Nd (T m) from t) na z x s (d+1) h i g u q b o k f j c.1.2 c.2 A r
theorem FD(n:Nd α)(k:Nat)(j:5<=k)(h:gy n (iM k)=true)(i:k<44)(g:k≠24):jc n.names+(if n.text.size=0 then 0 else n.text.size+1)<=850:=by
 have nm:∀a,gh a=true->a.size<=8:=fun a d=>by simp only[gh,Zq,decide_eq_true_eq]at d;exact d.1.1.2
 have f:∀a,ii a=true->a.size<=8:=fun a d=>nm a (by
  simp only[ii,Zq]at d;exact d.1.1.1.1)
 rcases (nh k i).resolve_left g with e|e|e|e|e|e|e|e;·rw[e]at h;simp only[gy,Zq,beq_iff_eq]at h;have c:n.names=[]:=Zz om;rw[if_pos (gL _ h.1.2),c];simp[jc]
 ·exact absurd e (yz k i j)
 ·rw[e]at h;simp only[gy,Zq,beq_iff_eq]at h;have c:n.names=[]:=Zz om;have m:n.text.size<=800:=by have:=h.1.2;unfold jK at this;obtain⟨q,l⟩:=Option.isSome_iff_exists.1 this;exact (j9 l).1
  rw[c];simp only[jc];split<;>omega
 ·rw[e]at h;simp only[gy,Zq,beq_iff_eq]at h;have c:n.names=[]:=Zz om;rw[if_pos (gL _ h.1.2),c];simp[jc]
 ·rw[e]at h;simp only[gy,Zq]at h;rw[if_pos (gL _ h.1.2)];match c:n.names,h.2 with
  | [a],h2=>have:=f a h2;simp only[jc];omega
 ·rw[e]at h;simp only[gy,Zq]at h;rw[if_pos (gL _ h.1.2)];match c:n.names,h.2 with
  | [a],h2=>have:=nm a h2;simp only[jc];omega
 ·rw[e]at h;simp only[gy,Zq]at h;rw[if_pos (gL _ h.1.2)];match c:n.names,h.2 with
  | [a,b],h2=>simp only[Zq]at h2;have:=f a h2.1.1;have:=f b h2.1.2;simp only[jc];omega
 ·rw[e]at h;simp only[gy,Zq]at h;rw[if_pos (gL _ h.1.2)];match c:n.names,h.2 with
  | [a],h2=>have:=nm a h2;simp only[jc];omega
theorem zR(g:α->Int)(n:Nd α)(h:iH g n=true):jc n.names<=9*n.kids.length:=by
 unfold iH at h;simp only[Zq,beq_iff_eq]at h;have b:=h.2;rw[<- h.1];unfold iN at b;rw[List.all_eq_true]at b;have e:∀(l:List ByteArray),(∀s,s∈l->s.size<=8)->jc l<=9*l.length:=by
  intro l;induction l with
  | nil=>intro _;simp[jc]
  | cons a r j=>intro c;have k:=c a (List.mem_cons_self ..);have b:=j (fun s d=>c s (List.mem_cons_of_mem _ d));simp only[jc,List.length_cons];omega
 refine e _ fun s c=>?_;obtain⟨i,hi,rfl⟩:=List.getElem_of_mem c;have:=b i (List.mem_range.2 hi);simp only[Zq,kA,iU]at this;have f:=this.1.1.1;simp only[gh,Zq,decide_eq_true_eq,List.getD_eq_getElem?_getD,List.getElem?_eq_getElem hi,Option.getD_some]at f;exact f.1.1.2
theorem FL(s m:Int)(x:ByteArray)(h:gS s m x [] 0=true):(ky s m x).length<=800:=by
 have a:ia 1 (lB s m x) 1=true:=by show (decide ((1:Int)<=6) && gS s m x [] 0 && List.all ([]:List (T 0)) _)=_;rw[h];rfl
 have:=mM 1 (lB s m x) 1 a;have b:fJ 1 (lB s m x)=1:=rfl;rw[b]at this;unfold ky;omega
theorem EI:∀n:Int,0<=n->n<=99->(Lib.itoa n).length<=20:=by
 intro n c b;unfold Lib.itoa;rw[if_neg om];have a:n.toNat<100:=om;generalize n.toNat=k at a;rw[Lib.decDigits];split;·simp
 ·rw[Lib.decDigits];split;·simp
  ·omega
theorem B5:∀(m:Nat)(t:T m)(d:Int),gD m t d=true->gx m t+100<=1000*fJ m t:=by
 intro m;induction m with
 | zero=>intro t d h;simp[gD]at h
 | succ m D=>
  intro t d h;simp only[gD,Zq,List.all_eq_true]at h;obtain⟨⟨-,E⟩,G⟩:=h;obtain⟨n,o⟩:∃n:Nd (T m),n=t:=⟨t,rfl⟩;have B:fJ (m+1) t=1+b5 (fun k=>fJ m k) n.kids:=by rw[o];rfl
  have H:gx (m+1) t=jY (gx m) n:=by rw[o];rfl
  have q:∀x,x∈n.kids->gD m x (d+1)=true:=by rw[o];exact G
  have b:iu (jT m) n=true:=by rw[o];exact E
  rw[B,H];have v:b5 (fun x=>gx m x+100) n.kids<=1000*b5 (fun x=>fJ m x) n.kids:=by rw[<- s6];exact vF _ _ _ (fun x u=>D x (d+1) (q x u))
  have C:b5 (fun x=>gx m x+1) n.kids+9*n.kids.length<=b5 (fun x=>gx m x+100) n.kids:=by
   have:∀l:List (T m),b5 (fun x=>gx m x+1) l+9*l.length<=b5 (fun x=>gx m x+100) l:=by
    intro l;induction l with
    | nil=>simp[b5]
    | cons a r I=>simp only[b5,List.length_cons];omega
   exact this _
  obtain⟨k,s⟩:∃k:Nat,n.sort=(k:Int):=⟨n.sort.toNat,by
   have h:=b
   unfold iu at h;simp only[Zq,decide_eq_true_eq]at h;omega⟩
  have j:1<=n.sort/\n.sort<=43:=by have h:=b;unfold iu at h;simp only[Zq,decide_eq_true_eq]at h;exact h.1
  obtain⟨e,g,i,y⟩:=sj (jT m) n k s b;have f:n.sort.toNat=k:=om;have F:=sI k e;unfold jY;by_cases z:n.sort<=3;·rw[if_pos z];have:=FL _ _ _ (g (by rcases (by omega:k=1∨k=2∨k=3) with rfl|rfl|rfl<;>decide));omega
  rw[if_neg z];by_cases w:n.sort=4
  ·rw[if_pos w];rw[mx (jT m) n j.1 j.2 om,f,show k=4 by omega,sp.1]at b;simp only[gy,Zq]at b;match hnn:n.names,b.1.2 with
   | [a],h2=>
    have:a.size<=8:=by simp only[ii,gh,Zq,decide_eq_true_eq]at h2;exact h2.1.1.1.1.1.1.2
    simp only[List.headD_cons];omega
  rw[if_neg w,f];have A:=(F.2 om).2;by_cases c:n.sort=24;·rw[lN (jT m) n c]at b;simp only[Zq]at b;have u:=gL _ b.2.2;have J:=zR (jT m) n b.1;rw[if_pos u,if_neg om,if_pos c];omega
  ·rw[mx (jT m) n j.1 j.2 c,f]at b;simp only[Zq]at b;have K:=FD n k om b.1 e om;have hi:(if n.sort=37∨n.sort=39 then (Lib.itoa n.num).length+1 else 0)<=21:=by
    split
    ·have p:35∈jz k:=by have:k=37∨k=39:=om;rcases this with rfl|rfl<;>decide
     have:=i p;have:=EI n.num this.1 this.2;omega
    ·omega
   rw[if_neg c];omega
def Eo(m:Nat)(t:T m):Bool:=gD m t 1 && decide (fJ m t<=200) && decide (gx m t<=3000)
theorem A5 (m f:Nat) (S:Nat->Prop) (w:Zw) (t:T m) (c0 c1 c2 c3 c4:Zv) (d:Int) (h:fZ S w m t c0 c1 c2 c3 c4) (H:Bd S w) (c:kz w f) (G:gD m t d=true) (hc:fJ m t<=200) (L:lr w) :
  Calls prog 112 #[Zp (Zo ⟨f,0,Zn⟩),Za #[c0,c1,c2,c3,c4]] w fun e X=>Bw w X/\∃s,e=Zr (Zt s)/\s.size=gx m t:=by
 obtain⟨A,v,y,E,x,F,B,z,C,rfl,rfl,rfl,rfl,rfl⟩:=h.shape;have Z:=B5 m t d G;obtain⟨W,q⟩:=iw ((w.alloc (Zc #[Zi Zk A,Zi Zk v,Zt y,Zs E x F,Zs B z C] 40)).alloc (Zc #[Zp (Zo ⟨f,0,Zn⟩),Zs Zn 0 0] 219));have b:Bw w W:=by rw[q];exact (gF _ _).alloc zS _
 have hz:W.heap.size=w.heap.size+2:=by rw[q];simp
 have n:W.heap[w.heap.size+1]?=Zo (Zc #[Zp (Zo ⟨f,0,Zn⟩),Zs Zn 0 0] 219 (0,0)):=by have:=heap_alloc_last (w.alloc (Zc #[Zi Zk A,Zi Zk v,Zt y,Zs E x F,Zs B z C] 40)) (Zc #[Zp (Zo ⟨f,0,Zn⟩),Zs Zn 0 0] 219);rw[show (w.alloc (Zc #[Zi Zk A,Zi Zk v,Zt y,Zs E x F,Zs B z C] 40)).heap.size=w.heap.size+1 by simp]at this;rw[q];exact this
 have o:lp w.heap.size (w.heap.size+1) f W W (Zs Zn 0 0) []:=⟨World.ownsRow_nil _ _ _ _,Below.refl _ _,om,Lib.OthersKept.refl _ _ _,n,om⟩;have p:qo w.heap.size W:=fun N R=>L N (b.trans R);have I:Hid (Calls prog 148 _ W _):=DO m w.heap.size (w.heap.size+1) f W _ [] t _ _ _ _ _ d o (h.keep (a6 b H) H) (c.keep (b.block f c.lt)) c.lt G (by simp only[List.length_nil,wk,if_true];omega) p;have D:=a7 b;clear h c o p b n;subst q;go_in;go_wp2_with fail;refine I.out.mono ?_;rintro e w1 ⟨rfl,v1,r,a,l⟩;obtain⟨-,O,-⟩:=a.cells;obtain⟨U,V,J,rfl⟩:=a.buf.shape;have i:r.length=gx m t:=by rw[l];rfl
 have Y:Hid (Bw w w1):=D.out.trans a.below;have HL:=a7 i;have M:(convert 156 9 (Zs U V J)).run prog w1=.ok (Zt (bs r)) w1:=by
  by_cases k:r=[]
  ·subst k;rcases a.own.2 with ⟨u,-⟩|⟨g,cap,aa,u,-⟩;·cases u;exact run_convert_bytes_nil w1 156 5 underlying156 underlying5 0 0 9 underlying9
   ·cases u
    exact run_convert_bytes_back (P:=prog) w1 156 9 5 ⟨g,0,Zn⟩ J [] underlying156 underlying5 underlying9 (fun j Q=>by simp at Q)
  ·exact kV _ _ _ _ _ a.buf k
 have K:Hid ((bs r).size=gx m t):=by show _=_;rw[go];exact i
 clear a I l i;go_wp2;go_ret;exact⟨Y.out,_,rfl,K.out⟩
theorem Bm (m f:Nat) (S:Nat->Prop) (w:Zw) (t:T m) (c0 c1 c2 c3 c4:Zv) (k:fZ S w m t c0 c1 c2 c3 c4) (M:Bd S w) (j:kz w f) (J:kr m t<=1048576) (X:lr w) :
  Calls prog 79 #[Zp (Zo ⟨f,0,Zn⟩),Za #[c0,c1,c2,c3,c4]] w fun e Q=>e=Zr (Zb (Eo m t))/\Bw w Q:=by
 have aa:∀(U:Fn)(first cap:Array Zv)(w:Zw),(Instr.makeFunc U first cap).run prog w=.ok (.func U first cap) w:=fun _ _ _ _=>rfl;obtain⟨x,u,v,z,A,E,y,B,D,rfl,rfl,rfl,rfl,rfl⟩:=k.shape;obtain⟨W,C⟩:=iw (((w.alloc (Zc #[Zp (Zo ⟨f,0,Zn⟩)] 127)).alloc (Zc #[Zi Zk x,Zi Zk u,Zt v,Zs z A E,Zs y B D] 40)).alloc (Zc #[Zi Zk 0] 3));have i:Bw w W:=by rw[C];exact ((gF _ _).alloc zS _).alloc zE _
 have hz:W.heap.size=w.heap.size+3:=by rw[C];simp
 have l:=j.lt;have n:la W (w.heap.size+1+1) 0:=by have:=la.new ((w.alloc (Zc #[Zp (Zo ⟨f,0,Zn⟩)] 127)).alloc (Zc #[Zi Zk x,Zi Zk u,Zt v,Zs z A E,Zs y B D] 40)) 0;rw[show ((w.alloc (Zc #[Zp (Zo ⟨f,0,Zn⟩)] 127)).alloc (Zc #[Zi Zk x,Zi Zk u,Zt v,Zs z A E,Zs y B D] 40)).heap.size=w.heap.size+1+1 by simp]at this;rw[C];exact this
 have q:W.cell? ⟨w.heap.size,0,Zn⟩=Zo (Zp (Zo ⟨f,0,Zn⟩)):=by rw[C];simp[go_sem]
 have c:(W.cell? ⟨w.heap.size+1,0,Zn⟩=Zo (Zi Zk x)/\W.cell? ⟨w.heap.size+1,1,Zn⟩=Zo (Zi Zk u)/\W.cell? ⟨w.heap.size+1,2,Zn⟩=Zo (Zt v))/\W.cell? ⟨w.heap.size+1,3,Zn⟩=Zo (Zs z A E)/\W.cell? ⟨w.heap.size+1,4,Zn⟩=Zo (Zs y B D):=by rw[C];refine⟨⟨?_,?_,?_⟩,?_,?_⟩<;>simp[go_sem]
 have o:=k.keep (a6 i M) (fun _ h=>h);have N:Hid (Calls prog 109 _ W _):=Dg m S t _ _ _ _ _ 1 0 (w.heap.size+1+1) w.heap.size f W o (fun b R=>by have:=M b R;omega) ⟨n,q,j.keep (i.block f l),om,om⟩ J om om om om;unfold Jq at N;have P:Hid (∀ w1,b7 (w.heap.size+1+1) W w1->gD m t 1=true->fJ m t<=200->(Calls prog 112 #[Zp (Zo ⟨f,0,Zn⟩),Za #[Zi Zk x,Zi Zk u,Zt v,Zs z A E,Zs y B D]] w1 fun e Q=>Bw w1 Q/\∃ s,e=Zr (Zt s)/\s.size=gx m t) /\
   (w1.cell? ⟨w.heap.size,0,Zn⟩=Zo (Zp (Zo ⟨f,0,Zn⟩))/\w1.cell? ⟨w.heap.size+1,0,Zn⟩=Zo (Zi Zk x)/\w1.cell? ⟨w.heap.size+1,1,Zn⟩=Zo (Zi Zk u)/\w1.cell? ⟨w.heap.size+1,2,Zn⟩=Zo (Zt v)/\w1.cell? ⟨w.heap.size+1,3,Zn⟩=Zo (Zs z A E)/\w1.cell? ⟨w.heap.size+1,4,Zn⟩=Zo (Zs y B D))):=by
  intro w1 d I O
  have a:Bw w w1:=i.trans (d.below om om)
  refine⟨A5 m f S w1 t _ _ _ _ _ 1 (k.keep (a6 a M) (fun _ h=>h)) (fun b R=>Nat.lt_of_lt_of_le (M b R) a.size) (j.keep (a.block f l)) I O (X.step a),d.cell q om,d.cell c.1.1 om,d.cell c.1.2.1 om,d.cell c.1.2.2 om,d.cell c.2.1 om,d.cell c.2.2 om⟩
 have Y:=a7 i;have HZ:=a7 hz;clear k o n q c i hz j X J;subst C;go_in;go_wp2_with fail;refine N.out.mono ?_;rintro e w1 ⟨d,r,rfl,g,p⟩;have a:Bw w w1:=Y.out.trans (d.below om Y.out.size);cases r with
 | false=>
  have L:Hid (Eo m t=false/\Bw w w1):=by refine⟨?_,a⟩;rw[Bool.eq_false_iff];intro h;simp only[Eo,Zq,decide_eq_true_eq]at h;exact p rfl ⟨h.1.1,om⟩
  clear g p d a N P;go_wp2;go_ret;exact⟨b6 L.out.1.symm,L.out.2⟩
 | true=>
  obtain⟨I,O,-⟩:=g rfl;obtain⟨H,z0,z1,z2,z3,z4,z5⟩:=P.out w1 d I om;have F:=a7 H;have Z:Hid (Eo m t=decide ((gx m t:Int)<=3000)):=by
   show _=_;unfold Eo;rw[I,decide_eq_true (show fJ m t<=200 by omega)];by_cases V:gx m t<=3000;·rw[decide_eq_true V,decide_eq_true om];rfl
   ·rw[decide_eq_false V,decide_eq_false om];rfl
  have G:=a7 a;clear g p d a N P H I O;go_wp2_with fail;refine F.out.mono ?_;rintro e w2 ⟨K,s,rfl,hs⟩;have L:Hid (Eo m t=decide ((s.size:Int)<=3000)/\Bw w w2):=⟨by rw[Z.out,hs],G.out.trans (K.mono G.out.size)⟩;clear K hs F Z z0 z1 z2 z3 z4 z5;go_wp2;go_ret;exact⟨b6 L.out.1.symm,L.out.2⟩
theorem wZ (m:Nat) (S:Nat->Prop) (w:Zw) (t:T m) (c0 c1 c2 c3 c4:Zv) (i:fZ S w m t c0 c1 c2 c3 c4) (D:Bd S w) (y:kr m t<=1048576) (B:lr w) :
  Calls prog 38 #[Za #[c0,c1,c2,c3,c4]] w fun e c=>e=Zr (Zb (Eo m t))/\Bw w c:=by
 obtain⟨p,j,l,u,k,v,q,n,r,rfl,rfl,rfl,rfl,rfl⟩:=i.shape;have z:=(Below.refl w.heap.size w).alloc (Nat.le_refl _) (Zc #[Zi Zk p,Zi Zk j,Zt l,Zs u k v,Zs q n r] 40);have E:Hid (∀w1 x,Bw w w1->kz w1 x->Calls prog 79 #[Zp (Zo ⟨x,0,Zn⟩),Za #[Zi Zk p,Zi Zk j,Zt l,Zs u k v,Zs q n r]] w1 fun e c=>e=Zr (Zb (Eo m t))/\Bw w1 c):=by intro w1 x A f;exact Bm m x S w1 t _ _ _ _ _ (i.keep (a6 A D) (fun _ h=>h)) (fun b g=>Nat.lt_of_lt_of_le (D b g) A.size) f y (B.step A)
 have C:Hid (Calls prog 78 #[] (w.alloc (Zc #[Zi Zk p,Zi Zk j,Zt l,Zs u k v,Zs q n r] 40)).drew fun e c=>∃ b,e=Zr (Zp (Zo ⟨b,0,Zn⟩))/\kz c b/\Bw w c /\
   c.cell? ⟨w.heap.size,0,Zn⟩=Zo (Zi Zk p)/\c.cell? ⟨w.heap.size,1,Zn⟩=Zo (Zi Zk j)/\c.cell? ⟨w.heap.size,2,Zn⟩=Zo (Zt l)/\c.cell? ⟨w.heap.size,3,Zn⟩=Zo (Zs u k v)/\c.cell? ⟨w.heap.size,4,Zn⟩=Zo (Zs q n r)):=by
  refine (uj _).mono ?_
  rintro e c ⟨b,rfl,-,-,f,s⟩
  have d:Bw w c:=(z.drew).trans (s.mono (by show w.heap.size<=(w.heap.push _).size;simp))
  have o:c.heap[w.heap.size]?=Zo (Zc #[Zi Zk p,Zi Zk j,Zt l,Zs u k v,Zs q n r] 40 (0,0)):=(s.block w.heap.size (by show w.heap.size<(w.heap.push _).size;simp)).trans (heap_alloc_last w _)
  exact⟨b,rfl,f,d,gE o⟩
 clear i B;go_in;go_wp2_with fail;go_region_with (first
  | (go_at_call 78;refine C.out.mono ?_;rintro e w1 ⟨b,rfl,f,d,z0,F,z2,z3,z4⟩)
  | (go_at_call 79;refine (E.out _ _ (by with_reducible assumption) (by with_reducible assumption)).mono ?_;rintro e H ⟨rfl,g⟩))
 all_goals
  have G:=a7 (d.trans (g.mono d.size))
  clear f d g E C z0 F z2 z3 z4
  go_wp2
  go_ret
  exact⟨rfl,G.out⟩
def GZ(s:Int):Int:=if s=20∨s=32∨s=33∨s=34∨s=42∨s=43 then 1 else if s=35 then 2 else -1
theorem kD(s:Int)(w:Zw):Calls prog 140 #[Zi Zk s] w fun e a=>e=Zr (Zi Zk (GZ s))/\a=w:=by
 by_cases h:s=20∨s=32∨s=33∨s=34∨s=42∨s=43∨s=35
 ·rcases h with rfl|rfl|rfl|rfl|rfl|rfl|rfl;all_goals
   go_in
   go_wp2
   go_ret
   exact⟨fO zC,rfl⟩
 ·have g:(s==20)=false:=by simp;omega
  have d:(s==32)=false:=zE;have i:(s==33)=false:=zE;have c:(s==34)=false:=zE;have k:(s==42)=false:=zE;have j:(s==43)=false:=zE;have f:(s==35)=false:=zE;have b:Hid (GZ s = -1):=by show _=_;unfold GZ;rw[if_neg om,if_neg om]
  clear h;go_in;go_wp2;go_ret;exact⟨fO b.out.symm,rfl⟩
end Go.Proofs.YtcfojmaccikgeaaGreatDoor
