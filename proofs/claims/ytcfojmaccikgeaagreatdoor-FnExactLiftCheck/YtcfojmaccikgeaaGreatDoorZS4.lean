import Derived.Test.YtcfojmaccikgeaaGreatDoorZS3
open Go.Value renaming slice→Zs,int→Zi,string→Zt,agg→Za
open Go.IntKind renaming i64→Zk
open Go.Obj renaming cells→Zc
namespace Go.Proofs.YtcfojmaccikgeaaGreatDoor
set_option maxRecDepth 100000
set_option maxHeartbeats 16000000
open Go.RowKit Go.Proofs.Tryz
variable {M n:Nat}
theorem gY.down{S:ZP}{w:World}(q:5<=M){l:List ((ZN×Int)×K n)}{v:Value}(h:gY S w n l v)(z:l.all jd=true):gY S w (M+1) (mi M l) v:=by
 obtain⟨f,cap,A,y,t⟩:=h;have e:(mi M l).length=l.length:=List.length_map ..;refine⟨f,cap,by rw[e];exact A,by rw[e];exact y,fun d=>?_⟩;obtain⟨b,off,r,s,a⟩:=t (fun h=>d (by rw[h];rfl));refine⟨b,off,r,s,fun i hi=>?_⟩;have c:i<l.length:=by rw[<- e];exact hi
 obtain⟨c0,c1,c2,g,j,k,m,o,p,x⟩:=a i c;have u:(mi M l)[i]=(l[i].1,fO M n l[i].2):=List.getElem_map ..;rw[u];have:=List.all_eq_true.1 z l[i] (List.getElem_mem c);unfold jd at this;simp only[Bool.and_eq_true]at this;exact⟨c0,c1,c2,g,j,k,m,o,p,x.okd (oK this.1) q⟩
theorem Ir(a:5<=M){l:List ((ZN×Int)×K n)}(b:l.all jd=true):∀p,p∈mi M l->gF (M+1) p.2=true:=by intro p c;obtain⟨q,d,rfl⟩:=List.mem_map.1 c;have:=List.all_eq_true.1 b q d;unfold jd at this;simp only[Bool.and_eq_true]at this;exact (ni a (oK this.1)).1
theorem Fe{α:Type}{p:α->Bool}{l:List α}(b:Bool)(i:Nat)(h:i<l.length):(b && (l.take (i+1)).all p)=((b && (l.take i).all p) && p l[i]):=by rw[List.take_succ_eq_append_getElem h,List.all_append,Bool.and_assoc];simp
theorem tY (M:Nat) (hM:5<=M) (m n n':Nat) (S:ZP) (t:T m) (fr:K n) (l:List ((ZN × Int) × K n')) (k0 k1 k2 v c0 c1 c2 c3 c4:Value) (w:World) (hk:a8 S w n fr k0 k1 k2) (hv:gY S w n' l v) (ht:fT S w m t c0 c1 c2 c3 c4) (hB:Bd S w) (ax:jR m t<=1048576) (hl:l.length<=1048576) :
  Calls prog 21 #[Za #[k0,k1,k2],v,Za #[c0,c1,c2,c3,c4]] w (mX (jB M m n n' t fr l) w):=by
 obtain⟨x0,x1,x2,xa,xl,xc,ya,yl,yc,rfl,rfl,rfl,rfl,rfl⟩:=ht.shape;obtain⟨y0,za,zl,zc,ua,ul,uc,rfl,rfl,rfl⟩:=hk.shape;obtain⟨va,vc,rfl,-,aa⟩:=id hv;obtain⟨W,hW⟩:=ii (((w.alloc (Zc #[Zi Zk y0,Zs za zl zc,Zs ua ul uc] 31)).alloc (Zc #[Zi Zk x0,Zi Zk x1,Zt x2,Zs xa xl xc,Zs ya yl yc] 40)).alloc (Zc #[Zi Zk 0,Zi Zk 0] 33));have L:Bw w W:=by rw[hW];exact ((gx _ _).alloc zS _).alloc zE _
 have hz:w.heap.size+3<=W.heap.size:=by rw[hW];simp
 have aN:W.heap[w.heap.size]?=some (Zc #[Zi Zk y0,Zs za zl zc,Zs ua ul uc] 31 (0,0)):=by rw[hW,Below.heap_alloc _ _ _ zE,Below.heap_alloc _ _ _ zS];exact heap_alloc_new _ _
 have aO:W.heap[w.heap.size+1]?=some (Zc #[Zi Zk x0,Zi Zk x1,Zt x2,Zs xa xl xc,Zs ya yl yc] 40 (0,0)):=by have:=heap_alloc_new (w.alloc (Zc #[Zi Zk y0,Zs za zl zc,Zs ua ul uc] 31)) (Zc #[Zi Zk x0,Zi Zk x1,Zt x2,Zs xa xl xc,Zs ya yl yc] 40);rw[hW,Below.heap_alloc _ _ _ (by simp)];simpa using this
 have aM:mG W (w.heap.size+1+1):=by have:=sx ((w.alloc (Zc #[Zi Zk y0,Zs za zl zc,Zs ua ul uc] 31)).alloc (Zc #[Zi Zk x0,Zi Zk x1,Zt x2,Zs xa xl xc,Zs ya yl yc] 40));rw[hW];simpa using this
 have g:Hid (∀V,Bw W V->(D3 V w.heap.size y0 za zl zc ua ul uc)/\(D5 V (w.heap.size+1) x0 x1 x2 xa xl xc ya yl yc)/\mG V (w.heap.size+1+1)/\Bw w V):=fun V hV=>⟨(fY ((hV.block w.heap.size om).trans aN)).1,fZ ((hV.block (w.heap.size+1) om).trans aO),(hV.block (w.heap.size+1+1) om).trans aM,L.trans (hV.mono L.size)⟩;have ao:=a7 ht;have HK:=a7 hk;have HV:=a7 hv;have HB:Hid (Bd S w):=hB;have aQ:=a7 aa;have H:Hid (∀V,Bw w V->Bd S V):=fun V h b hb=>Nat.lt_of_lt_of_le (hB b hb) h.size;have J:Hid (Calls prog 56 _ W _):=zt m S t _ _ _ _ _ W (ht.keep (a6 L hB) fun _ h=>h) (H.out W L) ax;have aR:=a7 ax;have c:Hid (∀V (r:Int×Nat),Bw W V->jB M m n n' t fr l=r->mX (jB M m n n' t fr l) w (.returned (Za #[Zi Zk r.1,Zi Zk (r.2:Nat)])) ((V.setCell ⟨w.heap.size+1+1,0,none⟩ (Zi Zk r.1)).setCell ⟨w.heap.size+1+1,1,none⟩ (Zi Zk (r.2:Nat)))):=fun V r hV hr=>by rw[hr];exact⟨rfl,iF (L.trans (hV.mono L.size)) (by omega)⟩
 obtain⟨⟨p0,p1,p2⟩,⟨q0,q1,q2,q3,q4⟩,-⟩:=g.out W (Below.refl _ _);clear ht hk hv hB aN aO aM ax aa;go_in;go_wp2_with fail;rw[<- hW];clear hW;refine J.out.mono ?_;rintro e w1 ⟨rfl,ae⟩;clear J p0 p1 p2 q0 q1 q2 q3 q4;obtain⟨⟨p0,p1,p2⟩,-,F,B⟩:=g.out w1 ae;cases hok:Gh m t with
 | false=>have O:=Lib.hid (c.out w1 (2,0) ae (by unfold jB;rw[if_pos hok]));obtain⟨⟨s0,s1⟩,h0,h1⟩:=gg F;clear g c F hok;go_wp2_with fail;refine bodyPost_ret (v:=Za #[Zi Zk 2,Zi Zk 0]) (by simp[results,results21,go_sem,s0,s1]) rfl ?_;exact O.out
 | true=>
 have aA:=Lib.hid (rx n S fr _ _ _ w1 (HK.out.keep (a6 B HB.out) fun _ h=>h) (H.out w1 B));have J:=a7 hok;clear hok F;go_wp2_with fail;refine aA.out.mono ?_;rintro e w2 ⟨rfl,aS⟩;have aE:=ae.trans (aS.mono ae.size);clear aA p0 p1 p2;obtain⟨fb,x⟩:=ii (jH n fr);rw[<- x];have aP:=a7 x;clear x;go_wp2_with fail;go_loopw [7,8] (fun ov iv wr=>∃(i:Nat)(ob:Bool),iv=Zi Zk i/\i<=l.length/\ov=.bool ob/\Hid (ob=(fb && (l.take i).all jd))/\Bw W wr) (fun _ iv _=>l.length-(intOf iv).toNat);case atStart=>exact⟨0,fb,rfl,Nat.zero_le _,rfl,(by show _=_;simp),aE⟩
 case round=>
  obtain⟨i,ob,rfl,bi,rfl,D,u⟩:=hrel;by_cases af:i<l.length
  ·obtain⟨b,off,rfl,aT,Y⟩:=aQ.out (by intro h;rw[h]at af;simp at af);obtain⟨d0,d1,d2,e0,e1,e2,e3,e4,bd,aw⟩:=Y i af;obtain⟨u0,da,dl,dc,ea,el,ec,rfl,rfl,rfl⟩:=aw.shape;have f:=(g.out wr u).2.2.2;have U:=HB.out b aT;have f0:=kC f e0 U;have f1:=kC f e1 U;have f2:=kC f e2 U;have f3:=kC f e3 U;have f4:=kC f e4 U;have bc:(i:Int)<(l.length:Int):=om;have ad:=a7 (Fe (p:=jd) fb i af);have aL:jd l[i]=(jH n' l[i].2 && qV l[i].1.1 l[i].1.2):=rfl;have j:=a7 aL;have am:=Lib.hid (rx n' S l[i].2 _ _ _ wr (aw.keep (a6 f HB.out) fun _ h=>h) (H.out wr f));generalize jd l[i]=sbv at *;generalize l[i].1.1=s at *;generalize l[i].1.2=vn at *;generalize jH n' l[i].2=bb at *;clear Y e0 e1 e2 e3 e4 aw aL;cases ob with
   | false=>
    have HN:Hid (false=(fb && (l.take (i+1)).all jd)):=by show _=_;rw[ad.out,<- D.out];rfl
    clear ad D j am;go_wp2;go_roundw;case rel=>exact⟨i+1,false,by go_num,om,rfl,HN.out,u⟩
    case measure=>simp[intOf];omega
   | true=>
    have HN:Hid (sbv=(fb && (l.take (i+1)).all jd)):=by show _=_;rw[ad.out,<- D.out];rfl
    have C:Hid (∀V,Calls prog 30 #[Zt s] V _):=fun V=>kK s V bd;have I:Hid (∀V,Calls prog 58 #[Zi Zk vn,Zi Zk 1,Zi Zk 12] V _):=fun V=>iO vn 1 12 V;clear ad D;have o:Hid (∀bv wx,sbv=bv->Bw wr wx->∃(i':Nat)(ob:Bool),Value.int Zk ((i:Int)+1)=Zi Zk i' /\ i'<=l.length/\Value.bool bv=.bool ob/\Hid (ob=(fb && (l.take i').all jd))/\Bw W wx):=fun bv wx hb hw=>⟨i+1,bv,by go_num,om,rfl,(by show _=_;rw[<- hb];exact HN.out),u.trans (hw.mono u.size)⟩;clear HN;go_wp2_with fail;refine am.out.mono ?_;rintro e w3 ⟨rfl,Q⟩;have bj:=Q.size;have g0:=kC Q f0 (by have:=f.size;omega);have g1:=kC Q f1 (by have:=f.size;omega);have k:=a7 Q;clear am f0 f1 f2 f3 f4 Q;cases bb with
    | false=>
     have HL:=Lib.hid (o.out false w3 j.out k.out);clear o C I j k;go_wp2;go_roundw;case rel=>exact HL.out
     case measure=>simp[intOf];omega
    | true=>
    by_cases ab:s=⟨#[]⟩
    ·subst ab;by_cases ay:vn=0
     ·subst ay;have HL:=Lib.hid (o.out true w3 (j.out.trans rfl) k.out);clear o C I j k;go_wp2;go_roundw;case rel=>exact HL.out
      case measure=>simp[intOf];omega
     ·have be:(vn==0)=false:=by simpa using ay
      have HL:=Lib.hid (o.out false w3 (j.out.trans (by unfold qV;rw[be];rfl)) k.out);have d:=Lib.hid (C.out w3);have y:gj ⟨#[]⟩=false:=by rfl
      rw[y]at d;clear o C I j k y ay;go_wp2_with fail;refine d.out.mono ?_;rintro e w4 ⟨rfl,rfl⟩;clear d;go_wp2;go_roundw;case rel=>exact HL.out
      case measure=>simp[intOf];omega
    ·have ag:(s==ByteArray.empty)=false:=by
      rw[Bool.eq_false_iff];intro h;have h2:s=ByteArray.empty:=by simpa [qE] using h
      exact ab (h2.trans rfl)
     have aJ:(s.toList==[])=false:=by have:=Cs s ⟨#[]⟩;rw[decide_eq_false ab]at this;simpa using this
     have bh:s.toList.isEmpty=false:=by
      cases h:s.toList with
      | nil=>rw[h]at aJ;cases aJ
      | cons a r=>rfl
     have d:=Lib.hid (C.out w3);cases y:gj s with
     | false=>
      have HL:=Lib.hid (o.out false w3 (j.out.trans (by unfold qV;rw[ag,y];rfl)) k.out);rw[y]at d;clear o C I j k y ab ag;go_wp2_with fail;refine d.out.mono ?_;rintro e w4 ⟨rfl,rfl⟩;clear d;go_wp2;go_roundw;case rel=>exact HL.out
      case measure=>simp[intOf];omega
     | true=>
      have HL:=Lib.hid (o.out (decide (1<=vn/\vn<=12)) w3 (j.out.trans (by unfold qV;rw[ag,y,Bool.decide_and];rfl)) k.out);rw[y]at d;have ah:=Lib.hid (I.out w3);generalize decide (1<=vn/\vn<=12)=ib at *;clear o C I j k y ab ag;go_wp2_with fail;refine d.out.mono ?_;rintro e w4 ⟨rfl,rfl⟩;clear d;go_wp2_with fail;refine ah.out.mono ?_;rintro e w5 ⟨rfl,rfl⟩;clear ah;go_wp2;go_roundw;case rel=>exact HL.out
      case measure=>simp[intOf];omega
  ·have ba:i=l.length:=by omega
   have z:ob=(jH n fr && l.all jd):=by rw[D.out,<- aP.out,ba,List.take_length]
   obtain⟨⟨p0,p1,p2⟩,⟨q0,q1,q2,q3,q4⟩,ar,f⟩:=g.out wr u;have bc:¬(i:Int)<(l.length:Int):=om;cases ob with
   | false=>have O:=Lib.hid (c.out wr (6,0) u (by unfold jB;rw[J.out,if_neg (by simp),if_pos z.symm]));obtain⟨⟨s0,s1⟩,h0,h1⟩:=gg ar;clear g c ar D z p0 p1 p2 q0 q1 q2 q3 q4;go_wp2_with fail;refine bodyPost_ret (v:=Za #[Zi Zk 6,Zi Zk 0]) (by simp[results,results21,go_sem,s0,s1]) rfl ?_;exact O.out
   | true=>
    have x:jH n fr=true/\l.all jd=true:=by have:=z.symm;simp only[Bool.and_eq_true]at this;exact this
    obtain⟨av,aW,aD⟩:=Ca J.out;obtain⟨r,hr⟩:=ii (gR (mi M l) m t [(qP,fO M n fr)] 0);have aH:jB M m n n' t fr l=if r.2.1≠0 then r.2 else if 40000<gN m t then (9,0) else if 400<ke m t then (10,0) else (0,0):=by rw[hr];unfold jB;rw[J.out,if_neg (by simp),if_neg (by rw[<- z];simp)]
    obtain⟨Wv,P⟩:=ii (wr.alloc (Zc #[Zt ⟨#[111,108,100]⟩,Zi Zk y0,Zs za zl zc,Zs ua ul uc] 70));have aV:Bw wr Wv:=by rw[P];exact gx _ _
    have ac:Wv.heap[wr.heap.size]?=some (Zc #[Zt ⟨#[111,108,100]⟩,Zi Zk y0,Zs za zl zc,Zs ua ul uc] 70 (0,0)):=by rw[P];exact heap_alloc_new _ _
    have R:=u.trans (aV.mono u.size);have G:=(g.out Wv R).2.2.2;have bl:wr.heap.size<Wv.heap.size:=by rw[P];simp
    have ak:jf (fun b=>S b∨b=wr.heap.size) Wv (M+1) [(qP,fO M n fr)] (Zs (some ⟨wr.heap.size,0,none⟩) 1 1):=by
     refine⟨_,_,rfl,by simp[maxLen],fun _=>⟨wr.heap.size,0,rfl,.inr rfl,fun i hi=>?_⟩⟩;have aZ:i=0:=by simpa using hi
     subst aZ;refine⟨Zi Zk y0,Zs za zl zc,Zs ua ul uc,by simp[World.cell?,ac,qP],by simp[World.cell?,ac],by simp[World.cell?,ac],by simp[World.cell?,ac],by show qP.size<=maxLen;decide,?_⟩;exact (a8.okd (oK x.1) hM (HK.out.keep (a6 G HB.out) fun _ h=>.inl h))
    have al:=Lib.hid (AH M hM m (fun b=>S b∨b=wr.heap.size) (mi M l) t [(qP,fO M n fr)] _ _ _ _ _ _ _ 1 0 Wv (ao.out.keep (a6 G HB.out) fun _ h=>.inl h) ak (((HV.out.keep (a6 G HB.out) fun _ h=>.inl h)).down hM x.2) (fun b hb=>by
     rcases hb with hb|hb
     ·exact H.out Wv G b hb
     ·omega) av aD (by simp) (by rw[show (mi M l).length=l.length from List.length_map ..];exact hl) (fun p hp=>by rw[List.mem_singleton]at hp;subst hp;exact (ni hM (oK x.1)).1) (Ir hM x.2) om)
    have aK:gR (mi M l) m t [(qP,fO M n fr)].reverse 0=r:=hr.symm;rw[aK]at al;have bk:w.heap.size+1<wr.heap.size:=by have:=u.size;omega
    have HC:=a7 aH;have HG:=a7 av;clear hr aH ak ac x z D aK aW aD av;go_wp2_with fail;rw[<- P];clear P;refine al.out.mono ?_;rintro e X ⟨rfl,aU⟩;have ai:=R.trans (aU.mono R.size);obtain⟨Z,hZ⟩:=ii (X.alloc (Zc #[Zi Zk r.2.1,Zi Zk (r.2.2:Nat)] 33));have ap:Bw X Z:=by rw[hZ];exact gx _ _
    have az:Z.heap[X.heap.size]?=some (Zc #[Zi Zk r.2.1,Zi Zk (r.2.2:Nat)] 33 (0,0)):=by rw[hZ];exact heap_alloc_new _ _
    have A:=ai.trans (ap.mono ai.size);obtain⟨⟨t0,t1⟩,-⟩:=gg az;clear p0 p1 p2 q0 q1 q2 q3 q4 ar al;obtain⟨-,⟨q0,q1,q2,q3,q4⟩,au,aj⟩:=g.out Z A;by_cases N:r.2.1=0;case neg=>
     have O:=Lib.hid (c.out Z r.2 A (by rw[HC.out,if_pos N]));obtain⟨⟨s0,s1⟩,h0,h1⟩:=gg au;have bf:(r.2.1 != 0)=true:=by simpa using N
     clear ap az A au g c q0 q1 q2 q3 q4;go_upto_region 11 with fail;rw[<- hZ];clear hZ;go_wp2_with fail;refine bodyPost_ret (v:=Za #[Zi Zk r.2.1,Zi Zk (r.2.2:Nat)]) (by simp[results,results21,go_sem,s0,s1]) rfl ?_;exact O.out
    have aI:jB M m n n' t fr l=if 40000<gN m t then (9,0) else if 400<ke m t then (10,0) else (0,0):=by rw[HC.out,if_neg (by simpa using N)]
    have an:=a7 aI;have bg:=a7 N;have aB:=Lib.hid (yJ m S t _ _ _ _ _ Z (ao.out.keep (a6 aj HB.out) fun _ h=>h) (H.out Z aj) aR.out);rw[N]at t0;clear aI HC az ap au N;go_upto_region 11 with fail;rw[<- hZ];clear hZ;go_wp2_with fail;refine aB.out.mono ?_;rintro e Z1 ⟨rfl,aF⟩;have q:=A.trans (aF.mono A.size);clear q0 q1 q2 q3 q4 aB;obtain⟨-,⟨q0,q1,q2,q3,q4⟩,F,B⟩:=g.out Z1 q;by_cases aX:40000<gN m t;·have O:=Lib.hid (c.out Z1 (9,0) q (by rw[an.out,if_pos aX]));obtain⟨⟨s0,s1⟩,h0,h1⟩:=gg F;clear g c F q0 q1 q2 q3 q4;go_wp2_with fail;refine bodyPost_ret (v:=Za #[Zi Zk 9,Zi Zk 0]) (by simp[results,results21,go_sem,s0,s1]) rfl ?_;exact O.out
    have aC:=Lib.hid (AJ m S t _ _ _ _ _ 1 Z1 (ao.out.keep (a6 B HB.out) fun _ h=>h) (H.out Z1 B) HG.out);clear F;go_wp2_with fail;refine aC.out.mono ?_;rintro e Z2 ⟨rfl,aG⟩;have E:=q.trans (aG.mono q.size);clear q0 q1 q2 q3 q4 aC;obtain⟨-,-,aq,-⟩:=g.out Z2 E;obtain⟨⟨s0,s1⟩,h0,h1⟩:=gg aq;by_cases aY:400<ke m t;·have O:=Lib.hid (c.out Z2 (10,0) E (by rw[an.out,if_neg (by omega),if_pos aY]));clear g c aq;go_wp2_with fail;refine bodyPost_ret (v:=Za #[Zi Zk 10,Zi Zk 0]) (by simp[results,results21,go_sem,s0,s1]) rfl ?_;exact O.out
    ·have O:=Lib.hid (c.out Z2 (0,0) E (by rw[an.out,if_neg (by omega),if_neg (by omega)]));clear g c aq;go_wp2_with fail;refine bodyPost_ret (v:=Za #[Zi Zk 0,Zi Zk 0]) (by simp[results,results21,go_sem,s0,s1]) rfl ?_;exact O.out
end Go.Proofs.YtcfojmaccikgeaaGreatDoor
