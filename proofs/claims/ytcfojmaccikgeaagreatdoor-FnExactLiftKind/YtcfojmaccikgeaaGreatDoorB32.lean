import Derived.Test.YtcfojmaccikgeaaGreatDoorProg
import Derived.Deep.RegionHeld
import Derived.RegionDies
import Derived.BigQuiet
import Derived.Test.YtcfojmaccikgeaaGreatDoorB25
import Derived.Deep.RegionLaw
import Derived.Deep.Cut
import Derived.Deep.CutRange
import Derived.Test.YtcfojmaccikgeaaGreatDoorB6
import Derived.Test.YtcfojmaccikgeaaGreatDoorB24
import Derived.Test.YtcfojmaccikgeaaGreatDoorB21
import Derived.Test.YtcfojmaccikgeaaGreatDoorSL2
import Derived.Test.YtcfojmaccikgeaaGreatDoorB5
import Derived.Test.YtcfojmaccikgeaaGreatDoorB26
open Go.Value renaming slice→Zs,int→Zi,string→Zt,pointer→Zp,agg→Za,tuple→Zu,bool→Zb
open Go.IntKind renaming i64→Zk
open Go.Ending renaming returned→Zr
open Go.Obj renaming cells→Zc
open Option renaming none→Zn,some→Zo
open Go renaming World→Zw
open Nat renaming le_refl→Zl
namespace Go.Proofs.YtcfojmaccikgeaaGreatDoor
open Go.RowKit Go.Proofs.Tryz
variable {P:Program} {md:Region.Mode} {ops:Array Oper} {Q:Exit->Act->Zw->Prop} {S:Zw->Prop} {fuel m i':Nat} {listed:Array Bool} {a:Act} {w:Zw} {oi:Oper} {s:ByteArray} {bad':Bool}
theorem tk (i:Nat) {v:Value} (h:wpAnyH P md ops Q S fuel (listed.setIfInBounds i true) (a.put oi.dst v) w)
  (hi:ops[i]?=Zo oi:=by rfl) (j:Region.noSelect ops=true:=by kernel_rfl) (e:Region.free md ops listed i=true:=by kernel_rfl) (d:(Region.ready md ops listed).contains i=true:=by kernel_rfl) (g:Region.wanted oi (yielded ops a.tmps)=true:=by kernel_rfl) (k:S w:=by assumption)
  (hy:∀b,S b->Sem.run P (execOp a.eval oi) b=.ok (.value v) b:=by (intro wq hSw;(try dsimp only at hSw);go_simp;first|done|with_reducible rfl)) (f:∀c a w,Q (.panic c) (a.put oi.dst v) w->Q (.panic c) a w:=by exact fun _ _ _ h=>h) :
  wpAnyH P md ops Q S (fuel+1) listed a w:=wpAnyH_take hi j e d f (.inl ⟨g,hy⟩) k h
theorem iT (i:Nat) {o:Oper}
  (h:∀b:Act->Zw->Prop,Shut (∀a w,S w->(S w->wpAnyH P md ops Q S fuel (listed.setIfInBounds i true) a w)->b a w)->if Region.wanted o (yielded ops a.tmps)=true then Oper.wp P o a w b Q else b (a.put o.dst undef) w)
  (d:ops[i]?=Zo o:=by rfl) (c:Region.ready md ops listed=[i]:=by kernel_rfl):wpAnyH P md ops Q S (fuel+1) listed a w:=wpAnyH_ready c (by simp) (AllReadyH.cons d h AllReadyH.nil)
theorem ts (i:Nat) (h:wpAnyH P md ops Q S fuel (listed.setIfInBounds i true) (a.put oi.dst undef) w)
  (hi:ops[i]?=Zo oi:=by rfl) (g:Region.noSelect ops=true:=by kernel_rfl) (d:Region.free md ops listed i=true:=by kernel_rfl) (b:(Region.ready md ops listed).contains i=true:=by kernel_rfl) (f:Region.wanted oi (yielded ops a.tmps)=false:=by kernel_rfl) (j:S w:=by assumption) (e:∀c a w,Q (.panic c) (a.put oi.dst undef) w->Q (.panic c) a w:=by exact fun _ _ _ h=>h) :
  wpAnyH P md ops Q S (fuel+1) listed a w:=wpAnyH_take hi g d b e (.inr ⟨f,rfl⟩) j h
set_option maxRecDepth 100000
set_option maxHeartbeats 16000000
theorem Tryz.info_strR:(prog.info? 9).map (fun i=>(i.zero,i.size,i.bytes))=Zo (Zo (Zt ⟨#[]⟩),1,16):=by kernel_rfl
theorem Tryz.info_kindR:(prog.info? 31).map (fun i=>(i.zero,i.size,i.bytes))=Zo (Zo (Za #[Zi Zk 0,Zs Zn 0 0,Zs Zn 0 0]),3,56):=by kernel_rfl
theorem Cr {n R i:Nat} {c wr:Zw} {r:List ByteArray} {p:List (K m)} {g l:Value} (o:jl R c.heap.size m c wr 5 r p g l) (j:b7 R w c) (u:R<w.heap.size) (y:w.heap.size+1<=c.heap.size) (x:jb wr R s i' bad') (q:lj m n s i r p i' bad') (G:s.size<=10000) (v:n<=6)
  (h:¬fT s i=110) (e:¬fT s i=116) (k:¬fT s i=102) (f:¬fT s i=63) (d:¬fT s i=91) (a:bad'=false->fT s i'=125) :
  gP (m+1) (n+1) w R s i false (Zr (Za #[Zi Zk 5,g,l])) (ij (wr.setCell ⟨R,1,Zn⟩ (Zi Zk ((i':Int)+1))) w.heap.size 0 (Zi Zk 5) g l):=by
 have t:=FG h e k f d q a;obtain⟨F,D,C,B,E,-⟩:=q;have z:=o.near.size;have A:p.length<=20000:=by cases bad'<;>simp at B<;>omega
 refine lI ((j.trans o.near).trans (b7.set R 1 _ _)) u (by have:=x.set1 ((i':Int)+1);simpa using this) ?_ t;exact zZ o (fun b H=>Below.heap_setCell _ _ _ _ (by show b≠R;omega)) zS om A om
theorem GN (n:Nat) (hn:kY n) (m R:Nat) (s:ByteArray) (i:Nat) (w:Zw) (hm:n+1<=m) (bz:n<=6) (h:jb w R s i false) (hs:s.size<=10000) (hi:i<=s.size)
  (aK:¬fT s i=110) (aI:¬fT s i=116) (az:¬fT s i=102) (aA:¬fT s i=63) (aH:¬fT s i=91) :
  Calls prog 146 #[Zp (Zo ⟨R,0,Zn⟩),Zi Zk (7-((n+1:Nat):Int))] w (gP (m+1) (n+1) w R s i false):=by
 have hR:=h.lt;obtain⟨W1,aY,bL,c2,HL⟩:=lL (Zc #[Zi Zk 0,Zs Zn 0 0,Zs Zn 0 0] 31) h rfl;have bt:¬(6:Int)<7-((n+1:Nat):Int):=om;have p:∀c:UInt8,¬fT s i=c->((((fT s i).toNat:Nat):Int)==(c.toNat:Int))=false:=fun c hc=>by rw[beq_eq_false_iff_ne];intro e;apply hc;apply UInt8.toNat_inj.1;omega
 have e1:((((fT s i).toNat:Nat):Int)==110)=false:=p 110 aK;have e2:((((fT s i).toNat:Nat):Int)==116)=false:=p 116 aI;have e3:((((fT s i).toNat:Nat):Int)==102)=false:=p 102 az;have e4:((((fT s i).toNat:Nat):Int)==63)=false:=p 63 aA;have e5:((((fT s i).toNat:Nat):Int)==91)=false:=p 91 aH;have U:Hid (¬fT s i=110/\¬fT s i=116/\¬fT s i=102/\¬fT s i=63/\¬fT s i=91):=⟨aK,aI,az,aA,aH⟩;have bX:IntKind.i64.wrap (7-((n+1:Nat):Int)+1)=7-(n:Int):=by rw[IntKind.wrap_i64];omega
 have HN:Hid (kY n):=hn;clear h hn p aK aI az aA aH;generalize bx:7-((n+1:Nat):Int)=dp at *;clear bx;generalize ((fT s i).toNat:Nat)=cc at *;go_in;go_wp2_with fail;rw[<- aY];clear aY c2;refine HL.out.mono ?_;rintro e w2 ⟨rfl,B,ad,bM,O⟩;have HE:Hid (Calls prog 178 #[Zp (Zo ⟨R,0,Zn⟩),Zt ⟨#[123]⟩] w2 _):=lG w2 R s ⟨#[123]⟩ i false ad hs zC hi;clear HL ad;go_wp2_with fail;refine HE.out.mono ?_;rintro e b ⟨rfl,ao,H⟩;have bR:=ao.size;have N:=(ao.block w.heap.size om om).trans O;have av:=B.trans ao;obtain⟨i0,F,T,aW⟩:∃(i0:Nat)(F:Bool),jb b R s i0 F/\lj m n s i [] [] i0 F:=by
  rcases H with ⟨q1,q2,q3⟩|⟨q1,q3⟩;·exact⟨i+1,false,q3,s7 hi (.inl ⟨q1,q2,rfl,rfl⟩)⟩
  ·exact⟨i,true,q3,s7 hi (.inr ⟨q1,rfl,rfl⟩)⟩
 have aw:Hid (b7 R w b/\b.heap[w.heap.size]?=Zo (Zc #[Zi Zk 0,Zs Zn 0 0,Zs Zn 0 0] 31 (0,0))):=⟨av,N⟩;have ba:jb (b.alloc (Zc #[Zi Zk 5,Zs Zn 0 0,Zs Zn 0 0] 31)) R s i0 F:=(Below.heap_alloc _ _ _ T.lt).trans T;clear HE H B ao O N av T e1 e2 e3 e4 e5;go_wp2;go_loopw [71] (fun _ wr=>∃(J:List ByteArray)(M:List (K m))(j a:Nat)(f:Bool)(na:Option Addr)(L:Nat)(A:Option Addr)(C:Nat),J.length=a/\M.length=a/\jl R b.heap.size m b wr 5 J M (Zs na a L) (Zs A a C)/\jb wr R s j f/\lj m n s i J M j f) (fun _ wr=>leftRK wr R s.size);case atStart=>exact⟨[],[],i0,0,F,Zn,0,Zn,0,rfl,rfl,jl.start,ba,aW⟩
 case round=>
  obtain⟨J,M,j,a,f,na,L,A,C,bh,aM,hM,hr,hI⟩:=hrel;have hX:=hM.lt;have bP:=hM.near.size;have x0:wr.cell? ⟨b.heap.size,0,Zn⟩=Zo (Zi Zk 5):=by simp[World.cell?,hM.box]
  have x1:wr.cell? ⟨b.heap.size,1,Zn⟩=Zo (Zs na a L):=by simp[World.cell?,hM.box]
  have x2:wr.cell? ⟨b.heap.size,2,Zn⟩=Zo (Zs A a C):=by simp[World.cell?,hM.box]
  have d1:=hr.cell1;have d2:=hr.cell2;have df:=hr.free 1;have bE:=hI;obtain⟨bK,bo,bS,al,-,-⟩:=bE;rw[aM]at al;have l:Hid (J.length=a/\M.length=a):=⟨bh,aM⟩;have HM:Hid (jl R b.heap.size m b wr 5 J M (Zs na a L) (Zs A a C)):=hM;have HR:Hid (jb wr R s j f):=hr;have HI:Hid (lj m n s i J M j f):=hI;have bU:IntKind.i64.wrap ((j:Int)+1)=(j:Int)+1:=by rw[IntKind.wrap_i64];omega
  have bH:a<=10010:=by cases f<;>simp at al<;>omega
  obtain⟨⟨r0,r1,r2⟩,f0,f1,f2⟩:=iJ ((hM.near.block w.heap.size om om).trans aw.out.2);have I:Hid ((f=false->fT s j=125)->∀q,gP (m+1) (n+1) w R s i false (Zr (Za #[Zi Zk 5,Zs na a L,Zs A a C])) (ij ((wr.drewN q).setCell ⟨R,1,Zn⟩ (Zi Zk ((j:Int)+1))) w.heap.size 0 (Zi Zk 5) (Zs na a L) (Zs A a C))):=fun he q=>Cr (HM.out.keep om ((b7.refl R wr).drewN q)) aw.out.1 hR om (HR.out.drewN q) HI.out hs bz U.out.1 U.out.2.1 U.out.2.2.1 U.out.2.2.2.1 U.out.2.2.2.2 he;clear hM hr hI bh aM ba aW;cases f with
  | true=>have HZ:Hid _:=I.out (fun h=>by cases h) 0;clear I;go_wp2_with fail;refine bodyPost_ret (v:=Za #[Zi Zk 5,Zs na a L,Zs A a C]) (by simp[results,results146,go_sem,r0,r1,r2]) rfl ?_;exact HZ.out
  | false=>
   have aL:j<=s.size:=(bo rfl).2;have bO:a<=j:=by simpa using al
   clear bo al;have HL:Hid (Calls prog 177 #[Zp (Zo ⟨R,0,Zn⟩)] wr fun e w'=>e=Zr (Zi .u8 ((fT s j).toNat:Int))/\∃m',w'=wr.drewN m'):=sF wr R s j false HR.out;by_cases t:fT s j=125
   ·have hc:((fT s j).toNat:Nat)=125:=by rw[t];rfl
    rw[hc]at HL;have HZ:Hid (∀q,_):=I.out (fun _=>t);clear I t hc;go_wp2_with (go_at_call 177;refine HL.out.mono ?_;rintro e w' ⟨rfl,nq,rfl⟩);refine bodyPost_ret (v:=Za #[Zi Zk 5,Zs na a L,Zs A a C]) (by simp[results,results146,go_sem,r0,r1,r2]) rfl ?_;exact HZ.out nq
   ·have bC:((((fT s j).toNat:Nat):Int)==125)=false:=by rw[beq_eq_false_iff_ne];intro e;apply t;apply UInt8.toNat_inj.1;have bG:(125:UInt8).toNat=125:=rfl;omega
    have bJ:((((fT s j).toNat:Nat):Int) != 125)=true:=by simp[bne,bC]
    have HE:Hid (¬fT s j=125):=t;have bV:(((fT s j).toNat:Nat):Int)<=255:=by have:=(fT s j).toNat_lt;omega
    clear t I r0 r1 r2 f0 f1 f2;generalize ((fT s j).toNat:Nat)=c at *;rcases Nat.eq_zero_or_pos a with h0|h0;case' inl=>have hd:(0<a)=False:=eq_false om;have bF:((0:Int)<(a:Int))=False:=eq_false om;have ap:Hid (wo s a j j false):=.inl ⟨h0,rfl,rfl⟩;clear h0;go_wp2_with (go_at_call 177;refine HL.out.mono ?_;rintro e w' ⟨rfl,nq,rfl⟩);have aC:b7 R wr (wr.drewN nq):=(b7.refl R wr).drewN nq;have ab:jb (wr.drewN nq) R s j false:=HR.out.drewN nq;generalize wr.drewN nq=w1 at *;obtain⟨E,d,ab,ap,ac⟩:∃(E:Nat)(d:Bool),jb w1 R s E d/\Hid (wo s a j E d)/\E<=s.size:=⟨j,false,ab,ap,aL⟩;clear hd bF
    case' inr=>
     have hd:(0:Int)<(a:Int):=om;go_wp2_with (go_at_call 177;refine HL.out.mono ?_;rintro e w' ⟨rfl,nq,rfl⟩);refine (lG _ R s ⟨#[44]⟩ j false (HR.out.drewN nq) hs zC aL).mono ?_;rintro e w1 ⟨rfl,bj,H⟩;obtain⟨E,d,ab,ap,ac⟩:∃(E:Nat)(d:Bool),jb w1 R s E d/\Hid (wo s a j E d)/\E<=s.size:=by
      rcases H with ⟨he,hz,h⟩|⟨he,h⟩;·exact⟨j+1,false,h,.inr ⟨om,.inl ⟨he,hz,rfl,rfl⟩⟩,hz⟩
      ·exact⟨j,true,h,.inr ⟨om,.inr ⟨he,rfl,rfl⟩⟩,aL⟩
     have aC:b7 R wr w1:=((b7.refl R wr).drewN nq).trans bj;clear H bj hd h0
    all_goals
     have S:Hid (jl R b.heap.size m b w1 5 J M (Zs na a L) (Zs A a C)):=HM.out.keep om aC
     have aG:=S.out.lt
     have aZ:w1.cell? ⟨b.heap.size,1,Zn⟩=Zo (Zs na a L):=by simp[World.cell?,S.out.box]
     obtain⟨x,aB⟩:∃x,Hid (bs ((s.data.toList.drop E).takeWhile gH)=x):=⟨_,rfl⟩
     obtain⟨j1,HJ⟩:∃j1,Hid (E+((s.data.toList.drop E).takeWhile gH).length=j1):=⟨_,rfl⟩
     have bc:Hid (Calls prog 179 #[Zp (Zo ⟨R,0,Zn⟩)] w1.drew fun e w'=>e=Zr (Zt x)/\b7 R w1.drew w' /\ jb w' R s (j1:Int) d):=
      (F9 w1.drew R s E d (ab.drewN 1) hs ac).mono fun e w' ⟨h1,h2,h3,_⟩=>⟨by rw[h1,aB.out],h2,by rw[HJ.out]at h3;exact h3⟩
     have HT:Hid ((bs ((s.data.toList.drop E).takeWhile gH)).size<=10000/\E+((s.data.toList.drop E).takeWhile gH).length<=s.size):=by
      have h1:((s.data.toList.drop E).takeWhile gH).length<=(s.data.toList.drop E).length:=(List.takeWhile_prefix _).length_le
      rw[List.length_drop]at h1
      have h2:s.data.toList.length=s.size:=zS
      exact⟨by rw[go];omega,om⟩
     rw[aB.out,HJ.out]at HT
     have aQ:=HT.out.2
     have ai:Hid (w1.ownsRow (b.heap.size+1) 9 1 (Zs na a L) a (J.map Zt)):=by
      have:=S.out.names
      rw[l.out.1]at this;exact this
     obtain⟨br,V,Y,ae,Z⟩:=info_parts Tryz.info_strR
     have aj:Hid (_/\_/\_/\_):=⟨V,Y,ae,Z⟩
     clear V Y ae Z ab x0 x1 x2 d1 d2 df HL HM aC
     go_upto_region 27 with fail
     go_cut [71] from 62 to 95 (fun _ wx=>∃g cap,jl R b.heap.size m b wx 5 (J++[x]) M (Zs (Zo ⟨g,0,Zn⟩) (a+1) cap) (Zs A a C)/\jb wx R s (j1:Int) d)
     case first=>
      go_region_law (first
       | (refine step_append_lies _ (by rfl) (.tmp 79) (.tmp 82) 23 (by rfl) (b.heap.size+1) 9 br _ 1 16 underlying23 aj.out.1 aj.out.2.1 aj.out.2.2.1 aj.out.2.2.2 rfl zC (Zs na a L) a (J.map Zt) (by rfl) (bn _) ⟨w2.heap.size,0,Zn⟩ 1 1 [Zt x] (by rfl) rfl (World.news_of_block (heap_alloc_new w2 _)) (by simp[Value.oneCell']) zC (by unfold maxLen;omega) om zE (w2.heap.size+1) zS ?_;intro g cap am ar D bb bT;have aE:=(sM (W:=w1.drew) ai.out aG om B D).trans S.out.box;have be:am.cell? ⟨b.heap.size,1,Zn⟩=Zo (Zs na a L):=(by simp[World.cell?,aE]);have aX:am.frozen? ⟨b.heap.size,1,Zn⟩=false:=(by simp[World.frozen?,aE]))
       | (go_simp;go_at_call 179;refine bc.out.mono ?_;rintro e w2 ⟨rfl,B,ad⟩;have aR:w1.heap.size<=w2.heap.size:=B.size;have bn:=fun o=>yh (R:=R) (X:=b.heap.size) (W:=w1.drew) ai.out om B o;have bg:w2.cell? ⟨b.heap.size,1,Zn⟩=Zo (Zs na a L):=(World.cell?_of_block (B.block b.heap.size (by simpa using aG) om)).trans aZ;have bB:(w2.alloc (Zc #[Zt x] 9)).cell? ⟨b.heap.size,1,Zn⟩=Zo (Zs na a L):=(World.cell?_of_block (Below.heap_alloc _ _ _ (by show b.heap.size<_;omega))).trans bg))
      all_goals
       have Q:=jl.name (W:=w2) (Wa:=w2.alloc (Zc #[Zt x] 9)) (one:=Zc #[Zt x] 9) (S.out.keep om (((b7.refl R w1).drewN 1).trans B)) (Zl _) rfl ⟨rfl,rfl,rfl⟩ HT.out.1 (by rw[l.out.1];exact ar) D bb
       rw[l.out.1]at Q
       have ak:Hid (jl R b.heap.size m b (am.setCell ⟨b.heap.size,1,Zn⟩ (Zs (Zo ⟨g,0,Zn⟩) (a+1) cap)) 5 (J++[x]) M (Zs (Zo ⟨g,0,Zn⟩) (a+1) cap) (Zs A a C)):=Q
       have ah:Hid (jb (am.setCell ⟨b.heap.size,1,Zn⟩ (Zs (Zo ⟨g,0,Zn⟩) (a+1) cap)) R s (j1:Int) d):=vw (X:=b.heap.size) (q:=1) (W:=w1.drew) ad ai.out om D
       clear Q ar D bb B ad bn bg bB be aX aE
       go_wp2
       go_meet
       exact⟨_,_,ak.out,ah.out⟩
     case rest=>
      obtain⟨g,cap,Q,bi⟩:=hcut
      have ak:Hid (jl R b.heap.size m b wc 5 (J++[x]) M (Zs (Zo ⟨g,0,Zn⟩) (a+1) cap) (Zs A a C)):=Q
      have ah:Hid (jb wc R s (j1:Int) d):=bi
      clear Q bi aZ bc S ai aG
      go_wp2_with fail
      refine (lG wc R s ⟨#[58]⟩ j1 d ah.out hs zC aQ).mono ?_
      rintro e P ⟨rfl,bl,H⟩
      obtain⟨i3,r,T,bw,bk,aJ⟩:∃(i3:Nat)(r:Bool),jb P R s i3 r/\Hid (Gl s j1 i3 d r)/\(r=false->i3<=s.size)/\i3<=20000:=by
       rcases H with ⟨he,hz,h⟩|⟨he,h⟩
       ·exact⟨j1+1,d,h,.inl ⟨he,hz,rfl,rfl⟩,fun _=>hz,by have:(⟨#[58]⟩:ByteArray).size=1:=rfl;omega⟩
       ·exact⟨j1,true,h,.inr ⟨he,rfl,rfl⟩,(fun h=>by cases h),om⟩
      have aF:=ak.out.keep om bl
      have ag:Hid (jl R b.heap.size m b P 5 (J++[x]) M (Zs (Zo ⟨g,0,Zn⟩) (a+1) cap) (Zs A a C)):=aF
      obtain⟨xs,aD,aO⟩:=aF.kids
      have bA:Hid (∀q (h:q<M.length),_):=aO
      have af:Hid (P.ownsRow (b.heap.size+1) 31 3 (Zs A a C) a xs):=by
       rw[l.out.2]at aD;exact aD
      have bm:=ag.out.lt
      have bq:P.cell? ⟨b.heap.size,2,Zn⟩=Zo (Zs A a C):=by simp[World.cell?,ag.out.box]
      have bv:Hid (Calls prog 146 #[Zp (Zo ⟨R,0,Zn⟩),Zi Zk (7-(n:Int))] P.drew (gP m n P.drew R s i3 r)):=HN.out m R s i3 r _ hm (T.drewN 1) hs bk aJ
      obtain⟨bu,V,Y,ae,Z⟩:=info_parts Tryz.info_kindR
      have an:Hid (_/\_/\_/\_):=⟨V,Y,ae,Z⟩
      clear V Y ae Z aD aO aF H T bl ak ah
      go_wp2_with fail
      go_region_law (first
       | (refine step_append_lies _ (by rfl) (.tmp 88) (.tmp 93) 29 (by rfl) (b.heap.size+1) 31 bu _ 3 56 underlying29 an.out.1 an.out.2.1 an.out.2.2.1 an.out.2.2.2 rfl zC (Zs A a C) a xs (by rfl) (aq _) ⟨v2.heap.size,0,Zn⟩ 1 1 [Zi Zk y0,Zs ya yl yc,Zs za zl zc] (by rfl) rfl (World.news_of_block (heap_alloc_new v2 _)) (by simp[Value.oneCell']) zC (by unfold maxLen;omega) om zE (v2.heap.size+1) zS ?_;intro g2 y v3 aa k ax bI;have aN:=(sM (W:=P.drew) af.out bm om z k).trans ag.out.box;have aP:v3.cell? ⟨b.heap.size,2,Zn⟩=Zo (Zs A a C):=(by simp[World.cell?,aN]);have aU:v3.frozen? ⟨b.heap.size,2,Zn⟩=false:=(by simp[World.frozen?,aN]))
       | (go_simp;go_at_call 146;refine bv.out.mono ?_;rintro e v2 ⟨z,t2,bW,bQ,bN,i2,au,rfl,ay,bd,aS⟩;obtain⟨y0,ya,yl,yc,za,zl,zc,rfl,rfl,rfl⟩:=ay.shape;have aR:P.heap.size<=v2.heap.size:=z.size;have aq:=fun o=>yh (R:=R) (X:=b.heap.size) (W:=P.drew) af.out om z o;have aT:v2.cell? ⟨b.heap.size,2,Zn⟩=Zo (Zs A a C):=(World.cell?_of_block (z.block b.heap.size (by simpa using bm) om)).trans bq;have bD:(v2.alloc (Zc #[Zi Zk y0,Zs ya yl yc,Zs za zl zc] 31)).cell? ⟨b.heap.size,2,Zn⟩=Zo (Zs A a C):=(World.cell?_of_block (Below.heap_alloc _ _ _ (by show b.heap.size<_;omega))).trans aT))
      all_goals
       have hF:=jl.kid (W:=P.drew) (W1:=v2) (Wa:=v2.alloc (Zc #[Zi Zk y0,Zs ya yl yc,Zs za zl zc] 31)) (one:=Zc #[Zi Zk y0,Zs ya yl yc,Zs za zl zc] 31) (g:=g2) (cap:=y) (xs:=xs)
        (ag.out.keep om ((b7.refl R P).drewN 1)) om (Zl _) z ay rfl ⟨rfl,rfl,rfl⟩ (by rw[l.out.2];exact af.out)
        (fun q hq=>by obtain⟨a0,a1,a2,hd,bp⟩:=bA.out q hq;exact⟨a0,a1,a2,hd,a8.keep (w:=P) (w':=P.drew) (fun _ _=>rfl) (fun _ h=>h) bp⟩) (by rw[l.out.2];exact aa) k ax
       rw[l.out.2]at hF
       have HF:Hid (jl R b.heap.size m b (v3.setCell ⟨b.heap.size,2,Zn⟩ (Zs (Zo ⟨g2,0,Zn⟩) (a+1) y)) 5 (J++[x]) (M++[t2]) (Zs (Zo ⟨g,0,Zn⟩) (a+1) cap) (Zs (Zo ⟨g2,0,Zn⟩) (a+1) y)):=hF
       have bf:Hid (jb (v3.setCell ⟨b.heap.size,2,Zn⟩ (Zs (Zo ⟨g2,0,Zn⟩) (a+1) y)) R s i2 au):=vw (X:=b.heap.size) (q:=2) (u:=Zs (Zo ⟨g2,0,Zn⟩) (a+1) y) (W:=P.drew) bd af.out om k
       have HS:=Bv HI.out HE.out (by rw[l.out.2];exact ap.out) (by rw[HJ.out];exact bw.out) aS (by rw[HJ.out];exact aQ)
       rw[aB.out]at HS
       have aV:Hid _:=HS
       clear hF HS aa k ax ay bd aS z aq aT bD aP aU aN
       go_wp2
       go_roundw
       case rel=>exact⟨J++[x],M++[t2],i2,a+1,au,Zo ⟨g,0,Zn⟩,cap,Zo ⟨g2,0,Zn⟩,y,by simp[l.out.1],by simp[l.out.2],HF.out,bf.out,aV.out.1⟩
       case measure=>rw[jb.leftRK bf.out,jb.leftRK HR.out];simpa using aV.out.2
theorem Bs:∀n,n<=6->kY n:=by
 intro n;induction n with
 | zero=>intro _ m R s i bad w o h b hi _;obtain⟨a,rfl⟩:∃a,m=a+1:=⟨m-1,om⟩;exact Cg 0 a R s i bad w h (.inr rfl) hi
 | succ n p=>
  intro l m R s i bad w o h b hi k;obtain⟨a,rfl⟩:∃a,m=a+1:=⟨m-1,om⟩;have c:=p om;cases bad with
  | true=>exact Cg (n+1) a R s i true w h (.inl rfl) hi
  | false=>
   have hi:=hi rfl;by_cases e:fT s i=110;·exact Il n a R s i w h b hi e
   by_cases d:fT s i=116;·exact G4 n a R s i w h b hi d
   by_cases g:fT s i=102;·exact GL n a R s i w h b hi g
   by_cases j:fT s i=63;·exact E1 n c a R s i w om om h b hi j
   by_cases f:fT s i=91;·exact GG n c a R s i w om om h b hi f
   ·exact GN n c a R s i w om om h b hi e d g j f
def kF(m:Nat)(k:K m)(ok:Bool)(w:Zw)(e:Ending)(w':Zw):Prop:=
 Bw w w' /\ ∃c0 c1 c2,e=Zr (Zu #[Za #[c0,c1,c2],Zb ok])/\a8 (fun b=>w.heap.size<=b/\b<w'.heap.size) w' m k c0 c1 c2
theorem vx{w':Zw}(h:iO (m+1) s=Zn)(a:Bw w w'):kF (m+1) (oQ m s) (zx m s) w (Zr (Zu #[Za #[Zi Zk 0,Zs Zn 0 0,Zs Zn 0 0],Zb false])) w':=by obtain⟨b,c⟩:=vu h;rw[b,c];exact⟨a,_,_,_,rfl,pO _ _ m⟩
theorem FM{t:K (m+1)}(e:pA (m+1) 6 s 0 false t i' bad')(k:K (m+1))(h:iO (m+1) s=Zo k):t=k/\bad'=false/\i'=s.size/\gV (m+1) t=true/\d9 (m+1) t=s.data.toList:=by obtain⟨i,a,b⟩:=j9 h;obtain⟨-,-,-,-,c⟩:=e;obtain⟨g,f,d⟩:=c k [] rfl (by rw[List.drop_zero,List.append_nil,b]) (ie a).1;subst g;refine⟨rfl,f,?_,a,b⟩;rw[d,b];simp
theorem pH{t:K (m+1)}(d:pA (m+1) 6 s 0 false t i' bad')(h:bad'=true∨i'≠s.size∨gV (m+1) t=false∨d9 (m+1) t≠s.data.toList):iO (m+1) s=Zn:=by
 cases hr:iO (m+1) s with
 | none=>rfl
 | some k=>
  obtain⟨-,c,e,a,b⟩:=FM d k hr;rcases h with h|h|h|h;·rw[c]at h;cases h
  ·exact absurd e h
  ·rw[a]at h;cases h
  ·exact absurd b h
theorem mF (s:ByteArray) (m:Nat) (hm:7<=m+1) (hs:s.size<=1048576) (w:Zw) :
  Calls prog 103 #[Zt s] w (kF (m+1) (oQ m s) (zx m s) w):=by
 obtain⟨W1,B⟩:=iw (w.alloc (Zc #[Zi Zk 0,Zs Zn 0 0,Zs Zn 0 0] 31));have ab:W1.heap.size=w.heap.size+1:=by rw[B];simp
 have J:Bw w W1:=by rw[B];exact gF _ _
 have k:W1.heap[w.heap.size]?=Zo (Zc #[Zi Zk 0,Zs Zn 0 0,Zs Zn 0 0] 31 (0,0)):=by rw[B];exact heap_alloc_new _ _
 have L:Hid (∀W:Zw,Bw w W->Bw w (ij W w.heap.size 0 (Zi Zk 0) (Zs Zn 0 0) (Zs Zn 0 0))):=fun W h=>iP h (Zl _);by_cases h8:s.size<=800;case neg=>have ai:(800:Int)<(s.size:Int):=om;have y:Hid (∀o,kF (m+1) (oQ m s) (zx m s) w (Zr (Zu #[Za #[Zi Zk 0,Zs Zn 0 0,Zs Zn 0 0],Zb false])) (w.alloc o)):=fun o=>vx (tz h8) (gF _ _);clear J k ab h8;go_in;go_wp2_with fail;refine bodyPost_ret (v:=Zu #[Za #[Zi Zk 0,Zs Zn 0 0,Zs Zn 0 0],Zb false]) (by simp[results,results103,go_sem]) rfl ?_;exact y.out _
 have al:¬(800:Int)<(s.size:Int):=om;obtain⟨K,r⟩:=iw (W1.alloc (Zc #[Zt s,Zi Zk 0,Zb false] 212));have ak:K.heap.size=w.heap.size+2:=by rw[r];simp;omega
 have A:Bw w K:=by rw[r];exact J.alloc J.size _
 have aa:jb K (w.heap.size+1) s ((0:Nat):Int) false:=by show K.heap[w.heap.size+1]?=_;rw[r,<- ab];exact heap_alloc_new _ _
 have q:K.heap[w.heap.size]?=Zo (Zc #[Zi Zk 0,Zs Zn 0 0,Zs Zn 0 0] 31 (0,0)):=by rw[r,Below.heap_alloc _ _ _ om];exact k
 have HK:Hid (Calls prog 146 #[Zp (Zo ⟨w.heap.size+1,0,Zn⟩),Zi Zk 1] K (gP (m+1) 6 K (w.heap.size+1) s 0 false)):=Bs 6 (Zl _) (m+1) (w.heap.size+1) s 0 false K hm aa om (fun _=>Nat.zero_le _) om;clear aa k J;go_in;go_wp2_with fail;rw[<- B,<- r];clear B r;refine HK.out.mono ?_;rintro e w3 ⟨j,t,d0,d1,d2,i',z,rfl,ht,T,hG⟩;obtain⟨u0,Z,ul,uc,ya,yl,yc,rfl,rfl,rfl⟩:=ht.shape;have ah:=j.size;have Y:Bw w w3:=⟨j.os.trans A.os,j.tape.trans A.tape,j.output.trans A.output,om,fun b hb=>(j.block b om om).trans (A.block b hb)⟩;have p:w3.heap[w.heap.size]?=Zo (Zc #[Zi Zk 0,Zs Zn 0 0,Zs Zn 0 0] 31 (0,0)):=(j.block _ om om).trans q;obtain⟨u,l⟩:=iw (w3.alloc (Zc #[Zi Zk u0,Zs Z ul uc,Zs ya yl yc] 31));have ag:u.heap.size=w3.heap.size+1:=by rw[l];simp
 have f:Bw w3 u:=by rw[l];exact gF _ _
 have F:=b4 Y Y.size f;have n:=(f.block w.heap.size om).trans p;obtain⟨i,P⟩:=ht.step (fun b hb=>hb.2) f;have M:jb u (w.heap.size+1) s i' z:=(f.block _ T.lt).trans T;have g:jX u w3.heap.size (Zi Zk u0) (Zs Z ul uc) (Zs ya yl yc):=by rw[l];exact jX.new _ _ _ _ _
 have c1:=M.cell1;have c2:=M.cell2;have G:Hid (pA (m+1) 6 s 0 false t i' z):=hG;obtain⟨S,X,V⟩:=id g;have a:Hid (∀W:Zw,Bw u W->iO (m+1) s=Zn->kF (m+1) (oQ m s) (zx m s) w (Zr (Zu #[Za #[Zi Zk 0,Zs Zn 0 0,Zs Zn 0 0],Zb false])) (ij W w.heap.size 0 (Zi Zk 0) (Zs Zn 0 0) (Zs Zn 0 0))):=fun W hW h=>vx h (L.out W (b4 F F.size hW));have H:Hid (∀W:Zw,Bw u W->W.heap[w.heap.size]?=Zo (Zc #[Zi Zk 0,Zs Zn 0 0,Zs Zn 0 0] 31 (0,0))):=fun W hW=>(hW.block w.heap.size om).trans n;have HB:Hid (Bw w u):=F;clear HK hG ht T M j Y f F q p n A L;cases z with
 | true=>obtain⟨⟨D,C,E⟩,f0,f1,f2⟩:=iJ (H.out u (Below.refl _ _));have y:Hid _:=a.out u (Below.refl _ _) (pH G.out (.inl rfl));rw[l]at c1 c2 S X V D C E f0 f1 f2 y;clear g i a H G;go_wp2_with fail;refine bodyPost_ret (v:=Zu #[Za #[Zi Zk 0,Zs Zn 0 0,Zs Zn 0 0],Zb false]) (by simp[results,results103,go_sem,D,C,E]) rfl ?_;exact y.out
 | false=>
  by_cases O:i'=s.size;case neg=>have ac:((i':Int) != (s.size:Int))=true:=zE;obtain⟨⟨D,C,E⟩,f0,f1,f2⟩:=iJ (H.out u (Below.refl _ _));have y:Hid _:=a.out u (Below.refl _ _) (pH G.out (.inr (.inl O)));rw[l]at c1 c2 S X V D C E f0 f1 f2 y;clear g i a H G O;go_wp2_with fail;refine bodyPost_ret (v:=Zu #[Za #[Zi Zk 0,Zs Zn 0 0,Zs Zn 0 0],Zb false]) (by simp[results,results103,go_sem,D,C,E]) rfl ?_;exact y.out
  have ac:((i':Int) != (s.size:Int))=false:=zE;have N:Hid (Calls prog 31 #[Za #[Zi Zk u0,Zs Z ul uc,Zs ya yl yc]] u _):=nN (m+1) _ t _ _ _ u i P;rw[l]at c1 c2 S X V;clear O;go_wp2_with fail;rw[<- l];clear c1 c2 S X V;refine N.out.mono ?_;rintro e w5 ⟨rfl,d⟩;have af:=d.size;obtain⟨S,X,V⟩:=g.keep d;cases hok:gV (m+1) t with
  | false=>obtain⟨⟨D,C,E⟩,f0,f1,f2⟩:=iJ (H.out w5 d);have y:Hid _:=a.out w5 d (pH G.out (.inr (.inr (.inl hok))));clear g i a H G d N hok;go_wp2_with fail;refine bodyPost_ret (v:=Zu #[Za #[Zi Zk 0,Zs Zn 0 0,Zs Zn 0 0],Zb false]) (by simp[results,results103,go_sem,D,C,E]) rfl ?_;exact y.out
  | true=>
   have hp:=ie hok;obtain⟨Q,ae⟩:=i.step P d;have U:Hid (Calls prog 139 _ w5 _):=py (m+1) _ t _ _ _ 1 w5 Q ae hp.1 hp.2;have R:Hid (gV (m+1) t=true):=hok;clear hok hp N;go_wp2_with fail;refine U.out.mono ?_;rintro e w6 ⟨rfl,I⟩;have aj:=I.size;have c:=b4 d af I;clear S X V;obtain⟨S,X,V⟩:=g.keep c;obtain⟨⟨D,C,E⟩,f0,f1,f2⟩:=iJ (H.out w6 c);by_cases x:d9 (m+1) t=s.data.toList
   ·have hq:((bs (d9 (m+1) t)).toList==s.toList)=true:=by rw[x,ru];simp
    have y:Hid (kF (m+1) (oQ m s) (zx m s) w (Zr (Zu #[Za #[Zi Zk u0,Zs Z ul uc,Zs ya yl yc],Zb true])) (ij w6 w.heap.size 0 (Zi Zk u0) (Zs Z ul uc) (Zs ya yl yc))):=by obtain⟨q1,q2⟩:=mK (Et h8 R.out x);rw[q1,q2];have ad:=(i.step P c).1;refine⟨iP (b4 HB.out HB.out.size c) (Zl _),_,_,_,rfl,ad.keep (fun b hb=>gR om) (fun b hb=>by rw[iq];omega)⟩
    clear g i Q a H G d I c U x R;go_wp2_with fail;refine bodyPost_ret (v:=Zu #[Za #[Zi Zk u0,Zs Z ul uc,Zs ya yl yc],Zb true]) (by simp[results,results103,go_sem,D,C,E]) rfl ?_;exact y.out
   ·have hq:((bs (d9 (m+1) t)).toList==s.toList)=false:=by rw[beq_eq_false_iff_ne];intro e;apply x;rw[ByteArray.toList_eq,ByteArray.toList_eq,jv]at e;exact e
    have y:Hid _:=a.out w6 c (pH G.out (.inr (.inr (.inr x))));clear g i Q a H G d I c U x R;go_wp2_with fail;refine bodyPost_ret (v:=Zu #[Za #[Zi Zk 0,Zs Zn 0 0,Zs Zn 0 0],Zb false]) (by simp[results,results103,go_sem,D,C,E]) rfl ?_;exact y.out
theorem Er{α:Type}(n:Nd α)(a:Bool)(h:¬((1<=n.sort/\n.sort<=43)/\a=decide (36<=n.sort))):iV n a=false:=by
 unfold iV;by_cases b:1<=n.sort/\n.sort<=43
 ·have c:(a==decide (36<=n.sort))=false:=by rw[Bool.eq_false_iff];intro e;exact h ⟨b,by simpa using e⟩
  rw[c];simp
 ·rw[decide_eq_false b];rfl
theorem xO (m:Nat) (n:Nd (T m)) (na i:Option Addr) (k l:Nat) (a:Bool) (w:Zw) (h:¬ ((1<=n.sort/\n.sort<=43)/\a=decide (36<=n.sort))) :
  Calls prog 95 #[Za #[Zi Zk n.sort,Zi Zk n.num,Zt n.text,Zs na n.names.length k,Zs i n.kids.length l],Zb a] w fun e p=>e=Zr (Zb (iV n a))/\Bw w p:=by
 have d:=(Below.refl w.heap.size w).alloc (Zl _) (Zc #[Zi Zk n.sort,Zi Zk n.num,Zt n.text,Zs na n.names.length k,Zs i n.kids.length l] 40);have g:=a7 (Er n a h);have b:Hid (∀w,Calls prog 58 #[Zi Zk n.sort,Zi Zk 1,Zi Zk 43] w _):=fun w=>iY n.sort 1 43 w;by_cases f:1<=n.sort/\n.sort<=43
 ·have j:¬a=decide (36<=n.sort):=fun e=>h ⟨f,e⟩;rw[decide_eq_true f]at b;clear h f;generalize n.sort=s at *;by_cases c:36<=s
  ·rw[decide_eq_true c]at j;have o:decide (36<=s)=true:=decide_eq_true c;obtain rfl:a=false:=by cases a<;>simp_all
   go_in;go_wp2_with fail;refine (b.out _).mono ?_;rintro e w1 ⟨rfl,rfl⟩;go_wp2;go_ret;exact⟨b6 g.out.symm,d⟩
  ·rw[decide_eq_false c]at j;have o:decide (36<=s)=false:=decide_eq_false c;obtain rfl:a=true:=by cases a<;>simp_all
   go_in;go_wp2_with fail;refine (b.out _).mono ?_;rintro e w1 ⟨rfl,rfl⟩;go_wp2;go_ret;exact⟨b6 g.out.symm,d⟩
 ·rw[decide_eq_false f]at b;clear h f;go_in;go_wp2_with fail;refine (b.out _).mono ?_;rintro e w1 ⟨rfl,rfl⟩;go_wp2;go_ret;exact⟨b6 g.out.symm,d⟩
theorem t7 (S:Nat->Prop) (m:Nat) (num:Int) (text:ByteArray) (names:List ByteArray) (kids:List (T m)) (na j:Option Addr) (g i:Nat) (w:Zw) (o:fL S w names (Zs na names.length g)) (l:Bd S w) :
  Calls prog 95 #[Za #[Zi Zk 24,Zi Zk num,Zt text,Zs na names.length g,Zs j kids.length i],Zb false] w fun e z=>e=Zr (Zb ((num==0) && text.toList.isEmpty && gW names && (names.length==kids.length) && !(names.any (fun y=>y==bs [101,110,100]))))/\Bw w z:=by
 have d:=(Below.refl w.heap.size w).alloc (Zl _) (Zc #[Zi Zk 24,Zi Zk num,Zt text,Zs na names.length g,Zs j kids.length i] 40);have k:=o.keep (a6 d l) (fun _ h=>h);have f:Hid (∀w,Calls prog 58 #[Zi Zk 24,Zi Zk 1,Zi Zk 43] w _):=fun w=>iY 24 1 43 w;have p:Hid (Calls prog 99 _ _ _):=pj S names _ _ k (fun b A=>Nat.lt_of_lt_of_le (l b A) d.size);have s:Hid (∀w1,Bw w w1->Calls prog 141 #[Zs na names.length g,Zt (bs [101,110,100])] w1 _):=fun w1 a=>CK S names _ (bs [101,110,100]) w1 (o.keep (a6 a l) (fun _ h=>h));have n:Hid (∀w1,Below (w.alloc (Zc #[Zi Zk 24,Zi Zk num,Zt text,Zs na names.length g,Zs j kids.length i] 40)).heap.size (w.alloc (Zc #[Zi Zk 24,Zi Zk num,Zt text,Zs na names.length g,Zs j kids.length i] 40)) w1->Bw w w1/\w1.cell? ⟨w.heap.size,3,Zn⟩=Zo (Zs na names.length g)/\w1.cell? ⟨w.heap.size,4,Zn⟩=Zo (Zs j kids.length i)):=by intro w1 a;have r:=gE ((a.block w.heap.size zS).trans (heap_alloc_last w _));exact⟨b4 d zS a,r.2.2.2.1,r.2.2.2.2⟩
 have v:((names.length:Int)==(kids.length:Int))=(names.length==kids.length):=by
  by_cases h:names.length=kids.length;·rw[h];simp
  ·have t:¬(names.length:Int)=(kids.length:Int):=by omega
   rw[beq_eq_false_iff_ne.2 h,beq_eq_false_iff_ne.2 t]
 have u:(text.toList==[])=text.toList.isEmpty:=by cases text.toList<;>rfl
 clear o k;generalize gW names=ri at *;generalize (names.any (fun y=>y==bs [101,110,100]))=ha at *;generalize (names.length==kids.length)=le at *;generalize text.toList.isEmpty=em at *;generalize x:(num==0)=nz at *;by_cases q:nz=true
 ·subst q;cases em with
  | false=>go_in;go_wp2_with fail;refine (f.out _).mono ?_;rintro e w1 ⟨rfl,rfl⟩;go_wp2;go_ret;exact⟨b6 zS,d⟩
  | true=>
   cases ri with
   | false=>go_in;go_wp2_with fail;refine (f.out _).mono ?_;rintro e w1 ⟨rfl,rfl⟩;go_wp2_with fail;refine p.out.mono ?_;rintro e w1 ⟨rfl,a⟩;obtain⟨c,z3,z4⟩:=n.out w1 a;clear a;go_wp2;go_ret;exact⟨b6 zS,c⟩
   | true=>
    cases le with
    | false=>go_in;go_wp2_with fail;refine (f.out _).mono ?_;rintro e w1 ⟨rfl,rfl⟩;go_wp2_with fail;refine p.out.mono ?_;rintro e w1 ⟨rfl,a⟩;obtain⟨c,z3,z4⟩:=n.out w1 a;clear a;go_wp2;go_ret;exact⟨b6 zS,c⟩
    | true=>go_in;go_wp2_with fail;refine (f.out _).mono ?_;rintro e w1 ⟨rfl,rfl⟩;go_wp2_with fail;refine p.out.mono ?_;rintro e w1 ⟨rfl,a⟩;obtain⟨c,z3,z4⟩:=n.out w1 a;clear a;go_wp2_with fail;refine (s.out _ c).mono ?_;rintro e B ⟨rfl,rfl⟩;go_wp2;go_ret;exact⟨b6 zS,c⟩
 ·obtain rfl:nz=false:=by simpa using q
  go_in;go_wp2_with fail;refine (f.out _).mono ?_;rintro e w1 ⟨rfl,rfl⟩;go_wp2;go_ret;exact⟨b6 zS,d⟩
end Go.Proofs.YtcfojmaccikgeaaGreatDoor
