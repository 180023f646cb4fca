import Derived.Test.YtcfojmaccikgeaaGreatDoorB26
import Derived.Deep.RegionHeld3
open Go.Value renaming slice→Zs,int→Zi,string→Zt,bool→Zb
open Go.IntKind renaming i64→Zk
open Option renaming none→Zn,some→Zo
namespace Go.Proofs.YtcfojmaccikgeaaGreatDoor
set_option maxRecDepth 100000
set_option maxHeartbeats 16000000
open Go.RowKit Go.Proofs.Tryz
theorem Gr:∀k,k<44->k=0∨k=24∨k=1∨k=2∨k=3∨k=5∨k=6∨k=37∨k=39∨iR k=[]∨iR k=[88]∨iR k=[78]∨iR k=[88,88]:=by decide
theorem vg:yielded.match_1 (fun _=>Option Bool) (Zo undef) (fun b=>Zo b) (fun _=>Zn)=Zn:=rfl
theorem y9:∀k,k<44->GS k<=2:=by decide
theorem IR:∀k,k<44->Af k=false->GS k<=1:=by decide
theorem wI(k:Nat)(h:k≠24):(bs (xP k)).size=(jr k).length:=by rw[gq];unfold xP;rw[if_neg h];unfold IG;simp
theorem yH (S:ZP) (m:Nat) (n:Nd (T m)) (na ka:ZO) (R kc k:Nat) (a:Bool) (ha:decide ((36:Int)<=(k:Int))=a) (w:World) (hk:n.sort=(k:Int)) (A:k<44) (aH:1<=k) (ar:k≠24) (h3:fL S w n.names (Zs na n.names.length R)) (_hl4:n.kids.length<=maxLen) (hB:Bd S w)
  (hx:n.text.size<=1048576) :
  Calls prog 95 #[.agg #[Zi Zk (k:Int),Zi Zk n.num,Zt n.text,Zs na n.names.length R,Zs ka n.kids.length kc],Zb a] w fun e f=>e=.returned (Zb ((n.kids.length==(jr k).length) && gr n (iR k)))/\Bw w f:=by
 have l:=(Below.refl w.heap.size w).alloc (Nat.le_refl _) (.cells #[Zi Zk (k:Int),Zi Zk n.num,Zt n.text,Zs na n.names.length R,Zs ka n.kids.length kc] 40);have Z:Hid (∀w,Calls prog 58 #[Zi Zk (k:Int),Zi Zk 1,Zi Zk 43] w fun e f=>e=.returned (Zb true)/\f=w):=fun w=>by have:=iO k 1 43 w;rw[decide_eq_true om]at this;exact this
 have Q:=wI k ar;have aa:Hid (∀w,Calls prog 91 #[Zi Zk (k:Int)] w _):=fun w=>nX k A w;have ab:Hid (∀w,Calls prog 142 #[Zi Zk (k:Int)] w _):=fun w=>wP k A w;generalize bs (xP k)=q at *;have D:=a7 (Ie n k A ar);have au:((k:Int)==24)=false:=zE;obtain⟨_,_,hv,aI,-,-⟩:=id h3;cases hv
 unfold maxLen at aI _hl4;by_cases H:n.kids.length=(jr k).length;case neg=>
  have aJ:((n.kids.length:Int) != (q.size:Int))=true:=by rw[Q];simp;omega
  have HF:Hid (((n.kids.length==(jr k).length) && gr n (iR k))=false):=by
   show _=_;have:(n.kids.length==(jr k).length)=false:=by simp[H]
   rw[this];rfl
  clear H Q D;go_in;go_wp2_with fail;refine (Z.out _).mono ?_;rintro e w1 ⟨rfl,rfl⟩;go_wp2_with fail;go_quiet (first
   | (go_at_call 91;refine Calls.quiet_of_same (aa.out _))
   | (go_at_call 142;refine Calls.quiet_of_same (ab.out _)))
  all_goals
   go_wp2
   go_ret
   exact⟨b6 HF.out.symm,by first|exact l|exact l.drew|exact⟨l.os,l.tape,l.output,l.size,l.block⟩⟩
 have aK:((n.kids.length:Int) != (q.size:Int))=false:=by rw[Q];simp[H]
 have am:(n.kids.length==(jr k).length)=true:=by simp[H]
 rw[am,Bool.true_and];by_cases J:n.names.length=GS k;case neg=>
  have aJ:((n.names.length:Int) != ((GS k:Nat):Int))=true:=zE;have HF:Hid (gr n (iR k)=false):=by
   show _=_;have:(n.names.length==GS k)=false:=by simp[J]
   rw[D.out,this];rfl
  clear H Q D J am;go_in;go_wp2_with fail;refine (Z.out _).mono ?_;rintro e w1 ⟨rfl,rfl⟩;go_wp2_with fail;go_quiet (first
   | (go_at_call 91;refine Calls.quiet_of_same (aa.out _))
   | (go_at_call 142;refine Calls.quiet_of_same (ab.out _)))
  all_goals
   go_wp2
   go_ret
   exact⟨b6 HF.out.symm,by first|exact l|exact l.drew|exact⟨l.os,l.tape,l.output,l.size,l.block⟩⟩
 have aL:((n.names.length:Int) != ((GS k:Nat):Int))=false:=by simp[J]
 have E:Hid (gr n (iR k)=(kf (Af k) n.names n.names.length && oy n (iR k))):=by
  show _=_;have:(n.names.length==GS k)=true:=by simp[J]
  rw[D.out,this];rfl
 obtain⟨W,hW⟩:=ii (w.alloc (.cells #[Zi Zk (k:Int),Zi Zk n.num,Zt n.text,Zs na n.names.length R,Zs ka n.kids.length kc] 40));have ai:Bw w W:=by rw[hW];exact l
 have aM:w.heap.size<W.heap.size:=by rw[hW];simp
 have ad:W.heap[w.heap.size]?=Zo (.cells #[Zi Zk (k:Int),Zi Zk n.num,Zt n.text,Zs na n.names.length R,Zs ka n.kids.length kc] 40 (0,0)):=by rw[hW];exact heap_alloc_last _ _
 have ae:=a7 J;clear H Q D J am l;go_in;go_wp2_with fail;refine (Z.out _).mono ?_;rintro e w1 ⟨rfl,rfl⟩;go_wp2_with fail;go_quiet (first
  | (go_at_call 91;refine Calls.quiet_of_same (aa.out _))
  | (go_at_call 142;refine Calls.quiet_of_same (ab.out _)))
 go_wp2_with fail;rw[<- hW];have aw:Hid (∀j,Bw W (W.drewN j)):=fun j=>⟨rfl,rfl,rfl,Nat.le_refl _,fun _ _=>rfl⟩;have C:Hid (∀w,Calls prog 143 #[Zi Zk (k:Int)] w _):=fun w=>wO k A w;have ap:Hid (Af k=false->n.names.length<=1):=fun h=>by rw[ae.out];exact IR k A h
 obtain⟨_,_,hv,-,an,aj⟩:=h3.keep (a6 ai hB) (fun _ h=>h);cases hv
 have aC:Hid (∀(V:World)(j:Nat),Bw W V->Bw W (V.drewN j)):=fun V j h=>⟨h.os,h.tape,h.output,h.size,h.block⟩;have aq:Hid (∀(V:World)(j:Nat),Bw w V->Bw w (V.drewN j)):=fun V j h=>⟨h.os,h.tape,h.output,h.size,h.block⟩;have aB:=a7 ad;have X:=a7 ai;clear hW ad ai aL aK aa ab Z;go_loopw [5] (fun i wr=>∃j:Nat,j<=n.names.length/\i=Zi Zk j/\Hid (kf (Af k) n.names j=true)/\Bw W wr) (fun i _=>n.names.length-(intOf i).toNat);case atStart=>exact⟨0,Nat.zero_le _,rfl,rfl,aw.out _⟩
 case round=>
  obtain⟨j,hj,rfl,HA,B⟩:=hrel;obtain⟨z0,z1,z2,z3,z4⟩:=fZ ((B.block w.heap.size aM).trans aB.out);by_cases I:j<n.names.length
  ·obtain⟨b,off,rfl,aE,G⟩:=aj (by intro h;rw[h]at I;simp at I);have aN:=hB b aE;have ej:=kC B (G j I) (by show b<W.heap.size;omega);have U:=kC B (G 0 om) (by show b<W.heap.size;omega);have ao:=an n.names[j] (List.getElem_mem I);have ay:n.names.getD j ByteArray.empty=n.names[j]:=by simp[List.getD,I]
   have ax:n.names.getD 0 ByteArray.empty=n.names[0]:=by have h0:0<n.names.length:=om;simp[List.getD,h0]
   have c:Hid (xo (Af k) n.names j=(gj n.names[j] && (!Af k || il n.names[j]) && !(decide (0<j) && (n.names[j]==n.names[0])))):=by show _=_;unfold xo;rw[ay,ax]
   have u:Hid (xo (Af k) n.names j=false->kf (Af k) n.names n.names.length=false):=fun h=>AV _ _ j _ I h;have z:Hid (xo (Af k) n.names j=true->kf (Af k) n.names (j+1)=true):=fun h=>by rw[DO,HA.out,h];rfl
   have ak:=jA n.names[j] n.names[0];have al:j=0->n.names[j]=n.names[0]:=fun h=>by subst h;rfl
   have v:Hid (∀w,Calls prog 30 #[Zt n.names[j]] w _):=fun w=>kK n.names[j] w ao;have t:Hid (∀W',Bw wr W'->Calls prog 144 #[Zt n.names[j]] W' fun e f=>e=.returned (Zb (il n.names[j]))/\Bw wr f/\f.cell? ⟨w.heap.size,0,Zn⟩=Zo (Zi Zk (k:Int))/\f.cell? ⟨w.heap.size,3,Zn⟩=Zo (Zs (Zo ⟨b,off,Zn⟩) n.names.length R)/\f.cell? ⟨b,off+j,Zn⟩=Zo (Zt n.names[j])/\f.cell? ⟨b,off,Zn⟩=Zo (Zt n.names[0])):=by intro W' av;refine (rV n.names[j] W' ao).mono ?_;rintro e f ⟨rfl,hb⟩;have P:Bw wr f:=av.trans (hb.mono av.size);have hz:=B.size;exact⟨rfl,P,kC P z0 om,kC P z3 om,kC P ej om,kC P U om⟩
   have g:=a7 (X.out.trans (B.mono X.out.size));have F:=a7 B;have ac:=ap.out;have aG:j=0∨j=1:=by have h2:=y9 k A;have h3:=ae.out;omega
   have hD:Bw wr wr.drew:=(Below.refl _ _).drew;have aU:=vg;have aT:1<=n.names.length:=om;clear aj G an ao ay ax B ap z1 z2 z4 _hl4 au ae;rcases aG with rfl|rfl
   ·have aO:=al rfl;clear al;generalize n.names[0]=x at *;clear U ak;rw[Nat.add_zero]at ej;simp only[Nat.add_zero]at t;obtain⟨y,hy⟩:=ii x;have U:wr.cell? ⟨b,off,Zn⟩=Zo (Zt y):=by rw[hy];exact ej
    generalize Af k=bd at *;cases hnm:gj x with
    | false=>rw[hnm]at v c;have o:Hid (kf bd n.names n.names.length=false):=u.out (by rw[c.out];rfl);clear t u z c hD;go_wp2_with fail;go_quiet (first|(go_at_call 30;refine Calls.quiet_of_same (v.out _))|(go_at_call 143;refine Calls.quiet_of_same (C.out _)));go_wp2;go_ret;exact⟨b6 (by rw[E.out,o.out];rfl),aq.out _ _ g.out⟩
    | true=>
     rw[hnm]at v c;cases hbdv:bd with
     | false=>
      subst hbdv;have O:Hid (kf false n.names (0+1)=true):=z.out (by rw[c.out];rfl);clear t u z c hD ac;go_wp2_with fail;go_quiet (first|(go_at_call 30;refine Calls.quiet_of_same (v.out _))|(go_at_call 143;refine Calls.quiet_of_same (C.out _)));go_wp2;go_roundw;case rel=>exact⟨0+1,om,by go_num,O,aC.out _ _ F.out⟩
      case measure=>simp[intOf];omega
     | true=>
      subst hbdv;clear ac;subst hy;cases hfr:il y with
      | false=>
       rw[hfr]at t c;have o:Hid (kf true n.names n.names.length=false):=u.out (by rw[c.out];rfl);clear u z c;go_wp2_with fail;refine wp_region_held_drew (S:=(fun f=>f.cell? ⟨w.heap.size,0,Zn⟩=Zo (Zi Zk (k:Int))/\f.cell? ⟨w.heap.size,3,Zn⟩=Zo (Zs (Zo ⟨b,off,Zn⟩) n.names.length R)/\f.cell? ⟨b,off,Zn⟩=Zo (Zt y)/\f.cell? ⟨b,off,Zn⟩=Zo (Zt y))) zK (by exact⟨z0,z3,U,U⟩) (fun hHeld=>?_);refine tk 0 ?_;refine tk 1 ?_;refine tk 2 ?_;refine tk 3 ?_;refine tk 4 ?_;refine i6 5 fun K hK=>?_;go_simp;go_at_call 30;refine (v.out _).mono ?_;rintro e w1 ⟨rfl,rfl⟩;refine hK.out _ _ (hHeld) (fun hHeld=>?_);clear hK K;refine tk 6 ?_;refine tk 7 ?_;refine tk 8 ?_;refine tk 9 ?_;refine i6 10 fun K hK=>?_;go_simp;go_at_call 143;refine (C.out _).mono ?_;rintro e w1 ⟨rfl,rfl⟩;refine hK.out _ _ (hHeld) (fun hHeld=>?_);clear hK K;refine tk 11 ?_;refine tk 12 ?_;refine tk 13 ?_;refine tk 14 ?_;refine tk 15 ?_;refine tk 16 ?_;refine i6 17 fun K hK=>?_;go_simp;go_at_call 144;refine (t.out _ hD).mono ?_;rintro e L ⟨rfl,d,p⟩;refine hK.out _ _ (p) (fun hHeld=>?_);clear hK K;refine tk 18 ?_;refine tk 19 ?_;refine tk 20 ?_;refine tk 21 ?_;refine ts 22 ?_;refine ts 23 ?_;refine ts 24 ?_;refine ts 25 ?_;refine ts 26 ?_;refine ts 27 ?_;refine ts 28 ?_;refine ts 29 ?_;refine ts 30 ?_;refine ts 31 ?_;refine ts 32 ?_;refine ts 33 ?_;refine ts 34 ?_;refine ts 35 ?_;refine tk 36 ?_;refine wpAnyH_done zK ?_ _;go_simp;all_goals
        have r:=a7 (g.out.trans (d.mono g.out.size))
        clear d p
        go_wp2
        go_ret
        exact⟨b6 (by rw[E.out,o.out];rfl),r.out⟩
      | true=>
       rw[hfr]at t c;have O:Hid (kf true n.names (0+1)=true):=z.out (by rw[c.out];rfl);clear u z c;go_wp2_with fail;refine wp_region_held_drew (S:=(fun f=>f.cell? ⟨w.heap.size,0,Zn⟩=Zo (Zi Zk (k:Int))/\f.cell? ⟨w.heap.size,3,Zn⟩=Zo (Zs (Zo ⟨b,off,Zn⟩) n.names.length R)/\f.cell? ⟨b,off,Zn⟩=Zo (Zt y)/\f.cell? ⟨b,off,Zn⟩=Zo (Zt y))) zK (by exact⟨z0,z3,U,U⟩) (fun hHeld=>?_);refine tk 0 ?_;refine tk 1 ?_;refine tk 2 ?_;refine tk 3 ?_;refine tk 4 ?_;refine i6 5 fun K hK=>?_;go_simp;go_at_call 30;refine (v.out _).mono ?_;rintro e w1 ⟨rfl,rfl⟩;refine hK.out _ _ (hHeld) (fun hHeld=>?_);clear hK K;refine tk 6 ?_;refine tk 7 ?_;refine tk 8 ?_;refine tk 9 ?_;refine i6 10 fun K hK=>?_;go_simp;go_at_call 143;refine (C.out _).mono ?_;rintro e w1 ⟨rfl,rfl⟩;refine hK.out _ _ (hHeld) (fun hHeld=>?_);clear hK K;refine tk 11 ?_;refine tk 12 ?_;refine tk 13 ?_;refine tk 14 ?_;refine tk 15 ?_;refine tk 16 ?_;refine i6 17 fun K hK=>?_;go_simp;go_at_call 144;refine (t.out _ hD).mono ?_;rintro e L ⟨rfl,d,p⟩;refine hK.out _ _ (p) (fun hHeld=>?_);clear hK K;refine tk 18 ?_;refine tk 19 ?_;refine tk 20 ?_;refine tk 21 ?_;refine tk 22 ?_;refine tk 23 ?_;refine tk 24 ?_;refine ts 25 ?_;refine ts 26 ?_;refine ts 27 ?_;refine ts 28 ?_;refine ts 29 ?_;refine ts 30 ?_;refine ts 31 ?_;refine ts 32 ?_;refine ts 33 ?_;refine ts 34 ?_;refine tk 35 ?_;refine tk 36 ?_;refine wpAnyH_done zK ?_ _;go_simp;all_goals
        have r:=a7 (F.out.trans (d.mono F.out.size))
        clear d p
        go_wp2
        go_roundw
        case rel=>exact⟨0+1,om,by go_num,O,r.out⟩
        case measure=>simp[intOf];omega
   ·generalize n.names[1]=x at *;generalize n.names[0]=y at *;clear al;generalize Af k=bd at *;cases hnm:gj x with
    | false=>rw[hnm]at v c;have o:Hid (kf bd n.names n.names.length=false):=u.out (by rw[c.out];rfl);clear t u z c hD;go_wp2_with fail;go_quiet (first|(go_at_call 30;refine Calls.quiet_of_same (v.out _))|(go_at_call 143;refine Calls.quiet_of_same (C.out _)));go_wp2;go_ret;exact⟨b6 (by rw[E.out,o.out];rfl),aq.out _ _ g.out⟩
    | true=>
     rw[hnm]at v c;cases hbdv:bd with
     | false=>subst hbdv;exact absurd (ac rfl) om
     | true=>
      subst hbdv;clear ac;cases hfr:il x with
      | false=>
       rw[hfr]at t c;have o:Hid (kf true n.names n.names.length=false):=u.out (by rw[c.out];rfl);clear u z c;go_wp2_with fail;refine wp_region_held_drew (S:=(fun f=>f.cell? ⟨w.heap.size,0,Zn⟩=Zo (Zi Zk (k:Int))/\f.cell? ⟨w.heap.size,3,Zn⟩=Zo (Zs (Zo ⟨b,off,Zn⟩) n.names.length R)/\f.cell? ⟨b,off+1,Zn⟩=Zo (Zt x)/\f.cell? ⟨b,off,Zn⟩=Zo (Zt y))) zK (by exact⟨z0,z3,ej,U⟩) (fun hHeld=>?_);refine tk 0 ?_;refine tk 1 ?_;refine tk 2 ?_;refine tk 3 ?_;refine tk 4 ?_;refine i6 5 fun K hK=>?_;go_simp;go_at_call 30;refine (v.out _).mono ?_;rintro e w1 ⟨rfl,rfl⟩;refine hK.out _ _ (hHeld) (fun hHeld=>?_);clear hK K;refine tk 6 ?_;refine tk 7 ?_;refine tk 8 ?_;refine tk 9 ?_;refine i6 10 fun K hK=>?_;go_simp;go_at_call 143;refine (C.out _).mono ?_;rintro e w1 ⟨rfl,rfl⟩;refine hK.out _ _ (hHeld) (fun hHeld=>?_);clear hK K;refine tk 11 ?_;refine tk 12 ?_;refine tk 13 ?_;refine tk 14 ?_;refine tk 15 ?_;refine tk 16 ?_;refine i6 17 fun K hK=>?_;go_simp;go_at_call 144;refine (t.out _ hD).mono ?_;rintro e L ⟨rfl,d,p⟩;refine hK.out _ _ (p) (fun hHeld=>?_);clear hK K;refine tk 18 ?_;refine tk 19 ?_;refine tk 20 ?_;refine tk 21 ?_;refine ts 22 ?_;refine ts 23 ?_;refine ts 24 ?_;refine ts 25 ?_;refine ts 26 ?_;refine ts 27 ?_;refine ts 28 ?_;refine ts 29 ?_;refine ts 30 ?_;refine ts 31 ?_;refine ts 32 ?_;refine ts 33 ?_;refine ts 34 ?_;refine ts 35 ?_;refine tk 36 ?_;refine wpAnyH_done zK ?_ _;go_simp;all_goals
        have r:=a7 (g.out.trans (d.mono g.out.size))
        clear d p
        go_wp2
        go_ret
        exact⟨b6 (by rw[E.out,o.out];rfl),r.out⟩
      | true=>
       rw[hfr]at t c;cases hxy:(x==y) with
       | true=>
        rw[hxy]at c ak;have o:Hid (kf true n.names n.names.length=false):=u.out (by rw[c.out];rfl);clear u z c;go_wp2_with fail;have aD:0<n.names.length:=om;refine wp_region_held_drew (S:=(fun f=>f.cell? ⟨w.heap.size,0,Zn⟩=Zo (Zi Zk (k:Int))/\f.cell? ⟨w.heap.size,3,Zn⟩=Zo (Zs (Zo ⟨b,off,Zn⟩) n.names.length R)/\f.cell? ⟨b,off+1,Zn⟩=Zo (Zt x)/\f.cell? ⟨b,off,Zn⟩=Zo (Zt y))) zK (by exact⟨z0,z3,ej,U⟩) (fun hHeld=>?_);refine tk 0 ?_;refine tk 1 ?_;refine tk 2 ?_;refine tk 3 ?_;refine tk 4 ?_;refine i6 5 fun K hK=>?_;go_simp;go_at_call 30;refine (v.out _).mono ?_;rintro e w1 ⟨rfl,rfl⟩;refine hK.out _ _ (hHeld) (fun hHeld=>?_);clear hK K;refine tk 6 ?_;refine tk 7 ?_;refine tk 8 ?_;refine tk 9 ?_;refine i6 10 fun K hK=>?_;go_simp;go_at_call 143;refine (C.out _).mono ?_;rintro e w1 ⟨rfl,rfl⟩;refine hK.out _ _ (hHeld) (fun hHeld=>?_);clear hK K;refine tk 11 ?_;refine tk 12 ?_;refine tk 13 ?_;refine tk 14 ?_;refine tk 15 ?_;refine tk 16 ?_;refine i6 17 fun K hK=>?_;go_simp;go_at_call 144;refine (t.out _ hD).mono ?_;rintro e L ⟨rfl,d,p⟩;refine hK.out _ _ (p) (fun hHeld=>?_);clear hK K;refine tk 18 ?_;refine tk 19 ?_;refine tk 20 ?_;refine tk 21 ?_;refine tk 22 ?_;refine tk 23 ?_;refine tk 24 ?_;refine tk 25 ?_;refine tk 26 ?_;refine tk 27 ?_;refine tk 28 ?_;refine tk 29 ?_;refine tk 30 ?_;refine tk 31 ?_;refine tk 32 ?_;refine tk 33 ?_;refine tk 34 ?_;refine tk 35 ?_;refine tk 36 ?_;refine wpAnyH_done zK ?_ _;go_simp;all_goals
         have r:=a7 (g.out.trans (d.mono g.out.size))
         clear d p
         go_wp2
         go_ret
         exact⟨b6 (by rw[E.out,o.out];rfl),r.out⟩
       | false=>
        rw[hxy]at c ak;have O:Hid (kf true n.names (1+1)=true):=z.out (by rw[c.out];rfl);clear u z c;go_wp2_with fail;have aD:0<n.names.length:=om;refine wp_region_held_drew (S:=(fun f=>f.cell? ⟨w.heap.size,0,Zn⟩=Zo (Zi Zk (k:Int))/\f.cell? ⟨w.heap.size,3,Zn⟩=Zo (Zs (Zo ⟨b,off,Zn⟩) n.names.length R)/\f.cell? ⟨b,off+1,Zn⟩=Zo (Zt x)/\f.cell? ⟨b,off,Zn⟩=Zo (Zt y))) zK (by exact⟨z0,z3,ej,U⟩) (fun hHeld=>?_);refine tk 0 ?_;refine tk 1 ?_;refine tk 2 ?_;refine tk 3 ?_;refine tk 4 ?_;refine i6 5 fun K hK=>?_;go_simp;go_at_call 30;refine (v.out _).mono ?_;rintro e w1 ⟨rfl,rfl⟩;refine hK.out _ _ (hHeld) (fun hHeld=>?_);clear hK K;refine tk 6 ?_;refine tk 7 ?_;refine tk 8 ?_;refine tk 9 ?_;refine i6 10 fun K hK=>?_;go_simp;go_at_call 143;refine (C.out _).mono ?_;rintro e w1 ⟨rfl,rfl⟩;refine hK.out _ _ (hHeld) (fun hHeld=>?_);clear hK K;refine tk 11 ?_;refine tk 12 ?_;refine tk 13 ?_;refine tk 14 ?_;refine tk 15 ?_;refine tk 16 ?_;refine i6 17 fun K hK=>?_;go_simp;go_at_call 144;refine (t.out _ hD).mono ?_;rintro e L ⟨rfl,d,p⟩;refine hK.out _ _ (p) (fun hHeld=>?_);clear hK K;refine tk 18 ?_;refine tk 19 ?_;refine tk 20 ?_;refine tk 21 ?_;refine tk 22 ?_;refine tk 23 ?_;refine tk 24 ?_;refine tk 25 ?_;refine tk 26 ?_;refine tk 27 ?_;refine tk 28 ?_;refine tk 29 ?_;refine tk 30 ?_;refine tk 31 ?_;refine tk 32 ?_;refine tk 33 ?_;refine tk 34 ?_;refine tk 35 ?_;refine tk 36 ?_;refine wpAnyH_done zK ?_ _;go_simp;all_goals
         have r:=a7 (F.out.trans (d.mono F.out.size))
         clear d p
         go_wp2
         go_roundw
         case rel=>exact⟨1+1,om,by go_num,O,r.out⟩
         case measure=>simp[intOf];omega
  ·have az:j=n.names.length:=by omega
   have M:Hid (gr n (iR k)=oy n (iR k)):=by show _=_;have:=HA.out;rw[az]at this;rw[E.out,this,Bool.true_and]
   have g:=a7 (X.out.trans (B.mono X.out.size));have F:=a7 B;have aP:=a7 hk;clear aj an az HA E B;by_cases c3:k=1∨k=2∨k=3
   ·have N:Hid (gr n (iR k)=gM (k:Int) n.num n.text [] 0):=by show _=_;rw[M.out,(zi k om aH).1];show gM n.sort n.num n.text [] 0=_;rw[hk]
    have aA:n.text.size<=maxLen:=Nat.le_trans hx zC;have Y:Hid (∀w,Calls prog 145 #[.agg #[Zi Zk (k:Int),Zi Zk n.num,Zt n.text,Zs Zn 0 0,Zs Zn 0 0]] w fun e f=>e=.returned (Zb (gM (k:Int) n.num n.text [] 0))/\Bw w f):=fun w=>yP (k:Int) n.num n.text [] Zn 0 0 w Zn 0 aA (fun _=>False) ⟨Zn,0,rfl,by simp[maxLen],fun s hs=>by simp at hs,fun h=>absurd rfl h⟩ (fun _ h=>h.elim);clear aA;rcases c3 with rfl|rfl|rfl;all_goals
     go_wp2_with fail
     refine (Y.out _).mono ?_
     rintro e L ⟨rfl,d⟩
     have r:=a7 (g.out.trans (d.mono g.out.size))
     clear d Y
     go_wp2
     go_ret
     exact⟨b6 N.out.symm,r.out⟩
   have d1:((k:Int)==1)=false:=zE;have d2:((k:Int)==2)=false:=zE;have d3:((k:Int)==3)=false:=zE;by_cases c5:k=5∨k=6
   ·have N:Hid (gr n (iR k)=((n.num==0) && jV n.text)):=by show _=_;rw[M.out];rcases c5 with rfl|rfl<;>rfl
    have Y:Hid (∀w,Calls prog 103 #[Zt n.text] w fun e f=>Bw w f/\∃(s:Int)(a1 a2:ZO)(l1 l2 k1 k2:Nat),e=.returned (.tuple #[.agg #[Zi Zk s,Zs a1 l1 k1,Zs a2 l2 k2],Zb (jV n.text)])):=by intro w;refine (mD n.text (n.text.size+7) om hx w).mono ?_;rintro e f ⟨hb,c0,c1,c2,rfl,aF⟩;refine⟨hb,?_⟩;obtain⟨s,a1,l1,k1,a2,l2,k2,rfl,rfl,rfl⟩:=aF.shape;exact⟨s,a1,a2,l1,l2,k1,k2,rfl⟩
    have HZ:Hid (∀L,Bw wr L->L.cell? ⟨w.heap.size,1,Zn⟩=Zo (Zi Zk n.num)):=fun L h2=>kC h2 z1 (by have:=F.out.size;omega);generalize jV n.text=ok at *;cases hnz:(n.num==0)
    all_goals
     rw[hnz]at N
     rcases c5 with rfl|rfl
     all_goals
      go_wp2_with fail
      refine (Y.out _).mono ?_
      rintro e L ⟨d,s,a1,a2,l1,l2,k1,k2,rfl⟩
      have ah:=d.alloc d.size (.cells #[Zi Zk s,Zs a1 l1 k1,Zs a2 l2 k2] 31)
      have y1:=HZ.out _ ah
      have r:=a7 (g.out.trans (ah.mono g.out.size))
      clear d ah Y
      go_wp2
      go_ret
      exact⟨b6 (by rw[N.out];rfl),r.out⟩
   have d5:((k:Int)==5)=false:=zE;have d6:((k:Int)==6)=false:=zE;have aS:(n.text.toList==[])=n.text.toList.isEmpty:=by cases n.text.toList<;>rfl
   by_cases af:k=37
   ·have N:Hid (gr n (iR k)=(decide (0<=n.num/\n.num<=99) && n.text.toList.isEmpty)):=by show _=_;rw[M.out,af];show (decide (lst n.sort.toNat<=n.num/\n.num<=uu n.sort.toNat) && _)=_;rw[hk,af];rfl
    have Y:Hid (∀w,Calls prog 58 #[Zi Zk n.num,Zi Zk 0,Zi Zk 99] w _):=fun w=>iO n.num 0 99 w;generalize n.text.toList.isEmpty=em at *;generalize decide (0<=n.num/\n.num<=99)=ok at *;cases ok<;>cases em
    all_goals
     subst af
     go_wp2_with fail
     refine (Y.out _).mono ?_
     rintro e L ⟨rfl,rfl⟩
     go_wp2
     go_ret
     exact⟨b6 (by rw[N.out];rfl),g.out⟩
   by_cases ag:k=39
   ·have N:Hid (gr n (iR k)=(decide (1<=n.num/\n.num<=12) && n.text.toList.isEmpty)):=by show _=_;rw[M.out,ag];show (decide (lst n.sort.toNat<=n.num/\n.num<=uu n.sort.toNat) && _)=_;rw[hk,ag];rfl
    have Y:Hid (∀w,Calls prog 58 #[Zi Zk n.num,Zi Zk 1,Zi Zk 12] w _):=fun w=>iO n.num 1 12 w;generalize n.text.toList.isEmpty=em at *;generalize decide (1<=n.num/\n.num<=12)=ok at *;cases ok<;>cases em
    all_goals
     subst ag
     go_wp2_with fail
     refine (Y.out _).mono ?_
     rintro e L ⟨rfl,rfl⟩
     go_wp2
     go_ret
     exact⟨b6 (by rw[N.out];rfl),g.out⟩
   have aQ:((k:Int)==37)=false:=zE;have aR:((k:Int)==39)=false:=zE;have N:Hid (gr n (iR k)=((n.num==0) && n.text.toList.isEmpty)):=by show _=_;rw[M.out];rcases Gr k A with e|e|e|e|e|e|e|e|e|e|e|e|e;all_goals first|(exfalso;omega)|(rw[e];rfl)
   generalize n.text.toList.isEmpty=em at *;cases hnz:(n.num==0)<;>cases em
   all_goals
    rw[hnz]at N
    go_wp2
    go_ret
    exact⟨b6 (by rw[N.out];rfl),g.out⟩
end Go.Proofs.YtcfojmaccikgeaaGreatDoor
