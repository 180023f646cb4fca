import Derived.Test.YtcfojmaccikgeaaGreatDoorB32
import Derived.Deep.RegionHeld3
open Go.Value renaming slice→Zs,int→Zi,string→Zt,bool→Zb
open Go.IntKind renaming i64→Zk
open Option renaming none→Zn,some→Zo
namespace Go.Proofs.YtcfojmaccikgeaaGreatDoor
set_option maxRecDepth 100000
set_option maxHeartbeats 16000000
open Go.RowKit Go.Proofs.Tryz
theorem Es:∀k,k<44->k=0∨k=24∨k=1∨k=2∨k=3∨k=5∨k=6∨k=37∨k=39∨iM k=[]∨iM k=[88]∨iM k=[78]∨iM k=[88,88]:=by decide
theorem uL:yielded.match_1 (fun _=>Option Bool) (Zo undef) (fun b=>Zo b) (fun _=>Zn)=Zn:=rfl
theorem yn:∀k,k<44->Gq k<=2:=by decide
theorem Ij:∀k,k<44->Ac k=false->Gq k<=1:=by decide
theorem BD(k:Nat)(h:k≠24):(bs (Di k)).size=(lA k).length:=by rw[go];unfold Di;rw[if_neg h];unfold Ig;simp
theorem zi (S:Nat->Prop) (m:Nat) (n:Nd (T m)) (na ka:Option Addr) (M kc k:Nat) (a:Bool) (ha:decide ((36:Int)<=(k:Int))=a) (w:World) (hk:n.sort=(k:Int)) (z:k<44) (aM:1<=k) (aw:k≠24) (h3:fL S w n.names (Zs na n.names.length M)) (_hl4:n.kids.length<=maxLen) (hB:Bd S w)
  (hx:n.text.size<=1048576) :
  Calls prog 95 #[.agg #[Zi Zk (k:Int),Zi Zk n.num,Zt n.text,Zs na n.names.length M,Zs ka n.kids.length kc],Zb a] w fun e f=>e=.returned (Zb ((n.kids.length==(lA k).length) && gy n (iM k)))/\Bw w f:=by
 have g:=(Below.refl w.heap.size w).alloc (Nat.le_refl _) (.cells #[Zi Zk (k:Int),Zi Zk n.num,Zt n.text,Zs na n.names.length M,Zs ka n.kids.length kc] 40);have Y:Hid (∀w,Calls prog 58 #[Zi Zk (k:Int),Zi Zk 1,Zi Zk 43] w fun e f=>e=.returned (Zb true)/\f=w):=fun w=>by have:=iY k 1 43 w;rw[decide_eq_true om]at this;exact this
 have O:=BD k aw;have X:Hid (∀w,Calls prog 91 #[Zi Zk (k:Int)] w _):=fun w=>rr k z w;have ab:Hid (∀w,Calls prog 142 #[Zi Zk (k:Int)] w _):=fun w=>wV k z w;generalize bs (Di k)=q at *;have D:=a7 (Ho n k z aw);have ar:((k:Int)==24)=false:=zE;obtain⟨_,_,hv,aJ,-,-⟩:=id h3;cases hv
 unfold maxLen at aJ _hl4;by_cases I:n.kids.length=(lA k).length;case neg=>
  have aK:((n.kids.length:Int) != (q.size:Int))=true:=by rw[O];simp;omega
  have HF:Hid (((n.kids.length==(lA k).length) && gy n (iM k))=false):=by
   show _=_;have:(n.kids.length==(lA k).length)=false:=by simp[I]
   rw[this];rfl
  clear I O D;go_in;go_wp2_with fail;refine (Y.out _).mono ?_;rintro e w1 ⟨rfl,rfl⟩;go_wp2_with fail;go_quiet (first
   | (go_at_call 91;refine Calls.quiet_of_same (X.out _))
   | (go_at_call 142;refine Calls.quiet_of_same (ab.out _)))
  all_goals
   go_wp2
   go_ret
   exact⟨b6 HF.out.symm,by first|exact g|exact g.drew|exact⟨g.os,g.tape,g.output,g.size,g.block⟩⟩
 have aL:((n.kids.length:Int) != (q.size:Int))=false:=by rw[O];simp[I]
 have ak:(n.kids.length==(lA k).length)=true:=by simp[I]
 rw[ak,Bool.true_and];by_cases H:n.names.length=Gq k;case neg=>
  have aK:((n.names.length:Int) != ((Gq k:Nat):Int))=true:=zE;have HF:Hid (gy n (iM k)=false):=by
   show _=_;have:(n.names.length==Gq k)=false:=by simp[H]
   rw[D.out,this];rfl
  clear I O D H ak;go_in;go_wp2_with fail;refine (Y.out _).mono ?_;rintro e w1 ⟨rfl,rfl⟩;go_wp2_with fail;go_quiet (first
   | (go_at_call 91;refine Calls.quiet_of_same (X.out _))
   | (go_at_call 142;refine Calls.quiet_of_same (ab.out _)))
  all_goals
   go_wp2
   go_ret
   exact⟨b6 HF.out.symm,by first|exact g|exact g.drew|exact⟨g.os,g.tape,g.output,g.size,g.block⟩⟩
 have aG:((n.names.length:Int) != ((Gq k:Nat):Int))=false:=by simp[H]
 have G:Hid (gy n (iM k)=(jW (Ac k) n.names n.names.length && od n (iM k))):=by
  show _=_;have:(n.names.length==Gq k)=true:=by simp[H]
  rw[D.out,this];rfl
 obtain⟨W,hW⟩:=iw (w.alloc (.cells #[Zi Zk (k:Int),Zi Zk n.num,Zt n.text,Zs na n.names.length M,Zs ka n.kids.length kc] 40));have ao:Bw w W:=by rw[hW];exact g
 have aI:w.heap.size<W.heap.size:=by rw[hW];simp
 have ad:W.heap[w.heap.size]?=Zo (.cells #[Zi Zk (k:Int),Zi Zk n.num,Zt n.text,Zs na n.names.length M,Zs ka n.kids.length kc] 40 (0,0)):=by rw[hW];exact heap_alloc_last _ _
 have ah:=a7 H;clear I O D H ak g;go_in;go_wp2_with fail;refine (Y.out _).mono ?_;rintro e w1 ⟨rfl,rfl⟩;go_wp2_with fail;go_quiet (first
  | (go_at_call 91;refine Calls.quiet_of_same (X.out _))
  | (go_at_call 142;refine Calls.quiet_of_same (ab.out _)))
 go_wp2_with fail;rw[<- hW];have az:Hid (∀j,Bw W (W.drewN j)):=fun j=>⟨rfl,rfl,rfl,Nat.le_refl _,fun _ _=>rfl⟩;have C:Hid (∀w,Calls prog 143 #[Zi Zk (k:Int)] w _):=fun w=>vC k z w;have av:Hid (Ac k=false->n.names.length<=1):=fun h=>by rw[ah.out];exact Ij k z h
 obtain⟨_,_,hv,-,am,aj⟩:=h3.keep (a6 ao hB) (fun _ h=>h);cases hv
 have aE:Hid (∀(V:World)(j:Nat),Bw W V->Bw W (V.drewN j)):=fun V j h=>⟨h.os,h.tape,h.output,h.size,h.block⟩;have aq:Hid (∀(V:World)(j:Nat),Bw w V->Bw w (V.drewN j)):=fun V j h=>⟨h.os,h.tape,h.output,h.size,h.block⟩;have aD:=a7 ad;have aa:=a7 ao;clear hW ad ao aG aL X ab Y;go_loopw [5] (fun i wr=>∃j:Nat,j<=n.names.length/\i=Zi Zk j/\Hid (jW (Ac k) n.names j=true)/\Bw W wr) (fun i _=>n.names.length-(intOf i).toNat);case atStart=>exact⟨0,Nat.zero_le _,rfl,rfl,az.out _⟩
 case round=>
  obtain⟨j,hj,rfl,HA,B⟩:=hrel;obtain⟨z0,z1,z2,z3,z4⟩:=gE ((B.block w.heap.size aI).trans aD.out);by_cases J:j<n.names.length
  ·obtain⟨b,off,rfl,aF,E⟩:=aj (by intro h;rw[h]at J;simp at J);have aN:=hB b aF;have ej:=kC B (E j J) (by show b<W.heap.size;omega);have U:=kC B (E 0 om) (by show b<W.heap.size;omega);have ag:=am n.names[j] (List.getElem_mem J);have ay:n.names.getD j ByteArray.empty=n.names[j]:=by simp[List.getD,J]
   have ax:n.names.getD 0 ByteArray.empty=n.names[0]:=by have h0:0<n.names.length:=om;simp[List.getD,h0]
   have c:Hid (wH (Ac k) n.names j=(gh n.names[j] && (!Ac k || ii n.names[j]) && !(decide (0<j) && (n.names[j]==n.names[0])))):=by show _=_;unfold wH;rw[ay,ax]
   have r:Hid (wH (Ac k) n.names j=false->jW (Ac k) n.names n.names.length=false):=fun h=>AA _ _ j _ J h;have A:Hid (wH (Ac k) n.names j=true->jW (Ac k) n.names (j+1)=true):=fun h=>by rw[De,HA.out,h];rfl
   have ae:=js n.names[j] n.names[0];have an:j=0->n.names[j]=n.names[0]:=fun h=>by subst h;rfl
   have v:Hid (∀w,Calls prog 30 #[Zt n.names[j]] w _):=fun w=>kI n.names[j] w ag;have u:Hid (∀W',Bw wr W'->Calls prog 144 #[Zt n.names[j]] W' fun e f=>e=.returned (Zb (ii n.names[j]))/\Bw wr f/\f.cell? ⟨w.heap.size,0,Zn⟩=Zo (Zi Zk (k:Int))/\f.cell? ⟨w.heap.size,3,Zn⟩=Zo (Zs (Zo ⟨b,off,Zn⟩) n.names.length M)/\f.cell? ⟨b,off+j,Zn⟩=Zo (Zt n.names[j])/\f.cell? ⟨b,off,Zn⟩=Zo (Zt n.names[0])):=by intro W' aA;refine (rB n.names[j] W' ag).mono ?_;rintro e f ⟨rfl,hb⟩;have P:Bw wr f:=aA.trans (hb.mono aA.size);have hz:=B.size;exact⟨rfl,P,kC P z0 om,kC P z3 om,kC P ej om,kC P U om⟩
   have l:=a7 (aa.out.trans (B.mono aa.out.size));have F:=a7 B;have ac:=av.out;have aB:j=0∨j=1:=by have h2:=yn k z;have h3:=ah.out;omega
   have hD:Bw wr wr.drew:=(Below.refl _ _).drew;have aQ:=uL;have aR:1<=n.names.length:=om;clear aj E am ag ay ax B av z1 z2 z4 _hl4 ar ah;rcases aB with rfl|rfl
   ·have aO:=an rfl;clear an;generalize n.names[0]=x at *;clear U ae;rw[Nat.add_zero]at ej;simp only[Nat.add_zero]at u;obtain⟨y,hy⟩:=iw x;have U:wr.cell? ⟨b,off,Zn⟩=Zo (Zt y):=by rw[hy];exact ej
    generalize Ac k=bd at *;cases hnm:gh x with
    | false=>rw[hnm]at v c;have o:Hid (jW bd n.names n.names.length=false):=r.out (by rw[c.out];rfl);clear u r A c hD;go_wp2_with fail;go_quiet (first|(go_at_call 30;refine Calls.quiet_of_same (v.out _))|(go_at_call 143;refine Calls.quiet_of_same (C.out _)));go_wp2;go_ret;exact⟨b6 (by rw[G.out,o.out];rfl),aq.out _ _ l.out⟩
    | true=>
     rw[hnm]at v c;cases hbdv:bd with
     | false=>
      subst hbdv;have Q:Hid (jW false n.names (0+1)=true):=A.out (by rw[c.out];rfl);clear u r A c hD ac;go_wp2_with fail;go_quiet (first|(go_at_call 30;refine Calls.quiet_of_same (v.out _))|(go_at_call 143;refine Calls.quiet_of_same (C.out _)));go_wp2;go_roundw;case rel=>exact⟨0+1,om,by go_num,Q,aE.out _ _ F.out⟩
      case measure=>simp[intOf];omega
     | true=>
      subst hbdv;clear ac;subst hy;cases hfr:ii y with
      | false=>
       rw[hfr]at u c;have o:Hid (jW true n.names n.names.length=false):=r.out (by rw[c.out];rfl);clear r A c;go_wp2_with fail;refine wp_region_held_drew (S:=(fun f=>f.cell? ⟨w.heap.size,0,Zn⟩=Zo (Zi Zk (k:Int))/\f.cell? ⟨w.heap.size,3,Zn⟩=Zo (Zs (Zo ⟨b,off,Zn⟩) n.names.length M)/\f.cell? ⟨b,off,Zn⟩=Zo (Zt y)/\f.cell? ⟨b,off,Zn⟩=Zo (Zt y))) zK (by exact⟨z0,z3,U,U⟩) (fun hHeld=>?_);refine tk 0 ?_;refine tk 1 ?_;refine tk 2 ?_;refine tk 3 ?_;refine tk 4 ?_;refine iT 5 fun K hK=>?_;go_simp;go_at_call 30;refine (v.out _).mono ?_;rintro e w1 ⟨rfl,rfl⟩;refine hK.out _ _ (hHeld) (fun hHeld=>?_);clear hK K;refine tk 6 ?_;refine tk 7 ?_;refine tk 8 ?_;refine tk 9 ?_;refine iT 10 fun K hK=>?_;go_simp;go_at_call 143;refine (C.out _).mono ?_;rintro e w1 ⟨rfl,rfl⟩;refine hK.out _ _ (hHeld) (fun hHeld=>?_);clear hK K;refine tk 11 ?_;refine tk 12 ?_;refine tk 13 ?_;refine tk 14 ?_;refine tk 15 ?_;refine tk 16 ?_;refine iT 17 fun K hK=>?_;go_simp;go_at_call 144;refine (u.out _ hD).mono ?_;rintro e L ⟨rfl,d,p⟩;refine hK.out _ _ (p) (fun hHeld=>?_);clear hK K;refine tk 18 ?_;refine tk 19 ?_;refine tk 20 ?_;refine tk 21 ?_;refine ts 22 ?_;refine ts 23 ?_;refine ts 24 ?_;refine ts 25 ?_;refine ts 26 ?_;refine ts 27 ?_;refine ts 28 ?_;refine ts 29 ?_;refine ts 30 ?_;refine ts 31 ?_;refine ts 32 ?_;refine ts 33 ?_;refine ts 34 ?_;refine ts 35 ?_;refine tk 36 ?_;refine wpAnyH_done zK ?_ _;go_simp;all_goals
        have t:=a7 (l.out.trans (d.mono l.out.size))
        clear d p
        go_wp2
        go_ret
        exact⟨b6 (by rw[G.out,o.out];rfl),t.out⟩
      | true=>
       rw[hfr]at u c;have Q:Hid (jW true n.names (0+1)=true):=A.out (by rw[c.out];rfl);clear r A c;go_wp2_with fail;refine wp_region_held_drew (S:=(fun f=>f.cell? ⟨w.heap.size,0,Zn⟩=Zo (Zi Zk (k:Int))/\f.cell? ⟨w.heap.size,3,Zn⟩=Zo (Zs (Zo ⟨b,off,Zn⟩) n.names.length M)/\f.cell? ⟨b,off,Zn⟩=Zo (Zt y)/\f.cell? ⟨b,off,Zn⟩=Zo (Zt y))) zK (by exact⟨z0,z3,U,U⟩) (fun hHeld=>?_);refine tk 0 ?_;refine tk 1 ?_;refine tk 2 ?_;refine tk 3 ?_;refine tk 4 ?_;refine iT 5 fun K hK=>?_;go_simp;go_at_call 30;refine (v.out _).mono ?_;rintro e w1 ⟨rfl,rfl⟩;refine hK.out _ _ (hHeld) (fun hHeld=>?_);clear hK K;refine tk 6 ?_;refine tk 7 ?_;refine tk 8 ?_;refine tk 9 ?_;refine iT 10 fun K hK=>?_;go_simp;go_at_call 143;refine (C.out _).mono ?_;rintro e w1 ⟨rfl,rfl⟩;refine hK.out _ _ (hHeld) (fun hHeld=>?_);clear hK K;refine tk 11 ?_;refine tk 12 ?_;refine tk 13 ?_;refine tk 14 ?_;refine tk 15 ?_;refine tk 16 ?_;refine iT 17 fun K hK=>?_;go_simp;go_at_call 144;refine (u.out _ hD).mono ?_;rintro e L ⟨rfl,d,p⟩;refine hK.out _ _ (p) (fun hHeld=>?_);clear hK K;refine tk 18 ?_;refine tk 19 ?_;refine tk 20 ?_;refine tk 21 ?_;refine tk 22 ?_;refine tk 23 ?_;refine tk 24 ?_;refine ts 25 ?_;refine ts 26 ?_;refine ts 27 ?_;refine ts 28 ?_;refine ts 29 ?_;refine ts 30 ?_;refine ts 31 ?_;refine ts 32 ?_;refine ts 33 ?_;refine ts 34 ?_;refine tk 35 ?_;refine tk 36 ?_;refine wpAnyH_done zK ?_ _;go_simp;all_goals
        have t:=a7 (F.out.trans (d.mono F.out.size))
        clear d p
        go_wp2
        go_roundw
        case rel=>exact⟨0+1,om,by go_num,Q,t.out⟩
        case measure=>simp[intOf];omega
   ·generalize n.names[1]=x at *;generalize n.names[0]=y at *;clear an;generalize Ac k=bd at *;cases hnm:gh x with
    | false=>rw[hnm]at v c;have o:Hid (jW bd n.names n.names.length=false):=r.out (by rw[c.out];rfl);clear u r A c hD;go_wp2_with fail;go_quiet (first|(go_at_call 30;refine Calls.quiet_of_same (v.out _))|(go_at_call 143;refine Calls.quiet_of_same (C.out _)));go_wp2;go_ret;exact⟨b6 (by rw[G.out,o.out];rfl),aq.out _ _ l.out⟩
    | true=>
     rw[hnm]at v c;cases hbdv:bd with
     | false=>subst hbdv;exact absurd (ac rfl) om
     | true=>
      subst hbdv;clear ac;cases hfr:ii x with
      | false=>
       rw[hfr]at u c;have o:Hid (jW true n.names n.names.length=false):=r.out (by rw[c.out];rfl);clear r A c;go_wp2_with fail;refine wp_region_held_drew (S:=(fun f=>f.cell? ⟨w.heap.size,0,Zn⟩=Zo (Zi Zk (k:Int))/\f.cell? ⟨w.heap.size,3,Zn⟩=Zo (Zs (Zo ⟨b,off,Zn⟩) n.names.length M)/\f.cell? ⟨b,off+1,Zn⟩=Zo (Zt x)/\f.cell? ⟨b,off,Zn⟩=Zo (Zt y))) zK (by exact⟨z0,z3,ej,U⟩) (fun hHeld=>?_);refine tk 0 ?_;refine tk 1 ?_;refine tk 2 ?_;refine tk 3 ?_;refine tk 4 ?_;refine iT 5 fun K hK=>?_;go_simp;go_at_call 30;refine (v.out _).mono ?_;rintro e w1 ⟨rfl,rfl⟩;refine hK.out _ _ (hHeld) (fun hHeld=>?_);clear hK K;refine tk 6 ?_;refine tk 7 ?_;refine tk 8 ?_;refine tk 9 ?_;refine iT 10 fun K hK=>?_;go_simp;go_at_call 143;refine (C.out _).mono ?_;rintro e w1 ⟨rfl,rfl⟩;refine hK.out _ _ (hHeld) (fun hHeld=>?_);clear hK K;refine tk 11 ?_;refine tk 12 ?_;refine tk 13 ?_;refine tk 14 ?_;refine tk 15 ?_;refine tk 16 ?_;refine iT 17 fun K hK=>?_;go_simp;go_at_call 144;refine (u.out _ hD).mono ?_;rintro e L ⟨rfl,d,p⟩;refine hK.out _ _ (p) (fun hHeld=>?_);clear hK K;refine tk 18 ?_;refine tk 19 ?_;refine tk 20 ?_;refine tk 21 ?_;refine ts 22 ?_;refine ts 23 ?_;refine ts 24 ?_;refine ts 25 ?_;refine ts 26 ?_;refine ts 27 ?_;refine ts 28 ?_;refine ts 29 ?_;refine ts 30 ?_;refine ts 31 ?_;refine ts 32 ?_;refine ts 33 ?_;refine ts 34 ?_;refine ts 35 ?_;refine tk 36 ?_;refine wpAnyH_done zK ?_ _;go_simp;all_goals
        have t:=a7 (l.out.trans (d.mono l.out.size))
        clear d p
        go_wp2
        go_ret
        exact⟨b6 (by rw[G.out,o.out];rfl),t.out⟩
      | true=>
       rw[hfr]at u c;cases hxy:(x==y) with
       | true=>
        rw[hxy]at c ae;have o:Hid (jW true n.names n.names.length=false):=r.out (by rw[c.out];rfl);clear r A c;go_wp2_with fail;have aC:0<n.names.length:=om;refine wp_region_held_drew (S:=(fun f=>f.cell? ⟨w.heap.size,0,Zn⟩=Zo (Zi Zk (k:Int))/\f.cell? ⟨w.heap.size,3,Zn⟩=Zo (Zs (Zo ⟨b,off,Zn⟩) n.names.length M)/\f.cell? ⟨b,off+1,Zn⟩=Zo (Zt x)/\f.cell? ⟨b,off,Zn⟩=Zo (Zt y))) zK (by exact⟨z0,z3,ej,U⟩) (fun hHeld=>?_);refine tk 0 ?_;refine tk 1 ?_;refine tk 2 ?_;refine tk 3 ?_;refine tk 4 ?_;refine iT 5 fun K hK=>?_;go_simp;go_at_call 30;refine (v.out _).mono ?_;rintro e w1 ⟨rfl,rfl⟩;refine hK.out _ _ (hHeld) (fun hHeld=>?_);clear hK K;refine tk 6 ?_;refine tk 7 ?_;refine tk 8 ?_;refine tk 9 ?_;refine iT 10 fun K hK=>?_;go_simp;go_at_call 143;refine (C.out _).mono ?_;rintro e w1 ⟨rfl,rfl⟩;refine hK.out _ _ (hHeld) (fun hHeld=>?_);clear hK K;refine tk 11 ?_;refine tk 12 ?_;refine tk 13 ?_;refine tk 14 ?_;refine tk 15 ?_;refine tk 16 ?_;refine iT 17 fun K hK=>?_;go_simp;go_at_call 144;refine (u.out _ hD).mono ?_;rintro e L ⟨rfl,d,p⟩;refine hK.out _ _ (p) (fun hHeld=>?_);clear hK K;refine tk 18 ?_;refine tk 19 ?_;refine tk 20 ?_;refine tk 21 ?_;refine tk 22 ?_;refine tk 23 ?_;refine tk 24 ?_;refine tk 25 ?_;refine tk 26 ?_;refine tk 27 ?_;refine tk 28 ?_;refine tk 29 ?_;refine tk 30 ?_;refine tk 31 ?_;refine tk 32 ?_;refine tk 33 ?_;refine tk 34 ?_;refine tk 35 ?_;refine tk 36 ?_;refine wpAnyH_done zK ?_ _;go_simp;all_goals
         have t:=a7 (l.out.trans (d.mono l.out.size))
         clear d p
         go_wp2
         go_ret
         exact⟨b6 (by rw[G.out,o.out];rfl),t.out⟩
       | false=>
        rw[hxy]at c ae;have Q:Hid (jW true n.names (1+1)=true):=A.out (by rw[c.out];rfl);clear r A c;go_wp2_with fail;have aC:0<n.names.length:=om;refine wp_region_held_drew (S:=(fun f=>f.cell? ⟨w.heap.size,0,Zn⟩=Zo (Zi Zk (k:Int))/\f.cell? ⟨w.heap.size,3,Zn⟩=Zo (Zs (Zo ⟨b,off,Zn⟩) n.names.length M)/\f.cell? ⟨b,off+1,Zn⟩=Zo (Zt x)/\f.cell? ⟨b,off,Zn⟩=Zo (Zt y))) zK (by exact⟨z0,z3,ej,U⟩) (fun hHeld=>?_);refine tk 0 ?_;refine tk 1 ?_;refine tk 2 ?_;refine tk 3 ?_;refine tk 4 ?_;refine iT 5 fun K hK=>?_;go_simp;go_at_call 30;refine (v.out _).mono ?_;rintro e w1 ⟨rfl,rfl⟩;refine hK.out _ _ (hHeld) (fun hHeld=>?_);clear hK K;refine tk 6 ?_;refine tk 7 ?_;refine tk 8 ?_;refine tk 9 ?_;refine iT 10 fun K hK=>?_;go_simp;go_at_call 143;refine (C.out _).mono ?_;rintro e w1 ⟨rfl,rfl⟩;refine hK.out _ _ (hHeld) (fun hHeld=>?_);clear hK K;refine tk 11 ?_;refine tk 12 ?_;refine tk 13 ?_;refine tk 14 ?_;refine tk 15 ?_;refine tk 16 ?_;refine iT 17 fun K hK=>?_;go_simp;go_at_call 144;refine (u.out _ hD).mono ?_;rintro e L ⟨rfl,d,p⟩;refine hK.out _ _ (p) (fun hHeld=>?_);clear hK K;refine tk 18 ?_;refine tk 19 ?_;refine tk 20 ?_;refine tk 21 ?_;refine tk 22 ?_;refine tk 23 ?_;refine tk 24 ?_;refine tk 25 ?_;refine tk 26 ?_;refine tk 27 ?_;refine tk 28 ?_;refine tk 29 ?_;refine tk 30 ?_;refine tk 31 ?_;refine tk 32 ?_;refine tk 33 ?_;refine tk 34 ?_;refine tk 35 ?_;refine tk 36 ?_;refine wpAnyH_done zK ?_ _;go_simp;all_goals
         have t:=a7 (F.out.trans (d.mono F.out.size))
         clear d p
         go_wp2
         go_roundw
         case rel=>exact⟨1+1,om,by go_num,Q,t.out⟩
         case measure=>simp[intOf];omega
  ·have ap:j=n.names.length:=by omega
   have N:Hid (gy n (iM k)=od n (iM k)):=by show _=_;have:=HA.out;rw[ap]at this;rw[G.out,this,Bool.true_and]
   have l:=a7 (aa.out.trans (B.mono aa.out.size));have F:=a7 B;have aT:=a7 hk;clear aj am ap HA G B;by_cases c3:k=1∨k=2∨k=3
   ·have R:Hid (gy n (iM k)=gS (k:Int) n.num n.text [] 0):=by show _=_;rw[N.out,(yZ k om aM).1];show gS n.sort n.num n.text [] 0=_;rw[hk]
    have au:n.text.size<=maxLen:=Nat.le_trans hx zC;have Z:Hid (∀w,Calls prog 145 #[.agg #[Zi Zk (k:Int),Zi Zk n.num,Zt n.text,Zs Zn 0 0,Zs Zn 0 0]] w fun e f=>e=.returned (Zb (gS (k:Int) n.num n.text [] 0))/\Bw w f):=fun w=>yq (k:Int) n.num n.text [] Zn 0 0 w Zn 0 au (fun _=>False) ⟨Zn,0,rfl,by simp[maxLen],fun s hs=>by simp at hs,fun h=>absurd rfl h⟩ (fun _ h=>h.elim);clear au;rcases c3 with rfl|rfl|rfl;all_goals
     go_wp2_with fail
     refine (Z.out _).mono ?_
     rintro e L ⟨rfl,d⟩
     have t:=a7 (l.out.trans (d.mono l.out.size))
     clear d Z
     go_wp2
     go_ret
     exact⟨b6 R.out.symm,t.out⟩
   have d1:((k:Int)==1)=false:=zE;have d2:((k:Int)==2)=false:=zE;have d3:((k:Int)==3)=false:=zE;by_cases c5:k=5∨k=6
   ·have R:Hid (gy n (iM k)=((n.num==0) && jK n.text)):=by show _=_;rw[N.out];rcases c5 with rfl|rfl<;>rfl
    have Z:Hid (∀w,Calls prog 103 #[Zt n.text] w fun e f=>Bw w f/\∃(s:Int)(a1 a2:Option Addr)(l1 l2 k1 k2:Nat),e=.returned (.tuple #[.agg #[Zi Zk s,Zs a1 l1 k1,Zs a2 l2 k2],Zb (jK n.text)])):=by intro w;refine (mF n.text (n.text.size+7) om hx w).mono ?_;rintro e f ⟨hb,c0,c1,c2,rfl,aH⟩;refine⟨hb,?_⟩;obtain⟨s,a1,l1,k1,a2,l2,k2,rfl,rfl,rfl⟩:=aH.shape;exact⟨s,a1,a2,l1,l2,k1,k2,rfl⟩
    have HZ:Hid (∀L,Bw wr L->L.cell? ⟨w.heap.size,1,Zn⟩=Zo (Zi Zk n.num)):=fun L h2=>kC h2 z1 (by have:=F.out.size;omega);generalize jK n.text=ok at *;cases hnz:(n.num==0)
    all_goals
     rw[hnz]at R
     rcases c5 with rfl|rfl
     all_goals
      go_wp2_with fail
      refine (Z.out _).mono ?_
      rintro e L ⟨d,s,a1,a2,l1,l2,k1,k2,rfl⟩
      have ai:=d.alloc d.size (.cells #[Zi Zk s,Zs a1 l1 k1,Zs a2 l2 k2] 31)
      have y1:=HZ.out _ ai
      have t:=a7 (l.out.trans (ai.mono l.out.size))
      clear d ai Z
      go_wp2
      go_ret
      exact⟨b6 (by rw[R.out];rfl),t.out⟩
   have d5:((k:Int)==5)=false:=zE;have d6:((k:Int)==6)=false:=zE;have aP:(n.text.toList==[])=n.text.toList.isEmpty:=by cases n.text.toList<;>rfl
   by_cases al:k=37
   ·have R:Hid (gy n (iM k)=(decide (0<=n.num/\n.num<=99) && n.text.toList.isEmpty)):=by show _=_;rw[N.out,al];show (decide (lst n.sort.toNat<=n.num/\n.num<=tX n.sort.toNat) && _)=_;rw[hk,al];rfl
    have Z:Hid (∀w,Calls prog 58 #[Zi Zk n.num,Zi Zk 0,Zi Zk 99] w _):=fun w=>iY n.num 0 99 w;generalize n.text.toList.isEmpty=em at *;generalize decide (0<=n.num/\n.num<=99)=ok at *;cases ok<;>cases em
    all_goals
     subst al
     go_wp2_with fail
     refine (Z.out _).mono ?_
     rintro e L ⟨rfl,rfl⟩
     go_wp2
     go_ret
     exact⟨b6 (by rw[R.out];rfl),l.out⟩
   by_cases af:k=39
   ·have R:Hid (gy n (iM k)=(decide (1<=n.num/\n.num<=12) && n.text.toList.isEmpty)):=by show _=_;rw[N.out,af];show (decide (lst n.sort.toNat<=n.num/\n.num<=tX n.sort.toNat) && _)=_;rw[hk,af];rfl
    have Z:Hid (∀w,Calls prog 58 #[Zi Zk n.num,Zi Zk 1,Zi Zk 12] w _):=fun w=>iY n.num 1 12 w;generalize n.text.toList.isEmpty=em at *;generalize decide (1<=n.num/\n.num<=12)=ok at *;cases ok<;>cases em
    all_goals
     subst af
     go_wp2_with fail
     refine (Z.out _).mono ?_
     rintro e L ⟨rfl,rfl⟩
     go_wp2
     go_ret
     exact⟨b6 (by rw[R.out];rfl),l.out⟩
   have aU:((k:Int)==37)=false:=zE;have aS:((k:Int)==39)=false:=zE;have R:Hid (gy n (iM k)=((n.num==0) && n.text.toList.isEmpty)):=by show _=_;rw[N.out];rcases Es k z with e|e|e|e|e|e|e|e|e|e|e|e|e;all_goals first|(exfalso;omega)|(rw[e];rfl)
   generalize n.text.toList.isEmpty=em at *;cases hnz:(n.num==0)<;>cases em
   all_goals
    rw[hnz]at R
    go_wp2
    go_ret
    exact⟨b6 (by rw[R.out];rfl),l.out⟩
end Go.Proofs.YtcfojmaccikgeaaGreatDoor
