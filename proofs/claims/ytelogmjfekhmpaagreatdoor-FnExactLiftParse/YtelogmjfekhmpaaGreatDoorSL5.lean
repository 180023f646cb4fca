import Derived.Test.YtelogmjfekhmpaaGreatDoorSL4
import Derived.Deep.RegionHeld3
namespace Go.Proofs.YtelogmjfekhmpaaGreatDoor
set_option maxRecDepth 100000
set_option maxHeartbeats 16000000
open Go.RowKit
theorem xhC:∀ k,k<44->k=0∨k=24∨k=1∨k=2∨k=3∨k=5∨k=6∨k=37∨k=39∨preL k=[]∨preL k=[88]∨preL k=[78]∨preL k=[88,88]:=by decide
theorem qqN:yielded.match_1 (fun _=>Option Bool) (some undef) (fun b=>some b) (fun _=>none)=none:=rfl
theorem qiG:∀ k,k<44->nmS k<=2:=by decide
theorem bd_one:∀ k,k<44->bdS k=false->nmS k<=1:=by decide
theorem qvD (k:Nat) (h:k≠24):(bs (kdT k)).size=(kdV k).length:=by
 rw[qaJ];unfold kdT;rw[if_neg h];unfold kdS;simp
theorem qvE (S:Nat->Prop) (m:Nat) (n:Nd (T m)) (na ka:Option Addr) (nc kc k:Nat) (a:Bool) (ha:decide ((36:Int)<=(k:Int))=a) (w:World) (hk:n.sort=(k:Int)) (hk44:k<44) (hk1:1<=k) (h24:k≠24) (h3:StrsIn S w n.names (.slice na n.names.length nc)) (_hl4:n.kids.length<=maxLen) (hB:∀ b,S b->b<w.heap.size)
  (hx:n.text.size<=1048576) :
  Calls Tryz.prog 76 #[.agg #[.int .i64 (k:Int),.int .i64 n.num,.string n.text,.slice na n.names.length nc,.slice ka n.kids.length kc],.bool a] w fun e w'=>e=.returned (.bool ((n.kids.length==(kdV k).length) && preC n (preL k)))/\Below w.heap.size w w':=by
 have aD:=(Below.refl w.heap.size w).alloc (Nat.le_refl _) (.cells #[.int .i64 (k:Int),.int .i64 n.num,.string n.text,.slice na n.names.length nc,.slice ka n.kids.length kc] 25)
 have aX:Hid (∀ w,Calls Tryz.prog 45 #[.int .i64 (k:Int),.int .i64 1,.int .i64 43] w fun e w'=>e=.returned (.bool true)/\w'=w):=fun w=>by
  have:=qcL k 1 43 w
  rw[decide_eq_true (by omega)]at this
  exact this
 have aS:=qvD k h24
 have aY:Hid (∀ w,Calls Tryz.prog 30 #[.int .i64 (k:Int)] w _):=fun w=>qiF k hk44 w
 have aZ:Hid (∀ w,Calls Tryz.prog 25 #[.int .i64 (k:Int)] w _):=fun w=>qkR k hk44 w
 generalize bs (kdT k)=q at *
 have aK:=hidF (xbG n k hk44 h24)
 have bC:((k:Int)==24)=false:=by simp;omega
 obtain⟨_,_,hv,cE,-,-⟩:=id h3
 cases hv
 unfold maxLen at cE _hl4
 by_cases hkl:n.kids.length=(kdV k).length
 case neg=>
  have bU:((n.kids.length:Int) != (q.size:Int))=true:=by rw[aS];simp;omega
  have HF:Hid (((n.kids.length==(kdV k).length) && preC n (preL k))=false):=by
   show _=_
   have:(n.kids.length==(kdV k).length)=false:=by simp[hkl]
   rw[this];rfl
  clear hkl aS aK
  go_enter Tryz.func76,Tryz.ntmps76
  go_wp2_with fail
  refine (aX.out _).mono ?_
  rintro e w1 ⟨rfl,rfl⟩
  go_wp2_with fail
  go_quiet (first
   | (go_at_call 30;refine Calls.quiet_of_same (aY.out _))
   | (go_at_call 25;refine Calls.quiet_of_same (aZ.out _)))
  all_goals
   go_wp2_with fail
   go_ret
   exact⟨qaD HF.out.symm,by first|exact aD|exact aD.drew|exact⟨aD.os,aD.tape,aD.output,aD.size,aD.block⟩⟩
 have bV:((n.kids.length:Int) != (q.size:Int))=false:=by rw[aS];simp[hkl]
 have bD:(n.kids.length==(kdV k).length)=true:=by simp[hkl]
 rw[bD,Bool.true_and]
 by_cases hnl:n.names.length=nmS k
 case neg=>
  have bU:((n.names.length:Int) != ((nmS k:Nat):Int))=true:=by simp;omega
  have HF:Hid (preC n (preL k)=false):=by
   show _=_
   have:(n.names.length==nmS k)=false:=by simp[hnl]
   rw[aK.out,this];rfl
  clear hkl aS aK hnl bD
  go_enter Tryz.func76,Tryz.ntmps76
  go_wp2_with fail
  refine (aX.out _).mono ?_
  rintro e w1 ⟨rfl,rfl⟩
  go_wp2_with fail
  go_quiet (first
   | (go_at_call 30;refine Calls.quiet_of_same (aY.out _))
   | (go_at_call 25;refine Calls.quiet_of_same (aZ.out _)))
  all_goals
   go_wp2_with fail
   go_ret
   exact⟨qaD HF.out.symm,by first|exact aD|exact aD.drew|exact⟨aD.os,aD.tape,aD.output,aD.size,aD.block⟩⟩
 have bW:((n.names.length:Int) != ((nmS k:Nat):Int))=false:=by simp[hnl]
 have aP:Hid (preC n (preL k)=(nmTo (bdS k) n.names n.names.length && tailP n (preL k))):=by
  show _=_
  have:(n.names.length==nmS k)=true:=by simp[hnl]
  rw[aK.out,this];rfl
 obtain⟨W,hW⟩:∃ W,W=w.alloc (.cells #[.int .i64 (k:Int),.int .i64 n.num,.string n.text,.slice na n.names.length nc,.slice ka n.kids.length kc] 25):=⟨_,rfl⟩
 have bE:Below w.heap.size w W:=by rw[hW];exact aD
 have bX:w.heap.size<W.heap.size:=by rw[hW];simp
 have aT:W.heap[w.heap.size]?=some (.cells #[.int .i64 (k:Int),.int .i64 n.num,.string n.text,.slice na n.names.length nc,.slice ka n.kids.length kc] 25 (0,0)):=by rw[hW];exact heap_alloc_last _ _
 have bF:=hidF hnl
 clear hkl aS aK hnl bD aD
 go_enter Tryz.func76,Tryz.ntmps76
 go_wp2_with fail
 refine (aX.out _).mono ?_
 rintro e w1 ⟨rfl,rfl⟩
 go_wp2_with fail
 go_quiet (first
  | (go_at_call 30;refine Calls.quiet_of_same (aY.out _))
  | (go_at_call 25;refine Calls.quiet_of_same (aZ.out _)))
 go_wp2_with fail
 rw[<- hW]
 have bG:Hid (∀ j,Below W.heap.size W (W.drewN j)):=fun j=>⟨rfl,rfl,rfl,Nat.le_refl _,fun _ _=>rfl⟩
 have aO:Hid (∀ w,Calls Tryz.prog 27 #[.int .i64 (k:Int)] w _):=fun w=>qkS k hk44 w
 have bN:Hid (bdS k=false->n.names.length<=1):=fun h=>by
  rw[bF.out];exact bd_one k hk44 h
 obtain⟨_,_,hv,-,bL,bM⟩:=h3.keep (qaB bE hB) (fun _ h=>h)
 cases hv
 have bY:Hid (∀ (V:World) (j:Nat),Below W.heap.size W V->Below W.heap.size W (V.drewN j)):=fun V j h=>⟨h.os,h.tape,h.output,h.size,h.block⟩
 have bO:Hid (∀ (V:World) (j:Nat),Below w.heap.size w V->Below w.heap.size w (V.drewN j)):=fun V j h=>⟨h.os,h.tape,h.output,h.size,h.block⟩
 have bZ:=hidF aT
 have bA:=hidF bE
 clear hW aT bE bW bV aY aZ aX
 go_loopw [5] (fun i wr=>∃ j:Nat,j<=n.names.length/\i=.int .i64 j/\Hid (nmTo (bdS k) n.names j=true)/\Below W.heap.size W wr) (fun i _=>n.names.length - (intOf i).toNat)
 case atStart=>exact⟨0,Nat.zero_le _,rfl,rfl,bG.out _⟩
 case round=>
  obtain⟨j,hj,rfl,HA,aN⟩:=hrel
  obtain⟨z0,z1,z2,z3,z4⟩:=qcF ((aN.block w.heap.size bX).trans bZ.out)
  by_cases aR:j<n.names.length
  ·obtain⟨b,off,rfl,cF,aM⟩:=bM (by intro h;rw[h]at aR;simp at aR)
   have cA:=hB b cF
   have ej:=(aN.cell (p:=⟨b,off+j,none⟩) (by show b<W.heap.size;omega)).trans (aM j aR)
   have e0:=(aN.cell (p:=⟨b,off,none⟩) (by show b<W.heap.size;omega)).trans (aM 0 (by omega))
   have bH:=bL n.names[j] (List.getElem_mem aR)
   have bP:n.names.getD j ByteArray.empty=n.names[j]:=by simp[List.getD,aR]
   have bQ:n.names.getD 0 ByteArray.empty=n.names[0]:=by
    have h0:0<n.names.length:=by omega
    simp[List.getD,h0]
   have aA:Hid (nmOk (bdS k) n.names j=(nameB n.names[j] && (!bdS k || freeB n.names[j]) && !(decide (0<j) && (n.names[j]==n.names[0])))):=by
    show _=_
    unfold nmOk
    rw[bP,bQ]
   have aG:Hid (nmOk (bdS k) n.names j=false->nmTo (bdS k) n.names n.names.length=false):=fun h=>qxV _ _ j _ aR h
   have aL:Hid (nmOk (bdS k) n.names j=true->nmTo (bdS k) n.names (j+1)=true):=fun h=>by rw[xbE,HA.out,h];rfl
   have bI:=qcN n.names[j] n.names[0]
   have bJ:j=0->n.names[j]=n.names[0]:=fun h=>by subst h;rfl
   have aJ:Hid (∀ w,Calls Tryz.prog 40 #[.string n.names[j]] w _):=fun w=>qdR n.names[j] w bH
   have aH:Hid (∀ W',Below wr.heap.size wr W'->Calls Tryz.prog 38 #[.string n.names[j]] W' fun e w'=>e=.returned (.bool (freeB n.names[j]))/\Below wr.heap.size wr w' /\ w'.cell? ⟨w.heap.size,0,none⟩=some (.int .i64 (k:Int))/\w'.cell? ⟨w.heap.size,3,none⟩=some (.slice (some ⟨b,off,none⟩) n.names.length nc)/\w'.cell? ⟨b,off+j,none⟩=some (.string n.names[j])/\w'.cell? ⟨b,off,none⟩=some (.string n.names[0])):=by
    intro W' bT
    refine (qfH n.names[j] W' bH).mono ?_
    rintro e w' ⟨rfl,hb⟩
    have aU:Below wr.heap.size wr w':=bT.trans (hb.mono bT.size)
    have hz:=aN.size
    exact⟨rfl,aU,(aU.cell (p:=⟨w.heap.size,0,none⟩) (by show w.heap.size<_;omega)).trans z0,(aU.cell (p:=⟨w.heap.size,3,none⟩) (by show w.heap.size<_;omega)).trans z3,(aU.cell (p:=⟨b,off+j,none⟩) (by show b<_;omega)).trans ej,(aU.cell (p:=⟨b,off,none⟩) (by show b<_;omega)).trans e0⟩
   have aE:=hidF (bA.out.trans (aN.mono bA.out.size))
   have aQ:=hidF aN
   have bB:=bN.out
   have cB:j=0∨j=1:=by have h2:=qiG k hk44;have h3:=bF.out;omega
   have hD:Below wr.heap.size wr wr.drew:=(Below.refl _ _).drew
   have cH:=qqN
   have cI:1<=n.names.length:=by omega
   clear bM aM bL bH bP bQ aN bN z1 z2 z4 _hl4 bC bF
   rcases cB with rfl|rfl
   ·have cC:=bJ rfl
    clear bJ
    generalize n.names[0]=x at *
    clear e0 bI
    rw[Nat.add_zero]at ej
    simp only[Nat.add_zero]at aH
    obtain⟨y,hy⟩:∃ y,y=x:=⟨_,rfl⟩
    have e0:wr.cell? ⟨b,off,none⟩=some (.string y):=by rw[hy];exact ej
    generalize bdS k=bd at *
    cases hnm:nameB x with
    | false=>
     rw[hnm]at aJ aA
     have aC:Hid (nmTo bd n.names n.names.length=false):=aG.out (by rw[aA.out];rfl)
     clear aH aG aL aA hD
     go_wp2_with fail
     go_quiet (first|(go_at_call 40;refine Calls.quiet_of_same (aJ.out _))|(go_at_call 27;refine Calls.quiet_of_same (aO.out _)))
     go_wp2_with fail
     go_ret
     exact⟨qaD (by rw[aP.out,aC.out];rfl),bO.out _ _ aE.out⟩
    | true=>
     rw[hnm]at aJ aA
     cases hbdv:bd with
     | false=>
      subst hbdv
      have aV:Hid (nmTo false n.names (0+1)=true):=aL.out (by rw[aA.out];rfl)
      clear aH aG aL aA hD bB
      go_wp2_with fail
      go_quiet (first|(go_at_call 40;refine Calls.quiet_of_same (aJ.out _))|(go_at_call 27;refine Calls.quiet_of_same (aO.out _)))
      go_wp2_with fail
      go_roundw
      case rel=>exact⟨0+1,by omega,by go_num,aV,bY.out _ _ aQ.out⟩
      case measure=>simp[intOf];omega
     | true=>
      subst hbdv
      clear bB
      subst hy
      cases hfr:freeB y with
      | false=>
       rw[hfr]at aH aA
       have aC:Hid (nmTo true n.names n.names.length=false):=aG.out (by rw[aA.out];rfl)
       clear aG aL aA
       go_wp2_with fail
       refine wp_region_held_drew (S:=(fun w'=>w'.cell? ⟨w.heap.size,0,none⟩=some (.int .i64 (k:Int))/\w'.cell? ⟨w.heap.size,3,none⟩=some (.slice (some ⟨b,off,none⟩) n.names.length nc)/\w'.cell? ⟨b,off,none⟩=some (.string y)/\w'.cell? ⟨b,off,none⟩=some (.string y))) (by kernel_rfl) (by exact⟨z0,z3,e0,e0⟩) (fun hHeld=>?_)
       refine wpAnyH_take (i:=0) (v:=?_) rfl (by kernel_rfl) (by kernel_rfl) (by kernel_rfl) (fun _ _ _ h=>h) (Or.inl ⟨by kernel_rfl,?_⟩) (by assumption) ?_
       rotate_left 1
       ·(intro wq hSw;(try dsimp only at hSw);go_simp;first|done|with_reducible rfl)
       refine wpAnyH_take (i:=1) (v:=?_) rfl (by kernel_rfl) (by kernel_rfl) (by kernel_rfl) (fun _ _ _ h=>h) (Or.inl ⟨by kernel_rfl,?_⟩) (by assumption) ?_
       rotate_left 1
       ·(intro wq hSw;(try dsimp only at hSw);go_simp;first|done|with_reducible rfl)
       refine wpAnyH_take (i:=2) (v:=?_) rfl (by kernel_rfl) (by kernel_rfl) (by kernel_rfl) (fun _ _ _ h=>h) (Or.inl ⟨by kernel_rfl,?_⟩) (by assumption) ?_
       rotate_left 1
       ·(intro wq hSw;(try dsimp only at hSw);go_simp;first|done|with_reducible rfl)
       refine wpAnyH_take (i:=3) (v:=?_) rfl (by kernel_rfl) (by kernel_rfl) (by kernel_rfl) (fun _ _ _ h=>h) (Or.inl ⟨by kernel_rfl,?_⟩) (by assumption) ?_
       rotate_left 1
       ·(intro wq hSw;(try dsimp only at hSw);go_simp;first|done|with_reducible rfl)
       refine wpAnyH_take (i:=4) (v:=?_) rfl (by kernel_rfl) (by kernel_rfl) (by kernel_rfl) (fun _ _ _ h=>h) (Or.inl ⟨by kernel_rfl,?_⟩) (by assumption) ?_
       rotate_left 1
       ·(intro wq hSw;(try dsimp only at hSw);go_simp;first|done|with_reducible rfl)
       refine wpAnyH_ready (rs:=[5]) (by kernel_rfl) (by simp) ?_
       refine AllReadyH.cons rfl (fun K hK=>?_) AllReadyH.nil
       go_simp
       go_at_call 40
       refine (aJ.out _).mono ?_
       rintro e w1 ⟨rfl,rfl⟩
       refine hK.out _ _ (hHeld) (fun hHeld=>?_)
       clear hK K
       refine wpAnyH_take (i:=6) (v:=?_) rfl (by kernel_rfl) (by kernel_rfl) (by kernel_rfl) (fun _ _ _ h=>h) (Or.inl ⟨by kernel_rfl,?_⟩) (by assumption) ?_
       rotate_left 1
       ·(intro wq hSw;(try dsimp only at hSw);go_simp;first|done|with_reducible rfl)
       refine wpAnyH_take (i:=7) (v:=?_) rfl (by kernel_rfl) (by kernel_rfl) (by kernel_rfl) (fun _ _ _ h=>h) (Or.inl ⟨by kernel_rfl,?_⟩) (by assumption) ?_
       rotate_left 1
       ·(intro wq hSw;(try dsimp only at hSw);go_simp;first|done|with_reducible rfl)
       refine wpAnyH_take (i:=8) (v:=?_) rfl (by kernel_rfl) (by kernel_rfl) (by kernel_rfl) (fun _ _ _ h=>h) (Or.inl ⟨by kernel_rfl,?_⟩) (by assumption) ?_
       rotate_left 1
       ·(intro wq hSw;(try dsimp only at hSw);go_simp;first|done|with_reducible rfl)
       refine wpAnyH_take (i:=9) (v:=?_) rfl (by kernel_rfl) (by kernel_rfl) (by kernel_rfl) (fun _ _ _ h=>h) (Or.inl ⟨by kernel_rfl,?_⟩) (by assumption) ?_
       rotate_left 1
       ·(intro wq hSw;(try dsimp only at hSw);go_simp;first|done|with_reducible rfl)
       refine wpAnyH_ready (rs:=[10]) (by kernel_rfl) (by simp) ?_
       refine AllReadyH.cons rfl (fun K hK=>?_) AllReadyH.nil
       go_simp
       go_at_call 27
       refine (aO.out _).mono ?_
       rintro e w1 ⟨rfl,rfl⟩
       refine hK.out _ _ (hHeld) (fun hHeld=>?_)
       clear hK K
       refine wpAnyH_take (i:=11) (v:=?_) rfl (by kernel_rfl) (by kernel_rfl) (by kernel_rfl) (fun _ _ _ h=>h) (Or.inl ⟨by kernel_rfl,?_⟩) (by assumption) ?_
       rotate_left 1
       ·(intro wq hSw;(try dsimp only at hSw);go_simp;first|done|with_reducible rfl)
       refine wpAnyH_take (i:=12) (v:=?_) rfl (by kernel_rfl) (by kernel_rfl) (by kernel_rfl) (fun _ _ _ h=>h) (Or.inl ⟨by kernel_rfl,?_⟩) (by assumption) ?_
       rotate_left 1
       ·(intro wq hSw;(try dsimp only at hSw);go_simp;first|done|with_reducible rfl)
       refine wpAnyH_take (i:=13) (v:=?_) rfl (by kernel_rfl) (by kernel_rfl) (by kernel_rfl) (fun _ _ _ h=>h) (Or.inl ⟨by kernel_rfl,?_⟩) (by assumption) ?_
       rotate_left 1
       ·(intro wq hSw;(try dsimp only at hSw);go_simp;first|done|with_reducible rfl)
       refine wpAnyH_take (i:=14) (v:=?_) rfl (by kernel_rfl) (by kernel_rfl) (by kernel_rfl) (fun _ _ _ h=>h) (Or.inl ⟨by kernel_rfl,?_⟩) (by assumption) ?_
       rotate_left 1
       ·(intro wq hSw;(try dsimp only at hSw);go_simp;first|done|with_reducible rfl)
       refine wpAnyH_take (i:=15) (v:=?_) rfl (by kernel_rfl) (by kernel_rfl) (by kernel_rfl) (fun _ _ _ h=>h) (Or.inl ⟨by kernel_rfl,?_⟩) (by assumption) ?_
       rotate_left 1
       ·(intro wq hSw;(try dsimp only at hSw);go_simp;first|done|with_reducible rfl)
       refine wpAnyH_take (i:=16) (v:=?_) rfl (by kernel_rfl) (by kernel_rfl) (by kernel_rfl) (fun _ _ _ h=>h) (Or.inl ⟨by kernel_rfl,?_⟩) (by assumption) ?_
       rotate_left 1
       ·(intro wq hSw;(try dsimp only at hSw);go_simp;first|done|with_reducible rfl)
       refine wpAnyH_ready (rs:=[17]) (by kernel_rfl) (by simp) ?_
       refine AllReadyH.cons rfl (fun K hK=>?_) AllReadyH.nil
       go_simp
       go_at_call 38
       refine (aH.out _ hD).mono ?_
       rintro e w2 ⟨rfl,aB,aF⟩
       refine hK.out _ _ (aF) (fun hHeld=>?_)
       clear hK K
       refine wpAnyH_take (i:=18) (v:=?_) rfl (by kernel_rfl) (by kernel_rfl) (by kernel_rfl) (fun _ _ _ h=>h) (Or.inl ⟨by kernel_rfl,?_⟩) (by assumption) ?_
       rotate_left 1
       ·(intro wq hSw;(try dsimp only at hSw);go_simp;first|done|with_reducible rfl)
       refine wpAnyH_take (i:=19) (v:=?_) rfl (by kernel_rfl) (by kernel_rfl) (by kernel_rfl) (fun _ _ _ h=>h) (Or.inl ⟨by kernel_rfl,?_⟩) (by assumption) ?_
       rotate_left 1
       ·(intro wq hSw;(try dsimp only at hSw);go_simp;first|done|with_reducible rfl)
       refine wpAnyH_take (i:=20) (v:=?_) rfl (by kernel_rfl) (by kernel_rfl) (by kernel_rfl) (fun _ _ _ h=>h) (Or.inl ⟨by kernel_rfl,?_⟩) (by assumption) ?_
       rotate_left 1
       ·(intro wq hSw;(try dsimp only at hSw);go_simp;first|done|with_reducible rfl)
       refine wpAnyH_take (i:=21) (v:=?_) rfl (by kernel_rfl) (by kernel_rfl) (by kernel_rfl) (fun _ _ _ h=>h) (Or.inl ⟨by kernel_rfl,?_⟩) (by assumption) ?_
       rotate_left 1
       ·(intro wq hSw;(try dsimp only at hSw);go_simp;first|done|with_reducible rfl)
       refine wpAnyH_take (i:=22) (v:=undef) rfl (by kernel_rfl) (by kernel_rfl) (by kernel_rfl) (fun _ _ _ h=>h) (Or.inr ⟨by kernel_rfl,rfl⟩) (by assumption) ?_
       refine wpAnyH_take (i:=23) (v:=undef) rfl (by kernel_rfl) (by kernel_rfl) (by kernel_rfl) (fun _ _ _ h=>h) (Or.inr ⟨by kernel_rfl,rfl⟩) (by assumption) ?_
       refine wpAnyH_take (i:=24) (v:=undef) rfl (by kernel_rfl) (by kernel_rfl) (by kernel_rfl) (fun _ _ _ h=>h) (Or.inr ⟨by kernel_rfl,rfl⟩) (by assumption) ?_
       refine wpAnyH_take (i:=25) (v:=undef) rfl (by kernel_rfl) (by kernel_rfl) (by kernel_rfl) (fun _ _ _ h=>h) (Or.inr ⟨by kernel_rfl,rfl⟩) (by assumption) ?_
       refine wpAnyH_take (i:=26) (v:=undef) rfl (by kernel_rfl) (by kernel_rfl) (by kernel_rfl) (fun _ _ _ h=>h) (Or.inr ⟨by kernel_rfl,rfl⟩) (by assumption) ?_
       refine wpAnyH_take (i:=27) (v:=undef) rfl (by kernel_rfl) (by kernel_rfl) (by kernel_rfl) (fun _ _ _ h=>h) (Or.inr ⟨by kernel_rfl,rfl⟩) (by assumption) ?_
       refine wpAnyH_take (i:=28) (v:=undef) rfl (by kernel_rfl) (by kernel_rfl) (by kernel_rfl) (fun _ _ _ h=>h) (Or.inr ⟨by kernel_rfl,rfl⟩) (by assumption) ?_
       refine wpAnyH_take (i:=29) (v:=undef) rfl (by kernel_rfl) (by kernel_rfl) (by kernel_rfl) (fun _ _ _ h=>h) (Or.inr ⟨by kernel_rfl,rfl⟩) (by assumption) ?_
       refine wpAnyH_take (i:=30) (v:=undef) rfl (by kernel_rfl) (by kernel_rfl) (by kernel_rfl) (fun _ _ _ h=>h) (Or.inr ⟨by kernel_rfl,rfl⟩) (by assumption) ?_
       refine wpAnyH_take (i:=31) (v:=undef) rfl (by kernel_rfl) (by kernel_rfl) (by kernel_rfl) (fun _ _ _ h=>h) (Or.inr ⟨by kernel_rfl,rfl⟩) (by assumption) ?_
       refine wpAnyH_take (i:=32) (v:=undef) rfl (by kernel_rfl) (by kernel_rfl) (by kernel_rfl) (fun _ _ _ h=>h) (Or.inr ⟨by kernel_rfl,rfl⟩) (by assumption) ?_
       refine wpAnyH_take (i:=33) (v:=undef) rfl (by kernel_rfl) (by kernel_rfl) (by kernel_rfl) (fun _ _ _ h=>h) (Or.inr ⟨by kernel_rfl,rfl⟩) (by assumption) ?_
       refine wpAnyH_take (i:=34) (v:=undef) rfl (by kernel_rfl) (by kernel_rfl) (by kernel_rfl) (fun _ _ _ h=>h) (Or.inr ⟨by kernel_rfl,rfl⟩) (by assumption) ?_
       refine wpAnyH_take (i:=35) (v:=undef) rfl (by kernel_rfl) (by kernel_rfl) (by kernel_rfl) (fun _ _ _ h=>h) (Or.inr ⟨by kernel_rfl,rfl⟩) (by assumption) ?_
       refine wpAnyH_take (i:=36) (v:=?_) rfl (by kernel_rfl) (by kernel_rfl) (by kernel_rfl) (fun _ _ _ h=>h) (Or.inl ⟨by kernel_rfl,?_⟩) (by assumption) ?_
       rotate_left 1
       ·(intro wq hSw;(try dsimp only at hSw);go_simp;first|done|with_reducible rfl)
       refine wpAnyH_done (by kernel_rfl) ?_ _
       go_simp
       all_goals
        have aI:=hidF (aE.out.trans (aB.mono aE.out.size))
        clear aB aF
        go_wp2_with fail
        go_ret
        exact⟨qaD (by rw[aP.out,aC.out];rfl),aI.out⟩
      | true=>
       rw[hfr]at aH aA
       have aV:Hid (nmTo true n.names (0+1)=true):=aL.out (by rw[aA.out];rfl)
       clear aG aL aA
       go_wp2_with fail
       refine wp_region_held_drew (S:=(fun w'=>w'.cell? ⟨w.heap.size,0,none⟩=some (.int .i64 (k:Int))/\w'.cell? ⟨w.heap.size,3,none⟩=some (.slice (some ⟨b,off,none⟩) n.names.length nc)/\w'.cell? ⟨b,off,none⟩=some (.string y)/\w'.cell? ⟨b,off,none⟩=some (.string y))) (by kernel_rfl) (by exact⟨z0,z3,e0,e0⟩) (fun hHeld=>?_)
       refine wpAnyH_take (i:=0) (v:=?_) rfl (by kernel_rfl) (by kernel_rfl) (by kernel_rfl) (fun _ _ _ h=>h) (Or.inl ⟨by kernel_rfl,?_⟩) (by assumption) ?_
       rotate_left 1
       ·(intro wq hSw;(try dsimp only at hSw);go_simp;first|done|with_reducible rfl)
       refine wpAnyH_take (i:=1) (v:=?_) rfl (by kernel_rfl) (by kernel_rfl) (by kernel_rfl) (fun _ _ _ h=>h) (Or.inl ⟨by kernel_rfl,?_⟩) (by assumption) ?_
       rotate_left 1
       ·(intro wq hSw;(try dsimp only at hSw);go_simp;first|done|with_reducible rfl)
       refine wpAnyH_take (i:=2) (v:=?_) rfl (by kernel_rfl) (by kernel_rfl) (by kernel_rfl) (fun _ _ _ h=>h) (Or.inl ⟨by kernel_rfl,?_⟩) (by assumption) ?_
       rotate_left 1
       ·(intro wq hSw;(try dsimp only at hSw);go_simp;first|done|with_reducible rfl)
       refine wpAnyH_take (i:=3) (v:=?_) rfl (by kernel_rfl) (by kernel_rfl) (by kernel_rfl) (fun _ _ _ h=>h) (Or.inl ⟨by kernel_rfl,?_⟩) (by assumption) ?_
       rotate_left 1
       ·(intro wq hSw;(try dsimp only at hSw);go_simp;first|done|with_reducible rfl)
       refine wpAnyH_take (i:=4) (v:=?_) rfl (by kernel_rfl) (by kernel_rfl) (by kernel_rfl) (fun _ _ _ h=>h) (Or.inl ⟨by kernel_rfl,?_⟩) (by assumption) ?_
       rotate_left 1
       ·(intro wq hSw;(try dsimp only at hSw);go_simp;first|done|with_reducible rfl)
       refine wpAnyH_ready (rs:=[5]) (by kernel_rfl) (by simp) ?_
       refine AllReadyH.cons rfl (fun K hK=>?_) AllReadyH.nil
       go_simp
       go_at_call 40
       refine (aJ.out _).mono ?_
       rintro e w1 ⟨rfl,rfl⟩
       refine hK.out _ _ (hHeld) (fun hHeld=>?_)
       clear hK K
       refine wpAnyH_take (i:=6) (v:=?_) rfl (by kernel_rfl) (by kernel_rfl) (by kernel_rfl) (fun _ _ _ h=>h) (Or.inl ⟨by kernel_rfl,?_⟩) (by assumption) ?_
       rotate_left 1
       ·(intro wq hSw;(try dsimp only at hSw);go_simp;first|done|with_reducible rfl)
       refine wpAnyH_take (i:=7) (v:=?_) rfl (by kernel_rfl) (by kernel_rfl) (by kernel_rfl) (fun _ _ _ h=>h) (Or.inl ⟨by kernel_rfl,?_⟩) (by assumption) ?_
       rotate_left 1
       ·(intro wq hSw;(try dsimp only at hSw);go_simp;first|done|with_reducible rfl)
       refine wpAnyH_take (i:=8) (v:=?_) rfl (by kernel_rfl) (by kernel_rfl) (by kernel_rfl) (fun _ _ _ h=>h) (Or.inl ⟨by kernel_rfl,?_⟩) (by assumption) ?_
       rotate_left 1
       ·(intro wq hSw;(try dsimp only at hSw);go_simp;first|done|with_reducible rfl)
       refine wpAnyH_take (i:=9) (v:=?_) rfl (by kernel_rfl) (by kernel_rfl) (by kernel_rfl) (fun _ _ _ h=>h) (Or.inl ⟨by kernel_rfl,?_⟩) (by assumption) ?_
       rotate_left 1
       ·(intro wq hSw;(try dsimp only at hSw);go_simp;first|done|with_reducible rfl)
       refine wpAnyH_ready (rs:=[10]) (by kernel_rfl) (by simp) ?_
       refine AllReadyH.cons rfl (fun K hK=>?_) AllReadyH.nil
       go_simp
       go_at_call 27
       refine (aO.out _).mono ?_
       rintro e w1 ⟨rfl,rfl⟩
       refine hK.out _ _ (hHeld) (fun hHeld=>?_)
       clear hK K
       refine wpAnyH_take (i:=11) (v:=?_) rfl (by kernel_rfl) (by kernel_rfl) (by kernel_rfl) (fun _ _ _ h=>h) (Or.inl ⟨by kernel_rfl,?_⟩) (by assumption) ?_
       rotate_left 1
       ·(intro wq hSw;(try dsimp only at hSw);go_simp;first|done|with_reducible rfl)
       refine wpAnyH_take (i:=12) (v:=?_) rfl (by kernel_rfl) (by kernel_rfl) (by kernel_rfl) (fun _ _ _ h=>h) (Or.inl ⟨by kernel_rfl,?_⟩) (by assumption) ?_
       rotate_left 1
       ·(intro wq hSw;(try dsimp only at hSw);go_simp;first|done|with_reducible rfl)
       refine wpAnyH_take (i:=13) (v:=?_) rfl (by kernel_rfl) (by kernel_rfl) (by kernel_rfl) (fun _ _ _ h=>h) (Or.inl ⟨by kernel_rfl,?_⟩) (by assumption) ?_
       rotate_left 1
       ·(intro wq hSw;(try dsimp only at hSw);go_simp;first|done|with_reducible rfl)
       refine wpAnyH_take (i:=14) (v:=?_) rfl (by kernel_rfl) (by kernel_rfl) (by kernel_rfl) (fun _ _ _ h=>h) (Or.inl ⟨by kernel_rfl,?_⟩) (by assumption) ?_
       rotate_left 1
       ·(intro wq hSw;(try dsimp only at hSw);go_simp;first|done|with_reducible rfl)
       refine wpAnyH_take (i:=15) (v:=?_) rfl (by kernel_rfl) (by kernel_rfl) (by kernel_rfl) (fun _ _ _ h=>h) (Or.inl ⟨by kernel_rfl,?_⟩) (by assumption) ?_
       rotate_left 1
       ·(intro wq hSw;(try dsimp only at hSw);go_simp;first|done|with_reducible rfl)
       refine wpAnyH_take (i:=16) (v:=?_) rfl (by kernel_rfl) (by kernel_rfl) (by kernel_rfl) (fun _ _ _ h=>h) (Or.inl ⟨by kernel_rfl,?_⟩) (by assumption) ?_
       rotate_left 1
       ·(intro wq hSw;(try dsimp only at hSw);go_simp;first|done|with_reducible rfl)
       refine wpAnyH_ready (rs:=[17]) (by kernel_rfl) (by simp) ?_
       refine AllReadyH.cons rfl (fun K hK=>?_) AllReadyH.nil
       go_simp
       go_at_call 38
       refine (aH.out _ hD).mono ?_
       rintro e w2 ⟨rfl,aB,aF⟩
       refine hK.out _ _ (aF) (fun hHeld=>?_)
       clear hK K
       refine wpAnyH_take (i:=18) (v:=?_) rfl (by kernel_rfl) (by kernel_rfl) (by kernel_rfl) (fun _ _ _ h=>h) (Or.inl ⟨by kernel_rfl,?_⟩) (by assumption) ?_
       rotate_left 1
       ·(intro wq hSw;(try dsimp only at hSw);go_simp;first|done|with_reducible rfl)
       refine wpAnyH_take (i:=19) (v:=?_) rfl (by kernel_rfl) (by kernel_rfl) (by kernel_rfl) (fun _ _ _ h=>h) (Or.inl ⟨by kernel_rfl,?_⟩) (by assumption) ?_
       rotate_left 1
       ·(intro wq hSw;(try dsimp only at hSw);go_simp;first|done|with_reducible rfl)
       refine wpAnyH_take (i:=20) (v:=?_) rfl (by kernel_rfl) (by kernel_rfl) (by kernel_rfl) (fun _ _ _ h=>h) (Or.inl ⟨by kernel_rfl,?_⟩) (by assumption) ?_
       rotate_left 1
       ·(intro wq hSw;(try dsimp only at hSw);go_simp;first|done|with_reducible rfl)
       refine wpAnyH_take (i:=21) (v:=?_) rfl (by kernel_rfl) (by kernel_rfl) (by kernel_rfl) (fun _ _ _ h=>h) (Or.inl ⟨by kernel_rfl,?_⟩) (by assumption) ?_
       rotate_left 1
       ·(intro wq hSw;(try dsimp only at hSw);go_simp;first|done|with_reducible rfl)
       refine wpAnyH_take (i:=22) (v:=?_) rfl (by kernel_rfl) (by kernel_rfl) (by kernel_rfl) (fun _ _ _ h=>h) (Or.inl ⟨by kernel_rfl,?_⟩) (by assumption) ?_
       rotate_left 1
       ·(intro wq hSw;(try dsimp only at hSw);go_simp;first|done|with_reducible rfl)
       refine wpAnyH_take (i:=23) (v:=?_) rfl (by kernel_rfl) (by kernel_rfl) (by kernel_rfl) (fun _ _ _ h=>h) (Or.inl ⟨by kernel_rfl,?_⟩) (by assumption) ?_
       rotate_left 1
       ·(intro wq hSw;(try dsimp only at hSw);go_simp;first|done|with_reducible rfl)
       refine wpAnyH_take (i:=24) (v:=?_) rfl (by kernel_rfl) (by kernel_rfl) (by kernel_rfl) (fun _ _ _ h=>h) (Or.inl ⟨by kernel_rfl,?_⟩) (by assumption) ?_
       rotate_left 1
       ·(intro wq hSw;(try dsimp only at hSw);go_simp;first|done|with_reducible rfl)
       refine wpAnyH_take (i:=25) (v:=undef) rfl (by kernel_rfl) (by kernel_rfl) (by kernel_rfl) (fun _ _ _ h=>h) (Or.inr ⟨by kernel_rfl,rfl⟩) (by assumption) ?_
       refine wpAnyH_take (i:=26) (v:=undef) rfl (by kernel_rfl) (by kernel_rfl) (by kernel_rfl) (fun _ _ _ h=>h) (Or.inr ⟨by kernel_rfl,rfl⟩) (by assumption) ?_
       refine wpAnyH_take (i:=27) (v:=undef) rfl (by kernel_rfl) (by kernel_rfl) (by kernel_rfl) (fun _ _ _ h=>h) (Or.inr ⟨by kernel_rfl,rfl⟩) (by assumption) ?_
       refine wpAnyH_take (i:=28) (v:=undef) rfl (by kernel_rfl) (by kernel_rfl) (by kernel_rfl) (fun _ _ _ h=>h) (Or.inr ⟨by kernel_rfl,rfl⟩) (by assumption) ?_
       refine wpAnyH_take (i:=29) (v:=undef) rfl (by kernel_rfl) (by kernel_rfl) (by kernel_rfl) (fun _ _ _ h=>h) (Or.inr ⟨by kernel_rfl,rfl⟩) (by assumption) ?_
       refine wpAnyH_take (i:=30) (v:=undef) rfl (by kernel_rfl) (by kernel_rfl) (by kernel_rfl) (fun _ _ _ h=>h) (Or.inr ⟨by kernel_rfl,rfl⟩) (by assumption) ?_
       refine wpAnyH_take (i:=31) (v:=undef) rfl (by kernel_rfl) (by kernel_rfl) (by kernel_rfl) (fun _ _ _ h=>h) (Or.inr ⟨by kernel_rfl,rfl⟩) (by assumption) ?_
       refine wpAnyH_take (i:=32) (v:=undef) rfl (by kernel_rfl) (by kernel_rfl) (by kernel_rfl) (fun _ _ _ h=>h) (Or.inr ⟨by kernel_rfl,rfl⟩) (by assumption) ?_
       refine wpAnyH_take (i:=33) (v:=undef) rfl (by kernel_rfl) (by kernel_rfl) (by kernel_rfl) (fun _ _ _ h=>h) (Or.inr ⟨by kernel_rfl,rfl⟩) (by assumption) ?_
       refine wpAnyH_take (i:=34) (v:=undef) rfl (by kernel_rfl) (by kernel_rfl) (by kernel_rfl) (fun _ _ _ h=>h) (Or.inr ⟨by kernel_rfl,rfl⟩) (by assumption) ?_
       refine wpAnyH_take (i:=35) (v:=?_) rfl (by kernel_rfl) (by kernel_rfl) (by kernel_rfl) (fun _ _ _ h=>h) (Or.inl ⟨by kernel_rfl,?_⟩) (by assumption) ?_
       rotate_left 1
       ·(intro wq hSw;(try dsimp only at hSw);go_simp;first|done|with_reducible rfl)
       refine wpAnyH_take (i:=36) (v:=?_) rfl (by kernel_rfl) (by kernel_rfl) (by kernel_rfl) (fun _ _ _ h=>h) (Or.inl ⟨by kernel_rfl,?_⟩) (by assumption) ?_
       rotate_left 1
       ·(intro wq hSw;(try dsimp only at hSw);go_simp;first|done|with_reducible rfl)
       refine wpAnyH_done (by kernel_rfl) ?_ _
       go_simp
       all_goals
        have aI:=hidF (aQ.out.trans (aB.mono aQ.out.size))
        clear aB aF
        go_wp2_with fail
        go_roundw
        case rel=>exact⟨0+1,by omega,by go_num,aV,aI.out⟩
        case measure=>simp[intOf];omega
   ·generalize n.names[1]=x at *
    generalize n.names[0]=y at *
    clear bJ
    generalize bdS k=bd at *
    cases hnm:nameB x with
    | false=>
     rw[hnm]at aJ aA
     have aC:Hid (nmTo bd n.names n.names.length=false):=aG.out (by rw[aA.out];rfl)
     clear aH aG aL aA hD
     go_wp2_with fail
     go_quiet (first|(go_at_call 40;refine Calls.quiet_of_same (aJ.out _))|(go_at_call 27;refine Calls.quiet_of_same (aO.out _)))
     go_wp2_with fail
     go_ret
     exact⟨qaD (by rw[aP.out,aC.out];rfl),bO.out _ _ aE.out⟩
    | true=>
     rw[hnm]at aJ aA
     cases hbdv:bd with
     | false=>subst hbdv;exact absurd (bB rfl) (by omega)
     | true=>
      subst hbdv
      clear bB
      cases hfr:freeB x with
      | false=>
       rw[hfr]at aH aA
       have aC:Hid (nmTo true n.names n.names.length=false):=aG.out (by rw[aA.out];rfl)
       clear aG aL aA
       go_wp2_with fail
       refine wp_region_held_drew (S:=(fun w'=>w'.cell? ⟨w.heap.size,0,none⟩=some (.int .i64 (k:Int))/\w'.cell? ⟨w.heap.size,3,none⟩=some (.slice (some ⟨b,off,none⟩) n.names.length nc)/\w'.cell? ⟨b,off+1,none⟩=some (.string x)/\w'.cell? ⟨b,off,none⟩=some (.string y))) (by kernel_rfl) (by exact⟨z0,z3,ej,e0⟩) (fun hHeld=>?_)
       refine wpAnyH_take (i:=0) (v:=?_) rfl (by kernel_rfl) (by kernel_rfl) (by kernel_rfl) (fun _ _ _ h=>h) (Or.inl ⟨by kernel_rfl,?_⟩) (by assumption) ?_
       rotate_left 1
       ·(intro wq hSw;(try dsimp only at hSw);go_simp;first|done|with_reducible rfl)
       refine wpAnyH_take (i:=1) (v:=?_) rfl (by kernel_rfl) (by kernel_rfl) (by kernel_rfl) (fun _ _ _ h=>h) (Or.inl ⟨by kernel_rfl,?_⟩) (by assumption) ?_
       rotate_left 1
       ·(intro wq hSw;(try dsimp only at hSw);go_simp;first|done|with_reducible rfl)
       refine wpAnyH_take (i:=2) (v:=?_) rfl (by kernel_rfl) (by kernel_rfl) (by kernel_rfl) (fun _ _ _ h=>h) (Or.inl ⟨by kernel_rfl,?_⟩) (by assumption) ?_
       rotate_left 1
       ·(intro wq hSw;(try dsimp only at hSw);go_simp;first|done|with_reducible rfl)
       refine wpAnyH_take (i:=3) (v:=?_) rfl (by kernel_rfl) (by kernel_rfl) (by kernel_rfl) (fun _ _ _ h=>h) (Or.inl ⟨by kernel_rfl,?_⟩) (by assumption) ?_
       rotate_left 1
       ·(intro wq hSw;(try dsimp only at hSw);go_simp;first|done|with_reducible rfl)
       refine wpAnyH_take (i:=4) (v:=?_) rfl (by kernel_rfl) (by kernel_rfl) (by kernel_rfl) (fun _ _ _ h=>h) (Or.inl ⟨by kernel_rfl,?_⟩) (by assumption) ?_
       rotate_left 1
       ·(intro wq hSw;(try dsimp only at hSw);go_simp;first|done|with_reducible rfl)
       refine wpAnyH_ready (rs:=[5]) (by kernel_rfl) (by simp) ?_
       refine AllReadyH.cons rfl (fun K hK=>?_) AllReadyH.nil
       go_simp
       go_at_call 40
       refine (aJ.out _).mono ?_
       rintro e w1 ⟨rfl,rfl⟩
       refine hK.out _ _ (hHeld) (fun hHeld=>?_)
       clear hK K
       refine wpAnyH_take (i:=6) (v:=?_) rfl (by kernel_rfl) (by kernel_rfl) (by kernel_rfl) (fun _ _ _ h=>h) (Or.inl ⟨by kernel_rfl,?_⟩) (by assumption) ?_
       rotate_left 1
       ·(intro wq hSw;(try dsimp only at hSw);go_simp;first|done|with_reducible rfl)
       refine wpAnyH_take (i:=7) (v:=?_) rfl (by kernel_rfl) (by kernel_rfl) (by kernel_rfl) (fun _ _ _ h=>h) (Or.inl ⟨by kernel_rfl,?_⟩) (by assumption) ?_
       rotate_left 1
       ·(intro wq hSw;(try dsimp only at hSw);go_simp;first|done|with_reducible rfl)
       refine wpAnyH_take (i:=8) (v:=?_) rfl (by kernel_rfl) (by kernel_rfl) (by kernel_rfl) (fun _ _ _ h=>h) (Or.inl ⟨by kernel_rfl,?_⟩) (by assumption) ?_
       rotate_left 1
       ·(intro wq hSw;(try dsimp only at hSw);go_simp;first|done|with_reducible rfl)
       refine wpAnyH_take (i:=9) (v:=?_) rfl (by kernel_rfl) (by kernel_rfl) (by kernel_rfl) (fun _ _ _ h=>h) (Or.inl ⟨by kernel_rfl,?_⟩) (by assumption) ?_
       rotate_left 1
       ·(intro wq hSw;(try dsimp only at hSw);go_simp;first|done|with_reducible rfl)
       refine wpAnyH_ready (rs:=[10]) (by kernel_rfl) (by simp) ?_
       refine AllReadyH.cons rfl (fun K hK=>?_) AllReadyH.nil
       go_simp
       go_at_call 27
       refine (aO.out _).mono ?_
       rintro e w1 ⟨rfl,rfl⟩
       refine hK.out _ _ (hHeld) (fun hHeld=>?_)
       clear hK K
       refine wpAnyH_take (i:=11) (v:=?_) rfl (by kernel_rfl) (by kernel_rfl) (by kernel_rfl) (fun _ _ _ h=>h) (Or.inl ⟨by kernel_rfl,?_⟩) (by assumption) ?_
       rotate_left 1
       ·(intro wq hSw;(try dsimp only at hSw);go_simp;first|done|with_reducible rfl)
       refine wpAnyH_take (i:=12) (v:=?_) rfl (by kernel_rfl) (by kernel_rfl) (by kernel_rfl) (fun _ _ _ h=>h) (Or.inl ⟨by kernel_rfl,?_⟩) (by assumption) ?_
       rotate_left 1
       ·(intro wq hSw;(try dsimp only at hSw);go_simp;first|done|with_reducible rfl)
       refine wpAnyH_take (i:=13) (v:=?_) rfl (by kernel_rfl) (by kernel_rfl) (by kernel_rfl) (fun _ _ _ h=>h) (Or.inl ⟨by kernel_rfl,?_⟩) (by assumption) ?_
       rotate_left 1
       ·(intro wq hSw;(try dsimp only at hSw);go_simp;first|done|with_reducible rfl)
       refine wpAnyH_take (i:=14) (v:=?_) rfl (by kernel_rfl) (by kernel_rfl) (by kernel_rfl) (fun _ _ _ h=>h) (Or.inl ⟨by kernel_rfl,?_⟩) (by assumption) ?_
       rotate_left 1
       ·(intro wq hSw;(try dsimp only at hSw);go_simp;first|done|with_reducible rfl)
       refine wpAnyH_take (i:=15) (v:=?_) rfl (by kernel_rfl) (by kernel_rfl) (by kernel_rfl) (fun _ _ _ h=>h) (Or.inl ⟨by kernel_rfl,?_⟩) (by assumption) ?_
       rotate_left 1
       ·(intro wq hSw;(try dsimp only at hSw);go_simp;first|done|with_reducible rfl)
       refine wpAnyH_take (i:=16) (v:=?_) rfl (by kernel_rfl) (by kernel_rfl) (by kernel_rfl) (fun _ _ _ h=>h) (Or.inl ⟨by kernel_rfl,?_⟩) (by assumption) ?_
       rotate_left 1
       ·(intro wq hSw;(try dsimp only at hSw);go_simp;first|done|with_reducible rfl)
       refine wpAnyH_ready (rs:=[17]) (by kernel_rfl) (by simp) ?_
       refine AllReadyH.cons rfl (fun K hK=>?_) AllReadyH.nil
       go_simp
       go_at_call 38
       refine (aH.out _ hD).mono ?_
       rintro e w2 ⟨rfl,aB,aF⟩
       refine hK.out _ _ (aF) (fun hHeld=>?_)
       clear hK K
       refine wpAnyH_take (i:=18) (v:=?_) rfl (by kernel_rfl) (by kernel_rfl) (by kernel_rfl) (fun _ _ _ h=>h) (Or.inl ⟨by kernel_rfl,?_⟩) (by assumption) ?_
       rotate_left 1
       ·(intro wq hSw;(try dsimp only at hSw);go_simp;first|done|with_reducible rfl)
       refine wpAnyH_take (i:=19) (v:=?_) rfl (by kernel_rfl) (by kernel_rfl) (by kernel_rfl) (fun _ _ _ h=>h) (Or.inl ⟨by kernel_rfl,?_⟩) (by assumption) ?_
       rotate_left 1
       ·(intro wq hSw;(try dsimp only at hSw);go_simp;first|done|with_reducible rfl)
       refine wpAnyH_take (i:=20) (v:=?_) rfl (by kernel_rfl) (by kernel_rfl) (by kernel_rfl) (fun _ _ _ h=>h) (Or.inl ⟨by kernel_rfl,?_⟩) (by assumption) ?_
       rotate_left 1
       ·(intro wq hSw;(try dsimp only at hSw);go_simp;first|done|with_reducible rfl)
       refine wpAnyH_take (i:=21) (v:=?_) rfl (by kernel_rfl) (by kernel_rfl) (by kernel_rfl) (fun _ _ _ h=>h) (Or.inl ⟨by kernel_rfl,?_⟩) (by assumption) ?_
       rotate_left 1
       ·(intro wq hSw;(try dsimp only at hSw);go_simp;first|done|with_reducible rfl)
       refine wpAnyH_take (i:=22) (v:=undef) rfl (by kernel_rfl) (by kernel_rfl) (by kernel_rfl) (fun _ _ _ h=>h) (Or.inr ⟨by kernel_rfl,rfl⟩) (by assumption) ?_
       refine wpAnyH_take (i:=23) (v:=undef) rfl (by kernel_rfl) (by kernel_rfl) (by kernel_rfl) (fun _ _ _ h=>h) (Or.inr ⟨by kernel_rfl,rfl⟩) (by assumption) ?_
       refine wpAnyH_take (i:=24) (v:=undef) rfl (by kernel_rfl) (by kernel_rfl) (by kernel_rfl) (fun _ _ _ h=>h) (Or.inr ⟨by kernel_rfl,rfl⟩) (by assumption) ?_
       refine wpAnyH_take (i:=25) (v:=undef) rfl (by kernel_rfl) (by kernel_rfl) (by kernel_rfl) (fun _ _ _ h=>h) (Or.inr ⟨by kernel_rfl,rfl⟩) (by assumption) ?_
       refine wpAnyH_take (i:=26) (v:=undef) rfl (by kernel_rfl) (by kernel_rfl) (by kernel_rfl) (fun _ _ _ h=>h) (Or.inr ⟨by kernel_rfl,rfl⟩) (by assumption) ?_
       refine wpAnyH_take (i:=27) (v:=undef) rfl (by kernel_rfl) (by kernel_rfl) (by kernel_rfl) (fun _ _ _ h=>h) (Or.inr ⟨by kernel_rfl,rfl⟩) (by assumption) ?_
       refine wpAnyH_take (i:=28) (v:=undef) rfl (by kernel_rfl) (by kernel_rfl) (by kernel_rfl) (fun _ _ _ h=>h) (Or.inr ⟨by kernel_rfl,rfl⟩) (by assumption) ?_
       refine wpAnyH_take (i:=29) (v:=undef) rfl (by kernel_rfl) (by kernel_rfl) (by kernel_rfl) (fun _ _ _ h=>h) (Or.inr ⟨by kernel_rfl,rfl⟩) (by assumption) ?_
       refine wpAnyH_take (i:=30) (v:=undef) rfl (by kernel_rfl) (by kernel_rfl) (by kernel_rfl) (fun _ _ _ h=>h) (Or.inr ⟨by kernel_rfl,rfl⟩) (by assumption) ?_
       refine wpAnyH_take (i:=31) (v:=undef) rfl (by kernel_rfl) (by kernel_rfl) (by kernel_rfl) (fun _ _ _ h=>h) (Or.inr ⟨by kernel_rfl,rfl⟩) (by assumption) ?_
       refine wpAnyH_take (i:=32) (v:=undef) rfl (by kernel_rfl) (by kernel_rfl) (by kernel_rfl) (fun _ _ _ h=>h) (Or.inr ⟨by kernel_rfl,rfl⟩) (by assumption) ?_
       refine wpAnyH_take (i:=33) (v:=undef) rfl (by kernel_rfl) (by kernel_rfl) (by kernel_rfl) (fun _ _ _ h=>h) (Or.inr ⟨by kernel_rfl,rfl⟩) (by assumption) ?_
       refine wpAnyH_take (i:=34) (v:=undef) rfl (by kernel_rfl) (by kernel_rfl) (by kernel_rfl) (fun _ _ _ h=>h) (Or.inr ⟨by kernel_rfl,rfl⟩) (by assumption) ?_
       refine wpAnyH_take (i:=35) (v:=undef) rfl (by kernel_rfl) (by kernel_rfl) (by kernel_rfl) (fun _ _ _ h=>h) (Or.inr ⟨by kernel_rfl,rfl⟩) (by assumption) ?_
       refine wpAnyH_take (i:=36) (v:=?_) rfl (by kernel_rfl) (by kernel_rfl) (by kernel_rfl) (fun _ _ _ h=>h) (Or.inl ⟨by kernel_rfl,?_⟩) (by assumption) ?_
       rotate_left 1
       ·(intro wq hSw;(try dsimp only at hSw);go_simp;first|done|with_reducible rfl)
       refine wpAnyH_done (by kernel_rfl) ?_ _
       go_simp
       all_goals
        have aI:=hidF (aE.out.trans (aB.mono aE.out.size))
        clear aB aF
        go_wp2_with fail
        go_ret
        exact⟨qaD (by rw[aP.out,aC.out];rfl),aI.out⟩
      | true=>
       rw[hfr]at aH aA
       cases hxy:(x==y) with
       | true=>
        rw[hxy]at aA bI
        have aC:Hid (nmTo true n.names n.names.length=false):=aG.out (by rw[aA.out];rfl)
        clear aG aL aA
        go_wp2_with fail
        have cD:0<n.names.length:=by omega
        refine wp_region_held_drew (S:=(fun w'=>w'.cell? ⟨w.heap.size,0,none⟩=some (.int .i64 (k:Int))/\w'.cell? ⟨w.heap.size,3,none⟩=some (.slice (some ⟨b,off,none⟩) n.names.length nc)/\w'.cell? ⟨b,off+1,none⟩=some (.string x)/\w'.cell? ⟨b,off,none⟩=some (.string y))) (by kernel_rfl) (by exact⟨z0,z3,ej,e0⟩) (fun hHeld=>?_)
        refine wpAnyH_take (i:=0) (v:=?_) rfl (by kernel_rfl) (by kernel_rfl) (by kernel_rfl) (fun _ _ _ h=>h) (Or.inl ⟨by kernel_rfl,?_⟩) (by assumption) ?_
        rotate_left 1
        ·(intro wq hSw;(try dsimp only at hSw);go_simp;first|done|with_reducible rfl)
        refine wpAnyH_take (i:=1) (v:=?_) rfl (by kernel_rfl) (by kernel_rfl) (by kernel_rfl) (fun _ _ _ h=>h) (Or.inl ⟨by kernel_rfl,?_⟩) (by assumption) ?_
        rotate_left 1
        ·(intro wq hSw;(try dsimp only at hSw);go_simp;first|done|with_reducible rfl)
        refine wpAnyH_take (i:=2) (v:=?_) rfl (by kernel_rfl) (by kernel_rfl) (by kernel_rfl) (fun _ _ _ h=>h) (Or.inl ⟨by kernel_rfl,?_⟩) (by assumption) ?_
        rotate_left 1
        ·(intro wq hSw;(try dsimp only at hSw);go_simp;first|done|with_reducible rfl)
        refine wpAnyH_take (i:=3) (v:=?_) rfl (by kernel_rfl) (by kernel_rfl) (by kernel_rfl) (fun _ _ _ h=>h) (Or.inl ⟨by kernel_rfl,?_⟩) (by assumption) ?_
        rotate_left 1
        ·(intro wq hSw;(try dsimp only at hSw);go_simp;first|done|with_reducible rfl)
        refine wpAnyH_take (i:=4) (v:=?_) rfl (by kernel_rfl) (by kernel_rfl) (by kernel_rfl) (fun _ _ _ h=>h) (Or.inl ⟨by kernel_rfl,?_⟩) (by assumption) ?_
        rotate_left 1
        ·(intro wq hSw;(try dsimp only at hSw);go_simp;first|done|with_reducible rfl)
        refine wpAnyH_ready (rs:=[5]) (by kernel_rfl) (by simp) ?_
        refine AllReadyH.cons rfl (fun K hK=>?_) AllReadyH.nil
        go_simp
        go_at_call 40
        refine (aJ.out _).mono ?_
        rintro e w1 ⟨rfl,rfl⟩
        refine hK.out _ _ (hHeld) (fun hHeld=>?_)
        clear hK K
        refine wpAnyH_take (i:=6) (v:=?_) rfl (by kernel_rfl) (by kernel_rfl) (by kernel_rfl) (fun _ _ _ h=>h) (Or.inl ⟨by kernel_rfl,?_⟩) (by assumption) ?_
        rotate_left 1
        ·(intro wq hSw;(try dsimp only at hSw);go_simp;first|done|with_reducible rfl)
        refine wpAnyH_take (i:=7) (v:=?_) rfl (by kernel_rfl) (by kernel_rfl) (by kernel_rfl) (fun _ _ _ h=>h) (Or.inl ⟨by kernel_rfl,?_⟩) (by assumption) ?_
        rotate_left 1
        ·(intro wq hSw;(try dsimp only at hSw);go_simp;first|done|with_reducible rfl)
        refine wpAnyH_take (i:=8) (v:=?_) rfl (by kernel_rfl) (by kernel_rfl) (by kernel_rfl) (fun _ _ _ h=>h) (Or.inl ⟨by kernel_rfl,?_⟩) (by assumption) ?_
        rotate_left 1
        ·(intro wq hSw;(try dsimp only at hSw);go_simp;first|done|with_reducible rfl)
        refine wpAnyH_take (i:=9) (v:=?_) rfl (by kernel_rfl) (by kernel_rfl) (by kernel_rfl) (fun _ _ _ h=>h) (Or.inl ⟨by kernel_rfl,?_⟩) (by assumption) ?_
        rotate_left 1
        ·(intro wq hSw;(try dsimp only at hSw);go_simp;first|done|with_reducible rfl)
        refine wpAnyH_ready (rs:=[10]) (by kernel_rfl) (by simp) ?_
        refine AllReadyH.cons rfl (fun K hK=>?_) AllReadyH.nil
        go_simp
        go_at_call 27
        refine (aO.out _).mono ?_
        rintro e w1 ⟨rfl,rfl⟩
        refine hK.out _ _ (hHeld) (fun hHeld=>?_)
        clear hK K
        refine wpAnyH_take (i:=11) (v:=?_) rfl (by kernel_rfl) (by kernel_rfl) (by kernel_rfl) (fun _ _ _ h=>h) (Or.inl ⟨by kernel_rfl,?_⟩) (by assumption) ?_
        rotate_left 1
        ·(intro wq hSw;(try dsimp only at hSw);go_simp;first|done|with_reducible rfl)
        refine wpAnyH_take (i:=12) (v:=?_) rfl (by kernel_rfl) (by kernel_rfl) (by kernel_rfl) (fun _ _ _ h=>h) (Or.inl ⟨by kernel_rfl,?_⟩) (by assumption) ?_
        rotate_left 1
        ·(intro wq hSw;(try dsimp only at hSw);go_simp;first|done|with_reducible rfl)
        refine wpAnyH_take (i:=13) (v:=?_) rfl (by kernel_rfl) (by kernel_rfl) (by kernel_rfl) (fun _ _ _ h=>h) (Or.inl ⟨by kernel_rfl,?_⟩) (by assumption) ?_
        rotate_left 1
        ·(intro wq hSw;(try dsimp only at hSw);go_simp;first|done|with_reducible rfl)
        refine wpAnyH_take (i:=14) (v:=?_) rfl (by kernel_rfl) (by kernel_rfl) (by kernel_rfl) (fun _ _ _ h=>h) (Or.inl ⟨by kernel_rfl,?_⟩) (by assumption) ?_
        rotate_left 1
        ·(intro wq hSw;(try dsimp only at hSw);go_simp;first|done|with_reducible rfl)
        refine wpAnyH_take (i:=15) (v:=?_) rfl (by kernel_rfl) (by kernel_rfl) (by kernel_rfl) (fun _ _ _ h=>h) (Or.inl ⟨by kernel_rfl,?_⟩) (by assumption) ?_
        rotate_left 1
        ·(intro wq hSw;(try dsimp only at hSw);go_simp;first|done|with_reducible rfl)
        refine wpAnyH_take (i:=16) (v:=?_) rfl (by kernel_rfl) (by kernel_rfl) (by kernel_rfl) (fun _ _ _ h=>h) (Or.inl ⟨by kernel_rfl,?_⟩) (by assumption) ?_
        rotate_left 1
        ·(intro wq hSw;(try dsimp only at hSw);go_simp;first|done|with_reducible rfl)
        refine wpAnyH_ready (rs:=[17]) (by kernel_rfl) (by simp) ?_
        refine AllReadyH.cons rfl (fun K hK=>?_) AllReadyH.nil
        go_simp
        go_at_call 38
        refine (aH.out _ hD).mono ?_
        rintro e w2 ⟨rfl,aB,aF⟩
        refine hK.out _ _ (aF) (fun hHeld=>?_)
        clear hK K
        refine wpAnyH_take (i:=18) (v:=?_) rfl (by kernel_rfl) (by kernel_rfl) (by kernel_rfl) (fun _ _ _ h=>h) (Or.inl ⟨by kernel_rfl,?_⟩) (by assumption) ?_
        rotate_left 1
        ·(intro wq hSw;(try dsimp only at hSw);go_simp;first|done|with_reducible rfl)
        refine wpAnyH_take (i:=19) (v:=?_) rfl (by kernel_rfl) (by kernel_rfl) (by kernel_rfl) (fun _ _ _ h=>h) (Or.inl ⟨by kernel_rfl,?_⟩) (by assumption) ?_
        rotate_left 1
        ·(intro wq hSw;(try dsimp only at hSw);go_simp;first|done|with_reducible rfl)
        refine wpAnyH_take (i:=20) (v:=?_) rfl (by kernel_rfl) (by kernel_rfl) (by kernel_rfl) (fun _ _ _ h=>h) (Or.inl ⟨by kernel_rfl,?_⟩) (by assumption) ?_
        rotate_left 1
        ·(intro wq hSw;(try dsimp only at hSw);go_simp;first|done|with_reducible rfl)
        refine wpAnyH_take (i:=21) (v:=?_) rfl (by kernel_rfl) (by kernel_rfl) (by kernel_rfl) (fun _ _ _ h=>h) (Or.inl ⟨by kernel_rfl,?_⟩) (by assumption) ?_
        rotate_left 1
        ·(intro wq hSw;(try dsimp only at hSw);go_simp;first|done|with_reducible rfl)
        refine wpAnyH_take (i:=22) (v:=?_) rfl (by kernel_rfl) (by kernel_rfl) (by kernel_rfl) (fun _ _ _ h=>h) (Or.inl ⟨by kernel_rfl,?_⟩) (by assumption) ?_
        rotate_left 1
        ·(intro wq hSw;(try dsimp only at hSw);go_simp;first|done|with_reducible rfl)
        refine wpAnyH_take (i:=23) (v:=?_) rfl (by kernel_rfl) (by kernel_rfl) (by kernel_rfl) (fun _ _ _ h=>h) (Or.inl ⟨by kernel_rfl,?_⟩) (by assumption) ?_
        rotate_left 1
        ·(intro wq hSw;(try dsimp only at hSw);go_simp;first|done|with_reducible rfl)
        refine wpAnyH_take (i:=24) (v:=?_) rfl (by kernel_rfl) (by kernel_rfl) (by kernel_rfl) (fun _ _ _ h=>h) (Or.inl ⟨by kernel_rfl,?_⟩) (by assumption) ?_
        rotate_left 1
        ·(intro wq hSw;(try dsimp only at hSw);go_simp;first|done|with_reducible rfl)
        refine wpAnyH_take (i:=25) (v:=?_) rfl (by kernel_rfl) (by kernel_rfl) (by kernel_rfl) (fun _ _ _ h=>h) (Or.inl ⟨by kernel_rfl,?_⟩) (by assumption) ?_
        rotate_left 1
        ·(intro wq hSw;(try dsimp only at hSw);go_simp;first|done|with_reducible rfl)
        refine wpAnyH_take (i:=26) (v:=?_) rfl (by kernel_rfl) (by kernel_rfl) (by kernel_rfl) (fun _ _ _ h=>h) (Or.inl ⟨by kernel_rfl,?_⟩) (by assumption) ?_
        rotate_left 1
        ·(intro wq hSw;(try dsimp only at hSw);go_simp;first|done|with_reducible rfl)
        refine wpAnyH_take (i:=27) (v:=?_) rfl (by kernel_rfl) (by kernel_rfl) (by kernel_rfl) (fun _ _ _ h=>h) (Or.inl ⟨by kernel_rfl,?_⟩) (by assumption) ?_
        rotate_left 1
        ·(intro wq hSw;(try dsimp only at hSw);go_simp;first|done|with_reducible rfl)
        refine wpAnyH_take (i:=28) (v:=?_) rfl (by kernel_rfl) (by kernel_rfl) (by kernel_rfl) (fun _ _ _ h=>h) (Or.inl ⟨by kernel_rfl,?_⟩) (by assumption) ?_
        rotate_left 1
        ·(intro wq hSw;(try dsimp only at hSw);go_simp;first|done|with_reducible rfl)
        refine wpAnyH_take (i:=29) (v:=?_) rfl (by kernel_rfl) (by kernel_rfl) (by kernel_rfl) (fun _ _ _ h=>h) (Or.inl ⟨by kernel_rfl,?_⟩) (by assumption) ?_
        rotate_left 1
        ·(intro wq hSw;(try dsimp only at hSw);go_simp;first|done|with_reducible rfl)
        refine wpAnyH_take (i:=30) (v:=?_) rfl (by kernel_rfl) (by kernel_rfl) (by kernel_rfl) (fun _ _ _ h=>h) (Or.inl ⟨by kernel_rfl,?_⟩) (by assumption) ?_
        rotate_left 1
        ·(intro wq hSw;(try dsimp only at hSw);go_simp;first|done|with_reducible rfl)
        refine wpAnyH_take (i:=31) (v:=?_) rfl (by kernel_rfl) (by kernel_rfl) (by kernel_rfl) (fun _ _ _ h=>h) (Or.inl ⟨by kernel_rfl,?_⟩) (by assumption) ?_
        rotate_left 1
        ·(intro wq hSw;(try dsimp only at hSw);go_simp;first|done|with_reducible rfl)
        refine wpAnyH_take (i:=32) (v:=?_) rfl (by kernel_rfl) (by kernel_rfl) (by kernel_rfl) (fun _ _ _ h=>h) (Or.inl ⟨by kernel_rfl,?_⟩) (by assumption) ?_
        rotate_left 1
        ·(intro wq hSw;(try dsimp only at hSw);go_simp;first|done|with_reducible rfl)
        refine wpAnyH_take (i:=33) (v:=?_) rfl (by kernel_rfl) (by kernel_rfl) (by kernel_rfl) (fun _ _ _ h=>h) (Or.inl ⟨by kernel_rfl,?_⟩) (by assumption) ?_
        rotate_left 1
        ·(intro wq hSw;(try dsimp only at hSw);go_simp;first|done|with_reducible rfl)
        refine wpAnyH_take (i:=34) (v:=?_) rfl (by kernel_rfl) (by kernel_rfl) (by kernel_rfl) (fun _ _ _ h=>h) (Or.inl ⟨by kernel_rfl,?_⟩) (by assumption) ?_
        rotate_left 1
        ·(intro wq hSw;(try dsimp only at hSw);go_simp;first|done|with_reducible rfl)
        refine wpAnyH_take (i:=35) (v:=?_) rfl (by kernel_rfl) (by kernel_rfl) (by kernel_rfl) (fun _ _ _ h=>h) (Or.inl ⟨by kernel_rfl,?_⟩) (by assumption) ?_
        rotate_left 1
        ·(intro wq hSw;(try dsimp only at hSw);go_simp;first|done|with_reducible rfl)
        refine wpAnyH_take (i:=36) (v:=?_) rfl (by kernel_rfl) (by kernel_rfl) (by kernel_rfl) (fun _ _ _ h=>h) (Or.inl ⟨by kernel_rfl,?_⟩) (by assumption) ?_
        rotate_left 1
        ·(intro wq hSw;(try dsimp only at hSw);go_simp;first|done|with_reducible rfl)
        refine wpAnyH_done (by kernel_rfl) ?_ _
        go_simp
        all_goals
         have aI:=hidF (aE.out.trans (aB.mono aE.out.size))
         clear aB aF
         go_wp2_with fail
         go_ret
         exact⟨qaD (by rw[aP.out,aC.out];rfl),aI.out⟩
       | false=>
        rw[hxy]at aA bI
        have aV:Hid (nmTo true n.names (1+1)=true):=aL.out (by rw[aA.out];rfl)
        clear aG aL aA
        go_wp2_with fail
        have cD:0<n.names.length:=by omega
        refine wp_region_held_drew (S:=(fun w'=>w'.cell? ⟨w.heap.size,0,none⟩=some (.int .i64 (k:Int))/\w'.cell? ⟨w.heap.size,3,none⟩=some (.slice (some ⟨b,off,none⟩) n.names.length nc)/\w'.cell? ⟨b,off+1,none⟩=some (.string x)/\w'.cell? ⟨b,off,none⟩=some (.string y))) (by kernel_rfl) (by exact⟨z0,z3,ej,e0⟩) (fun hHeld=>?_)
        refine wpAnyH_take (i:=0) (v:=?_) rfl (by kernel_rfl) (by kernel_rfl) (by kernel_rfl) (fun _ _ _ h=>h) (Or.inl ⟨by kernel_rfl,?_⟩) (by assumption) ?_
        rotate_left 1
        ·(intro wq hSw;(try dsimp only at hSw);go_simp;first|done|with_reducible rfl)
        refine wpAnyH_take (i:=1) (v:=?_) rfl (by kernel_rfl) (by kernel_rfl) (by kernel_rfl) (fun _ _ _ h=>h) (Or.inl ⟨by kernel_rfl,?_⟩) (by assumption) ?_
        rotate_left 1
        ·(intro wq hSw;(try dsimp only at hSw);go_simp;first|done|with_reducible rfl)
        refine wpAnyH_take (i:=2) (v:=?_) rfl (by kernel_rfl) (by kernel_rfl) (by kernel_rfl) (fun _ _ _ h=>h) (Or.inl ⟨by kernel_rfl,?_⟩) (by assumption) ?_
        rotate_left 1
        ·(intro wq hSw;(try dsimp only at hSw);go_simp;first|done|with_reducible rfl)
        refine wpAnyH_take (i:=3) (v:=?_) rfl (by kernel_rfl) (by kernel_rfl) (by kernel_rfl) (fun _ _ _ h=>h) (Or.inl ⟨by kernel_rfl,?_⟩) (by assumption) ?_
        rotate_left 1
        ·(intro wq hSw;(try dsimp only at hSw);go_simp;first|done|with_reducible rfl)
        refine wpAnyH_take (i:=4) (v:=?_) rfl (by kernel_rfl) (by kernel_rfl) (by kernel_rfl) (fun _ _ _ h=>h) (Or.inl ⟨by kernel_rfl,?_⟩) (by assumption) ?_
        rotate_left 1
        ·(intro wq hSw;(try dsimp only at hSw);go_simp;first|done|with_reducible rfl)
        refine wpAnyH_ready (rs:=[5]) (by kernel_rfl) (by simp) ?_
        refine AllReadyH.cons rfl (fun K hK=>?_) AllReadyH.nil
        go_simp
        go_at_call 40
        refine (aJ.out _).mono ?_
        rintro e w1 ⟨rfl,rfl⟩
        refine hK.out _ _ (hHeld) (fun hHeld=>?_)
        clear hK K
        refine wpAnyH_take (i:=6) (v:=?_) rfl (by kernel_rfl) (by kernel_rfl) (by kernel_rfl) (fun _ _ _ h=>h) (Or.inl ⟨by kernel_rfl,?_⟩) (by assumption) ?_
        rotate_left 1
        ·(intro wq hSw;(try dsimp only at hSw);go_simp;first|done|with_reducible rfl)
        refine wpAnyH_take (i:=7) (v:=?_) rfl (by kernel_rfl) (by kernel_rfl) (by kernel_rfl) (fun _ _ _ h=>h) (Or.inl ⟨by kernel_rfl,?_⟩) (by assumption) ?_
        rotate_left 1
        ·(intro wq hSw;(try dsimp only at hSw);go_simp;first|done|with_reducible rfl)
        refine wpAnyH_take (i:=8) (v:=?_) rfl (by kernel_rfl) (by kernel_rfl) (by kernel_rfl) (fun _ _ _ h=>h) (Or.inl ⟨by kernel_rfl,?_⟩) (by assumption) ?_
        rotate_left 1
        ·(intro wq hSw;(try dsimp only at hSw);go_simp;first|done|with_reducible rfl)
        refine wpAnyH_take (i:=9) (v:=?_) rfl (by kernel_rfl) (by kernel_rfl) (by kernel_rfl) (fun _ _ _ h=>h) (Or.inl ⟨by kernel_rfl,?_⟩) (by assumption) ?_
        rotate_left 1
        ·(intro wq hSw;(try dsimp only at hSw);go_simp;first|done|with_reducible rfl)
        refine wpAnyH_ready (rs:=[10]) (by kernel_rfl) (by simp) ?_
        refine AllReadyH.cons rfl (fun K hK=>?_) AllReadyH.nil
        go_simp
        go_at_call 27
        refine (aO.out _).mono ?_
        rintro e w1 ⟨rfl,rfl⟩
        refine hK.out _ _ (hHeld) (fun hHeld=>?_)
        clear hK K
        refine wpAnyH_take (i:=11) (v:=?_) rfl (by kernel_rfl) (by kernel_rfl) (by kernel_rfl) (fun _ _ _ h=>h) (Or.inl ⟨by kernel_rfl,?_⟩) (by assumption) ?_
        rotate_left 1
        ·(intro wq hSw;(try dsimp only at hSw);go_simp;first|done|with_reducible rfl)
        refine wpAnyH_take (i:=12) (v:=?_) rfl (by kernel_rfl) (by kernel_rfl) (by kernel_rfl) (fun _ _ _ h=>h) (Or.inl ⟨by kernel_rfl,?_⟩) (by assumption) ?_
        rotate_left 1
        ·(intro wq hSw;(try dsimp only at hSw);go_simp;first|done|with_reducible rfl)
        refine wpAnyH_take (i:=13) (v:=?_) rfl (by kernel_rfl) (by kernel_rfl) (by kernel_rfl) (fun _ _ _ h=>h) (Or.inl ⟨by kernel_rfl,?_⟩) (by assumption) ?_
        rotate_left 1
        ·(intro wq hSw;(try dsimp only at hSw);go_simp;first|done|with_reducible rfl)
        refine wpAnyH_take (i:=14) (v:=?_) rfl (by kernel_rfl) (by kernel_rfl) (by kernel_rfl) (fun _ _ _ h=>h) (Or.inl ⟨by kernel_rfl,?_⟩) (by assumption) ?_
        rotate_left 1
        ·(intro wq hSw;(try dsimp only at hSw);go_simp;first|done|with_reducible rfl)
        refine wpAnyH_take (i:=15) (v:=?_) rfl (by kernel_rfl) (by kernel_rfl) (by kernel_rfl) (fun _ _ _ h=>h) (Or.inl ⟨by kernel_rfl,?_⟩) (by assumption) ?_
        rotate_left 1
        ·(intro wq hSw;(try dsimp only at hSw);go_simp;first|done|with_reducible rfl)
        refine wpAnyH_take (i:=16) (v:=?_) rfl (by kernel_rfl) (by kernel_rfl) (by kernel_rfl) (fun _ _ _ h=>h) (Or.inl ⟨by kernel_rfl,?_⟩) (by assumption) ?_
        rotate_left 1
        ·(intro wq hSw;(try dsimp only at hSw);go_simp;first|done|with_reducible rfl)
        refine wpAnyH_ready (rs:=[17]) (by kernel_rfl) (by simp) ?_
        refine AllReadyH.cons rfl (fun K hK=>?_) AllReadyH.nil
        go_simp
        go_at_call 38
        refine (aH.out _ hD).mono ?_
        rintro e w2 ⟨rfl,aB,aF⟩
        refine hK.out _ _ (aF) (fun hHeld=>?_)
        clear hK K
        refine wpAnyH_take (i:=18) (v:=?_) rfl (by kernel_rfl) (by kernel_rfl) (by kernel_rfl) (fun _ _ _ h=>h) (Or.inl ⟨by kernel_rfl,?_⟩) (by assumption) ?_
        rotate_left 1
        ·(intro wq hSw;(try dsimp only at hSw);go_simp;first|done|with_reducible rfl)
        refine wpAnyH_take (i:=19) (v:=?_) rfl (by kernel_rfl) (by kernel_rfl) (by kernel_rfl) (fun _ _ _ h=>h) (Or.inl ⟨by kernel_rfl,?_⟩) (by assumption) ?_
        rotate_left 1
        ·(intro wq hSw;(try dsimp only at hSw);go_simp;first|done|with_reducible rfl)
        refine wpAnyH_take (i:=20) (v:=?_) rfl (by kernel_rfl) (by kernel_rfl) (by kernel_rfl) (fun _ _ _ h=>h) (Or.inl ⟨by kernel_rfl,?_⟩) (by assumption) ?_
        rotate_left 1
        ·(intro wq hSw;(try dsimp only at hSw);go_simp;first|done|with_reducible rfl)
        refine wpAnyH_take (i:=21) (v:=?_) rfl (by kernel_rfl) (by kernel_rfl) (by kernel_rfl) (fun _ _ _ h=>h) (Or.inl ⟨by kernel_rfl,?_⟩) (by assumption) ?_
        rotate_left 1
        ·(intro wq hSw;(try dsimp only at hSw);go_simp;first|done|with_reducible rfl)
        refine wpAnyH_take (i:=22) (v:=?_) rfl (by kernel_rfl) (by kernel_rfl) (by kernel_rfl) (fun _ _ _ h=>h) (Or.inl ⟨by kernel_rfl,?_⟩) (by assumption) ?_
        rotate_left 1
        ·(intro wq hSw;(try dsimp only at hSw);go_simp;first|done|with_reducible rfl)
        refine wpAnyH_take (i:=23) (v:=?_) rfl (by kernel_rfl) (by kernel_rfl) (by kernel_rfl) (fun _ _ _ h=>h) (Or.inl ⟨by kernel_rfl,?_⟩) (by assumption) ?_
        rotate_left 1
        ·(intro wq hSw;(try dsimp only at hSw);go_simp;first|done|with_reducible rfl)
        refine wpAnyH_take (i:=24) (v:=?_) rfl (by kernel_rfl) (by kernel_rfl) (by kernel_rfl) (fun _ _ _ h=>h) (Or.inl ⟨by kernel_rfl,?_⟩) (by assumption) ?_
        rotate_left 1
        ·(intro wq hSw;(try dsimp only at hSw);go_simp;first|done|with_reducible rfl)
        refine wpAnyH_take (i:=25) (v:=?_) rfl (by kernel_rfl) (by kernel_rfl) (by kernel_rfl) (fun _ _ _ h=>h) (Or.inl ⟨by kernel_rfl,?_⟩) (by assumption) ?_
        rotate_left 1
        ·(intro wq hSw;(try dsimp only at hSw);go_simp;first|done|with_reducible rfl)
        refine wpAnyH_take (i:=26) (v:=?_) rfl (by kernel_rfl) (by kernel_rfl) (by kernel_rfl) (fun _ _ _ h=>h) (Or.inl ⟨by kernel_rfl,?_⟩) (by assumption) ?_
        rotate_left 1
        ·(intro wq hSw;(try dsimp only at hSw);go_simp;first|done|with_reducible rfl)
        refine wpAnyH_take (i:=27) (v:=?_) rfl (by kernel_rfl) (by kernel_rfl) (by kernel_rfl) (fun _ _ _ h=>h) (Or.inl ⟨by kernel_rfl,?_⟩) (by assumption) ?_
        rotate_left 1
        ·(intro wq hSw;(try dsimp only at hSw);go_simp;first|done|with_reducible rfl)
        refine wpAnyH_take (i:=28) (v:=?_) rfl (by kernel_rfl) (by kernel_rfl) (by kernel_rfl) (fun _ _ _ h=>h) (Or.inl ⟨by kernel_rfl,?_⟩) (by assumption) ?_
        rotate_left 1
        ·(intro wq hSw;(try dsimp only at hSw);go_simp;first|done|with_reducible rfl)
        refine wpAnyH_take (i:=29) (v:=?_) rfl (by kernel_rfl) (by kernel_rfl) (by kernel_rfl) (fun _ _ _ h=>h) (Or.inl ⟨by kernel_rfl,?_⟩) (by assumption) ?_
        rotate_left 1
        ·(intro wq hSw;(try dsimp only at hSw);go_simp;first|done|with_reducible rfl)
        refine wpAnyH_take (i:=30) (v:=?_) rfl (by kernel_rfl) (by kernel_rfl) (by kernel_rfl) (fun _ _ _ h=>h) (Or.inl ⟨by kernel_rfl,?_⟩) (by assumption) ?_
        rotate_left 1
        ·(intro wq hSw;(try dsimp only at hSw);go_simp;first|done|with_reducible rfl)
        refine wpAnyH_take (i:=31) (v:=?_) rfl (by kernel_rfl) (by kernel_rfl) (by kernel_rfl) (fun _ _ _ h=>h) (Or.inl ⟨by kernel_rfl,?_⟩) (by assumption) ?_
        rotate_left 1
        ·(intro wq hSw;(try dsimp only at hSw);go_simp;first|done|with_reducible rfl)
        refine wpAnyH_take (i:=32) (v:=?_) rfl (by kernel_rfl) (by kernel_rfl) (by kernel_rfl) (fun _ _ _ h=>h) (Or.inl ⟨by kernel_rfl,?_⟩) (by assumption) ?_
        rotate_left 1
        ·(intro wq hSw;(try dsimp only at hSw);go_simp;first|done|with_reducible rfl)
        refine wpAnyH_take (i:=33) (v:=?_) rfl (by kernel_rfl) (by kernel_rfl) (by kernel_rfl) (fun _ _ _ h=>h) (Or.inl ⟨by kernel_rfl,?_⟩) (by assumption) ?_
        rotate_left 1
        ·(intro wq hSw;(try dsimp only at hSw);go_simp;first|done|with_reducible rfl)
        refine wpAnyH_take (i:=34) (v:=?_) rfl (by kernel_rfl) (by kernel_rfl) (by kernel_rfl) (fun _ _ _ h=>h) (Or.inl ⟨by kernel_rfl,?_⟩) (by assumption) ?_
        rotate_left 1
        ·(intro wq hSw;(try dsimp only at hSw);go_simp;first|done|with_reducible rfl)
        refine wpAnyH_take (i:=35) (v:=?_) rfl (by kernel_rfl) (by kernel_rfl) (by kernel_rfl) (fun _ _ _ h=>h) (Or.inl ⟨by kernel_rfl,?_⟩) (by assumption) ?_
        rotate_left 1
        ·(intro wq hSw;(try dsimp only at hSw);go_simp;first|done|with_reducible rfl)
        refine wpAnyH_take (i:=36) (v:=?_) rfl (by kernel_rfl) (by kernel_rfl) (by kernel_rfl) (fun _ _ _ h=>h) (Or.inl ⟨by kernel_rfl,?_⟩) (by assumption) ?_
        rotate_left 1
        ·(intro wq hSw;(try dsimp only at hSw);go_simp;first|done|with_reducible rfl)
        refine wpAnyH_done (by kernel_rfl) ?_ _
        go_simp
        all_goals
         have aI:=hidF (aQ.out.trans (aB.mono aQ.out.size))
         clear aB aF
         go_wp2_with fail
         go_roundw
         case rel=>exact⟨1+1,by omega,by go_num,aV,aI.out⟩
         case measure=>simp[intOf];omega
  ·have bR:j=n.names.length:=by omega
   have aW:Hid (preC n (preL k)=tailP n (preL k)):=by
    show _=_
    have:=HA.out
    rw[bR]at this
    rw[aP.out,this,Bool.true_and]
   have aE:=hidF (bA.out.trans (aN.mono bA.out.size))
   have aQ:=hidF aN
   have cJ:=hidF hk
   clear bM bL bR HA aP aN
   by_cases c3:k=1∨k=2∨k=3
   ·have HT:Hid (preC n (preL k)=qaQ (k:Int) n.num n.text [] 0):=by
     show _=_
     rw[aW.out,(qvX k (by omega) hk1).1]
     show qaQ n.sort n.num n.text [] 0=_
     rw[hk]
    have bS:n.text.size<=maxLen:=Nat.le_trans hx (by decide)
    have HC:Hid (∀ w,Calls Tryz.prog 96 #[.agg #[.int .i64 (k:Int),.int .i64 n.num,.string n.text,.slice none 0 0,.slice none 0 0]] w fun e w'=>e=.returned (.bool (qaQ (k:Int) n.num n.text [] 0))/\Below w.heap.size w w'):=fun w=>
     qlZ (k:Int) n.num n.text [] none 0 0 w none 0 bS (fun _=>False) ⟨none,0,rfl,by simp[maxLen],fun s hs=>by simp at hs,fun h=>absurd rfl h⟩ (fun _ h=>h.elim)
    clear bS
    rcases c3 with rfl|rfl|rfl
    all_goals
     go_wp2_with fail
     refine (HC.out _).mono ?_
     rintro e w2 ⟨rfl,aB⟩
     have aI:=hidF (aE.out.trans (aB.mono aE.out.size))
     clear aB HC
     go_wp2_with fail
     go_ret
     exact⟨qaD HT.out.symm,aI.out⟩
   have d1:((k:Int)==1)=false:=by simp;omega
   have d2:((k:Int)==2)=false:=by simp;omega
   have d3:((k:Int)==3)=false:=by simp;omega
   by_cases c5:k=5∨k=6
   ·have HT:Hid (preC n (preL k)=((n.num==0) && kindB n.text)):=by
     show _=_
     rw[aW.out]
     rcases c5 with rfl|rfl <;> rfl
    have HC:Hid (∀ w,Calls Tryz.prog 28 #[.string n.text] w fun e w'=>Below w.heap.size w w' /\ ∃ (s:Int) (a1 a2:Option Addr) (l1 l2 k1 k2:Nat),e=.returned (.tuple #[.agg #[.int .i64 s,.slice a1 l1 k1,.slice a2 l2 k2],.bool (kindB n.text)])):=by
     intro w
     refine (qjO n.text (n.text.size+7) (by omega) hx w).mono ?_
     rintro e w' ⟨hb,c0,c1,c2,rfl,cG⟩
     refine⟨hb,?_⟩
     obtain⟨s,a1,l1,k1,a2,l2,k2,rfl,rfl,rfl⟩:=cG.shape
     exact⟨s,a1,a2,l1,l2,k1,k2,rfl⟩
    have HZ:Hid (∀ w2,Below wr.heap.size wr w2->w2.cell? ⟨w.heap.size,1,none⟩=some (.int .i64 n.num)):=fun w2 h2=>(h2.cell (p:=⟨w.heap.size,1,none⟩) (by show w.heap.size<_;have:=aQ.out.size;omega)).trans z1
    generalize kindB n.text=ok at *
    cases hnz:(n.num==0)
    all_goals
     rw[hnz]at HT
     rcases c5 with rfl|rfl
     all_goals
      go_wp2_with fail
      refine (HC.out _).mono ?_
      rintro e w2 ⟨aB,s,a1,a2,l1,l2,k1,k2,rfl⟩
      have bK:=aB.alloc aB.size (.cells #[.int .i64 s,.slice a1 l1 k1,.slice a2 l2 k2] 55)
      have y1:=HZ.out _ bK
      have aI:=hidF (aE.out.trans (bK.mono aE.out.size))
      clear aB bK HC
      go_wp2_with fail
      go_ret
      exact⟨qaD (by rw[HT.out];rfl),aI.out⟩
   have d5:((k:Int)==5)=false:=by simp;omega
   have d6:((k:Int)==6)=false:=by simp;omega
   have cK:(n.text.toList==[])=n.text.toList.isEmpty:=by cases n.text.toList <;> rfl
   by_cases c37:k=37
   ·have HT:Hid (preC n (preL k)=(decide (0<=n.num/\n.num<=99) && n.text.toList.isEmpty)):=by
     show _=_
     rw[aW.out,c37]
     show (decide (lst n.sort.toNat<=n.num/\n.num<=mst n.sort.toNat) && _)=_
     rw[hk,c37];rfl
    have HC:Hid (∀ w,Calls Tryz.prog 45 #[.int .i64 n.num,.int .i64 0,.int .i64 99] w _):=fun w=>qcL n.num 0 99 w
    generalize n.text.toList.isEmpty=em at *
    generalize decide (0<=n.num/\n.num<=99)=ok at *
    cases ok <;> cases em
    all_goals
     subst c37
     go_wp2_with fail
     refine (HC.out _).mono ?_
     rintro e w2 ⟨rfl,rfl⟩
     go_wp2_with fail
     go_ret
     exact⟨qaD (by rw[HT.out];rfl),aE.out⟩
   by_cases c39:k=39
   ·have HT:Hid (preC n (preL k)=(decide (1<=n.num/\n.num<=12) && n.text.toList.isEmpty)):=by
     show _=_
     rw[aW.out,c39]
     show (decide (lst n.sort.toNat<=n.num/\n.num<=mst n.sort.toNat) && _)=_
     rw[hk,c39];rfl
    have HC:Hid (∀ w,Calls Tryz.prog 45 #[.int .i64 n.num,.int .i64 1,.int .i64 12] w _):=fun w=>qcL n.num 1 12 w
    generalize n.text.toList.isEmpty=em at *
    generalize decide (1<=n.num/\n.num<=12)=ok at *
    cases ok <;> cases em
    all_goals
     subst c39
     go_wp2_with fail
     refine (HC.out _).mono ?_
     rintro e w2 ⟨rfl,rfl⟩
     go_wp2_with fail
     go_ret
     exact⟨qaD (by rw[HT.out];rfl),aE.out⟩
   have d37:((k:Int)==37)=false:=by simp;omega
   have d39:((k:Int)==39)=false:=by simp;omega
   have HT:Hid (preC n (preL k)=((n.num==0) && n.text.toList.isEmpty)):=by
    show _=_
    rw[aW.out]
    rcases xhC k hk44 with e|e|e|e|e|e|e|e|e|e|e|e|e
    all_goals first|(exfalso;omega)|(rw[e];rfl)
   generalize n.text.toList.isEmpty=em at *
   cases hnz:(n.num==0) <;> cases em
   all_goals
    rw[hnz]at HT
    go_wp2_with fail
    go_ret
    exact⟨qaD (by rw[HT.out];rfl),aE.out⟩
end Go.Proofs.YtelogmjfekhmpaaGreatDoor
