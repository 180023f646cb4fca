import Derived.Test.YtelogmjfekhmpaaGreatDoorB25
import Derived.Deep.RegionHeld3
namespace Go.Proofs.YtelogmjfekhmpaaGreatDoor
set_option maxRecDepth 100000
set_option maxHeartbeats 16000000
open Go.RowKit Go.Proofs.Tryz
theorem xhD:∀k,k<44->k=0∨k=24∨k=1∨k=2∨k=3∨k=5∨k=6∨k=37∨k=39∨preL k=[]∨preL k=[88]∨preL k=[78]∨preL k=[88,88]:=by decide
theorem qqN:yielded.match_1 (fun _=>Option Bool) (some undef) (fun b=>some b) (fun _=>none)=none:=rfl
theorem qiD:∀k,k<44->nmS k<=2:=by decide
theorem bd_one:∀k,k<44->bdS k=false->nmS k<=1:=by decide
theorem qvC(k:Nat)(h:k≠24):(bs (kdT k)).size=(kdV k).length:=by
 rw[qaL];unfold kdT;rw[if_neg h];unfold kdS;simp
theorem qvD (S:Nat->Prop) (m:Nat) (n:Nd (T m)) (na ka:Option Addr) (nc kc k:Nat) (a:Bool) (ha:decide ((36:Int)<=(k:Int))=a) (w:World) (hk:n.sort=(k:Int)) (hk44:k<44) (hk1:1<=k) (h24:k≠24) (h3:StrsIn S w n.names (.slice na n.names.length nc)) (_hl4:n.kids.length<=maxLen) (hB:∀ b,S b->b<w.heap.size)
  (hx:n.text.size<=1048576) :
  Calls prog 76 #[.agg #[.int .i64 (k:Int),.int .i64 n.num,.string n.text,.slice na n.names.length nc,.slice ka n.kids.length kc],.bool a] w fun e w'=>e=.returned (.bool ((n.kids.length==(kdV k).length) && preC n (preL k)))/\Below w.heap.size w w':=by
 have g:=(Below.refl w.heap.size w).alloc (Nat.le_refl _) (.cells #[.int .i64 (k:Int),.int .i64 n.num,.string n.text,.slice na n.names.length nc,.slice ka n.kids.length kc] 25)
 have P:Hid (∀w,Calls prog 45 #[.int .i64 (k:Int),.int .i64 1,.int .i64 43] w fun e w'=>e=.returned (.bool true)/\w'=w):=fun w=>by
  have:=qcJ k 1 43 w
  rw[decide_eq_true (by omega)]at this
  exact this
 have I:=qvC k h24
 have Q:Hid (∀w,Calls prog 30 #[.int .i64 (k:Int)] w _):=fun w=>qiC k hk44 w
 have R:Hid (∀w,Calls prog 25 #[.int .i64 (k:Int)] w _):=fun w=>qkM k hk44 w
 generalize bs (kdT k)=q at *
 have C:=hidF (xbG n k hk44 h24)
 have aJ:((k:Int)==24)=false:=by simp;omega
 obtain⟨_,_,hv,bA,-,-⟩:=id h3
 cases hv
 unfold maxLen at bA _hl4
 by_cases hkl:n.kids.length=(kdV k).length
 case neg=>
  have aS:((n.kids.length:Int) != (q.size:Int))=true:=by rw[I];simp;omega
  have HF:Hid (((n.kids.length==(kdV k).length) && preC n (preL k))=false):=by
   show _=_
   have:(n.kids.length==(kdV k).length)=false:=by simp[hkl]
   rw[this];rfl
  clear hkl I C
  go_enter func76,ntmps76
  go_wp2_with fail
  refine (P.out _).mono ?_
  rintro e H ⟨rfl,rfl⟩
  go_wp2_with fail
  go_quiet (first
   | (go_at_call 30;refine Calls.quiet_of_same (Q.out _))
   | (go_at_call 25;refine Calls.quiet_of_same (R.out _)))
  all_goals
   go_wp2_with fail
   go_ret
   exact⟨qaD HF.out.symm,by first|exact g|exact g.drew|exact⟨g.os,g.tape,g.output,g.size,g.block⟩⟩
 have aT:((n.kids.length:Int) != (q.size:Int))=false:=by rw[I];simp[hkl]
 have aA:(n.kids.length==(kdV k).length)=true:=by simp[hkl]
 rw[aA,Bool.true_and]
 by_cases hnl:n.names.length=nmS k
 case neg=>
  have aS:((n.names.length:Int) != ((nmS k:Nat):Int))=true:=by simp;omega
  have HF:Hid (preC n (preL k)=false):=by
   show _=_
   have:(n.names.length==nmS k)=false:=by simp[hnl]
   rw[C.out,this];rfl
  clear hkl I C hnl aA
  go_enter func76,ntmps76
  go_wp2_with fail
  refine (P.out _).mono ?_
  rintro e H ⟨rfl,rfl⟩
  go_wp2_with fail
  go_quiet (first
   | (go_at_call 30;refine Calls.quiet_of_same (Q.out _))
   | (go_at_call 25;refine Calls.quiet_of_same (R.out _)))
  all_goals
   go_wp2_with fail
   go_ret
   exact⟨qaD HF.out.symm,by first|exact g|exact g.drew|exact⟨g.os,g.tape,g.output,g.size,g.block⟩⟩
 have aU:((n.names.length:Int) != ((nmS k:Nat):Int))=false:=by simp[hnl]
 have E:Hid (preC n (preL k)=(nmTo (bdS k) n.names n.names.length && tailP n (preL k))):=by
  show _=_
  have:(n.names.length==nmS k)=true:=by simp[hnl]
  rw[C.out,this];rfl
 obtain⟨W,hW⟩:∃W,W=w.alloc (.cells #[.int .i64 (k:Int),.int .i64 n.num,.string n.text,.slice na n.names.length nc,.slice ka n.kids.length kc] 25):=⟨_,rfl⟩
 have aB:Below w.heap.size w W:=by rw[hW];exact g
 have aV:w.heap.size<W.heap.size:=by rw[hW];simp
 have Z:W.heap[w.heap.size]?=some (.cells #[.int .i64 (k:Int),.int .i64 n.num,.string n.text,.slice na n.names.length nc,.slice ka n.kids.length kc] 25 (0,0)):=by rw[hW];exact heap_alloc_last _ _
 have aC:=hidF hnl
 clear hkl I C hnl aA g
 go_enter func76,ntmps76
 go_wp2_with fail
 refine (P.out _).mono ?_
 rintro e H ⟨rfl,rfl⟩
 go_wp2_with fail
 go_quiet (first
  | (go_at_call 30;refine Calls.quiet_of_same (Q.out _))
  | (go_at_call 25;refine Calls.quiet_of_same (R.out _)))
 go_wp2_with fail
 rw[<- hW]
 have aK:Hid (∀j,Below W.heap.size W (W.drewN j)):=fun j=>⟨rfl,rfl,rfl,Nat.le_refl _,fun _ _=>rfl⟩
 have D:Hid (∀w,Calls prog 27 #[.int .i64 (k:Int)] w _):=fun w=>qkN k hk44 w
 have aL:Hid (bdS k=false->n.names.length<=1):=fun h=>by
  rw[aC.out];exact bd_one k hk44 h
 obtain⟨_,_,hv,-,aH,aI⟩:=h3.keep (qaB aB hB) (fun _ h=>h)
 cases hv
 have aW:Hid (∀(V:World)(j:Nat),Below W.heap.size W V->Below W.heap.size W (V.drewN j)):=fun V j h=>⟨h.os,h.tape,h.output,h.size,h.block⟩
 have aM:Hid (∀(V:World)(j:Nat),Below w.heap.size w V->Below w.heap.size w (V.drewN j)):=fun V j h=>⟨h.os,h.tape,h.output,h.size,h.block⟩
 have aX:=hidF Z
 have U:=hidF aB
 clear hW Z aB aU aT Q R P
 go_loopw [5] (fun i wr=>∃j:Nat,j<=n.names.length/\i=.int .i64 j/\Hid (nmTo (bdS k) n.names j=true)/\Below W.heap.size W wr) (fun i _=>n.names.length-(intOf i).toNat)
 case atStart=>exact⟨0,Nat.zero_le _,rfl,rfl,aK.out _⟩
 case round=>
  obtain⟨j,hj,rfl,HA,B⟩:=hrel
  obtain⟨z0,z1,z2,z3,z4⟩:=qdM ((B.block w.heap.size aV).trans aX.out)
  by_cases hlt:j<n.names.length
  ·obtain⟨b,d,rfl,bB,G⟩:=aI (by intro h;rw[h]at hlt;simp at hlt)
   have bD:=hB b bB
   have ej:=(B.cell (p:=⟨b,d+j,none⟩) (by show b<W.heap.size;omega)).trans (G j hlt)
   have O:=(B.cell (p:=⟨b,d,none⟩) (by show b<W.heap.size;omega)).trans (G 0 (by omega))
   have aD:=aH n.names[j] (List.getElem_mem hlt)
   have aN:n.names.getD j ByteArray.empty=n.names[j]:=by simp[List.getD,hlt]
   have aO:n.names.getD 0 ByteArray.empty=n.names[0]:=by
    have h0:0<n.names.length:=by omega
    simp[List.getD,h0]
   have c:Hid (nmOk (bdS k) n.names j=(nameB n.names[j] && (!bdS k || freeB n.names[j]) && !(decide (0<j) && (n.names[j]==n.names[0])))):=by
    show _=_
    unfold nmOk
    rw[aN,aO]
   have t:Hid (nmOk (bdS k) n.names j=false->nmTo (bdS k) n.names n.names.length=false):=fun h=>qxV _ _ j _ hlt h
   have A:Hid (nmOk (bdS k) n.names j=true->nmTo (bdS k) n.names (j+1)=true):=fun h=>by rw[xbE,HA.out,h];rfl
   have aE:=qcL n.names[j] n.names[0]
   have aF:j=0->n.names[j]=n.names[0]:=fun h=>by subst h;rfl
   have z:Hid (∀w,Calls prog 40 #[.string n.names[j]] w _):=fun w=>qdP n.names[j] w aD
   have u:Hid (∀W',Below wr.heap.size wr W'->Calls prog 38 #[.string n.names[j]] W' fun e w'=>e=.returned (.bool (freeB n.names[j]))/\Below wr.heap.size wr w' /\ w'.cell? ⟨w.heap.size,0,none⟩=some (.int .i64 (k:Int))/\w'.cell? ⟨w.heap.size,3,none⟩=some (.slice (some ⟨b,d,none⟩) n.names.length nc)/\w'.cell? ⟨b,d+j,none⟩=some (.string n.names[j])/\w'.cell? ⟨b,d,none⟩=some (.string n.names[0])):=by
    intro W' aR
    refine (qfF n.names[j] W' aD).mono ?_
    rintro e w' ⟨rfl,hb⟩
    have J:Below wr.heap.size wr w':=aR.trans (hb.mono aR.size)
    have hz:=B.size
    exact⟨rfl,J,(J.cell (p:=⟨w.heap.size,0,none⟩) (by show w.heap.size<_;omega)).trans z0,(J.cell (p:=⟨w.heap.size,3,none⟩) (by show w.heap.size<_;omega)).trans z3,(J.cell (p:=⟨b,d+j,none⟩) (by show b<_;omega)).trans ej,(J.cell (p:=⟨b,d,none⟩) (by show b<_;omega)).trans O⟩
   have l:=hidF (U.out.trans (B.mono U.out.size))
   have F:=hidF B
   have X:=aL.out
   have aY:j=0∨j=1:=by have h2:=qiD k hk44;have h3:=aC.out;omega
   have hD:Below wr.heap.size wr wr.drew:=(Below.refl _ _).drew
   have bF:=qqN
   have bG:1<=n.names.length:=by omega
   clear aI G aH aD aN aO B aL z1 z2 z4 _hl4 aJ aC
   rcases aY with rfl|rfl
   ·have bE:=aF rfl
    clear aF
    generalize n.names[0]=x at *
    clear O aE
    rw[Nat.add_zero]at ej
    simp only[Nat.add_zero]at u
    obtain⟨y,hy⟩:∃y,y=x:=⟨_,rfl⟩
    have O:wr.cell? ⟨b,d,none⟩=some (.string y):=by rw[hy];exact ej
    generalize bdS k=bd at *
    cases hnm:nameB x with
    | false=>
     rw[hnm]at z c
     have o:Hid (nmTo bd n.names n.names.length=false):=t.out (by rw[c.out];rfl)
     clear u t A c hD
     go_wp2_with fail
     go_quiet (first|(go_at_call 40;refine Calls.quiet_of_same (z.out _))|(go_at_call 27;refine Calls.quiet_of_same (D.out _)))
     go_wp2_with fail
     go_ret
     exact⟨qaD (by rw[E.out,o.out];rfl),aM.out _ _ l.out⟩
    | true=>
     rw[hnm]at z c
     cases hbdv:bd with
     | false=>
      subst hbdv
      have L:Hid (nmTo false n.names (0+1)=true):=A.out (by rw[c.out];rfl)
      clear u t A c hD X
      go_wp2_with fail
      go_quiet (first|(go_at_call 40;refine Calls.quiet_of_same (z.out _))|(go_at_call 27;refine Calls.quiet_of_same (D.out _)))
      go_wp2_with fail
      go_roundw
      case rel=>exact⟨0+1,by omega,by go_num,L,aW.out _ _ F.out⟩
      case measure=>simp[intOf];omega
     | true=>
      subst hbdv
      clear X
      subst hy
      cases hfr:freeB y with
      | false=>
       rw[hfr]at u c
       have o:Hid (nmTo true n.names n.names.length=false):=t.out (by rw[c.out];rfl)
       clear t A c
       go_wp2_with fail
       refine wp_region_held_drew (S:=(fun w'=>w'.cell? ⟨w.heap.size,0,none⟩=some (.int .i64 (k:Int))/\w'.cell? ⟨w.heap.size,3,none⟩=some (.slice (some ⟨b,d,none⟩) n.names.length nc)/\w'.cell? ⟨b,d,none⟩=some (.string y)/\w'.cell? ⟨b,d,none⟩=some (.string y))) (by kernel_rfl) (by exact⟨z0,z3,O,O⟩) (fun hHeld=>?_)
       refine tk 0 ?_
       refine tk 1 ?_
       refine tk 2 ?_
       refine tk 3 ?_
       refine tk 4 ?_
       refine wpAnyH_ready (rs:=[5]) (by kernel_rfl) (by simp) ?_
       refine AllReadyH.cons rfl (fun K hK=>?_) AllReadyH.nil
       go_simp
       go_at_call 40
       refine (z.out _).mono ?_
       rintro e H ⟨rfl,rfl⟩
       refine hK.out _ _ (hHeld) (fun hHeld=>?_)
       clear hK K
       refine tk 6 ?_
       refine tk 7 ?_
       refine tk 8 ?_
       refine tk 9 ?_
       refine wpAnyH_ready (rs:=[10]) (by kernel_rfl) (by simp) ?_
       refine AllReadyH.cons rfl (fun K hK=>?_) AllReadyH.nil
       go_simp
       go_at_call 27
       refine (D.out _).mono ?_
       rintro e H ⟨rfl,rfl⟩
       refine hK.out _ _ (hHeld) (fun hHeld=>?_)
       clear hK K
       refine tk 11 ?_
       refine tk 12 ?_
       refine tk 13 ?_
       refine tk 14 ?_
       refine tk 15 ?_
       refine tk 16 ?_
       refine wpAnyH_ready (rs:=[17]) (by kernel_rfl) (by simp) ?_
       refine AllReadyH.cons rfl (fun K hK=>?_) AllReadyH.nil
       go_simp
       go_at_call 38
       refine (u.out _ hD).mono ?_
       rintro e w2 ⟨rfl,f,r⟩
       refine hK.out _ _ (r) (fun hHeld=>?_)
       clear hK K
       refine tk 18 ?_
       refine tk 19 ?_
       refine tk 20 ?_
       refine tk 21 ?_
       refine ts 22 ?_
       refine ts 23 ?_
       refine ts 24 ?_
       refine ts 25 ?_
       refine ts 26 ?_
       refine ts 27 ?_
       refine ts 28 ?_
       refine ts 29 ?_
       refine ts 30 ?_
       refine ts 31 ?_
       refine ts 32 ?_
       refine ts 33 ?_
       refine ts 34 ?_
       refine ts 35 ?_
       refine tk 36 ?_
       refine wpAnyH_done (by kernel_rfl) ?_ _
       go_simp
       all_goals
        have v:=hidF (l.out.trans (f.mono l.out.size))
        clear f r
        go_wp2_with fail
        go_ret
        exact⟨qaD (by rw[E.out,o.out];rfl),v.out⟩
      | true=>
       rw[hfr]at u c
       have L:Hid (nmTo true n.names (0+1)=true):=A.out (by rw[c.out];rfl)
       clear t A c
       go_wp2_with fail
       refine wp_region_held_drew (S:=(fun w'=>w'.cell? ⟨w.heap.size,0,none⟩=some (.int .i64 (k:Int))/\w'.cell? ⟨w.heap.size,3,none⟩=some (.slice (some ⟨b,d,none⟩) n.names.length nc)/\w'.cell? ⟨b,d,none⟩=some (.string y)/\w'.cell? ⟨b,d,none⟩=some (.string y))) (by kernel_rfl) (by exact⟨z0,z3,O,O⟩) (fun hHeld=>?_)
       refine tk 0 ?_
       refine tk 1 ?_
       refine tk 2 ?_
       refine tk 3 ?_
       refine tk 4 ?_
       refine wpAnyH_ready (rs:=[5]) (by kernel_rfl) (by simp) ?_
       refine AllReadyH.cons rfl (fun K hK=>?_) AllReadyH.nil
       go_simp
       go_at_call 40
       refine (z.out _).mono ?_
       rintro e H ⟨rfl,rfl⟩
       refine hK.out _ _ (hHeld) (fun hHeld=>?_)
       clear hK K
       refine tk 6 ?_
       refine tk 7 ?_
       refine tk 8 ?_
       refine tk 9 ?_
       refine wpAnyH_ready (rs:=[10]) (by kernel_rfl) (by simp) ?_
       refine AllReadyH.cons rfl (fun K hK=>?_) AllReadyH.nil
       go_simp
       go_at_call 27
       refine (D.out _).mono ?_
       rintro e H ⟨rfl,rfl⟩
       refine hK.out _ _ (hHeld) (fun hHeld=>?_)
       clear hK K
       refine tk 11 ?_
       refine tk 12 ?_
       refine tk 13 ?_
       refine tk 14 ?_
       refine tk 15 ?_
       refine tk 16 ?_
       refine wpAnyH_ready (rs:=[17]) (by kernel_rfl) (by simp) ?_
       refine AllReadyH.cons rfl (fun K hK=>?_) AllReadyH.nil
       go_simp
       go_at_call 38
       refine (u.out _ hD).mono ?_
       rintro e w2 ⟨rfl,f,r⟩
       refine hK.out _ _ (r) (fun hHeld=>?_)
       clear hK K
       refine tk 18 ?_
       refine tk 19 ?_
       refine tk 20 ?_
       refine tk 21 ?_
       refine tk 22 ?_
       refine tk 23 ?_
       refine tk 24 ?_
       refine ts 25 ?_
       refine ts 26 ?_
       refine ts 27 ?_
       refine ts 28 ?_
       refine ts 29 ?_
       refine ts 30 ?_
       refine ts 31 ?_
       refine ts 32 ?_
       refine ts 33 ?_
       refine ts 34 ?_
       refine tk 35 ?_
       refine tk 36 ?_
       refine wpAnyH_done (by kernel_rfl) ?_ _
       go_simp
       all_goals
        have v:=hidF (F.out.trans (f.mono F.out.size))
        clear f r
        go_wp2_with fail
        go_roundw
        case rel=>exact⟨0+1,by omega,by go_num,L,v.out⟩
        case measure=>simp[intOf];omega
   ·generalize n.names[1]=x at *
    generalize n.names[0]=y at *
    clear aF
    generalize bdS k=bd at *
    cases hnm:nameB x with
    | false=>
     rw[hnm]at z c
     have o:Hid (nmTo bd n.names n.names.length=false):=t.out (by rw[c.out];rfl)
     clear u t A c hD
     go_wp2_with fail
     go_quiet (first|(go_at_call 40;refine Calls.quiet_of_same (z.out _))|(go_at_call 27;refine Calls.quiet_of_same (D.out _)))
     go_wp2_with fail
     go_ret
     exact⟨qaD (by rw[E.out,o.out];rfl),aM.out _ _ l.out⟩
    | true=>
     rw[hnm]at z c
     cases hbdv:bd with
     | false=>subst hbdv;exact absurd (X rfl) (by omega)
     | true=>
      subst hbdv
      clear X
      cases hfr:freeB x with
      | false=>
       rw[hfr]at u c
       have o:Hid (nmTo true n.names n.names.length=false):=t.out (by rw[c.out];rfl)
       clear t A c
       go_wp2_with fail
       refine wp_region_held_drew (S:=(fun w'=>w'.cell? ⟨w.heap.size,0,none⟩=some (.int .i64 (k:Int))/\w'.cell? ⟨w.heap.size,3,none⟩=some (.slice (some ⟨b,d,none⟩) n.names.length nc)/\w'.cell? ⟨b,d+1,none⟩=some (.string x)/\w'.cell? ⟨b,d,none⟩=some (.string y))) (by kernel_rfl) (by exact⟨z0,z3,ej,O⟩) (fun hHeld=>?_)
       refine tk 0 ?_
       refine tk 1 ?_
       refine tk 2 ?_
       refine tk 3 ?_
       refine tk 4 ?_
       refine wpAnyH_ready (rs:=[5]) (by kernel_rfl) (by simp) ?_
       refine AllReadyH.cons rfl (fun K hK=>?_) AllReadyH.nil
       go_simp
       go_at_call 40
       refine (z.out _).mono ?_
       rintro e H ⟨rfl,rfl⟩
       refine hK.out _ _ (hHeld) (fun hHeld=>?_)
       clear hK K
       refine tk 6 ?_
       refine tk 7 ?_
       refine tk 8 ?_
       refine tk 9 ?_
       refine wpAnyH_ready (rs:=[10]) (by kernel_rfl) (by simp) ?_
       refine AllReadyH.cons rfl (fun K hK=>?_) AllReadyH.nil
       go_simp
       go_at_call 27
       refine (D.out _).mono ?_
       rintro e H ⟨rfl,rfl⟩
       refine hK.out _ _ (hHeld) (fun hHeld=>?_)
       clear hK K
       refine tk 11 ?_
       refine tk 12 ?_
       refine tk 13 ?_
       refine tk 14 ?_
       refine tk 15 ?_
       refine tk 16 ?_
       refine wpAnyH_ready (rs:=[17]) (by kernel_rfl) (by simp) ?_
       refine AllReadyH.cons rfl (fun K hK=>?_) AllReadyH.nil
       go_simp
       go_at_call 38
       refine (u.out _ hD).mono ?_
       rintro e w2 ⟨rfl,f,r⟩
       refine hK.out _ _ (r) (fun hHeld=>?_)
       clear hK K
       refine tk 18 ?_
       refine tk 19 ?_
       refine tk 20 ?_
       refine tk 21 ?_
       refine ts 22 ?_
       refine ts 23 ?_
       refine ts 24 ?_
       refine ts 25 ?_
       refine ts 26 ?_
       refine ts 27 ?_
       refine ts 28 ?_
       refine ts 29 ?_
       refine ts 30 ?_
       refine ts 31 ?_
       refine ts 32 ?_
       refine ts 33 ?_
       refine ts 34 ?_
       refine ts 35 ?_
       refine tk 36 ?_
       refine wpAnyH_done (by kernel_rfl) ?_ _
       go_simp
       all_goals
        have v:=hidF (l.out.trans (f.mono l.out.size))
        clear f r
        go_wp2_with fail
        go_ret
        exact⟨qaD (by rw[E.out,o.out];rfl),v.out⟩
      | true=>
       rw[hfr]at u c
       cases hxy:(x==y) with
       | true=>
        rw[hxy]at c aE
        have o:Hid (nmTo true n.names n.names.length=false):=t.out (by rw[c.out];rfl)
        clear t A c
        go_wp2_with fail
        have aZ:0<n.names.length:=by omega
        refine wp_region_held_drew (S:=(fun w'=>w'.cell? ⟨w.heap.size,0,none⟩=some (.int .i64 (k:Int))/\w'.cell? ⟨w.heap.size,3,none⟩=some (.slice (some ⟨b,d,none⟩) n.names.length nc)/\w'.cell? ⟨b,d+1,none⟩=some (.string x)/\w'.cell? ⟨b,d,none⟩=some (.string y))) (by kernel_rfl) (by exact⟨z0,z3,ej,O⟩) (fun hHeld=>?_)
        refine tk 0 ?_
        refine tk 1 ?_
        refine tk 2 ?_
        refine tk 3 ?_
        refine tk 4 ?_
        refine wpAnyH_ready (rs:=[5]) (by kernel_rfl) (by simp) ?_
        refine AllReadyH.cons rfl (fun K hK=>?_) AllReadyH.nil
        go_simp
        go_at_call 40
        refine (z.out _).mono ?_
        rintro e H ⟨rfl,rfl⟩
        refine hK.out _ _ (hHeld) (fun hHeld=>?_)
        clear hK K
        refine tk 6 ?_
        refine tk 7 ?_
        refine tk 8 ?_
        refine tk 9 ?_
        refine wpAnyH_ready (rs:=[10]) (by kernel_rfl) (by simp) ?_
        refine AllReadyH.cons rfl (fun K hK=>?_) AllReadyH.nil
        go_simp
        go_at_call 27
        refine (D.out _).mono ?_
        rintro e H ⟨rfl,rfl⟩
        refine hK.out _ _ (hHeld) (fun hHeld=>?_)
        clear hK K
        refine tk 11 ?_
        refine tk 12 ?_
        refine tk 13 ?_
        refine tk 14 ?_
        refine tk 15 ?_
        refine tk 16 ?_
        refine wpAnyH_ready (rs:=[17]) (by kernel_rfl) (by simp) ?_
        refine AllReadyH.cons rfl (fun K hK=>?_) AllReadyH.nil
        go_simp
        go_at_call 38
        refine (u.out _ hD).mono ?_
        rintro e w2 ⟨rfl,f,r⟩
        refine hK.out _ _ (r) (fun hHeld=>?_)
        clear hK K
        refine tk 18 ?_
        refine tk 19 ?_
        refine tk 20 ?_
        refine tk 21 ?_
        refine tk 22 ?_
        refine tk 23 ?_
        refine tk 24 ?_
        refine tk 25 ?_
        refine tk 26 ?_
        refine tk 27 ?_
        refine tk 28 ?_
        refine tk 29 ?_
        refine tk 30 ?_
        refine tk 31 ?_
        refine tk 32 ?_
        refine tk 33 ?_
        refine tk 34 ?_
        refine tk 35 ?_
        refine tk 36 ?_
        refine wpAnyH_done (by kernel_rfl) ?_ _
        go_simp
        all_goals
         have v:=hidF (l.out.trans (f.mono l.out.size))
         clear f r
         go_wp2_with fail
         go_ret
         exact⟨qaD (by rw[E.out,o.out];rfl),v.out⟩
       | false=>
        rw[hxy]at c aE
        have L:Hid (nmTo true n.names (1+1)=true):=A.out (by rw[c.out];rfl)
        clear t A c
        go_wp2_with fail
        have aZ:0<n.names.length:=by omega
        refine wp_region_held_drew (S:=(fun w'=>w'.cell? ⟨w.heap.size,0,none⟩=some (.int .i64 (k:Int))/\w'.cell? ⟨w.heap.size,3,none⟩=some (.slice (some ⟨b,d,none⟩) n.names.length nc)/\w'.cell? ⟨b,d+1,none⟩=some (.string x)/\w'.cell? ⟨b,d,none⟩=some (.string y))) (by kernel_rfl) (by exact⟨z0,z3,ej,O⟩) (fun hHeld=>?_)
        refine tk 0 ?_
        refine tk 1 ?_
        refine tk 2 ?_
        refine tk 3 ?_
        refine tk 4 ?_
        refine wpAnyH_ready (rs:=[5]) (by kernel_rfl) (by simp) ?_
        refine AllReadyH.cons rfl (fun K hK=>?_) AllReadyH.nil
        go_simp
        go_at_call 40
        refine (z.out _).mono ?_
        rintro e H ⟨rfl,rfl⟩
        refine hK.out _ _ (hHeld) (fun hHeld=>?_)
        clear hK K
        refine tk 6 ?_
        refine tk 7 ?_
        refine tk 8 ?_
        refine tk 9 ?_
        refine wpAnyH_ready (rs:=[10]) (by kernel_rfl) (by simp) ?_
        refine AllReadyH.cons rfl (fun K hK=>?_) AllReadyH.nil
        go_simp
        go_at_call 27
        refine (D.out _).mono ?_
        rintro e H ⟨rfl,rfl⟩
        refine hK.out _ _ (hHeld) (fun hHeld=>?_)
        clear hK K
        refine tk 11 ?_
        refine tk 12 ?_
        refine tk 13 ?_
        refine tk 14 ?_
        refine tk 15 ?_
        refine tk 16 ?_
        refine wpAnyH_ready (rs:=[17]) (by kernel_rfl) (by simp) ?_
        refine AllReadyH.cons rfl (fun K hK=>?_) AllReadyH.nil
        go_simp
        go_at_call 38
        refine (u.out _ hD).mono ?_
        rintro e w2 ⟨rfl,f,r⟩
        refine hK.out _ _ (r) (fun hHeld=>?_)
        clear hK K
        refine tk 18 ?_
        refine tk 19 ?_
        refine tk 20 ?_
        refine tk 21 ?_
        refine tk 22 ?_
        refine tk 23 ?_
        refine tk 24 ?_
        refine tk 25 ?_
        refine tk 26 ?_
        refine tk 27 ?_
        refine tk 28 ?_
        refine tk 29 ?_
        refine tk 30 ?_
        refine tk 31 ?_
        refine tk 32 ?_
        refine tk 33 ?_
        refine tk 34 ?_
        refine tk 35 ?_
        refine tk 36 ?_
        refine wpAnyH_done (by kernel_rfl) ?_ _
        go_simp
        all_goals
         have v:=hidF (F.out.trans (f.mono F.out.size))
         clear f r
         go_wp2_with fail
         go_roundw
         case rel=>exact⟨1+1,by omega,by go_num,L,v.out⟩
         case measure=>simp[intOf];omega
  ·have aP:j=n.names.length:=by omega
   have M:Hid (preC n (preL k)=tailP n (preL k)):=by
    show _=_
    have:=HA.out
    rw[aP]at this
    rw[E.out,this,Bool.true_and]
   have l:=hidF (U.out.trans (B.mono U.out.size))
   have F:=hidF B
   have bH:=hidF hk
   clear aI aH aP HA E B
   by_cases c3:k=1∨k=2∨k=3
   ·have N:Hid (preC n (preL k)=qaO (k:Int) n.num n.text [] 0):=by
     show _=_
     rw[M.out,(qvX k (by omega) hk1).1]
     show qaO n.sort n.num n.text [] 0=_
     rw[hk]
    have aQ:n.text.size<=maxLen:=Nat.le_trans hx (by decide)
    have Y:Hid (∀w,Calls prog 96 #[.agg #[.int .i64 (k:Int),.int .i64 n.num,.string n.text,.slice none 0 0,.slice none 0 0]] w fun e w'=>e=.returned (.bool (qaO (k:Int) n.num n.text [] 0))/\Below w.heap.size w w'):=fun w=>
     qlX (k:Int) n.num n.text [] none 0 0 w none 0 aQ (fun _=>False) ⟨none,0,rfl,by simp[maxLen],fun s hs=>by simp at hs,fun h=>absurd rfl h⟩ (fun _ h=>h.elim)
    clear aQ
    rcases c3 with rfl|rfl|rfl
    all_goals
     go_wp2_with fail
     refine (Y.out _).mono ?_
     rintro e w2 ⟨rfl,f⟩
     have v:=hidF (l.out.trans (f.mono l.out.size))
     clear f Y
     go_wp2_with fail
     go_ret
     exact⟨qaD N.out.symm,v.out⟩
   have d1:((k:Int)==1)=false:=by simp;omega
   have d2:((k:Int)==2)=false:=by simp;omega
   have d3:((k:Int)==3)=false:=by simp;omega
   by_cases c5:k=5∨k=6
   ·have N:Hid (preC n (preL k)=((n.num==0) && kindB n.text)):=by
     show _=_
     rw[M.out]
     rcases c5 with rfl|rfl<;>rfl
    have Y:Hid (∀w,Calls prog 28 #[.string n.text] w fun e w'=>Below w.heap.size w w' /\ ∃(s:Int)(a1 a2:Option Addr)(l1 l2 k1 k2:Nat),e=.returned (.tuple #[.agg #[.int .i64 s,.slice a1 l1 k1,.slice a2 l2 k2],.bool (kindB n.text)])):=by
     intro w
     refine (qjJ n.text (n.text.size+7) (by omega) hx w).mono ?_
     rintro e w' ⟨hb,c0,c1,c2,rfl,bC⟩
     refine⟨hb,?_⟩
     obtain⟨s,a1,l1,k1,a2,l2,k2,rfl,rfl,rfl⟩:=bC.shape
     exact⟨s,a1,a2,l1,l2,k1,k2,rfl⟩
    have HZ:Hid (∀w2,Below wr.heap.size wr w2->w2.cell? ⟨w.heap.size,1,none⟩=some (.int .i64 n.num)):=fun w2 h2=>(h2.cell (p:=⟨w.heap.size,1,none⟩) (by show w.heap.size<_;have:=F.out.size;omega)).trans z1
    generalize kindB n.text=ok at *
    cases hnz:(n.num==0)
    all_goals
     rw[hnz]at N
     rcases c5 with rfl|rfl
     all_goals
      go_wp2_with fail
      refine (Y.out _).mono ?_
      rintro e w2 ⟨f,s,a1,a2,l1,l2,k1,k2,rfl⟩
      have aG:=f.alloc f.size (.cells #[.int .i64 s,.slice a1 l1 k1,.slice a2 l2 k2] 55)
      have y1:=HZ.out _ aG
      have v:=hidF (l.out.trans (aG.mono l.out.size))
      clear f aG Y
      go_wp2_with fail
      go_ret
      exact⟨qaD (by rw[N.out];rfl),v.out⟩
   have d5:((k:Int)==5)=false:=by simp;omega
   have d6:((k:Int)==6)=false:=by simp;omega
   have bI:(n.text.toList==[])=n.text.toList.isEmpty:=by cases n.text.toList<;>rfl
   by_cases c37:k=37
   ·have N:Hid (preC n (preL k)=(decide (0<=n.num/\n.num<=99) && n.text.toList.isEmpty)):=by
     show _=_
     rw[M.out,c37]
     show (decide (lst n.sort.toNat<=n.num/\n.num<=mst n.sort.toNat) && _)=_
     rw[hk,c37];rfl
    have Y:Hid (∀w,Calls prog 45 #[.int .i64 n.num,.int .i64 0,.int .i64 99] w _):=fun w=>qcJ n.num 0 99 w
    generalize n.text.toList.isEmpty=em at *
    generalize decide (0<=n.num/\n.num<=99)=ok at *
    cases ok<;>cases em
    all_goals
     subst c37
     go_wp2_with fail
     refine (Y.out _).mono ?_
     rintro e w2 ⟨rfl,rfl⟩
     go_wp2_with fail
     go_ret
     exact⟨qaD (by rw[N.out];rfl),l.out⟩
   by_cases c39:k=39
   ·have N:Hid (preC n (preL k)=(decide (1<=n.num/\n.num<=12) && n.text.toList.isEmpty)):=by
     show _=_
     rw[M.out,c39]
     show (decide (lst n.sort.toNat<=n.num/\n.num<=mst n.sort.toNat) && _)=_
     rw[hk,c39];rfl
    have Y:Hid (∀w,Calls prog 45 #[.int .i64 n.num,.int .i64 1,.int .i64 12] w _):=fun w=>qcJ n.num 1 12 w
    generalize n.text.toList.isEmpty=em at *
    generalize decide (1<=n.num/\n.num<=12)=ok at *
    cases ok<;>cases em
    all_goals
     subst c39
     go_wp2_with fail
     refine (Y.out _).mono ?_
     rintro e w2 ⟨rfl,rfl⟩
     go_wp2_with fail
     go_ret
     exact⟨qaD (by rw[N.out];rfl),l.out⟩
   have bJ:((k:Int)==37)=false:=by simp;omega
   have bK:((k:Int)==39)=false:=by simp;omega
   have N:Hid (preC n (preL k)=((n.num==0) && n.text.toList.isEmpty)):=by
    show _=_
    rw[M.out]
    rcases xhD k hk44 with e|e|e|e|e|e|e|e|e|e|e|e|e
    all_goals first|(exfalso;omega)|(rw[e];rfl)
   generalize n.text.toList.isEmpty=em at *
   cases hnz:(n.num==0)<;>cases em
   all_goals
    rw[hnz]at N
    go_wp2_with fail
    go_ret
    exact⟨qaD (by rw[N.out];rfl),l.out⟩
end Go.Proofs.YtelogmjfekhmpaaGreatDoor
