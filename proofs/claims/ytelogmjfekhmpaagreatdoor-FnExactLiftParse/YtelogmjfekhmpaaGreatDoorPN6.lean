import Derived.Test.YtelogmjfekhmpaaGreatDoorPN3
import Derived.Test.YtelogmjfekhmpaaGreatDoorKImplRead
namespace Go.Proofs.YtelogmjfekhmpaaGreatDoor
set_option maxRecDepth 100000
set_option maxHeartbeats 16000000
open Go.RowKit
theorem PSt.setNum {B R X Y bk m:Nat} {it:Obj} {wv:Value} {ws:List ByteArray} {w0 w:World} {n:Nd (T m)} {a c:Nat} {na:Option Addr} {nc:Nat} {ka:Option Addr} {kc:Nat} (h:PSt B R X Y it bk m wv ws w0 w n a c na nc ka kc) (v:Int):PSt B R X Y it bk m wv ws w0 (w.setCell ⟨X,1,none⟩ (.int .i64 v)) ⟨n.sort,v,n.text,n.names,n.kids⟩ a c na nc ka kc:=by
 obtain⟨a0,c0,hr⟩:=h.rdr0
 have hM:=h.many.put (o:=1) (v:=.int .i64 v) (nm':=v) (tx':=n.text) h.wx (.inl ⟨rfl,rfl,rfl⟩)
 exact⟨hM,hr.keep hM.near ((Below.heap_setCell _ _ _ _ (by show R≠X;have:=h.rx;omega)).trans h.rdr.box),⟨a0,c0,hr⟩,h.laid,h.br,h.rx,h.wx,h.few,h.xy,(Below.heap_setCell _ _ _ _ (by show Y≠X;have:=h.xy;omega)).trans h.iter⟩
theorem PSt.setText {B R X Y bk m:Nat} {it:Obj} {wv:Value} {ws:List ByteArray} {w0 w:World} {n:Nd (T m)} {a c:Nat} {na:Option Addr} {nc:Nat} {ka:Option Addr} {kc:Nat} (h:PSt B R X Y it bk m wv ws w0 w n a c na nc ka kc) (v:ByteArray):PSt B R X Y it bk m wv ws w0 (w.setCell ⟨X,2,none⟩ (.string v)) ⟨n.sort,n.num,v,n.names,n.kids⟩ a c na nc ka kc:=by
 obtain⟨a0,c0,hr⟩:=h.rdr0
 have hM:=h.many.put (o:=2) (v:=.string v) (nm':=n.num) (tx':=v) h.wx (.inr ⟨rfl,rfl,rfl⟩)
 exact⟨hM,hr.keep hM.near ((Below.heap_setCell _ _ _ _ (by show R≠X;have:=h.rx;omega)).trans h.rdr.box),⟨a0,c0,hr⟩,h.laid,h.br,h.rx,h.wx,h.few,h.xy,(Below.heap_setCell _ _ _ _ (by show Y≠X;have:=h.xy;omega)).trans h.iter⟩
theorem xhO (M:Nat) {B R X Y bk m:Nat} {it:Obj} {wv:Value} {ws:List ByteArray} {w0 w:World} {n:Nd (T m)} {a c:Nat} {na:Option Addr} {nc:Nat} {ka:Option Addr} {kc:Nat} (rk:Bool->Nat->Nat->Rd3 (T m)) (k:Nat) (hk:n.sort=(k:Int)) (hk44:k<44) (d:Int) (h:PSt B R X Y it bk m wv ws w0 w n a c na nc ka kc) :
  Calls Tryz.prog 69 #[.pointer (some ⟨R,0,none⟩),.pointer (some ⟨X,0,none⟩),.int .i32 35,.int .i64 d] w (qaY B R X Y it bk m wv ws w0 (stepR M rk ws 35 n a c)):=by
 have aI:n.sort.toNat=k:=by omega
 have HS:Hid (stepR M rk ws 35 n a c=match ws[a]? with|none=>.error (2,a)|some s=>match numOf s.data.toList with|some v=>if lst k<=v/\v<=mst k then .ok (⟨n.sort,v,n.text,n.names,n.kids⟩,a+1,c) else .error (2,a)|none=>.error (2,a)):=by
  show _=_
  rw[<- aI]
  unfold stepR
  rw[if_neg (by decide),if_neg (by decide)]
  cases ws[a]? with
  | none=>rfl
  | some s=>
   dsimp only
   rw[if_neg (by decide),if_pos rfl]
   cases numOf s.data.toList <;> rfl
 have aQ:=h.many.lt
 have aR:=h.rx
 have aS:=h.rdr.lt
 have HH:=Lib.hid h
 by_cases ha:a<ws.length
 case neg=>
  have HW:=Lib.hid (qjG h.rdr ha)
  have HP:Hid (∀ k,qaY B R X Y it bk m wv ws w0 (stepR M rk ws 35 n a c) (.panicked (qbV 2 a)) (w.drewN k)):=fun k=>.inr ⟨2,a,by rw[HS.out,List.getElem?_eq_none (by omega)],rfl,h.many.near.trans (qaK (Near.refl R w) k)⟩
  clear h HS HH ha
  go_enter Tryz.func69,Tryz.ntmps69
  go_wp2_with fail
  refine HW.out.mono ?_
  rintro e w1 ⟨rfl,k,rfl⟩
  exact⟨rfl,HP.out k⟩
 obtain⟨s,aF⟩:∃ s,ws[a]=s:=⟨_,rfl⟩
 have aT:s.size<=3000:=by rw[<- aF];exact h.rdr.short _ (List.getElem_mem ha)
 have aA:Hid (stepR M rk ws 35 n a c=match numOf s.data.toList with|some v=>if lst k<=v/\v<=mst k then .ok (⟨n.sort,v,n.text,n.names,n.kids⟩,a+1,c) else .error (2,a)|none=>.error (2,a)):=by
  show _=_
  rw[HS.out,List.getElem?_eq_getElem ha,aF]
 have HW:Hid (Calls Tryz.prog 66 #[.pointer (some ⟨R,0,none⟩)] w fun e w'=>e=.returned (.string s)/\∃ n,w'=w.drewN n):=by
  have:=qgF h.rdr ha
  rw[aF]at this
  exact this
 have aB:Hid (∀ j,Calls Tryz.prog 86 #[.string s] (w.drewN j) fun e w'=>PSt B R X Y it bk m wv ws w0 w' n a c na nc ka kc/\((∃ v,numOf s.data.toList=some v/\e=.returned (.tuple #[.int .i64 v,.bool true]))∨(numOf s.data.toList=none/\e=.returned (.tuple #[.int .i64 0,.bool false])))):=fun j=>by
  have h1:=h.on (qaK (Near.refl R w) j) (h.rdr.drewN j) (Nat.le_refl _)
  refine (qmN B s (w.drewN j) h1.laidW (by have:=h.br;have:=h.rdr.lt;show B<=w.heap.size;omega) (by omega)).mono ?_
  rintro e w' ⟨hb,hc⟩
  exact⟨h1.on (Near.of_below hb) (h1.rdr.same hb) (Nat.le_refl _),hc⟩
 have aL:Hid (∃ h:a<ws.length,ws[a]=s):=⟨ha,aF⟩
 clear h HS HH ha aF
 cases hv:numOf s.data.toList with
 | none=>
  rw[hv]at aA aB
  clear hv
  go_enter Tryz.func69,Tryz.ntmps69
  go_wp2_with fail
  refine HW.out.mono ?_
  rintro e w1 ⟨rfl,j,rfl⟩
  go_wp2_with fail
  refine (aB.out j).mono ?_
  rintro e V ⟨hV,⟨v,hc,-⟩|⟨-,rfl⟩⟩
  case inl=>cases hc
  have HD:Hid (Calls Tryz.prog 52 _ V.drew _):=qcG (hV.rdr.drewN 1) 2
  have HP:Hid (qaY B R X Y it bk m wv ws w0 (stepR M rk ws 35 n a c) (.panicked (qbV 2 a)) V.drew):=.inr ⟨2,a,aA.out,rfl,hV.many.near.trans (qaK (Near.refl R V) 1)⟩
  clear hV aB HW aA
  go_wp2_with fail
  refine wp_region_held_drew (S:=(fun _=>True)) (by kernel_rfl) (by exact trivial) (fun hHeld=>?_)
  refine wpAnyH_take (i:=0) (v:=?_) rfl (by kernel_rfl) (by kernel_rfl) (by kernel_rfl) (fun _ _ _ h=>h) (Or.inl ⟨by kernel_rfl,?_⟩) (by assumption) ?_
  rotate_left 1
  ·(intro wq hSw;(try dsimp only at hSw);go_simp;first|done|with_reducible rfl)
  refine wpAnyH_take (i:=1) (v:=?_) rfl (by kernel_rfl) (by kernel_rfl) (by kernel_rfl) (fun _ _ _ h=>h) (Or.inl ⟨by kernel_rfl,?_⟩) (by assumption) ?_
  rotate_left 1
  ·(intro wq hSw;(try dsimp only at hSw);go_simp;first|done|with_reducible rfl)
  refine wpAnyH_take (i:=2) (v:=?_) rfl (by kernel_rfl) (by kernel_rfl) (by kernel_rfl) (fun _ _ _ h=>h) (Or.inl ⟨by kernel_rfl,?_⟩) (by assumption) ?_
  rotate_left 1
  ·(intro wq hSw;(try dsimp only at hSw);go_simp;first|done|with_reducible rfl)
  refine wpAnyH_take (i:=3) (v:=undef) rfl (by kernel_rfl) (by kernel_rfl) (by kernel_rfl) (fun _ _ _ h=>h) (Or.inr ⟨by kernel_rfl,rfl⟩) (by assumption) ?_
  refine wpAnyH_take (i:=4) (v:=undef) rfl (by kernel_rfl) (by kernel_rfl) (by kernel_rfl) (fun _ _ _ h=>h) (Or.inr ⟨by kernel_rfl,rfl⟩) (by assumption) ?_
  refine wpAnyH_take (i:=5) (v:=undef) rfl (by kernel_rfl) (by kernel_rfl) (by kernel_rfl) (fun _ _ _ h=>h) (Or.inr ⟨by kernel_rfl,rfl⟩) (by assumption) ?_
  refine wpAnyH_take (i:=6) (v:=undef) rfl (by kernel_rfl) (by kernel_rfl) (by kernel_rfl) (fun _ _ _ h=>h) (Or.inr ⟨by kernel_rfl,rfl⟩) (by assumption) ?_
  refine wpAnyH_take (i:=7) (v:=undef) rfl (by kernel_rfl) (by kernel_rfl) (by kernel_rfl) (fun _ _ _ h=>h) (Or.inr ⟨by kernel_rfl,rfl⟩) (by assumption) ?_
  refine wpAnyH_take (i:=8) (v:=undef) rfl (by kernel_rfl) (by kernel_rfl) (by kernel_rfl) (fun _ _ _ h=>h) (Or.inr ⟨by kernel_rfl,rfl⟩) (by assumption) ?_
  refine wpAnyH_take (i:=9) (v:=undef) rfl (by kernel_rfl) (by kernel_rfl) (by kernel_rfl) (fun _ _ _ h=>h) (Or.inr ⟨by kernel_rfl,rfl⟩) (by assumption) ?_
  refine wpAnyH_take (i:=10) (v:=undef) rfl (by kernel_rfl) (by kernel_rfl) (by kernel_rfl) (fun _ _ _ h=>h) (Or.inr ⟨by kernel_rfl,rfl⟩) (by assumption) ?_
  refine wpAnyH_take (i:=11) (v:=undef) rfl (by kernel_rfl) (by kernel_rfl) (by kernel_rfl) (fun _ _ _ h=>h) (Or.inr ⟨by kernel_rfl,rfl⟩) (by assumption) ?_
  refine wpAnyH_take (i:=12) (v:=undef) rfl (by kernel_rfl) (by kernel_rfl) (by kernel_rfl) (fun _ _ _ h=>h) (Or.inr ⟨by kernel_rfl,rfl⟩) (by assumption) ?_
  refine wpAnyH_take (i:=13) (v:=undef) rfl (by kernel_rfl) (by kernel_rfl) (by kernel_rfl) (fun _ _ _ h=>h) (Or.inr ⟨by kernel_rfl,rfl⟩) (by assumption) ?_
  refine wpAnyH_take (i:=14) (v:=undef) rfl (by kernel_rfl) (by kernel_rfl) (by kernel_rfl) (fun _ _ _ h=>h) (Or.inr ⟨by kernel_rfl,rfl⟩) (by assumption) ?_
  refine wpAnyH_take (i:=15) (v:=undef) rfl (by kernel_rfl) (by kernel_rfl) (by kernel_rfl) (fun _ _ _ h=>h) (Or.inr ⟨by kernel_rfl,rfl⟩) (by assumption) ?_
  refine wpAnyH_take (i:=16) (v:=undef) rfl (by kernel_rfl) (by kernel_rfl) (by kernel_rfl) (fun _ _ _ h=>h) (Or.inr ⟨by kernel_rfl,rfl⟩) (by assumption) ?_
  refine wpAnyH_take (i:=17) (v:=?_) rfl (by kernel_rfl) (by kernel_rfl) (by kernel_rfl) (fun _ _ _ h=>h) (Or.inl ⟨by kernel_rfl,?_⟩) (by assumption) ?_
  rotate_left 1
  ·(intro wq hSw;(try dsimp only at hSw);go_simp;first|done|with_reducible rfl)
  refine wpAnyH_ready (rs:=[18]) (by kernel_rfl) (by simp) ?_
  refine AllReadyH.cons rfl (fun K hK=>?_) AllReadyH.nil
  go_simp
  go_at_call 52
  refine HD.out.mono ?_
  rintro e w3 ⟨rfl,rfl⟩
  exact⟨rfl,HP.out⟩
 | some v=>
  rw[hv]at aA aB
  clear hv
  dsimp only at aA
  have HC:Hid (∀ w,Calls Tryz.prog 87 #[.agg #[.string (wrd k),.string (bs (prt k)),.int .i64 (lst k),.int .i64 (mst k)],.int .i64 v] w _):=fun w=>xbC (wrd k) (bs (prt k)) (lst k) (mst k) v w
  have aG:Hid (n.sort=(k:Int)/\k<44):=⟨hk,hk44⟩
  have aM:(k:Int)<44:=by omega
  by_cases hin:lst k<=v/\v<=mst k
  ·rw[if_pos hin]at aA
   rw[decide_eq_true hin]at HC
   clear hin hk hk44 aI
   go_enter Tryz.func69,Tryz.ntmps69
   go_wp2_with fail
   refine HW.out.mono ?_
   rintro e w1 ⟨rfl,j,rfl⟩
   go_wp2_with fail
   refine (aB.out j).mono ?_
   rintro e V ⟨hV,⟨v',hc,rfl⟩|⟨hc,-⟩⟩
   case inr=>cases hc
   cases hc
   have HV:=Lib.hid hV
   have aD:Hid (∀ W,Below V.drew.heap.size V.drew W->(W.cell? ⟨R,0,none⟩=some (.pointer (some ⟨bk,0,none⟩))/\W.cell? ⟨X,0,none⟩=some (.int .i64 (k:Int))/\W.cell? ⟨bk,k*4,none⟩=some (.string (wrd k))/\W.cell? ⟨bk,k*4+1,none⟩=some (.string (bs (prt k)))/\W.cell? ⟨bk,k*4+2,none⟩=some (.int .i64 (lst k))/\W.cell? ⟨bk,k*4+3,none⟩=some (.int .i64 (mst k)))):=fun W hb=>by
    have hP:=hV.on (Near.of_below (show Below V.heap.size V W from (Below.refl V.heap.size V).drew.trans hb)) (hV.rdr.same (show Below V.heap.size V W from (Below.refl V.heap.size V).drew.trans hb)) (Nat.le_refl _)
    obtain⟨b0,b1,b2,b3⟩:=hP.rdr.book k aG.out.2
    have x0:=(qaC hP.many.box).1.1
    rw[aG.out.1]at x0
    exact⟨hP.rdr.cells.1.1,x0,b0,b1,b2,b3⟩
   have aH:=aD.out V.drew (Below.refl _ _)
   clear hV aB HW
   go_wp2_with fail
   refine wp_region_held_drew (S:=(fun w'=>w'.cell? ⟨R,0,none⟩=some (.pointer (some ⟨bk,0,none⟩))/\w'.cell? ⟨X,0,none⟩=some (.int .i64 (k:Int))/\w'.cell? ⟨bk,k*4,none⟩=some (.string (wrd k))/\w'.cell? ⟨bk,k*4+1,none⟩=some (.string (bs (prt k)))/\w'.cell? ⟨bk,k*4+2,none⟩=some (.int .i64 (lst k))/\w'.cell? ⟨bk,k*4+3,none⟩=some (.int .i64 (mst k)))) (by kernel_rfl) (by exact aH) (fun hHeld=>?_)
   refine wpAnyH_take (i:=0) (v:=?_) rfl (by kernel_rfl) (by kernel_rfl) (by kernel_rfl) (fun _ _ _ h=>h) (Or.inl ⟨by kernel_rfl,?_⟩) (by assumption) ?_
   rotate_left 1
   ·(intro wq hSw;(try dsimp only at hSw);go_simp;first|done|with_reducible rfl)
   refine wpAnyH_take (i:=1) (v:=?_) rfl (by kernel_rfl) (by kernel_rfl) (by kernel_rfl) (fun _ _ _ h=>h) (Or.inl ⟨by kernel_rfl,?_⟩) (by assumption) ?_
   rotate_left 1
   ·(intro wq hSw;(try dsimp only at hSw);go_simp;first|done|with_reducible rfl)
   refine wpAnyH_take (i:=2) (v:=?_) rfl (by kernel_rfl) (by kernel_rfl) (by kernel_rfl) (fun _ _ _ h=>h) (Or.inl ⟨by kernel_rfl,?_⟩) (by assumption) ?_
   rotate_left 1
   ·(intro wq hSw;(try dsimp only at hSw);go_simp;first|done|with_reducible rfl)
   refine wpAnyH_take (i:=3) (v:=?_) rfl (by kernel_rfl) (by kernel_rfl) (by kernel_rfl) (fun _ _ _ h=>h) (Or.inl ⟨by kernel_rfl,?_⟩) (by assumption) ?_
   rotate_left 1
   ·(intro wq hSw;(try dsimp only at hSw);go_simp;first|done|with_reducible rfl)
   refine wpAnyH_take (i:=4) (v:=?_) rfl (by kernel_rfl) (by kernel_rfl) (by kernel_rfl) (fun _ _ _ h=>h) (Or.inl ⟨by kernel_rfl,?_⟩) (by assumption) ?_
   rotate_left 1
   ·(intro wq hSw;(try dsimp only at hSw);go_simp;first|done|with_reducible rfl)
   refine wpAnyH_take (i:=5) (v:=?_) rfl (by kernel_rfl) (by kernel_rfl) (by kernel_rfl) (fun _ _ _ h=>h) (Or.inl ⟨by kernel_rfl,?_⟩) (by assumption) ?_
   rotate_left 1
   ·(intro wq hSw;(try dsimp only at hSw);go_simp;first|done|with_reducible rfl)
   refine wpAnyH_take (i:=6) (v:=?_) rfl (by kernel_rfl) (by kernel_rfl) (by kernel_rfl) (fun _ _ _ h=>h) (Or.inl ⟨by kernel_rfl,?_⟩) (by assumption) ?_
   rotate_left 1
   ·(intro wq hSw;(try dsimp only at hSw);go_simp;first|done|with_reducible rfl)
   refine wpAnyH_take (i:=7) (v:=?_) rfl (by kernel_rfl) (by kernel_rfl) (by kernel_rfl) (fun _ _ _ h=>h) (Or.inl ⟨by kernel_rfl,?_⟩) (by assumption) ?_
   rotate_left 1
   ·(intro wq hSw;(try dsimp only at hSw);go_simp;first|done|with_reducible rfl)
   refine wpAnyH_take (i:=8) (v:=?_) rfl (by kernel_rfl) (by kernel_rfl) (by kernel_rfl) (fun _ _ _ h=>h) (Or.inl ⟨by kernel_rfl,?_⟩) (by assumption) ?_
   rotate_left 1
   ·(intro wq hSw;(try dsimp only at hSw);go_simp;first|done|with_reducible rfl)
   refine wpAnyH_take (i:=9) (v:=?_) rfl (by kernel_rfl) (by kernel_rfl) (by kernel_rfl) (fun _ _ _ h=>h) (Or.inl ⟨by kernel_rfl,?_⟩) (by assumption) ?_
   rotate_left 1
   ·(intro wq hSw;(try dsimp only at hSw);go_simp;first|done|with_reducible rfl)
   refine wpAnyH_take (i:=10) (v:=?_) rfl (by kernel_rfl) (by kernel_rfl) (by kernel_rfl) (fun _ _ _ h=>h) (Or.inl ⟨by kernel_rfl,?_⟩) (by assumption) ?_
   rotate_left 1
   ·(intro wq hSw;(try dsimp only at hSw);go_simp;first|done|with_reducible rfl)
   refine wpAnyH_take (i:=11) (v:=?_) rfl (by kernel_rfl) (by kernel_rfl) (by kernel_rfl) (fun _ _ _ h=>h) (Or.inl ⟨by kernel_rfl,?_⟩) (by assumption) ?_
   rotate_left 1
   ·(intro wq hSw;(try dsimp only at hSw);go_simp;first|done|with_reducible rfl)
   refine wpAnyH_take (i:=12) (v:=?_) rfl (by kernel_rfl) (by kernel_rfl) (by kernel_rfl) (fun _ _ _ h=>h) (Or.inl ⟨by kernel_rfl,?_⟩) (by assumption) ?_
   rotate_left 1
   ·(intro wq hSw;(try dsimp only at hSw);go_simp;first|done|with_reducible rfl)
   refine wpAnyH_take (i:=13) (v:=?_) rfl (by kernel_rfl) (by kernel_rfl) (by kernel_rfl) (fun _ _ _ h=>h) (Or.inl ⟨by kernel_rfl,?_⟩) (by assumption) ?_
   rotate_left 1
   ·(intro wq hSw;(try dsimp only at hSw);go_simp;first|done|with_reducible rfl)
   refine wpAnyH_take (i:=14) (v:=?_) rfl (by kernel_rfl) (by kernel_rfl) (by kernel_rfl) (fun _ _ _ h=>h) (Or.inl ⟨by kernel_rfl,?_⟩) (by assumption) ?_
   rotate_left 1
   ·(intro wq hSw;(try dsimp only at hSw);go_simp;first|done|with_reducible rfl)
   refine wpAnyH_take (i:=15) (v:=?_) rfl (by kernel_rfl) (by kernel_rfl) (by kernel_rfl) (fun _ _ _ h=>h) (Or.inl ⟨by kernel_rfl,?_⟩) (by assumption) ?_
   rotate_left 1
   ·(intro wq hSw;(try dsimp only at hSw);go_simp;first|done|with_reducible rfl)
   refine wpAnyH_ready (rs:=[16]) (by kernel_rfl) (by simp) ?_
   refine AllReadyH.cons rfl (fun K hK=>?_) AllReadyH.nil
   go_simp
   go_at_call 87
   refine (HC.out _).mono ?_
   rintro e w3 ⟨rfl,aC⟩
   have aE:=aD.out _ aC
   refine hK.out _ _ (aE) (fun hHeld=>?_)
   clear hK K
   refine wpAnyH_take (i:=17) (v:=?_) rfl (by kernel_rfl) (by kernel_rfl) (by kernel_rfl) (fun _ _ _ h=>h) (Or.inl ⟨by kernel_rfl,?_⟩) (by assumption) ?_
   rotate_left 1
   ·(intro wq hSw;(try dsimp only at hSw);go_simp;first|done|with_reducible rfl)
   refine wpAnyH_ready (rs:=[18]) (by kernel_rfl) (by simp) ?_
   refine AllReadyH.cons rfl (fun K hK=>?_) AllReadyH.nil
   go_simp
   go_at_call 52
   refine (qbM _ _ _).mono ?_
   rintro e w4 ⟨rfl,rfl⟩
   refine hK.out _ _ (aE) (fun hHeld=>?_)
   clear hK K
   refine wpAnyH_done (by kernel_rfl) ?_ _
   go_simp
   have aN:Near R V w4:=Near.of_below (show Below V.heap.size V w4 from (Below.refl V.heap.size V).drew.trans aC)
   have aJ:=HV.out.on aN (HV.out.rdr.same (show Below V.heap.size V w4 from (Below.refl V.heap.size V).drew.trans aC)) (Nat.le_refl _)
   obtain⟨⟨x0,x1,x2,x3,x4⟩,xf⟩:=qaC aJ.many.box
   have xf1:=xf 1
   have aK:=aJ.setNum v
   have aO:Hid (Calls Tryz.prog 68 #[.pointer (some ⟨R,0,none⟩)] (w4.setCell ⟨X,1,none⟩ (.int .i64 v)) fun e w'=>(∃ x,e=.returned (.string x))/\qaY B R X Y it bk m wv ws w0 (stepR M rk ws 35 n a c) (.returned (.tuple #[])) w'):=by
    obtain⟨hq,aU⟩:=aL.out
    refine (qfL aK.rdr hq).mono ?_
    rintro e w' ⟨rfl,hn,hr⟩
    exact⟨⟨_,rfl⟩,.inl ⟨_,_,_,_,_,_,_,aA.out,rfl,aK.on hn hr (by omega)⟩⟩
   clear aJ aK aN aC aE aH aD HV hHeld xf HC aL
   go_wp2_with fail
   refine aO.out.mono ?_
   rintro e w6 ⟨⟨x,rfl⟩,hF⟩
   have HF:=Lib.hid hF
   clear hF aO x0 x1 x2 x3 x4 xf1
   go_wp2_with fail
   exact bodyPost_end (results_none rfl _ _ _) rfl HF.out
  ·rw[if_neg hin]at aA
   rw[decide_eq_false hin]at HC
   clear hin hk hk44 aI
   go_enter Tryz.func69,Tryz.ntmps69
   go_wp2_with fail
   refine HW.out.mono ?_
   rintro e w1 ⟨rfl,j,rfl⟩
   go_wp2_with fail
   refine (aB.out j).mono ?_
   rintro e V ⟨hV,⟨v',hc,rfl⟩|⟨hc,-⟩⟩
   case inr=>cases hc
   cases hc
   have HV:=Lib.hid hV
   have aD:Hid (∀ W,Below V.drew.heap.size V.drew W->(W.cell? ⟨R,0,none⟩=some (.pointer (some ⟨bk,0,none⟩))/\W.cell? ⟨X,0,none⟩=some (.int .i64 (k:Int))/\W.cell? ⟨bk,k*4,none⟩=some (.string (wrd k))/\W.cell? ⟨bk,k*4+1,none⟩=some (.string (bs (prt k)))/\W.cell? ⟨bk,k*4+2,none⟩=some (.int .i64 (lst k))/\W.cell? ⟨bk,k*4+3,none⟩=some (.int .i64 (mst k)))):=fun W hb=>by
    have hP:=hV.on (Near.of_below (show Below V.heap.size V W from (Below.refl V.heap.size V).drew.trans hb)) (hV.rdr.same (show Below V.heap.size V W from (Below.refl V.heap.size V).drew.trans hb)) (Nat.le_refl _)
    obtain⟨b0,b1,b2,b3⟩:=hP.rdr.book k aG.out.2
    have x0:=(qaC hP.many.box).1.1
    rw[aG.out.1]at x0
    exact⟨hP.rdr.cells.1.1,x0,b0,b1,b2,b3⟩
   have aH:=aD.out V.drew (Below.refl _ _)
   clear hV aB HW
   go_wp2_with fail
   refine wp_region_held_drew (S:=(fun w'=>w'.cell? ⟨R,0,none⟩=some (.pointer (some ⟨bk,0,none⟩))/\w'.cell? ⟨X,0,none⟩=some (.int .i64 (k:Int))/\w'.cell? ⟨bk,k*4,none⟩=some (.string (wrd k))/\w'.cell? ⟨bk,k*4+1,none⟩=some (.string (bs (prt k)))/\w'.cell? ⟨bk,k*4+2,none⟩=some (.int .i64 (lst k))/\w'.cell? ⟨bk,k*4+3,none⟩=some (.int .i64 (mst k)))) (by kernel_rfl) (by exact aH) (fun hHeld=>?_)
   refine wpAnyH_take (i:=0) (v:=?_) rfl (by kernel_rfl) (by kernel_rfl) (by kernel_rfl) (fun _ _ _ h=>h) (Or.inl ⟨by kernel_rfl,?_⟩) (by assumption) ?_
   rotate_left 1
   ·(intro wq hSw;(try dsimp only at hSw);go_simp;first|done|with_reducible rfl)
   refine wpAnyH_take (i:=1) (v:=?_) rfl (by kernel_rfl) (by kernel_rfl) (by kernel_rfl) (fun _ _ _ h=>h) (Or.inl ⟨by kernel_rfl,?_⟩) (by assumption) ?_
   rotate_left 1
   ·(intro wq hSw;(try dsimp only at hSw);go_simp;first|done|with_reducible rfl)
   refine wpAnyH_take (i:=2) (v:=?_) rfl (by kernel_rfl) (by kernel_rfl) (by kernel_rfl) (fun _ _ _ h=>h) (Or.inl ⟨by kernel_rfl,?_⟩) (by assumption) ?_
   rotate_left 1
   ·(intro wq hSw;(try dsimp only at hSw);go_simp;first|done|with_reducible rfl)
   refine wpAnyH_take (i:=3) (v:=?_) rfl (by kernel_rfl) (by kernel_rfl) (by kernel_rfl) (fun _ _ _ h=>h) (Or.inl ⟨by kernel_rfl,?_⟩) (by assumption) ?_
   rotate_left 1
   ·(intro wq hSw;(try dsimp only at hSw);go_simp;first|done|with_reducible rfl)
   refine wpAnyH_take (i:=4) (v:=?_) rfl (by kernel_rfl) (by kernel_rfl) (by kernel_rfl) (fun _ _ _ h=>h) (Or.inl ⟨by kernel_rfl,?_⟩) (by assumption) ?_
   rotate_left 1
   ·(intro wq hSw;(try dsimp only at hSw);go_simp;first|done|with_reducible rfl)
   refine wpAnyH_take (i:=5) (v:=?_) rfl (by kernel_rfl) (by kernel_rfl) (by kernel_rfl) (fun _ _ _ h=>h) (Or.inl ⟨by kernel_rfl,?_⟩) (by assumption) ?_
   rotate_left 1
   ·(intro wq hSw;(try dsimp only at hSw);go_simp;first|done|with_reducible rfl)
   refine wpAnyH_take (i:=6) (v:=?_) rfl (by kernel_rfl) (by kernel_rfl) (by kernel_rfl) (fun _ _ _ h=>h) (Or.inl ⟨by kernel_rfl,?_⟩) (by assumption) ?_
   rotate_left 1
   ·(intro wq hSw;(try dsimp only at hSw);go_simp;first|done|with_reducible rfl)
   refine wpAnyH_take (i:=7) (v:=?_) rfl (by kernel_rfl) (by kernel_rfl) (by kernel_rfl) (fun _ _ _ h=>h) (Or.inl ⟨by kernel_rfl,?_⟩) (by assumption) ?_
   rotate_left 1
   ·(intro wq hSw;(try dsimp only at hSw);go_simp;first|done|with_reducible rfl)
   refine wpAnyH_take (i:=8) (v:=?_) rfl (by kernel_rfl) (by kernel_rfl) (by kernel_rfl) (fun _ _ _ h=>h) (Or.inl ⟨by kernel_rfl,?_⟩) (by assumption) ?_
   rotate_left 1
   ·(intro wq hSw;(try dsimp only at hSw);go_simp;first|done|with_reducible rfl)
   refine wpAnyH_take (i:=9) (v:=?_) rfl (by kernel_rfl) (by kernel_rfl) (by kernel_rfl) (fun _ _ _ h=>h) (Or.inl ⟨by kernel_rfl,?_⟩) (by assumption) ?_
   rotate_left 1
   ·(intro wq hSw;(try dsimp only at hSw);go_simp;first|done|with_reducible rfl)
   refine wpAnyH_take (i:=10) (v:=?_) rfl (by kernel_rfl) (by kernel_rfl) (by kernel_rfl) (fun _ _ _ h=>h) (Or.inl ⟨by kernel_rfl,?_⟩) (by assumption) ?_
   rotate_left 1
   ·(intro wq hSw;(try dsimp only at hSw);go_simp;first|done|with_reducible rfl)
   refine wpAnyH_take (i:=11) (v:=?_) rfl (by kernel_rfl) (by kernel_rfl) (by kernel_rfl) (fun _ _ _ h=>h) (Or.inl ⟨by kernel_rfl,?_⟩) (by assumption) ?_
   rotate_left 1
   ·(intro wq hSw;(try dsimp only at hSw);go_simp;first|done|with_reducible rfl)
   refine wpAnyH_take (i:=12) (v:=?_) rfl (by kernel_rfl) (by kernel_rfl) (by kernel_rfl) (fun _ _ _ h=>h) (Or.inl ⟨by kernel_rfl,?_⟩) (by assumption) ?_
   rotate_left 1
   ·(intro wq hSw;(try dsimp only at hSw);go_simp;first|done|with_reducible rfl)
   refine wpAnyH_take (i:=13) (v:=?_) rfl (by kernel_rfl) (by kernel_rfl) (by kernel_rfl) (fun _ _ _ h=>h) (Or.inl ⟨by kernel_rfl,?_⟩) (by assumption) ?_
   rotate_left 1
   ·(intro wq hSw;(try dsimp only at hSw);go_simp;first|done|with_reducible rfl)
   refine wpAnyH_take (i:=14) (v:=?_) rfl (by kernel_rfl) (by kernel_rfl) (by kernel_rfl) (fun _ _ _ h=>h) (Or.inl ⟨by kernel_rfl,?_⟩) (by assumption) ?_
   rotate_left 1
   ·(intro wq hSw;(try dsimp only at hSw);go_simp;first|done|with_reducible rfl)
   refine wpAnyH_take (i:=15) (v:=?_) rfl (by kernel_rfl) (by kernel_rfl) (by kernel_rfl) (fun _ _ _ h=>h) (Or.inl ⟨by kernel_rfl,?_⟩) (by assumption) ?_
   rotate_left 1
   ·(intro wq hSw;(try dsimp only at hSw);go_simp;first|done|with_reducible rfl)
   refine wpAnyH_ready (rs:=[16]) (by kernel_rfl) (by simp) ?_
   refine AllReadyH.cons rfl (fun K hK=>?_) AllReadyH.nil
   go_simp
   go_at_call 87
   refine (HC.out _).mono ?_
   rintro e w3 ⟨rfl,aC⟩
   have aE:=aD.out _ aC
   refine hK.out _ _ (aE) (fun hHeld=>?_)
   clear hK K
   refine wpAnyH_take (i:=17) (v:=?_) rfl (by kernel_rfl) (by kernel_rfl) (by kernel_rfl) (fun _ _ _ h=>h) (Or.inl ⟨by kernel_rfl,?_⟩) (by assumption) ?_
   rotate_left 1
   ·(intro wq hSw;(try dsimp only at hSw);go_simp;first|done|with_reducible rfl)
   refine wpAnyH_ready (rs:=[18]) (by kernel_rfl) (by simp) ?_
   refine AllReadyH.cons rfl (fun K hK=>?_) AllReadyH.nil
   go_simp
   have aP:Below V.heap.size V w3:=(Below.refl V.heap.size V).drew.trans aC
   have HD:=Lib.hid (qcG (HV.out.rdr.same aP) 2)
   have HQ:Hid (qaY B R X Y it bk m wv ws w0 (stepR M rk ws 35 n a c) (.panicked (qbV 2 a)) w3):=.inr ⟨2,a,aA.out,rfl,HV.out.many.near.trans (Near.of_below aP)⟩
   go_at_call 52
   refine HD.out.mono ?_
   rintro e w5 ⟨rfl,rfl⟩
   exact⟨rfl,HQ.out⟩
end Go.Proofs.YtelogmjfekhmpaaGreatDoor
