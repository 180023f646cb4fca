/-
  Several texts in one, in their order.
-/
import Derived.Test.YtmjhcgjhlakceaaGreatDoorDE0
import Derived.Test.YtmjhcgjhlakceaaGreatDoorB27
import Derived.Test.YtmjhcgjhlakceaaGreatDoorB31
import Derived.Test.YtmjhcgjhlakceaaGreatDoorB23
import Derived.Test.YtmjhcgjhlakceaaGreatDoorB20
import Derived.Test.YtmjhcgjhlakceaaGreatDoorB15
import Derived.Test.YtmjhcgjhlakceaaGreatDoorB29
import Derived.Test.YtmjhcgjhlakceaaGreatDoorB30
import Derived.Test.YtmjhcgjhlakceaaGreatDoorB8
import Derived.Test.YtmjhcgjhlakceaaGreatDoorB22
import Derived.Test.YtmjhcgjhlakceaaGreatDoorEC12
import Derived.Test.YtmjhcgjhlakceaaGreatDoorB32
import Derived.Test.YtmjhcgjhlakceaaGreatDoorB21
import Derived.Test.YtmjhcgjhlakceaaGreatDoorEvWrite
import Derived.Test.YtmjhcgjhlakceaaGreatDoorB28
import Derived.Test.YtmjhcgjhlakceaaGreatDoorB17
import Derived.Test.YtmjhcgjhlakceaaGreatDoorB14

namespace Go.Proofs.YtmjhcgjhlakceaaGreatDoor
open Go.RowKit
theorem textE_small (n : Nat) (x : ByteArray) (v : Int) (t : T n) : (textE n x v t).size <= 10000 := by
 cases h : okE n x v t with
 | true =>
  have h1 := textE_yes h
  have h2 := txtE_len h
  have h3 : (textE n x v t).data.toList.length = (textE n x v t).size := by simp
  rw [<- h3, h1]; exact h2
 | false =>
  rw [textE, if_neg (by rw [h]; simp), bs_size]
  simp
def DrawnSE (w : World) (e : Ending) (w' : World) : Prop :=
 Below w.heap.size w w' /\ ∃ x : ByteArray, x.size <= 30000 /\ e = .returned (.string x)
set_option maxRecDepth 20000 in
set_option maxHeartbeats 4000000 in
theorem drawERead_any (S : Nat -> Prop) (w : World) (ao : Option Addr) (L cap : Nat) (h : CodeIn S w ao L cap) (hS : ∀ b, S b -> b < w.heap.size) :
  Calls Tryz.prog 10 #[.slice ao L cap] w (DrawnSE w) := by
 have HO : Hid (Calls Tryz.prog 14 #[.slice ao L cap] w _) := l6Open_any S w ao L cap h hS
 clear h
 go_enter Tryz.func10, Tryz.ntmps10
 go_wp2_with fail
 refine HO.out.mono ?_
 rintro e w1 ⟨hb1, R, rfl, hR, L', hD⟩
 have HPk := Lib.hid (pick_any w1 R ao L' cap 0 20 hD (by omega) (by omega) (by omega))
 have HB1 := Lib.hid hb1
 clear HO hb1 hD
 go_wp2_with fail
 refine HPk.out.mono ?_
 rintro e w2 ⟨v, rfl, hv, hn2, hD2, -⟩
 have HB2 : Hid (Below w.heap.size w w2) := near_new HB1.out hR hn2
 have HD2 := Lib.hid hD2
 clear HPk HB1 hn2 hD2
 by_cases hv0 : v = 0
 ·subst hv0
  have HOf : Hid (∀ (cs : Array Value), cs.size = 10 -> cs.toList.all okLit = true -> Calls Tryz.prog 30 #[.pointer (some ⟨R, 0, none⟩), .slice (some ⟨w2.heap.size, 0, none⟩) 10 10] (w2.alloc (.cells cs 9)) _) := fun cs h1 h2 => of_lit w2 R ao L' cap (0 + 1) HD2.out (by omega) cs 10 h1 (by omega) (by omega) h2
  go_wp2_with fail
  refine (HOf.out _ rfl rfl).mono ?_
  rintro e w4 ⟨y, rfl, hy, hn4, -⟩
  have HB4 : Hid (Below w.heap.size w w4) := near_new HB2.out hR hn4
  clear HOf hn4
  go_wp2_with fail
  go_ret
  exact ⟨HB4.out, y, by omega, rfl⟩
 have hvi : ((v : Int) == 0) = false := by simp; omega
 have hvn : ¬ (v : Int) = 0 := by omega
 have HA := Lib.hid (l5Event_any 8 R ao L' cap (0 + 1) w2 (Nat.le_refl _) HD2.out (by omega))
 go_wp2_with fail
 refine HA.out.mono ?_
 rintro e w3 ⟨hn3, p3, x, vv, t, c0, c1, c2, c3, c4, hp3, hD3, rfl, hx, -, hk⟩
 have hz3 := hn3.size
 have HB3 : Hid (Below w.heap.size w w3) := near_new HB2.out hR hn3
 have HW := Lib.hid (specEWrite_any 8 _ x vv t c0 c1 c2 c3 c4 w3 (by unfold maxLen; omega) hk (fun b hb => hb.2))
 have HD3 := Lib.hid hD3
 have hsz := textE_small 8 x vv t
 clear HA HB2 HD2 hn3 hD3 hk
 go_wp2_with fail
 refine HW.out.mono ?_
 rintro e w4 ⟨rfl, hb4⟩
 have HB4 : Hid (Below w.heap.size w w4) := below_step HB3.out HB3.out.size hb4
 have HD4 : Hid (Dr w4 R ao L' cap p3) := HD3.out.same hb4
 have HPk := Lib.hid (pick_any w4 R ao L' cap p3 3 HD4.out (by omega) (by omega) (by omega))
 generalize textE 8 x vv t = tx at *
 clear HW HB3 HD3 hb4 HD4
 go_wp2_with fail
 refine HPk.out.mono ?_
 rintro e w5 ⟨z, rfl, hz, hn5, hD5, -⟩
 have HB5 : Hid (Below w.heap.size w w5) := near_new HB4.out hR hn5
 by_cases hz0 : z = 0
 ·subst hz0
  have HBd := Lib.hid (l5Bend_any w5 R ao L' cap (p3 + 1) tx hD5 (by omega) (by omega))
  clear HPk HB4 hn5 hD5
  go_wp2_with fail
  refine HBd.out.mono ?_
  rintro e w6 ⟨y, rfl, hy, hn6, -⟩
  have HB6 : Hid (Below w.heap.size w w6) := near_new HB5.out hR hn6
  clear HBd hn6
  go_wp2_with fail
  go_ret
  exact ⟨HB6.out, y, by omega, rfl⟩
 ·have hzi : ((z : Int) == 0) = false := by simp; omega
  have hzn : ¬ (z : Int) = 0 := by omega
  clear HPk HB4 hn5 hD5
  go_wp2_with fail
  go_ret
  exact ⟨HB5.out, tx, by omega, rfl⟩
end Go.Proofs.YtmjhcgjhlakceaaGreatDoor

namespace Go.Proofs.YtmjhcgjhlakceaaGreatDoor
open Go.RowKit
theorem Bb.none (w : World) : Bb w (w.alloc (.cells #[] 5)) (.slice (some ⟨w.heap.size, 0, none⟩) 0 0) [] :=
 ⟨World.ownsRow_lit w #[] 0 (Nat.le_refl _) (by simp [maxLen]) rfl, (Below.refl _ _).alloc (Nat.le_refl _) _⟩
set_option maxRecDepth 20000 in
set_option maxHeartbeats 1000000 in
theorem cloneB_any (R off cap : Nat) (l : List UInt8) (w : World) (hcell : ∀ j (hj : j < l.length), w.cell? ⟨R, off + j, none⟩ = some (.int .u8 (l[j].toNat : Int))) (hl : l.length <= 9000) :
  Calls Tryz.prog 62 #[.slice (some ⟨R, off, none⟩) l.length cap] w fun e w' => ∃ v, e = .returned v /\ Bb w w' v l := by
 have hnil := fun W => run_eql_slice_nil (P := Tryz.prog) W 22 5 (some ⟨R, off, none⟩) l.length cap Tryz.underlying22
 simp only [Option.isNone_some] at hnil
 have HB := Lib.hid (Bb.none w)
 have HC : Hid (∀ j (hj : j < l.length), (w.alloc (.cells #[] 5)).cell? ⟨R, off + j, none⟩ = some (.int .u8 (l[j].toNat : Int))) := fun j hj => (((Below.refl w.heap.size w).alloc (Nat.le_refl _) (.cells #[] 5)).cell (p := ⟨R, off + j, none⟩) (cell_lt0 (hcell j hj))).trans (hcell j hj)
 clear hcell
 go_enter Tryz.func62, Tryz.ntmps62
 go_wp2_with (at_builtin; refine wpList_bbA rfl (.tmp 5) (.tmp 6) rfl w _ [] rfl HB.out R off l.length cap l rfl rfl HC.out (by simp; omega) ?_; intro v' w' hb' _; refine Hid.out ?_)
 refine Lib.hid ?_
 rw [List.nil_append] at hb'
 obtain ⟨va, vc, rfl⟩ := hb'.shape
 have HB' := Lib.hid hb'
 clear hb'
 go_wp2_with fail
 go_ret
 exact ⟨_, rfl, HB'.out⟩
set_option maxRecDepth 20000 in
set_option maxHeartbeats 2000000 in
theorem whole_any (R : Nat) (l : List UInt8) (w : World) (h : Wr w R l) (hl : l.length <= 8999) :
  Calls Tryz.prog 29 #[.pointer (some ⟨R, 0, none⟩)] w fun e w' => ∃ v, e = .returned v /\ Bb w w' v l := by
 obtain ⟨q0, -⟩ := h.count
 have HC : Hid (∀ W : World, W.heap = w.heap -> Calls Tryz.prog 62 #[.slice (some ⟨R, 1, none⟩) l.length 9000] W fun e w' => ∃ v, e = .returned v /\ Bb W w' v l) := fun W hW => by
  refine cloneB_any R 1 9000 l W (fun j hj => ?_) (by omega)
  obtain ⟨F, hF, -, hc⟩ := h
  have := (hF.cell (i := j + 1) (by omega)).trans (by rw [hc j hj])
  rw [Nat.add_comm] at this
  simp only [World.cell?, hW] at this ⊢
  exact this
 clear h
 have hl0 : (0 : Int) <= (l.length : Int) := by omega
 have hl1 : (l.length : Int) <= 9000 := by omega
 go_enter Tryz.func29, Tryz.ntmps29
 go_wp2_with fail
 go_region_law (go_simp; go_at_call 62; refine (HC.out w.drew rfl).mono ?_; rintro e w1 ⟨v, rfl, hb⟩; obtain ⟨va, vc, rfl⟩ := hb.shape)
 all_goals
  have HB : Hid (Bb w w1 (.slice va l.length vc) l) := hb.up ((Below.refl _ _).drew)
  clear hb
  go_wp2_with fail
  go_ret
  exact ⟨_, rfl, HB.out⟩
set_option maxRecDepth 20000 in
set_option maxHeartbeats 2000000 in
theorem wevent_any (n : Nat) (S : Nat -> Prop) (x : ByteArray) (v : Int) (t : T n) (c0 c1 c2 c3 c4 : Value) (R : Nat) (w : World) (ht : TreeIn S w n t c0 c1 c2 c3 c4) (hB : ∀ b, S b -> b < w.heap.size /\ b ≠ R) (hok : okE n x v t = true) (hW : Wr w R []) :
  Calls Tryz.prog 28 #[.pointer (some ⟨R, 0, none⟩), .agg #[.string x, .int .i64 v, c0, c1, c2, c3, c4]] w fun e w' => e = .returned (.tuple #[]) /\ Wr w' R (packE n x v t) /\ Near R w w' := by
 obtain ⟨x0, x1, x2, xa, xl, xc, ya, yl, yc, rfl, rfl, rfl, rfl, rfl⟩ := ht.shape
 obtain ⟨hnm, hv, -, hokT⟩ := okE_parts hok
 have hx8 : x.size <= 8 := by simp only [nameB, Bool.and_eq_true, decide_eq_true_eq] at hnm; exact hnm.1.1.2
 have hp := okT_getE hokT
 have hpl := packT_len n t 1 hp.1
 have hRw := hW.lt
 obtain ⟨W1, hW1⟩ : ∃ W1, W1 = w.alloc (.cells #[.string x, .int .i64 v, .int .i64 x0, .int .i64 x1, .string x2, .slice xa xl xc, .slice ya yl yc] 29) := ⟨_, rfl⟩
 have hbw : Below w.heap.size w W1 := by rw [hW1]; exact (Below.refl _ _).alloc (Nat.le_refl _) _
 have hx1 : Box7 W1 w.heap.size (.string x) (.int .i64 v) (.int .i64 x0) (.int .i64 x1) (.string x2) (.slice xa xl xc) (.slice ya yl yc) := by rw [hW1]; exact Box7.new w _ _ _ _ _ _ _ _
 have hne : w.heap.size ≠ R := by omega
 have hn01 : Near R w W1 := Near.of_below hbw
 have HTr : Hid (∀ W, Near R w W -> TreeIn S W n t (.int .i64 x0) (.int .i64 x1) (.string x2) (.slice xa xl xc) (.slice ya yl yc) /\ ∀ b, S b -> b < W.heap.size /\ b ≠ R) := fun W hN => ⟨ht.keep (fun b hb => hN.block b (hB b hb).1 (hB b hb).2) (fun _ h => h), fun b hb => ⟨Nat.lt_of_lt_of_le (hB b hb).1 hN.size, (hB b hb).2⟩⟩
 have HC := Lib.hid (wtext_any R [] x W1 (hW.below hbw) (by omega) (by simp; omega))
 have HX := Lib.hid hx1
 have HN0 := Lib.hid hn01
 have HP : Hid (packE n x v t = (shortB x ++ [b8 v]) ++ packT n t) := by show _ = _; rw [packE, List.append_assoc]; rfl
 have hsl := shortB_len x
 have hwv : IntKind.u8.wrap v = v := by rw [IntKind.wrap_u8]; omega
 clear ht hB hok hnm hokT hW hbw hx1 hn01
 go_enter Tryz.func28, Tryz.ntmps28
 go_wp2_with fail
 rw [<- hW1]
 clear hW1
 refine HC.out.mono ?_
 rintro e w1 ⟨rfl, hw1, hn1⟩
 rw [List.nil_append] at hw1
 have i1 := hn1.cell HX.out.c1 hne
 have hC2 := put_any R (shortB x) (b8 v) w1 hw1 (by omega)
 rw [b8_nat (by omega) (by omega)] at hC2
 have HC2 := Lib.hid hC2
 have HN1 := Lib.hid hn1
 clear hw1 hn1 HC hC2
 go_wp2_with fail
 refine HC2.out.mono ?_
 rintro e w2 ⟨rfl, hw2, hn2⟩
 have hn12 := HN1.out.trans hn2
 obtain ⟨k0, k1, k2, k3, k4, k5, k6⟩ := HX.out
 have j2 := hn12.cell k2 hne
 have j3 := hn12.cell k3 hne
 have j4 := hn12.cell k4 hne
 have j5 := hn12.cell k5 hne
 have j6 := hn12.cell k6 hne
 have hT := HTr.out w2 (HN0.out.trans hn12)
 have HC3 := Lib.hid (wtree_any n S t _ _ _ _ _ 1 R (shortB x ++ [b8 v]) w2 hT.1 hT.2 hp.1 hp.2 hw2 (by rw [List.length_append]; simp; omega))
 have HN2 := Lib.hid (HN0.out.trans hn12)
 clear hw2 hn2 hn12 k0 k1 k2 k3 k4 k5 k6 hT HTr HX HC2 i1 hp hpl
 go_wp2_with fail
 refine HC3.out.mono ?_
 rintro e w3 ⟨rfl, hw3, hn3⟩
 have HW3 := Lib.hid hw3
 have HN3 := Lib.hid (HN2.out.trans hn3)
 clear hw3 hn3 HC3
 go_wp2_with fail
 refine bodyPost_end (results_none rfl _ _ _) rfl ?_
 refine ⟨rfl, ?_, HN3.out⟩
 rw [HP.out]
 exact HW3.out
theorem Tryz.zeroW_0 : Tryz.zeroCells63[0]? = some (.int .i64 0) := by kernel_rfl
theorem Wr.of (Z : Array Value) (hs : Z.size = 9001) (h0 : Z[0]? = some (.int .i64 0)) (w : World) : Wr (w.alloc (.cells Z 63)) w.heap.size [] := by
 have hr := World.rowIs_alloc w Z 63 (fun i => Z[i]?.getD (.int .i64 0)) (fun i hi => by rw [Array.getElem?_eq_getElem hi]; rfl)
 rw [hs] at hr
 refine ⟨_, hr, ?_, fun i h => absurd h (Nat.not_lt_zero _)⟩
 show Z[0]?.getD (.int .i64 0) = _
 rw [h0]; rfl
theorem Wr.new (w : World) : Wr (w.alloc (.cells Tryz.zeroCells63 63)) w.heap.size [] :=
 Wr.of _ Tryz.zeroCells63_size Tryz.zeroW_0 w
set_option maxRecDepth 20000 in
set_option maxHeartbeats 2000000 in
theorem implEPack_any (n : Nat) (S : Nat -> Prop) (x : ByteArray) (v : Int) (t : T n) (c0 c1 c2 c3 c4 : Value) (w : World) (hx : x.size <= maxLen) (ht : TreeIn S w n t c0 c1 c2 c3 c4) (hB : ∀ b, S b -> b < w.heap.size) :
  Calls Tryz.prog 9 #[.agg #[.string x, .int .i64 v, c0, c1, c2, c3, c4]] w fun e w' => ∃ u, e = .returned u /\ Bb w w' u (bytesE n x v t) := by
 obtain ⟨x0, x1, x2, xa, xl, xc, ya, yl, yc, rfl, rfl, rfl, rfl, rfl⟩ := ht.shape
 obtain ⟨W1, hW1⟩ : ∃ W1, W1 = w.alloc (.cells #[.string x, .int .i64 v, .int .i64 x0, .int .i64 x1, .string x2, .slice xa xl xc, .slice ya yl yc] 29) := ⟨_, rfl⟩
 have hb1 : Below w.heap.size w W1 := by rw [hW1]; exact (Below.refl _ _).alloc (Nat.le_refl _) _
 have hx1 : Box7 W1 w.heap.size (.string x) (.int .i64 v) (.int .i64 x0) (.int .i64 x1) (.string x2) (.slice xa xl xc) (.slice ya yl yc) := by rw [hW1]; exact Box7.new w _ _ _ _ _ _ _ _
 obtain ⟨ht1, hB1⟩ := ht.step hB hb1
 have HC : Hid (Calls Tryz.prog 8 _ W1 _) := implEOk_any n S x v t _ _ _ _ _ W1 hx ht1 hB1
 have HX := Lib.hid hx1
 have HTr : Hid (∀ W, Below W1.heap.size W1 W -> TreeIn S W n t (.int .i64 x0) (.int .i64 x1) (.string x2) (.slice xa xl xc) (.slice ya yl yc) /\ ∀ b, S b -> b < W.heap.size) := fun W hW => ht1.step hB1 hW
 have HB1 := Lib.hid hb1
 have HBS := Lib.hid hB
 clear ht hB ht1 hB1 hx1 hb1
 go_enter Tryz.func9, Tryz.ntmps9
 go_wp2_with fail
 rw [<- hW1]
 clear hW1
 refine HC.out.mono ?_
 rintro e w1 ⟨rfl, hbw1⟩
 clear HC
 cases hok : okE n x v t
 case false =>
  have HE : Hid (bytesE n x v t = []) := by show _ = _; rw [bytesE, if_neg (by rw [hok]; simp)]
  have HBf := Lib.hid (below_step HB1.out HB1.out.size hbw1)
  clear hok
  go_wp2_with fail
  go_ret
  refine ⟨_, rfl, ?_⟩
  rw [HE.out]
  exact ⟨World.ownsRow_nil _ _ _ _, HBf.out⟩
 case true =>
  have HE : Hid (bytesE n x v t = packE n x v t) := by show _ = _; rw [bytesE, if_pos hok]
  have hlen : (packE n x v t).length <= 8999 := by
   obtain ⟨hnm, -, -, hokT⟩ := okE_parts hok
   have hx8 : x.size <= 8 := by simp only [nameB, Bool.and_eq_true, decide_eq_true_eq] at hnm; exact hnm.1.1.2
   have hp := okT_getE hokT
   have hpl := packT_len n t 1 hp.1
   have := shortB_len x
   rw [packE, List.length_append, List.length_cons]
   omega
  have hx2 := HX.out.keep hbw1
  obtain ⟨W3, hW3⟩ : ∃ W3, W3 = w1.alloc (.cells Tryz.zeroCells63 63) := ⟨_, rfl⟩
  have hb3 : Below w1.heap.size w1 W3 := by rw [hW3]; exact (Below.refl _ _).alloc (Nat.le_refl _) _
  have hx3 := hx2.keep hb3
  have hWr : Wr W3 w1.heap.size [] := by rw [hW3]; exact Wr.new w1
  have hT := HTr.out W3 (below_step hbw1 hbw1.size hb3)
  have hbw := below_step HB1.out HB1.out.size hbw1
  have HC2 := Lib.hid (wevent_any n S x v t _ _ _ _ _ w1.heap.size W3 hT.1 (fun b hb => ⟨hT.2 b hb, by have := HBS.out b hb; have := hbw.size; omega⟩) hok hWr)
  have HBw := Lib.hid hbw
  have HB3 := Lib.hid hb3
  obtain ⟨i0, i1, i2, i3, i4, i5, i6⟩ := hx3
  rw [hW3] at i0 i1 i2 i3 i4 i5 i6
  clear hok hx2 hb3 hWr hT hbw hbw1 HTr HX
  go_wp2_with fail
  rw [<- hW3]
  clear hW3 i0 i1 i2 i3 i4 i5 i6
  refine HC2.out.mono ?_
  rintro e w4 ⟨rfl, hw4, hn4⟩
  have HC3 := Lib.hid (whole_any w1.heap.size _ w4 hw4 hlen)
  have HBl : Hid (Below w.heap.size w w4) := by
   have h1 : Below w.heap.size W3 w4 := hn4.below HBw.out.size (Nat.le_trans HBw.out.size HB3.out.size)
   have h2 : Below w.heap.size w W3 := below_step HBw.out HBw.out.size HB3.out
   exact h2.trans h1
  clear hw4 hn4 HC2
  go_wp2_with fail
  refine HC3.out.mono ?_
  rintro e w5 ⟨u, rfl, hu⟩
  obtain ⟨ua, uc, rfl⟩ := hu.shape
  have HU := Lib.hid (hu.up HBl.out)
  clear hu HC3
  go_wp2_with fail
  go_ret
  refine ⟨_, rfl, ?_⟩
  rw [HE.out]
  exact HU.out
end Go.Proofs.YtmjhcgjhlakceaaGreatDoor

namespace Go.Proofs.YtmjhcgjhlakceaaGreatDoor
open Go.RowKit
theorem LaidU.tens {w w' : World} (h : LaidU w.heap.size w) (hb : Below w.heap.size w w') : TensIn w' := fun w2 h2 => h.1 w2 (hb.trans (h2.mono hb.size))
end Go.Proofs.YtmjhcgjhlakceaaGreatDoor

namespace Go.Proofs.YtmjhcgjhlakceaaGreatDoor
open Go.RowKit
structure BoxE (B : Nat) (w : World) (n : Nat) (x : ByteArray) (v : Int) (t : T n) (N : Nat) (c0 c1 c2 c3 c4 : Value) : Prop where
 box : Box7 w N (.string x) (.int .i64 v) c0 c1 c2 c3 c4
 tree : TreeIn (fun b => b < B) w n t c0 c1 c2 c3 c4
 lt : B <= w.heap.size
theorem BoxE.keep {B : Nat} {w w' : World} {n : Nat} {x : ByteArray} {v : Int} {t : T n} {N : Nat} {c0 c1 c2 c3 c4 : Value} (h : BoxE B w n x v t N c0 c1 c2 c3 c4) (hb : Below w.heap.size w w') : BoxE B w' n x v t N c0 c1 c2 c3 c4 :=
 ⟨h.box.keep hb, h.tree.keep (same_below hb (fun _ hb' => Nat.lt_of_lt_of_le hb' h.lt)) (fun _ h => h), Nat.le_trans h.lt hb.size⟩
theorem BoxE.below {B : Nat} {w : World} {n : Nat} {x : ByteArray} {v : Int} {t : T n} {N : Nat} {c0 c1 c2 c3 c4 : Value} (h : BoxE B w n x v t N c0 c1 c2 c3 c4) : ∀ b, b < B -> b < w.heap.size := fun _ hb => Nat.lt_of_lt_of_le hb h.lt
set_option maxRecDepth 20000 in
set_option maxHeartbeats 1000000 in
theorem ttEvent_same (n : Nat) (S S' : Nat -> Prop) (x : ByteArray) (v : Int) (t : T n) (c0 c1 c2 c3 c4 d0 d1 d2 d3 d4 : Value) (w : World) (ht : TreeIn S w n t c0 c1 c2 c3 c4) (ht' : TreeIn S' w n t d0 d1 d2 d3 d4)
  (hB : ∀ b, S b -> b < w.heap.size) (hB' : ∀ b, S' b -> b < w.heap.size) :
  Calls Tryz.prog 7 #[.agg #[.string x, .int .i64 v, c0, c1, c2, c3, c4], .agg #[.string x, .int .i64 v, d0, d1, d2, d3, d4]] w fun e w' => e = .returned (.bool true) /\ Below w.heap.size w w' := by
 obtain ⟨x0, x1, x2, xa, xl, xc, ya, yl, yc, rfl, rfl, rfl, rfl, rfl⟩ := ht.shape
 obtain ⟨z0, z1, z2, za, zl, zc, va, vl, vc, rfl, rfl, rfl, rfl, rfl⟩ := ht'.shape
 obtain ⟨W, hW⟩ : ∃ W, W = (w.alloc (.cells #[.string x, .int .i64 v, .int .i64 x0, .int .i64 x1, .string x2, .slice xa xl xc, .slice ya yl yc] 29)).alloc (.cells #[.string x, .int .i64 v, .int .i64 z0, .int .i64 z1, .string z2, .slice za zl zc, .slice va vl vc] 29) := ⟨_, rfl⟩
 have hb : Below w.heap.size w W := by rw [hW]; exact ((Below.refl _ _).alloc (Nat.le_refl _) _).alloc (by simp) _
 obtain ⟨h1, hB1⟩ := ht.step hB hb
 obtain ⟨h2, hB2⟩ := ht'.step hB' hb
 have HC := Lib.hid (ttTree_same n S S' t _ _ _ _ _ _ _ _ _ _ W h1 h2 hB1 hB2)
 have HB := Lib.hid hb
 have hbx : (x.toList == x.toList) = true := by simp
 have hbv : (v == v) = true := by simp
 clear ht ht' h1 h2 hB hB' hB1 hB2 hb
 go_enter Tryz.func7, Tryz.ntmps7
 go_wp2_with fail
 rw [<- hW]
 clear hW
 refine HC.out.mono ?_
 rintro e w1 ⟨rfl, hb1⟩
 have HF := Lib.hid (below_step HB.out HB.out.size hb1)
 clear HC HB hb1
 go_wp2_with fail
 go_ret
 exact ⟨rfl, HF.out⟩
end Go.Proofs.YtmjhcgjhlakceaaGreatDoor

namespace Go.Proofs.YtmjhcgjhlakceaaGreatDoor
open Go.RowKit
def ERPost (m : Nat) (l : List UInt8) (w : World) (e : Ending) (w' : World) : Prop :=
 Below w.heap.size w w' /\ ∃ (ok : Bool) (x : ByteArray) (v : Int) (t : T (m + 1)) (c0 c1 c2 c3 c4 : Value), e = .returned (.tuple #[.agg #[.string x, .int .i64 v, c0, c1, c2, c3, c4], .bool ok]) /\ TreeIn (fun b => w.heap.size <= b /\ b < w'.heap.size) w' (m + 1) t c0 c1 c2 c3 c4 /\ ERdA m l ok x v t
theorem er_none0 {m : Nat} {l : List UInt8} {w W : World} (hb : Below w.heap.size w W) (hno : ∀ (x' : ByteArray) (v' : Int) (t' : T (m + 1)), okE (m + 1) x' v' t' = true -> txtE (m + 1) x' v' t' ≠ l) :
  ERPost m l w (.returned (.tuple #[.agg #[.string ⟨#[]⟩, .int .i64 0, .int .i64 0, .int .i64 0, .string ⟨#[]⟩, .slice none 0 0, .slice none 0 0], .bool false])) W :=
 ⟨hb, false, ByteArray.empty, 0, (⟨0, 0, ByteArray.empty, [], []⟩ : Nd (T m)), _, _, _, _, _, rfl, leafT_in _ _ m 0 0 ByteArray.empty (by rfl) (by rfl) (by simp), .inr ⟨rfl, rfl, rfl, rfl, hno⟩⟩
theorem er_none {m : Nat} {l : List UInt8} {w W : World} (hb : Below w.heap.size w W) (hno : ∀ (x' : ByteArray) (v' : Int) (t' : T (m + 1)), okE (m + 1) x' v' t' = true -> txtE (m + 1) x' v' t' ≠ l) :
  ERPost m l w (.returned (.tuple #[.agg #[.string ⟨#[]⟩, .int .i64 0, .int .i64 0, .int .i64 0, .string ⟨#[]⟩, .slice none 0 0, .slice none 0 0], .bool false])) (put7 W w.heap.size (.string ⟨#[]⟩) (.int .i64 0) (.int .i64 0) (.int .i64 0) (.string ⟨#[]⟩) (.slice none 0 0) (.slice none 0 0)) := er_none0 (put7_below hb (Nat.le_refl _)) hno
structure EV (w W : World) (s : ByteArray) (i : Nat) (bad : Bool) (X : Nat) (a0 a1 a2 a3 a4 a5 a6 : Value) : Prop where
 below : Below w.heap.size w W
 zero : W.heap[w.heap.size]? = some (.cells #[.string ⟨#[]⟩, .int .i64 0, .int .i64 0, .int .i64 0, .string ⟨#[]⟩, .slice none 0 0, .slice none 0 0] 29 (0, 0))
 rd : RdS W (w.heap.size + 1) s (i : Int) bad
 lt : w.heap.size + 1 < X
 box : W.heap[X]? = some (.cells #[a0, a1, a2, a3, a4, a5, a6] 29 (0, 0))
theorem EV.ltX {w W : World} {s : ByteArray} {i : Nat} {bad : Bool} {X : Nat} {a0 a1 a2 a3 a4 a5 a6 : Value} (h : EV w W s i bad X a0 a1 a2 a3 a4 a5 a6) : X < W.heap.size := (Array.getElem?_eq_some_iff.1 h.box).1
theorem EV.near {w W W' : World} {s : ByteArray} {i j : Nat} {bad bad' : Bool} {X : Nat} {a0 a1 a2 a3 a4 a5 a6 : Value} (h : EV w W s i bad X a0 a1 a2 a3 a4 a5 a6) (hn : Near (w.heap.size + 1) W W') (hr : RdS W' (w.heap.size + 1) s (j : Int) bad') : EV w W' s j bad' X a0 a1 a2 a3 a4 a5 a6 := by
 have hX := h.ltX
 have hl := h.lt
 have hs := h.below.size
 exact ⟨⟨by rw [hn.os]; exact h.below.os, by rw [hn.tape]; exact h.below.tape, by rw [hn.output]; exact h.below.output, Nat.le_trans hs hn.size, fun b hb => (hn.block b (by omega) (by omega)).trans (h.below.block b hb)⟩, (hn.block _ (by omega) (by omega)).trans h.zero, hr, hl, (hn.block X hX (by omega)).trans h.box⟩
theorem EV.same {w W W' : World} {s : ByteArray} {i : Nat} {bad : Bool} {X : Nat} {a0 a1 a2 a3 a4 a5 a6 : Value} (h : EV w W s i bad X a0 a1 a2 a3 a4 a5 a6) (hb : Below W.heap.size W W') : EV w W' s i bad X a0 a1 a2 a3 a4 a5 a6 :=
 h.near (Near.of_below hb) (by have := h.rd; unfold RdS at this ⊢; rw [hb.block _ (by have := h.ltX; have := h.lt; omega)]; exact this)
theorem EV.change {w W W' : World} {s : ByteArray} {i : Nat} {bad : Bool} {X : Nat} {a0 a1 a2 a3 a4 a5 a6 : Value} (h : EV w W s i bad X a0 a1 a2 a3 a4 a5 a6) {b1 b2 b3 b4 b5 b6 : Value} (hb : Below w.heap.size W W') (qq : ∀ b, b ≠ X -> W'.heap[b]? = W.heap[b]?) (hx : W'.heap[X]? = some (.cells #[a0, b1, b2, b3, b4, b5, b6] 29 (0, 0))) : EV w W' s i bad X a0 b1 b2 b3 b4 b5 b6 := by
 have hl := h.lt
 exact ⟨h.below.trans hb, (qq _ (by omega)).trans h.zero, by have := h.rd; unfold RdS at this ⊢; rw [qq _ (by omega)]; exact this, hl, hx⟩
theorem EV.set1 {w W : World} {s : ByteArray} {i : Nat} {bad : Bool} {X : Nat} {a0 a1 a2 a3 a4 a5 a6 : Value} (h : EV w W s i bad X a0 a1 a2 a3 a4 a5 a6) (u : Value) : EV w (W.setCell ⟨X, 1, none⟩ u) s i bad X a0 u a2 a3 a4 a5 a6 := by
 have hl := h.lt
 exact h.change ((Below.refl _ _).setCell (by show w.heap.size <= X; omega) u) (fun b hb => Below.heap_setCell _ _ _ _ hb) (by simp [World.setCell, Array.getElem?_modify, h.box])
theorem EV.put {w W : World} {s : ByteArray} {i : Nat} {bad : Bool} {X : Nat} {a0 a1 a2 a3 a4 a5 a6 : Value} (h : EV w W s i bad X a0 a1 a2 a3 a4 a5 a6) (g0 g1 g2 g3 g4 : Value) : EV w (put5 W X 2 g0 g1 g2 g3 g4) s i bad X a0 a1 g0 g1 g2 g3 g4 := by
 have hl := h.lt
 exact h.change (put5_below (Below.refl _ _) (by omega)) (fun b hb => put5_other hb) (by simp [put5, World.setCell, Array.getElem?_modify, h.box])
def NumA (s : ByteArray) (i : Nat) (bad : Bool) (v : Int) (i2 : Nat) (bad2 : Bool) : Prop :=
 (-99999999999 <= v /\ v <= 99999999999) /\ i <= i2 /\ i2 <= s.size /\ (lookB s i ≠ 45 -> ∃ k, k <= 10 /\ i2 = i + k /\ (∀ c, c ∈ (s.data.toList.drop i).take k -> digC c = true) /\ (k = 10 ∨ digC (lookB s (i + k)) = false) /\ v = (decVal ((s.data.toList.drop i).take k) : Int) /\ bad2 = (bad || k == 0))
theorem numA_any (w : World) (R : Nat) (s : ByteArray) (i : Nat) (bad : Bool) (h : RdS w R s i bad) (hs : s.size <= 10000) (hi : i <= s.size) :
  Calls Tryz.prog 35 #[.pointer (some ⟨R, 0, none⟩)] w fun e w' => ∃ (v : Int) (i2 : Nat) (bad2 : Bool), e = .returned (.int .i64 v) /\ Near R w w' /\ RdS w' R s (i2 : Int) bad2 /\ NumA s i bad v i2 bad2 /\ (bad2 = false -> bad = false) := by
 by_cases hn : lookB s i = 45
 ·have hlt : i < s.size := Classical.byContradiction fun hge => by rw [lookB_out s i (by omega)] at hn; cases hn
  refine (num_neg w R s i bad h hs hlt hn).mono ?_
  rintro e w' ⟨hnr, k, hk, hF, hd, -, rfl, hr⟩
  have hb := decVal_lt10 _ hd (by rw [List.length_take]; omega)
  refine ⟨_, i + 1 + k, (bad || k == 0), rfl, hnr, hr, ⟨by simp; omega, by omega, hF, fun h => absurd hn h⟩, fun h => by simpa using (by simp at h; exact h.1 : bad = false)⟩
 ·refine (num_pos w R s i bad h hs hi hn).mono ?_
  rintro e w' ⟨hnr, k, hk, hF, hd, ho, rfl, hr⟩
  have hb := decVal_lt10 _ hd (by rw [List.length_take]; omega)
  refine ⟨_, i + k, (bad || k == 0), rfl, hnr, hr, ⟨by simp; omega, by omega, hF, fun _ => ⟨k, hk, rfl, hd, ho, by simp, rfl⟩⟩, fun h => by simpa using (by simp at h; exact h.1 : bad = false)⟩
theorem headD_app {a : List UInt8} (b : List UInt8) (h : a ≠ []) : (a ++ b).headD 0 = a.headD 0 := by
 cases a with
 | nil => exact absurd rfl h
 | cons c r => rfl
theorem evtext_read {m : Nat} {s : ByteArray} {i1 : Nat} {b1 : Bool} {v : Int} {i2 : Nat} {b2 : Bool} {t : T (m + 1)} {i3 : Nat} {b3 : Bool}
  (he : (eatP [64] (s.data.toList.drop (s.data.toList.takeWhile nmByte).length) = some (s.data.toList.drop ((s.data.toList.takeWhile nmByte).length + 1)) /\ i1 = (s.data.toList.takeWhile nmByte).length + 1 /\ b1 = false) ∨ (eatP [64] (s.data.toList.drop (s.data.toList.takeWhile nmByte).length) = none /\ i1 = (s.data.toList.takeWhile nmByte).length /\ b1 = true))
  (hn : NumA s i1 b1 v i2 b2) (ht : GotT (m + 1) 6 s i2 b2 t i3 b3) {x' : ByteArray} {v' : Int} {t' : T (m + 1)} (ho : okE (m + 1) x' v' t' = true) (hp : txtE (m + 1) x' v' t' = s.data.toList) :
  bs (s.data.toList.takeWhile nmByte) = x' /\ v = v' /\ t = t' /\ b3 = false /\ i3 = s.size := by
 obtain ⟨a1, a2, a3, a4⟩ := txtE_parts ho hp
 obtain ⟨-, -, hv, hg, ⟨r, hr⟩, hd, hl2, hne⟩ := okE_text ho
 have hx : bs (s.data.toList.takeWhile nmByte) = x' := ba_eq (by rw [a1]; unfold bs; simp)
 rw [a1] at he
 rcases he with ⟨-, hi1, hb1⟩ | ⟨h, -⟩
 case inr => rw [a2, (eat_at [] _).1] at h; cases h
 rw [<- hi1] at a3 a4
 obtain ⟨c, q, hc, hcd⟩ : ∃ c q, Lib.itoa v' = c :: q /\ digC c = true := by
  cases hi : Lib.itoa v' with
  | nil => exact absurd hi hne
  | cons c q => exact ⟨c, q, rfl, hd c (by rw [hi]; exact List.mem_cons_self ..)⟩
 have hlk : lookB s i1 ≠ 45 := by
  intro e
  unfold lookB at e
  rw [a3, hc] at e
  have e : c = 45 := e
  rw [e, digC_45] at hcd
  cases hcd
 obtain ⟨-, -, -, hN⟩ := hn
 obtain ⟨k, hk, hik, hkd, hke, hkv, hkb⟩ := hN hlk
 have hkl : k = (Lib.itoa v').length := by
  rcases Nat.lt_trichotomy k (Lib.itoa v').length with h | h | h
  ·rcases hke with h10 | h10
   ·omega
   ·exfalso
    unfold lookB at h10
    rw [<- List.drop_drop, a3, List.drop_append_of_le_length (by omega)] at h10
    rw [headD_app _ (by intro e; have := congrArg List.length e; simp at this; omega), List.drop_eq_getElem_cons h] at h10
    have := hd _ (List.getElem_mem h)
    have h10 : digC (Lib.itoa v')[k] = false := h10
    rw [this] at h10
    cases h10
  ·exact h
  ·exfalso
   have hm : (123 : UInt8) ∈ (s.data.toList.drop i1).take k := by
    rw [a3, hr, List.take_append, List.take_of_length_le (by omega)]
    refine List.mem_append_right _ ?_
    obtain ⟨j, hj⟩ : ∃ j, k - (Lib.itoa v').length = j + 1 := ⟨k - (Lib.itoa v').length - 1, by omega⟩
    rw [hj]
    exact List.mem_cons_self ..
   have := hkd _ hm
   rw [dig_123] at this
   cases this
 have htk : (s.data.toList.drop i1).take k = Lib.itoa v' := by rw [a3, hkl, List.take_left']; rfl
 have hvv : v = v' := by
  rw [hkv, htk]
  have e : Lib.itoa v' = Lib.decDigits v'.toNat := by unfold Lib.itoa; rw [if_neg (by omega)]
  rw [e, decVal_digits]
  omega
 have hb2 : b2 = false := by
  rw [hkb, hb1]
  have : k ≠ 0 := by rw [hkl, hc]; simp
  simp [this]
 rw [<- hkl, <- hik] at a4
 obtain ⟨-, -, -, -, h5⟩ := ht
 obtain ⟨q1, q2, q3⟩ := h5 t' [] hb2 (by rw [a4, List.append_nil]) hg rfl
 refine ⟨hx, hvv, q1, q2, ?_⟩
 have hll : s.data.toList.length = s.size := by simp
 have := congrArg List.length a4
 rw [List.length_drop] at this
 have hti : 1 <= (txtL (m + 1) t').length := by rw [hr]; simp
 omega
end Go.Proofs.YtmjhcgjhlakceaaGreatDoor

namespace Go.Proofs.YtmjhcgjhlakceaaGreatDoor
open Go.RowKit
set_option maxRecDepth 100000 in
set_option maxHeartbeats 2000000 in
theorem specERead_any (m : Nat) (hm : 7 <= m + 1) (s : ByteArray) (hs : s.size <= 1048576) (w : World) :
  Calls Tryz.prog 11 #[.string s] w (ERPost m s.data.toList w) := by
 obtain ⟨W0, hW0⟩ : ∃ W0, W0 = w.alloc (.cells #[.string ⟨#[]⟩, .int .i64 0, .int .i64 0, .int .i64 0, .string ⟨#[]⟩, .slice none 0 0, .slice none 0 0] 29) := ⟨_, rfl⟩
 have hb0 : Below w.heap.size w W0 := by rw [hW0]; exact (Below.refl _ _).alloc (Nat.le_refl _) _
 have hz0 : W0.heap.size = w.heap.size + 1 := by rw [hW0]; simp
 have hN0 : W0.heap[w.heap.size]? = some (.cells #[.string ⟨#[]⟩, .int .i64 0, .int .i64 0, .int .i64 0, .string ⟨#[]⟩, .slice none 0 0, .slice none 0 0] 29 (0, 0)) := by rw [hW0]; exact heap_alloc_new _ _
 have HB0 := Lib.hid hb0
 have HN0 := Lib.hid hN0
 by_cases h8 : s.size <= 10000
 case neg =>
  have hll : s.data.toList.length = s.size := by simp
  have HP : Hid (ERPost m s.data.toList w (.returned (.tuple #[.agg #[.string ⟨#[]⟩, .int .i64 0, .int .i64 0, .int .i64 0, .string ⟨#[]⟩, .slice none 0 0, .slice none 0 0], .bool false])) W0) := er_none0 HB0.out (fun x' v' t' ho hp => by have h1 := txtE_len ho; rw [hp] at h1; omega)
  obtain ⟨⟨z0, z1, z2, z3, z4, z5, z6⟩, f0, f1, f2, f3, f4, f5, f6⟩ := ev7_cells hN0
  subst hW0
  have hLi : (10000 : Int) < (s.size : Int) := by omega
  clear hN0 HN0 HB0 hll hb0
  go_enter Tryz.func11, Tryz.ntmps11
  go_wp2_with fail
  refine bodyPost_ret (v := .tuple #[.agg #[.string ⟨#[]⟩, .int .i64 0, .int .i64 0, .int .i64 0, .string ⟨#[]⟩, .slice none 0 0, .slice none 0 0], .bool false]) (by simp [results, Tryz.results11, go_sem, z0, z1, z2, z3, z4, z5, z6]) rfl ?_
  exact HP.out
 have hLi : ¬ (10000 : Int) < (s.size : Int) := by omega
 obtain ⟨W1, hW1⟩ : ∃ W1, W1 = W0.alloc (.cells #[.string s, .int .i64 0, .bool false] 70) := ⟨_, rfl⟩
 have hb1 : Below W0.heap.size W0 W1 := by rw [hW1]; exact (Below.refl _ _).alloc (Nat.le_refl _) _
 have hr1 : RdS W1 (w.heap.size + 1) s ((0 : Nat) : Int) false := by
  show W1.heap[w.heap.size + 1]? = _
  rw [hW1, <- hz0]; exact heap_alloc_new _ _
 have hN1 := (hb1.block w.heap.size (by omega)).trans HN0.out
 have HC := Lib.hid (name_any W1 (w.heap.size + 1) s 0 false hr1 h8 (Nat.zero_le _))
 have HB1 := Lib.hid (below_step HB0.out HB0.out.size hb1)
 have HN1 := Lib.hid hN1
 have hz1 : W1.heap.size = w.heap.size + 2 := by rw [hW1]; simp [hz0]
 clear hb1 hr1 hN1 hN0 HN0 HB0 hb0
 go_enter Tryz.func11, Tryz.ntmps11
 go_wp2_with fail
 rw [<- hW0, <- hW1]
 clear hW0 hW1
 refine HC.out.mono ?_
 rintro e w2 ⟨rfl, hn2, hr2, hle2⟩
 rw [List.drop_zero, Nat.zero_add] at hr2 hle2
 rw [List.drop_zero]
 obtain ⟨x, hx⟩ : ∃ x, x = bs (s.data.toList.takeWhile nmByte) := ⟨_, rfl⟩
 have hxs : x.size <= 10000 := by rw [hx, bs_size]; omega
 obtain ⟨n1, hn1⟩ : ∃ n1, (s.data.toList.takeWhile nmByte).length = n1 := ⟨_, rfl⟩
 rw [hn1] at hr2 hle2
 rw [<- hx]
 have HX := Lib.hid hx
 have HN := Lib.hid hn1
 clear hx hn1
 have hs2 := hn2.size
 obtain ⟨X, hX⟩ : ∃ X, w2.heap.size = X := ⟨_, rfl⟩
 obtain ⟨W2, hW2⟩ : ∃ W2, W2 = w2.alloc (.cells #[.string x, .int .i64 0, .int .i64 0, .int .i64 0, .string ⟨#[]⟩, .slice none 0 0, .slice none 0 0] 29) := ⟨_, rfl⟩
 have hb2 : Below w2.heap.size w2 W2 := by rw [hW2]; exact (Below.refl _ _).alloc (Nat.le_refl _) _
 have hE2 : EV w W2 s n1 false X (.string x) (.int .i64 0) (.int .i64 0) (.int .i64 0) (.string ⟨#[]⟩) (.slice none 0 0) (.slice none 0 0) := by
  refine ⟨⟨by rw [hb2.os, hn2.os]; exact HB1.out.os, by rw [hb2.tape, hn2.tape]; exact HB1.out.tape, by rw [hb2.output, hn2.output]; exact HB1.out.output, by have := hb2.size; omega, fun b hb => (hb2.block b (by omega)).trans ((hn2.block b (by omega) (by omega)).trans (HB1.out.block b hb))⟩, ?_, (hb2.block _ (by omega)).trans hr2, by omega, ?_⟩
  ·exact (hb2.block _ (by omega)).trans ((hn2.block _ (by omega) (by omega)).trans HN1.out)
  ·rw [hW2, <- hX]; exact heap_alloc_new _ _
 have HE2 := Lib.hid hE2
 have HC2 := Lib.hid (eat_any W2 (w.heap.size + 1) s ⟨#[64]⟩ n1 false hE2.rd h8 (by decide) hle2)
 clear HC hr2 hn2 hb2 hE2 HB1 HN1
 go_wp2_with fail
 rw [<- hW2]
 try rw [hX]
 clear hW2
 refine HC2.out.mono ?_
 rintro e w3 ⟨rfl, hn3, hor⟩
 obtain ⟨i1, b1, hr3, hi1, hE⟩ : ∃ (i1 : Nat) (b1 : Bool), RdS w3 (w.heap.size + 1) s (i1 : Int) b1 /\ i1 <= s.size /\ ((eatP [64] (s.data.toList.drop (s.data.toList.takeWhile nmByte).length) = some (s.data.toList.drop ((s.data.toList.takeWhile nmByte).length + 1)) /\ i1 = (s.data.toList.takeWhile nmByte).length + 1 /\ b1 = false) ∨ (eatP [64] (s.data.toList.drop (s.data.toList.takeWhile nmByte).length) = none /\ i1 = (s.data.toList.takeWhile nmByte).length /\ b1 = true)) := by
  rw [HN.out]
  rcases hor with ⟨q1, q2, q3⟩ | ⟨q1, q2⟩
  ·exact ⟨n1 + 1, false, q3, q2, .inl ⟨q1, rfl, rfl⟩⟩
  ·exact ⟨n1, true, q2, hle2, .inr ⟨q1, rfl, rfl⟩⟩
 have hE3 := HE2.out.near hn3 hr3
 have HE3 := Lib.hid hE3
 have HEat := hidF hE
 have HC3 := Lib.hid (numA_any w3 (w.heap.size + 1) s i1 b1 hr3 h8 hi1)
 obtain ⟨⟨s0, s1, s2, s3, s4, s5, s6⟩, g0, g1, g2, g3, g4, g5, g6⟩ := ev7_cells hE3.box
 clear HC2 hor hE hn3 hr3 hE3 HE2
 clear s0 s1 s2 s3 s4 s5 s6 g0 g1 g2 g3 g4 g5 g6
 go_wp2_with fail
 refine HC3.out.mono ?_
 rintro e w4 ⟨v, i2, b2, rfl, hn4, hr4, hna, hb2'⟩
 have hE4 := HE3.out.near hn4 hr4
 obtain ⟨⟨s0, s1, s2, s3, s4, s5, s6⟩, g0, g1, g2, g3, g4, g5, g6⟩ := ev7_cells hE4.box
 obtain ⟨W4, hW4⟩ : ∃ W4, W4 = w4.setCell ⟨X, 1, none⟩ (.int .i64 v) := ⟨_, rfl⟩
 have hE4' := hE4.set1 (.int .i64 v)
 rw [<- hW4] at hE4'
 have HNa := Lib.hid hna
 have HE4 := Lib.hid hE4'
 have hi2 : i2 <= s.size := hna.2.2.1
 have HC4 : Hid (Calls Tryz.prog 36 #[.pointer (some ⟨w.heap.size + 1, 0, none⟩), .int .i64 1] W4 (ReadPost (m + 1) 6 W4 (w.heap.size + 1) s i2 b2)) := l1Tree_any 6 (Nat.le_refl _) (m + 1) (w.heap.size + 1) s i2 b2 W4 hm hE4'.rd h8 (fun _ => hi2) (by omega)
 clear HC3 hna hn4 hr4 hE4 hE4' HE3
 go_wp2_with fail
 rw [<- hW4]
 clear hW4 s0 s1 s2 s3 s4 s5 s6 g0 g1 g2 g3 g4 g5 g6
 refine HC4.out.mono ?_
 rintro e w5 ⟨hn5, t, d0, d1, d2, d3, d4, i3, b3, rfl, ht, hr5, hG⟩
 obtain ⟨t0, t1, t2, ta, tl, tc, ua, ul, uc, rfl, rfl, rfl, rfl, rfl⟩ := ht.shape
 have hE5 := HE4.out.near hn5 hr5
 have hs5 := hn5.size
 have hX4 := HE4.out.ltX
 have hXl := HE4.out.lt
 obtain ⟨⟨s0, s1, s2, s3, s4, s5, s6⟩, g0, g1, g2, g3, g4, g5, g6⟩ := ev7_cells hE5.box
 obtain ⟨V, hV⟩ : ∃ V, V = put5 w5 X 2 (.int .i64 t0) (.int .i64 t1) (.string t2) (.slice ta tl tc) (.slice ua ul uc) := ⟨_, rfl⟩
 have hE6 := hE5.put (.int .i64 t0) (.int .i64 t1) (.string t2) (.slice ta tl tc) (.slice ua ul uc)
 rw [<- hV] at hE6
 have htV : TreeIn (fun b => w.heap.size + 1 <= b /\ b < V.heap.size) V (m + 1) t (.int .i64 t0) (.int .i64 t1) (.string t2) (.slice ta tl tc) (.slice ua ul uc) :=
  ht.keep (fun b hb => by rw [hV]; exact put5_other (by omega)) (fun b hb => ⟨by omega, by rw [hV, put5_size]; exact hb.2⟩)
 have HRead : Hid (∀ (x' : ByteArray) (v' : Int) (t' : T (m + 1)), okE (m + 1) x' v' t' = true -> txtE (m + 1) x' v' t' = s.data.toList -> x = x' /\ v = v' /\ t = t' /\ b3 = false /\ i3 = s.size) := fun x' v' t' ho hp => by
  have := evtext_read HEat.out HNa.out hG ho hp
  rw [<- HX.out] at this
  exact this
 have HE := Lib.hid hE6
 have HT := Lib.hid htV
 have HV : Hid (put5 w5 X 2 (.int .i64 t0) (.int .i64 t1) (.string t2) (.slice ta tl tc) (.slice ua ul uc) = V) := hV.symm
 clear HC4 hn5 ht hr5 hG hE5 hE6 htV hV HE4 HEat HNa
 go_upto_region 8 with fail
 have HV2 := HV.out
 unfold put5 at HV2
 try rw [HV2]
 clear HV HV2 s0 s1 s2 s3 s4 s5 s6 g0 g1 g2 g3 g4 g5 g6
 have hXs := HE.out.ltX
 have k1 := HE.out.rd.cell1
 have k2 := HE.out.rd.cell2
 obtain ⟨⟨s0, s1, s2, s3, s4, s5, s6⟩, -⟩ := ev7_cells HE.out.box
 cases b3
 case true =>
  have HP : Hid (ERPost m s.data.toList w (.returned (.tuple #[.agg #[.string ⟨#[]⟩, .int .i64 0, .int .i64 0, .int .i64 0, .string ⟨#[]⟩, .slice none 0 0, .slice none 0 0], .bool false])) (put7 V w.heap.size (.string ⟨#[]⟩) (.int .i64 0) (.int .i64 0) (.int .i64 0) (.string ⟨#[]⟩) (.slice none 0 0) (.slice none 0 0))) := er_none (HE.out).below (fun x' v' t' ho hp => by have h := (HRead.out x' v' t' ho hp).2.2.2.1; cases h)
  obtain ⟨⟨z0, z1, z2, z3, z4, z5, z6⟩, f0, f1, f2, f3, f4, f5, f6⟩ := ev7_cells (HE.out).zero
  clear HRead HE HT
  go_wp2_with fail
  refine bodyPost_ret (v := .tuple #[.agg #[.string ⟨#[]⟩, .int .i64 0, .int .i64 0, .int .i64 0, .string ⟨#[]⟩, .slice none 0 0, .slice none 0 0], .bool false]) (by simp [results, Tryz.results11, go_sem, z0, z1, z2, z3, z4, z5, z6]) rfl ?_
  exact HP.out
 case false =>
 by_cases hi3 : i3 = s.size
 case neg =>
  have hi3' : ¬ (i3 : Int) = (s.size : Int) := by omega
  have hi3b : ((i3 : Int) != (s.size : Int)) = true := by simp; omega
  have HP : Hid (ERPost m s.data.toList w (.returned (.tuple #[.agg #[.string ⟨#[]⟩, .int .i64 0, .int .i64 0, .int .i64 0, .string ⟨#[]⟩, .slice none 0 0, .slice none 0 0], .bool false])) (put7 V w.heap.size (.string ⟨#[]⟩) (.int .i64 0) (.int .i64 0) (.int .i64 0) (.string ⟨#[]⟩) (.slice none 0 0) (.slice none 0 0))) := er_none (HE.out).below (fun x' v' t' ho hp => hi3 (HRead.out x' v' t' ho hp).2.2.2.2)
  obtain ⟨⟨z0, z1, z2, z3, z4, z5, z6⟩, f0, f1, f2, f3, f4, f5, f6⟩ := ev7_cells (HE.out).zero
  clear HRead HE HT hi3
  go_wp2_with fail
  refine bodyPost_ret (v := .tuple #[.agg #[.string ⟨#[]⟩, .int .i64 0, .int .i64 0, .int .i64 0, .string ⟨#[]⟩, .slice none 0 0, .slice none 0 0], .bool false]) (by simp [results, Tryz.results11, go_sem, z0, z1, z2, z3, z4, z5, z6]) rfl ?_
  exact HP.out
 case pos =>
 have hi3b : ((i3 : Int) != (s.size : Int)) = false := by rw [hi3]; simp
 have hi3' : (i3 : Int) = (s.size : Int) := by omega
 have HC5 := Lib.hid (specEWrite_any (m + 1) _ x v t _ _ _ _ _ V (by unfold maxLen; omega) HT.out (fun b hb => hb.2))
 have HI3 := Lib.hid hi3
 clear hi3
 go_wp2_with fail
 refine HC5.out.mono ?_
 rintro e w6 ⟨rfl, hb6⟩
 have hE7 := HE.out.same hb6
 have hT7 := HT.out.step (fun b hb => hb.2) hb6
 have hs6 := hb6.size
 obtain ⟨y, hy⟩ : ∃ y, textE (m + 1) x v t = y := ⟨_, rfl⟩
 have HY := Lib.hid hy
 rw [hy]
 by_cases hys : y = s
 case neg =>
  have hb : (y.toList == s.toList) = false := by
   rw [beq_eq_false_iff_ne]
   intro e
   rw [ByteArray.toList_eq, ByteArray.toList_eq] at e
   exact hys (ba_eq e)
  have hbn : (y.toList != s.toList) = true := by rw [bne, hb]; rfl
  have HNe : Hid (∀ (x' : ByteArray) (v' : Int) (t' : T (m + 1)), okE (m + 1) x' v' t' = true -> txtE (m + 1) x' v' t' ≠ s.data.toList) := fun x' v' t' ho hp => by
   obtain ⟨rfl, rfl, rfl, -, -⟩ := HRead.out x' v' t' ho hp
   apply hys
   rw [<- HY.out]
   exact ba_eq ((textE_yes ho).trans hp)
  have HE7 := Lib.hid hE7
  have HP : Hid (ERPost m s.data.toList w (.returned (.tuple #[.agg #[.string ⟨#[]⟩, .int .i64 0, .int .i64 0, .int .i64 0, .string ⟨#[]⟩, .slice none 0 0, .slice none 0 0], .bool false])) (put7 w6 w.heap.size (.string ⟨#[]⟩) (.int .i64 0) (.int .i64 0) (.int .i64 0) (.string ⟨#[]⟩) (.slice none 0 0) (.slice none 0 0))) := er_none (HE7.out).below HNe.out
  obtain ⟨⟨z0, z1, z2, z3, z4, z5, z6⟩, f0, f1, f2, f3, f4, f5, f6⟩ := ev7_cells (HE7.out).zero
  clear HRead HE HT HC5 hb6 hE7 hT7 HY hy HNe HE7 hys k1 k2 s0 s1 s2 s3 s4 s5 s6
  go_wp2_with fail
  refine bodyPost_ret (v := .tuple #[.agg #[.string ⟨#[]⟩, .int .i64 0, .int .i64 0, .int .i64 0, .string ⟨#[]⟩, .slice none 0 0, .slice none 0 0], .bool false]) (by simp [results, Tryz.results11, go_sem, z0, z1, z2, z3, z4, z5, z6]) rfl ?_
  exact HP.out
 case pos =>
 subst hys
 have hb : (y.toList == y.toList) = true := by simp
 have hbn : (y.toList != y.toList) = false := by simp
 by_cases hem : y = ByteArray.empty
 case pos =>
  have HNe : Hid (∀ (x' : ByteArray) (v' : Int) (t' : T (m + 1)), okE (m + 1) x' v' t' = true -> txtE (m + 1) x' v' t' ≠ y.data.toList) := fun x' v' t' ho hp => by
   rw [hem] at hp
   exact txtE_ne hp
  have hbe : (y.toList == []) = true := by rw [hem, ByteArray.toList_eq]; rfl
  have hbe2 : (y.toList == (⟨#[]⟩ : ByteArray).toList) = true := by rw [hem]; first | done | rfl | simp
  have HE7 := Lib.hid hE7
  have HP : Hid (ERPost m y.data.toList w (.returned (.tuple #[.agg #[.string ⟨#[]⟩, .int .i64 0, .int .i64 0, .int .i64 0, .string ⟨#[]⟩, .slice none 0 0, .slice none 0 0], .bool false])) (put7 w6 w.heap.size (.string ⟨#[]⟩) (.int .i64 0) (.int .i64 0) (.int .i64 0) (.string ⟨#[]⟩) (.slice none 0 0) (.slice none 0 0))) := er_none (HE7.out).below HNe.out
  obtain ⟨⟨z0, z1, z2, z3, z4, z5, z6⟩, f0, f1, f2, f3, f4, f5, f6⟩ := ev7_cells (HE7.out).zero
  clear HRead HE HT HC5 hb6 hE7 hT7 HY hy HNe HE7 k1 k2 s0 s1 s2 s3 s4 s5 s6
  go_wp2_with fail
  refine bodyPost_ret (v := .tuple #[.agg #[.string ⟨#[]⟩, .int .i64 0, .int .i64 0, .int .i64 0, .string ⟨#[]⟩, .slice none 0 0, .slice none 0 0], .bool false]) (by simp [results, Tryz.results11, go_sem, z0, z1, z2, z3, z4, z5, z6]) rfl ?_
  exact HP.out
 case neg =>
 have hok : okE (m + 1) x v t = true := by
  cases h : okE (m + 1) x v t with
  | true => rfl
  | false =>
   exfalso
   apply hem
   rw [<- HY.out, textE, if_neg (by rw [h]; simp)]
   rfl
 have hbe2 : (y.toList == (⟨#[]⟩ : ByteArray).toList) = false := by
  rw [beq_eq_false_iff_ne]
  intro e
  rw [ByteArray.toList_eq, ByteArray.toList_eq] at e
  exact hem (ba_eq e)
 have hbe : (y.toList == []) = false := by
  rw [beq_eq_false_iff_ne]
  intro e
  rw [ByteArray.toList_eq] at e
  exact hem (ba_eq e)
 have HP : Hid (ERPost m y.data.toList w (.returned (.tuple #[.agg #[.string x, .int .i64 v, .int .i64 t0, .int .i64 t1, .string t2, .slice ta tl tc, .slice ua ul uc], .bool true])) (put7 w6 w.heap.size (.string x) (.int .i64 v) (.int .i64 t0) (.int .i64 t1) (.string t2) (.slice ta tl tc) (.slice ua ul uc))) := by
  refine ⟨put7_below hE7.below (Nat.le_refl _), true, x, v, t, _, _, _, _, _, rfl, hT7.1.keep (fun b hb => put7_other (by omega)) (fun b hb => ⟨by omega, by rw [put7_size]; omega⟩), .inl ⟨rfl, hok, ?_⟩⟩
  rw [<- textE_yes hok, HY.out]
 obtain ⟨⟨z0, z1, z2, z3, z4, z5, z6⟩, f0, f1, f2, f3, f4, f5, f6⟩ := ev7_cells hE7.zero
 have hbx := hE7.box
 clear s0 s1 s2 s3 s4 s5 s6 k1 k2
 obtain ⟨⟨s0, s1, s2, s3, s4, s5, s6⟩, -⟩ := ev7_cells hbx
 clear HRead HE HT HC5 hb6 hE7 hT7 HY hy hok hbx hem
 go_wp2_with fail
 refine bodyPost_ret (v := .tuple #[.agg #[.string x, .int .i64 v, .int .i64 t0, .int .i64 t1, .string t2, .slice ta tl tc, .slice ua ul uc], .bool true]) (by simp [results, Tryz.results11, go_sem, z0, z1, z2, z3, z4, z5, z6]) rfl ?_
 exact HP.out
end Go.Proofs.YtmjhcgjhlakceaaGreatDoor
