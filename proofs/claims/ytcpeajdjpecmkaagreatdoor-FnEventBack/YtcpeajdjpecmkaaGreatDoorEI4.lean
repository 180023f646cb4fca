/-
  The program's EventPack.
-/
import Derived.Test.YtcpeajdjpecmkaaGreatDoorB13
import Derived.Test.YtcpeajdjpecmkaaGreatDoorB11
namespace Go.Proofs.YtcpeajdjpecmkaaGreatDoor
open Go.RowKit

theorem Bb.none (w : World) : Bb w (w.alloc (.cells #[] 5)) (.slice (some ⟨w.heap.size, 0, none⟩) 0 0) [] :=
  ⟨World.ownsRow_lit w #[] 0 (Nat.le_refl _) (by simp [maxLen]) rfl, (Below.refl _ _).alloc (Nat.le_refl _) _⟩

set_option maxRecDepth 20000 in
set_option maxHeartbeats 1000000 in
theorem cloneB_any (R off cap : Nat) (l : List UInt8) (w : World) (hcell : ∀ j (hj : j < l.length), w.cell? ⟨R, off + j, none⟩ = some (.int .u8 (l[j].toNat : Int))) (hl : l.length ≤ 9000) :
    Calls Tryz.prog 59 #[.slice (some ⟨R, off, none⟩) l.length cap] w fun e w' => ∃ v, e = .returned v ∧ Bb w w' v l := by
  have hnil := fun W => run_eql_slice_nil (P := Tryz.prog) W 22 5 (some ⟨R, off, none⟩) l.length cap Tryz.underlying22
  simp only [Option.isNone_some] at hnil
  have HB := Lib.hid (Bb.none w)
  have HC : Hid (∀ j (hj : j < l.length), (w.alloc (.cells #[] 5)).cell? ⟨R, off + j, none⟩ = some (.int .u8 (l[j].toNat : Int))) := fun j hj => (((Below.refl w.heap.size w).alloc (Nat.le_refl _) (.cells #[] 5)).cell (p := ⟨R, off + j, none⟩) (cell_lt0 (hcell j hj))).trans (hcell j hj)
  clear hcell
  go_enter Tryz.func59, Tryz.ntmps59
  go_wp2_with (at_builtin; refine wpList_bbA rfl (.tmp 5) (.tmp 6) rfl w _ [] rfl HB.out R off l.length cap l rfl rfl HC.out (by simp; omega) ?_; intro v' w' hb' _; refine Hid.out ?_)
  refine Lib.hid ?_
  rw [List.nil_append] at hb'
  obtain ⟨va, vc, rfl⟩ := hb'.shape
  have HB' := Lib.hid hb'
  clear hb'
  go_wp2_with fail
  go_ret
  exact ⟨_, rfl, HB'.out⟩

set_option maxRecDepth 20000 in
set_option maxHeartbeats 2000000 in
theorem whole_any (R : Nat) (l : List UInt8) (w : World) (h : Wr w R l) (hl : l.length ≤ 8999) :
    Calls Tryz.prog 27 #[.pointer (some ⟨R, 0, none⟩)] w fun e w' => ∃ v, e = .returned v ∧ Bb w w' v l := by
  obtain ⟨q0, -⟩ := h.count
  have HC : Hid (∀ W : World, W.heap = w.heap → Calls Tryz.prog 59 #[.slice (some ⟨R, 1, none⟩) l.length 9000] W fun e w' => ∃ v, e = .returned v ∧ Bb W w' v l) := fun W hW => by
    refine cloneB_any R 1 9000 l W (fun j hj => ?_) (by omega)
    obtain ⟨F, hF, -, hc⟩ := h
    have := (hF.cell (i := j + 1) (by omega)).trans (by rw [hc j hj])
    rw [Nat.add_comm] at this
    simp only [World.cell?, hW] at this ⊢
    exact this
  clear h
  have hl0 : (0 : Int) ≤ (l.length : Int) := by omega
  have hl1 : (l.length : Int) ≤ 9000 := by omega
  go_enter Tryz.func27, Tryz.ntmps27
  go_wp2_with fail
  go_region_law (go_simp; go_at_call 59; refine (HC.out w.drew rfl).mono ?_; rintro e w1 ⟨v, rfl, hb⟩; obtain ⟨va, vc, rfl⟩ := hb.shape)
  all_goals
    have HB : Hid (Bb w w1 (.slice va l.length vc) l) := hb.up ((Below.refl _ _).drew)
    clear hb
    go_wp2_with fail
    go_ret
    exact ⟨_, rfl, HB.out⟩

set_option maxRecDepth 20000 in
set_option maxHeartbeats 2000000 in
theorem wevent_any (n : Nat) (S : Nat → Prop) (x : ByteArray) (v : Int) (t : T n) (c0 c1 c2 c3 c4 : Value) (R : Nat) (w : World) (ht : TreeIn S w n t c0 c1 c2 c3 c4) (hB : ∀ b, S b → b < w.heap.size ∧ b ≠ R) (hok : okE n x v t = true) (hW : Wr w R []) :
    Calls Tryz.prog 26 #[.pointer (some ⟨R, 0, none⟩), .agg #[.string x, .int .i64 v, c0, c1, c2, c3, c4]] w fun e w' => e = .returned (.tuple #[]) ∧ Wr w' R (packE n x v t) ∧ Near R w w' := by
  obtain ⟨x0, x1, x2, xa, xl, xc, ya, yl, yc, rfl, rfl, rfl, rfl, rfl⟩ := ht.shape
  obtain ⟨hnm, hv, -, hokT⟩ := okE_parts hok
  have hx8 : x.size ≤ 8 := by simp only [nameB, Bool.and_eq_true, decide_eq_true_eq] at hnm; exact hnm.1.1.2
  have hp := okT_getE hokT
  have hpl := packT_len n t 1 hp.1
  have hRw := hW.lt
  obtain ⟨W1, hW1⟩ : ∃ W1, W1 = w.alloc (.cells #[.string x, .int .i64 v, .int .i64 x0, .int .i64 x1, .string x2, .slice xa xl xc, .slice ya yl yc] 28) := ⟨_, rfl⟩
  have hbw : Below w.heap.size w W1 := by rw [hW1]; exact (Below.refl _ _).alloc (Nat.le_refl _) _
  have hx1 : Box7 W1 w.heap.size (.string x) (.int .i64 v) (.int .i64 x0) (.int .i64 x1) (.string x2) (.slice xa xl xc) (.slice ya yl yc) := by rw [hW1]; exact Box7.new w _ _ _ _ _ _ _ _
  have hne : w.heap.size ≠ R := by omega
  have hn01 : Near R w W1 := Near.of_below hbw
  have HTr : Hid (∀ W, Near R w W → TreeIn S W n t (.int .i64 x0) (.int .i64 x1) (.string x2) (.slice xa xl xc) (.slice ya yl yc) ∧ ∀ b, S b → b < W.heap.size ∧ b ≠ R) := fun W hN => ⟨ht.keep (fun b hb => hN.block b (hB b hb).1 (hB b hb).2) (fun _ h => h), fun b hb => ⟨Nat.lt_of_lt_of_le (hB b hb).1 hN.size, (hB b hb).2⟩⟩
  have HC := Lib.hid (wtext_any R [] x W1 (hW.below hbw) (by omega) (by simp; omega))
  have HX := Lib.hid hx1
  have HN0 := Lib.hid hn01
  have HP : Hid (packE n x v t = (shortB x ++ [b8 v]) ++ packT n t) := by show _ = _; rw [packE, List.append_assoc]; rfl
  have hsl := shortB_len x
  have hwv : IntKind.u8.wrap v = v := by rw [IntKind.wrap_u8]; omega
  clear ht hB hok hnm hokT hW hbw hx1 hn01
  go_enter Tryz.func26, Tryz.ntmps26
  go_wp2_with fail
  rw [← hW1]
  clear hW1
  refine HC.out.mono ?_
  rintro e w1 ⟨rfl, hw1, hn1⟩
  rw [List.nil_append] at hw1
  have i1 := hn1.cell HX.out.c1 hne
  have hC2 := put_any R (shortB x) (b8 v) w1 hw1 (by omega)
  rw [b8_nat (by omega) (by omega)] at hC2
  have HC2 := Lib.hid hC2
  have HN1 := Lib.hid hn1
  clear hw1 hn1 HC hC2
  go_wp2_with fail
  refine HC2.out.mono ?_
  rintro e w2 ⟨rfl, hw2, hn2⟩
  have hn12 := HN1.out.trans hn2
  obtain ⟨k0, k1, k2, k3, k4, k5, k6⟩ := HX.out
  have j2 := hn12.cell k2 hne
  have j3 := hn12.cell k3 hne
  have j4 := hn12.cell k4 hne
  have j5 := hn12.cell k5 hne
  have j6 := hn12.cell k6 hne
  have hT := HTr.out w2 (HN0.out.trans hn12)
  have HC3 := Lib.hid (wtree_any n S t _ _ _ _ _ 1 R (shortB x ++ [b8 v]) w2 hT.1 hT.2 hp.1 hp.2 hw2 (by rw [List.length_append]; simp; omega))
  have HN2 := Lib.hid (HN0.out.trans hn12)
  clear hw2 hn2 hn12 k0 k1 k2 k3 k4 k5 k6 hT HTr HX HC2 i1 hp hpl
  go_wp2_with fail
  refine HC3.out.mono ?_
  rintro e w3 ⟨rfl, hw3, hn3⟩
  have HW3 := Lib.hid hw3
  have HN3 := Lib.hid (HN2.out.trans hn3)
  clear hw3 hn3 HC3
  go_wp2_with fail
  refine bodyPost_end (results_none rfl _ _ _) rfl ?_
  refine ⟨rfl, ?_, HN3.out⟩
  rw [HP.out]
  exact HW3.out

theorem Tryz.zeroW_0 : Tryz.zeroCells53[0]? = some (.int .i64 0) := by kernel_rfl

theorem Wr.of (Z : Array Value) (hs : Z.size = 9001) (h0 : Z[0]? = some (.int .i64 0)) (w : World) : Wr (w.alloc (.cells Z 53)) w.heap.size [] := by
  have hr := World.rowIs_alloc w Z 53 (fun i => Z[i]?.getD (.int .i64 0)) (fun i hi => by rw [Array.getElem?_eq_getElem hi]; rfl)
  rw [hs] at hr
  refine ⟨_, hr, ?_, fun i h => absurd h (Nat.not_lt_zero _)⟩
  show Z[0]?.getD (.int .i64 0) = _
  rw [h0]; rfl

theorem Wr.new (w : World) : Wr (w.alloc (.cells Tryz.zeroCells53 53)) w.heap.size [] :=
  Wr.of _ Tryz.zeroCells53_size Tryz.zeroW_0 w

set_option maxRecDepth 20000 in
set_option maxHeartbeats 2000000 in
theorem implEPack_any (n : Nat) (S : Nat → Prop) (x : ByteArray) (v : Int) (t : T n) (c0 c1 c2 c3 c4 : Value) (w : World) (hx : x.size ≤ maxLen) (ht : TreeIn S w n t c0 c1 c2 c3 c4) (hB : ∀ b, S b → b < w.heap.size) :
    Calls Tryz.prog 8 #[.agg #[.string x, .int .i64 v, c0, c1, c2, c3, c4]] w fun e w' => ∃ u, e = .returned u ∧ Bb w w' u (bytesE n x v t) := by
  obtain ⟨x0, x1, x2, xa, xl, xc, ya, yl, yc, rfl, rfl, rfl, rfl, rfl⟩ := ht.shape
  obtain ⟨W1, hW1⟩ : ∃ W1, W1 = w.alloc (.cells #[.string x, .int .i64 v, .int .i64 x0, .int .i64 x1, .string x2, .slice xa xl xc, .slice ya yl yc] 28) := ⟨_, rfl⟩
  have hb1 : Below w.heap.size w W1 := by rw [hW1]; exact (Below.refl _ _).alloc (Nat.le_refl _) _
  have hx1 : Box7 W1 w.heap.size (.string x) (.int .i64 v) (.int .i64 x0) (.int .i64 x1) (.string x2) (.slice xa xl xc) (.slice ya yl yc) := by rw [hW1]; exact Box7.new w _ _ _ _ _ _ _ _
  obtain ⟨ht1, hB1⟩ := ht.step hB hb1
  have HC : Hid (Calls Tryz.prog 10 _ W1 _) := implEOk_any n S x v t _ _ _ _ _ W1 hx ht1 hB1
  have HX := Lib.hid hx1
  have HTr : Hid (∀ W, Below W1.heap.size W1 W → TreeIn S W n t (.int .i64 x0) (.int .i64 x1) (.string x2) (.slice xa xl xc) (.slice ya yl yc) ∧ ∀ b, S b → b < W.heap.size) := fun W hW => ht1.step hB1 hW
  have HB1 := Lib.hid hb1
  have HBS := Lib.hid hB
  clear ht hB ht1 hB1 hx1 hb1
  go_enter Tryz.func8, Tryz.ntmps8
  go_wp2_with fail
  rw [← hW1]
  clear hW1
  refine HC.out.mono ?_
  rintro e w1 ⟨rfl, hbw1⟩
  clear HC
  cases hok : okE n x v t
  case false =>
    have HE : Hid (bytesE n x v t = []) := by show _ = _; rw [bytesE, if_neg (by rw [hok]; simp)]
    have HBf := Lib.hid (below_step HB1.out HB1.out.size hbw1)
    clear hok
    go_wp2_with fail
    go_ret
    refine ⟨_, rfl, ?_⟩
    rw [HE.out]
    exact ⟨World.ownsRow_nil _ _ _ _, HBf.out⟩
  case true =>
    have HE : Hid (bytesE n x v t = packE n x v t) := by show _ = _; rw [bytesE, if_pos hok]
    have hlen : (packE n x v t).length ≤ 8999 := by
      obtain ⟨hnm, -, -, hokT⟩ := okE_parts hok
      have hx8 : x.size ≤ 8 := by simp only [nameB, Bool.and_eq_true, decide_eq_true_eq] at hnm; exact hnm.1.1.2
      have hp := okT_getE hokT
      have hpl := packT_len n t 1 hp.1
      have := shortB_len x
      rw [packE, List.length_append, List.length_cons]
      omega
    have hx2 := HX.out.keep hbw1
    obtain ⟨W3, hW3⟩ : ∃ W3, W3 = w1.alloc (.cells Tryz.zeroCells53 53) := ⟨_, rfl⟩
    have hb3 : Below w1.heap.size w1 W3 := by rw [hW3]; exact (Below.refl _ _).alloc (Nat.le_refl _) _
    have hx3 := hx2.keep hb3
    have hWr : Wr W3 w1.heap.size [] := by rw [hW3]; exact Wr.new w1
    have hT := HTr.out W3 (below_step hbw1 hbw1.size hb3)
    have hbw := below_step HB1.out HB1.out.size hbw1
    have HC2 := Lib.hid (wevent_any n S x v t _ _ _ _ _ w1.heap.size W3 hT.1 (fun b hb => ⟨hT.2 b hb, by have := HBS.out b hb; have := hbw.size; omega⟩) hok hWr)
    have HBw := Lib.hid hbw
    have HB3 := Lib.hid hb3
    obtain ⟨i0, i1, i2, i3, i4, i5, i6⟩ := hx3
    rw [hW3] at i0 i1 i2 i3 i4 i5 i6
    clear hok hx2 hb3 hWr hT hbw hbw1 HTr HX
    go_wp2_with fail
    rw [← hW3]
    clear hW3 i0 i1 i2 i3 i4 i5 i6
    refine HC2.out.mono ?_
    rintro e w4 ⟨rfl, hw4, hn4⟩
    have HC3 := Lib.hid (whole_any w1.heap.size _ w4 hw4 hlen)
    have HBl : Hid (Below w.heap.size w w4) := by
      have h1 : Below w.heap.size W3 w4 := hn4.below HBw.out.size (Nat.le_trans HBw.out.size HB3.out.size)
      have h2 : Below w.heap.size w W3 := below_step HBw.out HBw.out.size HB3.out
      exact h2.trans h1
    clear hw4 hn4 HC2
    go_wp2_with fail
    refine HC3.out.mono ?_
    rintro e w5 ⟨u, rfl, hu⟩
    obtain ⟨ua, uc, rfl⟩ := hu.shape
    have HU := Lib.hid (hu.up HBl.out)
    clear hu HC3
    go_wp2_with fail
    go_ret
    refine ⟨_, rfl, ?_⟩
    rw [HE.out]
    exact HU.out

end Go.Proofs.YtcpeajdjpecmkaaGreatDoor
