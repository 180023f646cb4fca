import Derived.Test.YtmjhcgjhlakceaaGreatDoorB8
import Derived.Test.YtmjhcgjhlakceaaGreatDoorB30
namespace Go.Proofs.YtmjhcgjhlakceaaGreatDoor
open Go.RowKit
theorem okE_get {n : Nat} {x : ByteArray} {v : Int} {t : T n} (h : okE n x v t = true) : nameB x = true /\ (1 <= v /\ v <= 12) /\ okT n t = true := by
 simp only [okE, Bool.and_eq_true, decide_eq_true_eq] at h
 exact ⟨h.1.1.1, h.1.1.2, h.2⟩
def textE (n : Nat) (x : ByteArray) (v : Int) (t : T n) : ByteArray := if okE n x v t = true then x ++ bs [64] ++ bs (Lib.itoa v) ++ bs (txtL n t) else bs []
theorem itoa_21 (v : Int) (h0 : 1 <= v) (h1 : v <= 12) : (bs (Lib.itoa v)).size <= 21 := by
 rw [bs_size]
 have := Lib.itoa_length_le v (by omega) (by omega)
 omega
set_option maxRecDepth 20000 in
set_option maxHeartbeats 4000000 in
theorem specEWrite_any (n : Nat) (S : Nat -> Prop) (x : ByteArray) (v : Int) (t : T n) (c0 c1 c2 c3 c4 : Value) (w : World) (hx : x.size <= maxLen) (ht : TreeIn S w n t c0 c1 c2 c3 c4) (hB : ∀ b, S b -> b < w.heap.size) :
  Calls Tryz.prog 31 #[.agg #[.string x, .int .i64 v, c0, c1, c2, c3, c4]] w fun e w' => e = .returned (.string (textE n x v t)) /\ Below w.heap.size w w' := by
 obtain ⟨x0, x1, x2, xa, xl, xc, ya, yl, yc, rfl, rfl, rfl, rfl, rfl⟩ := ht.shape
 have hb0 : Below w.heap.size w (w.alloc (.cells #[.string x, .int .i64 v, .int .i64 x0, .int .i64 x1, .string x2, .slice xa xl xc, .slice ya yl yc] 29)) := (Below.refl _ _).alloc (Nat.le_refl _) _
 have hx0 := Box7.new w (.string x) (.int .i64 v) (.int .i64 x0) (.int .i64 x1) (.string x2) (.slice xa xl xc) (.slice ya yl yc) 29
 obtain ⟨ht0, hB0⟩ := ht.step hB hb0
 have HC : Hid (Calls Tryz.prog 21 _ _ _) := specEOk_any n S x v t _ _ _ _ _ _ hx ht0 hB0
 clear ht hB
 go_enter Tryz.func31, Tryz.ntmps31
 go_wp2_with fail
 refine HC.out.mono ?_
 rintro e w1 ⟨rfl, hb1⟩
 have hbw1 := below_step hb0 (by simp) hb1
 have hx1 := hx0.keep hb1
 obtain ⟨ht1, hB1⟩ := ht0.step hB0 hb1
 clear hb0 hb1 hx0 ht0 hB0 HC
 cases hok : okE n x v t
 case false =>
  have HT : Hid (textE n x v t = bs []) := by show _ = _; rw [textE, if_neg (by rw [hok]; simp)]
  clear hok ht1 hx1
  go_wp2_with fail
  go_ret
  exact ⟨str_ret HT.out.symm, hbw1⟩
 case true =>
  have HT : Hid (textE n x v t = x ++ bs [64] ++ bs (Lib.itoa v) ++ bs (txtL n t)) := by show _ = _; rw [textE, if_pos hok]
  obtain ⟨hnm, hv, hokT⟩ := okE_get hok
  have hx8 : x.size <= 8 := by simp only [nameB, Bool.and_eq_true, decide_eq_true_eq] at hnm; exact hnm.1.1.2
  clear hnm
  have hp := okT_get hokT
  have hl1 := itoa_21 v hv.1 hv.2
  have hl2 : (bs (txtL n t)).size <= 9900 := by rw [bs_size]; have := txtL_len n t 1 hp.1; have := hp.2; omega
  have HDec : Hid (Calls Tryz.prog 63 #[.int .i64 v] w1.drew fun e w' => e = .returned (.string (bs (Lib.itoa v))) /\ Below w1.heap.size w1 w' /\ Box7 w' w.heap.size (.string x) (.int .i64 v) (.int .i64 x0) (.int .i64 x1) (.string x2) (.slice xa xl xc) (.slice ya yl yc)) := by
   refine (l6Dec_any v w1.drew (by omega) (by omega)).mono ?_
   rintro e w' ⟨h1, h2⟩
   have h3 : Below w1.heap.size w1 w' := ((Below.refl _ _).drew).trans h2
   exact ⟨h1, h3, hx1.keep h3⟩
  have HTx : Hid (∀ w', Below w1.heap.size w1 w' -> Calls Tryz.prog 64 #[.agg #[.int .i64 x0, .int .i64 x1, .string x2, .slice xa xl xc, .slice ya yl yc]] w' fun e w'' => e = .returned (.string (bs (txtL n t))) /\ Below w1.heap.size w1 w'' /\ Box7 w'' w.heap.size (.string x) (.int .i64 v) (.int .i64 x0) (.int .i64 x1) (.string x2) (.slice xa xl xc) (.slice ya yl yc)) := by
   intro w' hb'
   obtain ⟨ht2, hB2⟩ := ht1.step hB1 hb'
   refine (l1Text_any n S t _ _ _ _ _ 1 w' ht2 hB2 hp.1 hp.2).mono ?_
   rintro e w'' ⟨h1, h2⟩
   have h3 := below_step hb' hb'.size h2
   exact ⟨h1, h3, hx1.keep h3⟩
  generalize bs (Lib.itoa v) = sd at *
  generalize bs (txtL n t) = tx at *
  clear hx
  have hs1 : (x ++ (⟨#[64]⟩ : ByteArray)).size = x.size + 1 := by rw [ByteArray.size_append]; rfl
  have hs2 : (x ++ (⟨#[64]⟩ : ByteArray) ++ sd).size = x.size + 1 + sd.size := by rw [ByteArray.size_append, hs1]
  have hq1 : ¬ 9223372036854775807 < x.size + 1 := by omega
  have hq2 : ¬ 9223372036854775807 < x.size + 1 + sd.size := by omega
  have hq3 : ¬ 9223372036854775807 < x.size + 1 + sd.size + tx.size := by omega
  obtain ⟨k0, k1, k2, k3, k4, k5, k6⟩ := hx1
  clear hok hp ht1 hokT hv
  go_wp2_with fail
  go_region_with (first
   | (go_at_call 63; refine HDec.out.mono ?_; rintro e w7 ⟨rfl, hb7, ⟨o0, o1, o2, o3, o4, o5, o6⟩⟩)
   | (go_at_call 64; refine (HTx.out _ (by assumption)).mono ?_; rintro e w8 ⟨rfl, hb8, ⟨p0, p1, p2, p3, p4, p5, p6⟩⟩))
  all_goals
   go_wp2_with fail
   go_ret
   exact ⟨str_ret HT.out.symm, below_step hbw1 hbw1.size hb8⟩
set_option maxRecDepth 20000 in
set_option maxHeartbeats 4000000 in
theorem implEWrite_any (n : Nat) (S : Nat -> Prop) (x : ByteArray) (v : Int) (t : T n) (c0 c1 c2 c3 c4 : Value) (w : World) (hx : x.size <= maxLen) (ht : TreeIn S w n t c0 c1 c2 c3 c4) (hB : ∀ b, S b -> b < w.heap.size) (hT : TensIn w) :
  Calls Tryz.prog 13 #[.agg #[.string x, .int .i64 v, c0, c1, c2, c3, c4]] w fun e w' => e = .returned (.string (textE n x v t)) /\ Below w.heap.size w w' := by
 obtain ⟨x0, x1, x2, xa, xl, xc, ya, yl, yc, rfl, rfl, rfl, rfl, rfl⟩ := ht.shape
 have hb0 : Below w.heap.size w (w.alloc (.cells #[.string x, .int .i64 v, .int .i64 x0, .int .i64 x1, .string x2, .slice xa xl xc, .slice ya yl yc] 29)) := (Below.refl _ _).alloc (Nat.le_refl _) _
 have hx0 := Box7.new w (.string x) (.int .i64 v) (.int .i64 x0) (.int .i64 x1) (.string x2) (.slice xa xl xc) (.slice ya yl yc) 29
 obtain ⟨ht0, hB0⟩ := ht.step hB hb0
 have HC : Hid (Calls Tryz.prog 8 _ _ _) := implEOk_any n S x v t _ _ _ _ _ _ hx ht0 hB0
 clear ht hB
 go_enter Tryz.func13, Tryz.ntmps13
 go_wp2_with fail
 refine HC.out.mono ?_
 rintro e w1 ⟨rfl, hb1⟩
 have hbw1 := below_step hb0 (by simp) hb1
 have hx1 := hx0.keep hb1
 obtain ⟨ht1, hB1⟩ := ht0.step hB0 hb1
 clear hb0 hb1 hx0 ht0 hB0 HC
 cases hok : okE n x v t
 case false =>
  have HT : Hid (textE n x v t = bs []) := by show _ = _; rw [textE, if_neg (by rw [hok]; simp)]
  clear hok ht1 hx1 hT
  go_wp2_with fail
  go_ret
  exact ⟨str_ret HT.out.symm, hbw1⟩
 case true =>
  have HT : Hid (textE n x v t = x ++ bs [64] ++ bs (Lib.itoa v) ++ bs (txtL n t)) := by show _ = _; rw [textE, if_pos hok]
  obtain ⟨hnm, hv, hokT⟩ := okE_get hok
  have hx8 : x.size <= 8 := by simp only [nameB, Bool.and_eq_true, decide_eq_true_eq] at hnm; exact hnm.1.1.2
  clear hnm
  have hp := okT_get hokT
  have hl1 := itoa_21 v hv.1 hv.2
  have hl2 : (bs (txtL n t)).size <= 9900 := by rw [bs_size]; have := txtL_len n t 1 hp.1; have := hp.2; omega
  have HDec : Hid (Calls Tryz.prog 39 #[.int .i64 v] w1.drew fun e w' => e = .returned (.string (bs (Lib.itoa v))) /\ Below w1.heap.size w1 w' /\ Box7 w' w.heap.size (.string x) (.int .i64 v) (.int .i64 x0) (.int .i64 x1) (.string x2) (.slice xa xl xc) (.slice ya yl yc)) := by
   obtain ⟨i, rfl⟩ := Int.eq_ofNat_of_zero_le (show 0 <= v by omega)
   refine (Tryz.strconv_Itoa_small i (by omega) w1.drew).mono ?_
   rintro e w' ⟨h1, rfl⟩
   have h3 : Below w1.heap.size w1 w1.drew := (Below.refl _ _).drew
   rw [Lib.itoa_nonneg]
   exact ⟨h1, h3, hx1.keep h3⟩
  have HTx : Hid (∀ w', Below w1.heap.size w1 w' -> Calls Tryz.prog 40 #[.agg #[.int .i64 x0, .int .i64 x1, .string x2, .slice xa xl xc, .slice ya yl yc]] w' fun e w'' => e = .returned (.string (bs (txtL n t))) /\ Below w1.heap.size w1 w'' /\ Box7 w'' w.heap.size (.string x) (.int .i64 v) (.int .i64 x0) (.int .i64 x1) (.string x2) (.slice xa xl xc) (.slice ya yl yc)) := by
   intro w' hb'
   obtain ⟨ht2, hB2⟩ := ht1.step hB1 hb'
   have h0 := implWrite_any n S t _ _ _ _ _ w' ht2 hB2 (hT.step (below_step hbw1 hbw1.size hb'))
   rw [textF, if_pos hokT] at h0
   refine h0.mono ?_
   rintro e w'' ⟨h1, h2⟩
   have h3 := below_step hb' hb'.size h2
   exact ⟨h1, h3, hx1.keep h3⟩
  generalize bs (Lib.itoa v) = sd at *
  generalize bs (txtL n t) = tx at *
  clear hx
  have hs1 : (x ++ (⟨#[64]⟩ : ByteArray)).size = x.size + 1 := by rw [ByteArray.size_append]; rfl
  have hs2 : (x ++ (⟨#[64]⟩ : ByteArray) ++ sd).size = x.size + 1 + sd.size := by rw [ByteArray.size_append, hs1]
  have hq1 : ¬ 9223372036854775807 < x.size + 1 := by omega
  have hq2 : ¬ 9223372036854775807 < x.size + 1 + sd.size := by omega
  have hq3 : ¬ 9223372036854775807 < x.size + 1 + sd.size + tx.size := by omega
  obtain ⟨k0, k1, k2, k3, k4, k5, k6⟩ := hx1
  clear hok hp ht1 hokT hv hT
  go_wp2_with fail
  go_region_with (first
   | (go_at_call 39; refine HDec.out.mono ?_; rintro e w7 ⟨rfl, hb7, ⟨o0, o1, o2, o3, o4, o5, o6⟩⟩)
   | (go_at_call 40; refine (HTx.out _ (by assumption)).mono ?_; rintro e w8 ⟨rfl, hb8, ⟨p0, p1, p2, p3, p4, p5, p6⟩⟩))
  all_goals
   go_wp2_with fail
   go_ret
   exact ⟨str_ret HT.out.symm, below_step hbw1 hbw1.size hb8⟩
end Go.Proofs.YtmjhcgjhlakceaaGreatDoor
