/-
  The specification's EventRead, walked.
-/
import Derived.Test.YtpnnbdejneoccaaGreatDoorEQ4
namespace Go.Proofs.YtpnnbdejneoccaaGreatDoor
open Go.RowKit

set_option maxRecDepth 100000 in
set_option maxHeartbeats 2000000 in
theorem specERead_any (m : Nat) (hm : 7 ≤ m + 1) (s : ByteArray) (hs : s.size ≤ 1048576) (w : World) :
    Calls Tryz.prog 4 #[.string s] w (ERPost m s.data.toList w) := by
  obtain ⟨W0, hW0⟩ : ∃ W0, W0 = w.alloc (.cells #[.string ⟨#[]⟩, .int .i64 0, .int .i64 0, .int .i64 0, .string ⟨#[]⟩, .slice none 0 0, .slice none 0 0] 27) := ⟨_, rfl⟩
  have hb0 : Below w.heap.size w W0 := by rw [hW0]; exact (Below.refl _ _).alloc (Nat.le_refl _) _
  have hz0 : W0.heap.size = w.heap.size + 1 := by rw [hW0]; simp
  have hN0 : W0.heap[w.heap.size]? = some (.cells #[.string ⟨#[]⟩, .int .i64 0, .int .i64 0, .int .i64 0, .string ⟨#[]⟩, .slice none 0 0, .slice none 0 0] 27 (0, 0)) := by rw [hW0]; exact heap_alloc_new _ _
  have HB0 := Lib.hid hb0
  have HN0 := Lib.hid hN0
  by_cases h8 : s.size ≤ 10000
  case neg =>
    have hll : s.data.toList.length = s.size := by simp
    have HP : Hid (ERPost m s.data.toList w (.returned (.tuple #[.agg #[.string ⟨#[]⟩, .int .i64 0, .int .i64 0, .int .i64 0, .string ⟨#[]⟩, .slice none 0 0, .slice none 0 0], .bool false])) W0) := er_none0 HB0.out (fun x' v' t' ho hp => by have h1 := txtE_len ho; rw [hp] at h1; omega)
    obtain ⟨⟨z0, z1, z2, z3, z4, z5, z6⟩, f0, f1, f2, f3, f4, f5, f6⟩ := ev7_cells hN0
    subst hW0
    have hLi : (10000 : Int) < (s.size : Int) := by omega
    clear hN0 HN0 HB0 hll hb0
    go_enter Tryz.func4, Tryz.ntmps4
    go_wp2_with fail
    refine bodyPost_ret (v := .tuple #[.agg #[.string ⟨#[]⟩, .int .i64 0, .int .i64 0, .int .i64 0, .string ⟨#[]⟩, .slice none 0 0, .slice none 0 0], .bool false]) (by simp [results, Tryz.results4, go_sem, z0, z1, z2, z3, z4, z5, z6]) rfl ?_
    exact HP.out
  have hLi : ¬ (10000 : Int) < (s.size : Int) := by omega
  obtain ⟨W1, hW1⟩ : ∃ W1, W1 = W0.alloc (.cells #[.string s, .int .i64 0, .bool false] 35) := ⟨_, rfl⟩
  have hb1 : Below W0.heap.size W0 W1 := by rw [hW1]; exact (Below.refl _ _).alloc (Nat.le_refl _) _
  have hr1 : RdS W1 (w.heap.size + 1) s ((0 : Nat) : Int) false := by
    show W1.heap[w.heap.size + 1]? = _
    rw [hW1, ← hz0]; exact heap_alloc_new _ _
  have hN1 := (hb1.block w.heap.size (by omega)).trans HN0.out
  have HC := Lib.hid (name_any W1 (w.heap.size + 1) s 0 false hr1 h8 (Nat.zero_le _))
  have HB1 := Lib.hid (below_step HB0.out HB0.out.size hb1)
  have HN1 := Lib.hid hN1
  have hz1 : W1.heap.size = w.heap.size + 2 := by rw [hW1]; simp [hz0]
  clear hb1 hr1 hN1 hN0 HN0 HB0 hb0
  go_enter Tryz.func4, Tryz.ntmps4
  go_wp2_with fail
  rw [← hW0, ← hW1]
  clear hW0 hW1
  refine HC.out.mono ?_
  rintro e w2 ⟨rfl, hn2, hr2, hle2⟩
  rw [List.drop_zero, Nat.zero_add] at hr2 hle2
  rw [List.drop_zero]
  obtain ⟨x, hx⟩ : ∃ x, x = bs (s.data.toList.takeWhile nmByte) := ⟨_, rfl⟩
  have hxs : x.size ≤ 10000 := by rw [hx, bs_size]; omega
  obtain ⟨n1, hn1⟩ : ∃ n1, (s.data.toList.takeWhile nmByte).length = n1 := ⟨_, rfl⟩
  rw [hn1] at hr2 hle2
  rw [← hx]
  have HX := Lib.hid hx
  have HN := Lib.hid hn1
  clear hx hn1
  have hs2 := hn2.size
  obtain ⟨X, hX⟩ : ∃ X, w2.heap.size = X := ⟨_, rfl⟩
  obtain ⟨W2, hW2⟩ : ∃ W2, W2 = w2.alloc (.cells #[.string x, .int .i64 0, .int .i64 0, .int .i64 0, .string ⟨#[]⟩, .slice none 0 0, .slice none 0 0] 27) := ⟨_, rfl⟩
  have hb2 : Below w2.heap.size w2 W2 := by rw [hW2]; exact (Below.refl _ _).alloc (Nat.le_refl _) _
  have hE2 : EV w W2 s n1 false X (.string x) (.int .i64 0) (.int .i64 0) (.int .i64 0) (.string ⟨#[]⟩) (.slice none 0 0) (.slice none 0 0) := by
    refine ⟨⟨by rw [hb2.os, hn2.os]; exact HB1.out.os, by rw [hb2.tape, hn2.tape]; exact HB1.out.tape, by rw [hb2.output, hn2.output]; exact HB1.out.output, by have := hb2.size; omega, fun b hb => (hb2.block b (by omega)).trans ((hn2.block b (by omega) (by omega)).trans (HB1.out.block b hb))⟩, ?_, (hb2.block _ (by omega)).trans hr2, by omega, ?_⟩
    · exact (hb2.block _ (by omega)).trans ((hn2.block _ (by omega) (by omega)).trans HN1.out)
    · rw [hW2, ← hX]; exact heap_alloc_new _ _
  have HE2 := Lib.hid hE2
  have HC2 := Lib.hid (eat_any W2 (w.heap.size + 1) s ⟨#[64]⟩ n1 false hE2.rd h8 (by decide) hle2)
  clear HC hr2 hn2 hb2 hE2 HB1 HN1
  go_wp2_with fail
  rw [← hW2]
  try rw [hX]
  clear hW2
  refine HC2.out.mono ?_
  rintro e w3 ⟨rfl, hn3, hor⟩
  obtain ⟨i1, b1, hr3, hi1, hE⟩ : ∃ (i1 : Nat) (b1 : Bool), RdS w3 (w.heap.size + 1) s (i1 : Int) b1 ∧ i1 ≤ s.size ∧ ((eatP [64] (s.data.toList.drop (s.data.toList.takeWhile nmByte).length) = some (s.data.toList.drop ((s.data.toList.takeWhile nmByte).length + 1)) ∧ i1 = (s.data.toList.takeWhile nmByte).length + 1 ∧ b1 = false) ∨ (eatP [64] (s.data.toList.drop (s.data.toList.takeWhile nmByte).length) = none ∧ i1 = (s.data.toList.takeWhile nmByte).length ∧ b1 = true)) := by
    rw [HN.out]
    rcases hor with ⟨q1, q2, q3⟩ | ⟨q1, q2⟩
    · exact ⟨n1 + 1, false, q3, q2, .inl ⟨q1, rfl, rfl⟩⟩
    · exact ⟨n1, true, q2, hle2, .inr ⟨q1, rfl, rfl⟩⟩
  have hE3 := HE2.out.near hn3 hr3
  have HE3 := Lib.hid hE3
  have HEat := hidF hE
  have HC3 := Lib.hid (numA_any w3 (w.heap.size + 1) s i1 b1 hr3 h8 hi1)
  obtain ⟨⟨s0, s1, s2, s3, s4, s5, s6⟩, g0, g1, g2, g3, g4, g5, g6⟩ := ev7_cells hE3.box
  clear HC2 hor hE hn3 hr3 hE3 HE2
  clear s0 s1 s2 s3 s4 s5 s6 g0 g1 g2 g3 g4 g5 g6
  go_wp2_with fail
  refine HC3.out.mono ?_
  rintro e w4 ⟨v, i2, b2, rfl, hn4, hr4, hna, hb2'⟩
  have hE4 := HE3.out.near hn4 hr4
  obtain ⟨⟨s0, s1, s2, s3, s4, s5, s6⟩, g0, g1, g2, g3, g4, g5, g6⟩ := ev7_cells hE4.box
  obtain ⟨W4, hW4⟩ : ∃ W4, W4 = w4.setCell ⟨X, 1, none⟩ (.int .i64 v) := ⟨_, rfl⟩
  have hE4' := hE4.set1 (.int .i64 v)
  rw [← hW4] at hE4'
  have HNa := Lib.hid hna
  have HE4 := Lib.hid hE4'
  have hi2 : i2 ≤ s.size := hna.2.2.1
  have HC4 : Hid (Calls Tryz.prog 12 #[.pointer (some ⟨w.heap.size + 1, 0, none⟩), .int .i64 1] W4 (ReadPost (m + 1) 6 W4 (w.heap.size + 1) s i2 b2)) := l1Tree_any 6 (Nat.le_refl _) (m + 1) (w.heap.size + 1) s i2 b2 W4 hm hE4'.rd h8 (fun _ => hi2) (by omega)
  clear HC3 hna hn4 hr4 hE4 hE4' HE3
  go_wp2_with fail
  rw [← hW4]
  clear hW4 s0 s1 s2 s3 s4 s5 s6 g0 g1 g2 g3 g4 g5 g6
  refine HC4.out.mono ?_
  rintro e w5 ⟨hn5, t, d0, d1, d2, d3, d4, i3, b3, rfl, ht, hr5, hG⟩
  obtain ⟨t0, t1, t2, ta, tl, tc, ua, ul, uc, rfl, rfl, rfl, rfl, rfl⟩ := ht.shape
  have hE5 := HE4.out.near hn5 hr5
  have hs5 := hn5.size
  have hX4 := HE4.out.ltX
  have hXl := HE4.out.lt
  obtain ⟨⟨s0, s1, s2, s3, s4, s5, s6⟩, g0, g1, g2, g3, g4, g5, g6⟩ := ev7_cells hE5.box
  obtain ⟨V, hV⟩ : ∃ V, V = put5 w5 X 2 (.int .i64 t0) (.int .i64 t1) (.string t2) (.slice ta tl tc) (.slice ua ul uc) := ⟨_, rfl⟩
  have hE6 := hE5.put (.int .i64 t0) (.int .i64 t1) (.string t2) (.slice ta tl tc) (.slice ua ul uc)
  rw [← hV] at hE6
  have htV : TreeIn (fun b => w.heap.size + 1 ≤ b ∧ b < V.heap.size) V (m + 1) t (.int .i64 t0) (.int .i64 t1) (.string t2) (.slice ta tl tc) (.slice ua ul uc) :=
    ht.keep (fun b hb => by rw [hV]; exact put5_other (by omega)) (fun b hb => ⟨by omega, by rw [hV, put5_size]; exact hb.2⟩)
  have HRead : Hid (∀ (x' : ByteArray) (v' : Int) (t' : T (m + 1)), okE (m + 1) x' v' t' = true → txtE (m + 1) x' v' t' = s.data.toList → x = x' ∧ v = v' ∧ t = t' ∧ b3 = false ∧ i3 = s.size) := fun x' v' t' ho hp => by
    have := evtext_read HEat.out HNa.out hG ho hp
    rw [← HX.out] at this
    exact this
  have HE := Lib.hid hE6
  have HT := Lib.hid htV
  have HV : Hid (put5 w5 X 2 (.int .i64 t0) (.int .i64 t1) (.string t2) (.slice ta tl tc) (.slice ua ul uc) = V) := hV.symm
  clear HC4 hn5 ht hr5 hG hE5 hE6 htV hV HE4 HEat HNa
  go_upto_region 8 with fail
  have HV2 := HV.out
  unfold put5 at HV2
  try rw [HV2]
  clear HV HV2 s0 s1 s2 s3 s4 s5 s6 g0 g1 g2 g3 g4 g5 g6
  have hXs := HE.out.ltX
  have k1 := HE.out.rd.cell1
  have k2 := HE.out.rd.cell2
  obtain ⟨⟨s0, s1, s2, s3, s4, s5, s6⟩, -⟩ := ev7_cells HE.out.box
  cases b3
  case true =>
    have HP : Hid (ERPost m s.data.toList w (.returned (.tuple #[.agg #[.string ⟨#[]⟩, .int .i64 0, .int .i64 0, .int .i64 0, .string ⟨#[]⟩, .slice none 0 0, .slice none 0 0], .bool false])) (put7 V w.heap.size (.string ⟨#[]⟩) (.int .i64 0) (.int .i64 0) (.int .i64 0) (.string ⟨#[]⟩) (.slice none 0 0) (.slice none 0 0))) := er_none (HE.out).below (fun x' v' t' ho hp => by have h := (HRead.out x' v' t' ho hp).2.2.2.1; cases h)
    obtain ⟨⟨z0, z1, z2, z3, z4, z5, z6⟩, f0, f1, f2, f3, f4, f5, f6⟩ := ev7_cells (HE.out).zero
    clear HRead HE HT
    go_wp2_with fail
    refine bodyPost_ret (v := .tuple #[.agg #[.string ⟨#[]⟩, .int .i64 0, .int .i64 0, .int .i64 0, .string ⟨#[]⟩, .slice none 0 0, .slice none 0 0], .bool false]) (by simp [results, Tryz.results4, go_sem, z0, z1, z2, z3, z4, z5, z6]) rfl ?_
    exact HP.out
  case false =>
  by_cases hi3 : i3 = s.size
  case neg =>
    have hi3' : ¬ (i3 : Int) = (s.size : Int) := by omega
    have hi3b : ((i3 : Int) != (s.size : Int)) = true := by simp; omega
    have HP : Hid (ERPost m s.data.toList w (.returned (.tuple #[.agg #[.string ⟨#[]⟩, .int .i64 0, .int .i64 0, .int .i64 0, .string ⟨#[]⟩, .slice none 0 0, .slice none 0 0], .bool false])) (put7 V w.heap.size (.string ⟨#[]⟩) (.int .i64 0) (.int .i64 0) (.int .i64 0) (.string ⟨#[]⟩) (.slice none 0 0) (.slice none 0 0))) := er_none (HE.out).below (fun x' v' t' ho hp => hi3 (HRead.out x' v' t' ho hp).2.2.2.2)
    obtain ⟨⟨z0, z1, z2, z3, z4, z5, z6⟩, f0, f1, f2, f3, f4, f5, f6⟩ := ev7_cells (HE.out).zero
    clear HRead HE HT hi3
    go_wp2_with fail
    refine bodyPost_ret (v := .tuple #[.agg #[.string ⟨#[]⟩, .int .i64 0, .int .i64 0, .int .i64 0, .string ⟨#[]⟩, .slice none 0 0, .slice none 0 0], .bool false]) (by simp [results, Tryz.results4, go_sem, z0, z1, z2, z3, z4, z5, z6]) rfl ?_
    exact HP.out
  case pos =>
  have hi3b : ((i3 : Int) != (s.size : Int)) = false := by rw [hi3]; simp
  have hi3' : (i3 : Int) = (s.size : Int) := by omega
  have HC5 := Lib.hid (specEWrite_any (m + 1) _ x v t _ _ _ _ _ V (by unfold maxLen; omega) HT.out (fun b hb => hb.2))
  have HI3 := Lib.hid hi3
  clear hi3
  go_wp2_with fail
  refine HC5.out.mono ?_
  rintro e w6 ⟨rfl, hb6⟩
  have hE7 := HE.out.same hb6
  have hT7 := HT.out.step (fun b hb => hb.2) hb6
  have hs6 := hb6.size
  obtain ⟨y, hy⟩ : ∃ y, textE (m + 1) x v t = y := ⟨_, rfl⟩
  have HY := Lib.hid hy
  rw [hy]
  by_cases hys : y = s
  case neg =>
    have hb : (y.toList == s.toList) = false := by
      rw [beq_eq_false_iff_ne]
      intro e
      rw [ByteArray.toList_eq, ByteArray.toList_eq] at e
      exact hys (ba_eq e)
    have hbn : (y.toList != s.toList) = true := by rw [bne, hb]; rfl
    have HNe : Hid (∀ (x' : ByteArray) (v' : Int) (t' : T (m + 1)), okE (m + 1) x' v' t' = true → txtE (m + 1) x' v' t' ≠ s.data.toList) := fun x' v' t' ho hp => by
      obtain ⟨rfl, rfl, rfl, -, -⟩ := HRead.out x' v' t' ho hp
      apply hys
      rw [← HY.out]
      exact ba_eq ((textE_yes ho).trans hp)
    have HE7 := Lib.hid hE7
    have HP : Hid (ERPost m s.data.toList w (.returned (.tuple #[.agg #[.string ⟨#[]⟩, .int .i64 0, .int .i64 0, .int .i64 0, .string ⟨#[]⟩, .slice none 0 0, .slice none 0 0], .bool false])) (put7 w6 w.heap.size (.string ⟨#[]⟩) (.int .i64 0) (.int .i64 0) (.int .i64 0) (.string ⟨#[]⟩) (.slice none 0 0) (.slice none 0 0))) := er_none (HE7.out).below HNe.out
    obtain ⟨⟨z0, z1, z2, z3, z4, z5, z6⟩, f0, f1, f2, f3, f4, f5, f6⟩ := ev7_cells (HE7.out).zero
    clear HRead HE HT HC5 hb6 hE7 hT7 HY hy HNe HE7 hys k1 k2 s0 s1 s2 s3 s4 s5 s6
    go_wp2_with fail
    refine bodyPost_ret (v := .tuple #[.agg #[.string ⟨#[]⟩, .int .i64 0, .int .i64 0, .int .i64 0, .string ⟨#[]⟩, .slice none 0 0, .slice none 0 0], .bool false]) (by simp [results, Tryz.results4, go_sem, z0, z1, z2, z3, z4, z5, z6]) rfl ?_
    exact HP.out
  case pos =>
  subst hys
  have hb : (y.toList == y.toList) = true := by simp
  have hbn : (y.toList != y.toList) = false := by simp
  by_cases hem : y = ByteArray.empty
  case pos =>
    have HNe : Hid (∀ (x' : ByteArray) (v' : Int) (t' : T (m + 1)), okE (m + 1) x' v' t' = true → txtE (m + 1) x' v' t' ≠ y.data.toList) := fun x' v' t' ho hp => by
      rw [hem] at hp
      exact txtE_ne hp
    have hbe : (y.toList == []) = true := by rw [hem, ByteArray.toList_eq]; rfl
    have hbe2 : (y.toList == (⟨#[]⟩ : ByteArray).toList) = true := by rw [hem]; first | done | rfl | simp
    have HE7 := Lib.hid hE7
    have HP : Hid (ERPost m y.data.toList w (.returned (.tuple #[.agg #[.string ⟨#[]⟩, .int .i64 0, .int .i64 0, .int .i64 0, .string ⟨#[]⟩, .slice none 0 0, .slice none 0 0], .bool false])) (put7 w6 w.heap.size (.string ⟨#[]⟩) (.int .i64 0) (.int .i64 0) (.int .i64 0) (.string ⟨#[]⟩) (.slice none 0 0) (.slice none 0 0))) := er_none (HE7.out).below HNe.out
    obtain ⟨⟨z0, z1, z2, z3, z4, z5, z6⟩, f0, f1, f2, f3, f4, f5, f6⟩ := ev7_cells (HE7.out).zero
    clear HRead HE HT HC5 hb6 hE7 hT7 HY hy HNe HE7 k1 k2 s0 s1 s2 s3 s4 s5 s6
    go_wp2_with fail
    refine bodyPost_ret (v := .tuple #[.agg #[.string ⟨#[]⟩, .int .i64 0, .int .i64 0, .int .i64 0, .string ⟨#[]⟩, .slice none 0 0, .slice none 0 0], .bool false]) (by simp [results, Tryz.results4, go_sem, z0, z1, z2, z3, z4, z5, z6]) rfl ?_
    exact HP.out
  case neg =>
  have hok : okE (m + 1) x v t = true := by
    cases h : okE (m + 1) x v t with
    | true => rfl
    | false =>
      exfalso
      apply hem
      rw [← HY.out, textE, if_neg (by rw [h]; simp)]
      rfl
  have hbe2 : (y.toList == (⟨#[]⟩ : ByteArray).toList) = false := by
    rw [beq_eq_false_iff_ne]
    intro e
    rw [ByteArray.toList_eq, ByteArray.toList_eq] at e
    exact hem (ba_eq e)
  have hbe : (y.toList == []) = false := by
    rw [beq_eq_false_iff_ne]
    intro e
    rw [ByteArray.toList_eq] at e
    exact hem (ba_eq e)
  have HP : Hid (ERPost m y.data.toList w (.returned (.tuple #[.agg #[.string x, .int .i64 v, .int .i64 t0, .int .i64 t1, .string t2, .slice ta tl tc, .slice ua ul uc], .bool true])) (put7 w6 w.heap.size (.string x) (.int .i64 v) (.int .i64 t0) (.int .i64 t1) (.string t2) (.slice ta tl tc) (.slice ua ul uc))) := by
    refine ⟨put7_below hE7.below (Nat.le_refl _), true, x, v, t, _, _, _, _, _, rfl, hT7.1.keep (fun b hb => put7_other (by omega)) (fun b hb => ⟨by omega, by rw [put7_size]; omega⟩), .inl ⟨rfl, hok, ?_⟩⟩
    rw [← textE_yes hok, HY.out]
  obtain ⟨⟨z0, z1, z2, z3, z4, z5, z6⟩, f0, f1, f2, f3, f4, f5, f6⟩ := ev7_cells hE7.zero
  have hbx := hE7.box
  clear s0 s1 s2 s3 s4 s5 s6 k1 k2
  obtain ⟨⟨s0, s1, s2, s3, s4, s5, s6⟩, -⟩ := ev7_cells hbx
  clear HRead HE HT HC5 hb6 hE7 hT7 HY hy hok hbx hem
  go_wp2_with fail
  refine bodyPost_ret (v := .tuple #[.agg #[.string x, .int .i64 v, .int .i64 t0, .int .i64 t1, .string t2, .slice ta tl tc, .slice ua ul uc], .bool true]) (by simp [results, Tryz.results4, go_sem, z0, z1, z2, z3, z4, z5, z6]) rfl ?_
  exact HP.out

end Go.Proofs.YtpnnbdejneoccaaGreatDoor
