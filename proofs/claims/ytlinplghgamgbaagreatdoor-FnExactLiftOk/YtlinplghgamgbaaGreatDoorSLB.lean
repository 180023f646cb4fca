/-
  The specification on upcasters' nodes: l11Text, l11Is, LiftOk.
-/
import Derived.Test.YtlinplghgamgbaaGreatDoorSLA
namespace Go.Proofs.YtlinplghgamgbaaGreatDoor
open Go.RowKit

theorem textS_any : ∀ m, TextS m := by
  intro m
  induction m with
  | zero => intro S t c0 c1 c2 c3 c4 d w ht; exact ht.elim
  | succ m ih =>
    intro S t c0 c1 c2 c3 c4 d w ht hB hg hl
    obtain ⟨rfl, rfl, rfl, hx, hw0, hw1, h3, h4, ⟨na, nl, nc, rfl, hc3⟩, ⟨ka, kl, kc, rfl, hc4⟩⟩ := ht
    obtain ⟨_, _, hv, -⟩ := id h3
    cases hv
    obtain ⟨_, _, hv, -⟩ := id h4
    cases hv
    simp only [goodN, Bool.and_eq_true] at hg
    obtain ⟨⟨-, hj⟩, hgk⟩ := hg
    obtain ⟨n, hn⟩ : ∃ n : Nd (T m), n = t := ⟨t, rfl⟩
    have hll : lenN (m + 1) t = lenF (lenN m) n := by rw [hn]; rfl
    rw [hll] at hl ⊢
    change justB (poT m) t = true at hj
    rw [← hn] at hj hgk hw0 hw1 hx h3 h4 ⊢
    have hr : 1 ≤ n.sort ∧ n.sort ≤ 43 := by
      have h := hj
      unfold justB at h; simp only [Bool.and_eq_true, decide_eq_true_eq] at h; exact h.1
    obtain ⟨k, hk⟩ : ∃ k : Nat, n.sort = (k : Int) := ⟨n.sort.toNat, by omega⟩
    obtain ⟨hk44, hasT, hasN, hasF⟩ := just_has (poT m) n k hk hj
    have hkn : n.sort.toNat = k := by omega
    have hs : Nd.sort n = (k : Int) := hk
    by_cases h3' : k ≤ 3
    · have e : lenF (lenN m) n = (leafL n.sort n.num n.text).length := by unfold lenF; rw [if_pos (by omega)]
      rw [e]
      have := textS_leaf m n na ka nc kc k hk (by omega) h3' w hw0 hw1 hx (hasT (by
        have : k = 1 ∨ k = 2 ∨ k = 3 := by omega
        rcases this with rfl | rfl | rfl <;> decide))
      rw [hk] at this ⊢
      exact this
    by_cases h4' : k = 4
    · subst h4'
      have e : lenF (lenN m) n = (n.names.headD ByteArray.empty).size := by unfold lenF; rw [if_neg (by omega), if_pos (by omega)]
      rw [e, hk]
      refine textS_name S m n na ka nc kc w hB h3 ?_
      rw [just_op (poT m) n hr.1 hr.2 (by omega), hkn, pre_name.1] at hj
      simp only [preC, Bool.and_eq_true] at hj
      intro e0
      have := hj.1.2
      rw [e0] at this
      exact absurd this (by decide)
    by_cases h24 : k = 24
    · subst h24
      rw [just_form (poT m) n (by omega)] at hj
      simp only [Bool.and_eq_true] at hj
      have hx0 := toList_empty _ hj.2.2
      have e : lenF (lenN m) n = 8 + szN n.names + sumL (fun x => lenN m x + 1) n.kids := by
        unfold lenF
        rw [if_neg (by omega), if_neg (by omega), hkn, if_pos hx0, if_neg (by omega), if_pos (by omega), show (wrd 24).size = 4 by decide]
        omega
      rw [e] at hl ⊢
      rw [hk]
      exact textS_form m ih S n na ka nc kc (d + 1) w hB h3 h4 (hasF (by decide)) hgk hl
    · have e : lenF (lenN m) n = (wrd k).size + szN n.names + (if n.text.size = 0 then 0 else n.text.size + 1) + (if k = 37 ∨ k = 39 then (Lib.itoa n.num).length + 1 else 0) + sumL (fun x => lenN m x + 1) n.kids := by
        unfold lenF
        rw [if_neg (by omega), if_neg (by omega), hkn, if_neg (show ¬ n.sort = 24 by omega)]
        have : (if n.sort = 37 ∨ n.sort = 39 then (Lib.itoa n.num).length + 1 else 0) = (if k = 37 ∨ k = 39 then (Lib.itoa n.num).length + 1 else 0) := by
          by_cases h : k = 37 ∨ k = 39
          · rw [if_pos h, if_pos (by omega)]
          · rw [if_neg h, if_neg (by omega)]
        rw [this]; rfl
      rw [e] at hl ⊢
      rw [hk]
      refine textS_op m ih S n na ka nc kc k (d + 1) w hk44 (by omega) h24 hB h3 h4 hgk (fun h => hasN ?_) hl
      rcases h with rfl | rfl <;> decide

/-- What l11Is answers. -/
def isS (m : Nat) (t : T m) (act : Bool) : Bool := (goodN m t 1 && (act == decide (36 ≤ opT m t))) && decide (cntT m t ≤ 200) && decide (lenN m t ≤ 3000)

theorem cntN_pos : ∀ (m : Nat) (t : T m) (d : Int), goodN m t d = true → 1 ≤ cntT m t := by
  intro m t d h
  cases m with
  | zero => simp [goodN] at h
  | succ m => simp only [cntT]; omega

set_option maxRecDepth 20000 in
set_option maxHeartbeats 1000000 in
theorem l11Is_any (m : Nat) (S : Nat → Prop) (t : T m) (c0 c1 c2 c3 c4 : Value) (act : Bool) (w : World) (hin : NodeIn S w m t c0 c1 c2 c3 c4) (hB : ∀ b, S b → b < w.heap.size) (hsz : szT m t ≤ 1048576) :
    Calls Tryz.prog 17 #[.agg #[c0, c1, c2, c3, c4], .bool act] w fun e w' => e = .returned (.bool (isS m t act)) ∧ Below w.heap.size w w' := by
  obtain ⟨x0, x1, x2, xa, xl, xc, ya, yl, yc, rfl, rfl, rfl, rfl, rfl⟩ := hin.shape
  have hb0 := (Below.refl w.heap.size w).alloc (Nat.le_refl _) (.cells #[.int .i64 x0, .int .i64 x1, .string x2, .slice xa xl xc, .slice ya yl yc] 30)
  obtain ⟨hin0, hB0⟩ := hin.step hB hb0
  have HC1 : Hid (Calls Tryz.prog 28 _ _ _) := l11Nodes_any m S t _ _ _ _ _ act 1 _ hin0 hB0 hsz (by omega) (by omega)
  have HC2 : Hid (∀ w1, Below (w.alloc (.cells #[.int .i64 x0, .int .i64 x1, .string x2, .slice xa xl xc, .slice ya yl yc] 30)).heap.size (w.alloc (.cells #[.int .i64 x0, .int .i64 x1, .string x2, .slice xa xl xc, .slice ya yl yc] 30)) w1 → Below w.heap.size w w1 ∧ (w1.cell? ⟨w.heap.size, 0, none⟩ = some (.int .i64 x0) ∧ w1.cell? ⟨w.heap.size, 1, none⟩ = some (.int .i64 x1) ∧ w1.cell? ⟨w.heap.size, 2, none⟩ = some (.string x2) ∧ w1.cell? ⟨w.heap.size, 3, none⟩ = some (.slice xa xl xc) ∧ w1.cell? ⟨w.heap.size, 4, none⟩ = some (.slice ya yl yc)) ∧
      (goodN m t 1 = true → cntT m t ≤ 200 → Calls Tryz.prog 29 #[.agg #[.int .i64 x0, .int .i64 x1, .string x2, .slice xa xl xc, .slice ya yl yc]] w1 fun e w' => Below w1.heap.size w1 w' ∧ ∃ s, e = .returned (.string s) ∧ s.size = lenN m t)) := by
    intro w1 hb1
    obtain ⟨hin1, hB1⟩ := hin0.step hB0 hb1
    refine ⟨below_step hb0 (by simp) hb1, five_of ((hb1.block w.heap.size (by simp)).trans (heap_alloc_last w _)), fun hg hc => ?_⟩
    have hl := lenN_le m t 1 hg
    exact textS_any m S t _ _ _ _ _ 1 w1 hin1 hB1 hg (by omega)
  have HV : Hid (nodesF m t act 1 = if (goodN m t 1 && (act == decide (36 ≤ opT m t))) = true ∧ cntT m t ≤ 200 then (cntT m t : Int) else -1) := by
    show _ = _
    unfold nodesF
    rw [goodS_eq]
  clear hin hin0
  generalize nodesF m t act 1 = v at *
  by_cases hq : (goodN m t 1 && (act == decide (36 ≤ opT m t))) = true ∧ cntT m t ≤ 200
  · have hg : goodN m t 1 = true := by have := hq.1; simp only [Bool.and_eq_true] at this; exact this.1
    have hp := cntN_pos m t 1 hg
    have hv : (0 : Int) < v := by rw [HV.out, if_pos hq]; omega
    have HO : Hid (isS m t act = decide ((lenN m t : Int) ≤ 3000)) := by
      show _ = _
      unfold isS
      rw [hq.1, decide_eq_true hq.2]
      by_cases h3 : lenN m t ≤ 3000
      · rw [decide_eq_true h3, decide_eq_true (by omega)]; rfl
      · rw [decide_eq_false h3, decide_eq_false (by omega)]; rfl
    have hc := hq.2
    clear hq HV hp
    go_enter Tryz.func17, Tryz.ntmps17
    go_wp2_with fail
    refine HC1.out.mono ?_
    rintro e w1 ⟨rfl, hb1⟩
    obtain ⟨hb2, ⟨z0, z1, z2, z3, z4⟩, hct⟩ := HC2.out w1 hb1
    have HCT := hidF (hct hg hc)
    have HB2 := hidF hb2
    clear hb1 hb2 hct HC1 HC2 hg hc
    go_wp2_with fail
    refine HCT.out.mono ?_
    rintro e w2 ⟨hb3, s, rfl, hs⟩
    have HF : Hid (isS m t act = decide ((s.size : Int) ≤ 3000) ∧ Below w.heap.size w w2) := ⟨by rw [HO.out, hs], HB2.out.trans (hb3.mono HB2.out.size)⟩
    clear hb3 hs HCT HO z0 z1 z2 z3 z4
    go_wp2_with fail
    go_ret
    exact ⟨bool_ret HF.out.1.symm, HF.out.2⟩
  · have hv : ¬ (0 : Int) < v := by rw [HV.out, if_neg hq]; omega
    have HO : Hid (isS m t act = false) := by
      show _ = _
      unfold isS
      cases h1 : (goodN m t 1 && (act == decide (36 ≤ opT m t))) with
      | false => rfl
      | true =>
        have h2 : ¬ cntT m t ≤ 200 := fun h => hq ⟨h1, h⟩
        rw [decide_eq_false h2]; rfl
    clear hq HV
    go_enter Tryz.func17, Tryz.ntmps17
    go_wp2_with fail
    refine HC1.out.mono ?_
    rintro e w1 ⟨rfl, hb1⟩
    obtain ⟨hb2, -, -⟩ := HC2.out w1 hb1
    have HB2 := hidF hb2
    clear hb1 hb2 HC1 HC2
    go_wp2_with fail
    go_ret
    exact ⟨bool_ret HO.out.symm, HB2.out⟩

theorem isS_okA (m : Nat) (t : T m) : isS m t true = okA m t := by
  unfold isS okA okN
  cases hg : goodN m t 1 with
  | false => simp
  | true =>
    have hr : 1 ≤ opT m t ∧ opT m t ≤ 43 := by
      cases m with
      | zero => simp [goodN] at hg
      | succ m =>
        simp only [goodN, Bool.and_eq_true] at hg
        have := hg.1.2
        unfold justB at this
        simp only [Bool.and_eq_true, decide_eq_true_eq] at this
        exact this.1
    have hpo : poT m t = if 36 ≤ opT m t then 65 else 86 := po_act _ hr
    rw [hpo]
    by_cases h : 36 ≤ opT m t
    · simp [h]
    · simp [h]

set_option maxRecDepth 20000 in
set_option maxHeartbeats 1000000 in
theorem specLOk_any (m : Nat) (S : Nat → Prop) (t : T m) (c0 c1 c2 c3 c4 : Value) (w : World) (hin : NodeIn S w m t c0 c1 c2 c3 c4) (hB : ∀ b, S b → b < w.heap.size) (hsz : szT m t ≤ 1048576) :
    Calls Tryz.prog 7 #[.agg #[c0, c1, c2, c3, c4]] w fun e w' => e = .returned (.bool (okA m t)) ∧ Below w.heap.size w w' := by
  obtain ⟨x0, x1, x2, xa, xl, xc, ya, yl, yc, rfl, rfl, rfl, rfl, rfl⟩ := hin.shape
  have hb0 := (Below.refl w.heap.size w).alloc (Nat.le_refl _) (.cells #[.int .i64 x0, .int .i64 x1, .string x2, .slice xa xl xc, .slice ya yl yc] 30)
  obtain ⟨hin0, hB0⟩ := hin.step hB hb0
  have HC : Hid (Calls Tryz.prog 17 _ _ _) := l11Is_any m S t _ _ _ _ _ true _ hin0 hB0 hsz
  rw [isS_okA] at HC
  clear hin hin0
  go_enter Tryz.func7, Tryz.ntmps7
  go_wp2_with fail
  refine HC.out.mono ?_
  rintro e w1 ⟨rfl, hb1⟩
  have HB := hidF (below_step hb0 (by simp) hb1)
  clear hb1 HC
  go_wp2_with fail
  go_ret
  exact ⟨rfl, HB.out⟩

end Go.Proofs.YtlinplghgamgbaaGreatDoor
