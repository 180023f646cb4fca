/-
  Several texts in one, in their order.
-/
import Derived.Test.YtlinplghgamgbaaGreatDoorSLA
import Derived.Test.YtlinplghgamgbaaGreatDoorB13
import Derived.Deep.RegionHeld
import Derived.Test.YtlinplghgamgbaaGreatDoorB24

/-
  The specification on upcasters' nodes: l11Text, l11Is, LiftOk.
-/
namespace Go.Proofs.YtlinplghgamgbaaGreatDoor
open Go.RowKit

theorem textS_any : ∀ m, TextS m := by
  intro m
  induction m with
  | zero => intro S t c0 c1 c2 c3 c4 d w ht; exact ht.elim
  | succ m ih =>
    intro S t c0 c1 c2 c3 c4 d w ht hB hg hl
    obtain ⟨rfl, rfl, rfl, hx, hw0, hw1, h3, h4, ⟨na, nl, nc, rfl, hc3⟩, ⟨ka, kl, kc, rfl, hc4⟩⟩ := ht
    obtain ⟨_, _, hv, -⟩ := id h3
    cases hv
    obtain ⟨_, _, hv, -⟩ := id h4
    cases hv
    simp only [goodN, Bool.and_eq_true] at hg
    obtain ⟨⟨-, hj⟩, hgk⟩ := hg
    obtain ⟨n, hn⟩ : ∃ n : Nd (T m), n = t := ⟨t, rfl⟩
    have hll : lenN (m + 1) t = lenF (lenN m) n := by rw [hn]; rfl
    rw [hll] at hl ⊢
    change justB (poT m) t = true at hj
    rw [← hn] at hj hgk hw0 hw1 hx h3 h4 ⊢
    have hr : 1 ≤ n.sort ∧ n.sort ≤ 43 := by
      have h := hj
      unfold justB at h; simp only [Bool.and_eq_true, decide_eq_true_eq] at h; exact h.1
    obtain ⟨k, hk⟩ : ∃ k : Nat, n.sort = (k : Int) := ⟨n.sort.toNat, by omega⟩
    obtain ⟨hk44, hasT, hasN, hasF⟩ := just_has (poT m) n k hk hj
    have hkn : n.sort.toNat = k := by omega
    have hs : Nd.sort n = (k : Int) := hk
    by_cases h3' : k ≤ 3
    · have e : lenF (lenN m) n = (leafL n.sort n.num n.text).length := by unfold lenF; rw [if_pos (by omega)]
      rw [e]
      have := textS_leaf m n na ka nc kc k hk (by omega) h3' w hw0 hw1 hx (hasT (by
        have : k = 1 ∨ k = 2 ∨ k = 3 := by omega
        rcases this with rfl | rfl | rfl <;> decide))
      rw [hk] at this ⊢
      exact this
    by_cases h4' : k = 4
    · subst h4'
      have e : lenF (lenN m) n = (n.names.headD ByteArray.empty).size := by unfold lenF; rw [if_neg (by omega), if_pos (by omega)]
      rw [e, hk]
      refine textS_name S m n na ka nc kc w hB h3 ?_
      rw [just_op (poT m) n hr.1 hr.2 (by omega), hkn, pre_name.1] at hj
      simp only [preC, Bool.and_eq_true] at hj
      intro e0
      have := hj.1.2
      rw [e0] at this
      exact absurd this (by decide)
    by_cases h24 : k = 24
    · subst h24
      rw [just_form (poT m) n (by omega)] at hj
      simp only [Bool.and_eq_true] at hj
      have hx0 := toList_empty _ hj.2.2
      have e : lenF (lenN m) n = 8 + szN n.names + sumL (fun x => lenN m x + 1) n.kids := by
        unfold lenF
        rw [if_neg (by omega), if_neg (by omega), hkn, if_pos hx0, if_neg (by omega), if_pos (by omega), show (wrd 24).size = 4 by decide]
        omega
      rw [e] at hl ⊢
      rw [hk]
      exact textS_form m ih S n na ka nc kc (d + 1) w hB h3 h4 (hasF (by decide)) hgk hl
    · have e : lenF (lenN m) n = (wrd k).size + szN n.names + (if n.text.size = 0 then 0 else n.text.size + 1) + (if k = 37 ∨ k = 39 then (Lib.itoa n.num).length + 1 else 0) + sumL (fun x => lenN m x + 1) n.kids := by
        unfold lenF
        rw [if_neg (by omega), if_neg (by omega), hkn, if_neg (show ¬ n.sort = 24 by omega)]
        have : (if n.sort = 37 ∨ n.sort = 39 then (Lib.itoa n.num).length + 1 else 0) = (if k = 37 ∨ k = 39 then (Lib.itoa n.num).length + 1 else 0) := by
          by_cases h : k = 37 ∨ k = 39
          · rw [if_pos h, if_pos (by omega)]
          · rw [if_neg h, if_neg (by omega)]
        rw [this]; rfl
      rw [e] at hl ⊢
      rw [hk]
      refine textS_op m ih S n na ka nc kc k (d + 1) w hk44 (by omega) h24 hB h3 h4 hgk (fun h => hasN ?_) hl
      rcases h with rfl | rfl <;> decide

/-- What l11Is answers. -/
def isS (m : Nat) (t : T m) (act : Bool) : Bool := (goodN m t 1 && (act == decide (36 ≤ opT m t))) && decide (cntT m t ≤ 200) && decide (lenN m t ≤ 3000)

theorem cntN_pos : ∀ (m : Nat) (t : T m) (d : Int), goodN m t d = true → 1 ≤ cntT m t := by
  intro m t d h
  cases m with
  | zero => simp [goodN] at h
  | succ m => simp only [cntT]; omega

set_option maxRecDepth 20000 in
set_option maxHeartbeats 1000000 in
theorem l11Is_any (m : Nat) (S : Nat → Prop) (t : T m) (c0 c1 c2 c3 c4 : Value) (act : Bool) (w : World) (hin : NodeIn S w m t c0 c1 c2 c3 c4) (hB : ∀ b, S b → b < w.heap.size) (hsz : szT m t ≤ 1048576) :
    Calls Tryz.prog 17 #[.agg #[c0, c1, c2, c3, c4], .bool act] w fun e w' => e = .returned (.bool (isS m t act)) ∧ Below w.heap.size w w' := by
  obtain ⟨x0, x1, x2, xa, xl, xc, ya, yl, yc, rfl, rfl, rfl, rfl, rfl⟩ := hin.shape
  have hb0 := (Below.refl w.heap.size w).alloc (Nat.le_refl _) (.cells #[.int .i64 x0, .int .i64 x1, .string x2, .slice xa xl xc, .slice ya yl yc] 30)
  obtain ⟨hin0, hB0⟩ := hin.step hB hb0
  have HC1 : Hid (Calls Tryz.prog 28 _ _ _) := l11Nodes_any m S t _ _ _ _ _ act 1 _ hin0 hB0 hsz (by omega) (by omega)
  have HC2 : Hid (∀ w1, Below (w.alloc (.cells #[.int .i64 x0, .int .i64 x1, .string x2, .slice xa xl xc, .slice ya yl yc] 30)).heap.size (w.alloc (.cells #[.int .i64 x0, .int .i64 x1, .string x2, .slice xa xl xc, .slice ya yl yc] 30)) w1 → Below w.heap.size w w1 ∧ (w1.cell? ⟨w.heap.size, 0, none⟩ = some (.int .i64 x0) ∧ w1.cell? ⟨w.heap.size, 1, none⟩ = some (.int .i64 x1) ∧ w1.cell? ⟨w.heap.size, 2, none⟩ = some (.string x2) ∧ w1.cell? ⟨w.heap.size, 3, none⟩ = some (.slice xa xl xc) ∧ w1.cell? ⟨w.heap.size, 4, none⟩ = some (.slice ya yl yc)) ∧
      (goodN m t 1 = true → cntT m t ≤ 200 → Calls Tryz.prog 29 #[.agg #[.int .i64 x0, .int .i64 x1, .string x2, .slice xa xl xc, .slice ya yl yc]] w1 fun e w' => Below w1.heap.size w1 w' ∧ ∃ s, e = .returned (.string s) ∧ s.size = lenN m t)) := by
    intro w1 hb1
    obtain ⟨hin1, hB1⟩ := hin0.step hB0 hb1
    refine ⟨below_step hb0 (by simp) hb1, five_of ((hb1.block w.heap.size (by simp)).trans (heap_alloc_last w _)), fun hg hc => ?_⟩
    have hl := lenN_le m t 1 hg
    exact textS_any m S t _ _ _ _ _ 1 w1 hin1 hB1 hg (by omega)
  have HV : Hid (nodesF m t act 1 = if (goodN m t 1 && (act == decide (36 ≤ opT m t))) = true ∧ cntT m t ≤ 200 then (cntT m t : Int) else -1) := by
    show _ = _
    unfold nodesF
    rw [goodS_eq]
  clear hin hin0
  generalize nodesF m t act 1 = v at *
  by_cases hq : (goodN m t 1 && (act == decide (36 ≤ opT m t))) = true ∧ cntT m t ≤ 200
  · have hg : goodN m t 1 = true := by have := hq.1; simp only [Bool.and_eq_true] at this; exact this.1
    have hp := cntN_pos m t 1 hg
    have hv : (0 : Int) < v := by rw [HV.out, if_pos hq]; omega
    have HO : Hid (isS m t act = decide ((lenN m t : Int) ≤ 3000)) := by
      show _ = _
      unfold isS
      rw [hq.1, decide_eq_true hq.2]
      by_cases h3 : lenN m t ≤ 3000
      · rw [decide_eq_true h3, decide_eq_true (by omega)]; rfl
      · rw [decide_eq_false h3, decide_eq_false (by omega)]; rfl
    have hc := hq.2
    clear hq HV hp
    go_enter Tryz.func17, Tryz.ntmps17
    go_wp2_with fail
    refine HC1.out.mono ?_
    rintro e w1 ⟨rfl, hb1⟩
    obtain ⟨hb2, ⟨z0, z1, z2, z3, z4⟩, hct⟩ := HC2.out w1 hb1
    have HCT := hidF (hct hg hc)
    have HB2 := hidF hb2
    clear hb1 hb2 hct HC1 HC2 hg hc
    go_wp2_with fail
    refine HCT.out.mono ?_
    rintro e w2 ⟨hb3, s, rfl, hs⟩
    have HF : Hid (isS m t act = decide ((s.size : Int) ≤ 3000) ∧ Below w.heap.size w w2) := ⟨by rw [HO.out, hs], HB2.out.trans (hb3.mono HB2.out.size)⟩
    clear hb3 hs HCT HO z0 z1 z2 z3 z4
    go_wp2_with fail
    go_ret
    exact ⟨bool_ret HF.out.1.symm, HF.out.2⟩
  · have hv : ¬ (0 : Int) < v := by rw [HV.out, if_neg hq]; omega
    have HO : Hid (isS m t act = false) := by
      show _ = _
      unfold isS
      cases h1 : (goodN m t 1 && (act == decide (36 ≤ opT m t))) with
      | false => rfl
      | true =>
        have h2 : ¬ cntT m t ≤ 200 := fun h => hq ⟨h1, h⟩
        rw [decide_eq_false h2]; rfl
    clear hq HV
    go_enter Tryz.func17, Tryz.ntmps17
    go_wp2_with fail
    refine HC1.out.mono ?_
    rintro e w1 ⟨rfl, hb1⟩
    obtain ⟨hb2, -, -⟩ := HC2.out w1 hb1
    have HB2 := hidF hb2
    clear hb1 hb2 HC1 HC2
    go_wp2_with fail
    go_ret
    exact ⟨bool_ret HO.out.symm, HB2.out⟩

theorem isS_okA (m : Nat) (t : T m) : isS m t true = okA m t := by
  unfold isS okA okN
  cases hg : goodN m t 1 with
  | false => simp
  | true =>
    have hr : 1 ≤ opT m t ∧ opT m t ≤ 43 := by
      cases m with
      | zero => simp [goodN] at hg
      | succ m =>
        simp only [goodN, Bool.and_eq_true] at hg
        have := hg.1.2
        unfold justB at this
        simp only [Bool.and_eq_true, decide_eq_true_eq] at this
        exact this.1
    have hpo : poT m t = if 36 ≤ opT m t then 65 else 86 := po_act _ hr
    rw [hpo]
    by_cases h : 36 ≤ opT m t
    · simp [h]
    · simp [h]

set_option maxRecDepth 20000 in
set_option maxHeartbeats 1000000 in
theorem specLOk_any (m : Nat) (S : Nat → Prop) (t : T m) (c0 c1 c2 c3 c4 : Value) (w : World) (hin : NodeIn S w m t c0 c1 c2 c3 c4) (hB : ∀ b, S b → b < w.heap.size) (hsz : szT m t ≤ 1048576) :
    Calls Tryz.prog 7 #[.agg #[c0, c1, c2, c3, c4]] w fun e w' => e = .returned (.bool (okA m t)) ∧ Below w.heap.size w w' := by
  obtain ⟨x0, x1, x2, xa, xl, xc, ya, yl, yc, rfl, rfl, rfl, rfl, rfl⟩ := hin.shape
  have hb0 := (Below.refl w.heap.size w).alloc (Nat.le_refl _) (.cells #[.int .i64 x0, .int .i64 x1, .string x2, .slice xa xl xc, .slice ya yl yc] 30)
  obtain ⟨hin0, hB0⟩ := hin.step hB hb0
  have HC : Hid (Calls Tryz.prog 17 _ _ _) := l11Is_any m S t _ _ _ _ _ true _ hin0 hB0 hsz
  rw [isS_okA] at HC
  clear hin hin0
  go_enter Tryz.func7, Tryz.ntmps7
  go_wp2_with fail
  refine HC.out.mono ?_
  rintro e w1 ⟨rfl, hb1⟩
  have HB := hidF (below_step hb0 (by simp) hb1)
  clear hb1 HC
  go_wp2_with fail
  go_ret
  exact ⟨rfl, HB.out⟩

end Go.Proofs.YtlinplghgamgbaaGreatDoor

/-
  The specification: how many events a node may make.
-/
namespace Go.Proofs.YtlinplghgamgbaaGreatDoor
open Go.RowKit

/-- l12Fan at nodes of at most m levels. -/
def FanS (m : Nat) : Prop := ∀ (S : Nat → Prop) (t : T m) (c0 c1 c2 c3 c4 : Value) (d : Int) (w : World), NodeIn S w m t c0 c1 c2 c3 c4 → (∀ b, S b → b < w.heap.size) → goodN m t d = true →
  Calls Tryz.prog 26 #[.agg #[c0, c1, c2, c3, c4]] w fun e w' => e = .returned (.int .i64 (fanT m t)) ∧ Below w.heap.size w w'

set_option maxRecDepth 20000 in
set_option maxHeartbeats 4000000 in
theorem l12Fan_step (m : Nat) (hn : FanS m) : FanS (m + 1) := by
  intro S t c0 c1 c2 c3 c4 d w ht hB hg
  obtain ⟨rfl, rfl, rfl, hs, hw0, hw1, h3, h4, ⟨na, nl, nc, rfl, hc3⟩, ⟨ka, kl, kc, rfl, hc4⟩⟩ := ht
  obtain ⟨_, _, hv, -⟩ := id h3
  cases hv
  obtain ⟨_, _, hv, hlen, -⟩ := id h4
  cases hv
  have HGK : Hid (∀ k (h : k < (Nd.kids t).length), goodN m (Nd.kids t)[k] (d + 1) = true) := fun k h => by
    simp only [goodN, Bool.and_eq_true, List.all_eq_true] at hg
    exact hg.2 _ (List.getElem_mem h)
  have HKl : Hid (∀ k : Nat, Nd.sort t = (k : Int) → k ≠ 24 → k < 44 → (Nd.kids t).length = (kdV k).length) := fun k hk h24 h44 => by
    simp only [goodN, Bool.and_eq_true] at hg
    have hj : justB (poT m) (show Nd (T m) from t) = true := hg.1.2
    have hr : 1 ≤ Nd.sort t ∧ Nd.sort t ≤ 43 := by
      have h := hj
      unfold justB at h; simp only [Bool.and_eq_true, decide_eq_true_eq] at h; exact h.1
    rw [just_op (poT m) (show Nd (T m) from t) hr.1 hr.2 (by show Nd.sort t ≠ 24; omega)] at hj
    simp only [Bool.and_eq_true, decide_eq_true_eq] at hj
    have hl := congrArg List.length hj.2
    have hkn : (Nd.sort t).toNat = k := by omega
    rw [← hkn]
    simpa using hl
  clear hg hlen
  have hb0 := (Below.refl w.heap.size w).alloc (Nat.le_refl _) (.cells #[.int .i64 (Nd.sort t), .int .i64 (Nd.num t), .string (Nd.text t), .slice na (Nd.names t).length nc, .slice ka (Nd.kids t).length kc] 30)
  have hK := h4.keepN (same_below hb0 hB) (fun _ h => h)
  obtain ⟨W, hW⟩ : ∃ W, W = w.alloc (.cells #[.int .i64 (Nd.sort t), .int .i64 (Nd.num t), .string (Nd.text t), .slice na (Nd.names t).length nc, .slice ka (Nd.kids t).length kc] 30) := ⟨_, rfl⟩
  have hbox := heap_alloc_last w (.cells #[.int .i64 (Nd.sort t), .int .i64 (Nd.num t), .string (Nd.text t), .slice na (Nd.names t).length nc, .slice ka (Nd.kids t).length kc] 30)
  have hzW : w.heap.size < W.heap.size := by rw [hW]; simp
  obtain ⟨z0, z1, z2, z3, z4⟩ := five_of hbox
  rw [← hW] at hb0 hK z0 z4
  have hBW : ∀ b, S b → b < W.heap.size := fun b hb => by have := hB b hb; omega
  have HB0 := hidF hb0
  have hD : Below W.heap.size W W.drew := (Below.refl _ _).drew
  have HZ0 := hidF z0
  clear h3 h4 hb0 hbox z1 z2 z3 hc3 hc4 hs hw1
  obtain ⟨_, _, hkv, -, hkids⟩ := hK
  cases hkv
  by_cases hop : Nd.sort t = 38
  · have HF : Hid (fanT (m + 1) t = 1) := by
      show _ = _; simp only [fanT]; rw [if_pos (by omega)]
    rw [hop] at hW z0 ⊢
    have HBL := hidF (Below.refl W.heap.size W)
    clear hkids
    go_enter Tryz.func26, Tryz.ntmps26
    go_wp2_with fail
    rw [← hW]
    go_ret
    exact ⟨ret_int HF.out.symm, HB0.out.trans (HBL.out.mono HB0.out.size)⟩
  by_cases hop : Nd.sort t = 39
  · have HF : Hid (fanT (m + 1) t = 1) := by
      show _ = _; simp only [fanT]; rw [if_pos (by omega)]
    rw [hop] at hW z0 ⊢
    have HBL := hidF (Below.refl W.heap.size W)
    clear hkids
    go_enter Tryz.func26, Tryz.ntmps26
    go_wp2_with fail
    rw [← hW]
    go_ret
    exact ⟨ret_int HF.out.symm, HB0.out.trans (HBL.out.mono HB0.out.size)⟩
  by_cases hop : Nd.sort t = 40
  · have HF : Hid (fanT (m + 1) t = min ((((Nd.kids t)[0]?).map (fanT m)).getD 0 + (((Nd.kids t)[1]?).map (fanT m)).getD 0) 401) := by
      show _ = _; simp only [fanT]; rw [if_neg (by omega), if_pos (by omega)]
    have hkl : (Nd.kids t).length = 2 := HKl.out 40 hop (by decide) (by decide)
    obtain ⟨b, off, rfl, hbB, hcell⟩ := hkids (by intro h; rw [h] at hkl; simp at hkl)
    have hbb := hB b hbB
    have hi0 : 0 < (Nd.kids t).length := by omega
    obtain ⟨x0, x1, x2, x3, x4, e00, e01, e02, e03, e04, hr0⟩ := hcell 0 hi0
    obtain ⟨y00, y01, y02, ya0, yl0, yc0, za0, zl0, zc0, rfl, rfl, rfl, rfl, rfl⟩ := hr0.shape
    have hi1 : 1 < (Nd.kids t).length := by omega
    obtain ⟨x0, x1, x2, x3, x4, e10, e11, e12, e13, e14, hr1⟩ := hcell 1 hi1
    obtain ⟨y10, y11, y12, ya1, yl1, yc1, za1, zl1, zc1, rfl, rfl, rfl, rfl, rfl⟩ := hr1.shape
    have HP : Hid (∀ w', Below W.heap.size W w' → (w'.cell? ⟨w.heap.size, 0, none⟩ = some (.int .i64 (Nd.sort t)) ∧ w'.cell? ⟨w.heap.size, 4, none⟩ = some (.slice (some ⟨b, off, none⟩) (Nd.kids t).length kc) ∧ w'.cell? ⟨b, off, none⟩ = some (.int .i64 y00) ∧ w'.cell? ⟨b, off + 1, none⟩ = some (.int .i64 y01) ∧ w'.cell? ⟨b, off + 2, none⟩ = some (.string y02) ∧ w'.cell? ⟨b, off + 3, none⟩ = some (.slice ya0 yl0 yc0) ∧ w'.cell? ⟨b, off + 4, none⟩ = some (.slice za0 zl0 zc0) ∧ w'.cell? ⟨b, off + 5, none⟩ = some (.int .i64 y10) ∧ w'.cell? ⟨b, off + 5 + 1, none⟩ = some (.int .i64 y11) ∧ w'.cell? ⟨b, off + 5 + 2, none⟩ = some (.string y12) ∧ w'.cell? ⟨b, off + 5 + 3, none⟩ = some (.slice ya1 yl1 yc1) ∧ w'.cell? ⟨b, off + 5 + 4, none⟩ = some (.slice za1 zl1 zc1))) := by
      intro w' hb
      exact ⟨(hb.cell (p := ⟨w.heap.size, 0, none⟩) hzW).trans z0, (hb.cell (p := ⟨w.heap.size, 4, none⟩) hzW).trans z4, (hb.cell (p := ⟨b, off, none⟩) (by show b < _; omega)).trans (by simpa using e00), (hb.cell (p := ⟨b, off + 1, none⟩) (by show b < _; omega)).trans (by simpa using e01), (hb.cell (p := ⟨b, off + 2, none⟩) (by show b < _; omega)).trans (by simpa using e02), (hb.cell (p := ⟨b, off + 3, none⟩) (by show b < _; omega)).trans (by simpa using e03), (hb.cell (p := ⟨b, off + 4, none⟩) (by show b < _; omega)).trans (by simpa using e04), (hb.cell (p := ⟨b, off + 5, none⟩) (by show b < _; omega)).trans (by simpa using e10), (hb.cell (p := ⟨b, off + 5 + 1, none⟩) (by show b < _; omega)).trans (by simpa using e11), (hb.cell (p := ⟨b, off + 5 + 2, none⟩) (by show b < _; omega)).trans (by simpa using e12), (hb.cell (p := ⟨b, off + 5 + 3, none⟩) (by show b < _; omega)).trans (by simpa using e13), (hb.cell (p := ⟨b, off + 5 + 4, none⟩) (by show b < _; omega)).trans (by simpa using e14)⟩
    have HC0 : Hid (∀ W', Below W.heap.size W W' → Calls Tryz.prog 26 #[.agg #[.int .i64 y00, .int .i64 y01, .string y02, .slice ya0 yl0 yc0, .slice za0 zl0 zc0]] W' fun e w' => e = .returned (.int .i64 (fanT m (Nd.kids t)[0])) ∧ Below W.heap.size W w' ∧ (w'.cell? ⟨w.heap.size, 0, none⟩ = some (.int .i64 (Nd.sort t)) ∧ w'.cell? ⟨w.heap.size, 4, none⟩ = some (.slice (some ⟨b, off, none⟩) (Nd.kids t).length kc) ∧ w'.cell? ⟨b, off, none⟩ = some (.int .i64 y00) ∧ w'.cell? ⟨b, off + 1, none⟩ = some (.int .i64 y01) ∧ w'.cell? ⟨b, off + 2, none⟩ = some (.string y02) ∧ w'.cell? ⟨b, off + 3, none⟩ = some (.slice ya0 yl0 yc0) ∧ w'.cell? ⟨b, off + 4, none⟩ = some (.slice za0 zl0 zc0) ∧ w'.cell? ⟨b, off + 5, none⟩ = some (.int .i64 y10) ∧ w'.cell? ⟨b, off + 5 + 1, none⟩ = some (.int .i64 y11) ∧ w'.cell? ⟨b, off + 5 + 2, none⟩ = some (.string y12) ∧ w'.cell? ⟨b, off + 5 + 3, none⟩ = some (.slice ya1 yl1 yc1) ∧ w'.cell? ⟨b, off + 5 + 4, none⟩ = some (.slice za1 zl1 zc1))) := by
      intro W' hW'
      refine (hn S (Nd.kids t)[0] _ _ _ _ _ (d + 1) W' (hr0.keep (same_below hW' hBW) (fun _ h => h)) (fun b hb => Nat.lt_of_lt_of_le (hBW b hb) hW'.size) (HGK.out 0 hi0)).mono ?_
      rintro e w' ⟨rfl, hb⟩
      have hb3 := hW'.trans (hb.mono hW'.size)
      exact ⟨rfl, hb3, HP.out w' hb3⟩
    have hf0 := fanT_le m (Nd.kids t)[0]
    have hg0 : (((Nd.kids t)[0]?).map (fanT m)).getD 0 = fanT m (Nd.kids t)[0] := by simp [hi0]
    have HC1 : Hid (∀ W', Below W.heap.size W W' → Calls Tryz.prog 26 #[.agg #[.int .i64 y10, .int .i64 y11, .string y12, .slice ya1 yl1 yc1, .slice za1 zl1 zc1]] W' fun e w' => e = .returned (.int .i64 (fanT m (Nd.kids t)[1])) ∧ Below W.heap.size W w' ∧ (w'.cell? ⟨w.heap.size, 0, none⟩ = some (.int .i64 (Nd.sort t)) ∧ w'.cell? ⟨w.heap.size, 4, none⟩ = some (.slice (some ⟨b, off, none⟩) (Nd.kids t).length kc) ∧ w'.cell? ⟨b, off, none⟩ = some (.int .i64 y00) ∧ w'.cell? ⟨b, off + 1, none⟩ = some (.int .i64 y01) ∧ w'.cell? ⟨b, off + 2, none⟩ = some (.string y02) ∧ w'.cell? ⟨b, off + 3, none⟩ = some (.slice ya0 yl0 yc0) ∧ w'.cell? ⟨b, off + 4, none⟩ = some (.slice za0 zl0 zc0) ∧ w'.cell? ⟨b, off + 5, none⟩ = some (.int .i64 y10) ∧ w'.cell? ⟨b, off + 5 + 1, none⟩ = some (.int .i64 y11) ∧ w'.cell? ⟨b, off + 5 + 2, none⟩ = some (.string y12) ∧ w'.cell? ⟨b, off + 5 + 3, none⟩ = some (.slice ya1 yl1 yc1) ∧ w'.cell? ⟨b, off + 5 + 4, none⟩ = some (.slice za1 zl1 zc1))) := by
      intro W' hW'
      refine (hn S (Nd.kids t)[1] _ _ _ _ _ (d + 1) W' (hr1.keep (same_below hW' hBW) (fun _ h => h)) (fun b hb => Nat.lt_of_lt_of_le (hBW b hb) hW'.size) (HGK.out 1 hi1)).mono ?_
      rintro e w' ⟨rfl, hb⟩
      have hb3 := hW'.trans (hb.mono hW'.size)
      exact ⟨rfl, hb3, HP.out w' hb3⟩
    have hf1 := fanT_le m (Nd.kids t)[1]
    have hg1 : (((Nd.kids t)[1]?).map (fanT m)).getD 0 = fanT m (Nd.kids t)[1] := by simp [hi1]
    rw [hg0, hg1] at HF
    clear hkids hcell e00 e01 e02 e03 e04 hr0 hg0 e10 e11 e12 e13 e14 hr1 hg1
    obtain ⟨v0, hv0⟩ : ∃ v, v = fanT m (Nd.kids t)[0] := ⟨_, rfl⟩
    rw [← hv0] at HC0 HF hf0
    clear hv0
    obtain ⟨v1, hv1⟩ : ∃ v, v = fanT m (Nd.kids t)[1] := ⟨_, rfl⟩
    rw [← hv1] at HC1 HF hf1
    clear hv1
    have HRf := hidF (Below.refl W.heap.size W)
    have HPW := hidF (HP.out W (Below.refl _ _))
    rw [hop] at hW z0 HP HPW HC0 HC1 ⊢
    clear HKl HGK hn hB hBW hbB hbb HP hkl hop HZ0
    obtain ⟨q0, q1, q2, q3, q4, q5, q6, q7, q8, q9, q10, q11⟩ := HPW.out
    go_enter Tryz.func26, Tryz.ntmps26
    go_wp2_with fail
    rw [← hW]
    clear hW
    go_region_held (fun w' => w'.cell? ⟨w.heap.size, 0, none⟩ = some (.int .i64 40) ∧ w'.cell? ⟨w.heap.size, 4, none⟩ = some (.slice (some ⟨b, off, none⟩) (Nd.kids t).length kc) ∧ w'.cell? ⟨b, off, none⟩ = some (.int .i64 y00) ∧ w'.cell? ⟨b, off + 1, none⟩ = some (.int .i64 y01) ∧ w'.cell? ⟨b, off + 2, none⟩ = some (.string y02) ∧ w'.cell? ⟨b, off + 3, none⟩ = some (.slice ya0 yl0 yc0) ∧ w'.cell? ⟨b, off + 4, none⟩ = some (.slice za0 zl0 zc0) ∧ w'.cell? ⟨b, off + 5, none⟩ = some (.int .i64 y10) ∧ w'.cell? ⟨b, off + 5 + 1, none⟩ = some (.int .i64 y11) ∧ w'.cell? ⟨b, off + 5 + 2, none⟩ = some (.string y12) ∧ w'.cell? ⟨b, off + 5 + 3, none⟩ = some (.slice ya1 yl1 yc1) ∧ w'.cell? ⟨b, off + 5 + 4, none⟩ = some (.slice za1 zl1 zc1)) (first | with_reducible assumption | go_keep) (first | (go_at_call 26; with_reducible refine (HC0.out _ (by first | with_reducible assumption)).mono ?_; rintro e w4 ⟨rfl, hb4, hS4⟩) | (go_at_call 26; with_reducible refine (HC1.out _ (by first | with_reducible assumption)).mono ?_; rintro e w5 ⟨rfl, hb5, hS5⟩))
    all_goals
      have HBL : Hid (Below w.heap.size w _) := HB0.out.trans (Below.mono (by first | exact hb5 | exact hb4) HB0.out.size)
      clear hb4 hb5 hS4 hS5 HC0 HC1 hD z0 z4 q0 q1 q2 q3 q4 q5 q6 q7 q8 q9 q10 q11
      by_cases hmx : v0 + v1 ≤ 400
      · have HF2 : Hid (fanT (m + 1) t = v0 + v1) := by show _ = _; have := HF.out; omega
        go_wp2_with fail
        go_ret
        exact ⟨ret_int (by first | exact HF2.out.symm | (rw [HF2.out, IntKind.wrap_i64]; omega)), HBL.out⟩
      · have HF2 : Hid (fanT (m + 1) t = 401) := by show _ = _; have := HF.out; omega
        go_wp2_with fail
        go_ret
        exact ⟨ret_int (by first | exact HF2.out.symm | (rw [HF2.out, IntKind.wrap_i64]; omega)), HBL.out⟩
  by_cases hop : Nd.sort t = 41
  · have HF : Hid (fanT (m + 1) t = max ((((Nd.kids t)[1]?).map (fanT m)).getD 0) ((((Nd.kids t)[2]?).map (fanT m)).getD 0)) := by
      show _ = _; simp only [fanT]; rw [if_neg (by omega), if_neg (by omega), if_pos (by omega)]
    have hkl : (Nd.kids t).length = 3 := HKl.out 41 hop (by decide) (by decide)
    obtain ⟨b, off, rfl, hbB, hcell⟩ := hkids (by intro h; rw [h] at hkl; simp at hkl)
    have hbb := hB b hbB
    have hi1 : 1 < (Nd.kids t).length := by omega
    obtain ⟨x0, x1, x2, x3, x4, e10, e11, e12, e13, e14, hr1⟩ := hcell 1 hi1
    obtain ⟨y10, y11, y12, ya1, yl1, yc1, za1, zl1, zc1, rfl, rfl, rfl, rfl, rfl⟩ := hr1.shape
    have hi2 : 2 < (Nd.kids t).length := by omega
    obtain ⟨x0, x1, x2, x3, x4, e20, e21, e22, e23, e24, hr2⟩ := hcell 2 hi2
    obtain ⟨y20, y21, y22, ya2, yl2, yc2, za2, zl2, zc2, rfl, rfl, rfl, rfl, rfl⟩ := hr2.shape
    have HP : Hid (∀ w', Below W.heap.size W w' → (w'.cell? ⟨w.heap.size, 0, none⟩ = some (.int .i64 (Nd.sort t)) ∧ w'.cell? ⟨w.heap.size, 4, none⟩ = some (.slice (some ⟨b, off, none⟩) (Nd.kids t).length kc) ∧ w'.cell? ⟨b, off + 5, none⟩ = some (.int .i64 y10) ∧ w'.cell? ⟨b, off + 5 + 1, none⟩ = some (.int .i64 y11) ∧ w'.cell? ⟨b, off + 5 + 2, none⟩ = some (.string y12) ∧ w'.cell? ⟨b, off + 5 + 3, none⟩ = some (.slice ya1 yl1 yc1) ∧ w'.cell? ⟨b, off + 5 + 4, none⟩ = some (.slice za1 zl1 zc1) ∧ w'.cell? ⟨b, off + 10, none⟩ = some (.int .i64 y20) ∧ w'.cell? ⟨b, off + 10 + 1, none⟩ = some (.int .i64 y21) ∧ w'.cell? ⟨b, off + 10 + 2, none⟩ = some (.string y22) ∧ w'.cell? ⟨b, off + 10 + 3, none⟩ = some (.slice ya2 yl2 yc2) ∧ w'.cell? ⟨b, off + 10 + 4, none⟩ = some (.slice za2 zl2 zc2))) := by
      intro w' hb
      exact ⟨(hb.cell (p := ⟨w.heap.size, 0, none⟩) hzW).trans z0, (hb.cell (p := ⟨w.heap.size, 4, none⟩) hzW).trans z4, (hb.cell (p := ⟨b, off + 5, none⟩) (by show b < _; omega)).trans (by simpa using e10), (hb.cell (p := ⟨b, off + 5 + 1, none⟩) (by show b < _; omega)).trans (by simpa using e11), (hb.cell (p := ⟨b, off + 5 + 2, none⟩) (by show b < _; omega)).trans (by simpa using e12), (hb.cell (p := ⟨b, off + 5 + 3, none⟩) (by show b < _; omega)).trans (by simpa using e13), (hb.cell (p := ⟨b, off + 5 + 4, none⟩) (by show b < _; omega)).trans (by simpa using e14), (hb.cell (p := ⟨b, off + 10, none⟩) (by show b < _; omega)).trans (by simpa using e20), (hb.cell (p := ⟨b, off + 10 + 1, none⟩) (by show b < _; omega)).trans (by simpa using e21), (hb.cell (p := ⟨b, off + 10 + 2, none⟩) (by show b < _; omega)).trans (by simpa using e22), (hb.cell (p := ⟨b, off + 10 + 3, none⟩) (by show b < _; omega)).trans (by simpa using e23), (hb.cell (p := ⟨b, off + 10 + 4, none⟩) (by show b < _; omega)).trans (by simpa using e24)⟩
    have HC1 : Hid (∀ W', Below W.heap.size W W' → Calls Tryz.prog 26 #[.agg #[.int .i64 y10, .int .i64 y11, .string y12, .slice ya1 yl1 yc1, .slice za1 zl1 zc1]] W' fun e w' => e = .returned (.int .i64 (fanT m (Nd.kids t)[1])) ∧ Below W.heap.size W w' ∧ (w'.cell? ⟨w.heap.size, 0, none⟩ = some (.int .i64 (Nd.sort t)) ∧ w'.cell? ⟨w.heap.size, 4, none⟩ = some (.slice (some ⟨b, off, none⟩) (Nd.kids t).length kc) ∧ w'.cell? ⟨b, off + 5, none⟩ = some (.int .i64 y10) ∧ w'.cell? ⟨b, off + 5 + 1, none⟩ = some (.int .i64 y11) ∧ w'.cell? ⟨b, off + 5 + 2, none⟩ = some (.string y12) ∧ w'.cell? ⟨b, off + 5 + 3, none⟩ = some (.slice ya1 yl1 yc1) ∧ w'.cell? ⟨b, off + 5 + 4, none⟩ = some (.slice za1 zl1 zc1) ∧ w'.cell? ⟨b, off + 10, none⟩ = some (.int .i64 y20) ∧ w'.cell? ⟨b, off + 10 + 1, none⟩ = some (.int .i64 y21) ∧ w'.cell? ⟨b, off + 10 + 2, none⟩ = some (.string y22) ∧ w'.cell? ⟨b, off + 10 + 3, none⟩ = some (.slice ya2 yl2 yc2) ∧ w'.cell? ⟨b, off + 10 + 4, none⟩ = some (.slice za2 zl2 zc2))) := by
      intro W' hW'
      refine (hn S (Nd.kids t)[1] _ _ _ _ _ (d + 1) W' (hr1.keep (same_below hW' hBW) (fun _ h => h)) (fun b hb => Nat.lt_of_lt_of_le (hBW b hb) hW'.size) (HGK.out 1 hi1)).mono ?_
      rintro e w' ⟨rfl, hb⟩
      have hb3 := hW'.trans (hb.mono hW'.size)
      exact ⟨rfl, hb3, HP.out w' hb3⟩
    have hf1 := fanT_le m (Nd.kids t)[1]
    have hg1 : (((Nd.kids t)[1]?).map (fanT m)).getD 0 = fanT m (Nd.kids t)[1] := by simp [hi1]
    have HC2 : Hid (∀ W', Below W.heap.size W W' → Calls Tryz.prog 26 #[.agg #[.int .i64 y20, .int .i64 y21, .string y22, .slice ya2 yl2 yc2, .slice za2 zl2 zc2]] W' fun e w' => e = .returned (.int .i64 (fanT m (Nd.kids t)[2])) ∧ Below W.heap.size W w' ∧ (w'.cell? ⟨w.heap.size, 0, none⟩ = some (.int .i64 (Nd.sort t)) ∧ w'.cell? ⟨w.heap.size, 4, none⟩ = some (.slice (some ⟨b, off, none⟩) (Nd.kids t).length kc) ∧ w'.cell? ⟨b, off + 5, none⟩ = some (.int .i64 y10) ∧ w'.cell? ⟨b, off + 5 + 1, none⟩ = some (.int .i64 y11) ∧ w'.cell? ⟨b, off + 5 + 2, none⟩ = some (.string y12) ∧ w'.cell? ⟨b, off + 5 + 3, none⟩ = some (.slice ya1 yl1 yc1) ∧ w'.cell? ⟨b, off + 5 + 4, none⟩ = some (.slice za1 zl1 zc1) ∧ w'.cell? ⟨b, off + 10, none⟩ = some (.int .i64 y20) ∧ w'.cell? ⟨b, off + 10 + 1, none⟩ = some (.int .i64 y21) ∧ w'.cell? ⟨b, off + 10 + 2, none⟩ = some (.string y22) ∧ w'.cell? ⟨b, off + 10 + 3, none⟩ = some (.slice ya2 yl2 yc2) ∧ w'.cell? ⟨b, off + 10 + 4, none⟩ = some (.slice za2 zl2 zc2))) := by
      intro W' hW'
      refine (hn S (Nd.kids t)[2] _ _ _ _ _ (d + 1) W' (hr2.keep (same_below hW' hBW) (fun _ h => h)) (fun b hb => Nat.lt_of_lt_of_le (hBW b hb) hW'.size) (HGK.out 2 hi2)).mono ?_
      rintro e w' ⟨rfl, hb⟩
      have hb3 := hW'.trans (hb.mono hW'.size)
      exact ⟨rfl, hb3, HP.out w' hb3⟩
    have hf2 := fanT_le m (Nd.kids t)[2]
    have hg2 : (((Nd.kids t)[2]?).map (fanT m)).getD 0 = fanT m (Nd.kids t)[2] := by simp [hi2]
    rw [hg1, hg2] at HF
    clear hkids hcell e10 e11 e12 e13 e14 hr1 hg1 e20 e21 e22 e23 e24 hr2 hg2
    obtain ⟨v1, hv1⟩ : ∃ v, v = fanT m (Nd.kids t)[1] := ⟨_, rfl⟩
    rw [← hv1] at HC1 HF hf1
    clear hv1
    obtain ⟨v2, hv2⟩ : ∃ v, v = fanT m (Nd.kids t)[2] := ⟨_, rfl⟩
    rw [← hv2] at HC2 HF hf2
    clear hv2
    have HRf := hidF (Below.refl W.heap.size W)
    have HPW := hidF (HP.out W (Below.refl _ _))
    rw [hop] at hW z0 HP HPW HC1 HC2 ⊢
    clear HKl HGK hn hB hBW hbB hbb HP hkl hop HZ0
    obtain ⟨q0, q1, q2, q3, q4, q5, q6, q7, q8, q9, q10, q11⟩ := HPW.out
    subst hW
    go_enter Tryz.func26, Tryz.ntmps26
    go_wp2_with fail
    refine (HC1.out _ HRf.out).mono ?_
    rintro e w5 ⟨rfl, hb5, hS5⟩
    clear q0 q1 q2 q3 q4 q5 q6 q7 q8 q9 q10 q11
    obtain ⟨q0, q1, q2, q3, q4, q5, q6, q7, q8, q9, q10, q11⟩ := hS5
    go_wp2_with fail
    refine (HC2.out _ hb5).mono ?_
    rintro e w6 ⟨rfl, hb6, -⟩
    have HBL := hidF (HB0.out.trans (hb6.mono HB0.out.size))
    clear hb5 hb6 HC1 HC2 hD z0 z4 q0 q1 q2 q3 q4 q5 q6 q7 q8 q9 q10 q11
    by_cases hmx : v2 > v1
    · have HF2 : Hid (fanT (m + 1) t = v2) := by show _ = _; have := HF.out; omega
      by_cases hm4 : v2 ≤ 400
      · go_wp2_with fail
        go_ret
        exact ⟨ret_int (by first | exact HF2.out.symm | (rw [HF2.out, IntKind.wrap_i64]; omega)), HBL.out⟩
      · have HF3 : Hid (fanT (m + 1) t = 401) := by show _ = _; have := HF2.out; omega
        go_wp2_with fail
        go_ret
        exact ⟨ret_int HF3.out.symm, HBL.out⟩
    · have HF2 : Hid (fanT (m + 1) t = v1) := by show _ = _; have := HF.out; omega
      by_cases hm4 : v1 ≤ 400
      · go_wp2_with fail
        go_ret
        exact ⟨ret_int (by first | exact HF2.out.symm | (rw [HF2.out, IntKind.wrap_i64]; omega)), HBL.out⟩
      · have HF3 : Hid (fanT (m + 1) t = 401) := by show _ = _; have := HF2.out; omega
        go_wp2_with fail
        go_ret
        exact ⟨ret_int HF3.out.symm, HBL.out⟩
  by_cases hop : Nd.sort t = 42
  · have HF : Hid (fanT (m + 1) t = (((Nd.kids t)[1]?).map (fanT m)).getD 0) := by
      show _ = _; simp only [fanT]; rw [if_neg (by omega), if_neg (by omega), if_neg (by omega), if_pos (by omega)]
    have hkl : (Nd.kids t).length = 2 := HKl.out 42 hop (by decide) (by decide)
    obtain ⟨b, off, rfl, hbB, hcell⟩ := hkids (by intro h; rw [h] at hkl; simp at hkl)
    have hbb := hB b hbB
    have hi1 : 1 < (Nd.kids t).length := by omega
    obtain ⟨x0, x1, x2, x3, x4, e10, e11, e12, e13, e14, hr1⟩ := hcell 1 hi1
    obtain ⟨y10, y11, y12, ya1, yl1, yc1, za1, zl1, zc1, rfl, rfl, rfl, rfl, rfl⟩ := hr1.shape
    have HP : Hid (∀ w', Below W.heap.size W w' → (w'.cell? ⟨w.heap.size, 0, none⟩ = some (.int .i64 (Nd.sort t)) ∧ w'.cell? ⟨w.heap.size, 4, none⟩ = some (.slice (some ⟨b, off, none⟩) (Nd.kids t).length kc) ∧ w'.cell? ⟨b, off + 5, none⟩ = some (.int .i64 y10) ∧ w'.cell? ⟨b, off + 5 + 1, none⟩ = some (.int .i64 y11) ∧ w'.cell? ⟨b, off + 5 + 2, none⟩ = some (.string y12) ∧ w'.cell? ⟨b, off + 5 + 3, none⟩ = some (.slice ya1 yl1 yc1) ∧ w'.cell? ⟨b, off + 5 + 4, none⟩ = some (.slice za1 zl1 zc1))) := by
      intro w' hb
      exact ⟨(hb.cell (p := ⟨w.heap.size, 0, none⟩) hzW).trans z0, (hb.cell (p := ⟨w.heap.size, 4, none⟩) hzW).trans z4, (hb.cell (p := ⟨b, off + 5, none⟩) (by show b < _; omega)).trans (by simpa using e10), (hb.cell (p := ⟨b, off + 5 + 1, none⟩) (by show b < _; omega)).trans (by simpa using e11), (hb.cell (p := ⟨b, off + 5 + 2, none⟩) (by show b < _; omega)).trans (by simpa using e12), (hb.cell (p := ⟨b, off + 5 + 3, none⟩) (by show b < _; omega)).trans (by simpa using e13), (hb.cell (p := ⟨b, off + 5 + 4, none⟩) (by show b < _; omega)).trans (by simpa using e14)⟩
    have HC1 : Hid (∀ W', Below W.heap.size W W' → Calls Tryz.prog 26 #[.agg #[.int .i64 y10, .int .i64 y11, .string y12, .slice ya1 yl1 yc1, .slice za1 zl1 zc1]] W' fun e w' => e = .returned (.int .i64 (fanT m (Nd.kids t)[1])) ∧ Below W.heap.size W w' ∧ (w'.cell? ⟨w.heap.size, 0, none⟩ = some (.int .i64 (Nd.sort t)) ∧ w'.cell? ⟨w.heap.size, 4, none⟩ = some (.slice (some ⟨b, off, none⟩) (Nd.kids t).length kc) ∧ w'.cell? ⟨b, off + 5, none⟩ = some (.int .i64 y10) ∧ w'.cell? ⟨b, off + 5 + 1, none⟩ = some (.int .i64 y11) ∧ w'.cell? ⟨b, off + 5 + 2, none⟩ = some (.string y12) ∧ w'.cell? ⟨b, off + 5 + 3, none⟩ = some (.slice ya1 yl1 yc1) ∧ w'.cell? ⟨b, off + 5 + 4, none⟩ = some (.slice za1 zl1 zc1))) := by
      intro W' hW'
      refine (hn S (Nd.kids t)[1] _ _ _ _ _ (d + 1) W' (hr1.keep (same_below hW' hBW) (fun _ h => h)) (fun b hb => Nat.lt_of_lt_of_le (hBW b hb) hW'.size) (HGK.out 1 hi1)).mono ?_
      rintro e w' ⟨rfl, hb⟩
      have hb3 := hW'.trans (hb.mono hW'.size)
      exact ⟨rfl, hb3, HP.out w' hb3⟩
    have hf1 := fanT_le m (Nd.kids t)[1]
    have hg1 : (((Nd.kids t)[1]?).map (fanT m)).getD 0 = fanT m (Nd.kids t)[1] := by simp [hi1]
    rw [hg1] at HF
    clear hkids hcell e10 e11 e12 e13 e14 hr1 hg1
    obtain ⟨v1, hv1⟩ : ∃ v, v = fanT m (Nd.kids t)[1] := ⟨_, rfl⟩
    rw [← hv1] at HC1 HF hf1
    clear hv1
    have HRf := hidF (Below.refl W.heap.size W)
    have HPW := hidF (HP.out W (Below.refl _ _))
    rw [hop] at hW z0 HP HPW HC1 ⊢
    clear HKl HGK hn hB hBW hbB hbb HP hkl hop HZ0
    obtain ⟨q0, q1, q2, q3, q4, q5, q6⟩ := HPW.out
    subst hW
    go_enter Tryz.func26, Tryz.ntmps26
    go_wp2_with fail
    refine (HC1.out _ HRf.out).mono ?_
    rintro e w5 ⟨rfl, hb5, -⟩
    have HBL := hidF (HB0.out.trans (hb5.mono HB0.out.size))
    clear hb5 HC1 hD z0 z4 q0 q1 q2 q3 q4 q5 q6
    by_cases hmx : v1 ≤ 400
    · have HF2 : Hid (fanT (m + 1) t = v1) := by show _ = _; have := HF.out; omega
      go_wp2_with fail
      go_ret
      exact ⟨ret_int (by first | exact HF2.out.symm | (rw [HF2.out, IntKind.wrap_i64]; omega)), HBL.out⟩
    · have HF2 : Hid (fanT (m + 1) t = 401) := by show _ = _; have := HF.out; omega
      go_wp2_with fail
      go_ret
      exact ⟨ret_int (by first | exact HF2.out.symm | (rw [HF2.out, IntKind.wrap_i64]; omega)), HBL.out⟩
  by_cases hop : Nd.sort t = 43
  · have HF : Hid (fanT (m + 1) t = min (20 * (((Nd.kids t)[1]?).map (fanT m)).getD 0) 401) := by
      show _ = _; simp only [fanT]; rw [if_neg (by omega), if_neg (by omega), if_neg (by omega), if_neg (by omega), if_pos (by omega)]
    have hkl : (Nd.kids t).length = 2 := HKl.out 43 hop (by decide) (by decide)
    obtain ⟨b, off, rfl, hbB, hcell⟩ := hkids (by intro h; rw [h] at hkl; simp at hkl)
    have hbb := hB b hbB
    have hi1 : 1 < (Nd.kids t).length := by omega
    obtain ⟨x0, x1, x2, x3, x4, e10, e11, e12, e13, e14, hr1⟩ := hcell 1 hi1
    obtain ⟨y10, y11, y12, ya1, yl1, yc1, za1, zl1, zc1, rfl, rfl, rfl, rfl, rfl⟩ := hr1.shape
    have HP : Hid (∀ w', Below W.heap.size W w' → (w'.cell? ⟨w.heap.size, 0, none⟩ = some (.int .i64 (Nd.sort t)) ∧ w'.cell? ⟨w.heap.size, 4, none⟩ = some (.slice (some ⟨b, off, none⟩) (Nd.kids t).length kc) ∧ w'.cell? ⟨b, off + 5, none⟩ = some (.int .i64 y10) ∧ w'.cell? ⟨b, off + 5 + 1, none⟩ = some (.int .i64 y11) ∧ w'.cell? ⟨b, off + 5 + 2, none⟩ = some (.string y12) ∧ w'.cell? ⟨b, off + 5 + 3, none⟩ = some (.slice ya1 yl1 yc1) ∧ w'.cell? ⟨b, off + 5 + 4, none⟩ = some (.slice za1 zl1 zc1))) := by
      intro w' hb
      exact ⟨(hb.cell (p := ⟨w.heap.size, 0, none⟩) hzW).trans z0, (hb.cell (p := ⟨w.heap.size, 4, none⟩) hzW).trans z4, (hb.cell (p := ⟨b, off + 5, none⟩) (by show b < _; omega)).trans (by simpa using e10), (hb.cell (p := ⟨b, off + 5 + 1, none⟩) (by show b < _; omega)).trans (by simpa using e11), (hb.cell (p := ⟨b, off + 5 + 2, none⟩) (by show b < _; omega)).trans (by simpa using e12), (hb.cell (p := ⟨b, off + 5 + 3, none⟩) (by show b < _; omega)).trans (by simpa using e13), (hb.cell (p := ⟨b, off + 5 + 4, none⟩) (by show b < _; omega)).trans (by simpa using e14)⟩
    have HC1 : Hid (∀ W', Below W.heap.size W W' → Calls Tryz.prog 26 #[.agg #[.int .i64 y10, .int .i64 y11, .string y12, .slice ya1 yl1 yc1, .slice za1 zl1 zc1]] W' fun e w' => e = .returned (.int .i64 (fanT m (Nd.kids t)[1])) ∧ Below W.heap.size W w' ∧ (w'.cell? ⟨w.heap.size, 0, none⟩ = some (.int .i64 (Nd.sort t)) ∧ w'.cell? ⟨w.heap.size, 4, none⟩ = some (.slice (some ⟨b, off, none⟩) (Nd.kids t).length kc) ∧ w'.cell? ⟨b, off + 5, none⟩ = some (.int .i64 y10) ∧ w'.cell? ⟨b, off + 5 + 1, none⟩ = some (.int .i64 y11) ∧ w'.cell? ⟨b, off + 5 + 2, none⟩ = some (.string y12) ∧ w'.cell? ⟨b, off + 5 + 3, none⟩ = some (.slice ya1 yl1 yc1) ∧ w'.cell? ⟨b, off + 5 + 4, none⟩ = some (.slice za1 zl1 zc1))) := by
      intro W' hW'
      refine (hn S (Nd.kids t)[1] _ _ _ _ _ (d + 1) W' (hr1.keep (same_below hW' hBW) (fun _ h => h)) (fun b hb => Nat.lt_of_lt_of_le (hBW b hb) hW'.size) (HGK.out 1 hi1)).mono ?_
      rintro e w' ⟨rfl, hb⟩
      have hb3 := hW'.trans (hb.mono hW'.size)
      exact ⟨rfl, hb3, HP.out w' hb3⟩
    have hf1 := fanT_le m (Nd.kids t)[1]
    have hg1 : (((Nd.kids t)[1]?).map (fanT m)).getD 0 = fanT m (Nd.kids t)[1] := by simp [hi1]
    rw [hg1] at HF
    clear hkids hcell e10 e11 e12 e13 e14 hr1 hg1
    obtain ⟨v1, hv1⟩ : ∃ v, v = fanT m (Nd.kids t)[1] := ⟨_, rfl⟩
    rw [← hv1] at HC1 HF hf1
    clear hv1
    have HRf := hidF (Below.refl W.heap.size W)
    have HPW := hidF (HP.out W (Below.refl _ _))
    rw [hop] at hW z0 HP HPW HC1 ⊢
    clear HKl HGK hn hB hBW hbB hbb HP hkl hop HZ0
    obtain ⟨q0, q1, q2, q3, q4, q5, q6⟩ := HPW.out
    subst hW
    go_enter Tryz.func26, Tryz.ntmps26
    go_wp2_with fail
    refine (HC1.out _ HRf.out).mono ?_
    rintro e w5 ⟨rfl, hb5, -⟩
    have HBL := hidF (HB0.out.trans (hb5.mono HB0.out.size))
    clear hb5 HC1 hD z0 z4 q0 q1 q2 q3 q4 q5 q6
    by_cases hmx : 20 * v1 ≤ 400
    · have HF2 : Hid (fanT (m + 1) t = 20 * v1) := by show _ = _; have := HF.out; omega
      go_wp2_with fail
      go_ret
      exact ⟨ret_int (by first | exact HF2.out.symm | (rw [HF2.out, IntKind.wrap_i64]; omega)), HBL.out⟩
    · have HF2 : Hid (fanT (m + 1) t = 401) := by show _ = _; have := HF.out; omega
      go_wp2_with fail
      go_ret
      exact ⟨ret_int (by first | exact HF2.out.symm | (rw [HF2.out, IntKind.wrap_i64]; omega)), HBL.out⟩
  have HF : Hid (fanT (m + 1) t = 0) := by
    show _ = _; simp only [fanT]; rw [if_neg (by omega), if_neg (by omega), if_neg (by omega), if_neg (by omega), if_neg (by omega)]
  have e38 : (Nd.sort t == 38) = false := by simp; assumption
  have e39 : (Nd.sort t == 39) = false := by simp; assumption
  have e40 : (Nd.sort t == 40) = false := by simp; assumption
  have e41 : (Nd.sort t == 41) = false := by simp; assumption
  have e42 : (Nd.sort t == 42) = false := by simp; assumption
  have e43 : (Nd.sort t == 43) = false := by simp; assumption
  have HBL := hidF (Below.refl W.heap.size W)
  clear hkids HGK HKl hn
  go_enter Tryz.func26, Tryz.ntmps26
  go_wp2_with fail
  rw [← hW]
  go_ret
  exact ⟨ret_int HF.out.symm, HB0.out.trans (HBL.out.mono HB0.out.size)⟩

theorem l12Fan_any : ∀ m, FanS m := by
  intro m
  induction m with
  | zero => intro S t c0 c1 c2 c3 c4 d w ht; exact ht.elim
  | succ m ih => exact l12Fan_step m ih

end Go.Proofs.YtlinplghgamgbaaGreatDoor

/-
  The specification: LiftCost, LiftFan.
-/
namespace Go.Proofs.YtlinplghgamgbaaGreatDoor
open Go.RowKit

set_option maxRecDepth 20000 in
set_option maxHeartbeats 1000000 in
theorem specLFan_any (m : Nat) (S : Nat → Prop) (t : T m) (c0 c1 c2 c3 c4 : Value) (w : World) (hin : NodeIn S w m t c0 c1 c2 c3 c4) (hB : ∀ b, S b → b < w.heap.size) (hsz : szT m t ≤ 1048576) :
    Calls Tryz.prog 13 #[.agg #[c0, c1, c2, c3, c4]] w fun e w' => e = .returned (.int .i64 (fanA m t)) ∧ Below w.heap.size w w' := by
  obtain ⟨x0, x1, x2, xa, xl, xc, ya, yl, yc, rfl, rfl, rfl, rfl, rfl⟩ := hin.shape
  have hb0 := (Below.refl w.heap.size w).alloc (Nat.le_refl _) (.cells #[.int .i64 x0, .int .i64 x1, .string x2, .slice xa xl xc, .slice ya yl yc] 30)
  obtain ⟨hin0, hB0⟩ := hin.step hB hb0
  have HC : Hid (Calls Tryz.prog 7 _ _ _) := specLOk_any m S t _ _ _ _ _ _ hin0 hB0 hsz
  have HR : Hid (∀ w1, Below (w.alloc (.cells #[.int .i64 x0, .int .i64 x1, .string x2, .slice xa xl xc, .slice ya yl yc] 30)).heap.size (w.alloc (.cells #[.int .i64 x0, .int .i64 x1, .string x2, .slice xa xl xc, .slice ya yl yc] 30)) w1 → Below w.heap.size w w1 ∧ (w1.cell? ⟨w.heap.size, 0, none⟩ = some (.int .i64 x0) ∧ w1.cell? ⟨w.heap.size, 1, none⟩ = some (.int .i64 x1) ∧ w1.cell? ⟨w.heap.size, 2, none⟩ = some (.string x2) ∧ w1.cell? ⟨w.heap.size, 3, none⟩ = some (.slice xa xl xc) ∧ w1.cell? ⟨w.heap.size, 4, none⟩ = some (.slice ya yl yc)) ∧
      (goodN m t 1 = true → Calls Tryz.prog 26 #[.agg #[.int .i64 x0, .int .i64 x1, .string x2, .slice xa xl xc, .slice ya yl yc]] w1 fun e w' => e = .returned (.int .i64 (fanT m t)) ∧ Below w1.heap.size w1 w')) := by
    intro w1 hb1
    obtain ⟨hin1, hB1⟩ := hin0.step hB0 hb1
    exact ⟨below_step hb0 (by simp) hb1, five_of ((hb1.block w.heap.size (by simp)).trans (heap_alloc_last w _)), fun hg => l12Fan_any m S t _ _ _ _ _ 1 w1 hin1 hB1 hg⟩
  clear hin hin0
  cases hok : okA m t with
  | false =>
    have HF : Hid (fanA m t = 0) := by show _ = _; unfold fanA; rw [hok]; rfl
    rw [hok] at HC
    clear hok
    go_enter Tryz.func13, Tryz.ntmps13
    go_wp2_with fail
    refine HC.out.mono ?_
    rintro e w1 ⟨rfl, hb1⟩
    have HB := hidF (HR.out w1 hb1).1
    clear hb1 HC HR
    go_wp2_with fail
    go_ret
    exact ⟨ret_int HF.out.symm, HB.out⟩
  | true =>
    have HF : Hid (fanA m t = fanT m t) := by show _ = _; unfold fanA; rw [hok]; rfl
    have HG := hidF (good_of_ok (ok_of_okA hok))
    rw [hok] at HC
    clear hok
    go_enter Tryz.func13, Tryz.ntmps13
    go_wp2_with fail
    refine HC.out.mono ?_
    rintro e w1 ⟨rfl, hb1⟩
    obtain ⟨hbb, ⟨z0, z1, z2, z3, z4⟩, hct⟩ := HR.out w1 hb1
    have HB := hidF hbb
    have HCT := hidF (hct HG.out)
    clear hb1 hbb hct HC HR
    go_wp2_with fail
    refine HCT.out.mono ?_
    rintro e w2 ⟨rfl, hb2⟩
    have HB2 := hidF (HB.out.trans (hb2.mono HB.out.size))
    clear hb2 HCT z0 z1 z2 z3 z4
    go_wp2_with fail
    go_ret
    exact ⟨ret_int HF.out.symm, HB2.out⟩

end Go.Proofs.YtlinplghgamgbaaGreatDoor
