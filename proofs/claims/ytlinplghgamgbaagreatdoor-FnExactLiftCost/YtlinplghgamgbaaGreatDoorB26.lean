/-
  Several texts in one, in their order.
-/
import Derived.Test.YtlinplghgamgbaaGreatDoorSLA
import Derived.Test.YtlinplghgamgbaaGreatDoorB13
import Derived.Deep.RegionHeld
import Derived.Test.YtlinplghgamgbaaGreatDoorB24

/-
  The specification on upcasters' nodes: l11Text, l11Is, LiftOk.
-/
namespace Go.Proofs.YtlinplghgamgbaaGreatDoor
open Go.RowKit

theorem textS_any : ∀ m, TextS m := by
  intro m
  induction m with
  | zero => intro S t c0 c1 c2 c3 c4 d w ht; exact ht.elim
  | succ m ih =>
    intro S t c0 c1 c2 c3 c4 d w ht hB hg hl
    obtain ⟨rfl, rfl, rfl, hx, hw0, hw1, h3, h4, ⟨na, nl, nc, rfl, hc3⟩, ⟨ka, kl, kc, rfl, hc4⟩⟩ := ht
    obtain ⟨_, _, hv, -⟩ := id h3
    cases hv
    obtain ⟨_, _, hv, -⟩ := id h4
    cases hv
    simp only [goodN, Bool.and_eq_true] at hg
    obtain ⟨⟨-, hj⟩, hgk⟩ := hg
    obtain ⟨n, hn⟩ : ∃ n : Nd (T m), n = t := ⟨t, rfl⟩
    have hll : lenN (m + 1) t = lenF (lenN m) n := by rw [hn]; rfl
    rw [hll] at hl ⊢
    change justB (poT m) t = true at hj
    rw [← hn] at hj hgk hw0 hw1 hx h3 h4 ⊢
    have hr : 1 ≤ n.sort ∧ n.sort ≤ 43 := by
      have h := hj
      unfold justB at h; simp only [Bool.and_eq_true, decide_eq_true_eq] at h; exact h.1
    obtain ⟨k, hk⟩ : ∃ k : Nat, n.sort = (k : Int) := ⟨n.sort.toNat, by omega⟩
    obtain ⟨hk44, hasT, hasN, hasF⟩ := just_has (poT m) n k hk hj
    have hkn : n.sort.toNat = k := by omega
    have hs : Nd.sort n = (k : Int) := hk
    by_cases h3' : k ≤ 3
    · have e : lenF (lenN m) n = (leafL n.sort n.num n.text).length := by unfold lenF; rw [if_pos (by omega)]
      rw [e]
      have := textS_leaf m n na ka nc kc k hk (by omega) h3' w hw0 hw1 hx (hasT (by
        have : k = 1 ∨ k = 2 ∨ k = 3 := by omega
        rcases this with rfl | rfl | rfl <;> decide))
      rw [hk] at this ⊢
      exact this
    by_cases h4' : k = 4
    · subst h4'
      have e : lenF (lenN m) n = (n.names.headD ByteArray.empty).size := by unfold lenF; rw [if_neg (by omega), if_pos (by omega)]
      rw [e, hk]
      refine textS_name S m n na ka nc kc w hB h3 ?_
      rw [just_op (poT m) n hr.1 hr.2 (by omega), hkn, pre_name.1] at hj
      simp only [preC, Bool.and_eq_true] at hj
      intro e0
      have := hj.1.2
      rw [e0] at this
      exact absurd this (by decide)
    by_cases h24 : k = 24
    · subst h24
      rw [just_form (poT m) n (by omega)] at hj
      simp only [Bool.and_eq_true] at hj
      have hx0 := toList_empty _ hj.2.2
      have e : lenF (lenN m) n = 8 + szN n.names + sumL (fun x => lenN m x + 1) n.kids := by
        unfold lenF
        rw [if_neg (by omega), if_neg (by omega), hkn, if_pos hx0, if_neg (by omega), if_pos (by omega), show (wrd 24).size = 4 by decide]
        omega
      rw [e] at hl ⊢
      rw [hk]
      exact textS_form m ih S n na ka nc kc (d + 1) w hB h3 h4 (hasF (by decide)) hgk hl
    · have e : lenF (lenN m) n = (wrd k).size + szN n.names + (if n.text.size = 0 then 0 else n.text.size + 1) + (if k = 37 ∨ k = 39 then (Lib.itoa n.num).length + 1 else 0) + sumL (fun x => lenN m x + 1) n.kids := by
        unfold lenF
        rw [if_neg (by omega), if_neg (by omega), hkn, if_neg (show ¬ n.sort = 24 by omega)]
        have : (if n.sort = 37 ∨ n.sort = 39 then (Lib.itoa n.num).length + 1 else 0) = (if k = 37 ∨ k = 39 then (Lib.itoa n.num).length + 1 else 0) := by
          by_cases h : k = 37 ∨ k = 39
          · rw [if_pos h, if_pos (by omega)]
          · rw [if_neg h, if_neg (by omega)]
        rw [this]; rfl
      rw [e] at hl ⊢
      rw [hk]
      refine textS_op m ih S n na ka nc kc k (d + 1) w hk44 (by omega) h24 hB h3 h4 hgk (fun h => hasN ?_) hl
      rcases h with rfl | rfl <;> decide

/-- What l11Is answers. -/
def isS (m : Nat) (t : T m) (act : Bool) : Bool := (goodN m t 1 && (act == decide (36 ≤ opT m t))) && decide (cntT m t ≤ 200) && decide (lenN m t ≤ 3000)

theorem cntN_pos : ∀ (m : Nat) (t : T m) (d : Int), goodN m t d = true → 1 ≤ cntT m t := by
  intro m t d h
  cases m with
  | zero => simp [goodN] at h
  | succ m => simp only [cntT]; omega

set_option maxRecDepth 20000 in
set_option maxHeartbeats 1000000 in
theorem l11Is_any (m : Nat) (S : Nat → Prop) (t : T m) (c0 c1 c2 c3 c4 : Value) (act : Bool) (w : World) (hin : NodeIn S w m t c0 c1 c2 c3 c4) (hB : ∀ b, S b → b < w.heap.size) (hsz : szT m t ≤ 1048576) :
    Calls Tryz.prog 17 #[.agg #[c0, c1, c2, c3, c4], .bool act] w fun e w' => e = .returned (.bool (isS m t act)) ∧ Below w.heap.size w w' := by
  obtain ⟨x0, x1, x2, xa, xl, xc, ya, yl, yc, rfl, rfl, rfl, rfl, rfl⟩ := hin.shape
  have hb0 := (Below.refl w.heap.size w).alloc (Nat.le_refl _) (.cells #[.int .i64 x0, .int .i64 x1, .string x2, .slice xa xl xc, .slice ya yl yc] 30)
  obtain ⟨hin0, hB0⟩ := hin.step hB hb0
  have HC1 : Hid (Calls Tryz.prog 28 _ _ _) := l11Nodes_any m S t _ _ _ _ _ act 1 _ hin0 hB0 hsz (by omega) (by omega)
  have HC2 : Hid (∀ w1, Below (w.alloc (.cells #[.int .i64 x0, .int .i64 x1, .string x2, .slice xa xl xc, .slice ya yl yc] 30)).heap.size (w.alloc (.cells #[.int .i64 x0, .int .i64 x1, .string x2, .slice xa xl xc, .slice ya yl yc] 30)) w1 → Below w.heap.size w w1 ∧ (w1.cell? ⟨w.heap.size, 0, none⟩ = some (.int .i64 x0) ∧ w1.cell? ⟨w.heap.size, 1, none⟩ = some (.int .i64 x1) ∧ w1.cell? ⟨w.heap.size, 2, none⟩ = some (.string x2) ∧ w1.cell? ⟨w.heap.size, 3, none⟩ = some (.slice xa xl xc) ∧ w1.cell? ⟨w.heap.size, 4, none⟩ = some (.slice ya yl yc)) ∧
      (goodN m t 1 = true → cntT m t ≤ 200 → Calls Tryz.prog 29 #[.agg #[.int .i64 x0, .int .i64 x1, .string x2, .slice xa xl xc, .slice ya yl yc]] w1 fun e w' => Below w1.heap.size w1 w' ∧ ∃ s, e = .returned (.string s) ∧ s.size = lenN m t)) := by
    intro w1 hb1
    obtain ⟨hin1, hB1⟩ := hin0.step hB0 hb1
    refine ⟨below_step hb0 (by simp) hb1, five_of ((hb1.block w.heap.size (by simp)).trans (heap_alloc_last w _)), fun hg hc => ?_⟩
    have hl := lenN_le m t 1 hg
    exact textS_any m S t _ _ _ _ _ 1 w1 hin1 hB1 hg (by omega)
  have HV : Hid (nodesF m t act 1 = if (goodN m t 1 && (act == decide (36 ≤ opT m t))) = true ∧ cntT m t ≤ 200 then (cntT m t : Int) else -1) := by
    show _ = _
    unfold nodesF
    rw [goodS_eq]
  clear hin hin0
  generalize nodesF m t act 1 = v at *
  by_cases hq : (goodN m t 1 && (act == decide (36 ≤ opT m t))) = true ∧ cntT m t ≤ 200
  · have hg : goodN m t 1 = true := by have := hq.1; simp only [Bool.and_eq_true] at this; exact this.1
    have hp := cntN_pos m t 1 hg
    have hv : (0 : Int) < v := by rw [HV.out, if_pos hq]; omega
    have HO : Hid (isS m t act = decide ((lenN m t : Int) ≤ 3000)) := by
      show _ = _
      unfold isS
      rw [hq.1, decide_eq_true hq.2]
      by_cases h3 : lenN m t ≤ 3000
      · rw [decide_eq_true h3, decide_eq_true (by omega)]; rfl
      · rw [decide_eq_false h3, decide_eq_false (by omega)]; rfl
    have hc := hq.2
    clear hq HV hp
    go_enter Tryz.func17, Tryz.ntmps17
    go_wp2_with fail
    refine HC1.out.mono ?_
    rintro e w1 ⟨rfl, hb1⟩
    obtain ⟨hb2, ⟨z0, z1, z2, z3, z4⟩, hct⟩ := HC2.out w1 hb1
    have HCT := hidF (hct hg hc)
    have HB2 := hidF hb2
    clear hb1 hb2 hct HC1 HC2 hg hc
    go_wp2_with fail
    refine HCT.out.mono ?_
    rintro e w2 ⟨hb3, s, rfl, hs⟩
    have HF : Hid (isS m t act = decide ((s.size : Int) ≤ 3000) ∧ Below w.heap.size w w2) := ⟨by rw [HO.out, hs], HB2.out.trans (hb3.mono HB2.out.size)⟩
    clear hb3 hs HCT HO z0 z1 z2 z3 z4
    go_wp2_with fail
    go_ret
    exact ⟨bool_ret HF.out.1.symm, HF.out.2⟩
  · have hv : ¬ (0 : Int) < v := by rw [HV.out, if_neg hq]; omega
    have HO : Hid (isS m t act = false) := by
      show _ = _
      unfold isS
      cases h1 : (goodN m t 1 && (act == decide (36 ≤ opT m t))) with
      | false => rfl
      | true =>
        have h2 : ¬ cntT m t ≤ 200 := fun h => hq ⟨h1, h⟩
        rw [decide_eq_false h2]; rfl
    clear hq HV
    go_enter Tryz.func17, Tryz.ntmps17
    go_wp2_with fail
    refine HC1.out.mono ?_
    rintro e w1 ⟨rfl, hb1⟩
    obtain ⟨hb2, -, -⟩ := HC2.out w1 hb1
    have HB2 := hidF hb2
    clear hb1 hb2 HC1 HC2
    go_wp2_with fail
    go_ret
    exact ⟨bool_ret HO.out.symm, HB2.out⟩

end Go.Proofs.YtlinplghgamgbaaGreatDoor

/-
  The specification: how often a kid may be done; what a node costs.
-/
namespace Go.Proofs.YtlinplghgamgbaaGreatDoor
open Go.RowKit

set_option maxRecDepth 20000 in
set_option maxHeartbeats 1000000 in
theorem l12Times_any (s : Int) (i : Nat) (w : World) : Calls Tryz.prog 32 #[.int .i64 s, .int .i64 (i : Int)] w fun e w' => e = .returned (.int .i64 (turnF s i)) ∧ w' = w := by
  by_cases h : s = 33 ∨ s = 34 ∨ s = 43
  · have e35 : (s == 35) = false := by simp; omega
    by_cases hi : i = 1
    · subst hi
      have HF : Hid (turnF s 1 = 20) := by show _ = _; unfold turnF; rw [if_pos (.inl ⟨h, rfl⟩)]
      rcases h with rfl | rfl | rfl
      all_goals
        go_enter Tryz.func32, Tryz.ntmps32
        go_wp2
        go_ret
        exact ⟨ret_int HF.out.symm, rfl⟩
    · have hi' : ((i : Int) == 1) = false := by simp; omega
      have HF : Hid (turnF s i = 1) := by show _ = _; unfold turnF; rw [if_neg (by omega)]
      clear hi
      rcases h with rfl | rfl | rfl
      all_goals
        go_enter Tryz.func32, Tryz.ntmps32
        go_wp2_with fail
        go_ret
        exact ⟨ret_int HF.out.symm, rfl⟩
  · have e3 : (s == 33) = false := by simp; omega
    have e4 : (s == 34) = false := by simp; omega
    have e6 : (s == 43) = false := by simp; omega
    by_cases h5 : s = 35
    · subst h5
      by_cases hi : i = 2
      · subst hi
        have HF : Hid (turnF 35 2 = 20) := rfl
        clear h e3 e4 e6
        go_enter Tryz.func32, Tryz.ntmps32
        go_wp2
        go_ret
        exact ⟨ret_int HF.out.symm, rfl⟩
      · have hi' : ((i : Int) == 2) = false := by simp; omega
        have HF : Hid (turnF 35 i = 1) := by show _ = _; unfold turnF; rw [if_neg (by omega)]
        clear hi h e3 e4 e6
        go_enter Tryz.func32, Tryz.ntmps32
        go_wp2_with fail
        go_ret
        exact ⟨ret_int HF.out.symm, rfl⟩
    · have e7 : (s == 35) = false := by simp; omega
      have HF : Hid (turnF s i = 1) := by show _ = _; unfold turnF; rw [if_neg (by omega)]
      clear h h5
      go_enter Tryz.func32, Tryz.ntmps32
      go_wp2_with fail
      go_ret
      exact ⟨ret_int HF.out.symm, rfl⟩

/-- l12Cost at nodes of at most m levels. -/
def CostS (m : Nat) : Prop := ∀ (S : Nat → Prop) (t : T m) (c0 c1 c2 c3 c4 : Value) (w : World), NodeIn S w m t c0 c1 c2 c3 c4 → (∀ b, S b → b < w.heap.size) → szT m t ≤ 1048576 →
  Calls Tryz.prog 24 #[.agg #[c0, c1, c2, c3, c4]] w fun e w' => e = .returned (.int .i64 (costT m t)) ∧ Below w.heap.size w w'

theorem kids_fewS (m : Nat) (t : T (m + 1)) (h : szT (m + 1) t ≤ 1048576) : (Nd.kids t).length ≤ 1048576 := by
  have : ∀ l : List (T m), l.length ≤ sumL (fun k => szT m k + 1) l := by
    intro l
    induction l with
    | nil => simp
    | cons a r ih => simp only [sumL, List.length_cons]; omega
  have := this (Nd.kids t)
  simp only [szT] at h
  omega

set_option maxRecDepth 20000 in
set_option maxHeartbeats 2000000 in
theorem l12Cost_step (m : Nat) (hn : CostS m) : CostS (m + 1) := by
  intro S t c0 c1 c2 c3 c4 w ht hB hszT
  obtain ⟨rfl, rfl, rfl, hs, hw0, hw1, h3, h4, ⟨na, nl, nc, rfl, hc3⟩, ⟨ka, kl, kc, rfl, hc4⟩⟩ := ht
  obtain ⟨_, _, hv, -⟩ := id h3
  cases hv
  obtain ⟨_, _, hv, hlen, -⟩ := id h4
  cases hv
  have hfew := kids_fewS m t hszT
  have HSK : Hid (∀ k (h : k < (Nd.kids t).length), szT m (Nd.kids t)[k] ≤ 1048576) := fun k h => by
    have := sumL_mono (fun k => szT m k + 1) (Nd.kids t) _ (List.getElem_mem h)
    simp only [szT] at hszT; omega
  clear hszT hlen
  have hb0 := (Below.refl w.heap.size w).alloc (Nat.le_refl _) (.cells #[.int .i64 (Nd.sort t), .int .i64 (Nd.num t), .string (Nd.text t), .slice na (Nd.names t).length nc, .slice ka (Nd.kids t).length kc] 30)
  have hK := h4.keepN (same_below hb0 hB) (fun _ h => h)
  obtain ⟨W, hW⟩ : ∃ W, W = w.alloc (.cells #[.int .i64 (Nd.sort t), .int .i64 (Nd.num t), .string (Nd.text t), .slice na (Nd.names t).length nc, .slice ka (Nd.kids t).length kc] 30) := ⟨_, rfl⟩
  have hbox := heap_alloc_last w (.cells #[.int .i64 (Nd.sort t), .int .i64 (Nd.num t), .string (Nd.text t), .slice na (Nd.names t).length nc, .slice ka (Nd.kids t).length kc] 30)
  have hzW : w.heap.size < W.heap.size := by rw [hW]; simp
  obtain ⟨z0, z1, z2, z3, z4⟩ := five_of hbox
  rw [← hW] at hb0 hK z0 z4
  have HB0 := hidF hb0
  have HTo : Hid (∀ j, costTo (costT m) (Nd.sort t) (Nd.kids t) j ≤ 1 + 800020 * (j : Int) ∧ 1 ≤ costTo (costT m) (Nd.sort t) (Nd.kids t) j) := fun j => by
    have := costTo_le (costT m) (Nd.sort t) (Nd.kids t) (fun x _ => ⟨by have := costT_le m x; omega, (costT_le m x).2⟩) j
    exact ⟨this.2.1, this.1⟩
  clear h3 h4 hb0 hbox z1 z2 z3 hc3 hc4 hs hw1
  go_enter Tryz.func24, Tryz.ntmps24
  go_wp2_with fail
  rw [← hW]
  clear hW
  obtain ⟨_, _, hkv, -, hkids⟩ := hK
  cases hkv
  go_loopw [3, 4] (fun a i wr => ∃ j : Nat, j ≤ (Nd.kids t).length ∧ i = .int .i64 j ∧ a = .int .i64 (costTo (costT m) (Nd.sort t) (Nd.kids t) j) ∧ costTo (costT m) (Nd.sort t) (Nd.kids t) j ≤ 40000 ∧ Below W.heap.size W wr) (fun _ i _ => (Nd.kids t).length - (intOf i).toNat)
  case atStart => exact ⟨0, Nat.zero_le _, rfl, rfl, by show (1 : Int) ≤ _; omega, Below.refl _ _⟩
  case round =>
    obtain ⟨j, hj, rfl, rfl, hmax, hbel⟩ := hrel
    have hsz := hbel.size
    have hto := HTo.out j
    have q0 : wr.cell? ⟨w.heap.size, 0, none⟩ = some (.int .i64 (Nd.sort t)) := (hbel.cell (p := ⟨w.heap.size, 0, none⟩) hzW).trans z0
    have q4 : wr.cell? ⟨w.heap.size, 4, none⟩ = some (.slice ka (Nd.kids t).length kc) := (hbel.cell (p := ⟨w.heap.size, 4, none⟩) hzW).trans z4
    by_cases hlt : j < (Nd.kids t).length
    · obtain ⟨b, off, rfl, hbB, hcell⟩ := hkids (by intro h; rw [h] at hlt; simp at hlt)
      obtain ⟨x0, x1, x2, x3, x4, e0, e1, e2, e3, e4, hrr⟩ := hcell j hlt
      obtain ⟨y0, y1, y2, ya, yl, yc, za, zl, zc, rfl, rfl, rfl, rfl, rfl⟩ := hrr.shape
      have hbb := hB b hbB
      have f0 := (hbel.cell (p := ⟨b, off + j * 5, none⟩) (by show b < _; omega)).trans e0
      have f1 := (hbel.cell (p := ⟨b, off + j * 5 + 1, none⟩) (by show b < _; omega)).trans e1
      have f2 := (hbel.cell (p := ⟨b, off + j * 5 + 2, none⟩) (by show b < _; omega)).trans e2
      have f3 := (hbel.cell (p := ⟨b, off + j * 5 + 3, none⟩) (by show b < _; omega)).trans e3
      have f4 := (hbel.cell (p := ⟨b, off + j * 5 + 4, none⟩) (by show b < _; omega)).trans e4
      have qq := hrr.keep (same_below hbel (fun b hb => by have := hB b hb; omega)) (fun _ h => h)
      have HCk : Hid (Calls Tryz.prog 24 #[.agg #[.int .i64 y0, .int .i64 y1, .string y2, .slice ya yl yc, .slice za zl zc]] wr.drew fun e w' => e = .returned (.int .i64 (costT m (Nd.kids t)[j])) ∧ Below W.heap.size W w' ∧ (w'.cell? ⟨w.heap.size, 0, none⟩ = some (.int .i64 (Nd.sort t)) ∧ w'.cell? ⟨w.heap.size, 4, none⟩ = some (.slice (some ⟨b, off, none⟩) (Nd.kids t).length kc) ∧ w'.cell? ⟨b, off + j * 5, none⟩ = some (.int .i64 y0) ∧ w'.cell? ⟨b, off + j * 5 + 1, none⟩ = some (.int .i64 y1) ∧ w'.cell? ⟨b, off + j * 5 + 2, none⟩ = some (.string y2) ∧ w'.cell? ⟨b, off + j * 5 + 3, none⟩ = some (.slice ya yl yc) ∧ w'.cell? ⟨b, off + j * 5 + 4, none⟩ = some (.slice za zl zc))) := by
        have hD : Below wr.heap.size wr wr.drew := (Below.refl _ _).drew
        refine (hn S (Nd.kids t)[j] _ _ _ _ _ wr.drew (qq.keep (same_below hD (fun b hb => by have := hB b hb; omega)) (fun _ h => h)) (fun b hb => by have := hB b hb; have := hD.size; omega) (HSK.out j hlt)).mono ?_
        rintro e w' ⟨rfl, hb⟩
        have hb3 : Below wr.heap.size wr w' := hD.trans (hb.mono hD.size)
        exact ⟨rfl, hbel.trans (hb3.mono hbel.size), (hb3.cell (p := ⟨w.heap.size, 0, none⟩) (by show w.heap.size < _; omega)).trans q0, (hb3.cell (p := ⟨w.heap.size, 4, none⟩) (by show w.heap.size < _; omega)).trans q4, (hb3.cell (p := ⟨b, off + j * 5, none⟩) (by show b < _; omega)).trans f0, (hb3.cell (p := ⟨b, off + j * 5 + 1, none⟩) (by show b < _; omega)).trans f1, (hb3.cell (p := ⟨b, off + j * 5 + 2, none⟩) (by show b < _; omega)).trans f2, (hb3.cell (p := ⟨b, off + j * 5 + 3, none⟩) (by show b < _; omega)).trans f3, (hb3.cell (p := ⟨b, off + j * 5 + 4, none⟩) (by show b < _; omega)).trans f4⟩
      have HTn : Hid (∀ w, Calls Tryz.prog 32 #[.int .i64 (Nd.sort t), .int .i64 (j : Int)] w fun e w' => e = .returned (.int .i64 (turnF (Nd.sort t) j)) ∧ w' = w) := fun w => l12Times_any (Nd.sort t) j w
      have HNext : Hid (costTo (costT m) (Nd.sort t) (Nd.kids t) (j + 1) = costTo (costT m) (Nd.sort t) (Nd.kids t) j + turnF (Nd.sort t) j * costT m (Nd.kids t)[j]) := costTo_step _ _ _ _ hlt
      have HAll : Hid (40000 < costTo (costT m) (Nd.sort t) (Nd.kids t) (j + 1) → costT (m + 1) t = 40001) := fun h => costT_all m t (j + 1) (by omega) h
      rw [HNext.out] at HAll
      have hc := costT_le m (Nd.kids t)[j]
      have htn := turnF_le (Nd.sort t) j
      have hm := turn_mul htn.1 htn.2 (by omega) hc.2
      generalize costTo (costT m) (Nd.sort t) (Nd.kids t) j = cs at *
      generalize costT m (Nd.kids t)[j] = cv at *
      generalize turnF (Nd.sort t) j = tv at *
      have hwm : IntKind.i64.wrap (tv * cv) = tv * cv := by rw [IntKind.wrap_i64]; omega
      have hws : IntKind.i64.wrap (cs + tv * cv) = cs + tv * cv := by rw [IntKind.wrap_i64]; omega
      clear hkids hcell e0 e1 e2 e3 e4 hrr qq hbel HTo
      go_wp2_with fail
      go_region_held (fun w' => w'.cell? ⟨w.heap.size, 0, none⟩ = some (.int .i64 (Nd.sort t)) ∧ w'.cell? ⟨w.heap.size, 4, none⟩ = some (.slice (some ⟨b, off, none⟩) (Nd.kids t).length kc) ∧ w'.cell? ⟨b, off + j * 5, none⟩ = some (.int .i64 y0) ∧ w'.cell? ⟨b, off + j * 5 + 1, none⟩ = some (.int .i64 y1) ∧ w'.cell? ⟨b, off + j * 5 + 2, none⟩ = some (.string y2) ∧ w'.cell? ⟨b, off + j * 5 + 3, none⟩ = some (.slice ya yl yc) ∧ w'.cell? ⟨b, off + j * 5 + 4, none⟩ = some (.slice za zl zc)) (first | with_reducible assumption | go_keep) (first | (go_at_call 24; refine HCk.out.mono ?_; rintro e w2 ⟨rfl, hb4, hSS⟩) | (go_at_call 32; refine (HTn.out _).mono ?_; rintro e w3 ⟨rfl, rfl⟩))
      all_goals
        have HB4 := hidF hb4
        have HB5 := hidF (HB0.out.trans (hb4.mono HB0.out.size))
        clear hb4 hSS f0 f1 f2 f3 f4 q0 q4 HCk HTn
        by_cases hgt : 40000 < cs + tv * cv
        · have HF := hidF (HAll.out hgt)
          go_wp2_with fail
          go_ret
          exact ⟨ret_int HF.out.symm, HB5.out⟩
        · go_wp2_with fail
          go_roundw
          case rel =>
            refine ⟨j + 1, by omega, by go_num, ?_, ?_, HB4.out⟩
            · rw [HNext.out]
            · rw [HNext.out]; omega
          case measure => simp [intOf]; omega
    · have hkl : j = (Nd.kids t).length := by omega
      have HP : Hid (Below w.heap.size w wr) := HB0.out.trans (hbel.mono HB0.out.size)
      have HF : Hid (costT (m + 1) t = costTo (costT m) (Nd.sort t) (Nd.kids t) j) := by
        show min (costTo (costT m) (Nd.sort t) (Nd.kids t) (Nd.kids t).length) 40001 = _
        rw [← hkl]; omega
      clear hkids hkl
      go_wp2_with fail
      go_ret
      exact ⟨ret_int HF.out.symm, HP.out⟩

theorem l12Cost_any : ∀ m, CostS m := by
  intro m
  induction m with
  | zero => intro S t c0 c1 c2 c3 c4 w ht; exact ht.elim
  | succ m ih => exact l12Cost_step m ih

end Go.Proofs.YtlinplghgamgbaaGreatDoor

/-
  The specification: LiftCost, LiftFan.
-/
namespace Go.Proofs.YtlinplghgamgbaaGreatDoor
open Go.RowKit

theorem isS_or (m : Nat) (t : T m) : (isS m t true || isS m t false) = okN m t := by
  unfold isS okN
  by_cases h : 36 ≤ opT m t
  · simp [h]
  · simp [h]

set_option maxRecDepth 20000 in
set_option maxHeartbeats 1000000 in
theorem specLCost_any (m : Nat) (S : Nat → Prop) (t : T m) (c0 c1 c2 c3 c4 : Value) (w : World) (hin : NodeIn S w m t c0 c1 c2 c3 c4) (hB : ∀ b, S b → b < w.heap.size) (hsz : szT m t ≤ 1048576) :
    Calls Tryz.prog 11 #[.agg #[c0, c1, c2, c3, c4]] w fun e w' => e = .returned (.int .i64 (costA m t)) ∧ Below w.heap.size w w' := by
  obtain ⟨x0, x1, x2, xa, xl, xc, ya, yl, yc, rfl, rfl, rfl, rfl, rfl⟩ := hin.shape
  have hb0 := (Below.refl w.heap.size w).alloc (Nat.le_refl _) (.cells #[.int .i64 x0, .int .i64 x1, .string x2, .slice xa xl xc, .slice ya yl yc] 30)
  obtain ⟨hin0, hB0⟩ := hin.step hB hb0
  obtain ⟨W, hW⟩ : ∃ W, W = w.alloc (.cells #[.int .i64 x0, .int .i64 x1, .string x2, .slice xa xl xc, .slice ya yl yc] 30) := ⟨_, rfl⟩
  have hbox := heap_alloc_last w (.cells #[.int .i64 x0, .int .i64 x1, .string x2, .slice xa xl xc, .slice ya yl yc] 30)
  have hzW : w.heap.size < W.heap.size := by rw [hW]; simp
  rw [← hW] at hb0 hin0 hB0 hbox
  have HR : Hid (∀ w1, Below W.heap.size W w1 → Below w.heap.size w w1 ∧ (w1.cell? ⟨w.heap.size, 0, none⟩ = some (.int .i64 x0) ∧ w1.cell? ⟨w.heap.size, 1, none⟩ = some (.int .i64 x1) ∧ w1.cell? ⟨w.heap.size, 2, none⟩ = some (.string x2) ∧ w1.cell? ⟨w.heap.size, 3, none⟩ = some (.slice xa xl xc) ∧ w1.cell? ⟨w.heap.size, 4, none⟩ = some (.slice ya yl yc)) ∧
      (∀ act, Calls Tryz.prog 17 #[.agg #[.int .i64 x0, .int .i64 x1, .string x2, .slice xa xl xc, .slice ya yl yc], .bool act] w1 fun e w' => e = .returned (.bool (isS m t act)) ∧ Below W.heap.size W w') ∧
      (Calls Tryz.prog 24 #[.agg #[.int .i64 x0, .int .i64 x1, .string x2, .slice xa xl xc, .slice ya yl yc]] w1 fun e w' => e = .returned (.int .i64 (costT m t)) ∧ Below W.heap.size W w')) := by
    intro w1 hb1
    obtain ⟨hin1, hB1⟩ := hin0.step hB0 hb1
    refine ⟨hb0.trans (hb1.mono hb0.size), five_of ((hb1.block w.heap.size hzW).trans hbox), fun act => (l11Is_any m S t _ _ _ _ _ act w1 hin1 hB1 hsz).mono ?_, (l12Cost_any m S t _ _ _ _ _ w1 hin1 hB1 hsz).mono ?_⟩
    · rintro e w2 ⟨rfl, hb2⟩
      exact ⟨rfl, hb1.trans (hb2.mono hb1.size)⟩
    · rintro e w2 ⟨rfl, hb2⟩
      exact ⟨rfl, hb1.trans (hb2.mono hb1.size)⟩
  have HOr := hidF (isS_or m t)
  have HRf := hidF (Below.refl W.heap.size W)
  clear hin hin0 hb0 hbox
  obtain ⟨-, ⟨z0, z1, z2, z3, z4⟩, hi0, -⟩ := HR.out W HRf.out
  have HI0 := hidF (hi0 true)
  clear hi0
  have HA : Hid (costA m t = if okN m t = true then costT m t else 0) := rfl
  cases h1 : isS m t true with
  | true =>
    have HF : Hid (costA m t = costT m t) := by show _ = _; rw [HA.out, ← HOr.out, h1]; rfl
    rw [h1] at HI0
    clear h1 HA
    go_enter Tryz.func11, Tryz.ntmps11
    go_wp2_with fail
    rw [← hW]
    clear hW
    refine HI0.out.mono ?_
    rintro e w1 ⟨rfl, hb1⟩
    clear z0 z1 z2 z3 z4
    obtain ⟨-, ⟨z0, z1, z2, z3, z4⟩, -, hct⟩ := HR.out w1 hb1
    have HCT := hidF hct
    clear hb1 hct HI0
    go_wp2_with fail
    refine HCT.out.mono ?_
    rintro e w2 ⟨rfl, hb2⟩
    have HB2 := hidF (HR.out w2 hb2).1
    clear hb2 HCT z0 z1 z2 z3 z4 HR
    go_wp2_with fail
    go_ret
    exact ⟨ret_int HF.out.symm, HB2.out⟩
  | false =>
    rw [h1] at HI0
    cases h2 : isS m t false with
    | true =>
      have HF : Hid (costA m t = costT m t) := by show _ = _; rw [HA.out, ← HOr.out, h1, h2]; rfl
      clear h1 HA
      go_enter Tryz.func11, Tryz.ntmps11
      go_wp2_with fail
      rw [← hW]
      clear hW
      refine HI0.out.mono ?_
      rintro e w1 ⟨rfl, hb1⟩
      clear z0 z1 z2 z3 z4
      obtain ⟨-, ⟨z0, z1, z2, z3, z4⟩, hi1, -⟩ := HR.out w1 hb1
      have HI1 := hidF (hi1 false)
      rw [h2] at HI1
      clear hb1 hi1 HI0 h2
      go_wp2_with fail
      refine HI1.out.mono ?_
      rintro e w2 ⟨rfl, hb2⟩
      clear z0 z1 z2 z3 z4
      obtain ⟨-, ⟨z0, z1, z2, z3, z4⟩, -, hct⟩ := HR.out w2 hb2
      have HCT := hidF hct
      clear hb2 hct HI1
      go_wp2_with fail
      refine HCT.out.mono ?_
      rintro e w3 ⟨rfl, hb3⟩
      have HB2 := hidF (HR.out w3 hb3).1
      clear hb3 HCT z0 z1 z2 z3 z4 HR
      go_wp2_with fail
      go_ret
      exact ⟨ret_int HF.out.symm, HB2.out⟩
    | false =>
      have HF : Hid (costA m t = 0) := by show _ = _; rw [HA.out, ← HOr.out, h1, h2]; rfl
      clear h1 HA
      go_enter Tryz.func11, Tryz.ntmps11
      go_wp2_with fail
      rw [← hW]
      clear hW
      refine HI0.out.mono ?_
      rintro e w1 ⟨rfl, hb1⟩
      clear z0 z1 z2 z3 z4
      obtain ⟨-, ⟨z0, z1, z2, z3, z4⟩, hi1, -⟩ := HR.out w1 hb1
      have HI1 := hidF (hi1 false)
      rw [h2] at HI1
      clear hb1 hi1 HI0 h2
      go_wp2_with fail
      refine HI1.out.mono ?_
      rintro e w2 ⟨rfl, hb2⟩
      have HB2 := hidF (HR.out w2 hb2).1
      clear hb2 HI1 z0 z1 z2 z3 z4 HR
      go_wp2_with fail
      go_ret
      exact ⟨ret_int HF.out.symm, HB2.out⟩

end Go.Proofs.YtlinplghgamgbaaGreatDoor
