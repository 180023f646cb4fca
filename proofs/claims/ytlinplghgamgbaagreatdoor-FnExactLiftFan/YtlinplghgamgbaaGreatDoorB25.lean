/-
  Several texts in one, in their order.
-/
import Derived.Test.YtlinplghgamgbaaGreatDoorSL2
import Derived.Test.YtlinplghgamgbaaGreatDoorB24
import Derived.Test.YtlinplghgamgbaaGreatDoorB14
import Derived.BigQuiet
import Derived.Deep.RegionHeld
import Derived.Test.YtlinplghgamgbaaGreatDoorB13

/-
  The specification on upcasters' nodes: how long their texts are.
-/
namespace Go.Proofs.YtlinplghgamgbaaGreatDoor
open Go.RowKit

/-- l11Text at nodes of at most m levels. -/
def TextS (m : Nat) : Prop := ∀ (S : Nat → Prop) (t : T m) (c0 c1 c2 c3 c4 : Value) (d : Int) (w : World), NodeIn S w m t c0 c1 c2 c3 c4 → (∀ b, S b → b < w.heap.size) → goodN m t d = true → lenN m t ≤ 800000 →
  Calls Tryz.prog 29 #[.agg #[c0, c1, c2, c3, c4]] w fun e w' => Below w.heap.size w w' ∧ ∃ s, e = .returned (.string s) ∧ s.size = lenN m t

theorem app_size (a b : ByteArray) : (a ++ b).size = a.size + b.size := by simp

theorem sumL_take_le {α : Type} (f : α → Nat) (l : List α) (k : Nat) : sumL f (l.take k) ≤ sumL f l := by
  have := sumL_append f (l.take k) (l.drop k)
  rw [List.take_append_drop] at this; omega

theorem szN_take_le (l : List ByteArray) (k : Nat) : szN (l.take k) ≤ szN l := by
  have := szN_append (l.take k) (l.drop k)
  rw [List.take_append_drop] at this; omega

set_option maxRecDepth 20000 in
set_option maxHeartbeats 4000000 in
theorem textS_form (m : Nat) (hn : TextS m) (S : Nat → Prop) (n : Nd (T m)) (na ka : Option Addr) (nc kc : Nat) (d : Int) (w : World) (hB : ∀ b, S b → b < w.heap.size) (h3 : StrsIn S w n.names (.slice na n.names.length nc)) (h4 : RowIn S w (NodeIn S w m) n.kids (.slice ka n.kids.length kc))
    (hle : n.names.length = n.kids.length) (hg : n.kids.all (fun x => goodN m x d) = true) (hl : 8 + szN n.names + sumL (fun x => lenN m x + 1) n.kids ≤ 800000) :
    Calls Tryz.prog 29 #[.agg #[.int .i64 24, .int .i64 n.num, .string n.text, .slice na n.names.length nc, .slice ka n.kids.length kc]] w fun e w' => Below w.heap.size w w' ∧ ∃ s, e = .returned (.string s) ∧ s.size = 8 + szN n.names + sumL (fun x => lenN m x + 1) n.kids := by
  obtain ⟨W, hW⟩ : ∃ W, W = w.alloc (.cells #[.int .i64 24, .int .i64 n.num, .string n.text, .slice na n.names.length nc, .slice ka n.kids.length kc] 30) := ⟨_, rfl⟩
  have hbW : Below w.heap.size w W := by rw [hW]; exact (Below.refl _ _).alloc (Nat.le_refl _) _
  have hzW : w.heap.size < W.heap.size := by rw [hW]; simp
  have hbox : W.heap[w.heap.size]? = some (.cells #[.int .i64 24, .int .i64 n.num, .string n.text, .slice na n.names.length nc, .slice ka n.kids.length kc] 30 (0, 0)) := by rw [hW]; exact heap_alloc_last _ _
  obtain ⟨_, _, hv, hl3, hs3, hc3⟩ := h3.keep (same_below hbW hB) (fun _ h => h)
  cases hv
  obtain ⟨_, _, hv, hl4, hc4⟩ := h4.keepN (same_below hbW hB) (fun _ h => h)
  cases hv
  have HG : Hid (∀ k (h : k < n.kids.length), goodN m n.kids[k] d = true) := fun k h => List.all_eq_true.1 hg _ (List.getElem_mem h)
  have HL : Hid (8 + szN n.names + sumL (fun x => lenN m x + 1) n.kids ≤ 800000) := hl
  have hle1 : n.names.length ≤ n.kids.length := by omega
  have hle2 : n.kids.length ≤ n.names.length := by omega
  have HBW := hidF hbW
  unfold maxLen at hl3 hl4
  clear hg hl h3 h4 hle hbW
  subst hW
  go_enter Tryz.func29, Tryz.ntmps29
  go_wp2_with fail
  go_loopw [3, 4] (fun a i wr => ∃ (k : Nat) (s : ByteArray), k ≤ n.kids.length ∧ i = .int .i64 k ∧ a = .string s ∧ Hid (s.size = 4 + szN (n.names.take k) + sumL (fun x => lenN m x + 1) (n.kids.take k)) ∧ Below (w.heap.size + 1) (w.alloc (.cells #[.int .i64 24, .int .i64 n.num, .string n.text, .slice na n.names.length nc, .slice ka n.kids.length kc] 30)) wr) (fun _ i _ => n.kids.length - (intOf i).toNat)
  case atStart => exact ⟨0, ⟨#[102, 111, 114, 109]⟩, Nat.zero_le _, rfl, rfl, rfl, Below.refl _ _⟩
  case round =>
    obtain ⟨k, s, hk, rfl, rfl, HS, hwr⟩ := hrel
    obtain ⟨z0, z1, z2, z3, z4⟩ := five_of ((hwr.block w.heap.size (by omega)).trans hbox)
    by_cases hlt : k < n.kids.length
    · have hlt' : k < n.names.length := by omega
      obtain ⟨b, off, rfl, hSb, hcell⟩ := hc3 (by intro h; rw [h] at hlt'; simp at hlt')
      have hbb := hB b hSb
      have e0 := (hwr.cell (p := ⟨b, off + k, none⟩) (by show b < _; omega)).trans (hcell k hlt')
      obtain ⟨b2, off2, rfl, hSb2, hcell2⟩ := hc4 (by intro h; have := List.length_eq_zero_iff.2 h; omega)
      have hbb2 := hB b2 hSb2
      obtain ⟨d0, d1, d2, d3, d4, k0, k1, k2, k3, k4, hin⟩ := hcell2 k hlt
      obtain ⟨x0, x1, x2, xa, xl, xc, ya, yl, yc, rfl, rfl, rfl, rfl, rfl⟩ := hin.shape
      have f0 := (hwr.cell (p := ⟨b2, off2 + k * 5, none⟩) (by show b2 < _; omega)).trans k0
      have f1 := (hwr.cell (p := ⟨b2, off2 + k * 5 + 1, none⟩) (by show b2 < _; omega)).trans k1
      have f2 := (hwr.cell (p := ⟨b2, off2 + k * 5 + 2, none⟩) (by show b2 < _; omega)).trans k2
      have f3 := (hwr.cell (p := ⟨b2, off2 + k * 5 + 3, none⟩) (by show b2 < _; omega)).trans k3
      have f4 := (hwr.cell (p := ⟨b2, off2 + k * 5 + 4, none⟩) (by show b2 < _; omega)).trans k4
      have hz := hwr.size
      have HC : Hid (∀ W', Below wr.heap.size wr W' → Calls Tryz.prog 29 #[.agg #[.int .i64 x0, .int .i64 x1, .string x2, .slice xa xl xc, .slice ya yl yc]] W' fun e w' => ∃ s, e = .returned (.string s) ∧ s.size = lenN m n.kids[k] ∧ Below wr.heap.size wr w' ∧ (w'.cell? ⟨w.heap.size, 3, none⟩ = some (.slice (some ⟨b, off, none⟩) n.names.length nc) ∧ w'.cell? ⟨w.heap.size, 4, none⟩ = some (.slice (some ⟨b2, off2, none⟩) n.kids.length kc) ∧ w'.cell? ⟨b, off + k, none⟩ = some (.string n.names[k]) ∧ w'.cell? ⟨b2, off2 + k * 5, none⟩ = some (.int .i64 x0) ∧ w'.cell? ⟨b2, off2 + k * 5 + 1, none⟩ = some (.int .i64 x1) ∧ w'.cell? ⟨b2, off2 + k * 5 + 2, none⟩ = some (.string x2) ∧ w'.cell? ⟨b2, off2 + k * 5 + 3, none⟩ = some (.slice xa xl xc) ∧ w'.cell? ⟨b2, off2 + k * 5 + 4, none⟩ = some (.slice ya yl yc))) := by
        intro W' hW'
        have hsum := sumL_mono (fun x => lenN m x + 1) n.kids _ (List.getElem_mem hlt)
        have hL := HL.out
        have hbW : Below (w.heap.size + 1) (w.alloc (.cells #[.int .i64 24, .int .i64 n.num, .string n.text, .slice (some ⟨b, off, none⟩) n.names.length nc, .slice (some ⟨b2, off2, none⟩) n.kids.length kc] 30)) W' := hwr.trans (hW'.mono (by simp at hz; omega))
        refine (hn S n.kids[k] _ _ _ _ _ d W' (hin.keep (same_below hbW (fun b hb => by have := hB b hb; omega)) (fun _ h => h)) (fun b hb => by have := hB b hb; have := hbW.size; simp at this; omega) (HG.out k hlt) (by omega)).mono ?_
        rintro e w' ⟨hb, s', rfl, hs'⟩
        have hbb3 : Below wr.heap.size wr w' := hW'.trans (hb.mono hW'.size)
        simp at hz
        exact ⟨s', rfl, hs', hbb3, (hbb3.cell (p := ⟨w.heap.size, 3, none⟩) (by show w.heap.size < _; omega)).trans z3, (hbb3.cell (p := ⟨w.heap.size, 4, none⟩) (by show w.heap.size < _; omega)).trans z4, (hbb3.cell (p := ⟨b, off + k, none⟩) (by show b < _; omega)).trans e0, (hbb3.cell (p := ⟨b2, off2 + k * 5, none⟩) (by show b2 < _; omega)).trans f0, (hbb3.cell (p := ⟨b2, off2 + k * 5 + 1, none⟩) (by show b2 < _; omega)).trans f1, (hbb3.cell (p := ⟨b2, off2 + k * 5 + 2, none⟩) (by show b2 < _; omega)).trans f2, (hbb3.cell (p := ⟨b2, off2 + k * 5 + 3, none⟩) (by show b2 < _; omega)).trans f3, (hbb3.cell (p := ⟨b2, off2 + k * 5 + 4, none⟩) (by show b2 < _; omega)).trans f4⟩
      have HN : Hid (szN (n.names.take (k + 1)) = szN (n.names.take k) + (n.names[k].size + 1) ∧ sumL (fun x => lenN m x + 1) (n.kids.take (k + 1)) = sumL (fun x => lenN m x + 1) (n.kids.take k) + (lenN m n.kids[k] + 1)) := ⟨szN_take_succ _ _ hlt', sumL_take_succ _ _ _ hlt⟩
      have hbd : s.size + n.names[k].size + lenN m n.kids[k] + 2 ≤ 900000 := by
        have h1 := szN_take_le n.names (k + 1)
        have h2 := sumL_take_le (fun x => lenN m x + 1) n.kids (k + 1)
        have h3 := HL.out
        rw [HN.out.1] at h1
        rw [HN.out.2] at h2
        rw [HS.out]; omega
      have hD : Below wr.heap.size wr wr.drew := (Below.refl _ _).drew
      have hki : (k : Int) < (n.kids.length : Int) := by omega
      have hki2 : (k : Int) < (n.names.length : Int) := by omega
      have HWr := hidF hwr
      have HHz := hidF hz
      clear hc3 hc4 hcell hcell2 hin k0 k1 k2 k3 k4 hbox hs3 z0 z1 z2 hwr hz
      generalize n.names[k] = nm at *
      generalize lenN m n.kids[k] = lk at *
      go_wp2_with fail
      go_region_held (fun w' => w'.cell? ⟨w.heap.size, 3, none⟩ = some (.slice (some ⟨b, off, none⟩) n.names.length nc) ∧ w'.cell? ⟨w.heap.size, 4, none⟩ = some (.slice (some ⟨b2, off2, none⟩) n.kids.length kc) ∧ w'.cell? ⟨b, off + k, none⟩ = some (.string nm) ∧ w'.cell? ⟨b2, off2 + k * 5, none⟩ = some (.int .i64 x0) ∧ w'.cell? ⟨b2, off2 + k * 5 + 1, none⟩ = some (.int .i64 x1) ∧ w'.cell? ⟨b2, off2 + k * 5 + 2, none⟩ = some (.string x2) ∧ w'.cell? ⟨b2, off2 + k * 5 + 3, none⟩ = some (.slice xa xl xc) ∧ w'.cell? ⟨b2, off2 + k * 5 + 4, none⟩ = some (.slice ya yl yc)) (first | with_reducible assumption | go_keep) (first | (go_at_call 29; refine (HC.out _ hD).mono ?_; rintro e w2 ⟨s2, rfl, hs2, hb2, hSS⟩))
      all_goals
        have HB2 : Hid (Below (w.heap.size + 1) _ w2) := HWr.out.trans (hb2.mono (by have := HHz.out; simp at this; omega))
        have HS2 : Hid ((((s ++ ⟨#[32]⟩) ++ nm) ++ ⟨#[32]⟩ ++ s2).size = 4 + szN (n.names.take (k + 1)) + sumL (fun x => lenN m x + 1) (n.kids.take (k + 1))) := by
          show _ = _
          rw [HN.out.1, HN.out.2, app_size, app_size, app_size, app_size, HS.out, hs2]
          show _ + 1 + _ + 1 + _ = _
          omega
        clear hb2 hSS hs2 HC f0 f1 f2 f3 f4 e0 z3 z4
        go_wp2_with fail
        go_roundw
        case rel => exact ⟨k + 1, _, by omega, by go_num, rfl, HS2, HB2.out⟩
        case measure => simp [intOf]; omega
    · have hkl : k = n.kids.length := by omega
      have HE : Hid ((s ++ ⟨#[32, 101, 110, 100]⟩).size = 8 + szN n.names + sumL (fun x => lenN m x + 1) n.kids) := by
        show _ = _
        have h1 := HS.out
        rw [hkl, List.take_length, List.take_of_length_le (by omega)] at h1
        rw [app_size, h1]
        show _ + 4 = _
        omega
      have HB := hidF (HBW.out.trans (hwr.mono (by omega)))
      have hsz : s.size ≤ 900000 := by
        have h1 := HE.out
        rw [app_size] at h1
        have := HL.out
        omega
      clear hc3 hc4 hkl hwr hbox z0 z1 z2 z3
      go_wp2_with fail
      go_ret
      exact ⟨HB.out, _, rfl, HE.out⟩

set_option maxRecDepth 20000 in
set_option maxHeartbeats 1000000 in
theorem textS_leaf (m : Nat) (n : Nd (T m)) (na ka : Option Addr) (nc kc k : Nat) (hk : n.sort = (k : Int)) (h1 : 1 ≤ k) (h3 : k ≤ 3) (w : World) (hw0 : (Lit.int .i64 n.sort).wf = true) (hw1 : (Lit.int .i64 n.num).wf = true) (hx : n.text.size ≤ maxLen) (hal : aloneF n.sort n.num n.text [] 0 = true) :
    Calls Tryz.prog 29 #[.agg #[.int .i64 (k : Int), .int .i64 n.num, .string n.text, .slice na n.names.length nc, .slice ka n.kids.length kc]] w fun e w' => Below w.heap.size w w' ∧ ∃ s, e = .returned (.string s) ∧ s.size = (leafL n.sort n.num n.text).length := by
  have hb0 := (Below.refl w.heap.size w).alloc (Nat.le_refl _) (.cells #[.int .i64 (k : Int), .int .i64 n.num, .string n.text, .slice na n.names.length nc, .slice ka n.kids.length kc] 30)
  have HC : Hid (∀ w, Calls Tryz.prog 36 #[.agg #[.int .i64 (k : Int), .int .i64 n.num, .string n.text, .slice none 0 0, .slice none 0 0]] w fun e w' => e = .returned (.string (bs (leafL n.sort n.num n.text))) ∧ Below w.heap.size w w') := by
    intro w
    have hg : goodT 1 (leafT n.sort n.num n.text) 1 = true := by
      show (decide ((1 : Int) ≤ 6) && aloneF n.sort n.num n.text [] 0 && List.all ([] : List (T 0)) _) = _
      rw [hal]; rfl
    have := l1Text_any 1 (fun _ => False) (leafT n.sort n.num n.text) _ _ _ _ _ 1 w (leafT_of _ w n.sort n.num n.text hw0 hw1 hx) (fun _ h => h.elim) hg (by show (1 : Nat) ≤ 120; omega)
    rw [hk] at this ⊢
    exact this
  have HS : Hid ((bs (leafL n.sort n.num n.text)).size = (leafL n.sort n.num n.text).length) := bs_size _
  generalize bs (leafL n.sort n.num n.text) = s at *
  have h123 : k = 1 ∨ k = 2 ∨ k = 3 := by omega
  clear hk h1 h3 hal hw0 hw1 hx
  rcases h123 with rfl | rfl | rfl
  all_goals
    go_enter Tryz.func29, Tryz.ntmps29
    go_wp2_with fail
    refine (HC.out _).mono ?_
    rintro e w1 ⟨rfl, hb1⟩
    have HB := hidF (below_step hb0 (by simp) hb1)
    clear hb1 HC
    go_wp2_with fail
    go_ret
    exact ⟨HB.out, _, rfl, HS.out⟩

set_option maxRecDepth 20000 in
set_option maxHeartbeats 1000000 in
theorem textS_name (S : Nat → Prop) (m : Nat) (n : Nd (T m)) (na ka : Option Addr) (nc kc : Nat) (w : World) (hB : ∀ b, S b → b < w.heap.size) (h3 : StrsIn S w n.names (.slice na n.names.length nc)) (hne : n.names ≠ []) :
    Calls Tryz.prog 29 #[.agg #[.int .i64 4, .int .i64 n.num, .string n.text, .slice na n.names.length nc, .slice ka n.kids.length kc]] w fun e w' => Below w.heap.size w w' ∧ ∃ s, e = .returned (.string s) ∧ s.size = (n.names.headD ByteArray.empty).size := by
  have hb0 := (Below.refl w.heap.size w).alloc (Nat.le_refl _) (.cells #[.int .i64 4, .int .i64 n.num, .string n.text, .slice na n.names.length nc, .slice ka n.kids.length kc] 30)
  obtain ⟨_, _, hv, hl, -, hc⟩ := h3.keep (same_below hb0 hB) (fun _ h => h)
  cases hv
  obtain ⟨b, off, rfl, hSb, hcell⟩ := hc hne
  have h0 : 0 < n.names.length := List.length_pos_iff.2 hne
  have e0 := hcell 0 h0
  rw [Nat.add_zero] at e0
  have HS : Hid (n.names[0].size = (n.names.headD ByteArray.empty).size) := by
    show _ = _
    rw [List.headD_eq_head?_getD, List.head?_eq_getElem?, List.getElem?_eq_getElem h0]; rfl
  have hi : (0 : Int) < (n.names.length : Int) := by omega
  generalize n.names[0] = s at *
  clear hc hcell h3 hne
  go_enter Tryz.func29, Tryz.ntmps29
  go_wp2_with fail
  go_ret
  exact ⟨hb0, _, rfl, HS.out⟩

end Go.Proofs.YtlinplghgamgbaaGreatDoor

/-
  The program: how many events a node may make.
-/
namespace Go.Proofs.YtlinplghgamgbaaGreatDoor
open Go.RowKit

/-- fanOf at nodes of at most m levels. -/
def FanSaid (m : Nat) : Prop := ∀ (S : Nat → Prop) (t : T m) (c0 c1 c2 c3 c4 : Value) (d : Int) (w : World), NodeIn S w m t c0 c1 c2 c3 c4 → (∀ b, S b → b < w.heap.size) → goodN m t d = true →
  Calls Tryz.prog 27 #[.agg #[c0, c1, c2, c3, c4]] w fun e w' => e = .returned (.int .i64 (fanT m t)) ∧ Below w.heap.size w w'

set_option maxRecDepth 20000 in
set_option maxHeartbeats 4000000 in
theorem fanOf_step (m : Nat) (hn : FanSaid m) : FanSaid (m + 1) := by
  intro S t c0 c1 c2 c3 c4 d w ht hB hg
  obtain ⟨rfl, rfl, rfl, hs, hw0, hw1, h3, h4, ⟨na, nl, nc, rfl, hc3⟩, ⟨ka, kl, kc, rfl, hc4⟩⟩ := ht
  obtain ⟨_, _, hv, -⟩ := id h3
  cases hv
  obtain ⟨_, _, hv, hlen, -⟩ := id h4
  cases hv
  have HGK : Hid (∀ k (h : k < (Nd.kids t).length), goodN m (Nd.kids t)[k] (d + 1) = true) := fun k h => by
    simp only [goodN, Bool.and_eq_true, List.all_eq_true] at hg
    exact hg.2 _ (List.getElem_mem h)
  have HKl : Hid (∀ k : Nat, Nd.sort t = (k : Int) → k ≠ 24 → k < 44 → (Nd.kids t).length = (kdV k).length) := fun k hk h24 h44 => by
    simp only [goodN, Bool.and_eq_true] at hg
    have hj : justB (poT m) (show Nd (T m) from t) = true := hg.1.2
    have hr : 1 ≤ Nd.sort t ∧ Nd.sort t ≤ 43 := by
      have h := hj
      unfold justB at h; simp only [Bool.and_eq_true, decide_eq_true_eq] at h; exact h.1
    rw [just_op (poT m) (show Nd (T m) from t) hr.1 hr.2 (by show Nd.sort t ≠ 24; omega)] at hj
    simp only [Bool.and_eq_true, decide_eq_true_eq] at hj
    have hl := congrArg List.length hj.2
    have hkn : (Nd.sort t).toNat = k := by omega
    rw [← hkn]
    simpa using hl
  clear hg hlen
  have hb0 := (Below.refl w.heap.size w).alloc (Nat.le_refl _) (.cells #[.int .i64 (Nd.sort t), .int .i64 (Nd.num t), .string (Nd.text t), .slice na (Nd.names t).length nc, .slice ka (Nd.kids t).length kc] 30)
  have hK := h4.keepN (same_below hb0 hB) (fun _ h => h)
  obtain ⟨W, hW⟩ : ∃ W, W = w.alloc (.cells #[.int .i64 (Nd.sort t), .int .i64 (Nd.num t), .string (Nd.text t), .slice na (Nd.names t).length nc, .slice ka (Nd.kids t).length kc] 30) := ⟨_, rfl⟩
  have hbox := heap_alloc_last w (.cells #[.int .i64 (Nd.sort t), .int .i64 (Nd.num t), .string (Nd.text t), .slice na (Nd.names t).length nc, .slice ka (Nd.kids t).length kc] 30)
  have hzW : w.heap.size < W.heap.size := by rw [hW]; simp
  obtain ⟨z0, z1, z2, z3, z4⟩ := five_of hbox
  rw [← hW] at hb0 hK z0 z4
  have hBW : ∀ b, S b → b < W.heap.size := fun b hb => by have := hB b hb; omega
  have HB0 := hidF hb0
  have hD : Below W.heap.size W W.drew := (Below.refl _ _).drew
  have HZ0 := hidF z0
  clear h3 h4 hb0 hbox z1 z2 z3 hc3 hc4 hs hw1
  obtain ⟨_, _, hkv, -, hkids⟩ := hK
  cases hkv
  by_cases hop : Nd.sort t = 38
  · have HF : Hid (fanT (m + 1) t = 1) := by
      show _ = _; simp only [fanT]; rw [if_pos (by omega)]
    rw [hop] at hW z0 ⊢
    have HBL := hidF (Below.refl W.heap.size W)
    clear hkids
    go_enter Tryz.func27, Tryz.ntmps27
    go_wp2_with fail
    rw [← hW]
    go_ret
    exact ⟨ret_int HF.out.symm, HB0.out.trans (HBL.out.mono HB0.out.size)⟩
  by_cases hop : Nd.sort t = 39
  · have HF : Hid (fanT (m + 1) t = 1) := by
      show _ = _; simp only [fanT]; rw [if_pos (by omega)]
    rw [hop] at hW z0 ⊢
    have HBL := hidF (Below.refl W.heap.size W)
    clear hkids
    go_enter Tryz.func27, Tryz.ntmps27
    go_wp2_with fail
    rw [← hW]
    go_ret
    exact ⟨ret_int HF.out.symm, HB0.out.trans (HBL.out.mono HB0.out.size)⟩
  by_cases hop : Nd.sort t = 40
  · have HF : Hid (fanT (m + 1) t = min ((((Nd.kids t)[0]?).map (fanT m)).getD 0 + (((Nd.kids t)[1]?).map (fanT m)).getD 0) 401) := by
      show _ = _; simp only [fanT]; rw [if_neg (by omega), if_pos (by omega)]
    have hkl : (Nd.kids t).length = 2 := HKl.out 40 hop (by decide) (by decide)
    obtain ⟨b, off, rfl, hbB, hcell⟩ := hkids (by intro h; rw [h] at hkl; simp at hkl)
    have hbb := hB b hbB
    have hi0 : 0 < (Nd.kids t).length := by omega
    obtain ⟨x0, x1, x2, x3, x4, e00, e01, e02, e03, e04, hr0⟩ := hcell 0 hi0
    obtain ⟨y00, y01, y02, ya0, yl0, yc0, za0, zl0, zc0, rfl, rfl, rfl, rfl, rfl⟩ := hr0.shape
    have hi1 : 1 < (Nd.kids t).length := by omega
    obtain ⟨x0, x1, x2, x3, x4, e10, e11, e12, e13, e14, hr1⟩ := hcell 1 hi1
    obtain ⟨y10, y11, y12, ya1, yl1, yc1, za1, zl1, zc1, rfl, rfl, rfl, rfl, rfl⟩ := hr1.shape
    have HP : Hid (∀ w', Below W.heap.size W w' → (w'.cell? ⟨w.heap.size, 0, none⟩ = some (.int .i64 (Nd.sort t)) ∧ w'.cell? ⟨w.heap.size, 4, none⟩ = some (.slice (some ⟨b, off, none⟩) (Nd.kids t).length kc) ∧ w'.cell? ⟨b, off, none⟩ = some (.int .i64 y00) ∧ w'.cell? ⟨b, off + 1, none⟩ = some (.int .i64 y01) ∧ w'.cell? ⟨b, off + 2, none⟩ = some (.string y02) ∧ w'.cell? ⟨b, off + 3, none⟩ = some (.slice ya0 yl0 yc0) ∧ w'.cell? ⟨b, off + 4, none⟩ = some (.slice za0 zl0 zc0) ∧ w'.cell? ⟨b, off + 5, none⟩ = some (.int .i64 y10) ∧ w'.cell? ⟨b, off + 5 + 1, none⟩ = some (.int .i64 y11) ∧ w'.cell? ⟨b, off + 5 + 2, none⟩ = some (.string y12) ∧ w'.cell? ⟨b, off + 5 + 3, none⟩ = some (.slice ya1 yl1 yc1) ∧ w'.cell? ⟨b, off + 5 + 4, none⟩ = some (.slice za1 zl1 zc1))) := by
      intro w' hb
      exact ⟨(hb.cell (p := ⟨w.heap.size, 0, none⟩) hzW).trans z0, (hb.cell (p := ⟨w.heap.size, 4, none⟩) hzW).trans z4, (hb.cell (p := ⟨b, off, none⟩) (by show b < _; omega)).trans (by simpa using e00), (hb.cell (p := ⟨b, off + 1, none⟩) (by show b < _; omega)).trans (by simpa using e01), (hb.cell (p := ⟨b, off + 2, none⟩) (by show b < _; omega)).trans (by simpa using e02), (hb.cell (p := ⟨b, off + 3, none⟩) (by show b < _; omega)).trans (by simpa using e03), (hb.cell (p := ⟨b, off + 4, none⟩) (by show b < _; omega)).trans (by simpa using e04), (hb.cell (p := ⟨b, off + 5, none⟩) (by show b < _; omega)).trans (by simpa using e10), (hb.cell (p := ⟨b, off + 5 + 1, none⟩) (by show b < _; omega)).trans (by simpa using e11), (hb.cell (p := ⟨b, off + 5 + 2, none⟩) (by show b < _; omega)).trans (by simpa using e12), (hb.cell (p := ⟨b, off + 5 + 3, none⟩) (by show b < _; omega)).trans (by simpa using e13), (hb.cell (p := ⟨b, off + 5 + 4, none⟩) (by show b < _; omega)).trans (by simpa using e14)⟩
    have HC0 : Hid (∀ W', Below W.heap.size W W' → Calls Tryz.prog 27 #[.agg #[.int .i64 y00, .int .i64 y01, .string y02, .slice ya0 yl0 yc0, .slice za0 zl0 zc0]] W' fun e w' => e = .returned (.int .i64 (fanT m (Nd.kids t)[0])) ∧ Below W.heap.size W w' ∧ (w'.cell? ⟨w.heap.size, 0, none⟩ = some (.int .i64 (Nd.sort t)) ∧ w'.cell? ⟨w.heap.size, 4, none⟩ = some (.slice (some ⟨b, off, none⟩) (Nd.kids t).length kc) ∧ w'.cell? ⟨b, off, none⟩ = some (.int .i64 y00) ∧ w'.cell? ⟨b, off + 1, none⟩ = some (.int .i64 y01) ∧ w'.cell? ⟨b, off + 2, none⟩ = some (.string y02) ∧ w'.cell? ⟨b, off + 3, none⟩ = some (.slice ya0 yl0 yc0) ∧ w'.cell? ⟨b, off + 4, none⟩ = some (.slice za0 zl0 zc0) ∧ w'.cell? ⟨b, off + 5, none⟩ = some (.int .i64 y10) ∧ w'.cell? ⟨b, off + 5 + 1, none⟩ = some (.int .i64 y11) ∧ w'.cell? ⟨b, off + 5 + 2, none⟩ = some (.string y12) ∧ w'.cell? ⟨b, off + 5 + 3, none⟩ = some (.slice ya1 yl1 yc1) ∧ w'.cell? ⟨b, off + 5 + 4, none⟩ = some (.slice za1 zl1 zc1))) := by
      intro W' hW'
      refine (hn S (Nd.kids t)[0] _ _ _ _ _ (d + 1) W' (hr0.keep (same_below hW' hBW) (fun _ h => h)) (fun b hb => Nat.lt_of_lt_of_le (hBW b hb) hW'.size) (HGK.out 0 hi0)).mono ?_
      rintro e w' ⟨rfl, hb⟩
      have hb3 := hW'.trans (hb.mono hW'.size)
      exact ⟨rfl, hb3, HP.out w' hb3⟩
    have hf0 := fanT_le m (Nd.kids t)[0]
    have hg0 : (((Nd.kids t)[0]?).map (fanT m)).getD 0 = fanT m (Nd.kids t)[0] := by simp [hi0]
    have HC1 : Hid (∀ W', Below W.heap.size W W' → Calls Tryz.prog 27 #[.agg #[.int .i64 y10, .int .i64 y11, .string y12, .slice ya1 yl1 yc1, .slice za1 zl1 zc1]] W' fun e w' => e = .returned (.int .i64 (fanT m (Nd.kids t)[1])) ∧ Below W.heap.size W w' ∧ (w'.cell? ⟨w.heap.size, 0, none⟩ = some (.int .i64 (Nd.sort t)) ∧ w'.cell? ⟨w.heap.size, 4, none⟩ = some (.slice (some ⟨b, off, none⟩) (Nd.kids t).length kc) ∧ w'.cell? ⟨b, off, none⟩ = some (.int .i64 y00) ∧ w'.cell? ⟨b, off + 1, none⟩ = some (.int .i64 y01) ∧ w'.cell? ⟨b, off + 2, none⟩ = some (.string y02) ∧ w'.cell? ⟨b, off + 3, none⟩ = some (.slice ya0 yl0 yc0) ∧ w'.cell? ⟨b, off + 4, none⟩ = some (.slice za0 zl0 zc0) ∧ w'.cell? ⟨b, off + 5, none⟩ = some (.int .i64 y10) ∧ w'.cell? ⟨b, off + 5 + 1, none⟩ = some (.int .i64 y11) ∧ w'.cell? ⟨b, off + 5 + 2, none⟩ = some (.string y12) ∧ w'.cell? ⟨b, off + 5 + 3, none⟩ = some (.slice ya1 yl1 yc1) ∧ w'.cell? ⟨b, off + 5 + 4, none⟩ = some (.slice za1 zl1 zc1))) := by
      intro W' hW'
      refine (hn S (Nd.kids t)[1] _ _ _ _ _ (d + 1) W' (hr1.keep (same_below hW' hBW) (fun _ h => h)) (fun b hb => Nat.lt_of_lt_of_le (hBW b hb) hW'.size) (HGK.out 1 hi1)).mono ?_
      rintro e w' ⟨rfl, hb⟩
      have hb3 := hW'.trans (hb.mono hW'.size)
      exact ⟨rfl, hb3, HP.out w' hb3⟩
    have hf1 := fanT_le m (Nd.kids t)[1]
    have hg1 : (((Nd.kids t)[1]?).map (fanT m)).getD 0 = fanT m (Nd.kids t)[1] := by simp [hi1]
    rw [hg0, hg1] at HF
    clear hkids hcell e00 e01 e02 e03 e04 hr0 hg0 e10 e11 e12 e13 e14 hr1 hg1
    obtain ⟨v0, hv0⟩ : ∃ v, v = fanT m (Nd.kids t)[0] := ⟨_, rfl⟩
    rw [← hv0] at HC0 HF hf0
    clear hv0
    obtain ⟨v1, hv1⟩ : ∃ v, v = fanT m (Nd.kids t)[1] := ⟨_, rfl⟩
    rw [← hv1] at HC1 HF hf1
    clear hv1
    have HRf := hidF (Below.refl W.heap.size W)
    have HPW := hidF (HP.out W (Below.refl _ _))
    rw [hop] at hW z0 HP HPW HC0 HC1 ⊢
    clear HKl HGK hn hB hBW hbB hbb HP hkl hop HZ0
    obtain ⟨q0, q1, q2, q3, q4, q5, q6, q7, q8, q9, q10, q11⟩ := HPW.out
    go_enter Tryz.func27, Tryz.ntmps27
    go_wp2_with fail
    rw [← hW]
    clear hW
    go_region_held (fun w' => w'.cell? ⟨w.heap.size, 0, none⟩ = some (.int .i64 40) ∧ w'.cell? ⟨w.heap.size, 4, none⟩ = some (.slice (some ⟨b, off, none⟩) (Nd.kids t).length kc) ∧ w'.cell? ⟨b, off, none⟩ = some (.int .i64 y00) ∧ w'.cell? ⟨b, off + 1, none⟩ = some (.int .i64 y01) ∧ w'.cell? ⟨b, off + 2, none⟩ = some (.string y02) ∧ w'.cell? ⟨b, off + 3, none⟩ = some (.slice ya0 yl0 yc0) ∧ w'.cell? ⟨b, off + 4, none⟩ = some (.slice za0 zl0 zc0) ∧ w'.cell? ⟨b, off + 5, none⟩ = some (.int .i64 y10) ∧ w'.cell? ⟨b, off + 5 + 1, none⟩ = some (.int .i64 y11) ∧ w'.cell? ⟨b, off + 5 + 2, none⟩ = some (.string y12) ∧ w'.cell? ⟨b, off + 5 + 3, none⟩ = some (.slice ya1 yl1 yc1) ∧ w'.cell? ⟨b, off + 5 + 4, none⟩ = some (.slice za1 zl1 zc1)) (first | with_reducible assumption | go_keep) (first | (go_at_call 27; with_reducible refine (HC0.out _ (by first | with_reducible assumption)).mono ?_; rintro e w4 ⟨rfl, hb4, hS4⟩) | (go_at_call 27; with_reducible refine (HC1.out _ (by first | with_reducible assumption)).mono ?_; rintro e w5 ⟨rfl, hb5, hS5⟩))
    all_goals
      have HBL : Hid (Below w.heap.size w _) := HB0.out.trans (Below.mono (by first | exact hb5 | exact hb4) HB0.out.size)
      clear hb4 hb5 hS4 hS5 HC0 HC1 hD z0 z4 q0 q1 q2 q3 q4 q5 q6 q7 q8 q9 q10 q11
      go_wp2_with fail
      go_ret
      exact ⟨ret_int (by rw [HF.out]), HBL.out⟩
  by_cases hop : Nd.sort t = 41
  · have HF : Hid (fanT (m + 1) t = max ((((Nd.kids t)[1]?).map (fanT m)).getD 0) ((((Nd.kids t)[2]?).map (fanT m)).getD 0)) := by
      show _ = _; simp only [fanT]; rw [if_neg (by omega), if_neg (by omega), if_pos (by omega)]
    have hkl : (Nd.kids t).length = 3 := HKl.out 41 hop (by decide) (by decide)
    obtain ⟨b, off, rfl, hbB, hcell⟩ := hkids (by intro h; rw [h] at hkl; simp at hkl)
    have hbb := hB b hbB
    have hi1 : 1 < (Nd.kids t).length := by omega
    obtain ⟨x0, x1, x2, x3, x4, e10, e11, e12, e13, e14, hr1⟩ := hcell 1 hi1
    obtain ⟨y10, y11, y12, ya1, yl1, yc1, za1, zl1, zc1, rfl, rfl, rfl, rfl, rfl⟩ := hr1.shape
    have hi2 : 2 < (Nd.kids t).length := by omega
    obtain ⟨x0, x1, x2, x3, x4, e20, e21, e22, e23, e24, hr2⟩ := hcell 2 hi2
    obtain ⟨y20, y21, y22, ya2, yl2, yc2, za2, zl2, zc2, rfl, rfl, rfl, rfl, rfl⟩ := hr2.shape
    have HP : Hid (∀ w', Below W.heap.size W w' → (w'.cell? ⟨w.heap.size, 0, none⟩ = some (.int .i64 (Nd.sort t)) ∧ w'.cell? ⟨w.heap.size, 4, none⟩ = some (.slice (some ⟨b, off, none⟩) (Nd.kids t).length kc) ∧ w'.cell? ⟨b, off + 5, none⟩ = some (.int .i64 y10) ∧ w'.cell? ⟨b, off + 5 + 1, none⟩ = some (.int .i64 y11) ∧ w'.cell? ⟨b, off + 5 + 2, none⟩ = some (.string y12) ∧ w'.cell? ⟨b, off + 5 + 3, none⟩ = some (.slice ya1 yl1 yc1) ∧ w'.cell? ⟨b, off + 5 + 4, none⟩ = some (.slice za1 zl1 zc1) ∧ w'.cell? ⟨b, off + 10, none⟩ = some (.int .i64 y20) ∧ w'.cell? ⟨b, off + 10 + 1, none⟩ = some (.int .i64 y21) ∧ w'.cell? ⟨b, off + 10 + 2, none⟩ = some (.string y22) ∧ w'.cell? ⟨b, off + 10 + 3, none⟩ = some (.slice ya2 yl2 yc2) ∧ w'.cell? ⟨b, off + 10 + 4, none⟩ = some (.slice za2 zl2 zc2))) := by
      intro w' hb
      exact ⟨(hb.cell (p := ⟨w.heap.size, 0, none⟩) hzW).trans z0, (hb.cell (p := ⟨w.heap.size, 4, none⟩) hzW).trans z4, (hb.cell (p := ⟨b, off + 5, none⟩) (by show b < _; omega)).trans (by simpa using e10), (hb.cell (p := ⟨b, off + 5 + 1, none⟩) (by show b < _; omega)).trans (by simpa using e11), (hb.cell (p := ⟨b, off + 5 + 2, none⟩) (by show b < _; omega)).trans (by simpa using e12), (hb.cell (p := ⟨b, off + 5 + 3, none⟩) (by show b < _; omega)).trans (by simpa using e13), (hb.cell (p := ⟨b, off + 5 + 4, none⟩) (by show b < _; omega)).trans (by simpa using e14), (hb.cell (p := ⟨b, off + 10, none⟩) (by show b < _; omega)).trans (by simpa using e20), (hb.cell (p := ⟨b, off + 10 + 1, none⟩) (by show b < _; omega)).trans (by simpa using e21), (hb.cell (p := ⟨b, off + 10 + 2, none⟩) (by show b < _; omega)).trans (by simpa using e22), (hb.cell (p := ⟨b, off + 10 + 3, none⟩) (by show b < _; omega)).trans (by simpa using e23), (hb.cell (p := ⟨b, off + 10 + 4, none⟩) (by show b < _; omega)).trans (by simpa using e24)⟩
    have HC1 : Hid (∀ W', Below W.heap.size W W' → Calls Tryz.prog 27 #[.agg #[.int .i64 y10, .int .i64 y11, .string y12, .slice ya1 yl1 yc1, .slice za1 zl1 zc1]] W' fun e w' => e = .returned (.int .i64 (fanT m (Nd.kids t)[1])) ∧ Below W.heap.size W w' ∧ (w'.cell? ⟨w.heap.size, 0, none⟩ = some (.int .i64 (Nd.sort t)) ∧ w'.cell? ⟨w.heap.size, 4, none⟩ = some (.slice (some ⟨b, off, none⟩) (Nd.kids t).length kc) ∧ w'.cell? ⟨b, off + 5, none⟩ = some (.int .i64 y10) ∧ w'.cell? ⟨b, off + 5 + 1, none⟩ = some (.int .i64 y11) ∧ w'.cell? ⟨b, off + 5 + 2, none⟩ = some (.string y12) ∧ w'.cell? ⟨b, off + 5 + 3, none⟩ = some (.slice ya1 yl1 yc1) ∧ w'.cell? ⟨b, off + 5 + 4, none⟩ = some (.slice za1 zl1 zc1) ∧ w'.cell? ⟨b, off + 10, none⟩ = some (.int .i64 y20) ∧ w'.cell? ⟨b, off + 10 + 1, none⟩ = some (.int .i64 y21) ∧ w'.cell? ⟨b, off + 10 + 2, none⟩ = some (.string y22) ∧ w'.cell? ⟨b, off + 10 + 3, none⟩ = some (.slice ya2 yl2 yc2) ∧ w'.cell? ⟨b, off + 10 + 4, none⟩ = some (.slice za2 zl2 zc2))) := by
      intro W' hW'
      refine (hn S (Nd.kids t)[1] _ _ _ _ _ (d + 1) W' (hr1.keep (same_below hW' hBW) (fun _ h => h)) (fun b hb => Nat.lt_of_lt_of_le (hBW b hb) hW'.size) (HGK.out 1 hi1)).mono ?_
      rintro e w' ⟨rfl, hb⟩
      have hb3 := hW'.trans (hb.mono hW'.size)
      exact ⟨rfl, hb3, HP.out w' hb3⟩
    have hf1 := fanT_le m (Nd.kids t)[1]
    have hg1 : (((Nd.kids t)[1]?).map (fanT m)).getD 0 = fanT m (Nd.kids t)[1] := by simp [hi1]
    have HC2 : Hid (∀ W', Below W.heap.size W W' → Calls Tryz.prog 27 #[.agg #[.int .i64 y20, .int .i64 y21, .string y22, .slice ya2 yl2 yc2, .slice za2 zl2 zc2]] W' fun e w' => e = .returned (.int .i64 (fanT m (Nd.kids t)[2])) ∧ Below W.heap.size W w' ∧ (w'.cell? ⟨w.heap.size, 0, none⟩ = some (.int .i64 (Nd.sort t)) ∧ w'.cell? ⟨w.heap.size, 4, none⟩ = some (.slice (some ⟨b, off, none⟩) (Nd.kids t).length kc) ∧ w'.cell? ⟨b, off + 5, none⟩ = some (.int .i64 y10) ∧ w'.cell? ⟨b, off + 5 + 1, none⟩ = some (.int .i64 y11) ∧ w'.cell? ⟨b, off + 5 + 2, none⟩ = some (.string y12) ∧ w'.cell? ⟨b, off + 5 + 3, none⟩ = some (.slice ya1 yl1 yc1) ∧ w'.cell? ⟨b, off + 5 + 4, none⟩ = some (.slice za1 zl1 zc1) ∧ w'.cell? ⟨b, off + 10, none⟩ = some (.int .i64 y20) ∧ w'.cell? ⟨b, off + 10 + 1, none⟩ = some (.int .i64 y21) ∧ w'.cell? ⟨b, off + 10 + 2, none⟩ = some (.string y22) ∧ w'.cell? ⟨b, off + 10 + 3, none⟩ = some (.slice ya2 yl2 yc2) ∧ w'.cell? ⟨b, off + 10 + 4, none⟩ = some (.slice za2 zl2 zc2))) := by
      intro W' hW'
      refine (hn S (Nd.kids t)[2] _ _ _ _ _ (d + 1) W' (hr2.keep (same_below hW' hBW) (fun _ h => h)) (fun b hb => Nat.lt_of_lt_of_le (hBW b hb) hW'.size) (HGK.out 2 hi2)).mono ?_
      rintro e w' ⟨rfl, hb⟩
      have hb3 := hW'.trans (hb.mono hW'.size)
      exact ⟨rfl, hb3, HP.out w' hb3⟩
    have hf2 := fanT_le m (Nd.kids t)[2]
    have hg2 : (((Nd.kids t)[2]?).map (fanT m)).getD 0 = fanT m (Nd.kids t)[2] := by simp [hi2]
    rw [hg1, hg2] at HF
    clear hkids hcell e10 e11 e12 e13 e14 hr1 hg1 e20 e21 e22 e23 e24 hr2 hg2
    obtain ⟨v1, hv1⟩ : ∃ v, v = fanT m (Nd.kids t)[1] := ⟨_, rfl⟩
    rw [← hv1] at HC1 HF hf1
    clear hv1
    obtain ⟨v2, hv2⟩ : ∃ v, v = fanT m (Nd.kids t)[2] := ⟨_, rfl⟩
    rw [← hv2] at HC2 HF hf2
    clear hv2
    have HRf := hidF (Below.refl W.heap.size W)
    have HPW := hidF (HP.out W (Below.refl _ _))
    rw [hop] at hW z0 HP HPW HC1 HC2 ⊢
    clear HKl HGK hn hB hBW hbB hbb HP hkl hop HZ0
    obtain ⟨q0, q1, q2, q3, q4, q5, q6, q7, q8, q9, q10, q11⟩ := HPW.out
    go_enter Tryz.func27, Tryz.ntmps27
    go_wp2_with fail
    rw [← hW]
    clear hW
    go_region_held (fun w' => w'.cell? ⟨w.heap.size, 0, none⟩ = some (.int .i64 41) ∧ w'.cell? ⟨w.heap.size, 4, none⟩ = some (.slice (some ⟨b, off, none⟩) (Nd.kids t).length kc) ∧ w'.cell? ⟨b, off + 5, none⟩ = some (.int .i64 y10) ∧ w'.cell? ⟨b, off + 5 + 1, none⟩ = some (.int .i64 y11) ∧ w'.cell? ⟨b, off + 5 + 2, none⟩ = some (.string y12) ∧ w'.cell? ⟨b, off + 5 + 3, none⟩ = some (.slice ya1 yl1 yc1) ∧ w'.cell? ⟨b, off + 5 + 4, none⟩ = some (.slice za1 zl1 zc1) ∧ w'.cell? ⟨b, off + 10, none⟩ = some (.int .i64 y20) ∧ w'.cell? ⟨b, off + 10 + 1, none⟩ = some (.int .i64 y21) ∧ w'.cell? ⟨b, off + 10 + 2, none⟩ = some (.string y22) ∧ w'.cell? ⟨b, off + 10 + 3, none⟩ = some (.slice ya2 yl2 yc2) ∧ w'.cell? ⟨b, off + 10 + 4, none⟩ = some (.slice za2 zl2 zc2)) (first | with_reducible assumption | go_keep) (first | (go_at_call 27; with_reducible refine (HC1.out _ (by first | with_reducible assumption)).mono ?_; rintro e w5 ⟨rfl, hb5, hS5⟩) | (go_at_call 27; with_reducible refine (HC2.out _ (by first | with_reducible assumption)).mono ?_; rintro e w6 ⟨rfl, hb6, hS6⟩))
    all_goals
      have HBL : Hid (Below w.heap.size w _) := HB0.out.trans (Below.mono (by first | exact hb6 | exact hb5) HB0.out.size)
      clear hb5 hb6 hS5 hS6 HC1 HC2 hD z0 z4 q0 q1 q2 q3 q4 q5 q6 q7 q8 q9 q10 q11
      go_wp2_with fail
      go_ret
      exact ⟨ret_int (by rw [HF.out]; omega), HBL.out⟩
  by_cases hop : Nd.sort t = 42
  · have HF : Hid (fanT (m + 1) t = (((Nd.kids t)[1]?).map (fanT m)).getD 0) := by
      show _ = _; simp only [fanT]; rw [if_neg (by omega), if_neg (by omega), if_neg (by omega), if_pos (by omega)]
    have hkl : (Nd.kids t).length = 2 := HKl.out 42 hop (by decide) (by decide)
    obtain ⟨b, off, rfl, hbB, hcell⟩ := hkids (by intro h; rw [h] at hkl; simp at hkl)
    have hbb := hB b hbB
    have hi1 : 1 < (Nd.kids t).length := by omega
    obtain ⟨x0, x1, x2, x3, x4, e10, e11, e12, e13, e14, hr1⟩ := hcell 1 hi1
    obtain ⟨y10, y11, y12, ya1, yl1, yc1, za1, zl1, zc1, rfl, rfl, rfl, rfl, rfl⟩ := hr1.shape
    have HP : Hid (∀ w', Below W.heap.size W w' → (w'.cell? ⟨w.heap.size, 0, none⟩ = some (.int .i64 (Nd.sort t)) ∧ w'.cell? ⟨w.heap.size, 4, none⟩ = some (.slice (some ⟨b, off, none⟩) (Nd.kids t).length kc) ∧ w'.cell? ⟨b, off + 5, none⟩ = some (.int .i64 y10) ∧ w'.cell? ⟨b, off + 5 + 1, none⟩ = some (.int .i64 y11) ∧ w'.cell? ⟨b, off + 5 + 2, none⟩ = some (.string y12) ∧ w'.cell? ⟨b, off + 5 + 3, none⟩ = some (.slice ya1 yl1 yc1) ∧ w'.cell? ⟨b, off + 5 + 4, none⟩ = some (.slice za1 zl1 zc1))) := by
      intro w' hb
      exact ⟨(hb.cell (p := ⟨w.heap.size, 0, none⟩) hzW).trans z0, (hb.cell (p := ⟨w.heap.size, 4, none⟩) hzW).trans z4, (hb.cell (p := ⟨b, off + 5, none⟩) (by show b < _; omega)).trans (by simpa using e10), (hb.cell (p := ⟨b, off + 5 + 1, none⟩) (by show b < _; omega)).trans (by simpa using e11), (hb.cell (p := ⟨b, off + 5 + 2, none⟩) (by show b < _; omega)).trans (by simpa using e12), (hb.cell (p := ⟨b, off + 5 + 3, none⟩) (by show b < _; omega)).trans (by simpa using e13), (hb.cell (p := ⟨b, off + 5 + 4, none⟩) (by show b < _; omega)).trans (by simpa using e14)⟩
    have HC1 : Hid (∀ W', Below W.heap.size W W' → Calls Tryz.prog 27 #[.agg #[.int .i64 y10, .int .i64 y11, .string y12, .slice ya1 yl1 yc1, .slice za1 zl1 zc1]] W' fun e w' => e = .returned (.int .i64 (fanT m (Nd.kids t)[1])) ∧ Below W.heap.size W w' ∧ (w'.cell? ⟨w.heap.size, 0, none⟩ = some (.int .i64 (Nd.sort t)) ∧ w'.cell? ⟨w.heap.size, 4, none⟩ = some (.slice (some ⟨b, off, none⟩) (Nd.kids t).length kc) ∧ w'.cell? ⟨b, off + 5, none⟩ = some (.int .i64 y10) ∧ w'.cell? ⟨b, off + 5 + 1, none⟩ = some (.int .i64 y11) ∧ w'.cell? ⟨b, off + 5 + 2, none⟩ = some (.string y12) ∧ w'.cell? ⟨b, off + 5 + 3, none⟩ = some (.slice ya1 yl1 yc1) ∧ w'.cell? ⟨b, off + 5 + 4, none⟩ = some (.slice za1 zl1 zc1))) := by
      intro W' hW'
      refine (hn S (Nd.kids t)[1] _ _ _ _ _ (d + 1) W' (hr1.keep (same_below hW' hBW) (fun _ h => h)) (fun b hb => Nat.lt_of_lt_of_le (hBW b hb) hW'.size) (HGK.out 1 hi1)).mono ?_
      rintro e w' ⟨rfl, hb⟩
      have hb3 := hW'.trans (hb.mono hW'.size)
      exact ⟨rfl, hb3, HP.out w' hb3⟩
    have hf1 := fanT_le m (Nd.kids t)[1]
    have hg1 : (((Nd.kids t)[1]?).map (fanT m)).getD 0 = fanT m (Nd.kids t)[1] := by simp [hi1]
    rw [hg1] at HF
    clear hkids hcell e10 e11 e12 e13 e14 hr1 hg1
    obtain ⟨v1, hv1⟩ : ∃ v, v = fanT m (Nd.kids t)[1] := ⟨_, rfl⟩
    rw [← hv1] at HC1 HF hf1
    clear hv1
    have HRf := hidF (Below.refl W.heap.size W)
    have HPW := hidF (HP.out W (Below.refl _ _))
    rw [hop] at hW z0 HP HPW HC1 ⊢
    clear HKl HGK hn hB hBW hbB hbb HP hkl hop HZ0
    have HTn : Hid (∀ w, Calls Tryz.prog 33 #[.int .i64 42, .int .i64 1] w fun e w' => e = .returned (.int .i64 1) ∧ w' = w) := fun w => turnsOf_any 42 1 w
    obtain ⟨q0, q1, q2, q3, q4, q5, q6⟩ := HPW.out
    go_enter Tryz.func27, Tryz.ntmps27
    go_wp2_with fail
    rw [← hW]
    clear hW
    go_region_held (fun w' => w'.cell? ⟨w.heap.size, 0, none⟩ = some (.int .i64 42) ∧ w'.cell? ⟨w.heap.size, 4, none⟩ = some (.slice (some ⟨b, off, none⟩) (Nd.kids t).length kc) ∧ w'.cell? ⟨b, off + 5, none⟩ = some (.int .i64 y10) ∧ w'.cell? ⟨b, off + 5 + 1, none⟩ = some (.int .i64 y11) ∧ w'.cell? ⟨b, off + 5 + 2, none⟩ = some (.string y12) ∧ w'.cell? ⟨b, off + 5 + 3, none⟩ = some (.slice ya1 yl1 yc1) ∧ w'.cell? ⟨b, off + 5 + 4, none⟩ = some (.slice za1 zl1 zc1)) (first | with_reducible assumption | go_keep) (first | (go_at_call 27; with_reducible refine (HC1.out _ (by first | with_reducible assumption)).mono ?_; rintro e w5 ⟨rfl, hb5, hS5⟩) | (go_at_call 33; refine (HTn.out _).mono ?_; rintro e w7 ⟨rfl, rfl⟩))
    all_goals
      have HBL : Hid (Below w.heap.size w _) := HB0.out.trans (Below.mono hb5 HB0.out.size)
      clear hb5 hS5 HC1 HTn hD z0 z4 q0 q1 q2 q3 q4 q5 q6
      go_wp2_with fail
      go_ret
      exact ⟨ret_int (by rw [HF.out]; omega), HBL.out⟩
  by_cases hop : Nd.sort t = 43
  · have HF : Hid (fanT (m + 1) t = min (20 * (((Nd.kids t)[1]?).map (fanT m)).getD 0) 401) := by
      show _ = _; simp only [fanT]; rw [if_neg (by omega), if_neg (by omega), if_neg (by omega), if_neg (by omega), if_pos (by omega)]
    have hkl : (Nd.kids t).length = 2 := HKl.out 43 hop (by decide) (by decide)
    obtain ⟨b, off, rfl, hbB, hcell⟩ := hkids (by intro h; rw [h] at hkl; simp at hkl)
    have hbb := hB b hbB
    have hi1 : 1 < (Nd.kids t).length := by omega
    obtain ⟨x0, x1, x2, x3, x4, e10, e11, e12, e13, e14, hr1⟩ := hcell 1 hi1
    obtain ⟨y10, y11, y12, ya1, yl1, yc1, za1, zl1, zc1, rfl, rfl, rfl, rfl, rfl⟩ := hr1.shape
    have HP : Hid (∀ w', Below W.heap.size W w' → (w'.cell? ⟨w.heap.size, 0, none⟩ = some (.int .i64 (Nd.sort t)) ∧ w'.cell? ⟨w.heap.size, 4, none⟩ = some (.slice (some ⟨b, off, none⟩) (Nd.kids t).length kc) ∧ w'.cell? ⟨b, off + 5, none⟩ = some (.int .i64 y10) ∧ w'.cell? ⟨b, off + 5 + 1, none⟩ = some (.int .i64 y11) ∧ w'.cell? ⟨b, off + 5 + 2, none⟩ = some (.string y12) ∧ w'.cell? ⟨b, off + 5 + 3, none⟩ = some (.slice ya1 yl1 yc1) ∧ w'.cell? ⟨b, off + 5 + 4, none⟩ = some (.slice za1 zl1 zc1))) := by
      intro w' hb
      exact ⟨(hb.cell (p := ⟨w.heap.size, 0, none⟩) hzW).trans z0, (hb.cell (p := ⟨w.heap.size, 4, none⟩) hzW).trans z4, (hb.cell (p := ⟨b, off + 5, none⟩) (by show b < _; omega)).trans (by simpa using e10), (hb.cell (p := ⟨b, off + 5 + 1, none⟩) (by show b < _; omega)).trans (by simpa using e11), (hb.cell (p := ⟨b, off + 5 + 2, none⟩) (by show b < _; omega)).trans (by simpa using e12), (hb.cell (p := ⟨b, off + 5 + 3, none⟩) (by show b < _; omega)).trans (by simpa using e13), (hb.cell (p := ⟨b, off + 5 + 4, none⟩) (by show b < _; omega)).trans (by simpa using e14)⟩
    have HC1 : Hid (∀ W', Below W.heap.size W W' → Calls Tryz.prog 27 #[.agg #[.int .i64 y10, .int .i64 y11, .string y12, .slice ya1 yl1 yc1, .slice za1 zl1 zc1]] W' fun e w' => e = .returned (.int .i64 (fanT m (Nd.kids t)[1])) ∧ Below W.heap.size W w' ∧ (w'.cell? ⟨w.heap.size, 0, none⟩ = some (.int .i64 (Nd.sort t)) ∧ w'.cell? ⟨w.heap.size, 4, none⟩ = some (.slice (some ⟨b, off, none⟩) (Nd.kids t).length kc) ∧ w'.cell? ⟨b, off + 5, none⟩ = some (.int .i64 y10) ∧ w'.cell? ⟨b, off + 5 + 1, none⟩ = some (.int .i64 y11) ∧ w'.cell? ⟨b, off + 5 + 2, none⟩ = some (.string y12) ∧ w'.cell? ⟨b, off + 5 + 3, none⟩ = some (.slice ya1 yl1 yc1) ∧ w'.cell? ⟨b, off + 5 + 4, none⟩ = some (.slice za1 zl1 zc1))) := by
      intro W' hW'
      refine (hn S (Nd.kids t)[1] _ _ _ _ _ (d + 1) W' (hr1.keep (same_below hW' hBW) (fun _ h => h)) (fun b hb => Nat.lt_of_lt_of_le (hBW b hb) hW'.size) (HGK.out 1 hi1)).mono ?_
      rintro e w' ⟨rfl, hb⟩
      have hb3 := hW'.trans (hb.mono hW'.size)
      exact ⟨rfl, hb3, HP.out w' hb3⟩
    have hf1 := fanT_le m (Nd.kids t)[1]
    have hg1 : (((Nd.kids t)[1]?).map (fanT m)).getD 0 = fanT m (Nd.kids t)[1] := by simp [hi1]
    rw [hg1] at HF
    clear hkids hcell e10 e11 e12 e13 e14 hr1 hg1
    obtain ⟨v1, hv1⟩ : ∃ v, v = fanT m (Nd.kids t)[1] := ⟨_, rfl⟩
    rw [← hv1] at HC1 HF hf1
    clear hv1
    have HRf := hidF (Below.refl W.heap.size W)
    have HPW := hidF (HP.out W (Below.refl _ _))
    rw [hop] at hW z0 HP HPW HC1 ⊢
    clear HKl HGK hn hB hBW hbB hbb HP hkl hop HZ0
    have HTn : Hid (∀ w, Calls Tryz.prog 33 #[.int .i64 43, .int .i64 1] w fun e w' => e = .returned (.int .i64 20) ∧ w' = w) := fun w => turnsOf_any 43 1 w
    obtain ⟨q0, q1, q2, q3, q4, q5, q6⟩ := HPW.out
    go_enter Tryz.func27, Tryz.ntmps27
    go_wp2_with fail
    rw [← hW]
    clear hW
    go_region_held (fun w' => w'.cell? ⟨w.heap.size, 0, none⟩ = some (.int .i64 43) ∧ w'.cell? ⟨w.heap.size, 4, none⟩ = some (.slice (some ⟨b, off, none⟩) (Nd.kids t).length kc) ∧ w'.cell? ⟨b, off + 5, none⟩ = some (.int .i64 y10) ∧ w'.cell? ⟨b, off + 5 + 1, none⟩ = some (.int .i64 y11) ∧ w'.cell? ⟨b, off + 5 + 2, none⟩ = some (.string y12) ∧ w'.cell? ⟨b, off + 5 + 3, none⟩ = some (.slice ya1 yl1 yc1) ∧ w'.cell? ⟨b, off + 5 + 4, none⟩ = some (.slice za1 zl1 zc1)) (first | with_reducible assumption | go_keep) (first | (go_at_call 27; with_reducible refine (HC1.out _ (by first | with_reducible assumption)).mono ?_; rintro e w5 ⟨rfl, hb5, hS5⟩) | (go_at_call 33; refine (HTn.out _).mono ?_; rintro e w7 ⟨rfl, rfl⟩))
    all_goals
      have HBL : Hid (Below w.heap.size w _) := HB0.out.trans (Below.mono hb5 HB0.out.size)
      clear hb5 hS5 HC1 HTn hD z0 z4 q0 q1 q2 q3 q4 q5 q6
      go_wp2_with fail
      go_ret
      exact ⟨ret_int (by rw [HF.out]; omega), HBL.out⟩
  have HF : Hid (fanT (m + 1) t = 0) := by
    show _ = _; simp only [fanT]; rw [if_neg (by omega), if_neg (by omega), if_neg (by omega), if_neg (by omega), if_neg (by omega)]
  have e38 : (Nd.sort t == 38) = false := by simp; assumption
  have e39 : (Nd.sort t == 39) = false := by simp; assumption
  have e40 : (Nd.sort t == 40) = false := by simp; assumption
  have e41 : (Nd.sort t == 41) = false := by simp; assumption
  have e42 : (Nd.sort t == 42) = false := by simp; assumption
  have e43 : (Nd.sort t == 43) = false := by simp; assumption
  have HBL := hidF (Below.refl W.heap.size W)
  clear hkids HGK HKl hn
  go_enter Tryz.func27, Tryz.ntmps27
  go_wp2_with fail
  rw [← hW]
  go_ret
  exact ⟨ret_int HF.out.symm, HB0.out.trans (HBL.out.mono HB0.out.size)⟩

theorem fanOf_any : ∀ m, FanSaid m := by
  intro m
  induction m with
  | zero => intro S t c0 c1 c2 c3 c4 d w ht; exact ht.elim
  | succ m ih => exact fanOf_step m ih

end Go.Proofs.YtlinplghgamgbaaGreatDoor

/-
  The program: LiftCost, LiftFan.
-/
namespace Go.Proofs.YtlinplghgamgbaaGreatDoor
open Go.RowKit

set_option maxRecDepth 20000 in
set_option maxHeartbeats 1000000 in
theorem implLFan_any (m : Nat) (S : Nat → Prop) (w : World) (t : T m) (c0 c1 c2 c3 c4 : Value) (hin : NodeIn S w m t c0 c1 c2 c3 c4) (hB : ∀ b, S b → b < w.heap.size) (hsz : szT m t ≤ 1048576) (hT : TensIn w) :
    Calls Tryz.prog 14 #[.agg #[c0, c1, c2, c3, c4]] w fun e w' => e = .returned (.int .i64 (fanA m t)) ∧ Below w.heap.size w w' := by
  obtain ⟨x0, x1, x2, xa, xl, xc, ya, yl, yc, rfl, rfl, rfl, rfl, rfl⟩ := hin.shape
  have hb0 := (Below.refl w.heap.size w).alloc (Nat.le_refl _) (.cells #[.int .i64 x0, .int .i64 x1, .string x2, .slice xa xl xc, .slice ya yl yc] 30)
  obtain ⟨hin0, hB0⟩ := hin.step hB hb0
  have HC : Hid (Calls Tryz.prog 9 _ _ _) := implLOk_any m S _ t _ _ _ _ _ hin0 hB0 hsz (hT.step hb0)
  have HR : Hid (∀ w1, Below (w.alloc (.cells #[.int .i64 x0, .int .i64 x1, .string x2, .slice xa xl xc, .slice ya yl yc] 30)).heap.size (w.alloc (.cells #[.int .i64 x0, .int .i64 x1, .string x2, .slice xa xl xc, .slice ya yl yc] 30)) w1 → Below w.heap.size w w1 ∧ (w1.cell? ⟨w.heap.size, 0, none⟩ = some (.int .i64 x0) ∧ w1.cell? ⟨w.heap.size, 1, none⟩ = some (.int .i64 x1) ∧ w1.cell? ⟨w.heap.size, 2, none⟩ = some (.string x2) ∧ w1.cell? ⟨w.heap.size, 3, none⟩ = some (.slice xa xl xc) ∧ w1.cell? ⟨w.heap.size, 4, none⟩ = some (.slice ya yl yc)) ∧
      (goodN m t 1 = true → Calls Tryz.prog 27 #[.agg #[.int .i64 x0, .int .i64 x1, .string x2, .slice xa xl xc, .slice ya yl yc]] w1 fun e w' => e = .returned (.int .i64 (fanT m t)) ∧ Below w1.heap.size w1 w')) := by
    intro w1 hb1
    obtain ⟨hin1, hB1⟩ := hin0.step hB0 hb1
    exact ⟨below_step hb0 (by simp) hb1, five_of ((hb1.block w.heap.size (by simp)).trans (heap_alloc_last w _)), fun hg => fanOf_any m S t _ _ _ _ _ 1 w1 hin1 hB1 hg⟩
  clear hin hin0 hT
  cases hok : okA m t with
  | false =>
    have HF : Hid (fanA m t = 0) := by show _ = _; unfold fanA; rw [hok]; rfl
    rw [hok] at HC
    clear hok
    go_enter Tryz.func14, Tryz.ntmps14
    go_wp2_with fail
    refine HC.out.mono ?_
    rintro e w1 ⟨rfl, hb1⟩
    have HB := hidF (HR.out w1 hb1).1
    clear hb1 HC HR
    go_wp2_with fail
    go_ret
    exact ⟨ret_int HF.out.symm, HB.out⟩
  | true =>
    have HF : Hid (fanA m t = fanT m t) := by show _ = _; unfold fanA; rw [hok]; rfl
    have HG := hidF (good_of_ok (ok_of_okA hok))
    rw [hok] at HC
    clear hok
    go_enter Tryz.func14, Tryz.ntmps14
    go_wp2_with fail
    refine HC.out.mono ?_
    rintro e w1 ⟨rfl, hb1⟩
    obtain ⟨hbb, ⟨z0, z1, z2, z3, z4⟩, hct⟩ := HR.out w1 hb1
    have HB := hidF hbb
    have HCT := hidF (hct HG.out)
    clear hb1 hbb hct HC HR
    go_wp2_with fail
    refine HCT.out.mono ?_
    rintro e w2 ⟨rfl, hb2⟩
    have HB2 := hidF (HB.out.trans (hb2.mono HB.out.size))
    clear hb2 HCT z0 z1 z2 z3 z4
    go_wp2_with fail
    go_ret
    exact ⟨ret_int HF.out.symm, HB2.out⟩

end Go.Proofs.YtlinplghgamgbaaGreatDoor
