/-
  The specification on upcasters' nodes: how long their texts are.
-/
import Derived.Test.YtlinplghgamgbaaGreatDoorSL2
import Derived.Test.YtlinplghgamgbaaGreatDoorNW3
import Derived.Test.YtlinplghgamgbaaGreatDoorB14
import Derived.BigQuiet
import Derived.Deep.RegionHeld
namespace Go.Proofs.YtlinplghgamgbaaGreatDoor
open Go.RowKit

/-- l11Text at nodes of at most m levels. -/
def TextS (m : Nat) : Prop := ∀ (S : Nat → Prop) (t : T m) (c0 c1 c2 c3 c4 : Value) (d : Int) (w : World), NodeIn S w m t c0 c1 c2 c3 c4 → (∀ b, S b → b < w.heap.size) → goodN m t d = true → lenN m t ≤ 800000 →
  Calls Tryz.prog 29 #[.agg #[c0, c1, c2, c3, c4]] w fun e w' => Below w.heap.size w w' ∧ ∃ s, e = .returned (.string s) ∧ s.size = lenN m t

theorem app_size (a b : ByteArray) : (a ++ b).size = a.size + b.size := by simp

theorem sumL_take_le {α : Type} (f : α → Nat) (l : List α) (k : Nat) : sumL f (l.take k) ≤ sumL f l := by
  have := sumL_append f (l.take k) (l.drop k)
  rw [List.take_append_drop] at this; omega

theorem szN_take_le (l : List ByteArray) (k : Nat) : szN (l.take k) ≤ szN l := by
  have := szN_append (l.take k) (l.drop k)
  rw [List.take_append_drop] at this; omega

set_option maxRecDepth 20000 in
set_option maxHeartbeats 4000000 in
theorem textS_form (m : Nat) (hn : TextS m) (S : Nat → Prop) (n : Nd (T m)) (na ka : Option Addr) (nc kc : Nat) (d : Int) (w : World) (hB : ∀ b, S b → b < w.heap.size) (h3 : StrsIn S w n.names (.slice na n.names.length nc)) (h4 : RowIn S w (NodeIn S w m) n.kids (.slice ka n.kids.length kc))
    (hle : n.names.length = n.kids.length) (hg : n.kids.all (fun x => goodN m x d) = true) (hl : 8 + szN n.names + sumL (fun x => lenN m x + 1) n.kids ≤ 800000) :
    Calls Tryz.prog 29 #[.agg #[.int .i64 24, .int .i64 n.num, .string n.text, .slice na n.names.length nc, .slice ka n.kids.length kc]] w fun e w' => Below w.heap.size w w' ∧ ∃ s, e = .returned (.string s) ∧ s.size = 8 + szN n.names + sumL (fun x => lenN m x + 1) n.kids := by
  obtain ⟨W, hW⟩ : ∃ W, W = w.alloc (.cells #[.int .i64 24, .int .i64 n.num, .string n.text, .slice na n.names.length nc, .slice ka n.kids.length kc] 30) := ⟨_, rfl⟩
  have hbW : Below w.heap.size w W := by rw [hW]; exact (Below.refl _ _).alloc (Nat.le_refl _) _
  have hzW : w.heap.size < W.heap.size := by rw [hW]; simp
  have hbox : W.heap[w.heap.size]? = some (.cells #[.int .i64 24, .int .i64 n.num, .string n.text, .slice na n.names.length nc, .slice ka n.kids.length kc] 30 (0, 0)) := by rw [hW]; exact heap_alloc_last _ _
  obtain ⟨_, _, hv, hl3, hs3, hc3⟩ := h3.keep (same_below hbW hB) (fun _ h => h)
  cases hv
  obtain ⟨_, _, hv, hl4, hc4⟩ := h4.keepN (same_below hbW hB) (fun _ h => h)
  cases hv
  have HG : Hid (∀ k (h : k < n.kids.length), goodN m n.kids[k] d = true) := fun k h => List.all_eq_true.1 hg _ (List.getElem_mem h)
  have HL : Hid (8 + szN n.names + sumL (fun x => lenN m x + 1) n.kids ≤ 800000) := hl
  have hle1 : n.names.length ≤ n.kids.length := by omega
  have hle2 : n.kids.length ≤ n.names.length := by omega
  have HBW := hidF hbW
  unfold maxLen at hl3 hl4
  clear hg hl h3 h4 hle hbW
  subst hW
  go_enter Tryz.func29, Tryz.ntmps29
  go_wp2_with fail
  go_loopw [3, 4] (fun a i wr => ∃ (k : Nat) (s : ByteArray), k ≤ n.kids.length ∧ i = .int .i64 k ∧ a = .string s ∧ Hid (s.size = 4 + szN (n.names.take k) + sumL (fun x => lenN m x + 1) (n.kids.take k)) ∧ Below (w.heap.size + 1) (w.alloc (.cells #[.int .i64 24, .int .i64 n.num, .string n.text, .slice na n.names.length nc, .slice ka n.kids.length kc] 30)) wr) (fun _ i _ => n.kids.length - (intOf i).toNat)
  case atStart => exact ⟨0, ⟨#[102, 111, 114, 109]⟩, Nat.zero_le _, rfl, rfl, rfl, Below.refl _ _⟩
  case round =>
    obtain ⟨k, s, hk, rfl, rfl, HS, hwr⟩ := hrel
    obtain ⟨z0, z1, z2, z3, z4⟩ := five_of ((hwr.block w.heap.size (by omega)).trans hbox)
    by_cases hlt : k < n.kids.length
    · have hlt' : k < n.names.length := by omega
      obtain ⟨b, off, rfl, hSb, hcell⟩ := hc3 (by intro h; rw [h] at hlt'; simp at hlt')
      have hbb := hB b hSb
      have e0 := (hwr.cell (p := ⟨b, off + k, none⟩) (by show b < _; omega)).trans (hcell k hlt')
      obtain ⟨b2, off2, rfl, hSb2, hcell2⟩ := hc4 (by intro h; have := List.length_eq_zero_iff.2 h; omega)
      have hbb2 := hB b2 hSb2
      obtain ⟨d0, d1, d2, d3, d4, k0, k1, k2, k3, k4, hin⟩ := hcell2 k hlt
      obtain ⟨x0, x1, x2, xa, xl, xc, ya, yl, yc, rfl, rfl, rfl, rfl, rfl⟩ := hin.shape
      have f0 := (hwr.cell (p := ⟨b2, off2 + k * 5, none⟩) (by show b2 < _; omega)).trans k0
      have f1 := (hwr.cell (p := ⟨b2, off2 + k * 5 + 1, none⟩) (by show b2 < _; omega)).trans k1
      have f2 := (hwr.cell (p := ⟨b2, off2 + k * 5 + 2, none⟩) (by show b2 < _; omega)).trans k2
      have f3 := (hwr.cell (p := ⟨b2, off2 + k * 5 + 3, none⟩) (by show b2 < _; omega)).trans k3
      have f4 := (hwr.cell (p := ⟨b2, off2 + k * 5 + 4, none⟩) (by show b2 < _; omega)).trans k4
      have hz := hwr.size
      have HC : Hid (∀ W', Below wr.heap.size wr W' → Calls Tryz.prog 29 #[.agg #[.int .i64 x0, .int .i64 x1, .string x2, .slice xa xl xc, .slice ya yl yc]] W' fun e w' => ∃ s, e = .returned (.string s) ∧ s.size = lenN m n.kids[k] ∧ Below wr.heap.size wr w' ∧ (w'.cell? ⟨w.heap.size, 3, none⟩ = some (.slice (some ⟨b, off, none⟩) n.names.length nc) ∧ w'.cell? ⟨w.heap.size, 4, none⟩ = some (.slice (some ⟨b2, off2, none⟩) n.kids.length kc) ∧ w'.cell? ⟨b, off + k, none⟩ = some (.string n.names[k]) ∧ w'.cell? ⟨b2, off2 + k * 5, none⟩ = some (.int .i64 x0) ∧ w'.cell? ⟨b2, off2 + k * 5 + 1, none⟩ = some (.int .i64 x1) ∧ w'.cell? ⟨b2, off2 + k * 5 + 2, none⟩ = some (.string x2) ∧ w'.cell? ⟨b2, off2 + k * 5 + 3, none⟩ = some (.slice xa xl xc) ∧ w'.cell? ⟨b2, off2 + k * 5 + 4, none⟩ = some (.slice ya yl yc))) := by
        intro W' hW'
        have hsum := sumL_mono (fun x => lenN m x + 1) n.kids _ (List.getElem_mem hlt)
        have hL := HL.out
        have hbW : Below (w.heap.size + 1) (w.alloc (.cells #[.int .i64 24, .int .i64 n.num, .string n.text, .slice (some ⟨b, off, none⟩) n.names.length nc, .slice (some ⟨b2, off2, none⟩) n.kids.length kc] 30)) W' := hwr.trans (hW'.mono (by simp at hz; omega))
        refine (hn S n.kids[k] _ _ _ _ _ d W' (hin.keep (same_below hbW (fun b hb => by have := hB b hb; omega)) (fun _ h => h)) (fun b hb => by have := hB b hb; have := hbW.size; simp at this; omega) (HG.out k hlt) (by omega)).mono ?_
        rintro e w' ⟨hb, s', rfl, hs'⟩
        have hbb3 : Below wr.heap.size wr w' := hW'.trans (hb.mono hW'.size)
        simp at hz
        exact ⟨s', rfl, hs', hbb3, (hbb3.cell (p := ⟨w.heap.size, 3, none⟩) (by show w.heap.size < _; omega)).trans z3, (hbb3.cell (p := ⟨w.heap.size, 4, none⟩) (by show w.heap.size < _; omega)).trans z4, (hbb3.cell (p := ⟨b, off + k, none⟩) (by show b < _; omega)).trans e0, (hbb3.cell (p := ⟨b2, off2 + k * 5, none⟩) (by show b2 < _; omega)).trans f0, (hbb3.cell (p := ⟨b2, off2 + k * 5 + 1, none⟩) (by show b2 < _; omega)).trans f1, (hbb3.cell (p := ⟨b2, off2 + k * 5 + 2, none⟩) (by show b2 < _; omega)).trans f2, (hbb3.cell (p := ⟨b2, off2 + k * 5 + 3, none⟩) (by show b2 < _; omega)).trans f3, (hbb3.cell (p := ⟨b2, off2 + k * 5 + 4, none⟩) (by show b2 < _; omega)).trans f4⟩
      have HN : Hid (szN (n.names.take (k + 1)) = szN (n.names.take k) + (n.names[k].size + 1) ∧ sumL (fun x => lenN m x + 1) (n.kids.take (k + 1)) = sumL (fun x => lenN m x + 1) (n.kids.take k) + (lenN m n.kids[k] + 1)) := ⟨szN_take_succ _ _ hlt', sumL_take_succ _ _ _ hlt⟩
      have hbd : s.size + n.names[k].size + lenN m n.kids[k] + 2 ≤ 900000 := by
        have h1 := szN_take_le n.names (k + 1)
        have h2 := sumL_take_le (fun x => lenN m x + 1) n.kids (k + 1)
        have h3 := HL.out
        rw [HN.out.1] at h1
        rw [HN.out.2] at h2
        rw [HS.out]; omega
      have hD : Below wr.heap.size wr wr.drew := (Below.refl _ _).drew
      have hki : (k : Int) < (n.kids.length : Int) := by omega
      have hki2 : (k : Int) < (n.names.length : Int) := by omega
      have HWr := hidF hwr
      have HHz := hidF hz
      clear hc3 hc4 hcell hcell2 hin k0 k1 k2 k3 k4 hbox hs3 z0 z1 z2 hwr hz
      generalize n.names[k] = nm at *
      generalize lenN m n.kids[k] = lk at *
      go_wp2_with fail
      go_region_held (fun w' => w'.cell? ⟨w.heap.size, 3, none⟩ = some (.slice (some ⟨b, off, none⟩) n.names.length nc) ∧ w'.cell? ⟨w.heap.size, 4, none⟩ = some (.slice (some ⟨b2, off2, none⟩) n.kids.length kc) ∧ w'.cell? ⟨b, off + k, none⟩ = some (.string nm) ∧ w'.cell? ⟨b2, off2 + k * 5, none⟩ = some (.int .i64 x0) ∧ w'.cell? ⟨b2, off2 + k * 5 + 1, none⟩ = some (.int .i64 x1) ∧ w'.cell? ⟨b2, off2 + k * 5 + 2, none⟩ = some (.string x2) ∧ w'.cell? ⟨b2, off2 + k * 5 + 3, none⟩ = some (.slice xa xl xc) ∧ w'.cell? ⟨b2, off2 + k * 5 + 4, none⟩ = some (.slice ya yl yc)) (first | with_reducible assumption | go_keep) (first | (go_at_call 29; refine (HC.out _ hD).mono ?_; rintro e w2 ⟨s2, rfl, hs2, hb2, hSS⟩))
      all_goals
        have HB2 : Hid (Below (w.heap.size + 1) _ w2) := HWr.out.trans (hb2.mono (by have := HHz.out; simp at this; omega))
        have HS2 : Hid ((((s ++ ⟨#[32]⟩) ++ nm) ++ ⟨#[32]⟩ ++ s2).size = 4 + szN (n.names.take (k + 1)) + sumL (fun x => lenN m x + 1) (n.kids.take (k + 1))) := by
          show _ = _
          rw [HN.out.1, HN.out.2, app_size, app_size, app_size, app_size, HS.out, hs2]
          show _ + 1 + _ + 1 + _ = _
          omega
        clear hb2 hSS hs2 HC f0 f1 f2 f3 f4 e0 z3 z4
        go_wp2_with fail
        go_roundw
        case rel => exact ⟨k + 1, _, by omega, by go_num, rfl, HS2, HB2.out⟩
        case measure => simp [intOf]; omega
    · have hkl : k = n.kids.length := by omega
      have HE : Hid ((s ++ ⟨#[32, 101, 110, 100]⟩).size = 8 + szN n.names + sumL (fun x => lenN m x + 1) n.kids) := by
        show _ = _
        have h1 := HS.out
        rw [hkl, List.take_length, List.take_of_length_le (by omega)] at h1
        rw [app_size, h1]
        show _ + 4 = _
        omega
      have HB := hidF (HBW.out.trans (hwr.mono (by omega)))
      have hsz : s.size ≤ 900000 := by
        have h1 := HE.out
        rw [app_size] at h1
        have := HL.out
        omega
      clear hc3 hc4 hkl hwr hbox z0 z1 z2 z3
      go_wp2_with fail
      go_ret
      exact ⟨HB.out, _, rfl, HE.out⟩

set_option maxRecDepth 20000 in
set_option maxHeartbeats 1000000 in
theorem textS_leaf (m : Nat) (n : Nd (T m)) (na ka : Option Addr) (nc kc k : Nat) (hk : n.sort = (k : Int)) (h1 : 1 ≤ k) (h3 : k ≤ 3) (w : World) (hw0 : (Lit.int .i64 n.sort).wf = true) (hw1 : (Lit.int .i64 n.num).wf = true) (hx : n.text.size ≤ maxLen) (hal : aloneF n.sort n.num n.text [] 0 = true) :
    Calls Tryz.prog 29 #[.agg #[.int .i64 (k : Int), .int .i64 n.num, .string n.text, .slice na n.names.length nc, .slice ka n.kids.length kc]] w fun e w' => Below w.heap.size w w' ∧ ∃ s, e = .returned (.string s) ∧ s.size = (leafL n.sort n.num n.text).length := by
  have hb0 := (Below.refl w.heap.size w).alloc (Nat.le_refl _) (.cells #[.int .i64 (k : Int), .int .i64 n.num, .string n.text, .slice na n.names.length nc, .slice ka n.kids.length kc] 30)
  have HC : Hid (∀ w, Calls Tryz.prog 36 #[.agg #[.int .i64 (k : Int), .int .i64 n.num, .string n.text, .slice none 0 0, .slice none 0 0]] w fun e w' => e = .returned (.string (bs (leafL n.sort n.num n.text))) ∧ Below w.heap.size w w') := by
    intro w
    have hg : goodT 1 (leafT n.sort n.num n.text) 1 = true := by
      show (decide ((1 : Int) ≤ 6) && aloneF n.sort n.num n.text [] 0 && List.all ([] : List (T 0)) _) = _
      rw [hal]; rfl
    have := l1Text_any 1 (fun _ => False) (leafT n.sort n.num n.text) _ _ _ _ _ 1 w (leafT_of _ w n.sort n.num n.text hw0 hw1 hx) (fun _ h => h.elim) hg (by show (1 : Nat) ≤ 120; omega)
    rw [hk] at this ⊢
    exact this
  have HS : Hid ((bs (leafL n.sort n.num n.text)).size = (leafL n.sort n.num n.text).length) := bs_size _
  generalize bs (leafL n.sort n.num n.text) = s at *
  have h123 : k = 1 ∨ k = 2 ∨ k = 3 := by omega
  clear hk h1 h3 hal hw0 hw1 hx
  rcases h123 with rfl | rfl | rfl
  all_goals
    go_enter Tryz.func29, Tryz.ntmps29
    go_wp2_with fail
    refine (HC.out _).mono ?_
    rintro e w1 ⟨rfl, hb1⟩
    have HB := hidF (below_step hb0 (by simp) hb1)
    clear hb1 HC
    go_wp2_with fail
    go_ret
    exact ⟨HB.out, _, rfl, HS.out⟩

set_option maxRecDepth 20000 in
set_option maxHeartbeats 1000000 in
theorem textS_name (S : Nat → Prop) (m : Nat) (n : Nd (T m)) (na ka : Option Addr) (nc kc : Nat) (w : World) (hB : ∀ b, S b → b < w.heap.size) (h3 : StrsIn S w n.names (.slice na n.names.length nc)) (hne : n.names ≠ []) :
    Calls Tryz.prog 29 #[.agg #[.int .i64 4, .int .i64 n.num, .string n.text, .slice na n.names.length nc, .slice ka n.kids.length kc]] w fun e w' => Below w.heap.size w w' ∧ ∃ s, e = .returned (.string s) ∧ s.size = (n.names.headD ByteArray.empty).size := by
  have hb0 := (Below.refl w.heap.size w).alloc (Nat.le_refl _) (.cells #[.int .i64 4, .int .i64 n.num, .string n.text, .slice na n.names.length nc, .slice ka n.kids.length kc] 30)
  obtain ⟨_, _, hv, hl, -, hc⟩ := h3.keep (same_below hb0 hB) (fun _ h => h)
  cases hv
  obtain ⟨b, off, rfl, hSb, hcell⟩ := hc hne
  have h0 : 0 < n.names.length := List.length_pos_iff.2 hne
  have e0 := hcell 0 h0
  rw [Nat.add_zero] at e0
  have HS : Hid (n.names[0].size = (n.names.headD ByteArray.empty).size) := by
    show _ = _
    rw [List.headD_eq_head?_getD, List.head?_eq_getElem?, List.getElem?_eq_getElem h0]; rfl
  have hi : (0 : Int) < (n.names.length : Int) := by omega
  generalize n.names[0] = s at *
  clear hc hcell h3 hne
  go_enter Tryz.func29, Tryz.ntmps29
  go_wp2_with fail
  go_ret
  exact ⟨hb0, _, rfl, HS.out⟩

end Go.Proofs.YtlinplghgamgbaaGreatDoor
