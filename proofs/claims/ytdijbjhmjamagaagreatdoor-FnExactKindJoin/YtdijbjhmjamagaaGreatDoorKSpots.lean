/-
  What marks touch; the spots of a schema that was copied.
-/
import Derived.Test.YtdijbjhmjamagaaGreatDoorB6
import Derived.Test.YtdijbjhmjamagaaGreatDoorB5
import Derived.Test.YtdijbjhmjamagaaGreatDoorB14
import Derived.Test.YtdijbjhmjamagaaGreatDoorCopyN
namespace Go.Proofs.YtdijbjhmjamagaaGreatDoor
open Go.RowKit

theorem spn_of_strs {S : Nat → Prop} {w : World} {l : List ByteArray} {v : Value} (h : StrsIn S w l v) (hf : ∀ b o, S b → w.frozen? ⟨b, o, none⟩ = false) : ∃ L, SpN w v L ∧ (∀ s, s ∈ L → S s.b) ∧ L.length = l.length := by
  obtain ⟨ao, cap, rfl, hl, -, hc⟩ := h
  by_cases hne : l = []
  · subst hne
    exact ⟨[], ⟨ao, cap, rfl, hl, fun i h => absurd h (Nat.not_lt_zero _), fun _ h => (by cases h)⟩, fun _ h => (by cases h), rfl⟩
  · obtain ⟨b, off, rfl, hb, hcell⟩ := hc hne
    refine ⟨(List.range l.length).map (fun i => (⟨b, off + i, true⟩ : Spot)), ⟨_, cap, by rw [List.length_map, List.length_range], by rw [List.length_map, List.length_range]; exact hl, fun i hi => ⟨b, off, rfl, by simp⟩, fun s hs => ?_⟩, fun s hs => ?_, by simp⟩
    · obtain ⟨i, hi, rfl⟩ := List.mem_map.1 hs
      exact ⟨⟨_, hcell i (List.mem_range.1 hi)⟩, hf _ _ hb⟩
    · obtain ⟨i, hi, rfl⟩ := List.mem_map.1 hs
      exact hb

theorem kind_spots : ∀ (n : Nat) {S : Nat → Prop} {w : World} (t : K n) {c0 c1 c2 : Value}, KindIn S w n t c0 c1 c2 → (∀ b o, S b → w.frozen? ⟨b, o, none⟩ = false) →
    ∃ L3 L4, SpN w c1 L3 ∧ SpK w (n - 1) c2 L4 ∧ (∀ s, s ∈ L3 ++ L4 → S s.b) ∧ (L3 ++ L4).length ≤ szK n t := by
  intro n
  induction n with
  | zero => intro S w t c0 c1 c2 h; exact h.elim
  | succ n ih =>
    intro S w t c0 c1 c2 h hf
    obtain ⟨-, -, h3, h4⟩ := h
    obtain ⟨L3, p1, p2, p3⟩ := spn_of_strs h3 hf
    have hsz : szK (n + 1) t = szN (Kd.names t) + sumL (fun k => szK n k + 1) (Kd.kids t) := rfl
    have hnl := szN_length (Kd.names t)
    suffices h : ∃ L4, SpK w n c2 L4 ∧ (∀ s, s ∈ L4 → S s.b) ∧ L4.length ≤ sumL (fun k => szK n k + 1) (Kd.kids t) by
      obtain ⟨L4, q1, q2, q3⟩ := h
      refine ⟨L3, L4, p1, q1, fun s hs => (List.mem_append.1 hs).elim (p2 s) (q2 s), ?_⟩
      rw [List.length_append, hsz, p3]; omega
    generalize Kd.kids t = ks at h4 ⊢
    obtain ⟨ao, cap, rfl, hl, hc⟩ := h4
    by_cases hne : ks = []
    · subst hne
      refine ⟨[], ?_, fun _ h => (by cases h), by simp⟩
      cases n with
      | zero => exact ⟨ao, cap, rfl, rfl⟩
      | succ n => exact ⟨ao, cap, [], rfl, hl, rfl, fun i h => absurd h (Nat.not_lt_zero _)⟩
    · obtain ⟨b, off, rfl, hb, hcell⟩ := hc hne
      have hcell2 : ∀ i (h : i < ks.length), ∃ c3 c4 L3 L4, (⟨b, off + i * 3, false⟩ : Spot).ok w ∧ w.cell? ⟨b, off + i * 3 + 1, none⟩ = some c3 ∧ w.cell? ⟨b, off + i * 3 + 2, none⟩ = some c4 ∧ SpN w c3 L3 ∧ SpK w (n - 1) c4 L4 ∧ (∀ s, s ∈ L3 ++ L4 → S s.b) ∧ (L3 ++ L4).length ≤ szK n ks[i] := by
        intro i hi
        obtain ⟨d0, d1, d2, e0, e1, e2, hk⟩ := hcell i hi
        obtain ⟨L3, L4, q1, q2, q3, q4⟩ := ih ks[i] hk hf
        refine ⟨d1, d2, L3, L4, ⟨?_, hf _ _ hb⟩, e1, e2, q1, q2, q3, q4⟩
        obtain ⟨x, _, _, _, _, _, _, rfl, -⟩ := hk.shape
        exact ⟨x, e0⟩
      have hn0 : ∃ m, n = m + 1 := by
        cases n with
        | zero =>
          obtain ⟨x, r, rfl⟩ := List.exists_cons_of_ne_nil hne
          exact (x : Empty).elim
        | succ m => exact ⟨m, rfl⟩
      obtain ⟨m, rfl⟩ := hn0
      let f : Nat → List Spot := fun i => if hi : i < ks.length then [⟨b, off + i * 3, false⟩] ++ ((hcell2 i hi).choose_spec.choose_spec.choose ++ (hcell2 i hi).choose_spec.choose_spec.choose_spec.choose) else []
      have hfi : ∀ i (hi : i < ks.length), ∃ c3 c4 L3 L4, f i = [⟨b, off + i * 3, false⟩] ++ (L3 ++ L4) ∧ (⟨b, off + i * 3, false⟩ : Spot).ok w ∧ w.cell? ⟨b, off + i * 3 + 1, none⟩ = some c3 ∧ w.cell? ⟨b, off + i * 3 + 2, none⟩ = some c4 ∧ SpN w c3 L3 ∧ SpK w m c4 L4 ∧ (∀ s, s ∈ L3 ++ L4 → S s.b) ∧ (L3 ++ L4).length ≤ szK (m + 1) ks[i] := by
        intro i hi
        have hsp := (hcell2 i hi).choose_spec.choose_spec.choose_spec.choose_spec
        exact ⟨_, _, _, _, dif_pos hi, hsp.1, hsp.2.1, hsp.2.2.1, hsp.2.2.2.1, hsp.2.2.2.2.1, hsp.2.2.2.2.2.1, hsp.2.2.2.2.2.2⟩
      refine ⟨((List.range ks.length).map f).flatten, ⟨some ⟨b, off, none⟩, cap, (List.range ks.length).map f, by rw [List.length_map, List.length_range], by rw [List.length_map, List.length_range]; exact hl, rfl, fun i hi => ?_⟩, fun s hs => ?_, ?_⟩
      · have hi' : i < ks.length := by simpa using hi
        obtain ⟨c3, c4, L3, L4, e, o, e3, e4, q1, q2, -⟩ := hfi i hi'
        exact ⟨b, off, c3, c4, L3, L4, rfl, by rw [List.getElem_map, List.getElem_range]; exact e, o, e3, e4, q1, q2⟩
      · obtain ⟨x, hx, hsx⟩ := List.mem_flatten.1 hs
        obtain ⟨i, hi, rfl⟩ := List.mem_map.1 hx
        obtain ⟨c3, c4, L3, L4, e, o, e3, e4, q1, q2, q3, -⟩ := hfi i (List.mem_range.1 hi)
        rw [e] at hsx
        rcases List.mem_append.1 hsx with h | h
        · rw [List.mem_singleton] at h; subst h; exact hb
        · exact q3 s h
      · have key : ∀ j, j ≤ ks.length → ((List.range j).map f).flatten.length ≤ sumL (fun k => szK (m + 1) k + 1) (ks.take j) := by
          intro j
          induction j with
          | zero => intro _; simp
          | succ j ihj =>
            intro hj
            have h1 := ihj (by omega)
            obtain ⟨c3, c4, L3, L4, e, o, e3, e4, q1, q2, q3, q4⟩ := hfi j (by omega)
            rw [List.range_succ, List.map_append, List.flatten_append, List.length_append, List.take_succ_eq_append_getElem (by omega), sumL_snoc]
            simp only [List.map_cons, List.map_nil, List.flatten_cons, List.flatten_nil, List.append_nil]
            rw [e, List.length_append, List.length_singleton]
            omega
        have := key ks.length (Nat.le_refl _)
        rwa [List.take_length] at this

end Go.Proofs.YtdijbjhmjamagaaGreatDoor
