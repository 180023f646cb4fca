/-
  The spots of a tree that was copied.
-/
import Derived.Test.YtpnnbdejneoccaaB4
import Derived.Test.YtpnnbdejneoccaaTThaw
namespace Go.Proofs.Ytpnnbdejneoccaa
open Go.RowKit

theorem tree_spots : ∀ (n : Nat) {S : Nat → Prop} {w : World} (t : T n) {c0 c1 c2 c3 c4 : Value}, TreeIn S w n t c0 c1 c2 c3 c4 → (∀ b o, S b → w.frozen? ⟨b, o, none⟩ = false) →
    ∃ L3 L4, SpN w c3 L3 ∧ SpR w (n - 1) c4 L4 ∧ (∀ s, s ∈ L3 ++ L4 → S s.b) ∧ (L3 ++ L4).length ≤ 3 * szT n t := by
  intro n
  induction n with
  | zero => intro S w t c0 c1 c2 c3 c4 h; exact h.elim
  | succ n ih =>
    intro S w t c0 c1 c2 c3 c4 h hf
    obtain ⟨-, -, -, -, -, -, h3, h4⟩ := h
    obtain ⟨L3, p1, p2, p3⟩ := spn_of_strs h3 hf
    have hsz : szT (n + 1) t = (Nd.text t).size + szN (Nd.names t) + sumL (fun k => szT n k + 1) (Nd.kids t) := rfl
    have hnl := szN_length (Nd.names t)
    suffices h : ∃ L4, SpR w n c4 L4 ∧ (∀ s, s ∈ L4 → S s.b) ∧ L4.length ≤ 3 * sumL (fun k => szT n k + 1) (Nd.kids t) by
      obtain ⟨L4, q1, q2, q3⟩ := h
      refine ⟨L3, L4, p1, q1, fun s hs => (List.mem_append.1 hs).elim (p2 s) (q2 s), ?_⟩
      rw [List.length_append, hsz, p3]; omega
    generalize Nd.kids t = ks at h4 ⊢
    obtain ⟨ao, cap, rfl, hl, hc⟩ := h4
    by_cases hne : ks = []
    · subst hne
      refine ⟨[], ?_, fun _ h => (by cases h), by simp⟩
      cases n with
      | zero => exact ⟨ao, cap, rfl, rfl⟩
      | succ n => exact ⟨ao, cap, [], rfl, hl, rfl, fun i h => absurd h (Nat.not_lt_zero _)⟩
    · obtain ⟨b, off, rfl, hb, hcell⟩ := hc hne
      have hcell2 : ∀ i (h : i < ks.length), ∃ c3 c4 L3 L4, (∀ s, s ∈ sp5 b (off + i * 5) → s.ok w) ∧ w.cell? ⟨b, off + i * 5 + 3, none⟩ = some c3 ∧ w.cell? ⟨b, off + i * 5 + 4, none⟩ = some c4 ∧ SpN w c3 L3 ∧ SpR w (n - 1) c4 L4 ∧ (∀ s, s ∈ L3 ++ L4 → S s.b) ∧ (L3 ++ L4).length ≤ 3 * szT n ks[i] := by
        intro i hi
        obtain ⟨d0, d1, d2, d3, d4, e0, e1, e2, e3, e4, hk⟩ := hcell i hi
        obtain ⟨L3, L4, q1, q2, q3, q4⟩ := ih ks[i] hk hf
        refine ⟨d3, d4, L3, L4, fun s hs => ?_, e3, e4, q1, q2, q3, q4⟩
        obtain ⟨x0, x1, x2, _, _, _, _, _, _, rfl, rfl, rfl, -⟩ := hk.shape
        simp only [sp5, List.mem_cons, List.not_mem_nil, or_false] at hs
        rcases hs with rfl | rfl | rfl
        · exact ⟨⟨x0, e0⟩, hf _ _ hb⟩
        · exact ⟨⟨x1, e1⟩, hf _ _ hb⟩
        · exact ⟨⟨x2, e2⟩, hf _ _ hb⟩
      have hn0 : ∃ m, n = m + 1 := by
        cases n with
        | zero =>
          obtain ⟨x, r, rfl⟩ := List.exists_cons_of_ne_nil hne
          exact (x : Empty).elim
        | succ m => exact ⟨m, rfl⟩
      obtain ⟨m, rfl⟩ := hn0
      let f : Nat → List Spot := fun i => if hi : i < ks.length then sp5 b (off + i * 5) ++ ((hcell2 i hi).choose_spec.choose_spec.choose ++ (hcell2 i hi).choose_spec.choose_spec.choose_spec.choose) else []
      have hfi : ∀ i (hi : i < ks.length), ∃ c3 c4 L3 L4, f i = sp5 b (off + i * 5) ++ (L3 ++ L4) ∧ (∀ s, s ∈ sp5 b (off + i * 5) → s.ok w) ∧ w.cell? ⟨b, off + i * 5 + 3, none⟩ = some c3 ∧ w.cell? ⟨b, off + i * 5 + 4, none⟩ = some c4 ∧ SpN w c3 L3 ∧ SpR w m c4 L4 ∧ (∀ s, s ∈ L3 ++ L4 → S s.b) ∧ (L3 ++ L4).length ≤ 3 * szT (m + 1) ks[i] := by
        intro i hi
        have hsp := (hcell2 i hi).choose_spec.choose_spec.choose_spec.choose_spec
        exact ⟨_, _, _, _, dif_pos hi, hsp.1, hsp.2.1, hsp.2.2.1, hsp.2.2.2.1, hsp.2.2.2.2.1, hsp.2.2.2.2.2.1, hsp.2.2.2.2.2.2⟩
      refine ⟨((List.range ks.length).map f).flatten, ⟨some ⟨b, off, none⟩, cap, (List.range ks.length).map f, by rw [List.length_map, List.length_range], by rw [List.length_map, List.length_range]; exact hl, rfl, fun i hi => ?_⟩, fun s hs => ?_, ?_⟩
      · have hi' : i < ks.length := by simpa using hi
        obtain ⟨c3, c4, L3, L4, e, o, e3, e4, q1, q2, -⟩ := hfi i hi'
        exact ⟨b, off, c3, c4, L3, L4, rfl, by rw [List.getElem_map, List.getElem_range]; exact e, o, e3, e4, q1, q2⟩
      · obtain ⟨x, hx, hsx⟩ := List.mem_flatten.1 hs
        obtain ⟨i, hi, rfl⟩ := List.mem_map.1 hx
        obtain ⟨c3, c4, L3, L4, e, o, e3, e4, q1, q2, q3, -⟩ := hfi i (List.mem_range.1 hi)
        rw [e] at hsx
        rcases List.mem_append.1 hsx with h | h
        · simp only [sp5, List.mem_cons, List.not_mem_nil, or_false] at h
          rcases h with rfl | rfl | rfl <;> exact hb
        · exact q3 s h
      · have key : ∀ j, j ≤ ks.length → ((List.range j).map f).flatten.length ≤ 3 * sumL (fun k => szT (m + 1) k + 1) (ks.take j) := by
          intro j
          induction j with
          | zero => intro _; simp
          | succ j ihj =>
            intro hj
            have h1 := ihj (by omega)
            obtain ⟨c3, c4, L3, L4, e, o, e3, e4, q1, q2, q3, q4⟩ := hfi j (by omega)
            have h5 : (sp5 b (off + j * 5)).length = 3 := rfl
            rw [List.range_succ, List.map_append, List.flatten_append, List.length_append, List.take_succ_eq_append_getElem (by omega), sumL_snocN]
            simp only [List.map_cons, List.map_nil, List.flatten_cons, List.flatten_nil, List.append_nil]
            rw [e, List.length_append, h5]
            omega
        have := key ks.length (Nat.le_refl _)
        rwa [List.take_length] at this

end Go.Proofs.Ytpnnbdejneoccaa
