/-
  Marks on a list of schemas, on a schema: heldKindS, heldKind.
-/
import Derived.Test.YtkaannpoldenkagMarkK
namespace Go.Proofs.Ytkaannpoldenkag
open Go.RowKit

/-- heldKindS at rows of at most n levels. -/
def HeldKSaid (n : Nat) : Prop := ∀ (L : List Spot) (v : Value) (k : Int) (w : World), SpK w n v L → Holds w L k → 1 ≤ k → k + L.length ≤ 1000000000 →
  Calls Try.prog 43 #[v, .int .i64 k] w fun e w' => e = .returned (.int .i64 (k + L.length)) ∧ Below w.heap.size w w'

set_option maxHeartbeats 400000 in
theorem heldK_zero : HeldKSaid 0 := by
  intro L v k w h _ h0 h1
  obtain ⟨ao, cap, rfl, rfl⟩ := h
  have HP : Hid (k = k + (([] : List Spot).length : Int)) := by show _ = _; simp
  go_enter Try.func43, Try.ntmps43
  go_wp2_with fail
  go_rounds 1
  go_ret
  exact ⟨ret_int HP.out, Below.refl _ _⟩

set_option maxRecDepth 20000 in
set_option maxHeartbeats 2000000 in
theorem heldK_step (n : Nat) (hn : HeldKSaid n) : HeldKSaid (n + 1) := by
  intro L v k w h hh h0 h1
  have hok := h.ok
  obtain ⟨ao, cap, Ls, rfl, hlen, rfl, hi⟩ := h
  unfold maxLen at hlen
  have HOK : Hid (∀ s, s ∈ Ls.flatten → s.ok w) := hok
  have HH : Hid (Holds w Ls.flatten k) := hh
  have HLen : Hid (∀ j, (Ls.take j).flatten.length ≤ Ls.flatten.length) := fun j => flatten_take_len Ls j
  have HB : Hid (k + (Ls.flatten.length : Int) ≤ 1000000000) := h1
  clear hok hh h1
  go_enter Try.func43, Try.ntmps43
  go_wp2_with fail
  go_loopw [1, 5] (fun a i wr => ∃ j : Nat, j ≤ Ls.length ∧ i = .int .i64 j ∧ a = .int .i64 (k + ((Ls.take j).flatten.length : Int)) ∧ Below w.heap.size w wr) (fun _ i _ => Ls.length - (intOf i).toNat)
  case atStart => exact ⟨0, Nat.zero_le _, rfl, by simp, Below.refl _ _⟩
  case round =>
    obtain ⟨j, hj, rfl, rfl, hbel⟩ := hrel
    by_cases hlt : j < Ls.length
    · obtain ⟨b, off, c3, c4, L3, L4, rfl, hLj, hok3, hc3, hc4, hN, hR⟩ := hi j hlt
      have hnext := flatten_take Ls j hlt
      have hle := HLen.out (j + 1)
      rw [hnext, hLj] at hle
      simp only [List.length_append, List.length_singleton] at hle
      have hbd : k + ((Ls.take j).flatten.length : Int) + 1 + L3.length + L4.length ≤ 1000000000 := by have := HB.out; omega
      have hhj := holds_take HH.out j hlt
      rw [hLj] at hhj
      have HKn : Hid (k + ((Ls.take j).flatten.length : Int) + 1 + (L3.length : Int) + (L4.length : Int) = k + ((Ls.take (j + 1)).flatten.length : Int)) := by
        show _ = _
        rw [hnext, hLj]
        simp only [List.length_append, List.length_singleton]
        omega
      have hk0 : 0 ≤ ((Ls.take j).flatten.length : Int) := by omega
      generalize hkk : k + ((Ls.take j).flatten.length : Int) = kk at *
      have hkk1 : 1 ≤ kk := by omega
      clear hkk
      obtain ⟨hs3, hs34⟩ := holds_app hhj
      obtain ⟨hH3, hH4⟩ := holds_app hs34
      obtain ⟨g0, -⟩ := hs3
      have g0' : w.cell? ⟨b, off + j * 3, none⟩ = some (.int .i64 kk) := g0
      have hbw := mlt g0'
      have f0 := (hbel.cell (p := ⟨b, off + j * 3, none⟩) hbw).trans g0'
      have HQ : Hid (∀ W, Below w.heap.size w W → W.cell? ⟨b, off + j * 3 + 1, none⟩ = some c3 ∧ W.cell? ⟨b, off + j * 3 + 2, none⟩ = some c4) := fun W hW => ⟨(hW.cell (p := ⟨b, off + j * 3 + 1, none⟩) hbw).trans hc3, (hW.cell (p := ⟨b, off + j * 3 + 2, none⟩) hbw).trans hc4⟩
      have HN : Hid (∀ W, Below w.heap.size w W → Calls Try.prog 42 #[c3, .int .i64 (kk + 1)] W fun e w' => e = .returned (.int .i64 (kk + 1 + L3.length)) ∧ Below W.heap.size W w') := fun W hW =>
        heldStringS_any L3 c3 _ W (hN.below hW) (by have := hH3.below hN.ok hW; simpa using this) (by omega) (by omega)
      have HR : Hid (∀ W, Below w.heap.size w W → Calls Try.prog 43 #[c4, .int .i64 (kk + 1 + L3.length)] W fun e w' => e = .returned (.int .i64 (kk + 1 + L3.length + L4.length)) ∧ Below W.heap.size W w') := fun W hW =>
        hn L4 c4 _ W (hR.below hW) (by have := hH4.below hR.ok hW; simpa using this) (by omega) (by omega)
      have hzr := hbel.size
      obtain ⟨na, nl, nc, rfl⟩ := hN.slice
      obtain ⟨ka, kl, kc, rfl⟩ := hR.slice
      obtain ⟨p3, p4⟩ := HQ.out _ hbel
      clear hN hR hc3 hc4 hi hok3 hnext hLj hle g0 g0' hhj hs34 hH3 hH4
      have hn0 : (kk != kk) = false := by simp
      go_wp2_with fail
      refine (HN.out _ hbel).mono ?_
      rintro e w2 ⟨rfl, hb2⟩
      have hb12 := below_step hbel hbel.size hb2
      obtain ⟨p3', p4'⟩ := HQ.out _ hb12
      clear hb2 p3 p4 f0
      go_wp2_with fail
      refine (HR.out _ hb12).mono ?_
      rintro e w3 ⟨rfl, hb3⟩
      have hb13 := below_step hb12 hb12.size hb3
      clear hb3 p3' p4'
      go_wp2_with fail
      go_roundw
      case rel => exact ⟨j + 1, by omega, by go_num, by rw [← HKn.out], hb13⟩
      case measure => simp [intOf]; omega
    · have HW : Hid (k + ((Ls.take j).flatten.length : Int) = k + (Ls.flatten.length : Int)) := by
        show _ = _
        rw [show j = Ls.length by omega, List.take_length]
      clear hi
      go_wp2_with fail
      go_ret
      exact ⟨ret_int HW.out, hbel⟩

theorem heldKindS_any : ∀ n, HeldKSaid n := by
  intro n
  induction n with
  | zero => exact heldK_zero
  | succ n ih => exact heldK_step n ih

set_option maxRecDepth 20000 in
set_option maxHeartbeats 1000000 in
theorem heldKind_any (n : Nat) (x0 : Int) (c3 c4 : Value) (L3 L4 : List Spot) (k : Int) (w : World) (h3 : SpN w c3 L3) (h4 : SpK w n c4 L4) (hh : Holds w (L3 ++ L4) k) (h0 : 1 ≤ k) (h1 : k + L3.length + L4.length ≤ 1000000000) :
    Calls Try.prog 15 #[.agg #[.int .i64 x0, c3, c4], .int .i64 k] w fun e w' => e = .returned (.int .i64 (k + L3.length + L4.length)) ∧ Below w.heap.size w w' := by
  obtain ⟨na, nl, nc, rfl⟩ := h3.slice
  obtain ⟨ka, kl, kc, rfl⟩ := h4.slice
  obtain ⟨hh3, hh4⟩ := holds_app hh
  have hb0 := (Below.refl w.heap.size w).alloc (Nat.le_refl _) (.cells #[.int .i64 x0, .slice na nl nc, .slice ka kl kc] 30)
  have HC : Hid (Calls Try.prog 42 _ _ _) := heldStringS_any L3 _ k _ (h3.below hb0) (hh3.below h3.ok hb0) h0 (by omega)
  have HR : Hid (∀ W, Below w.heap.size w W → Calls Try.prog 43 #[.slice ka kl kc, .int .i64 (k + L3.length)] W fun e w' => e = .returned (.int .i64 (k + L3.length + L4.length)) ∧ Below W.heap.size W w') := fun W hW =>
    heldKindS_any n L4 _ (k + L3.length) W (h4.below hW) (hh4.below h4.ok hW) (by omega) (by omega)
  have hx : (w.alloc (.cells #[.int .i64 x0, .slice na nl nc, .slice ka kl kc] 30)).cell? ⟨w.heap.size, 2, none⟩ = some (.slice ka kl kc) := by simp [go_sem]
  have e1 : ¬ k + (L3.length : Int) < 0 := by omega
  have e2 : ¬ k + (L3.length : Int) + (L4.length : Int) < 0 := by omega
  clear h3 h4 hh hh3 hh4
  go_enter Try.func15, Try.ntmps15
  go_wp2_with fail
  refine HC.out.mono ?_
  rintro e w1 ⟨rfl, hb1⟩
  have q4 := (hb1.cell (p := ⟨w.heap.size, 2, none⟩) (by show w.heap.size < _; simp)).trans hx
  have hbw1 := below_step hb0 (by simp) hb1
  have HC2 : Hid (Calls Try.prog 43 _ _ _) := HR.out w1 hbw1
  clear HC HR hb1
  go_wp2_with fail
  refine HC2.out.mono ?_
  rintro e w2 ⟨rfl, hb2⟩
  have hbw2 := below_step hbw1 hbw1.size hb2
  clear hb2 HC2
  go_wp2_with fail
  go_ret
  exact ⟨rfl, hbw2⟩

end Go.Proofs.Ytkaannpoldenkag
