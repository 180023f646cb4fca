/-
  Marks on a list of schemas, on a schema: markKindS, markKind.
-/
import Derived.Test.YtkaannpoldenkagB2
import Derived.Test.YtkaannpoldenkagKRep
namespace Go.Proofs.Ytkaannpoldenkag
open Go.RowKit

/-- The spots of a list of schemas. -/
def SpK (w : World) : Nat → Value → List Spot → Prop
  | 0, v, L => ∃ ao cap, v = .slice ao 0 cap ∧ L = []
  | n + 1, v, L => ∃ (ao : Option Addr) (cap : Nat) (Ls : List (List Spot)), v = .slice ao Ls.length cap ∧ Ls.length ≤ maxLen ∧ L = Ls.flatten ∧
      ∀ i (h : i < Ls.length), ∃ b off c3 c4 L3 L4, ao = some ⟨b, off, none⟩ ∧ Ls[i] = [⟨b, off + i * 3, false⟩] ++ (L3 ++ L4) ∧ (⟨b, off + i * 3, false⟩ : Spot).ok w ∧
        w.cell? ⟨b, off + i * 3 + 1, none⟩ = some c3 ∧ w.cell? ⟨b, off + i * 3 + 2, none⟩ = some c4 ∧ SpN w c3 L3 ∧ SpK w n c4 L4

theorem SpK.slice {w : World} : ∀ {n : Nat} {v : Value} {L : List Spot}, SpK w n v L → ∃ a l c, v = .slice a l c := by
  intro n
  cases n with
  | zero => rintro v L ⟨ao, cap, hv, -⟩; exact ⟨_, _, _, hv⟩
  | succ n => rintro v L ⟨ao, cap, Ls, hv, -⟩; exact ⟨_, _, _, hv⟩

theorem SpK.sim {w w' : World} (hs : Sim w w') : ∀ {n : Nat} {v : Value} {L : List Spot}, SpK w n v L → SpK w' n v L := by
  intro n
  induction n with
  | zero => intro v L h; exact h
  | succ n ih =>
    rintro v L ⟨ao, cap, Ls, hv, hl, hL, hi⟩
    refine ⟨ao, cap, Ls, hv, hl, hL, fun i h => ?_⟩
    obtain ⟨b, off, c3, c4, L3, L4, ha, hLi, hok, h3, h4, hn, hr⟩ := hi i h
    refine ⟨b, off, c3, c4, L3, L4, ha, hLi, Spot.ok_sim hok hs, ?_, ?_, hn.sim hs, ih hr⟩
    · obtain ⟨a, l, c, rfl⟩ := hn.slice; exact hs.sl _ _ _ _ _ h3
    · obtain ⟨a, l, c, rfl⟩ := hr.slice; exact hs.sl _ _ _ _ _ h4

theorem SpK.ok {w : World} : ∀ {n : Nat} {v : Value} {L : List Spot}, SpK w n v L → ∀ s, s ∈ L → s.ok w := by
  intro n
  induction n with
  | zero => rintro v L ⟨ao, cap, hv, rfl⟩ s hs; cases hs
  | succ n ih =>
    rintro v L ⟨ao, cap, Ls, hv, hl, rfl, hi⟩ s hs
    obtain ⟨Li, hLi, hsLi⟩ := List.mem_flatten.1 hs
    obtain ⟨i, h, rfl⟩ := List.getElem_of_mem hLi
    obtain ⟨b, off, c3, c4, L3, L4, ha, hLi, hok, h3, h4, hn, hr⟩ := hi i h
    rw [hLi] at hsLi
    rcases List.mem_append.1 hsLi with h1 | h1
    · rw [List.mem_singleton] at h1; subst h1; exact hok
    · rcases List.mem_append.1 h1 with h2 | h2
      · exact hn.ok s h2
      · exact ih hr s h2

/-- markKindS at rows of at most n levels. -/
def MarkKSaid (n : Nat) : Prop := ∀ (L : List Spot) (v : Value) (k : Int) (w : World), SpK w n v L → 1 ≤ k → k + L.length ≤ 1000000000 →
  Calls Try.prog 41 #[v, .int .i64 k] w fun e w' => e = .returned (.int .i64 (k + L.length)) ∧ Wrote L k w w'

set_option maxHeartbeats 400000 in
theorem markK_zero : MarkKSaid 0 := by
  intro L v k w h h0 h1
  obtain ⟨ao, cap, rfl, rfl⟩ := h
  have HP : Hid (Wrote [] k w w ∧ k = k + (([] : List Spot).length : Int)) := ⟨Wrote.refl k w, by simp⟩
  go_enter Try.func41, Try.ntmps41
  go_wp2_with fail
  go_rounds 1
  go_ret
  exact ⟨ret_int HP.out.2, HP.out.1⟩

set_option maxRecDepth 20000 in
set_option maxHeartbeats 2000000 in
theorem markK_step (n : Nat) (hn : MarkKSaid n) : MarkKSaid (n + 1) := by
  intro L v k w h h0 h1
  have hok := h.ok
  obtain ⟨ao, cap, Ls, rfl, hlen, rfl, hi⟩ := h
  unfold maxLen at hlen
  have HOK : Hid (∀ s, s ∈ Ls.flatten → s.ok w) := hok
  have HLen : Hid (∀ j, (Ls.take j).flatten.length ≤ Ls.flatten.length) := fun j => flatten_take_len Ls j
  have HB : Hid (k + (Ls.flatten.length : Int) ≤ 1000000000) := h1
  clear hok h1
  go_enter Try.func41, Try.ntmps41
  go_wp2_with fail
  go_loopw [1, 5] (fun a i wr => ∃ j : Nat, j ≤ Ls.length ∧ i = .int .i64 j ∧ a = .int .i64 (k + ((Ls.take j).flatten.length : Int)) ∧ Wrote (Ls.take j).flatten k w wr) (fun _ i _ => Ls.length - (intOf i).toNat)
  case atStart => exact ⟨0, Nat.zero_le _, rfl, by simp, by simpa using Wrote.refl k w⟩
  case round =>
    obtain ⟨j, hj, rfl, rfl, hwr⟩ := hrel
    by_cases hlt : j < Ls.length
    · obtain ⟨b, off, c3, c4, L3, L4, rfl, hLj, hok3, hc3, hc4, hN, hR⟩ := hi j hlt
      have hnext := flatten_take Ls j hlt
      have hle := HLen.out (j + 1)
      rw [hnext, hLj] at hle
      simp only [List.length_append, List.length_singleton] at hle
      have hbd : k + ((Ls.take j).flatten.length : Int) + 1 + L3.length + L4.length ≤ 1000000000 := by have := HB.out; omega
      have hmem : ∀ s, s ∈ (Ls.take j).flatten → s.ok w := fun s hs => HOK.out s (by
        obtain ⟨Li, h1, h2⟩ := List.mem_flatten.1 hs
        exact List.mem_flatten.2 ⟨Li, List.mem_of_mem_take h1, h2⟩)
      obtain ⟨M, hM⟩ : ∃ M, M = (Ls.take j).flatten := ⟨_, rfl⟩
      rw [← hM] at hwr hmem hnext hbd ⊢
      clear hM
      have hsim := hwr.sim hmem
      obtain ⟨⟨x0, r0⟩, z0⟩ := Spot.ok_sim hok3 hsim
      simp only [Spot.at] at r0 z0
      generalize hkk : k + (M.length : Int) = kk at *
      have hkk1 : 1 ≤ kk := by omega
      have W1 := hwr.snocI ⟨b, off + j * 3, false⟩ hkk.symm ⟨b, off + j * 3, none⟩ (.int .i64 kk) rfl rfl
      have HOK3 : Hid (∀ s, s ∈ M ++ [⟨b, off + j * 3, false⟩] → s.ok w) := fun s hs => by
        rcases List.mem_append.1 hs with h | h
        · exact hmem s h
        · rw [List.mem_singleton] at h; subst h; exact hok3
      have HN : Hid (SpN w c3 L3 ∧ SpK w n c4 L4 ∧ w.cell? ⟨b, off + j * 3 + 1, none⟩ = some c3 ∧ w.cell? ⟨b, off + j * 3 + 2, none⟩ = some c4) := ⟨hN, hR, hc3, hc4⟩
      obtain ⟨na, nl, nc, rfl⟩ := hN.slice
      obtain ⟨ka, kl, kc, rfl⟩ := hR.slice
      have HNx : Hid ((Ls.take (j + 1)).flatten = M ++ ([⟨b, off + j * 3, false⟩] ++ (L3 ++ L4))) := by show _ = _; rw [hnext, hLj]
      have HKK : Hid (k + (M.length : Int) = kk) := hkk
      have hs1 := W1.sim HOK3.out
      have q3 := hs1.sl _ _ _ _ _ hc3
      have HCN : Hid (Calls Try.prog 40 _ _ _) := markStringS_any L3 _ (kk + 1) _ (hN.sim hs1) (by omega) (by omega)
      have HW1 : Hid _ := W1
      clear hN hR hc3 hc4 hi W1 hsim hwr hok3 hmem hnext hLj hle hkk hs1
      go_wp2_with fail
      refine HCN.out.mono ?_
      rintro e w5 ⟨rfl, hW5⟩
      have hW35 : Wrote (M ++ [⟨b, off + j * 3, false⟩] ++ L3) k w w5 := HW1.out.trans (by
        rw [show k + ((M ++ [(⟨b, off + j * 3, false⟩ : Spot)]).length : Int) = kk + 1 by have := HKK.out; rw [List.length_append, List.length_singleton]; omega]; exact hW5)
      have HOK5 : Hid (∀ s, s ∈ M ++ [⟨b, off + j * 3, false⟩] ++ L3 → s.ok w) := fun s hs => by
        rcases List.mem_append.1 hs with h | h
        · exact HOK3.out s h
        · exact HN.out.1.ok s h
      have hs5 := hW35.sim HOK5.out
      have q4 := hs5.sl _ _ _ _ _ HN.out.2.2.2
      have HCK : Hid (Calls Try.prog 41 _ _ _) := hn L4 _ (kk + 1 + L3.length) w5 (HN.out.2.1.sim hs5) (by omega) (by omega)
      have HW35 : Hid _ := hW35
      clear hs5 hW35 hW5 HW1 q3 HCN
      go_wp2_with fail
      refine HCK.out.mono ?_
      rintro e w6 ⟨rfl, hW6⟩
      have HW6 : Hid (Wrote (Ls.take (j + 1)).flatten k w w6) := by
        show Wrote _ _ _ _
        rw [HNx.out]
        have := HW35.out.trans (M := L4) (w2 := w6) (by
          rw [show k + ((M ++ [(⟨b, off + j * 3, false⟩ : Spot)] ++ L3).length : Int) = kk + 1 + (L3.length : Int) by have := HKK.out; rw [List.length_append, List.length_append, List.length_singleton]; omega]; exact hW6)
        simpa [List.append_assoc] using this
      have HKn : Hid (kk + 1 + (L3.length : Int) + (L4.length : Int) = k + ((Ls.take (j + 1)).flatten.length : Int)) := by
        show _ = _
        rw [HNx.out]
        have := HKK.out
        simp only [List.length_append, List.length_singleton]
        omega
      clear hW6 HW35 HCK q4
      go_wp2_with fail
      go_roundw
      case rel => exact ⟨j + 1, by omega, by go_num, by rw [HKn.out], HW6.out⟩
      case measure => simp [intOf]; omega
    · have HW : Hid (Wrote Ls.flatten k w wr ∧ k + ((Ls.take j).flatten.length : Int) = k + (Ls.flatten.length : Int)) := by
        rw [show j = Ls.length by omega, List.take_length] at hwr ⊢
        exact ⟨hwr, rfl⟩
      clear hi hwr
      go_wp2_with fail
      go_ret
      exact ⟨ret_int HW.out.2, HW.out.1⟩

theorem markKindS_any : ∀ n, MarkKSaid n := by
  intro n
  induction n with
  | zero => exact markK_zero
  | succ n ih => exact markK_step n ih

theorem SpK.below {w w' : World} {n : Nat} {v : Value} {L : List Spot} (h : SpK w n v L) (hb : Below w.heap.size w w') : SpK w' n v L := h.sim ((Sim.refl w).below hb)

set_option maxRecDepth 20000 in
set_option maxHeartbeats 1000000 in
theorem markKind_any (n : Nat) (x0 : Int) (c3 c4 : Value) (L3 L4 : List Spot) (k : Int) (w : World) (h3 : SpN w c3 L3) (h4 : SpK w n c4 L4) (h0 : 1 ≤ k) (h1 : k + L3.length + L4.length ≤ 1000000000) :
    Calls Try.prog 14 #[.agg #[.int .i64 x0, c3, c4], .int .i64 k] w fun e w' => e = .returned (.int .i64 (k + L3.length + L4.length)) ∧ Wrote (L3 ++ L4) k w w' := by
  obtain ⟨na, nl, nc, rfl⟩ := h3.slice
  obtain ⟨ka, kl, kc, rfl⟩ := h4.slice
  have hb0 := (Below.refl w.heap.size w).alloc (Nat.le_refl _) (.cells #[.int .i64 x0, .slice na nl nc, .slice ka kl kc] 30)
  have h3' := h3.below hb0
  have HC : Hid (Calls Try.prog 40 _ _ _) := markStringS_any L3 _ k _ h3' h0 (by omega)
  have HR : Hid (SpK (w.alloc (.cells #[.int .i64 x0, .slice na nl nc, .slice ka kl kc] 30)) n (.slice ka kl kc) L4 ∧ ∀ s, s ∈ L3 → s.ok (w.alloc (.cells #[.int .i64 x0, .slice na nl nc, .slice ka kl kc] 30))) := ⟨h4.below hb0, h3'.ok⟩
  have hx : (w.alloc (.cells #[.int .i64 x0, .slice na nl nc, .slice ka kl kc] 30)).cell? ⟨w.heap.size, 2, none⟩ = some (.slice ka kl kc) := by simp [go_sem]
  clear h3 h4 h3'
  go_enter Try.func14, Try.ntmps14
  go_wp2_with fail
  refine HC.out.mono ?_
  rintro e w1 ⟨rfl, hW⟩
  have hs := hW.sim HR.out.2
  have q4 := hs.sl _ _ _ _ _ hx
  have HC2 : Hid (Calls Try.prog 41 _ _ _) := markKindS_any n L4 _ (k + L3.length) w1 (HR.out.1.sim hs) (by omega) (by omega)
  have HW : Hid _ := hW
  clear hs hW HC HR
  go_wp2_with fail
  refine HC2.out.mono ?_
  rintro e w2 ⟨rfl, hW2⟩
  have HF : Hid (Wrote (L3 ++ L4) k w w2) := Wrote.from_below hb0 (HW.out.trans hW2)
  clear hW2 HW HC2
  go_wp2_with fail
  go_ret
  exact ⟨rfl, HF.out⟩

end Go.Proofs.Ytkaannpoldenkag
