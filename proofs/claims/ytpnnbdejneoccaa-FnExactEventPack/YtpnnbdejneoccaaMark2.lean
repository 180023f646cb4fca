/-
  Marks on trees: markTreeS, markTree.
-/
import Derived.Test.YtpnnbdejneoccaaB3
namespace Go.Proofs.Ytpnnbdejneoccaa
open Go.RowKit

/-- The three spots of a tree that stands in a list. -/
def sp5 (b o : Nat) : List Spot := [⟨b, o, false⟩, ⟨b, o + 1, false⟩, ⟨b, o + 2, true⟩]

/-- The spots of a list of trees. -/
def SpR (w : World) : Nat → Value → List Spot → Prop
  | 0, v, L => ∃ ao cap, v = .slice ao 0 cap ∧ L = []
  | n + 1, v, L => ∃ (ao : Option Addr) (cap : Nat) (Ls : List (List Spot)), v = .slice ao Ls.length cap ∧ Ls.length ≤ maxLen ∧ L = Ls.flatten ∧
      ∀ i (h : i < Ls.length), ∃ b off c3 c4 L3 L4, ao = some ⟨b, off, none⟩ ∧ Ls[i] = sp5 b (off + i * 5) ++ (L3 ++ L4) ∧ (∀ s, s ∈ sp5 b (off + i * 5) → s.ok w) ∧
        w.cell? ⟨b, off + i * 5 + 3, none⟩ = some c3 ∧ w.cell? ⟨b, off + i * 5 + 4, none⟩ = some c4 ∧ SpN w c3 L3 ∧ SpR w n c4 L4

theorem SpR.slice {w : World} : ∀ {n : Nat} {v : Value} {L : List Spot}, SpR w n v L → ∃ a l c, v = .slice a l c := by
  intro n
  cases n with
  | zero => rintro v L ⟨ao, cap, hv, -⟩; exact ⟨_, _, _, hv⟩
  | succ n => rintro v L ⟨ao, cap, Ls, hv, -⟩; exact ⟨_, _, _, hv⟩

theorem SpR.sim {w w' : World} (hs : Sim w w') : ∀ {n : Nat} {v : Value} {L : List Spot}, SpR w n v L → SpR w' n v L := by
  intro n
  induction n with
  | zero => intro v L h; exact h
  | succ n ih =>
    rintro v L ⟨ao, cap, Ls, hv, hl, hL, hi⟩
    refine ⟨ao, cap, Ls, hv, hl, hL, fun i h => ?_⟩
    obtain ⟨b, off, c3, c4, L3, L4, ha, hLi, hok, h3, h4, hn, hr⟩ := hi i h
    refine ⟨b, off, c3, c4, L3, L4, ha, hLi, fun s hs' => Spot.ok_sim (hok s hs') hs, ?_, ?_, hn.sim hs, ih hr⟩
    · obtain ⟨a, l, c, rfl⟩ := hn.slice; exact hs.sl _ _ _ _ _ h3
    · obtain ⟨a, l, c, rfl⟩ := hr.slice; exact hs.sl _ _ _ _ _ h4

theorem SpR.ok {w : World} : ∀ {n : Nat} {v : Value} {L : List Spot}, SpR w n v L → ∀ s, s ∈ L → s.ok w := by
  intro n
  induction n with
  | zero => rintro v L ⟨ao, cap, hv, rfl⟩ s hs; cases hs
  | succ n ih =>
    rintro v L ⟨ao, cap, Ls, hv, hl, rfl, hi⟩ s hs
    obtain ⟨Li, hLi, hsLi⟩ := List.mem_flatten.1 hs
    obtain ⟨i, h, rfl⟩ := List.getElem_of_mem hLi
    obtain ⟨b, off, c3, c4, L3, L4, ha, hLi, hok, h3, h4, hn, hr⟩ := hi i h
    rw [hLi] at hsLi
    rcases List.mem_append.1 hsLi with h1 | h1
    · exact hok s h1
    · rcases List.mem_append.1 h1 with h2 | h2
      · exact hn.ok s h2
      · exact ih hr s h2

/-- markTreeS at rows of at most n levels. -/
def MarkSaid (n : Nat) : Prop := ∀ (L : List Spot) (v : Value) (k : Int) (w : World), SpR w n v L → 1 ≤ k → k + L.length ≤ 1000000000 →
  Calls Try.prog 52 #[v, .int .i64 k] w fun e w' => e = .returned (.int .i64 (k + L.length)) ∧ Wrote L k w w'

set_option maxHeartbeats 400000 in
theorem mark_zero : MarkSaid 0 := by
  intro L v k w h h0 h1
  obtain ⟨ao, cap, rfl, rfl⟩ := h
  have HP : Hid (Wrote [] k w w ∧ k = k + (([] : List Spot).length : Int)) := ⟨Wrote.refl k w, by simp⟩
  go_enter Try.func52, Try.ntmps52
  go_wp2_with fail
  go_rounds 1
  go_ret
  exact ⟨ret_int HP.out.2, HP.out.1⟩

set_option maxRecDepth 20000 in
set_option maxHeartbeats 2000000 in
theorem mark_step (n : Nat) (hn : MarkSaid n) : MarkSaid (n + 1) := by
  intro L v k w h h0 h1
  have hok := h.ok
  obtain ⟨ao, cap, Ls, rfl, hlen, rfl, hi⟩ := h
  unfold maxLen at hlen
  have HOK := hidF hok
  have HLen : Hid (∀ j, (Ls.take j).flatten.length ≤ Ls.flatten.length) := fun j => flatten_take_len Ls j
  have HB := hidF h1
  clear hok h1
  go_enter Try.func52, Try.ntmps52
  go_wp2_with fail
  go_loopw [1, 5] (fun a i wr => ∃ j : Nat, j ≤ Ls.length ∧ i = .int .i64 j ∧ a = .int .i64 (k + ((Ls.take j).flatten.length : Int)) ∧ Wrote (Ls.take j).flatten k w wr) (fun _ i _ => Ls.length - (intOf i).toNat)
  case atStart => exact ⟨0, Nat.zero_le _, rfl, by simp, by simpa using Wrote.refl k w⟩
  case round =>
    obtain ⟨j, hj, rfl, rfl, hwr⟩ := hrel
    by_cases hlt : j < Ls.length
    · obtain ⟨b, off, c3, c4, L3, L4, rfl, hLj, hok3, hc3, hc4, hN, hR⟩ := hi j hlt
      have hnext := flatten_take Ls j hlt
      have hle := HLen.out (j + 1)
      rw [hnext, hLj] at hle
      simp only [List.length_append] at hle
      have hsp : (sp5 b (off + j * 5)).length = 3 := rfl
      have hbd : k + ((Ls.take j).flatten.length : Int) + 3 + L3.length + L4.length ≤ 1000000000 := by have := HB.out; omega
      have hmem : ∀ s, s ∈ (Ls.take j).flatten → s.ok w := fun s hs => HOK.out s (by
        obtain ⟨Li, h1, h2⟩ := List.mem_flatten.1 hs
        exact List.mem_flatten.2 ⟨Li, List.mem_of_mem_take h1, h2⟩)
      obtain ⟨M, hM⟩ : ∃ M, M = (Ls.take j).flatten := ⟨_, rfl⟩
      rw [← hM] at hwr hmem hnext hbd ⊢
      clear hM
      have hsim := hwr.sim hmem
      have o0 := Spot.ok_sim (hok3 ⟨b, off + j * 5, false⟩ (by simp [sp5])) hsim
      have o1 := Spot.ok_sim (hok3 ⟨b, off + j * 5 + 1, false⟩ (by simp [sp5])) hsim
      have o2 := Spot.ok_sim (hok3 ⟨b, off + j * 5 + 2, true⟩ (by simp [sp5])) hsim
      obtain ⟨⟨x0, r0⟩, z0⟩ := o0
      obtain ⟨⟨x1, r1⟩, z1⟩ := o1
      obtain ⟨⟨x2, r2⟩, z2⟩ := o2
      simp only [Spot.at] at r0 r1 r2 z0 z1 z2
      generalize hkk : k + (M.length : Int) = kk at *
      have hkk1 : 1 ≤ kk := by omega
      have W1 := hwr.snocI ⟨b, off + j * 5, false⟩ hkk.symm ⟨b, off + j * 5, none⟩ (.int .i64 kk) rfl rfl
      have W2 := W1.snocI (kk := kk + 1) ⟨b, off + j * 5 + 1, false⟩ (by simp; omega) ⟨b, off + j * 5 + 1, none⟩ (.int .i64 (kk + 1)) rfl rfl
      have HW2 : Hid _ := W2
      have c2 : ((wr.setCell ⟨b, off + j * 5, none⟩ (.int .i64 kk)).setCell ⟨b, off + j * 5 + 1, none⟩ (.int .i64 (kk + 1))).cell? ⟨b, off + j * 5 + 2, none⟩ = some (.string x2) := by
        rw [World.cell?_setCell_other _ _ _ _ (by simp), World.cell?_setCell_other _ _ _ _ (by simp)]; exact r2
      have f2 : ((wr.setCell ⟨b, off + j * 5, none⟩ (.int .i64 kk)).setCell ⟨b, off + j * 5 + 1, none⟩ (.int .i64 (kk + 1))).frozen? ⟨b, off + j * 5 + 2, none⟩ = false := by
        rw [World.frozen?_setCell, World.frozen?_setCell]; exact z2
      have HC : Hid (Calls Try.prog 68 #[.int .i64 (kk + 1 + 1)] ((wr.setCell ⟨b, off + j * 5, none⟩ (.int .i64 kk)).setCell ⟨b, off + j * 5 + 1, none⟩ (.int .i64 (kk + 1))) fun e w' => e = .returned (.string (mt (kk + 1 + 1))) ∧
          w'.cell? ⟨b, off + j * 5 + 2, none⟩ = some (.string x2) ∧ w'.frozen? ⟨b, off + j * 5 + 2, none⟩ = false ∧ Wrote (M ++ sp5 b (off + j * 5)) k w (w'.setCell ⟨b, off + j * 5 + 2, none⟩ (.string (mt (kk + 1 + 1))))) := by
        refine (markText_any (kk + 1 + 1) _ (by omega) (by omega)).mono ?_
        rintro e w' ⟨rfl, hb⟩
        refine ⟨rfl, (hb.cell (p := ⟨b, off + j * 5 + 2, none⟩) (mlt (o := off + j * 5 + 2) c2)).trans c2, (hb.frozen (p := ⟨b, off + j * 5 + 2, none⟩) (mlt (o := off + j * 5 + 2) c2)).trans f2, ?_⟩
        have := (HW2.out.below hb).snocI (kk := kk + 1 + 1) ⟨b, off + j * 5 + 2, true⟩ (by simp; omega) ⟨b, off + j * 5 + 2, none⟩ (.string (mt (kk + 1 + 1))) rfl rfl
        simpa [sp5] using this
      have HOK3 : Hid (∀ s, s ∈ M ++ sp5 b (off + j * 5) → s.ok w) := fun s hs => by
        rcases List.mem_append.1 hs with h | h
        · exact hmem s h
        · exact hok3 s h
      have HN : Hid (SpN w c3 L3 ∧ SpR w n c4 L4 ∧ w.cell? ⟨b, off + j * 5 + 3, none⟩ = some c3 ∧ w.cell? ⟨b, off + j * 5 + 4, none⟩ = some c4) := ⟨hN, hR, hc3, hc4⟩
      obtain ⟨na, nl, nc, rfl⟩ := hN.slice
      obtain ⟨ka, kl, kc, rfl⟩ := hR.slice
      have HNx : Hid ((Ls.take (j + 1)).flatten = M ++ (sp5 b (off + j * 5) ++ (L3 ++ L4))) := by show _ = _; rw [hnext, hLj]
      have HKK := hidF hkk
      clear hN hR hc3 hc4 hi W1 W2 HW2 hsim hwr hok3 hmem hnext hLj hle c2 f2 r2 z2 hkk
      generalize mt (kk + 1 + 1) = tx at *
      go_wp2_with fail
      refine HC.out.mono ?_
      rintro e w3 ⟨rfl, hc3, hf3, hW3⟩
      have hs3 := hW3.sim HOK3.out
      have q3 := hs3.sl _ _ _ _ _ HN.out.2.2.1
      have HCN : Hid (Calls Try.prog 51 _ _ _) := markStringS_any L3 _ (kk + 1 + 1 + 1) _ (HN.out.1.sim hs3) (by omega) (by omega)
      have HW3 : Hid _ := hW3
      clear hs3 hW3 HC
      go_wp2_with fail
      refine HCN.out.mono ?_
      rintro e w5 ⟨rfl, hW5⟩
      have hW35 : Wrote (M ++ sp5 b (off + j * 5) ++ L3) k w w5 := HW3.out.trans (by
        rw [show k + ((M ++ sp5 b (off + j * 5)).length : Int) = kk + 1 + 1 + 1 by have := HKK.out; rw [List.length_append, hsp]; omega]; exact hW5)
      have HOK5 : Hid (∀ s, s ∈ M ++ sp5 b (off + j * 5) ++ L3 → s.ok w) := fun s hs => by
        rcases List.mem_append.1 hs with h | h
        · exact HOK3.out s h
        · exact HN.out.1.ok s h
      have hs5 := hW35.sim HOK5.out
      have q4 := hs5.sl _ _ _ _ _ HN.out.2.2.2
      have HCK : Hid (Calls Try.prog 52 _ _ _) := hn L4 _ (kk + 1 + 1 + 1 + L3.length) w5 (HN.out.2.1.sim hs5) (by omega) (by omega)
      have HW35 : Hid _ := hW35
      clear hs5 hW35 hW5 HW3 q3 hc3 hf3 HCN
      go_wp2_with fail
      refine HCK.out.mono ?_
      rintro e w6 ⟨rfl, hW6⟩
      have HW6 : Hid (Wrote (Ls.take (j + 1)).flatten k w w6) := by
        show Wrote _ _ _ _
        rw [HNx.out]
        have := HW35.out.trans (M := L4) (w2 := w6) (by
          rw [show k + ((M ++ sp5 b (off + j * 5) ++ L3).length : Int) = kk + 1 + 1 + 1 + (L3.length : Int) by have := HKK.out; rw [List.length_append, List.length_append, hsp]; omega]; exact hW6)
        simpa [List.append_assoc] using this
      have HKn : Hid (kk + 1 + 1 + 1 + (L3.length : Int) + (L4.length : Int) = k + ((Ls.take (j + 1)).flatten.length : Int)) := by
        show _ = _
        rw [HNx.out]
        have := HKK.out
        simp only [List.length_append, hsp]
        omega
      clear hW6 HW35 HCK q4
      go_wp2_with fail
      go_roundw
      case rel => exact ⟨j + 1, by omega, by go_num, by rw [HKn.out], HW6.out⟩
      case measure => simp [intOf]; omega
    · have HW : Hid (Wrote Ls.flatten k w wr ∧ k + ((Ls.take j).flatten.length : Int) = k + (Ls.flatten.length : Int)) := by
        rw [show j = Ls.length by omega, List.take_length] at hwr ⊢
        exact ⟨hwr, rfl⟩
      clear hi hwr
      go_wp2_with fail
      go_ret
      exact ⟨ret_int HW.out.2, HW.out.1⟩

theorem markTreeS_any : ∀ n, MarkSaid n := by
  intro n
  induction n with
  | zero => exact mark_zero
  | succ n ih => exact mark_step n ih

theorem SpR.below {w w' : World} {n : Nat} {v : Value} {L : List Spot} (h : SpR w n v L) (hb : Below w.heap.size w w') : SpR w' n v L := h.sim ((Sim.refl w).below hb)

end Go.Proofs.Ytpnnbdejneoccaa
