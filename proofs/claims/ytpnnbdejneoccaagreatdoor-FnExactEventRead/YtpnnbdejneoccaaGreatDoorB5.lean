/-
  Several texts in one, in their order.
-/
import Derived.Test.YtpnnbdejneoccaaGreatDoorMark1
import Derived.Handy
import Derived.Test.YtpnnbdejneoccaaGreatDoorB1

/-
  Marks: on lists of lists.
-/
namespace Go.Proofs.YtpnnbdejneoccaaGreatDoor
open Go.RowKit

theorem SpN.slice {w : World} {v : Value} {L : List Spot} (h : SpN w v L) : ∃ a l c, v = .slice a l c := by
  obtain ⟨ao, cap, hv, -⟩ := h; exact ⟨_, _, _, hv⟩

theorem flatten_take {α : Type} (Ls : List (List α)) (j : Nat) (h : j < Ls.length) : (Ls.take (j + 1)).flatten = (Ls.take j).flatten ++ Ls[j] := by
  rw [List.take_succ_eq_append_getElem h, List.flatten_append, List.flatten_cons, List.flatten_nil, List.append_nil]

theorem flatten_take_len {α : Type} (Ls : List (List α)) (j : Nat) : (Ls.take j).flatten.length ≤ Ls.flatten.length := by
  have h : (Ls.take j ++ Ls.drop j).flatten.length = Ls.flatten.length := by rw [List.take_append_drop]
  rw [List.flatten_append, List.length_append] at h
  omega

theorem Wrote.snocI {L : List Spot} {k kk : Int} {w w1 : World} (h : Wrote L k w w1) (s : Spot) (hk : kk = k + L.length) (p : Addr) (v : Value) (hp : p = s.at) (hv : v = s.val kk) : Wrote (L ++ [s]) k w (w1.setCell p v) := by
  subst hk hp hv; exact h.snoc s

theorem SpN.below {w w' : World} {v : Value} {L : List Spot} (h : SpN w v L) (hb : Below w.heap.size w w') : SpN w' v L := h.sim ((Sim.refl w).below hb)
theorem Holds.below {w w' : World} {L : List Spot} {k : Int} (h : Holds w L k) (hL : ∀ s, s ∈ L → s.ok w) (hb : Below w.heap.size w w') : Holds w' L k :=
  h.keep (fun s hs => hb.cell (p := s.at) (Spot.ok_lt (hL s hs)))

theorem holds_take {w : World} {Ls : List (List Spot)} {k : Int} (h : Holds w Ls.flatten k) (j : Nat) (hj : j < Ls.length) : Holds w Ls[j] (k + ((Ls.take j).flatten.length : Int)) := by
  have e : Ls.flatten = (Ls.take j).flatten ++ (Ls[j] ++ (Ls.drop (j + 1)).flatten) := by
    have := List.take_append_drop j Ls
    rw [← List.flatten_cons, ← List.flatten_append, ← List.drop_eq_getElem_cons hj, this]
  rw [e] at h
  exact (holds_app (holds_app h).2).1

end Go.Proofs.YtpnnbdejneoccaaGreatDoor

/-
  Marks on trees: markTreeS, markTree.
-/
namespace Go.Proofs.YtpnnbdejneoccaaGreatDoor
open Go.RowKit

/-- The three spots of a tree that stands in a list. -/
def sp5 (b o : Nat) : List Spot := [⟨b, o, false⟩, ⟨b, o + 1, false⟩, ⟨b, o + 2, true⟩]

/-- The spots of a list of trees. -/
def SpR (w : World) : Nat → Value → List Spot → Prop
  | 0, v, L => ∃ ao cap, v = .slice ao 0 cap ∧ L = []
  | n + 1, v, L => ∃ (ao : Option Addr) (cap : Nat) (Ls : List (List Spot)), v = .slice ao Ls.length cap ∧ Ls.length ≤ maxLen ∧ L = Ls.flatten ∧
      ∀ i (h : i < Ls.length), ∃ b off c3 c4 L3 L4, ao = some ⟨b, off, none⟩ ∧ Ls[i] = sp5 b (off + i * 5) ++ (L3 ++ L4) ∧ (∀ s, s ∈ sp5 b (off + i * 5) → s.ok w) ∧
        w.cell? ⟨b, off + i * 5 + 3, none⟩ = some c3 ∧ w.cell? ⟨b, off + i * 5 + 4, none⟩ = some c4 ∧ SpN w c3 L3 ∧ SpR w n c4 L4

theorem SpR.slice {w : World} : ∀ {n : Nat} {v : Value} {L : List Spot}, SpR w n v L → ∃ a l c, v = .slice a l c := by
  intro n
  cases n with
  | zero => rintro v L ⟨ao, cap, hv, -⟩; exact ⟨_, _, _, hv⟩
  | succ n => rintro v L ⟨ao, cap, Ls, hv, -⟩; exact ⟨_, _, _, hv⟩

theorem SpR.sim {w w' : World} (hs : Sim w w') : ∀ {n : Nat} {v : Value} {L : List Spot}, SpR w n v L → SpR w' n v L := by
  intro n
  induction n with
  | zero => intro v L h; exact h
  | succ n ih =>
    rintro v L ⟨ao, cap, Ls, hv, hl, hL, hi⟩
    refine ⟨ao, cap, Ls, hv, hl, hL, fun i h => ?_⟩
    obtain ⟨b, off, c3, c4, L3, L4, ha, hLi, hok, h3, h4, hn, hr⟩ := hi i h
    refine ⟨b, off, c3, c4, L3, L4, ha, hLi, fun s hs' => Spot.ok_sim (hok s hs') hs, ?_, ?_, hn.sim hs, ih hr⟩
    · obtain ⟨a, l, c, rfl⟩ := hn.slice; exact hs.sl _ _ _ _ _ h3
    · obtain ⟨a, l, c, rfl⟩ := hr.slice; exact hs.sl _ _ _ _ _ h4

theorem SpR.ok {w : World} : ∀ {n : Nat} {v : Value} {L : List Spot}, SpR w n v L → ∀ s, s ∈ L → s.ok w := by
  intro n
  induction n with
  | zero => rintro v L ⟨ao, cap, hv, rfl⟩ s hs; cases hs
  | succ n ih =>
    rintro v L ⟨ao, cap, Ls, hv, hl, rfl, hi⟩ s hs
    obtain ⟨Li, hLi, hsLi⟩ := List.mem_flatten.1 hs
    obtain ⟨i, h, rfl⟩ := List.getElem_of_mem hLi
    obtain ⟨b, off, c3, c4, L3, L4, ha, hLi, hok, h3, h4, hn, hr⟩ := hi i h
    rw [hLi] at hsLi
    rcases List.mem_append.1 hsLi with h1 | h1
    · exact hok s h1
    · rcases List.mem_append.1 h1 with h2 | h2
      · exact hn.ok s h2
      · exact ih hr s h2

/-- markTreeS at rows of at most n levels. -/
def MarkSaid (n : Nat) : Prop := ∀ (L : List Spot) (v : Value) (k : Int) (w : World), SpR w n v L → 1 ≤ k → k + L.length ≤ 1000000000 →
  Calls Tryz.prog 45 #[v, .int .i64 k] w fun e w' => e = .returned (.int .i64 (k + L.length)) ∧ Wrote L k w w'

set_option maxHeartbeats 400000 in
theorem mark_zero : MarkSaid 0 := by
  intro L v k w h h0 h1
  obtain ⟨ao, cap, rfl, rfl⟩ := h
  have HP : Hid (Wrote [] k w w ∧ k = k + (([] : List Spot).length : Int)) := ⟨Wrote.refl k w, by simp⟩
  go_enter Tryz.func45, Tryz.ntmps45
  go_wp2_with fail
  go_rounds 1
  go_ret
  exact ⟨ret_int HP.out.2, HP.out.1⟩

set_option maxRecDepth 20000 in
set_option maxHeartbeats 2000000 in
theorem mark_step (n : Nat) (hn : MarkSaid n) : MarkSaid (n + 1) := by
  intro L v k w h h0 h1
  have hok := h.ok
  obtain ⟨ao, cap, Ls, rfl, hlen, rfl, hi⟩ := h
  unfold maxLen at hlen
  have HOK := hidF hok
  have HLen : Hid (∀ j, (Ls.take j).flatten.length ≤ Ls.flatten.length) := fun j => flatten_take_len Ls j
  have HB := hidF h1
  clear hok h1
  go_enter Tryz.func45, Tryz.ntmps45
  go_wp2_with fail
  go_loopw [1, 5] (fun a i wr => ∃ j : Nat, j ≤ Ls.length ∧ i = .int .i64 j ∧ a = .int .i64 (k + ((Ls.take j).flatten.length : Int)) ∧ Wrote (Ls.take j).flatten k w wr) (fun _ i _ => Ls.length - (intOf i).toNat)
  case atStart => exact ⟨0, Nat.zero_le _, rfl, by simp, by simpa using Wrote.refl k w⟩
  case round =>
    obtain ⟨j, hj, rfl, rfl, hwr⟩ := hrel
    by_cases hlt : j < Ls.length
    · obtain ⟨b, off, c3, c4, L3, L4, rfl, hLj, hok3, hc3, hc4, hN, hR⟩ := hi j hlt
      have hnext := flatten_take Ls j hlt
      have hle := HLen.out (j + 1)
      rw [hnext, hLj] at hle
      simp only [List.length_append] at hle
      have hsp : (sp5 b (off + j * 5)).length = 3 := rfl
      have hbd : k + ((Ls.take j).flatten.length : Int) + 3 + L3.length + L4.length ≤ 1000000000 := by have := HB.out; omega
      have hmem : ∀ s, s ∈ (Ls.take j).flatten → s.ok w := fun s hs => HOK.out s (by
        obtain ⟨Li, h1, h2⟩ := List.mem_flatten.1 hs
        exact List.mem_flatten.2 ⟨Li, List.mem_of_mem_take h1, h2⟩)
      obtain ⟨M, hM⟩ : ∃ M, M = (Ls.take j).flatten := ⟨_, rfl⟩
      rw [← hM] at hwr hmem hnext hbd ⊢
      clear hM
      have hsim := hwr.sim hmem
      have o0 := Spot.ok_sim (hok3 ⟨b, off + j * 5, false⟩ (by simp [sp5])) hsim
      have o1 := Spot.ok_sim (hok3 ⟨b, off + j * 5 + 1, false⟩ (by simp [sp5])) hsim
      have o2 := Spot.ok_sim (hok3 ⟨b, off + j * 5 + 2, true⟩ (by simp [sp5])) hsim
      obtain ⟨⟨x0, r0⟩, z0⟩ := o0
      obtain ⟨⟨x1, r1⟩, z1⟩ := o1
      obtain ⟨⟨x2, r2⟩, z2⟩ := o2
      simp only [Spot.at] at r0 r1 r2 z0 z1 z2
      generalize hkk : k + (M.length : Int) = kk at *
      have hkk1 : 1 ≤ kk := by omega
      have W1 := hwr.snocI ⟨b, off + j * 5, false⟩ hkk.symm ⟨b, off + j * 5, none⟩ (.int .i64 kk) rfl rfl
      have W2 := W1.snocI (kk := kk + 1) ⟨b, off + j * 5 + 1, false⟩ (by simp; omega) ⟨b, off + j * 5 + 1, none⟩ (.int .i64 (kk + 1)) rfl rfl
      have HW2 : Hid _ := W2
      have c2 : ((wr.setCell ⟨b, off + j * 5, none⟩ (.int .i64 kk)).setCell ⟨b, off + j * 5 + 1, none⟩ (.int .i64 (kk + 1))).cell? ⟨b, off + j * 5 + 2, none⟩ = some (.string x2) := by
        rw [World.cell?_setCell_other _ _ _ _ (by simp), World.cell?_setCell_other _ _ _ _ (by simp)]; exact r2
      have f2 : ((wr.setCell ⟨b, off + j * 5, none⟩ (.int .i64 kk)).setCell ⟨b, off + j * 5 + 1, none⟩ (.int .i64 (kk + 1))).frozen? ⟨b, off + j * 5 + 2, none⟩ = false := by
        rw [World.frozen?_setCell, World.frozen?_setCell]; exact z2
      have HC : Hid (Calls Tryz.prog 66 #[.int .i64 (kk + 1 + 1)] ((wr.setCell ⟨b, off + j * 5, none⟩ (.int .i64 kk)).setCell ⟨b, off + j * 5 + 1, none⟩ (.int .i64 (kk + 1))) fun e w' => e = .returned (.string (mt (kk + 1 + 1))) ∧
          w'.cell? ⟨b, off + j * 5 + 2, none⟩ = some (.string x2) ∧ w'.frozen? ⟨b, off + j * 5 + 2, none⟩ = false ∧ Wrote (M ++ sp5 b (off + j * 5)) k w (w'.setCell ⟨b, off + j * 5 + 2, none⟩ (.string (mt (kk + 1 + 1))))) := by
        refine (markText_any (kk + 1 + 1) _ (by omega) (by omega)).mono ?_
        rintro e w' ⟨rfl, hb⟩
        refine ⟨rfl, (hb.cell (p := ⟨b, off + j * 5 + 2, none⟩) (mlt (o := off + j * 5 + 2) c2)).trans c2, (hb.frozen (p := ⟨b, off + j * 5 + 2, none⟩) (mlt (o := off + j * 5 + 2) c2)).trans f2, ?_⟩
        have := (HW2.out.below hb).snocI (kk := kk + 1 + 1) ⟨b, off + j * 5 + 2, true⟩ (by simp; omega) ⟨b, off + j * 5 + 2, none⟩ (.string (mt (kk + 1 + 1))) rfl rfl
        simpa [sp5] using this
      have HOK3 : Hid (∀ s, s ∈ M ++ sp5 b (off + j * 5) → s.ok w) := fun s hs => by
        rcases List.mem_append.1 hs with h | h
        · exact hmem s h
        · exact hok3 s h
      have HN : Hid (SpN w c3 L3 ∧ SpR w n c4 L4 ∧ w.cell? ⟨b, off + j * 5 + 3, none⟩ = some c3 ∧ w.cell? ⟨b, off + j * 5 + 4, none⟩ = some c4) := ⟨hN, hR, hc3, hc4⟩
      obtain ⟨na, nl, nc, rfl⟩ := hN.slice
      obtain ⟨ka, kl, kc, rfl⟩ := hR.slice
      have HNx : Hid ((Ls.take (j + 1)).flatten = M ++ (sp5 b (off + j * 5) ++ (L3 ++ L4))) := by show _ = _; rw [hnext, hLj]
      have HKK := hidF hkk
      clear hN hR hc3 hc4 hi W1 W2 HW2 hsim hwr hok3 hmem hnext hLj hle c2 f2 r2 z2 hkk
      generalize mt (kk + 1 + 1) = tx at *
      go_wp2_with fail
      refine HC.out.mono ?_
      rintro e w3 ⟨rfl, hc3, hf3, hW3⟩
      have hs3 := hW3.sim HOK3.out
      have q3 := hs3.sl _ _ _ _ _ HN.out.2.2.1
      have HCN : Hid (Calls Tryz.prog 44 _ _ _) := markStringS_any L3 _ (kk + 1 + 1 + 1) _ (HN.out.1.sim hs3) (by omega) (by omega)
      have HW3 : Hid _ := hW3
      clear hs3 hW3 HC
      go_wp2_with fail
      refine HCN.out.mono ?_
      rintro e w5 ⟨rfl, hW5⟩
      have hW35 : Wrote (M ++ sp5 b (off + j * 5) ++ L3) k w w5 := HW3.out.trans (by
        rw [show k + ((M ++ sp5 b (off + j * 5)).length : Int) = kk + 1 + 1 + 1 by have := HKK.out; rw [List.length_append, hsp]; omega]; exact hW5)
      have HOK5 : Hid (∀ s, s ∈ M ++ sp5 b (off + j * 5) ++ L3 → s.ok w) := fun s hs => by
        rcases List.mem_append.1 hs with h | h
        · exact HOK3.out s h
        · exact HN.out.1.ok s h
      have hs5 := hW35.sim HOK5.out
      have q4 := hs5.sl _ _ _ _ _ HN.out.2.2.2
      have HCK : Hid (Calls Tryz.prog 45 _ _ _) := hn L4 _ (kk + 1 + 1 + 1 + L3.length) w5 (HN.out.2.1.sim hs5) (by omega) (by omega)
      have HW35 : Hid _ := hW35
      clear hs5 hW35 hW5 HW3 q3 hc3 hf3 HCN
      go_wp2_with fail
      refine HCK.out.mono ?_
      rintro e w6 ⟨rfl, hW6⟩
      have HW6 : Hid (Wrote (Ls.take (j + 1)).flatten k w w6) := by
        show Wrote _ _ _ _
        rw [HNx.out]
        have := HW35.out.trans (M := L4) (w2 := w6) (by
          rw [show k + ((M ++ sp5 b (off + j * 5) ++ L3).length : Int) = kk + 1 + 1 + 1 + (L3.length : Int) by have := HKK.out; rw [List.length_append, List.length_append, hsp]; omega]; exact hW6)
        simpa [List.append_assoc] using this
      have HKn : Hid (kk + 1 + 1 + 1 + (L3.length : Int) + (L4.length : Int) = k + ((Ls.take (j + 1)).flatten.length : Int)) := by
        show _ = _
        rw [HNx.out]
        have := HKK.out
        simp only [List.length_append, hsp]
        omega
      clear hW6 HW35 HCK q4
      go_wp2_with fail
      go_roundw
      case rel => exact ⟨j + 1, by omega, by go_num, by rw [HKn.out], HW6.out⟩
      case measure => simp [intOf]; omega
    · have HW : Hid (Wrote Ls.flatten k w wr ∧ k + ((Ls.take j).flatten.length : Int) = k + (Ls.flatten.length : Int)) := by
        rw [show j = Ls.length by omega, List.take_length] at hwr ⊢
        exact ⟨hwr, rfl⟩
      clear hi hwr
      go_wp2_with fail
      go_ret
      exact ⟨ret_int HW.out.2, HW.out.1⟩

theorem markTreeS_any : ∀ n, MarkSaid n := by
  intro n
  induction n with
  | zero => exact mark_zero
  | succ n ih => exact mark_step n ih

/-- heldTreeS at rows of at most n levels. -/
def HeldSaid (n : Nat) : Prop := ∀ (L : List Spot) (v : Value) (k : Int) (w : World), SpR w n v L → Holds w L k → 1 ≤ k → k + L.length ≤ 1000000000 →
  Calls Tryz.prog 47 #[v, .int .i64 k] w fun e w' => e = .returned (.int .i64 (k + L.length)) ∧ Below w.heap.size w w'

set_option maxHeartbeats 400000 in
theorem held_zero : HeldSaid 0 := by
  intro L v k w h _ h0 h1
  obtain ⟨ao, cap, rfl, rfl⟩ := h
  have HP : Hid (k = k + (([] : List Spot).length : Int)) := by show _ = _; simp
  go_enter Tryz.func47, Tryz.ntmps47
  go_wp2_with fail
  go_rounds 1
  go_ret
  exact ⟨ret_int HP.out, Below.refl _ _⟩

theorem SpR.below {w w' : World} {n : Nat} {v : Value} {L : List Spot} (h : SpR w n v L) (hb : Below w.heap.size w w') : SpR w' n v L := h.sim ((Sim.refl w).below hb)

set_option maxRecDepth 20000 in
set_option maxHeartbeats 2000000 in
theorem held_step (n : Nat) (hn : HeldSaid n) : HeldSaid (n + 1) := by
  intro L v k w h hh h0 h1
  have hok := h.ok
  obtain ⟨ao, cap, Ls, rfl, hlen, rfl, hi⟩ := h
  unfold maxLen at hlen
  have HOK := hidF hok
  have HH : Hid (Holds w Ls.flatten k) := hh
  have HLen : Hid (∀ j, (Ls.take j).flatten.length ≤ Ls.flatten.length) := fun j => flatten_take_len Ls j
  have HB := hidF h1
  clear hok hh h1
  go_enter Tryz.func47, Tryz.ntmps47
  go_wp2_with fail
  go_loopw [1, 5] (fun a i wr => ∃ j : Nat, j ≤ Ls.length ∧ i = .int .i64 j ∧ a = .int .i64 (k + ((Ls.take j).flatten.length : Int)) ∧ Below w.heap.size w wr) (fun _ i _ => Ls.length - (intOf i).toNat)
  case atStart => exact ⟨0, Nat.zero_le _, rfl, by simp, Below.refl _ _⟩
  case round =>
    obtain ⟨j, hj, rfl, rfl, hbel⟩ := hrel
    by_cases hlt : j < Ls.length
    · obtain ⟨b, off, c3, c4, L3, L4, rfl, hLj, hok3, hc3, hc4, hN, hR⟩ := hi j hlt
      have hnext := flatten_take Ls j hlt
      have hle := HLen.out (j + 1)
      rw [hnext, hLj] at hle
      simp only [List.length_append] at hle
      have hsp : (sp5 b (off + j * 5)).length = 3 := rfl
      have hbd : k + ((Ls.take j).flatten.length : Int) + 3 + L3.length + L4.length ≤ 1000000000 := by have := HB.out; omega
      have hhj := holds_take HH.out j hlt
      rw [hLj] at hhj
      have HKn : Hid (k + ((Ls.take j).flatten.length : Int) + 1 + 1 + 1 + (L3.length : Int) + (L4.length : Int) = k + ((Ls.take (j + 1)).flatten.length : Int)) := by
        show _ = _
        rw [hnext, hLj]
        simp only [List.length_append, hsp]
        omega
      have hk0 : 0 ≤ ((Ls.take j).flatten.length : Int) := by omega
      generalize hkk : k + ((Ls.take j).flatten.length : Int) = kk at *
      have hkk1 : 1 ≤ kk := by omega
      clear hkk
      obtain ⟨hs3, hs34⟩ := holds_app hhj
      obtain ⟨hH3, hH4⟩ := holds_app hs34
      rw [hsp] at hH3 hH4
      obtain ⟨g0, g1, g2, -⟩ := hs3
      have g0' : w.cell? ⟨b, off + j * 5, none⟩ = some (.int .i64 kk) := g0
      have g1' : w.cell? ⟨b, off + j * 5 + 1, none⟩ = some (.int .i64 (kk + 1)) := g1
      have g2' : w.cell? ⟨b, off + j * 5 + 2, none⟩ = some (.string (mt (kk + 1 + 1))) := g2
      have hbw := mlt g0'
      have f0 := (hbel.cell (p := ⟨b, off + j * 5, none⟩) hbw).trans g0'
      have f1 := (hbel.cell (p := ⟨b, off + j * 5 + 1, none⟩) hbw).trans g1'
      have f2 := (hbel.cell (p := ⟨b, off + j * 5 + 2, none⟩) hbw).trans g2'
      have HQ : Hid (∀ W, Below w.heap.size w W → W.cell? ⟨b, off + j * 5 + 3, none⟩ = some c3 ∧ W.cell? ⟨b, off + j * 5 + 4, none⟩ = some c4) := fun W hW => ⟨(hW.cell (p := ⟨b, off + j * 5 + 3, none⟩) hbw).trans hc3, (hW.cell (p := ⟨b, off + j * 5 + 4, none⟩) hbw).trans hc4⟩
      have HN : Hid (∀ W, Below w.heap.size w W → Calls Tryz.prog 46 #[c3, .int .i64 (kk + 1 + 1 + 1)] W fun e w' => e = .returned (.int .i64 (kk + 1 + 1 + 1 + L3.length)) ∧ Below W.heap.size W w') := fun W hW =>
        heldStringS_any L3 c3 _ W (hN.below hW) (by have := hH3.below hN.ok hW; rwa [show kk + ((3 : Nat) : Int) = kk + 1 + 1 + 1 by omega] at this) (by omega) (by omega)
      have HR : Hid (∀ W, Below w.heap.size w W → Calls Tryz.prog 47 #[c4, .int .i64 (kk + 1 + 1 + 1 + L3.length)] W fun e w' => e = .returned (.int .i64 (kk + 1 + 1 + 1 + L3.length + L4.length)) ∧ Below W.heap.size W w') := fun W hW =>
        hn L4 c4 _ W (hR.below hW) (by have := hH4.below hR.ok hW; rwa [show kk + ((3 : Nat) : Int) + (L3.length : Int) = kk + 1 + 1 + 1 + (L3.length : Int) by omega] at this) (by omega) (by omega)
      have hzr := hbel.size
      have HC : Hid (Calls Tryz.prog 66 #[.int .i64 (kk + 1 + 1)] wr.drew fun e w' => e = .returned (.string (mt (kk + 1 + 1))) ∧ Below w.heap.size w w' ∧ w'.cell? ⟨b, off + j * 5 + 2, none⟩ = some (.string (mt (kk + 1 + 1)))) := by
        refine (markText_any (kk + 1 + 1) wr.drew (by omega) (by omega)).mono ?_
        rintro e w' ⟨rfl, hb⟩
        have hb' : Below w.heap.size w w' := hbel.trans ((((Below.refl _ _).drew).trans hb).mono hzr)
        exact ⟨rfl, hb', (hb'.cell (p := ⟨b, off + j * 5 + 2, none⟩) hbw).trans g2'⟩
      obtain ⟨na, nl, nc, rfl⟩ := hN.slice
      obtain ⟨ka, kl, kc, rfl⟩ := hR.slice
      clear hN hR hc3 hc4 hi hok3 hnext hLj hle g0 g1 g2 g0' g1' g2' hhj hs34 hH3 hH4
      generalize mt (kk + 1 + 1) = tx at *
      have hn0 : (kk != kk) = false := by simp
      have hn1 : (kk + 1 != kk + 1) = false := by simp
      go_wp2_with fail
      go_region_law (go_simp; go_at_call 66; refine HC.out.mono ?_; rintro e w1 ⟨rfl, hb1, hc1⟩)
      all_goals
        obtain ⟨p3, p4⟩ := HQ.out _ hb1
        clear hc1 f0 f1 f2
        go_wp2_with fail
        refine (HN.out _ hb1).mono ?_
        rintro e w2 ⟨rfl, hb2⟩
        have hb12 := below_step hb1 hb1.size hb2
        obtain ⟨p3', p4'⟩ := HQ.out _ hb12
        clear hb2 p3 p4
        go_wp2_with fail
        refine (HR.out _ hb12).mono ?_
        rintro e w3 ⟨rfl, hb3⟩
        have hb13 := below_step hb12 hb12.size hb3
        clear hb3 p3' p4'
        go_wp2_with fail
        go_roundw
        case rel => exact ⟨j + 1, by omega, by go_num, by rw [← HKn.out], hb13⟩
        case measure => simp [intOf]; omega
    · have HW : Hid (k + ((Ls.take j).flatten.length : Int) = k + (Ls.flatten.length : Int)) := by
        show _ = _
        rw [show j = Ls.length by omega, List.take_length]
      clear hi
      go_wp2_with fail
      go_ret
      exact ⟨ret_int HW.out, hbel⟩

theorem heldTreeS_any : ∀ n, HeldSaid n := by
  intro n
  induction n with
  | zero => exact held_zero
  | succ n ih => exact held_step n ih

end Go.Proofs.YtpnnbdejneoccaaGreatDoor

/-
  What an answer owns: spots that no other has; rows of texts that a call has made.
-/
namespace Go.Proofs.YtpnnbdejneoccaaGreatDoor
open Go.RowKit

/-- Spots in blocks of P, none twice. -/
def Own (P : Nat → Prop) (L : List Spot) : Prop := (∀ s, s ∈ L → P s.b) ∧ L.Pairwise (fun a b => a.at ≠ b.at)

theorem Own.nil (P : Nat → Prop) : Own P [] := ⟨fun _ h => (by cases h), List.Pairwise.nil⟩
theorem Own.mono {P Q : Nat → Prop} {L : List Spot} (h : Own P L) (hq : ∀ b, P b → Q b) : Own Q L := ⟨fun s hs => hq _ (h.1 s hs), h.2⟩

theorem at_ne {a b : Spot} (h : a.b ≠ b.b) : a.at ≠ b.at := fun e => h (by simpa [Spot.at] using congrArg Addr.block e)

theorem Own.app {P Q R : Nat → Prop} {L M : List Spot} (h : Own P L) (k : Own Q M) (hp : ∀ b, P b → R b) (hq : ∀ b, Q b → R b) (hd : ∀ b, P b → Q b → False) : Own R (L ++ M) := by
  refine ⟨fun s hs => ?_, List.pairwise_append.2 ⟨h.2, k.2, fun a ha b hb => at_ne fun e => hd a.b (h.1 a ha) (by rw [e]; exact k.1 b hb)⟩⟩
  rcases List.mem_append.1 hs with h1 | h1
  · exact hp _ (h.1 s h1)
  · exact hq _ (k.1 s h1)

theorem Spot.ok_same {s : Spot} {w w' : World} (h : s.ok w) (hb : w'.heap[s.b]? = w.heap[s.b]?) : s.ok w' := by
  have e1 : w'.cell? s.at = w.cell? s.at := World.cell?_of_block (w := w) (w' := w') (a := s.at) hb
  have e2 : w'.frozen? s.at = w.frozen? s.at := by
    have : w'.heap[s.at.block]? = w.heap[s.at.block]? := hb
    simp only [World.frozen?, this]
  unfold Spot.ok
  rw [e1, e2]; exact h

theorem SpN.same {w w' : World} {v : Value} {L : List Spot} (h : SpN w v L) (hb : ∀ s, s ∈ L → w'.heap[s.b]? = w.heap[s.b]?) : SpN w' v L := by
  obtain ⟨ao, cap, hv, hl, ha, hk⟩ := h
  exact ⟨ao, cap, hv, hl, ha, fun s hs => Spot.ok_same (hk s hs) (hb s hs)⟩

theorem SpN.no (w : World) : SpN w (.slice none 0 0) [] := ⟨none, 0, rfl, by simp [maxLen], fun i h => absurd h (Nat.not_lt_zero _), fun _ h => (by cases h)⟩

/-- The spots of a row of texts that a call has made. -/
theorem spn_of_owns {w : World} {M : Nat} {e : TypeId} {v : Value} {l : List ByteArray} (h : w.ownsRow M e 1 v l.length (l.map .string)) (hl : l.length ≤ 20000) : ∃ L, SpN w v L ∧ L.length = l.length ∧ Own (fun b => v.ownBlock = some b) L := by
  rcases id h.2 with ⟨rfl, h0⟩ | ⟨g, cap, cur, rfl, hbg, hg, hnc, hcm, hcs, htake⟩
  · exact ⟨[], SpN.no w, by rw [h0]; rfl, Own.nil _⟩
  · refine ⟨(List.range l.length).map (fun i => (⟨g, 0 + i, true⟩ : Spot)), ⟨_, cap, by rw [List.length_map, List.length_range], by simp [maxLen]; omega, fun i hi => ⟨g, 0, rfl, by simp⟩, fun s hs => ?_⟩, by simp, fun s hs => ?_, ?_⟩
    · obtain ⟨i, hi, rfl⟩ := List.mem_map.1 hs
      have hi' := List.mem_range.1 hi
      have := h.cells (g := g) rfl i (.string l[i]) (by simp [hi'])
      rw [Addr.add_lit] at this
      exact ⟨⟨l[i], this⟩, by simp [World.frozen?, Spot.at, hg]⟩
    · obtain ⟨i, hi, rfl⟩ := List.mem_map.1 hs
      rfl
    · refine List.pairwise_map.2 (List.Pairwise.imp (fun {a b} hab e => ?_) List.pairwise_lt_range)
      have : 0 + a = 0 + b := by simpa [Spot.at] using congrArg Addr.off e
      omega

end Go.Proofs.YtpnnbdejneoccaaGreatDoor

/-
  Marks on a list of schemas, on a schema: markKindS, markKind.
-/
namespace Go.Proofs.YtpnnbdejneoccaaGreatDoor
open Go.RowKit

/-- The spots of a list of schemas. -/
def SpK (w : World) : Nat → Value → List Spot → Prop
  | 0, v, L => ∃ ao cap, v = .slice ao 0 cap ∧ L = []
  | n + 1, v, L => ∃ (ao : Option Addr) (cap : Nat) (Ls : List (List Spot)), v = .slice ao Ls.length cap ∧ Ls.length ≤ maxLen ∧ L = Ls.flatten ∧
      ∀ i (h : i < Ls.length), ∃ b off c3 c4 L3 L4, ao = some ⟨b, off, none⟩ ∧ Ls[i] = [⟨b, off + i * 3, false⟩] ++ (L3 ++ L4) ∧ (⟨b, off + i * 3, false⟩ : Spot).ok w ∧
        w.cell? ⟨b, off + i * 3 + 1, none⟩ = some c3 ∧ w.cell? ⟨b, off + i * 3 + 2, none⟩ = some c4 ∧ SpN w c3 L3 ∧ SpK w n c4 L4

theorem SpK.slice {w : World} : ∀ {n : Nat} {v : Value} {L : List Spot}, SpK w n v L → ∃ a l c, v = .slice a l c := by
  intro n
  cases n with
  | zero => rintro v L ⟨ao, cap, hv, -⟩; exact ⟨_, _, _, hv⟩
  | succ n => rintro v L ⟨ao, cap, Ls, hv, -⟩; exact ⟨_, _, _, hv⟩

theorem SpK.sim {w w' : World} (hs : Sim w w') : ∀ {n : Nat} {v : Value} {L : List Spot}, SpK w n v L → SpK w' n v L := by
  intro n
  induction n with
  | zero => intro v L h; exact h
  | succ n ih =>
    rintro v L ⟨ao, cap, Ls, hv, hl, hL, hi⟩
    refine ⟨ao, cap, Ls, hv, hl, hL, fun i h => ?_⟩
    obtain ⟨b, off, c3, c4, L3, L4, ha, hLi, hok, h3, h4, hn, hr⟩ := hi i h
    refine ⟨b, off, c3, c4, L3, L4, ha, hLi, Spot.ok_sim hok hs, ?_, ?_, hn.sim hs, ih hr⟩
    · obtain ⟨a, l, c, rfl⟩ := hn.slice; exact hs.sl _ _ _ _ _ h3
    · obtain ⟨a, l, c, rfl⟩ := hr.slice; exact hs.sl _ _ _ _ _ h4

theorem SpK.ok {w : World} : ∀ {n : Nat} {v : Value} {L : List Spot}, SpK w n v L → ∀ s, s ∈ L → s.ok w := by
  intro n
  induction n with
  | zero => rintro v L ⟨ao, cap, hv, rfl⟩ s hs; cases hs
  | succ n ih =>
    rintro v L ⟨ao, cap, Ls, hv, hl, rfl, hi⟩ s hs
    obtain ⟨Li, hLi, hsLi⟩ := List.mem_flatten.1 hs
    obtain ⟨i, h, rfl⟩ := List.getElem_of_mem hLi
    obtain ⟨b, off, c3, c4, L3, L4, ha, hLi, hok, h3, h4, hn, hr⟩ := hi i h
    rw [hLi] at hsLi
    rcases List.mem_append.1 hsLi with h1 | h1
    · rw [List.mem_singleton] at h1; subst h1; exact hok
    · rcases List.mem_append.1 h1 with h2 | h2
      · exact hn.ok s h2
      · exact ih hr s h2

theorem SpK.below {w w' : World} {n : Nat} {v : Value} {L : List Spot} (h : SpK w n v L) (hb : Below w.heap.size w w') : SpK w' n v L := h.sim ((Sim.refl w).below hb)

end Go.Proofs.YtpnnbdejneoccaaGreatDoor

/-
  Marks on a tree: markTree, heldTree.
-/
namespace Go.Proofs.YtpnnbdejneoccaaGreatDoor
open Go.RowKit

set_option maxRecDepth 20000 in
set_option maxHeartbeats 1000000 in
theorem markTree_any (n : Nat) (x0 x1 : Int) (x2 : ByteArray) (c3 c4 : Value) (L3 L4 : List Spot) (k : Int) (w : World) (h3 : SpN w c3 L3) (h4 : SpR w n c4 L4) (h0 : 1 ≤ k) (h1 : k + L3.length + L4.length ≤ 1000000000) :
    Calls Tryz.prog 18 #[.agg #[.int .i64 x0, .int .i64 x1, .string x2, c3, c4], .int .i64 k] w fun e w' => e = .returned (.int .i64 (k + L3.length + L4.length)) ∧ Wrote (L3 ++ L4) k w w' := by
  obtain ⟨na, nl, nc, rfl⟩ := h3.slice
  obtain ⟨ka, kl, kc, rfl⟩ := h4.slice
  have hb0 := (Below.refl w.heap.size w).alloc (Nat.le_refl _) (.cells #[.int .i64 x0, .int .i64 x1, .string x2, .slice na nl nc, .slice ka kl kc] 25)
  have h3' := h3.below hb0
  have HC : Hid (Calls Tryz.prog 44 _ _ _) := markStringS_any L3 _ k _ h3' h0 (by omega)
  have HR : Hid (SpR (w.alloc (.cells #[.int .i64 x0, .int .i64 x1, .string x2, .slice na nl nc, .slice ka kl kc] 25)) n (.slice ka kl kc) L4 ∧ ∀ s, s ∈ L3 → s.ok (w.alloc (.cells #[.int .i64 x0, .int .i64 x1, .string x2, .slice na nl nc, .slice ka kl kc] 25))) := ⟨h4.below hb0, h3'.ok⟩
  have hx : (w.alloc (.cells #[.int .i64 x0, .int .i64 x1, .string x2, .slice na nl nc, .slice ka kl kc] 25)).cell? ⟨w.heap.size, 4, none⟩ = some (.slice ka kl kc) := by simp [go_sem]
  clear h3 h4 h3'
  go_enter Tryz.func18, Tryz.ntmps18
  go_wp2_with fail
  refine HC.out.mono ?_
  rintro e w1 ⟨rfl, hW⟩
  have hs := hW.sim HR.out.2
  have q4 := hs.sl _ _ _ _ _ hx
  have HC2 : Hid (Calls Tryz.prog 45 _ _ _) := markTreeS_any n L4 _ (k + L3.length) w1 (HR.out.1.sim hs) (by omega) (by omega)
  have HW : Hid _ := hW
  clear hs hW HC HR
  go_wp2_with fail
  refine HC2.out.mono ?_
  rintro e w2 ⟨rfl, hW2⟩
  have HF : Hid (Wrote (L3 ++ L4) k w w2) := Wrote.from_below hb0 (HW.out.trans hW2)
  clear hW2 HW HC2
  go_wp2_with fail
  go_ret
  exact ⟨rfl, HF.out⟩

set_option maxRecDepth 20000 in
set_option maxHeartbeats 1000000 in
theorem heldTree_any (n : Nat) (x0 x1 : Int) (x2 : ByteArray) (c3 c4 : Value) (L3 L4 : List Spot) (k : Int) (w : World) (h3 : SpN w c3 L3) (h4 : SpR w n c4 L4) (hh : Holds w (L3 ++ L4) k) (h0 : 1 ≤ k) (h1 : k + L3.length + L4.length ≤ 1000000000) :
    Calls Tryz.prog 19 #[.agg #[.int .i64 x0, .int .i64 x1, .string x2, c3, c4], .int .i64 k] w fun e w' => e = .returned (.int .i64 (k + L3.length + L4.length)) ∧ Below w.heap.size w w' := by
  obtain ⟨na, nl, nc, rfl⟩ := h3.slice
  obtain ⟨ka, kl, kc, rfl⟩ := h4.slice
  obtain ⟨hh3, hh4⟩ := holds_app hh
  have hb0 := (Below.refl w.heap.size w).alloc (Nat.le_refl _) (.cells #[.int .i64 x0, .int .i64 x1, .string x2, .slice na nl nc, .slice ka kl kc] 25)
  have HC : Hid (Calls Tryz.prog 46 _ _ _) := heldStringS_any L3 _ k _ (h3.below hb0) (hh3.below h3.ok hb0) h0 (by omega)
  have HR : Hid (∀ W, Below w.heap.size w W → Calls Tryz.prog 47 #[.slice ka kl kc, .int .i64 (k + L3.length)] W fun e w' => e = .returned (.int .i64 (k + L3.length + L4.length)) ∧ Below W.heap.size W w') := fun W hW =>
    heldTreeS_any n L4 _ (k + L3.length) W (h4.below hW) (hh4.below h4.ok hW) (by omega) (by omega)
  have hx : (w.alloc (.cells #[.int .i64 x0, .int .i64 x1, .string x2, .slice na nl nc, .slice ka kl kc] 25)).cell? ⟨w.heap.size, 4, none⟩ = some (.slice ka kl kc) := by simp [go_sem]
  have e1 : ¬ k + (L3.length : Int) < 0 := by omega
  have e2 : ¬ k + (L3.length : Int) + (L4.length : Int) < 0 := by omega
  clear h3 h4 hh hh3 hh4
  go_enter Tryz.func19, Tryz.ntmps19
  go_wp2_with fail
  refine HC.out.mono ?_
  rintro e w1 ⟨rfl, hb1⟩
  have q4 := (hb1.cell (p := ⟨w.heap.size, 4, none⟩) (by show w.heap.size < _; simp)).trans hx
  have hbw1 := below_step hb0 (by simp) hb1
  have HC2 : Hid (Calls Tryz.prog 47 _ _ _) := HR.out w1 hbw1
  clear HC HR hb1
  go_wp2_with fail
  refine HC2.out.mono ?_
  rintro e w2 ⟨rfl, hb2⟩
  have hbw2 := below_step hbw1 hbw1.size hb2
  clear hb2 HC2
  go_wp2_with fail
  go_ret
  exact ⟨rfl, hbw2⟩

end Go.Proofs.YtpnnbdejneoccaaGreatDoor
