/-
  What an event that is answered owns; the panic that is caught.
-/
import Derived.Test.YtpnnbdejneoccaaGreatDoorB18
import Derived.Test.YtpnnbdejneoccaaGreatDoorB8
import Derived.Test.YtpnnbdejneoccaaGreatDoorB1
import Derived.Defers
import Derived.Recover
namespace Go.Proofs.YtpnnbdejneoccaaGreatDoor
open Go.RowKit

theorem okE_own {n : Nat} {x : ByteArray} {v : Int} {t : T n} (h : okE n x v t = true) : goodT n t 1 = true ∧ cntT n t ≤ 120 := by
  simp only [okE, Bool.and_eq_true, decide_eq_true_eq] at h
  have := h.2
  simp only [okT, Bool.and_eq_true, decide_eq_true_eq] at this
  exact ⟨this.1, this.2⟩

theorem Tryz.assertE_yes (w : World) : (Instr.typeAssert (.iface 76 (.agg #[])) 20 76 true).run Tryz.prog w = .ok (.tuple #[.agg #[], .bool true]) w := by kernel_rfl
theorem Tryz.assertE_nil (w : World) : (Instr.typeAssert .nilIface 20 76 true).run Tryz.prog w = .ok (.tuple #[.agg #[], .bool false]) w := by kernel_rfl

set_option maxHeartbeats 400000 in
theorem catchE_refusal (w : World) :
    CallsD Tryz.prog 51 #[] (.panicking [{ v := .iface 76 (.agg #[]), recovered := false }]) w fun e u' w' =>
      e = .returned (.tuple #[]) ∧ u' = .panicking [{ v := .iface 76 (.agg #[]), recovered := true }] ∧ w' = w := by
  have hta := Tryz.assertE_yes
  refine callsD_of_wpS Tryz.func51 rfl fun c₀ cs hu => ?_
  apply wpS_seq
  apply wpS_region
  simp [wpOpsS, go_sem, recoverD, hu, Tryz.ntmps51, Exit.thenS]
  refine wpS_of_wp ?_
  go_wp2
  exact ⟨rfl, _, rfl, .tuple #[], by simp [results, Tryz.results51], rfl, rfl, rfl⟩

set_option maxHeartbeats 400000 in
theorem catchE_nothing (w : World) :
    CallsD Tryz.prog 51 #[] .returning w fun e u' w' => e = .returned (.tuple #[]) ∧ u' = .returning ∧ w' = w := by
  have hta := Tryz.assertE_nil
  refine callsD_of_wpS Tryz.func51 rfl fun c₀ cs hu => ?_
  apply wpS_seq
  apply wpS_region
  simp [wpOpsS, go_sem, recoverD, hu, Tryz.ntmps51, Exit.thenS]
  refine wpS_of_wp ?_
  go_wp2
  exact ⟨rfl, _, by rw [← hu], .tuple #[], by simp [results, Tryz.results51], rfl, rfl, rfl⟩

theorem put7_near {R N : Nat} {w W : World} {g0 g1 g2 g3 g4 g5 g6 : Value} (hn : Near R w W) (hN : w.heap.size ≤ N) : Near R w (put7 W N g0 g1 g2 g3 g4 g5 g6) := by
  have hbl : Below 0 W (put7 W N g0 g1 g2 g3 g4 g5 g6) := put7_below (Below.refl 0 W) (Nat.zero_le _)
  exact ⟨hbl.os.trans hn.os, hbl.tape.trans hn.tape, hbl.output.trans hn.output, by rw [put7_size]; exact hn.size, fun b hb hne => (put7_other (by omega)).trans (hn.block b hb hne)⟩

/-- What an event that is answered owns. -/
def OwnA (P : Nat → Prop) (w : World) (n : Nat) (c3 c4 : Value) : Prop := ∃ L3 L4, SpN w c3 L3 ∧ SpR w (n - 1) c4 L4 ∧ Own P (L3 ++ L4) ∧ (L3 ++ L4).length ≤ 1000

theorem OwnA.keep {P P' : Nat → Prop} {w w' : World} {n : Nat} {c3 c4 : Value} (h : OwnA P w n c3 c4) (hb : ∀ b, P b → w'.heap[b]? = w.heap[b]?) (hP : ∀ b, P b → P' b) : OwnA P' w' n c3 c4 := by
  obtain ⟨L3, L4, h3, h4, ho, hl⟩ := h
  exact ⟨L3, L4, h3.same (fun s hs => hb _ (ho.1 s (List.mem_append_left _ hs))), h4.same (fun s hs => hb _ (ho.1 s (List.mem_append_right _ hs))), ho.mono hP, hl⟩

theorem OwnT.ans {P : Nat → Prop} {w : World} {n : Nat} {x : ByteArray} {v : Int} {t : T n} {c3 c4 : Value} (h : OwnT P w n t c3 c4) (ho : okE n x v t = true) : OwnA P w n c3 c4 := by
  obtain ⟨L3, L4, h3, h4, hw, hl⟩ := h
  have hg := okE_own ho
  have hs := spL_le n t 1 hg.1
  exact ⟨L3, L4, h3, h4, hw, by omega⟩

theorem OwnA.none (P : Nat → Prop) (w : World) (n : Nat) : OwnA P w n (.slice none 0 0) (.slice none 0 0) := ⟨[], [], SpN.no _, SpR.no _ _, Own.nil _, by simp⟩

end Go.Proofs.YtpnnbdejneoccaaGreatDoor
