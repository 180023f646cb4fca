/-
  The program's writer of events: its block, a byte put.
-/
import Derived.Test.YtpnnbdejneoccaaEB0
import Derived.Test.YtpnnbdejneoccaaNear
import Derived.Test.YtpnnbdejneoccaaB1
import Derived.Deep.OwnRows
import Derived.Deep.RegionHeld
import Derived.Deep.RegionLaw
namespace Go.Proofs.Ytpnnbdejneoccaa
open Go.RowKit

/-- The writer's block: how many bytes, then these. -/
def Wr (w : World) (R : Nat) (l : List UInt8) : Prop :=
  ∃ F, w.rowIs R 56 9001 F ∧ F 0 = .int .i64 (l.length : Int) ∧ ∀ i (h : i < l.length), F (i + 1) = .int .u8 (l[i].toNat : Int)

theorem Wr.lt {w : World} {R : Nat} {l : List UInt8} (h : Wr w R l) : R < w.heap.size := by obtain ⟨F, h, -⟩ := h; exact h.lt
theorem Wr.keep {w w' : World} {R : Nat} {l : List UInt8} (h : Wr w R l) (e : w'.heap[R]? = w.heap[R]?) : Wr w' R l := by obtain ⟨F, h, r⟩ := h; exact ⟨F, h.of_block e, r⟩
theorem Wr.below {w w' : World} {R : Nat} {l : List UInt8} (h : Wr w R l) (hb : Below w.heap.size w w') : Wr w' R l := h.keep (hb.block R h.lt)
theorem Wr.count {w : World} {R : Nat} {l : List UInt8} (h : Wr w R l) : w.cell? ⟨R, 0, none⟩ = some (.int .i64 (l.length : Int)) ∧ w.frozen? ⟨R, 0, none⟩ = false := by
  obtain ⟨F, h, h0, -⟩ := h
  exact ⟨(h.cell (by omega)).trans (by rw [h0]), h.frozen 0⟩
theorem Wr.free {w : World} {R : Nat} {l : List UInt8} (h : Wr w R l) (i : Nat) (hi : i < 9001) : (∃ v, w.cell? ⟨R, i, none⟩ = some v) ∧ w.frozen? ⟨R, i, none⟩ = false := by
  obtain ⟨F, h, -⟩ := h
  exact ⟨⟨_, h.cell hi⟩, h.frozen i⟩

theorem Wr.put {w : World} {R : Nat} {l : List UInt8} (h : Wr w R l) (d : UInt8) : Wr ((w.setCell ⟨R, 0, none⟩ (.int .i64 ((l.length : Int) + 1))).setCell ⟨R, 1 + l.length, none⟩ (.int .u8 (d.toNat : Int))) R (l ++ [d]) := by
  obtain ⟨F, h, h0, hF⟩ := h
  refine ⟨_, (h.set 0 (.int .i64 ((l.length : Int) + 1))).set (1 + l.length) (.int .u8 (d.toNat : Int)), ?_, fun i hi => ?_⟩
  · show (if 0 = 1 + l.length then _ else if 0 = 0 then _ else _) = _
    rw [if_neg (by omega), if_pos rfl]
    simp
  · show (if i + 1 = 1 + l.length then _ else if i + 1 = 0 then _ else F (i + 1)) = _
    by_cases e : i + 1 = 1 + l.length
    · rw [if_pos e]
      have : i = l.length := by omega
      subst this
      simp
    · rw [if_neg e, if_neg (by omega)]
      have hi' : i < l.length := by simp at hi; omega
      rw [hF i hi', List.getElem_append_left hi']

set_option maxHeartbeats 1000000 in
theorem pass_any (R : Nat) (c k : Int) (w : World) (h0 : w.cell? ⟨R, 0, none⟩ = some (.int .i64 c)) (hf : w.frozen? ⟨R, 0, none⟩ = false) (hc : 0 ≤ c ∧ c ≤ 100000) (hk : 0 ≤ k ∧ k ≤ 100000) :
    Calls Try.prog 65 #[.pointer (some ⟨R, 0, none⟩), .int .i64 k] w fun e w' => e = .returned (.int .i64 c) ∧ w' = w.setCell ⟨R, 0, none⟩ (.int .i64 (c + k)) := by
  have h1 := hc.1
  have h2 := hc.2
  have h3 := hk.1
  have h4 := hk.2
  clear hc hk
  go_enter Try.func65, Try.ntmps65
  go_wp2_with fail
  go_ret
  exact ⟨rfl, rfl⟩

set_option maxRecDepth 20000 in
set_option maxHeartbeats 2000000 in
theorem put_any (R : Nat) (l : List UInt8) (d : UInt8) (w : World) (h : Wr w R l) (hl : l.length < 9000) :
    Calls Try.prog 46 #[.pointer (some ⟨R, 0, none⟩), .int .u8 (d.toNat : Int)] w fun e w' => e = .returned (.tuple #[]) ∧ Wr w' R (l ++ [d]) ∧ Near R w w' := by
  obtain ⟨q0, q1⟩ := h.count
  obtain ⟨⟨v, q2⟩, q3⟩ := h.free (1 + l.length) (by omega)
  have HW := Lib.hid h
  have HP : Hid (∀ W : World, W.heap = w.heap → Calls Try.prog 65 #[.pointer (some ⟨R, 0, none⟩), .int .i64 1] W fun e w' => e = .returned (.int .i64 (l.length : Int)) ∧ w' = W.setCell ⟨R, 0, none⟩ (.int .i64 ((l.length : Int) + 1))) := fun W hW => by
    refine pass_any R _ _ W ?_ ?_ (by omega) (by omega)
    · simp only [World.cell?, hW] at q0 ⊢; exact q0
    · simp only [World.frozen?, hW] at q1 ⊢; exact q1
  generalize hln : l.length = ln at *
  have HL := Lib.hid hln
  have hli : (ln : Int) < 9000 := by omega
  have q2' : (w.setCell ⟨R, 0, none⟩ (.int .i64 ((ln : Int) + 1))).cell? ⟨R, 1 + ln, none⟩ = some v := (World.cell?_setCell_other _ _ _ _ (by simp)).trans q2
  have q3' : (w.setCell ⟨R, 0, none⟩ (.int .i64 ((ln : Int) + 1))).frozen? ⟨R, 1 + ln, none⟩ = false := by simpa using q3
  clear h hln
  go_enter Try.func46, Try.ntmps46
  go_region_law (go_simp; go_at_call 65; refine (HP.out w.drew rfl).mono ?_; rintro e w1 ⟨rfl, rfl⟩)
  all_goals
    have HF : Hid (Wr ((w.setCell ⟨R, 0, none⟩ (.int .i64 ((ln : Int) + 1))).setCell ⟨R, 1 + ln, none⟩ (.int .u8 (d.toNat : Int))) R (l ++ [d])) := by
      have h := HW.out.put d
      rw [HL.out] at h
      exact h
    have HN : Hid (Near R w ((w.setCell ⟨R, 0, none⟩ (.int .i64 ((ln : Int) + 1))).setCell ⟨R, 1 + ln, none⟩ (.int .u8 (d.toNat : Int)))) := (Near.set R 0 w _).trans (Near.set R (1 + ln) _ _)
    go_wp2_with fail
    refine bodyPost_end (results_none rfl _ _ _) rfl ?_
    exact ⟨rfl, HF.out.keep rfl, HN.out.drew⟩

end Go.Proofs.Ytpnnbdejneoccaa
