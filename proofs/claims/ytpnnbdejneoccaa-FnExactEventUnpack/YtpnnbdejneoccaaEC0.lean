/-
  The program's cursor over bytes: pass, take.
-/
import Derived.Test.YtpnnbdejneoccaaEP1
import Derived.Test.YtpnnbdejneoccaaB6
import Derived.RegionDies
import Derived.Deep.RegionLaw
import Derived.Laws.IdiomStrings
import Derived.Laws.BytesArg
import Derived.BigQuiet
import Derived.Lib.Hide
namespace Go.Proofs.Ytpnnbdejneoccaa
open Go.RowKit

/-- The cursor's block, and the bytes that it takes. -/
structure Cu (w : World) (R : Nat) (ao : Option Addr) (l : List UInt8) (cap i : Nat) : Prop where
  box : w.heap[R]? = some (.cells #[.int .i64 (i : Int), .slice ao l.length cap] 71 (0, 0))
  len : l.length ≤ 9000
  le : i ≤ l.length
  lc : l.length ≤ cap ∧ cap ≤ maxLen
  bytes : ∀ j (hj : j < l.length), ∃ b off, ao = some ⟨b, off, none⟩ ∧ b ≠ R ∧ w.cell? ⟨b, off + j, none⟩ = some (.int .u8 (l[j].toNat : Int))

theorem Cu.lt {w : World} {R : Nat} {ao : Option Addr} {l : List UInt8} {cap i : Nat} (h : Cu w R ao l cap i) : R < w.heap.size := (Array.getElem?_eq_some_iff.1 h.box).1

theorem Cu.keep {w w' : World} {R : Nat} {ao : Option Addr} {l : List UInt8} {cap i j : Nat} (h : Cu w R ao l cap i) (hn : Near R w w') (hb : w'.heap[R]? = some (.cells #[.int .i64 (j : Int), .slice ao l.length cap] 71 (0, 0))) (hj : j ≤ l.length) : Cu w' R ao l cap j :=
  ⟨hb, h.len, hj, h.lc, fun k hk => by
    obtain ⟨b, off, ha, hne, hc⟩ := h.bytes k hk
    exact ⟨b, off, ha, hne, hn.cell hc hne⟩⟩

theorem Cu.same {w w' : World} {R : Nat} {ao : Option Addr} {l : List UInt8} {cap i : Nat} (h : Cu w R ao l cap i) (hb : Below w.heap.size w w') : Cu w' R ao l cap i := h.keep (Near.of_below hb) ((hb.block R h.lt).trans h.box) h.le
theorem Cu.drewN {w : World} {R : Nat} {ao : Option Addr} {l : List UInt8} {cap i : Nat} (h : Cu w R ao l cap i) (n : Nat) : Cu (w.drewN n) R ao l cap i := ⟨h.box, h.len, h.le, h.lc, h.bytes⟩

theorem Cu.cells {w : World} {R : Nat} {ao : Option Addr} {l : List UInt8} {cap i : Nat} (h : Cu w R ao l cap i) : (w.cell? ⟨R, 0, none⟩ = some (.int .i64 (i : Int)) ∧ w.cell? ⟨R, 1, none⟩ = some (.slice ao l.length cap)) ∧ w.frozen? ⟨R, 0, none⟩ = false := by
  have hb := h.box
  refine ⟨⟨?_, ?_⟩, ?_⟩ <;> simp [World.cell?, World.frozen?, hb]

theorem Cu.setAt {w : World} {R : Nat} {ao : Option Addr} {l : List UInt8} {cap i : Nat} (h : Cu w R ao l cap i) (j : Nat) (hj : j ≤ l.length) : Cu (w.setCell ⟨R, 0, none⟩ (.int .i64 (j : Int))) R ao l cap j :=
  h.keep (Near.set R 0 w _) (by simp [World.setCell, Array.getElem?_modify, h.box]) hj

theorem nearC_drewN {R : Nat} {w w' : World} (h : Near R w w') (n : Nat) : Near R w (w'.drewN n) := ⟨h.os, h.tape, h.output, h.size, h.block⟩

set_option maxRecDepth 20000 in
set_option maxHeartbeats 1000000 in
theorem passC_any (w : World) (R : Nat) (ao : Option Addr) (l : List UInt8) (cap i n : Nat) (h : Cu w R ao l cap i) (hn : i + n ≤ l.length) :
    Calls Try.prog 65 #[.pointer (some ⟨R, 0, none⟩), .int .i64 (n : Int)] w fun e w' => e = .returned (.int .i64 (i : Int)) ∧ w' = w.setCell ⟨R, 0, none⟩ (.int .i64 ((i : Int) + (n : Int))) := by
  obtain ⟨⟨c0, c1⟩, g0⟩ := h.cells
  have hlen := h.len
  have hw : IntKind.i64.wrap ((i : Int) + (n : Int)) = (i : Int) + (n : Int) := by rw [IntKind.wrap_i64]; omega
  clear h
  go_enter Try.func65, Try.ntmps65
  go_wp2_with fail
  go_ret
  exact ⟨rfl, rfl⟩

/-- What taking a byte makes. -/
def TakePost (w : World) (R : Nat) (ao : Option Addr) (l : List UInt8) (cap i : Nat) (e : Ending) (w' : World) : Prop :=
  Near R w w' ∧ ((∃ h : i < l.length, e = .returned (.int .u8 (l[i].toNat : Int)) ∧ Cu w' R ao l cap (i + 1)) ∨ (l.length ≤ i ∧ e = .panicked refusal))

set_option maxRecDepth 20000 in
set_option maxHeartbeats 1000000 in
theorem takeC_any (w : World) (R : Nat) (ao : Option Addr) (l : List UInt8) (cap i : Nat) (h : Cu w R ao l cap i) :
    Calls Try.prog 56 #[.pointer (some ⟨R, 0, none⟩)] w (TakePost w R ao l cap i) := by
  obtain ⟨⟨c0, c1⟩, g0⟩ := h.cells
  have hle := h.le
  have hlen := h.len
  have HR := Lib.hid h
  by_cases hi : i < l.length
  case neg =>
    have HP : Hid (TakePost w R ao l cap i (.panicked refusal) w.drew) := ⟨⟨rfl, rfl, rfl, Nat.le_refl _, fun _ _ _ => rfl⟩, .inr ⟨by omega, rfl⟩⟩
    obtain ⟨ln, hln⟩ : ∃ ln, l.length = ln := ⟨_, rfl⟩
    rw [hln] at hi hle hlen c1
    have hge : ¬ (i : Int) < (ln : Int) := by omega
    have hge' : decide ((i : Int) < (ln : Int)) = false := decide_eq_false (by omega)
    clear h hln
    go_enter Try.func56, Try.ntmps56
    go_wp2_with fail
    go_region_dies
    all_goals (go_at_call 58; refine (demand_no _).mono ?_; rintro e w' ⟨rfl, rfl⟩; exact ⟨rfl, HP.out⟩)
  case pos =>
    obtain ⟨b, off, rfl, hne, hc⟩ := h.bytes i hi
    have hlt := l[i].toNat_lt
    have HF : Hid (∀ W, Near R w W → Cu W R (some ⟨b, off, none⟩) l cap (i + 1) → TakePost w R (some ⟨b, off, none⟩) l cap i (.returned (.int .u8 (l[i].toNat : Int))) W) := fun W hn hC => ⟨hn, .inl ⟨hi, rfl, hC⟩⟩
    have HPs : Hid (∀ n, Calls Try.prog 65 #[.pointer (some ⟨R, 0, none⟩), .int .i64 1] (w.drewN n) fun e w' => e = .returned (.int .i64 (i : Int)) ∧ w' = (w.drewN n).setCell ⟨R, 0, none⟩ (.int .i64 ((i : Int) + 1))) := fun n => passC_any (w.drewN n) R _ l cap i 1 (h.drewN n) (by omega)
    have HSt := Lib.hid (h.setAt (i + 1) (by omega))
    generalize l[i].toNat = v at *
    obtain ⟨ln, hln⟩ : ∃ ln, l.length = ln := ⟨_, rfl⟩
    rw [hln] at hi hle hlen c1
    have hge : (i : Int) < (ln : Int) := by omega
    have hge' : decide ((i : Int) < (ln : Int)) = true := decide_eq_true (by omega)
    clear h hln
    go_enter Try.func56, Try.ntmps56
    go_wp2_with fail
    go_quiet (first | (go_at_call 58; refine Calls.quiet_of_same (demand_yes _)))
    go_wp2_with fail
    obtain ⟨V, hV⟩ : ∃ V, V = w.drewN nq := ⟨_, rfl⟩
    have HPv : Hid (Calls Try.prog 65 #[.pointer (some ⟨R, 0, none⟩), .int .i64 1] V.drew fun e w' => e = .returned (.int .i64 (i : Int)) ∧ w' = V.drew.setCell ⟨R, 0, none⟩ (.int .i64 ((i : Int) + 1))) := by rw [hV]; exact HPs.out (nq + 1)
    have e1 : V.cell? ⟨R, 1, none⟩ = some (.slice (some ⟨b, off, none⟩) ln cap) := by rw [hV]; exact c1
    have e1' : (V.drew.setCell ⟨R, 0, none⟩ (.int .i64 ((i : Int) + 1))).cell? ⟨R, 1, none⟩ = some (.slice (some ⟨b, off, none⟩) ln cap) := (World.cell?_setCell_other _ _ _ _ (by simp)).trans e1
    have e2 : (V.drew.setCell ⟨R, 0, none⟩ (.int .i64 ((i : Int) + 1))).cell? ⟨b, off + i, none⟩ = some (.int .u8 (v : Int)) := by
      rw [hV]; exact (World.cell?_setCell_other _ _ _ _ (fun h => hne (by have := congrArg Addr.block h; simpa using this.symm))).trans hc
    have e3 : V.cell? ⟨b, off + i, none⟩ = some (.int .u8 (v : Int)) := by rw [hV]; exact hc
    have hne' : ¬ R = b := fun h => hne h.symm
    have HFin : Hid (TakePost w R (some ⟨b, off, none⟩) l cap i (.returned (.int .u8 (v : Int))) (V.drew.setCell ⟨R, 0, none⟩ (.int .i64 ((i : Int) + 1)))) := by
      rw [hV]
      refine HF.out _ ((nearC_drewN (Near.refl R w) (nq + 1)).trans (Near.set R 0 _ _)) ?_
      have h := (HR.out.drewN (nq + 1)).setAt (i + 1) (by have := HSt.out.le; omega)
      exact h
    rw [← hV]
    clear hV c0 c1 g0 hc HPs HF HSt HR
    go_region_law (first | (go_simp; go_at_call 65; refine HPv.out.mono ?_; rintro e w' ⟨rfl, rfl⟩))
    all_goals
      go_wp2_with fail
      go_ret
      exact HFin.out

end Go.Proofs.Ytpnnbdejneoccaa
