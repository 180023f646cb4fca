/-
  What the specification draws: of; of, of a row laid for it.
-/
import Derived.Test.YtpalkdcgbbbmeaaGreatDoorDRd
namespace Go.Proofs.YtpalkdcgbbbmeaaGreatDoor
open Go.RowKit

set_option maxRecDepth 20000 in
set_option maxHeartbeats 400000 in
theorem of_any (w : World) (R : Nat) (ao : Option Addr) (L cap p : Nat) (h : Dr w R ao L cap p) (hp : p ≤ 1000000) (b off n c : Nat) (hn : 1 ≤ n) (hn2 : n ≤ 1000000) (hbR : b ≠ R) (hc : ∀ j, j < n → ∃ s : ByteArray, s.size ≤ 10000 ∧ w.cell? ⟨b, off + j, none⟩ = some (.string s)) :
    Calls Tryz.prog 62 #[.pointer (some ⟨R, 0, none⟩), .slice (some ⟨b, off, none⟩) n c] w fun e w' => ∃ s : ByteArray, e = .returned (.string s) ∧ s.size ≤ 10000 ∧ Near R w w' ∧ Dr w' R ao L cap (p + 1) := by
  have HPk : Hid (Calls Tryz.prog 25 #[.pointer (some ⟨R, 0, none⟩), .int .i64 (n : Int)] w (PickPost w R ao L cap p n)) := pick_any w R ao L cap p n h hp hn hn2
  have HC : Hid (∀ j, j < n → ∃ s : ByteArray, s.size ≤ 10000 ∧ w.cell? ⟨b, off + j, none⟩ = some (.string s)) := hc
  clear h hc
  go_enter Tryz.func62, Tryz.ntmps62
  go_wp2_with fail
  refine HPk.out.mono ?_
  rintro e w1 ⟨x, rfl, hx, hn1, hD1, hz1⟩
  obtain ⟨s, hs, hcs⟩ := HC.out x hx
  have f0 := hn1.cell hcs hbR
  have HP : Hid (Near R w w1 ∧ Dr w1 R ao L cap (p + 1)) := ⟨hn1, hD1⟩
  have hxi : (x : Int) < (n : Int) := by omega
  clear HPk HC hcs hn1 hD1
  go_wp2_with fail
  go_ret
  exact ⟨s, rfl, hs, HP.out.1, HP.out.2⟩

/-- A short string. -/
def okLit : Value → Bool
  | .string s => decide (s.size ≤ 10000)
  | _ => false

theorem okLit_get {v : Value} (h : okLit v = true) : ∃ s, s.size ≤ 10000 ∧ v = .string s := by
  cases v <;> simp_all [okLit]

theorem of_lit (w : World) (R : Nat) (ao : Option Addr) (L cap p : Nat) (h : Dr w R ao L cap p) (hp : p ≤ 1000000) (cs : Array Value) (n : Nat) (hn : cs.size = n) (hn1 : 1 ≤ n) (hn2 : n ≤ 1000) (hc : cs.toList.all okLit = true) :
    Calls Tryz.prog 62 #[.pointer (some ⟨R, 0, none⟩), .slice (some ⟨w.heap.size, 0, none⟩) n n] (w.alloc (.cells cs 9)) fun e w' => ∃ s : ByteArray, e = .returned (.string s) ∧ s.size ≤ 10000 ∧ Near R w w' ∧ Dr w' R ao L cap (p + 1) := by
  have hb : Below w.heap.size w (w.alloc (.cells cs 9)) := (Below.refl _ _).alloc (Nat.le_refl _) _
  have hR := h.lt
  refine (of_any _ R ao L cap p (h.same hb) hp w.heap.size 0 n n hn1 (by omega) (by omega) fun j hj => ?_).mono ?_
  · have hj' : j < cs.size := by omega
    obtain ⟨s, hs, e⟩ := okLit_get (List.all_eq_true.1 hc cs[j] (by simp))
    refine ⟨s, hs, ?_⟩
    rw [Nat.zero_add, cell_of_row _ _ j cs 9 (0, 0) (heap_alloc_new _ _), Array.getElem?_eq_getElem hj', e]
  · rintro e w' ⟨s, rfl, hs, hn', hD'⟩
    exact ⟨s, rfl, hs, (Near.of_below hb).trans hn', hD'⟩

end Go.Proofs.YtpalkdcgbbbmeaaGreatDoor
