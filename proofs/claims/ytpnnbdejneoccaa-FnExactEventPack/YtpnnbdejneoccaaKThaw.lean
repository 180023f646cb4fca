/-
  The copies of schemas that the laws make can be written to.
-/
import Derived.Test.YtpnnbdejneoccaaKRep
import Derived.Test.YtpnnbdejneoccaaSz
import Derived.Test.YtpnnbdejneoccaaTo
namespace Go.Proofs.Ytpnnbdejneoccaa
open Go.RowKit

/-- From block M on nothing is frozen. -/
def Thaw (M : Nat) (w : World) : Prop := ∀ b o, M ≤ b → b < w.heap.size → w.frozen? ⟨b, o, none⟩ = false

theorem Thaw.base (w : World) : Thaw w.heap.size w := fun b o h1 h2 => by omega
theorem Thaw.set {M : Nat} {w : World} (h : Thaw M w) (p : Addr) (v : Value) : Thaw M (w.setCell p v) := fun b o h1 h2 => by
  rw [World.frozen?_setCell]; exact h b o h1 (by simpa using h2)
theorem Thaw.alloc {M : Nat} {w : World} (h : Thaw M w) (c : Array Value) (t : TypeId) : Thaw M (w.alloc (.cells c t)) := fun b o h1 h2 => by
  by_cases hb : b < w.heap.size
  · have e := Below.heap_alloc w (.cells c t) b hb
    have := h b o h1 hb
    simp only [World.frozen?, e] at this ⊢
    exact this
  · have hb' : b = w.heap.size := by simp at h2; omega
    subst hb'
    have e := heap_alloc_new w (.cells c t)
    simp only [World.frozen?, e]; simp
theorem Thaw.step {M : Nat} {w w' : World} (h : Thaw M w) (hb : Below w.heap.size w w') (h' : Thaw w.heap.size w') (_hM : M ≤ w.heap.size) : Thaw M w' := fun b o h1 h2 => by
  by_cases hlt : b < w.heap.size
  · rw [hb.frozen (p := ⟨b, o, none⟩) hlt]; exact h b o h1 hlt
  · exact h' b o (by omega) h2

set_option maxHeartbeats 400000 in
theorem toStringT_any (S : Nat → Prop) (l : List ByteArray) (v : Value) (w : World) (hl : StrsIn S w l v) (hB : ∀ b, S b → b < w.heap.size) (hsz : szN l ≤ 1048576) :
    Calls Try.prog 41 #[v] w fun e w' => ∃ v', e = .returned v' ∧ StrsIn (fun b => w.heap.size ≤ b ∧ b < w'.heap.size) w' l v' ∧ Below w.heap.size w w' ∧ Thaw w.heap.size w' := by
  obtain ⟨ao, cap, rfl, hlen, hs, hc⟩ := hl
  have hlN := szN_length l
  have hmk := run_make_row' (P := Try.prog) 22 9 (.string ByteArray.empty) 16 Try.underlying22 Try.info_str rfl .i64 .i64 l.length (by omega) (by omega)
  go_enter Try.func41, Try.ntmps41
  go_wp2
  go_loopw [4] (fun i wr => ∃ k : Nat, k ≤ l.length ∧ i = .int .i64 k ∧ wr.rowIs w.heap.size 9 l.length (fun j => if j < k then .string (l.getD j ByteArray.empty) else .string ByteArray.empty) ∧ Below w.heap.size w wr ∧ wr.heap.size = w.heap.size + 1)
    (fun i _ => l.length - (intOf i).toNat)
  case atStart =>
    exact ⟨0, Nat.zero_le _, rfl, (World.rowIs_made _ _ _ _).congr (fun i _ => by simp), (Below.refl _ _).alloc (Nat.le_refl _) _, by simp⟩
  case round =>
    obtain ⟨k, hk, rfl, hrow, hbel, hone⟩ := hrel
    by_cases hlt : k < l.length
    · obtain ⟨b, off, rfl, hbB, hcell⟩ := hc (by intro h; rw [h] at hlt; simp at hlt)
      have f0 := (hbel.cell (p := ⟨b, off + k, none⟩) (hB b hbB)).trans (hcell k hlt)
      have f1 := hrow.cell hlt
      have f2 := hrow.frozen k
      have HR : Hid ((wr.setCell ⟨w.heap.size, k, none⟩ (.string l[k])).rowIs w.heap.size 9 l.length (fun j => if j < k + 1 then .string (l.getD j ByteArray.empty) else .string ByteArray.empty)) := by
        refine (hrow.set k (.string l[k])).congr fun i hi => ?_
        by_cases h1 : i = k
        · subst h1; simp [hlt]
        · by_cases h2 : i < k
          · rw [if_neg h1, if_pos h2, if_pos (by omega)]
          · rw [if_neg h1, if_neg h2, if_neg (by omega)]
      have HB : Hid (Below w.heap.size w (wr.setCell ⟨w.heap.size, k, none⟩ (.string l[k]))) := hbel.setCell (Nat.le_refl _) _
      clear hc hcell hrow hbel hmk
      go_wp2
      go_roundw
      case rel => exact ⟨k + 1, by omega, by go_num, HR.out, HB.out, by simpa using hone⟩
      case measure => simp [intOf]; omega
    · have hkl : k = l.length := by omega
      have HF : Hid (StrsIn (fun b => w.heap.size ≤ b ∧ b < wr.heap.size) wr l (.slice (some ⟨w.heap.size, 0, none⟩) l.length l.length)) := by
        refine ⟨_, _, rfl, hlen, hs, fun _ => ⟨w.heap.size, 0, rfl, ⟨Nat.le_refl _, hrow.lt⟩, fun i hi => ?_⟩⟩
        have := hrow.cell hi
        rw [if_pos (by omega)] at this
        simpa [List.getD, hi] using this
      have HT : Hid (Thaw w.heap.size wr) := fun b o h1 h2 => by
        have : b = w.heap.size := by omega
        subst this; exact hrow.frozen o
      clear hkl hc hs hrow hmk
      go_wp2
      go_ret
      exact ⟨_, rfl, HF.out, hbel, HT.out⟩

end Go.Proofs.Ytpnnbdejneoccaa
