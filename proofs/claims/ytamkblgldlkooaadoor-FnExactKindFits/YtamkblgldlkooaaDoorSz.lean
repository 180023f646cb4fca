/-
  The measure of the laws: what szStringS, szTreeS and szTree answer.
-/
import Derived.Test.YtamkblgldlkooaaDoorB1
namespace Go.Proofs.YtamkblgldlkooaaDoor
open Go.RowKit


/-- what is left behind the first k names -/
def leftN (l : List ByteArray) (k : Nat) (left : Int) : Int := left - l.length - sumL (fun s : ByteArray => s.size) (l.take k)

theorem szN_eq (l : List ByteArray) : szN l = l.length + sumL (fun s : ByteArray => s.size) l := by
  induction l with
  | nil => rfl
  | cons x r ih => simp only [szN, sumL, List.length_cons, ih]; omega

set_option maxHeartbeats 400000 in
theorem szStringS_any (S : Nat → Prop) (l : List ByteArray) (v : Value) (left : Int) (w : World) (hl : StrsIn S w l v) (h0 : -1 ≤ left) (h1 : left ≤ 1048576) :
    Calls Tryd.prog 9 #[v, .int .i64 left] w fun e w' => e = .returned (.int .i64 (leftB (szN l) left)) ∧ w' = w := by
  obtain ⟨ao, cap, rfl, hlen, hs, hc⟩ := hl
  unfold maxLen at hlen
  by_cases hneg : left - l.length < 0
  · go_enter Tryd.func9, Tryd.ntmps9
    go_wp2
    go_ret
    exact ⟨ret_int (by rw [leftB, szN_eq, if_neg (by omega)]), rfl⟩
  go_enter Tryd.func9, Tryd.ntmps9
  go_wp2
  go_loop [1, 5] (fun a i => ∃ k : Nat, k ≤ l.length ∧ i = .int .i64 k ∧ a = .int .i64 (leftN l k left) ∧ 0 ≤ leftN l k left) (fun _ i => l.length - (intOf i).toNat)
  case atStart => exact ⟨0, Nat.zero_le _, rfl, by simp [leftN, sumL], by simp [leftN, sumL]; omega⟩
  case round =>
    obtain ⟨k, hk, rfl, rfl, hpos⟩ := hrel
    have hub : leftN l k left ≤ 1048576 := by unfold leftN; omega
    by_cases hlt : k < l.length
    · obtain ⟨b, off, rfl, -, hcell⟩ := hc (by intro h; rw [h] at hlt; simp at hlt)
      have hck := hcell k hlt
      have hsk := hs l[k] (List.getElem_mem hlt)
      have HS : Hid (leftN l (k + 1) left = leftN l k left - (l[k].size : Int)) := by
        show _ = _
        unfold leftN; rw [sumL_take_succ _ _ _ hlt]; omega
      have HT : Hid (leftN l (k + 1) left = left - l.length - sumL (fun s : ByteArray => s.size) (l.take (k + 1)) ∧ sumL (fun s : ByteArray => s.size) (l.take (k + 1)) ≤ sumL (fun s : ByteArray => s.size) l) := by
        refine ⟨rfl, ?_⟩
        have := sumL_append (fun s : ByteArray => s.size) (l.take (k + 1)) (l.drop (k + 1))
        rw [List.take_append_drop] at this; omega
      unfold maxLen at hsk
      clear hc hs hcell
      generalize l[k] = s at *
      generalize leftN l k left = m at *
      go_wp2
      · go_ret
        refine ⟨ret_int ?_, rfl⟩
        have h1 := HS.out
        have h2 := HT.out
        rw [leftB, szN_eq, if_neg (by omega)]
      · go_round
        case rel => exact ⟨k + 1, by omega, by go_num, by rw [HS.out], by rw [HS.out]; omega⟩
        case measure => simp [intOf]; omega
    · have hkl : k = l.length := by omega
      have HE : Hid (leftN l k left = leftB (szN l) left) := by
        show _ = _
        have e : leftN l k left = left - (szN l : Int) := by unfold leftN; rw [szN_eq, hkl, List.take_length]; omega
        rw [leftB, if_pos (by omega), e]
      clear hkl hc hs
      go_wp2
      go_ret
      exact ⟨ret_int HE.out, rfl⟩

/-- what is left behind the first k kids -/
def leftK {α : Type} (f : α → Nat) (l : List α) (k : Nat) (left : Int) : Int := leftB (l.length + sumL f (l.take k)) left

theorem sumL_one {α : Type} (f : α → Nat) (l : List α) : sumL (fun k => f k + 1) l = l.length + sumL f l := by
  induction l with
  | nil => rfl
  | cons x r ih => simp only [sumL, List.length_cons, ih]; omega

theorem leftK_succ {α : Type} (f : α → Nat) (l : List α) (k : Nat) (left : Int) (h : k < l.length) : leftK f l (k + 1) left = leftB (f l[k]) (leftK f l k left) := by
  unfold leftK; rw [leftB_add, sumL_take_succ _ _ _ h]; congr 1; omega

end Go.Proofs.YtamkblgldlkooaaDoor
