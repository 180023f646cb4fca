/-
  The specification's bytes of trees.
-/
import Derived.Test.YtpnnbdejneoccaaB10
import Derived.Test.YtpnnbdejneoccaaB5
import Derived.Test.YtpnnbdejneoccaaText
namespace Go.Proofs.Ytpnnbdejneoccaa
open Go.RowKit

/-- What l4Tree answers. -/
def PackSaid (n : Nat) : Prop := ∀ (S : Nat → Prop) (t : T n) (c0 c1 c2 c3 c4 : Value) (d : Int) (w : World), TreeIn S w n t c0 c1 c2 c3 c4 → (∀ b, S b → b < w.heap.size) → goodT n t d = true → cntT n t ≤ 120 →
  Calls Try.prog 21 #[.agg #[c0, c1, c2, c3, c4]] w fun e w' => ∃ v, e = .returned v ∧ Bb w w' v (packT n t)

theorem flat_take (l : List (List UInt8)) (k : Nat) : (l.take k).flatten.length ≤ l.flatten.length := by
  have h := congrArg List.length (congrArg List.flatten (List.take_append_drop k l))
  rw [List.flatten_append, List.length_append] at h
  omega

theorem flat_step (l : List (List UInt8)) (k : Nat) (h : k < l.length) : (l.take (k + 1)).flatten = (l.take k).flatten ++ l[k] := by
  rw [List.take_succ_eq_append_getElem h, List.flatten_append]; simp

/-- A tree's box, and the byte of its sort behind it. -/
theorem head_bb (w : World) (t : TypeId) (c : Array Value) (s : Int) (h0 : 0 ≤ s) (h1 : s < 256) : Bb (w.alloc (.cells c t)) ((w.alloc (.cells c t)).alloc (.cells #[.int .u8 s] 5)) (.slice (some ⟨w.heap.size + 1, 0, none⟩) 1 1) [b8 s] := by
  have h := Bb.lit (w.alloc (.cells c t)) (b8 s)
  rw [b8_nat h0 h1] at h
  have e : (w.alloc (.cells c t)).heap.size = w.heap.size + 1 := by simp
  rw [e] at h
  exact h

theorem cell_one (w : World) (i : Int) (h0 : 0 ≤ i) (h1 : i < 256) : ∀ j (hj : j < [b8 i].length), (w.alloc (.cells #[.int .u8 i] 5)).cell? ⟨w.heap.size, 0 + j, none⟩ = some (.int .u8 ([b8 i][j].toNat : Int)) := fun j hj => by
  match j, hj with
  | 0, _ => simp only [List.getElem_cons_zero]; rw [b8_nat h0 h1]; simp [go_sem]

set_option maxRecDepth 20000 in
set_option maxHeartbeats 2000000 in
theorem pack_num (m : Int) (x : ByteArray) (n3 n4 : Value) (na ka : Option Addr) (nl nc kl kc : Nat) (w : World) (hn3 : n3 = .slice na nl nc) (hn4 : n4 = .slice ka kl kc) (hm : -999999999 ≤ m ∧ m ≤ 999999999) :
    Calls Try.prog 21 #[.agg #[.int .i64 1, .int .i64 m, .string x, n3, n4]] w fun e w' => ∃ v, e = .returned v ∧ Bb w w' v (b8 1 :: numB m) := by
  subst hn3 hn4
  obtain ⟨W1, hW1⟩ : ∃ W1, W1 = w.alloc (.cells #[.int .i64 1, .int .i64 m, .string x, .slice na nl nc, .slice ka kl kc] 33) := ⟨_, rfl⟩
  obtain ⟨W2, hW2⟩ : ∃ W2, W2 = W1.alloc (.cells #[.int .u8 1] 5) := ⟨_, rfl⟩
  have hb2 : Bb W1 W2 (.slice (some ⟨w.heap.size + 1, 0, none⟩) 1 1) [b8 1] := by rw [hW2, hW1]; exact head_bb w 33 _ 1 (by omega) (by omega)
  have hbw : Below w.heap.size w W1 := by rw [hW1]; exact (Below.refl _ _).alloc (Nat.le_refl _) _
  have HB := Lib.hid (hb2.up hbw)
  have HC : Hid (Calls Try.prog 40 #[.int .i64 m] W2 _) := l4Num_any m W2 hm
  have hW : W2 = (w.alloc (.cells #[.int .i64 1, .int .i64 m, .string x, .slice na nl nc, .slice ka kl kc] 33)).alloc (.cells #[.int .u8 1] 5) := by rw [hW2, hW1]
  clear hb2 hbw hW2 hW1 hm
  go_enter Try.func21, Try.ntmps21
  go_wp2_with fail
  rw [← hW]
  clear hW
  refine HC.out.mono ?_
  rintro e w3 ⟨u, rfl, hu⟩
  have hnl := numB_len m
  have HB3 := Lib.hid (HB.out.keep hu.below)
  have HR := Lib.hid (hu.row (by unfold maxLen; omega))
  have HNE : Hid (numB m ≠ [] ∧ [b8 1].length + (numB m).length ≤ 10000000) := ⟨by intro h; rw [h] at hnl; simp at hnl, by simp; omega⟩
  obtain ⟨ua, uc, rfl⟩ := hu.shape
  clear hu HC HB hnl
  go_wp2_with (at_builtin; refine wpList_bb rfl (.tmp 13) (.tmp 16) rfl w _ _ rfl HB3.out _ _ (numB m) rfl HR.out HNE.out.1 HNE.out.2 ?_; intro v' w' hb' _; refine Hid.out ?_)
  refine Lib.hid ?_
  obtain ⟨va, vc, rfl⟩ := hb'.shape
  have HB' := Lib.hid hb'
  clear hb'
  go_wp2_with fail
  go_ret
  exact ⟨_, rfl, HB'.out⟩

set_option maxRecDepth 20000 in
set_option maxHeartbeats 2000000 in
theorem pack_text (m : Int) (x : ByteArray) (n3 n4 : Value) (na ka : Option Addr) (nl nc kl kc : Nat) (w : World) (hn3 : n3 = .slice na nl nc) (hn4 : n4 = .slice ka kl kc) (hx : x.size ≤ 60) :
    Calls Try.prog 21 #[.agg #[.int .i64 2, .int .i64 m, .string x, n3, n4]] w fun e w' => ∃ v, e = .returned v ∧ Bb w w' v (b8 2 :: shortB x) := by
  subst hn3 hn4
  obtain ⟨W1, hW1⟩ : ∃ W1, W1 = w.alloc (.cells #[.int .i64 2, .int .i64 m, .string x, .slice na nl nc, .slice ka kl kc] 33) := ⟨_, rfl⟩
  obtain ⟨W2, hW2⟩ : ∃ W2, W2 = W1.alloc (.cells #[.int .u8 2] 5) := ⟨_, rfl⟩
  have hb2 : Bb W1 W2 (.slice (some ⟨w.heap.size + 1, 0, none⟩) 1 1) [b8 2] := by rw [hW2, hW1]; exact head_bb w 33 _ 2 (by omega) (by omega)
  have hbw : Below w.heap.size w W1 := by rw [hW1]; exact (Below.refl _ _).alloc (Nat.le_refl _) _
  have HB := Lib.hid (hb2.up hbw)
  have HC : Hid (Calls Try.prog 20 #[.string x] W2 _) := l4Short_any x W2 (by omega)
  have hW : W2 = (w.alloc (.cells #[.int .i64 2, .int .i64 m, .string x, .slice na nl nc, .slice ka kl kc] 33)).alloc (.cells #[.int .u8 2] 5) := by rw [hW2, hW1]
  clear hb2 hbw hW2 hW1
  go_enter Try.func21, Try.ntmps21
  go_wp2_with fail
  rw [← hW]
  clear hW
  refine HC.out.mono ?_
  rintro e w3 ⟨u, rfl, hu⟩
  have hnl := shortB_len x
  have HB3 := Lib.hid (HB.out.keep hu.below)
  have HR := Lib.hid (hu.row (by unfold maxLen; omega))
  have HNE : Hid (shortB x ≠ [] ∧ [b8 2].length + (shortB x).length ≤ 10000000) := ⟨by intro h; rw [h] at hnl; simp at hnl, by simp; omega⟩
  obtain ⟨ua, uc, rfl⟩ := hu.shape
  clear hu HC HB hnl
  go_wp2_with (at_builtin; refine wpList_bb rfl (.tmp 20) (.tmp 23) rfl w _ _ rfl HB3.out _ _ (shortB x) rfl HR.out HNE.out.1 HNE.out.2 ?_; intro v' w' hb' _; refine Hid.out ?_)
  refine Lib.hid ?_
  obtain ⟨va, vc, rfl⟩ := hb'.shape
  have HB' := Lib.hid hb'
  clear hb'
  go_wp2_with fail
  go_ret
  exact ⟨_, rfl, HB'.out⟩

set_option maxRecDepth 20000 in
set_option maxHeartbeats 2000000 in
theorem pack_flag (m : Int) (x : ByteArray) (n3 n4 : Value) (na ka : Option Addr) (nl nc kl kc : Nat) (w : World) (hn3 : n3 = .slice na nl nc) (hn4 : n4 = .slice ka kl kc) (hm : 0 ≤ m ∧ m ≤ 1) :
    Calls Try.prog 21 #[.agg #[.int .i64 3, .int .i64 m, .string x, n3, n4]] w fun e w' => ∃ v, e = .returned v ∧ Bb w w' v [b8 3, b8 m] := by
  subst hn3 hn4
  obtain ⟨W1, hW1⟩ : ∃ W1, W1 = w.alloc (.cells #[.int .i64 3, .int .i64 m, .string x, .slice na nl nc, .slice ka kl kc] 33) := ⟨_, rfl⟩
  obtain ⟨W2, hW2⟩ : ∃ W2, W2 = W1.alloc (.cells #[.int .u8 3] 5) := ⟨_, rfl⟩
  have hb2 : Bb W1 W2 (.slice (some ⟨w.heap.size + 1, 0, none⟩) 1 1) [b8 3] := by rw [hW2, hW1]; exact head_bb w 33 _ 3 (by omega) (by omega)
  have hbw : Below w.heap.size w W1 := by rw [hW1]; exact (Below.refl _ _).alloc (Nat.le_refl _) _
  have HB := Lib.hid ((hb2.up hbw).alloc (.cells #[.int .u8 m] 5))
  have hz2 : W2.heap.size = w.heap.size + 1 + 1 := by rw [hW2, hW1]; simp
  have hc := cell_one W2 m hm.1 (by omega)
  rw [hz2] at hc
  rw [hW2, hW1] at HB hc
  have HC := Lib.hid hc
  have hm1 := hm.1
  have hm2 := hm.2
  clear hb2 hbw hW2 hW1 hm hc hz2 W2 W1
  go_enter Try.func21, Try.ntmps21
  go_wp2_with (at_builtin; refine wpList_bbA rfl (.tmp 27) (.tmp 31) rfl w _ _ rfl HB.out (w.heap.size + 1 + 1) 0 1 1 [b8 m] rfl rfl HC.out (by simp) ?_; intro v' w' hb' _; refine Hid.out ?_)
  refine Lib.hid ?_
  obtain ⟨va, vc, rfl⟩ := hb'.shape
  have HB' := Lib.hid hb'
  clear hb'
  go_wp2_with fail
  go_ret
  exact ⟨_, rfl, HB'.out⟩

end Go.Proofs.Ytpnnbdejneoccaa
