/-
  The specification's bytes of short texts and of numbers.
-/
import Derived.Test.YtpnnbdejneoccaaEB0
import Derived.Test.YtpnnbdejneoccaaB1
namespace Go.Proofs.Ytpnnbdejneoccaa
open Go.RowKit

set_option maxRecDepth 20000 in
set_option maxHeartbeats 1000000 in
theorem l4Short_any (x : ByteArray) (w : World) (hx : x.size ≤ 100) : Calls Try.prog 20 #[.string x] w fun e w' => ∃ v, e = .returned v ∧ Bb w w' v (shortB x) := by
  obtain ⟨W1, hW1⟩ : ∃ W1, W1 = w.alloc (.cells #[.int .u8 (x.size : Int)] 5) := ⟨_, rfl⟩
  have hb1 : Bb w W1 (.slice (some ⟨w.heap.size, 0, none⟩) 1 1) [b8 x.size] := by
    have h := Bb.lit w (b8 x.size)
    rw [b8_nat (by omega) (by omega)] at h
    rw [hW1]; exact h
  obtain ⟨cap, W2, hrun, hb2, hcell⟩ := bytes_of W1 x
  have hsz : W1.heap.size = w.heap.size + 1 := by rw [hW1]; simp
  rw [hsz] at hrun hcell
  have HB := Lib.hid (hb1.keep hb2)
  have HC := Lib.hid hcell
  rw [hW1] at hrun
  clear hb1 hb2 hcell hsz
  go_enter Try.func20, Try.ntmps20
  go_wp2_with (at_builtin; refine wpList_bbA rfl (.tmp 6) (.tmp 8) rfl w _ _ rfl HB.out (w.heap.size + 1) 0 x.size cap x.data.toList rfl (by simp) HC.out (by simp; omega) ?_; intro v' w' hb' _; refine Hid.out ?_)
  refine Lib.hid ?_
  obtain ⟨va, vc, rfl⟩ := hb'.shape
  have HB' := Lib.hid hb'
  clear hb'
  go_wp2_with fail
  go_ret
  exact ⟨_, rfl, HB'.out⟩

theorem num7_step (g : Nat) (k : Nat) (h : 128 ≤ k) : num7 (g + 1) (k : Int) = b8 (128 + (k : Int) % 128) :: num7 g ((k : Int) / 128) := by
  rw [num7, if_neg (by omega), Int.add_comm]

theorem num7_last (f : Nat) (k : Nat) (h : k < 128) : num7 f (k : Int) = [b8 (k : Int)] := by
  cases f with
  | zero => rfl
  | succ f => rw [num7, if_pos (by omega)]

set_option maxRecDepth 20000 in
set_option maxHeartbeats 2000000 in
theorem l4Num_pos (k0 : Nat) (w : World) (hn : k0 ≤ 999999999) : Calls Try.prog 40 #[.int .i64 (k0 : Int)] w fun e w' => ∃ v, e = .returned v ∧ Bb w w' v (numB (k0 : Int)) := by
  have HNB : Hid (numB (k0 : Int) = [0] ++ num7 5 (k0 : Int)) := by show _ = _; unfold numB; rw [if_neg (by omega), if_neg (by omega)]; rfl
  have hneg : ¬ (k0 : Int) < 0 := by omega
  obtain ⟨W1, hW1⟩ : ∃ W1, W1 = w.alloc (.cells #[.int .u8 0] 5) := ⟨_, rfl⟩
  have hb1 : Bb w W1 (.slice (some ⟨w.heap.size, 0, none⟩) 1 1) [0] := by rw [hW1]; exact Bb.lit w 0
  have HB := Lib.hid hb1
  clear hb1
  go_enter Try.func40, Try.ntmps40
  go_wp2_with fail
  rw [← hW1]
  clear hW1
  go_loopw [0, 3] (fun nv ov wr => ∃ (k f : Nat) (l : List UInt8) (va : Option Addr) (vc : Nat), nv = .int .i64 (k : Int) ∧ k ≤ 999999999 ∧ k < 128 ^ (f + 1) ∧ f ≤ 5 ∧ l.length + f = 6 ∧ ov = .slice va l.length vc ∧ Bb w wr ov l ∧ numB (k0 : Int) = l ++ num7 f (k : Int)) (fun nv _ _ => (intOf nv).toNat)
  case atStart => exact ⟨k0, 5, [0], _, _, rfl, hn, by omega, by omega, rfl, rfl, HB.out, HNB.out⟩
  case round =>
    obtain ⟨k, f, l, va, vc, rfl, hk, hkf, hf5, hlf, rfl, hb, hN⟩ := hrel
    have HN := Lib.hid hN
    have HB1 := Lib.hid hb
    have hl6 : l.length ≤ 6 := by omega
    clear hN hb HB HNB
    by_cases h128 : k < 128
    case pos =>
      have hg : ¬ (k : Int) > 127 := by omega
      have HB2 := Lib.hid (HB1.out.alloc (.cells #[.int .u8 (k : Int)] 5))
      have HC2 : Hid (∀ j (hj : j < [b8 (k : Int)].length), (wr.alloc (.cells #[.int .u8 (k : Int)] 5)).cell? ⟨wr.heap.size, 0 + j, none⟩ = some (.int .u8 ([b8 (k : Int)][j].toNat : Int))) := fun j hj => by
        match j, hj with
        | 0, _ => simp only [List.getElem_cons_zero]; rw [b8_nat (by omega) (by omega)]; simp [go_sem]
      have HE : Hid (numB (k0 : Int) = l ++ [b8 (k : Int)]) := by show _ = _; rw [HN.out, num7_last f k h128]
      generalize hL : l.length = ln at *
      clear hlf hkf
      go_wp2_with (at_builtin; refine wpList_bbA rfl (.tmp 22) (.tmp 25) rfl w _ l rfl HB2.out wr.heap.size 0 1 1 [b8 (k : Int)] rfl rfl HC2.out (by simp; omega) ?_; intro v' w' hb' _; refine Hid.out ?_)
      refine Lib.hid ?_
      obtain ⟨va, vc, rfl⟩ := hb'.shape
      have HB' := Lib.hid hb'
      clear hb'
      go_wp2_with fail
      go_ret
      exact ⟨_, rfl, by rw [HE.out]; exact HB'.out⟩
    case neg =>
      have hg : (k : Int) > 127 := by omega
      have hm : 0 ≤ (k : Int) % 128 ∧ (k : Int) % 128 < 128 := by omega
      obtain ⟨g, rfl⟩ : ∃ g, f = g + 1 := by
        cases f with
        | zero => exact absurd hkf (by omega)
        | succ g => exact ⟨g, rfl⟩
      have hq : 0 ≤ (k : Int) / 128 ∧ (k : Int) / 128 ≤ 999999999 := by omega
      have HB2 := Lib.hid (HB1.out.alloc (.cells #[.int .u8 (128 + (k : Int) % 128)] 5))
      have HC2 : Hid (∀ j (hj : j < [b8 (128 + (k : Int) % 128)].length), (wr.alloc (.cells #[.int .u8 (128 + (k : Int) % 128)] 5)).cell? ⟨wr.heap.size, 0 + j, none⟩ = some (.int .u8 ([b8 (128 + (k : Int) % 128)][j].toNat : Int))) := fun j hj => by
        match j, hj with
        | 0, _ => simp only [List.getElem_cons_zero]; rw [b8_nat (by omega) (by omega)]; simp [go_sem]
      have HE : Hid (numB (k0 : Int) = (l ++ [b8 (128 + (k : Int) % 128)]) ++ num7 g ((k / 128 : Nat) : Int)) := by
        show _ = _; rw [HN.out, num7_step g k (by omega), List.append_assoc]; rfl
      have HK : Hid (k / 128 < 128 ^ (g + 1)) := by
        show _ < _
        exact Nat.div_lt_of_lt_mul (by rw [Nat.mul_comm, ← Nat.pow_succ]; exact hkf)
      have HLf := Lib.hid hlf
      obtain ⟨ln, hL⟩ : ∃ ln, l.length = ln := ⟨_, rfl⟩
      have HL := Lib.hid hL
      rw [hL] at HB1 HB2 hl6
      rw [hL]
      clear hlf hkf HN hL
      go_wp2_with (at_builtin; go_loud (refine wpList_bbA rfl (.tmp 13) (.tmp 18) rfl w _ l rfl HB2.out wr.heap.size 0 1 1 [b8 (128 + (k : Int) % 128)] rfl rfl HC2.out (by rw [HL.out]; simp; omega) ?_; intro v' w' hb' _; refine Hid.out ?_))
      refine Lib.hid ?_
      obtain ⟨va', vc', rfl⟩ := hb'.shape
      have HB' := Lib.hid hb'
      clear hb' HB1 HB2 HC2
      go_wp2_with fail
      go_roundw
      case rel =>
        refine ⟨k / 128, g, l ++ [b8 (128 + (k : Int) % 128)], va', vc', by go_num, by omega, HK.out, by omega, by rw [List.length_append]; have := HLf.out; simp; omega, rfl, HB'.out, HE.out⟩
      case measure => simp [intOf]; omega

-- MADE by es1.py
set_option maxRecDepth 20000 in
set_option maxHeartbeats 2000000 in
theorem l4Num_neg (k0 : Nat) (w : World) (hn : k0 ≤ 999999999) (h1 : 1 ≤ k0) : Calls Try.prog 40 #[.int .i64 (-(k0 : Int))] w fun e w' => ∃ v, e = .returned v ∧ Bb w w' v (numB (-(k0 : Int))) := by
  have HNB : Hid (numB (-(k0 : Int)) = [1] ++ num7 5 (k0 : Int)) := by show _ = _; unfold numB; rw [if_pos (by omega), if_pos (by omega), Int.neg_neg]; rfl
  obtain ⟨nn, hnn⟩ : ∃ nn : Int, -(k0 : Int) = nn := ⟨_, rfl⟩
  rw [hnn]
  rw [hnn] at HNB
  have hneg : nn < 0 := by omega
  have hnb : -999999999 ≤ nn := by omega
  have hnk : -nn = (k0 : Int) := by omega
  clear hnn
  obtain ⟨W1, hW1⟩ : ∃ W1, W1 = w.alloc (.cells #[.int .u8 1] 5) := ⟨_, rfl⟩
  have hb1 : Bb w W1 (.slice (some ⟨w.heap.size, 0, none⟩) 1 1) [1] := by rw [hW1]; exact Bb.lit w 1
  have HB := Lib.hid hb1
  clear hb1
  go_enter Try.func40, Try.ntmps40
  go_wp2_with fail
  rw [← hW1]
  clear hW1 hneg hnb hnk
  go_loopw [0, 3] (fun nv ov wr => ∃ (k f : Nat) (l : List UInt8) (va : Option Addr) (vc : Nat), nv = .int .i64 (k : Int) ∧ k ≤ 999999999 ∧ k < 128 ^ (f + 1) ∧ f ≤ 5 ∧ l.length + f = 6 ∧ ov = .slice va l.length vc ∧ Bb w wr ov l ∧ numB nn = l ++ num7 f (k : Int)) (fun nv _ _ => (intOf nv).toNat)
  case atStart => exact ⟨k0, 5, [1], _, _, rfl, hn, by omega, by omega, rfl, rfl, HB.out, HNB.out⟩
  case round =>
    obtain ⟨k, f, l, va, vc, rfl, hk, hkf, hf5, hlf, rfl, hb, hN⟩ := hrel
    have HN := Lib.hid hN
    have HB1 := Lib.hid hb
    have hl6 : l.length ≤ 6 := by omega
    clear hN hb HB HNB
    by_cases h128 : k < 128
    case pos =>
      have hg : ¬ (k : Int) > 127 := by omega
      have HB2 := Lib.hid (HB1.out.alloc (.cells #[.int .u8 (k : Int)] 5))
      have HC2 : Hid (∀ j (hj : j < [b8 (k : Int)].length), (wr.alloc (.cells #[.int .u8 (k : Int)] 5)).cell? ⟨wr.heap.size, 0 + j, none⟩ = some (.int .u8 ([b8 (k : Int)][j].toNat : Int))) := fun j hj => by
        match j, hj with
        | 0, _ => simp only [List.getElem_cons_zero]; rw [b8_nat (by omega) (by omega)]; simp [go_sem]
      have HE : Hid (numB nn = l ++ [b8 (k : Int)]) := by show _ = _; rw [HN.out, num7_last f k h128]
      generalize hL : l.length = ln at *
      clear hlf hkf
      go_wp2_with (at_builtin; refine wpList_bbA rfl (.tmp 22) (.tmp 25) rfl w _ l rfl HB2.out wr.heap.size 0 1 1 [b8 (k : Int)] rfl rfl HC2.out (by simp; omega) ?_; intro v' w' hb' _; refine Hid.out ?_)
      refine Lib.hid ?_
      obtain ⟨va, vc, rfl⟩ := hb'.shape
      have HB' := Lib.hid hb'
      clear hb'
      go_wp2_with fail
      go_ret
      exact ⟨_, rfl, by rw [HE.out]; exact HB'.out⟩
    case neg =>
      have hg : (k : Int) > 127 := by omega
      have hm : 0 ≤ (k : Int) % 128 ∧ (k : Int) % 128 < 128 := by omega
      obtain ⟨g, rfl⟩ : ∃ g, f = g + 1 := by
        cases f with
        | zero => exact absurd hkf (by omega)
        | succ g => exact ⟨g, rfl⟩
      have hq : 0 ≤ (k : Int) / 128 ∧ (k : Int) / 128 ≤ 999999999 := by omega
      have HB2 := Lib.hid (HB1.out.alloc (.cells #[.int .u8 (128 + (k : Int) % 128)] 5))
      have HC2 : Hid (∀ j (hj : j < [b8 (128 + (k : Int) % 128)].length), (wr.alloc (.cells #[.int .u8 (128 + (k : Int) % 128)] 5)).cell? ⟨wr.heap.size, 0 + j, none⟩ = some (.int .u8 ([b8 (128 + (k : Int) % 128)][j].toNat : Int))) := fun j hj => by
        match j, hj with
        | 0, _ => simp only [List.getElem_cons_zero]; rw [b8_nat (by omega) (by omega)]; simp [go_sem]
      have HE : Hid (numB nn = (l ++ [b8 (128 + (k : Int) % 128)]) ++ num7 g ((k / 128 : Nat) : Int)) := by
        show _ = _; rw [HN.out, num7_step g k (by omega), List.append_assoc]; rfl
      have HK : Hid (k / 128 < 128 ^ (g + 1)) := by
        show _ < _
        exact Nat.div_lt_of_lt_mul (by rw [Nat.mul_comm, ← Nat.pow_succ]; exact hkf)
      have HLf := Lib.hid hlf
      obtain ⟨ln, hL⟩ : ∃ ln, l.length = ln := ⟨_, rfl⟩
      have HL := Lib.hid hL
      rw [hL] at HB1 HB2 hl6
      rw [hL]
      clear hlf hkf HN hL
      go_wp2_with (at_builtin; go_loud (refine wpList_bbA rfl (.tmp 13) (.tmp 18) rfl w _ l rfl HB2.out wr.heap.size 0 1 1 [b8 (128 + (k : Int) % 128)] rfl rfl HC2.out (by rw [HL.out]; simp; omega) ?_; intro v' w' hb' _; refine Hid.out ?_))
      refine Lib.hid ?_
      obtain ⟨va', vc', rfl⟩ := hb'.shape
      have HB' := Lib.hid hb'
      clear hb' HB1 HB2 HC2
      go_wp2_with fail
      go_roundw
      case rel =>
        refine ⟨k / 128, g, l ++ [b8 (128 + (k : Int) % 128)], va', vc', by go_num, by omega, HK.out, by omega, by rw [List.length_append]; have := HLf.out; simp; omega, rfl, HB'.out, HE.out⟩
      case measure => simp [intOf]; omega

theorem l4Num_any (n : Int) (w : World) (hn : -999999999 ≤ n ∧ n ≤ 999999999) : Calls Try.prog 40 #[.int .i64 n] w fun e w' => ∃ v, e = .returned v ∧ Bb w w' v (numB n) := by
  by_cases h : n < 0
  · obtain ⟨k, rfl⟩ : ∃ k : Nat, n = -(k : Int) := ⟨(-n).toNat, by omega⟩
    exact l4Num_neg k w (by omega) (by omega)
  · obtain ⟨k, rfl⟩ : ∃ k : Nat, n = (k : Int) := ⟨n.toNat, by omega⟩
    exact l4Num_pos k w (by omega)

end Go.Proofs.Ytpnnbdejneoccaa
