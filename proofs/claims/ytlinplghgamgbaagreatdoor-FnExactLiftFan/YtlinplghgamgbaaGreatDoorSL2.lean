/-
  The specification on upcasters' nodes: the word of an op, the op of a word, free names.
-/
import Derived.Test.YtlinplghgamgbaaGreatDoorB20
import Derived.Test.YtlinplghgamgbaaGreatDoorB19
namespace Go.Proofs.YtlinplghgamgbaaGreatDoor
open Go.RowKit

set_option maxRecDepth 20000 in
set_option maxHeartbeats 16000000 in
theorem l11Word_any (k : Nat) (hk : k < 44) (w : World) : Calls Tryz.prog 37 #[.int .i64 (k : Int)] w fun e w' => e = .returned (.string (wrd k)) ∧ Below w.heap.size w w' := by
  have HIn : Hid (∀ x a b w, Calls Tryz.prog 45 #[.int .i64 x, .int .i64 a, .int .i64 b] w _) := fun x a b w => l6In_any x a b w
  have HB : Hid (∀ o : Obj, Below w.heap.size w (w.alloc o)) := fun o => (Below.refl _ _).alloc (Nat.le_refl _) o
  rcases op_cases k hk with rfl | rfl | rfl | rfl | rfl | rfl | rfl | rfl | rfl | rfl | rfl | rfl | rfl | rfl | rfl | rfl | rfl | rfl | rfl | rfl | rfl | rfl | rfl | rfl | rfl | rfl | rfl | rfl | rfl | rfl | rfl | rfl | rfl | rfl | rfl | rfl | rfl | rfl | rfl | rfl | rfl | rfl | rfl | rfl
  all_goals
    go_enter Tryz.func37, Tryz.ntmps37
    go_wp2_with fail
    refine (HIn.out _ _ _ _).mono ?_
    rintro e w1 ⟨rfl, rfl⟩
    go_wp2_with fail
    go_ret
    first
      | exact ⟨str_ret rfl, Below.refl _ _⟩
      | exact ⟨str_ret rfl, HB.out _⟩

set_option maxRecDepth 20000 in
set_option maxHeartbeats 1000000 in
theorem l11Op_any (s : ByteArray) (w : World) : Calls Tryz.prog 56 #[.string s] w fun e w' => e = .returned (.int .i64 (opW s : Nat)) ∧ Below w.heap.size w w' := by
  go_enter Tryz.func56, Tryz.ntmps56
  go_wp2_with fail
  go_loopw [3] (fun i wr => ∃ k : Nat, 5 ≤ k ∧ k ≤ 44 ∧ i = .int .i64 (k : Int) ∧ Hid (opF s k (44 - k) = opW s) ∧ Below w.heap.size w wr) (fun i _ => 44 - (intOf i).toNat)
  case atStart => exact ⟨5, by omega, by omega, rfl, rfl, Below.refl _ _⟩
  case round =>
    obtain ⟨k, h5, h44, rfl, HE, hb⟩ := hrel
    by_cases hk : k < 44
    · have hle : (k : Int) ≤ 43 := by omega
      have HC : Hid (Calls Tryz.prog 37 _ wr _) := l11Word_any k hk wr
      cases hq : (wrd k == s) with
      | true =>
        have HF : Hid (Ending.returned (.int .i64 (k : Int)) = .returned (.int .i64 ((opW s : Nat) : Int))) := by
          show _ = _
          rw [← HE.out, show 44 - k = (43 - k) + 1 by omega, opF_yes hq]
        have hq2 : ((wrd k).toList == s.toList) = true := (eq_toList _ _).trans hq
        have HB := hidF hb
        clear hq HE hb
        go_wp2_with fail
        refine HC.out.mono ?_
        rintro e w1 ⟨rfl, hb1⟩
        have HB1 := hidF (HB.out.trans (hb1.mono HB.out.size))
        clear hb1 HC
        go_wp2_with fail
        go_ret
        exact ⟨HF.out, HB1.out⟩
      | false =>
        have HF : Hid (opF s (k + 1) (44 - (k + 1)) = opW s) := by
          show _ = _
          rw [← HE.out, show 44 - k = (44 - (k + 1)) + 1 by omega, opF_no hq]
        have hq2 : ((wrd k).toList == s.toList) = false := (eq_toList _ _).trans hq
        have HB := hidF hb
        clear hq HE hb
        go_wp2_with fail
        refine HC.out.mono ?_
        rintro e w1 ⟨rfl, hb1⟩
        have HB1 := hidF (HB.out.trans (hb1.mono HB.out.size))
        clear hb1 HC
        go_wp2_with fail
        go_roundw
        case rel => exact ⟨k + 1, by omega, by omega, by go_num, HF, HB1.out⟩
        case measure => simp [intOf]; omega
    · have hle : ¬ (k : Int) ≤ 43 := by omega
      have HF : Hid (Ending.returned (.int .i64 (0 : Int)) = .returned (.int .i64 ((opW s : Nat) : Int))) := by
        show _ = _
        rw [← HE.out, show 44 - k = 0 by omega]; rfl
      have HB := hidF hb
      clear HE hb
      go_wp2_with fail
      go_ret
      exact ⟨HF.out, HB.out⟩

set_option maxRecDepth 20000 in
set_option maxHeartbeats 1000000 in
theorem l11FreeName_any (s : ByteArray) (w : World) (hs : s.size ≤ maxLen) :
    Calls Tryz.prog 51 #[.string s] w fun e w' => e = .returned (.bool (freeB s)) ∧ Below w.heap.size w w' := by
  have HC1 : Hid (Calls Tryz.prog 49 _ _ _) := l6NameOk_any s w hs
  have HC2 : Hid (Calls Tryz.prog 56 _ _ _) := l11Op_any s w
  have HF : Hid (freeB s = (nameB s && (opW s == 0) && !(s == bs [121, 101, 115]) && !(s == bs [110, 111]) && !(s == bs [101, 110, 100]))) := rfl
  have e1 := eq_lit s [121, 101, 115]
  have e2 := eq_lit s [110, 111]
  have e3 := eq_lit s [101, 110, 100]
  generalize (s == bs [121, 101, 115]) = b1 at *
  generalize (s == bs [110, 111]) = b2 at *
  generalize (s == bs [101, 110, 100]) = b3 at *
  cases hn : nameB s with
  | false =>
    rw [hn] at HC1 HF
    go_enter Tryz.func51, Tryz.ntmps51
    go_wp2_with fail
    refine HC1.out.mono ?_
    rintro e w1 ⟨rfl, rfl⟩
    go_wp2_with fail
    go_ret
    exact ⟨bool_ret (by rw [HF.out]; simp), Below.refl _ _⟩
  | true =>
    rw [hn] at HC1 HF
    by_cases h0 : opW s = 0
    · have h0' : (opW s == 0) = true := by simp [h0]
      rw [h0'] at HF
      rw [h0] at HC2
      cases b1 <;> cases b2 <;> cases b3
      all_goals
        go_enter Tryz.func51, Tryz.ntmps51
        go_wp2_with fail
        refine HC1.out.mono ?_
        rintro e w1 ⟨rfl, rfl⟩
        go_wp2_with fail
        refine HC2.out.mono ?_
        rintro e w2 ⟨rfl, hb2⟩
        have HB := hidF hb2
        clear hb2 HC1 HC2
        go_wp2_with fail
        go_ret
        exact ⟨bool_ret (by rw [HF.out]; rfl), HB.out⟩
    · have h0' : (opW s == 0) = false := by simp [h0]
      have h0'' : (((opW s : Nat) : Int) == 0) = false := by simp; omega
      rw [h0'] at HF
      go_enter Tryz.func51, Tryz.ntmps51
      go_wp2_with fail
      refine HC1.out.mono ?_
      rintro e w1 ⟨rfl, rfl⟩
      go_wp2_with fail
      refine HC2.out.mono ?_
      rintro e w2 ⟨rfl, hb2⟩
      have HB := hidF hb2
      clear hb2 HC1 HC2
      go_wp2_with fail
      go_ret
      exact ⟨bool_ret (by rw [HF.out]; simp), HB.out⟩

set_option maxHeartbeats 400000 in
theorem l6Has_any (S : Nat → Prop) (l : List ByteArray) (v : Value) (x : ByteArray) (w : World) (hl : StrsIn S w l v) :
    Calls Tryz.prog 47 #[v, .string x] w fun e w' => w' = w ∧ e = .returned (.bool (l.any (fun y => y == x))) := by
  obtain ⟨ao, cap, rfl, hlen, hs, hc⟩ := hl
  unfold maxLen at hlen
  go_enter Tryz.func47, Tryz.ntmps47
  go_wp2_with fail
  go_loop [5] (fun i => ∃ k : Nat, k ≤ l.length ∧ i = .int .i64 k ∧ Hid ((l.take k).any (fun y => y == x) = false)) (fun i => l.length - (intOf i).toNat)
  case atStart => exact ⟨0, Nat.zero_le _, rfl, rfl⟩
  case round =>
    obtain ⟨k, hk, rfl, HA⟩ := hrel
    by_cases hlt : k < l.length
    · obtain ⟨b, off, rfl, -, hcell⟩ := hc (by intro h; rw [h] at hlt; simp at hlt)
      have hck := hcell k hlt
      cases hq : (l[k] == x) with
      | true =>
        have hq2 := (eq_toList l[k] x).trans hq
        have HF : Hid (true = l.any (fun y => y == x)) := by
          show _ = _
          symm
          rw [List.any_eq_true]
          exact ⟨l[k], List.getElem_mem hlt, hq⟩
        clear hc hcell hq HA
        go_wp2_with fail
        go_ret
        exact ⟨rfl, bool_ret HF.out⟩
      | false =>
        have hq2 := (eq_toList l[k] x).trans hq
        have HF : Hid ((l.take (k + 1)).any (fun y => y == x) = false) := by
          show _ = _
          rw [List.take_succ_eq_append_getElem hlt, List.any_append, HA.out]
          simp [hq]
        clear hc hcell hq HA
        go_wp2_with fail
        go_round
        case rel => exact ⟨k + 1, by omega, by go_num, HF⟩
        case measure => simp [intOf]; omega
    · have HF : Hid (false = l.any (fun y => y == x)) := by
        show _ = _
        have h1 := HA.out
        rw [List.take_of_length_le (by omega)] at h1
        exact h1.symm
      clear hc hs HA
      go_wp2_with fail
      go_ret
      exact ⟨rfl, bool_ret HF.out⟩

end Go.Proofs.YtlinplghgamgbaaGreatDoor
