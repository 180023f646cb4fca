import Derived.Test.YtmjhcgjhlakceaaGreatDoorB4
import Derived.Laws.RangeString
import Derived.Laws.RangeAny
import Derived.Laws.Runes
import Derived.LoopTactic
import Derived.WalkMore
namespace Go.Proofs.YtmjhcgjhlakceaaGreatDoor
open Go.RowKit
def letB (b : Nat) : Prop := (97 <= b /\ b <= 122) ∨ (48 <= b /\ b <= 57)
def AheadPost (s : ByteArray) (w : World) (e : Ending) (w' : World) : Prop :=
 Below w.heap.size w w' /\ (((∀ k (h : k < s.size), letB (s[k]'h).toNat) /\ e = .returned (.string s)) ∨ ∃ k, ∃ h : k < s.size, ¬ letB (s[k]'h).toNat /\ (∀ j (h : j < s.size), j < k -> letB (s[j]'h).toNat) /\ e = .returned (.string (s.extract 0 k)))
theorem below_iter (w : World) (s : ByteArray) (pos : Nat) : Below w.heap.size w (w.iter s pos) := (Below.refl _ _).alloc (Nat.le_refl _) _
set_option maxRecDepth 20000 in
set_option maxHeartbeats 2000000 in
theorem ahead_any (s : ByteArray) (w : World) (hs : s.size <= 10000) : Calls Tryz.prog 75 #[.string s] w (AheadPost s w) := by
 go_enter Tryz.func75, Tryz.ntmps75
 go_wp2_with fail
 go_step3
 go_wp2_with fail
 go_step3
 go_wp2_with fail
 go_loopw [3] (fun n w' => ∃ (pos : Nat), pos <= s.size /\ w' = w.iter s pos /\ n = .int .i64 (pos : Int) /\ ∀ k (h : k < s.size), k < pos -> letB (s[k]'h).toNat) (fun _ w' => s.size - w'.iterPos w.heap.size)
 case atStart => exact ⟨0, by omega, rfl, rfl, fun k _ h => absurd h (Nat.not_lt_zero _)⟩
 case round =>
  obtain ⟨pos, hps, rfl, rfl, hk⟩ := hrel
  have HK := Lib.hid hk
  clear hk
  by_cases hp : pos < s.size
  ·have hdec : (∃ c : Nat, (Utf8.decode s pos) = (c, 1) /\ c = (s[pos]'hp).toNat /\ c < 128) ∨ (∃ c d : Nat, (Utf8.decode s pos) = (c, d) /\ 128 <= c /\ c <= 2147483647 /\ 128 <= (s[pos]'hp).toNat) := by
    by_cases ha : (s[pos]'hp).toNat < 128
    ·exact .inl ⟨_, decode_ascii s pos hp ha, rfl, ha⟩
    ·exact .inr ⟨_, _, rfl, (decode_high s pos hp (by omega)).1, decode_le s pos, by omega⟩
   rcases hdec with ⟨c, hd, hc, hc8⟩ | ⟨c, d, hd, hc8, hcm, hb8⟩
   ·have hnx : ∀ ty, (Instr.next (.pointer (some ⟨w.heap.size, 0, none⟩)) true ty).run Tryz.prog (w.iter s pos) = .ok (.tuple #[.bool true, .int .i64 (pos : Int), .int .i32 (c : Int)]) (w.iter s (pos + 1)) := fun ty => by rw [run_next_any w s pos ty hp, hd]
    clear hd
    by_cases h1 : 97 <= c /\ c <= 122
    ·have p1 : (97 : Int) <= (c : Int) := by omega
     have p2 : (c : Int) <= 122 := by omega
     have p3 : 97 <= c := h1.1
     have p4 : c <= 122 := h1.2
     have hwp : IntKind.i64.wrap ((pos : Int) + 1) = (pos : Int) + 1 := by rw [IntKind.wrap_i64]; omega
     have HL : Hid (∀ k (h : k < s.size), k < pos + 1 -> letB (s[k]'h).toNat) := fun k h hk => by
      rcases Nat.lt_or_ge k pos with h1 | h1
      ·exact HK.out k h h1
      ·have : k = pos := by omega
       subst this
       rw [<- hc]; unfold letB; omega
     clear hc HK h1
     go_wp2_with fail
     go_roundw
     case rel => exact ⟨pos + 1, by omega, rfl, by go_num, HL.out⟩
     case measure => simp; omega
    ·by_cases h2 : 48 <= c /\ c <= 57
     ·have p1 : ¬ (97 : Int) <= (c : Int) := by omega
      have p1' : ¬ 97 <= c := by omega
      have p2 : (48 : Int) <= (c : Int) := by omega
      have p3 : 48 <= c := h2.1
      have p4 : c <= 57 := h2.2
      have p5 : (c : Int) <= 57 := by omega
      have hwp : IntKind.i64.wrap ((pos : Int) + 1) = (pos : Int) + 1 := by rw [IntKind.wrap_i64]; omega
      have HL : Hid (∀ k (h : k < s.size), k < pos + 1 -> letB (s[k]'h).toNat) := fun k h hk => by
       rcases Nat.lt_or_ge k pos with h1 | h1
       ·exact HK.out k h h1
       ·have : k = pos := by omega
        subst this
        rw [<- hc]; unfold letB; omega
      clear hc HK h1 h2
      go_wp2_with fail
      go_roundw
      case rel => exact ⟨pos + 1, by omega, rfl, by go_num, HL.out⟩
      case measure => simp; omega
     ·have hdx : c < 48 ∨ (57 < c /\ c < 97) ∨ 122 < c := by omega
      have hpi : (pos : Int) <= (s.size : Int) := by omega
      by_cases q1 : c < 48
      ·have HP : Hid (AheadPost s w (.returned (.string (s.extract 0 pos))) (w.iter s (pos + 1))) := ⟨below_iter _ _ _, .inr ⟨pos, hp, by rw [<- hc]; unfold letB; omega, HK.out, rfl⟩⟩
       have p1 : ¬ 97 <= c := by omega
       have p2 : ¬ 48 <= c := by omega
       clear hc h1 h2 q1
       clear HK hdx
       go_wp2_with fail
       try rw [Exit.noGoto_ret]
       go_ret
       exact HP.out
      by_cases q2 : c < 97
      ·have HP : Hid (AheadPost s w (.returned (.string (s.extract 0 pos))) (w.iter s (pos + 1))) := ⟨below_iter _ _ _, .inr ⟨pos, hp, by rw [<- hc]; unfold letB; omega, HK.out, rfl⟩⟩
       have p1 : ¬ 97 <= c := by omega
       have p2 : 48 <= c := by omega
       have p3 : ¬ c <= 57 := by omega
       clear hc h1 h2 q1 q2
       clear HK hdx
       go_wp2_with fail
       try rw [Exit.noGoto_ret]
       go_ret
       exact HP.out
      have HP : Hid (AheadPost s w (.returned (.string (s.extract 0 pos))) (w.iter s (pos + 1))) := ⟨below_iter _ _ _, .inr ⟨pos, hp, by rw [<- hc]; unfold letB; omega, HK.out, rfl⟩⟩
      have p1 : 97 <= c := by omega
      have p2 : ¬ c <= 122 := by omega
      have p3 : 48 <= c := by omega
      have p4 : ¬ c <= 57 := by omega
      clear hc h1 h2 q1 q2
      clear HK hdx
      go_wp2_with fail
      try rw [Exit.noGoto_ret]
      go_ret
      exact HP.out
   ·have hnx : ∀ ty, (Instr.next (.pointer (some ⟨w.heap.size, 0, none⟩)) true ty).run Tryz.prog (w.iter s pos) = .ok (.tuple #[.bool true, .int .i64 (pos : Int), .int .i32 (c : Int)]) (w.iter s (pos + d)) := fun ty => by rw [run_next_any w s pos ty hp, hd]
    have hdx := hd
    have hpi : (pos : Int) <= (s.size : Int) := by omega
    have p1 : 97 <= c := by omega
    have p2 : ¬ c <= 122 := by omega
    have p3 : 48 <= c := by omega
    have p4 : ¬ c <= 57 := by omega
    clear hd
    have HP : Hid (AheadPost s w (.returned (.string (s.extract 0 pos))) (w.iter s (pos + d))) := ⟨below_iter _ _ _, .inr ⟨pos, hp, by unfold letB; omega, HK.out, rfl⟩⟩
    clear hb8
    clear HK hdx
    go_wp2_with fail
    try rw [Exit.noGoto_ret]
    go_ret
    exact HP.out
  ·have hnx : ∀ ty, (Instr.next (.pointer (some ⟨w.heap.size, 0, none⟩)) true ty).run Tryz.prog (w.iter s pos) = _ := fun ty => run_next_end w s pos ty hp
   have hpe : pos = s.size := by omega
   have HP : Hid (AheadPost s w (.returned (.string s)) (w.iter s pos)) := ⟨below_iter _ _ _, .inl ⟨fun k h => HK.out k h (by omega), rfl⟩⟩
   have hex : s.extract 0 s.size = s := by simp
   have hpi : (pos : Int) = (s.size : Int) := by omega
   subst hpe
   go_wp2_with fail
   go_ret
   exact HP.out
end Go.Proofs.YtmjhcgjhlakceaaGreatDoor
