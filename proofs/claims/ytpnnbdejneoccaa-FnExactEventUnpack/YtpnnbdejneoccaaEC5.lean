/-
  The program's cursor over bytes: a Type.
-/
import Derived.Test.YtpnnbdejneoccaaEC4
namespace Go.Proofs.Ytpnnbdejneoccaa
open Go.RowKit

/-- What taking a Type makes. -/
def TypeC (w : World) (R : Nat) (ao : Option Addr) (l : List UInt8) (cap i : Nat) (e : Ending) (w' : World) : Prop :=
  Near R w w' ∧ ((∃ x i', takeS (l.drop i) = some (x, l.drop i') ∧ (∀ k (h : k < x.size), letB (x[k]'h).toNat) ∧ e = .returned (.string x) ∧ x.size ≤ 255 ∧ Cu w' R ao l cap i' ∧ i < i') ∨
    ((∀ x r, takeS (l.drop i) = some (x, r) → ∃ k, ∃ h : k < x.size, ¬ letB (x[k]'h).toNat) ∧ e = .panicked refusal))

set_option maxRecDepth 20000 in
set_option maxHeartbeats 2000000 in
theorem typeC_any (w : World) (R : Nat) (ao : Option Addr) (l : List UInt8) (cap i : Nat) (h : Cu w R ao l cap i) :
    Calls Try.prog 55 #[.pointer (some ⟨R, 0, none⟩)] w (TypeC w R ao l cap i) := by
  have HC := Lib.hid (textC_any w R ao l cap i h)
  clear h
  go_enter Try.func55, Try.ntmps55
  go_wp2_with fail
  refine HC.out.mono ?_
  rintro e w1 ⟨hn1, ⟨x, i', ht, rfl, hx, h1, hii⟩ | ⟨ht, rfl⟩⟩
  case inr => exact ⟨rfl, hn1, .inr ⟨fun x r h => (by rw [ht] at h; cases h), rfl⟩⟩
  case inl =>
    have HC2 := Lib.hid (ahead_any x w1 (by omega))
    have HT := Lib.hid ht
    have HN := Lib.hid hn1
    have HC1 := Lib.hid h1
    clear HC ht hn1 h1
    go_wp2_with fail
    refine HC2.out.mono ?_
    rintro e w2 ⟨hb2, ⟨ha, rfl⟩ | ⟨k, hk, hne, rfl⟩⟩
    · have HP : Hid (TypeC w R ao l cap i (.returned (.string x)) w2) := ⟨HN.out.trans (Near.of_below hb2), .inl ⟨x, i', HT.out, ha, rfl, hx, HC1.out.same hb2, hii⟩⟩
      have hb : (x.toList == x.toList) = true := by simp
      clear ha hb2 HC2 HT HN HC1
      go_wp2_with (go_at_call 58; refine (demand_yes _).mono ?_; rintro e w' ⟨rfl, rfl⟩)
      go_ret
      exact HP.out
    · have HP : Hid (TypeC w R ao l cap i (.panicked refusal) w2) := ⟨HN.out.trans (Near.of_below hb2), .inr ⟨fun y r h => (by rw [HT.out] at h; cases h; exact ⟨k, hk, hne⟩), rfl⟩⟩
      obtain ⟨y, hy⟩ : ∃ y, y = x.extract 0 k := ⟨_, rfl⟩
      have hyx : ¬ y = x := fun e => by
        have h1 : (x.extract 0 k).size = x.size := by rw [← hy, e]
        rw [ByteArray.size_extract] at h1
        omega
      have hb : (y.toList == x.toList) = false := by
        rw [beq_eq_false_iff_ne]
        intro e
        rw [ByteArray.toList_eq, ByteArray.toList_eq] at e
        apply hyx
        cases y with | mk d1 => cases x with | mk d2 => simpa using e
      rw [← hy]
      clear hy hne hk hb2 HC2 HT HN HC1
      go_wp2_with (go_at_call 58; refine (demand_no _).mono ?_; rintro e w' ⟨rfl, rfl⟩)
      exact ⟨rfl, HP.out⟩

end Go.Proofs.Ytpnnbdejneoccaa
