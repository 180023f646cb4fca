/-
  The program's cursor over bytes: a number.
-/
import Derived.Test.YtpnnbdejneoccaaEC2
namespace Go.Proofs.Ytpnnbdejneoccaa
open Go.RowKit

/-- What taking a number makes. -/
def NumC (w : World) (R : Nat) (ao : Option Addr) (l : List UInt8) (cap i : Nat) (e : Ending) (w' : World) : Prop :=
  Near R w w' ∧ ((∃ v i', decNum (l.drop i) = some (v, l.drop i') ∧ e = .returned (.int .i64 v) ∧ (-1999999998 ≤ v ∧ v ≤ 1999999998) ∧ Cu w' R ao l cap i' ∧ i < i') ∨ (decNum (l.drop i) = none ∧ e = .panicked refusal))

theorem decNum_nil {l : List UInt8} {i : Nat} (h : l.length ≤ i) : decNum (l.drop i) = none := by
  rw [List.drop_eq_nil_of_le h]; rfl

theorem decNum_bad {l : List UInt8} {i : Nat} (h : i < l.length) (hd : dsz (l.length - (i + 1)) 0 0 (l.drop (i + 1)) = none) : decNum (l.drop i) = none := by
  rw [List.drop_eq_getElem_cons h, decNum_cons, List.length_drop, hd]

theorem decNum_at {l : List UInt8} {i n : Nat} {r : List UInt8} (h : i < l.length) (hd : dsz (l.length - (i + 1)) 0 0 (l.drop (i + 1)) = some (n, r)) : decNum (l.drop i) = if l[i].toNat = 0 then some ((n : Int), r) else if l[i].toNat = 1 ∧ 0 < n then some (-(n : Int), r) else none := by
  rw [List.drop_eq_getElem_cons h, decNum_cons, List.length_drop, hd]

set_option maxRecDepth 20000 in
set_option maxHeartbeats 2000000 in
theorem numC_any (w : World) (R : Nat) (ao : Option Addr) (l : List UInt8) (cap i : Nat) (h : Cu w R ao l cap i) :
    Calls Try.prog 72 #[.pointer (some ⟨R, 0, none⟩)] w (NumC w R ao l cap i) := by
  have HC := Lib.hid (takeC_any w R ao l cap i h)
  clear h
  go_enter Try.func72, Try.ntmps72
  go_wp2_with fail
  refine HC.out.mono ?_
  rintro e w1 ⟨hn1, ⟨hi, rfl, h1⟩ | ⟨hi, rfl⟩⟩
  case inr => exact ⟨rfl, hn1, .inr ⟨decNum_nil hi, rfl⟩⟩
  case inl =>
    have HC2 := Lib.hid (sizeC_any w1 R ao l cap (i + 1) h1)
    have HN1 := Lib.hid hn1
    have hv := l[i].toNat_lt
    obtain ⟨v, hvv⟩ : ∃ v, l[i].toNat = v := ⟨_, rfl⟩
    have HV : Hid (∀ (n : Nat) (r : List UInt8), dsz (l.length - (i + 1)) 0 0 (l.drop (i + 1)) = some (n, r) → decNum (l.drop i) = if v = 0 then some ((n : Int), r) else if v = 1 ∧ 0 < n then some (-(n : Int), r) else none) := fun n r hd => by rw [← hvv]; exact decNum_at hi hd
    rw [hvv] at hv
    rw [hvv]
    have HI := Lib.hid hi
    clear HC h1 hn1 hvv
    go_wp2_with fail
    refine HC2.out.mono ?_
    rintro e w2 ⟨hn2, ⟨n, i', hd, rfl, hn, h2, hii⟩ | ⟨hd, rfl⟩⟩
    case inr => exact ⟨rfl, HN1.out.trans hn2, .inr ⟨decNum_bad HI.out hd, rfl⟩⟩
    case inl =>
      have HD := Lib.hid (HV.out n _ hd)
      have HN2 := Lib.hid (HN1.out.trans hn2)
      have HC3 := Lib.hid h2
      clear HC2 hd hn2 h2 HV HN1 hi
      by_cases h0 : v = 0
      · subst h0
        have HP : Hid (NumC w R ao l cap i (.returned (.int .i64 (n : Int))) w2) := ⟨HN2.out, .inl ⟨(n : Int), i', by rw [HD.out, if_pos rfl], rfl, by omega, HC3.out, by omega⟩⟩
        clear HD HN2 HC3 HI
        go_wp2_with (go_at_call 58; refine (demand_yes _).mono ?_; rintro e w' ⟨rfl, rfl⟩)
        go_ret
        exact HP.out
      · by_cases h1 : v = 1 ∧ 0 < n
        · obtain ⟨hv1, hn0⟩ := h1
          subst hv1
          have HP : Hid (NumC w R ao l cap i (.returned (.int .i64 (-(n : Int)))) w2) := ⟨HN2.out, .inl ⟨-(n : Int), i', by rw [HD.out, if_neg h0, if_pos ⟨rfl, hn0⟩], rfl, by omega, HC3.out, by omega⟩⟩
          have hni : (0 : Int) < (n : Int) := by omega
          have hwn : IntKind.i64.wrap (-(n : Int)) = -(n : Int) := by rw [IntKind.wrap_i64]; omega
          clear HD HN2 HC3 HI
          go_wp2_with (go_at_call 58; refine (demand_yes _).mono ?_; rintro e w' ⟨rfl, rfl⟩)
          go_ret
          exact HP.out
        · have HP : Hid (NumC w R ao l cap i (.panicked refusal) w2) := ⟨HN2.out, .inr ⟨by rw [HD.out, if_neg h0, if_neg h1], rfl⟩⟩
          have hb0 : ((v : Int) == 0) = false := by simp; omega
          have h0i : ¬ (v : Int) = 0 := by omega
          clear HD HN2 HC3 HI
          by_cases hv1 : v = 1
          · subst hv1
            have hn0 : n = 0 := by
              rcases Nat.eq_zero_or_pos n with h | h
              · exact h
              · exact absurd ⟨rfl, h⟩ h1
            subst hn0
            clear h1
            go_wp2_with (go_at_call 58; refine (demand_no _).mono ?_; rintro e w' ⟨rfl, rfl⟩)
            exact ⟨rfl, HP.out⟩
          · have hb1 : ((v : Int) == 1) = false := by simp; omega
            have h1i : ¬ (v : Int) = 1 := by omega
            clear h1
            go_wp2_with (go_at_call 58; refine (demand_no _).mono ?_; rintro e w' ⟨rfl, rfl⟩)
            exact ⟨rfl, HP.out⟩

end Go.Proofs.Ytpnnbdejneoccaa
