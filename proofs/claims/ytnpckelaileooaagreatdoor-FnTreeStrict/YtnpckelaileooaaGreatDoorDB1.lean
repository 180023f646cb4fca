/-
  What the specification draws: l5Bend.
-/
import Derived.Test.YtnpckelaileooaaGreatDoorB2
import Derived.Deep.RegionLaw
namespace Go.Proofs.YtnpckelaileooaaGreatDoor
open Go.RowKit

theorem ext_le (s : ByteArray) (i j : Nat) : (s.extract i j).size ≤ s.size := by rw [ByteArray.size_extract]; omega

set_option maxRecDepth 20000 in
set_option maxHeartbeats 8000000 in
theorem l5Bend_any (w : World) (R : Nat) (ao : Option Addr) (L cap p : Nat) (s : ByteArray) (h : Dr w R ao L cap p) (hp : p ≤ 900000) (hs : s.size ≤ 10000) :
    Calls Tryz.prog 31 #[.pointer (some ⟨R, 0, none⟩), .string s] w fun e w' => ∃ x : ByteArray, e = .returned (.string x) ∧ x.size ≤ 30000 ∧ Near R w w' ∧ ∃ p', p' ≤ p + 3 ∧ Dr w' R ao L cap p' := by
  by_cases h0 : s.size = 0
  · have h0i : (s.size : Int) = 0 := by omega
    have HOf : Hid (Calls Tryz.prog 29 #[.pointer (some ⟨R, 0, none⟩), .slice (some ⟨w.heap.size, 0, none⟩) 3 3] (w.alloc (.cells #[.string ⟨#[32]⟩, .string ⟨#[48]⟩, .string ⟨#[123, 125]⟩] 9)) fun e w' => ∃ s : ByteArray, e = .returned (.string s) ∧ s.size ≤ 10000 ∧ Near R w w' ∧ Dr w' R ao L cap (p + 1)) := of_lit w R ao L cap p h (by omega) _ 3 rfl (by omega) (by omega) (by decide)
    clear h
    go_enter Tryz.func31, Tryz.ntmps31
    go_wp2_with fail
    refine HOf.out.mono ?_
    rintro e w1 ⟨x, rfl, hx, hn1, hD1⟩
    have HP : Hid (Near R w w1 ∧ Dr w1 R ao L cap (p + 1)) := ⟨hn1, hD1⟩
    clear HOf hn1 hD1
    go_wp2_with fail
    go_ret
    exact ⟨x, rfl, by omega, HP.out.1, p + 1, by omega, HP.out.2⟩
  · have h0i : ¬ (s.size : Int) = 0 := by omega
    have HPk : Hid (Calls Tryz.prog 28 #[.pointer (some ⟨R, 0, none⟩), .int .i64 (s.size : Int)] w (PickPost w R ao L cap p s.size)) := pick_any w R ao L cap p s.size h (by omega) (by omega) (by omega)
    clear h
    go_enter Tryz.func31, Tryz.ntmps31
    go_wp2_with fail
    refine HPk.out.mono ?_
    rintro e w1 ⟨i, rfl, hi, hn1, hD1, -⟩
    have HPk2 : Hid (Calls Tryz.prog 28 #[.pointer (some ⟨R, 0, none⟩), .int .i64 6] w1 (PickPost w1 R ao L cap (p + 1) 6)) := pick_any w1 R ao L cap (p + 1) 6 hD1 (by omega) (by omega) (by omega)
    have HN1 : Hid (Near R w w1) := hn1
    clear HPk hn1 hD1
    go_wp2_with fail
    refine HPk2.out.mono ?_
    rintro e w2 ⟨v, rfl, hv, hn2, hD2, -⟩
    have HN2 : Hid (Near R w w2 ∧ Dr w2 R ao L cap (p + 1 + 1)) := ⟨HN1.out.trans hn2, hD2⟩
    have HD2' : Hid (Dr w2.drew R ao L cap (p + 1 + 1)) := hD2.drewN 1
    clear HPk2 HN1 hn2 hD2
    have hii : (i : Int) < (s.size : Int) := by omega
    have hi1 : (i : Int) + 1 ≤ (s.size : Int) := by omega
    have hil : i ≤ s.size := by omega
    have hwr : IntKind.i64.wrap ((i : Int) + 1) = (i : Int) + 1 := by rw [IntKind.wrap_i64]; omega
    have hnn : (0 : Int) ≤ (i : Int) + 1 := by omega
    have hil1 : i + 1 ≤ s.size := by omega
    obtain ⟨A, hA⟩ : ∃ A, s.extract 0 i = A := ⟨_, rfl⟩
    obtain ⟨B, hB⟩ : ∃ B, s.extract i s.size = B := ⟨_, rfl⟩
    obtain ⟨C, hC⟩ : ∃ C, s.extract (i + 1) s.size = C := ⟨_, rfl⟩
    have hAs : A.size ≤ 10000 := by rw [← hA]; have := ext_le s 0 i; omega
    have hBs : B.size ≤ 10000 := by rw [← hB]; have := ext_le s i s.size; omega
    have hCs : C.size ≤ 10000 := by rw [← hC]; have := ext_le s (i + 1) s.size; omega
    have hcase : v = 0 ∨ v = 1 ∨ v = 2 ∨ v = 3 ∨ v = 4 ∨ v = 5 := by omega
    rcases hcase with rfl | rfl | rfl | rfl | rfl | rfl
    · go_wp2_with fail
      go_ret
      exact ⟨_, rfl, by omega, HN2.out.1, p + 1 + 1, by omega, HN2.out.2⟩
    · have hc1 : ¬ 9223372036854775807 < A.size + C.size := by omega
      go_wp2_with fail
      go_region
      all_goals
        go_wp2_with fail
        go_ret
        exact ⟨_, rfl, by rw [ByteArray.size_append]; omega, HN2.out.1.trans ((Near.refl R w2).drew), p + 1 + 1, by omega, HD2'.out⟩
    · have HOf : Hid (Calls Tryz.prog 29 #[.pointer (some ⟨R, 0, none⟩), .slice (some ⟨w2.heap.size, 0, none⟩) 10 10] (w2.drew.alloc (.cells #[.string ⟨#[32]⟩, .string ⟨#[44]⟩, .string ⟨#[48]⟩, .string ⟨#[45]⟩, .string ⟨#[34]⟩, .string ⟨#[126]⟩, .string ⟨#[63]⟩, .string ⟨#[93]⟩, .string ⟨#[125]⟩, .string ⟨#[97]⟩] 9)) fun e w' => ∃ s : ByteArray, e = .returned (.string s) ∧ s.size ≤ 10000 ∧ Near R w2.drew w' ∧ Dr w' R ao L cap (p + 1 + 1 + 1)) := of_lit w2.drew R ao L cap (p + 1 + 1) HD2'.out (by omega) _ 10 rfl (by omega) (by omega) (by decide)
      go_wp2_with fail
      go_region_law (go_simp; go_at_call 29; refine HOf.out.mono ?_; rintro e w3 ⟨x, rfl, hx, hn3, hD3⟩; have hc1 : ¬ 9223372036854775807 < A.size + x.size := (by omega); have hc2 : ¬ 9223372036854775807 < A.size + x.size + B.size := (by omega))
      all_goals
        have HP : Hid (Near R w w3 ∧ Dr w3 R ao L cap (p + 1 + 1 + 1)) := ⟨(HN2.out.1.trans ((Near.refl R w2).drew)).trans hn3, hD3⟩
        clear HOf hn3 hD3
        go_wp2_with fail
        go_ret
        exact ⟨_, rfl, by rw [ByteArray.size_append, ByteArray.size_append]; omega, HP.out.1, p + 1 + 1 + 1, by omega, HP.out.2⟩
    · have HOf : Hid (Calls Tryz.prog 29 #[.pointer (some ⟨R, 0, none⟩), .slice (some ⟨w2.heap.size, 0, none⟩) 11 11] (w2.drew.alloc (.cells #[.string ⟨#[32]⟩, .string ⟨#[44]⟩, .string ⟨#[48]⟩, .string ⟨#[45]⟩, .string ⟨#[34]⟩, .string ⟨#[126]⟩, .string ⟨#[63]⟩, .string ⟨#[91]⟩, .string ⟨#[123]⟩, .string ⟨#[97]⟩, .string ⟨#[57]⟩] 9)) fun e w' => ∃ s : ByteArray, e = .returned (.string s) ∧ s.size ≤ 10000 ∧ Near R w2.drew w' ∧ Dr w' R ao L cap (p + 1 + 1 + 1)) := of_lit w2.drew R ao L cap (p + 1 + 1) HD2'.out (by omega) _ 11 rfl (by omega) (by omega) (by decide)
      go_wp2_with fail
      go_region_law (go_simp; go_at_call 29; refine HOf.out.mono ?_; rintro e w3 ⟨x, rfl, hx, hn3, hD3⟩; have hc1 : ¬ 9223372036854775807 < A.size + x.size := (by omega); have hc2 : ¬ 9223372036854775807 < A.size + x.size + C.size := (by omega))
      all_goals
        have HP : Hid (Near R w w3 ∧ Dr w3 R ao L cap (p + 1 + 1 + 1)) := ⟨(HN2.out.1.trans ((Near.refl R w2).drew)).trans hn3, hD3⟩
        clear HOf hn3 hD3
        go_wp2_with fail
        go_ret
        exact ⟨_, rfl, by rw [ByteArray.size_append, ByteArray.size_append]; omega, HP.out.1, p + 1 + 1 + 1, by omega, HP.out.2⟩
    · have HOf : Hid (Calls Tryz.prog 29 #[.pointer (some ⟨R, 0, none⟩), .slice (some ⟨w2.heap.size, 0, none⟩) 5 5] (w2.alloc (.cells #[.string ⟨#[32]⟩, .string ⟨#[44]⟩, .string ⟨#[48]⟩, .string ⟨#[125]⟩, .string ⟨#[10]⟩] 9)) fun e w' => ∃ s : ByteArray, e = .returned (.string s) ∧ s.size ≤ 10000 ∧ Near R w2 w' ∧ Dr w' R ao L cap (p + 1 + 1 + 1)) := of_lit w2 R ao L cap (p + 1 + 1) HN2.out.2 (by omega) _ 5 rfl (by omega) (by omega) (by decide)
      go_wp2_with fail
      refine HOf.out.mono ?_
      rintro e w3 ⟨x, rfl, hx, hn3, hD3⟩
      have HP : Hid (Near R w w3 ∧ Dr w3 R ao L cap (p + 1 + 1 + 1)) := ⟨HN2.out.1.trans hn3, hD3⟩
      have hc1 : ¬ 9223372036854775807 < s.size + x.size := by omega
      clear HOf hn3 hD3
      go_wp2_with fail
      go_ret
      exact ⟨_, rfl, by rw [ByteArray.size_append]; omega, HP.out.1, p + 1 + 1 + 1, by omega, HP.out.2⟩
    · have HOf : Hid (Calls Tryz.prog 29 #[.pointer (some ⟨R, 0, none⟩), .slice (some ⟨w2.heap.size, 0, none⟩) 3 3] (w2.alloc (.cells #[.string ⟨#[32]⟩, .string ⟨#[43]⟩, .string ⟨#[48]⟩] 9)) fun e w' => ∃ s : ByteArray, e = .returned (.string s) ∧ s.size ≤ 10000 ∧ Near R w2 w' ∧ Dr w' R ao L cap (p + 1 + 1 + 1)) := of_lit w2 R ao L cap (p + 1 + 1) HN2.out.2 (by omega) _ 3 rfl (by omega) (by omega) (by decide)
      go_wp2_with fail
      refine HOf.out.mono ?_
      rintro e w3 ⟨x, rfl, hx, hn3, hD3⟩
      have HP : Hid (Near R w w3 ∧ Dr w3 R ao L cap (p + 1 + 1 + 1)) := ⟨HN2.out.1.trans hn3, hD3⟩
      have hc1 : ¬ 9223372036854775807 < x.size + s.size := by omega
      clear HOf hn3 hD3
      go_wp2_with fail
      go_ret
      exact ⟨_, rfl, by rw [ByteArray.size_append]; omega, HP.out.1, p + 1 + 1 + 1, by omega, HP.out.2⟩

end Go.Proofs.YtnpckelaileooaaGreatDoor
