/-
  What the specification draws: numbers, texts.
-/
import Derived.Test.YtpalkdcgbbbmeaaGreatDoorDS2
import Derived.Test.YtpalkdcgbbbmeaaGreatDoorDOf
import Derived.Test.YtpalkdcgbbbmeaaGreatDoorDB0
namespace Go.Proofs.YtpalkdcgbbbmeaaGreatDoor
open Go.RowKit

set_option maxRecDepth 20000 in
set_option maxHeartbeats 1000000 in
theorem l5Num_any (w : World) (R : Nat) (ao : Option Addr) (L cap p : Nat) (h : Dr w R ao L cap p) (hp : p ≤ 900000) :
    Calls Tryz.prog 60 #[.pointer (some ⟨R, 0, none⟩)] w fun e w' => ∃ (x : Int) (p' : Nat), e = .returned (.int .i64 x) ∧ -1000000000 ≤ x ∧ x ≤ 1000000000 ∧ p' ≤ p + 3 ∧ Near R w w' ∧ Dr w' R ao L cap p' := by
  have HPk : Hid (Calls Tryz.prog 25 #[.pointer (some ⟨R, 0, none⟩), .int .i64 9] w (PickPost w R ao L cap p 9)) := pick_any w R ao L cap p 9 h (by omega) (by omega) (by omega)
  clear h
  go_enter Tryz.func60, Tryz.ntmps60
  go_wp2_with fail
  refine HPk.out.mono ?_
  rintro e w1 ⟨y, rfl, hy, hn1, hD1, hz1⟩
  have HND : Hid (Near R w w1 ∧ Dr w1 R ao L cap (p + 1)) := ⟨hn1, hD1⟩
  clear HPk hn1 hD1 hz1
  by_cases y0 : y = 0
  · subst y0
    go_wp2_with fail
    go_ret
    exact ⟨_, p + 1, rfl, by omega, by omega, by omega, HND.out.1, HND.out.2⟩
  by_cases y1 : y = 1
  · subst y1
    go_wp2_with fail
    go_ret
    exact ⟨_, p + 1, rfl, by omega, by omega, by omega, HND.out.1, HND.out.2⟩
  by_cases y2 : y = 2
  · subst y2
    have HP2 : Hid (Calls Tryz.prog 25 #[.pointer (some ⟨R, 0, none⟩), .int .i64 250] w1 (PickPost w1 R ao L cap (p + 1) 250)) := pick_any w1 R ao L cap (p + 1) 250 HND.out.2 (by omega) (by omega) (by omega)
    go_wp2_with fail
    refine HP2.out.mono ?_
    rintro e w2 ⟨a, rfl, ha, hn2, hD2, hz2⟩
    have hw : IntKind.i64.wrap ((a : Int) * 4000000) = (a : Int) * 4000000 := by rw [IntKind.wrap_i64]; omega
    have HP3 : Hid (Calls Tryz.prog 25 #[.pointer (some ⟨R, 0, none⟩), .int .i64 200] w2 (PickPost w2 R ao L cap (p + 1 + 1) 200)) := pick_any w2 R ao L cap (p + 1 + 1) 200 hD2 (by omega) (by omega) (by omega)
    have HN2 : Hid (Near R w w2) := HND.out.1.trans hn2
    clear HP2 hn2 hD2 hz2 HND
    go_wp2_with fail
    refine HP3.out.mono ?_
    rintro e w3 ⟨b, rfl, hb, hn3, hD3, hz3⟩
    have hw2 : IntKind.i64.wrap ((a : Int) * 4000000 + (b : Int)) = (a : Int) * 4000000 + (b : Int) := by rw [IntKind.wrap_i64]; omega
    have HN3 : Hid (Near R w w3 ∧ Dr w3 R ao L cap (p + 1 + 1 + 1)) := ⟨HN2.out.trans hn3, hD3⟩
    clear HP3 hn3 hD3 hz3 HN2
    go_wp2_with fail
    go_ret
    exact ⟨_, _, rfl, by omega, by omega, by omega, HN3.out.1, HN3.out.2⟩
  have e0 : ((y : Int) == 0) = false := by simp; omega
  have e1 : ((y : Int) == 1) = false := by simp; omega
  have e2 : ((y : Int) == 2) = false := by simp; omega
  by_cases y3 : y = 3
  · subst y3
    have HP2 : Hid (Calls Tryz.prog 25 #[.pointer (some ⟨R, 0, none⟩), .int .i64 2] w1 (PickPost w1 R ao L cap (p + 1) 2)) := pick_any w1 R ao L cap (p + 1) 2 HND.out.2 (by omega) (by omega) (by omega)
    clear e0 e1 e2
    go_wp2_with fail
    refine HP2.out.mono ?_
    rintro e w2 ⟨a, rfl, ha, hn2, hD2, hz2⟩
    have hw : IntKind.i64.wrap (127 + (a : Int)) = 127 + (a : Int) := by rw [IntKind.wrap_i64]; omega
    have HN2 : Hid (Near R w w2 ∧ Dr w2 R ao L cap (p + 1 + 1)) := ⟨HND.out.1.trans hn2, hD2⟩
    clear HP2 hn2 hD2 hz2 HND
    go_wp2_with fail
    go_ret
    exact ⟨_, _, rfl, by omega, by omega, by omega, HN2.out.1, HN2.out.2⟩
  have e3 : ((y : Int) == 3) = false := by simp; omega
  have HP2 : Hid (Calls Tryz.prog 25 #[.pointer (some ⟨R, 0, none⟩), .int .i64 12] w1 (PickPost w1 R ao L cap (p + 1) 12)) := pick_any w1 R ao L cap (p + 1) 12 HND.out.2 (by omega) (by omega) (by omega)
  go_wp2_with fail
  refine HP2.out.mono ?_
  rintro e w2 ⟨a, rfl, ha, hn2, hD2, hz2⟩
  have hw : IntKind.i64.wrap ((a : Int) - 3) = (a : Int) - 3 := by rw [IntKind.wrap_i64]; omega
  have HN2 : Hid (Near R w w2 ∧ Dr w2 R ao L cap (p + 1 + 1)) := ⟨HND.out.1.trans hn2, hD2⟩
  clear HP2 hn2 hD2 hz2 HND
  go_wp2_with fail
  go_ret
  exact ⟨_, _, rfl, by omega, by omega, by omega, HN2.out.1, HN2.out.2⟩

set_option maxRecDepth 20000 in
set_option maxHeartbeats 1000000 in
theorem l5Text_any (w : World) (R : Nat) (ao : Option Addr) (L cap p : Nat) (h : Dr w R ao L cap p) (hp : p ≤ 900000) :
    Calls Tryz.prog 61 #[.pointer (some ⟨R, 0, none⟩)] w fun e w' => ∃ (x : ByteArray) (p' : Nat), e = .returned (.string x) ∧ x.size ≤ 10000 ∧ p' ≤ p + 3 ∧ Near R w w' ∧ Dr w' R ao L cap p' := by
  have HPk : Hid (Calls Tryz.prog 25 #[.pointer (some ⟨R, 0, none⟩), .int .i64 30] w (PickPost w R ao L cap p 30)) := pick_any w R ao L cap p 30 h (by omega) (by omega) (by omega)
  clear h
  go_enter Tryz.func61, Tryz.ntmps61
  go_wp2_with fail
  refine HPk.out.mono ?_
  rintro e w1 ⟨y, rfl, hy, hn1, hD1, hz1⟩
  have HND : Hid (Near R w w1 ∧ Dr w1 R ao L cap (p + 1)) := ⟨hn1, hD1⟩
  clear HPk hn1 hD1 hz1
  by_cases y0 : y = 0
  · subst y0
    have HM : Hid (Calls Tryz.prog 63 #[.string ⟨#[120]⟩, .int .i64 60] w1 _) := l6Many_any ⟨#[120]⟩ 60 w1 (by decide) (by omega)
    go_wp2_with fail
    refine HM.out.mono ?_
    rintro e w2 ⟨x, rfl, hx, rfl⟩
    clear HM
    go_wp2_with fail
    go_ret
    exact ⟨_, _, rfl, hx, by omega, HND.out.1, HND.out.2⟩
  · have e0 : ((y : Int) == 0) = false := by simp; omega
    have HOf : Hid (∀ (cs : Array Value), cs.size = 13 → cs.toList.all okLit = true → Calls Tryz.prog 62 #[.pointer (some ⟨R, 0, none⟩), .slice (some ⟨w1.heap.size, 0, none⟩) 13 13] (w1.alloc (.cells cs 9)) _) := fun cs h1 h2 => of_lit w1 R ao L cap (p + 1) HND.out.2 (by omega) cs 13 h1 (by omega) (by omega) h2
    go_wp2_with fail
    refine (HOf.out _ rfl rfl).mono ?_
    rintro e w2 ⟨x, rfl, hx, hn2, hD2⟩
    have HN2 : Hid (Near R w w2 ∧ Dr w2 R ao L cap (p + 1 + 1)) := ⟨HND.out.1.trans hn2, hD2⟩
    clear HOf hn2 hD2 HND
    go_wp2_with fail
    go_ret
    exact ⟨_, _, rfl, hx, by omega, HN2.out.1, HN2.out.2⟩

end Go.Proofs.YtpalkdcgbbbmeaaGreatDoor
