/-
  KindRead of the program: what it answers, and what the answer owns.
-/
import Derived.Test.YtlinplghgamgbaaGreatDoorB17
import Derived.Test.YtlinplghgamgbaaGreatDoorKOut2
import Derived.Test.YtlinplghgamgbaaGreatDoorKCaught
import Derived.Test.YtlinplghgamgbaaGreatDoorB8
namespace Go.Proofs.YtlinplghgamgbaaGreatDoor
open Go.RowKit

/-- What KindRead gives. -/
def ReadPostK (m : Nat) (k : K m) (ok : Bool) (w : World) (e : Ending) (w' : World) : Prop :=
  Below w.heap.size w w' ∧ ∃ c0 c1 c2 L3 L4, e = .returned (.tuple #[.agg #[c0, c1, c2], .bool ok]) ∧ KindIn (fun b => w.heap.size ≤ b ∧ b < w'.heap.size) w' m k c0 c1 c2 ∧
    SpN w' c1 L3 ∧ SpK w' (m - 1) c2 L4 ∧ Own (fun b => w.heap.size ≤ b ∧ b < w'.heap.size) (L3 ++ L4) ∧ (L3 ++ L4).length ≤ 1000

theorem read_none {m : Nat} {s : ByteArray} {w w' : World} (h : readK (m + 1) s = none) (hb : Below w.heap.size w w') : ReadPostK (m + 1) (ansR m s) (okR m s) w (.returned (.tuple #[.agg #[.int .i64 0, .slice none 0 0, .slice none 0 0], .bool false])) w' := by
  obtain ⟨h1, h2⟩ := ansR_none h
  rw [h1, h2]
  exact ⟨hb, _, _, _, [], [], rfl, zeroK_in _ _ m, SpN.no _, SpK.no _ _, Own.nil _, by simp⟩

set_option maxRecDepth 100000 in
set_option maxHeartbeats 2000000 in
theorem implKRead_any (s : ByteArray) (m : Nat) (hm : s.size ≤ m) (hs : s.size ≤ 1048576) (w : World) :
    Calls Tryz.prog 64 #[.string s] w (ReadPostK (m + 1) (ansR m s) (okR m s) w) := by
  obtain ⟨W1, hW1⟩ : ∃ W1, W1 = w.alloc (.cells #[.int .i64 0, .slice none 0 0, .slice none 0 0] 70) := ⟨_, rfl⟩
  have hz1 : W1.heap.size = w.heap.size + 1 := by rw [hW1]; simp
  have hb1 : Below w.heap.size w W1 := by rw [hW1]; exact (Below.refl _ _).alloc (Nat.le_refl _) _
  have hzero : W1.heap[w.heap.size]? = some (.cells #[.int .i64 0, .slice none 0 0, .slice none 0 0] 70 (0, 0)) := by rw [hW1]; exact heap_alloc_new _ _
  have HPut : Hid (∀ W : World, Below w.heap.size w W → Below w.heap.size w (put3 W w.heap.size 0 (.int .i64 0) (.slice none 0 0) (.slice none 0 0))) := fun W h => put3_below h (Nat.le_refl _)
  by_cases h8 : s.size ≤ 800
  case neg =>
    have HN : Hid (readK (m + 1) s = none) := readK_long h8
    have hgt : (800 : Int) < (s.size : Int) := by omega
    obtain ⟨⟨r0, r1, r2⟩, f0, f1, f2⟩ := zero_kind0 hzero
    rw [hW1] at r0 r1 r2 f0 f1 f2
    have HP : Hid (∀ o, ReadPostK (m + 1) (ansR m s) (okR m s) w (.returned (.tuple #[.agg #[.int .i64 0, .slice none 0 0, .slice none 0 0], .bool false])) (w.alloc o)) := fun o => read_none HN.out ((Below.refl _ _).alloc (Nat.le_refl _) _)
    clear hb1 hzero hz1 HN h8
    go_enter Tryz.func64, Tryz.ntmps64
    go_wp2_with fail
    refine bodyPost_ret (v := .tuple #[.agg #[.int .i64 0, .slice none 0 0, .slice none 0 0], .bool false]) (by simp [results, Tryz.results64, go_sem]) rfl ?_
    exact HP.out _
  have hle : ¬ (800 : Int) < (s.size : Int) := by omega
  have hmf : ∀ (fn : Fn) (first cap : Array Value) (w : World), (Instr.makeFunc fn first cap).run Tryz.prog w = .ok (.func fn first cap) w := fun _ _ _ _ => rfl
  have HNw : Hid (Calls Tryz.prog 79 #[.string s] W1 _) := newKindReader_any s W1
  obtain ⟨W2, hW2⟩ : ∃ W2, W2 = W1.alloc (.cells #[.string s, .int .i64 0] 119) := ⟨_, rfl⟩
  have hz2 : W2.heap.size = W1.heap.size + 1 := by rw [hW2]; simp
  have hb2 : Below w.heap.size w W2 := by rw [hW2]; exact hb1.alloc hb1.size _
  have hnew : W2.heap[w.heap.size + 1]? = some (.cells #[.string s, .int .i64 0] 119 (0, 0)) := by rw [hW2, ← hz1]; exact heap_alloc_new _ _
  have hzero2 : W2.heap[w.heap.size]? = some (.cells #[.int .i64 0, .slice none 0 0, .slice none 0 0] 70 (0, 0)) := by rw [hW2, Below.heap_alloc _ _ _ (by omega)]; exact hzero
  have hSc : Sc W2 (w.heap.size + 1) s 0 := ⟨by simp [World.cell?, hnew], by simp [World.cell?, hnew], by simp [World.frozen?, hnew]⟩
  have HCa : Hid (Calls Tryz.prog 78 #[.func (.func 80) #[.pointer (some ⟨w.heap.size + 1, 0, none⟩)] #[]] W2 (CaughtPost (w.heap.size + 1) s (m + 1) W2)) := caught_any (m + 1) (w.heap.size + 1) s W2 hSc (by omega) (by omega)
  clear hnew hSc hzero hb1
  go_enter Tryz.func64, Tryz.ntmps64
  go_wp2_with fail
  rw [← hW1]
  clear hW1
  refine HNw.out.mono ?_
  rintro e w' ⟨rfl, rfl⟩
  clear HNw
  go_wp2_with fail
  rw [← hW2]
  clear hW2
  refine HCa.out.mono ?_
  rintro e w3 ⟨hn3, hor⟩
  have hz3 := hn3.size
  have hb3 : Below w.heap.size w w3 := ⟨hn3.os.trans hb2.os, hn3.tape.trans hb2.tape, hn3.output.trans hb2.output, by omega, fun b hb => (hn3.block b (by omega) (by omega)).trans (hb2.block b hb)⟩
  have hzero3 : w3.heap[w.heap.size]? = some (.cells #[.int .i64 0, .slice none 0 0, .slice none 0 0] 70 (0, 0)) := (hn3.block _ (by omega) (by omega)).trans hzero2
  clear HCa hb2 hzero2 hn3
  rcases hor with ⟨k, c0, c1, c2, y1, rfl, y4⟩ | ⟨y1, rfl⟩
  case inr =>
    have HN : Hid (readK (m + 1) s = none) := readK_no y1
    have hb4 := hb3.alloc (by omega) (.cells #[.int .i64 0, .slice none 0 0, .slice none 0 0] 70)
    obtain ⟨⟨r0, r1, r2⟩, f0, f1, f2⟩ := zero_kind0 ((Below.heap_alloc w3 (.cells #[.int .i64 0, .slice none 0 0, .slice none 0 0] 70) w.heap.size (by omega)).trans hzero3)
    have HP : Hid (ReadPostK (m + 1) (ansR m s) (okR m s) w _ _) := read_none HN.out (HPut.out _ hb4)
    clear y1 HN hb3 hzero3 hb4 HPut
    go_wp2_with fail
    refine bodyPost_ret (v := .tuple #[.agg #[.int .i64 0, .slice none 0 0, .slice none 0 0], .bool false]) (by simp [results, Tryz.results64, go_sem, r0, r1, r2]) rfl ?_
    exact HP.out
  obtain ⟨z0, za, zl, zc, ua, ul, uc, rfl, rfl, rfl⟩ := y4.shape
  obtain ⟨W4, hW4⟩ : ∃ W4, W4 = w3.alloc (.cells #[.int .i64 z0, .slice za zl zc, .slice ua ul uc] 70) := ⟨_, rfl⟩
  have hz4 : W4.heap.size = w3.heap.size + 1 := by rw [hW4]; simp
  have hb34 : Below w3.heap.size w3 W4 := by rw [hW4]; exact (Below.refl _ _).alloc (Nat.le_refl _) _
  have hb4 := below_step hb3 hb3.size hb34
  have hzero4 := (hb34.block w.heap.size (by omega)).trans hzero3
  obtain ⟨ht4, hB4⟩ := y4.step (fun b hb => hb.2) hb34
  have HC : Hid (Calls Tryz.prog 81 _ _ _) := innerKind_any (m + 1) _ k _ _ _ W4 ht4 hB4
  have HY : Hid (parseK (m + 1) s.data.toList = some (k, [])) := y1
  clear y1 y4 hb3 hzero3 hb34 ht4
  go_wp2_with fail
  rw [← hW4]
  clear hW4
  refine HC.out.mono ?_
  rintro e w5 ⟨hb5, ⟨hok, v, rfl, hin⟩ | ⟨hok, rfl⟩⟩
  case inr =>
    have hz5 := hb5.size
    have HN : Hid (readK (m + 1) s = none) := readK_bad HY.out hok
    have hbw5 := below_step hb4 hb4.size hb5
    obtain ⟨⟨r0, r1, r2⟩, f0, f1, f2⟩ := zero_kind0 ((hb5.block w.heap.size (by omega)).trans hzero4)
    have HP : Hid (ReadPostK (m + 1) (ansR m s) (okR m s) w _ _) := read_none HN.out (HPut.out _ hbw5)
    clear HN HC HY hok hb5 hb4 hzero4 hbw5 HPut hB4
    go_wp2_with fail
    refine bodyPost_ret (v := .tuple #[.agg #[.int .i64 0, .slice none 0 0, .slice none 0 0], .bool false]) (by simp [results, Tryz.results64, go_sem, r0, r1, r2]) rfl ?_
    exact HP.out
  obtain ⟨kb, rfl, -⟩ := id hin.ptr
  have hp := okK_get hok
  have hz5 := hb5.size
  have hbw5 := below_step hb4 hb4.size hb5
  have hzero5 := (hb5.block w.heap.size (by omega)).trans hzero4
  have HO : Hid (Calls Tryz.prog 82 _ _ _) := outerKind_any (m + 1) _ k _ 1 w5 hin (fun b hb => hb.elim (fun h => by have := hB4 b h; omega) (fun h => h.2)) hp.1 hp.2
  have HR : Hid (ansR m s = k ∧ okR m s = true ∧ spKL (m + 1) k ≤ 1000) := by
    obtain ⟨q1, q2⟩ := ansR_some (readK_yes h8 HY.out hok)
    exact ⟨q1, q2, by have := spKL_le (m + 1) k 1 hp.1; omega⟩
  clear HC HY hok hp hin hb5 hb4 hzero4 hB4 HPut
  go_wp2_with fail
  refine HO.out.mono ?_
  rintro e w6 ⟨hb6, g0, g1, g2, L3, L4, rfl, hin6, hs3, hs4, ho, hl⟩
  obtain ⟨u0, va, vl, vc, ya, yl, yc, rfl, rfl, rfl⟩ := hin6.shape
  have hz6 := hb6.size
  obtain ⟨⟨r0, r1, r2⟩, f0, f1, f2⟩ := zero_kind0 ((hb6.block w.heap.size (by omega)).trans hzero5)
  have HP : Hid (ReadPostK (m + 1) (ansR m s) (okR m s) w (.returned (.tuple #[.agg #[.int .i64 u0, .slice va vl vc, .slice ya yl yc], .bool true])) (put3 w6 w.heap.size 0 (.int .i64 u0) (.slice va vl vc) (.slice ya yl yc))) := by
    obtain ⟨q1, q2, q3⟩ := HR.out
    rw [q1, q2]
    have q : ∀ b, w5.heap.size ≤ b → (put3 w6 w.heap.size 0 (.int .i64 u0) (.slice va vl vc) (.slice ya yl yc)).heap[b]? = w6.heap[b]? := fun b h => put3_other (by omega)
    have hS : ∀ b, (w5.heap.size ≤ b ∧ b < w6.heap.size) → w.heap.size ≤ b ∧ b < (put3 w6 w.heap.size 0 (.int .i64 u0) (.slice va vl vc) (.slice ya yl yc)).heap.size := fun b h => by rw [put3_size]; omega
    exact ⟨put3_below (below_step hbw5 hbw5.size hb6) (Nat.le_refl _), _, _, _, L3, L4, rfl, hin6.keep (fun b h => q b h.1) hS, hs3.same (fun s h => q _ (ho.1 s (List.mem_append_left _ h)).1), hs4.same (fun s h => q _ (ho.1 s (List.mem_append_right _ h)).1), ho.mono hS, by rw [hl]; exact q3⟩
  clear HO HR hin6 hs3 hs4 ho hl hb6 hbw5 hzero5
  go_wp2_with fail
  refine bodyPost_ret (v := .tuple #[.agg #[.int .i64 u0, .slice va vl vc, .slice ya yl yc], .bool true]) (by simp [results, Tryz.results64, go_sem, r0, r1, r2]) rfl ?_
  exact HP.out

end Go.Proofs.YtlinplghgamgbaaGreatDoor
