/-
  TreeRead of the program: what it answers, and what the answer owns.
-/
import Derived.Test.YtfbfchffnapnnaaGreatDoorTI4
import Derived.Test.YtfbfchffnapnnaaGreatDoorTNew
import Derived.Test.YtfbfchffnapnnaaGreatDoorTClean
import Derived.Test.YtfbfchffnapnnaaGreatDoorB31
import Derived.Test.YtfbfchffnapnnaaGreatDoorB1
import Derived.Test.YtfbfchffnapnnaaGreatDoorB13
namespace Go.Proofs.YtfbfchffnapnnaaGreatDoor
open Go.RowKit

/-- What TreeRead gives. -/
def ReadPostT (m : Nat) (t : T m) (ok : Bool) (w : World) (e : Ending) (w' : World) : Prop :=
  Below w.heap.size w w' ∧ ∃ c0 c1 c2 c3 c4 L3 L4, e = .returned (.tuple #[.agg #[c0, c1, c2, c3, c4], .bool ok]) ∧ TreeIn (fun b => w.heap.size ≤ b ∧ b < w'.heap.size) w' m t c0 c1 c2 c3 c4 ∧
    SpN w' c3 L3 ∧ SpR w' (m - 1) c4 L4 ∧ Own (fun b => w.heap.size ≤ b ∧ b < w'.heap.size) (L3 ++ L4) ∧ (L3 ++ L4).length ≤ 1000

theorem readT_noneP {m : Nat} {s : ByteArray} {w w' : World} (h : readT (m + 1) s = none) (hb : Below w.heap.size w w') : ReadPostT (m + 1) (ansU m s) (okU m s) w (.returned (.tuple #[.agg #[.int .i64 0, .int .i64 0, .string ⟨#[]⟩, .slice none 0 0, .slice none 0 0], .bool false])) w' := by
  obtain ⟨h1, h2⟩ := ansU_none h
  rw [h1, h2]
  exact ⟨hb, _, _, _, _, _, [], [], rfl, leafT_in _ _ m 0 0 _ rfl rfl (by decide), SpN.no _, SpR.no _ _, Own.nil _, by simp⟩

set_option maxRecDepth 100000 in
set_option maxHeartbeats 2000000 in
theorem implTRead_any (s : ByteArray) (m B : Nat) (hm : s.size ≤ m) (hs : s.size ≤ 1048576) (w : World) (hL : LaidU B w) (hB : B ≤ w.heap.size) :
    Calls Tryz.prog 7 #[.string s] w (ReadPostT (m + 1) (ansU m s) (okU m s) w) := by
  obtain ⟨W1, hW1⟩ : ∃ W1, W1 = w.alloc (.cells #[.int .i64 0, .int .i64 0, .string ⟨#[]⟩, .slice none 0 0, .slice none 0 0] 29) := ⟨_, rfl⟩
  have hz1 : W1.heap.size = w.heap.size + 1 := by rw [hW1]; simp
  have hb1 : Below w.heap.size w W1 := by rw [hW1]; exact (Below.refl _ _).alloc (Nat.le_refl _) _
  have hzero : W1.heap[w.heap.size]? = some (.cells #[.int .i64 0, .int .i64 0, .string ⟨#[]⟩, .slice none 0 0, .slice none 0 0] 29 (0, 0)) := by rw [hW1]; exact heap_alloc_new _ _
  have HPut : Hid (∀ W : World, Below w.heap.size w W → Below w.heap.size w (put5 W w.heap.size 0 (.int .i64 0) (.int .i64 0) (.string ⟨#[]⟩) (.slice none 0 0) (.slice none 0 0))) := fun W h => put5_below h (Nat.le_refl _)
  by_cases h8 : s.size ≤ 10000
  case neg =>
    have HN : Hid (readT (m + 1) s = none) := readT_long h8
    have hgt : (10000 : Int) < (s.size : Int) := by omega
    have HP : Hid (∀ o, ReadPostT (m + 1) (ansU m s) (okU m s) w (.returned (.tuple #[.agg #[.int .i64 0, .int .i64 0, .string ⟨#[]⟩, .slice none 0 0, .slice none 0 0], .bool false])) (w.alloc o)) := fun o => readT_noneP HN.out ((Below.refl _ _).alloc (Nat.le_refl _) _)
    clear hb1 hzero hz1 HN h8 hL
    go_enter Tryz.func7, Tryz.ntmps7
    go_wp2_with fail
    refine bodyPost_ret (v := .tuple #[.agg #[.int .i64 0, .int .i64 0, .string ⟨#[]⟩, .slice none 0 0, .slice none 0 0], .bool false]) (by simp [results, Tryz.results7, go_sem]) rfl ?_
    exact HP.out _
  have hle : ¬ (10000 : Int) < (s.size : Int) := by omega
  have hmf : ∀ (fn : Fn) (first cap : Array Value) (w : World), (Instr.makeFunc fn first cap).run Tryz.prog w = .ok (.func fn first cap) w := fun _ _ _ _ => rfl
  have HNw : Hid (Calls Tryz.prog 26 #[.string s] W1 fun e w' => e = .returned (.pointer (some ⟨W1.heap.size, 0, none⟩)) ∧ Below W1.heap.size W1 w' ∧ Sc w' W1.heap.size s 0 ∧ Meth w' W1.heap.size) := newTreeReader_any s W1
  have HLa : Hid (LaidU B w) := hL
  clear hL
  go_enter Tryz.func7, Tryz.ntmps7
  go_wp2_with fail
  rw [← hW1]
  clear hW1
  refine HNw.out.mono ?_
  rintro e W2 ⟨rfl, hb12, hSc, hMe⟩
  have hz2 : W1.heap.size < W2.heap.size := hSc.lt
  have hb2 := below_step hb1 hb1.size hb12
  have hzero2 := (hb12.block w.heap.size (by omega)).trans hzero
  have HCa : Hid (Calls Tryz.prog 25 #[.func (.func 27) #[.pointer (some ⟨w.heap.size + 1, 0, none⟩)] #[]] W2 (CaughtT (w.heap.size + 1) s (m + 1) W2)) := by
    rw [← hz1]
    exact caughtT_any (m + 1) B W1.heap.size s W2 (HLa.out.step (hb2.mono hB)) (by omega) hSc hMe (by omega) (by omega)
  clear hSc hMe hzero hb1 hb12 HNw HLa
  go_wp2_with fail
  refine HCa.out.mono ?_
  rintro e w3 ⟨hn3, hor⟩
  have hz3 := hn3.size
  have hb3 : Below w.heap.size w w3 := ⟨hn3.os.trans hb2.os, hn3.tape.trans hb2.tape, hn3.output.trans hb2.output, by omega, fun b hb => (hn3.block b (by omega) (by omega)).trans (hb2.block b hb)⟩
  have hzero3 : w3.heap[w.heap.size]? = some (.cells #[.int .i64 0, .int .i64 0, .string ⟨#[]⟩, .slice none 0 0, .slice none 0 0] 29 (0, 0)) := (hn3.block _ (by omega) (by omega)).trans hzero2
  clear HCa hb2 hzero2 hn3
  rcases hor with ⟨t, v, y1, rfl, y4⟩ | ⟨y1, rfl⟩
  case inr =>
    have HN : Hid (readT (m + 1) s = none) := readT_no y1
    obtain ⟨⟨r0, r1, r2, r3, r4⟩, f0, f1, f2, f3, f4⟩ := zeroT_cells hzero3
    have HP : Hid (ReadPostT (m + 1) (ansU m s) (okU m s) w _ _) := readT_noneP HN.out (HPut.out _ hb3)
    clear y1 HN hb3 hzero3 HPut
    go_wp2_with fail
    refine bodyPost_ret (v := .tuple #[.agg #[.int .i64 0, .int .i64 0, .string ⟨#[]⟩, .slice none 0 0, .slice none 0 0], .bool false]) (by simp [results, Tryz.results7, go_sem, r0, r1, r2, r3, r4]) rfl ?_
    exact HP.out
  obtain ⟨zt, zx, rfl⟩ := id y4.iface
  have HY : Hid (parseU (m + 1) s.data.toList = some (t, [])) := y1
  have HO : Hid (Calls Tryz.prog 28 #[.iface zt zx] w3 (OutPost (m + 1) t w3)) := outerTree_any (m + 1) _ t _ w3 y4 (fun b hb => hb.2) (parseU_clean (m + 1) s.data.toList t [] (by simpa using h8) y1)
  clear y1 y4
  go_wp2_with fail
  refine HO.out.mono ?_
  rintro e w4 ⟨hb4, g0, g1, g2, g3, g4, L3, L4, rfl, hin4, hs3, hs4, ho, hl⟩
  obtain ⟨u0, u1, u2, ua, ul, uc, ya, yl, yc, rfl, rfl, rfl, rfl, rfl⟩ := hin4.shape
  have hz4 := hb4.size
  obtain ⟨W5, hW5⟩ : ∃ W5, W5 = w4.alloc (.cells #[.int .i64 u0, .int .i64 u1, .string u2, .slice ua ul uc, .slice ya yl yc] 29) := ⟨_, rfl⟩
  have hz5 : W5.heap.size = w4.heap.size + 1 := by rw [hW5]; simp
  have hb45 : Below w4.heap.size w4 W5 := by rw [hW5]; exact (Below.refl _ _).alloc (Nat.le_refl _) _
  have hx5 : Box5 W5 w4.heap.size (.int .i64 u0) (.int .i64 u1) (.string u2) (.slice ua ul uc) (.slice ya yl yc) := by rw [hW5]; exact Box5.new _ _ _ _ _ _ _
  have hb35 := below_step hb4 hz4 hb45
  have hbw5 := below_step hb3 hb3.size hb35
  have hzero5 := (hb35.block w.heap.size (by omega)).trans hzero3
  obtain ⟨hin5, hB5⟩ := hin4.step (fun b hb => hb.2) hb45
  have HC : Hid (Calls Tryz.prog 29 _ W5 _) := implOk_any (m + 1) _ t _ _ _ _ _ W5 hin5 hB5
  have HAns : Hid (TreeIn (fun b => w3.heap.size ≤ b ∧ b < w4.heap.size) W5 (m + 1) t (.int .i64 u0) (.int .i64 u1) (.string u2) (.slice ua ul uc) (.slice ya yl yc) ∧ SpN W5 (.slice ua ul uc) L3 ∧ SpR W5 (m + 1 - 1) (.slice ya yl yc) L4 ∧ Own (fun b => w3.heap.size ≤ b ∧ b < w4.heap.size) (L3 ++ L4) ∧ (L3 ++ L4).length = spL (m + 1) t) :=
    ⟨hin5, hs3.below hb45, hs4.below hb45, ho, hl⟩
  obtain ⟨k0, k1, k2, k3, k4⟩ := id hx5
  rw [hW5] at k0 k1 k2 k3 k4
  clear HO hin4 hin5 hs3 hs4 ho hl hb4 hb35 hb45 hb3 hzero3
  go_wp2_with fail
  rw [← hW5]
  clear hW5 k0 k1 k2 k3 k4
  refine HC.out.mono ?_
  rintro e w6 ⟨rfl, hb6⟩
  have hz6 := hb6.size
  have hbw6 := below_step hbw5 hbw5.size hb6
  have hzero6 := (hb6.block w.heap.size (by omega)).trans hzero5
  obtain ⟨⟨r0, r1, r2, r3, r4⟩, f0, f1, f2, f3, f4⟩ := zeroT_cells hzero6
  obtain ⟨k0, k1, k2, k3, k4⟩ := hx5.keep hb6
  cases hok : okT (m + 1) t with
  | false =>
    have HN : Hid (readT (m + 1) s = none) := readT_bad HY.out hok
    have HP : Hid (ReadPostT (m + 1) (ansU m s) (okU m s) w _ _) := readT_noneP HN.out (HPut.out _ hbw6)
    clear HN HC HY hok hb6 hbw5 hbw6 hzero5 hzero6 HPut hB5 hx5 HAns
    go_wp2_with fail
    refine bodyPost_ret (v := .tuple #[.agg #[.int .i64 0, .int .i64 0, .string ⟨#[]⟩, .slice none 0 0, .slice none 0 0], .bool false]) (by simp [results, Tryz.results7, go_sem, r0, r1, r2, r3, r4]) rfl ?_
    exact HP.out
  | true =>
    have HP : Hid (ReadPostT (m + 1) (ansU m s) (okU m s) w (.returned (.tuple #[.agg #[.int .i64 u0, .int .i64 u1, .string u2, .slice ua ul uc, .slice ya yl yc], .bool true])) (put5 w6 w.heap.size 0 (.int .i64 u0) (.int .i64 u1) (.string u2) (.slice ua ul uc) (.slice ya yl yc))) := by
      obtain ⟨q1, q2⟩ := ansU_some (readT_yes h8 HY.out hok)
      rw [q1, q2]
      obtain ⟨a1, a2, a3, a4, a5⟩ := HAns.out
      have hsp := spL_le (m + 1) t 1 (okT_parts hok).1
      have hcn := (okT_parts hok).2
      have q : ∀ b, w3.heap.size ≤ b → b < W5.heap.size → (put5 w6 w.heap.size 0 (.int .i64 u0) (.int .i64 u1) (.string u2) (.slice ua ul uc) (.slice ya yl yc)).heap[b]? = W5.heap[b]? := fun b h h' => by rw [put5_other (by omega)]; exact hb6.block b h'
      have hS : ∀ b, (w3.heap.size ≤ b ∧ b < w4.heap.size) → w.heap.size ≤ b ∧ b < (put5 w6 w.heap.size 0 (.int .i64 u0) (.int .i64 u1) (.string u2) (.slice ua ul uc) (.slice ya yl yc)).heap.size := fun b h => by rw [put5_size]; omega
      exact ⟨put5_below hbw6 (Nat.le_refl _), _, _, _, _, _, L3, L4, rfl, a1.keep (fun b h => q b h.1 (by omega)) hS, a2.same (fun s h => q _ (a4.1 s (List.mem_append_left _ h)).1 (by have := (a4.1 s (List.mem_append_left _ h)).2; omega)),
        a3.same (fun s h => q _ (a4.1 s (List.mem_append_right _ h)).1 (by have := (a4.1 s (List.mem_append_right _ h)).2; omega)), a4.mono hS, by rw [a5]; omega⟩
    clear HC HY hok hb6 hbw5 hbw6 hzero5 hzero6 HPut hB5 hx5 HAns
    go_wp2_with fail
    refine bodyPost_ret (v := .tuple #[.agg #[.int .i64 u0, .int .i64 u1, .string u2, .slice ua ul uc, .slice ya yl yc], .bool true]) (by simp [results, Tryz.results7, go_sem, r0, r1, r2, r3, r4]) rfl ?_
    exact HP.out

end Go.Proofs.YtfbfchffnapnnaaGreatDoor
