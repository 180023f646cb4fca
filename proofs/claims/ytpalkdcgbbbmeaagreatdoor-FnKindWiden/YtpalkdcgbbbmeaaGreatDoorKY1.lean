/-
  KindWiden of the program: where it does not widen.
-/
import Derived.Test.YtpalkdcgbbbmeaaGreatDoorWD6
import Derived.Test.YtpalkdcgbbbmeaaGreatDoorKX8
import Derived.Test.YtpalkdcgbbbmeaaGreatDoorKWb
import Derived.Test.YtpalkdcgbbbmeaaGreatDoorKImplHas2
import Derived.Test.YtpalkdcgbbbmeaaGreatDoorTOut3
import Derived.Test.YtpalkdcgbbbmeaaGreatDoorTRd1
namespace Go.Proofs.YtpalkdcgbbbmeaaGreatDoor
open Go.RowKit

/-- What KindWiden gives. -/
def WidPost (m : Nat) (t : T m) (ok : Bool) (w : World) (e : Ending) (w' : World) : Prop :=
  Below w.heap.size w w' ∧ ∃ c0 c1 c2 c3 c4 L3 L4, e = .returned (.tuple #[.agg #[c0, c1, c2, c3, c4], .bool ok]) ∧ TreeIn (fun b => w.heap.size ≤ b ∧ b < w'.heap.size) w' m t c0 c1 c2 c3 c4 ∧
    SpN w' c3 L3 ∧ SpR w' (m - 1) c4 L4 ∧ Own (fun b => w.heap.size ≤ b ∧ b < w'.heap.size) (L3 ++ L4) ∧ (L3 ++ L4).length ≤ 1000

theorem nil_in {n : Nat} (b : K (n + 1)) (S : Nat → Prop) (w : World) : TreeIn S w (n + 1) (nilT (n + 1) b) (.int .i64 0) (.int .i64 0) (.string ⟨#[]⟩) (.slice none 0 0) (.slice none 0 0) :=
  ⟨rfl, rfl, rfl, (by show (ByteArray.empty).size ≤ maxLen; simp [maxLen]), (by rfl : (Lit.int .i64 0).wf = true), (by rfl : (Lit.int .i64 0).wf = true), ⟨none, 0, rfl, (by show ([] : List ByteArray).length ≤ maxLen; simp), fun s h => (by cases h), fun h => absurd rfl h⟩, ⟨none, 0, rfl, (by show ([] : List (T n)).length ≤ maxLen; simp), fun h => absurd rfl h⟩⟩

theorem wid_noP {n m p : Nat} {a : K n} {b : K m} {t : T p} {w w' : World} (h : widB n a m b p t = false) (hb : Below w.heap.size w w') : WidPost m (widA n a m b p t) (widB n a m b p t) w (.returned (.tuple #[.agg #[.int .i64 0, .int .i64 0, .string ⟨#[]⟩, .slice none 0 0, .slice none 0 0], .bool false])) w' := by
  have hA : widA n a m b p t = nilT m b := if_neg (by rw [h]; simp)
  rw [hA, h]
  cases m with
  | zero => exact Empty.elim (show Empty from b)
  | succ m => exact ⟨hb, _, _, _, _, _, [], [], rfl, nil_in b _ _, SpN.no _, SpR.no _ _, Own.nil _, by simp⟩

set_option maxRecDepth 100000 in
set_option maxHeartbeats 2000000 in
theorem implKWiden_bad (n m p : Nat) (S : Nat → Prop) (a : K n) (b : K m) (t : T p) (a0 a1 a2 b0 b1 b2 e0 e1 e2 e3 e4 : Value) (w : World) (ha : KindIn S w n a a0 a1 a2) (hb : KindIn S w m b b0 b1 b2) (ht : TreeIn S w p t e0 e1 e2 e3 e4) (hB : ∀ b, S b → b < w.heap.size) (hno : (okK n a && okK m b) = false) :
    Calls Tryz.prog 8 #[.agg #[a0, a1, a2], .agg #[b0, b1, b2], .agg #[e0, e1, e2, e3, e4]] w (WidPost m (widA n a m b p t) (widB n a m b p t) w) := by
  obtain ⟨x0, xa, xl, xc, ya, yl, yc, rfl, rfl, rfl⟩ := ha.shape
  obtain ⟨z0, za, zl, zc, ua, ul, uc, rfl, rfl, rfl⟩ := hb.shape
  obtain ⟨q0, q1, q2, qa, ql, qc, ra, rl, rc, rfl, rfl, rfl, rfl, rfl⟩ := ht.shape
  have HN : Hid (widB n a m b p t = false) := by show _ = _; unfold widB fitsF; rw [hno]; rfl
  obtain ⟨W1, hW1⟩ : ∃ W1, W1 = (((w.alloc (.cells #[.int .i64 x0, .slice xa xl xc, .slice ya yl yc] 26)).alloc (.cells #[.int .i64 z0, .slice za zl zc, .slice ua ul uc] 26)).alloc (.cells #[.int .i64 q0, .int .i64 q1, .string q2, .slice qa ql qc, .slice ra rl rc] 29)).alloc (.cells #[.int .i64 0, .int .i64 0, .string ⟨#[]⟩, .slice none 0 0, .slice none 0 0] 29) := ⟨_, rfl⟩
  have hb1 : Below w.heap.size w W1 := by rw [hW1]; exact ((((Below.refl _ _).alloc (Nat.le_refl _) _).alloc (by simp) _).alloc (by simp; omega) _).alloc (by simp; omega) _
  have hz1 : W1.heap.size = w.heap.size + 4 := by rw [hW1]; simp
  have kT : W1.heap[w.heap.size + 2]? = some (.cells #[.int .i64 q0, .int .i64 q1, .string q2, .slice qa ql qc, .slice ra rl rc] 29 (0, 0)) := by
    rw [hW1, Below.heap_alloc _ _ _ (by simp)]
    have := heap_alloc_new ((w.alloc (.cells #[.int .i64 x0, .slice xa xl xc, .slice ya yl yc] 26)).alloc (.cells #[.int .i64 z0, .slice za zl zc, .slice ua ul uc] 26)) (.cells #[.int .i64 q0, .int .i64 q1, .string q2, .slice qa ql qc, .slice ra rl rc] 29)
    simpa using this
  have kZ : W1.heap[w.heap.size + 3]? = some (.cells #[.int .i64 0, .int .i64 0, .string ⟨#[]⟩, .slice none 0 0, .slice none 0 0] 29 (0, 0)) := by
    have := heap_alloc_new (((w.alloc (.cells #[.int .i64 x0, .slice xa xl xc, .slice ya yl yc] 26)).alloc (.cells #[.int .i64 z0, .slice za zl zc, .slice ua ul uc] 26)).alloc (.cells #[.int .i64 q0, .int .i64 q1, .string q2, .slice qa ql qc, .slice ra rl rc] 29)) (.cells #[.int .i64 0, .int .i64 0, .string ⟨#[]⟩, .slice none 0 0, .slice none 0 0] 29)
    rw [hW1]; simpa using this
  obtain ⟨ha1, hB1⟩ := ha.step hB hb1
  obtain ⟨hb1', -⟩ := hb.step hB hb1
  obtain ⟨ht1, -⟩ := ht.step hB hb1
  have HP : Hid (Calls Tryz.prog 34 _ W1 _) := innerPair_no n m S a b x0 z0 xa ya za ua xl xc yl yc zl zc ul uc W1 ha1 hb1' hB1 hno
  have HB1 : Hid (Below w.heap.size w W1) := hb1
  have HT : Hid (∀ W, Below W1.heap.size W1 W → Calls Tryz.prog 35 #[.agg #[.int .i64 q0, .int .i64 q1, .string q2, .slice qa ql qc, .slice ra rl rc]] W fun e w' => Below W.heap.size W w' ∧ ∃ v o, e = .returned (.tuple #[v, .bool o])) := fun W hW => by
    obtain ⟨ht2, hB2⟩ := ht1.step hB1 hW
    refine (innerTree_any p S t _ _ _ _ _ W ht2 hB2).mono ?_
    rintro e w' ⟨h1, ⟨-, v, rfl, -⟩ | ⟨-, rfl⟩⟩
    · exact ⟨h1, _, _, rfl⟩
    · exact ⟨h1, _, _, rfl⟩
  clear ha hb ht ha1 hb1' ht1 hb1 hno hB1
  go_enter Tryz.func8, Tryz.ntmps8
  go_wp2_with fail
  rw [← hW1]
  clear hW1
  refine HP.out.mono ?_
  rintro e w2 ⟨hb2, pa, pb, rfl⟩
  obtain ⟨W3, hW3⟩ : ∃ W3, W3 = w2.alloc (.cells #[.pointer pa, .pointer pb, .string ⟨#[]⟩] 67) := ⟨_, rfl⟩
  have hb23 : Below w2.heap.size w2 W3 := by rw [hW3]; exact (Below.refl _ _).alloc (Nat.le_refl _) _
  have hb13 : Below W1.heap.size W1 W3 := below_step hb2 hb2.size hb23
  have kT3 := (hb13.block (w.heap.size + 2) (by omega)).trans kT
  have kZ3 := (hb13.block (w.heap.size + 3) (by omega)).trans kZ
  have HB3 : Hid (Below w.heap.size w W3) := below_step HB1.out HB1.out.size hb13
  have HT3 : Hid (Calls Tryz.prog 35 _ W3 _) := HT.out W3 hb13
  have t0 : W3.cell? ⟨w.heap.size + 2, 0, none⟩ = some (.int .i64 q0) := by simp [World.cell?, kT3]
  have t1 : W3.cell? ⟨w.heap.size + 2, 1, none⟩ = some (.int .i64 q1) := by simp [World.cell?, kT3]
  have t2 : W3.cell? ⟨w.heap.size + 2, 2, none⟩ = some (.string q2) := by simp [World.cell?, kT3]
  have t3 : W3.cell? ⟨w.heap.size + 2, 3, none⟩ = some (.slice qa ql qc) := by simp [World.cell?, kT3]
  have t4 : W3.cell? ⟨w.heap.size + 2, 4, none⟩ = some (.slice ra rl rc) := by simp [World.cell?, kT3]
  have hz3 : w.heap.size + 4 ≤ W3.heap.size := by have := hb13.size; omega
  rw [hW3] at t0 t1 t2 t3 t4
  clear HP HT hb2 hb23 hb13 kT kZ kT3
  go_wp2_with fail
  rw [← hW3]
  clear hW3 t0 t1 t2 t3 t4
  refine HT3.out.mono ?_
  rintro e w4 ⟨hb4, v, o, rfl⟩
  obtain ⟨⟨r0, r1, r2, r3, r4⟩, f0, f1, f2, f3, f4⟩ := zeroT_cells ((hb4.block (w.heap.size + 1 + 1 + 1) (by omega)).trans kZ3)
  have HPq : Hid (WidPost m (widA n a m b p t) (widB n a m b p t) w _ (put5 w4 (w.heap.size + 1 + 1 + 1) 0 (.int .i64 0) (.int .i64 0) (.string ⟨#[]⟩) (.slice none 0 0) (.slice none 0 0))) := wid_noP HN.out (put5_below (below_step HB3.out HB3.out.size hb4) (by omega))
  clear HT3 hb4 kZ3
  go_wp2_with fail
  refine bodyPost_ret (v := .tuple #[.agg #[.int .i64 0, .int .i64 0, .string ⟨#[]⟩, .slice none 0 0, .slice none 0 0], .bool false]) (by simp [results, Tryz.results8, go_sem, r0, r1, r2, r3, r4]) rfl ?_
  exact HPq.out

end Go.Proofs.YtpalkdcgbbbmeaaGreatDoor
