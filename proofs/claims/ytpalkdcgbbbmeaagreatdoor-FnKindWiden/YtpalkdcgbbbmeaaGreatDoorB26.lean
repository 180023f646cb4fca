/-
 Several texts in one, in their order.
-/
import Derived.Test.YtpalkdcgbbbmeaaGreatDoorB25
import Derived.Test.YtpalkdcgbbbmeaaGreatDoorB24
import Derived.Test.YtpalkdcgbbbmeaaGreatDoorKWb
import Derived.Test.YtpalkdcgbbbmeaaGreatDoorB20
import Derived.Test.YtpalkdcgbbbmeaaGreatDoorB15
import Derived.Test.YtpalkdcgbbbmeaaGreatDoorB16
import Derived.Test.YtpalkdcgbbbmeaaGreatDoorTClean
import Derived.Test.YtpalkdcgbbbmeaaGreatDoorB1
import Derived.Deep.RegionLaw
import Derived.Deep.Cut

/-
 KindWiden of the program: where it does not widen.
-/
namespace Go.Proofs.YtpalkdcgbbbmeaaGreatDoor
open Go.RowKit

def WidPost (m : Nat) (t : T m) (ok : Bool) (w : World) (e : Ending) (w' : World) : Prop :=
 Below w.heap.size w w' ∧ ∃ c0 c1 c2 c3 c4 L3 L4, e = .returned (.tuple #[.agg #[c0, c1, c2, c3, c4], .bool ok]) ∧ TreeIn (fun b => w.heap.size ≤ b ∧ b < w'.heap.size) w' m t c0 c1 c2 c3 c4 ∧
  SpN w' c3 L3 ∧ SpR w' (m - 1) c4 L4 ∧ Own (fun b => w.heap.size ≤ b ∧ b < w'.heap.size) (L3 ++ L4) ∧ (L3 ++ L4).length ≤ 1000

theorem nil_in {n : Nat} (b : K (n + 1)) (S : Nat → Prop) (w : World) : TreeIn S w (n + 1) (nilT (n + 1) b) (.int .i64 0) (.int .i64 0) (.string ⟨#[]⟩) (.slice none 0 0) (.slice none 0 0) :=
 ⟨rfl, rfl, rfl, (by show (ByteArray.empty).size ≤ maxLen; simp [maxLen]), (by rfl : (Lit.int .i64 0).wf = true), (by rfl : (Lit.int .i64 0).wf = true), ⟨none, 0, rfl, (by show ([] : List ByteArray).length ≤ maxLen; simp), fun s h => (by cases h), fun h => absurd rfl h⟩, ⟨none, 0, rfl, (by show ([] : List (T n)).length ≤ maxLen; simp), fun h => absurd rfl h⟩⟩

theorem wid_noP {n m p : Nat} {a : K n} {b : K m} {t : T p} {w w' : World} (h : widB n a m b p t = false) (hb : Below w.heap.size w w') : WidPost m (widA n a m b p t) (widB n a m b p t) w (.returned (.tuple #[.agg #[.int .i64 0, .int .i64 0, .string ⟨#[]⟩, .slice none 0 0, .slice none 0 0], .bool false])) w' := by
 have hA : widA n a m b p t = nilT m b := if_neg (by rw [h]; simp)
 rw [hA, h]
 cases m with
 | zero => exact Empty.elim (show Empty from b)
 | succ m => exact ⟨hb, _, _, _, _, _, [], [], rfl, nil_in b _ _, SpN.no _, SpR.no _ _, Own.nil _, by simp⟩

set_option maxRecDepth 100000 in
set_option maxHeartbeats 2000000 in
theorem implKWiden_bad (n m p : Nat) (S : Nat → Prop) (a : K n) (b : K m) (t : T p) (a0 a1 a2 b0 b1 b2 e0 e1 e2 e3 e4 : Value) (w : World) (ha : KindIn S w n a a0 a1 a2) (hb : KindIn S w m b b0 b1 b2) (ht : TreeIn S w p t e0 e1 e2 e3 e4) (hB : ∀ b, S b → b < w.heap.size) (hno : (okK n a && okK m b) = false) :
  Calls Tryz.prog 8 #[.agg #[a0, a1, a2], .agg #[b0, b1, b2], .agg #[e0, e1, e2, e3, e4]] w (WidPost m (widA n a m b p t) (widB n a m b p t) w) := by
 obtain ⟨x0, xa, xl, xc, ya, yl, yc, rfl, rfl, rfl⟩ := ha.shape
 obtain ⟨z0, za, zl, zc, ua, ul, uc, rfl, rfl, rfl⟩ := hb.shape
 obtain ⟨q0, q1, q2, qa, ql, qc, ra, rl, rc, rfl, rfl, rfl, rfl, rfl⟩ := ht.shape
 have HN : Hid (widB n a m b p t = false) := by show _ = _; unfold widB fitsF; rw [hno]; rfl
 obtain ⟨W1, hW1⟩ : ∃ W1, W1 = (((w.alloc (.cells #[.int .i64 x0, .slice xa xl xc, .slice ya yl yc] 26)).alloc (.cells #[.int .i64 z0, .slice za zl zc, .slice ua ul uc] 26)).alloc (.cells #[.int .i64 q0, .int .i64 q1, .string q2, .slice qa ql qc, .slice ra rl rc] 29)).alloc (.cells #[.int .i64 0, .int .i64 0, .string ⟨#[]⟩, .slice none 0 0, .slice none 0 0] 29) := ⟨_, rfl⟩
 have hb1 : Below w.heap.size w W1 := by rw [hW1]; exact ((((Below.refl _ _).alloc (Nat.le_refl _) _).alloc (by simp) _).alloc (by simp; omega) _).alloc (by simp; omega) _
 have hz1 : W1.heap.size = w.heap.size + 4 := by rw [hW1]; simp
 have kT : W1.heap[w.heap.size + 2]? = some (.cells #[.int .i64 q0, .int .i64 q1, .string q2, .slice qa ql qc, .slice ra rl rc] 29 (0, 0)) := by
  rw [hW1, Below.heap_alloc _ _ _ (by simp)]
  have := heap_alloc_new ((w.alloc (.cells #[.int .i64 x0, .slice xa xl xc, .slice ya yl yc] 26)).alloc (.cells #[.int .i64 z0, .slice za zl zc, .slice ua ul uc] 26)) (.cells #[.int .i64 q0, .int .i64 q1, .string q2, .slice qa ql qc, .slice ra rl rc] 29)
  simpa using this
 have kZ : W1.heap[w.heap.size + 3]? = some (.cells #[.int .i64 0, .int .i64 0, .string ⟨#[]⟩, .slice none 0 0, .slice none 0 0] 29 (0, 0)) := by
  have := heap_alloc_new (((w.alloc (.cells #[.int .i64 x0, .slice xa xl xc, .slice ya yl yc] 26)).alloc (.cells #[.int .i64 z0, .slice za zl zc, .slice ua ul uc] 26)).alloc (.cells #[.int .i64 q0, .int .i64 q1, .string q2, .slice qa ql qc, .slice ra rl rc] 29)) (.cells #[.int .i64 0, .int .i64 0, .string ⟨#[]⟩, .slice none 0 0, .slice none 0 0] 29)
  rw [hW1]; simpa using this
 obtain ⟨ha1, hB1⟩ := ha.step hB hb1
 obtain ⟨hb1', -⟩ := hb.step hB hb1
 obtain ⟨ht1, -⟩ := ht.step hB hb1
 have HP : Hid (Calls Tryz.prog 34 _ W1 _) := innerPair_no n m S a b x0 z0 xa ya za ua xl xc yl yc zl zc ul uc W1 ha1 hb1' hB1 hno
 have HB1 : Hid (Below w.heap.size w W1) := hb1
 have HT : Hid (∀ W, Below W1.heap.size W1 W → Calls Tryz.prog 35 #[.agg #[.int .i64 q0, .int .i64 q1, .string q2, .slice qa ql qc, .slice ra rl rc]] W fun e w' => Below W.heap.size W w' ∧ ∃ v o, e = .returned (.tuple #[v, .bool o])) := fun W hW => by
  obtain ⟨ht2, hB2⟩ := ht1.step hB1 hW
  refine (innerTree_any p S t _ _ _ _ _ W ht2 hB2).mono ?_
  rintro e w' ⟨h1, ⟨-, v, rfl, -⟩ | ⟨-, rfl⟩⟩
  · exact ⟨h1, _, _, rfl⟩
  · exact ⟨h1, _, _, rfl⟩
 clear ha hb ht ha1 hb1' ht1 hb1 hno hB1
 go_enter Tryz.func8, Tryz.ntmps8
 go_wp2_with fail
 rw [← hW1]
 clear hW1
 refine HP.out.mono ?_
 rintro e w2 ⟨hb2, pa, pb, rfl⟩
 obtain ⟨W3, hW3⟩ : ∃ W3, W3 = w2.alloc (.cells #[.pointer pa, .pointer pb, .string ⟨#[]⟩] 67) := ⟨_, rfl⟩
 have hb23 : Below w2.heap.size w2 W3 := by rw [hW3]; exact (Below.refl _ _).alloc (Nat.le_refl _) _
 have hb13 : Below W1.heap.size W1 W3 := below_step hb2 hb2.size hb23
 have kT3 := (hb13.block (w.heap.size + 2) (by omega)).trans kT
 have kZ3 := (hb13.block (w.heap.size + 3) (by omega)).trans kZ
 have HB3 : Hid (Below w.heap.size w W3) := below_step HB1.out HB1.out.size hb13
 have HT3 : Hid (Calls Tryz.prog 35 _ W3 _) := HT.out W3 hb13
 have t0 : W3.cell? ⟨w.heap.size + 2, 0, none⟩ = some (.int .i64 q0) := by simp [World.cell?, kT3]
 have t1 : W3.cell? ⟨w.heap.size + 2, 1, none⟩ = some (.int .i64 q1) := by simp [World.cell?, kT3]
 have t2 : W3.cell? ⟨w.heap.size + 2, 2, none⟩ = some (.string q2) := by simp [World.cell?, kT3]
 have t3 : W3.cell? ⟨w.heap.size + 2, 3, none⟩ = some (.slice qa ql qc) := by simp [World.cell?, kT3]
 have t4 : W3.cell? ⟨w.heap.size + 2, 4, none⟩ = some (.slice ra rl rc) := by simp [World.cell?, kT3]
 have hz3 : w.heap.size + 4 ≤ W3.heap.size := by have := hb13.size; omega
 rw [hW3] at t0 t1 t2 t3 t4
 clear HP HT hb2 hb23 hb13 kT kZ kT3
 go_wp2_with fail
 rw [← hW3]
 clear hW3 t0 t1 t2 t3 t4
 refine HT3.out.mono ?_
 rintro e w4 ⟨hb4, v, o, rfl⟩
 obtain ⟨⟨r0, r1, r2, r3, r4⟩, f0, f1, f2, f3, f4⟩ := zeroT_cells ((hb4.block (w.heap.size + 1 + 1 + 1) (by omega)).trans kZ3)
 have HPq : Hid (WidPost m (widA n a m b p t) (widB n a m b p t) w _ (put5 w4 (w.heap.size + 1 + 1 + 1) 0 (.int .i64 0) (.int .i64 0) (.string ⟨#[]⟩) (.slice none 0 0) (.slice none 0 0))) := wid_noP HN.out (put5_below (below_step HB3.out HB3.out.size hb4) (by omega))
 clear HT3 hb4 kZ3
 go_wp2_with fail
 refine bodyPost_ret (v := .tuple #[.agg #[.int .i64 0, .int .i64 0, .string ⟨#[]⟩, .slice none 0 0, .slice none 0 0], .bool false]) (by simp [results, Tryz.results8, go_sem, r0, r1, r2, r3, r4]) rfl ?_
 exact HPq.out

end Go.Proofs.YtpalkdcgbbbmeaaGreatDoor

/-
 KindWiden of the program: what it answers, and what the answer owns.
-/
namespace Go.Proofs.YtpalkdcgbbbmeaaGreatDoor
open Go.RowKit

set_option maxRecDepth 100000 in
set_option maxHeartbeats 4000000 in
theorem implKWiden_ok (n m p : Nat) (S : Nat → Prop) (a : K n) (b : K m) (t : T p) (a0 a1 a2 b0 b1 b2 e0 e1 e2 e3 e4 : Value) (w : World) (ha : KindIn S w n a a0 a1 a2) (hb : KindIn S w m b b0 b1 b2) (ht : TreeIn S w p t e0 e1 e2 e3 e4) (hB : ∀ b, S b → b < w.heap.size) (hoa : okK n a = true) (hob : okK m b = true) (hg : HandleIn w) :
  Calls Tryz.prog 8 #[.agg #[a0, a1, a2], .agg #[b0, b1, b2], .agg #[e0, e1, e2, e3, e4]] w (WidPost m (widA n a m b p t) (widB n a m b p t) w) := by
 obtain ⟨x0, xa, xl, xc, ya, yl, yc, rfl, rfl, rfl⟩ := ha.shape
 obtain ⟨z0, za, zl, zc, ua, ul, uc, rfl, rfl, rfl⟩ := hb.shape
 obtain ⟨q0, q1, q2, qa, ql, qc, ra, rl, rc, rfl, rfl, rfl, rfl, rfl⟩ := ht.shape
 have HE : Hid (widB n a m b p t = (fitsK m b n a && (okT p t && hasK n a p t) && okT m (widT m b n a p t))) := by show _ = _; unfold widB fitsF hasF; rw [hoa, hob]; simp
 have HGK : Hid (goodK n a 1 = true ∧ goodK m b 1 = true ∧ cntK m b ≤ 40) := ⟨(okK_get hoa).1, (okK_get hob).1, (okK_get hob).2⟩
 have HG0 : Hid (HandleIn w) := hg
 obtain ⟨W1, hW1⟩ : ∃ W1, W1 = (((w.alloc (.cells #[.int .i64 x0, .slice xa xl xc, .slice ya yl yc] 26)).alloc (.cells #[.int .i64 z0, .slice za zl zc, .slice ua ul uc] 26)).alloc (.cells #[.int .i64 q0, .int .i64 q1, .string q2, .slice qa ql qc, .slice ra rl rc] 29)).alloc (.cells #[.int .i64 0, .int .i64 0, .string ⟨#[]⟩, .slice none 0 0, .slice none 0 0] 29) := ⟨_, rfl⟩
 have hb1 : Below w.heap.size w W1 := by rw [hW1]; exact ((((Below.refl _ _).alloc (Nat.le_refl _) _).alloc (by simp) _).alloc (by simp; omega) _).alloc (by simp; omega) _
 have hz1 : W1.heap.size = w.heap.size + 4 := by rw [hW1]; simp
 have kT : W1.heap[w.heap.size + 2]? = some (.cells #[.int .i64 q0, .int .i64 q1, .string q2, .slice qa ql qc, .slice ra rl rc] 29 (0, 0)) := by
  rw [hW1, Below.heap_alloc _ _ _ (by simp)]
  have := heap_alloc_new ((w.alloc (.cells #[.int .i64 x0, .slice xa xl xc, .slice ya yl yc] 26)).alloc (.cells #[.int .i64 z0, .slice za zl zc, .slice ua ul uc] 26)) (.cells #[.int .i64 q0, .int .i64 q1, .string q2, .slice qa ql qc, .slice ra rl rc] 29)
  simpa using this
 have kZ : W1.heap[w.heap.size + 3]? = some (.cells #[.int .i64 0, .int .i64 0, .string ⟨#[]⟩, .slice none 0 0, .slice none 0 0] 29 (0, 0)) := by
  have := heap_alloc_new (((w.alloc (.cells #[.int .i64 x0, .slice xa xl xc, .slice ya yl yc] 26)).alloc (.cells #[.int .i64 z0, .slice za zl zc, .slice ua ul uc] 26)).alloc (.cells #[.int .i64 q0, .int .i64 q1, .string q2, .slice qa ql qc, .slice ra rl rc] 29)) (.cells #[.int .i64 0, .int .i64 0, .string ⟨#[]⟩, .slice none 0 0, .slice none 0 0] 29)
  rw [hW1]; simpa using this
 obtain ⟨ha1, hB1⟩ := ha.step hB hb1
 obtain ⟨hb1', -⟩ := hb.step hB hb1
 obtain ⟨ht1, -⟩ := ht.step hB hb1
 have HP : Hid (Calls Tryz.prog 34 _ W1 _) := innerPair_yes n m S a b x0 z0 xa ya za ua xl xc yl yc zl zc ul uc W1 ha1 hb1' hB1 hoa hob
 have HB1 : Hid (Below w.heap.size w W1) := hb1
 have HT : Hid (∀ W, Below W1.heap.size W1 W → Calls Tryz.prog 35 #[.agg #[.int .i64 q0, .int .i64 q1, .string q2, .slice qa ql qc, .slice ra rl rc]] W fun e w' => Below W.heap.size W w' ∧ ((okT p t = true ∧ ∃ u x, e = .returned (.tuple #[.iface u x, .bool true]) ∧ InnerT (fun b => b < w'.heap.size) w' p t (.iface u x)) ∨ (okT p t = false ∧ e = .returned (.tuple #[.nilIface, .bool false])))) := fun W hW => by
  obtain ⟨ht2, hB2⟩ := ht1.step hB1 hW
  refine (innerTree_any p S t _ _ _ _ _ W ht2 hB2).mono ?_
  rintro e w' ⟨h1, ⟨hok, v, rfl, hin⟩ | ⟨hok, rfl⟩⟩
  ·
   obtain ⟨u, x, rfl⟩ := id hin.iface
   have hz := h1.size
   exact ⟨h1, .inl ⟨hok, u, x, rfl, hin.keep (fun _ _ => rfl) (fun b hb => hb.elim (fun h => Nat.lt_of_lt_of_le (hB2 b h) hz) (fun h => h.2))⟩⟩
  · exact ⟨h1, .inr ⟨hok, rfl⟩⟩
 clear ha hb ht ha1 hb1' ht1 hb1 hoa hob hg hB1
 go_enter Tryz.func8, Tryz.ntmps8
 go_wp2_with fail
 rw [← hW1]
 clear hW1
 refine HP.out.mono ?_
 rintro e w2 ⟨hb2, pa, pb, rfl, hia, hib⟩
 have HIA : Hid (InnerK (fun b => b < w2.heap.size) w2 n a (.pointer (some ⟨pa, 0, none⟩)) ∧ InnerK (fun b => b < w2.heap.size) w2 m b (.pointer (some ⟨pb, 0, none⟩))) := ⟨hia, hib⟩
 obtain ⟨W3, hW3⟩ : ∃ W3, W3 = w2.alloc (.cells #[.pointer (some ⟨pa, 0, none⟩), .pointer (some ⟨pb, 0, none⟩), .string ⟨#[]⟩] 67) := ⟨_, rfl⟩
 have hb23 : Below w2.heap.size w2 W3 := by rw [hW3]; exact (Below.refl _ _).alloc (Nat.le_refl _) _
 have hk3 : W3.heap[w2.heap.size]? = some (.cells #[.pointer (some ⟨pa, 0, none⟩), .pointer (some ⟨pb, 0, none⟩), .string ⟨#[]⟩] 67 (0, 0)) := by rw [hW3]; exact heap_alloc_new _ _
 have hz23 : W3.heap.size = w2.heap.size + 1 := by rw [hW3]; simp
 have HB23 : Hid (Below w2.heap.size w2 W3) := hb23
 have hb13 : Below W1.heap.size W1 W3 := below_step hb2 hb2.size hb23
 have kT3 := (hb13.block (w.heap.size + 2) (by omega)).trans kT
 have kZ3 := (hb13.block (w.heap.size + 3) (by omega)).trans kZ
 have HB3 : Hid (Below w.heap.size w W3) := below_step HB1.out HB1.out.size hb13
 have HT3 : Hid (Calls Tryz.prog 35 _ W3 _) := HT.out W3 hb13
 have t0 : W3.cell? ⟨w.heap.size + 2, 0, none⟩ = some (.int .i64 q0) := by simp [World.cell?, kT3]
 have t1 : W3.cell? ⟨w.heap.size + 2, 1, none⟩ = some (.int .i64 q1) := by simp [World.cell?, kT3]
 have t2 : W3.cell? ⟨w.heap.size + 2, 2, none⟩ = some (.string q2) := by simp [World.cell?, kT3]
 have t3 : W3.cell? ⟨w.heap.size + 2, 3, none⟩ = some (.slice qa ql qc) := by simp [World.cell?, kT3]
 have t4 : W3.cell? ⟨w.heap.size + 2, 4, none⟩ = some (.slice ra rl rc) := by simp [World.cell?, kT3]
 have hz3 : w.heap.size + 4 ≤ W3.heap.size := by have := hb13.size; omega
 rw [hW3] at t0 t1 t2 t3 t4
 have p0 : W3.cell? ⟨w2.heap.size, 0, none⟩ = some (.pointer (some ⟨pa, 0, none⟩)) := by simp [World.cell?, hk3]
 have p1 : W3.cell? ⟨w2.heap.size, 1, none⟩ = some (.pointer (some ⟨pb, 0, none⟩)) := by simp [World.cell?, hk3]
 have p2 : W3.cell? ⟨w2.heap.size, 2, none⟩ = some (.string ⟨#[]⟩) := by simp [World.cell?, hk3]
 have HPK : Hid (∀ W, Below W3.heap.size W3 W → W.cell? ⟨w2.heap.size, 0, none⟩ = some (.pointer (some ⟨pa, 0, none⟩)) ∧ W.cell? ⟨w2.heap.size, 1, none⟩ = some (.pointer (some ⟨pb, 0, none⟩)) ∧ W.cell? ⟨w2.heap.size, 2, none⟩ = some (.string ⟨#[]⟩)) := fun W hW => pair_kept ⟨p0, p1, p2⟩ hW
 have HKZ := hidF kZ3
 clear HP HT hb2 hb23 hb13 kT kZ kT3 kZ3 hia hib hk3 p0 p1 p2
 go_wp2_with fail
 rw [← hW3]
 clear hW3 t0 t1 t2 t3 t4
 refine HT3.out.mono ?_
 rintro e w4 ⟨hb4, hor⟩
 have HB34 : Hid (Below W3.heap.size W3 w4) := hb4
 have hz4 := hb4.size
 rcases hor with ⟨hokt, ku, kx, rfl, hin⟩ | ⟨hokt, rfl⟩
 case inr =>
  have HN : Hid (widB n a m b p t = false) := by show _ = _; rw [HE.out, hokt]; simp
  have HPq : Hid (WidPost m (widA n a m b p t) (widB n a m b p t) w _ (put5 w4 (w.heap.size + 1 + 1 + 1) 0 (.int .i64 0) (.int .i64 0) (.string ⟨#[]⟩) (.slice none 0 0) (.slice none 0 0))) := wid_noP HN.out (put5_below (below_step HB3.out HB3.out.size hb4) (by omega))
  obtain ⟨⟨r0, r1, r2, r3, r4⟩, f0, f1, f2, f3, f4⟩ := zeroT_cells ((hb4.block (w.heap.size + 1 + 1 + 1) (by omega)).trans HKZ.out)
  clear HN HT3 hb4 hokt
  go_wp2_with fail
  refine bodyPost_ret (v := .tuple #[.agg #[.int .i64 0, .int .i64 0, .string ⟨#[]⟩, .slice none 0 0, .slice none 0 0], .bool false]) (by simp [results, Tryz.results8, go_sem, r0, r1, r2, r3, r4]) rfl ?_
  exact HPq.out
 obtain ⟨p0, p1, p2⟩ := HPK.out w4 hb4
 have hw24 : Below w2.heap.size w2 w4 := HB23.out.trans (hb4.mono (by omega))
 have HIn := hidF hin
 have HGT : Hid (goodT p t 1 = true) := by simp only [okT, Bool.and_eq_true] at hokt; exact hokt.1
 have HCO : Hid (Calls Tryz.prog 36 #[.iface ku kx, .pointer (some ⟨pa, 0, none⟩)] w4 _) := isOf_any n (fun b => b < w4.heap.size) p a t _ _ 1 1 w4 (HIA.out.1.keep (same_below hw24 (fun _ h => h)) (fun b hb => Nat.lt_of_lt_of_le hb hw24.size)) hin (fun _ h => h) HGK.out.1 HGT.out
 have HE2 : Hid (widB n a m b p t = (fitsK m b n a && hasK n a p t && okT m (widT m b n a p t))) := by show _ = _; rw [HE.out, hokt]; simp
 have HW24 : Hid (Below w2.heap.size w2 w4) := hw24
 clear hb4 hin hokt HT3 HE hw24
 go_wp2_with fail
 refine HCO.out.mono ?_
 rintro e w5 ⟨rfl, hb5⟩
 have HB45 : Hid (Below w4.heap.size w4 w5) := hb5
 have hz5 := hb5.size
 have HB35 : Hid (Below W3.heap.size W3 w5) := below_step HB34.out hz4 hb5
 have HB5 : Hid (Below w.heap.size w w5) := below_step HB3.out HB3.out.size HB35.out
 have HKZ5 : Hid (w5.heap[w.heap.size + 1 + 1 + 1]? = some (.cells #[.int .i64 0, .int .i64 0, .string ⟨#[]⟩, .slice none 0 0, .slice none 0 0] 29 (0, 0))) := (HB35.out.block (w.heap.size + 1 + 1 + 1) (by omega)).trans HKZ.out
 clear p0 p1 p2 hb5 HCO
 cases hh : hasK n a p t
 case false =>
  have HN : Hid (widB n a m b p t = false) := by show _ = _; rw [HE2.out, hh]; simp
  have HPq : Hid (WidPost m (widA n a m b p t) (widB n a m b p t) w _ (put5 w5 (w.heap.size + 1 + 1 + 1) 0 (.int .i64 0) (.int .i64 0) (.string ⟨#[]⟩) (.slice none 0 0) (.slice none 0 0))) := wid_noP HN.out (put5_below HB5.out (by omega))
  obtain ⟨⟨r0, r1, r2, r3, r4⟩, f0, f1, f2, f3, f4⟩ := zeroT_cells HKZ5.out
  clear HN hh
  go_wp2_with fail
  refine bodyPost_ret (v := .tuple #[.agg #[.int .i64 0, .int .i64 0, .string ⟨#[]⟩, .slice none 0 0, .slice none 0 0], .bool false]) (by simp [results, Tryz.results8, go_sem, r0, r1, r2, r3, r4]) rfl ?_
  exact HPq.out
 obtain ⟨p0, p1, p2⟩ := HPK.out w5 HB35.out
 have HNW : Hid (Calls Tryz.prog 37 #[] w5.drew fun e w' => e = .returned (.pointer (some ⟨w5.heap.size, 0, none⟩)) ∧ Below w5.heap.size w5 w' ∧ TabW w' w5.heap.size ∧ w5.heap.size < w'.heap.size) := (newWidenings_any w5.drew).mono fun e w' h => ⟨h.1, ((Below.refl w5.heap.size w5).drew).trans h.2.1, h.2.2.1, h.2.2.2⟩
 have HPK5 : Hid (∀ W, Below w5.heap.size w5 W → W.cell? ⟨w2.heap.size, 0, none⟩ = some (.pointer (some ⟨pa, 0, none⟩)) ∧ W.cell? ⟨w2.heap.size, 1, none⟩ = some (.pointer (some ⟨pb, 0, none⟩)) ∧ W.cell? ⟨w2.heap.size, 2, none⟩ = some (.string ⟨#[]⟩)) := fun W hW => pair_kept ⟨p0, p1, p2⟩ hW
 have hw25 : Below w2.heap.size w2 w5 := HW24.out.trans (HB45.out.mono (by omega))
 have HOf : Hid (∀ W, Below w5.heap.size w5 W → TabW W w5.heap.size → w5.heap.size < W.heap.size → Calls Tryz.prog 38 #[.pointer (some ⟨w5.heap.size, 0, none⟩), .agg #[.pointer (some ⟨pa, 0, none⟩), .pointer (some ⟨pb, 0, none⟩), .string ⟨#[]⟩]] W fun e w' => Below w5.heap.size w5 w' ∧ EndV m (fitsK m b n a) (WidR m b n a) (fun b => b < w2.heap.size) w5 e w') := fun W hW hT hl => by
  have hw2 : Below w2.heap.size w2 W := hw25.trans (hW.mono (by omega))
  refine (fitV_any m (fun b => b < w2.heap.size) n a b _ _ 1 1 w5.heap.size ⟨#[]⟩ W (HIA.out.1.keep (same_below hw2 (fun _ h => h)) (fun _ h => h)) (HIA.out.2.keep (same_below hw2 (fun _ h => h)) (fun _ h => h)) (fun b hb => Nat.lt_of_lt_of_le hb hw2.size) hT hl HGK.out.1 HGK.out.2.1 HGK.out.2.2 (by omega) (by show ((0 : Nat) : Int) ≤ 20 * 1; omega)).mono fun e w' h => ?_
  exact ⟨hW.trans (h.1.mono (by omega)), h.2.wide (by omega)⟩
 have HInT : Hid (∀ W, Below w5.heap.size w5 W → InnerT (fun b => b < W.heap.size) W p t (.iface ku kx)) := fun W hW => HIn.out.keep (same_below (below_step HB45.out hz5 hW) (fun _ h => h)) (fun b hb => Nat.lt_of_lt_of_le hb (Nat.le_trans hz5 hW.size))
 have HHas : Hid (hasK n a p t = true) := hh
 clear hh hw25 HIn HB45 HPK HIA HB34 HW24
 cases hf : fitsK m b n a
 case false =>
  have HN : Hid (widB n a m b p t = false) := by show _ = _; rw [HE2.out, hf]; simp
  have HOf' : Hid (∀ W, Below w5.heap.size w5 W → TabW W w5.heap.size → w5.heap.size < W.heap.size → Calls Tryz.prog 38 #[.pointer (some ⟨w5.heap.size, 0, none⟩), .agg #[.pointer (some ⟨pa, 0, none⟩), .pointer (some ⟨pb, 0, none⟩), .string ⟨#[]⟩]] W fun e w' => Below w5.heap.size w5 w' ∧ ∃ z : ByteArray, e = .returned (.tuple #[.nilFunc, .iface 132 (.agg #[.string z])])) := fun W h1 h2 h3 => (HOf.out W h1 h2 h3).mono fun e w' h => ⟨h.1, h.2.elim (fun h => by rw [hf] at h; exact absurd h.1 (by simp)) (fun h => h.2)⟩
  clear hf HOf
  go_upto_region 5 with fail
  go_region_law (first
   | (go_simp; go_at_call 37; refine HNW.out.mono ?_; rintro e w6 ⟨rfl, hb6, hT6, hl6⟩; obtain ⟨k0, k1, k2⟩ := HPK5.out w6 hb6)
   | (go_simp; go_at_call 38; refine (HOf'.out w6 hb6 hT6 hl6).mono ?_; rintro e w7 ⟨hb7, z, rfl⟩))
  all_goals
   have hbw7 := below_step HB5.out HB5.out.size hb7
   have hz7 := hb7.size
   have HM : Hid (Calls Tryz.prog 39 #[.iface 132 (.agg #[.string z])] w7 _) := isMisfit_yes z w7 (HG0.out.step hbw7)
   have HKZ7 : Hid (w7.heap[w.heap.size + 1 + 1 + 1]? = _) := (hb7.block (w.heap.size + 1 + 1 + 1) (by omega)).trans HKZ5.out
   go_wp2_with fail
   refine HM.out.mono ?_
   rintro e w8 ⟨rfl, hb8⟩
   have HPq : Hid (WidPost m (widA n a m b p t) (widB n a m b p t) w _ (put5 w8 (w.heap.size + 1 + 1 + 1) 0 (.int .i64 0) (.int .i64 0) (.string ⟨#[]⟩) (.slice none 0 0) (.slice none 0 0))) := wid_noP HN.out (put5_below (below_step hbw7 hbw7.size hb8) (by omega))
   obtain ⟨⟨r0, r1, r2, r3, r4⟩, f0, f1, f2, f3, f4⟩ := zeroT_cells ((hb8.block (w.heap.size + 1 + 1 + 1) (by omega)).trans HKZ7.out)
   clear HN HM hb8
   go_wp2_with fail
   refine bodyPost_ret (v := .tuple #[.agg #[.int .i64 0, .int .i64 0, .string ⟨#[]⟩, .slice none 0 0, .slice none 0 0], .bool false]) (by simp [results, Tryz.results8, go_sem, r0, r1, r2, r3, r4]) rfl ?_
   exact HPq.out
 have HOf' : Hid (∀ W, Below w5.heap.size w5 W → TabW W w5.heap.size → w5.heap.size < W.heap.size → Calls Tryz.prog 38 #[.pointer (some ⟨w5.heap.size, 0, none⟩), .agg #[.pointer (some ⟨pa, 0, none⟩), .pointer (some ⟨pb, 0, none⟩), .string ⟨#[]⟩]] W fun e w' => Below w5.heap.size w5 w' ∧ ∃ fv, e = .returned (.tuple #[fv, .nilIface]) ∧ Hid (Fv (fun b => b < w2.heap.size ∨ (w5.heap.size ≤ b ∧ b < w'.heap.size)) m w' fv (WidR m b n a))) := fun W h1 h2 h3 => (HOf.out W h1 h2 h3).mono fun e w' h => ⟨h.1, h.2.elim (fun h => by obtain ⟨-, fn, first, cap, he, hF⟩ := h; exact ⟨_, he, hF⟩) (fun h => by rw [hf] at h; exact absurd h.1 (by simp))⟩
 have HE3 : Hid (widB n a m b p t = okT m (widT m b n a p t)) := by show _ = _; rw [HE2.out, hf, HHas.out]; simp
 have HClean : Hid (cleanT m (widT m b n a p t)) := clean_wid m b n a p t 1 1 1 HGK.out.2.1 HGK.out.2.2 HGK.out.1 HGT.out hf HHas.out
 have HLt : Hid (w2.heap.size ≤ w5.heap.size) := by show _ ≤ _; omega
 clear hf HOf HE2
 go_upto_region 5 with fail
 go_region_law (first
  | (go_simp; go_at_call 37; refine HNW.out.mono ?_; rintro e w6 ⟨rfl, hb6, hT6, hl6⟩; obtain ⟨k0, k1, k2⟩ := HPK5.out w6 hb6)
  | (go_simp; go_at_call 38; refine (HOf'.out w6 hb6 hT6 hl6).mono ?_; rintro e w7 ⟨hb7, fv, rfl, hF7⟩))
 all_goals
  have hz7 := hb7.size
  have HM : Hid (Calls Tryz.prog 39 #[.nilIface] w7 _) := isMisfit_nil w7
  obtain ⟨f, fcap, rfl, eg, hcall⟩ := hF7.out
  clear hF7
  go_wp2_with fail
  refine HM.out.mono ?_
  rintro e w8 ⟨rfl, hb8⟩
  have hz8 := hb8.size
  have hb58 := below_step hb7 hz7 hb8
  have HB8 : Hid (Below w.heap.size w w8) := below_step HB5.out HB5.out.size hb58
  have HKZ8 : Hid (w8.heap[w.heap.size + 1 + 1 + 1]? = _) := (hb58.block (w.heap.size + 1 + 1 + 1) (by omega)).trans HKZ5.out
  have HWd : Hid (∀ args : Array Value, args = #[Value.iface ku kx] ++ fcap → Calls Tryz.prog f args w8 fun e w' => Below w8.heap.size w8 w' ∧ ∃ v', e = .returned v' ∧ InnerT (fun b => b < w8.heap.size ∨ (w8.heap.size ≤ b ∧ b < w'.heap.size)) w' m (widT m b n a p t) v') := hcall (fun b => b < w8.heap.size) w8 (fun b hb => hb.elim (fun h => by have := HLt.out; omega) (fun h => by omega)) (fun _ h => h) (fun b hb => hb8.block b (hb.elim (fun h => by have := HLt.out; omega) (fun h => h.2))) _ _ ⟨p, t, 1, HInT.out w8 hb58, HGT.out, HHas.out, rfl⟩
  clear hcall HM hb8 hb58 hb7
  go_wp2_with fail
  refine (HWd.out _ (by simp)).mono ?_
  rintro e w9 ⟨hb9, v9, rfl, hin9⟩
  obtain ⟨zt, zx, rfl⟩ := id hin9.iface
  have hz9 := hb9.size
  have HO : Hid (Calls Tryz.prog 40 #[.iface zt zx] w9 (OutPost m (widT m b n a p t) w9)) := outerTree_any m _ _ _ w9 hin9 (fun b hb => hb.elim (fun h => by omega) (fun h => h.2)) HClean.out
  have HB9 : Hid (Below w.heap.size w w9) := below_step HB8.out HB8.out.size hb9
  have HKZ9 : Hid (w9.heap[w.heap.size + 1 + 1 + 1]? = _) := (hb9.block (w.heap.size + 1 + 1 + 1) (by omega)).trans HKZ8.out
  clear hb9 hin9 HWd
  go_wp2_with fail
  refine HO.out.mono ?_
  rintro e wa ⟨hba, g0, g1, g2, g3, g4, L3, L4, rfl, hina, hs3, hs4, ho, hl⟩
  obtain ⟨u0, u1, u2, va, vl, vc, ha', hl', hc', rfl, rfl, rfl, rfl, rfl⟩ := hina.shape
  have hza := hba.size
  obtain ⟨Wb, hWb⟩ : ∃ Wb, Wb = wa.alloc (.cells #[.int .i64 u0, .int .i64 u1, .string u2, .slice va vl vc, .slice ha' hl' hc'] 29) := ⟨_, rfl⟩
  have hzb : Wb.heap.size = wa.heap.size + 1 := by rw [hWb]; simp
  have hbab : Below wa.heap.size wa Wb := by rw [hWb]; exact (Below.refl _ _).alloc (Nat.le_refl _) _
  have hxb : Box5 Wb wa.heap.size (.int .i64 u0) (.int .i64 u1) (.string u2) (.slice va vl vc) (.slice ha' hl' hc') := by rw [hWb]; exact Box5.new _ _ _ _ _ _ _
  have hb9b := below_step hba hza hbab
  have HBb : Hid (Below w.heap.size w Wb) := below_step HB9.out HB9.out.size hb9b
  have HKZb : Hid (Wb.heap[w.heap.size + 1 + 1 + 1]? = _) := (hb9b.block (w.heap.size + 1 + 1 + 1) (by omega)).trans HKZ9.out
  obtain ⟨hinb, hBb⟩ := hina.step (fun b hb => hb.2) hbab
  have HC : Hid (Calls Tryz.prog 41 _ Wb _) := implOk_any m _ _ _ _ _ _ _ Wb hinb hBb
  have HAns : Hid (TreeIn (fun b => w9.heap.size ≤ b ∧ b < wa.heap.size) Wb m (widT m b n a p t) (.int .i64 u0) (.int .i64 u1) (.string u2) (.slice va vl vc) (.slice ha' hl' hc') ∧ SpN Wb (.slice va vl vc) L3 ∧ SpR Wb (m - 1) (.slice ha' hl' hc') L4 ∧ Own (fun b => w9.heap.size ≤ b ∧ b < wa.heap.size) (L3 ++ L4) ∧ (L3 ++ L4).length = spL m (widT m b n a p t)) :=
   ⟨hinb, hs3.below hbab, hs4.below hbab, ho, hl⟩
  obtain ⟨k0, k1, k2, k3, k4⟩ := id hxb
  rw [hWb] at k0 k1 k2 k3 k4
  clear HO hina hinb hs3 hs4 ho hl hba hb9b hbab
  go_wp2_with fail
  rw [← hWb]
  clear hWb k0 k1 k2 k3 k4
  refine HC.out.mono ?_
  rintro e wc ⟨rfl, hbc⟩
  have hzc := hbc.size
  have hbwc := below_step HBb.out HBb.out.size hbc
  obtain ⟨⟨r0, r1, r2, r3, r4⟩, f0, f1, f2, f3, f4⟩ := zeroT_cells ((hbc.block (w.heap.size + 1 + 1 + 1) (by omega)).trans HKZb.out)
  obtain ⟨k0, k1, k2, k3, k4⟩ := hxb.keep hbc
  cases hok : okT m (widT m b n a p t) with
  | false =>
   have HN : Hid (widB n a m b p t = false) := HE3.out.trans hok
   have HPq : Hid (WidPost m (widA n a m b p t) (widB n a m b p t) w _ (put5 wc (w.heap.size + 1 + 1 + 1) 0 (.int .i64 0) (.int .i64 0) (.string ⟨#[]⟩) (.slice none 0 0) (.slice none 0 0))) := wid_noP HN.out (put5_below hbwc (by omega))
   clear HN HC hok hbc hbwc hBb hxb HAns
   go_wp2_with fail
   refine bodyPost_ret (v := .tuple #[.agg #[.int .i64 0, .int .i64 0, .string ⟨#[]⟩, .slice none 0 0, .slice none 0 0], .bool false]) (by simp [results, Tryz.results8, go_sem, r0, r1, r2, r3, r4]) rfl ?_
   exact HPq.out
  | true =>
   have HPq : Hid (WidPost m (widA n a m b p t) (widB n a m b p t) w (.returned (.tuple #[.agg #[.int .i64 u0, .int .i64 u1, .string u2, .slice va vl vc, .slice ha' hl' hc'], .bool true])) (put5 wc (w.heap.size + 1 + 1 + 1) 0 (.int .i64 u0) (.int .i64 u1) (.string u2) (.slice va vl vc) (.slice ha' hl' hc'))) := by
    have hW := HE3.out.trans hok
    rw [show widA n a m b p t = widT m b n a p t from if_pos hW, hW]
    obtain ⟨a1, a2, a3, a4, a5⟩ := HAns.out
    have hsp := spL_le m (widT m b n a p t) 1 (okT_parts hok).1
    have hcn := (okT_parts hok).2
    have q : ∀ b, w9.heap.size ≤ b → b < Wb.heap.size → (put5 wc (w.heap.size + 1 + 1 + 1) 0 (.int .i64 u0) (.int .i64 u1) (.string u2) (.slice va vl vc) (.slice ha' hl' hc')).heap[b]? = Wb.heap[b]? := fun b h h' => by rw [put5_other (by omega)]; exact hbc.block b h'
    have hS : ∀ b, (w9.heap.size ≤ b ∧ b < wa.heap.size) → w.heap.size ≤ b ∧ b < (put5 wc (w.heap.size + 1 + 1 + 1) 0 (.int .i64 u0) (.int .i64 u1) (.string u2) (.slice va vl vc) (.slice ha' hl' hc')).heap.size := fun b h => by rw [put5_size]; omega
    exact ⟨put5_below hbwc (by omega), _, _, _, _, _, L3, L4, rfl, a1.keep (fun b h => q b h.1 (by omega)) hS, a2.same (fun s h => q _ (a4.1 s (List.mem_append_left _ h)).1 (by have := (a4.1 s (List.mem_append_left _ h)).2; omega)),
     a3.same (fun s h => q _ (a4.1 s (List.mem_append_right _ h)).1 (by have := (a4.1 s (List.mem_append_right _ h)).2; omega)), a4.mono hS, by rw [a5]; omega⟩
   clear HC hok hbc hbwc hBb hxb HAns
   go_wp2_with fail
   refine bodyPost_ret (v := .tuple #[.agg #[.int .i64 u0, .int .i64 u1, .string u2, .slice va vl vc, .slice ha' hl' hc'], .bool true]) (by simp [results, Tryz.results8, go_sem, r0, r1, r2, r3, r4]) rfl ?_
   exact HPq.out

theorem implKWiden_any (n m p : Nat) (S : Nat → Prop) (a : K n) (b : K m) (t : T p) (a0 a1 a2 b0 b1 b2 e0 e1 e2 e3 e4 : Value) (w : World) (ha : KindIn S w n a a0 a1 a2) (hb : KindIn S w m b b0 b1 b2) (ht : TreeIn S w p t e0 e1 e2 e3 e4) (hB : ∀ b, S b → b < w.heap.size) (hg : HandleIn w) :
  Calls Tryz.prog 8 #[.agg #[a0, a1, a2], .agg #[b0, b1, b2], .agg #[e0, e1, e2, e3, e4]] w (WidPost m (widA n a m b p t) (widB n a m b p t) w) := by
 cases hok : okK n a && okK m b
 · exact implKWiden_bad n m p S a b t _ _ _ _ _ _ _ _ _ _ _ w ha hb ht hB hok
 ·
  have hok2 : okK n a = true ∧ okK m b = true := by simpa using hok
  exact implKWiden_ok n m p S a b t _ _ _ _ _ _ _ _ _ _ _ w ha hb ht hB hok2.1 hok2.2 hg

end Go.Proofs.YtpalkdcgbbbmeaaGreatDoor
