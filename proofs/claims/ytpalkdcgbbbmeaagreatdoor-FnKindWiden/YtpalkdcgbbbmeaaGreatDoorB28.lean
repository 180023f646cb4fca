/-
 Several texts in one, in their order.
-/
import Derived.Test.YtpalkdcgbbbmeaaGreatDoorKZ5
import Derived.Test.YtpalkdcgbbbmeaaGreatDoorB7

/-
 The specification's l3Widen: what it answers.
-/
namespace Go.Proofs.YtpalkdcgbbbmeaaGreatDoor
open Go.RowKit

theorem l3Widen_any : ∀ m, WidSSaid m := by
 intro m
 induction m with
 | zero => intro S n p a b t a0 a1 a2 b0 b1 b2 e0 e1 e2 e3 e4 d d' e w _ hb; exact hb.elim
 | succ m ih =>
  intro S n p a b t a0 a1 a2 b0 b1 b2 e0 e1 e2 e3 e4 d d' e w ha hb ht hB hga hgb hc hgt hf hh
  cases n with
  | zero => exact ha.elim
  | succ n =>
  cases p with
  | zero => exact ht.elim
  | succ p =>
  have gb := goodK_all hgb
  have ga := goodK_all hga
  have gt := goodT_all hgt
  have h39 := kids_39 hgb hc
  obtain ⟨hst, hnm, -, -⟩ := hasK_get hh
  rcases fits_ways hgb hga hgt hf hh with ⟨y, x, sb, sa, ky, kx, hf', hu⟩ | ⟨y, sb, sa, ky, hf'⟩ | ⟨y, x, sb, sa, ky, kx, hf', hu⟩ | ⟨sb, sa, hlb, hla, hlt, hAa, hAb, hsub, hff, hkk⟩ | ⟨sb, sa, nb, kb, kt⟩
  · exact l3Widen_maybe m ih S n p a b t y x _ _ _ _ _ _ _ _ _ _ _ (d + 1) (d' + 1) e w ha hb ht hB (ga x (by rw [kx]; exact List.mem_cons_self ..)) (gb y (by rw [ky]; exact List.mem_cons_self ..)) (cnt_kid hc (by rw [ky]; exact List.mem_cons_self ..)) hgt hf' hu sb sa (by omega) ky kx
  · exact l3Widen_into m ih S n p a b t y _ _ _ _ _ _ _ _ _ _ _ d (d' + 1) e w ha hb ht hB hga (gb y (by rw [ky]; exact List.mem_cons_self ..)) (cnt_kid hc (by rw [ky]; exact List.mem_cons_self ..)) hgt hf' hh sb sa ky
  · exact l3Widen_list m ih S n p a b t y x _ _ _ _ _ _ _ _ _ _ _ (d + 1) (d' + 1) e w ha hb ht hB (ga x (by rw [kx]; exact List.mem_cons_self ..)) (gb y (by rw [ky]; exact List.mem_cons_self ..)) (cnt_kid hc (by rw [ky]; exact List.mem_cons_self ..)) hgt hf' hu sb sa (by omega) ky kx
  ·
   obtain ⟨hn0, htx0⟩ := goodT_bare hgt (by omega)
   have hrb : riseB (Kd.names b) = true := by
    rcases goodK_kids hgb with ⟨h, -⟩ | ⟨h, -⟩ | ⟨-, -, h⟩
    · omega
    · omega
    · exact h
   obtain ⟨rfl, -, h1, h2⟩ := ha
   obtain ⟨ana, anc, rfl, -⟩ := id h1
   obtain ⟨aka, akc, rfl, -⟩ := id h2
   obtain ⟨rfl, -, h3, h4⟩ := hb
   obtain ⟨bna, bnc, rfl, -⟩ := id h3
   obtain ⟨bka, bkc, rfl, -⟩ := id h4
   obtain ⟨rfl, rfl, rfl, -, -, -, ht3, h5⟩ := ht
   obtain ⟨tna, tnc, rfl, -⟩ := ht3
   obtain ⟨tka, tkc, rfl, -⟩ := id h5
   rw [widT_ff sb, sa, sb, show Nd.sort t = 5 by omega, hn0, htx0]
   refine l3Widen_formL m n p ih S (Kd.names a) (Kd.names b) (Kd.kids a) (Kd.kids b) (Nd.kids t) ana aka bna bka tna tka anc akc bnc bkc _ tnc tkc (d + 1) (d' + 1) (e + 1) w hB h1 h2 h3 h4 h5 ga (fun y hy => ⟨gb y hy, cnt_kid hc hy⟩) gt hlb hla hlt hAa (by omega) (rise_8 hrb) (fun j j1 j2 r hr hr2 he => ?_) hkk
   have := hff j j1 j2
   unfold fieldFits at this
   rw [← he, atName_yes _ _ r hr hr2 hAa] at this
   exact this
  · exact l3Widen_leaf m S n p a b t _ _ _ _ _ _ _ _ _ _ _ w ha hb ht sb (by omega)

end Go.Proofs.YtpalkdcgbbbmeaaGreatDoor

/-
 KindWiden of the specification: what it answers.
-/
namespace Go.Proofs.YtpalkdcgbbbmeaaGreatDoor
open Go.RowKit

def SWidPost (m : Nat) (t : T m) (ok : Bool) (w : World) (e : Ending) (w' : World) : Prop :=
 Below w.heap.size w w' ∧ ∃ c0 c1 c2 c3 c4, e = .returned (.tuple #[.agg #[c0, c1, c2, c3, c4], .bool ok]) ∧ TreeIn (fun b => w.heap.size ≤ b ∧ b < w'.heap.size) w' m t c0 c1 c2 c3 c4

theorem swid_noP {n m p : Nat} {a : K n} {b : K m} {t : T p} {w w' : World} (h : widB n a m b p t = false) (hb : Below w.heap.size w w') : SWidPost m (widA n a m b p t) (widB n a m b p t) w (.returned (.tuple #[.agg #[.int .i64 0, .int .i64 0, .string ⟨#[]⟩, .slice none 0 0, .slice none 0 0], .bool false])) w' := by
 have hA : widA n a m b p t = nilT m b := if_neg (by rw [h]; simp)
 rw [hA, h]
 cases m with
 | zero => exact Empty.elim (show Empty from b)
 | succ m => exact ⟨hb, _, _, _, _, _, rfl, ⟨rfl, rfl, rfl, (by show (ByteArray.empty).size ≤ maxLen; simp [maxLen]), (by rfl : (Lit.int .i64 0).wf = true), (by rfl : (Lit.int .i64 0).wf = true), ⟨none, 0, rfl, (by show ([] : List ByteArray).length ≤ maxLen; simp), fun s h => (by cases h), fun h => absurd rfl h⟩, ⟨none, 0, rfl, (by show ([] : List (T m)).length ≤ maxLen; simp), fun h => absurd rfl h⟩⟩⟩

set_option maxRecDepth 100000 in
set_option maxHeartbeats 4000000 in
theorem specKWiden_any (n m p : Nat) (S : Nat → Prop) (a : K n) (b : K m) (t : T p) (a0 a1 a2 b0 b1 b2 e0 e1 e2 e3 e4 : Value) (w : World) (ha : KindIn S w n a a0 a1 a2) (hb : KindIn S w m b b0 b1 b2) (ht : TreeIn S w p t e0 e1 e2 e3 e4) (hB : ∀ b, S b → b < w.heap.size) :
  Calls Tryz.prog 6 #[.agg #[a0, a1, a2], .agg #[b0, b1, b2], .agg #[e0, e1, e2, e3, e4]] w (SWidPost m (widA n a m b p t) (widB n a m b p t) w) := by
 obtain ⟨x0, xa, xl, xc, ya, yl, yc, rfl, rfl, rfl⟩ := ha.shape
 obtain ⟨z0, za, zl, zc, ua, ul, uc, rfl, rfl, rfl⟩ := hb.shape
 obtain ⟨q0, q1, q2, qa, ql, qc, ra, rl, rc, rfl, rfl, rfl, rfl, rfl⟩ := ht.shape
 obtain ⟨W1, hW1⟩ : ∃ W1, W1 = (((w.alloc (.cells #[.int .i64 x0, .slice xa xl xc, .slice ya yl yc] 26)).alloc (.cells #[.int .i64 z0, .slice za zl zc, .slice ua ul uc] 26)).alloc (.cells #[.int .i64 q0, .int .i64 q1, .string q2, .slice qa ql qc, .slice ra rl rc] 29)).alloc (.cells #[.int .i64 0, .int .i64 0, .string ⟨#[]⟩, .slice none 0 0, .slice none 0 0] 29) := ⟨_, rfl⟩
 have hb1 : Below w.heap.size w W1 := by rw [hW1]; exact ((((Below.refl _ _).alloc (Nat.le_refl _) _).alloc (by simp) _).alloc (by simp; omega) _).alloc (by simp; omega) _
 have hz1 : W1.heap.size = w.heap.size + 4 := by rw [hW1]; simp
 have kZ : W1.heap[w.heap.size + 3]? = some (.cells #[.int .i64 0, .int .i64 0, .string ⟨#[]⟩, .slice none 0 0, .slice none 0 0] 29 (0, 0)) := by
  have := heap_alloc_new (((w.alloc (.cells #[.int .i64 x0, .slice xa xl xc, .slice ya yl yc] 26)).alloc (.cells #[.int .i64 z0, .slice za zl zc, .slice ua ul uc] 26)).alloc (.cells #[.int .i64 q0, .int .i64 q1, .string q2, .slice qa ql qc, .slice ra rl rc] 29)) (.cells #[.int .i64 0, .int .i64 0, .string ⟨#[]⟩, .slice none 0 0, .slice none 0 0] 29)
  rw [hW1]; simpa using this
 have kA : W1.cell? ⟨w.heap.size, 0, none⟩ = some (.int .i64 x0) ∧ W1.cell? ⟨w.heap.size, 1, none⟩ = some (.slice xa xl xc) ∧ W1.cell? ⟨w.heap.size, 2, none⟩ = some (.slice ya yl yc) ∧ W1.cell? ⟨w.heap.size + 1, 0, none⟩ = some (.int .i64 z0) ∧ W1.cell? ⟨w.heap.size + 1, 1, none⟩ = some (.slice za zl zc) ∧ W1.cell? ⟨w.heap.size + 1, 2, none⟩ = some (.slice ua ul uc) ∧
   W1.cell? ⟨w.heap.size + 1 + 1, 0, none⟩ = some (.int .i64 q0) ∧ W1.cell? ⟨w.heap.size + 1 + 1, 1, none⟩ = some (.int .i64 q1) ∧ W1.cell? ⟨w.heap.size + 1 + 1, 2, none⟩ = some (.string q2) ∧ W1.cell? ⟨w.heap.size + 1 + 1, 3, none⟩ = some (.slice qa ql qc) ∧ W1.cell? ⟨w.heap.size + 1 + 1, 4, none⟩ = some (.slice ra rl rc) := by
  rw [hW1]
  refine ⟨?_, ?_, ?_, ?_, ?_, ?_, ?_, ?_, ?_, ?_, ?_⟩ <;> simp [go_sem]
 have HK : Hid (∀ W, Below W1.heap.size W1 W → W.cell? ⟨w.heap.size, 0, none⟩ = some (.int .i64 x0) ∧ W.cell? ⟨w.heap.size, 1, none⟩ = some (.slice xa xl xc) ∧ W.cell? ⟨w.heap.size, 2, none⟩ = some (.slice ya yl yc) ∧ W.cell? ⟨w.heap.size + 1, 0, none⟩ = some (.int .i64 z0) ∧ W.cell? ⟨w.heap.size + 1, 1, none⟩ = some (.slice za zl zc) ∧ W.cell? ⟨w.heap.size + 1, 2, none⟩ = some (.slice ua ul uc) ∧
   W.cell? ⟨w.heap.size + 1 + 1, 0, none⟩ = some (.int .i64 q0) ∧ W.cell? ⟨w.heap.size + 1 + 1, 1, none⟩ = some (.int .i64 q1) ∧ W.cell? ⟨w.heap.size + 1 + 1, 2, none⟩ = some (.string q2) ∧ W.cell? ⟨w.heap.size + 1 + 1, 3, none⟩ = some (.slice qa ql qc) ∧ W.cell? ⟨w.heap.size + 1 + 1, 4, none⟩ = some (.slice ra rl rc)) := fun W hW => by
  have g : ∀ (b o : Nat), b < w.heap.size + 1 + 1 + 1 → W.cell? ⟨b, o, none⟩ = W1.cell? ⟨b, o, none⟩ := fun b o h => hW.cell (p := ⟨b, o, none⟩) (by show b < _; omega)
  rw [g _ _ (by omega), g _ _ (by omega), g _ _ (by omega), g _ _ (by omega), g _ _ (by omega), g _ _ (by omega), g _ _ (by omega), g _ _ (by omega), g _ _ (by omega), g _ _ (by omega), g _ _ (by omega)]
  exact kA
 have HS : Hid (∀ W, Below W1.heap.size W1 W → Below w.heap.size w W ∧ KindIn S W n a (.int .i64 x0) (.slice xa xl xc) (.slice ya yl yc) ∧ KindIn S W m b (.int .i64 z0) (.slice za zl zc) (.slice ua ul uc) ∧ TreeIn S W p t (.int .i64 q0) (.int .i64 q1) (.string q2) (.slice qa ql qc) (.slice ra rl rc) ∧ (∀ b, S b → b < W.heap.size) ∧ W.heap[w.heap.size + 1 + 1 + 1]? = some (.cells #[.int .i64 0, .int .i64 0, .string ⟨#[]⟩, .slice none 0 0, .slice none 0 0] 29 (0, 0))) := fun W hW => by
  have hbW := below_step hb1 hb1.size hW
  obtain ⟨g1, g2⟩ := ha.step hB hbW
  obtain ⟨g3, -⟩ := hb.step hB hbW
  obtain ⟨g4, -⟩ := ht.step hB hbW
  exact ⟨hbW, g1, g3, g4, g2, (hW.block (w.heap.size + 1 + 1 + 1) (by omega)).trans kZ⟩
 obtain ⟨-, g1, g2, g3, g4, -⟩ := HS.out W1 (Below.refl _ _)
 have HF : Hid (Calls Tryz.prog 29 #[.agg #[.int .i64 x0, .slice xa xl xc, .slice ya yl yc], .agg #[.int .i64 z0, .slice za zl zc, .slice ua ul uc]] W1 _) := specKFits_any n m S S a b _ _ _ _ _ _ W1 g1 g2 g4 g4
 clear ha hb ht g1 g2 g3 g4 kA kZ
 go_enter Tryz.func6, Tryz.ntmps6
 go_wp2_with fail
 rw [← hW1]
 clear hW1
 refine HF.out.mono ?_
 rintro e w2 ⟨rfl, hb2⟩
 obtain ⟨hbw2, g1, g2, g3, g4, g5⟩ := HS.out w2 hb2
 have hz2 := hb2.size
 cases hfi : fitsF n a m b
 case false =>
  have HN : Hid (widB n a m b p t = false) := by show _ = _; unfold widB; rw [hfi]; rfl
  have HPq : Hid (SWidPost m (widA n a m b p t) (widB n a m b p t) w _ (put5 w2 (w.heap.size + 1 + 1 + 1) 0 (.int .i64 0) (.int .i64 0) (.string ⟨#[]⟩) (.slice none 0 0) (.slice none 0 0))) := swid_noP HN.out (put5_below hbw2 (by omega))
  obtain ⟨⟨r0, r1, r2, r3, r4⟩, f0, f1, f2, f3, f4⟩ := zeroT_cells g5
  clear HN hfi g1 g2 g3 g4 g5 hb2 HF
  go_wp2_with fail
  refine bodyPost_ret (v := .tuple #[.agg #[.int .i64 0, .int .i64 0, .string ⟨#[]⟩, .slice none 0 0, .slice none 0 0], .bool false]) (by simp [results, Tryz.results6, go_sem, r0, r1, r2, r3, r4]) rfl ?_
  exact HPq.out
 have HH : Hid (Calls Tryz.prog 7 #[.agg #[.int .i64 x0, .slice xa xl xc, .slice ya yl yc], .agg #[.int .i64 q0, .int .i64 q1, .string q2, .slice qa ql qc, .slice ra rl rc]] w2 _) := specKHas_any n p S S a t _ _ _ _ _ _ _ _ w2 g1 g3 g4 g4
 obtain ⟨c0, c1, c2, c3, c4, c5, c6, c7, c8, c9, c10⟩ := HK.out w2 hb2
 have HB2 : Hid (Below W1.heap.size W1 w2) := hb2
 clear g1 g2 g3 g4 g5 hb2 HF
 go_wp2_with fail
 refine HH.out.mono ?_
 rintro e w3 ⟨rfl, hb3⟩
 have hb13 := below_step HB2.out hz2 hb3
 obtain ⟨hbw3, g1, g2, g3, g4, g5⟩ := HS.out w3 hb13
 have hz3 := hb13.size
 clear c0 c1 c2 c3 c4 c5 c6 c7 c8 c9 c10
 cases hha : hasF n a p t
 case false =>
  have HN : Hid (widB n a m b p t = false) := by show _ = _; unfold widB; rw [hfi, hha]; rfl
  have HPq : Hid (SWidPost m (widA n a m b p t) (widB n a m b p t) w _ (put5 w3 (w.heap.size + 1 + 1 + 1) 0 (.int .i64 0) (.int .i64 0) (.string ⟨#[]⟩) (.slice none 0 0) (.slice none 0 0))) := swid_noP HN.out (put5_below hbw3 (by omega))
  obtain ⟨⟨r0, r1, r2, r3, r4⟩, f0, f1, f2, f3, f4⟩ := zeroT_cells g5
  clear HN hfi hha g1 g2 g3 g4 g5 hb3 hb13 HH
  go_wp2_with fail
  refine bodyPost_ret (v := .tuple #[.agg #[.int .i64 0, .int .i64 0, .string ⟨#[]⟩, .slice none 0 0, .slice none 0 0], .bool false]) (by simp [results, Tryz.results6, go_sem, r0, r1, r2, r3, r4]) rfl ?_
  exact HPq.out
 have HE : Hid (widB n a m b p t = okT m (widT m b n a p t)) := by show _ = _; unfold widB; rw [hfi, hha]; rfl
 have f1 : okK n a = true ∧ okK m b = true ∧ fitsK m b n a = true := by
  unfold fitsF at hfi
  simp only [Bool.and_eq_true] at hfi
  exact ⟨hfi.1.1, hfi.1.2, hfi.2⟩
 have f2 : okT p t = true ∧ hasK n a p t = true := by
  unfold hasF at hha
  simp only [Bool.and_eq_true] at hha
  exact ⟨hha.1.2, hha.2⟩
 have HL : Hid (Calls Tryz.prog 30 #[.agg #[.int .i64 x0, .slice xa xl xc, .slice ya yl yc], .agg #[.int .i64 z0, .slice za zl zc, .slice ua ul uc], .agg #[.int .i64 q0, .int .i64 q1, .string q2, .slice qa ql qc, .slice ra rl rc]] w3 _) := l3Widen_any m S n p a b t _ _ _ _ _ _ _ _ _ _ _ 1 1 1 w3 g1 g2 g3 g4 (okK_get f1.1).1 (okK_get f1.2.1).1 (okK_get f1.2.1).2 (by have h := f2.1; simp only [okT, Bool.and_eq_true] at h; exact h.1) f1.2.2 f2.2
 obtain ⟨c0, c1, c2, c3, c4, c5, c6, c7, c8, c9, c10⟩ := HK.out w3 hb13
 have HB3 : Hid (Below W1.heap.size W1 w3 ∧ Below w.heap.size w w3 ∧ w3.heap[w.heap.size + 1 + 1 + 1]? = some (.cells #[.int .i64 0, .int .i64 0, .string ⟨#[]⟩, .slice none 0 0, .slice none 0 0] 29 (0, 0))) := ⟨hb13, hbw3, g5⟩
 clear g1 g2 g3 g4 g5 hb3 hb13 HH hfi hha f1 f2 hbw3 hbw2 HB2
 go_wp2_with fail
 refine HL.out.mono ?_
 rintro e w4 ⟨g0, g1, g2, g3, g4, rfl, hin4, hb4⟩
 obtain ⟨u0, u1, u2, va, vl, vc, pa, pl, pc, rfl, rfl, rfl, rfl, rfl⟩ := hin4.shape
 have hz4 := hb4.size
 obtain ⟨W5, hW5⟩ : ∃ W5, W5 = w4.alloc (.cells #[.int .i64 u0, .int .i64 u1, .string u2, .slice va vl vc, .slice pa pl pc] 29) := ⟨_, rfl⟩
 have hz5 : W5.heap.size = w4.heap.size + 1 := by rw [hW5]; simp
 have hb45 : Below w4.heap.size w4 W5 := by rw [hW5]; exact (Below.refl _ _).alloc (Nat.le_refl _) _
 have hx5 : Box5 W5 w4.heap.size (.int .i64 u0) (.int .i64 u1) (.string u2) (.slice va vl vc) (.slice pa pl pc) := by rw [hW5]; exact Box5.new _ _ _ _ _ _ _
 have hb35 := below_step hb4 hz4 hb45
 have hbw5 := below_step HB3.out.2.1 HB3.out.2.1.size hb35
 have hzr5 := (hb35.block (w.heap.size + 1 + 1 + 1) (by omega)).trans HB3.out.2.2
 obtain ⟨hin5, hB5⟩ := hin4.step (fun b hb => hb.2) hb45
 have HC : Hid (Calls Tryz.prog 31 _ W5 _) := specOk_any m _ _ _ _ _ _ _ W5 hin5 hB5
 have HIn := hidF hin5
 obtain ⟨k0, k1, k2, k3, k4⟩ := id hx5
 rw [hW5] at k0 k1 k2 k3 k4
 clear HL hin4 hin5 hb4 hb35 hb45 c0 c1 c2 c3 c4 c5 c6 c7 c8 c9 c10
 go_wp2_with fail
 rw [← hW5]
 clear hW5 k0 k1 k2 k3 k4
 refine HC.out.mono ?_
 rintro e w6 ⟨rfl, hb6⟩
 have hz6 := hb6.size
 have hbw6 := below_step hbw5 hbw5.size hb6
 obtain ⟨⟨r0, r1, r2, r3, r4⟩, f0, f1, f2, f3, f4⟩ := zeroT_cells ((hb6.block (w.heap.size + 1 + 1 + 1) (by omega)).trans hzr5)
 obtain ⟨k0, k1, k2, k3, k4⟩ := hx5.keep hb6
 cases hok : okT m (widT m b n a p t) with
 | false =>
  have HN : Hid (widB n a m b p t = false) := HE.out.trans hok
  have HPq : Hid (SWidPost m (widA n a m b p t) (widB n a m b p t) w _ (put5 w6 (w.heap.size + 1 + 1 + 1) 0 (.int .i64 0) (.int .i64 0) (.string ⟨#[]⟩) (.slice none 0 0) (.slice none 0 0))) := swid_noP HN.out (put5_below hbw6 (by omega))
  clear HN HC hok hb6 hbw5 hbw6 hB5 hx5 hzr5 HIn
  go_wp2_with fail
  refine bodyPost_ret (v := .tuple #[.agg #[.int .i64 0, .int .i64 0, .string ⟨#[]⟩, .slice none 0 0, .slice none 0 0], .bool false]) (by simp [results, Tryz.results6, go_sem, r0, r1, r2, r3, r4]) rfl ?_
  exact HPq.out
 | true =>
  have HPq : Hid (SWidPost m (widA n a m b p t) (widB n a m b p t) w (.returned (.tuple #[.agg #[.int .i64 u0, .int .i64 u1, .string u2, .slice va vl vc, .slice pa pl pc], .bool true])) (put5 w6 (w.heap.size + 1 + 1 + 1) 0 (.int .i64 u0) (.int .i64 u1) (.string u2) (.slice va vl vc) (.slice pa pl pc))) := by
   have hW := HE.out.trans hok
   rw [show widA n a m b p t = widT m b n a p t from if_pos hW, hW]
   refine ⟨put5_below hbw6 (by omega), _, _, _, _, _, rfl, HIn.out.keep (fun b h => ?_) (fun b h => ?_)⟩
   · rw [put5_other (by omega)]; exact hb6.block b (by omega)
   · rw [put5_size]; omega
  clear HC hok hb6 hbw5 hbw6 hB5 hx5 hzr5 HIn
  go_wp2_with fail
  refine bodyPost_ret (v := .tuple #[.agg #[.int .i64 u0, .int .i64 u1, .string u2, .slice va vl vc, .slice pa pl pc], .bool true]) (by simp [results, Tryz.results6, go_sem, r0, r1, r2, r3, r4]) rfl ?_
  exact HPq.out

end Go.Proofs.YtpalkdcgbbbmeaaGreatDoor
