/-
  The law of drawn events, their bytes and their texts, walked.
-/
import Derived.Test.YtcpeajdjpecmkaaGreatDoorDE0
import Derived.Test.YtcpeajdjpecmkaaGreatDoorEC9
import Derived.Test.YtcpeajdjpecmkaaGreatDoorEC12
import Derived.Test.YtcpeajdjpecmkaaGreatDoorB30
import Derived.Test.YtcpeajdjpecmkaaGreatDoorEI4
import Derived.Test.YtcpeajdjpecmkaaGreatDoorB28
import Derived.Test.YtcpeajdjpecmkaaGreatDoorEvWrite
import Derived.Test.YtcpeajdjpecmkaaGreatDoorB26
import Derived.Test.YtcpeajdjpecmkaaGreatDoorB29
namespace Go.Proofs.YtcpeajdjpecmkaaGreatDoor
open Go.RowKit

/-- An event in a box, all of its blocks below B. -/
structure BoxE (B : Nat) (w : World) (n : Nat) (x : ByteArray) (v : Int) (t : T n) (N : Nat) (c0 c1 c2 c3 c4 : Value) : Prop where
  box : Box7 w N (.string x) (.int .i64 v) c0 c1 c2 c3 c4
  tree : TreeIn (fun b => b < B) w n t c0 c1 c2 c3 c4
  lt : B ≤ w.heap.size

theorem BoxE.keep {B : Nat} {w w' : World} {n : Nat} {x : ByteArray} {v : Int} {t : T n} {N : Nat} {c0 c1 c2 c3 c4 : Value} (h : BoxE B w n x v t N c0 c1 c2 c3 c4) (hb : Below w.heap.size w w') : BoxE B w' n x v t N c0 c1 c2 c3 c4 :=
  ⟨h.box.keep hb, h.tree.keep (same_below hb (fun _ hb' => Nat.lt_of_lt_of_le hb' h.lt)) (fun _ h => h), Nat.le_trans h.lt hb.size⟩

theorem BoxE.below {B : Nat} {w : World} {n : Nat} {x : ByteArray} {v : Int} {t : T n} {N : Nat} {c0 c1 c2 c3 c4 : Value} (h : BoxE B w n x v t N c0 c1 c2 c3 c4) : ∀ b, b < B → b < w.heap.size := fun _ hb => Nat.lt_of_lt_of_le hb h.lt

set_option maxRecDepth 20000 in
set_option maxHeartbeats 1000000 in
theorem ttEvent_same (n : Nat) (S S' : Nat → Prop) (x : ByteArray) (v : Int) (t : T n) (c0 c1 c2 c3 c4 d0 d1 d2 d3 d4 : Value) (w : World) (ht : TreeIn S w n t c0 c1 c2 c3 c4) (ht' : TreeIn S' w n t d0 d1 d2 d3 d4)
    (hB : ∀ b, S b → b < w.heap.size) (hB' : ∀ b, S' b → b < w.heap.size) :
    Calls Tryz.prog 14 #[.agg #[.string x, .int .i64 v, c0, c1, c2, c3, c4], .agg #[.string x, .int .i64 v, d0, d1, d2, d3, d4]] w fun e w' => e = .returned (.bool true) ∧ Below w.heap.size w w' := by
  obtain ⟨x0, x1, x2, xa, xl, xc, ya, yl, yc, rfl, rfl, rfl, rfl, rfl⟩ := ht.shape
  obtain ⟨z0, z1, z2, za, zl, zc, va, vl, vc, rfl, rfl, rfl, rfl, rfl⟩ := ht'.shape
  obtain ⟨W, hW⟩ : ∃ W, W = (w.alloc (.cells #[.string x, .int .i64 v, .int .i64 x0, .int .i64 x1, .string x2, .slice xa xl xc, .slice ya yl yc] 28)).alloc (.cells #[.string x, .int .i64 v, .int .i64 z0, .int .i64 z1, .string z2, .slice za zl zc, .slice va vl vc] 28) := ⟨_, rfl⟩
  have hb : Below w.heap.size w W := by rw [hW]; exact ((Below.refl _ _).alloc (Nat.le_refl _) _).alloc (by simp) _
  obtain ⟨h1, hB1⟩ := ht.step hB hb
  obtain ⟨h2, hB2⟩ := ht'.step hB' hb
  have HC := Lib.hid (ttTree_same n S S' t _ _ _ _ _ _ _ _ _ _ W h1 h2 hB1 hB2)
  have HB := Lib.hid hb
  have hbx : (x.toList == x.toList) = true := by simp
  have hbv : (v == v) = true := by simp
  clear ht ht' h1 h2 hB hB' hB1 hB2 hb
  go_enter Tryz.func14, Tryz.ntmps14
  go_wp2_with fail
  rw [← hW]
  clear hW
  refine HC.out.mono ?_
  rintro e w1 ⟨rfl, hb1⟩
  have HF := Lib.hid (below_step HB.out HB.out.size hb1)
  clear HC HB hb1
  go_wp2_with fail
  go_ret
  exact ⟨rfl, HF.out⟩

theorem textE_10000 (n : Nat) (x : ByteArray) (v : Int) (t : T n) : (textE n x v t).size ≤ 10000 := by
  cases h : okE n x v t with
  | true =>
    have h1 := textE_yes h
    have h2 := txtE_len h
    have h3 : (textE n x v t).data.toList.length = (textE n x v t).size := by simp
    rw [← h3, h1]; exact h2
  | false =>
    rw [textE, if_neg (by rw [h]; simp), bs_size]
    simp

set_option maxRecDepth 100000 in
set_option maxHeartbeats 8000000 in
theorem lawPBack_any (N : Nat) (hN : 30000 ≤ N) (S : Nat → Prop) (w : World) (ao : Option Addr) (L cap : Nat) (h : CodeIn S w ao L cap) (hS : ∀ b, S b → b < w.heap.size) (hU : LaidU w.heap.size w) :
    Calls Tryz.prog 3 #[.slice ao L cap] w fun e w' => e = .returned (.bool true) ∧ Below w.heap.size w w' := by
  by_cases hL : 1048576 < L
  · have hLi : (1048576 : Int) < (L : Int) := by omega
    clear h hU
    go_enter Tryz.func3, Tryz.ntmps3
    go_wp2_with fail
    go_ret
    exact ⟨rfl, Below.refl _ _⟩
  have hLi : ¬ (1048576 : Int) < (L : Int) := by omega
  have HD := Lib.hid (drawEPack_any (N + 1) (by omega) S w ao L cap h hS)
  have HU := Lib.hid hU
  clear h hU
  go_enter Tryz.func3, Tryz.ntmps3
  go_wp2_with fail
  refine HD.out.mono ?_
  rintro e w1 ⟨hb1, x, v, t, c0, c1, c2, c3, c4, rfl, hx, ht⟩
  obtain ⟨u0, u1, u2, ua, ul, uc, ya, yl, yc, rfl, rfl, rfl, rfl, rfl⟩ := ht.shape
  have hxm : x.size ≤ maxLen := by unfold maxLen; omega
  obtain ⟨W1, hW1⟩ : ∃ W1, W1 = w1.alloc (.cells #[.string x, .int .i64 v, .int .i64 u0, .int .i64 u1, .string u2, .slice ua ul uc, .slice ya yl yc] 28) := ⟨_, rfl⟩
  have ha1 : Below w1.heap.size w1 W1 := by rw [hW1]; exact (Below.refl _ _).alloc (Nat.le_refl _) _
  have bt1 : BoxE w1.heap.size W1 (N + 1) x v t w1.heap.size (.int .i64 u0) (.int .i64 u1) (.string u2) (.slice ua ul uc) (.slice ya yl yc) := ⟨by rw [hW1]; exact Box7.new _ _ _ _ _ _ _ _ _, ht.keep (fun b hb => ha1.block b hb.2) (fun b hb => hb.2), ha1.size⟩
  have HB1 := Lib.hid (below_step hb1 hb1.size ha1)
  have HT1 := Lib.hid bt1
  have HC2 := Lib.hid (specEOk_any (N + 1) _ x v t _ _ _ _ _ W1 hxm bt1.tree bt1.below)
  have HW1 : Hid (w1.alloc (.cells #[.string x, .int .i64 v, .int .i64 u0, .int .i64 u1, .string u2, .slice ua ul uc, .slice ya yl yc] 28) = W1) := hW1.symm
  obtain ⟨i0, i1, i2, i3, i4, i5, i6⟩ := bt1.box
  clear HD hb1 ht ha1 bt1 hW1
  go_upto_region 4 with fail
  rw [HW1.out]
  clear HW1
  go_wp2_with fail
  refine HC2.out.mono ?_
  rintro e w2 ⟨rfl, hb2⟩
  have HB2 := Lib.hid (below_step HB1.out HB1.out.size hb2)
  have bt2 := HT1.out.keep hb2
  have HT2 := Lib.hid bt2
  have HC3 := Lib.hid (specEPack_any (N + 1) _ x v t _ _ _ _ _ w2 hxm bt2.tree bt2.below)
  clear i0 i1 i2 i3 i4 i5 i6
  obtain ⟨i0, i1, i2, i3, i4, i5, i6⟩ := bt2.box
  clear HC2 HB1 HT1 hb2 bt2
  go_wp2_with fail
  refine HC3.out.mono ?_
  rintro e w3 ⟨wv, rfl, hrow, hb3⟩
  have hz3 := hb3.size
  have HB3 := Lib.hid (below_step HB2.out HB2.out.size hb3)
  have bt3 := HT2.out.keep hb3
  have HT3 := Lib.hid bt3
  have HC4 := Lib.hid (implEPack_any (N + 1) _ x v t _ _ _ _ _ w3 hxm bt3.tree bt3.below)
  obtain ⟨bl, hbl⟩ : ∃ bl, bl = bytesE (N + 1) x v t := ⟨_, rfl⟩
  rw [← hbl] at HC4 hrow
  have HBL := Lib.hid hbl
  obtain ⟨wa, wc, hwv, -⟩ := id hrow
  obtain ⟨ln, hln⟩ : ∃ ln, bl.length = ln := ⟨_, rfl⟩
  rw [hln] at hwv
  subst hwv
  have HR3 := Lib.hid hrow
  have HLn := Lib.hid hln
  clear i0 i1 i2 i3 i4 i5 i6
  obtain ⟨i0, i1, i2, i3, i4, i5, i6⟩ := bt3.box
  clear HC3 HB2 HT2 hb3 bt3 hrow hbl hln
  go_wp2_with fail
  refine HC4.out.mono ?_
  rintro e w4 ⟨bv, rfl, hbb⟩
  obtain ⟨ba, bc, hbv⟩ := hbb.shape
  rw [HLn.out] at hbv
  subst hbv
  have hb4 := hbb.below
  have hz4 := hb4.size
  have HB4 := Lib.hid (below_step HB3.out HB3.out.size hb4)
  have bt4 := HT3.out.keep hb4
  have HT4 := Lib.hid bt4
  have HR4 : Hid (Row1 (fun b => w2.heap.size ≤ b ∧ b < w3.heap.size) w4 byteR bl (.slice wa ln wc)) := HR3.out.keep (fun b hb => hb4.block b (by omega)) (fun _ h => h) (fun _ _ _ h => h)
  have HO4 : Hid (OwnB w3.heap.size w4 (.slice ba ln bc) bl) := hbb.own
  have HC5 := Lib.hid (implEWrite_any (N + 1) _ x v t _ _ _ _ _ w4 hxm bt4.tree bt4.below (HU.out.tens HB4.out))
  clear i0 i1 i2 i3 i4 i5 i6
  obtain ⟨i0, i1, i2, i3, i4, i5, i6⟩ := bt4.box
  clear HC4 HB3 HT3 hb4 bt4 hbb HR3
  go_wp2_with fail
  refine HC5.out.mono ?_
  rintro e w5 ⟨rfl, hb5⟩
  have hz5 := hb5.size
  obtain ⟨s, hs⟩ : ∃ s, textE (N + 1) x v t = s := ⟨_, rfl⟩
  have hss : s.size ≤ 10000 := by rw [← hs]; exact textE_10000 _ _ _ _
  have HB5 := Lib.hid (below_step HB4.out HB4.out.size hb5)
  have bt5 := HT4.out.keep hb5
  have HT5 := Lib.hid bt5
  have hR5 : Row1 (fun b => w2.heap.size ≤ b ∧ b < w3.heap.size) w5 byteR bl (.slice wa ln wc) := HR4.out.keep (fun b hb => hb5.block b (by omega)) (fun _ h => h) (fun _ _ _ h => h)
  have HO5 : Hid (OwnB w3.heap.size w5 (.slice ba ln bc) bl) := OwnB.keep HO4.out (fun b _ h2 => hb5.block b h2)
  have hmx : bl.length ≤ maxLen := by
    have h9 : bl.length ≤ 9000 := by
      rw [HBL.out]
      unfold bytesE
      split
      · rename_i h; exact packE_len h
      · simp
    unfold maxLen; omega
  have cv1 := conv_row hR5
  have cv2 := conv_row (OwnB.row HO5.out hmx)
  obtain ⟨bt, hbt⟩ : ∃ bt : ByteArray, bt = ⟨bl.toArray⟩ := ⟨_, rfl⟩
  rw [← hbt] at cv1 cv2
  have hbb : (bt.toList == bt.toList) = true := by simp
  have hbn : (bt.toList != bt.toList) = false := by simp
  have hsn : (s.toList != s.toList) = false := by simp
  have HC6 := Lib.hid (implEOk_any (N + 1) _ x v t _ _ _ _ _ w5 hxm bt5.tree bt5.below)
  have HSs := Lib.hid hs
  rw [hs]
  clear i0 i1 i2 i3 i4 i5 i6
  obtain ⟨i0, i1, i2, i3, i4, i5, i6⟩ := bt5.box
  clear HC5 HB4 HT4 hb5 bt5 hR5 HR4 HO4 hbt hs
  go_wp2_with fail
  refine HC6.out.mono ?_
  rintro e w6 ⟨rfl, hb6⟩
  have hz6 := hb6.size
  have HB6 := Lib.hid (below_step HB5.out HB5.out.size hb6)
  have bt6 := HT5.out.keep hb6
  have HT6 := Lib.hid bt6
  have HO6 : Hid (OwnB w3.heap.size w6 (.slice ba ln bc) bl) := OwnB.keep HO5.out (fun b _ h2 => hb6.block b h2)
  have hC7 := specEWrite_any (N + 1) _ x v t _ _ _ _ _ w6 hxm bt6.tree bt6.below
  rw [HSs.out] at hC7
  have HC7 := Lib.hid hC7
  have hokn : (okE (N + 1) x v t != okE (N + 1) x v t) = false := by simp
  clear i0 i1 i2 i3 i4 i5 i6 cv1 cv2
  obtain ⟨i0, i1, i2, i3, i4, i5, i6⟩ := bt6.box
  clear HC6 HB5 HT5 hb6 bt6 HO5 hC7
  go_wp2_with fail
  refine HC7.out.mono ?_
  rintro e w7 ⟨rfl, hb7⟩
  have hz7 := hb7.size
  have HB7 := Lib.hid (below_step HB6.out HB6.out.size hb7)
  have bt7 := HT6.out.keep hb7
  have HT7 := Lib.hid bt7
  have HO7 : Hid (OwnB w3.heap.size w7 (.slice ba ln bc) bl) := OwnB.keep HO6.out (fun b _ h2 => hb7.block b h2)
  clear HC7 HB6 HT6 hb7 HO6 i0 i1 i2 i3 i4 i5 i6
  obtain ⟨ok, hok⟩ : ∃ ok, okE (N + 1) x v t = ok := ⟨_, rfl⟩
  rw [hok] at hokn ⊢
  have HOk := Lib.hid hok
  clear hok
  cases ok
  case false =>
    have hb0 : bl = [] := by rw [HBL.out, bytesE, if_neg (by rw [HOk.out]; simp)]
    have hln0 : ln = 0 := by rw [← HLn.out, hb0]; rfl
    have hse : s = bs [] := by rw [← HSs.out, textE, if_neg (by rw [HOk.out]; simp)]
    subst hln0 hse
    have hem : ((bs []).toList == (⟨#[]⟩ : ByteArray).toList) = true := by rw [ByteArray.toList_eq, ByteArray.toList_eq]; rfl
    have hem2 : (bs []).toList = [] := by rw [ByteArray.toList_eq]; rfl
    clear bt7 HT7 HO7
    go_wp2_with fail
    go_ret
    exact ⟨rfl, HB7.out⟩
  case true =>
    have hpk : bl = packE (N + 1) x v t := by rw [HBL.out, bytesE, if_pos HOk.out]
    have hl9 : ln ≤ 9000 := by rw [← HLn.out, hpk]; exact packE_len HOk.out
    have hst : s.data.toList = txtE (N + 1) x v t := by rw [← HSs.out]; exact textE_yes HOk.out
    have HEq : Hid (EUnp N bl true x v t) := .inl ⟨rfl, HOk.out, hpk.symm⟩
    have HEr : Hid (ERdA N s.data.toList true x v t) := .inl ⟨rfl, HOk.out, hst.symm⟩
    have hC8 := implEUnpack_of N (treeC_any (N + 1)) bl (by rw [HLn.out]; omega) ba bc w7 (by
      have h := HO7.out
      rw [← HLn.out] at h
      exact h.given)
    rw [HLn.out] at hC8
    have HC8 := Lib.hid hC8
    clear bt7 hC8 hpk hst HO7
    go_wp2_with fail
    refine HC8.out.mono ?_
    rintro e w8 ⟨hb8, ok8, x8, v8, t8, d0, d1, d2, d3, d4, rfl, hG8, -, hU8⟩
    obtain ⟨rfl, rfl, rfl, rfl⟩ := eunp_one HEq.out hU8
    obtain ⟨z0, z1, z2, za, zl, zc, va, vl, vc, rfl, rfl, rfl, rfl, rfl⟩ := hG8.shape
    obtain ⟨W8, hW8⟩ : ∃ W8, W8 = w8.alloc (.cells #[.string x8, .int .i64 v8, .int .i64 z0, .int .i64 z1, .string z2, .slice za zl zc, .slice va vl vc] 28) := ⟨_, rfl⟩
    have ha8 : Below w8.heap.size w8 W8 := by rw [hW8]; exact (Below.refl _ _).alloc (Nat.le_refl _) _
    have bu8 : BoxE w8.heap.size W8 (N + 1) x8 v8 t8 w8.heap.size (.int .i64 z0) (.int .i64 z1) (.string z2) (.slice za zl zc) (.slice va vl vc) := ⟨by rw [hW8]; exact Box7.new _ _ _ _ _ _ _ _ _, hG8.keep (fun b hb => ha8.block b hb.2) (fun b hb => hb.2), ha8.size⟩
    have hb78 := below_step hb8 hb8.size ha8
    have HB8 := Lib.hid (below_step HB7.out HB7.out.size hb78)
    have HT8 := Lib.hid (HT7.out.keep hb78)
    have HV8 := Lib.hid bu8
    have HC9 := Lib.hid (implERead_any N w.heap.size s (by omega) (by omega) W8 (HU.out.step HB8.out) HB8.out.size)
    have HW8 : Hid (w8.alloc (.cells #[.string x8, .int .i64 v8, .int .i64 z0, .int .i64 z1, .string z2, .slice za zl zc, .slice va vl vc] 28) = W8) := hW8.symm
    clear HC8 hb8 hG8 hU8 hW8 ha8 bu8 hb78 HB7 HT7 HEq
    go_upto_region 13 with fail
    rw [HW8.out]
    clear HW8
    go_wp2_with fail
    refine HC9.out.mono ?_
    rintro e w9 ⟨hb9, ok9, x9, v9, t9, e0, e1, e2, e3, e4, rfl, hG9, -, hU9⟩
    obtain ⟨rfl, rfl, rfl, rfl⟩ := erd_one hU9 HEr.out
    obtain ⟨k0, k1, k2, ka, kl, kc, ga, gl, gc, rfl, rfl, rfl, rfl, rfl⟩ := hG9.shape
    obtain ⟨W9, hW9⟩ : ∃ W9, W9 = w9.alloc (.cells #[.string x8, .int .i64 v8, .int .i64 k0, .int .i64 k1, .string k2, .slice ka kl kc, .slice ga gl gc] 28) := ⟨_, rfl⟩
    have ha9 : Below w9.heap.size w9 W9 := by rw [hW9]; exact (Below.refl _ _).alloc (Nat.le_refl _) _
    have bu9 : BoxE w9.heap.size W9 (N + 1) x8 v8 t8 w9.heap.size (.int .i64 k0) (.int .i64 k1) (.string k2) (.slice ka kl kc) (.slice ga gl gc) := ⟨by rw [hW9]; exact Box7.new _ _ _ _ _ _ _ _ _, hG9.keep (fun b hb => ha9.block b hb.2) (fun b hb => hb.2), ha9.size⟩
    have hb89 := below_step hb9 hb9.size ha9
    have HB9 := Lib.hid (below_step HB8.out HB8.out.size hb89)
    have bt9 := HT8.out.keep hb89
    have bv9 := HV8.out.keep hb89
    have HT9 := Lib.hid bt9
    have HV9 := Lib.hid bu9
    have HC10 := Lib.hid (ttEvent_same (N + 1) _ _ x8 v8 t8 _ _ _ _ _ _ _ _ _ _ W9 bv9.tree bt9.tree bv9.below bt9.below)
    have HW9 : Hid (w9.alloc (.cells #[.string x8, .int .i64 v8, .int .i64 k0, .int .i64 k1, .string k2, .slice ka kl kc, .slice ga gl gc] 28) = W9) := hW9.symm
    obtain ⟨i0, i1, i2, i3, i4, i5, i6⟩ := bt9.box
    obtain ⟨j0, j1, j2, j3, j4, j5, j6⟩ := bv9.box
    clear HC9 hb9 hG9 hU9 hW9 ha9 bu9 hb89 bt9 bv9 HB8 HT8 HV8 HEr
    go_upto_region 14 with fail
    rw [HW9.out]
    clear HW9
    go_wp2_with fail
    refine HC10.out.mono ?_
    rintro e w10 ⟨rfl, hb10⟩
    have HB10 := Lib.hid (below_step HB9.out HB9.out.size hb10)
    have bt10 := HT9.out.keep hb10
    have bv10 := HV9.out.keep hb10
    have HC11 := Lib.hid (ttEvent_same (N + 1) _ _ x8 v8 t8 _ _ _ _ _ _ _ _ _ _ w10 bv10.tree bt10.tree bv10.below bt10.below)
    clear i0 i1 i2 i3 i4 i5 i6 j0 j1 j2 j3 j4 j5 j6
    obtain ⟨i0, i1, i2, i3, i4, i5, i6⟩ := bt10.box
    obtain ⟨j0, j1, j2, j3, j4, j5, j6⟩ := bv10.box
    have hli : (ln : Int) ≤ 9000 := by omega
    have hsi : (s.size : Int) ≤ 10000 := by omega
    clear HC10 hb10 bt10 bv10 HB9 HT9 HV9
    go_wp2_with fail
    refine HC11.out.mono ?_
    rintro e w11 ⟨rfl, hb11⟩
    have HB11 := Lib.hid (below_step HB10.out HB10.out.size hb11)
    clear HC11 hb11 HB10 i0 i1 i2 i3 i4 i5 i6 j0 j1 j2 j3 j4 j5 j6
    go_wp2_with fail
    go_ret
    exact ⟨rfl, HB11.out⟩

end Go.Proofs.YtcpeajdjpecmkaaGreatDoor
