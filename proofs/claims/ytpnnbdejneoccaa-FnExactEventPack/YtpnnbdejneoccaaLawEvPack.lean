/-
  The law of EventPack, walked.
-/
import Derived.Test.YtpnnbdejneoccaaEI4
import Derived.Test.YtpnnbdejneoccaaEL1
import Derived.Test.YtpnnbdejneoccaaEvTo
import Derived.Deep.Cut
import Derived.Deep.RegionHeld
namespace Go.Proofs.Ytpnnbdejneoccaa
open Go.RowKit

set_option maxRecDepth 20000 in
set_option maxHeartbeats 8000000 in
theorem lawEvPack_any (n : Nat) (S : Nat → Prop) (x : ByteArray) (v : Int) (t : T n) (c0 c1 c2 c3 c4 : Value) (w : World) (hx : x.size ≤ maxLen) (ht : TreeIn S w n t c0 c1 c2 c3 c4) (hB : ∀ b, S b → b < w.heap.size) :
    Calls Try.prog 3 #[.agg #[.string x, .int .i64 v, c0, c1, c2, c3, c4]] w fun e w' => e = .returned (.bool true) ∧ Below w.heap.size w w' := by
  obtain ⟨x0, x1, x2, xa, xl, xc, ya, yl, yc, rfl, rfl, rfl, rfl, rfl⟩ := ht.shape
  obtain ⟨W0, hW0⟩ : ∃ W0, W0 = w.alloc (.cells #[.string x, .int .i64 v, .int .i64 x0, .int .i64 x1, .string x2, .slice xa xl xc, .slice ya yl yc] 27) := ⟨_, rfl⟩
  have hb0 : Below w.heap.size w W0 := by rw [hW0]; exact (Below.refl _ _).alloc (Nat.le_refl _) _
  have a0 : ArgE S x v t (.int .i64 x0) (.int .i64 x1) (.string x2) (.slice xa xl xc) (.slice ya yl yc) w W0 := ⟨hb0, by rw [hW0]; exact Box7.new w _ _ _ _ _ _ _ _, ht.keep (same_below hb0 hB) (fun _ h => h), hB, by rw [hW0]; simp⟩
  have HA0 := Lib.hid a0
  have HC1 := Lib.hid (szEvent_any n S x v t _ _ _ _ _ 1048576 W0 hx a0.arg a0.ltu (by omega) (by omega))
  have HX := Lib.hid hx
  obtain ⟨i0, i1, i2, i3, i4, i5, i6⟩ := a0.box
  rw [hW0] at i0 i1 i2 i3 i4 i5 i6
  clear ht hB hb0 a0 hx
  obtain ⟨bl, hbl⟩ : ∃ bl, bl = bytesE n x v t := ⟨_, rfl⟩
  have hbll : bl.length ≤ 1048576 := by
    rw [hbl]; unfold bytesE; split
    · rename_i hok
      obtain ⟨hnm, -, -, hokT⟩ := okE_parts hok
      have hx8 : x.size ≤ 8 := by simp only [nameB, Bool.and_eq_true, decide_eq_true_eq] at hnm; exact hnm.1.1.2
      have hp := okT_getE hokT
      have hpl := packT_len n t 1 hp.1
      have := shortB_len x
      rw [packE, List.length_append, List.length_cons]
      omega
    · simp
  have HBL := Lib.hid hbl
  clear hbl
  go_enter Try.func3, Try.ntmps3
  go_wp2_with fail
  rw [← hW0]
  clear hW0 i0 i1 i2 i3 i4 i5 i6
  refine HC1.out.mono ?_
  rintro e w1 ⟨rfl, hb1⟩
  have HA1 := Lib.hid (HA0.out.keep hb1)
  have hA1s := HA1.out.size
  clear HC1 HA0 hb1
  obtain ⟨i0, i1, i2, i3, i4, i5, i6⟩ := HA1.out.box
  by_cases hsz : x.size + szT n t ≤ 1048576
  case neg =>
    have hneg : leftB (x.size + szT n t) 1048576 < 0 := by unfold leftB; rw [if_neg (by omega)]; omega
    go_wp2_with fail
    go_ret
    exact ⟨rfl, HA1.out.below⟩
  have hpos : ¬ leftB (x.size + szT n t) 1048576 < 0 := by unfold leftB; rw [if_pos (by omega)]; omega
  have HSZ : Hid (szT n t ≤ 1048576) := by show _ ≤ _; omega
  have HC2 := Lib.hid (toEvent_any n S x v t _ _ _ _ _ w1 HA1.out.arg HA1.out.ltu HSZ.out)
  clear hsz
  go_wp2_with fail
  refine HC2.out.mono ?_
  rintro e w2 ⟨d0, d1, d2, d3, d4, rfl, hin2, hb2⟩
  obtain ⟨q0, q1, q2, qa, ql, qc, ra, rl, rc, rfl, rfl, rfl, rfl, rfl⟩ := hin2.shape
  have hz2 := hb2.size
  have HC3 := Lib.hid (specEPack_any n _ x v t _ _ _ _ _ w2 HX.out hin2 (fun b hb => hb.2))
  have HA2 := Lib.hid (HA1.out.keep hb2)
  clear hin2 hb2 HC2 HA1 hpos i0 i1 i2 i3 i4 i5 i6
  go_wp2_with fail
  refine HC3.out.mono ?_
  rintro e w3 ⟨u, rfl, hu, hb3⟩
  rw [← HBL.out] at hu
  obtain ⟨ua, uc, rfl, hur⟩ := id hu
  have hz3 := hb3.size
  have HA3 := Lib.hid (HA2.out.keep hb3)
  have HU3 := Lib.hid hu
  obtain ⟨i0, i1, i2, i3, i4, i5, i6⟩ := HA3.out.box
  have HC4 := Lib.hid (toEventW_any n S x v t _ _ _ _ _ w3 HA3.out.arg HA3.out.ltu HSZ.out)
  clear hu hur hb3 HA2 HC3
  go_wp2_with fail
  refine HC4.out.mono ?_
  rintro e w4 ⟨d0, d1, d2, d3, d4, rfl, hin4, hb4, hth4⟩
  obtain ⟨f0, f1, f2, fa, fl, fc, ga, gl, gc, rfl, rfl, rfl, rfl, rfl⟩ := hin4.shape
  have hz4 := hb4.size
  obtain ⟨W5, hW5⟩ : ∃ W5, W5 = w4.alloc (.cells #[.string x, .int .i64 v, .int .i64 f0, .int .i64 f1, .string f2, .slice fa fl fc, .slice ga gl gc] 35) := ⟨_, rfl⟩
  have hal : Below w4.heap.size w4 W5 := by rw [hW5]; exact (Below.refl _ _).alloc (Nat.le_refl _) _
  have hz5 : W5.heap.size = w4.heap.size + 1 := by rw [hW5]; simp
  have hb35 := below_step hb4 hb4.size hal
  have HA5 := Lib.hid (HA3.out.keep hb35)
  have HU5 : Hid (Row1 (fun b => w2.heap.size ≤ b ∧ b < w3.heap.size) W5 byteR bl (.slice ua bl.length uc)) := HU3.out.keep (fun b hb => hb35.block b hb.2) (fun _ h => h) (fun _ _ _ h => h)
  have HX5 : Hid (Box7 W5 w4.heap.size (.string x) (.int .i64 v) (.int .i64 f0) (.int .i64 f1) (.string f2) (.slice fa fl fc) (.slice ga gl gc)) := by rw [hW5]; exact Box7.new w4 _ _ _ _ _ _ _ _
  have HI5 : Hid (TreeIn (fun b => w3.heap.size ≤ b ∧ b < w4.heap.size) W5 n t (.int .i64 f0) (.int .i64 f1) (.string f2) (.slice fa fl fc) (.slice ga gl gc)) := hin4.keep (fun b hb => hal.block b hb.2) (fun _ h => h)
  have HT5 : Hid (Thaw w3.heap.size W5) := by rw [hW5]; exact hth4.alloc _ _
  have HC6 := Lib.hid (implEPack_any n _ x v t _ _ _ _ _ W5 HX.out HI5.out (fun b hb => by omega))
  obtain ⟨j0, j1, j2, j3, j4, j5, j6⟩ := HX5.out
  rw [hW5] at j0 j1 j2 j3 j4 j5 j6
  clear hin4 hb4 hth4 hal hb35 HA3 HU3 HC4 i0 i1 i2 i3 i4 i5 i6
  go_wp2_with fail
  rw [← hW5]
  clear hW5 j0 j1 j2 j3 j4 j5 j6
  refine HC6.out.mono ?_
  rintro e w6 ⟨g, rfl, hg⟩
  rw [← HBL.out] at hg
  obtain ⟨gva, gvc, rfl⟩ := hg.shape
  have hz6 := hg.below.size
  have HA6 := Lib.hid (HA5.out.keep hg.below)
  have HU6 : Hid (Row1 (fun b => w2.heap.size ≤ b ∧ b < w3.heap.size) w6 byteR bl (.slice ua bl.length uc)) := HU5.out.keep (fun b hb => hg.below.block b (by omega)) (fun _ h => h) (fun _ _ _ h => h)
  have HX6 := Lib.hid (HX5.out.keep hg.below)
  have HI6 : Hid (TreeIn (fun b => w3.heap.size ≤ b ∧ b < w4.heap.size) w6 n t (.int .i64 f0) (.int .i64 f1) (.string f2) (.slice fa fl fc) (.slice ga gl gc)) := HI5.out.keep (fun b hb => hg.below.block b (by omega)) (fun _ h => h)
  have HT6 : Hid (∀ b o, w3.heap.size ≤ b → b < w4.heap.size → w6.frozen? ⟨b, o, none⟩ = false) := fun b o h1 h2 => (hg.below.frozen (p := ⟨b, o, none⟩) (by show b < _; omega)).trans (HT5.out b o h1 (by omega))
  have HG6 : Hid (OwnB W5.heap.size w6 (.slice gva bl.length gvc) bl) := hg.own
  have HE7 := Lib.hid (eqByteS_same _ _ bl _ _ w6 (hg.row (by unfold maxLen; omega)) HU6.out hbll)
  clear hg HA5 HU5 HX5 HI5 HT5 HC6
  obtain ⟨ln, hln⟩ : ∃ ln, bl.length = ln := ⟨_, rfl⟩
  have HLn := Lib.hid hln
  rw [hln] at HE7 HU6 HG6 hbll
  rw [hln]
  clear hln
  go_wp2_with fail
  refine HE7.out.mono ?_
  rintro e w7 ⟨rfl, hb7⟩
  have hz7 := hb7.size
  have HA7 := Lib.hid (HA6.out.keep hb7)
  have HU7 : Hid (Row1 (fun b => w2.heap.size ≤ b ∧ b < w3.heap.size) w7 byteR bl (.slice ua ln uc)) := HU6.out.keep (fun b hb => hb7.block b (by omega)) (fun _ h => h) (fun _ _ _ h => h)
  have HX7 := Lib.hid (HX6.out.keep hb7)
  have HI7 : Hid (TreeIn (fun b => w3.heap.size ≤ b ∧ b < w4.heap.size) w7 n t (.int .i64 f0) (.int .i64 f1) (.string f2) (.slice fa fl fc) (.slice ga gl gc)) := HI6.out.keep (fun b hb => hb7.block b (by omega)) (fun _ h => h)
  have HT7 : Hid (∀ b o, w3.heap.size ≤ b → b < w4.heap.size → w7.frozen? ⟨b, o, none⟩ = false) := fun b o h1 h2 => (hb7.frozen (p := ⟨b, o, none⟩) (by show b < _; omega)).trans (HT6.out b o h1 h2)
  have HG7 : Hid (OwnB W5.heap.size w7 (.slice gva ln gvc) bl) := HG6.out.keep (fun b _ h => hb7.block b h)
  clear hb7 HE7 HA6 HU6 HX6 HI6 HT6 HG6
  -- the copy is as the argument
  have hd7 : Below w7.heap.size w7 w7.drew := (Below.refl _ _).drew
  have HD1 : Hid (Calls Try.prog 7 #[.agg #[.string x, .int .i64 v, .int .i64 x0, .int .i64 x1, .string x2, .slice xa xl xc, .slice ya yl yc]] w7.drew fun e w' => ∃ g0 g1 g2 g3 g4, e = .returned (.agg #[.string x, .int .i64 v, g0, g1, g2, g3, g4]) ∧ TreeIn (fun b => b < w'.heap.size) w' n t g0 g1 g2 g3 g4 ∧ Below w7.heap.size w7 w') := by
    have h := HA7.out.keep hd7
    refine (toEvent_any n S x v t _ _ _ _ _ w7.drew h.arg h.ltu HSZ.out).mono ?_
    rintro e w' ⟨g0, g1, g2, g3, g4, rfl, hg, hbg⟩
    exact ⟨g0, g1, g2, g3, g4, rfl, hg.keep (fun _ _ => rfl) (fun b hb => hb.2), hd7.trans hbg⟩
  have HD2 : Hid (∀ (W : World) (g0 g1 g2 g3 g4 : Value), TreeIn (fun b => b < W.heap.size) W n t g0 g1 g2 g3 g4 → Below w7.heap.size w7 W → Calls Try.prog 10 #[.agg #[.string x, .int .i64 v, .int .i64 f0, .int .i64 f1, .string f2, .slice fa fl fc, .slice ga gl gc], .agg #[.string x, .int .i64 v, g0, g1, g2, g3, g4]] W fun e w' => e = .returned (.bool true) ∧ Below w7.heap.size w7 w') := by
    intro W g0 g1 g2 g3 g4 hg hW
    have hI : TreeIn (fun b => w3.heap.size ≤ b ∧ b < w4.heap.size) W n t (.int .i64 f0) (.int .i64 f1) (.string f2) (.slice fa fl fc) (.slice ga gl gc) := HI7.out.keep (fun b hb => hW.block b (by omega)) (fun _ h => h)
    refine (eqEvent_same n _ _ x v t _ _ _ _ _ _ _ _ _ _ W hI hg (fun b hb => by have := hW.size; omega) (fun b hb => hb)).mono ?_
    rintro e w' ⟨rfl, hb'⟩
    exact ⟨rfl, below_step hW hW.size hb'⟩
  have HS1 : Hid (∀ W, Below w7.heap.size w7 W → Box7 W w.heap.size (.string x) (.int .i64 v) (.int .i64 x0) (.int .i64 x1) (.string x2) (.slice xa xl xc) (.slice ya yl yc) ∧ Box7 W w4.heap.size (.string x) (.int .i64 v) (.int .i64 f0) (.int .i64 f1) (.string f2) (.slice fa fl fc) (.slice ga gl gc)) := fun W hW => ⟨(HA7.out.keep hW).box, HX7.out.keep hW⟩
  obtain ⟨⟨i0, i1, i2, i3, i4, i5, i6⟩, j0, j1, j2, j3, j4, j5, j6⟩ := HS1.out w7 (Below.refl _ _)
  clear hd7
  go_upto_region 10 with fail
  go_cut [31] from 11 to 69 (fun v wx => v = .bool false ∧ Below w7.heap.size w7 wx)
  case first =>
    go_region_held (fun W => (W.cell? ⟨w.heap.size, 0, none⟩ = some (.string x) ∧ W.cell? ⟨w.heap.size, 1, none⟩ = some (.int .i64 v) ∧ W.cell? ⟨w.heap.size, 2, none⟩ = some (.int .i64 x0) ∧ W.cell? ⟨w.heap.size, 3, none⟩ = some (.int .i64 x1) ∧ W.cell? ⟨w.heap.size, 4, none⟩ = some (.string x2) ∧ W.cell? ⟨w.heap.size, 5, none⟩ = some (.slice xa xl xc) ∧ W.cell? ⟨w.heap.size, 6, none⟩ = some (.slice ya yl yc)) ∧ W.cell? ⟨w4.heap.size, 0, none⟩ = some (.string x) ∧ W.cell? ⟨w4.heap.size, 1, none⟩ = some (.int .i64 v) ∧ W.cell? ⟨w4.heap.size, 2, none⟩ = some (.int .i64 f0) ∧ W.cell? ⟨w4.heap.size, 3, none⟩ = some (.int .i64 f1) ∧ W.cell? ⟨w4.heap.size, 4, none⟩ = some (.string f2) ∧ W.cell? ⟨w4.heap.size, 5, none⟩ = some (.slice fa fl fc) ∧ W.cell? ⟨w4.heap.size, 6, none⟩ = some (.slice ga gl gc)) (first | with_reducible assumption | go_keep) (first
      | (go_at_call 7; refine HD1.out.mono ?_; rintro e y1 ⟨g0, g1, g2, g3, g4, rfl, hg1, hy1⟩; obtain ⟨⟨ia0, ia1, ia2, ia3, ia4, ia5, ia6⟩, ja0, ja1, ja2, ja3, ja4, ja5, ja6⟩ := HS1.out y1 hy1)
      | (go_at_call 10; refine (HD2.out _ _ _ _ _ _ (by with_reducible assumption) (by with_reducible assumption)).mono ?_; rintro e y2 ⟨rfl, hy2⟩; obtain ⟨⟨la0, la1, la2, la3, la4, la5, la6⟩, lb0, lb1, lb2, lb3, lb4, lb5, lb6⟩ := HS1.out y2 hy2))
    all_goals
      go_wp2_with fail
      go_meet
      exact ⟨rfl, hy2⟩
  case rest =>
    obtain ⟨rfl, hb8⟩ := hcut
    obtain ⟨w8, rfl⟩ : ∃ x, x = wc := ⟨_, rfl⟩
    have hz8 := hb8.size
    have HA8 := Lib.hid (HA7.out.keep hb8)
    have HU8 : Hid (Row1 (fun b => w2.heap.size ≤ b ∧ b < w3.heap.size) w8 byteR bl (.slice ua ln uc)) := HU7.out.keep (fun b hb => hb8.block b (by omega)) (fun _ h => h) (fun _ _ _ h => h)
    have HX8 := Lib.hid (HX7.out.keep hb8)
    have hI8 : TreeIn (fun b => w3.heap.size ≤ b ∧ b < w4.heap.size) w8 n t (.int .i64 f0) (.int .i64 f1) (.string f2) (.slice fa fl fc) (.slice ga gl gc) := HI7.out.keep (fun b hb => hb8.block b (by omega)) (fun _ h => h)
    have HG8 : Hid (OwnB W5.heap.size w8 (.slice gva ln gvc) bl) := HG7.out.keep (fun b _ h => hb8.block b h)
    obtain ⟨M3, M4, r1, r2, r3, r4⟩ := tree_spots n t hI8 (fun b o hb => (hb8.frozen (p := ⟨b, o, none⟩) (by show b < _; omega)).trans (HT7.out b o hb.1 hb.2))
    rw [List.length_append] at r4
    have hsz1 := HSZ.out
    have HM1 := Lib.hid (markEvent_any (n - 1) x v f0 f1 f2 fa ga fl fc gl gc M3 M4 1 w8 r1 r2 (by omega) (by omega))
    have HMb : Hid (∀ s, s ∈ M3 ++ M4 → w3.heap.size ≤ s.b ∧ s.b < w4.heap.size) := r3
    clear i0 i1 i2 i3 i4 i5 i6 j0 j1 j2 j3 j4 j5 j6
    obtain ⟨j0, j1, j2, j3, j4, j5, j6⟩ := HX8.out
    generalize hk1 : (1 : Int) + M3.length + M4.length = k1 at HM1
    have hk3 : ¬ k1 < 0 := by omega
    clear r1 r2 r3 r4 hk1 hsz1 hI8 hb8 HA7 HU7 HX7 HI7 HT7 HG7 HD1 HD2 HS1 HX8
    go_wp2_with fail
    refine HM1.out.mono ?_
    rintro e w9 ⟨rfl, W8, hbW, hWr⟩
    have hzW := hbW.size
    have hz9 := hWr.size
    have hs9 : ∀ b : Nat, b < w8.heap.size → ¬ (w3.heap.size ≤ b ∧ b < w4.heap.size) → w9.heap[b]? = w8.heap[b]? := fun b hb hn => (hWr.other (by omega) (fun s hs e => hn (by have := HMb.out s hs; omega))).trans (hbW.block b hb)
    have hA8s := HA8.out.size
    have HB9 : Hid (Below w.heap.size w w9) := Wrote.below_of (below_step HA8.out.below HA8.out.below.size hbW) (by omega) hWr (fun s hs => by have := HMb.out s hs; omega)
    have HA9 := Lib.hid (HA8.out.step HB9.out (by omega) (fun b hb => hs9 b (by omega) (by omega)))
    have HU9 : Hid (Row1 (fun b => w2.heap.size ≤ b ∧ b < w3.heap.size) w9 byteR bl (.slice ua ln uc)) := HU8.out.keep (fun b hb => hs9 b (by omega) (by omega)) (fun _ h => h) (fun _ _ _ h => h)
    have HG9 : Hid (OwnB W5.heap.size w9 (.slice gva ln gvc) bl) := HG8.out.keep (fun b h1 h2 => hs9 b h2 (by omega))
    have hmx : bl.length ≤ maxLen := by have := HLn.out; unfold maxLen; omega
    have hbl9 : bl.length ≤ 1048576 := by have := HLn.out; omega
    have HE9 := Lib.hid (eqByteS_same _ _ bl _ _ w9 (HG9.out.row hmx) HU9.out hbl9)
    clear hWr hs9 HB9 HA8 HU8 HG8 HM1 HMb j0 j1 j2 j3 j4 j5 j6
    go_wp2_with fail
    refine HE9.out.mono ?_
    rintro e w10 ⟨rfl, hb10⟩
    have hz10 := hb10.size
    have HA10 := Lib.hid (HA9.out.keep hb10)
    have HU10 : Hid (Row1 (fun b => w2.heap.size ≤ b ∧ b < w3.heap.size) w10 byteR bl (.slice ua ln uc)) := HU9.out.keep (fun b hb => hb10.block b (by omega)) (fun _ h => h) (fun _ _ _ h => h)
    have hG10 : OwnB W5.heap.size w10 (.slice gva ln gvc) bl := HG9.out.keep (fun b _ h => hb10.block b h)
    have hgl := r1_lt hG10
    have hM := markByteS_any W5.heap.size bl _ 1 w10 hG10 (by omega) hbl9
    rw [HLn.out] at hM
    have HM2 := Lib.hid hM
    have HGl := Lib.hid hgl
    clear hb10 HE9 HA9 HU9 HG9 hG10 hM hgl
    -- marks in the answer
    go_wp2_with fail
    refine HM2.out.mono ?_
    rintro e w11 ⟨rfl, hG11, hos11, hz11, ho11⟩
    have hs11 : ∀ b : Nat, b < W5.heap.size → w11.heap[b]? = w10.heap[b]? := fun b hb => ho11 b (fun e => by have := HGl.out b e; omega)
    have HU11 : Hid (Row1 (fun b => w2.heap.size ≤ b ∧ b < w3.heap.size) w11 byteR bl (.slice ua ln uc)) := HU10.out.keep (fun b hb => hs11 b (by omega)) (fun _ h => h) (fun _ _ _ h => h)
    have hA10 := HA10.out.below
    have hB11 : Below w.heap.size w w11 := ⟨hos11.1.trans hA10.os, hos11.2.1.trans hA10.tape, hos11.2.2.trans hA10.output, by have := hA10.size; omega, fun b hb => (hs11 b (by omega)).trans (hA10.block b hb)⟩
    have HA11 := Lib.hid (HA10.out.step hB11 hz11 (fun b hb => hs11 b (by omega)))
    have hml : (marksB 1 ln).length ≤ maxLen := by rw [marksB_len]; unfold maxLen; omega
    have HG11 : Hid (OwnB W5.heap.size w11 (.slice gva ln gvc) (marksB 1 ln)) := hG11
    have HH := Lib.hid (heldByteS_any _ ln _ 1 w11 (hG11.row hml) (by omega) hbll)
    have e13 : ¬ (1 : Int) + (ln : Int) < 0 := by omega
    have ne13 : ((1 : Int) + (ln : Int) != 1 + (ln : Int)) = false := by simp
    clear hG11 hos11 ho11 hs11 hA10 hB11 HA10 HU10 HM2 HGl
    go_wp2_with fail
    refine HH.out.mono ?_
    rintro e w12 ⟨rfl, hb12⟩
    have hz12 := hb12.size
    have HA12 := Lib.hid (HA11.out.keep hb12)
    have HU12 : Hid (Row1 (fun b => w2.heap.size ≤ b ∧ b < w3.heap.size) w12 byteR bl (.slice ua ln uc)) := HU11.out.keep (fun b hb => hb12.block b (by omega)) (fun _ h => h) (fun _ _ _ h => h)
    have HG12 : Hid (OwnB W5.heap.size w12 (.slice gva ln gvc) (marksB 1 ln)) := HG11.out.keep (fun b _ h => hb12.block b h)
    obtain ⟨i0, i1, i2, i3, i4, i5, i6⟩ := HA12.out.box
    have HC13 := Lib.hid (toEvent_any n S x v t _ _ _ _ _ w12 HA12.out.arg HA12.out.ltu HSZ.out)
    clear hb12 HH HA11 HU11 HG11
    go_wp2_with fail
    refine HC13.out.mono ?_
    rintro e w13 ⟨d0, d1, d2, d3, d4, rfl, hin13, hb13⟩
    obtain ⟨q0, q1, q2, qa, ql, qc, ra, rl, rc, rfl, rfl, rfl, rfl, rfl⟩ := hin13.shape
    have hz13 := hb13.size
    have HC14 := Lib.hid (implEPack_any n _ x v t _ _ _ _ _ w13 HX.out hin13 (fun b hb => hb.2))
    have HB13 := Lib.hid hb13
    clear hin13 hb13 HC13 i0 i1 i2 i3 i4 i5 i6
    go_wp2_with fail
    refine HC14.out.mono ?_
    rintro e w14 ⟨h, rfl, hh⟩
    rw [← HBL.out] at hh
    obtain ⟨hva, hvc, rfl⟩ := hh.shape
    have hb14 := below_step HB13.out HB13.out.size hh.below
    have hz14 := hb14.size
    have HU14 : Hid (Row1 (fun b => w2.heap.size ≤ b ∧ b < w3.heap.size) w14 byteR bl (.slice ua ln uc)) := HU12.out.keep (fun b hb => hb14.block b (by omega)) (fun _ h => h) (fun _ _ _ h => h)
    have HG14 : Hid (OwnB W5.heap.size w14 (.slice gva ln gvc) (marksB 1 ln)) := HG12.out.keep (fun b _ h => hb14.block b h)
    have HA14 := Lib.hid (HA12.out.keep hb14)
    have hE := eqByteS_same _ _ bl _ _ w14 (hh.row hmx) HU14.out hbl9
    rw [HLn.out] at hE
    have HE := Lib.hid hE
    rw [HLn.out]
    clear hh hb14 hE HC14 HB13 HA12 HU12 HG12
    go_wp2_with fail
    refine HE.out.mono ?_
    rintro e w15 ⟨rfl, hb15⟩
    have hG15 : OwnB W5.heap.size w15 (.slice gva ln gvc) (marksB 1 ln) := HG14.out.keep (fun b _ h => hb15.block b h)
    have HA15 := Lib.hid (HA14.out.keep hb15)
    have HH := Lib.hid (heldByteS_any _ ln _ 1 w15 (hG15.row hml) (by omega) hbll)
    clear hb15 HE hG15 HA14 HG14 HU14
    go_wp2_with fail
    refine HH.out.mono ?_
    rintro e w16 ⟨rfl, hb16⟩
    have HF := Lib.hid (HA15.out.keep hb16).below
    clear hb16 HH HA15
    go_wp2_with fail
    go_ret
    exact ⟨rfl, HF.out⟩

end Go.Proofs.Ytpnnbdejneoccaa
