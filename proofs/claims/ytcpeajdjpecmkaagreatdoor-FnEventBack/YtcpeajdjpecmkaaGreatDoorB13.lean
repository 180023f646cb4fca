/-
  Several texts in one, in their order.
-/
import Derived.Test.YtcpeajdjpecmkaaGreatDoorB12
import Derived.Test.YtcpeajdjpecmkaaGreatDoorB7

/-
  The program's writer of events: kids, and any tree.
-/
namespace Go.Proofs.YtcpeajdjpecmkaaGreatDoor
open Go.RowKit

/-- What the writer does with a tree. -/
def WSaid (n : Nat) : Prop := ∀ (S : Nat → Prop) (t : T n) (c0 c1 c2 c3 c4 : Value) (d : Int) (R : Nat) (l : List UInt8) (w : World), TreeIn S w n t c0 c1 c2 c3 c4 → (∀ b, S b → b < w.heap.size ∧ b ≠ R) → goodT n t d = true → cntT n t ≤ 120 → Wr w R l → l.length + (packT n t).length < 8980 →
  Calls Tryz.prog 58 #[.pointer (some ⟨R, 0, none⟩), .agg #[c0, c1, c2, c3, c4]] w fun e w' => e = .returned (.tuple #[]) ∧ Wr w' R (l ++ packT n t) ∧ Near R w w'

set_option maxRecDepth 20000 in
set_option maxHeartbeats 4000000 in
theorem wkids_row (n : Nat) (hn : WSaid n) (S : Nat → Prop) (s : Int) (hs : s = 4 ∨ s = 6) (ns : List ByteArray) (ks : List (T n)) (m : Int) (x : ByteArray) (na ka : Option Addr) (nc kc : Nat) (d : Int) (R : Nat) (l : List UInt8) (w : World) (hnm : StrsIn S w ns (.slice na ns.length nc)) (hr : RowIn S w (TreeIn S w n) ks (.slice ka ks.length kc)) (hB : ∀ b, S b → b < w.heap.size ∧ b ≠ R) (hg : ∀ k, k ∈ ks → goodT n k d = true ∧ cntT n k ≤ 120) (hk : ks.length ≤ 119) (hW : Wr w R l) (hlen : l.length + 1 + (partsP (packT n) s ns ks).flatten.length < 8980) :
    Calls Tryz.prog 97 #[.pointer (some ⟨R, 0, none⟩), .agg #[.int .i64 s, .int .i64 m, .string x, .slice na ns.length nc, .slice ka ks.length kc]] w fun e w' => e = .returned (.tuple #[]) ∧ Wr w' R (l ++ b8 ks.length :: (partsP (packT n) s ns ks).flatten) ∧ Near R w w' := by
  have hRw := hW.lt
  obtain ⟨PP, hPP⟩ : ∃ PP, PP = partsP (packT n) s ns ks := ⟨_, rfl⟩
  obtain ⟨hd, hhd⟩ : ∃ hd, hd = l ++ [b8 (ks.length : Int)] := ⟨_, rfl⟩
  obtain ⟨W1, hW1⟩ : ∃ W1, W1 = w.alloc (.cells #[.int .i64 s, .int .i64 m, .string x, .slice na ns.length nc, .slice ka ks.length kc] 26) := ⟨_, rfl⟩
  have hz1 : W1.heap.size = w.heap.size + 1 := by rw [hW1]; simp
  have hbw : Below w.heap.size w W1 := by rw [hW1]; exact (Below.refl _ _).alloc (Nat.le_refl _) _
  have hx1 : Box5 W1 w.heap.size (.int .i64 s) (.int .i64 m) (.string x) (.slice na ns.length nc) (.slice ka ks.length kc) := by rw [hW1]; exact Box5.new w _ _ _ _ _ _
  have hne : w.heap.size ≠ R := by omega
  have HBx : Hid (∀ W, Near R W1 W → W.cell? ⟨w.heap.size, 0, none⟩ = some (.int .i64 s) ∧ W.cell? ⟨w.heap.size, 3, none⟩ = some (.slice na ns.length nc) ∧ W.cell? ⟨w.heap.size, 4, none⟩ = some (.slice ka ks.length kc)) := fun W hW => ⟨hW.cell hx1.c0 hne, hW.cell hx1.c3 hne, hW.cell hx1.c4 hne⟩
  have HSm : Hid (∀ W, Near R W1 W → Same S w W ∧ ∀ b, S b → b < W.heap.size ∧ b ≠ R) := fun W hW => ⟨fun b hb => (hW.block b (by have := (hB b hb).1; omega) (hB b hb).2).trans (hbw.block b (hB b hb).1), fun b hb => ⟨by have := (hB b hb).1; have := hW.size; omega, (hB b hb).2⟩⟩
  have HNm : Hid (∀ k (h : k < ns.length), ∃ b off, na = some ⟨b, off, none⟩ ∧ ∀ W, Near R W1 W → W.cell? ⟨b, off + k, none⟩ = some (.string ns[k])) := fun k h => by
    obtain ⟨ao, cap, hv, -, -, hc⟩ := hnm
    cases hv
    obtain ⟨b, off, rfl, hb, hc⟩ := hc (by intro e; rw [e] at h; simp at h)
    exact ⟨b, off, rfl, fun W hW => ((HSm.out W hW).1.cell (p := ⟨b, off + k, none⟩) hb).trans (hc k h)⟩
  have HKd : Hid (∀ k (h : k < ks.length), ∃ b off y0 y1 y2 ya yl yc ta tl tc, ka = some ⟨b, off, none⟩ ∧ (∀ W, Near R W1 W → W.cell? ⟨b, off + k * 5, none⟩ = some (.int .i64 y0) ∧ W.cell? ⟨b, off + k * 5 + 1, none⟩ = some (.int .i64 y1) ∧ W.cell? ⟨b, off + k * 5 + 2, none⟩ = some (.string y2) ∧ W.cell? ⟨b, off + k * 5 + 3, none⟩ = some (.slice ya yl yc) ∧ W.cell? ⟨b, off + k * 5 + 4, none⟩ = some (.slice ta tl tc)) ∧ ∀ W q, Near R W1 W → Wr W R q → q.length + (packT n ks[k]).length < 8980 → Calls Tryz.prog 58 #[.pointer (some ⟨R, 0, none⟩), .agg #[.int .i64 y0, .int .i64 y1, .string y2, .slice ya yl yc, .slice ta tl tc]] W fun e w' => e = .returned (.tuple #[]) ∧ Wr w' R (q ++ packT n ks[k]) ∧ Near R W w') := fun k h => by
    obtain ⟨ao, cap, hv, -, hc⟩ := hr
    cases hv
    obtain ⟨b, off, rfl, hb, hc⟩ := hc (by intro e; rw [e] at h; simp at h)
    obtain ⟨y0, y1, y2, y3, y4, e0, e1, e2, e3, e4, hin⟩ := hc k h
    obtain ⟨x0, x1, x2, xa, xl, xc, ta, tl, tc, rfl, rfl, rfl, rfl, rfl⟩ := hin.shape
    have hgk := hg _ (List.getElem_mem h)
    refine ⟨b, off, x0, x1, x2, xa, xl, xc, ta, tl, tc, rfl, fun W hW => ?_, fun W q hW hq hql => ?_⟩
    · have hs := (HSm.out W hW).1
      exact ⟨(hs.cell (p := ⟨b, off + k * 5, none⟩) hb).trans e0, (hs.cell (p := ⟨b, off + k * 5 + 1, none⟩) hb).trans e1, (hs.cell (p := ⟨b, off + k * 5 + 2, none⟩) hb).trans e2, (hs.cell (p := ⟨b, off + k * 5 + 3, none⟩) hb).trans e3, (hs.cell (p := ⟨b, off + k * 5 + 4, none⟩) hb).trans e4⟩
    · have hs := HSm.out W hW
      exact hn S ks[k] _ _ _ _ _ d R q W (hin.keep hs.1 (fun _ h => h)) hs.2 hgk.1 hgk.2 hq hql
  have HStep : Hid (∀ k (h : k < ks.length) (q : List UInt8), q = hd ++ (PP.take k).flatten → q ++ packT n ks[k] = hd ++ (PP.take (k + 1)).flatten) := fun k h q hl => by
    have hpl : k < PP.length := by rw [hPP, parts_len _ _ _ _ (fun h => absurd h (by omega))]; exact h
    rw [flat_step PP k hpl, hl, List.append_assoc]
    congr 2
    subst hPP
    exact (parts_row _ _ (by omega) _ _ _ h hpl).symm
  have HLen : Hid (∀ k (q : List UInt8), q = hd ++ (PP.take k).flatten → q.length < 8980) := fun k q hl => by
    have h1 := flat_take PP k
    rw [← hPP] at hlen
    have h2 : hd.length = l.length + 1 := by rw [hhd]; simp
    rw [hl, List.length_append]
    omega
  have HF : Hid (∀ q : List UInt8, q = hd ++ (PP.take ks.length).flatten → q = l ++ b8 ks.length :: (partsP (packT n) s ns ks).flatten) := fun q hl => by
    rw [hl, ← hPP, List.take_of_length_le (by rw [hPP, parts_len _ _ _ _ (fun h => absurd h (by omega))]; exact Nat.le_refl _), hhd, List.append_assoc]; rfl
  have hC := put_any R l (b8 (ks.length : Int)) W1 (hW.below hbw) (by omega)
  rw [b8_nat (by omega) (by omega)] at hC
  have HC := Lib.hid hC
  have HN0 : Hid (Near R w W1) := Near.of_below hbw
  obtain ⟨kl, hkl⟩ : ∃ kl, ks.length = kl := ⟨_, rfl⟩
  obtain ⟨nl, hnl⟩ : ∃ nl, ns.length = nl := ⟨_, rfl⟩
  have HKl : Hid (ks.length = kl ∧ ns.length = nl) := ⟨hkl, hnl⟩
  have hkb : kl ≤ 119 := by omega
  have hwk : IntKind.u8.wrap (kl : Int) = kl := by rw [IntKind.wrap_u8]; omega
  have HHd := Lib.hid hhd
  have h5 : ¬ s = 5 := by omega
  have h5' : (s == 5) = false := by simpa using h5
  rw [hkl] at HC HHd
  rw [hkl, hnl] at HBx
  rw [hkl, hnl]
  rw [hkl, hnl] at hW1
  obtain ⟨i0, i3, i4⟩ := HBx.out W1 (Near.refl _ _)
  rw [hW1] at i0 i3 i4
  clear hs hnm hr hB hg hk hlen hPP hbw hx1 hC hkl hnl hz1 hhd hn hW
  go_enter Tryz.func97, Tryz.ntmps97
  go_wp2_with fail
  rw [← hW1]
  clear hW1 i0 i3 i4
  refine HC.out.mono ?_
  rintro e w1 ⟨rfl, hw1, hn1⟩
  rw [← HHd.out] at hw1
  obtain ⟨i0, i3, i4⟩ := HBx.out w1 hn1
  have HW1 := Lib.hid hw1
  have HN1 := Lib.hid hn1
  clear hw1 hn1 HC
  go_wp2_with fail
  go_loopw [15] (fun iv wr => ∃ (k : Nat) (q : List UInt8), k ≤ kl ∧ iv = .int .i64 k ∧ Wr wr R q ∧ Near R W1 wr ∧ q = hd ++ (PP.take k).flatten) (fun iv _ => kl - (intOf iv).toNat)
  case atStart => exact ⟨0, hd, Nat.zero_le _, rfl, HW1.out, HN1.out, by simp⟩
  case round =>
    obtain ⟨k, q, hk, rfl, hw, hnr, hl⟩ := hrel
    have hll := HLen.out k q hl
    have HWk := Lib.hid hw
    have HNk := Lib.hid hnr
    clear i0 i3 i4
    obtain ⟨i0, i3, i4⟩ := HBx.out wr hnr
    have hzr := hnr.size
    by_cases hlt : k < kl
    case neg =>
      have hk' : k = kl := by omega
      have HE : Hid (q = _) := HF.out q (by rw [hl, hk', HKl.out.1])
      clear hl hw hnr
      have hkn : ¬ (k : Int) < (kl : Int) := by omega
      go_wp2_with fail
      refine bodyPost_end (results_none rfl _ _ _) rfl ?_
      have hE := HE.out
      rw [HKl.out.1] at hE
      refine ⟨rfl, ?_, HN0.out.trans HNk.out⟩
      rw [← hE]
      exact HWk.out
    case pos =>
      have hkp : (k : Int) < (kl : Int) := by omega
      have hkk : k < ks.length := by have := HKl.out.1; omega
      obtain ⟨kb, ko, y0, y1, y2, ya, yl, yc, ta, tl, tc, rfl, hkW, hkC⟩ := HKd.out k hkk
      have HSt := Lib.hid (HStep.out k hkk q hl)
      have HLe := Lib.hid (HLen.out (k + 1))
      generalize ks[k] = kid at *
      obtain ⟨f0, f1, f2, f3, f4⟩ := hkW wr hnr
      obtain ⟨W2, hW2⟩ : ∃ W2, W2 = wr.alloc (.cells #[.int .i64 y0, .int .i64 y1, .string y2, .slice ya yl yc, .slice ta tl tc] 26) := ⟨_, rfl⟩
      have hn2 : Near R wr W2 := by rw [hW2]; exact Near.alloc R wr _
      have hw2 : Wr W2 R q := hw.below (by rw [hW2]; exact (Below.refl _ _).alloc (Nat.le_refl _) _)
      have hbx2 : Box5 W2 wr.heap.size (.int .i64 y0) (.int .i64 y1) (.string y2) (.slice ya yl yc) (.slice ta tl tc) := by rw [hW2]; exact Box5.new wr _ _ _ _ _ _
      have hRr : wr.heap.size ≠ R := by have := hw.lt; omega
      have hn12 := hnr.trans hn2
      obtain ⟨p0, p3, p4⟩ := HBx.out W2 hn12
      have HS1 := Lib.hid HSt.out
      have hlen1 := HLe.out _ HSt.out
      rw [List.length_append] at hlen1
      have HC2 := Lib.hid (hkC W2 q hn12 hw2 (by omega))
      have HN12 := Lib.hid hn12
      obtain ⟨g0, g1, g2, g3, g4⟩ := id hbx2
      rw [hW2] at p0 p3 p4 g0 g1 g2 g3 g4
      clear hkW hkC hl hw hnr hn2 hw2 hbx2 hn12 HKd HNm HStep HSt HLe HLen
      go_wp2_with fail
      rw [← hW2]
      clear hW2 p0 p3 p4 g0 g1 g2 g3 g4 f0 f1 f2 f3 f4 i0 i3 i4
      refine HC2.out.mono ?_
      rintro e w4 ⟨rfl, hw4, hn4⟩
      rw [HS1.out] at hw4
      have HW4 := Lib.hid hw4
      have HN4 := Lib.hid (HN12.out.trans hn4)
      clear hw4 hn4 HC2
      go_wp2_with fail
      go_roundw
      case rel => exact ⟨k + 1, _, by omega, by go_num, HW4.out, HN4.out, rfl⟩
      case measure => simp [intOf]; omega

set_option maxRecDepth 20000 in
set_option maxHeartbeats 4000000 in
theorem wkids_form (n : Nat) (hn : WSaid n) (S : Nat → Prop) (ns : List ByteArray) (ks : List (T n)) (m : Int) (x : ByteArray) (na ka : Option Addr) (nc kc : Nat) (d : Int) (R : Nat) (l : List UInt8) (w : World) (hnm : StrsIn S w ns (.slice na ns.length nc)) (hr : RowIn S w (TreeIn S w n) ks (.slice ka ks.length kc)) (hB : ∀ b, S b → b < w.heap.size ∧ b ≠ R) (hll0 : ns.length = ks.length) (hl8 : ∀ y, y ∈ ns → y.size ≤ 8) (hg : ∀ k, k ∈ ks → goodT n k d = true ∧ cntT n k ≤ 120) (hk : ks.length ≤ 119) (hW : Wr w R l) (hlen : l.length + 1 + (partsP (packT n) 5 ns ks).flatten.length < 8980) :
    Calls Tryz.prog 97 #[.pointer (some ⟨R, 0, none⟩), .agg #[.int .i64 5, .int .i64 m, .string x, .slice na ns.length nc, .slice ka ks.length kc]] w fun e w' => e = .returned (.tuple #[]) ∧ Wr w' R (l ++ b8 ks.length :: (partsP (packT n) 5 ns ks).flatten) ∧ Near R w w' := by
  have hRw := hW.lt
  obtain ⟨PP, hPP⟩ : ∃ PP, PP = partsP (packT n) 5 ns ks := ⟨_, rfl⟩
  obtain ⟨hd, hhd⟩ : ∃ hd, hd = l ++ [b8 (ks.length : Int)] := ⟨_, rfl⟩
  obtain ⟨W1, hW1⟩ : ∃ W1, W1 = w.alloc (.cells #[.int .i64 5, .int .i64 m, .string x, .slice na ns.length nc, .slice ka ks.length kc] 26) := ⟨_, rfl⟩
  have hz1 : W1.heap.size = w.heap.size + 1 := by rw [hW1]; simp
  have hbw : Below w.heap.size w W1 := by rw [hW1]; exact (Below.refl _ _).alloc (Nat.le_refl _) _
  have hx1 : Box5 W1 w.heap.size (.int .i64 5) (.int .i64 m) (.string x) (.slice na ns.length nc) (.slice ka ks.length kc) := by rw [hW1]; exact Box5.new w _ _ _ _ _ _
  have hne : w.heap.size ≠ R := by omega
  have HBx : Hid (∀ W, Near R W1 W → W.cell? ⟨w.heap.size, 0, none⟩ = some (.int .i64 5) ∧ W.cell? ⟨w.heap.size, 3, none⟩ = some (.slice na ns.length nc) ∧ W.cell? ⟨w.heap.size, 4, none⟩ = some (.slice ka ks.length kc)) := fun W hW => ⟨hW.cell hx1.c0 hne, hW.cell hx1.c3 hne, hW.cell hx1.c4 hne⟩
  have HSm : Hid (∀ W, Near R W1 W → Same S w W ∧ ∀ b, S b → b < W.heap.size ∧ b ≠ R) := fun W hW => ⟨fun b hb => (hW.block b (by have := (hB b hb).1; omega) (hB b hb).2).trans (hbw.block b (hB b hb).1), fun b hb => ⟨by have := (hB b hb).1; have := hW.size; omega, (hB b hb).2⟩⟩
  have HNm : Hid (∀ k (h : k < ns.length), ∃ b off, na = some ⟨b, off, none⟩ ∧ ∀ W, Near R W1 W → W.cell? ⟨b, off + k, none⟩ = some (.string ns[k])) := fun k h => by
    obtain ⟨ao, cap, hv, -, -, hc⟩ := hnm
    cases hv
    obtain ⟨b, off, rfl, hb, hc⟩ := hc (by intro e; rw [e] at h; simp at h)
    exact ⟨b, off, rfl, fun W hW => ((HSm.out W hW).1.cell (p := ⟨b, off + k, none⟩) hb).trans (hc k h)⟩
  have HKd : Hid (∀ k (h : k < ks.length), ∃ b off y0 y1 y2 ya yl yc ta tl tc, ka = some ⟨b, off, none⟩ ∧ (∀ W, Near R W1 W → W.cell? ⟨b, off + k * 5, none⟩ = some (.int .i64 y0) ∧ W.cell? ⟨b, off + k * 5 + 1, none⟩ = some (.int .i64 y1) ∧ W.cell? ⟨b, off + k * 5 + 2, none⟩ = some (.string y2) ∧ W.cell? ⟨b, off + k * 5 + 3, none⟩ = some (.slice ya yl yc) ∧ W.cell? ⟨b, off + k * 5 + 4, none⟩ = some (.slice ta tl tc)) ∧ ∀ W q, Near R W1 W → Wr W R q → q.length + (packT n ks[k]).length < 8980 → Calls Tryz.prog 58 #[.pointer (some ⟨R, 0, none⟩), .agg #[.int .i64 y0, .int .i64 y1, .string y2, .slice ya yl yc, .slice ta tl tc]] W fun e w' => e = .returned (.tuple #[]) ∧ Wr w' R (q ++ packT n ks[k]) ∧ Near R W w') := fun k h => by
    obtain ⟨ao, cap, hv, -, hc⟩ := hr
    cases hv
    obtain ⟨b, off, rfl, hb, hc⟩ := hc (by intro e; rw [e] at h; simp at h)
    obtain ⟨y0, y1, y2, y3, y4, e0, e1, e2, e3, e4, hin⟩ := hc k h
    obtain ⟨x0, x1, x2, xa, xl, xc, ta, tl, tc, rfl, rfl, rfl, rfl, rfl⟩ := hin.shape
    have hgk := hg _ (List.getElem_mem h)
    refine ⟨b, off, x0, x1, x2, xa, xl, xc, ta, tl, tc, rfl, fun W hW => ?_, fun W q hW hq hql => ?_⟩
    · have hs := (HSm.out W hW).1
      exact ⟨(hs.cell (p := ⟨b, off + k * 5, none⟩) hb).trans e0, (hs.cell (p := ⟨b, off + k * 5 + 1, none⟩) hb).trans e1, (hs.cell (p := ⟨b, off + k * 5 + 2, none⟩) hb).trans e2, (hs.cell (p := ⟨b, off + k * 5 + 3, none⟩) hb).trans e3, (hs.cell (p := ⟨b, off + k * 5 + 4, none⟩) hb).trans e4⟩
    · have hs := HSm.out W hW
      exact hn S ks[k] _ _ _ _ _ d R q W (hin.keep hs.1 (fun _ h => h)) hs.2 hgk.1 hgk.2 hq hql
  have HStep : Hid (∀ k (h : k < ks.length) (q : List UInt8), q = hd ++ (PP.take k).flatten → ∃ h' : k < ns.length, ns[k].size ≤ 8 ∧ (q ++ shortB ns[k]) ++ packT n ks[k] = hd ++ (PP.take (k + 1)).flatten) := fun k h q hl => by
    have hpl : k < PP.length := by rw [hPP, parts_len _ _ _ _ (fun _ => hll0)]; exact h
    have h' : k < ns.length := by omega
    refine ⟨h', hl8 _ (List.getElem_mem h'), ?_⟩
    rw [flat_step PP k hpl, hl, List.append_assoc, List.append_assoc]
    congr 2
    subst hPP
    exact (parts_form _ _ _ _ h' h hpl).symm
  have HLen : Hid (∀ k (q : List UInt8), q = hd ++ (PP.take k).flatten → q.length < 8980) := fun k q hl => by
    have h1 := flat_take PP k
    rw [← hPP] at hlen
    have h2 : hd.length = l.length + 1 := by rw [hhd]; simp
    rw [hl, List.length_append]
    omega
  have HF : Hid (∀ q : List UInt8, q = hd ++ (PP.take ks.length).flatten → q = l ++ b8 ks.length :: (partsP (packT n) 5 ns ks).flatten) := fun q hl => by
    rw [hl, ← hPP, List.take_of_length_le (by rw [hPP, parts_len _ _ _ _ (fun _ => hll0)]; exact Nat.le_refl _), hhd, List.append_assoc]; rfl
  have hC := put_any R l (b8 (ks.length : Int)) W1 (hW.below hbw) (by omega)
  rw [b8_nat (by omega) (by omega)] at hC
  have HC := Lib.hid hC
  have HN0 : Hid (Near R w W1) := Near.of_below hbw
  obtain ⟨kl, hkl⟩ : ∃ kl, ks.length = kl := ⟨_, rfl⟩
  obtain ⟨nl, hnl⟩ : ∃ nl, ns.length = nl := ⟨_, rfl⟩
  have HKl : Hid (ks.length = kl ∧ ns.length = nl) := ⟨hkl, hnl⟩
  have hkb : kl ≤ 119 := by omega
  have hwk : IntKind.u8.wrap (kl : Int) = kl := by rw [IntKind.wrap_u8]; omega
  have HHd := Lib.hid hhd
  rw [hkl] at HC HHd
  rw [hkl, hnl] at HBx
  rw [hkl, hnl]
  rw [hkl, hnl] at hW1
  obtain ⟨i0, i3, i4⟩ := HBx.out W1 (Near.refl _ _)
  rw [hW1] at i0 i3 i4
  clear hnm hr hB hll0 hl8 hg hk hlen hPP hbw hx1 hC hkl hnl hz1 hhd hn hW
  go_enter Tryz.func97, Tryz.ntmps97
  go_wp2_with fail
  rw [← hW1]
  clear hW1 i0 i3 i4
  refine HC.out.mono ?_
  rintro e w1 ⟨rfl, hw1, hn1⟩
  rw [← HHd.out] at hw1
  obtain ⟨i0, i3, i4⟩ := HBx.out w1 hn1
  have HW1 := Lib.hid hw1
  have HN1 := Lib.hid hn1
  clear hw1 hn1 HC
  go_wp2_with fail
  go_loopw [15] (fun iv wr => ∃ (k : Nat) (q : List UInt8), k ≤ kl ∧ iv = .int .i64 k ∧ Wr wr R q ∧ Near R W1 wr ∧ q = hd ++ (PP.take k).flatten) (fun iv _ => kl - (intOf iv).toNat)
  case atStart => exact ⟨0, hd, Nat.zero_le _, rfl, HW1.out, HN1.out, by simp⟩
  case round =>
    obtain ⟨k, q, hk, rfl, hw, hnr, hl⟩ := hrel
    have hll := HLen.out k q hl
    have HWk := Lib.hid hw
    have HNk := Lib.hid hnr
    clear i0 i3 i4
    obtain ⟨i0, i3, i4⟩ := HBx.out wr hnr
    have hzr := hnr.size
    by_cases hlt : k < kl
    case neg =>
      have hk' : k = kl := by omega
      have HE : Hid (q = _) := HF.out q (by rw [hl, hk', HKl.out.1])
      clear hl hw hnr
      have hkn : ¬ (k : Int) < (kl : Int) := by omega
      go_wp2_with fail
      refine bodyPost_end (results_none rfl _ _ _) rfl ?_
      have hE := HE.out
      rw [HKl.out.1] at hE
      refine ⟨rfl, ?_, HN0.out.trans HNk.out⟩
      rw [← hE]
      exact HWk.out
    case pos =>
      have hkp : (k : Int) < (kl : Int) := by omega
      have hkk : k < ks.length := by have := HKl.out.1; omega
      obtain ⟨kb, ko, y0, y1, y2, ya, yl, yc, ta, tl, tc, rfl, hkW, hkC⟩ := HKd.out k hkk
      have HSt := Lib.hid (HStep.out k hkk q hl)
      have HLe := Lib.hid (HLen.out (k + 1))
      generalize ks[k] = kid at *
      obtain ⟨f0, f1, f2, f3, f4⟩ := hkW wr hnr
      obtain ⟨W2, hW2⟩ : ∃ W2, W2 = wr.alloc (.cells #[.int .i64 y0, .int .i64 y1, .string y2, .slice ya yl yc, .slice ta tl tc] 26) := ⟨_, rfl⟩
      have hn2 : Near R wr W2 := by rw [hW2]; exact Near.alloc R wr _
      have hw2 : Wr W2 R q := hw.below (by rw [hW2]; exact (Below.refl _ _).alloc (Nat.le_refl _) _)
      have hbx2 : Box5 W2 wr.heap.size (.int .i64 y0) (.int .i64 y1) (.string y2) (.slice ya yl yc) (.slice ta tl tc) := by rw [hW2]; exact Box5.new wr _ _ _ _ _ _
      have hRr : wr.heap.size ≠ R := by have := hw.lt; omega
      have hn12 := hnr.trans hn2
      obtain ⟨p0, p3, p4⟩ := HBx.out W2 hn12
      obtain ⟨hkn, hn8, hS1⟩ := HSt.out
      have HS1 := Lib.hid hS1
      obtain ⟨nb, no, rfl, hnW⟩ := HNm.out k hkn
      have q0 := hnW W2 hn12
      generalize ns[k] = nm at *
      have hknl : (k : Int) < (nl : Int) := by have := HKl.out.2; omega
      have hlen1 := HLe.out _ hS1
      rw [List.length_append, List.length_append] at hlen1
      have hsl := shortB_len nm
      have HCs := Lib.hid (wtext_any R q nm W2 hw2 (by omega) (by omega))
      have HkC := Lib.hid hkC
      have HB2 := Lib.hid hbx2
      have HN12 := Lib.hid hn12
      rw [hW2] at p0 p3 p4 q0
      clear hkW hkC hl hw hnr hn2 hw2 hbx2 hn12 hS1 hnW HKd HNm HStep HSt HLe HLen
      go_wp2_with fail
      rw [← hW2]
      clear hW2 p0 p3 p4 q0 f0 f1 f2 f3 f4 i0 i3 i4
      refine HCs.out.mono ?_
      rintro e w3 ⟨rfl, hw3, hn3⟩
      obtain ⟨g0, g1, g2, g3, g4⟩ := id HB2.out
      have r0 := hn3.cell g0 hRr
      have r1 := hn3.cell g1 hRr
      have r2 := hn3.cell g2 hRr
      have r3 := hn3.cell g3 hRr
      have r4 := hn3.cell g4 hRr
      have HC2 := Lib.hid (HkC.out w3 (q ++ shortB nm) (HN12.out.trans hn3) hw3 (by rw [List.length_append]; omega))
      have HN3 := Lib.hid (HN12.out.trans hn3)
      clear hw3 hn3 g0 g1 g2 g3 g4 HCs HB2 HkC hlen1
      go_wp2_with fail
      refine HC2.out.mono ?_
      rintro e w4 ⟨rfl, hw4, hn4⟩
      rw [HS1.out] at hw4
      have HW4 := Lib.hid hw4
      have HN4 := Lib.hid (HN3.out.trans hn4)
      clear hw4 hn4 r0 r1 r2 r3 r4 HC2
      go_wp2_with fail
      go_roundw
      case rel => exact ⟨k + 1, _, by omega, by go_num, HW4.out, HN4.out, rfl⟩
      case measure => simp [intOf]; omega

end Go.Proofs.YtcpeajdjpecmkaaGreatDoor

/-
  The program's writer of events: any tree.
-/
namespace Go.Proofs.YtcpeajdjpecmkaaGreatDoor
open Go.RowKit

set_option maxRecDepth 20000 in
set_option maxHeartbeats 2000000 in
theorem wtree_num (m : Int) (x : ByteArray) (na ka : Option Addr) (nl nc kl kc : Nat) (R : Nat) (l : List UInt8) (w : World) (hW : Wr w R l) (hm : -999999999 ≤ m ∧ m ≤ 999999999) (hl : l.length + (numB m).length < 8980) :
    Calls Tryz.prog 58 #[.pointer (some ⟨R, 0, none⟩), .agg #[.int .i64 1, .int .i64 m, .string x, .slice na nl nc, .slice ka kl kc]] w fun e w' => e = .returned (.tuple #[]) ∧ Wr w' R (l ++ b8 1 :: numB m) ∧ Near R w w' := by
  have hRw := hW.lt
  obtain ⟨W1, hW1⟩ : ∃ W1, W1 = w.alloc (.cells #[.int .i64 1, .int .i64 m, .string x, .slice na nl nc, .slice ka kl kc] 26) := ⟨_, rfl⟩
  have hbw : Below w.heap.size w W1 := by rw [hW1]; exact (Below.refl _ _).alloc (Nat.le_refl _) _
  have hx1 : Box5 W1 w.heap.size (.int .i64 1) (.int .i64 m) (.string x) (.slice na nl nc) (.slice ka kl kc) := by rw [hW1]; exact Box5.new w _ _ _ _ _ _
  have hne : w.heap.size ≠ R := by omega
  have hC := put_any R l (b8 1) W1 (hW.below hbw) (by omega)
  rw [b8_nat (by omega) (by omega)] at hC
  have HC := Lib.hid hC
  have HN0 : Hid (Near R w W1) := Near.of_below hbw
  have HX := Lib.hid hx1
  clear hW hbw hx1 hC
  go_enter Tryz.func58, Tryz.ntmps58
  go_wp2_with fail
  rw [← hW1]
  clear hW1
  refine HC.out.mono ?_
  rintro e w1 ⟨rfl, hw1, hn1⟩
  have i0 := hn1.cell HX.out.c0 hne
  have i1 := hn1.cell HX.out.c1 hne
  have i2 := hn1.cell HX.out.c2 hne
  have i3 := hn1.cell HX.out.c3 hne
  have i4 := hn1.cell HX.out.c4 hne
  have HN1 := Lib.hid (HN0.out.trans hn1)
  have hnl := numB_len m
  have HC2 := Lib.hid (wnum_any R (l ++ [b8 1]) m w1 hw1 hm (by rw [List.length_append]; simp; omega))
  clear hm
  clear hw1 hn1 HC HX
  go_wp2_with fail
  refine HC2.out.mono ?_
  rintro e w2 ⟨rfl, hw2, hn2⟩
  have HW2 := Lib.hid hw2
  have HN2 := Lib.hid (HN1.out.trans hn2)
  clear hw2 hn2 HC2
  go_wp2_with fail
  refine bodyPost_end (results_none rfl _ _ _) rfl ?_
  refine ⟨rfl, ?_, HN2.out⟩
  have e : l ++ b8 1 :: numB m = (l ++ [b8 1]) ++ numB m := by rw [List.append_assoc]; rfl
  rw [e]
  exact HW2.out

set_option maxRecDepth 20000 in
set_option maxHeartbeats 2000000 in
theorem wtree_text (m : Int) (x : ByteArray) (na ka : Option Addr) (nl nc kl kc : Nat) (R : Nat) (l : List UInt8) (w : World) (hW : Wr w R l) (hx : x.size ≤ 60) (hl : l.length + (shortB x).length < 8980) :
    Calls Tryz.prog 58 #[.pointer (some ⟨R, 0, none⟩), .agg #[.int .i64 2, .int .i64 m, .string x, .slice na nl nc, .slice ka kl kc]] w fun e w' => e = .returned (.tuple #[]) ∧ Wr w' R (l ++ b8 2 :: shortB x) ∧ Near R w w' := by
  have hRw := hW.lt
  obtain ⟨W1, hW1⟩ : ∃ W1, W1 = w.alloc (.cells #[.int .i64 2, .int .i64 m, .string x, .slice na nl nc, .slice ka kl kc] 26) := ⟨_, rfl⟩
  have hbw : Below w.heap.size w W1 := by rw [hW1]; exact (Below.refl _ _).alloc (Nat.le_refl _) _
  have hx1 : Box5 W1 w.heap.size (.int .i64 2) (.int .i64 m) (.string x) (.slice na nl nc) (.slice ka kl kc) := by rw [hW1]; exact Box5.new w _ _ _ _ _ _
  have hne : w.heap.size ≠ R := by omega
  have hC := put_any R l (b8 2) W1 (hW.below hbw) (by omega)
  rw [b8_nat (by omega) (by omega)] at hC
  have HC := Lib.hid hC
  have HN0 : Hid (Near R w W1) := Near.of_below hbw
  have HX := Lib.hid hx1
  clear hW hbw hx1 hC
  go_enter Tryz.func58, Tryz.ntmps58
  go_wp2_with fail
  rw [← hW1]
  clear hW1
  refine HC.out.mono ?_
  rintro e w1 ⟨rfl, hw1, hn1⟩
  have i0 := hn1.cell HX.out.c0 hne
  have i1 := hn1.cell HX.out.c1 hne
  have i2 := hn1.cell HX.out.c2 hne
  have i3 := hn1.cell HX.out.c3 hne
  have i4 := hn1.cell HX.out.c4 hne
  have HN1 := Lib.hid (HN0.out.trans hn1)
  have hnl := shortB_len x
  have HC2 := Lib.hid (wtext_any R (l ++ [b8 2]) x w1 hw1 (by omega) (by rw [List.length_append]; simp; omega))
  clear hw1 hn1 HC HX
  go_wp2_with fail
  refine HC2.out.mono ?_
  rintro e w2 ⟨rfl, hw2, hn2⟩
  have HW2 := Lib.hid hw2
  have HN2 := Lib.hid (HN1.out.trans hn2)
  clear hw2 hn2 HC2
  go_wp2_with fail
  refine bodyPost_end (results_none rfl _ _ _) rfl ?_
  refine ⟨rfl, ?_, HN2.out⟩
  have e : l ++ b8 2 :: shortB x = (l ++ [b8 2]) ++ shortB x := by rw [List.append_assoc]; rfl
  rw [e]
  exact HW2.out

set_option maxRecDepth 20000 in
set_option maxHeartbeats 2000000 in
theorem wtree_flag (m : Int) (x : ByteArray) (na ka : Option Addr) (nl nc kl kc : Nat) (R : Nat) (l : List UInt8) (w : World) (hW : Wr w R l) (hm : 0 ≤ m ∧ m ≤ 1) (hl : l.length < 8980) :
    Calls Tryz.prog 58 #[.pointer (some ⟨R, 0, none⟩), .agg #[.int .i64 3, .int .i64 m, .string x, .slice na nl nc, .slice ka kl kc]] w fun e w' => e = .returned (.tuple #[]) ∧ Wr w' R (l ++ [b8 3, b8 m]) ∧ Near R w w' := by
  have hRw := hW.lt
  obtain ⟨W1, hW1⟩ : ∃ W1, W1 = w.alloc (.cells #[.int .i64 3, .int .i64 m, .string x, .slice na nl nc, .slice ka kl kc] 26) := ⟨_, rfl⟩
  have hbw : Below w.heap.size w W1 := by rw [hW1]; exact (Below.refl _ _).alloc (Nat.le_refl _) _
  have hx1 : Box5 W1 w.heap.size (.int .i64 3) (.int .i64 m) (.string x) (.slice na nl nc) (.slice ka kl kc) := by rw [hW1]; exact Box5.new w _ _ _ _ _ _
  have hne : w.heap.size ≠ R := by omega
  have hC := put_any R l (b8 3) W1 (hW.below hbw) (by omega)
  rw [b8_nat (by omega) (by omega)] at hC
  have HC := Lib.hid hC
  have HN0 : Hid (Near R w W1) := Near.of_below hbw
  have HX := Lib.hid hx1
  clear hW hbw hx1 hC
  go_enter Tryz.func58, Tryz.ntmps58
  go_wp2_with fail
  rw [← hW1]
  clear hW1
  refine HC.out.mono ?_
  rintro e w1 ⟨rfl, hw1, hn1⟩
  have i0 := hn1.cell HX.out.c0 hne
  have i1 := hn1.cell HX.out.c1 hne
  have i2 := hn1.cell HX.out.c2 hne
  have i3 := hn1.cell HX.out.c3 hne
  have i4 := hn1.cell HX.out.c4 hne
  have HN1 := Lib.hid (HN0.out.trans hn1)
  have hC2 := put_any R (l ++ [b8 3]) (b8 m) w1 hw1 (by rw [List.length_append]; simp; omega)
  rw [b8_nat (by omega) (by omega)] at hC2
  have HC2 := Lib.hid hC2
  have hwm : IntKind.u8.wrap m = m := by rw [IntKind.wrap_u8]; omega
  clear hC2
  clear hw1 hn1 HC HX
  go_wp2_with fail
  refine HC2.out.mono ?_
  rintro e w2 ⟨rfl, hw2, hn2⟩
  have HW2 := Lib.hid hw2
  have HN2 := Lib.hid (HN1.out.trans hn2)
  clear hw2 hn2 HC2
  go_wp2_with fail
  refine bodyPost_end (results_none rfl _ _ _) rfl ?_
  refine ⟨rfl, ?_, HN2.out⟩
  have e : l ++ [b8 3, b8 m] = (l ++ [b8 3]) ++ [b8 m] := by rw [List.append_assoc]; rfl
  rw [e]
  exact HW2.out

set_option maxRecDepth 20000 in
set_option maxHeartbeats 2000000 in
theorem wtree_kids (s : Int) (hs : s = 4 ∨ s = 5 ∨ s = 6) (p : List UInt8) (m : Int) (x : ByteArray) (na ka : Option Addr) (nl nc kl kc : Nat) (R : Nat) (l : List UInt8) (w : World) (hW : Wr w R l) (hl : l.length < 8980)
    (hK : ∀ W, Near R w W → Wr W R (l ++ [b8 s]) → Calls Tryz.prog 97 #[.pointer (some ⟨R, 0, none⟩), .agg #[.int .i64 s, .int .i64 m, .string x, .slice na nl nc, .slice ka kl kc]] W fun e w' => e = .returned (.tuple #[]) ∧ Wr w' R ((l ++ [b8 s]) ++ p) ∧ Near R W w') :
    Calls Tryz.prog 58 #[.pointer (some ⟨R, 0, none⟩), .agg #[.int .i64 s, .int .i64 m, .string x, .slice na nl nc, .slice ka kl kc]] w fun e w' => e = .returned (.tuple #[]) ∧ Wr w' R (l ++ b8 s :: p) ∧ Near R w w' := by
  have hRw := hW.lt
  obtain ⟨W1, hW1⟩ : ∃ W1, W1 = w.alloc (.cells #[.int .i64 s, .int .i64 m, .string x, .slice na nl nc, .slice ka kl kc] 26) := ⟨_, rfl⟩
  have hbw : Below w.heap.size w W1 := by rw [hW1]; exact (Below.refl _ _).alloc (Nat.le_refl _) _
  have hx1 : Box5 W1 w.heap.size (.int .i64 s) (.int .i64 m) (.string x) (.slice na nl nc) (.slice ka kl kc) := by rw [hW1]; exact Box5.new w _ _ _ _ _ _
  have hne : w.heap.size ≠ R := by omega
  have hC := put_any R l (b8 s) W1 (hW.below hbw) (by omega)
  rw [b8_nat (by omega) (by omega)] at hC
  have HC := Lib.hid hC
  have HN0 : Hid (Near R w W1) := Near.of_below hbw
  have HX := Lib.hid hx1
  have hs1 : ¬ s = 1 := by omega
  have hs2 : ¬ s = 2 := by omega
  have hs3 : ¬ s = 3 := by omega
  have hws : IntKind.u8.wrap s = s := by rw [IntKind.wrap_u8]; omega
  clear hW hbw hx1 hC hs
  go_enter Tryz.func58, Tryz.ntmps58
  go_wp2_with fail
  rw [← hW1]
  clear hW1
  refine HC.out.mono ?_
  rintro e w1 ⟨rfl, hw1, hn1⟩
  have i0 := hn1.cell HX.out.c0 hne
  have i1 := hn1.cell HX.out.c1 hne
  have i2 := hn1.cell HX.out.c2 hne
  have i3 := hn1.cell HX.out.c3 hne
  have i4 := hn1.cell HX.out.c4 hne
  have HN1 := Lib.hid (HN0.out.trans hn1)
  have HC2 := Lib.hid (hK w1 HN1.out hw1)
  clear hK
  clear hw1 hn1 HC HX
  go_wp2_with fail
  refine HC2.out.mono ?_
  rintro e w2 ⟨rfl, hw2, hn2⟩
  have HW2 := Lib.hid hw2
  have HN2 := Lib.hid (HN1.out.trans hn2)
  clear hw2 hn2 HC2
  go_wp2_with fail
  refine bodyPost_end (results_none rfl _ _ _) rfl ?_
  refine ⟨rfl, ?_, HN2.out⟩
  have e : l ++ b8 s :: p = (l ++ [b8 s]) ++ p := by rw [List.append_assoc]; rfl
  rw [e]
  exact HW2.out

theorem wtree_any : ∀ n, WSaid n := by
  intro n
  induction n with
  | zero => intro S t c0 c1 c2 c3 c4 d R l w h; exact h.elim
  | succ n ih =>
    intro S t c0 c1 c2 c3 c4 d R l w ht hB hg hc hW hlen
    simp only [goodT, Bool.and_eq_true, List.all_eq_true] at hg
    obtain ⟨⟨-, ha⟩, hk⟩ := hg
    have ha' : aloneF (Nd.sort t) (Nd.num t) (Nd.text t) (Nd.names t) (Nd.kids t).length = true := ha
    have hcc : cntT (n + 1) t = 1 + sumL (fun k => cntT n k) (Nd.kids t) := rfl
    have hkc : ∀ k, k ∈ Nd.kids t → goodT n k (d + 1) = true ∧ cntT n k ≤ 120 := fun k hkm => by
      have := sumL_mono (fun x => cntT n x) (Nd.kids t) _ hkm
      exact ⟨hk k hkm, by omega⟩
    have hkl : (Nd.kids t).length ≤ 119 := by
      have := sumL_geE (fun x => cntT n x) (Nd.kids t) (fun x hx => cntT_pos n x (d + 1) (hk x hx))
      omega
    obtain ⟨rfl, rfl, rfl, -, -, -, h3, h4⟩ := ht
    obtain ⟨na, nc, rfl, h3r⟩ := id h3
    obtain ⟨ka, kc, rfl, h4r⟩ := id h4
    unfold aloneF at ha'
    by_cases h1 : Nd.sort t = 1
    · have hp : packT (n + 1) t = b8 1 :: numB (Nd.num t) := by rw [packT, if_pos h1, h1]
      rw [if_pos h1] at ha'
      rw [hp] at hlen ⊢
      rw [h1]
      exact wtree_num _ _ na ka _ nc _ kc R l w hW (by simp at ha'; omega) (by simp at hlen; omega)
    rw [if_neg h1] at ha'
    by_cases h2 : Nd.sort t = 2
    · have hp : packT (n + 1) t = b8 2 :: shortB (Nd.text t) := by rw [packT, if_neg h1, if_pos h2, h2]
      rw [if_pos h2] at ha'
      rw [hp] at hlen ⊢
      rw [h2]
      exact wtree_text _ _ na ka _ nc _ kc R l w hW (by simp [textB] at ha'; omega) (by simp at hlen; omega)
    rw [if_neg h2] at ha'
    by_cases h3' : Nd.sort t = 3
    · have hp : packT (n + 1) t = [b8 3, b8 (Nd.num t)] := by rw [packT, if_neg h1, if_neg h2, if_pos h3', h3']
      rw [if_pos h3'] at ha'
      rw [hp] at hlen ⊢
      rw [h3']
      exact wtree_flag _ _ na ka _ nc _ kc R l w hW (by simp at ha'; omega) (by simp at hlen; omega)
    rw [if_neg h3'] at ha'
    have hp : packT (n + 1) t = b8 (Nd.sort t) :: b8 (Nd.kids t).length :: (partsP (packT n) (Nd.sort t) (Nd.names t) (Nd.kids t)).flatten := by rw [packT, if_neg h1, if_neg h2, if_neg h3']
    rw [hp] at hlen ⊢
    simp only [List.length_cons] at hlen
    have hstep : ∀ W, Near R w W → StrsIn S W (Nd.names t) (.slice na (Nd.names t).length nc) ∧ RowIn S W (TreeIn S W n) (Nd.kids t) (.slice ka (Nd.kids t).length kc) ∧ ∀ b, S b → b < W.heap.size ∧ b ≠ R := fun W hN => by
      have hs : Same S w W := fun b hb => hN.block b (hB b hb).1 (hB b hb).2
      exact ⟨h3.keep hs (fun _ h => h), h4.keepT hs (fun _ h => h), fun b hb => ⟨Nat.lt_of_lt_of_le (hB b hb).1 hN.size, (hB b hb).2⟩⟩
    have hl1 : (l ++ [b8 (Nd.sort t)]).length = l.length + 1 := by simp
    by_cases h5 : Nd.sort t = 5
    · rw [if_neg (by omega), if_pos h5] at ha'
      simp at ha'
      refine wtree_kids (Nd.sort t) (by omega) _ _ _ na ka _ nc _ kc R l w hW (by omega) (fun W hN hW' => ?_)
      obtain ⟨q1, q2, q3⟩ := hstep W hN
      rw [h5] at hW' hlen hl1 ⊢
      exact wkids_form n ih S (Nd.names t) (Nd.kids t) _ _ na ka nc kc (d + 1) R _ W q1 q2 q3 (by omega) (riseB_names _ ha'.2) hkc hkl hW' (by omega)
    · have hn0 : Nd.names t = [] ∧ (Nd.sort t = 4 ∨ Nd.sort t = 6) := by
        by_cases h4' : Nd.sort t = 4
        · rw [if_pos h4'] at ha'; simp at ha'; exact ⟨ha'.1.2, .inl h4'⟩
        · rw [if_neg h4', if_neg h5] at ha'
          by_cases h6 : Nd.sort t = 6
          · rw [if_pos h6] at ha'; simp at ha'; exact ⟨ha'.1.2, .inr h6⟩
          · rw [if_neg h6] at ha'; cases ha'
      refine wtree_kids (Nd.sort t) (by omega) _ _ _ na ka _ nc _ kc R l w hW (by omega) (fun W hN hW' => ?_)
      obtain ⟨q1, q2, q3⟩ := hstep W hN
      exact wkids_row n ih S (Nd.sort t) hn0.2 (Nd.names t) (Nd.kids t) _ _ na ka nc kc (d + 1) R _ W q1 q2 q3 hkc hkl hW' (by omega)

end Go.Proofs.YtcpeajdjpecmkaaGreatDoor
