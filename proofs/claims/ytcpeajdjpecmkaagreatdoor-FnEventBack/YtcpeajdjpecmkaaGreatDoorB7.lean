/-
  Several texts in one, in their order.
-/
import Derived.Test.YtcpeajdjpecmkaaGreatDoorB6
import Derived.Test.YtcpeajdjpecmkaaGreatDoorB1
import Derived.Test.YtcpeajdjpecmkaaGreatDoorText

/-
  The specification's bytes of trees.
-/
namespace Go.Proofs.YtcpeajdjpecmkaaGreatDoor
open Go.RowKit

/-- What l4Tree answers. -/
def PackSaid (n : Nat) : Prop := ∀ (S : Nat → Prop) (t : T n) (c0 c1 c2 c3 c4 : Value) (d : Int) (w : World), TreeIn S w n t c0 c1 c2 c3 c4 → (∀ b, S b → b < w.heap.size) → goodT n t d = true → cntT n t ≤ 120 →
  Calls Tryz.prog 25 #[.agg #[c0, c1, c2, c3, c4]] w fun e w' => ∃ v, e = .returned v ∧ Bb w w' v (packT n t)

theorem flat_take (l : List (List UInt8)) (k : Nat) : (l.take k).flatten.length ≤ l.flatten.length := by
  have h := congrArg List.length (congrArg List.flatten (List.take_append_drop k l))
  rw [List.flatten_append, List.length_append] at h
  omega

theorem flat_step (l : List (List UInt8)) (k : Nat) (h : k < l.length) : (l.take (k + 1)).flatten = (l.take k).flatten ++ l[k] := by
  rw [List.take_succ_eq_append_getElem h, List.flatten_append]; simp

/-- A tree's box, and the byte of its sort behind it. -/
theorem head_bb (w : World) (t : TypeId) (c : Array Value) (s : Int) (h0 : 0 ≤ s) (h1 : s < 256) : Bb (w.alloc (.cells c t)) ((w.alloc (.cells c t)).alloc (.cells #[.int .u8 s] 5)) (.slice (some ⟨w.heap.size + 1, 0, none⟩) 1 1) [b8 s] := by
  have h := Bb.lit (w.alloc (.cells c t)) (b8 s)
  rw [b8_nat h0 h1] at h
  have e : (w.alloc (.cells c t)).heap.size = w.heap.size + 1 := by simp
  rw [e] at h
  exact h

theorem cell_one (w : World) (i : Int) (h0 : 0 ≤ i) (h1 : i < 256) : ∀ j (hj : j < [b8 i].length), (w.alloc (.cells #[.int .u8 i] 5)).cell? ⟨w.heap.size, 0 + j, none⟩ = some (.int .u8 ([b8 i][j].toNat : Int)) := fun j hj => by
  match j, hj with
  | 0, _ => simp only [List.getElem_cons_zero]; rw [b8_nat h0 h1]; simp [go_sem]

set_option maxRecDepth 20000 in
set_option maxHeartbeats 2000000 in
theorem pack_num (m : Int) (x : ByteArray) (n3 n4 : Value) (na ka : Option Addr) (nl nc kl kc : Nat) (w : World) (hn3 : n3 = .slice na nl nc) (hn4 : n4 = .slice ka kl kc) (hm : -999999999 ≤ m ∧ m ≤ 999999999) :
    Calls Tryz.prog 25 #[.agg #[.int .i64 1, .int .i64 m, .string x, n3, n4]] w fun e w' => ∃ v, e = .returned v ∧ Bb w w' v (b8 1 :: numB m) := by
  subst hn3 hn4
  obtain ⟨W1, hW1⟩ : ∃ W1, W1 = w.alloc (.cells #[.int .i64 1, .int .i64 m, .string x, .slice na nl nc, .slice ka kl kc] 26) := ⟨_, rfl⟩
  obtain ⟨W2, hW2⟩ : ∃ W2, W2 = W1.alloc (.cells #[.int .u8 1] 5) := ⟨_, rfl⟩
  have hb2 : Bb W1 W2 (.slice (some ⟨w.heap.size + 1, 0, none⟩) 1 1) [b8 1] := by rw [hW2, hW1]; exact head_bb w 26 _ 1 (by omega) (by omega)
  have hbw : Below w.heap.size w W1 := by rw [hW1]; exact (Below.refl _ _).alloc (Nat.le_refl _) _
  have HB := Lib.hid (hb2.up hbw)
  have HC : Hid (Calls Tryz.prog 55 #[.int .i64 m] W2 _) := l4Num_any m W2 hm
  have hW : W2 = (w.alloc (.cells #[.int .i64 1, .int .i64 m, .string x, .slice na nl nc, .slice ka kl kc] 26)).alloc (.cells #[.int .u8 1] 5) := by rw [hW2, hW1]
  clear hb2 hbw hW2 hW1 hm
  go_enter Tryz.func25, Tryz.ntmps25
  go_wp2_with fail
  rw [← hW]
  clear hW
  refine HC.out.mono ?_
  rintro e w3 ⟨u, rfl, hu⟩
  have hnl := numB_len m
  have HB3 := Lib.hid (HB.out.keep hu.below)
  have HR := Lib.hid (hu.row (by unfold maxLen; omega))
  have HNE : Hid (numB m ≠ [] ∧ [b8 1].length + (numB m).length ≤ 10000000) := ⟨by intro h; rw [h] at hnl; simp at hnl, by simp; omega⟩
  obtain ⟨ua, uc, rfl⟩ := hu.shape
  clear hu HC HB hnl
  go_wp2_with (at_builtin; refine wpList_bb rfl (.tmp 13) (.tmp 16) rfl w _ _ rfl HB3.out _ _ (numB m) rfl HR.out HNE.out.1 HNE.out.2 ?_; intro v' w' hb' _; refine Hid.out ?_)
  refine Lib.hid ?_
  obtain ⟨va, vc, rfl⟩ := hb'.shape
  have HB' := Lib.hid hb'
  clear hb'
  go_wp2_with fail
  go_ret
  exact ⟨_, rfl, HB'.out⟩

set_option maxRecDepth 20000 in
set_option maxHeartbeats 2000000 in
theorem pack_text (m : Int) (x : ByteArray) (n3 n4 : Value) (na ka : Option Addr) (nl nc kl kc : Nat) (w : World) (hn3 : n3 = .slice na nl nc) (hn4 : n4 = .slice ka kl kc) (hx : x.size ≤ 60) :
    Calls Tryz.prog 25 #[.agg #[.int .i64 2, .int .i64 m, .string x, n3, n4]] w fun e w' => ∃ v, e = .returned v ∧ Bb w w' v (b8 2 :: shortB x) := by
  subst hn3 hn4
  obtain ⟨W1, hW1⟩ : ∃ W1, W1 = w.alloc (.cells #[.int .i64 2, .int .i64 m, .string x, .slice na nl nc, .slice ka kl kc] 26) := ⟨_, rfl⟩
  obtain ⟨W2, hW2⟩ : ∃ W2, W2 = W1.alloc (.cells #[.int .u8 2] 5) := ⟨_, rfl⟩
  have hb2 : Bb W1 W2 (.slice (some ⟨w.heap.size + 1, 0, none⟩) 1 1) [b8 2] := by rw [hW2, hW1]; exact head_bb w 26 _ 2 (by omega) (by omega)
  have hbw : Below w.heap.size w W1 := by rw [hW1]; exact (Below.refl _ _).alloc (Nat.le_refl _) _
  have HB := Lib.hid (hb2.up hbw)
  have HC : Hid (Calls Tryz.prog 24 #[.string x] W2 _) := l4Short_any x W2 (by omega)
  have hW : W2 = (w.alloc (.cells #[.int .i64 2, .int .i64 m, .string x, .slice na nl nc, .slice ka kl kc] 26)).alloc (.cells #[.int .u8 2] 5) := by rw [hW2, hW1]
  clear hb2 hbw hW2 hW1
  go_enter Tryz.func25, Tryz.ntmps25
  go_wp2_with fail
  rw [← hW]
  clear hW
  refine HC.out.mono ?_
  rintro e w3 ⟨u, rfl, hu⟩
  have hnl := shortB_len x
  have HB3 := Lib.hid (HB.out.keep hu.below)
  have HR := Lib.hid (hu.row (by unfold maxLen; omega))
  have HNE : Hid (shortB x ≠ [] ∧ [b8 2].length + (shortB x).length ≤ 10000000) := ⟨by intro h; rw [h] at hnl; simp at hnl, by simp; omega⟩
  obtain ⟨ua, uc, rfl⟩ := hu.shape
  clear hu HC HB hnl
  go_wp2_with (at_builtin; refine wpList_bb rfl (.tmp 20) (.tmp 23) rfl w _ _ rfl HB3.out _ _ (shortB x) rfl HR.out HNE.out.1 HNE.out.2 ?_; intro v' w' hb' _; refine Hid.out ?_)
  refine Lib.hid ?_
  obtain ⟨va, vc, rfl⟩ := hb'.shape
  have HB' := Lib.hid hb'
  clear hb'
  go_wp2_with fail
  go_ret
  exact ⟨_, rfl, HB'.out⟩

set_option maxRecDepth 20000 in
set_option maxHeartbeats 2000000 in
theorem pack_flag (m : Int) (x : ByteArray) (n3 n4 : Value) (na ka : Option Addr) (nl nc kl kc : Nat) (w : World) (hn3 : n3 = .slice na nl nc) (hn4 : n4 = .slice ka kl kc) (hm : 0 ≤ m ∧ m ≤ 1) :
    Calls Tryz.prog 25 #[.agg #[.int .i64 3, .int .i64 m, .string x, n3, n4]] w fun e w' => ∃ v, e = .returned v ∧ Bb w w' v [b8 3, b8 m] := by
  subst hn3 hn4
  obtain ⟨W1, hW1⟩ : ∃ W1, W1 = w.alloc (.cells #[.int .i64 3, .int .i64 m, .string x, .slice na nl nc, .slice ka kl kc] 26) := ⟨_, rfl⟩
  obtain ⟨W2, hW2⟩ : ∃ W2, W2 = W1.alloc (.cells #[.int .u8 3] 5) := ⟨_, rfl⟩
  have hb2 : Bb W1 W2 (.slice (some ⟨w.heap.size + 1, 0, none⟩) 1 1) [b8 3] := by rw [hW2, hW1]; exact head_bb w 26 _ 3 (by omega) (by omega)
  have hbw : Below w.heap.size w W1 := by rw [hW1]; exact (Below.refl _ _).alloc (Nat.le_refl _) _
  have HB := Lib.hid ((hb2.up hbw).alloc (.cells #[.int .u8 m] 5))
  have hz2 : W2.heap.size = w.heap.size + 1 + 1 := by rw [hW2, hW1]; simp
  have hc := cell_one W2 m hm.1 (by omega)
  rw [hz2] at hc
  rw [hW2, hW1] at HB hc
  have HC := Lib.hid hc
  have hm1 := hm.1
  have hm2 := hm.2
  clear hb2 hbw hW2 hW1 hm hc hz2 W2 W1
  go_enter Tryz.func25, Tryz.ntmps25
  go_wp2_with (at_builtin; refine wpList_bbA rfl (.tmp 27) (.tmp 31) rfl w _ _ rfl HB.out (w.heap.size + 1 + 1) 0 1 1 [b8 m] rfl rfl HC.out (by simp) ?_; intro v' w' hb' _; refine Hid.out ?_)
  refine Lib.hid ?_
  obtain ⟨va, vc, rfl⟩ := hb'.shape
  have HB' := Lib.hid hb'
  clear hb'
  go_wp2_with fail
  go_ret
  exact ⟨_, rfl, HB'.out⟩

end Go.Proofs.YtcpeajdjpecmkaaGreatDoor

/-
  The specification's bytes of lists, forms and maybes; of any tree.
-/
namespace Go.Proofs.YtcpeajdjpecmkaaGreatDoor
open Go.RowKit

theorem parts_len {α : Type} (f : α → List UInt8) (s : Int) (ns : List ByteArray) (ks : List α) (h : s = 5 → ns.length = ks.length) : (partsP f s ns ks).length = ks.length := by
  unfold partsP
  split
  · rename_i h5; rw [List.length_zipWith]; have := h h5; omega
  · rw [List.length_map]

theorem parts_form {α : Type} (f : α → List UInt8) (ns : List ByteArray) (ks : List α) (k : Nat) (h1 : k < ns.length) (h2 : k < ks.length) (h : k < (partsP f 5 ns ks).length) : (partsP f 5 ns ks)[k] = shortB ns[k] ++ f ks[k] := by
  unfold partsP; simp

theorem parts_row {α : Type} (f : α → List UInt8) (s : Int) (hs : s ≠ 5) (ns : List ByteArray) (ks : List α) (k : Nat) (h2 : k < ks.length) (h : k < (partsP f s ns ks).length) : (partsP f s ns ks)[k] = f ks[k] := by
  unfold partsP; simp [hs]

set_option maxRecDepth 20000 in
set_option maxHeartbeats 4000000 in
theorem pack_kids (n : Nat) (hn : PackSaid n) (S : Nat → Prop) (s : Int) (hs : s = 4 ∨ s = 6) (ns : List ByteArray) (ks : List (T n)) (m : Int) (x : ByteArray) (na ka : Option Addr) (nc kc : Nat) (d : Int) (w : World) (hnm : StrsIn S w ns (.slice na ns.length nc)) (hr : RowIn S w (TreeIn S w n) ks (.slice ka ks.length kc)) (hB : ∀ b, S b → b < w.heap.size)
    (hll : s = 5 → ns.length = ks.length) (hl8 : ∀ y, y ∈ ns → y.size ≤ 8) (hg : ∀ k, k ∈ ks → goodT n k d = true ∧ cntT n k ≤ 120) (hk : ks.length ≤ 119) (hlen : (partsP (packT n) s ns ks).flatten.length ≤ 9000) :
    Calls Tryz.prog 25 #[.agg #[.int .i64 s, .int .i64 m, .string x, .slice na ns.length nc, .slice ka ks.length kc]] w fun e w' => ∃ v, e = .returned v ∧ Bb w w' v (b8 s :: b8 ks.length :: (partsP (packT n) s ns ks).flatten) := by
  obtain ⟨hd, hhd⟩ : ∃ hd, hd = [b8 s] ++ [b8 (ks.length : Int)] := ⟨_, rfl⟩
  obtain ⟨PP, hPP⟩ : ∃ PP, PP = partsP (packT n) s ns ks := ⟨_, rfl⟩
  obtain ⟨W1, hW1⟩ : ∃ W1, W1 = w.alloc (.cells #[.int .i64 s, .int .i64 m, .string x, .slice na ns.length nc, .slice ka ks.length kc] 26) := ⟨_, rfl⟩
  have hbw : Below w.heap.size w W1 := by rw [hW1]; exact (Below.refl _ _).alloc (Nat.le_refl _) _
  have hz1 : W1.heap.size = w.heap.size + 1 := by rw [hW1]; simp
  have hx1 : Box5 W1 w.heap.size (.int .i64 s) (.int .i64 m) (.string x) (.slice na ns.length nc) (.slice ka ks.length kc) := by rw [hW1]; exact Box5.new w _ _ _ _ _ _
  have HBx : Hid (∀ W, Below W1.heap.size W1 W → W.cell? ⟨w.heap.size, 0, none⟩ = some (.int .i64 s) ∧ W.cell? ⟨w.heap.size, 3, none⟩ = some (.slice na ns.length nc) ∧ W.cell? ⟨w.heap.size, 4, none⟩ = some (.slice ka ks.length kc)) := fun W hW => ⟨(hx1.keep hW).c0, (hx1.keep hW).c3, (hx1.keep hW).c4⟩
  have HNm : Hid (∀ k (h : k < ns.length), ∃ b off, na = some ⟨b, off, none⟩ ∧ ∀ W, Below W1.heap.size W1 W → W.cell? ⟨b, off + k, none⟩ = some (.string ns[k])) := fun k h => by
    obtain ⟨ao, cap, hv, -, -, hc⟩ := hnm
    cases hv
    obtain ⟨b, off, rfl, hb, hc⟩ := hc (by intro e; rw [e] at h; simp at h)
    exact ⟨b, off, rfl, fun W hW => ((below_step hbw hbw.size hW).cell (p := ⟨b, off + k, none⟩) (hB b hb)).trans (hc k h)⟩
  have HKd : Hid (∀ k (h : k < ks.length), ∃ b off y0 y1 y2 ya yl yc ta tl tc, ka = some ⟨b, off, none⟩ ∧ ∀ W, Below W1.heap.size W1 W → (W.cell? ⟨b, off + k * 5, none⟩ = some (.int .i64 y0) ∧ W.cell? ⟨b, off + k * 5 + 1, none⟩ = some (.int .i64 y1) ∧ W.cell? ⟨b, off + k * 5 + 2, none⟩ = some (.string y2) ∧ W.cell? ⟨b, off + k * 5 + 3, none⟩ = some (.slice ya yl yc) ∧ W.cell? ⟨b, off + k * 5 + 4, none⟩ = some (.slice ta tl tc)) ∧ Calls Tryz.prog 25 #[.agg #[.int .i64 y0, .int .i64 y1, .string y2, .slice ya yl yc, .slice ta tl tc]] W fun e w' => ∃ v, e = .returned v ∧ Bb W w' v (packT n ks[k])) := fun k h => by
    obtain ⟨ao, cap, hv, -, hc⟩ := hr
    cases hv
    obtain ⟨b, off, rfl, hb, hc⟩ := hc (by intro e; rw [e] at h; simp at h)
    obtain ⟨y0, y1, y2, y3, y4, e0, e1, e2, e3, e4, hin⟩ := hc k h
    obtain ⟨x0, x1, x2, xa, xl, xc, ta, tl, tc, rfl, rfl, rfl, rfl, rfl⟩ := hin.shape
    have hgk := hg _ (List.getElem_mem h)
    refine ⟨b, off, x0, x1, x2, xa, xl, xc, ta, tl, tc, rfl, fun W hW => ?_⟩
    have hbW := below_step hbw hbw.size hW
    exact ⟨⟨(hbW.cell (p := ⟨b, off + k * 5, none⟩) (hB b hb)).trans e0, (hbW.cell (p := ⟨b, off + k * 5 + 1, none⟩) (hB b hb)).trans e1, (hbW.cell (p := ⟨b, off + k * 5 + 2, none⟩) (hB b hb)).trans e2, (hbW.cell (p := ⟨b, off + k * 5 + 3, none⟩) (hB b hb)).trans e3, (hbW.cell (p := ⟨b, off + k * 5 + 4, none⟩) (hB b hb)).trans e4⟩,
      hn S ks[k] _ _ _ _ _ d W (hin.keep (same_below hbW hB) (fun _ h => h)) (fun b hb => Nat.lt_of_lt_of_le (hB b hb) hbW.size) hgk.1 hgk.2⟩
  have HStep : Hid (∀ k (h : k < ks.length) (l : List UInt8), l = hd ++ (PP.take k).flatten → (s ≠ 5 → l ++ packT n ks[k] = hd ++ (PP.take (k + 1)).flatten) ∧ (s = 5 → ∃ h' : k < ns.length, ns[k].size ≤ 8 ∧ (l ++ shortB ns[k]) ++ packT n ks[k] = hd ++ (PP.take (k + 1)).flatten)) := fun k h l hl => by
    have hpl : k < PP.length := by rw [hPP, parts_len _ _ _ _ hll]; exact h
    refine ⟨fun h5 => ?_, fun h5 => ?_⟩
    · rw [flat_step PP k hpl, hl, List.append_assoc]
      congr 2
      subst hPP
      exact (parts_row _ _ h5 _ _ _ h hpl).symm
    · have h' : k < ns.length := by rw [hll h5]; exact h
      refine ⟨h', hl8 _ (List.getElem_mem h'), ?_⟩
      rw [flat_step PP k hpl, hl, List.append_assoc, List.append_assoc]
      congr 2
      subst hPP
      subst h5
      exact (parts_form _ _ _ _ h' h hpl).symm
  have HLen : Hid (∀ k (l : List UInt8), l = hd ++ (PP.take k).flatten → l.length ≤ 9002) := fun k l hl => by
    have h1 := flat_take PP k
    rw [← hPP] at hlen
    have h2 : hd.length = 2 := by rw [hhd]; rfl
    rw [hl, List.length_append]
    omega
  have HPk : Hid (∀ k (h : k < ks.length), 2 ≤ (packT n ks[k]).length ∧ (packT n ks[k]).length ≤ 9000) := fun k h => by
    have hgk := hg _ (List.getElem_mem h)
    have := packT_len n ks[k] d hgk.1
    omega
  have HF : Hid (∀ l : List UInt8, l = hd ++ (PP.take ks.length).flatten → l = b8 s :: b8 ks.length :: (partsP (packT n) s ns ks).flatten) := fun l hl => by
    rw [hl, ← hPP, List.take_of_length_le (by rw [hPP, parts_len _ _ _ _ hll]; exact Nat.le_refl _), hhd]; rfl
  have HBW := Lib.hid hbw
  obtain ⟨W2, hW2⟩ : ∃ W2, W2 = W1.alloc (.cells #[.int .u8 s] 5) := ⟨_, rfl⟩
  have hb2 : Bb W1 W2 (.slice (some ⟨w.heap.size + 1, 0, none⟩) 1 1) [b8 s] := by rw [hW2, hW1]; exact head_bb w 26 _ s (by omega) (by omega)
  have HB3 := Lib.hid (hb2.alloc (.cells #[.int .u8 (ks.length : Int)] 5))
  have hz2 : W2.heap.size = w.heap.size + 1 + 1 := by rw [hW2]; simp [hz1]
  have hc := cell_one W2 ks.length (by omega) (by omega)
  rw [hz2] at hc
  have HC3 := Lib.hid hc
  obtain ⟨kl, hkl⟩ : ∃ kl, ks.length = kl := ⟨_, rfl⟩
  obtain ⟨nl, hnl⟩ : ∃ nl, ns.length = nl := ⟨_, rfl⟩
  have HKl : Hid (ks.length = kl ∧ ns.length = nl) := ⟨hkl, hnl⟩
  have hkb : kl ≤ 119 := by omega
  have hs1 : ¬ s = 1 := by omega
  have hs2 : ¬ s = 2 := by omega
  have hs3 : ¬ s = 3 := by omega
  have h5 : ¬ s = 5 := by omega
  have hsl : 4 ≤ s ∧ s ≤ 6 := by omega
  have hsl1 := hsl.1
  have hsl2 := hsl.2
  have HHd := Lib.hid hhd
  rw [hkl] at HB3 HC3 HHd
  rw [hkl, hnl] at HBx
  rw [hkl, hnl]
  have hWW : W2.alloc (.cells #[.int .u8 (kl : Int)] 5) = ((w.alloc (.cells #[.int .i64 s, .int .i64 m, .string x, .slice na nl nc, .slice ka kl kc] 26)).alloc (.cells #[.int .u8 s] 5)).alloc (.cells #[.int .u8 (kl : Int)] 5) := by rw [hW2, hW1, hkl, hnl]
  rw [hWW] at HB3 HC3
  clear hs hnm hr hB hll hl8 hg hk hlen hPP hhd hbw hx1 hb2 hz2 hc hkl hnl hsl hWW hW2 hW1 hz1
  go_enter Tryz.func25, Tryz.ntmps25
  go_wp2_with (at_builtin; refine wpList_bbA rfl (.tmp 33) (.tmp 38) rfl W1 _ _ rfl HB3.out (w.heap.size + 1 + 1) 0 1 1 [b8 (kl : Int)] rfl rfl HC3.out (by simp) ?_; intro v' w' hb' _; refine Hid.out ?_)
  refine Lib.hid ?_
  obtain ⟨va, vc, rfl⟩ := hb'.shape
  rw [← HHd.out] at hb'
  have hbw' := hb'.below
  have HB' := Lib.hid hb'
  rw [← HHd.out]
  clear hb' HB3 HC3
  obtain ⟨i0, i3, i4⟩ := HBx.out w' hbw'
  clear hbw'
  go_wp2_with fail
  go_loopw [3, 4] (fun ov iv wr => ∃ (k : Nat) (l : List UInt8) (va : Option Addr) (vc : Nat), k ≤ kl ∧ iv = .int .i64 k ∧ ov = .slice va l.length vc ∧ Bb W1 wr (.slice va l.length vc) l ∧ l = hd ++ (PP.take k).flatten) (fun _ iv _ => kl - (intOf iv).toNat)
  case atStart => exact ⟨0, hd, va, vc, Nat.zero_le _, rfl, rfl, HB'.out, by simp⟩
  case round =>
    obtain ⟨k, l, va, vc, hk, rfl, rfl, hb, hl⟩ := hrel
    have hbel := hb.below
    have hll := HLen.out k l hl
    have HBk := Lib.hid hb
    obtain ⟨i0, i3, i4⟩ := HBx.out wr hbel
    have hzr := hbel.size
    by_cases hlt : k < kl
    case neg =>
      have hk' : k = kl := by omega
      have HE : Hid (l = _) := HF.out l (by rw [hl, hk', HKl.out.1])
      clear hl hb hbel
      have hkn : ¬ (k : Int) < (kl : Int) := by omega
      go_wp2_with fail
      go_ret
      refine ⟨_, rfl, ?_⟩
      have hE := HE.out
      rw [HKl.out.1] at hE
      rw [← hE]
      exact HBk.out.up HBW.out
    case pos =>
      have hkp : (k : Int) < (kl : Int) := by omega
      have hkk : k < ks.length := by have := HKl.out.1; omega
      obtain ⟨kb, ko, y0, y1, y2, ya, yl, yc, ta, tl, tc, rfl, hkW⟩ := HKd.out k hkk
      have hpk := HPk.out k hkk
      have HSt := Lib.hid (HStep.out k hkk l hl)
      generalize ks[k] = kid at *
      have h5' : (s == 5) = false := by simpa using h5
      have HS1 := Lib.hid (HSt.out.1 h5)
      obtain ⟨⟨f0, f1, f2, f3, f4⟩, hC⟩ := hkW wr hbel
      have HC := Lib.hid hC
      clear hC hkW hl hb hbel
      go_wp2_with fail
      refine HC.out.mono ?_
      rintro e w1 ⟨u, rfl, hu⟩
      have HB1 := Lib.hid (HBk.out.keep hu.below)
      have HR := Lib.hid (hu.row (by unfold maxLen; omega))
      have HNE : Hid (packT n kid ≠ [] ∧ l.length + (packT n kid).length ≤ 10000000) := ⟨by intro h; rw [h] at hpk; simp at hpk, by omega⟩
      obtain ⟨ua, uc, rfl⟩ := hu.shape
      clear hu HC f0 f1 f2 f3 f4 i0 i3 i4 hpk
      go_wp2_with (at_builtin; refine wpList_bb rfl (.tmp 58) (.tmp 64) rfl W1 _ _ rfl HB1.out _ _ (packT n kid) rfl HR.out HNE.out.1 HNE.out.2 ?_; intro v' w' hb' _; refine Hid.out ?_)
      refine Lib.hid ?_
      obtain ⟨va', vc', rfl⟩ := hb'.shape
      rw [HS1.out] at hb'
      rw [HS1.out]
      have HB2 := Lib.hid hb'
      obtain ⟨q, hq⟩ : ∃ q, q = hd ++ (PP.take (k + 1)).flatten := ⟨_, rfl⟩
      rw [← hq] at HB2
      rw [← hq]
      have HQ := Lib.hid hq
      clear hb' hq HB1 HR HNE
      go_wp2_with fail
      go_roundw
      case rel => exact ⟨k + 1, q, va', vc', by omega, by go_num, rfl, HB2.out, HQ.out⟩
      case measure => simp [intOf]; omega

set_option maxRecDepth 20000 in
set_option maxHeartbeats 4000000 in
theorem pack_form (n : Nat) (hn : PackSaid n) (S : Nat → Prop) (ns : List ByteArray) (ks : List (T n)) (m : Int) (x : ByteArray) (na ka : Option Addr) (nc kc : Nat) (d : Int) (w : World) (hnm : StrsIn S w ns (.slice na ns.length nc)) (hr : RowIn S w (TreeIn S w n) ks (.slice ka ks.length kc)) (hB : ∀ b, S b → b < w.heap.size)
    (hll0 : ns.length = ks.length) (hl8 : ∀ y, y ∈ ns → y.size ≤ 8) (hg : ∀ k, k ∈ ks → goodT n k d = true ∧ cntT n k ≤ 120) (hk : ks.length ≤ 119) (hlen : (partsP (packT n) 5 ns ks).flatten.length ≤ 9000) :
    Calls Tryz.prog 25 #[.agg #[.int .i64 5, .int .i64 m, .string x, .slice na ns.length nc, .slice ka ks.length kc]] w fun e w' => ∃ v, e = .returned v ∧ Bb w w' v (b8 5 :: b8 ks.length :: (partsP (packT n) 5 ns ks).flatten) := by
  have hll : (5 : Int) = 5 → ns.length = ks.length := fun _ => hll0
  obtain ⟨hd, hhd⟩ : ∃ hd, hd = [b8 5] ++ [b8 (ks.length : Int)] := ⟨_, rfl⟩
  obtain ⟨PP, hPP⟩ : ∃ PP, PP = partsP (packT n) 5 ns ks := ⟨_, rfl⟩
  obtain ⟨W1, hW1⟩ : ∃ W1, W1 = w.alloc (.cells #[.int .i64 5, .int .i64 m, .string x, .slice na ns.length nc, .slice ka ks.length kc] 26) := ⟨_, rfl⟩
  have hbw : Below w.heap.size w W1 := by rw [hW1]; exact (Below.refl _ _).alloc (Nat.le_refl _) _
  have hz1 : W1.heap.size = w.heap.size + 1 := by rw [hW1]; simp
  have hx1 : Box5 W1 w.heap.size (.int .i64 5) (.int .i64 m) (.string x) (.slice na ns.length nc) (.slice ka ks.length kc) := by rw [hW1]; exact Box5.new w _ _ _ _ _ _
  have HBx : Hid (∀ W, Below W1.heap.size W1 W → W.cell? ⟨w.heap.size, 0, none⟩ = some (.int .i64 5) ∧ W.cell? ⟨w.heap.size, 3, none⟩ = some (.slice na ns.length nc) ∧ W.cell? ⟨w.heap.size, 4, none⟩ = some (.slice ka ks.length kc)) := fun W hW => ⟨(hx1.keep hW).c0, (hx1.keep hW).c3, (hx1.keep hW).c4⟩
  have HNm : Hid (∀ k (h : k < ns.length), ∃ b off, na = some ⟨b, off, none⟩ ∧ ∀ W, Below W1.heap.size W1 W → W.cell? ⟨b, off + k, none⟩ = some (.string ns[k])) := fun k h => by
    obtain ⟨ao, cap, hv, -, -, hc⟩ := hnm
    cases hv
    obtain ⟨b, off, rfl, hb, hc⟩ := hc (by intro e; rw [e] at h; simp at h)
    exact ⟨b, off, rfl, fun W hW => ((below_step hbw hbw.size hW).cell (p := ⟨b, off + k, none⟩) (hB b hb)).trans (hc k h)⟩
  have HKd : Hid (∀ k (h : k < ks.length), ∃ b off y0 y1 y2 ya yl yc ta tl tc, ka = some ⟨b, off, none⟩ ∧ ∀ W, Below W1.heap.size W1 W → (W.cell? ⟨b, off + k * 5, none⟩ = some (.int .i64 y0) ∧ W.cell? ⟨b, off + k * 5 + 1, none⟩ = some (.int .i64 y1) ∧ W.cell? ⟨b, off + k * 5 + 2, none⟩ = some (.string y2) ∧ W.cell? ⟨b, off + k * 5 + 3, none⟩ = some (.slice ya yl yc) ∧ W.cell? ⟨b, off + k * 5 + 4, none⟩ = some (.slice ta tl tc)) ∧ Calls Tryz.prog 25 #[.agg #[.int .i64 y0, .int .i64 y1, .string y2, .slice ya yl yc, .slice ta tl tc]] W fun e w' => ∃ v, e = .returned v ∧ Bb W w' v (packT n ks[k])) := fun k h => by
    obtain ⟨ao, cap, hv, -, hc⟩ := hr
    cases hv
    obtain ⟨b, off, rfl, hb, hc⟩ := hc (by intro e; rw [e] at h; simp at h)
    obtain ⟨y0, y1, y2, y3, y4, e0, e1, e2, e3, e4, hin⟩ := hc k h
    obtain ⟨x0, x1, x2, xa, xl, xc, ta, tl, tc, rfl, rfl, rfl, rfl, rfl⟩ := hin.shape
    have hgk := hg _ (List.getElem_mem h)
    refine ⟨b, off, x0, x1, x2, xa, xl, xc, ta, tl, tc, rfl, fun W hW => ?_⟩
    have hbW := below_step hbw hbw.size hW
    exact ⟨⟨(hbW.cell (p := ⟨b, off + k * 5, none⟩) (hB b hb)).trans e0, (hbW.cell (p := ⟨b, off + k * 5 + 1, none⟩) (hB b hb)).trans e1, (hbW.cell (p := ⟨b, off + k * 5 + 2, none⟩) (hB b hb)).trans e2, (hbW.cell (p := ⟨b, off + k * 5 + 3, none⟩) (hB b hb)).trans e3, (hbW.cell (p := ⟨b, off + k * 5 + 4, none⟩) (hB b hb)).trans e4⟩,
      hn S ks[k] _ _ _ _ _ d W (hin.keep (same_below hbW hB) (fun _ h => h)) (fun b hb => Nat.lt_of_lt_of_le (hB b hb) hbW.size) hgk.1 hgk.2⟩
  have HStep : Hid (∀ k (h : k < ks.length) (l : List UInt8), l = hd ++ (PP.take k).flatten → ((5 : Int) ≠ 5 → l ++ packT n ks[k] = hd ++ (PP.take (k + 1)).flatten) ∧ ((5 : Int) = 5 → ∃ h' : k < ns.length, ns[k].size ≤ 8 ∧ (l ++ shortB ns[k]) ++ packT n ks[k] = hd ++ (PP.take (k + 1)).flatten)) := fun k h l hl => by
    have hpl : k < PP.length := by rw [hPP, parts_len _ _ _ _ hll]; exact h
    refine ⟨fun h5 => ?_, fun h5 => ?_⟩
    · rw [flat_step PP k hpl, hl, List.append_assoc]
      congr 2
      subst hPP
      exact (parts_row _ _ h5 _ _ _ h hpl).symm
    · have h' : k < ns.length := by rw [hll h5]; exact h
      refine ⟨h', hl8 _ (List.getElem_mem h'), ?_⟩
      rw [flat_step PP k hpl, hl, List.append_assoc, List.append_assoc]
      congr 2
      subst hPP
      exact (parts_form _ _ _ _ h' h hpl).symm
  have HLen : Hid (∀ k (l : List UInt8), l = hd ++ (PP.take k).flatten → l.length ≤ 9002) := fun k l hl => by
    have h1 := flat_take PP k
    rw [← hPP] at hlen
    have h2 : hd.length = 2 := by rw [hhd]; rfl
    rw [hl, List.length_append]
    omega
  have HPk : Hid (∀ k (h : k < ks.length), 2 ≤ (packT n ks[k]).length ∧ (packT n ks[k]).length ≤ 9000) := fun k h => by
    have hgk := hg _ (List.getElem_mem h)
    have := packT_len n ks[k] d hgk.1
    omega
  have HF : Hid (∀ l : List UInt8, l = hd ++ (PP.take ks.length).flatten → l = b8 5 :: b8 ks.length :: (partsP (packT n) 5 ns ks).flatten) := fun l hl => by
    rw [hl, ← hPP, List.take_of_length_le (by rw [hPP, parts_len _ _ _ _ hll]; exact Nat.le_refl _), hhd]; rfl
  have HBW := Lib.hid hbw
  obtain ⟨W2, hW2⟩ : ∃ W2, W2 = W1.alloc (.cells #[.int .u8 5] 5) := ⟨_, rfl⟩
  have hb2 : Bb W1 W2 (.slice (some ⟨w.heap.size + 1, 0, none⟩) 1 1) [b8 5] := by rw [hW2, hW1]; exact head_bb w 26 _ 5 (by omega) (by omega)
  have HB3 := Lib.hid (hb2.alloc (.cells #[.int .u8 (ks.length : Int)] 5))
  have hz2 : W2.heap.size = w.heap.size + 1 + 1 := by rw [hW2]; simp [hz1]
  have hc := cell_one W2 ks.length (by omega) (by omega)
  rw [hz2] at hc
  have HC3 := Lib.hid hc
  obtain ⟨kl, hkl⟩ : ∃ kl, ks.length = kl := ⟨_, rfl⟩
  obtain ⟨nl, hnl⟩ : ∃ nl, ns.length = nl := ⟨_, rfl⟩
  have HKl : Hid (ks.length = kl ∧ ns.length = nl) := ⟨hkl, hnl⟩
  have hkb : kl ≤ 119 := by omega
  have HHd := Lib.hid hhd
  rw [hkl] at HB3 HC3 HHd
  rw [hkl, hnl] at HBx
  rw [hkl, hnl]
  have hWW : W2.alloc (.cells #[.int .u8 (kl : Int)] 5) = ((w.alloc (.cells #[.int .i64 5, .int .i64 m, .string x, .slice na nl nc, .slice ka kl kc] 26)).alloc (.cells #[.int .u8 5] 5)).alloc (.cells #[.int .u8 (kl : Int)] 5) := by rw [hW2, hW1, hkl, hnl]
  rw [hWW] at HB3 HC3
  clear hnm hr hB hll hll0 hl8 hg hk hlen hPP hhd hbw hx1 hb2 hz2 hc hkl hnl hWW hW2 hW1 hz1
  go_enter Tryz.func25, Tryz.ntmps25
  go_wp2_with (at_builtin; refine wpList_bbA rfl (.tmp 33) (.tmp 38) rfl W1 _ _ rfl HB3.out (w.heap.size + 1 + 1) 0 1 1 [b8 (kl : Int)] rfl rfl HC3.out (by simp) ?_; intro v' w' hb' _; refine Hid.out ?_)
  refine Lib.hid ?_
  obtain ⟨va, vc, rfl⟩ := hb'.shape
  rw [← HHd.out] at hb'
  have hbw' := hb'.below
  have HB' := Lib.hid hb'
  rw [← HHd.out]
  clear hb' HB3 HC3
  obtain ⟨i0, i3, i4⟩ := HBx.out w' hbw'
  clear hbw'
  go_wp2_with fail
  go_loopw [3, 4] (fun ov iv wr => ∃ (k : Nat) (l : List UInt8) (va : Option Addr) (vc : Nat), k ≤ kl ∧ iv = .int .i64 k ∧ ov = .slice va l.length vc ∧ Bb W1 wr (.slice va l.length vc) l ∧ l = hd ++ (PP.take k).flatten) (fun _ iv _ => kl - (intOf iv).toNat)
  case atStart => exact ⟨0, hd, va, vc, Nat.zero_le _, rfl, rfl, HB'.out, by simp⟩
  case round =>
    obtain ⟨k, l, va, vc, hk, rfl, rfl, hb, hl⟩ := hrel
    have hbel := hb.below
    have hll := HLen.out k l hl
    have HBk := Lib.hid hb
    obtain ⟨i0, i3, i4⟩ := HBx.out wr hbel
    have hzr := hbel.size
    by_cases hlt : k < kl
    case neg =>
      have hk' : k = kl := by omega
      have HE : Hid (l = _) := HF.out l (by rw [hl, hk', HKl.out.1])
      clear hl hb hbel
      have hkn : ¬ (k : Int) < (kl : Int) := by omega
      go_wp2_with fail
      go_ret
      refine ⟨_, rfl, ?_⟩
      have hE := HE.out
      rw [HKl.out.1] at hE
      rw [← hE]
      exact HBk.out.up HBW.out
    case pos =>
      have hkp : (k : Int) < (kl : Int) := by omega
      have hkk : k < ks.length := by have := HKl.out.1; omega
      obtain ⟨kb, ko, y0, y1, y2, ya, yl, yc, ta, tl, tc, rfl, hkW⟩ := HKd.out k hkk
      have hpk := HPk.out k hkk
      have HSt := Lib.hid (HStep.out k hkk l hl)
      generalize ks[k] = kid at *
      obtain ⟨hkn, hn8, hS1⟩ := HSt.out.2 trivial
      have HS1 := Lib.hid hS1
      obtain ⟨nb, no, rfl, hnW⟩ := HNm.out k hkn
      have q0 := hnW wr hbel
      generalize ns[k] = nm at *
      have hknl : (k : Int) < (nl : Int) := by have := HKl.out.2; omega
      have HCs : Hid (Calls Tryz.prog 24 #[.string nm] wr _) := l4Short_any nm wr (by omega)
      have hsl := shortB_len nm
      have HkW := Lib.hid hkW
      clear hkW hl hb hbel hS1 hnW HNm HKd HStep HSt HPk
      go_wp2_with fail
      refine HCs.out.mono ?_
      rintro e w1 ⟨u, rfl, hu⟩
      have HB1 := Lib.hid (HBk.out.keep hu.below)
      have HR := Lib.hid (hu.row (by unfold maxLen; omega))
      have HNE : Hid (shortB nm ≠ [] ∧ l.length + (shortB nm).length ≤ 10000000) := ⟨by intro h; rw [h] at hsl; simp at hsl, by omega⟩
      obtain ⟨ua, uc, rfl⟩ := hu.shape
      clear hu HCs q0 i0 i3 i4
      go_wp2_with (at_builtin; refine wpList_bb rfl (.tmp 50) (.tmp 56) rfl W1 _ _ rfl HB1.out _ _ (shortB nm) rfl HR.out HNE.out.1 HNE.out.2 ?_; intro v' w' hb' _; refine Hid.out ?_)
      refine Lib.hid ?_
      obtain ⟨va', vc', rfl⟩ := hb'.shape
      have hbel' := hb'.below
      have HB2 := Lib.hid hb'
      obtain ⟨q, hq⟩ : ∃ q, q = l ++ shortB nm := ⟨_, rfl⟩
      have hql : q.length ≤ 9100 := by rw [hq, List.length_append]; omega
      rw [← hq] at HB2 HS1
      rw [← hq]
      clear hb' hq HB1 HR HNE hsl
      obtain ⟨⟨f0, f1, f2, f3, f4⟩, hC⟩ := HkW.out w' hbel'
      obtain ⟨i0, i3, i4⟩ := HBx.out w' hbel'
      have HC := Lib.hid hC
      clear hC hbel' HkW
      go_wp2_with fail
      refine HC.out.mono ?_
      rintro e w2 ⟨u, rfl, hu⟩
      have HB3 := Lib.hid (HB2.out.keep hu.below)
      have HR := Lib.hid (hu.row (by unfold maxLen; omega))
      have HNE : Hid (packT n kid ≠ [] ∧ q.length + (packT n kid).length ≤ 10000000) := ⟨by intro h; rw [h] at hpk; simp at hpk, by omega⟩
      obtain ⟨ua2, uc2, rfl⟩ := hu.shape
      clear hu HC f0 f1 f2 f3 f4 i0 i3 i4 hpk HB2
      go_wp2_with (at_builtin; refine wpList_bb rfl (.tmp 58) (.tmp 64) rfl W1 _ _ rfl HB3.out _ _ (packT n kid) rfl HR.out HNE.out.1 HNE.out.2 ?_; intro v' w3 hb' _; refine Hid.out ?_)
      refine Lib.hid ?_
      obtain ⟨va2, vc2, rfl⟩ := hb'.shape
      rw [HS1.out] at hb'
      rw [HS1.out]
      have HB4 := Lib.hid hb'
      obtain ⟨q2, hq2⟩ : ∃ q, q = hd ++ (PP.take (k + 1)).flatten := ⟨_, rfl⟩
      rw [← hq2] at HB4
      rw [← hq2]
      have HQ := Lib.hid hq2
      clear hb' hq2 HB3 HR HNE
      go_wp2_with fail
      go_roundw
      case rel => exact ⟨k + 1, q2, va2, vc2, by omega, by go_num, rfl, HB4.out, HQ.out⟩
      case measure => simp [intOf]; omega

theorem sumL_geE {α : Type} (f : α → Nat) : ∀ (l : List α), (∀ x, x ∈ l → 1 ≤ f x) → l.length ≤ sumL f l := by
  intro l
  induction l with
  | nil => intro _; simp [sumL]
  | cons a l ih =>
    intro h
    have h0 := h a (List.mem_cons_self ..)
    have h1 := ih (fun x hx => h x (List.mem_cons_of_mem _ hx))
    simp only [List.length_cons, sumL]
    omega

theorem pack_any : ∀ n, PackSaid n := by
  intro n
  induction n with
  | zero => intro S t c0 c1 c2 c3 c4 d w h; exact h.elim
  | succ n ih =>
    intro S t c0 c1 c2 c3 c4 d w ht hB hg hc
    have hbnd := packT_len (n + 1) t d hg
    simp only [goodT, Bool.and_eq_true, List.all_eq_true] at hg
    obtain ⟨⟨-, ha⟩, hk⟩ := hg
    have ha' : aloneF (Nd.sort t) (Nd.num t) (Nd.text t) (Nd.names t) (Nd.kids t).length = true := ha
    have hcc : cntT (n + 1) t = 1 + sumL (fun k => cntT n k) (Nd.kids t) := rfl
    have hkc : ∀ k, k ∈ Nd.kids t → goodT n k (d + 1) = true ∧ cntT n k ≤ 120 := fun k hkm => by
      have := sumL_mono (fun x => cntT n x) (Nd.kids t) _ hkm
      exact ⟨hk k hkm, by omega⟩
    have hkl : (Nd.kids t).length ≤ 119 := by
      have := sumL_geE (fun x => cntT n x) (Nd.kids t) (fun x hx => cntT_pos n x (d + 1) (hk x hx))
      omega
    obtain ⟨rfl, rfl, rfl, -, -, -, h3, h4⟩ := ht
    obtain ⟨na, nc, rfl, h3r⟩ := id h3
    obtain ⟨ka, kc, rfl, h4r⟩ := id h4
    unfold aloneF at ha'
    by_cases h1 : Nd.sort t = 1
    · have hp : packT (n + 1) t = b8 1 :: numB (Nd.num t) := by rw [packT, if_pos h1, h1]
      rw [if_pos h1] at ha'
      rw [hp, h1]
      exact pack_num _ _ _ _ na ka _ nc _ kc w rfl rfl (by simp at ha'; omega)
    rw [if_neg h1] at ha'
    by_cases h2 : Nd.sort t = 2
    · have hp : packT (n + 1) t = b8 2 :: shortB (Nd.text t) := by rw [packT, if_neg h1, if_pos h2, h2]
      rw [if_pos h2] at ha'
      rw [hp, h2]
      exact pack_text _ _ _ _ na ka _ nc _ kc w rfl rfl (by simp [textB] at ha'; omega)
    rw [if_neg h2] at ha'
    by_cases h3' : Nd.sort t = 3
    · have hp : packT (n + 1) t = [b8 3, b8 (Nd.num t)] := by rw [packT, if_neg h1, if_neg h2, if_pos h3', h3']
      rw [if_pos h3'] at ha'
      rw [hp, h3']
      exact pack_flag _ _ _ _ na ka _ nc _ kc w rfl rfl (by simp at ha'; omega)
    rw [if_neg h3'] at ha'
    have hp : packT (n + 1) t = b8 (Nd.sort t) :: b8 (Nd.kids t).length :: (partsP (packT n) (Nd.sort t) (Nd.names t) (Nd.kids t)).flatten := by rw [packT, if_neg h1, if_neg h2, if_neg h3']
    have hpl : (partsP (packT n) (Nd.sort t) (Nd.names t) (Nd.kids t)).flatten.length ≤ 9000 := by
      rw [hp] at hbnd; simp only [List.length_cons] at hbnd; omega
    rw [hp]
    by_cases h5 : Nd.sort t = 5
    · rw [if_neg (by omega), if_pos h5] at ha'
      simp at ha'
      rw [h5]
      rw [h5] at hpl
      exact pack_form n ih S (Nd.names t) (Nd.kids t) _ _ na ka nc kc (d + 1) w h3 h4 hB (by omega) (riseB_names _ ha'.2) hkc hkl hpl
    · have hn0 : Nd.names t = [] ∧ (Nd.sort t = 4 ∨ Nd.sort t = 6) := by
        by_cases h4' : Nd.sort t = 4
        · rw [if_pos h4'] at ha'; simp at ha'; exact ⟨ha'.1.2, .inl h4'⟩
        · rw [if_neg h4', if_neg h5] at ha'
          by_cases h6 : Nd.sort t = 6
          · rw [if_pos h6] at ha'; simp at ha'; exact ⟨ha'.1.2, .inr h6⟩
          · rw [if_neg h6] at ha'; cases ha'
      exact pack_kids n ih S (Nd.sort t) hn0.2 (Nd.names t) (Nd.kids t) _ _ na ka nc kc (d + 1) w h3 h4 hB (fun h => absurd h h5) (fun y hy => by rw [hn0.1] at hy; cases hy) hkc hkl hpl

end Go.Proofs.YtcpeajdjpecmkaaGreatDoor
