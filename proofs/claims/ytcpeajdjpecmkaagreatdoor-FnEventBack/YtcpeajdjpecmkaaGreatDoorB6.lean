/-
  Several texts in one, in their order.
-/
import Derived.Test.YtcpeajdjpecmkaaGreatDoorB1
import Derived.Test.YtcpeajdjpecmkaaGreatDoorB3
import Derived.Lib.AppendStr
import Derived.Lib.Hide
import Derived.Laws.IdiomStrings
import Derived.Laws.OwnMore

/-
  Bytes that a call has made, carried from append to append.
-/
namespace Go.Proofs.YtcpeajdjpecmkaaGreatDoor
open Go.RowKit

theorem b8_nat {i : Int} (h0 : 0 ≤ i) (h1 : i < 256) : ((b8 i).toNat : Int) = i := by
  unfold b8
  have e : i % 256 = i := by omega
  rw [e]
  have : i.toNat < 256 := by omega
  rw [UInt8.toNat_ofNat_of_lt' (by simpa using this)]
  omega

/-- In w the slice v owns a row of just the bytes l, in a block that w0 had not; what w0 had is as it was. -/
structure Bb (w0 w : World) (v : Value) (l : List UInt8) : Prop where
  own : w.ownsRow w0.heap.size 5 1 v l.length (Lib.byteCells l)
  below : Below w0.heap.size w0 w

theorem Bb.keep {w0 w w' : World} {v : Value} {l : List UInt8} (h : Bb w0 w v l) (hb : Below w.heap.size w w') : Bb w0 w' v l :=
  ⟨r1_keep h.own (fun g hg => hb.block g (r1_lt h.own g hg).2), below_step h.below h.below.size hb⟩

theorem Bb.alloc {w0 w : World} {v : Value} {l : List UInt8} (h : Bb w0 w v l) (o : Obj) : Bb w0 (w.alloc o) v l := h.keep ((Below.refl _ _).alloc (Nat.le_refl _) o)

theorem Bb.shape {w0 w : World} {v : Value} {l : List UInt8} (h : Bb w0 w v l) : ∃ a c, v = .slice a l.length c := r1_shape h.own

theorem Bb.grown {w0 w w' : World} {v v' : Value} {l l' : List UInt8} (h : Bb w0 w v l) (ho : w'.ownsRow w0.heap.size 5 1 v' l'.length (Lib.byteCells l')) (hg : w.grownBy w' v.ownBlock) : Bb w0 w' v' l' :=
  ⟨ho, h.below.grown hg h.below.size (fun k hk => (h.own.lt k hk).1)⟩

theorem Bb.up {w w0 w' : World} {v : Value} {l : List UInt8} (h : Bb w0 w' v l) (hb : Below w.heap.size w w0) : Bb w w' v l :=
  ⟨by
    obtain ⟨h1, h2⟩ := h.own
    refine ⟨h1, ?_⟩
    rcases h2 with h2 | ⟨g, cap, cur, hv, hg, r⟩
    · exact .inl h2
    · exact .inr ⟨g, cap, cur, hv, Nat.le_trans hb.size hg, r⟩, below_step hb hb.size h.below⟩

/-- As one that is read. -/
def byteR (x : UInt8) (c : Value) : Prop := c = .int .u8 (x.toNat : Int)

theorem Bb.row {w0 w : World} {v : Value} {l : List UInt8} (h : Bb w0 w v l) (hl : l.length ≤ maxLen) : Row1 (fun b => w0.heap.size ≤ b ∧ b < w.heap.size) w byteR l v :=
  row1_of_owns h.own hl (fun g hg => r1_lt h.own g hg) (fun i hi hx => by simp [byteR, Lib.byteCells])

/-- A literal of one byte. -/
theorem Bb.lit (w : World) (d : UInt8) : Bb w (w.alloc (.cells #[.int .u8 (d.toNat : Int)] 5)) (.slice (some ⟨w.heap.size, 0, none⟩) 1 1) [d] :=
  ⟨World.ownsRow_lit w #[.int .u8 (d.toNat : Int)] 1 (Nat.le_refl _) (by simp [maxLen]) rfl, (Below.refl _ _).alloc (Nat.le_refl _) _⟩

theorem Tryz.info_byteE : (Tryz.prog.info? 5).map (fun i => (i.zero, i.size, i.bytes)) = some (some (.int .u8 0), 1, 1) := by kernel_rfl

theorem byteCells_one (l : List UInt8) : ∀ u, u ∈ Lib.byteCells l → u.oneCell' = true := by
  intro u hu
  simp only [Lib.byteCells, List.mem_map] at hu
  obtain ⟨x, -, rfl⟩ := hu
  rfl

/-- '[]byte(x)'. -/
theorem bytes_of (W : World) (x : ByteArray) : ∃ cap W', (convert 9 22 (.string x)).run Tryz.prog W = .ok (.slice (some ⟨W.heap.size, 0, none⟩) x.size cap) W' ∧ Below W.heap.size W W' ∧ ∀ j (hj : j < x.data.toList.length), W'.cell? ⟨W.heap.size, 0 + j, none⟩ = some (.int .u8 (x.data.toList[j].toNat : Int)) := by
  refine ⟨_, _, run_bytes_of_string W 9 22 5 x Tryz.underlying9 Tryz.underlying22 Tryz.underlying5, ((Below.refl _ _).drew).alloc (Nat.le_refl _) _, fun j hj => ?_⟩
  have h := bytesRow_at x (grownCap W x.size 0 5) j (by simpa using hj)
  have hh : (W.drew.alloc (.cells (bytesRow x (grownCap W x.size 0 5)) 5 ((bytesRow x (grownCap W x.size 0 5)).size, (bytesRow x (grownCap W x.size 0 5)).size + 1))).heap[W.heap.size]? = some (.cells (bytesRow x (grownCap W x.size 0 5)) 5 ((bytesRow x (grownCap W x.size 0 5)).size, (bytesRow x (grownCap W x.size 0 5)).size + 1)) := heap_alloc_new W _
  simp only [World.cell?, hh, Nat.zero_add]
  simpa using h

/-- 'out = append(out, row...)', the row at an address. -/
theorem wpList_bbA {ops : Array Oper} {rest : List Oper} {o : Oper} {a : Act} {Q : Exit → Act → World → Prop} {w : World} (hgd : o.guard = none) (s x : Operand)
    (ho : o.op = .call { callee := .builtin .append, args := #[s, x], argTypes := #[22, 22] })
    (w0 : World) (v : Value) (l : List UInt8) (hs : a.eval s = v) (hb : Bb w0 w v l) (b off k cap : Nat) (l2 : List UInt8) (hx : a.eval x = .slice (some ⟨b, off, none⟩) k cap) (hk : l2.length = k) (hcell : ∀ j (hj : j < l2.length), w.cell? ⟨b, off + j, none⟩ = some (.int .u8 (l2[j].toNat : Int))) (hlen : l.length + l2.length ≤ 10000000)
    (h : ∀ v' w', Bb w0 w' v' (l ++ l2) → w.grownBy w' v.ownBlock → wpList Tryz.prog ops Q rest (a.put o.dst v') w') : wpList Tryz.prog ops Q (o :: rest) a w := by
  obtain ⟨i0, hi, hz0, hz1, hz2⟩ := info_parts Tryz.info_byteE
  subst hk
  refine wpList_append_own _ hgd s x 22 ho w0.heap.size 5 i0 (.int .u8 0) 1 1 Tryz.underlying22 hi hz0 hz1 hz2 rfl (by decide) v _ _ hs hb.own ⟨b, off, none⟩ l2.length cap (Lib.byteCells l2) hx (by simp [Lib.byteCells]) ?_ (byteCells_one l2) (by unfold maxLen; omega) (by omega) hb.below.size ?_
  · intro j y hj
    simp only [Lib.byteCells, List.getElem?_map] at hj
    cases hjl : l2[j]? with
    | none => rw [hjl] at hj; cases hj
    | some d =>
      rw [hjl] at hj
      obtain ⟨hlt, hd⟩ := List.getElem?_eq_some_iff.1 hjl
      have h1 := hcell j hlt
      rw [hd] at h1
      rw [Addr.add_lit, h1]
      simpa using hj
  · intro v' w' ho' hg _
    refine h v' w' (hb.grown ?_ hg) hg
    simpa [Lib.byteCells] using ho'

/-- 'out = append(out, row...)', the row read as bytes. -/
theorem wpList_bb {ops : Array Oper} {rest : List Oper} {o : Oper} {a : Act} {Q : Exit → Act → World → Prop} {w : World} (hgd : o.guard = none) (s x : Operand)
    (ho : o.op = .call { callee := .builtin .append, args := #[s, x], argTypes := #[22, 22] })
    (w0 : World) (v : Value) (l : List UInt8) (hs : a.eval s = v) (hb : Bb w0 w v l) (S : Nat → Prop) (u : Value) (l2 : List UInt8) (hx : a.eval x = u) (hr : Row1 S w byteR l2 u) (hne : l2 ≠ []) (hlen : l.length + l2.length ≤ 10000000)
    (h : ∀ v' w', Bb w0 w' v' (l ++ l2) → w.grownBy w' v.ownBlock → wpList Tryz.prog ops Q rest (a.put o.dst v') w') : wpList Tryz.prog ops Q (o :: rest) a w := by
  obtain ⟨i0, hi, hz0, hz1, hz2⟩ := info_parts Tryz.info_byteE
  obtain ⟨ao, cap, rfl, -, hc⟩ := hr
  obtain ⟨b, off, rfl, -, hcell⟩ := hc hne
  refine wpList_append_own _ hgd s x 22 ho w0.heap.size 5 i0 (.int .u8 0) 1 1 Tryz.underlying22 hi hz0 hz1 hz2 rfl (by decide) v _ _ hs hb.own ⟨b, off, none⟩ l2.length cap (Lib.byteCells l2) hx (by simp [Lib.byteCells]) ?_ (byteCells_one l2) (by unfold maxLen; omega) (by omega) hb.below.size ?_
  · intro j y hj
    simp only [Lib.byteCells, List.getElem?_map] at hj
    cases hjl : l2[j]? with
    | none => rw [hjl] at hj; cases hj
    | some d =>
      rw [hjl] at hj
      obtain ⟨hlt, hd⟩ := List.getElem?_eq_some_iff.1 hjl
      obtain ⟨c, h1, h2⟩ := hcell j hlt
      have e : y = c := by
        unfold byteR at h2
        rw [h2, hd]
        simpa using hj.symm
      rw [e, Addr.add_lit]
      exact h1
  · intro v' w' ho' hg _
    refine h v' w' (hb.grown ?_ hg) hg
    simpa [Lib.byteCells] using ho'

end Go.Proofs.YtcpeajdjpecmkaaGreatDoor

/-
  The specification's bytes of short texts and of numbers.
-/
namespace Go.Proofs.YtcpeajdjpecmkaaGreatDoor
open Go.RowKit

set_option maxRecDepth 20000 in
set_option maxHeartbeats 1000000 in
theorem l4Short_any (x : ByteArray) (w : World) (hx : x.size ≤ 100) : Calls Tryz.prog 24 #[.string x] w fun e w' => ∃ v, e = .returned v ∧ Bb w w' v (shortB x) := by
  obtain ⟨W1, hW1⟩ : ∃ W1, W1 = w.alloc (.cells #[.int .u8 (x.size : Int)] 5) := ⟨_, rfl⟩
  have hb1 : Bb w W1 (.slice (some ⟨w.heap.size, 0, none⟩) 1 1) [b8 x.size] := by
    have h := Bb.lit w (b8 x.size)
    rw [b8_nat (by omega) (by omega)] at h
    rw [hW1]; exact h
  obtain ⟨cap, W2, hrun, hb2, hcell⟩ := bytes_of W1 x
  have hsz : W1.heap.size = w.heap.size + 1 := by rw [hW1]; simp
  rw [hsz] at hrun hcell
  have HB := Lib.hid (hb1.keep hb2)
  have HC := Lib.hid hcell
  rw [hW1] at hrun
  clear hb1 hb2 hcell hsz
  go_enter Tryz.func24, Tryz.ntmps24
  go_wp2_with (at_builtin; refine wpList_bbA rfl (.tmp 6) (.tmp 8) rfl w _ _ rfl HB.out (w.heap.size + 1) 0 x.size cap x.data.toList rfl (by simp) HC.out (by simp; omega) ?_; intro v' w' hb' _; refine Hid.out ?_)
  refine Lib.hid ?_
  obtain ⟨va, vc, rfl⟩ := hb'.shape
  have HB' := Lib.hid hb'
  clear hb'
  go_wp2_with fail
  go_ret
  exact ⟨_, rfl, HB'.out⟩

theorem num7_step (g : Nat) (k : Nat) (h : 128 ≤ k) : num7 (g + 1) (k : Int) = b8 (128 + (k : Int) % 128) :: num7 g ((k : Int) / 128) := by
  rw [num7, if_neg (by omega), Int.add_comm]

theorem num7_last (f : Nat) (k : Nat) (h : k < 128) : num7 f (k : Int) = [b8 (k : Int)] := by
  cases f with
  | zero => rfl
  | succ f => rw [num7, if_pos (by omega)]

set_option maxRecDepth 20000 in
set_option maxHeartbeats 2000000 in
theorem l4Num_pos (k0 : Nat) (w : World) (hn : k0 ≤ 999999999) : Calls Tryz.prog 55 #[.int .i64 (k0 : Int)] w fun e w' => ∃ v, e = .returned v ∧ Bb w w' v (numB (k0 : Int)) := by
  have HNB : Hid (numB (k0 : Int) = [0] ++ num7 5 (k0 : Int)) := by show _ = _; unfold numB; rw [if_neg (by omega), if_neg (by omega)]; rfl
  have hneg : ¬ (k0 : Int) < 0 := by omega
  obtain ⟨W1, hW1⟩ : ∃ W1, W1 = w.alloc (.cells #[.int .u8 0] 5) := ⟨_, rfl⟩
  have hb1 : Bb w W1 (.slice (some ⟨w.heap.size, 0, none⟩) 1 1) [0] := by rw [hW1]; exact Bb.lit w 0
  have HB := Lib.hid hb1
  clear hb1
  go_enter Tryz.func55, Tryz.ntmps55
  go_wp2_with fail
  rw [← hW1]
  clear hW1
  go_loopw [0, 3] (fun nv ov wr => ∃ (k f : Nat) (l : List UInt8) (va : Option Addr) (vc : Nat), nv = .int .i64 (k : Int) ∧ k ≤ 999999999 ∧ k < 128 ^ (f + 1) ∧ f ≤ 5 ∧ l.length + f = 6 ∧ ov = .slice va l.length vc ∧ Bb w wr ov l ∧ numB (k0 : Int) = l ++ num7 f (k : Int)) (fun nv _ _ => (intOf nv).toNat)
  case atStart => exact ⟨k0, 5, [0], _, _, rfl, hn, by omega, by omega, rfl, rfl, HB.out, HNB.out⟩
  case round =>
    obtain ⟨k, f, l, va, vc, rfl, hk, hkf, hf5, hlf, rfl, hb, hN⟩ := hrel
    have HN := Lib.hid hN
    have HB1 := Lib.hid hb
    have hl6 : l.length ≤ 6 := by omega
    clear hN hb HB HNB
    by_cases h128 : k < 128
    case pos =>
      have hg : ¬ (k : Int) > 127 := by omega
      have HB2 := Lib.hid (HB1.out.alloc (.cells #[.int .u8 (k : Int)] 5))
      have HC2 : Hid (∀ j (hj : j < [b8 (k : Int)].length), (wr.alloc (.cells #[.int .u8 (k : Int)] 5)).cell? ⟨wr.heap.size, 0 + j, none⟩ = some (.int .u8 ([b8 (k : Int)][j].toNat : Int))) := fun j hj => by
        match j, hj with
        | 0, _ => simp only [List.getElem_cons_zero]; rw [b8_nat (by omega) (by omega)]; simp [go_sem]
      have HE : Hid (numB (k0 : Int) = l ++ [b8 (k : Int)]) := by show _ = _; rw [HN.out, num7_last f k h128]
      generalize hL : l.length = ln at *
      clear hlf hkf
      go_wp2_with (at_builtin; refine wpList_bbA rfl (.tmp 22) (.tmp 25) rfl w _ l rfl HB2.out wr.heap.size 0 1 1 [b8 (k : Int)] rfl rfl HC2.out (by simp; omega) ?_; intro v' w' hb' _; refine Hid.out ?_)
      refine Lib.hid ?_
      obtain ⟨va, vc, rfl⟩ := hb'.shape
      have HB' := Lib.hid hb'
      clear hb'
      go_wp2_with fail
      go_ret
      exact ⟨_, rfl, by rw [HE.out]; exact HB'.out⟩
    case neg =>
      have hg : (k : Int) > 127 := by omega
      have hm : 0 ≤ (k : Int) % 128 ∧ (k : Int) % 128 < 128 := by omega
      obtain ⟨g, rfl⟩ : ∃ g, f = g + 1 := by
        cases f with
        | zero => exact absurd hkf (by omega)
        | succ g => exact ⟨g, rfl⟩
      have hq : 0 ≤ (k : Int) / 128 ∧ (k : Int) / 128 ≤ 999999999 := by omega
      have HB2 := Lib.hid (HB1.out.alloc (.cells #[.int .u8 (128 + (k : Int) % 128)] 5))
      have HC2 : Hid (∀ j (hj : j < [b8 (128 + (k : Int) % 128)].length), (wr.alloc (.cells #[.int .u8 (128 + (k : Int) % 128)] 5)).cell? ⟨wr.heap.size, 0 + j, none⟩ = some (.int .u8 ([b8 (128 + (k : Int) % 128)][j].toNat : Int))) := fun j hj => by
        match j, hj with
        | 0, _ => simp only [List.getElem_cons_zero]; rw [b8_nat (by omega) (by omega)]; simp [go_sem]
      have HE : Hid (numB (k0 : Int) = (l ++ [b8 (128 + (k : Int) % 128)]) ++ num7 g ((k / 128 : Nat) : Int)) := by
        show _ = _; rw [HN.out, num7_step g k (by omega), List.append_assoc]; rfl
      have HK : Hid (k / 128 < 128 ^ (g + 1)) := by
        show _ < _
        exact Nat.div_lt_of_lt_mul (by rw [Nat.mul_comm, ← Nat.pow_succ]; exact hkf)
      have HLf := Lib.hid hlf
      obtain ⟨ln, hL⟩ : ∃ ln, l.length = ln := ⟨_, rfl⟩
      have HL := Lib.hid hL
      rw [hL] at HB1 HB2 hl6
      rw [hL]
      clear hlf hkf HN hL
      go_wp2_with (at_builtin; go_loud (refine wpList_bbA rfl (.tmp 13) (.tmp 18) rfl w _ l rfl HB2.out wr.heap.size 0 1 1 [b8 (128 + (k : Int) % 128)] rfl rfl HC2.out (by rw [HL.out]; simp; omega) ?_; intro v' w' hb' _; refine Hid.out ?_))
      refine Lib.hid ?_
      obtain ⟨va', vc', rfl⟩ := hb'.shape
      have HB' := Lib.hid hb'
      clear hb' HB1 HB2 HC2
      go_wp2_with fail
      go_roundw
      case rel =>
        refine ⟨k / 128, g, l ++ [b8 (128 + (k : Int) % 128)], va', vc', by go_num, by omega, HK.out, by omega, by rw [List.length_append]; have := HLf.out; simp; omega, rfl, HB'.out, HE.out⟩
      case measure => simp [intOf]; omega

-- MADE by es1.py
set_option maxRecDepth 20000 in
set_option maxHeartbeats 2000000 in
theorem l4Num_neg (k0 : Nat) (w : World) (hn : k0 ≤ 999999999) (h1 : 1 ≤ k0) : Calls Tryz.prog 55 #[.int .i64 (-(k0 : Int))] w fun e w' => ∃ v, e = .returned v ∧ Bb w w' v (numB (-(k0 : Int))) := by
  have HNB : Hid (numB (-(k0 : Int)) = [1] ++ num7 5 (k0 : Int)) := by show _ = _; unfold numB; rw [if_pos (by omega), if_pos (by omega), Int.neg_neg]; rfl
  obtain ⟨nn, hnn⟩ : ∃ nn : Int, -(k0 : Int) = nn := ⟨_, rfl⟩
  rw [hnn]
  rw [hnn] at HNB
  have hneg : nn < 0 := by omega
  have hnb : -999999999 ≤ nn := by omega
  have hnk : -nn = (k0 : Int) := by omega
  clear hnn
  obtain ⟨W1, hW1⟩ : ∃ W1, W1 = w.alloc (.cells #[.int .u8 1] 5) := ⟨_, rfl⟩
  have hb1 : Bb w W1 (.slice (some ⟨w.heap.size, 0, none⟩) 1 1) [1] := by rw [hW1]; exact Bb.lit w 1
  have HB := Lib.hid hb1
  clear hb1
  go_enter Tryz.func55, Tryz.ntmps55
  go_wp2_with fail
  rw [← hW1]
  clear hW1 hneg hnb hnk
  go_loopw [0, 3] (fun nv ov wr => ∃ (k f : Nat) (l : List UInt8) (va : Option Addr) (vc : Nat), nv = .int .i64 (k : Int) ∧ k ≤ 999999999 ∧ k < 128 ^ (f + 1) ∧ f ≤ 5 ∧ l.length + f = 6 ∧ ov = .slice va l.length vc ∧ Bb w wr ov l ∧ numB nn = l ++ num7 f (k : Int)) (fun nv _ _ => (intOf nv).toNat)
  case atStart => exact ⟨k0, 5, [1], _, _, rfl, hn, by omega, by omega, rfl, rfl, HB.out, HNB.out⟩
  case round =>
    obtain ⟨k, f, l, va, vc, rfl, hk, hkf, hf5, hlf, rfl, hb, hN⟩ := hrel
    have HN := Lib.hid hN
    have HB1 := Lib.hid hb
    have hl6 : l.length ≤ 6 := by omega
    clear hN hb HB HNB
    by_cases h128 : k < 128
    case pos =>
      have hg : ¬ (k : Int) > 127 := by omega
      have HB2 := Lib.hid (HB1.out.alloc (.cells #[.int .u8 (k : Int)] 5))
      have HC2 : Hid (∀ j (hj : j < [b8 (k : Int)].length), (wr.alloc (.cells #[.int .u8 (k : Int)] 5)).cell? ⟨wr.heap.size, 0 + j, none⟩ = some (.int .u8 ([b8 (k : Int)][j].toNat : Int))) := fun j hj => by
        match j, hj with
        | 0, _ => simp only [List.getElem_cons_zero]; rw [b8_nat (by omega) (by omega)]; simp [go_sem]
      have HE : Hid (numB nn = l ++ [b8 (k : Int)]) := by show _ = _; rw [HN.out, num7_last f k h128]
      generalize hL : l.length = ln at *
      clear hlf hkf
      go_wp2_with (at_builtin; refine wpList_bbA rfl (.tmp 22) (.tmp 25) rfl w _ l rfl HB2.out wr.heap.size 0 1 1 [b8 (k : Int)] rfl rfl HC2.out (by simp; omega) ?_; intro v' w' hb' _; refine Hid.out ?_)
      refine Lib.hid ?_
      obtain ⟨va, vc, rfl⟩ := hb'.shape
      have HB' := Lib.hid hb'
      clear hb'
      go_wp2_with fail
      go_ret
      exact ⟨_, rfl, by rw [HE.out]; exact HB'.out⟩
    case neg =>
      have hg : (k : Int) > 127 := by omega
      have hm : 0 ≤ (k : Int) % 128 ∧ (k : Int) % 128 < 128 := by omega
      obtain ⟨g, rfl⟩ : ∃ g, f = g + 1 := by
        cases f with
        | zero => exact absurd hkf (by omega)
        | succ g => exact ⟨g, rfl⟩
      have hq : 0 ≤ (k : Int) / 128 ∧ (k : Int) / 128 ≤ 999999999 := by omega
      have HB2 := Lib.hid (HB1.out.alloc (.cells #[.int .u8 (128 + (k : Int) % 128)] 5))
      have HC2 : Hid (∀ j (hj : j < [b8 (128 + (k : Int) % 128)].length), (wr.alloc (.cells #[.int .u8 (128 + (k : Int) % 128)] 5)).cell? ⟨wr.heap.size, 0 + j, none⟩ = some (.int .u8 ([b8 (128 + (k : Int) % 128)][j].toNat : Int))) := fun j hj => by
        match j, hj with
        | 0, _ => simp only [List.getElem_cons_zero]; rw [b8_nat (by omega) (by omega)]; simp [go_sem]
      have HE : Hid (numB nn = (l ++ [b8 (128 + (k : Int) % 128)]) ++ num7 g ((k / 128 : Nat) : Int)) := by
        show _ = _; rw [HN.out, num7_step g k (by omega), List.append_assoc]; rfl
      have HK : Hid (k / 128 < 128 ^ (g + 1)) := by
        show _ < _
        exact Nat.div_lt_of_lt_mul (by rw [Nat.mul_comm, ← Nat.pow_succ]; exact hkf)
      have HLf := Lib.hid hlf
      obtain ⟨ln, hL⟩ : ∃ ln, l.length = ln := ⟨_, rfl⟩
      have HL := Lib.hid hL
      rw [hL] at HB1 HB2 hl6
      rw [hL]
      clear hlf hkf HN hL
      go_wp2_with (at_builtin; go_loud (refine wpList_bbA rfl (.tmp 13) (.tmp 18) rfl w _ l rfl HB2.out wr.heap.size 0 1 1 [b8 (128 + (k : Int) % 128)] rfl rfl HC2.out (by rw [HL.out]; simp; omega) ?_; intro v' w' hb' _; refine Hid.out ?_))
      refine Lib.hid ?_
      obtain ⟨va', vc', rfl⟩ := hb'.shape
      have HB' := Lib.hid hb'
      clear hb' HB1 HB2 HC2
      go_wp2_with fail
      go_roundw
      case rel =>
        refine ⟨k / 128, g, l ++ [b8 (128 + (k : Int) % 128)], va', vc', by go_num, by omega, HK.out, by omega, by rw [List.length_append]; have := HLf.out; simp; omega, rfl, HB'.out, HE.out⟩
      case measure => simp [intOf]; omega

theorem l4Num_any (n : Int) (w : World) (hn : -999999999 ≤ n ∧ n ≤ 999999999) : Calls Tryz.prog 55 #[.int .i64 n] w fun e w' => ∃ v, e = .returned v ∧ Bb w w' v (numB n) := by
  by_cases h : n < 0
  · obtain ⟨k, rfl⟩ : ∃ k : Nat, n = -(k : Int) := ⟨(-n).toNat, by omega⟩
    exact l4Num_neg k w (by omega) (by omega)
  · obtain ⟨k, rfl⟩ : ∃ k : Nat, n = (k : Int) := ⟨n.toNat, by omega⟩
    exact l4Num_pos k w (by omega)

end Go.Proofs.YtcpeajdjpecmkaaGreatDoor
