/-
  Several texts in one, in their order.
-/
import Derived.Test.YtmjhcgjhlakceaaGreatDoorB1
import Derived.Test.YtmjhcgjhlakceaaGreatDoorB5
import Derived.Lib.AppendStr
import Derived.Lib.Hide
import Derived.Laws.IdiomStrings
import Derived.Laws.OwnMore
import Derived.Test.YtmjhcgjhlakceaaGreatDoorText

namespace Go.Proofs.YtmjhcgjhlakceaaGreatDoor
open Go.RowKit
theorem b8_nat {i : Int} (h0 : 0 <= i) (h1 : i < 256) : ((b8 i).toNat : Int) = i := by
 unfold b8
 have e : i % 256 = i := by omega
 rw [e]
 have : i.toNat < 256 := by omega
 rw [UInt8.toNat_ofNat_of_lt' (by simpa using this)]
 omega
structure Bb (w0 w : World) (v : Value) (l : List UInt8) : Prop where
 own : w.ownsRow w0.heap.size 5 1 v l.length (Lib.byteCells l)
 below : Below w0.heap.size w0 w
theorem Bb.keep {w0 w w' : World} {v : Value} {l : List UInt8} (h : Bb w0 w v l) (hb : Below w.heap.size w w') : Bb w0 w' v l :=
 ⟨r1_keep h.own (fun g hg => hb.block g (r1_lt h.own g hg).2), below_step h.below h.below.size hb⟩
theorem Bb.alloc {w0 w : World} {v : Value} {l : List UInt8} (h : Bb w0 w v l) (o : Obj) : Bb w0 (w.alloc o) v l := h.keep ((Below.refl _ _).alloc (Nat.le_refl _) o)
theorem Bb.shape {w0 w : World} {v : Value} {l : List UInt8} (h : Bb w0 w v l) : ∃ a c, v = .slice a l.length c := r1_shape h.own
theorem Bb.grown {w0 w w' : World} {v v' : Value} {l l' : List UInt8} (h : Bb w0 w v l) (ho : w'.ownsRow w0.heap.size 5 1 v' l'.length (Lib.byteCells l')) (hg : w.grownBy w' v.ownBlock) : Bb w0 w' v' l' :=
 ⟨ho, h.below.grown hg h.below.size (fun k hk => (h.own.lt k hk).1)⟩
theorem Bb.up {w w0 w' : World} {v : Value} {l : List UInt8} (h : Bb w0 w' v l) (hb : Below w.heap.size w w0) : Bb w w' v l :=
 ⟨by
  obtain ⟨h1, h2⟩ := h.own
  refine ⟨h1, ?_⟩
  rcases h2 with h2 | ⟨g, cap, cur, hv, hg, r⟩
  ·exact .inl h2
  ·exact .inr ⟨g, cap, cur, hv, Nat.le_trans hb.size hg, r⟩, below_step hb hb.size h.below⟩
def byteR (x : UInt8) (c : Value) : Prop := c = .int .u8 (x.toNat : Int)
theorem Bb.row {w0 w : World} {v : Value} {l : List UInt8} (h : Bb w0 w v l) (hl : l.length <= maxLen) : Row1 (fun b => w0.heap.size <= b /\ b < w.heap.size) w byteR l v :=
 row1_of_owns h.own hl (fun g hg => r1_lt h.own g hg) (fun i hi hx => by simp [byteR, Lib.byteCells])
theorem Bb.lit (w : World) (d : UInt8) : Bb w (w.alloc (.cells #[.int .u8 (d.toNat : Int)] 5)) (.slice (some ⟨w.heap.size, 0, none⟩) 1 1) [d] :=
 ⟨World.ownsRow_lit w #[.int .u8 (d.toNat : Int)] 1 (Nat.le_refl _) (by simp [maxLen]) rfl, (Below.refl _ _).alloc (Nat.le_refl _) _⟩
theorem Tryz.info_byteE : (Tryz.prog.info? 5).map (fun i => (i.zero, i.size, i.bytes)) = some (some (.int .u8 0), 1, 1) := by kernel_rfl
theorem byteCells_one (l : List UInt8) : ∀ u, u ∈ Lib.byteCells l -> u.oneCell' = true := by
 intro u hu
 simp only [Lib.byteCells, List.mem_map] at hu
 obtain ⟨x, -, rfl⟩ := hu
 rfl
theorem bytes_of (W : World) (x : ByteArray) : ∃ cap W', (convert 9 22 (.string x)).run Tryz.prog W = .ok (.slice (some ⟨W.heap.size, 0, none⟩) x.size cap) W' /\ Below W.heap.size W W' /\ ∀ j (hj : j < x.data.toList.length), W'.cell? ⟨W.heap.size, 0 + j, none⟩ = some (.int .u8 (x.data.toList[j].toNat : Int)) := by
 refine ⟨_, _, run_bytes_of_string W 9 22 5 x Tryz.underlying9 Tryz.underlying22 Tryz.underlying5, ((Below.refl _ _).drew).alloc (Nat.le_refl _) _, fun j hj => ?_⟩
 have h := bytesRow_at x (grownCap W x.size 0 5) j (by simpa using hj)
 have hh : (W.drew.alloc (.cells (bytesRow x (grownCap W x.size 0 5)) 5 ((bytesRow x (grownCap W x.size 0 5)).size, (bytesRow x (grownCap W x.size 0 5)).size + 1))).heap[W.heap.size]? = some (.cells (bytesRow x (grownCap W x.size 0 5)) 5 ((bytesRow x (grownCap W x.size 0 5)).size, (bytesRow x (grownCap W x.size 0 5)).size + 1)) := heap_alloc_new W _
 simp only [World.cell?, hh, Nat.zero_add]
 simpa using h
theorem wpList_bbA {ops : Array Oper} {rest : List Oper} {o : Oper} {a : Act} {Q : Exit -> Act -> World -> Prop} {w : World} (hgd : o.guard = none) (s x : Operand)
  (ho : o.op = .call { callee := .builtin .append, args := #[s, x], argTypes := #[22, 22] })
  (w0 : World) (v : Value) (l : List UInt8) (hs : a.eval s = v) (hb : Bb w0 w v l) (b off k cap : Nat) (l2 : List UInt8) (hx : a.eval x = .slice (some ⟨b, off, none⟩) k cap) (hk : l2.length = k) (hcell : ∀ j (hj : j < l2.length), w.cell? ⟨b, off + j, none⟩ = some (.int .u8 (l2[j].toNat : Int))) (hlen : l.length + l2.length <= 10000000)
  (h : ∀ v' w', Bb w0 w' v' (l ++ l2) -> w.grownBy w' v.ownBlock -> wpList Tryz.prog ops Q rest (a.put o.dst v') w') : wpList Tryz.prog ops Q (o :: rest) a w := by
 obtain ⟨i0, hi, hz0, hz1, hz2⟩ := info_parts Tryz.info_byteE
 subst hk
 refine wpList_append_own _ hgd s x 22 ho w0.heap.size 5 i0 (.int .u8 0) 1 1 Tryz.underlying22 hi hz0 hz1 hz2 rfl (by decide) v _ _ hs hb.own ⟨b, off, none⟩ l2.length cap (Lib.byteCells l2) hx (by simp [Lib.byteCells]) ?_ (byteCells_one l2) (by unfold maxLen; omega) (by omega) hb.below.size ?_
 ·intro j y hj
  simp only [Lib.byteCells, List.getElem?_map] at hj
  cases hjl : l2[j]? with
  | none => rw [hjl] at hj; cases hj
  | some d =>
   rw [hjl] at hj
   obtain ⟨hlt, hd⟩ := List.getElem?_eq_some_iff.1 hjl
   have h1 := hcell j hlt
   rw [hd] at h1
   rw [Addr.add_lit, h1]
   simpa using hj
 ·intro v' w' ho' hg _
  refine h v' w' (hb.grown ?_ hg) hg
  simpa [Lib.byteCells] using ho'
theorem wpList_bb {ops : Array Oper} {rest : List Oper} {o : Oper} {a : Act} {Q : Exit -> Act -> World -> Prop} {w : World} (hgd : o.guard = none) (s x : Operand)
  (ho : o.op = .call { callee := .builtin .append, args := #[s, x], argTypes := #[22, 22] })
  (w0 : World) (v : Value) (l : List UInt8) (hs : a.eval s = v) (hb : Bb w0 w v l) (S : Nat -> Prop) (u : Value) (l2 : List UInt8) (hx : a.eval x = u) (hr : Row1 S w byteR l2 u) (hne : l2 ≠ []) (hlen : l.length + l2.length <= 10000000)
  (h : ∀ v' w', Bb w0 w' v' (l ++ l2) -> w.grownBy w' v.ownBlock -> wpList Tryz.prog ops Q rest (a.put o.dst v') w') : wpList Tryz.prog ops Q (o :: rest) a w := by
 obtain ⟨i0, hi, hz0, hz1, hz2⟩ := info_parts Tryz.info_byteE
 obtain ⟨ao, cap, rfl, -, hc⟩ := hr
 obtain ⟨b, off, rfl, -, hcell⟩ := hc hne
 refine wpList_append_own _ hgd s x 22 ho w0.heap.size 5 i0 (.int .u8 0) 1 1 Tryz.underlying22 hi hz0 hz1 hz2 rfl (by decide) v _ _ hs hb.own ⟨b, off, none⟩ l2.length cap (Lib.byteCells l2) hx (by simp [Lib.byteCells]) ?_ (byteCells_one l2) (by unfold maxLen; omega) (by omega) hb.below.size ?_
 ·intro j y hj
  simp only [Lib.byteCells, List.getElem?_map] at hj
  cases hjl : l2[j]? with
  | none => rw [hjl] at hj; cases hj
  | some d =>
   rw [hjl] at hj
   obtain ⟨hlt, hd⟩ := List.getElem?_eq_some_iff.1 hjl
   obtain ⟨c, h1, h2⟩ := hcell j hlt
   have e : y = c := by
    unfold byteR at h2
    rw [h2, hd]
    simpa using hj.symm
   rw [e, Addr.add_lit]
   exact h1
 ·intro v' w' ho' hg _
  refine h v' w' (hb.grown ?_ hg) hg
  simpa [Lib.byteCells] using ho'
end Go.Proofs.YtmjhcgjhlakceaaGreatDoor

namespace Go.Proofs.YtmjhcgjhlakceaaGreatDoor
open Go.RowKit
set_option maxRecDepth 20000 in
set_option maxHeartbeats 1000000 in
theorem l4Short_any (x : ByteArray) (w : World) (hx : x.size <= 100) : Calls Tryz.prog 41 #[.string x] w fun e w' => ∃ v, e = .returned v /\ Bb w w' v (shortB x) := by
 obtain ⟨W1, hW1⟩ : ∃ W1, W1 = w.alloc (.cells #[.int .u8 (x.size : Int)] 5) := ⟨_, rfl⟩
 have hb1 : Bb w W1 (.slice (some ⟨w.heap.size, 0, none⟩) 1 1) [b8 x.size] := by
  have h := Bb.lit w (b8 x.size)
  rw [b8_nat (by omega) (by omega)] at h
  rw [hW1]; exact h
 obtain ⟨cap, W2, hrun, hb2, hcell⟩ := bytes_of W1 x
 have hsz : W1.heap.size = w.heap.size + 1 := by rw [hW1]; simp
 rw [hsz] at hrun hcell
 have HB := Lib.hid (hb1.keep hb2)
 have HC := Lib.hid hcell
 rw [hW1] at hrun
 clear hb1 hb2 hcell hsz
 go_enter Tryz.func41, Tryz.ntmps41
 go_wp2_with (at_builtin; refine wpList_bbA rfl (.tmp 6) (.tmp 8) rfl w _ _ rfl HB.out (w.heap.size + 1) 0 x.size cap x.data.toList rfl (by simp) HC.out (by simp; omega) ?_; intro v' w' hb' _; refine Hid.out ?_)
 refine Lib.hid ?_
 obtain ⟨va, vc, rfl⟩ := hb'.shape
 have HB' := Lib.hid hb'
 clear hb'
 go_wp2_with fail
 go_ret
 exact ⟨_, rfl, HB'.out⟩
theorem num7_step (g : Nat) (k : Nat) (h : 128 <= k) : num7 (g + 1) (k : Int) = b8 (128 + (k : Int) % 128) :: num7 g ((k : Int) / 128) := by
 rw [num7, if_neg (by omega), Int.add_comm]
theorem num7_last (f : Nat) (k : Nat) (h : k < 128) : num7 f (k : Int) = [b8 (k : Int)] := by
 cases f with
 | zero => rfl
 | succ f => rw [num7, if_pos (by omega)]
set_option maxRecDepth 20000 in
set_option maxHeartbeats 2000000 in
theorem l4Num_pos (k0 : Nat) (w : World) (hn : k0 <= 999999999) : Calls Tryz.prog 84 #[.int .i64 (k0 : Int)] w fun e w' => ∃ v, e = .returned v /\ Bb w w' v (numB (k0 : Int)) := by
 have HNB : Hid (numB (k0 : Int) = [0] ++ num7 5 (k0 : Int)) := by show _ = _; unfold numB; rw [if_neg (by omega), if_neg (by omega)]; rfl
 have hneg : ¬ (k0 : Int) < 0 := by omega
 obtain ⟨W1, hW1⟩ : ∃ W1, W1 = w.alloc (.cells #[.int .u8 0] 5) := ⟨_, rfl⟩
 have hb1 : Bb w W1 (.slice (some ⟨w.heap.size, 0, none⟩) 1 1) [0] := by rw [hW1]; exact Bb.lit w 0
 have HB := Lib.hid hb1
 clear hb1
 go_enter Tryz.func84, Tryz.ntmps84
 go_wp2_with fail
 rw [<- hW1]
 clear hW1
 go_loopw [0, 3] (fun nv ov wr => ∃ (k f : Nat) (l : List UInt8) (va : Option Addr) (vc : Nat), nv = .int .i64 (k : Int) /\ k <= 999999999 /\ k < 128 ^ (f + 1) /\ f <= 5 /\ l.length + f = 6 /\ ov = .slice va l.length vc /\ Bb w wr ov l /\ numB (k0 : Int) = l ++ num7 f (k : Int)) (fun nv _ _ => (intOf nv).toNat)
 case atStart => exact ⟨k0, 5, [0], _, _, rfl, hn, by omega, by omega, rfl, rfl, HB.out, HNB.out⟩
 case round =>
  obtain ⟨k, f, l, va, vc, rfl, hk, hkf, hf5, hlf, rfl, hb, hN⟩ := hrel
  have HN := Lib.hid hN
  have HB1 := Lib.hid hb
  have hl6 : l.length <= 6 := by omega
  clear hN hb HB HNB
  by_cases h128 : k < 128
  case pos =>
   have hg : ¬ (k : Int) > 127 := by omega
   have HB2 := Lib.hid (HB1.out.alloc (.cells #[.int .u8 (k : Int)] 5))
   have HC2 : Hid (∀ j (hj : j < [b8 (k : Int)].length), (wr.alloc (.cells #[.int .u8 (k : Int)] 5)).cell? ⟨wr.heap.size, 0 + j, none⟩ = some (.int .u8 ([b8 (k : Int)][j].toNat : Int))) := fun j hj => by
    match j, hj with
    | 0, _ => simp only [List.getElem_cons_zero]; rw [b8_nat (by omega) (by omega)]; simp [go_sem]
   have HE : Hid (numB (k0 : Int) = l ++ [b8 (k : Int)]) := by show _ = _; rw [HN.out, num7_last f k h128]
   generalize hL : l.length = ln at *
   clear hlf hkf
   go_wp2_with (at_builtin; refine wpList_bbA rfl (.tmp 22) (.tmp 25) rfl w _ l rfl HB2.out wr.heap.size 0 1 1 [b8 (k : Int)] rfl rfl HC2.out (by simp; omega) ?_; intro v' w' hb' _; refine Hid.out ?_)
   refine Lib.hid ?_
   obtain ⟨va, vc, rfl⟩ := hb'.shape
   have HB' := Lib.hid hb'
   clear hb'
   go_wp2_with fail
   go_ret
   exact ⟨_, rfl, by rw [HE.out]; exact HB'.out⟩
  case neg =>
   have hg : (k : Int) > 127 := by omega
   have hm : 0 <= (k : Int) % 128 /\ (k : Int) % 128 < 128 := by omega
   obtain ⟨g, rfl⟩ : ∃ g, f = g + 1 := by
    cases f with
    | zero => exact absurd hkf (by omega)
    | succ g => exact ⟨g, rfl⟩
   have hq : 0 <= (k : Int) / 128 /\ (k : Int) / 128 <= 999999999 := by omega
   have HB2 := Lib.hid (HB1.out.alloc (.cells #[.int .u8 (128 + (k : Int) % 128)] 5))
   have HC2 : Hid (∀ j (hj : j < [b8 (128 + (k : Int) % 128)].length), (wr.alloc (.cells #[.int .u8 (128 + (k : Int) % 128)] 5)).cell? ⟨wr.heap.size, 0 + j, none⟩ = some (.int .u8 ([b8 (128 + (k : Int) % 128)][j].toNat : Int))) := fun j hj => by
    match j, hj with
    | 0, _ => simp only [List.getElem_cons_zero]; rw [b8_nat (by omega) (by omega)]; simp [go_sem]
   have HE : Hid (numB (k0 : Int) = (l ++ [b8 (128 + (k : Int) % 128)]) ++ num7 g ((k / 128 : Nat) : Int)) := by
    show _ = _; rw [HN.out, num7_step g k (by omega), List.append_assoc]; rfl
   have HK : Hid (k / 128 < 128 ^ (g + 1)) := by
    show _ < _
    exact Nat.div_lt_of_lt_mul (by rw [Nat.mul_comm, <- Nat.pow_succ]; exact hkf)
   have HLf := Lib.hid hlf
   obtain ⟨ln, hL⟩ : ∃ ln, l.length = ln := ⟨_, rfl⟩
   have HL := Lib.hid hL
   rw [hL] at HB1 HB2 hl6
   rw [hL]
   clear hlf hkf HN hL
   go_wp2_with (at_builtin; go_loud (refine wpList_bbA rfl (.tmp 13) (.tmp 18) rfl w _ l rfl HB2.out wr.heap.size 0 1 1 [b8 (128 + (k : Int) % 128)] rfl rfl HC2.out (by rw [HL.out]; simp; omega) ?_; intro v' w' hb' _; refine Hid.out ?_))
   refine Lib.hid ?_
   obtain ⟨va', vc', rfl⟩ := hb'.shape
   have HB' := Lib.hid hb'
   clear hb' HB1 HB2 HC2
   go_wp2_with fail
   go_roundw
   case rel =>
    refine ⟨k / 128, g, l ++ [b8 (128 + (k : Int) % 128)], va', vc', by go_num, by omega, HK.out, by omega, by rw [List.length_append]; have := HLf.out; simp; omega, rfl, HB'.out, HE.out⟩
   case measure => simp [intOf]; omega
set_option maxRecDepth 20000 in
set_option maxHeartbeats 2000000 in
theorem l4Num_neg (k0 : Nat) (w : World) (hn : k0 <= 999999999) (h1 : 1 <= k0) : Calls Tryz.prog 84 #[.int .i64 (-(k0 : Int))] w fun e w' => ∃ v, e = .returned v /\ Bb w w' v (numB (-(k0 : Int))) := by
 have HNB : Hid (numB (-(k0 : Int)) = [1] ++ num7 5 (k0 : Int)) := by show _ = _; unfold numB; rw [if_pos (by omega), if_pos (by omega), Int.neg_neg]; rfl
 obtain ⟨nn, hnn⟩ : ∃ nn : Int, -(k0 : Int) = nn := ⟨_, rfl⟩
 rw [hnn]
 rw [hnn] at HNB
 have hneg : nn < 0 := by omega
 have hnb : -999999999 <= nn := by omega
 have hnk : -nn = (k0 : Int) := by omega
 clear hnn
 obtain ⟨W1, hW1⟩ : ∃ W1, W1 = w.alloc (.cells #[.int .u8 1] 5) := ⟨_, rfl⟩
 have hb1 : Bb w W1 (.slice (some ⟨w.heap.size, 0, none⟩) 1 1) [1] := by rw [hW1]; exact Bb.lit w 1
 have HB := Lib.hid hb1
 clear hb1
 go_enter Tryz.func84, Tryz.ntmps84
 go_wp2_with fail
 rw [<- hW1]
 clear hW1 hneg hnb hnk
 go_loopw [0, 3] (fun nv ov wr => ∃ (k f : Nat) (l : List UInt8) (va : Option Addr) (vc : Nat), nv = .int .i64 (k : Int) /\ k <= 999999999 /\ k < 128 ^ (f + 1) /\ f <= 5 /\ l.length + f = 6 /\ ov = .slice va l.length vc /\ Bb w wr ov l /\ numB nn = l ++ num7 f (k : Int)) (fun nv _ _ => (intOf nv).toNat)
 case atStart => exact ⟨k0, 5, [1], _, _, rfl, hn, by omega, by omega, rfl, rfl, HB.out, HNB.out⟩
 case round =>
  obtain ⟨k, f, l, va, vc, rfl, hk, hkf, hf5, hlf, rfl, hb, hN⟩ := hrel
  have HN := Lib.hid hN
  have HB1 := Lib.hid hb
  have hl6 : l.length <= 6 := by omega
  clear hN hb HB HNB
  by_cases h128 : k < 128
  case pos =>
   have hg : ¬ (k : Int) > 127 := by omega
   have HB2 := Lib.hid (HB1.out.alloc (.cells #[.int .u8 (k : Int)] 5))
   have HC2 : Hid (∀ j (hj : j < [b8 (k : Int)].length), (wr.alloc (.cells #[.int .u8 (k : Int)] 5)).cell? ⟨wr.heap.size, 0 + j, none⟩ = some (.int .u8 ([b8 (k : Int)][j].toNat : Int))) := fun j hj => by
    match j, hj with
    | 0, _ => simp only [List.getElem_cons_zero]; rw [b8_nat (by omega) (by omega)]; simp [go_sem]
   have HE : Hid (numB nn = l ++ [b8 (k : Int)]) := by show _ = _; rw [HN.out, num7_last f k h128]
   generalize hL : l.length = ln at *
   clear hlf hkf
   go_wp2_with (at_builtin; refine wpList_bbA rfl (.tmp 22) (.tmp 25) rfl w _ l rfl HB2.out wr.heap.size 0 1 1 [b8 (k : Int)] rfl rfl HC2.out (by simp; omega) ?_; intro v' w' hb' _; refine Hid.out ?_)
   refine Lib.hid ?_
   obtain ⟨va, vc, rfl⟩ := hb'.shape
   have HB' := Lib.hid hb'
   clear hb'
   go_wp2_with fail
   go_ret
   exact ⟨_, rfl, by rw [HE.out]; exact HB'.out⟩
  case neg =>
   have hg : (k : Int) > 127 := by omega
   have hm : 0 <= (k : Int) % 128 /\ (k : Int) % 128 < 128 := by omega
   obtain ⟨g, rfl⟩ : ∃ g, f = g + 1 := by
    cases f with
    | zero => exact absurd hkf (by omega)
    | succ g => exact ⟨g, rfl⟩
   have hq : 0 <= (k : Int) / 128 /\ (k : Int) / 128 <= 999999999 := by omega
   have HB2 := Lib.hid (HB1.out.alloc (.cells #[.int .u8 (128 + (k : Int) % 128)] 5))
   have HC2 : Hid (∀ j (hj : j < [b8 (128 + (k : Int) % 128)].length), (wr.alloc (.cells #[.int .u8 (128 + (k : Int) % 128)] 5)).cell? ⟨wr.heap.size, 0 + j, none⟩ = some (.int .u8 ([b8 (128 + (k : Int) % 128)][j].toNat : Int))) := fun j hj => by
    match j, hj with
    | 0, _ => simp only [List.getElem_cons_zero]; rw [b8_nat (by omega) (by omega)]; simp [go_sem]
   have HE : Hid (numB nn = (l ++ [b8 (128 + (k : Int) % 128)]) ++ num7 g ((k / 128 : Nat) : Int)) := by
    show _ = _; rw [HN.out, num7_step g k (by omega), List.append_assoc]; rfl
   have HK : Hid (k / 128 < 128 ^ (g + 1)) := by
    show _ < _
    exact Nat.div_lt_of_lt_mul (by rw [Nat.mul_comm, <- Nat.pow_succ]; exact hkf)
   have HLf := Lib.hid hlf
   obtain ⟨ln, hL⟩ : ∃ ln, l.length = ln := ⟨_, rfl⟩
   have HL := Lib.hid hL
   rw [hL] at HB1 HB2 hl6
   rw [hL]
   clear hlf hkf HN hL
   go_wp2_with (at_builtin; go_loud (refine wpList_bbA rfl (.tmp 13) (.tmp 18) rfl w _ l rfl HB2.out wr.heap.size 0 1 1 [b8 (128 + (k : Int) % 128)] rfl rfl HC2.out (by rw [HL.out]; simp; omega) ?_; intro v' w' hb' _; refine Hid.out ?_))
   refine Lib.hid ?_
   obtain ⟨va', vc', rfl⟩ := hb'.shape
   have HB' := Lib.hid hb'
   clear hb' HB1 HB2 HC2
   go_wp2_with fail
   go_roundw
   case rel =>
    refine ⟨k / 128, g, l ++ [b8 (128 + (k : Int) % 128)], va', vc', by go_num, by omega, HK.out, by omega, by rw [List.length_append]; have := HLf.out; simp; omega, rfl, HB'.out, HE.out⟩
   case measure => simp [intOf]; omega
theorem l4Num_any (n : Int) (w : World) (hn : -999999999 <= n /\ n <= 999999999) : Calls Tryz.prog 84 #[.int .i64 n] w fun e w' => ∃ v, e = .returned v /\ Bb w w' v (numB n) := by
 by_cases h : n < 0
 ·obtain ⟨k, rfl⟩ : ∃ k : Nat, n = -(k : Int) := ⟨(-n).toNat, by omega⟩
  exact l4Num_neg k w (by omega) (by omega)
 ·obtain ⟨k, rfl⟩ : ∃ k : Nat, n = (k : Int) := ⟨n.toNat, by omega⟩
  exact l4Num_pos k w (by omega)
end Go.Proofs.YtmjhcgjhlakceaaGreatDoor

namespace Go.Proofs.YtmjhcgjhlakceaaGreatDoor
open Go.RowKit
def PackSaid (n : Nat) : Prop := ∀ (S : Nat -> Prop) (t : T n) (c0 c1 c2 c3 c4 : Value) (d : Int) (w : World), TreeIn S w n t c0 c1 c2 c3 c4 -> (∀ b, S b -> b < w.heap.size) -> goodT n t d = true -> cntT n t <= 120 ->
 Calls Tryz.prog 42 #[.agg #[c0, c1, c2, c3, c4]] w fun e w' => ∃ v, e = .returned v /\ Bb w w' v (packT n t)
theorem flat_take (l : List (List UInt8)) (k : Nat) : (l.take k).flatten.length <= l.flatten.length := by
 have h := congrArg List.length (congrArg List.flatten (List.take_append_drop k l))
 rw [List.flatten_append, List.length_append] at h
 omega
theorem flat_step (l : List (List UInt8)) (k : Nat) (h : k < l.length) : (l.take (k + 1)).flatten = (l.take k).flatten ++ l[k] := by
 rw [List.take_succ_eq_append_getElem h, List.flatten_append]; simp
theorem head_bb (w : World) (t : TypeId) (c : Array Value) (s : Int) (h0 : 0 <= s) (h1 : s < 256) : Bb (w.alloc (.cells c t)) ((w.alloc (.cells c t)).alloc (.cells #[.int .u8 s] 5)) (.slice (some ⟨w.heap.size + 1, 0, none⟩) 1 1) [b8 s] := by
 have h := Bb.lit (w.alloc (.cells c t)) (b8 s)
 rw [b8_nat h0 h1] at h
 have e : (w.alloc (.cells c t)).heap.size = w.heap.size + 1 := by simp
 rw [e] at h
 exact h
theorem cell_one (w : World) (i : Int) (h0 : 0 <= i) (h1 : i < 256) : ∀ j (hj : j < [b8 i].length), (w.alloc (.cells #[.int .u8 i] 5)).cell? ⟨w.heap.size, 0 + j, none⟩ = some (.int .u8 ([b8 i][j].toNat : Int)) := fun j hj => by
 match j, hj with
 | 0, _ => simp only [List.getElem_cons_zero]; rw [b8_nat h0 h1]; simp [go_sem]
set_option maxRecDepth 20000 in
set_option maxHeartbeats 2000000 in
theorem pack_num (m : Int) (x : ByteArray) (n3 n4 : Value) (na ka : Option Addr) (nl nc kl kc : Nat) (w : World) (hn3 : n3 = .slice na nl nc) (hn4 : n4 = .slice ka kl kc) (hm : -999999999 <= m /\ m <= 999999999) :
  Calls Tryz.prog 42 #[.agg #[.int .i64 1, .int .i64 m, .string x, n3, n4]] w fun e w' => ∃ v, e = .returned v /\ Bb w w' v (b8 1 :: numB m) := by
 subst hn3 hn4
 obtain ⟨W1, hW1⟩ : ∃ W1, W1 = w.alloc (.cells #[.int .i64 1, .int .i64 m, .string x, .slice na nl nc, .slice ka kl kc] 27) := ⟨_, rfl⟩
 obtain ⟨W2, hW2⟩ : ∃ W2, W2 = W1.alloc (.cells #[.int .u8 1] 5) := ⟨_, rfl⟩
 have hb2 : Bb W1 W2 (.slice (some ⟨w.heap.size + 1, 0, none⟩) 1 1) [b8 1] := by rw [hW2, hW1]; exact head_bb w 27 _ 1 (by omega) (by omega)
 have hbw : Below w.heap.size w W1 := by rw [hW1]; exact (Below.refl _ _).alloc (Nat.le_refl _) _
 have HB := Lib.hid (hb2.up hbw)
 have HC : Hid (Calls Tryz.prog 84 #[.int .i64 m] W2 _) := l4Num_any m W2 hm
 have hW : W2 = (w.alloc (.cells #[.int .i64 1, .int .i64 m, .string x, .slice na nl nc, .slice ka kl kc] 27)).alloc (.cells #[.int .u8 1] 5) := by rw [hW2, hW1]
 clear hb2 hbw hW2 hW1 hm
 go_enter Tryz.func42, Tryz.ntmps42
 go_wp2_with fail
 rw [<- hW]
 clear hW
 refine HC.out.mono ?_
 rintro e w3 ⟨u, rfl, hu⟩
 have hnl := numB_len m
 have HB3 := Lib.hid (HB.out.keep hu.below)
 have HR := Lib.hid (hu.row (by unfold maxLen; omega))
 have HNE : Hid (numB m ≠ [] /\ [b8 1].length + (numB m).length <= 10000000) := ⟨by intro h; rw [h] at hnl; simp at hnl, by simp; omega⟩
 obtain ⟨ua, uc, rfl⟩ := hu.shape
 clear hu HC HB hnl
 go_wp2_with (at_builtin; refine wpList_bb rfl (.tmp 13) (.tmp 16) rfl w _ _ rfl HB3.out _ _ (numB m) rfl HR.out HNE.out.1 HNE.out.2 ?_; intro v' w' hb' _; refine Hid.out ?_)
 refine Lib.hid ?_
 obtain ⟨va, vc, rfl⟩ := hb'.shape
 have HB' := Lib.hid hb'
 clear hb'
 go_wp2_with fail
 go_ret
 exact ⟨_, rfl, HB'.out⟩
set_option maxRecDepth 20000 in
set_option maxHeartbeats 2000000 in
theorem pack_text (m : Int) (x : ByteArray) (n3 n4 : Value) (na ka : Option Addr) (nl nc kl kc : Nat) (w : World) (hn3 : n3 = .slice na nl nc) (hn4 : n4 = .slice ka kl kc) (hx : x.size <= 60) :
  Calls Tryz.prog 42 #[.agg #[.int .i64 2, .int .i64 m, .string x, n3, n4]] w fun e w' => ∃ v, e = .returned v /\ Bb w w' v (b8 2 :: shortB x) := by
 subst hn3 hn4
 obtain ⟨W1, hW1⟩ : ∃ W1, W1 = w.alloc (.cells #[.int .i64 2, .int .i64 m, .string x, .slice na nl nc, .slice ka kl kc] 27) := ⟨_, rfl⟩
 obtain ⟨W2, hW2⟩ : ∃ W2, W2 = W1.alloc (.cells #[.int .u8 2] 5) := ⟨_, rfl⟩
 have hb2 : Bb W1 W2 (.slice (some ⟨w.heap.size + 1, 0, none⟩) 1 1) [b8 2] := by rw [hW2, hW1]; exact head_bb w 27 _ 2 (by omega) (by omega)
 have hbw : Below w.heap.size w W1 := by rw [hW1]; exact (Below.refl _ _).alloc (Nat.le_refl _) _
 have HB := Lib.hid (hb2.up hbw)
 have HC : Hid (Calls Tryz.prog 41 #[.string x] W2 _) := l4Short_any x W2 (by omega)
 have hW : W2 = (w.alloc (.cells #[.int .i64 2, .int .i64 m, .string x, .slice na nl nc, .slice ka kl kc] 27)).alloc (.cells #[.int .u8 2] 5) := by rw [hW2, hW1]
 clear hb2 hbw hW2 hW1
 go_enter Tryz.func42, Tryz.ntmps42
 go_wp2_with fail
 rw [<- hW]
 clear hW
 refine HC.out.mono ?_
 rintro e w3 ⟨u, rfl, hu⟩
 have hnl := shortB_len x
 have HB3 := Lib.hid (HB.out.keep hu.below)
 have HR := Lib.hid (hu.row (by unfold maxLen; omega))
 have HNE : Hid (shortB x ≠ [] /\ [b8 2].length + (shortB x).length <= 10000000) := ⟨by intro h; rw [h] at hnl; simp at hnl, by simp; omega⟩
 obtain ⟨ua, uc, rfl⟩ := hu.shape
 clear hu HC HB hnl
 go_wp2_with (at_builtin; refine wpList_bb rfl (.tmp 20) (.tmp 23) rfl w _ _ rfl HB3.out _ _ (shortB x) rfl HR.out HNE.out.1 HNE.out.2 ?_; intro v' w' hb' _; refine Hid.out ?_)
 refine Lib.hid ?_
 obtain ⟨va, vc, rfl⟩ := hb'.shape
 have HB' := Lib.hid hb'
 clear hb'
 go_wp2_with fail
 go_ret
 exact ⟨_, rfl, HB'.out⟩
set_option maxRecDepth 20000 in
set_option maxHeartbeats 2000000 in
theorem pack_flag (m : Int) (x : ByteArray) (n3 n4 : Value) (na ka : Option Addr) (nl nc kl kc : Nat) (w : World) (hn3 : n3 = .slice na nl nc) (hn4 : n4 = .slice ka kl kc) (hm : 0 <= m /\ m <= 1) :
  Calls Tryz.prog 42 #[.agg #[.int .i64 3, .int .i64 m, .string x, n3, n4]] w fun e w' => ∃ v, e = .returned v /\ Bb w w' v [b8 3, b8 m] := by
 subst hn3 hn4
 obtain ⟨W1, hW1⟩ : ∃ W1, W1 = w.alloc (.cells #[.int .i64 3, .int .i64 m, .string x, .slice na nl nc, .slice ka kl kc] 27) := ⟨_, rfl⟩
 obtain ⟨W2, hW2⟩ : ∃ W2, W2 = W1.alloc (.cells #[.int .u8 3] 5) := ⟨_, rfl⟩
 have hb2 : Bb W1 W2 (.slice (some ⟨w.heap.size + 1, 0, none⟩) 1 1) [b8 3] := by rw [hW2, hW1]; exact head_bb w 27 _ 3 (by omega) (by omega)
 have hbw : Below w.heap.size w W1 := by rw [hW1]; exact (Below.refl _ _).alloc (Nat.le_refl _) _
 have HB := Lib.hid ((hb2.up hbw).alloc (.cells #[.int .u8 m] 5))
 have hz2 : W2.heap.size = w.heap.size + 1 + 1 := by rw [hW2, hW1]; simp
 have hc := cell_one W2 m hm.1 (by omega)
 rw [hz2] at hc
 rw [hW2, hW1] at HB hc
 have HC := Lib.hid hc
 have hm1 := hm.1
 have hm2 := hm.2
 clear hb2 hbw hW2 hW1 hm hc hz2 W2 W1
 go_enter Tryz.func42, Tryz.ntmps42
 go_wp2_with (at_builtin; refine wpList_bbA rfl (.tmp 27) (.tmp 31) rfl w _ _ rfl HB.out (w.heap.size + 1 + 1) 0 1 1 [b8 m] rfl rfl HC.out (by simp) ?_; intro v' w' hb' _; refine Hid.out ?_)
 refine Lib.hid ?_
 obtain ⟨va, vc, rfl⟩ := hb'.shape
 have HB' := Lib.hid hb'
 clear hb'
 go_wp2_with fail
 go_ret
 exact ⟨_, rfl, HB'.out⟩
end Go.Proofs.YtmjhcgjhlakceaaGreatDoor

namespace Go.Proofs.YtmjhcgjhlakceaaGreatDoor
open Go.RowKit
theorem parts_len {α : Type} (f : α -> List UInt8) (s : Int) (ns : List ByteArray) (ks : List α) (h : s = 5 -> ns.length = ks.length) : (partsP f s ns ks).length = ks.length := by
 unfold partsP
 split
 ·rename_i h5; rw [List.length_zipWith]; have := h h5; omega
 ·rw [List.length_map]
theorem parts_form {α : Type} (f : α -> List UInt8) (ns : List ByteArray) (ks : List α) (k : Nat) (h1 : k < ns.length) (h2 : k < ks.length) (h : k < (partsP f 5 ns ks).length) : (partsP f 5 ns ks)[k] = shortB ns[k] ++ f ks[k] := by
 unfold partsP; simp
theorem parts_row {α : Type} (f : α -> List UInt8) (s : Int) (hs : s ≠ 5) (ns : List ByteArray) (ks : List α) (k : Nat) (h2 : k < ks.length) (h : k < (partsP f s ns ks).length) : (partsP f s ns ks)[k] = f ks[k] := by
 unfold partsP; simp [hs]
set_option maxRecDepth 20000 in
set_option maxHeartbeats 4000000 in
theorem pack_kids (n : Nat) (hn : PackSaid n) (S : Nat -> Prop) (s : Int) (hs : s = 4 ∨ s = 6) (ns : List ByteArray) (ks : List (T n)) (m : Int) (x : ByteArray) (na ka : Option Addr) (nc kc : Nat) (d : Int) (w : World) (hnm : StrsIn S w ns (.slice na ns.length nc)) (hr : RowIn S w (TreeIn S w n) ks (.slice ka ks.length kc)) (hB : ∀ b, S b -> b < w.heap.size)
  (hll : s = 5 -> ns.length = ks.length) (hl8 : ∀ y, y ∈ ns -> y.size <= 8) (hg : ∀ k, k ∈ ks -> goodT n k d = true /\ cntT n k <= 120) (hk : ks.length <= 119) (hlen : (partsP (packT n) s ns ks).flatten.length <= 9000) :
  Calls Tryz.prog 42 #[.agg #[.int .i64 s, .int .i64 m, .string x, .slice na ns.length nc, .slice ka ks.length kc]] w fun e w' => ∃ v, e = .returned v /\ Bb w w' v (b8 s :: b8 ks.length :: (partsP (packT n) s ns ks).flatten) := by
 obtain ⟨hd, hhd⟩ : ∃ hd, hd = [b8 s] ++ [b8 (ks.length : Int)] := ⟨_, rfl⟩
 obtain ⟨PP, hPP⟩ : ∃ PP, PP = partsP (packT n) s ns ks := ⟨_, rfl⟩
 obtain ⟨W1, hW1⟩ : ∃ W1, W1 = w.alloc (.cells #[.int .i64 s, .int .i64 m, .string x, .slice na ns.length nc, .slice ka ks.length kc] 27) := ⟨_, rfl⟩
 have hbw : Below w.heap.size w W1 := by rw [hW1]; exact (Below.refl _ _).alloc (Nat.le_refl _) _
 have hz1 : W1.heap.size = w.heap.size + 1 := by rw [hW1]; simp
 have hx1 : Box5 W1 w.heap.size (.int .i64 s) (.int .i64 m) (.string x) (.slice na ns.length nc) (.slice ka ks.length kc) := by rw [hW1]; exact Box5.new w _ _ _ _ _ _
 have HBx : Hid (∀ W, Below W1.heap.size W1 W -> W.cell? ⟨w.heap.size, 0, none⟩ = some (.int .i64 s) /\ W.cell? ⟨w.heap.size, 3, none⟩ = some (.slice na ns.length nc) /\ W.cell? ⟨w.heap.size, 4, none⟩ = some (.slice ka ks.length kc)) := fun W hW => ⟨(hx1.keep hW).c0, (hx1.keep hW).c3, (hx1.keep hW).c4⟩
 have HNm : Hid (∀ k (h : k < ns.length), ∃ b off, na = some ⟨b, off, none⟩ /\ ∀ W, Below W1.heap.size W1 W -> W.cell? ⟨b, off + k, none⟩ = some (.string ns[k])) := fun k h => by
  obtain ⟨ao, cap, hv, -, -, hc⟩ := hnm
  cases hv
  obtain ⟨b, off, rfl, hb, hc⟩ := hc (by intro e; rw [e] at h; simp at h)
  exact ⟨b, off, rfl, fun W hW => ((below_step hbw hbw.size hW).cell (p := ⟨b, off + k, none⟩) (hB b hb)).trans (hc k h)⟩
 have HKd : Hid (∀ k (h : k < ks.length), ∃ b off y0 y1 y2 ya yl yc ta tl tc, ka = some ⟨b, off, none⟩ /\ ∀ W, Below W1.heap.size W1 W -> (W.cell? ⟨b, off + k * 5, none⟩ = some (.int .i64 y0) /\ W.cell? ⟨b, off + k * 5 + 1, none⟩ = some (.int .i64 y1) /\ W.cell? ⟨b, off + k * 5 + 2, none⟩ = some (.string y2) /\ W.cell? ⟨b, off + k * 5 + 3, none⟩ = some (.slice ya yl yc) /\ W.cell? ⟨b, off + k * 5 + 4, none⟩ = some (.slice ta tl tc)) /\ Calls Tryz.prog 42 #[.agg #[.int .i64 y0, .int .i64 y1, .string y2, .slice ya yl yc, .slice ta tl tc]] W fun e w' => ∃ v, e = .returned v /\ Bb W w' v (packT n ks[k])) := fun k h => by
  obtain ⟨ao, cap, hv, -, hc⟩ := hr
  cases hv
  obtain ⟨b, off, rfl, hb, hc⟩ := hc (by intro e; rw [e] at h; simp at h)
  obtain ⟨y0, y1, y2, y3, y4, e0, e1, e2, e3, e4, hin⟩ := hc k h
  obtain ⟨x0, x1, x2, xa, xl, xc, ta, tl, tc, rfl, rfl, rfl, rfl, rfl⟩ := hin.shape
  have hgk := hg _ (List.getElem_mem h)
  refine ⟨b, off, x0, x1, x2, xa, xl, xc, ta, tl, tc, rfl, fun W hW => ?_⟩
  have hbW := below_step hbw hbw.size hW
  exact ⟨⟨(hbW.cell (p := ⟨b, off + k * 5, none⟩) (hB b hb)).trans e0, (hbW.cell (p := ⟨b, off + k * 5 + 1, none⟩) (hB b hb)).trans e1, (hbW.cell (p := ⟨b, off + k * 5 + 2, none⟩) (hB b hb)).trans e2, (hbW.cell (p := ⟨b, off + k * 5 + 3, none⟩) (hB b hb)).trans e3, (hbW.cell (p := ⟨b, off + k * 5 + 4, none⟩) (hB b hb)).trans e4⟩,
   hn S ks[k] _ _ _ _ _ d W (hin.keep (same_below hbW hB) (fun _ h => h)) (fun b hb => Nat.lt_of_lt_of_le (hB b hb) hbW.size) hgk.1 hgk.2⟩
 have HStep : Hid (∀ k (h : k < ks.length) (l : List UInt8), l = hd ++ (PP.take k).flatten -> (s ≠ 5 -> l ++ packT n ks[k] = hd ++ (PP.take (k + 1)).flatten) /\ (s = 5 -> ∃ h' : k < ns.length, ns[k].size <= 8 /\ (l ++ shortB ns[k]) ++ packT n ks[k] = hd ++ (PP.take (k + 1)).flatten)) := fun k h l hl => by
  have hpl : k < PP.length := by rw [hPP, parts_len _ _ _ _ hll]; exact h
  refine ⟨fun h5 => ?_, fun h5 => ?_⟩
  ·rw [flat_step PP k hpl, hl, List.append_assoc]
   congr 2
   subst hPP
   exact (parts_row _ _ h5 _ _ _ h hpl).symm
  ·have h' : k < ns.length := by rw [hll h5]; exact h
   refine ⟨h', hl8 _ (List.getElem_mem h'), ?_⟩
   rw [flat_step PP k hpl, hl, List.append_assoc, List.append_assoc]
   congr 2
   subst hPP
   subst h5
   exact (parts_form _ _ _ _ h' h hpl).symm
 have HLen : Hid (∀ k (l : List UInt8), l = hd ++ (PP.take k).flatten -> l.length <= 9002) := fun k l hl => by
  have h1 := flat_take PP k
  rw [<- hPP] at hlen
  have h2 : hd.length = 2 := by rw [hhd]; rfl
  rw [hl, List.length_append]
  omega
 have HPk : Hid (∀ k (h : k < ks.length), 2 <= (packT n ks[k]).length /\ (packT n ks[k]).length <= 9000) := fun k h => by
  have hgk := hg _ (List.getElem_mem h)
  have := packT_len n ks[k] d hgk.1
  omega
 have HF : Hid (∀ l : List UInt8, l = hd ++ (PP.take ks.length).flatten -> l = b8 s :: b8 ks.length :: (partsP (packT n) s ns ks).flatten) := fun l hl => by
  rw [hl, <- hPP, List.take_of_length_le (by rw [hPP, parts_len _ _ _ _ hll]; exact Nat.le_refl _), hhd]; rfl
 have HBW := Lib.hid hbw
 obtain ⟨W2, hW2⟩ : ∃ W2, W2 = W1.alloc (.cells #[.int .u8 s] 5) := ⟨_, rfl⟩
 have hb2 : Bb W1 W2 (.slice (some ⟨w.heap.size + 1, 0, none⟩) 1 1) [b8 s] := by rw [hW2, hW1]; exact head_bb w 27 _ s (by omega) (by omega)
 have HB3 := Lib.hid (hb2.alloc (.cells #[.int .u8 (ks.length : Int)] 5))
 have hz2 : W2.heap.size = w.heap.size + 1 + 1 := by rw [hW2]; simp [hz1]
 have hc := cell_one W2 ks.length (by omega) (by omega)
 rw [hz2] at hc
 have HC3 := Lib.hid hc
 obtain ⟨kl, hkl⟩ : ∃ kl, ks.length = kl := ⟨_, rfl⟩
 obtain ⟨nl, hnl⟩ : ∃ nl, ns.length = nl := ⟨_, rfl⟩
 have HKl : Hid (ks.length = kl /\ ns.length = nl) := ⟨hkl, hnl⟩
 have hkb : kl <= 119 := by omega
 have hs1 : ¬ s = 1 := by omega
 have hs2 : ¬ s = 2 := by omega
 have hs3 : ¬ s = 3 := by omega
 have h5 : ¬ s = 5 := by omega
 have hsl : 4 <= s /\ s <= 6 := by omega
 have hsl1 := hsl.1
 have hsl2 := hsl.2
 have HHd := Lib.hid hhd
 rw [hkl] at HB3 HC3 HHd
 rw [hkl, hnl] at HBx
 rw [hkl, hnl]
 have hWW : W2.alloc (.cells #[.int .u8 (kl : Int)] 5) = ((w.alloc (.cells #[.int .i64 s, .int .i64 m, .string x, .slice na nl nc, .slice ka kl kc] 27)).alloc (.cells #[.int .u8 s] 5)).alloc (.cells #[.int .u8 (kl : Int)] 5) := by rw [hW2, hW1, hkl, hnl]
 rw [hWW] at HB3 HC3
 clear hs hnm hr hB hll hl8 hg hk hlen hPP hhd hbw hx1 hb2 hz2 hc hkl hnl hsl hWW hW2 hW1 hz1
 go_enter Tryz.func42, Tryz.ntmps42
 go_wp2_with (at_builtin; refine wpList_bbA rfl (.tmp 33) (.tmp 38) rfl W1 _ _ rfl HB3.out (w.heap.size + 1 + 1) 0 1 1 [b8 (kl : Int)] rfl rfl HC3.out (by simp) ?_; intro v' w' hb' _; refine Hid.out ?_)
 refine Lib.hid ?_
 obtain ⟨va, vc, rfl⟩ := hb'.shape
 rw [<- HHd.out] at hb'
 have hbw' := hb'.below
 have HB' := Lib.hid hb'
 rw [<- HHd.out]
 clear hb' HB3 HC3
 obtain ⟨i0, i3, i4⟩ := HBx.out w' hbw'
 clear hbw'
 go_wp2_with fail
 go_loopw [3, 4] (fun ov iv wr => ∃ (k : Nat) (l : List UInt8) (va : Option Addr) (vc : Nat), k <= kl /\ iv = .int .i64 k /\ ov = .slice va l.length vc /\ Bb W1 wr (.slice va l.length vc) l /\ l = hd ++ (PP.take k).flatten) (fun _ iv _ => kl - (intOf iv).toNat)
 case atStart => exact ⟨0, hd, va, vc, Nat.zero_le _, rfl, rfl, HB'.out, by simp⟩
 case round =>
  obtain ⟨k, l, va, vc, hk, rfl, rfl, hb, hl⟩ := hrel
  have hbel := hb.below
  have hll := HLen.out k l hl
  have HBk := Lib.hid hb
  obtain ⟨i0, i3, i4⟩ := HBx.out wr hbel
  have hzr := hbel.size
  by_cases hlt : k < kl
  case neg =>
   have hk' : k = kl := by omega
   have HE : Hid (l = _) := HF.out l (by rw [hl, hk', HKl.out.1])
   clear hl hb hbel
   have hkn : ¬ (k : Int) < (kl : Int) := by omega
   go_wp2_with fail
   go_ret
   refine ⟨_, rfl, ?_⟩
   have hE := HE.out
   rw [HKl.out.1] at hE
   rw [<- hE]
   exact HBk.out.up HBW.out
  case pos =>
   have hkp : (k : Int) < (kl : Int) := by omega
   have hkk : k < ks.length := by have := HKl.out.1; omega
   obtain ⟨kb, ko, y0, y1, y2, ya, yl, yc, ta, tl, tc, rfl, hkW⟩ := HKd.out k hkk
   have hpk := HPk.out k hkk
   have HSt := Lib.hid (HStep.out k hkk l hl)
   generalize ks[k] = kid at *
   have h5' : (s == 5) = false := by simpa using h5
   have HS1 := Lib.hid (HSt.out.1 h5)
   obtain ⟨⟨f0, f1, f2, f3, f4⟩, hC⟩ := hkW wr hbel
   have HC := Lib.hid hC
   clear hC hkW hl hb hbel
   go_wp2_with fail
   refine HC.out.mono ?_
   rintro e w1 ⟨u, rfl, hu⟩
   have HB1 := Lib.hid (HBk.out.keep hu.below)
   have HR := Lib.hid (hu.row (by unfold maxLen; omega))
   have HNE : Hid (packT n kid ≠ [] /\ l.length + (packT n kid).length <= 10000000) := ⟨by intro h; rw [h] at hpk; simp at hpk, by omega⟩
   obtain ⟨ua, uc, rfl⟩ := hu.shape
   clear hu HC f0 f1 f2 f3 f4 i0 i3 i4 hpk
   go_wp2_with (at_builtin; refine wpList_bb rfl (.tmp 58) (.tmp 64) rfl W1 _ _ rfl HB1.out _ _ (packT n kid) rfl HR.out HNE.out.1 HNE.out.2 ?_; intro v' w' hb' _; refine Hid.out ?_)
   refine Lib.hid ?_
   obtain ⟨va', vc', rfl⟩ := hb'.shape
   rw [HS1.out] at hb'
   rw [HS1.out]
   have HB2 := Lib.hid hb'
   obtain ⟨q, hq⟩ : ∃ q, q = hd ++ (PP.take (k + 1)).flatten := ⟨_, rfl⟩
   rw [<- hq] at HB2
   rw [<- hq]
   have HQ := Lib.hid hq
   clear hb' hq HB1 HR HNE
   go_wp2_with fail
   go_roundw
   case rel => exact ⟨k + 1, q, va', vc', by omega, by go_num, rfl, HB2.out, HQ.out⟩
   case measure => simp [intOf]; omega
set_option maxRecDepth 20000 in
set_option maxHeartbeats 4000000 in
theorem pack_form (n : Nat) (hn : PackSaid n) (S : Nat -> Prop) (ns : List ByteArray) (ks : List (T n)) (m : Int) (x : ByteArray) (na ka : Option Addr) (nc kc : Nat) (d : Int) (w : World) (hnm : StrsIn S w ns (.slice na ns.length nc)) (hr : RowIn S w (TreeIn S w n) ks (.slice ka ks.length kc)) (hB : ∀ b, S b -> b < w.heap.size)
  (hll0 : ns.length = ks.length) (hl8 : ∀ y, y ∈ ns -> y.size <= 8) (hg : ∀ k, k ∈ ks -> goodT n k d = true /\ cntT n k <= 120) (hk : ks.length <= 119) (hlen : (partsP (packT n) 5 ns ks).flatten.length <= 9000) :
  Calls Tryz.prog 42 #[.agg #[.int .i64 5, .int .i64 m, .string x, .slice na ns.length nc, .slice ka ks.length kc]] w fun e w' => ∃ v, e = .returned v /\ Bb w w' v (b8 5 :: b8 ks.length :: (partsP (packT n) 5 ns ks).flatten) := by
 have hll : (5 : Int) = 5 -> ns.length = ks.length := fun _ => hll0
 obtain ⟨hd, hhd⟩ : ∃ hd, hd = [b8 5] ++ [b8 (ks.length : Int)] := ⟨_, rfl⟩
 obtain ⟨PP, hPP⟩ : ∃ PP, PP = partsP (packT n) 5 ns ks := ⟨_, rfl⟩
 obtain ⟨W1, hW1⟩ : ∃ W1, W1 = w.alloc (.cells #[.int .i64 5, .int .i64 m, .string x, .slice na ns.length nc, .slice ka ks.length kc] 27) := ⟨_, rfl⟩
 have hbw : Below w.heap.size w W1 := by rw [hW1]; exact (Below.refl _ _).alloc (Nat.le_refl _) _
 have hz1 : W1.heap.size = w.heap.size + 1 := by rw [hW1]; simp
 have hx1 : Box5 W1 w.heap.size (.int .i64 5) (.int .i64 m) (.string x) (.slice na ns.length nc) (.slice ka ks.length kc) := by rw [hW1]; exact Box5.new w _ _ _ _ _ _
 have HBx : Hid (∀ W, Below W1.heap.size W1 W -> W.cell? ⟨w.heap.size, 0, none⟩ = some (.int .i64 5) /\ W.cell? ⟨w.heap.size, 3, none⟩ = some (.slice na ns.length nc) /\ W.cell? ⟨w.heap.size, 4, none⟩ = some (.slice ka ks.length kc)) := fun W hW => ⟨(hx1.keep hW).c0, (hx1.keep hW).c3, (hx1.keep hW).c4⟩
 have HNm : Hid (∀ k (h : k < ns.length), ∃ b off, na = some ⟨b, off, none⟩ /\ ∀ W, Below W1.heap.size W1 W -> W.cell? ⟨b, off + k, none⟩ = some (.string ns[k])) := fun k h => by
  obtain ⟨ao, cap, hv, -, -, hc⟩ := hnm
  cases hv
  obtain ⟨b, off, rfl, hb, hc⟩ := hc (by intro e; rw [e] at h; simp at h)
  exact ⟨b, off, rfl, fun W hW => ((below_step hbw hbw.size hW).cell (p := ⟨b, off + k, none⟩) (hB b hb)).trans (hc k h)⟩
 have HKd : Hid (∀ k (h : k < ks.length), ∃ b off y0 y1 y2 ya yl yc ta tl tc, ka = some ⟨b, off, none⟩ /\ ∀ W, Below W1.heap.size W1 W -> (W.cell? ⟨b, off + k * 5, none⟩ = some (.int .i64 y0) /\ W.cell? ⟨b, off + k * 5 + 1, none⟩ = some (.int .i64 y1) /\ W.cell? ⟨b, off + k * 5 + 2, none⟩ = some (.string y2) /\ W.cell? ⟨b, off + k * 5 + 3, none⟩ = some (.slice ya yl yc) /\ W.cell? ⟨b, off + k * 5 + 4, none⟩ = some (.slice ta tl tc)) /\ Calls Tryz.prog 42 #[.agg #[.int .i64 y0, .int .i64 y1, .string y2, .slice ya yl yc, .slice ta tl tc]] W fun e w' => ∃ v, e = .returned v /\ Bb W w' v (packT n ks[k])) := fun k h => by
  obtain ⟨ao, cap, hv, -, hc⟩ := hr
  cases hv
  obtain ⟨b, off, rfl, hb, hc⟩ := hc (by intro e; rw [e] at h; simp at h)
  obtain ⟨y0, y1, y2, y3, y4, e0, e1, e2, e3, e4, hin⟩ := hc k h
  obtain ⟨x0, x1, x2, xa, xl, xc, ta, tl, tc, rfl, rfl, rfl, rfl, rfl⟩ := hin.shape
  have hgk := hg _ (List.getElem_mem h)
  refine ⟨b, off, x0, x1, x2, xa, xl, xc, ta, tl, tc, rfl, fun W hW => ?_⟩
  have hbW := below_step hbw hbw.size hW
  exact ⟨⟨(hbW.cell (p := ⟨b, off + k * 5, none⟩) (hB b hb)).trans e0, (hbW.cell (p := ⟨b, off + k * 5 + 1, none⟩) (hB b hb)).trans e1, (hbW.cell (p := ⟨b, off + k * 5 + 2, none⟩) (hB b hb)).trans e2, (hbW.cell (p := ⟨b, off + k * 5 + 3, none⟩) (hB b hb)).trans e3, (hbW.cell (p := ⟨b, off + k * 5 + 4, none⟩) (hB b hb)).trans e4⟩,
   hn S ks[k] _ _ _ _ _ d W (hin.keep (same_below hbW hB) (fun _ h => h)) (fun b hb => Nat.lt_of_lt_of_le (hB b hb) hbW.size) hgk.1 hgk.2⟩
 have HStep : Hid (∀ k (h : k < ks.length) (l : List UInt8), l = hd ++ (PP.take k).flatten -> ((5 : Int) ≠ 5 -> l ++ packT n ks[k] = hd ++ (PP.take (k + 1)).flatten) /\ ((5 : Int) = 5 -> ∃ h' : k < ns.length, ns[k].size <= 8 /\ (l ++ shortB ns[k]) ++ packT n ks[k] = hd ++ (PP.take (k + 1)).flatten)) := fun k h l hl => by
  have hpl : k < PP.length := by rw [hPP, parts_len _ _ _ _ hll]; exact h
  refine ⟨fun h5 => ?_, fun h5 => ?_⟩
  ·rw [flat_step PP k hpl, hl, List.append_assoc]
   congr 2
   subst hPP
   exact (parts_row _ _ h5 _ _ _ h hpl).symm
  ·have h' : k < ns.length := by rw [hll h5]; exact h
   refine ⟨h', hl8 _ (List.getElem_mem h'), ?_⟩
   rw [flat_step PP k hpl, hl, List.append_assoc, List.append_assoc]
   congr 2
   subst hPP
   exact (parts_form _ _ _ _ h' h hpl).symm
 have HLen : Hid (∀ k (l : List UInt8), l = hd ++ (PP.take k).flatten -> l.length <= 9002) := fun k l hl => by
  have h1 := flat_take PP k
  rw [<- hPP] at hlen
  have h2 : hd.length = 2 := by rw [hhd]; rfl
  rw [hl, List.length_append]
  omega
 have HPk : Hid (∀ k (h : k < ks.length), 2 <= (packT n ks[k]).length /\ (packT n ks[k]).length <= 9000) := fun k h => by
  have hgk := hg _ (List.getElem_mem h)
  have := packT_len n ks[k] d hgk.1
  omega
 have HF : Hid (∀ l : List UInt8, l = hd ++ (PP.take ks.length).flatten -> l = b8 5 :: b8 ks.length :: (partsP (packT n) 5 ns ks).flatten) := fun l hl => by
  rw [hl, <- hPP, List.take_of_length_le (by rw [hPP, parts_len _ _ _ _ hll]; exact Nat.le_refl _), hhd]; rfl
 have HBW := Lib.hid hbw
 obtain ⟨W2, hW2⟩ : ∃ W2, W2 = W1.alloc (.cells #[.int .u8 5] 5) := ⟨_, rfl⟩
 have hb2 : Bb W1 W2 (.slice (some ⟨w.heap.size + 1, 0, none⟩) 1 1) [b8 5] := by rw [hW2, hW1]; exact head_bb w 27 _ 5 (by omega) (by omega)
 have HB3 := Lib.hid (hb2.alloc (.cells #[.int .u8 (ks.length : Int)] 5))
 have hz2 : W2.heap.size = w.heap.size + 1 + 1 := by rw [hW2]; simp [hz1]
 have hc := cell_one W2 ks.length (by omega) (by omega)
 rw [hz2] at hc
 have HC3 := Lib.hid hc
 obtain ⟨kl, hkl⟩ : ∃ kl, ks.length = kl := ⟨_, rfl⟩
 obtain ⟨nl, hnl⟩ : ∃ nl, ns.length = nl := ⟨_, rfl⟩
 have HKl : Hid (ks.length = kl /\ ns.length = nl) := ⟨hkl, hnl⟩
 have hkb : kl <= 119 := by omega
 have HHd := Lib.hid hhd
 rw [hkl] at HB3 HC3 HHd
 rw [hkl, hnl] at HBx
 rw [hkl, hnl]
 have hWW : W2.alloc (.cells #[.int .u8 (kl : Int)] 5) = ((w.alloc (.cells #[.int .i64 5, .int .i64 m, .string x, .slice na nl nc, .slice ka kl kc] 27)).alloc (.cells #[.int .u8 5] 5)).alloc (.cells #[.int .u8 (kl : Int)] 5) := by rw [hW2, hW1, hkl, hnl]
 rw [hWW] at HB3 HC3
 clear hnm hr hB hll hll0 hl8 hg hk hlen hPP hhd hbw hx1 hb2 hz2 hc hkl hnl hWW hW2 hW1 hz1
 go_enter Tryz.func42, Tryz.ntmps42
 go_wp2_with (at_builtin; refine wpList_bbA rfl (.tmp 33) (.tmp 38) rfl W1 _ _ rfl HB3.out (w.heap.size + 1 + 1) 0 1 1 [b8 (kl : Int)] rfl rfl HC3.out (by simp) ?_; intro v' w' hb' _; refine Hid.out ?_)
 refine Lib.hid ?_
 obtain ⟨va, vc, rfl⟩ := hb'.shape
 rw [<- HHd.out] at hb'
 have hbw' := hb'.below
 have HB' := Lib.hid hb'
 rw [<- HHd.out]
 clear hb' HB3 HC3
 obtain ⟨i0, i3, i4⟩ := HBx.out w' hbw'
 clear hbw'
 go_wp2_with fail
 go_loopw [3, 4] (fun ov iv wr => ∃ (k : Nat) (l : List UInt8) (va : Option Addr) (vc : Nat), k <= kl /\ iv = .int .i64 k /\ ov = .slice va l.length vc /\ Bb W1 wr (.slice va l.length vc) l /\ l = hd ++ (PP.take k).flatten) (fun _ iv _ => kl - (intOf iv).toNat)
 case atStart => exact ⟨0, hd, va, vc, Nat.zero_le _, rfl, rfl, HB'.out, by simp⟩
 case round =>
  obtain ⟨k, l, va, vc, hk, rfl, rfl, hb, hl⟩ := hrel
  have hbel := hb.below
  have hll := HLen.out k l hl
  have HBk := Lib.hid hb
  obtain ⟨i0, i3, i4⟩ := HBx.out wr hbel
  have hzr := hbel.size
  by_cases hlt : k < kl
  case neg =>
   have hk' : k = kl := by omega
   have HE : Hid (l = _) := HF.out l (by rw [hl, hk', HKl.out.1])
   clear hl hb hbel
   have hkn : ¬ (k : Int) < (kl : Int) := by omega
   go_wp2_with fail
   go_ret
   refine ⟨_, rfl, ?_⟩
   have hE := HE.out
   rw [HKl.out.1] at hE
   rw [<- hE]
   exact HBk.out.up HBW.out
  case pos =>
   have hkp : (k : Int) < (kl : Int) := by omega
   have hkk : k < ks.length := by have := HKl.out.1; omega
   obtain ⟨kb, ko, y0, y1, y2, ya, yl, yc, ta, tl, tc, rfl, hkW⟩ := HKd.out k hkk
   have hpk := HPk.out k hkk
   have HSt := Lib.hid (HStep.out k hkk l hl)
   generalize ks[k] = kid at *
   obtain ⟨hkn, hn8, hS1⟩ := HSt.out.2 trivial
   have HS1 := Lib.hid hS1
   obtain ⟨nb, no, rfl, hnW⟩ := HNm.out k hkn
   have q0 := hnW wr hbel
   generalize ns[k] = nm at *
   have hknl : (k : Int) < (nl : Int) := by have := HKl.out.2; omega
   have HCs : Hid (Calls Tryz.prog 41 #[.string nm] wr _) := l4Short_any nm wr (by omega)
   have hsl := shortB_len nm
   have HkW := Lib.hid hkW
   clear hkW hl hb hbel hS1 hnW HNm HKd HStep HSt HPk
   go_wp2_with fail
   refine HCs.out.mono ?_
   rintro e w1 ⟨u, rfl, hu⟩
   have HB1 := Lib.hid (HBk.out.keep hu.below)
   have HR := Lib.hid (hu.row (by unfold maxLen; omega))
   have HNE : Hid (shortB nm ≠ [] /\ l.length + (shortB nm).length <= 10000000) := ⟨by intro h; rw [h] at hsl; simp at hsl, by omega⟩
   obtain ⟨ua, uc, rfl⟩ := hu.shape
   clear hu HCs q0 i0 i3 i4
   go_wp2_with (at_builtin; refine wpList_bb rfl (.tmp 50) (.tmp 56) rfl W1 _ _ rfl HB1.out _ _ (shortB nm) rfl HR.out HNE.out.1 HNE.out.2 ?_; intro v' w' hb' _; refine Hid.out ?_)
   refine Lib.hid ?_
   obtain ⟨va', vc', rfl⟩ := hb'.shape
   have hbel' := hb'.below
   have HB2 := Lib.hid hb'
   obtain ⟨q, hq⟩ : ∃ q, q = l ++ shortB nm := ⟨_, rfl⟩
   have hql : q.length <= 9100 := by rw [hq, List.length_append]; omega
   rw [<- hq] at HB2 HS1
   rw [<- hq]
   clear hb' hq HB1 HR HNE hsl
   obtain ⟨⟨f0, f1, f2, f3, f4⟩, hC⟩ := HkW.out w' hbel'
   obtain ⟨i0, i3, i4⟩ := HBx.out w' hbel'
   have HC := Lib.hid hC
   clear hC hbel' HkW
   go_wp2_with fail
   refine HC.out.mono ?_
   rintro e w2 ⟨u, rfl, hu⟩
   have HB3 := Lib.hid (HB2.out.keep hu.below)
   have HR := Lib.hid (hu.row (by unfold maxLen; omega))
   have HNE : Hid (packT n kid ≠ [] /\ q.length + (packT n kid).length <= 10000000) := ⟨by intro h; rw [h] at hpk; simp at hpk, by omega⟩
   obtain ⟨ua2, uc2, rfl⟩ := hu.shape
   clear hu HC f0 f1 f2 f3 f4 i0 i3 i4 hpk HB2
   go_wp2_with (at_builtin; refine wpList_bb rfl (.tmp 58) (.tmp 64) rfl W1 _ _ rfl HB3.out _ _ (packT n kid) rfl HR.out HNE.out.1 HNE.out.2 ?_; intro v' w3 hb' _; refine Hid.out ?_)
   refine Lib.hid ?_
   obtain ⟨va2, vc2, rfl⟩ := hb'.shape
   rw [HS1.out] at hb'
   rw [HS1.out]
   have HB4 := Lib.hid hb'
   obtain ⟨q2, hq2⟩ : ∃ q, q = hd ++ (PP.take (k + 1)).flatten := ⟨_, rfl⟩
   rw [<- hq2] at HB4
   rw [<- hq2]
   have HQ := Lib.hid hq2
   clear hb' hq2 HB3 HR HNE
   go_wp2_with fail
   go_roundw
   case rel => exact ⟨k + 1, q2, va2, vc2, by omega, by go_num, rfl, HB4.out, HQ.out⟩
   case measure => simp [intOf]; omega
theorem sumL_geE {α : Type} (f : α -> Nat) : ∀ (l : List α), (∀ x, x ∈ l -> 1 <= f x) -> l.length <= sumL f l := by
 intro l
 induction l with
 | nil => intro _; simp [sumL]
 | cons a l ih =>
  intro h
  have h0 := h a (List.mem_cons_self ..)
  have h1 := ih (fun x hx => h x (List.mem_cons_of_mem _ hx))
  simp only [List.length_cons, sumL]
  omega
theorem pack_any : ∀ n, PackSaid n := by
 intro n
 induction n with
 | zero => intro S t c0 c1 c2 c3 c4 d w h; exact h.elim
 | succ n ih =>
  intro S t c0 c1 c2 c3 c4 d w ht hB hg hc
  have hbnd := packT_len (n + 1) t d hg
  simp only [goodT, Bool.and_eq_true, List.all_eq_true] at hg
  obtain ⟨⟨-, ha⟩, hk⟩ := hg
  have ha' : aloneF (Nd.sort t) (Nd.num t) (Nd.text t) (Nd.names t) (Nd.kids t).length = true := ha
  have hcc : cntT (n + 1) t = 1 + sumL (fun k => cntT n k) (Nd.kids t) := rfl
  have hkc : ∀ k, k ∈ Nd.kids t -> goodT n k (d + 1) = true /\ cntT n k <= 120 := fun k hkm => by
   have := sumL_mono (fun x => cntT n x) (Nd.kids t) _ hkm
   exact ⟨hk k hkm, by omega⟩
  have hkl : (Nd.kids t).length <= 119 := by
   have := sumL_geE (fun x => cntT n x) (Nd.kids t) (fun x hx => cntT_pos n x (d + 1) (hk x hx))
   omega
  obtain ⟨rfl, rfl, rfl, -, -, -, h3, h4⟩ := ht
  obtain ⟨na, nc, rfl, h3r⟩ := id h3
  obtain ⟨ka, kc, rfl, h4r⟩ := id h4
  unfold aloneF at ha'
  by_cases h1 : Nd.sort t = 1
  ·have hp : packT (n + 1) t = b8 1 :: numB (Nd.num t) := by rw [packT, if_pos h1, h1]
   rw [if_pos h1] at ha'
   rw [hp, h1]
   exact pack_num _ _ _ _ na ka _ nc _ kc w rfl rfl (by simp at ha'; omega)
  rw [if_neg h1] at ha'
  by_cases h2 : Nd.sort t = 2
  ·have hp : packT (n + 1) t = b8 2 :: shortB (Nd.text t) := by rw [packT, if_neg h1, if_pos h2, h2]
   rw [if_pos h2] at ha'
   rw [hp, h2]
   exact pack_text _ _ _ _ na ka _ nc _ kc w rfl rfl (by simp [textB] at ha'; omega)
  rw [if_neg h2] at ha'
  by_cases h3' : Nd.sort t = 3
  ·have hp : packT (n + 1) t = [b8 3, b8 (Nd.num t)] := by rw [packT, if_neg h1, if_neg h2, if_pos h3', h3']
   rw [if_pos h3'] at ha'
   rw [hp, h3']
   exact pack_flag _ _ _ _ na ka _ nc _ kc w rfl rfl (by simp at ha'; omega)
  rw [if_neg h3'] at ha'
  have hp : packT (n + 1) t = b8 (Nd.sort t) :: b8 (Nd.kids t).length :: (partsP (packT n) (Nd.sort t) (Nd.names t) (Nd.kids t)).flatten := by rw [packT, if_neg h1, if_neg h2, if_neg h3']
  have hpl : (partsP (packT n) (Nd.sort t) (Nd.names t) (Nd.kids t)).flatten.length <= 9000 := by
   rw [hp] at hbnd; simp only [List.length_cons] at hbnd; omega
  rw [hp]
  by_cases h5 : Nd.sort t = 5
  ·rw [if_neg (by omega), if_pos h5] at ha'
   simp at ha'
   rw [h5]
   rw [h5] at hpl
   exact pack_form n ih S (Nd.names t) (Nd.kids t) _ _ na ka nc kc (d + 1) w h3 h4 hB (by omega) (riseB_names _ ha'.2) hkc hkl hpl
  ·have hn0 : Nd.names t = [] /\ (Nd.sort t = 4 ∨ Nd.sort t = 6) := by
    by_cases h4' : Nd.sort t = 4
    ·rw [if_pos h4'] at ha'; simp at ha'; exact ⟨ha'.1.2, .inl h4'⟩
    ·rw [if_neg h4', if_neg h5] at ha'
     by_cases h6 : Nd.sort t = 6
     ·rw [if_pos h6] at ha'; simp at ha'; exact ⟨ha'.1.2, .inr h6⟩
     ·rw [if_neg h6] at ha'; cases ha'
   exact pack_kids n ih S (Nd.sort t) hn0.2 (Nd.names t) (Nd.kids t) _ _ na ka nc kc (d + 1) w h3 h4 hB (fun h => absurd h h5) (fun y hy => by rw [hn0.1] at hy; cases hy) hkc hkl hpl
end Go.Proofs.YtmjhcgjhlakceaaGreatDoor
