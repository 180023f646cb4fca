/-
  Several texts in one, in their order.
-/
import Derived.Test.YtmjhcgjhlakceaaGreatDoorB19
import Derived.Test.YtmjhcgjhlakceaaGreatDoorB8
import Derived.Test.YtmjhcgjhlakceaaGreatDoorB9
import Derived.Deep.RegionLaw
import Derived.Test.YtmjhcgjhlakceaaGreatDoorB1
import Derived.BigQuiet

namespace Go.Proofs.YtmjhcgjhlakceaaGreatDoor
open Go.RowKit
theorem step_bb {ops : Array Oper} {o : Oper} {a : Act} {K : Act -> World -> Prop} {Q : Exit -> Act -> World -> Prop} {E : Prop} {w : World} (hgd : o.guard = none) (s x : Operand)
  (ho : o.op = .call { callee := .builtin .append, args := #[s, x], argTypes := #[22, 22] })
  (w0 : World) (v : Value) (l : List UInt8) (hs : a.eval s = v) (hb : Bb w0 w v l) (d : UInt8) (N : Nat)
  (hx : a.eval x = .slice (some ⟨N, 0, none⟩) 1 1) (hcell : w.cell? ⟨N, 0, none⟩ = some (.int .u8 (d.toNat : Int))) (hlen : l.length <= 1000000)
  (h : ∀ v' w', Bb w0 w' v' (l ++ [d]) -> K (a.put o.dst v') w') : if Region.wanted o (yielded ops a.tmps) = true then Oper.wp Tryz.prog o a w K Q else E := by
 have hw : Region.wanted o (yielded ops a.tmps) = true := by simp [Region.wanted, hgd]
 rw [if_pos hw]
 obtain ⟨i0, hi, hz0, hz1, hz2⟩ := info_parts Tryz.info_byteE
 refine wp_append_own w s x 22 ho w0.heap.size 5 i0 (.int .u8 0) 1 1 Tryz.underlying22 hi hz0 hz1 hz2 rfl (by decide) v _ _ hs hb.own ⟨N, 0, none⟩ 1 1 [.int .u8 (d.toNat : Int)] hx rfl ?_ ?_ (by unfold maxLen; omega) (by omega) hb.below.size ?_
 ·intro j u hj
  match j, hj with
  | 0, hj => simp at hj; subst hj; exact hcell
  | (j + 1), hj => simp at hj
 ·intro u hu; simp at hu; subst hu; rfl
 ·intro v' w' ho' hg _
  refine h v' w' (hb.grown ?_ hg)
  simpa [Lib.byteCells] using ho'
def NewB (i : Int) (W : World) (N : Nat) : Prop := W.heap[N]? = some (.cells #[.int .u8 i] 5 (0, 0))
theorem newB_at (i : Int) (V : World) : NewB i (V.alloc (.cells #[.int .u8 i] 5)) V.heap.size := heap_alloc_new _ _
theorem newB_atD (i : Int) (V : World) : NewB i (V.alloc (.cells #[.int .u8 i] 5)).drew V.heap.size := heap_alloc_new V _
theorem NewB.keep {i : Int} {W w' : World} {N : Nat} (h : NewB i W N) (hb : Below W.heap.size W w') : NewB i w' N := (hb.block N (Array.getElem?_eq_some_iff.1 h).1).trans h
theorem NewB.cell {i : Int} {W : World} {N : Nat} (h : NewB i W N) (h0 : 0 <= i) (h1 : i < 256) : W.cell? ⟨N, 0, none⟩ = some (.int .u8 ((b8 i).toNat : Int)) := by
 unfold NewB at h; rw [b8_nat h0 h1]; simp [World.cell?, h]
theorem okT_getE {n : Nat} {t : T n} (h : okT n t = true) : goodT n t 1 = true /\ cntT n t <= 120 := by
 simpa [okT] using h
def bytesE (n : Nat) (x : ByteArray) (v : Int) (t : T n) : List UInt8 := if okE n x v t = true then packE n x v t else []
theorem okE_parts {n : Nat} {x : ByteArray} {v : Int} {t : T n} (h : okE n x v t = true) : nameB x = true /\ (1 <= v /\ v <= 12) /\ sortT n t = 5 /\ okT n t = true := by
 unfold okE at h; simpa [and_assoc] using h
set_option maxRecDepth 20000 in
set_option maxHeartbeats 4000000 in
theorem specEPackO_any (n : Nat) (S : Nat -> Prop) (x : ByteArray) (v : Int) (t : T n) (c0 c1 c2 c3 c4 : Value) (w : World) (hx : x.size <= maxLen) (ht : TreeIn S w n t c0 c1 c2 c3 c4) (hB : ∀ b, S b -> b < w.heap.size) :
  Calls Tryz.prog 15 #[.agg #[.string x, .int .i64 v, c0, c1, c2, c3, c4]] w fun e w' => ∃ u, e = .returned u /\ Row1 (fun b => w.heap.size <= b /\ b < w'.heap.size) w' byteR (bytesE n x v t) u /\ Below w.heap.size w w' /\ (okE n x v t = true -> Bb w w' u (bytesE n x v t)) /\ (okE n x v t = false -> ∃ a, u = .slice a 0 0) := by
 obtain ⟨x0, x1, x2, xa, xl, xc, ya, yl, yc, rfl, rfl, rfl, rfl, rfl⟩ := ht.shape
 obtain ⟨W1, hW1⟩ : ∃ W1, W1 = w.alloc (.cells #[.string x, .int .i64 v, .int .i64 x0, .int .i64 x1, .string x2, .slice xa xl xc, .slice ya yl yc] 29) := ⟨_, rfl⟩
 have hb1 : Below w.heap.size w W1 := by rw [hW1]; exact (Below.refl _ _).alloc (Nat.le_refl _) _
 have hx1 : Box7 W1 w.heap.size (.string x) (.int .i64 v) (.int .i64 x0) (.int .i64 x1) (.string x2) (.slice xa xl xc) (.slice ya yl yc) := by rw [hW1]; exact Box7.new w _ _ _ _ _ _ _ _
 obtain ⟨ht1, hB1⟩ := ht.step hB hb1
 have HC : Hid (Calls Tryz.prog 21 _ W1 _) := specEOk_any n S x v t _ _ _ _ _ W1 hx ht1 hB1
 have HX : Hid (∀ W, Below W1.heap.size W1 W -> Box7 W w.heap.size (.string x) (.int .i64 v) (.int .i64 x0) (.int .i64 x1) (.string x2) (.slice xa xl xc) (.slice ya yl yc)) := fun W hW => hx1.keep hW
 have HTr : Hid (∀ W, Below W1.heap.size W1 W -> TreeIn S W n t (.int .i64 x0) (.int .i64 x1) (.string x2) (.slice xa xl xc) (.slice ya yl yc) /\ ∀ b, S b -> b < W.heap.size) := fun W hW => ht1.step hB1 hW
 have HB1 := Lib.hid hb1
 clear ht hB ht1 hB1 hx1 hb1
 go_enter Tryz.func15, Tryz.ntmps15
 go_wp2_with fail
 rw [<- hW1]
 clear hW1
 refine HC.out.mono ?_
 rintro e w1 ⟨rfl, hbw1⟩
 clear HC
 cases hok : okE n x v t
 case false =>
  have HE : Hid (bytesE n x v t = []) := by show _ = _; rw [bytesE, if_neg (by rw [hok]; simp)]
  have HBf := Lib.hid (below_step HB1.out HB1.out.size hbw1)
  have HNo := Lib.hid hok
  clear hok
  go_wp2_with fail
  go_ret
  refine ⟨_, rfl, ?_, HBf.out.alloc HBf.out.size _, fun h => (by rw [HNo.out] at h; cases h), fun _ => ⟨_, rfl⟩⟩
  rw [HE.out]
  exact ⟨_, _, rfl, by simp, fun h => absurd rfl h⟩
 case true =>
  obtain ⟨hnm, hv, -, hokT⟩ := okE_parts hok
  have hx8 : x.size <= 8 := by simp only [nameB, Bool.and_eq_true, decide_eq_true_eq] at hnm; exact hnm.1.1.2
  have hp := okT_getE hokT
  have hpl := packT_len n t 1 hp.1
  have HE : Hid (bytesE n x v t = (shortB x ++ [b8 v]) ++ packT n t) := by show _ = _; rw [bytesE, if_pos hok, packE, List.append_assoc]; rfl
  have hsl := shortB_len x
  have HV : Hid (0 <= v /\ v < 256) := by show _ /\ _; omega
  have hv0 := HV.out.1
  have hv1 := HV.out.2
  have hzw := hbw1.size
  have hwv : IntKind.u8.wrap v = v := by rw [IntKind.wrap_u8]; omega
  have HYes := Lib.hid hok
  have HCs : Hid (∀ W, Below w1.heap.size w1 W -> Calls Tryz.prog 41 #[.string x] W fun e w' => ∃ ua uc, e = .returned (.slice ua (shortB x).length uc) /\ Bb w1 w' (.slice ua (shortB x).length uc) (shortB x) /\ Below w1.heap.size w1 w' /\ ∀ N, NewB v W N -> NewB v w' N) := fun W hW => by
   refine (l4Short_any x W (by omega)).mono ?_
   rintro e w' ⟨u, rfl, hu⟩
   obtain ⟨ua, uc, rfl⟩ := hu.shape
   have hW' : Below w1.heap.size w1 W := hW
   exact ⟨ua, uc, rfl, hu.up hW', below_step hW hW.size hu.below, fun N q => q.keep hu.below⟩
  have HCt : Hid (∀ W, Below w1.heap.size w1 W -> Calls Tryz.prog 42 #[.agg #[.int .i64 x0, .int .i64 x1, .string x2, .slice xa xl xc, .slice ya yl yc]] W fun e w' => ∃ u, e = .returned u /\ Bb W w' u (packT n t)) := fun W hW => by
   have h := HTr.out W (below_step hbw1 hbw1.size hW)
   exact pack_any n S t _ _ _ _ _ 1 W h.1 h.2 hp.1 hp.2
  have hS : ∀ W, Below w1.heap.size w1 W -> W.cell? ⟨w.heap.size, 0, none⟩ = some (.string x) /\ W.cell? ⟨w.heap.size, 1, none⟩ = some (.int .i64 v) := fun W hW => by
   have h := HX.out W (below_step hbw1 hbw1.size hW)
   exact ⟨h.c0, h.c1⟩
  have HS := Lib.hid hS
  obtain ⟨s0, s1⟩ := hS w1 (Below.refl _ _)
  have hd0 : Below w1.heap.size w1 w1.drew := (Below.refl _ _).drew
  have hln : (shortB x).length <= 100 := by omega
  have hwl : w.heap.size < w1.heap.size := by have := (HX.out w1 hbw1).c0; exact cell_lt0 this
  have n0 : ¬ w1.heap.size = w.heap.size := by omega
  have HBW := Lib.hid hbw1
  have hpk : 2 <= (packT n t).length /\ (packT n t).length <= 9000 := by omega
  clear hS hok hnm hv hokT hp hpl hbw1 hsl
  go_upto_region 3 with fail
  go_cut [1, 3] from 4 to 21 (fun bv ov wx => bv = .pointer (some ⟨w.heap.size, 0, none⟩) /\ ∃ va vc, ov = .slice va (shortB x ++ [b8 v]).length vc /\ Bb w1 wx (.slice va (shortB x ++ [b8 v]).length vc) (shortB x ++ [b8 v]))
  case first =>
   go_region_law (first
    | (refine step_bb (by rfl) (.tmp 10) (.tmp 14) (by rfl) w1 (.slice ua (shortB x).length uc) (shortB x) (by rfl) (by first | with_reducible assumption | (with_reducible refine Bb.alloc ?_ _; with_reducible assumption)) (b8 v) _ (by rfl) (by first | exact (newB_at v _).cell hv0 hv1 | exact NewB.cell (by with_reducible assumption) hv0 hv1) (by omega) ?_; intro v' w' hb')
    | (go_simp; go_at_call 41; refine (HCs.out _ (by first | with_reducible assumption | (with_reducible refine below_alloc ?_ _; with_reducible assumption) | (with_reducible refine below_allocD ?_ _; with_reducible assumption))).mono ?_; rintro e y1 ⟨ua, uc, rfl, hu, hy1, hq⟩; obtain ⟨sa, sb⟩ := HS.out y1 hy1; (first | with_reducible (have q := hq _ (newB_at _ _)) | with_reducible (have q := hq _ (newB_atD _ _)) | skip)))
   all_goals
    obtain ⟨va, vc, rfl⟩ := hb'.shape
    have HB' := Lib.hid hb'
    clear hb'
    go_wp2_with fail
    go_meet
    exact ⟨rfl, va, vc, rfl, HB'.out⟩
  case rest =>
   obtain ⟨rfl, va, vc, rfl, hb3⟩ := hcut
   obtain ⟨W3, hW3⟩ : ∃ W3, W3 = wc := ⟨_, rfl⟩
   rw [<- hW3] at hb3 ⊢
   clear hW3
   have hbel := hb3.below
   obtain ⟨k0, k1, k2, k3, k4, k5, k6⟩ := HX.out W3 (below_step HBW.out HBW.out.size hbel)
   have HB3 := Lib.hid hb3
   have HC : Hid (Calls Tryz.prog 42 _ W3 _) := HCt.out W3 hbel
   have hql : (shortB x ++ [b8 v]).length <= 200 := by rw [List.length_append]; simp; omega
   obtain ⟨q, hq⟩ : ∃ q, q = shortB x ++ [b8 v] := ⟨_, rfl⟩
   rw [<- hq] at HB3 HE hql
   rw [<- hq]
   clear hb3 hbel HCs HCt HS s0 s1 hd0 hq HX HTr
   go_wp2_with fail
   refine HC.out.mono ?_
   rintro e w4 ⟨u, rfl, hu⟩
   have HB4 := Lib.hid (HB3.out.keep hu.below)
   have HR := Lib.hid (hu.row (by unfold maxLen; omega))
   have HNE : Hid (packT n t ≠ [] /\ q.length + (packT n t).length <= 10000000) := ⟨by intro h; rw [h] at hpk; simp at hpk, by omega⟩
   obtain ⟨ua, uc, rfl⟩ := hu.shape
   clear hu HC HB3 k0 k1 k2 k3 k4 k5 k6
   go_wp2_with (at_builtin; refine wpList_bb rfl (.tmp 16) (.tmp 19) rfl w1 _ _ rfl HB4.out _ _ (packT n t) rfl HR.out HNE.out.1 HNE.out.2 ?_; intro v' w' hb' _; refine Hid.out ?_)
   refine Lib.hid ?_
   obtain ⟨va', vc', rfl⟩ := hb'.shape
   have HB' := Lib.hid ((hb'.up HBW.out).up HB1.out)
   clear hb' HB4 HR
   have hlen : (q ++ packT n t).length <= maxLen := by rw [List.length_append]; unfold maxLen; omega
   go_wp2_with fail
   go_ret
   refine ⟨_, rfl, ?_, HB'.out.below, fun _ => ?_, fun h => (by rw [HYes.out] at h; cases h)⟩
   ·rw [HE.out]; exact HB'.out.row hlen
   ·rw [HE.out]; exact HB'.out
set_option maxHeartbeats 400000 in
theorem specEPack_any (n : Nat) (S : Nat -> Prop) (x : ByteArray) (v : Int) (t : T n) (c0 c1 c2 c3 c4 : Value) (w : World) (hx : x.size <= maxLen) (ht : TreeIn S w n t c0 c1 c2 c3 c4) (hB : ∀ b, S b -> b < w.heap.size) :
  Calls Tryz.prog 15 #[.agg #[.string x, .int .i64 v, c0, c1, c2, c3, c4]] w fun e w' => ∃ u, e = .returned u /\ Row1 (fun b => w.heap.size <= b /\ b < w'.heap.size) w' byteR (bytesE n x v t) u /\ Below w.heap.size w w' := by
 refine (specEPackO_any n S x v t c0 c1 c2 c3 c4 w hx ht hB).mono ?_
 rintro e w' ⟨u, h1, h2, h3, -⟩
 exact ⟨u, h1, h2, h3⟩
end Go.Proofs.YtmjhcgjhlakceaaGreatDoor

namespace Go.Proofs.YtmjhcgjhlakceaaGreatDoor
open Go.RowKit
theorem own_set {w : World} {base : Nat} {e : TypeId} {v : Value} {n : Nat} {xs : List Value} (h : w.ownsRow base e 1 v n xs) (g j : Nat) (hv : v.ownBlock = some g) (x : Value) : (w.setCell ⟨g, j, none⟩ x).ownsRow base e 1 v n (xs.set j x) := by
 obtain ⟨h1, h2⟩ := h
 refine ⟨by rw [List.length_set]; exact h1, ?_⟩
 rcases h2 with ⟨rfl, h0⟩ | ⟨g', cap, cur, rfl, hbg, hg, hnc, hcm, hcs, htake⟩
 ·cases hv
 ·have e : g' = g := by simpa [Value.ownBlock] using hv
  subst e
  refine .inr ⟨g', cap, cur.setIfInBounds j x, rfl, hbg, ?_, hnc, hcm, by rw [Array.size_setIfInBounds]; exact hcs, ?_⟩
  ·simp [World.setCell, Array.getElem?_modify, hg]
  ·rw [Array.toList_setIfInBounds, List.take_set, htake]
def OwnB (B : Nat) (w : World) (v : Value) (l : List UInt8) : Prop := w.ownsRow B 5 1 v l.length (Lib.byteCells l)
theorem OwnB.row {B : Nat} {w : World} {v : Value} {l : List UInt8} (h : OwnB B w v l) (hl : l.length <= maxLen) : Row1 (fun b => B <= b /\ b < w.heap.size) w byteR l v :=
 row1_of_owns h hl (fun g hg => r1_lt h g hg) (fun i hi hx => by simp [byteR, Lib.byteCells])
theorem OwnB.keep {B : Nat} {w w' : World} {v : Value} {l : List UInt8} (h : OwnB B w v l) (hs : ∀ b, B <= b -> b < w.heap.size -> w'.heap[b]? = w.heap[b]?) : OwnB B w' v l :=
 r1_keep h (fun g hg => hs g (r1_lt h g hg).1 (r1_lt h g hg).2)
theorem OwnB.cells {B : Nat} {w : World} {v : Value} {l : List UInt8} (h : OwnB B w v l) (j : Nat) (hj : j < l.length) : ∃ g c, v = .slice (some ⟨g, 0, none⟩) l.length c /\ w.cell? ⟨g, 0 + j, none⟩ = some (.int .u8 (l[j].toNat : Int)) /\ w.frozen? ⟨g, 0 + j, none⟩ = false := by
 rcases h.2 with ⟨rfl, h0⟩ | ⟨g, cap, cur, rfl, hbg, hg, hnc, hcm, hcs, htake⟩
 ·omega
 ·refine ⟨g, cap, rfl, ?_, by simp [World.frozen?, hg]⟩
  have := World.ownsRow.cells h (g := g) rfl j (.int .u8 (l[j].toNat : Int)) (by simp [Lib.byteCells, hj])
  rw [Addr.add_lit] at this
  exact this
end Go.Proofs.YtmjhcgjhlakceaaGreatDoor
