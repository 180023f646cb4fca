/-
  Several texts in one, in their order.
-/
import Derived.Test.YtmjhcgjhlakceaaGreatDoorB16
import Derived.Test.YtmjhcgjhlakceaaGreatDoorB20

namespace Go.Proofs.YtmjhcgjhlakceaaGreatDoor
open Go.RowKit
structure BytesA (S : Nat -> Prop) (w : World) (ao : Option Addr) (l : List UInt8) (cap : Nat) : Prop where
 lc : l.length <= cap /\ cap <= maxLen
 bytes : ∀ j (hj : j < l.length), ∃ b off, ao = some ⟨b, off, none⟩ /\ S b /\ w.cell? ⟨b, off + j, none⟩ = some (.int .u8 (l[j].toNat : Int))
theorem BytesA.keep {S : Nat -> Prop} {w w' : World} {ao : Option Addr} {l : List UInt8} {cap : Nat} (h : BytesA S w ao l cap) (hs : ∀ b, S b -> w'.heap[b]? = w.heap[b]?) : BytesA S w' ao l cap :=
 ⟨h.lc, fun j hj => by
  obtain ⟨b, off, ha, hb, hc⟩ := h.bytes j hj
  exact ⟨b, off, ha, hb, (World.cell?_of_block (hs b hb)).trans hc⟩⟩
theorem conv_bytes {w : World} {ao : Option Addr} {l : List UInt8} {cap : Nat} (h : ∀ j (hj : j < l.length), ∃ b off, ao = some ⟨b, off, none⟩ /\ w.cell? ⟨b, off + j, none⟩ = some (.int .u8 (l[j].toNat : Int))) :
  (convert 22 9 (.slice ao l.length cap)).run Tryz.prog w = .ok (.string ⟨l.toArray⟩) w := by
 cases ao with
 | none =>
  cases l with
  | nil => exact run_convert_bytes_nil (P := Tryz.prog) w 22 5 Tryz.underlying22 Tryz.underlying5 0 _ 9 Tryz.underlying9
  | cons a l => obtain ⟨b, off, ha, -⟩ := h 0 (by simp); cases ha
 | some ad =>
  refine run_convert_bytes_back (P := Tryz.prog) w 22 9 5 ad cap l Tryz.underlying22 Tryz.underlying5 Tryz.underlying9 fun j hj => ?_
  obtain ⟨b, off, ha, hc⟩ := h j hj
  cases ha
  rw [Addr.add_lit]; exact hc
theorem conv_row {S : Nat -> Prop} {w : World} {l : List UInt8} {v : Value} (h : Row1 S w byteR l v) : (convert 22 9 v).run Tryz.prog w = .ok (.string ⟨l.toArray⟩) w := by
 obtain ⟨ao, cap, rfl, -, hc⟩ := h
 refine conv_bytes fun j hj => ?_
 obtain ⟨b, off, ha, -, hx⟩ := hc (fun e => by rw [e] at hj; simp at hj)
 obtain ⟨c, hcell, hr⟩ := hx j hj
 rw [hr] at hcell
 exact ⟨b, off, ha, hcell⟩
set_option maxRecDepth 20000 in
set_option maxHeartbeats 1000000 in
theorem l4Same_any (w : World) (v1 v2 : Value) (l1 l2 : List UInt8) (h1 : (convert 22 9 v1).run Tryz.prog w = .ok (.string ⟨l1.toArray⟩) w) (h2 : (convert 22 9 v2).run Tryz.prog w = .ok (.string ⟨l2.toArray⟩) w) :
  Calls Tryz.prog 22 #[v1, v2] w fun e w' => e = .returned (.bool (decide (l1 = l2))) /\ w' = w := by
 obtain ⟨s1, e1⟩ : ∃ s : ByteArray, s = ⟨l1.toArray⟩ := ⟨_, rfl⟩
 obtain ⟨s2, e2⟩ : ∃ s : ByteArray, s = ⟨l2.toArray⟩ := ⟨_, rfl⟩
 rw [<- e1] at h1
 rw [<- e2] at h2
 have hd : decide (l1 = l2) = decide (s1 = s2) := by
  rw [e1, e2]
  by_cases h : l1 = l2
  ·subst h; simp
  ·rw [decide_eq_false h, decide_eq_false]
   intro e
   injection e with e
   exact h (by simpa using congrArg Array.toList e)
 rw [hd]
 clear e1 e2 hd
 go_enter Tryz.func22, Tryz.ntmps22
 go_wp2_with fail
 go_ret
 refine ⟨congrArg (fun b => Ending.returned (Value.bool b)) ?_, rfl⟩
 by_cases h : s1 = s2
 ·subst h
  rw [decide_eq_true rfl]
  show (s1.toList == s1.toList) = true
  simp
 ·rw [decide_eq_false h]
  show (s1.toList == s2.toList) = false
  rw [beq_eq_false_iff_ne]
  intro e
  rw [ByteArray.toList_eq, ByteArray.toList_eq] at e
  apply h
  cases s1 with | mk d1 => cases s2 with | mk d2 => simpa using e
theorem event_read {m : Nat} {l : List UInt8} {x : ByteArray} {i1 : Nat} {b1 : Bool} {v i2 : Nat} {b2 : Bool} {t : T m} {i3 : Nat} {b3 : Bool} (h1 : shortR l 0 false x i1 b1) (h2 : oneR l i1 b1 v i2 b2) (h3 : treeR m 1 l i2 b2 t i3 b3)
  {x' : ByteArray} {v' : Int} {t' : T m} (ho : okE m x' v' t' = true) (hp : packE m x' v' t' = l) : x = x' /\ (v : Int) = v' /\ t = t' /\ b3 = false /\ l.drop i3 = [] := by
 obtain ⟨hnm, hv, -, hokT⟩ := okE_parts ho
 have hx8 : x'.size <= 8 := by simp only [nameB, Bool.and_eq_true, decide_eq_true_eq] at hnm; exact hnm.1.1.2
 have hg := okT_getE hokT
 obtain ⟨a1, -, a3, a4⟩ := h1 x' (b8 v' :: packT m t') rfl (by omega) (by rw [List.drop_zero, <- hp]; rfl)
 obtain ⟨c1, -, c3, c4⟩ := oneR_cons h2 a4
 have hv2 : (v : Int) = v' := by
  obtain ⟨k, rfl⟩ : ∃ k : Nat, v' = (k : Int) := ⟨v'.toNat, by omega⟩
  rw [b8_toNat (by omega)] at c1
  omega
 obtain ⟨d1, d2, d3⟩ := h3 t' [] (by rw [c3]; exact a3) hg.1 hg.2 (by rw [c4, List.append_nil])
 exact ⟨a1, hv2, d1, d2, d3⟩
theorem packE_len {m : Nat} {x : ByteArray} {v : Int} {t : T m} (ho : okE m x v t = true) : (packE m x v t).length <= 9000 := by
 obtain ⟨hnm, hv, -, hokT⟩ := okE_parts ho
 have hx8 : x.size <= 8 := by simp only [nameB, Bool.and_eq_true, decide_eq_true_eq] at hnm; exact hnm.1.1.2
 have hg := okT_getE hokT
 have h1 := packT_len m t 1 hg.1
 have h2 := shortB_len x
 unfold packE
 rw [List.length_append, List.length_cons]
 omega
def EUnp (m : Nat) (l : List UInt8) (ok : Bool) (x : ByteArray) (v : Int) (t : T (m + 1)) : Prop :=
 (ok = true /\ okE (m + 1) x v t = true /\ packE (m + 1) x v t = l) ∨ (ok = false /\ x = ByteArray.empty /\ v = 0 /\ t = (⟨0, 0, ByteArray.empty, [], []⟩ : Nd (T m)) /\ ∀ (x' : ByteArray) (v' : Int) (t' : T (m + 1)), okE (m + 1) x' v' t' = true -> packE (m + 1) x' v' t' ≠ l)
end Go.Proofs.YtmjhcgjhlakceaaGreatDoor

namespace Go.Proofs.YtmjhcgjhlakceaaGreatDoor
open Go.RowKit
theorem Tryz.info_byteT : (Tryz.prog.info? 5).map (fun i => (i.zero, i.size, i.bytes)) = some (some (.int .u8 0), 1, 1) := by kernel_rfl
theorem OwnB.given {B : Nat} {w : World} {a : Option Addr} {c : Nat} {l : List UInt8} (h : OwnB B w (.slice a l.length c) l) : BytesA (fun b => b < w.heap.size) w a l c := by
 rcases id h.2 with ⟨hv, h0⟩ | ⟨g, cap, cur, hv, hbg, hg, hnc, hcm, hcs, htake⟩
 ·injection hv with h1 h2 h3
  exact ⟨⟨by omega, by rw [h3]; exact Nat.zero_le _⟩, fun j hj => absurd hj (by omega)⟩
 ·injection hv with h1 h2 h3
  subst h1 h3
  refine ⟨⟨hnc, hcm⟩, fun j hj => ?_⟩
  obtain ⟨g', c', hv', hc, -⟩ := h.cells j hj
  injection hv' with e1 e2 e3
  cases e1
  exact ⟨g, 0, rfl, (Array.getElem?_eq_some_iff.1 hg).1, hc⟩
theorem BytesA.step {w w' : World} {ao : Option Addr} {l : List UInt8} {cap : Nat} (h : BytesA (fun b => b < w.heap.size) w ao l cap) (hb : Below w.heap.size w w') : BytesA (fun b => b < w'.heap.size) w' ao l cap :=
 ⟨h.lc, fun j hj => by
  obtain ⟨b, off, ha, hlt, hc⟩ := h.bytes j hj
  exact ⟨b, off, ha, Nat.lt_of_lt_of_le hlt hb.size, (World.cell?_of_block (hb.block b hlt)).trans hc⟩⟩
end Go.Proofs.YtmjhcgjhlakceaaGreatDoor

namespace Go.Proofs.YtmjhcgjhlakceaaGreatDoor
open Go.RowKit
def EUPost (m : Nat) (l : List UInt8) (w : World) (e : Ending) (w' : World) : Prop :=
 Below w.heap.size w w' /\ ∃ (ok : Bool) (x : ByteArray) (v : Int) (t : T (m + 1)) (c0 c1 c2 c3 c4 : Value), e = .returned (.tuple #[.agg #[.string x, .int .i64 v, c0, c1, c2, c3, c4], .bool ok]) /\ TreeIn (fun b => w.heap.size <= b /\ b < w'.heap.size) w' (m + 1) t c0 c1 c2 c3 c4 /\ EUnp m l ok x v t
theorem eu_none {m : Nat} {l : List UInt8} {w W : World} {N : Nat} (hN : N = w.heap.size) (hb : Below w.heap.size w W) (hno : ∀ (x' : ByteArray) (v' : Int) (t' : T (m + 1)), okE (m + 1) x' v' t' = true -> packE (m + 1) x' v' t' ≠ l) :
  EUPost m l w (.returned (.tuple #[.agg #[.string ⟨#[]⟩, .int .i64 0, .int .i64 0, .int .i64 0, .string ⟨#[]⟩, .slice none 0 0, .slice none 0 0], .bool false])) (put7 W N (.string ⟨#[]⟩) (.int .i64 0) (.int .i64 0) (.int .i64 0) (.string ⟨#[]⟩) (.slice none 0 0) (.slice none 0 0)) :=
 ⟨put7_below hb (by omega), false, ByteArray.empty, 0, (⟨0, 0, ByteArray.empty, [], []⟩ : Nd (T m)), _, _, _, _, _, rfl, leafR_in _ _ m 0 0 ByteArray.empty (by rfl) (by rfl) (by simp), .inr ⟨rfl, rfl, rfl, rfl, hno⟩⟩
theorem eu_none0 {m : Nat} {l : List UInt8} {w W : World} (hb : Below w.heap.size w W) (hno : ∀ (x' : ByteArray) (v' : Int) (t' : T (m + 1)), okE (m + 1) x' v' t' = true -> packE (m + 1) x' v' t' ≠ l) :
  EUPost m l w (.returned (.tuple #[.agg #[.string ⟨#[]⟩, .int .i64 0, .int .i64 0, .int .i64 0, .string ⟨#[]⟩, .slice none 0 0, .slice none 0 0], .bool false])) W :=
 ⟨hb, false, ByteArray.empty, 0, (⟨0, 0, ByteArray.empty, [], []⟩ : Nd (T m)), _, _, _, _, _, rfl, leafR_in _ _ m 0 0 ByteArray.empty (by rfl) (by rfl) (by simp), .inr ⟨rfl, rfl, rfl, rfl, hno⟩⟩
theorem eu_some {m : Nat} {l : List UInt8} {w W : World} {N : Nat} {x : ByteArray} {v : Int} {t : T (m + 1)} {c0 c1 c2 c3 c4 : Value} (hN : N = w.heap.size) (hb : Below w.heap.size w W) (ht : TreeIn (fun b => N + 1 <= b /\ b < W.heap.size) W (m + 1) t c0 c1 c2 c3 c4) (ho : okE (m + 1) x v t = true) (hp : packE (m + 1) x v t = l) :
  EUPost m l w (.returned (.tuple #[.agg #[.string x, .int .i64 v, c0, c1, c2, c3, c4], .bool true])) (put7 W N (.string x) (.int .i64 v) c0 c1 c2 c3 c4) :=
 ⟨put7_below hb (by omega), true, x, v, t, _, _, _, _, _, rfl, ht.keep (fun b hb => put7_other (by omega)) (fun b hb => ⟨by omega, by rw [put7_size]; exact hb.2⟩), .inl ⟨rfl, ho, hp⟩⟩
structure EU (w W : World) (ao : Option Addr) (l : List UInt8) (cap i : Nat) (bad : Bool) (X : Nat) (a0 a1 a2 a3 a4 a5 a6 : Value) : Prop where
 src : BytesA (fun b => b < w.heap.size) w ao l cap
 len : l.length <= 9000
 below : Below w.heap.size w W
 zero : W.heap[w.heap.size]? = some (.cells #[.string ⟨#[]⟩, .int .i64 0, .int .i64 0, .int .i64 0, .string ⟨#[]⟩, .slice none 0 0, .slice none 0 0] 29 (0, 0))
 rbox : W.heap[w.heap.size + 1]? = some (.cells #[.slice ao l.length cap, .int .i64 (i : Int), .bool bad] 45 (0, 0))
 le : i <= l.length
 lt : w.heap.size + 1 < X
 box : W.heap[X]? = some (.cells #[a0, a1, a2, a3, a4, a5, a6] 29 (0, 0))
theorem EU.ltX {w W : World} {ao : Option Addr} {l : List UInt8} {cap i : Nat} {bad : Bool} {X : Nat} {a0 a1 a2 a3 a4 a5 a6 : Value} (h : EU w W ao l cap i bad X a0 a1 a2 a3 a4 a5 a6) : X < W.heap.size := (Array.getElem?_eq_some_iff.1 h.box).1
theorem rd_of {w W : World} {ao : Option Addr} {l : List UInt8} {cap i : Nat} {bad : Bool} (hs : BytesA (fun b => b < w.heap.size) w ao l cap) (hl : l.length <= 9000) (hb : Below w.heap.size w W) (hr : W.heap[w.heap.size + 1]? = some (.cells #[.slice ao l.length cap, .int .i64 (i : Int), .bool bad] 45 (0, 0))) (hi : i <= l.length) : R4 W (w.heap.size + 1) ao l cap i bad :=
 ⟨hr, hl, hi, hs.lc, fun j hj => by
  obtain ⟨b, off, ha, hlt, hc⟩ := hs.bytes j hj
  exact ⟨b, off, ha, by omega, (World.cell?_of_block (hb.block b hlt)).trans hc⟩⟩
theorem EU.rd {w W : World} {ao : Option Addr} {l : List UInt8} {cap i : Nat} {bad : Bool} {X : Nat} {a0 a1 a2 a3 a4 a5 a6 : Value} (h : EU w W ao l cap i bad X a0 a1 a2 a3 a4 a5 a6) : R4 W (w.heap.size + 1) ao l cap i bad := rd_of h.src h.len h.below h.rbox h.le
theorem EU.near {w W W' : World} {ao : Option Addr} {l : List UInt8} {cap i j : Nat} {bad bad' : Bool} {X : Nat} {a0 a1 a2 a3 a4 a5 a6 : Value} (h : EU w W ao l cap i bad X a0 a1 a2 a3 a4 a5 a6) (hn : Near (w.heap.size + 1) W W') (hr : R4 W' (w.heap.size + 1) ao l cap j bad') : EU w W' ao l cap j bad' X a0 a1 a2 a3 a4 a5 a6 := by
 have hX := h.ltX
 have hl := h.lt
 have hs := h.below.size
 exact ⟨h.src, h.len, ⟨by rw [hn.os]; exact h.below.os, by rw [hn.tape]; exact h.below.tape, by rw [hn.output]; exact h.below.output, Nat.le_trans hs hn.size, fun b hb => (hn.block b (by omega) (by omega)).trans (h.below.block b hb)⟩, (hn.block _ (by omega) (by omega)).trans h.zero, hr.box, hr.le, hl, (hn.block X hX (by omega)).trans h.box⟩
theorem EU.same {w W W' : World} {ao : Option Addr} {l : List UInt8} {cap i : Nat} {bad : Bool} {X : Nat} {a0 a1 a2 a3 a4 a5 a6 : Value} (h : EU w W ao l cap i bad X a0 a1 a2 a3 a4 a5 a6) (hb : Below W.heap.size W W') : EU w W' ao l cap i bad X a0 a1 a2 a3 a4 a5 a6 := h.near (Near.of_below hb) (h.rd.same hb)
theorem EU.change {w W W' : World} {ao : Option Addr} {l : List UInt8} {cap i : Nat} {bad : Bool} {X : Nat} {a0 a1 a2 a3 a4 a5 a6 : Value} (h : EU w W ao l cap i bad X a0 a1 a2 a3 a4 a5 a6) {b1 b2 b3 b4 b5 b6 : Value} (hb : Below w.heap.size W W') (qq : ∀ b, b ≠ X -> W'.heap[b]? = W.heap[b]?) (hx : W'.heap[X]? = some (.cells #[a0, b1, b2, b3, b4, b5, b6] 29 (0, 0))) : EU w W' ao l cap i bad X a0 b1 b2 b3 b4 b5 b6 := by
 have hl := h.lt
 exact ⟨h.src, h.len, h.below.trans hb, (qq _ (by omega)).trans h.zero, (qq _ (by omega)).trans h.rbox, h.le, hl, hx⟩
theorem EU.set1 {w W : World} {ao : Option Addr} {l : List UInt8} {cap i : Nat} {bad : Bool} {X : Nat} {a0 a1 a2 a3 a4 a5 a6 : Value} (h : EU w W ao l cap i bad X a0 a1 a2 a3 a4 a5 a6) (u : Value) : EU w (W.setCell ⟨X, 1, none⟩ u) ao l cap i bad X a0 u a2 a3 a4 a5 a6 := by
 have hl := h.lt
 exact h.change ((Below.refl _ _).setCell (by show w.heap.size <= X; omega) u) (fun b hb => Below.heap_setCell _ _ _ _ hb) (by simp [World.setCell, Array.getElem?_modify, h.box])
theorem EU.put {w W : World} {ao : Option Addr} {l : List UInt8} {cap i : Nat} {bad : Bool} {X : Nat} {a0 a1 a2 a3 a4 a5 a6 : Value} (h : EU w W ao l cap i bad X a0 a1 a2 a3 a4 a5 a6) (g0 g1 g2 g3 g4 : Value) : EU w (put5 W X 2 g0 g1 g2 g3 g4) ao l cap i bad X a0 a1 g0 g1 g2 g3 g4 := by
 have hl := h.lt
 exact h.change (put5_below (Below.refl _ _) (by omega)) (fun b hb => put5_other hb) (by simp [put5, World.setCell, Array.getElem?_modify, h.box])
end Go.Proofs.YtmjhcgjhlakceaaGreatDoor

namespace Go.Proofs.YtmjhcgjhlakceaaGreatDoor
open Go.RowKit
theorem tree4_any : ∀ (m : Nat), Tr4Said m := by
 intro m
 induction m with
 | zero => intro d R ao l cap i bad w hd hmd; omega
 | succ m ih => exact tree4_step m ih
set_option maxRecDepth 20000 in
set_option maxHeartbeats 1000000 in
theorem specEUnpack_any (m : Nat) (hm : 6 <= m) (l : List UInt8) (ao : Option Addr) (cap : Nat) (w : World) (h : BytesA (fun b => b < w.heap.size) w ao l cap) :
  Calls Tryz.prog 5 #[.slice ao l.length cap] w (EUPost m l w) := by
 have HSrc := Lib.hid h
 obtain ⟨ln, hln⟩ : ∃ ln, l.length = ln := ⟨_, rfl⟩
 obtain ⟨W0, hW0⟩ : ∃ W0, W0 = w.alloc (.cells #[.string ⟨#[]⟩, .int .i64 0, .int .i64 0, .int .i64 0, .string ⟨#[]⟩, .slice none 0 0, .slice none 0 0] 29) := ⟨_, rfl⟩
 have hb0 : Below w.heap.size w W0 := by rw [hW0]; exact (Below.refl _ _).alloc (Nat.le_refl _) _
 have hz0 : W0.heap.size = w.heap.size + 1 := by rw [hW0]; simp
 have hN0 : W0.heap[w.heap.size]? = some (.cells #[.string ⟨#[]⟩, .int .i64 0, .int .i64 0, .int .i64 0, .string ⟨#[]⟩, .slice none 0 0, .slice none 0 0] 29 (0, 0)) := by rw [hW0]; exact heap_alloc_new _ _
 have HLn := Lib.hid hln
 have HB0 := Lib.hid hb0
 have HN0 := Lib.hid hN0
 rw [hln]
 clear h hln hb0
 by_cases hL : 9000 < ln
 case pos =>
  have HP : Hid (EUPost m l w (.returned (.tuple #[.agg #[.string ⟨#[]⟩, .int .i64 0, .int .i64 0, .int .i64 0, .string ⟨#[]⟩, .slice none 0 0, .slice none 0 0], .bool false])) W0) := eu_none0 HB0.out (fun x' v' t' ho hp => by have h1 := packE_len ho; rw [hp] at h1; have := HLn.out; omega)
  obtain ⟨⟨z0, z1, z2, z3, z4, z5, z6⟩, f0, f1, f2, f3, f4, f5, f6⟩ := ev7_cells hN0
  subst hW0
  have hLi : (9000 : Int) < (ln : Int) := by omega
  clear hN0 HN0 HB0 HLn HSrc
  go_enter Tryz.func5, Tryz.ntmps5
  go_wp2_with fail
  refine bodyPost_ret (v := .tuple #[.agg #[.string ⟨#[]⟩, .int .i64 0, .int .i64 0, .int .i64 0, .string ⟨#[]⟩, .slice none 0 0, .slice none 0 0], .bool false]) (by simp [results, Tryz.results5, go_sem, z0, z1, z2, z3, z4, z5, z6]) rfl ?_
  exact HP.out
 case neg =>
  have hLi : ¬ (9000 : Int) < (ln : Int) := by omega
  obtain ⟨W1, hW1⟩ : ∃ W1, W1 = W0.alloc (.cells #[.slice ao ln cap, .int .i64 0, .bool false] 45) := ⟨_, rfl⟩
  have hb1 : Below W0.heap.size W0 W1 := by rw [hW1]; exact (Below.refl _ _).alloc (Nat.le_refl _) _
  have hR1 : R4 W1 (w.heap.size + 1) ao l cap 0 false := by
   refine rd_of HSrc.out (by have := HLn.out; omega) (below_step HB0.out HB0.out.size hb1) ?_ (Nat.zero_le _)
   rw [HLn.out, hW1, <- hz0]; exact heap_alloc_new _ _
  have hN1 := (hb1.block w.heap.size (by omega)).trans HN0.out
  have HC := Lib.hid (short_any W1 (w.heap.size + 1) ao l cap 0 false hR1)
  have HB1 := Lib.hid (below_step HB0.out HB0.out.size hb1)
  have HN1 := Lib.hid hN1
  have hz1 : W1.heap.size = w.heap.size + 2 := by rw [hW1]; simp [hz0]
  clear hb1 hR1 hN1 hN0 HN0 HB0
  go_enter Tryz.func5, Tryz.ntmps5
  go_wp2_with fail
  rw [<- hW0, <- hW1]
  clear hW0 hW1
  refine HC.out.mono ?_
  rintro e w2 ⟨x, i1, b1, rfl, hx, hsh, hR2, hn2⟩
  have hs2 := hn2.size
  obtain ⟨X, hX⟩ : ∃ X, w2.heap.size = X := ⟨_, rfl⟩
  obtain ⟨W2, hW2⟩ : ∃ W2, W2 = w2.alloc (.cells #[.string x, .int .i64 0, .int .i64 0, .int .i64 0, .string ⟨#[]⟩, .slice none 0 0, .slice none 0 0] 29) := ⟨_, rfl⟩
  have hb2 : Below w2.heap.size w2 W2 := by rw [hW2]; exact (Below.refl _ _).alloc (Nat.le_refl _) _
  have hE2 : EU w W2 ao l cap i1 b1 X (.string x) (.int .i64 0) (.int .i64 0) (.int .i64 0) (.string ⟨#[]⟩) (.slice none 0 0) (.slice none 0 0) := by
   refine ⟨HSrc.out, by have := HLn.out; omega, ⟨by rw [hb2.os, hn2.os]; exact HB1.out.os, by rw [hb2.tape, hn2.tape]; exact HB1.out.tape, by rw [hb2.output, hn2.output]; exact HB1.out.output, by have := hb2.size; omega, fun b hb => (hb2.block b (by omega)).trans ((hn2.block b (by omega) (by omega)).trans (HB1.out.block b hb))⟩, ?_, (hb2.block _ (by omega)).trans hR2.box, hR2.le, by omega, ?_⟩
   ·exact (hb2.block _ (by omega)).trans ((hn2.block _ (by omega) (by omega)).trans HN1.out)
   ·rw [hW2, <- hX]; exact heap_alloc_new _ _
  have HSh := Lib.hid hsh
  have HE2 := Lib.hid hE2
  have HC2 := Lib.hid (one_any W2 (w.heap.size + 1) ao l cap i1 b1 hE2.rd)
  clear HC hsh hR2 hn2 hb2 hE2 HB1 HN1
  go_wp2_with fail
  rw [<- hW2]
  try rw [hX]
  clear hW2
  refine HC2.out.mono ?_
  rintro e w3 ⟨v, i2, b2, rfl, hv, hone, hR3, hn3⟩
  have hE3 := HE2.out.near hn3 hR3
  obtain ⟨⟨s0, s1, s2, s3, s4, s5, s6⟩, g0, g1, g2, g3, g4, g5, g6⟩ := ev7_cells hE3.box
  obtain ⟨W3, hW3⟩ : ∃ W3, W3 = w3.setCell ⟨X, 1, none⟩ (.int .i64 (v : Int)) := ⟨_, rfl⟩
  have hE3' := hE3.set1 (.int .i64 (v : Int))
  rw [<- hW3] at hE3'
  have HOne := Lib.hid hone
  have HE3 := Lib.hid hE3'
  have HC3 := Lib.hid (tree4_any (m + 1) 1 (w.heap.size + 1) ao l cap i2 b2 W3 (by omega) (by omega) hE3'.rd)
  clear HC2 hone hR3 hn3 hE3 hE3' HE2
  go_wp2_with fail
  rw [<- hW3]
  clear hW3 s0 s1 s2 s3 s4 s5 s6 g0 g1 g2 g3 g4 g5 g6
  refine HC3.out.mono ?_
  rintro e w4 ⟨hn4, t, q0, q1, q2, q3, q4, i3, b3, rfl, ht, hR4, htr⟩
  obtain ⟨t0, t1, t2, ta, tl, tc, ua, ul, uc, rfl, rfl, rfl, rfl, rfl⟩ := ht.shape
  have hE4 := HE3.out.near hn4 hR4
  have hs4 := hn4.size
  have hX3 := HE3.out.ltX
  have hXl := HE3.out.lt
  obtain ⟨⟨s0, s1, s2, s3, s4, s5, s6⟩, g0, g1, g2, g3, g4, g5, g6⟩ := ev7_cells hE4.box
  obtain ⟨V, hV⟩ : ∃ V, V = put5 w4 X 2 (.int .i64 t0) (.int .i64 t1) (.string t2) (.slice ta tl tc) (.slice ua ul uc) := ⟨_, rfl⟩
  have hE5 := hE4.put (.int .i64 t0) (.int .i64 t1) (.string t2) (.slice ta tl tc) (.slice ua ul uc)
  rw [<- hV] at hE5
  have htV : TreeIn (fun b => w.heap.size + 1 <= b /\ b < V.heap.size) V (m + 1) t (.int .i64 t0) (.int .i64 t1) (.string t2) (.slice ta tl tc) (.slice ua ul uc) :=
   ht.keep (fun b hb => by rw [hV]; exact put5_other (by omega)) (fun b hb => ⟨by omega, by rw [hV, put5_size]; exact hb.2⟩)
  have HRead : Hid (∀ (x' : ByteArray) (v' : Int) (t' : T (m + 1)), okE (m + 1) x' v' t' = true -> packE (m + 1) x' v' t' = l -> x = x' /\ (v : Int) = v' /\ t = t' /\ b3 = false /\ l.drop i3 = []) := fun x' v' t' ho hp => event_read HSh.out HOne.out htr ho hp
  have HE := Lib.hid hE5
  have HT := Lib.hid htV
  have HV : Hid (put5 w4 X 2 (.int .i64 t0) (.int .i64 t1) (.string t2) (.slice ta tl tc) (.slice ua ul uc) = V) := hV.symm
  clear HC3 hn4 ht hR4 htr hE4 hE5 htV hV HE3 HOne HSh
  go_upto_region 7 with fail
  have HV2 := HV.out
  unfold put5 at HV2
  try rw [HV2]
  clear HV HV2 s0 s1 s2 s3 s4 s5 s6 g0 g1 g2 g3 g4 g5 g6
  have hXs := HE.out.ltX
  obtain ⟨⟨k0, k1, k2⟩, -⟩ := HE.out.rd.cells
  obtain ⟨⟨s0, s1, s2, s3, s4, s5, s6⟩, -⟩ := ev7_cells HE.out.box
  have hle := HE.out.le
  rw [HLn.out] at hle
  cases b3
  case true =>
   have HP : Hid (EUPost m l w (.returned (.tuple #[.agg #[.string ⟨#[]⟩, .int .i64 0, .int .i64 0, .int .i64 0, .string ⟨#[]⟩, .slice none 0 0, .slice none 0 0], .bool false])) (put7 V w.heap.size (.string ⟨#[]⟩) (.int .i64 0) (.int .i64 0) (.int .i64 0) (.string ⟨#[]⟩) (.slice none 0 0) (.slice none 0 0))) := eu_none rfl HE.out.below (fun x' v' t' ho hp => by have h := HRead.out x' v' t' ho hp; exact absurd h.2.2.2.1 (by simp))
   obtain ⟨⟨z0, z1, z2, z3, z4, z5, z6⟩, f0, f1, f2, f3, f4, f5, f6⟩ := ev7_cells HE.out.zero
   clear HRead HE HT HLn HSrc
   go_wp2_with fail
   refine bodyPost_ret (v := .tuple #[.agg #[.string ⟨#[]⟩, .int .i64 0, .int .i64 0, .int .i64 0, .string ⟨#[]⟩, .slice none 0 0, .slice none 0 0], .bool false]) (by simp [results, Tryz.results5, go_sem, z0, z1, z2, z3, z4, z5, z6]) rfl ?_
   exact HP.out
  case false =>
   by_cases hi3 : i3 = ln
   case neg =>
    have hi3' : ¬ (i3 : Int) = (ln : Int) := by omega
    have HP : Hid (EUPost m l w (.returned (.tuple #[.agg #[.string ⟨#[]⟩, .int .i64 0, .int .i64 0, .int .i64 0, .string ⟨#[]⟩, .slice none 0 0, .slice none 0 0], .bool false])) (put7 V w.heap.size (.string ⟨#[]⟩) (.int .i64 0) (.int .i64 0) (.int .i64 0) (.string ⟨#[]⟩) (.slice none 0 0) (.slice none 0 0))) := eu_none rfl HE.out.below (fun x' v' t' ho hp => by have h := (HRead.out x' v' t' ho hp).2.2.2.2; have h2 := congrArg List.length h; rw [List.length_drop, HLn.out] at h2; simp at h2; omega)
    obtain ⟨⟨z0, z1, z2, z3, z4, z5, z6⟩, f0, f1, f2, f3, f4, f5, f6⟩ := ev7_cells HE.out.zero
    clear HRead HE HT HLn HSrc
    go_wp2_with fail
    refine bodyPost_ret (v := .tuple #[.agg #[.string ⟨#[]⟩, .int .i64 0, .int .i64 0, .int .i64 0, .string ⟨#[]⟩, .slice none 0 0, .slice none 0 0], .bool false]) (by simp [results, Tryz.results5, go_sem, z0, z1, z2, z3, z4, z5, z6]) rfl ?_
    exact HP.out
   case pos =>
    subst hi3
    have HC4 := Lib.hid (specEOk_any (m + 1) _ x (v : Int) t _ _ _ _ _ V (by unfold maxLen; omega) HT.out (fun b hb => hb.2))
    go_wp2_with fail
    refine HC4.out.mono ?_
    rintro e w5 ⟨rfl, hb5⟩
    have hE5 := HE.out.same hb5
    have hT5 := HT.out.step (fun b hb => hb.2) hb5
    have hs5 := hb5.size
    cases hok : okE (m + 1) x (v : Int) t
    case false =>
     have HP : Hid (EUPost m l w (.returned (.tuple #[.agg #[.string ⟨#[]⟩, .int .i64 0, .int .i64 0, .int .i64 0, .string ⟨#[]⟩, .slice none 0 0, .slice none 0 0], .bool false])) (put7 w5 w.heap.size (.string ⟨#[]⟩) (.int .i64 0) (.int .i64 0) (.int .i64 0) (.string ⟨#[]⟩) (.slice none 0 0) (.slice none 0 0))) := eu_none rfl hE5.below (fun x' v' t' ho hp => by obtain ⟨rfl, rfl, rfl, -⟩ := HRead.out x' v' t' ho hp; rw [hok] at ho; cases ho)
     obtain ⟨⟨z0, z1, z2, z3, z4, z5, z6⟩, f0, f1, f2, f3, f4, f5, f6⟩ := ev7_cells hE5.zero
     clear HRead HE HT HLn HSrc hE5 hT5 HC4 hok hb5 k0 k1 k2 s0 s1 s2 s3 s4 s5 s6
     go_wp2_with fail
     refine bodyPost_ret (v := .tuple #[.agg #[.string ⟨#[]⟩, .int .i64 0, .int .i64 0, .int .i64 0, .string ⟨#[]⟩, .slice none 0 0, .slice none 0 0], .bool false]) (by simp [results, Tryz.results5, go_sem, z0, z1, z2, z3, z4, z5, z6]) rfl ?_
     exact HP.out
    case true =>
     have HOk := Lib.hid hok
     have HE5 := Lib.hid hE5
     have HT5 := Lib.hid hT5
     have HC5 := Lib.hid (specEPack_any (m + 1) _ x (v : Int) t _ _ _ _ _ w5 (by unfold maxLen; omega) hT5.1 hT5.2)
     obtain ⟨⟨s0, s1, s2, s3, s4, s5, s6⟩, -⟩ := ev7_cells hE5.box
     clear hok hE5 hT5 hb5 HC4 HE HT k0 k1 k2
     go_wp2_with fail
     refine HC5.out.mono ?_
     rintro e w6 ⟨u, rfl, hrow, hb6⟩
     have hpk : bytesE (m + 1) x (v : Int) t = packE (m + 1) x (v : Int) t := by unfold bytesE; rw [if_pos HOk.out]
     rw [hpk] at hrow
     have hE6 := HE5.out.same hb6
     have hT6 := HT5.out.1.step HT5.out.2 hb6
     have hs6 := hb6.size
     have hcv : (convert 22 9 (.slice ao i3 cap)).run Tryz.prog w6 = .ok (.string ⟨l.toArray⟩) w6 := by
      have h := conv_bytes (w := w6) (ao := ao) (l := l) (cap := cap) (fun j hj => by
       obtain ⟨b, off, ha, hb, hc⟩ := HSrc.out.bytes j hj
       exact ⟨b, off, ha, (World.cell?_of_block (hE6.below.block b hb)).trans hc⟩)
      rw [HLn.out] at h; exact h
     have HC6 := Lib.hid (l4Same_any w6 u (.slice ao i3 cap) _ l (conv_row hrow) hcv)
     have HE6 := Lib.hid hE6
     have HT6 := Lib.hid hT6
     clear hrow hcv hpk hE6 hT6 hb6 HC5 HE5 HT5 s0 s1 s2 s3 s4 s5 s6
     go_wp2_with fail
     refine HC6.out.mono ?_
     rintro e w7 ⟨rfl, rfl⟩
     by_cases hpe : packE (m + 1) x (v : Int) t = l
     case neg =>
      have hde : decide (packE (m + 1) x (v : Int) t = l) = false := decide_eq_false hpe
      have HP : Hid (EUPost m l w (.returned (.tuple #[.agg #[.string ⟨#[]⟩, .int .i64 0, .int .i64 0, .int .i64 0, .string ⟨#[]⟩, .slice none 0 0, .slice none 0 0], .bool false])) (put7 w7 w.heap.size (.string ⟨#[]⟩) (.int .i64 0) (.int .i64 0) (.int .i64 0) (.string ⟨#[]⟩) (.slice none 0 0) (.slice none 0 0))) := eu_none rfl HE6.out.below (fun x' v' t' ho hp => by obtain ⟨rfl, rfl, rfl, -⟩ := HRead.out x' v' t' ho hp; exact hpe hp)
      obtain ⟨⟨z0, z1, z2, z3, z4, z5, z6⟩, f0, f1, f2, f3, f4, f5, f6⟩ := ev7_cells HE6.out.zero
      rw [hde]
      clear HRead HE6 HT6 HLn HSrc HC6 hde hpe HOk
      go_wp2_with fail
      refine bodyPost_ret (v := .tuple #[.agg #[.string ⟨#[]⟩, .int .i64 0, .int .i64 0, .int .i64 0, .string ⟨#[]⟩, .slice none 0 0, .slice none 0 0], .bool false]) (by simp [results, Tryz.results5, go_sem, z0, z1, z2, z3, z4, z5, z6]) rfl ?_
      exact HP.out
     case pos =>
      have hde : decide (packE (m + 1) x (v : Int) t = l) = true := decide_eq_true hpe
      have HP : Hid (EUPost m l w (.returned (.tuple #[.agg #[.string x, .int .i64 (v : Int), .int .i64 t0, .int .i64 t1, .string t2, .slice ta tl tc, .slice ua ul uc], .bool true])) (put7 w7 w.heap.size (.string x) (.int .i64 (v : Int)) (.int .i64 t0) (.int .i64 t1) (.string t2) (.slice ta tl tc) (.slice ua ul uc))) := eu_some rfl HE6.out.below (HT6.out.1.keep (fun _ _ => rfl) (fun b hb => ⟨hb.1, HT6.out.2 b hb⟩)) HOk.out hpe
      obtain ⟨⟨z0, z1, z2, z3, z4, z5, z6⟩, f0, f1, f2, f3, f4, f5, f6⟩ := ev7_cells HE6.out.zero
      obtain ⟨⟨s0, s1, s2, s3, s4, s5, s6⟩, -⟩ := ev7_cells HE6.out.box
      rw [hde]
      clear HRead HE6 HT6 HLn HSrc HC6 hde hpe HOk
      go_wp2_with fail
      refine bodyPost_ret (v := .tuple #[.agg #[.string x, .int .i64 (v : Int), .int .i64 t0, .int .i64 t1, .string t2, .slice ta tl tc, .slice ua ul uc], .bool true]) (by simp [results, Tryz.results5, go_sem, z0, z1, z2, z3, z4, z5, z6]) rfl ?_
      exact HP.out
end Go.Proofs.YtmjhcgjhlakceaaGreatDoor
