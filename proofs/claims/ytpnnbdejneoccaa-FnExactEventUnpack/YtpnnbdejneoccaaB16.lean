/-
  Several texts in one, in their order.
-/
import Derived.Test.YtpnnbdejneoccaaER4
import Derived.Test.YtpnnbdejneoccaaES4
import Derived.Test.YtpnnbdejneoccaaEL0

/-
  The specification's reader of bytes: two rows of bytes compared; what an event read is.
-/
namespace Go.Proofs.Ytpnnbdejneoccaa
open Go.RowKit

/-- A row of bytes that is given. -/
structure BytesA (S : Nat → Prop) (w : World) (ao : Option Addr) (l : List UInt8) (cap : Nat) : Prop where
  lc : l.length ≤ cap ∧ cap ≤ maxLen
  bytes : ∀ j (hj : j < l.length), ∃ b off, ao = some ⟨b, off, none⟩ ∧ S b ∧ w.cell? ⟨b, off + j, none⟩ = some (.int .u8 (l[j].toNat : Int))

theorem BytesA.keep {S : Nat → Prop} {w w' : World} {ao : Option Addr} {l : List UInt8} {cap : Nat} (h : BytesA S w ao l cap) (hs : ∀ b, S b → w'.heap[b]? = w.heap[b]?) : BytesA S w' ao l cap :=
  ⟨h.lc, fun j hj => by
    obtain ⟨b, off, ha, hb, hc⟩ := h.bytes j hj
    exact ⟨b, off, ha, hb, (World.cell?_of_block (hs b hb)).trans hc⟩⟩

/-- A row of bytes, as a text. -/
theorem conv_bytes {w : World} {ao : Option Addr} {l : List UInt8} {cap : Nat} (h : ∀ j (hj : j < l.length), ∃ b off, ao = some ⟨b, off, none⟩ ∧ w.cell? ⟨b, off + j, none⟩ = some (.int .u8 (l[j].toNat : Int))) :
    (convert 29 9 (.slice ao l.length cap)).run Try.prog w = .ok (.string ⟨l.toArray⟩) w := by
  cases ao with
  | none =>
    cases l with
    | nil => exact run_convert_bytes_nil (P := Try.prog) w 29 5 Try.underlying29 Try.underlying5 0 _ 9 Try.underlying9
    | cons a l => obtain ⟨b, off, ha, -⟩ := h 0 (by simp); cases ha
  | some ad =>
    refine run_convert_bytes_back (P := Try.prog) w 29 9 5 ad cap l Try.underlying29 Try.underlying5 Try.underlying9 fun j hj => ?_
    obtain ⟨b, off, ha, hc⟩ := h j hj
    cases ha
    rw [Addr.add_lit]; exact hc

theorem conv_row {S : Nat → Prop} {w : World} {l : List UInt8} {v : Value} (h : Row1 S w byteR l v) : (convert 29 9 v).run Try.prog w = .ok (.string ⟨l.toArray⟩) w := by
  obtain ⟨ao, cap, rfl, -, hc⟩ := h
  refine conv_bytes fun j hj => ?_
  obtain ⟨b, off, ha, -, hx⟩ := hc (fun e => by rw [e] at hj; simp at hj)
  obtain ⟨c, hcell, hr⟩ := hx j hj
  rw [hr] at hcell
  exact ⟨b, off, ha, hcell⟩

set_option maxRecDepth 20000 in
set_option maxHeartbeats 1000000 in
theorem l4Same_any (w : World) (v1 v2 : Value) (l1 l2 : List UInt8) (h1 : (convert 29 9 v1).run Try.prog w = .ok (.string ⟨l1.toArray⟩) w) (h2 : (convert 29 9 v2).run Try.prog w = .ok (.string ⟨l2.toArray⟩) w) :
    Calls Try.prog 31 #[v1, v2] w fun e w' => e = .returned (.bool (decide (l1 = l2))) ∧ w' = w := by
  obtain ⟨s1, e1⟩ : ∃ s : ByteArray, s = ⟨l1.toArray⟩ := ⟨_, rfl⟩
  obtain ⟨s2, e2⟩ : ∃ s : ByteArray, s = ⟨l2.toArray⟩ := ⟨_, rfl⟩
  rw [← e1] at h1
  rw [← e2] at h2
  have hd : decide (l1 = l2) = decide (s1 = s2) := by
    rw [e1, e2]
    by_cases h : l1 = l2
    · subst h; simp
    · rw [decide_eq_false h, decide_eq_false]
      intro e
      injection e with e
      exact h (by simpa using congrArg Array.toList e)
  rw [hd]
  clear e1 e2 hd
  go_enter Try.func31, Try.ntmps31
  go_wp2_with fail
  go_ret
  refine ⟨congrArg (fun b => Ending.returned (Value.bool b)) ?_, rfl⟩
  by_cases h : s1 = s2
  · subst h
    rw [decide_eq_true rfl]
    show (s1.toList == s1.toList) = true
    simp
  · rw [decide_eq_false h]
    show (s1.toList == s2.toList) = false
    rw [beq_eq_false_iff_ne]
    intro e
    rw [ByteArray.toList_eq, ByteArray.toList_eq] at e
    apply h
    cases s1 with | mk d1 => cases s2 with | mk d2 => simpa using e

/-- What an event read is: all that an event of these bytes must be. -/
theorem event_read {m : Nat} {l : List UInt8} {x : ByteArray} {i1 : Nat} {b1 : Bool} {v i2 : Nat} {b2 : Bool} {t : T m} {i3 : Nat} {b3 : Bool} (h1 : shortR l 0 false x i1 b1) (h2 : oneR l i1 b1 v i2 b2) (h3 : treeR m 1 l i2 b2 t i3 b3)
    {x' : ByteArray} {v' : Int} {t' : T m} (ho : okE m x' v' t' = true) (hp : packE m x' v' t' = l) : x = x' ∧ (v : Int) = v' ∧ t = t' ∧ b3 = false ∧ l.drop i3 = [] := by
  obtain ⟨hnm, hv, -, hokT⟩ := okE_parts ho
  have hx8 : x'.size ≤ 8 := by simp only [nameB, Bool.and_eq_true, decide_eq_true_eq] at hnm; exact hnm.1.1.2
  have hg := okT_getE hokT
  obtain ⟨a1, -, a3, a4⟩ := h1 x' (b8 v' :: packT m t') rfl (by omega) (by rw [List.drop_zero, ← hp]; rfl)
  obtain ⟨c1, -, c3, c4⟩ := oneR_cons h2 a4
  have hv2 : (v : Int) = v' := by
    obtain ⟨k, rfl⟩ : ∃ k : Nat, v' = (k : Int) := ⟨v'.toNat, by omega⟩
    rw [b8_toNat (by omega)] at c1
    omega
  obtain ⟨d1, d2, d3⟩ := h3 t' [] (by rw [c3]; exact a3) hg.1 hg.2 (by rw [c4, List.append_nil])
  exact ⟨a1, hv2, d1, d2, d3⟩

theorem packE_len {m : Nat} {x : ByteArray} {v : Int} {t : T m} (ho : okE m x v t = true) : (packE m x v t).length ≤ 9000 := by
  obtain ⟨hnm, hv, -, hokT⟩ := okE_parts ho
  have hx8 : x.size ≤ 8 := by simp only [nameB, Bool.and_eq_true, decide_eq_true_eq] at hnm; exact hnm.1.1.2
  have hg := okT_getE hokT
  have h1 := packT_len m t 1 hg.1
  have h2 := shortB_len x
  unfold packE
  rw [List.length_append, List.length_cons]
  omega

/-- What EventUnpack answers: the event of the bytes, or none. -/
def EUnp (m : Nat) (l : List UInt8) (ok : Bool) (x : ByteArray) (v : Int) (t : T (m + 1)) : Prop :=
  (ok = true ∧ okE (m + 1) x v t = true ∧ packE (m + 1) x v t = l) ∨ (ok = false ∧ x = ByteArray.empty ∧ v = 0 ∧ t = (⟨0, 0, ByteArray.empty, [], []⟩ : Nd (T m)) ∧ ∀ (x' : ByteArray) (v' : Int) (t' : T (m + 1)), okE (m + 1) x' v' t' = true → packE (m + 1) x' v' t' ≠ l)

end Go.Proofs.Ytpnnbdejneoccaa

/-
  The specification's EventUnpack.
-/
namespace Go.Proofs.Ytpnnbdejneoccaa
open Go.RowKit

/-- What EventUnpack makes. -/
def EUPost (m : Nat) (l : List UInt8) (w : World) (e : Ending) (w' : World) : Prop :=
  Below w.heap.size w w' ∧ ∃ (ok : Bool) (x : ByteArray) (v : Int) (t : T (m + 1)) (c0 c1 c2 c3 c4 : Value), e = .returned (.tuple #[.agg #[.string x, .int .i64 v, c0, c1, c2, c3, c4], .bool ok]) ∧ TreeIn (fun b => w.heap.size ≤ b ∧ b < w'.heap.size) w' (m + 1) t c0 c1 c2 c3 c4 ∧ EUnp m l ok x v t

theorem eu_none {m : Nat} {l : List UInt8} {w W : World} {N : Nat} (hN : N = w.heap.size) (hb : Below w.heap.size w W) (hno : ∀ (x' : ByteArray) (v' : Int) (t' : T (m + 1)), okE (m + 1) x' v' t' = true → packE (m + 1) x' v' t' ≠ l) :
    EUPost m l w (.returned (.tuple #[.agg #[.string ⟨#[]⟩, .int .i64 0, .int .i64 0, .int .i64 0, .string ⟨#[]⟩, .slice none 0 0, .slice none 0 0], .bool false])) (put7 W N (.string ⟨#[]⟩) (.int .i64 0) (.int .i64 0) (.int .i64 0) (.string ⟨#[]⟩) (.slice none 0 0) (.slice none 0 0)) :=
  ⟨put7_below hb (by omega), false, ByteArray.empty, 0, (⟨0, 0, ByteArray.empty, [], []⟩ : Nd (T m)), _, _, _, _, _, rfl, leafR_in _ _ m 0 0 ByteArray.empty (by rfl) (by rfl) (by simp), .inr ⟨rfl, rfl, rfl, rfl, hno⟩⟩

theorem eu_none0 {m : Nat} {l : List UInt8} {w W : World} (hb : Below w.heap.size w W) (hno : ∀ (x' : ByteArray) (v' : Int) (t' : T (m + 1)), okE (m + 1) x' v' t' = true → packE (m + 1) x' v' t' ≠ l) :
    EUPost m l w (.returned (.tuple #[.agg #[.string ⟨#[]⟩, .int .i64 0, .int .i64 0, .int .i64 0, .string ⟨#[]⟩, .slice none 0 0, .slice none 0 0], .bool false])) W :=
  ⟨hb, false, ByteArray.empty, 0, (⟨0, 0, ByteArray.empty, [], []⟩ : Nd (T m)), _, _, _, _, _, rfl, leafR_in _ _ m 0 0 ByteArray.empty (by rfl) (by rfl) (by simp), .inr ⟨rfl, rfl, rfl, rfl, hno⟩⟩

theorem eu_some {m : Nat} {l : List UInt8} {w W : World} {N : Nat} {x : ByteArray} {v : Int} {t : T (m + 1)} {c0 c1 c2 c3 c4 : Value} (hN : N = w.heap.size) (hb : Below w.heap.size w W) (ht : TreeIn (fun b => N + 1 ≤ b ∧ b < W.heap.size) W (m + 1) t c0 c1 c2 c3 c4) (ho : okE (m + 1) x v t = true) (hp : packE (m + 1) x v t = l) :
    EUPost m l w (.returned (.tuple #[.agg #[.string x, .int .i64 v, c0, c1, c2, c3, c4], .bool true])) (put7 W N (.string x) (.int .i64 v) c0 c1 c2 c3 c4) :=
  ⟨put7_below hb (by omega), true, x, v, t, _, _, _, _, _, rfl, ht.keep (fun b hb => put7_other (by omega)) (fun b hb => ⟨by omega, by rw [put7_size]; exact hb.2⟩), .inl ⟨rfl, ho, hp⟩⟩

theorem ev7_cells {w : World} {N : Nat} {a0 a1 a2 a3 a4 a5 a6 : Value} (h : w.heap[N]? = some (.cells #[a0, a1, a2, a3, a4, a5, a6] 35 (0, 0))) :
    (w.cell? ⟨N, 0, none⟩ = some a0 ∧ w.cell? ⟨N, 1, none⟩ = some a1 ∧ w.cell? ⟨N, 2, none⟩ = some a2 ∧ w.cell? ⟨N, 3, none⟩ = some a3 ∧ w.cell? ⟨N, 4, none⟩ = some a4 ∧ w.cell? ⟨N, 5, none⟩ = some a5 ∧ w.cell? ⟨N, 6, none⟩ = some a6) ∧
      w.frozen? ⟨N, 0, none⟩ = false ∧ w.frozen? ⟨N, 1, none⟩ = false ∧ w.frozen? ⟨N, 2, none⟩ = false ∧ w.frozen? ⟨N, 3, none⟩ = false ∧ w.frozen? ⟨N, 4, none⟩ = false ∧ w.frozen? ⟨N, 5, none⟩ = false ∧ w.frozen? ⟨N, 6, none⟩ = false := by
  refine ⟨⟨?_, ?_, ?_, ?_, ?_, ?_, ?_⟩, ?_, ?_, ?_, ?_, ?_, ?_, ?_⟩ <;> simp [World.cell?, World.frozen?, h]

/-- What stands while the event is read: its block at X, the answer's at N = w.heap.size, the reader's at N + 1. -/
structure EU (w W : World) (ao : Option Addr) (l : List UInt8) (cap i : Nat) (bad : Bool) (X : Nat) (a0 a1 a2 a3 a4 a5 a6 : Value) : Prop where
  src : BytesA (fun b => b < w.heap.size) w ao l cap
  len : l.length ≤ 9000
  below : Below w.heap.size w W
  zero : W.heap[w.heap.size]? = some (.cells #[.string ⟨#[]⟩, .int .i64 0, .int .i64 0, .int .i64 0, .string ⟨#[]⟩, .slice none 0 0, .slice none 0 0] 35 (0, 0))
  rbox : W.heap[w.heap.size + 1]? = some (.cells #[.slice ao l.length cap, .int .i64 (i : Int), .bool bad] 63 (0, 0))
  le : i ≤ l.length
  lt : w.heap.size + 1 < X
  box : W.heap[X]? = some (.cells #[a0, a1, a2, a3, a4, a5, a6] 35 (0, 0))

theorem EU.ltX {w W : World} {ao : Option Addr} {l : List UInt8} {cap i : Nat} {bad : Bool} {X : Nat} {a0 a1 a2 a3 a4 a5 a6 : Value} (h : EU w W ao l cap i bad X a0 a1 a2 a3 a4 a5 a6) : X < W.heap.size := (Array.getElem?_eq_some_iff.1 h.box).1

theorem rd_of {w W : World} {ao : Option Addr} {l : List UInt8} {cap i : Nat} {bad : Bool} (hs : BytesA (fun b => b < w.heap.size) w ao l cap) (hl : l.length ≤ 9000) (hb : Below w.heap.size w W) (hr : W.heap[w.heap.size + 1]? = some (.cells #[.slice ao l.length cap, .int .i64 (i : Int), .bool bad] 63 (0, 0))) (hi : i ≤ l.length) : R4 W (w.heap.size + 1) ao l cap i bad :=
  ⟨hr, hl, hi, hs.lc, fun j hj => by
    obtain ⟨b, off, ha, hlt, hc⟩ := hs.bytes j hj
    exact ⟨b, off, ha, by omega, (World.cell?_of_block (hb.block b hlt)).trans hc⟩⟩

theorem EU.rd {w W : World} {ao : Option Addr} {l : List UInt8} {cap i : Nat} {bad : Bool} {X : Nat} {a0 a1 a2 a3 a4 a5 a6 : Value} (h : EU w W ao l cap i bad X a0 a1 a2 a3 a4 a5 a6) : R4 W (w.heap.size + 1) ao l cap i bad := rd_of h.src h.len h.below h.rbox h.le

theorem EU.near {w W W' : World} {ao : Option Addr} {l : List UInt8} {cap i j : Nat} {bad bad' : Bool} {X : Nat} {a0 a1 a2 a3 a4 a5 a6 : Value} (h : EU w W ao l cap i bad X a0 a1 a2 a3 a4 a5 a6) (hn : Near (w.heap.size + 1) W W') (hr : R4 W' (w.heap.size + 1) ao l cap j bad') : EU w W' ao l cap j bad' X a0 a1 a2 a3 a4 a5 a6 := by
  have hX := h.ltX
  have hl := h.lt
  have hs := h.below.size
  exact ⟨h.src, h.len, ⟨by rw [hn.os]; exact h.below.os, by rw [hn.tape]; exact h.below.tape, by rw [hn.output]; exact h.below.output, Nat.le_trans hs hn.size, fun b hb => (hn.block b (by omega) (by omega)).trans (h.below.block b hb)⟩, (hn.block _ (by omega) (by omega)).trans h.zero, hr.box, hr.le, hl, (hn.block X hX (by omega)).trans h.box⟩

theorem EU.same {w W W' : World} {ao : Option Addr} {l : List UInt8} {cap i : Nat} {bad : Bool} {X : Nat} {a0 a1 a2 a3 a4 a5 a6 : Value} (h : EU w W ao l cap i bad X a0 a1 a2 a3 a4 a5 a6) (hb : Below W.heap.size W W') : EU w W' ao l cap i bad X a0 a1 a2 a3 a4 a5 a6 := h.near (Near.of_below hb) (h.rd.same hb)

theorem EU.change {w W W' : World} {ao : Option Addr} {l : List UInt8} {cap i : Nat} {bad : Bool} {X : Nat} {a0 a1 a2 a3 a4 a5 a6 : Value} (h : EU w W ao l cap i bad X a0 a1 a2 a3 a4 a5 a6) {b1 b2 b3 b4 b5 b6 : Value} (hb : Below w.heap.size W W') (qq : ∀ b, b ≠ X → W'.heap[b]? = W.heap[b]?) (hx : W'.heap[X]? = some (.cells #[a0, b1, b2, b3, b4, b5, b6] 35 (0, 0))) : EU w W' ao l cap i bad X a0 b1 b2 b3 b4 b5 b6 := by
  have hl := h.lt
  exact ⟨h.src, h.len, h.below.trans hb, (qq _ (by omega)).trans h.zero, (qq _ (by omega)).trans h.rbox, h.le, hl, hx⟩

theorem EU.set1 {w W : World} {ao : Option Addr} {l : List UInt8} {cap i : Nat} {bad : Bool} {X : Nat} {a0 a1 a2 a3 a4 a5 a6 : Value} (h : EU w W ao l cap i bad X a0 a1 a2 a3 a4 a5 a6) (u : Value) : EU w (W.setCell ⟨X, 1, none⟩ u) ao l cap i bad X a0 u a2 a3 a4 a5 a6 := by
  have hl := h.lt
  exact h.change ((Below.refl _ _).setCell (by show w.heap.size ≤ X; omega) u) (fun b hb => Below.heap_setCell _ _ _ _ hb) (by simp [World.setCell, Array.getElem?_modify, h.box])

theorem EU.put {w W : World} {ao : Option Addr} {l : List UInt8} {cap i : Nat} {bad : Bool} {X : Nat} {a0 a1 a2 a3 a4 a5 a6 : Value} (h : EU w W ao l cap i bad X a0 a1 a2 a3 a4 a5 a6) (g0 g1 g2 g3 g4 : Value) : EU w (put5 W X 2 g0 g1 g2 g3 g4) ao l cap i bad X a0 a1 g0 g1 g2 g3 g4 := by
  have hl := h.lt
  exact h.change (put5_below (Below.refl _ _) (by omega)) (fun b hb => put5_other hb) (by simp [put5, World.setCell, Array.getElem?_modify, h.box])

end Go.Proofs.Ytpnnbdejneoccaa

/-
  Bytes that came in, and copies of them.
-/
namespace Go.Proofs.Ytpnnbdejneoccaa
open Go.RowKit

theorem Try.info_byteT : (Try.prog.info? 5).map (fun i => (i.zero, i.size, i.bytes)) = some (some (.int .u8 0), 1, 1) := by kernel_rfl

theorem own_of_row {w : World} {b n base : Nat} {l : List UInt8} {F : Nat → Value} (h : w.rowIs b 5 n F) (hn : l.length = n) (hm : n ≤ maxLen) (hF : ∀ i (hi : i < l.length), F i = .int .u8 (l[i].toNat : Int)) (hb : base ≤ b) : OwnB base w (.slice (some ⟨b, 0, none⟩) l.length l.length) l := by
  obtain ⟨c, hc, hs, hi⟩ := h
  refine ⟨by simp [Lib.byteCells], .inr ⟨b, l.length, c, rfl, hb, hc, Nat.le_refl _, by omega, by omega, ?_⟩⟩
  refine List.ext_getElem? fun i => ?_
  by_cases hlt : i < l.length
  · rw [List.getElem?_take_of_lt (by omega), Array.getElem?_toList, hi i (by omega), hF i hlt]
    simp [Lib.byteCells, hlt]
  · rw [List.getElem?_eq_none (by rw [List.length_take]; omega), List.getElem?_eq_none (by simp [Lib.byteCells]; omega)]

set_option maxRecDepth 20000 in
set_option maxHeartbeats 1000000 in
theorem toByteS_any (l : List UInt8) (ao : Option Addr) (cap : Nat) (w : World) (h : BytesA (fun b => b < w.heap.size) w ao l cap) (hl : l.length ≤ 1048576) :
    Calls Try.prog 15 #[.slice ao l.length cap] w fun e w' => e = .returned (.slice (some ⟨w.heap.size, 0, none⟩) l.length l.length) ∧ OwnB w.heap.size w' (.slice (some ⟨w.heap.size, 0, none⟩) l.length l.length) l ∧ Below w.heap.size w w' := by
  have hmk := run_make_row' (P := Try.prog) 29 5 (.int .u8 0) 1 Try.underlying29 Try.info_byteT rfl .i64 .i64 l.length (by omega) (by omega)
  have HBy := Lib.hid h
  have HMx : Hid (l.length ≤ maxLen) := by show _ ≤ _; unfold maxLen; omega
  clear h
  obtain ⟨ln, hln⟩ : ∃ ln, l.length = ln := ⟨_, rfl⟩
  have HL := Lib.hid hln
  rw [hln] at hl hmk
  rw [hln]
  clear hln
  go_enter Try.func15, Try.ntmps15
  go_wp2_with fail
  go_loopw [4] (fun i wr => ∃ k : Nat, k ≤ ln ∧ i = .int .i64 k ∧ wr.rowIs w.heap.size 5 ln (fun j => if j < k then .int .u8 ((l.getD j 0).toNat : Int) else .int .u8 0) ∧ Below w.heap.size w wr) (fun i _ => ln - (intOf i).toNat)
  case atStart => exact ⟨0, Nat.zero_le _, rfl, (World.rowIs_made _ _ _ _).congr (fun i _ => by simp), (Below.refl _ _).alloc (Nat.le_refl _) _⟩
  case round =>
    obtain ⟨k, hk, rfl, hrow, hbel⟩ := hrel
    by_cases hlt : k < ln
    · have hlt' : k < l.length := by have := HL.out; omega
      obtain ⟨b, off, rfl, hb, hc⟩ := HBy.out.bytes k hlt'
      have f0 := (hbel.cell (p := ⟨b, off + k, none⟩) hb).trans hc
      have f1 := hrow.cell hlt
      have f2 := hrow.frozen k
      have HR : Hid ((wr.setCell ⟨w.heap.size, k, none⟩ (.int .u8 (l[k].toNat : Int))).rowIs w.heap.size 5 ln (fun j => if j < k + 1 then .int .u8 ((l.getD j 0).toNat : Int) else .int .u8 0)) := by
        refine (hrow.set k (.int .u8 (l[k].toNat : Int))).congr fun i hi => ?_
        by_cases h1 : i = k
        · subst h1; simp [hlt']
        · by_cases h2 : i < k
          · rw [if_neg h1, if_pos h2, if_pos (by omega)]
          · rw [if_neg h1, if_neg h2, if_neg (by omega)]
      have HB : Hid (Below w.heap.size w (wr.setCell ⟨w.heap.size, k, none⟩ (.int .u8 (l[k].toNat : Int)))) := hbel.setCell (Nat.le_refl _) _
      have hki : (k : Int) < (ln : Int) := by omega
      generalize l[k] = x at *
      obtain ⟨xi, hxi⟩ : ∃ xi, xi = (x.toNat : Int) := ⟨_, rfl⟩
      rw [← hxi] at f0 HR HB
      simp only [Nat.lt_irrefl, if_false] at f1
      clear hc hrow hbel hmk hxi
      go_wp2_with fail
      go_roundw
      case rel => exact ⟨k + 1, by omega, by go_num, HR.out, HB.out⟩
      case measure => simp [intOf]; omega
    · have hki : ¬ (k : Int) < (ln : Int) := by omega
      have HF : Hid (OwnB w.heap.size wr (.slice (some ⟨w.heap.size, 0, none⟩) ln ln) l) := by
        have e := HL.out
        have := own_of_row (l := l) (base := w.heap.size) hrow e (by have := HMx.out; omega) (fun i hi => by rw [if_pos (by omega)]; simp [List.getD, hi]) (Nat.le_refl _)
        rw [e] at this
        exact this
      clear hrow hmk
      go_wp2_with fail
      go_ret
      exact ⟨rfl, HF.out, hbel⟩

/-- A row that a call owns, as one that is given. -/
theorem OwnB.given {B : Nat} {w : World} {a : Option Addr} {c : Nat} {l : List UInt8} (h : OwnB B w (.slice a l.length c) l) : BytesA (fun b => b < w.heap.size) w a l c := by
  rcases id h.2 with ⟨hv, h0⟩ | ⟨g, cap, cur, hv, hbg, hg, hnc, hcm, hcs, htake⟩
  · injection hv with h1 h2 h3
    exact ⟨⟨by omega, by rw [h3]; exact Nat.zero_le _⟩, fun j hj => absurd hj (by omega)⟩
  · injection hv with h1 h2 h3
    subst h1 h3
    refine ⟨⟨hnc, hcm⟩, fun j hj => ?_⟩
    obtain ⟨g', c', hv', hc, -⟩ := h.cells j hj
    injection hv' with e1 e2 e3
    cases e1
    exact ⟨g, 0, rfl, (Array.getElem?_eq_some_iff.1 hg).1, hc⟩

theorem BytesA.step {w w' : World} {ao : Option Addr} {l : List UInt8} {cap : Nat} (h : BytesA (fun b => b < w.heap.size) w ao l cap) (hb : Below w.heap.size w w') : BytesA (fun b => b < w'.heap.size) w' ao l cap :=
  ⟨h.lc, fun j hj => by
    obtain ⟨b, off, ha, hlt, hc⟩ := h.bytes j hj
    exact ⟨b, off, ha, Nat.lt_of_lt_of_le hlt hb.size, (World.cell?_of_block (hb.block b hlt)).trans hc⟩⟩

end Go.Proofs.Ytpnnbdejneoccaa
