/-
  Several texts in one, in their order.
-/
import Derived.Test.YtcpeajdjpecmkaaGreatDoorB27
import Derived.Test.YtcpeajdjpecmkaaGreatDoorB11
import Derived.Test.YtcpeajdjpecmkaaGreatDoorB6
import Derived.Test.YtcpeajdjpecmkaaGreatDoorB1
import Derived.BigQuiet

/-
  The specification's reader of bytes: two rows of bytes compared; what an event read is.
-/
namespace Go.Proofs.YtcpeajdjpecmkaaGreatDoor
open Go.RowKit

/-- A row of bytes that is given. -/
structure BytesA (S : Nat → Prop) (w : World) (ao : Option Addr) (l : List UInt8) (cap : Nat) : Prop where
  lc : l.length ≤ cap ∧ cap ≤ maxLen
  bytes : ∀ j (hj : j < l.length), ∃ b off, ao = some ⟨b, off, none⟩ ∧ S b ∧ w.cell? ⟨b, off + j, none⟩ = some (.int .u8 (l[j].toNat : Int))

theorem BytesA.keep {S : Nat → Prop} {w w' : World} {ao : Option Addr} {l : List UInt8} {cap : Nat} (h : BytesA S w ao l cap) (hs : ∀ b, S b → w'.heap[b]? = w.heap[b]?) : BytesA S w' ao l cap :=
  ⟨h.lc, fun j hj => by
    obtain ⟨b, off, ha, hb, hc⟩ := h.bytes j hj
    exact ⟨b, off, ha, hb, (World.cell?_of_block (hs b hb)).trans hc⟩⟩

/-- A row of bytes, as a text. -/
theorem conv_bytes {w : World} {ao : Option Addr} {l : List UInt8} {cap : Nat} (h : ∀ j (hj : j < l.length), ∃ b off, ao = some ⟨b, off, none⟩ ∧ w.cell? ⟨b, off + j, none⟩ = some (.int .u8 (l[j].toNat : Int))) :
    (convert 22 9 (.slice ao l.length cap)).run Tryz.prog w = .ok (.string ⟨l.toArray⟩) w := by
  cases ao with
  | none =>
    cases l with
    | nil => exact run_convert_bytes_nil (P := Tryz.prog) w 22 5 Tryz.underlying22 Tryz.underlying5 0 _ 9 Tryz.underlying9
    | cons a l => obtain ⟨b, off, ha, -⟩ := h 0 (by simp); cases ha
  | some ad =>
    refine run_convert_bytes_back (P := Tryz.prog) w 22 9 5 ad cap l Tryz.underlying22 Tryz.underlying5 Tryz.underlying9 fun j hj => ?_
    obtain ⟨b, off, ha, hc⟩ := h j hj
    cases ha
    rw [Addr.add_lit]; exact hc

theorem conv_row {S : Nat → Prop} {w : World} {l : List UInt8} {v : Value} (h : Row1 S w byteR l v) : (convert 22 9 v).run Tryz.prog w = .ok (.string ⟨l.toArray⟩) w := by
  obtain ⟨ao, cap, rfl, -, hc⟩ := h
  refine conv_bytes fun j hj => ?_
  obtain ⟨b, off, ha, -, hx⟩ := hc (fun e => by rw [e] at hj; simp at hj)
  obtain ⟨c, hcell, hr⟩ := hx j hj
  rw [hr] at hcell
  exact ⟨b, off, ha, hcell⟩

theorem packE_len {m : Nat} {x : ByteArray} {v : Int} {t : T m} (ho : okE m x v t = true) : (packE m x v t).length ≤ 9000 := by
  obtain ⟨hnm, hv, -, hokT⟩ := okE_parts ho
  have hx8 : x.size ≤ 8 := by simp only [nameB, Bool.and_eq_true, decide_eq_true_eq] at hnm; exact hnm.1.1.2
  have hg := okT_getE hokT
  have h1 := packT_len m t 1 hg.1
  have h2 := shortB_len x
  unfold packE
  rw [List.length_append, List.length_cons]
  omega

/-- What EventUnpack answers: the event of the bytes, or none. -/
def EUnp (m : Nat) (l : List UInt8) (ok : Bool) (x : ByteArray) (v : Int) (t : T (m + 1)) : Prop :=
  (ok = true ∧ okE (m + 1) x v t = true ∧ packE (m + 1) x v t = l) ∨ (ok = false ∧ x = ByteArray.empty ∧ v = 0 ∧ t = (⟨0, 0, ByteArray.empty, [], []⟩ : Nd (T m)) ∧ ∀ (x' : ByteArray) (v' : Int) (t' : T (m + 1)), okE (m + 1) x' v' t' = true → packE (m + 1) x' v' t' ≠ l)

end Go.Proofs.YtcpeajdjpecmkaaGreatDoor

/-
  The specification's EventUnpack.
-/
namespace Go.Proofs.YtcpeajdjpecmkaaGreatDoor
open Go.RowKit

/-- What stands while the event is read: its block at X, the answer's at N = w.heap.size, the reader's at N + 1. -/
structure EU (w W : World) (ao : Option Addr) (l : List UInt8) (cap i : Nat) (bad : Bool) (X : Nat) (a0 a1 a2 a3 a4 a5 a6 : Value) : Prop where
  src : BytesA (fun b => b < w.heap.size) w ao l cap
  len : l.length ≤ 9000
  below : Below w.heap.size w W
  zero : W.heap[w.heap.size]? = some (.cells #[.string ⟨#[]⟩, .int .i64 0, .int .i64 0, .int .i64 0, .string ⟨#[]⟩, .slice none 0 0, .slice none 0 0] 28 (0, 0))
  rbox : W.heap[w.heap.size + 1]? = some (.cells #[.slice ao l.length cap, .int .i64 (i : Int), .bool bad] 71 (0, 0))
  le : i ≤ l.length
  lt : w.heap.size + 1 < X
  box : W.heap[X]? = some (.cells #[a0, a1, a2, a3, a4, a5, a6] 28 (0, 0))

theorem EU.ltX {w W : World} {ao : Option Addr} {l : List UInt8} {cap i : Nat} {bad : Bool} {X : Nat} {a0 a1 a2 a3 a4 a5 a6 : Value} (h : EU w W ao l cap i bad X a0 a1 a2 a3 a4 a5 a6) : X < W.heap.size := (Array.getElem?_eq_some_iff.1 h.box).1

theorem rd_of {w W : World} {ao : Option Addr} {l : List UInt8} {cap i : Nat} {bad : Bool} (hs : BytesA (fun b => b < w.heap.size) w ao l cap) (hl : l.length ≤ 9000) (hb : Below w.heap.size w W) (hr : W.heap[w.heap.size + 1]? = some (.cells #[.slice ao l.length cap, .int .i64 (i : Int), .bool bad] 71 (0, 0))) (hi : i ≤ l.length) : R4 W (w.heap.size + 1) ao l cap i bad :=
  ⟨hr, hl, hi, hs.lc, fun j hj => by
    obtain ⟨b, off, ha, hlt, hc⟩ := hs.bytes j hj
    exact ⟨b, off, ha, by omega, (World.cell?_of_block (hb.block b hlt)).trans hc⟩⟩

theorem EU.rd {w W : World} {ao : Option Addr} {l : List UInt8} {cap i : Nat} {bad : Bool} {X : Nat} {a0 a1 a2 a3 a4 a5 a6 : Value} (h : EU w W ao l cap i bad X a0 a1 a2 a3 a4 a5 a6) : R4 W (w.heap.size + 1) ao l cap i bad := rd_of h.src h.len h.below h.rbox h.le

theorem EU.near {w W W' : World} {ao : Option Addr} {l : List UInt8} {cap i j : Nat} {bad bad' : Bool} {X : Nat} {a0 a1 a2 a3 a4 a5 a6 : Value} (h : EU w W ao l cap i bad X a0 a1 a2 a3 a4 a5 a6) (hn : Near (w.heap.size + 1) W W') (hr : R4 W' (w.heap.size + 1) ao l cap j bad') : EU w W' ao l cap j bad' X a0 a1 a2 a3 a4 a5 a6 := by
  have hX := h.ltX
  have hl := h.lt
  have hs := h.below.size
  exact ⟨h.src, h.len, ⟨by rw [hn.os]; exact h.below.os, by rw [hn.tape]; exact h.below.tape, by rw [hn.output]; exact h.below.output, Nat.le_trans hs hn.size, fun b hb => (hn.block b (by omega) (by omega)).trans (h.below.block b hb)⟩, (hn.block _ (by omega) (by omega)).trans h.zero, hr.box, hr.le, hl, (hn.block X hX (by omega)).trans h.box⟩

theorem EU.same {w W W' : World} {ao : Option Addr} {l : List UInt8} {cap i : Nat} {bad : Bool} {X : Nat} {a0 a1 a2 a3 a4 a5 a6 : Value} (h : EU w W ao l cap i bad X a0 a1 a2 a3 a4 a5 a6) (hb : Below W.heap.size W W') : EU w W' ao l cap i bad X a0 a1 a2 a3 a4 a5 a6 := h.near (Near.of_below hb) (h.rd.same hb)

theorem EU.change {w W W' : World} {ao : Option Addr} {l : List UInt8} {cap i : Nat} {bad : Bool} {X : Nat} {a0 a1 a2 a3 a4 a5 a6 : Value} (h : EU w W ao l cap i bad X a0 a1 a2 a3 a4 a5 a6) {b1 b2 b3 b4 b5 b6 : Value} (hb : Below w.heap.size W W') (qq : ∀ b, b ≠ X → W'.heap[b]? = W.heap[b]?) (hx : W'.heap[X]? = some (.cells #[a0, b1, b2, b3, b4, b5, b6] 28 (0, 0))) : EU w W' ao l cap i bad X a0 b1 b2 b3 b4 b5 b6 := by
  have hl := h.lt
  exact ⟨h.src, h.len, h.below.trans hb, (qq _ (by omega)).trans h.zero, (qq _ (by omega)).trans h.rbox, h.le, hl, hx⟩

theorem EU.set1 {w W : World} {ao : Option Addr} {l : List UInt8} {cap i : Nat} {bad : Bool} {X : Nat} {a0 a1 a2 a3 a4 a5 a6 : Value} (h : EU w W ao l cap i bad X a0 a1 a2 a3 a4 a5 a6) (u : Value) : EU w (W.setCell ⟨X, 1, none⟩ u) ao l cap i bad X a0 u a2 a3 a4 a5 a6 := by
  have hl := h.lt
  exact h.change ((Below.refl _ _).setCell (by show w.heap.size ≤ X; omega) u) (fun b hb => Below.heap_setCell _ _ _ _ hb) (by simp [World.setCell, Array.getElem?_modify, h.box])

theorem EU.put {w W : World} {ao : Option Addr} {l : List UInt8} {cap i : Nat} {bad : Bool} {X : Nat} {a0 a1 a2 a3 a4 a5 a6 : Value} (h : EU w W ao l cap i bad X a0 a1 a2 a3 a4 a5 a6) (g0 g1 g2 g3 g4 : Value) : EU w (put5 W X 2 g0 g1 g2 g3 g4) ao l cap i bad X a0 a1 g0 g1 g2 g3 g4 := by
  have hl := h.lt
  exact h.change (put5_below (Below.refl _ _) (by omega)) (fun b hb => put5_other hb) (by simp [put5, World.setCell, Array.getElem?_modify, h.box])

end Go.Proofs.YtcpeajdjpecmkaaGreatDoor

/-
  The program's cursor over bytes: a whole event.
-/
namespace Go.Proofs.YtcpeajdjpecmkaaGreatDoor
open Go.RowKit

theorem nameB_let {x : ByteArray} (h : nameB x = true) : ∀ k (hk : k < x.size), letB (x[k]'hk).toNat := by
  intro k hk
  simp only [nameB, Bool.and_eq_true] at h
  have hm : x[k]'hk ∈ x.data.toList := by
    show x.data[k] ∈ x.data.toList
    exact Array.getElem_mem_toList ..
  have := List.all_eq_true.1 h.2 _ hm
  simp only [nmByte, decide_eq_true_eq] at this
  unfold letB
  omega

/-- Of the event that was taken: it has these bytes if it is ok, and no other has them. -/
def TookE (L : Nat) (l : List UInt8) (x : ByteArray) (v : Int) (t : T L) : Prop :=
  (okE L x v t = true → packE L x v t = l) ∧ ∀ (x' : ByteArray) (v' : Int) (t' : T L), okE L x' v' t' = true → packE L x' v' t' = l → x = x' ∧ v = v' ∧ t = t'

/-- What whole makes. -/
def WholeC (L : Nat) (w : World) (R : Nat) (l : List UInt8) (e : Ending) (w' : World) : Prop :=
  Near R w w' ∧ ((∃ (x : ByteArray) (v : Int) (t : T L) (c0 c1 c2 c3 c4 : Value), e = .returned (.agg #[.string x, .int .i64 v, c0, c1, c2, c3, c4]) ∧ x.size ≤ 255 ∧ TreeIn (fun b => w.heap.size ≤ b ∧ b < w'.heap.size) w' L t c0 c1 c2 c3 c4 ∧ OwnT (fun b => w.heap.size ≤ b ∧ b < w'.heap.size) w' L t c3 c4 ∧ TookE L l x v t) ∨
    ((∀ (x' : ByteArray) (v' : Int) (t' : T L), okE L x' v' t' = true → packE L x' v' t' ≠ l) ∧ e = .panicked refusal))

/-- An event that is ok, by what the cursor takes of its bytes. -/
theorem packE_took {L : Nat} {l : List UInt8} {x' : ByteArray} {v' : Int} {t' : T L} (ho : okE L x' v' t' = true) (hp : packE L x' v' t' = l) : takeS l = some (x', b8 v' :: packT L t') ∧ (∀ k (hk : k < x'.size), letB (x'[k]'hk).toNat) ∧ ((b8 v').toNat : Int) = v' ∧ decI L (packT L t') = some (t', []) := by
  obtain ⟨hnm, hv, -, hokT⟩ := okE_parts ho
  have hx8 : x'.size ≤ 8 := by simp only [nameB, Bool.and_eq_true, decide_eq_true_eq] at hnm; exact hnm.1.1.2
  have hg := okT_getE hokT
  refine ⟨?_, nameB_let hnm, ?_, ?_⟩
  · rw [← hp]; exact takeS_complete x' _ (by omega)
  · obtain ⟨k, rfl⟩ : ∃ k : Nat, v' = (k : Int) := ⟨v'.toNat, by omega⟩
    rw [b8_toNat (by omega)]
  · have := decI_complete L t' 1 [] hg.1 hg.2
    rw [List.append_nil] at this
    exact this

/-- Two answers of one row of bytes are one. -/
theorem eunp_one {m : Nat} {l : List UInt8} {ok ok' : Bool} {x x' : ByteArray} {v v' : Int} {t t' : T (m + 1)} (h : EUnp m l ok x v t) (h' : EUnp m l ok' x' v' t') : ok' = ok ∧ x' = x ∧ v' = v ∧ t' = t := by
  rcases h with ⟨e1, e2, e3⟩ | ⟨e1, e2, e3, e4, e5⟩ <;> rcases h' with ⟨f1, f2, f3⟩ | ⟨f1, f2, f3, f4, f5⟩
  · obtain ⟨a1, -, a3, a4⟩ := packE_took e2 e3
    obtain ⟨b1, -, b3, b4⟩ := packE_took f2 f3
    rw [a1] at b1
    injection b1 with b1
    have c1 := congrArg Prod.fst b1
    have c2 := congrArg Prod.snd b1
    simp only [] at c1 c2
    injection c2 with c2 c3
    rw [c3, b4] at a4
    injection a4 with a4
    refine ⟨f1.trans e1.symm, c1.symm, ?_, congrArg Prod.fst a4⟩
    rw [← a3, ← b3, c2]
  · exact absurd e3 (f5 x v t e2)
  · exact absurd f3 (e5 x' v' t' f2)
  · exact ⟨f1.trans e1.symm, f2.trans e2.symm, f3.trans e3.symm, f4.trans e4.symm⟩

theorem took_type {L : Nat} {l : List UInt8} (h : ∀ x r, takeS (l.drop 0) = some (x, r) → ∃ k, ∃ h : k < x.size, ¬ letB (x[k]'h).toNat) : ∀ (x' : ByteArray) (v' : Int) (t' : T L), okE L x' v' t' = true → packE L x' v' t' ≠ l := fun x' v' t' ho hp => by
  obtain ⟨h1, h2, -⟩ := packE_took ho hp
  obtain ⟨k, hk, hn⟩ := h x' _ h1
  exact hn (h2 k hk)

theorem drop_cons {l : List UInt8} {i : Nat} {b : UInt8} {r : List UInt8} (h : l.drop i = b :: r) : ∃ hi : i < l.length, l[i] = b ∧ l.drop (i + 1) = r := by
  have hi : i < l.length := Classical.byContradiction fun hge => by rw [List.drop_eq_nil_of_le (by omega)] at h; cases h
  rw [List.drop_eq_getElem_cons hi] at h
  injection h with h1 h2
  exact ⟨hi, h1, h2⟩

theorem took_version {L : Nat} {l : List UInt8} {x : ByteArray} {i : Nat} (h : takeS (l.drop 0) = some (x, l.drop i)) (hi : l.length ≤ i) : ∀ (x' : ByteArray) (v' : Int) (t' : T L), okE L x' v' t' = true → packE L x' v' t' ≠ l := fun x' v' t' ho hp => by
  obtain ⟨h1, -⟩ := packE_took ho hp
  rw [List.drop_zero, h1] at h
  injection h with h
  obtain ⟨hi', -⟩ := drop_cons (congrArg Prod.snd h).symm
  omega

theorem took_parts {L : Nat} {l : List UInt8} {x : ByteArray} {i : Nat} (h : takeS (l.drop 0) = some (x, l.drop i)) (hi : i < l.length) {x' : ByteArray} {v' : Int} {t' : T L} (ho : okE L x' v' t' = true) (hp : packE L x' v' t' = l) : x = x' ∧ (l[i].toNat : Int) = v' ∧ decI L (l.drop (i + 1)) = some (t', []) := by
  obtain ⟨h1, -, h3, h4⟩ := packE_took ho hp
  rw [List.drop_zero, h1] at h
  injection h with h
  obtain ⟨hi', h5, h6⟩ := drop_cons (congrArg Prod.snd h).symm
  exact ⟨(congrArg Prod.fst h).symm, by rw [h5]; exact h3, by rw [h6]; exact h4⟩

theorem took_tree {L : Nat} {l : List UInt8} {x : ByteArray} {i : Nat} (h : takeS (l.drop 0) = some (x, l.drop i)) (hi : i < l.length) (ht : ∀ t', decI L (l.drop (i + 1)) ≠ some (t', [])) : ∀ (x' : ByteArray) (v' : Int) (t' : T L), okE L x' v' t' = true → packE L x' v' t' ≠ l := fun _ _ t' ho hp => ht t' (took_parts h hi ho hp).2.2

theorem took_all {L : Nat} {l : List UInt8} {x : ByteArray} {i : Nat} {t : T L} (h : takeS (l.drop 0) = some (x, l.drop i)) (hi : i < l.length) (ht : decI L (l.drop (i + 1)) = some (t, [])) : TookE L l x (l[i].toNat : Int) t := by
  refine ⟨fun ho => ?_, fun x' v' t' ho hp => ?_⟩
  · have hg := (okT_getE (okE_parts ho).2.2.2).1
    have h1 := (takeS_sound h).1
    rw [List.drop_zero, List.drop_eq_getElem_cons hi, decI_sound L _ _ t 1 ht hg] at h1
    refine Eq.trans ?_ h1.symm
    unfold packE
    rw [b8_byte, List.append_nil]
  · obtain ⟨a1, a2, a3⟩ := took_parts h hi ho hp
    rw [ht] at a3
    injection a3 with a3
    exact ⟨a1, a2, congrArg Prod.fst a3⟩

/-- What stands while the event is taken: its block at N + 1, the answer's at N = w.heap.size. -/
structure EW (w W : World) (R : Nat) (ao : Option Addr) (l : List UInt8) (cap i : Nat) (a0 a1 a2 a3 a4 a5 a6 : Value) : Prop where
  cu0 : Cu w R ao l cap 0
  near : Near R w W
  zero : W.heap[w.heap.size]? = some (.cells #[.string ⟨#[]⟩, .int .i64 0, .int .i64 0, .int .i64 0, .string ⟨#[]⟩, .slice none 0 0, .slice none 0 0] 28 (0, 0))
  box : W.heap[w.heap.size + 1]? = some (.cells #[a0, a1, a2, a3, a4, a5, a6] 28 (0, 0))
  cu : Cu W R ao l cap i

theorem EW.step {w W W' : World} {R : Nat} {ao : Option Addr} {l : List UInt8} {cap i j : Nat} {a0 a1 a2 a3 a4 a5 a6 : Value} (h : EW w W R ao l cap i a0 a1 a2 a3 a4 a5 a6) (hn : Near R W W') (hc : Cu W' R ao l cap j) : EW w W' R ao l cap j a0 a1 a2 a3 a4 a5 a6 := by
  have hR := h.cu0.lt
  have hX : w.heap.size + 1 < W.heap.size := (Array.getElem?_eq_some_iff.1 h.box).1
  exact ⟨h.cu0, h.near.trans hn, (hn.block _ (by omega) (by omega)).trans h.zero, (hn.block _ hX (by omega)).trans h.box, hc⟩

theorem EW.change {w W W' : World} {R : Nat} {ao : Option Addr} {l : List UInt8} {cap i : Nat} {a0 a1 a2 a3 a4 a5 a6 b0 b1 b2 b3 b4 b5 b6 : Value} (h : EW w W R ao l cap i a0 a1 a2 a3 a4 a5 a6) (hb : Below w.heap.size W W') (qq : ∀ b, b ≠ w.heap.size + 1 → W'.heap[b]? = W.heap[b]?) (hx : W'.heap[w.heap.size + 1]? = some (.cells #[b0, b1, b2, b3, b4, b5, b6] 28 (0, 0))) : EW w W' R ao l cap i b0 b1 b2 b3 b4 b5 b6 := by
  have hR := h.cu0.lt
  have hn : Near R w W' := ⟨hb.os.trans h.near.os, hb.tape.trans h.near.tape, hb.output.trans h.near.output, Nat.le_trans h.near.size hb.size, fun b hb hne => (qq b (by omega)).trans (h.near.block b hb hne)⟩
  exact ⟨h.cu0, hn, (qq _ (by omega)).trans h.zero, hx, h.cu0.keep hn ((qq R (by omega)).trans h.cu.box) h.cu.le⟩

theorem EW.set0 {w W : World} {R : Nat} {ao : Option Addr} {l : List UInt8} {cap i : Nat} {a0 a1 a2 a3 a4 a5 a6 : Value} (h : EW w W R ao l cap i a0 a1 a2 a3 a4 a5 a6) (u : Value) : EW w (W.setCell ⟨w.heap.size + 1, 0, none⟩ u) R ao l cap i u a1 a2 a3 a4 a5 a6 :=
  h.change ((Below.refl _ _).setCell (by show w.heap.size ≤ w.heap.size + 1; omega) u) (fun b hb => Below.heap_setCell _ _ _ _ hb) (by simp [World.setCell, Array.getElem?_modify, h.box])
theorem EW.set1 {w W : World} {R : Nat} {ao : Option Addr} {l : List UInt8} {cap i : Nat} {a0 a1 a2 a3 a4 a5 a6 : Value} (h : EW w W R ao l cap i a0 a1 a2 a3 a4 a5 a6) (u : Value) : EW w (W.setCell ⟨w.heap.size + 1, 1, none⟩ u) R ao l cap i a0 u a2 a3 a4 a5 a6 :=
  h.change ((Below.refl _ _).setCell (by show w.heap.size ≤ w.heap.size + 1; omega) u) (fun b hb => Below.heap_setCell _ _ _ _ hb) (by simp [World.setCell, Array.getElem?_modify, h.box])
theorem EW.put {w W : World} {R : Nat} {ao : Option Addr} {l : List UInt8} {cap i : Nat} {a0 a1 a2 a3 a4 a5 a6 : Value} (h : EW w W R ao l cap i a0 a1 a2 a3 a4 a5 a6) (g0 g1 g2 g3 g4 : Value) : EW w (put5 W (w.heap.size + 1) 2 g0 g1 g2 g3 g4) R ao l cap i a0 a1 g0 g1 g2 g3 g4 :=
  h.change (put5_below (Below.refl _ _) (by omega)) (fun b hb => put5_other hb) (by simp [put5, World.setCell, Array.getElem?_modify, h.box])
theorem EW.drewN {w W : World} {R : Nat} {ao : Option Addr} {l : List UInt8} {cap i : Nat} {a0 a1 a2 a3 a4 a5 a6 : Value} (h : EW w W R ao l cap i a0 a1 a2 a3 a4 a5 a6) (n : Nat) : EW w (W.drewN n) R ao l cap i a0 a1 a2 a3 a4 a5 a6 := h.step (nearC_drewN (Near.refl R W) n) (h.cu.drewN n)

theorem whole_out {L : Nat} {w W : World} {R : Nat} {ao : Option Addr} {l : List UInt8} {cap i : Nat} {x : ByteArray} {v : Int} {t : T L} {c0 c1 c2 c3 c4 : Value} (h : EW w W R ao l cap i (.string x) (.int .i64 v) c0 c1 c2 c3 c4) (hx : x.size ≤ 255) (ht : TreeIn (fun b => w.heap.size + 2 ≤ b ∧ b < W.heap.size) W L t c0 c1 c2 c3 c4) (ho : OwnT (fun b => w.heap.size + 2 ≤ b ∧ b < W.heap.size) W L t c3 c4) (hk : TookE L l x v t) :
    WholeC L w R l (.returned (.agg #[.string x, .int .i64 v, c0, c1, c2, c3, c4])) (put7 W w.heap.size (.string x) (.int .i64 v) c0 c1 c2 c3 c4) := by
  have hR := h.cu0.lt
  have qq : ∀ b, b ≠ w.heap.size → (put7 W w.heap.size (.string x) (.int .i64 v) c0 c1 c2 c3 c4).heap[b]? = W.heap[b]? := fun b h => put7_other h
  have hz : (put7 W w.heap.size (.string x) (.int .i64 v) c0 c1 c2 c3 c4).heap.size = W.heap.size := put7_size
  have hbl : Below 0 W (put7 W w.heap.size (.string x) (.int .i64 v) c0 c1 c2 c3 c4) := put7_below (Below.refl 0 W) (Nat.zero_le _)
  exact ⟨⟨hbl.os.trans h.near.os, hbl.tape.trans h.near.tape, hbl.output.trans h.near.output, by rw [hz]; exact h.near.size, fun b hb hne => (qq b (by omega)).trans (h.near.block b hb hne)⟩,
    .inl ⟨x, v, t, _, _, _, _, _, rfl, hx, ht.keep (fun b hb => qq b (by omega)) (fun b hb => ⟨by omega, by rw [hz]; exact hb.2⟩), ho.keep (fun b hb => qq b (by omega)) (fun b hb => ⟨by omega, by rw [hz]; exact hb.2⟩), hk⟩⟩

end Go.Proofs.YtcpeajdjpecmkaaGreatDoor

/-
  Bytes: compared, marked, held.
-/
namespace Go.Proofs.YtcpeajdjpecmkaaGreatDoor
open Go.RowKit

/-- A row of bytes that a call owns. -/
def OwnB (B : Nat) (w : World) (v : Value) (l : List UInt8) : Prop := w.ownsRow B 5 1 v l.length (Lib.byteCells l)

theorem OwnB.row {B : Nat} {w : World} {v : Value} {l : List UInt8} (h : OwnB B w v l) (hl : l.length ≤ maxLen) : Row1 (fun b => B ≤ b ∧ b < w.heap.size) w byteR l v :=
  row1_of_owns h hl (fun g hg => r1_lt h g hg) (fun i hi hx => by simp [byteR, Lib.byteCells])

theorem OwnB.keep {B : Nat} {w w' : World} {v : Value} {l : List UInt8} (h : OwnB B w v l) (hs : ∀ b, B ≤ b → b < w.heap.size → w'.heap[b]? = w.heap[b]?) : OwnB B w' v l :=
  r1_keep h (fun g hg => hs g (r1_lt h g hg).1 (r1_lt h g hg).2)

theorem OwnB.cells {B : Nat} {w : World} {v : Value} {l : List UInt8} (h : OwnB B w v l) (j : Nat) (hj : j < l.length) : ∃ g c, v = .slice (some ⟨g, 0, none⟩) l.length c ∧ w.cell? ⟨g, 0 + j, none⟩ = some (.int .u8 (l[j].toNat : Int)) ∧ w.frozen? ⟨g, 0 + j, none⟩ = false := by
  rcases h.2 with ⟨rfl, h0⟩ | ⟨g, cap, cur, rfl, hbg, hg, hnc, hcm, hcs, htake⟩
  · omega
  · refine ⟨g, cap, rfl, ?_, by simp [World.frozen?, hg]⟩
    have := World.ownsRow.cells h (g := g) rfl j (.int .u8 (l[j].toNat : Int)) (by simp [Lib.byteCells, hj])
    rw [Addr.add_lit] at this
    exact this

end Go.Proofs.YtcpeajdjpecmkaaGreatDoor

/-
  Bytes that came in, and copies of them.
-/
namespace Go.Proofs.YtcpeajdjpecmkaaGreatDoor
open Go.RowKit

/-- A row that a call owns, as one that is given. -/
theorem OwnB.given {B : Nat} {w : World} {a : Option Addr} {c : Nat} {l : List UInt8} (h : OwnB B w (.slice a l.length c) l) : BytesA (fun b => b < w.heap.size) w a l c := by
  rcases id h.2 with ⟨hv, h0⟩ | ⟨g, cap, cur, hv, hbg, hg, hnc, hcm, hcs, htake⟩
  · injection hv with h1 h2 h3
    exact ⟨⟨by omega, by rw [h3]; exact Nat.zero_le _⟩, fun j hj => absurd hj (by omega)⟩
  · injection hv with h1 h2 h3
    subst h1 h3
    refine ⟨⟨hnc, hcm⟩, fun j hj => ?_⟩
    obtain ⟨g', c', hv', hc, -⟩ := h.cells j hj
    injection hv' with e1 e2 e3
    cases e1
    exact ⟨g, 0, rfl, (Array.getElem?_eq_some_iff.1 hg).1, hc⟩

theorem BytesA.step {w w' : World} {ao : Option Addr} {l : List UInt8} {cap : Nat} (h : BytesA (fun b => b < w.heap.size) w ao l cap) (hb : Below w.heap.size w w') : BytesA (fun b => b < w'.heap.size) w' ao l cap :=
  ⟨h.lc, fun j hj => by
    obtain ⟨b, off, ha, hlt, hc⟩ := h.bytes j hj
    exact ⟨b, off, ha, Nat.lt_of_lt_of_le hlt hb.size, (World.cell?_of_block (hb.block b hlt)).trans hc⟩⟩

end Go.Proofs.YtcpeajdjpecmkaaGreatDoor
