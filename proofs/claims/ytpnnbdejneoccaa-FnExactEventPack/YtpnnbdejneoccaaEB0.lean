/-
  Bytes that a call has made, carried from append to append.
-/
import Derived.Test.YtpnnbdejneoccaaEP0
import Derived.Test.YtpnnbdejneoccaaRow1
import Derived.Lib.AppendStr
import Derived.Lib.Hide
import Derived.Laws.IdiomStrings
import Derived.Laws.OwnMore
namespace Go.Proofs.Ytpnnbdejneoccaa
open Go.RowKit

theorem b8_nat {i : Int} (h0 : 0 ≤ i) (h1 : i < 256) : ((b8 i).toNat : Int) = i := by
  unfold b8
  have e : i % 256 = i := by omega
  rw [e]
  have : i.toNat < 256 := by omega
  rw [UInt8.toNat_ofNat_of_lt' (by simpa using this)]
  omega

/-- In w the slice v owns a row of just the bytes l, in a block that w0 had not; what w0 had is as it was. -/
structure Bb (w0 w : World) (v : Value) (l : List UInt8) : Prop where
  own : w.ownsRow w0.heap.size 5 1 v l.length (Lib.byteCells l)
  below : Below w0.heap.size w0 w

theorem Bb.keep {w0 w w' : World} {v : Value} {l : List UInt8} (h : Bb w0 w v l) (hb : Below w.heap.size w w') : Bb w0 w' v l :=
  ⟨r1_keep h.own (fun g hg => hb.block g (r1_lt h.own g hg).2), below_step h.below h.below.size hb⟩

theorem Bb.alloc {w0 w : World} {v : Value} {l : List UInt8} (h : Bb w0 w v l) (o : Obj) : Bb w0 (w.alloc o) v l := h.keep ((Below.refl _ _).alloc (Nat.le_refl _) o)

theorem Bb.shape {w0 w : World} {v : Value} {l : List UInt8} (h : Bb w0 w v l) : ∃ a c, v = .slice a l.length c := r1_shape h.own

theorem Bb.grown {w0 w w' : World} {v v' : Value} {l l' : List UInt8} (h : Bb w0 w v l) (ho : w'.ownsRow w0.heap.size 5 1 v' l'.length (Lib.byteCells l')) (hg : w.grownBy w' v.ownBlock) : Bb w0 w' v' l' :=
  ⟨ho, h.below.grown hg h.below.size (fun k hk => (h.own.lt k hk).1)⟩

theorem Bb.up {w w0 w' : World} {v : Value} {l : List UInt8} (h : Bb w0 w' v l) (hb : Below w.heap.size w w0) : Bb w w' v l :=
  ⟨by
    obtain ⟨h1, h2⟩ := h.own
    refine ⟨h1, ?_⟩
    rcases h2 with h2 | ⟨g, cap, cur, hv, hg, r⟩
    · exact .inl h2
    · exact .inr ⟨g, cap, cur, hv, Nat.le_trans hb.size hg, r⟩, below_step hb hb.size h.below⟩

/-- As one that is read. -/
def byteR (x : UInt8) (c : Value) : Prop := c = .int .u8 (x.toNat : Int)

theorem Bb.row {w0 w : World} {v : Value} {l : List UInt8} (h : Bb w0 w v l) (hl : l.length ≤ maxLen) : Row1 (fun b => w0.heap.size ≤ b ∧ b < w.heap.size) w byteR l v :=
  row1_of_owns h.own hl (fun g hg => r1_lt h.own g hg) (fun i hi hx => by simp [byteR, Lib.byteCells])

/-- A literal of one byte. -/
theorem Bb.lit (w : World) (d : UInt8) : Bb w (w.alloc (.cells #[.int .u8 (d.toNat : Int)] 5)) (.slice (some ⟨w.heap.size, 0, none⟩) 1 1) [d] :=
  ⟨World.ownsRow_lit w #[.int .u8 (d.toNat : Int)] 1 (Nat.le_refl _) (by simp [maxLen]) rfl, (Below.refl _ _).alloc (Nat.le_refl _) _⟩

theorem Try.info_byteE : (Try.prog.info? 5).map (fun i => (i.zero, i.size, i.bytes)) = some (some (.int .u8 0), 1, 1) := by kernel_rfl

theorem byteCells_one (l : List UInt8) : ∀ u, u ∈ Lib.byteCells l → u.oneCell' = true := by
  intro u hu
  simp only [Lib.byteCells, List.mem_map] at hu
  obtain ⟨x, -, rfl⟩ := hu
  rfl

/-- '[]byte(x)'. -/
theorem bytes_of (W : World) (x : ByteArray) : ∃ cap W', (convert 9 29 (.string x)).run Try.prog W = .ok (.slice (some ⟨W.heap.size, 0, none⟩) x.size cap) W' ∧ Below W.heap.size W W' ∧ ∀ j (hj : j < x.data.toList.length), W'.cell? ⟨W.heap.size, 0 + j, none⟩ = some (.int .u8 (x.data.toList[j].toNat : Int)) := by
  refine ⟨_, _, run_bytes_of_string W 9 29 5 x Try.underlying9 Try.underlying29 Try.underlying5, ((Below.refl _ _).drew).alloc (Nat.le_refl _) _, fun j hj => ?_⟩
  have h := bytesRow_at x (grownCap W x.size 0 5) j (by simpa using hj)
  have hh : (W.drew.alloc (.cells (bytesRow x (grownCap W x.size 0 5)) 5 ((bytesRow x (grownCap W x.size 0 5)).size, (bytesRow x (grownCap W x.size 0 5)).size + 1))).heap[W.heap.size]? = some (.cells (bytesRow x (grownCap W x.size 0 5)) 5 ((bytesRow x (grownCap W x.size 0 5)).size, (bytesRow x (grownCap W x.size 0 5)).size + 1)) := heap_alloc_new W _
  simp only [World.cell?, hh, Nat.zero_add]
  simpa using h

/-- 'out = append(out, row...)', the row at an address. -/
theorem wpList_bbA {ops : Array Oper} {rest : List Oper} {o : Oper} {a : Act} {Q : Exit → Act → World → Prop} {w : World} (hgd : o.guard = none) (s x : Operand)
    (ho : o.op = .call { callee := .builtin .append, args := #[s, x], argTypes := #[29, 29] })
    (w0 : World) (v : Value) (l : List UInt8) (hs : a.eval s = v) (hb : Bb w0 w v l) (b off k cap : Nat) (l2 : List UInt8) (hx : a.eval x = .slice (some ⟨b, off, none⟩) k cap) (hk : l2.length = k) (hcell : ∀ j (hj : j < l2.length), w.cell? ⟨b, off + j, none⟩ = some (.int .u8 (l2[j].toNat : Int))) (hlen : l.length + l2.length ≤ 10000000)
    (h : ∀ v' w', Bb w0 w' v' (l ++ l2) → w.grownBy w' v.ownBlock → wpList Try.prog ops Q rest (a.put o.dst v') w') : wpList Try.prog ops Q (o :: rest) a w := by
  obtain ⟨i0, hi, hz0, hz1, hz2⟩ := info_parts Try.info_byteE
  subst hk
  refine wpList_append_own _ hgd s x 29 ho w0.heap.size 5 i0 (.int .u8 0) 1 1 Try.underlying29 hi hz0 hz1 hz2 rfl (by decide) v _ _ hs hb.own ⟨b, off, none⟩ l2.length cap (Lib.byteCells l2) hx (by simp [Lib.byteCells]) ?_ (byteCells_one l2) (by unfold maxLen; omega) (by omega) hb.below.size ?_
  · intro j y hj
    simp only [Lib.byteCells, List.getElem?_map] at hj
    cases hjl : l2[j]? with
    | none => rw [hjl] at hj; cases hj
    | some d =>
      rw [hjl] at hj
      obtain ⟨hlt, hd⟩ := List.getElem?_eq_some_iff.1 hjl
      have h1 := hcell j hlt
      rw [hd] at h1
      rw [Addr.add_lit, h1]
      simpa using hj
  · intro v' w' ho' hg _
    refine h v' w' (hb.grown ?_ hg) hg
    simpa [Lib.byteCells] using ho'

/-- 'out = append(out, row...)', the row read as bytes. -/
theorem wpList_bb {ops : Array Oper} {rest : List Oper} {o : Oper} {a : Act} {Q : Exit → Act → World → Prop} {w : World} (hgd : o.guard = none) (s x : Operand)
    (ho : o.op = .call { callee := .builtin .append, args := #[s, x], argTypes := #[29, 29] })
    (w0 : World) (v : Value) (l : List UInt8) (hs : a.eval s = v) (hb : Bb w0 w v l) (S : Nat → Prop) (u : Value) (l2 : List UInt8) (hx : a.eval x = u) (hr : Row1 S w byteR l2 u) (hne : l2 ≠ []) (hlen : l.length + l2.length ≤ 10000000)
    (h : ∀ v' w', Bb w0 w' v' (l ++ l2) → w.grownBy w' v.ownBlock → wpList Try.prog ops Q rest (a.put o.dst v') w') : wpList Try.prog ops Q (o :: rest) a w := by
  obtain ⟨i0, hi, hz0, hz1, hz2⟩ := info_parts Try.info_byteE
  obtain ⟨ao, cap, rfl, -, hc⟩ := hr
  obtain ⟨b, off, rfl, -, hcell⟩ := hc hne
  refine wpList_append_own _ hgd s x 29 ho w0.heap.size 5 i0 (.int .u8 0) 1 1 Try.underlying29 hi hz0 hz1 hz2 rfl (by decide) v _ _ hs hb.own ⟨b, off, none⟩ l2.length cap (Lib.byteCells l2) hx (by simp [Lib.byteCells]) ?_ (byteCells_one l2) (by unfold maxLen; omega) (by omega) hb.below.size ?_
  · intro j y hj
    simp only [Lib.byteCells, List.getElem?_map] at hj
    cases hjl : l2[j]? with
    | none => rw [hjl] at hj; cases hj
    | some d =>
      rw [hjl] at hj
      obtain ⟨hlt, hd⟩ := List.getElem?_eq_some_iff.1 hjl
      obtain ⟨c, h1, h2⟩ := hcell j hlt
      have e : y = c := by
        unfold byteR at h2
        rw [h2, hd]
        simpa using hj.symm
      rw [e, Addr.add_lit]
      exact h1
  · intro v' w' ho' hg _
    refine h v' w' (hb.grown ?_ hg) hg
    simpa [Lib.byteCells] using ho'

end Go.Proofs.Ytpnnbdejneoccaa
