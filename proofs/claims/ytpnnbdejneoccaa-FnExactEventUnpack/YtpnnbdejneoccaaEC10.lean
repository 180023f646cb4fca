/-
  The program's cursor over bytes: a whole event.
-/
import Derived.Test.YtpnnbdejneoccaaB17
import Derived.Test.YtpnnbdejneoccaaB16
namespace Go.Proofs.Ytpnnbdejneoccaa
open Go.RowKit

theorem nameB_let {x : ByteArray} (h : nameB x = true) : ∀ k (hk : k < x.size), letB (x[k]'hk).toNat := by
  intro k hk
  simp only [nameB, Bool.and_eq_true] at h
  have hm : x[k]'hk ∈ x.data.toList := by
    show x.data[k] ∈ x.data.toList
    exact Array.getElem_mem_toList ..
  have := List.all_eq_true.1 h.2 _ hm
  simp only [nmByte, decide_eq_true_eq] at this
  unfold letB
  omega

/-- Of the event that was taken: it has these bytes if it is ok, and no other has them. -/
def TookE (L : Nat) (l : List UInt8) (x : ByteArray) (v : Int) (t : T L) : Prop :=
  (okE L x v t = true → packE L x v t = l) ∧ ∀ (x' : ByteArray) (v' : Int) (t' : T L), okE L x' v' t' = true → packE L x' v' t' = l → x = x' ∧ v = v' ∧ t = t'

/-- What whole makes. -/
def WholeC (L : Nat) (w : World) (R : Nat) (l : List UInt8) (e : Ending) (w' : World) : Prop :=
  Near R w w' ∧ ((∃ (x : ByteArray) (v : Int) (t : T L) (c0 c1 c2 c3 c4 : Value), e = .returned (.agg #[.string x, .int .i64 v, c0, c1, c2, c3, c4]) ∧ x.size ≤ 255 ∧ TreeIn (fun b => w.heap.size ≤ b ∧ b < w'.heap.size) w' L t c0 c1 c2 c3 c4 ∧ OwnT (fun b => w.heap.size ≤ b ∧ b < w'.heap.size) w' L t c3 c4 ∧ TookE L l x v t) ∨
    ((∀ (x' : ByteArray) (v' : Int) (t' : T L), okE L x' v' t' = true → packE L x' v' t' ≠ l) ∧ e = .panicked refusal))

/-- An event that is ok, by what the cursor takes of its bytes. -/
theorem packE_took {L : Nat} {l : List UInt8} {x' : ByteArray} {v' : Int} {t' : T L} (ho : okE L x' v' t' = true) (hp : packE L x' v' t' = l) : takeS l = some (x', b8 v' :: packT L t') ∧ (∀ k (hk : k < x'.size), letB (x'[k]'hk).toNat) ∧ ((b8 v').toNat : Int) = v' ∧ decI L (packT L t') = some (t', []) := by
  obtain ⟨hnm, hv, -, hokT⟩ := okE_parts ho
  have hx8 : x'.size ≤ 8 := by simp only [nameB, Bool.and_eq_true, decide_eq_true_eq] at hnm; exact hnm.1.1.2
  have hg := okT_getE hokT
  refine ⟨?_, nameB_let hnm, ?_, ?_⟩
  · rw [← hp]; exact takeS_complete x' _ (by omega)
  · obtain ⟨k, rfl⟩ : ∃ k : Nat, v' = (k : Int) := ⟨v'.toNat, by omega⟩
    rw [b8_toNat (by omega)]
  · have := decI_complete L t' 1 [] hg.1 hg.2
    rw [List.append_nil] at this
    exact this

theorem took_type {L : Nat} {l : List UInt8} (h : ∀ x r, takeS (l.drop 0) = some (x, r) → ∃ k, ∃ h : k < x.size, ¬ letB (x[k]'h).toNat) : ∀ (x' : ByteArray) (v' : Int) (t' : T L), okE L x' v' t' = true → packE L x' v' t' ≠ l := fun x' v' t' ho hp => by
  obtain ⟨h1, h2, -⟩ := packE_took ho hp
  obtain ⟨k, hk, hn⟩ := h x' _ h1
  exact hn (h2 k hk)

theorem drop_cons {l : List UInt8} {i : Nat} {b : UInt8} {r : List UInt8} (h : l.drop i = b :: r) : ∃ hi : i < l.length, l[i] = b ∧ l.drop (i + 1) = r := by
  have hi : i < l.length := Classical.byContradiction fun hge => by rw [List.drop_eq_nil_of_le (by omega)] at h; cases h
  rw [List.drop_eq_getElem_cons hi] at h
  injection h with h1 h2
  exact ⟨hi, h1, h2⟩

theorem took_version {L : Nat} {l : List UInt8} {x : ByteArray} {i : Nat} (h : takeS (l.drop 0) = some (x, l.drop i)) (hi : l.length ≤ i) : ∀ (x' : ByteArray) (v' : Int) (t' : T L), okE L x' v' t' = true → packE L x' v' t' ≠ l := fun x' v' t' ho hp => by
  obtain ⟨h1, -⟩ := packE_took ho hp
  rw [List.drop_zero, h1] at h
  injection h with h
  obtain ⟨hi', -⟩ := drop_cons (congrArg Prod.snd h).symm
  omega

theorem took_parts {L : Nat} {l : List UInt8} {x : ByteArray} {i : Nat} (h : takeS (l.drop 0) = some (x, l.drop i)) (hi : i < l.length) {x' : ByteArray} {v' : Int} {t' : T L} (ho : okE L x' v' t' = true) (hp : packE L x' v' t' = l) : x = x' ∧ (l[i].toNat : Int) = v' ∧ decI L (l.drop (i + 1)) = some (t', []) := by
  obtain ⟨h1, -, h3, h4⟩ := packE_took ho hp
  rw [List.drop_zero, h1] at h
  injection h with h
  obtain ⟨hi', h5, h6⟩ := drop_cons (congrArg Prod.snd h).symm
  exact ⟨(congrArg Prod.fst h).symm, by rw [h5]; exact h3, by rw [h6]; exact h4⟩

theorem took_tree {L : Nat} {l : List UInt8} {x : ByteArray} {i : Nat} (h : takeS (l.drop 0) = some (x, l.drop i)) (hi : i < l.length) (ht : ∀ t', decI L (l.drop (i + 1)) ≠ some (t', [])) : ∀ (x' : ByteArray) (v' : Int) (t' : T L), okE L x' v' t' = true → packE L x' v' t' ≠ l := fun _ _ t' ho hp => ht t' (took_parts h hi ho hp).2.2

theorem took_all {L : Nat} {l : List UInt8} {x : ByteArray} {i : Nat} {t : T L} (h : takeS (l.drop 0) = some (x, l.drop i)) (hi : i < l.length) (ht : decI L (l.drop (i + 1)) = some (t, [])) : TookE L l x (l[i].toNat : Int) t := by
  refine ⟨fun ho => ?_, fun x' v' t' ho hp => ?_⟩
  · have hg := (okT_getE (okE_parts ho).2.2.2).1
    have h1 := (takeS_sound h).1
    rw [List.drop_zero, List.drop_eq_getElem_cons hi, decI_sound L _ _ t 1 ht hg] at h1
    refine Eq.trans ?_ h1.symm
    unfold packE
    rw [b8_byte, List.append_nil]
  · obtain ⟨a1, a2, a3⟩ := took_parts h hi ho hp
    rw [ht] at a3
    injection a3 with a3
    exact ⟨a1, a2, congrArg Prod.fst a3⟩

/-- What stands while the event is taken: its block at N + 1, the answer's at N = w.heap.size. -/
structure EW (w W : World) (R : Nat) (ao : Option Addr) (l : List UInt8) (cap i : Nat) (a0 a1 a2 a3 a4 a5 a6 : Value) : Prop where
  cu0 : Cu w R ao l cap 0
  near : Near R w W
  zero : W.heap[w.heap.size]? = some (.cells #[.string ⟨#[]⟩, .int .i64 0, .int .i64 0, .int .i64 0, .string ⟨#[]⟩, .slice none 0 0, .slice none 0 0] 35 (0, 0))
  box : W.heap[w.heap.size + 1]? = some (.cells #[a0, a1, a2, a3, a4, a5, a6] 35 (0, 0))
  cu : Cu W R ao l cap i

theorem EW.step {w W W' : World} {R : Nat} {ao : Option Addr} {l : List UInt8} {cap i j : Nat} {a0 a1 a2 a3 a4 a5 a6 : Value} (h : EW w W R ao l cap i a0 a1 a2 a3 a4 a5 a6) (hn : Near R W W') (hc : Cu W' R ao l cap j) : EW w W' R ao l cap j a0 a1 a2 a3 a4 a5 a6 := by
  have hR := h.cu0.lt
  have hX : w.heap.size + 1 < W.heap.size := (Array.getElem?_eq_some_iff.1 h.box).1
  exact ⟨h.cu0, h.near.trans hn, (hn.block _ (by omega) (by omega)).trans h.zero, (hn.block _ hX (by omega)).trans h.box, hc⟩

theorem EW.change {w W W' : World} {R : Nat} {ao : Option Addr} {l : List UInt8} {cap i : Nat} {a0 a1 a2 a3 a4 a5 a6 b0 b1 b2 b3 b4 b5 b6 : Value} (h : EW w W R ao l cap i a0 a1 a2 a3 a4 a5 a6) (hb : Below w.heap.size W W') (qq : ∀ b, b ≠ w.heap.size + 1 → W'.heap[b]? = W.heap[b]?) (hx : W'.heap[w.heap.size + 1]? = some (.cells #[b0, b1, b2, b3, b4, b5, b6] 35 (0, 0))) : EW w W' R ao l cap i b0 b1 b2 b3 b4 b5 b6 := by
  have hR := h.cu0.lt
  have hn : Near R w W' := ⟨hb.os.trans h.near.os, hb.tape.trans h.near.tape, hb.output.trans h.near.output, Nat.le_trans h.near.size hb.size, fun b hb hne => (qq b (by omega)).trans (h.near.block b hb hne)⟩
  exact ⟨h.cu0, hn, (qq _ (by omega)).trans h.zero, hx, h.cu0.keep hn ((qq R (by omega)).trans h.cu.box) h.cu.le⟩

theorem EW.set0 {w W : World} {R : Nat} {ao : Option Addr} {l : List UInt8} {cap i : Nat} {a0 a1 a2 a3 a4 a5 a6 : Value} (h : EW w W R ao l cap i a0 a1 a2 a3 a4 a5 a6) (u : Value) : EW w (W.setCell ⟨w.heap.size + 1, 0, none⟩ u) R ao l cap i u a1 a2 a3 a4 a5 a6 :=
  h.change ((Below.refl _ _).setCell (by show w.heap.size ≤ w.heap.size + 1; omega) u) (fun b hb => Below.heap_setCell _ _ _ _ hb) (by simp [World.setCell, Array.getElem?_modify, h.box])
theorem EW.set1 {w W : World} {R : Nat} {ao : Option Addr} {l : List UInt8} {cap i : Nat} {a0 a1 a2 a3 a4 a5 a6 : Value} (h : EW w W R ao l cap i a0 a1 a2 a3 a4 a5 a6) (u : Value) : EW w (W.setCell ⟨w.heap.size + 1, 1, none⟩ u) R ao l cap i a0 u a2 a3 a4 a5 a6 :=
  h.change ((Below.refl _ _).setCell (by show w.heap.size ≤ w.heap.size + 1; omega) u) (fun b hb => Below.heap_setCell _ _ _ _ hb) (by simp [World.setCell, Array.getElem?_modify, h.box])
theorem EW.put {w W : World} {R : Nat} {ao : Option Addr} {l : List UInt8} {cap i : Nat} {a0 a1 a2 a3 a4 a5 a6 : Value} (h : EW w W R ao l cap i a0 a1 a2 a3 a4 a5 a6) (g0 g1 g2 g3 g4 : Value) : EW w (put5 W (w.heap.size + 1) 2 g0 g1 g2 g3 g4) R ao l cap i a0 a1 g0 g1 g2 g3 g4 :=
  h.change (put5_below (Below.refl _ _) (by omega)) (fun b hb => put5_other hb) (by simp [put5, World.setCell, Array.getElem?_modify, h.box])
theorem EW.drewN {w W : World} {R : Nat} {ao : Option Addr} {l : List UInt8} {cap i : Nat} {a0 a1 a2 a3 a4 a5 a6 : Value} (h : EW w W R ao l cap i a0 a1 a2 a3 a4 a5 a6) (n : Nat) : EW w (W.drewN n) R ao l cap i a0 a1 a2 a3 a4 a5 a6 := h.step (nearC_drewN (Near.refl R W) n) (h.cu.drewN n)

theorem whole_out {L : Nat} {w W : World} {R : Nat} {ao : Option Addr} {l : List UInt8} {cap i : Nat} {x : ByteArray} {v : Int} {t : T L} {c0 c1 c2 c3 c4 : Value} (h : EW w W R ao l cap i (.string x) (.int .i64 v) c0 c1 c2 c3 c4) (hx : x.size ≤ 255) (ht : TreeIn (fun b => w.heap.size + 2 ≤ b ∧ b < W.heap.size) W L t c0 c1 c2 c3 c4) (ho : OwnT (fun b => w.heap.size + 2 ≤ b ∧ b < W.heap.size) W L t c3 c4) (hk : TookE L l x v t) :
    WholeC L w R l (.returned (.agg #[.string x, .int .i64 v, c0, c1, c2, c3, c4])) (put7 W w.heap.size (.string x) (.int .i64 v) c0 c1 c2 c3 c4) := by
  have hR := h.cu0.lt
  have qq : ∀ b, b ≠ w.heap.size → (put7 W w.heap.size (.string x) (.int .i64 v) c0 c1 c2 c3 c4).heap[b]? = W.heap[b]? := fun b h => put7_other h
  have hz : (put7 W w.heap.size (.string x) (.int .i64 v) c0 c1 c2 c3 c4).heap.size = W.heap.size := put7_size
  have hbl : Below 0 W (put7 W w.heap.size (.string x) (.int .i64 v) c0 c1 c2 c3 c4) := put7_below (Below.refl 0 W) (Nat.zero_le _)
  exact ⟨⟨hbl.os.trans h.near.os, hbl.tape.trans h.near.tape, hbl.output.trans h.near.output, by rw [hz]; exact h.near.size, fun b hb hne => (qq b (by omega)).trans (h.near.block b hb hne)⟩,
    .inl ⟨x, v, t, _, _, _, _, _, rfl, hx, ht.keep (fun b hb => qq b (by omega)) (fun b hb => ⟨by omega, by rw [hz]; exact hb.2⟩), ho.keep (fun b hb => qq b (by omega)) (fun b hb => ⟨by omega, by rw [hz]; exact hb.2⟩), hk⟩⟩

end Go.Proofs.Ytpnnbdejneoccaa
