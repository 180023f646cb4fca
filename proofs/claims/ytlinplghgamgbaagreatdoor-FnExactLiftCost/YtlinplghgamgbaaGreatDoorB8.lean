/-
  Several texts in one, in their order.
-/
import Derived.Test.YtlinplghgamgbaaGreatDoorB5
import Derived.Test.YtlinplghgamgbaaGreatDoorB7
import Derived.Test.YtlinplghgamgbaaGreatDoorCopyN
import Derived.Test.YtlinplghgamgbaaGreatDoorB1

/-
  What the program copies out: outerKind, one kid more.
-/
namespace Go.Proofs.YtlinplghgamgbaaGreatDoor
open Go.RowKit

/-- How many spots a schema has. -/
def spKL : (n : Nat) → K n → Nat
  | 0, _ => 0
  | n + 1, t => (Kd.names t).length + sumL (fun k => 1 + spKL n k) (Kd.kids t)

/-- What the loop of outerKind holds behind k kids. -/
structure KOutLoop (X n : Nat) (ks : List (K n)) (s : Int) (nv : Value) (w1 : World) (k : Nat) (v : Value) (wr : World) : Prop where
  near : Near X w1 wr
  box : wr.heap[X]? = some (.cells #[.int .i64 s, nv, v] 70 (0, 0))
  row : ∃ xs Ps, wr.ownsRow w1.heap.size 70 3 v k xs ∧ Ps.length = k ∧ KidsOwnK (fun b => w1.heap.size ≤ b ∧ b < wr.heap.size ∧ v.ownBlock ≠ some b) wr n ks xs Ps ∧ Ps.flatten.length + k = sumL (fun x => 1 + spKL n x) (ks.take k)

theorem KOutLoop.lt {X n : Nat} {ks : List (K n)} {s : Int} {nv : Value} {w1 : World} {k : Nat} {v : Value} {wr : World} (h : KOutLoop X n ks s nv w1 k v wr) : X < wr.heap.size := (Array.getElem?_eq_some_iff.1 h.box).1

/-- One kid more. -/
theorem kout_next {X n : Nat} {ks : List (K n)} {s : Int} {nv : Value} {w1 wr W w2 w3 : World} {k g cap : Nat} {v : Value} {xs : List Value} {Ps : List (List Spot)} {one : Obj} {c0 c1 c2 : Value} {L3 L4 : List Spot} (h : Near X w1 wr) (hX : X < w1.heap.size)
    (hbox : wr.heap[X]? = some (.cells #[.int .i64 s, nv, v] 70 (0, 0))) (hk : k < ks.length)
    (hown : wr.ownsRow w1.heap.size 70 3 v k xs) (hpl : Ps.length = k) (hko : KidsOwnK (fun b => w1.heap.size ≤ b ∧ b < wr.heap.size ∧ v.ownBlock ≠ some b) wr n ks xs Ps) (hln : Ps.flatten.length + k = sumL (fun x => 1 + spKL n x) (ks.take k))
    (hW : W.heap = wr.heap) (hWo : W.os = wr.os ∧ W.tape = wr.tape ∧ W.output = wr.output)
    (hb2 : Below W.heap.size W w2) (hin : KindIn (fun b => wr.heap.size ≤ b ∧ b < w2.heap.size) w2 n ks[k] c0 c1 c2) (h3 : SpN w2 c1 L3) (h4 : SpK w2 (n - 1) c2 L4) (ho : Own (fun b => wr.heap.size ≤ b ∧ b < w2.heap.size) (L3 ++ L4)) (hl : (L3 ++ L4).length = spKL n ks[k])
    (hown' : w3.ownsRow w1.heap.size 70 3 (.slice (some ⟨g, 0, none⟩) (k + 1) cap) (k + 1) (xs ++ [c0, c1, c2])) (hgrow : (w2.alloc one).grownBy w3 v.ownBlock) (hat : v.ownBlock = some g ∨ g = w2.heap.size + 1) :
    KOutLoop X n ks s nv w1 (k + 1) (.slice (some ⟨g, 0, none⟩) (k + 1) cap) (w3.setCell ⟨X, 2, none⟩ (.slice (some ⟨g, 0, none⟩) (k + 1) cap)) := by
  have hz2 := hb2.size
  have hz3 := hgrow.size
  have hz1 := h.size
  simp at hz3
  rw [hW] at hz2
  have hrl : ∀ b, v.ownBlock = some b → w1.heap.size ≤ b ∧ b < wr.heap.size := r1_lt hown
  have hxl : xs.length = k * 3 := hown.1
  have q3 : ∀ b, b < w2.heap.size → v.ownBlock ≠ some b → w3.heap[b]? = w2.heap[b]? := fun b hb hne => by
    rw [hgrow.block b (by simp; omega) (fun e => hne e.symm), Below.heap_alloc _ _ _ hb]
  have q2 : ∀ b, b < wr.heap.size → v.ownBlock ≠ some b → w3.heap[b]? = wr.heap[b]? := fun b hb hno => by
    rw [q3 b (by omega) hno, hb2.block b (by rw [hW]; exact hb), hW]
  have qs : ∀ b, b ≠ X → (w3.setCell ⟨X, 2, none⟩ (.slice (some ⟨g, 0, none⟩) (k + 1) cap)).heap[b]? = w3.heap[b]? := fun b hb => Below.heap_setCell _ _ _ _ hb
  have hsz : (w3.setCell ⟨X, 2, none⟩ (.slice (some ⟨g, 0, none⟩) (k + 1) cap)).heap.size = w3.heap.size := by simp
  have hXv : v.ownBlock ≠ some X := fun e => by have := hrl X e; omega
  have hbox3 := (q2 X (by omega) hXv).trans hbox
  have hfar : ∀ b, v.ownBlock ≠ some b → b < w2.heap.size → (Value.slice (some ⟨g, 0, none⟩) (k + 1) cap).ownBlock ≠ some b := by
    intro b h1 h2 e
    have e : g = b := by simpa [Value.ownBlock] using e
    rcases hat with h3 | h3
    · exact h1 (by rw [h3, e])
    · omega
  have hnv : ∀ b, wr.heap.size ≤ b → v.ownBlock ≠ some b := fun b h1 e => by have := hrl b e; omega
  have hgl := r1_lt hown' g rfl
  refine ⟨⟨?_, ?_, ?_, by rw [hsz]; omega, fun b hb hne => ?_⟩, ?_, xs ++ [c0, c1, c2], Ps ++ [L3 ++ L4], r1_keep hown' fun g' hg' => qs g' (by have := r1_lt hown' g' hg'; omega), by simp [hpl], ⟨?_, fun j hj hp => ?_⟩, ?_⟩
  · show w3.os = w1.os
    rw [hgrow.os]; exact hb2.os.trans (hWo.1.trans h.os)
  · show w3.tape = w1.tape
    rw [hgrow.tape]; exact hb2.tape.trans (hWo.2.1.trans h.tape)
  · show w3.output = w1.output
    rw [hgrow.output]; exact hb2.output.trans (hWo.2.2.trans h.output)
  · rw [qs b hne, q2 b (by omega) (fun e => by have := hrl b e; omega)]; exact h.block b hb hne
  · simp [World.setCell, Array.getElem?_modify, hbox3]
  · rw [List.flatten_append, List.flatten_singleton]
    refine hko.1.app ho (fun b hb => ⟨hb.1, by rw [hsz]; omega, hfar b hb.2.2 (by omega)⟩) (fun b hb => ⟨by omega, by rw [hsz]; omega, hfar b (hnv b hb.1) hb.2⟩) (fun b h1 h2 => by omega)
  · by_cases hjk : j < k
    · have hjp : j < Ps.length := by omega
      obtain ⟨d0, d1, d2, K3, K4, hd, hPj, hdt, hd3, hd4⟩ := hko.2 j hj hjp
      have hsp : ∀ s, s ∈ K3 ++ K4 → (w3.setCell ⟨X, 2, none⟩ (.slice (some ⟨g, 0, none⟩) (k + 1) cap)).heap[s.b]? = wr.heap[s.b]? := fun s hs => by
        have := hko.1.1 s (List.mem_flatten.2 ⟨_, List.getElem_mem hjp, by rw [hPj]; exact hs⟩)
        rw [qs s.b (by have := this.1; omega)]
        exact q2 s.b this.2.1 this.2.2
      refine ⟨d0, d1, d2, K3, K4, ?_, by rw [List.getElem_append_left hjp]; exact hPj, hdt.keep (fun b hb => by rw [qs b (by have := hb.1; omega)]; exact q2 b hb.2.1 hb.2.2) (fun b hb => ⟨hb.1, by rw [hsz]; have := hb.2.1; omega, hfar b hb.2.2 (by have := hb.2.1; omega)⟩),
        hd3.same (fun s hs => hsp s (List.mem_append_left _ hs)), hd4.same (fun s hs => hsp s (List.mem_append_right _ hs))⟩
      rw [List.getElem?_append_left (by omega), List.getElem?_append_left (by omega), List.getElem?_append_left (by omega)]
      exact hd
    · have hjk' : j = k := by simp at hp; omega
      subst hjk'
      have hsp : ∀ s, s ∈ L3 ++ L4 → (w3.setCell ⟨X, 2, none⟩ (.slice (some ⟨g, 0, none⟩) (j + 1) cap)).heap[s.b]? = w2.heap[s.b]? := fun s hs => by
        have := ho.1 s hs
        rw [qs s.b (by omega)]
        exact q3 s.b this.2 (hnv _ this.1)
      refine ⟨c0, c1, c2, L3, L4, ?_, by simp [← hpl], hin.keep (fun b hb => by rw [qs b (by omega)]; exact q3 b hb.2 (hnv b hb.1)) (fun b hb => ⟨by have := hb.1; omega, by rw [hsz]; have := hb.2; omega, hfar b (hnv b hb.1) hb.2⟩),
        h3.same (fun s hs => hsp s (List.mem_append_left _ hs)), h4.same (fun s hs => hsp s (List.mem_append_right _ hs))⟩
      rw [List.getElem?_append_right (by omega), List.getElem?_append_right (by omega), List.getElem?_append_right (by omega), hxl,
        Nat.sub_self, show j * 3 + 1 - j * 3 = 1 by omega, show j * 3 + 2 - j * 3 = 2 by omega]
      exact ⟨rfl, rfl, rfl⟩
  · rw [List.take_succ_eq_append_getElem hk, sumL_snoc, ← hln, List.flatten_append, List.flatten_singleton, List.length_append, hl]; omega

end Go.Proofs.YtlinplghgamgbaaGreatDoor

/-
  What KindRead answers; how many spots an answer has.
-/
namespace Go.Proofs.YtlinplghgamgbaaGreatDoor
open Go.RowKit

/-- The schema that is answered. -/
def ansR (m : Nat) (s : ByteArray) : K (m + 1) := (readK (m + 1) s).getD (⟨0, [], []⟩ : Kd (K m))

/-- Whether one is read. -/
def okR (m : Nat) (s : ByteArray) : Bool := (readK (m + 1) s).isSome

theorem ansR_some {m : Nat} {s : ByteArray} {k : K (m + 1)} (h : readK (m + 1) s = some k) : ansR m s = k ∧ okR m s = true := by
  unfold ansR okR; rw [h]; exact ⟨rfl, rfl⟩
theorem ansR_none {m : Nat} {s : ByteArray} (h : readK (m + 1) s = none) : ansR m s = (⟨0, [], []⟩ : Kd (K m)) ∧ okR m s = false := by
  unfold ansR okR; rw [h]; exact ⟨rfl, rfl⟩

theorem readK_long {n : Nat} {s : ByteArray} (h : ¬ s.size ≤ 800) : readK n s = none := by unfold readK; rw [if_neg h]
theorem readK_no {n : Nat} {s : ByteArray} (h : ∀ k, parseK n s.data.toList ≠ some (k, [])) : readK n s = none := by
  unfold readK
  split
  · split
    · next k hp => exact absurd hp (h k)
    · rfl
  · rfl
theorem readK_bad {n : Nat} {s : ByteArray} {k : K n} (h : parseK n s.data.toList = some (k, [])) (hok : okK n k = false) : readK n s = none := by
  unfold readK
  split
  · rw [h]; simp only [hok, Bool.false_eq_true, if_false]
  · rfl
theorem readK_yes {n : Nat} {s : ByteArray} {k : K n} (h8 : s.size ≤ 800) (h : parseK n s.data.toList = some (k, [])) (hok : okK n k = true) : readK n s = some k := by
  unfold readK
  rw [if_pos h8, h]; simp only [hok, if_true]

theorem zeroK_in (S : Nat → Prop) (w : World) (m : Nat) : KindIn S w (m + 1) (⟨0, [], []⟩ : Kd (K m)) (.int .i64 0) (.slice none 0 0) (.slice none 0 0) :=
  ⟨rfl, rfl, ⟨none, 0, rfl, by simp [maxLen], fun s h => (by cases h), fun h => absurd rfl h⟩, ⟨none, 0, rfl, by simp [maxLen], fun h => absurd rfl h⟩⟩

theorem spKL_le : ∀ (n : Nat) (t : K n) (d : Int), goodK n t d = true → spKL n t + 2 ≤ 2 * cntK n t := by
  intro n
  induction n with
  | zero => intro t d h; simp [goodK] at h
  | succ n ih =>
    intro t d hg
    have hg2 := hg
    simp only [goodK, Bool.and_eq_true] at hg2
    have hcnt : cntK (n + 1) t = 1 + sumL (fun x => cntK n x) (Kd.kids t) := by simp only [cntK]
    have hnl : (Kd.names t).length ≤ (Kd.kids t).length := by
      by_cases h5 : Kd.sort t = 5
      · have := (form_of hg h5).1; omega
      · rw [names_of_other hg h5]; simp
    have key : ∀ l : List (K n), (∀ x, x ∈ l → goodK n x (d + 1) = true) → l.length + sumL (fun x => 1 + spKL n x) l ≤ 2 * sumL (fun x => cntK n x) l := by
      intro l
      induction l with
      | nil => intro _; simp [sumL]
      | cons a r ihr =>
        intro h
        have h1 := ih a (d + 1) (h a (List.mem_cons_self ..))
        have h2 := ihr (fun x hx => h x (List.mem_cons_of_mem _ hx))
        simp only [sumL, List.length_cons]
        omega
    have := key (Kd.kids t) (fun x hx => List.all_eq_true.1 hg2.2 _ hx)
    rw [hcnt]
    show (Kd.names t).length + sumL (fun x => 1 + spKL n x) (Kd.kids t) + 2 ≤ _
    omega

end Go.Proofs.YtlinplghgamgbaaGreatDoor
