/-
  Several texts in one, in their order.
-/
import Derived.Test.YtpnnbdejneoccaaGreatDoorTOut0
import Derived.Test.YtpnnbdejneoccaaGreatDoorB16
import Derived.Test.YtpnnbdejneoccaaGreatDoorB2
import Derived.Test.YtpnnbdejneoccaaGreatDoorB17

/-
  What a tree owns that the program's cursor has taken.
-/
namespace Go.Proofs.YtpnnbdejneoccaaGreatDoor
open Go.RowKit

/-- A tree's rows, as spots that none has twice. -/
def OwnT (P : Nat → Prop) (w : World) (n : Nat) (t : T n) (c3 c4 : Value) : Prop := ∃ L3 L4, SpN w c3 L3 ∧ SpR w (n - 1) c4 L4 ∧ Own P (L3 ++ L4) ∧ (L3 ++ L4).length = spL n t

theorem OwnT.keep {P P' : Nat → Prop} {w w' : World} {n : Nat} {t : T n} {c3 c4 : Value} (h : OwnT P w n t c3 c4) (hb : ∀ b, P b → w'.heap[b]? = w.heap[b]?) (hP : ∀ b, P b → P' b) : OwnT P' w' n t c3 c4 := by
  obtain ⟨L3, L4, h3, h4, ho, hl⟩ := h
  exact ⟨L3, L4, h3.same (fun s hs => hb _ (ho.1 s (List.mem_append_left _ hs))), h4.same (fun s hs => hb _ (ho.1 s (List.mem_append_right _ hs))), ho.mono hP, hl⟩

theorem KidsOwn.keep {P P' : Nat → Prop} {w w' : World} {n : Nat} {ks : List (T n)} {xs : List Value} {Ps : List (List Spot)} (h : KidsOwn P w n ks xs Ps) (hb : ∀ b, P b → w'.heap[b]? = w.heap[b]?) (hP : ∀ b, P b → P' b) : KidsOwn P' w' n ks xs Ps := by
  refine ⟨h.1.mono hP, fun j hj hp => ?_⟩
  obtain ⟨c0, c1, c2, c3, c4, L3, L4, hx, hPj, ht, h3, h4⟩ := h.2 j hj hp
  have hm : ∀ s, s ∈ L3 ++ L4 → w'.heap[s.b]? = w.heap[s.b]? := fun s hs => hb _ (h.1.1 s (List.mem_flatten.2 ⟨_, List.getElem_mem hp, by rw [hPj]; exact hs⟩))
  exact ⟨c0, c1, c2, c3, c4, L3, L4, hx, hPj, ht.keep (fun b h => hb b h) hP, h3.same (fun s hs => hm s (List.mem_append_left _ hs)), h4.same (fun s hs => hm s (List.mem_append_right _ hs))⟩

theorem KidsOwn.snoc {P Q : Nat → Prop} {w : World} {n : Nat} {ks : List (T n)} {xs : List Value} {Ps : List (List Spot)} {t : T n} {c0 c1 c2 c3 c4 : Value} {L3 L4 : List Spot} (h : KidsOwn P w n ks xs Ps) (hpl : Ps.length = ks.length) (hxl : xs.length = ks.length * 5) (ht : TreeIn Q w n t c0 c1 c2 c3 c4) (h3 : SpN w c3 L3) (h4 : SpR w (n - 1) c4 L4) (ho : Own Q (L3 ++ L4)) (hd : ∀ b, P b → Q b → False) :
    KidsOwn (fun b => P b ∨ Q b) w n (ks ++ [t]) (xs ++ [c0, c1, c2, c3, c4]) (Ps ++ [L3 ++ L4]) := by
  refine ⟨?_, fun j hj hp => ?_⟩
  · rw [List.flatten_append, List.flatten_singleton]
    exact h.1.app ho (fun b hb => .inl hb) (fun b hb => .inr hb) hd
  · by_cases hjk : j < ks.length
    · have hjp : j < Ps.length := by omega
      obtain ⟨d0, d1, d2, d3, d4, K3, K4, hx, hPj, hdt, hd3, hd4⟩ := h.2 j hjk hjp
      refine ⟨d0, d1, d2, d3, d4, K3, K4, ?_, by rw [List.getElem_append_left hjp]; exact hPj, ?_, hd3, hd4⟩
      · rw [List.getElem?_append_left (by omega), List.getElem?_append_left (by omega), List.getElem?_append_left (by omega), List.getElem?_append_left (by omega), List.getElem?_append_left (by omega)]
        exact hx
      · rw [List.getElem_append_left hjk]
        exact hdt.keep (fun _ _ => rfl) (fun b hb => .inl hb)
    · have hje : j = ks.length := by
        rw [List.length_append, List.length_singleton] at hj; omega
      subst hje
      refine ⟨c0, c1, c2, c3, c4, L3, L4, ?_, by simp [← hpl], ?_, h3, h4⟩
      · rw [List.getElem?_append_right (by omega), List.getElem?_append_right (by omega), List.getElem?_append_right (by omega), List.getElem?_append_right (by omega), List.getElem?_append_right (by omega), hxl,
          Nat.sub_self, show ks.length * 5 + 1 - ks.length * 5 = 1 by omega, show ks.length * 5 + 2 - ks.length * 5 = 2 by omega, show ks.length * 5 + 3 - ks.length * 5 = 3 by omega, show ks.length * 5 + 4 - ks.length * 5 = 4 by omega]
        exact ⟨rfl, rfl, rfl, rfl, rfl⟩
      · rw [List.getElem_append_right (Nat.le_refl _)]
        simp only [Nat.sub_self, List.getElem_cons_zero]
        exact ht.keep (fun _ _ => rfl) (fun b hb => .inr hb)

/-- What is gathered, and what it owns. -/
structure ManyP (R X n : Nat) (w wr : World) (so : Int) (ns : List ByteArray) (ks : List (T n)) (nv kv : Value) : Prop extends Many R X n w wr so ns ks nv kv where
  own : ∃ xs Ps, wr.ownsRow (X + 1) 25 5 kv ks.length xs ∧ Ps.length = ks.length ∧ KidsOwn (Far (X + 1) nv kv wr.heap.size) wr n ks xs Ps ∧ Ps.flatten.length + 3 * ks.length = sumL (fun x => 3 + spL n x) ks

theorem ManyP.start {R X n : Nat} {w wr : World} {so : Int} (h : Many R X n w wr so [] [] (.slice none 0 0) (.slice none 0 0)) : ManyP R X n w wr so [] [] (.slice none 0 0) (.slice none 0 0) :=
  ⟨h, [], [], ⟨rfl, .inl ⟨rfl, rfl⟩⟩, rfl, ⟨Own.nil _, fun _ hj => absurd hj (Nat.not_lt_zero _)⟩, rfl⟩

theorem ManyP.keep {R X n : Nat} {w wr W : World} {so : Int} {ns : List ByteArray} {ks : List (T n)} {nv kv : Value} (h : ManyP R X n w wr so ns ks nv kv) (hRX : R < X) (hn : Near R wr W) : ManyP R X n w W so ns ks nv kv := by
  obtain ⟨xs, Ps, hx, hp, hk, hl⟩ := h.own
  refine ⟨h.toMany.keep hRX hn, xs, Ps, owns_keep hx fun g hg => ?_, hp, hk.keep (fun b hb => ?_) (fun b hb => ⟨hb.1, Nat.lt_of_lt_of_le hb.2.1 hn.size, hb.2.2⟩), hl⟩
  · have := owns_lt hx g hg
    exact hn.block g this.2 (by omega)
  · have := hb.1
    exact hn.block b hb.2.1 (by omega)

/-- One name more. -/
theorem ManyP.name {R X n : Nat} {w W Wa W2 : World} {so : Int} {ns : List ByteArray} {ks : List (T n)} {nv kv : Value} {x : ByteArray} {one : Obj} {g cap : Nat} (h : ManyP R X n w W so ns ks nv kv) (hw : w.heap.size ≤ X)
    (ha : Wa.heap = W.heap.push one) (ho : Wa.os = W.os ∧ Wa.tape = W.tape ∧ Wa.output = W.output) (hx : x.size ≤ 10000)
    (hown : W2.ownsRow (X + 1) 9 1 (.slice (some ⟨g, 0, none⟩) (ns.length + 1) cap) (ns.length + 1) (ns.map .string ++ [.string x])) (hgrow : Wa.grownBy W2 nv.ownBlock) (hat : nv.ownBlock = some g ∨ g = W.heap.size + 1) :
    ManyP R X n w (W2.setCell ⟨X, 3, none⟩ (.slice (some ⟨g, 0, none⟩) (ns.length + 1) cap)) so (ns ++ [x]) ks (.slice (some ⟨g, 0, none⟩) (ns.length + 1) cap) kv := by
  have hM := h.toMany.name hw ha ho hx hown hgrow hat
  have hX := h.lt
  have hz : W2.heap.size ≥ W.heap.size + 1 := by have := hgrow.size; rw [ha] at this; simp at this; omega
  have hnl := owns_lt h.names
  have q : ∀ b, b < W.heap.size → nv.ownBlock ≠ some b → W2.heap[b]? = W.heap[b]? := fun b hb hne => by
    rw [hgrow.block b (by rw [ha]; simp; omega) (fun e => hne e.symm), ha, Array.getElem?_push_lt hb, Array.getElem?_eq_getElem hb]
  have qs : ∀ b, b ≠ X → (W2.setCell ⟨X, 3, none⟩ (.slice (some ⟨g, 0, none⟩) (ns.length + 1) cap)).heap[b]? = W2.heap[b]? := fun b hb => Below.heap_setCell _ _ _ _ hb
  have hsz : (W2.setCell ⟨X, 3, none⟩ (.slice (some ⟨g, 0, none⟩) (ns.length + 1) cap)).heap.size = W2.heap.size := by simp
  obtain ⟨xs, Ps, hxs, hp, hk, hl⟩ := h.own
  have hkl := owns_lt hxs
  refine ⟨hM, xs, Ps, owns_keep hxs fun g' hg' => ?_, hp, hk.keep (fun b hb => ?_) (fun b hb => ?_), hl⟩
  · have := hkl g' hg'
    rw [qs g' (by omega), q g' this.2 (fun e => h.apart g' e hg')]
  · have h1 := hb.1
    rw [qs b (by omega), q b hb.2.1 hb.2.2.1]
  · refine ⟨hb.1, by rw [hsz]; have := hb.2.1; omega, ?_, hb.2.2.2⟩
    intro e
    have e : g = b := by simpa [Value.ownBlock] using e
    rcases hat with h1 | h1
    · exact hb.2.2.1 (by rw [h1, e])
    · have := hb.2.1; omega

/-- What is gathered owns its rows. -/
theorem ManyP.owns {R X n : Nat} {w wr : World} {so : Int} {ns : List ByteArray} {ks : List (T n)} {nv kv : Value} (h : ManyP R X n w wr so ns ks nv kv) (hns : ns.length ≤ 20000) (hks : ks.length ≤ 20000) :
    OwnT (fun b => X ≤ b ∧ b < wr.heap.size) wr (n + 1) (⟨so, 0, ByteArray.empty, ns, ks⟩ : Nd (T n)) nv kv := by
  obtain ⟨xs, Ps, hxs, hp, hk, hl⟩ := h.own
  obtain ⟨L3, h3, l3, o3⟩ := spn_of_owns h.names hns
  obtain ⟨L4, h4, o4, l4⟩ := spr_of_owns hxs hks hp hk (fun b hb => hb.2.2.2)
  have hnl := owns_lt h.names
  have hkl := owns_lt hxs
  refine ⟨L3, L4, h3, h4, o3.app o4 (fun b hb => ?_) (fun b hb => ?_) (fun b h1 h2 => ?_), ?_⟩
  · have := hnl b hb
    exact ⟨by omega, this.2⟩
  · rcases hb with hb | hb
    · have := hb.1
      exact ⟨by omega, hb.2.1⟩
    · have := hkl b hb
      exact ⟨by omega, this.2⟩
  · rcases h2 with h2 | h2
    · exact h2.2.2.1 h1
    · exact h.apart b h1 h2
  · rw [List.length_append, l3, l4]
    show _ = ns.length + sumL (fun k => 3 + spL n k) ks
    omega

end Go.Proofs.YtpnnbdejneoccaaGreatDoor

/-
  Plain mathematics: how many spots a tree has that is ok.
-/
namespace Go.Proofs.YtpnnbdejneoccaaGreatDoor
open Go.RowKit

/-- How many spots a tree has that is ok. -/
theorem spL_le : ∀ (n : Nat) (t : T n) (d : Int), goodT n t d = true → spL n t + 4 ≤ 4 * cntT n t := by
  intro n
  induction n with
  | zero => intro t d h; simp [goodT] at h
  | succ n ih =>
    intro t d h
    have key : ∀ ks : List (T n), (∀ k, k ∈ ks → goodT n k (d + 1) = true) → ks.length + sumL (fun k => 3 + spL n k) ks ≤ 4 * sumL (fun k => cntT n k) ks := by
      intro ks
      induction ks with
      | nil => intro _; simp [sumL]
      | cons k r ihk =>
        intro hk
        have h1 := ih k (d + 1) (hk k (List.mem_cons_self ..))
        have h2 := ihk (fun x hx => hk x (List.mem_cons_of_mem _ hx))
        simp only [sumL, List.length_cons] at h2 ⊢
        omega
    have hc : cntT (n + 1) t = 1 + sumL (fun k => cntT n k) (Nd.kids t) := rfl
    have hs : spL (n + 1) t = (Nd.names t).length + sumL (fun k => 3 + spL n k) (Nd.kids t) := rfl
    rw [hc, hs]
    have hk := List.all_eq_true.1 (by simp only [goodT, Bool.and_eq_true] at h; exact h.2)
    have h0 := key (Nd.kids t) hk
    have hn : (Nd.names t).length ≤ (Nd.kids t).length := by
      rcases goodT_cases h with ⟨k, q0, q1, q2⟩ | ⟨y, q3, q1, q2⟩ | ⟨q1, q2⟩ | ⟨q1, q2⟩ | ⟨ks, q1, q3, q2⟩ | ⟨ns, ks, q1, q3, q4, q5, q2⟩ | ⟨q1, q2⟩ | ⟨y, q1, q3, q2⟩
      case inr.inr.inr.inr.inr.inl => rw [q1]; exact Nat.le_of_eq q3
      all_goals (rw [q1]; exact Nat.zero_le _)
    omega

end Go.Proofs.YtpnnbdejneoccaaGreatDoor
