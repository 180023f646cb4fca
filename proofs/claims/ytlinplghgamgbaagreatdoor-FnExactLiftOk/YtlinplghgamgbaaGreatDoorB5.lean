/-
  Several texts in one, in their order.
-/
import Derived.Test.YtlinplghgamgbaaGreatDoorMark1
import Derived.Handy
import Derived.Test.YtlinplghgamgbaaGreatDoorB1

/-
  Marks: on lists of lists.
-/
namespace Go.Proofs.YtlinplghgamgbaaGreatDoor
open Go.RowKit

theorem SpN.slice {w : World} {v : Value} {L : List Spot} (h : SpN w v L) : ∃ a l c, v = .slice a l c := by
  obtain ⟨ao, cap, hv, -⟩ := h; exact ⟨_, _, _, hv⟩

theorem SpN.below {w w' : World} {v : Value} {L : List Spot} (h : SpN w v L) (hb : Below w.heap.size w w') : SpN w' v L := h.sim ((Sim.refl w).below hb)
theorem Holds.below {w w' : World} {L : List Spot} {k : Int} (h : Holds w L k) (hL : ∀ s, s ∈ L → s.ok w) (hb : Below w.heap.size w w') : Holds w' L k :=
  h.keep (fun s hs => hb.cell (p := s.at) (Spot.ok_lt (hL s hs)))

end Go.Proofs.YtlinplghgamgbaaGreatDoor

/-
  Marks on a list of schemas, on a schema: markKindS, markKind.
-/
namespace Go.Proofs.YtlinplghgamgbaaGreatDoor
open Go.RowKit

/-- The spots of a list of schemas. -/
def SpK (w : World) : Nat → Value → List Spot → Prop
  | 0, v, L => ∃ ao cap, v = .slice ao 0 cap ∧ L = []
  | n + 1, v, L => ∃ (ao : Option Addr) (cap : Nat) (Ls : List (List Spot)), v = .slice ao Ls.length cap ∧ Ls.length ≤ maxLen ∧ L = Ls.flatten ∧
      ∀ i (h : i < Ls.length), ∃ b off c3 c4 L3 L4, ao = some ⟨b, off, none⟩ ∧ Ls[i] = [⟨b, off + i * 3, false⟩] ++ (L3 ++ L4) ∧ (⟨b, off + i * 3, false⟩ : Spot).ok w ∧
        w.cell? ⟨b, off + i * 3 + 1, none⟩ = some c3 ∧ w.cell? ⟨b, off + i * 3 + 2, none⟩ = some c4 ∧ SpN w c3 L3 ∧ SpK w n c4 L4

theorem SpK.slice {w : World} : ∀ {n : Nat} {v : Value} {L : List Spot}, SpK w n v L → ∃ a l c, v = .slice a l c := by
  intro n
  cases n with
  | zero => rintro v L ⟨ao, cap, hv, -⟩; exact ⟨_, _, _, hv⟩
  | succ n => rintro v L ⟨ao, cap, Ls, hv, -⟩; exact ⟨_, _, _, hv⟩

theorem SpK.sim {w w' : World} (hs : Sim w w') : ∀ {n : Nat} {v : Value} {L : List Spot}, SpK w n v L → SpK w' n v L := by
  intro n
  induction n with
  | zero => intro v L h; exact h
  | succ n ih =>
    rintro v L ⟨ao, cap, Ls, hv, hl, hL, hi⟩
    refine ⟨ao, cap, Ls, hv, hl, hL, fun i h => ?_⟩
    obtain ⟨b, off, c3, c4, L3, L4, ha, hLi, hok, h3, h4, hn, hr⟩ := hi i h
    refine ⟨b, off, c3, c4, L3, L4, ha, hLi, Spot.ok_sim hok hs, ?_, ?_, hn.sim hs, ih hr⟩
    · obtain ⟨a, l, c, rfl⟩ := hn.slice; exact hs.sl _ _ _ _ _ h3
    · obtain ⟨a, l, c, rfl⟩ := hr.slice; exact hs.sl _ _ _ _ _ h4

theorem SpK.ok {w : World} : ∀ {n : Nat} {v : Value} {L : List Spot}, SpK w n v L → ∀ s, s ∈ L → s.ok w := by
  intro n
  induction n with
  | zero => rintro v L ⟨ao, cap, hv, rfl⟩ s hs; cases hs
  | succ n ih =>
    rintro v L ⟨ao, cap, Ls, hv, hl, rfl, hi⟩ s hs
    obtain ⟨Li, hLi, hsLi⟩ := List.mem_flatten.1 hs
    obtain ⟨i, h, rfl⟩ := List.getElem_of_mem hLi
    obtain ⟨b, off, c3, c4, L3, L4, ha, hLi, hok, h3, h4, hn, hr⟩ := hi i h
    rw [hLi] at hsLi
    rcases List.mem_append.1 hsLi with h1 | h1
    · rw [List.mem_singleton] at h1; subst h1; exact hok
    · rcases List.mem_append.1 h1 with h2 | h2
      · exact hn.ok s h2
      · exact ih hr s h2

theorem SpK.below {w w' : World} {n : Nat} {v : Value} {L : List Spot} (h : SpK w n v L) (hb : Below w.heap.size w w') : SpK w' n v L := h.sim ((Sim.refl w).below hb)

end Go.Proofs.YtlinplghgamgbaaGreatDoor

/-
  What an answer owns: spots that no other has; rows of texts that a call has made.
-/
namespace Go.Proofs.YtlinplghgamgbaaGreatDoor
open Go.RowKit

/-- Spots in blocks of P, none twice. -/
def Own (P : Nat → Prop) (L : List Spot) : Prop := (∀ s, s ∈ L → P s.b) ∧ L.Pairwise (fun a b => a.at ≠ b.at)

theorem Own.nil (P : Nat → Prop) : Own P [] := ⟨fun _ h => (by cases h), List.Pairwise.nil⟩
theorem Own.mono {P Q : Nat → Prop} {L : List Spot} (h : Own P L) (hq : ∀ b, P b → Q b) : Own Q L := ⟨fun s hs => hq _ (h.1 s hs), h.2⟩

theorem at_ne {a b : Spot} (h : a.b ≠ b.b) : a.at ≠ b.at := fun e => h (by simpa [Spot.at] using congrArg Addr.block e)

theorem Own.app {P Q R : Nat → Prop} {L M : List Spot} (h : Own P L) (k : Own Q M) (hp : ∀ b, P b → R b) (hq : ∀ b, Q b → R b) (hd : ∀ b, P b → Q b → False) : Own R (L ++ M) := by
  refine ⟨fun s hs => ?_, List.pairwise_append.2 ⟨h.2, k.2, fun a ha b hb => at_ne fun e => hd a.b (h.1 a ha) (by rw [e]; exact k.1 b hb)⟩⟩
  rcases List.mem_append.1 hs with h1 | h1
  · exact hp _ (h.1 s h1)
  · exact hq _ (k.1 s h1)

theorem Spot.ok_same {s : Spot} {w w' : World} (h : s.ok w) (hb : w'.heap[s.b]? = w.heap[s.b]?) : s.ok w' := by
  have e1 : w'.cell? s.at = w.cell? s.at := World.cell?_of_block (w := w) (w' := w') (a := s.at) hb
  have e2 : w'.frozen? s.at = w.frozen? s.at := by
    have : w'.heap[s.at.block]? = w.heap[s.at.block]? := hb
    simp only [World.frozen?, this]
  unfold Spot.ok
  rw [e1, e2]; exact h

theorem SpN.same {w w' : World} {v : Value} {L : List Spot} (h : SpN w v L) (hb : ∀ s, s ∈ L → w'.heap[s.b]? = w.heap[s.b]?) : SpN w' v L := by
  obtain ⟨ao, cap, hv, hl, ha, hk⟩ := h
  exact ⟨ao, cap, hv, hl, ha, fun s hs => Spot.ok_same (hk s hs) (hb s hs)⟩

theorem SpN.no (w : World) : SpN w (.slice none 0 0) [] := ⟨none, 0, rfl, by simp [maxLen], fun i h => absurd h (Nat.not_lt_zero _), fun _ h => (by cases h)⟩

/-- The spots of a row of texts that a call has made. -/
theorem spn_of_owns {w : World} {M : Nat} {e : TypeId} {v : Value} {l : List ByteArray} (h : w.ownsRow M e 1 v l.length (l.map .string)) (hl : l.length ≤ 20000) : ∃ L, SpN w v L ∧ L.length = l.length ∧ Own (fun b => v.ownBlock = some b) L := by
  rcases id h.2 with ⟨rfl, h0⟩ | ⟨g, cap, cur, rfl, hbg, hg, hnc, hcm, hcs, htake⟩
  · exact ⟨[], SpN.no w, by rw [h0]; rfl, Own.nil _⟩
  · refine ⟨(List.range l.length).map (fun i => (⟨g, 0 + i, true⟩ : Spot)), ⟨_, cap, by rw [List.length_map, List.length_range], by simp [maxLen]; omega, fun i hi => ⟨g, 0, rfl, by simp⟩, fun s hs => ?_⟩, by simp, fun s hs => ?_, ?_⟩
    · obtain ⟨i, hi, rfl⟩ := List.mem_map.1 hs
      have hi' := List.mem_range.1 hi
      have := h.cells (g := g) rfl i (.string l[i]) (by simp [hi'])
      rw [Addr.add_lit] at this
      exact ⟨⟨l[i], this⟩, by simp [World.frozen?, Spot.at, hg]⟩
    · obtain ⟨i, hi, rfl⟩ := List.mem_map.1 hs
      rfl
    · refine List.pairwise_map.2 (List.Pairwise.imp (fun {a b} hab e => ?_) List.pairwise_lt_range)
      have : 0 + a = 0 + b := by simpa [Spot.at] using congrArg Addr.off e
      omega

end Go.Proofs.YtlinplghgamgbaaGreatDoor

/-
  What an answer owns: rows of schemas that a call has made.
-/
namespace Go.Proofs.YtlinplghgamgbaaGreatDoor
open Go.RowKit

theorem SpK.same {w w' : World} : ∀ {n : Nat} {v : Value} {L : List Spot}, SpK w n v L → (∀ s, s ∈ L → w'.heap[s.b]? = w.heap[s.b]?) → SpK w' n v L := by
  intro n
  induction n with
  | zero => intro v L h _; exact h
  | succ n ih =>
    rintro v L ⟨ao, cap, Ls, hv, hl, rfl, hi⟩ hb
    refine ⟨ao, cap, Ls, hv, hl, rfl, fun i h => ?_⟩
    obtain ⟨b, off, c3, c4, L3, L4, ha, hLi, hok, h3, h4, hn, hr⟩ := hi i h
    have hm : ∀ s, s ∈ Ls[i] → w'.heap[s.b]? = w.heap[s.b]? := fun s hs => hb s (List.mem_flatten.2 ⟨_, List.getElem_mem h, hs⟩)
    rw [hLi] at hm
    have hbb : w'.heap[b]? = w.heap[b]? := hm ⟨b, off + i * 3, false⟩ (by simp)
    refine ⟨b, off, c3, c4, L3, L4, ha, hLi, Spot.ok_same hok hbb, ?_, ?_, hn.same (fun s hs => hm s (by simp [hs])), ih hr (fun s hs => hm s (by simp [hs]))⟩
    · exact (World.cell?_of_block (w := w) (w' := w') (a := ⟨b, off + i * 3 + 1, none⟩) hbb).trans h3
    · exact (World.cell?_of_block (w := w) (w' := w') (a := ⟨b, off + i * 3 + 2, none⟩) hbb).trans h4

theorem SpK.no (w : World) (n : Nat) : SpK w n (.slice none 0 0) [] := by
  cases n with
  | zero => exact ⟨none, 0, rfl, rfl⟩
  | succ n => exact ⟨none, 0, [], rfl, by simp [maxLen], rfl, fun i h => absurd h (Nat.not_lt_zero _)⟩

/-- Of the kids that are done: their cells, and what each owns. -/
def KidsOwnK (P : Nat → Prop) (w : World) (n : Nat) (ks : List (K n)) (xs : List Value) (Ps : List (List Spot)) : Prop :=
  Own P Ps.flatten ∧ ∀ j (h : j < ks.length) (hp : j < Ps.length), ∃ c0 c1 c2 L3 L4, (xs[j * 3]? = some c0 ∧ xs[j * 3 + 1]? = some c1 ∧ xs[j * 3 + 2]? = some c2) ∧ Ps[j] = L3 ++ L4 ∧
    KindIn P w n ks[j] c0 c1 c2 ∧ SpN w c1 L3 ∧ SpK w (n - 1) c2 L4

/-- The spots of a row of schemas that a call has made. -/
theorem spk_of_owns {n : Nat} {w : World} {M : Nat} {e : TypeId} {v : Value} {l : List (K n)} {xs : List Value} {Ps : List (List Spot)} {P : Nat → Prop} (h : w.ownsRow M e 3 v l.length xs) (hl : l.length ≤ 20000) (hlp : Ps.length = l.length) (hk : KidsOwnK P w n l xs Ps) (hP : ∀ b, P b → v.ownBlock ≠ some b) :
    ∃ L, SpK w n v L ∧ Own (fun b => P b ∨ v.ownBlock = some b) L ∧ L.length = l.length + Ps.flatten.length := by
  rcases id h.2 with ⟨rfl, h0⟩ | ⟨g, cap, cur, rfl, hbg, hg, hnc, hcm, hcs, htake⟩
  · have : Ps = [] := List.eq_nil_of_length_eq_zero (by omega)
    subst this
    exact ⟨[], SpK.no w n, Own.nil _, by simp [h0]⟩
  · have hnz : ∀ (i : Nat), i < l.length → n ≠ 0 := by
      intro i hi hn
      subst hn
      obtain ⟨c0, c1, c2, L3, L4, -, -, ht, -⟩ := hk.2 i hi (by omega)
      exact ht.elim
    have hfin : ∀ i (hi : i < l.length), ((List.range l.length).map (fun i => ([⟨g, 0 + i * 3, false⟩] : List Spot) ++ Ps.getD i []))[i]'(by simpa using hi) = ([⟨g, 0 + i * 3, false⟩] : List Spot) ++ Ps[i]'(by omega) := by
      intro i hi
      have : i < Ps.length := by omega
      simp [List.getD, this]
    have hown : Own (fun b => P b ∨ (Value.slice (some ⟨g, 0, none⟩) l.length cap).ownBlock = some b) ((List.range l.length).map (fun i => ([⟨g, 0 + i * 3, false⟩] : List Spot) ++ Ps.getD i [])).flatten := by
      have hpp := List.pairwise_flatten.1 hk.1.2
      have hin : ∀ i s, s ∈ Ps.getD i [] → P s.b := fun i s hs => by
        by_cases hi : i < Ps.length
        · rw [List.getD_eq_getElem?_getD, List.getElem?_eq_getElem hi, Option.getD_some] at hs
          exact hk.1.1 s (List.mem_flatten.2 ⟨_, List.getElem_mem hi, hs⟩)
        · rw [List.getD_eq_getElem?_getD, List.getElem?_eq_none (by omega)] at hs; cases hs
      have h5 : ∀ o (s : Spot), s ∈ ([⟨g, o, false⟩] : List Spot) → s.b = g ∧ s.o = o := fun o s hs => by
        rw [List.mem_singleton] at hs; subst hs; exact ⟨rfl, rfl⟩
      have hne : ∀ (s : Spot), P s.b → s.b ≠ g := fun s hs e => hP g (by rw [← e]; exact hs) rfl
      refine ⟨fun s hs => ?_, List.pairwise_flatten.2 ⟨fun x hx => ?_, ?_⟩⟩
      · obtain ⟨x, hx, hsx⟩ := List.mem_flatten.1 hs
        obtain ⟨i, hi, rfl⟩ := List.mem_map.1 hx
        rcases List.mem_append.1 hsx with h1 | h1
        · right; rw [(h5 _ s h1).1]; rfl
        · left; exact hin i s h1
      · obtain ⟨i, hi, rfl⟩ := List.mem_map.1 hx
        refine List.pairwise_append.2 ⟨List.pairwise_singleton _ _, ?_, fun a ha b hb => at_ne fun e => hne b (hin i b hb) (by rw [← e, (h5 _ a ha).1])⟩
        by_cases hi : i < Ps.length
        · rw [List.getD_eq_getElem?_getD, List.getElem?_eq_getElem hi, Option.getD_some]
          exact hpp.1 _ (List.getElem_mem hi)
        · rw [List.getD_eq_getElem?_getD, List.getElem?_eq_none (by omega)]; exact List.Pairwise.nil
      · refine List.pairwise_map.2 (List.Pairwise.imp (fun {i j} hij a ha b hb => ?_) List.pairwise_lt_range)
        rcases List.mem_append.1 ha with h1 | h1
        · rcases List.mem_append.1 hb with h2 | h2
          · intro e
            have e' : a.o = b.o := by simpa [Spot.at] using congrArg Addr.off e
            have q1 := (h5 _ a h1).2
            have q2 := (h5 _ b h2).2
            omega
          · exact at_ne fun e => hne b (hin j b h2) (by rw [← e, (h5 _ a h1).1])
        · rcases List.mem_append.1 hb with h2 | h2
          · exact at_ne fun e => hne a (hin i a h1) (by rw [e, (h5 _ b h2).1])
          · by_cases hj : j < Ps.length
            · rw [List.getD_eq_getElem?_getD, List.getElem?_eq_getElem hj, Option.getD_some] at h2
              rw [List.getD_eq_getElem?_getD, List.getElem?_eq_getElem (by omega : i < Ps.length), Option.getD_some] at h1
              exact (List.pairwise_iff_getElem.1 hpp.2) i j (by omega) hj hij a h1 b h2
            · rw [List.getD_eq_getElem?_getD, List.getElem?_eq_none (by omega)] at h2; cases h2
    have hlen : ((List.range l.length).map (fun i => ([⟨g, 0 + i * 3, false⟩] : List Spot) ++ Ps.getD i [])).flatten.length = l.length + Ps.flatten.length := by
      have e : Ps = (List.range l.length).map (fun i => Ps.getD i []) := by
        refine List.ext_getElem (by simp [hlp]) fun i h1 h2 => ?_
        simp [List.getD, h1]
      conv => rhs; rw [e]
      generalize l.length = m
      induction m with
      | zero => rfl
      | succ m ih =>
        rw [List.range_succ, List.map_append, List.flatten_append, List.length_append, ih, List.map_append, List.flatten_append, List.length_append]
        simp; omega
    refine ⟨_, ?_, hown, hlen⟩
    cases n with
    | zero =>
      have h0 : l.length = 0 := Nat.eq_zero_of_not_pos fun hpos => hnz 0 hpos rfl
      exact ⟨some ⟨g, 0, none⟩, cap, by rw [h0], by rw [h0]; rfl⟩
    | succ m =>
      refine ⟨some ⟨g, 0, none⟩, cap, _, by rw [List.length_map, List.length_range], by simp [maxLen]; omega, rfl, fun i hi => ?_⟩
      have hi' : i < l.length := by simpa using hi
      obtain ⟨c0, c1, c2, L3, L4, ⟨e0, e1, e2⟩, hPi, ht, h3, h4⟩ := hk.2 i hi' (by omega)
      have hc : ∀ j u, xs[j]? = some u → w.cell? ⟨g, 0 + j, none⟩ = some u := fun j u hu => by
        have := h.cells (g := g) rfl j u hu
        rwa [Addr.add_lit] at this
      obtain ⟨rfl, -⟩ := ht
      have hf : ∀ o, w.frozen? ⟨g, o, none⟩ = false := fun o => by simp [World.frozen?, hg]
      exact ⟨g, 0, c1, c2, L3, L4, rfl, by rw [hfin i hi', hPi], ⟨⟨_, hc _ _ e0⟩, hf _⟩, hc _ _ e1, hc _ _ e2, h3, h4⟩

end Go.Proofs.YtlinplghgamgbaaGreatDoor
