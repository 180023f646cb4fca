/-
  Several texts in one, in their order.
-/
import Derived.Test.YtdgepmgkhfkmcaaGreatDoorB19
import Derived.Handy

/-
  Marks: on lists of lists.
-/
namespace Go.Proofs.YtdgepmgkhfkmcaaGreatDoor
open Go.RowKit

theorem SpN.slice {w : World} {v : Value} {L : List Spot} (h : SpN w v L) : ∃ a l c, v = .slice a l c := by
  obtain ⟨ao, cap, hv, -⟩ := h; exact ⟨_, _, _, hv⟩

theorem SpN.below {w w' : World} {v : Value} {L : List Spot} (h : SpN w v L) (hb : Below w.heap.size w w') : SpN w' v L := h.sim ((Sim.refl w).below hb)
theorem Holds.below {w w' : World} {L : List Spot} {k : Int} (h : Holds w L k) (hL : ∀ s, s ∈ L → s.ok w) (hb : Below w.heap.size w w') : Holds w' L k :=
  h.keep (fun s hs => hb.cell (p := s.at) (Spot.ok_lt (hL s hs)))

end Go.Proofs.YtdgepmgkhfkmcaaGreatDoor

/-
  Marks on trees: markTreeS, markTree.
-/
namespace Go.Proofs.YtdgepmgkhfkmcaaGreatDoor
open Go.RowKit

/-- The three spots of a tree that stands in a list. -/
def sp5 (b o : Nat) : List Spot := [⟨b, o, false⟩, ⟨b, o + 1, false⟩, ⟨b, o + 2, true⟩]

/-- The spots of a list of trees. -/
def SpR (w : World) : Nat → Value → List Spot → Prop
  | 0, v, L => ∃ ao cap, v = .slice ao 0 cap ∧ L = []
  | n + 1, v, L => ∃ (ao : Option Addr) (cap : Nat) (Ls : List (List Spot)), v = .slice ao Ls.length cap ∧ Ls.length ≤ maxLen ∧ L = Ls.flatten ∧
      ∀ i (h : i < Ls.length), ∃ b off c3 c4 L3 L4, ao = some ⟨b, off, none⟩ ∧ Ls[i] = sp5 b (off + i * 5) ++ (L3 ++ L4) ∧ (∀ s, s ∈ sp5 b (off + i * 5) → s.ok w) ∧
        w.cell? ⟨b, off + i * 5 + 3, none⟩ = some c3 ∧ w.cell? ⟨b, off + i * 5 + 4, none⟩ = some c4 ∧ SpN w c3 L3 ∧ SpR w n c4 L4

theorem SpR.slice {w : World} : ∀ {n : Nat} {v : Value} {L : List Spot}, SpR w n v L → ∃ a l c, v = .slice a l c := by
  intro n
  cases n with
  | zero => rintro v L ⟨ao, cap, hv, -⟩; exact ⟨_, _, _, hv⟩
  | succ n => rintro v L ⟨ao, cap, Ls, hv, -⟩; exact ⟨_, _, _, hv⟩

theorem SpR.sim {w w' : World} (hs : Sim w w') : ∀ {n : Nat} {v : Value} {L : List Spot}, SpR w n v L → SpR w' n v L := by
  intro n
  induction n with
  | zero => intro v L h; exact h
  | succ n ih =>
    rintro v L ⟨ao, cap, Ls, hv, hl, hL, hi⟩
    refine ⟨ao, cap, Ls, hv, hl, hL, fun i h => ?_⟩
    obtain ⟨b, off, c3, c4, L3, L4, ha, hLi, hok, h3, h4, hn, hr⟩ := hi i h
    refine ⟨b, off, c3, c4, L3, L4, ha, hLi, fun s hs' => Spot.ok_sim (hok s hs') hs, ?_, ?_, hn.sim hs, ih hr⟩
    · obtain ⟨a, l, c, rfl⟩ := hn.slice; exact hs.sl _ _ _ _ _ h3
    · obtain ⟨a, l, c, rfl⟩ := hr.slice; exact hs.sl _ _ _ _ _ h4

theorem SpR.ok {w : World} : ∀ {n : Nat} {v : Value} {L : List Spot}, SpR w n v L → ∀ s, s ∈ L → s.ok w := by
  intro n
  induction n with
  | zero => rintro v L ⟨ao, cap, hv, rfl⟩ s hs; cases hs
  | succ n ih =>
    rintro v L ⟨ao, cap, Ls, hv, hl, rfl, hi⟩ s hs
    obtain ⟨Li, hLi, hsLi⟩ := List.mem_flatten.1 hs
    obtain ⟨i, h, rfl⟩ := List.getElem_of_mem hLi
    obtain ⟨b, off, c3, c4, L3, L4, ha, hLi, hok, h3, h4, hn, hr⟩ := hi i h
    rw [hLi] at hsLi
    rcases List.mem_append.1 hsLi with h1 | h1
    · exact hok s h1
    · rcases List.mem_append.1 h1 with h2 | h2
      · exact hn.ok s h2
      · exact ih hr s h2

theorem SpR.below {w w' : World} {n : Nat} {v : Value} {L : List Spot} (h : SpR w n v L) (hb : Below w.heap.size w w') : SpR w' n v L := h.sim ((Sim.refl w).below hb)

end Go.Proofs.YtdgepmgkhfkmcaaGreatDoor

/-
  What an answer owns: spots that no other has; rows of texts that a call has made.
-/
namespace Go.Proofs.YtdgepmgkhfkmcaaGreatDoor
open Go.RowKit

/-- Spots in blocks of P, none twice. -/
def Own (P : Nat → Prop) (L : List Spot) : Prop := (∀ s, s ∈ L → P s.b) ∧ L.Pairwise (fun a b => a.at ≠ b.at)

theorem Own.nil (P : Nat → Prop) : Own P [] := ⟨fun _ h => (by cases h), List.Pairwise.nil⟩
theorem Own.mono {P Q : Nat → Prop} {L : List Spot} (h : Own P L) (hq : ∀ b, P b → Q b) : Own Q L := ⟨fun s hs => hq _ (h.1 s hs), h.2⟩

theorem at_ne {a b : Spot} (h : a.b ≠ b.b) : a.at ≠ b.at := fun e => h (by simpa [Spot.at] using congrArg Addr.block e)

theorem Own.app {P Q R : Nat → Prop} {L M : List Spot} (h : Own P L) (k : Own Q M) (hp : ∀ b, P b → R b) (hq : ∀ b, Q b → R b) (hd : ∀ b, P b → Q b → False) : Own R (L ++ M) := by
  refine ⟨fun s hs => ?_, List.pairwise_append.2 ⟨h.2, k.2, fun a ha b hb => at_ne fun e => hd a.b (h.1 a ha) (by rw [e]; exact k.1 b hb)⟩⟩
  rcases List.mem_append.1 hs with h1 | h1
  · exact hp _ (h.1 s h1)
  · exact hq _ (k.1 s h1)

theorem Spot.ok_same {s : Spot} {w w' : World} (h : s.ok w) (hb : w'.heap[s.b]? = w.heap[s.b]?) : s.ok w' := by
  have e1 : w'.cell? s.at = w.cell? s.at := World.cell?_of_block (w := w) (w' := w') (a := s.at) hb
  have e2 : w'.frozen? s.at = w.frozen? s.at := by
    have : w'.heap[s.at.block]? = w.heap[s.at.block]? := hb
    simp only [World.frozen?, this]
  unfold Spot.ok
  rw [e1, e2]; exact h

theorem SpN.same {w w' : World} {v : Value} {L : List Spot} (h : SpN w v L) (hb : ∀ s, s ∈ L → w'.heap[s.b]? = w.heap[s.b]?) : SpN w' v L := by
  obtain ⟨ao, cap, hv, hl, ha, hk⟩ := h
  exact ⟨ao, cap, hv, hl, ha, fun s hs => Spot.ok_same (hk s hs) (hb s hs)⟩

theorem SpN.no (w : World) : SpN w (.slice none 0 0) [] := ⟨none, 0, rfl, by simp [maxLen], fun i h => absurd h (Nat.not_lt_zero _), fun _ h => (by cases h)⟩

/-- The spots of a row of texts that a call has made. -/
theorem spn_of_owns {w : World} {M : Nat} {e : TypeId} {v : Value} {l : List ByteArray} (h : w.ownsRow M e 1 v l.length (l.map .string)) (hl : l.length ≤ 20000) : ∃ L, SpN w v L ∧ L.length = l.length ∧ Own (fun b => v.ownBlock = some b) L := by
  rcases id h.2 with ⟨rfl, h0⟩ | ⟨g, cap, cur, rfl, hbg, hg, hnc, hcm, hcs, htake⟩
  · exact ⟨[], SpN.no w, by rw [h0]; rfl, Own.nil _⟩
  · refine ⟨(List.range l.length).map (fun i => (⟨g, 0 + i, true⟩ : Spot)), ⟨_, cap, by rw [List.length_map, List.length_range], by simp [maxLen]; omega, fun i hi => ⟨g, 0, rfl, by simp⟩, fun s hs => ?_⟩, by simp, fun s hs => ?_, ?_⟩
    · obtain ⟨i, hi, rfl⟩ := List.mem_map.1 hs
      have hi' := List.mem_range.1 hi
      have := h.cells (g := g) rfl i (.string l[i]) (by simp [hi'])
      rw [Addr.add_lit] at this
      exact ⟨⟨l[i], this⟩, by simp [World.frozen?, Spot.at, hg]⟩
    · obtain ⟨i, hi, rfl⟩ := List.mem_map.1 hs
      rfl
    · refine List.pairwise_map.2 (List.Pairwise.imp (fun {a b} hab e => ?_) List.pairwise_lt_range)
      have : 0 + a = 0 + b := by simpa [Spot.at] using congrArg Addr.off e
      omega

end Go.Proofs.YtdgepmgkhfkmcaaGreatDoor
