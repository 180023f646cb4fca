/-
  Several texts in one, in their order.
-/
import Derived.Test.YtpnnbdejneoccaaMark1
import Derived.Handy
import Derived.Test.YtpnnbdejneoccaaKRep

/-
  Marks: on lists of lists.
-/
namespace Go.Proofs.Ytpnnbdejneoccaa
open Go.RowKit

theorem SpN.slice {w : World} {v : Value} {L : List Spot} (h : SpN w v L) : ∃ a l c, v = .slice a l c := by
  obtain ⟨ao, cap, hv, -⟩ := h; exact ⟨_, _, _, hv⟩

theorem flatten_take {α : Type} (Ls : List (List α)) (j : Nat) (h : j < Ls.length) : (Ls.take (j + 1)).flatten = (Ls.take j).flatten ++ Ls[j] := by
  rw [List.take_succ_eq_append_getElem h, List.flatten_append, List.flatten_cons, List.flatten_nil, List.append_nil]

theorem flatten_take_len {α : Type} (Ls : List (List α)) (j : Nat) : (Ls.take j).flatten.length ≤ Ls.flatten.length := by
  have h : (Ls.take j ++ Ls.drop j).flatten.length = Ls.flatten.length := by rw [List.take_append_drop]
  rw [List.flatten_append, List.length_append] at h
  omega

theorem Wrote.snocI {L : List Spot} {k kk : Int} {w w1 : World} (h : Wrote L k w w1) (s : Spot) (hk : kk = k + L.length) (p : Addr) (v : Value) (hp : p = s.at) (hv : v = s.val kk) : Wrote (L ++ [s]) k w (w1.setCell p v) := by
  subst hk hp hv; exact h.snoc s

theorem SpN.below {w w' : World} {v : Value} {L : List Spot} (h : SpN w v L) (hb : Below w.heap.size w w') : SpN w' v L := h.sim ((Sim.refl w).below hb)
theorem Holds.below {w w' : World} {L : List Spot} {k : Int} (h : Holds w L k) (hL : ∀ s, s ∈ L → s.ok w) (hb : Below w.heap.size w w') : Holds w' L k :=
  h.keep (fun s hs => hb.cell (p := s.at) (Spot.ok_lt (hL s hs)))

end Go.Proofs.Ytpnnbdejneoccaa

/-
  Marks on a list of schemas, on a schema: markKindS, markKind.
-/
namespace Go.Proofs.Ytpnnbdejneoccaa
open Go.RowKit

/-- The spots of a list of schemas. -/
def SpK (w : World) : Nat → Value → List Spot → Prop
  | 0, v, L => ∃ ao cap, v = .slice ao 0 cap ∧ L = []
  | n + 1, v, L => ∃ (ao : Option Addr) (cap : Nat) (Ls : List (List Spot)), v = .slice ao Ls.length cap ∧ Ls.length ≤ maxLen ∧ L = Ls.flatten ∧
      ∀ i (h : i < Ls.length), ∃ b off c3 c4 L3 L4, ao = some ⟨b, off, none⟩ ∧ Ls[i] = [⟨b, off + i * 3, false⟩] ++ (L3 ++ L4) ∧ (⟨b, off + i * 3, false⟩ : Spot).ok w ∧
        w.cell? ⟨b, off + i * 3 + 1, none⟩ = some c3 ∧ w.cell? ⟨b, off + i * 3 + 2, none⟩ = some c4 ∧ SpN w c3 L3 ∧ SpK w n c4 L4

theorem SpK.slice {w : World} : ∀ {n : Nat} {v : Value} {L : List Spot}, SpK w n v L → ∃ a l c, v = .slice a l c := by
  intro n
  cases n with
  | zero => rintro v L ⟨ao, cap, hv, -⟩; exact ⟨_, _, _, hv⟩
  | succ n => rintro v L ⟨ao, cap, Ls, hv, -⟩; exact ⟨_, _, _, hv⟩

theorem SpK.sim {w w' : World} (hs : Sim w w') : ∀ {n : Nat} {v : Value} {L : List Spot}, SpK w n v L → SpK w' n v L := by
  intro n
  induction n with
  | zero => intro v L h; exact h
  | succ n ih =>
    rintro v L ⟨ao, cap, Ls, hv, hl, hL, hi⟩
    refine ⟨ao, cap, Ls, hv, hl, hL, fun i h => ?_⟩
    obtain ⟨b, off, c3, c4, L3, L4, ha, hLi, hok, h3, h4, hn, hr⟩ := hi i h
    refine ⟨b, off, c3, c4, L3, L4, ha, hLi, Spot.ok_sim hok hs, ?_, ?_, hn.sim hs, ih hr⟩
    · obtain ⟨a, l, c, rfl⟩ := hn.slice; exact hs.sl _ _ _ _ _ h3
    · obtain ⟨a, l, c, rfl⟩ := hr.slice; exact hs.sl _ _ _ _ _ h4

theorem SpK.ok {w : World} : ∀ {n : Nat} {v : Value} {L : List Spot}, SpK w n v L → ∀ s, s ∈ L → s.ok w := by
  intro n
  induction n with
  | zero => rintro v L ⟨ao, cap, hv, rfl⟩ s hs; cases hs
  | succ n ih =>
    rintro v L ⟨ao, cap, Ls, hv, hl, rfl, hi⟩ s hs
    obtain ⟨Li, hLi, hsLi⟩ := List.mem_flatten.1 hs
    obtain ⟨i, h, rfl⟩ := List.getElem_of_mem hLi
    obtain ⟨b, off, c3, c4, L3, L4, ha, hLi, hok, h3, h4, hn, hr⟩ := hi i h
    rw [hLi] at hsLi
    rcases List.mem_append.1 hsLi with h1 | h1
    · rw [List.mem_singleton] at h1; subst h1; exact hok
    · rcases List.mem_append.1 h1 with h2 | h2
      · exact hn.ok s h2
      · exact ih hr s h2

theorem SpK.below {w w' : World} {n : Nat} {v : Value} {L : List Spot} (h : SpK w n v L) (hb : Below w.heap.size w w') : SpK w' n v L := h.sim ((Sim.refl w).below hb)

end Go.Proofs.Ytpnnbdejneoccaa
