/-
  Small facts for the walks of the joining.
-/
import Derived.Test.YthcdeahobjhkbaaGreatDoorB3
import Derived.Test.YthcdeahobjhkbaaGreatDoorB10
import Derived.Test.YthcdeahobjhkbaaGreatDoorB4
namespace Go.Proofs.YthcdeahobjhkbaaGreatDoor
open Go.RowKit

theorem j3_below {B : Nat} {V W : World} {N : Nat} {g0 g1 g2 : Value} (h : Below B V W) (hN : B ≤ N) : Below B V (((W.setCell ⟨N, 0, none⟩ g0).setCell ⟨N, 1, none⟩ g1).setCell ⟨N, 2, none⟩ g2) := ((h.setCell hN _).setCell hN _).setCell hN _
theorem j3_size (W : World) (N : Nat) (a b c : Value) : (((W.setCell ⟨N, 0, none⟩ a).setCell ⟨N, 1, none⟩ b).setCell ⟨N, 2, none⟩ c).heap.size = W.heap.size := by simp
theorem j3_other {W : World} {N M : Nat} {a b c : Value} (hne : M ≠ N) : (((W.setCell ⟨N, 0, none⟩ a).setCell ⟨N, 1, none⟩ b).setCell ⟨N, 2, none⟩ c).heap[M]? = W.heap[M]? := put3_other (w := W) (b := N) hne
theorem j3_cells {w : World} {N : Nat} {t : TypeId} {a b c : Value} (h : w.heap[N]? = some (.cells #[a, b, c] t (0, 0))) :
    (w.cell? ⟨N, 0, none⟩ = some a ∧ w.cell? ⟨N, 1, none⟩ = some b ∧ w.cell? ⟨N, 2, none⟩ = some c) ∧ w.frozen? ⟨N, 0, none⟩ = false ∧ w.frozen? ⟨N, 1, none⟩ = false ∧ w.frozen? ⟨N, 2, none⟩ = false := by
  refine ⟨⟨?_, ?_, ?_⟩, ?_, ?_, ?_⟩
  all_goals simp [World.cell?, World.frozen?, h]
theorem j3_at {w : World} {t : TypeId} {x : Array Value} {N : Nat} (h : w.heap[N]? = some (.cells x t (0, 0))) (i : Nat) (v : Value) (hv : x[i]? = some v) : w.cell? ⟨N, i, none⟩ = some v := by
  simp [World.cell?, h, hv]
theorem j_belowAD {W V : World} {o : Obj} (h : Below W.heap.size W V.drew) : Below W.heap.size W (V.alloc o).drew := below_allocD h o

theorem j_short {l : List ByteArray} (h : riseB l = true) (i : Nat) (hi : i < l.length) : l[i].size ≤ 8 := by
  have := List.all_eq_true.1 h i (List.mem_range.2 hi)
  simp only [riseAt, Bool.and_eq_true, nameB, decide_eq_true_eq] at this
  have h8 := this.1.1.1.2
  rwa [List.getD_eq_getElem?_getD, List.getElem?_eq_getElem hi, Option.getD_some] at h8

/-- What a good schema has few of. -/
theorem few_of_good {n : Nat} {k : K (n + 1)} {d : Int} (hg : goodK (n + 1) k d = true) (hc : cntK (n + 1) k ≤ 40) :
    (Kd.names k).length ≤ 39 ∧ (∀ x, x ∈ Kd.names k → x.size ≤ 10000) ∧ (Kd.kids k).length ≤ 39 ∧ (∀ x, x ∈ Kd.kids k → goodK n x (d + 1) = true ∧ cntK n x ≤ 40) := by
  have h39 := kids_39 hg hc
  have hk : ∀ x, x ∈ Kd.kids k → goodK n x (d + 1) = true := by simp only [goodK, Bool.and_eq_true] at hg; exact List.all_eq_true.1 hg.2
  refine ⟨?_, fun x hx => ?_, h39, fun x hx => ⟨hk x hx, cnt_kid hc hx⟩⟩
  · rcases goodK_kids hg with ⟨-, h, -⟩ | ⟨-, h, -⟩ | ⟨-, h, -⟩
    · rw [h]; simp
    · rw [h]; simp
    · omega
  · rcases goodK_kids hg with ⟨-, h, -⟩ | ⟨-, h, -⟩ | ⟨-, -, h⟩
    · rw [h] at hx; cases hx
    · rw [h] at hx; cases hx
    · obtain ⟨j, hj, rfl⟩ := List.getElem_of_mem hx
      have := j_short h j hj
      omega

end Go.Proofs.YthcdeahobjhkbaaGreatDoor
