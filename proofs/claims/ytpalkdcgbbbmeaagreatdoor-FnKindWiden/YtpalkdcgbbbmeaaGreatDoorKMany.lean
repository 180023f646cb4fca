/-
  What was gathered, as a tree.
-/
import Derived.Test.YtpalkdcgbbbmeaaGreatDoorManyS
import Derived.Test.YtpalkdcgbbbmeaaGreatDoorBox
namespace Go.Proofs.YtpalkdcgbbbmeaaGreatDoor
open Go.RowKit

/-- What was gathered, as a tree. -/
theorem many_tree {R X n B b0 : Nat} {w wr : World} {so : Int} {ns : List ByteArray} {ks : List (T n)} {nv kv d0 d1 d2 d3 d4 : Value} (h : Many R X n w wr so ns ks nv kv) {t : T (n + 1)} (hs : Nd.sort t = so) (hm : Nd.num t = 0) (ht : Nd.text t = ByteArray.empty) (hN : Nd.names t = ns) (hK : Nd.kids t = ks)
    (hwf : (Lit.int .i64 so).wf = true) (hl : ns.length ≤ 20000) (hk : ks.length ≤ 20000) (hb0 : b0 < X + 1) (hB : B ≤ X + 1) :
    TreeIn (fun b => B ≤ b ∧ b < (put5 wr b0 0 d0 d1 d2 d3 d4).heap.size) (put5 wr b0 0 d0 d1 d2 d3 d4) (n + 1) t (.int .i64 so) (.int .i64 0) (.string ByteArray.empty) nv kv := by
  have q : ∀ b, b ≠ b0 → (put5 wr b0 0 d0 d1 d2 d3 d4).heap[b]? = wr.heap[b]? := fun b h => put5_other h
  have hz : (put5 wr b0 0 d0 d1 d2 d3 d4).heap.size = wr.heap.size := put5_size
  generalize put5 wr b0 0 d0 d1 d2 d3 d4 = W at *
  obtain ⟨xs, hxs, hkk⟩ := h.kids
  have hnm := h.names
  refine ⟨by rw [hs], by rw [hm], by rw [ht], by rw [ht]; simp [maxLen], by rw [hs]; exact hwf, by rw [hm]; rfl, ?_, ?_⟩
  · rw [hN]
    refine strs_of_owns (owns_keep hnm fun g hg => ?_) hl h.short fun g hg => ?_
    · have := owns_lt hnm g hg
      exact q g (by omega)
    · have := owns_lt hnm g hg
      exact ⟨by omega, by omega⟩
  · rw [hK]
    refine row_of_owns (owns_keep hxs fun g hg => ?_) hk (fun g hg => ?_) fun q' hq' => ?_
    · have := owns_lt hxs g hg
      exact q g (by omega)
    · have := owns_lt hxs g hg
      exact ⟨by omega, by omega⟩
    · obtain ⟨c0, c1, c2, c3, c4, hd, hdt⟩ := hkk q' hq'
      refine ⟨c0, c1, c2, c3, c4, hd, hdt.keep (fun b hb => ?_) (fun b hb => ?_)⟩
      · have := hb.1
        exact q b (by omega)
      · have h1 := hb.1
        have h2 := hb.2.1
        exact ⟨by omega, by omega⟩

end Go.Proofs.YtpalkdcgbbbmeaaGreatDoor
