/-
  The specification on upcasters' nodes: how many there are, if they are ok.
-/
import Derived.Test.YtlinplghgamgbaaGreatDoorSL5
namespace Go.Proofs.YtlinplghgamgbaaGreatDoor
open Go.RowKit

set_option maxRecDepth 20000 in
theorem l11Alone_any (S : Nat → Prop) (m : Nat) (n : Nd (T m)) (na ka : Option Addr) (nc kc : Nat) (act : Bool) (w : World) (h3 : StrsIn S w n.names (.slice na n.names.length nc)) (hl4 : n.kids.length ≤ maxLen) (hB : ∀ b, S b → b < w.heap.size) (hx : n.text.size ≤ 1048576) :
    Calls Tryz.prog 34 #[.agg #[.int .i64 n.sort, .int .i64 n.num, .string n.text, .slice na n.names.length nc, .slice ka n.kids.length kc], .bool act] w fun e w' => e = .returned (.bool (aloneS n act)) ∧ Below w.heap.size w w' := by
  by_cases h : (1 ≤ n.sort ∧ n.sort ≤ 43) ∧ act = decide (36 ≤ n.sort)
  case neg => exact l11Alone_no m n na ka nc kc act w h
  obtain ⟨hr, ha⟩ := h
  by_cases h24 : n.sort = 24
  · obtain ⟨s, num, text, names, kids⟩ := n
    simp only at h24 ha
    subst h24
    obtain rfl : act = false := by rw [ha]; rfl
    have := l11Alone_form S m num text names kids na ka nc kc w h3 hB
    have e : aloneS (⟨24, num, text, names, kids⟩ : Nd (T m)) false = ((num == 0) && text.toList.isEmpty && riseB names && (names.length == kids.length) && !(names.any (fun y => y == bs [101, 110, 100]))) := by
      unfold aloneS
      simp
    rw [e]
    exact this
  · obtain ⟨k, hk⟩ : ∃ k : Nat, n.sort = (k : Int) := ⟨n.sort.toNat, by omega⟩
    have := l11Alone_op S m n na ka nc kc k act (by rw [ha, hk]) w hk (by omega) (by omega) (by omega) h3 hl4 hB hx
    have e : aloneS n act = ((n.kids.length == (kdV k).length) && preC n (preL k)) := by
      unfold aloneS
      rw [decide_eq_true hr, ha, if_neg h24, show n.sort.toNat = k by omega]
      simp
    rw [e, hk]
    exact this

end Go.Proofs.YtlinplghgamgbaaGreatDoor
