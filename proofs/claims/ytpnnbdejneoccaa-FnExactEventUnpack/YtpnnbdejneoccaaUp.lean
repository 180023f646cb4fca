/-
  Plain mathematics: a tree of n levels as one of n + 1; the number that num reads.
-/
import Derived.Test.YtpnnbdejneoccaaParse2
import Derived.Test.YtpnnbdejneoccaaText
import Derived.Test.YtpnnbdejneoccaaB1
import Derived.Lib.ItoaMem
import Derived.Test.YtpnnbdejneoccaaB6
import Derived.Deep.RegionWith
import Derived.Laws.IdiomStrings
import Derived.WalkSmall
import Derived.LoopTactic
namespace Go.Proofs.Ytpnnbdejneoccaa
open Go.RowKit

/-- A tree of at most n levels is one of at most n + 1. -/
def upT : (n : Nat) → T n → T (n + 1)
  | 0, t => Empty.elim t
  | n + 1, t => (⟨Nd.sort t, Nd.num t, Nd.text t, Nd.names t, (Nd.kids t).map (upT n)⟩ : Nd (T (n + 1)))

theorem RowIn.map {α β : Type} {S : Nat → Prop} {w : World} {R : α → Value → Value → Value → Value → Value → Prop} {R' : β → Value → Value → Value → Value → Value → Prop} {l : List α} {v : Value} (f : α → β) (h : RowIn S w R l v)
    (hR : ∀ x c0 c1 c2 c3 c4, x ∈ l → R x c0 c1 c2 c3 c4 → R' (f x) c0 c1 c2 c3 c4) : RowIn S w R' (l.map f) v := by
  obtain ⟨ao, cap, hv, hl, hc⟩ := h
  refine ⟨ao, cap, by rw [hv, List.length_map], by rw [List.length_map]; exact hl, fun hne => ?_⟩
  obtain ⟨b, off, ha, hB, hcell⟩ := hc (by intro e; apply hne; rw [e]; rfl)
  refine ⟨b, off, ha, hB, fun i hi => ?_⟩
  have hi' : i < l.length := by simpa using hi
  obtain ⟨c0, c1, c2, c3, c4, h0, h1, h2, h3, h4, hr⟩ := hcell i hi'
  refine ⟨c0, c1, c2, c3, c4, h0, h1, h2, h3, h4, ?_⟩
  rw [List.getElem_map]
  exact hR _ _ _ _ _ _ (List.getElem_mem hi') hr

theorem TreeIn.up {S : Nat → Prop} {w : World} : ∀ {n : Nat} {t : T n} {c0 c1 c2 c3 c4 : Value}, TreeIn S w n t c0 c1 c2 c3 c4 → TreeIn S w (n + 1) (upT n t) c0 c1 c2 c3 c4 := by
  intro n
  induction n with
  | zero => intro t c0 c1 c2 c3 c4 h; exact h.elim
  | succ n ih =>
    intro t c0 c1 c2 c3 c4 h
    obtain ⟨h0, h1, h2, hs, hw0, hw1, h3, h4⟩ := h
    exact ⟨h0, h1, h2, hs, hw0, hw1, h3, h4.map (upT n) fun x _ _ _ _ _ _ hx => ih hx⟩

end Go.Proofs.Ytpnnbdejneoccaa
