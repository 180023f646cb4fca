/-
  The program's inner trees: what they are in memory; madeTrees, madeTree, innerTree.
-/
import Derived.Test.YtpnnbdejneoccaaGreatDoorB1
import Derived.Test.YtpnnbdejneoccaaGreatDoorB2
import Derived.Deep.RegionWith
import Derived.Lib.Hide
namespace Go.Proofs.YtpnnbdejneoccaaGreatDoor
open Go.RowKit

/-- A value is the program's inner tree of a tree. -/
def InnerT (S : Nat → Prop) (w : World) : (n : Nat) → T n → Value → Prop
  | 0, _, _ => False
  | n + 1, t, v =>
    (Nd.sort t = 1 ∧ v = .iface 78 (.int .i64 (Nd.num t))) ∨ (Nd.sort t = 2 ∧ v = .iface 82 (.string (Nd.text t))) ∨
    (Nd.sort t = 3 ∧ v = .iface 79 (.bool (Nd.num t == 1))) ∨
    (Nd.sort t = 4 ∧ ∃ kv, v = .iface 83 kv ∧ Row1 S w (InnerT S w n) (Nd.kids t) kv) ∨
    (Nd.sort t = 5 ∧ ∃ nv kv, v = .iface 88 (.agg #[nv, kv]) ∧ StrsIn S w (Nd.names t) nv ∧ Row1 S w (InnerT S w n) (Nd.kids t) kv) ∨
    (Nd.sort t = 6 ∧ ∃ kv, v = .iface 81 kv ∧ Row1 S w (InnerT S w n) (Nd.kids t) kv)

theorem InnerT.keep {S S' : Nat → Prop} {w w' : World} (hb : Same S w w') (hS : ∀ b, S b → S' b) : ∀ {n : Nat} {t : T n} {v : Value}, InnerT S w n t v → InnerT S' w' n t v := by
  intro n
  induction n with
  | zero => intro t v h; exact h.elim
  | succ n ih =>
    intro t v h
    rcases h with h | h | h | ⟨hs, kv, hv, hk⟩ | ⟨hs, nv, kv, hv, hn, hk⟩ | ⟨hs, kv, hv, hk⟩
    · exact .inl h
    · exact .inr (.inl h)
    · exact .inr (.inr (.inl h))
    · exact .inr (.inr (.inr (.inl ⟨hs, kv, hv, hk.keep hb hS fun _ _ _ hx => ih hx⟩)))
    · exact .inr (.inr (.inr (.inr (.inl ⟨hs, nv, kv, hv, hn.keep hb hS, hk.keep hb hS fun _ _ _ hx => ih hx⟩))))
    · exact .inr (.inr (.inr (.inr (.inr ⟨hs, kv, hv, hk.keep hb hS fun _ _ _ hx => ih hx⟩))))

theorem InnerT.iface {S : Nat → Prop} {w : World} : ∀ {n : Nat} {t : T n} {v : Value}, InnerT S w n t v → ∃ u x, v = .iface u x := by
  intro n
  cases n with
  | zero => intro t v h; exact h.elim
  | succ n =>
    intro t v h
    rcases h with h | h | h | ⟨hs, kv, hv, hk⟩ | ⟨hs, nv, kv, hv, hn, hk⟩ | ⟨hs, kv, hv, hk⟩
    · exact ⟨_, _, h.2⟩
    · exact ⟨_, _, h.2⟩
    · exact ⟨_, _, h.2⟩
    · exact ⟨_, _, hv⟩
    · exact ⟨_, _, hv⟩
    · exact ⟨_, _, hv⟩

end Go.Proofs.YtpnnbdejneoccaaGreatDoor
