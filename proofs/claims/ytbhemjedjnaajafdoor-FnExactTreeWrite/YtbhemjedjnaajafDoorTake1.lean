/-
  The program's inner trees in memory; one law more on append: where the row lies behind it.
-/
import Derived.Test.YtbhemjedjnaajafDoorTake0
namespace Go.Proofs.YtbhemjedjnaajafDoor
open Go.RowKit

/-- A slice of one-cell things, in blocks of S. -/
def RowIn1 {α : Type} (S : Nat → Prop) (w : World) (R : α → Value → Prop) (l : List α) (v : Value) : Prop :=
  ∃ (ao : Option Addr) (cap : Nat), v = .slice ao l.length cap ∧ l.length ≤ maxLen ∧
    (l ≠ [] → ∃ b off, ao = some ⟨b, off, none⟩ ∧ S b ∧ ∀ i (h : i < l.length), ∃ c, w.cell? ⟨b, off + i, none⟩ = some c ∧ R l[i] c)

/-- A value is the program's inner tree of a tree. -/
def InnerIn (S : Nat → Prop) (w : World) : (n : Nat) → T n → Value → Prop
  | 0, _, _ => False
  | n + 1, t, v =>
    (Nd.sort t = 1 ∧ v = .iface 66 (.int .i64 (Nd.num t))) ∨ (Nd.sort t = 2 ∧ v = .iface 68 (.string (Nd.text t))) ∨
    (Nd.sort t = 3 ∧ v = .iface 69 (.bool (Nd.num t == 1))) ∨
    (Nd.sort t = 4 ∧ ∃ kv, v = .iface 72 kv ∧ RowIn1 S w (InnerIn S w n) (Nd.kids t) kv) ∨
    (Nd.sort t = 5 ∧ ∃ nv kv, v = .iface 75 (.agg #[nv, kv]) ∧ StrsIn S w (Nd.names t) nv ∧ RowIn1 S w (InnerIn S w n) (Nd.kids t) kv) ∨
    (Nd.sort t = 6 ∧ ∃ kv, v = .iface 77 kv ∧ RowIn1 S w (InnerIn S w n) (Nd.kids t) kv)

theorem RowIn1.keep {α : Type} {S S' : Nat → Prop} {w w' : World} {R R' : α → Value → Prop} {l : List α} {v : Value} (h : RowIn1 S w R l v) (hb : Same S w w') (hS : ∀ b, S b → S' b)
    (hR : ∀ x c, x ∈ l → R x c → R' x c) : RowIn1 S' w' R' l v := by
  obtain ⟨ao, cap, hv, hl, hc⟩ := h
  refine ⟨ao, cap, hv, hl, fun hne => ?_⟩
  obtain ⟨b, off, ha, hB, hcell⟩ := hc hne
  refine ⟨b, off, ha, hS b hB, fun i hi => ?_⟩
  obtain ⟨c, h0, hr⟩ := hcell i hi
  exact ⟨c, (hb.cell (p := ⟨b, off + i, none⟩) hB).trans h0, hR _ _ (List.getElem_mem hi) hr⟩

theorem InnerIn.keep {S S' : Nat → Prop} {w w' : World} (hb : Same S w w') (hS : ∀ b, S b → S' b) : ∀ {n : Nat} {t : T n} {v : Value}, InnerIn S w n t v → InnerIn S' w' n t v := by
  intro n
  induction n with
  | zero => intro t v h; exact h.elim
  | succ n ih =>
    intro t v h
    rcases h with h | h | h | ⟨hs, kv, hv, hk⟩ | ⟨hs, nv, kv, hv, hn, hk⟩ | ⟨hs, kv, hv, hk⟩
    · exact .inl h
    · exact .inr (.inl h)
    · exact .inr (.inr (.inl h))
    · exact .inr (.inr (.inr (.inl ⟨hs, kv, hv, hk.keep hb hS fun _ _ _ hx => ih hx⟩)))
    · exact .inr (.inr (.inr (.inr (.inl ⟨hs, nv, kv, hv, hn.keep hb hS, hk.keep hb hS fun _ _ _ hx => ih hx⟩))))
    · exact .inr (.inr (.inr (.inr (.inr ⟨hs, kv, hv, hk.keep hb hS fun _ _ _ hx => ih hx⟩))))

theorem InnerIn.iface {S : Nat → Prop} {w : World} : ∀ {n : Nat} {t : T n} {v : Value}, InnerIn S w n t v → ∃ u x, v = .iface u x := by
  intro n
  cases n with
  | zero => intro t v h; exact h.elim
  | succ n =>
    intro t v h
    rcases h with h | h | h | ⟨hs, kv, hv, hk⟩ | ⟨hs, nv, kv, hv, hn, hk⟩ | ⟨hs, kv, hv, hk⟩
    · exact ⟨_, _, h.2⟩
    · exact ⟨_, _, h.2⟩
    · exact ⟨_, _, h.2⟩
    · exact ⟨_, _, hv⟩
    · exact ⟨_, _, hv⟩
    · exact ⟨_, _, hv⟩

/-- append onto a row of the call's own: the row stays where it is, or it is the newest block. -/
theorem run_append_own2 {P : Program} (w : World) (base : Nat) (t ty e : TypeId) (i : TypeInfo) (z : Value) (size bytes : Nat) (ht : P.underlying t = some (.slice e)) (hi : P.info? e = some i) (hz : i.zero = some z)
    (hsize : i.size = size) (hby : i.bytes = bytes) (hzs : z.cells.size = size) (hsz : 0 < size)
    (v : Value) (n : Nat) (xs : List Value) (hown : w.ownsRow base e size v n xs)
    (a : Addr) (m c : Nat) (news : List Value) (hl : news.length = m * size) (hnews : ∀ j u, news[j]? = some u → w.cell? (a.add j) = some u) (h1 : ∀ u ∈ news, u.oneCell' = true)
    (h63 : n + m ≤ maxLen) (hbytes : (n + m) * bytes ≤ 140737488355328) (hbase : base ≤ w.heap.size) :
    ∃ v' w', (Builtin.append_ #[t, t] ty #[v, .slice (some a) m c]).run P w = .ok v' w' ∧ w'.ownsRow base e size v' (n + m) (xs ++ news) ∧ w.grownBy w' v.ownBlock ∧
      (v'.ownBlock = v.ownBlock ∨ v'.ownBlock = some w.heap.size) := by
  obtain ⟨v', w', hr, h2, h3, h4⟩ := run_append_own (P := P) w base t ty e i z size bytes ht hi hz hsize hby hzs hsz v n xs hown a m c news hl hnews h1 h63 hbytes hbase
  refine ⟨v', w', hr, h2, h3, ?_⟩
  subst hsize
  subst hby
  have hsmall : n + m ≤ 9223372036854775807 := by simp only [maxLen] at h63; omega
  rcases hown.2 with ⟨rfl, rfl⟩ | ⟨g, cap, cur, rfl, hbg, hg, hnc, hcm, hcs, htake⟩
  · have hx : xs = [] := List.eq_nil_of_length_eq_zero (by simpa using hown.1)
    subst hx
    by_cases hm : m = 0
    · exact .inl (by rw [h4.2 ⟨rfl, hm⟩])
    · have hr2 := run_append_nil (P := P) w t ty e i z ht hi hz a m c news hl hnews (by omega) (by omega) (by have hb := hbytes; simp only [Nat.zero_add] at hb; omega)
      rw [hr] at hr2
      injection hr2 with hv hw
      exact .inr (by rw [hv]; rfl)
  · by_cases hroom : n + m ≤ cap
    · have hfit : n * i.size + news.length ≤ cur.size := by rw [hl, hcs, ← Nat.add_mul]; exact Nat.mul_le_mul_right _ hroom
      have hr2 := run_append_room (P := P) w t ty e i ht hi g n cap cur hg a m c news hl hnews h1 hroom hfit
      rw [hr] at hr2
      injection hr2 with hv hw
      exact .inl (by rw [hv]; rfl)
    · have holds : ∀ j u, xs[j]? = some u → w.cell? ((⟨g, 0, none⟩ : Addr).add j) = some u := hown.cells (g := g) rfl
      have hr2 := run_append_grow (P := P) w t ty e i z ht hi hz ⟨g, 0, none⟩ n cap xs hown.1 holds a m c news hl hnews (by omega) (by omega) (growslice_fits (by omega) hbytes)
      rw [hr] at hr2
      injection hr2 with hv hw
      exact .inr (by rw [hv]; rfl)

theorem wpList_append_own2 {P : Program} (w : World) {ops : Array Oper} {rest : List Oper} {o : Oper} {a : Act} {Q : Exit → Act → World → Prop} (hgd : o.guard = none) (s x : Operand) (t : TypeId)
    (ho : o.op = .call { callee := .builtin .append, args := #[s, x], argTypes := #[t, t] })
    (base : Nat) (e : TypeId) (i : TypeInfo) (z : Value) (size bytes : Nat) (ht : P.underlying t = some (.slice e)) (hi : P.info? e = some i) (hz : i.zero = some z)
    (hsize : i.size = size) (hby : i.bytes = bytes) (hzs : z.cells.size = size) (hsz : 0 < size)
    (v : Value) (n : Nat) (xs : List Value) (hs : a.eval s = v) (hown : w.ownsRow base e size v n xs)
    (ad : Addr) (m c : Nat) (news : List Value) (hx : a.eval x = .slice (some ad) m c) (hl : news.length = m * size) (hnews : ∀ j u, news[j]? = some u → w.cell? (ad.add j) = some u) (h1 : ∀ u ∈ news, u.oneCell' = true)
    (h63 : n + m ≤ maxLen) (hbytes : (n + m) * bytes ≤ 140737488355328) (hbase : base ≤ w.heap.size)
    (h : ∀ v' w', w'.ownsRow base e size v' (n + m) (xs ++ news) → w.grownBy w' v.ownBlock → (v'.ownBlock = v.ownBlock ∨ v'.ownBlock = some w.heap.size) → wpList P ops Q rest (a.put o.dst v') w') : wpList P ops Q (o :: rest) a w :=
  wpList_plain hgd fun K hK => by
    obtain ⟨v', w', hr, h2, h3, h4⟩ := run_append_own2 (P := P) w base t o.type e i z size bytes ht hi hz hsize hby hzs hsz v n xs hown ad m c news hl hnews h1 h63 hbytes hbase
    unfold Oper.wp execOp
    simp only [ho, resolve, invoke, builtin, Sem.run_bind, Sem.run_pure, Result.andThen_ok, List.map_toArray, List.map_cons, List.map_nil, hs, hx, hr]
    exact hK _ _ (h v' w' h2 h3 h4)

/-- A finished row as the inner tree's row. -/
theorem rowIn1_of_owns {α : Type} {S : Nat → Prop} {w : World} {base : Nat} {e : TypeId} {v : Value} {l : List α} {xs : List Value} {R : α → Value → Prop} (h : w.ownsRow base e 1 v l.length xs) (hl : l.length ≤ maxLen)
    (hS : ∀ g, v.ownBlock = some g → S g) (hR : ∀ i (hi : i < l.length) (hx : i < xs.length), R l[i] xs[i]) : RowIn1 S w R l v := by
  have hlen : xs.length = l.length := by simpa using h.1
  rcases h.2 with ⟨rfl, h0⟩ | ⟨g, cap, cur, rfl, hbg, hg, hnc, hcm, hcs, htake⟩
  · exact ⟨none, 0, by rw [h0], hl, fun hne => absurd (List.eq_nil_of_length_eq_zero h0) hne⟩
  · refine ⟨_, _, rfl, hl, fun _ => ⟨g, 0, rfl, hS g rfl, fun i hi => ⟨xs[i]'(by omega), ?_, hR i hi (by omega)⟩⟩⟩
    have := h.cells (g := g) rfl i (xs[i]'(by omega)) (by simp)
    rw [Addr.add_lit] at this
    exact this

end Go.Proofs.YtbhemjedjnaajafDoor
