/-
  A row copied onto an empty one: append([]T{}, xs...), also where xs is empty.
-/
import Derived.Test.YtpalkdcgbbbmeaaGreatDoorDK3
import Derived.Deep.AppendLies
namespace Go.Proofs.YtpalkdcgbbbmeaaGreatDoor
open Go.RowKit

theorem owns_empty {w : World} {base E : Nat} {e : TypeId} {size : Nat} (hE : w.heap[E]? = some (.cells #[] e (0, 0))) (hb : base ≤ E) : w.ownsRow base e size (.slice (some ⟨E, 0, none⟩) 0 0) 0 [] :=
  ⟨by simp, .inr ⟨E, 0, #[], rfl, hb, hE, Nat.le_refl _, Nat.zero_le _, by simp, by simp⟩⟩

theorem run_copy {P : Program} (w : World) (t ty : TypeId) (base : Nat) (e : TypeId) (i : TypeInfo) (z : Value) (size bytes : Nat) (ht : P.underlying t = some (.slice e)) (hi : P.info? e = some i) (hz : i.zero = some z)
    (hsize : i.size = size) (hby : i.bytes = bytes) (hzs : z.cells.size = size) (hsz : 0 < size)
    (E : Nat) (hE : w.heap[E]? = some (.cells #[] e (0, 0))) (hb : base ≤ E) (ao : Option Addr) (m c : Nat) (news : List Value) (hl : news.length = m * size) (hnews : 0 < m → ∃ ad, ao = some ad ∧ ∀ j u, news[j]? = some u → w.cell? (ad.add j) = some u) (h1 : ∀ u ∈ news, u.oneCell' = true)
    (h63 : m ≤ maxLen) (hbytes : m * bytes ≤ 140737488355328) :
    ∃ g cap w', (Builtin.append_ #[t, t] ty #[.slice (some ⟨E, 0, none⟩) 0 0, .slice ao m c]).run P w = .ok (.slice (some ⟨g, 0, none⟩) m cap) w' ∧
      w'.ownsRow base e size (.slice (some ⟨g, 0, none⟩) m cap) m news ∧ w.grownBy w' (some E) ∧ (g = E ∨ g = w.heap.size) ∧ g < w'.heap.size := by
  have hEl : E < w.heap.size := (Array.getElem?_eq_some_iff.1 hE).1
  rcases Nat.eq_zero_or_pos m with rfl | hm
  · have hn : news = [] := List.eq_nil_of_length_eq_zero (by simpa using hl)
    subst hn
    refine ⟨E, 0, w, ?_, owns_empty hE hb, ⟨rfl, rfl, rfl, Nat.le_refl _, fun _ _ _ => rfl⟩, .inl rfl, hEl⟩
    cases ao <;> simp [Builtin.append_, run_underlying ht, sizeOf, typeInfo, hi, Builtin.lenOf, Builtin.firstCells, loadCells, loadCellsFrom, storeCells]
  · obtain ⟨ad, rfl, hc⟩ := hnews hm
    obtain ⟨g, cap, w', hr, h2, h3, h4, h5⟩ := run_append_lies (P := P) w t ty base e i z size bytes ht hi hz hsize hby hzs hsz (.slice (some ⟨E, 0, none⟩) 0 0) 0 [] (owns_empty hE hb) ad m c news hl hc h1 hm (by omega) (by simpa using hbytes) (by omega) w.heap.size rfl
    rw [Nat.zero_add] at hr h2
    refine ⟨g, cap, w', hr, h2, h3, h4.imp (fun h => ?_) id, h5⟩
    simpa [Value.ownBlock] using h.symm

/-- At the list of a plain region's operations. -/
theorem wpList_copy {P : Program} (w : World) {ops : Array Oper} {rest : List Oper} {o : Oper} {a : Act} {Q : Exit → Act → World → Prop} (hgd : o.guard = none) (s x : Operand) (t : TypeId)
    (ho : o.op = .call { callee := .builtin .append, args := #[s, x], argTypes := #[t, t] })
    (base : Nat) (e : TypeId) (i : TypeInfo) (z : Value) (size bytes : Nat) (ht : P.underlying t = some (.slice e)) (hi : P.info? e = some i) (hz : i.zero = some z)
    (hsize : i.size = size) (hby : i.bytes = bytes) (hzs : z.cells.size = size) (hsz : 0 < size)
    (E : Nat) (hs : a.eval s = .slice (some ⟨E, 0, none⟩) 0 0) (hE : w.heap[E]? = some (.cells #[] e (0, 0))) (hb : base ≤ E) (ao : Option Addr) (m c : Nat) (news : List Value) (hx : a.eval x = .slice ao m c) (hl : news.length = m * size) (hnews : 0 < m → ∃ ad, ao = some ad ∧ ∀ j u, news[j]? = some u → w.cell? (ad.add j) = some u) (h1 : ∀ u ∈ news, u.oneCell' = true)
    (h63 : m ≤ maxLen) (hbytes : m * bytes ≤ 140737488355328) (H : Nat) (hH : w.heap.size = H)
    (h : ∀ g cap w', w'.ownsRow base e size (.slice (some ⟨g, 0, none⟩) m cap) m news → w.grownBy w' (some E) → (g = E ∨ g = H) → g < w'.heap.size → wpList P ops Q rest (a.put o.dst (.slice (some ⟨g, 0, none⟩) m cap)) w') : wpList P ops Q (o :: rest) a w := by
  obtain ⟨g, cap, w', hr, h2, h3, h4, h5⟩ := run_copy (P := P) w t o.type base e i z size bytes ht hi hz hsize hby hzs hsz E hE hb ao m c news hl hnews h1 h63 hbytes
  refine wpList_plain hgd fun K hK => ?_
  unfold Oper.wp execOp
  simp only [ho, resolve, invoke, builtin, Sem.run_bind, Sem.run_pure, Result.andThen_ok, List.map_toArray, List.map_cons, List.map_nil, hs, hx, hr]
  exact hK _ _ (h g cap w' h2 h3 (by rw [← hH]; exact h4) h5)

theorem strs_news {S : Nat → Prop} {w w' : World} {l : List ByteArray} {ao : Option Addr} {n c : Nat} (hl : l.length = n) (h : StrsIn S w l (.slice ao n c)) (hs : Same S w w') :
    (l.map Value.string).length = n * 1 ∧ (∀ u ∈ l.map Value.string, u.oneCell' = true) ∧ (0 < n → ∃ ad, ao = some ad ∧ ∀ j u, (l.map Value.string)[j]? = some u → w'.cell? (ad.add j) = some u) := by
  subst hl
  obtain ⟨ao', cap', he, -, -, hc⟩ := h
  refine ⟨by simp, fun u hu => ?_, fun hp => ?_⟩
  · obtain ⟨x, -, rfl⟩ := List.mem_map.1 hu; rfl
  · obtain ⟨b, off, hb, hS, hcell⟩ := hc (fun e => by rw [e] at hp; simp at hp)
    have hao : ao = ao' := by simpa using congrArg (fun v => match v with | Value.slice a _ _ => a | _ => none) he
    refine ⟨⟨b, off, none⟩, hao.trans hb, fun j u hu => ?_⟩
    obtain ⟨hj, rfl⟩ : ∃ hj : j < l.length, Value.string l[j] = u := by
      rw [List.getElem?_map] at hu
      rcases hlj : l[j]? with _ | s
      · rw [hlj] at hu; cases hu
      · rw [hlj] at hu
        obtain ⟨hj, e⟩ := List.getElem?_eq_some_iff.1 hlj
        exact ⟨hj, by rw [e]; simpa using hu⟩
    rw [Addr.add_lit]
    exact (hs.cell (p := ⟨b, off + j, none⟩) hS).trans (hcell j hj)

theorem kids_news {S : Nat → Prop} {w : World} {m : Nat} {l : List (K m)} {ao : Option Addr} {n c : Nat} (hl : l.length = n) (h : RowIn3 S w (KindIn S w m) l (.slice ao n c)) :
    ∃ xs : List Value, xs.length = n * 3 ∧ (∀ u ∈ xs, u.oneCell' = true) ∧ (∀ w', Same S w w' → 0 < n → ∃ ad, ao = some ad ∧ ∀ j u, xs[j]? = some u → w'.cell? (ad.add j) = some u) ∧
      ∀ j (h : j < l.length), ∃ c0 c1 c2, (xs[j * 3]? = some c0 ∧ xs[j * 3 + 1]? = some c1 ∧ xs[j * 3 + 2]? = some c2) ∧ KindIn S w m l[j] c0 c1 c2 := by
  subst hl
  obtain ⟨ao', cap', he, -, hc⟩ := h
  by_cases hne : l = []
  · subst hne
    refine ⟨[], by simp, fun u hu => ?_, fun _ _ h => ?_, fun j hj => ?_⟩
    · cases hu
    · exact absurd h (by simp)
    · exact absurd hj (by simp)
  obtain ⟨b, off, hb, hS, hcell⟩ := hc hne
  have hao : ao = ao' := by simpa using congrArg (fun v => match v with | Value.slice a _ _ => a | _ => none) he
  have hall : ∀ j, j < l.length * 3 → ∃ u, w.cell? ⟨b, off + j, none⟩ = some u ∧ u.oneCell' = true := fun j hj => by
    obtain ⟨c0, c1, c2, e0, e1, e2, hk⟩ := hcell (j / 3) (by omega)
    obtain ⟨_, _, _, _, _, _, _, rfl, rfl, rfl⟩ := hk.shape
    have h3 : j % 3 = 0 ∨ j % 3 = 1 ∨ j % 3 = 2 := by omega
    rcases h3 with h3 | h3 | h3
    · rw [show off + j = off + j / 3 * 3 by omega]; exact ⟨_, e0, rfl⟩
    · rw [show off + j = off + j / 3 * 3 + 1 by omega]; exact ⟨_, e1, rfl⟩
    · rw [show off + j = off + j / 3 * 3 + 2 by omega]; exact ⟨_, e2, rfl⟩
  have hx : ∀ j u, ((List.range (l.length * 3)).map fun j => (w.cell? ⟨b, off + j, none⟩).getD (.slice none 0 0))[j]? = some u → j < l.length * 3 ∧ w.cell? ⟨b, off + j, none⟩ = some u := fun j u hu => by
    rw [List.getElem?_map] at hu
    by_cases hj : j < l.length * 3
    · rw [List.getElem?_range hj] at hu
      obtain ⟨v, hv, -⟩ := hall j hj
      refine ⟨hj, ?_⟩
      simp only [Option.map_some, hv, Option.getD_some] at hu
      rw [hv]; exact hu
    · rw [List.getElem?_eq_none (by simp; omega)] at hu; cases hu
  have hx2 : ∀ j u, j < l.length * 3 → w.cell? ⟨b, off + j, none⟩ = some u → ((List.range (l.length * 3)).map fun j => (w.cell? ⟨b, off + j, none⟩).getD (.slice none 0 0))[j]? = some u := fun j u hj hu => by
    rw [List.getElem?_map, List.getElem?_range hj]
    simp [hu]
  refine ⟨(List.range (l.length * 3)).map fun j => (w.cell? ⟨b, off + j, none⟩).getD (.slice none 0 0), by simp, fun u hu => ?_, fun w' hs _ => ⟨⟨b, off, none⟩, hao.trans hb, fun j u hu => ?_⟩, fun j hj => ?_⟩
  · obtain ⟨j, hj, hju⟩ := List.mem_iff_getElem.1 hu
    obtain ⟨hj3, hcu⟩ := hx j u (by rw [List.getElem?_eq_getElem hj, hju])
    obtain ⟨v, hv, h1⟩ := hall j hj3
    rw [hcu] at hv
    cases hv; exact h1
  · rw [Addr.add_lit]
    exact (hs.cell (p := ⟨b, off + j, none⟩) hS).trans (hx j u hu).2
  · obtain ⟨c0, c1, c2, e0, e1, e2, hk⟩ := hcell j hj
    exact ⟨c0, c1, c2, ⟨hx2 _ _ (by omega) e0, hx2 _ _ (by omega) (by rw [← Nat.add_assoc]; exact e1), hx2 _ _ (by omega) (by rw [← Nat.add_assoc]; exact e2)⟩, hk⟩

end Go.Proofs.YtpalkdcgbbbmeaaGreatDoor
