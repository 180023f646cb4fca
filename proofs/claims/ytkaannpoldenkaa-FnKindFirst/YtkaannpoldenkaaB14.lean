/-
  Several texts in one, in their order.
-/
import Derived.Test.YtkaannpoldenkaaDK1
import Derived.Deep.AppendLies

/-
  What the specification draws: of; a spoilt schema's contract; the sort spoilt.
-/
namespace Go.Proofs.Ytkaannpoldenkaa
open Go.RowKit

theorem wf_small (x : Nat) (h : x ≤ 1000000) : (Lit.int .i64 (x : Int)).wf = true := by
  simp only [Lit.wf, Bool.and_eq_true, decide_eq_true_eq]
  have a : IntKind.i64.min = -9223372036854775808 := by rfl
  have b : IntKind.i64.max = 9223372036854775807 := by rfl
  rw [a, b]; omega

set_option maxRecDepth 20000 in
set_option maxHeartbeats 400000 in
theorem of_any (w : World) (R : Nat) (ao : Option Addr) (L cap p : Nat) (h : Dr w R ao L cap p) (hp : p ≤ 1000000) (b off n c : Nat) (hn : 1 ≤ n) (hn2 : n ≤ 1000000) (hbR : b ≠ R) (hc : ∀ j, j < n → ∃ s : ByteArray, s.size ≤ 10000 ∧ w.cell? ⟨b, off + j, none⟩ = some (.string s)) :
    Calls Try.prog 32 #[.pointer (some ⟨R, 0, none⟩), .slice (some ⟨b, off, none⟩) n c] w fun e w' => ∃ s : ByteArray, e = .returned (.string s) ∧ s.size ≤ 10000 ∧ Near R w w' ∧ Dr w' R ao L cap (p + 1) := by
  have HPk : Hid (Calls Try.prog 31 #[.pointer (some ⟨R, 0, none⟩), .int .i64 (n : Int)] w (PickPost w R ao L cap p n)) := pick_any w R ao L cap p n h hp hn hn2
  have HC : Hid (∀ j, j < n → ∃ s : ByteArray, s.size ≤ 10000 ∧ w.cell? ⟨b, off + j, none⟩ = some (.string s)) := hc
  clear h hc
  go_enter Try.func32, Try.ntmps32
  go_wp2_with fail
  refine HPk.out.mono ?_
  rintro e w1 ⟨x, rfl, hx, hn1, hD1, hz1⟩
  obtain ⟨s, hs, hcs⟩ := HC.out x hx
  have f0 := hn1.cell hcs hbR
  have HP : Hid (Near R w w1 ∧ Dr w1 R ao L cap (p + 1)) := ⟨hn1, hD1⟩
  have hxi : (x : Int) < (n : Int) := by omega
  clear HPk HC hcs hn1 hD1
  go_wp2_with fail
  go_ret
  exact ⟨s, rfl, hs, HP.out.1, HP.out.2⟩

/-- The schema of numbers. -/
def numK (m : Nat) : K (m + 1) := (⟨1, [], []⟩ : Kd (K m))

/-- What l5SpoilKind makes. -/
def SpoilPost (m : Nat) (S : Nat → Prop) (w : World) (R : Nat) (ao : Option Addr) (L cap p q : Nat) (e : Ending) (w' : World) : Prop :=
  Near R w w' ∧ ∃ (p' : Nat) (k : K m) (c0 c1 c2 : Value), p' ≤ p + q ∧ Dr w' R ao L cap p' ∧ e = .returned (.agg #[c0, c1, c2]) ∧ KindIn (fun b => S b ∨ (w.heap.size ≤ b ∧ b < w'.heap.size)) w' m k c0 c1 c2

/-- The way out: the answer's block is the second new one. -/
theorem sp_exit {m R L cap p p' q : Nat} {S : Nat → Prop} {ao : Option Addr} {w W : World} {k : K m} {g0 g1 g2 : Value} (h : Dr w R ao L cap p) (hS : ∀ b, S b → b < w.heap.size) (hn : Near R w W) (hb : W.heap[R]? = some (.cells #[.slice ao L cap, .int .i64 (p' : Int)] 75 (0, 0))) (hp : p' ≤ p + q)
    (hk : KindIn (fun b => S b ∨ (w.heap.size + 2 ≤ b ∧ b < W.heap.size)) W m k g0 g1 g2) :
    SpoilPost m S w R ao L cap p q (.returned (.agg #[g0, g1, g2])) (put3 W (w.heap.size + 1) 0 g0 g1 g2) := by
  have hR := h.lt
  have qq : ∀ b, b ≠ w.heap.size + 1 → (put3 W (w.heap.size + 1) 0 g0 g1 g2).heap[b]? = W.heap[b]? := fun b h => put3_other h
  have hz : (put3 W (w.heap.size + 1) 0 g0 g1 g2).heap.size = W.heap.size := put3_size
  have hn' : Near R w (put3 W (w.heap.size + 1) 0 g0 g1 g2) := ⟨hn.os, hn.tape, hn.output, by rw [hz]; exact hn.size, fun b hb hne => (qq b (by omega)).trans (hn.block b hb hne)⟩
  refine ⟨hn', p', k, _, _, _, hp, h.keep hn' ((qq R (by omega)).trans hb), rfl, hk.keep (fun b hb => ?_) (fun b hb => hb.elim .inl (fun h => .inr ⟨by omega, by rw [hz]; exact h.2⟩))⟩
  exact qq b (hb.elim (fun h => by have := hS b h; omega) (fun h => by omega))

/-- A schema within lists and maybes, j of them, in block X. -/
def ChainK (R X : Nat) (w wr : World) (j : Nat) : Prop :=
  ∃ (so : Int) (kv : Value), Near2 R X w wr ∧ wr.heap[X]? = some (.cells #[.int .i64 so, .slice none 0 0, kv] 26 (0, 0)) ∧ ∀ M, j + 1 ≤ M → ∃ k : K M, KindIn (fun b => w.heap.size ≤ b ∧ b < wr.heap.size) wr M k (.int .i64 so) (.slice none 0 0) kv

theorem ChainK.start {R X : Nat} {w : World} (h : w.heap[X]? = some (.cells #[.int .i64 3, .slice none 0 0, .slice none 0 0] 26 (0, 0))) : ChainK R X w w 0 :=
  ⟨3, _, Near2.refl _ _ _, h, fun M hM => by
    obtain ⟨M', rfl⟩ : ∃ M', M = M' + 1 := ⟨M - 1, by omega⟩
    exact ⟨(⟨3, [], []⟩ : Kd (K M')), leafD_in _ _ M' 3 rfl⟩⟩

theorem ChainK.drew {R X j : Nat} {w W : World} (h : ChainK R X w W j) : ChainK R X w W.drew j := by
  obtain ⟨so, kv, h1, h2, h3⟩ := h
  refine ⟨so, kv, ⟨h1.os, h1.tape, h1.output, h1.size, h1.block⟩, h2, fun M hM => ?_⟩
  obtain ⟨k, hk⟩ := h3 M hM
  exact ⟨k, KindIn.keep (w := W) (w' := W.drew) (fun _ _ => rfl) (fun _ h => h) hk⟩

/-- One more around it. -/
theorem ChainK.more {R X B j : Nat} {w wr W' : World} {so t : Int} {kv : Value} (hn : Near2 R X w wr) (hch : ∀ M, j + 1 ≤ M → ∃ k : K M, KindIn (fun b => w.heap.size ≤ b ∧ b < wr.heap.size) wr M k (.int .i64 so) (.slice none 0 0) kv) (hX : X < w.heap.size) (ht : (Lit.int .i64 t).wf = true)
    (ho : W'.os = wr.os ∧ W'.tape = wr.tape ∧ W'.output = wr.output) (hW : ∀ b, b < wr.heap.size → b ≠ X → W'.heap[b]? = wr.heap[b]?) (hB : wr.heap.size ≤ B ∧ B < W'.heap.size) (hBc : Box3 W' B (.int .i64 so) (.slice none 0 0) kv)
    (hbox : W'.heap[X]? = some (.cells #[.int .i64 t, .slice none 0 0, .slice (some ⟨B, 0, none⟩) 1 1] 26 (0, 0))) : ChainK R X w W' (j + 1) := by
  have hz := hn.size
  refine ⟨t, .slice (some ⟨B, 0, none⟩) 1 1, ⟨ho.1.trans hn.os, ho.2.1.trans hn.tape, ho.2.2.trans hn.output, by omega, fun b hb h1 h2 => (hW b (by omega) h2).trans (hn.block b hb h1 h2)⟩, hbox, fun M hM => ?_⟩
  obtain ⟨M', rfl⟩ : ∃ M', M = M' + 1 := ⟨M - 1, by omega⟩
  obtain ⟨k, hk⟩ := hch M' (by omega)
  refine ⟨(⟨t, [], [k]⟩ : Kd (K M')), oneD_in (t := k) ht ⟨by omega, by omega⟩ hBc.c0 hBc.c1 hBc.c2 ?_⟩
  exact hk.keep (fun b hb => hW b hb.2 (by omega)) (fun b hb => ⟨hb.1, by omega⟩)

/-- Both orders of the two new blocks. -/
theorem chain_orders {R X j : Nat} {w wr : World} {so t : Int} {kv : Value} (hn : Near2 R X w wr) (hch : ∀ M, j + 1 ≤ M → ∃ k : K M, KindIn (fun b => w.heap.size ≤ b ∧ b < wr.heap.size) wr M k (.int .i64 so) (.slice none 0 0) kv) (hX : X < w.heap.size) (ht : (Lit.int .i64 t).wf = true)
    (hbox : wr.heap[X]? = some (.cells #[.int .i64 so, .slice none 0 0, kv] 26 (0, 0))) (A : Obj) :
    ChainK R X w (((put3 wr X 0 (.int .i64 t) (.slice none 0 0) (.slice (some ⟨wr.heap.size + 1, 0, none⟩) 1 1)).alloc A).alloc (.cells #[.int .i64 so, .slice none 0 0, kv] 26)) (j + 1) ∧
    ChainK R X w (((put3 wr X 0 (.int .i64 t) (.slice none 0 0) (.slice (some ⟨wr.heap.size, 0, none⟩) 1 1)).alloc (.cells #[.int .i64 so, .slice none 0 0, kv] 26)).alloc A) (j + 1) := by
  have hz := hn.size
  have hsz : ∀ g, (put3 wr X 0 (.int .i64 t) (.slice none 0 0) g).heap.size = wr.heap.size := fun g => put3_size
  have hpx : ∀ g, (put3 wr X 0 (.int .i64 t) (.slice none 0 0) g).heap[X]? = some (.cells #[.int .i64 t, .slice none 0 0, g] 26 (0, 0)) := fun g => by simp [put3, World.setCell, Array.getElem?_modify, hbox]
  refine ⟨ChainK.more (B := wr.heap.size + 1) hn hch hX ht ⟨rfl, rfl, rfl⟩ (fun b hb hne => ?_) ⟨by omega, by simp [hsz]⟩ ?_ ?_, ChainK.more (B := wr.heap.size) hn hch hX ht ⟨rfl, rfl, rfl⟩ (fun b hb hne => ?_) ⟨Nat.le_refl _, by simp [hsz]; omega⟩ ?_ ?_⟩
  · rw [Below.heap_alloc _ _ _ (by simp [hsz]; omega), Below.heap_alloc _ _ _ (by rw [hsz]; exact hb)]; exact put3_other hne
  · have := Box3.new ((put3 wr X 0 (.int .i64 t) (.slice none 0 0) (.slice (some ⟨wr.heap.size + 1, 0, none⟩) 1 1)).alloc A) (.int .i64 so) (.slice none 0 0) kv 26
    simpa [hsz] using this
  · rw [Below.heap_alloc _ _ _ (by simp [hsz]; omega), Below.heap_alloc _ _ _ (by rw [hsz]; omega)]; exact hpx _
  · rw [Below.heap_alloc _ _ _ (by simp [hsz]; omega), Below.heap_alloc _ _ _ (by rw [hsz]; exact hb)]; exact put3_other hne
  · have := (Box3.new (put3 wr X 0 (.int .i64 t) (.slice none 0 0) (.slice (some ⟨wr.heap.size, 0, none⟩) 1 1)) (.int .i64 so) (.slice none 0 0) kv 26).keep ((Below.refl _ _).alloc (Nat.le_refl _) A)
    rw [hsz] at this; exact this
  · rw [Below.heap_alloc _ _ _ (by simp [hsz]; omega), Below.heap_alloc _ _ _ (by rw [hsz]; omega)]; exact hpx _

/-- l5SpoilKind at d levels. -/
def SpoilSaid (d : Nat) : Prop := ∀ (m R : Nat) (ao : Option Addr) (L cap p : Nat) (S : Nat → Prop) (k : K m) (c0 c1 c2 : Value) (w : World), d + 7 ≤ m → depK m k d → KindIn S w m k c0 c1 c2 → (∀ b, S b → b < w.heap.size ∧ b ≠ R) → Dr w R ao L cap p → p + 50 * d ≤ 1000000 →
  Calls Try.prog 44 #[.pointer (some ⟨R, 0, none⟩), .agg #[c0, c1, c2]] w (SpoilPost m S w R ao L cap p (50 * d))

end Go.Proofs.Ytkaannpoldenkaa

/-
  A row copied onto an empty one: append([]T{}, xs...), also where xs is empty.
-/
namespace Go.Proofs.Ytkaannpoldenkaa
open Go.RowKit

theorem owns_empty {w : World} {base E : Nat} {e : TypeId} {size : Nat} (hE : w.heap[E]? = some (.cells #[] e (0, 0))) (hb : base ≤ E) : w.ownsRow base e size (.slice (some ⟨E, 0, none⟩) 0 0) 0 [] :=
  ⟨by simp, .inr ⟨E, 0, #[], rfl, hb, hE, Nat.le_refl _, Nat.zero_le _, by simp, by simp⟩⟩

theorem run_copy {P : Program} (w : World) (t ty : TypeId) (base : Nat) (e : TypeId) (i : TypeInfo) (z : Value) (size bytes : Nat) (ht : P.underlying t = some (.slice e)) (hi : P.info? e = some i) (hz : i.zero = some z)
    (hsize : i.size = size) (hby : i.bytes = bytes) (hzs : z.cells.size = size) (hsz : 0 < size)
    (E : Nat) (hE : w.heap[E]? = some (.cells #[] e (0, 0))) (hb : base ≤ E) (ao : Option Addr) (m c : Nat) (news : List Value) (hl : news.length = m * size) (hnews : 0 < m → ∃ ad, ao = some ad ∧ ∀ j u, news[j]? = some u → w.cell? (ad.add j) = some u) (h1 : ∀ u ∈ news, u.oneCell' = true)
    (h63 : m ≤ maxLen) (hbytes : m * bytes ≤ 140737488355328) :
    ∃ g cap w', (Builtin.append_ #[t, t] ty #[.slice (some ⟨E, 0, none⟩) 0 0, .slice ao m c]).run P w = .ok (.slice (some ⟨g, 0, none⟩) m cap) w' ∧
      w'.ownsRow base e size (.slice (some ⟨g, 0, none⟩) m cap) m news ∧ w.grownBy w' (some E) ∧ (g = E ∨ g = w.heap.size) ∧ g < w'.heap.size := by
  have hEl : E < w.heap.size := (Array.getElem?_eq_some_iff.1 hE).1
  rcases Nat.eq_zero_or_pos m with rfl | hm
  · have hn : news = [] := List.eq_nil_of_length_eq_zero (by simpa using hl)
    subst hn
    refine ⟨E, 0, w, ?_, owns_empty hE hb, ⟨rfl, rfl, rfl, Nat.le_refl _, fun _ _ _ => rfl⟩, .inl rfl, hEl⟩
    cases ao <;> simp [Builtin.append_, run_underlying ht, sizeOf, typeInfo, hi, Builtin.lenOf, Builtin.firstCells, loadCells, loadCellsFrom, storeCells]
  · obtain ⟨ad, rfl, hc⟩ := hnews hm
    obtain ⟨g, cap, w', hr, h2, h3, h4, h5⟩ := run_append_lies (P := P) w t ty base e i z size bytes ht hi hz hsize hby hzs hsz (.slice (some ⟨E, 0, none⟩) 0 0) 0 [] (owns_empty hE hb) ad m c news hl hc h1 hm (by omega) (by simpa using hbytes) (by omega) w.heap.size rfl
    rw [Nat.zero_add] at hr h2
    refine ⟨g, cap, w', hr, h2, h3, h4.imp (fun h => ?_) id, h5⟩
    simpa [Value.ownBlock] using h.symm

/-- At the list of a plain region's operations. -/
theorem wpList_copy {P : Program} (w : World) {ops : Array Oper} {rest : List Oper} {o : Oper} {a : Act} {Q : Exit → Act → World → Prop} (hgd : o.guard = none) (s x : Operand) (t : TypeId)
    (ho : o.op = .call { callee := .builtin .append, args := #[s, x], argTypes := #[t, t] })
    (base : Nat) (e : TypeId) (i : TypeInfo) (z : Value) (size bytes : Nat) (ht : P.underlying t = some (.slice e)) (hi : P.info? e = some i) (hz : i.zero = some z)
    (hsize : i.size = size) (hby : i.bytes = bytes) (hzs : z.cells.size = size) (hsz : 0 < size)
    (E : Nat) (hs : a.eval s = .slice (some ⟨E, 0, none⟩) 0 0) (hE : w.heap[E]? = some (.cells #[] e (0, 0))) (hb : base ≤ E) (ao : Option Addr) (m c : Nat) (news : List Value) (hx : a.eval x = .slice ao m c) (hl : news.length = m * size) (hnews : 0 < m → ∃ ad, ao = some ad ∧ ∀ j u, news[j]? = some u → w.cell? (ad.add j) = some u) (h1 : ∀ u ∈ news, u.oneCell' = true)
    (h63 : m ≤ maxLen) (hbytes : m * bytes ≤ 140737488355328) (H : Nat) (hH : w.heap.size = H)
    (h : ∀ g cap w', w'.ownsRow base e size (.slice (some ⟨g, 0, none⟩) m cap) m news → w.grownBy w' (some E) → (g = E ∨ g = H) → g < w'.heap.size → wpList P ops Q rest (a.put o.dst (.slice (some ⟨g, 0, none⟩) m cap)) w') : wpList P ops Q (o :: rest) a w := by
  obtain ⟨g, cap, w', hr, h2, h3, h4, h5⟩ := run_copy (P := P) w t o.type base e i z size bytes ht hi hz hsize hby hzs hsz E hE hb ao m c news hl hnews h1 h63 hbytes
  refine wpList_plain hgd fun K hK => ?_
  unfold Oper.wp execOp
  simp only [ho, resolve, invoke, builtin, Sem.run_bind, Sem.run_pure, Result.andThen_ok, List.map_toArray, List.map_cons, List.map_nil, hs, hx, hr]
  exact hK _ _ (h g cap w' h2 h3 (by rw [← hH]; exact h4) h5)

theorem strs_news {S : Nat → Prop} {w w' : World} {l : List ByteArray} {ao : Option Addr} {n c : Nat} (hl : l.length = n) (h : StrsIn S w l (.slice ao n c)) (hs : Same S w w') :
    (l.map Value.string).length = n * 1 ∧ (∀ u ∈ l.map Value.string, u.oneCell' = true) ∧ (0 < n → ∃ ad, ao = some ad ∧ ∀ j u, (l.map Value.string)[j]? = some u → w'.cell? (ad.add j) = some u) := by
  subst hl
  obtain ⟨ao', cap', he, -, -, hc⟩ := h
  refine ⟨by simp, fun u hu => ?_, fun hp => ?_⟩
  · obtain ⟨x, -, rfl⟩ := List.mem_map.1 hu; rfl
  · obtain ⟨b, off, hb, hS, hcell⟩ := hc (fun e => by rw [e] at hp; simp at hp)
    have hao : ao = ao' := by simpa using congrArg (fun v => match v with | Value.slice a _ _ => a | _ => none) he
    refine ⟨⟨b, off, none⟩, hao.trans hb, fun j u hu => ?_⟩
    obtain ⟨hj, rfl⟩ : ∃ hj : j < l.length, Value.string l[j] = u := by
      rw [List.getElem?_map] at hu
      rcases hlj : l[j]? with _ | s
      · rw [hlj] at hu; cases hu
      · rw [hlj] at hu
        obtain ⟨hj, e⟩ := List.getElem?_eq_some_iff.1 hlj
        exact ⟨hj, by rw [e]; simpa using hu⟩
    rw [Addr.add_lit]
    exact (hs.cell (p := ⟨b, off + j, none⟩) hS).trans (hcell j hj)

theorem kids_news {S : Nat → Prop} {w : World} {m : Nat} {l : List (K m)} {ao : Option Addr} {n c : Nat} (hl : l.length = n) (h : RowIn3 S w (KindIn S w m) l (.slice ao n c)) :
    ∃ xs : List Value, xs.length = n * 3 ∧ (∀ u ∈ xs, u.oneCell' = true) ∧ (∀ w', Same S w w' → 0 < n → ∃ ad, ao = some ad ∧ ∀ j u, xs[j]? = some u → w'.cell? (ad.add j) = some u) ∧
      ∀ j (h : j < l.length), ∃ c0 c1 c2, (xs[j * 3]? = some c0 ∧ xs[j * 3 + 1]? = some c1 ∧ xs[j * 3 + 2]? = some c2) ∧ KindIn S w m l[j] c0 c1 c2 := by
  subst hl
  obtain ⟨ao', cap', he, -, hc⟩ := h
  by_cases hne : l = []
  · subst hne
    refine ⟨[], by simp, fun u hu => ?_, fun _ _ h => ?_, fun j hj => ?_⟩
    · cases hu
    · exact absurd h (by simp)
    · exact absurd hj (by simp)
  obtain ⟨b, off, hb, hS, hcell⟩ := hc hne
  have hao : ao = ao' := by simpa using congrArg (fun v => match v with | Value.slice a _ _ => a | _ => none) he
  have hall : ∀ j, j < l.length * 3 → ∃ u, w.cell? ⟨b, off + j, none⟩ = some u ∧ u.oneCell' = true := fun j hj => by
    obtain ⟨c0, c1, c2, e0, e1, e2, hk⟩ := hcell (j / 3) (by omega)
    obtain ⟨_, _, _, _, _, _, _, rfl, rfl, rfl⟩ := hk.shape
    have h3 : j % 3 = 0 ∨ j % 3 = 1 ∨ j % 3 = 2 := by omega
    rcases h3 with h3 | h3 | h3
    · rw [show off + j = off + j / 3 * 3 by omega]; exact ⟨_, e0, rfl⟩
    · rw [show off + j = off + j / 3 * 3 + 1 by omega]; exact ⟨_, e1, rfl⟩
    · rw [show off + j = off + j / 3 * 3 + 2 by omega]; exact ⟨_, e2, rfl⟩
  have hx : ∀ j u, ((List.range (l.length * 3)).map fun j => (w.cell? ⟨b, off + j, none⟩).getD (.slice none 0 0))[j]? = some u → j < l.length * 3 ∧ w.cell? ⟨b, off + j, none⟩ = some u := fun j u hu => by
    rw [List.getElem?_map] at hu
    by_cases hj : j < l.length * 3
    · rw [List.getElem?_range hj] at hu
      obtain ⟨v, hv, -⟩ := hall j hj
      refine ⟨hj, ?_⟩
      simp only [Option.map_some, hv, Option.getD_some] at hu
      rw [hv]; exact hu
    · rw [List.getElem?_eq_none (by simp; omega)] at hu; cases hu
  have hx2 : ∀ j u, j < l.length * 3 → w.cell? ⟨b, off + j, none⟩ = some u → ((List.range (l.length * 3)).map fun j => (w.cell? ⟨b, off + j, none⟩).getD (.slice none 0 0))[j]? = some u := fun j u hj hu => by
    rw [List.getElem?_map, List.getElem?_range hj]
    simp [hu]
  refine ⟨(List.range (l.length * 3)).map fun j => (w.cell? ⟨b, off + j, none⟩).getD (.slice none 0 0), by simp, fun u hu => ?_, fun w' hs _ => ⟨⟨b, off, none⟩, hao.trans hb, fun j u hu => ?_⟩, fun j hj => ?_⟩
  · obtain ⟨j, hj, hju⟩ := List.mem_iff_getElem.1 hu
    obtain ⟨hj3, hcu⟩ := hx j u (by rw [List.getElem?_eq_getElem hj, hju])
    obtain ⟨v, hv, h1⟩ := hall j hj3
    rw [hcu] at hv
    cases hv; exact h1
  · rw [Addr.add_lit]
    exact (hs.cell (p := ⟨b, off + j, none⟩) hS).trans (hx j u hu).2
  · obtain ⟨c0, c1, c2, e0, e1, e2, hk⟩ := hcell j hj
    exact ⟨c0, c1, c2, ⟨hx2 _ _ (by omega) e0, hx2 _ _ (by omega) (by rw [← Nat.add_assoc]; exact e1), hx2 _ _ (by omega) (by rw [← Nat.add_assoc]; exact e2)⟩, hk⟩

end Go.Proofs.Ytkaannpoldenkaa
