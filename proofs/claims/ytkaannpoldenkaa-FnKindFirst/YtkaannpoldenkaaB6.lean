/-
  Several texts in one, in their order.
-/
import Derived.Test.YtkaannpoldenkaaB1
import Derived.Test.YtkaannpoldenkaaB4

/-
  Schemas in memory: what it means that three cells hold a schema, all of whose memory lies in given blocks; and that this lasts while those are not written.
-/
namespace Go.Proofs.Ytkaannpoldenkaa
open Go.RowKit

/-- A slice of things of three cells each, in blocks of S. -/
def RowIn3 {α : Type} (S : Nat → Prop) (w : World) (R : α → Value → Value → Value → Prop) (l : List α) (v : Value) : Prop :=
  ∃ (ao : Option Addr) (cap : Nat), v = .slice ao l.length cap ∧ l.length ≤ maxLen ∧
    (l ≠ [] → ∃ b off, ao = some ⟨b, off, none⟩ ∧ S b ∧ ∀ i (h : i < l.length), ∃ c0 c1 c2, w.cell? ⟨b, off + i * 3, none⟩ = some c0 ∧ w.cell? ⟨b, off + i * 3 + 1, none⟩ = some c1 ∧
      w.cell? ⟨b, off + i * 3 + 2, none⟩ = some c2 ∧ R l[i] c0 c1 c2)

/-- Three cells hold a schema, its memory in blocks of S. -/
def KindIn (S : Nat → Prop) (w : World) : (n : Nat) → K n → Value → Value → Value → Prop
  | 0, _, _, _, _ => False
  | n + 1, t, c0, c1, c2 => c0 = .int .i64 (Kd.sort t) ∧ (Lit.int .i64 (Kd.sort t)).wf = true ∧ StrsIn S w (Kd.names t) c1 ∧ RowIn3 S w (KindIn S w n) (Kd.kids t) c2

theorem RowIn3.keep {α : Type} {S S' : Nat → Prop} {w w' : World} {R R' : α → Value → Value → Value → Prop} {l : List α} {v : Value} (h : RowIn3 S w R l v) (hb : Same S w w') (hS : ∀ b, S b → S' b)
    (hR : ∀ x c0 c1 c2, x ∈ l → R x c0 c1 c2 → R' x c0 c1 c2) : RowIn3 S' w' R' l v := by
  obtain ⟨ao, cap, hv, hl, hc⟩ := h
  refine ⟨ao, cap, hv, hl, fun hne => ?_⟩
  obtain ⟨b, off, ha, hB, hcell⟩ := hc hne
  refine ⟨b, off, ha, hS b hB, fun i hi => ?_⟩
  obtain ⟨c0, c1, c2, h0, h1, h2, hr⟩ := hcell i hi
  exact ⟨c0, c1, c2, (hb.cell (p := ⟨b, off + i * 3, none⟩) hB).trans h0, (hb.cell (p := ⟨b, off + i * 3 + 1, none⟩) hB).trans h1, (hb.cell (p := ⟨b, off + i * 3 + 2, none⟩) hB).trans h2,
    hR _ _ _ _ (List.getElem_mem hi) hr⟩

theorem KindIn.keep {S S' : Nat → Prop} {w w' : World} (hb : Same S w w') (hS : ∀ b, S b → S' b) : ∀ {n : Nat} {t : K n} {c0 c1 c2 : Value}, KindIn S w n t c0 c1 c2 → KindIn S' w' n t c0 c1 c2 := by
  intro n
  induction n with
  | zero => intro t c0 c1 c2 h; exact h.elim
  | succ n ih =>
    intro t c0 c1 c2 h
    obtain ⟨h0, hw0, h3, h4⟩ := h
    exact ⟨h0, hw0, h3.keep hb hS, h4.keep hb hS fun x _ _ _ _ hx => ih hx⟩

theorem RowIn3.keepK {S S' : Nat → Prop} {w w' : World} {n : Nat} {l : List (K n)} {v : Value} (h : RowIn3 S w (KindIn S w n) l v) (hb : Same S w w') (hS : ∀ b, S b → S' b) : RowIn3 S' w' (KindIn S' w' n) l v :=
  h.keep hb hS fun _ _ _ _ _ hx => hx.keep hb hS

theorem KindIn.shape {S : Nat → Prop} {w : World} : ∀ {n : Nat} {t : K n} {c0 c1 c2 : Value}, KindIn S w n t c0 c1 c2 →
    ∃ (s : Int) (a : Option Addr) (l c : Nat) (a' : Option Addr) (l' c' : Nat), c0 = .int .i64 s ∧ c1 = .slice a l c ∧ c2 = .slice a' l' c' := by
  intro n
  cases n with
  | zero => intro t c0 c1 c2 h; exact h.elim
  | succ n =>
    intro t c0 c1 c2 h
    obtain ⟨h0, hw0, ⟨ao, cap, h3, -⟩, ⟨ao', cap', h4, -⟩⟩ := h
    exact ⟨_, _, _, _, _, _, _, h0, h3, h4⟩

/-- Three cells of a world, stored one behind the other. -/
def put3 (w : World) (b o : Nat) (g0 g1 g2 : Value) : World :=
  ((w.setCell ⟨b, o, none⟩ g0).setCell ⟨b, o + 1, none⟩ g1).setCell ⟨b, o + 2, none⟩ g2

/-- What the cells of a row hold behind that. -/
def put3F (o : Nat) (F : Nat → Value) (g0 g1 g2 : Value) (j : Nat) : Value :=
  if j = o + 2 then g2 else if j = o + 1 then g1 else if j = o then g0 else F j

theorem put3_row {w : World} {b t N : Nat} {F : Nat → Value} (h : w.rowIs b t N F) (o : Nat) (g0 g1 g2 : Value) : (put3 w b o g0 g1 g2).rowIs b t N (put3F o F g0 g1 g2) :=
  ((h.set o g0).set (o + 1) g1).set (o + 2) g2

theorem put3F_0 (o : Nat) (F : Nat → Value) (g0 g1 g2 : Value) : put3F o F g0 g1 g2 o = g0 := by simp [put3F]
theorem put3F_1 (o : Nat) (F : Nat → Value) (g0 g1 g2 : Value) : put3F o F g0 g1 g2 (o + 1) = g1 := by simp [put3F]
theorem put3F_2 (o : Nat) (F : Nat → Value) (g0 g1 g2 : Value) : put3F o F g0 g1 g2 (o + 2) = g2 := by simp [put3F]
theorem put3F_other (o : Nat) (F : Nat → Value) (g0 g1 g2 : Value) (j : Nat) (hj : j < o ∨ o + 3 ≤ j) : put3F o F g0 g1 g2 j = F j := by
  unfold put3F
  rw [if_neg (by omega), if_neg (by omega), if_neg (by omega)]

theorem put3_other {w : World} {b o : Nat} {g0 g1 g2 : Value} {k : Nat} (h : k ≠ b) : (put3 w b o g0 g1 g2).heap[k]? = w.heap[k]? := by
  unfold put3
  rw [Below.heap_setCell _ _ _ _ h, Below.heap_setCell _ _ _ _ h, Below.heap_setCell _ _ _ _ h]

theorem put3_size {w : World} {b o : Nat} {g0 g1 g2 : Value} : (put3 w b o g0 g1 g2).heap.size = w.heap.size := by
  simp [put3]

theorem put3_below {B : Nat} {a w : World} {b o : Nat} {g0 g1 g2 : Value} (h : Below B a w) (hb : B ≤ b) : Below B a (put3 w b o g0 g1 g2) :=
  ((h.setCell hb g0).setCell hb g1).setCell hb g2

/-- Three cells of a block. -/
structure Box3 (w : World) (N : Nat) (a b c : Value) : Prop where
  c0 : w.cell? ⟨N, 0, none⟩ = some a
  c1 : w.cell? ⟨N, 1, none⟩ = some b
  c2 : w.cell? ⟨N, 2, none⟩ = some c

theorem Box3.keep {w w' : World} {N : Nat} {a b c : Value} (h : Box3 w N a b c) (hb : Below w.heap.size w w') : Box3 w' N a b c := by
  have hl : N < w.heap.size := by
    have h := h.c0
    exact Classical.byContradiction fun hge => by
      have : w.heap[N]? = none := Array.getElem?_eq_none (by omega)
      simp [World.cell?, this] at h
  exact ⟨(hb.cell (p := ⟨N, 0, none⟩) hl).trans h.c0, (hb.cell (p := ⟨N, 1, none⟩) hl).trans h.c1, (hb.cell (p := ⟨N, 2, none⟩) hl).trans h.c2⟩

theorem Box3.new (w : World) (a b c : Value) (t : TypeId) : Box3 (w.alloc (.cells #[a, b, c] t)) w.heap.size a b c :=
  ⟨by simp [go_sem], by simp [go_sem], by simp [go_sem]⟩

theorem KindIn.step {S : Nat → Prop} {w w' : World} {n : Nat} {t : K n} {c0 c1 c2 : Value} (h : KindIn S w n t c0 c1 c2) (hS : ∀ b, S b → b < w.heap.size) (hb : Below w.heap.size w w') : KindIn S w' n t c0 c1 c2 ∧ (∀ b, S b → b < w'.heap.size) :=
  ⟨h.keep (same_below hb hS) (fun _ h => h), fun b hb' => Nat.lt_of_lt_of_le (hS b hb') hb.size⟩

end Go.Proofs.Ytkaannpoldenkaa

/-
  Plain mathematics: when a tree is of a schema; ascending names; where a name stands.
-/
namespace Go.Proofs.Ytkaannpoldenkaa
open Go.RowKit

/-- Each of the second list against that of the first at its place. -/
def zipAll {α β : Type} (f : α → β → Bool) : List α → List β → Bool
  | _, [] => true
  | [], _ :: _ => false
  | a :: r, b :: s => f a b && zipAll f r s

/-- Each of the second list against the first of the first. -/
def headAll {α β : Type} (f : α → β → Bool) : List α → List β → Bool
  | _, [] => true
  | [], _ :: _ => false
  | a :: _, l => l.all (f a)

/-- A tree is of a schema. -/
def hasK : (n : Nat) → K n → (m : Nat) → T m → Bool
  | 0, _, _, _ => false
  | _ + 1, _, 0, _ => false
  | n + 1, k, m + 1, t => (Kd.sort k == Nd.sort t) && decide (Kd.names k = Nd.names t) &&
      (if Kd.sort k = 5 then zipAll (fun a b => hasK n a m b) (Kd.kids k) (Nd.kids t) else headAll (fun a b => hasK n a m b) (Kd.kids k) (Nd.kids t))

theorem zipAll_false {α β : Type} {f : α → β → Bool} : ∀ {l : List α} {s : List β} (i : Nat) (h1 : i < l.length) (h2 : i < s.length), f l[i] s[i] = false → zipAll f l s = false := by
  intro l
  induction l with
  | nil => intro s i h1; exact absurd h1 (Nat.not_lt_zero _)
  | cons a r ih =>
    intro s i h1 h2 hf
    cases s with
    | nil => exact absurd h2 (Nat.not_lt_zero _)
    | cons b s =>
      cases i with
      | zero => simp only [List.getElem_cons_zero] at hf; simp [zipAll, hf]
      | succ i =>
        simp only [List.getElem_cons_succ] at hf
        simp only [zipAll, ih i (by simpa using h1) (by simpa using h2) hf, Bool.and_false]

theorem zipAll_true {α β : Type} {f : α → β → Bool} : ∀ {l : List α} {s : List β}, l.length = s.length → (∀ i (h1 : i < l.length) (h2 : i < s.length), f l[i] s[i] = true) → zipAll f l s = true := by
  intro l
  induction l with
  | nil => intro s h _; cases s with
    | nil => rfl
    | cons b s => simp at h
  | cons a r ih =>
    intro s h hf
    cases s with
    | nil => simp [zipAll]
    | cons b s =>
      have h0 := hf 0 (by simp) (by simp)
      simp only [List.getElem_cons_zero] at h0
      rw [zipAll, h0, ih (by simpa using h) (fun i h1 h2 => by have := hf (i + 1) (by simpa using h1) (by simpa using h2); simpa using this)]
      rfl

theorem headAll_false {α β : Type} {f : α → β → Bool} {a : α} {r : List α} {s : List β} (i : Nat) (h2 : i < s.length) (h : f a s[i] = false) : headAll f (a :: r) s = false := by
  cases s with
  | nil => exact absurd h2 (Nat.not_lt_zero _)
  | cons b s =>
    simp only [headAll]
    rw [List.all_eq_false]
    exact ⟨_, List.getElem_mem h2, by simp [h]⟩

theorem headAll_true {α β : Type} {f : α → β → Bool} {a : α} {r : List α} {s : List β} (h : s.all (f a) = true) : headAll f (a :: r) s = true := by
  cases s with
  | nil => rfl
  | cons b s => simpa only [headAll] using h

/-- The order of names. -/
theorem bl_irr : ∀ x : List UInt8, Op.bytesLess x x = false := by
  intro x
  induction x with
  | nil => rfl
  | cons a r ih => simp [Op.bytesLess, ih]

theorem bl_trans : ∀ x y z : List UInt8, Op.bytesLess x y = true → Op.bytesLess y z = true → Op.bytesLess x z = true := by
  intro x
  induction x with
  | nil =>
    intro y z h1 h2
    cases y with
    | nil => simp [Op.bytesLess] at h1
    | cons b y => cases z with
      | nil => simp [Op.bytesLess] at h2
      | cons c z => rfl
  | cons a x ih =>
    intro y z h1 h2
    cases y with
    | nil => simp [Op.bytesLess] at h1
    | cons b y =>
      cases z with
      | nil => simp [Op.bytesLess] at h2
      | cons c z =>
        simp only [Op.bytesLess, Bool.or_eq_true, Bool.and_eq_true, decide_eq_true_eq, beq_iff_eq] at h1 h2 ⊢
        rcases h1 with h1 | ⟨rfl, h1⟩
        · rcases h2 with h2 | ⟨rfl, h2⟩
          · exact .inl (UInt8.lt_trans h1 h2)
          · exact .inl h1
        · rcases h2 with h2 | ⟨rfl, h2⟩
          · exact .inl h2
          · exact .inr ⟨rfl, ih y z h1 h2⟩

theorem lt_irr (a : ByteArray) : ltB a a = false := bl_irr _
theorem lt_tr {a b c : ByteArray} (h1 : ltB a b = true) (h2 : ltB b c = true) : ltB a c = true := bl_trans _ _ _ h1 h2
theorem lt_ne {a b : ByteArray} (h : ltB a b = true) : a ≠ b := fun e => by rw [e, lt_irr] at h; cases h

/-- A list whose names ascend. -/
def Asc (l : List ByteArray) : Prop := l.Pairwise (fun a b => ltB a b = true)

theorem asc_of (l : List ByteArray) (h : riseB l = true) : Asc l := by
  unfold riseB riseTo at h
  have hstep : ∀ i (h1 : i + 1 < l.length), ltB l[i] l[i + 1] = true := by
    intro i h1
    have := List.all_eq_true.1 h (i + 1) (List.mem_range.2 h1)
    simp only [riseAt, Bool.and_eq_true, Bool.or_eq_true] at this
    rcases this.2 with h2 | h2
    · simp at h2
    · simpa [List.getD, h1, show i < l.length by omega] using h2
  have key : ∀ d i (h1 : i + d + 1 < l.length), ltB l[i] l[i + d + 1] = true := by
    intro d
    induction d with
    | zero => intro i h1; exact hstep i h1
    | succ d ih => intro i h1; exact lt_tr (ih i (by omega)) (hstep (i + d + 1) h1)
  unfold Asc
  rw [List.pairwise_iff_getElem]
  intro i j hi hj hij
  obtain ⟨d, rfl⟩ : ∃ d, j = i + d + 1 := ⟨j - i - 1, by omega⟩
  exact key d i hj

theorem asc_sub : ∀ (l2 l1 : List ByteArray), Asc l1 → Asc l2 → (∀ x, x ∈ l1 → x ∈ l2) → l1.length ≤ l2.length ∧ (l1.length = l2.length → l1 = l2) := by
  intro l2
  induction l2 with
  | nil =>
    intro l1 _ _ hs
    cases l1 with
    | nil => exact ⟨Nat.le_refl _, fun _ => rfl⟩
    | cons a r => exact absurd (hs a (List.mem_cons_self ..)) (by simp)
  | cons b s ih =>
    intro l1 h1 h2 hs
    cases l1 with
    | nil => exact ⟨Nat.zero_le _, fun h => by simp at h⟩
    | cons a r =>
      have h1' := List.pairwise_cons.1 h1
      have h2' := List.pairwise_cons.1 h2
      by_cases hab : a = b
      · subst hab
        have := ih r h1'.2 h2'.2 (fun x hx => by
          rcases List.mem_cons.1 (hs x (List.mem_cons_of_mem _ hx)) with h | h
          · exact absurd h.symm (lt_ne (h1'.1 x hx))
          · exact h)
        exact ⟨by simp; omega, fun h => by rw [this.2 (by simpa using h)]⟩
      · have has : a ∈ s := by
          rcases List.mem_cons.1 (hs a (List.mem_cons_self ..)) with h | h
          · exact absurd h hab
          · exact h
        have hba := h2'.1 a has
        have := ih (a :: r) h1 h2'.2 (fun x hx => by
          rcases List.mem_cons.1 (hs x hx) with h | h
          · subst h
            rcases List.mem_cons.1 hx with h | h
            · exact absurd h.symm hab
            · have := lt_tr hba (h1'.1 x h); rw [lt_irr] at this; cases this
          · exact h)
        simp only [List.length_cons] at this ⊢
        exact ⟨by omega, fun h => by omega⟩

theorem asc_inj {l : List ByteArray} (h : Asc l) (i j : Nat) (hi : i < l.length) (hj : j < l.length) (e : l[i] = l[j]) : i = j := by
  unfold Asc at h
  rw [List.pairwise_iff_getElem] at h
  rcases Nat.lt_trichotomy i j with h1 | h1 | h1
  · exact absurd e (lt_ne (h i j hi hj h1))
  · exact h1
  · exact absurd e.symm (lt_ne (h j i hj hi h1))

end Go.Proofs.Ytkaannpoldenkaa
