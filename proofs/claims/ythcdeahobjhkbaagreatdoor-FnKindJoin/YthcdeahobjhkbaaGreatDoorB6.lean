/-
  Several texts in one, in their order.
-/
import Derived.Test.YthcdeahobjhkbaaGreatDoorB4
import Derived.Test.YthcdeahobjhkbaaGreatDoorB1
import Derived.Test.YthcdeahobjhkbaaGreatDoorJN1

/-
  Plain mathematics: what comes of widening is of the schema into which it was widened.
-/
namespace Go.Proofs.YthcdeahobjhkbaaGreatDoor
open Go.RowKit

theorem pairAll_get {α : Type} {f : ByteArray → α → Bool} : ∀ {l : List ByteArray} {ks : List α}, pairAll f l ks = true → ∀ i (h1 : i < l.length) (h2 : i < ks.length), f l[i] ks[i] = true
  | [], _, _, _, h1, _ => absurd h1 (Nat.not_lt_zero _)
  | _ :: _, [], _, _, _, h2 => absurd h2 (Nat.not_lt_zero _)
  | a :: r, b :: s, h, 0, _, _ => by
    simp only [pairAll, Bool.and_eq_true] at h
    exact h.1
  | a :: r, b :: s, h, i + 1, h1, h2 => by
    simp only [pairAll, Bool.and_eq_true] at h
    have := pairAll_get h.2 i (by simpa using h1) (by simpa using h2)
    simpa using this

theorem fitsK_form_get {m n : Nat} {b : K (m + 1)} {a : K (n + 1)} (hb : Kd.sort b = 5) (ha : Kd.sort a = 5) (h : fitsK (m + 1) b (n + 1) a = true) :
    (∀ s, s ∈ Kd.names a → s ∈ Kd.names b) ∧ ∀ j (h1 : j < (Kd.names b).length) (h2 : j < (Kd.kids b).length), fieldFits n (Kd.names a) (Kd.kids a) m (Kd.names b)[j] (Kd.kids b)[j] = true := by
  rw [fitsK_form hb ha, Bool.and_eq_true] at h
  refine ⟨fun s hs => ?_, fun j h1 h2 => pairAll_get h.2 j h1 h2⟩
  have := List.all_eq_true.1 h.1 s hs
  exact Classical.byContradiction fun hn => by rw [memB_no hn] at this; cases this

theorem fitsK_sorts {m n : Nat} {b : K (m + 1)} {a : K (n + 1)} (hb : Kd.sort b ≠ 6) (h : fitsK (m + 1) b (n + 1) a = true) : Kd.sort a = Kd.sort b :=
  Classical.byContradiction fun hn => by rw [fitsK_no hb hn] at h; cases h

/-- What a good schema's kids are. -/
theorem goodK_all {n : Nat} {k : K (n + 1)} {d : Int} (h : goodK (n + 1) k d = true) : ∀ x, x ∈ Kd.kids k → goodK n x (d + 1) = true := by
  simp only [goodK, Bool.and_eq_true] at h
  exact List.all_eq_true.1 h.2

end Go.Proofs.YthcdeahobjhkbaaGreatDoor

/-
  Plain mathematics: what fits into a schema that fits into a third fits into the third.
-/
namespace Go.Proofs.YthcdeahobjhkbaaGreatDoor
open Go.RowKit

/-- The kid at a name, on both sides of fieldFits. -/
theorem field_kid {n m : Nat} {ns : List ByteArray} {xs : List (K n)} {s : ByteArray} {y : K m} (hA : Asc ns) (h1 : ns.length = xs.length) (hf : fieldFits n ns xs m s y = true) :
    (∃ (i : Nat) (h1 : i < ns.length) (h2 : i < xs.length), ns[i] = s ∧ atName ns xs s = some xs[i] ∧ fitsK m y n xs[i] = true) ∨ (s ∉ ns ∧ atName ns xs s = none ∧ srtK m y = 6) := by
  by_cases hm : s ∈ ns
  · obtain ⟨i, hi, rfl⟩ := List.getElem_of_mem hm
    have ha := atName_yes ns xs i hi (by omega) hA
    refine .inl ⟨i, hi, by omega, rfl, ha, ?_⟩
    unfold fieldFits at hf
    rw [ha] at hf
    exact hf
  · have ha := atName_no ns xs s hm
    refine .inr ⟨hm, ha, ?_⟩
    unfold fieldFits at hf
    rw [ha] at hf
    simpa using hf

end Go.Proofs.YthcdeahobjhkbaaGreatDoor

/-
  Plain: the join of two schemas, if it is ok.
-/
namespace Go.Proofs.YthcdeahobjhkbaaGreatDoor
open Go.RowKit

/-- The least schema into which two fit, if it is ok. -/
def joinF (n : Nat) (a : K n) (m : Nat) (b : K m) : Option (K (n + m + 1)) :=
  if (okK n a && okK m b) = true then (match jnL (n + m) n a m b with | some r => if okK (n + m + 1) r = true then some r else none | none => none) else none

end Go.Proofs.YthcdeahobjhkbaaGreatDoor

/-
  Plain mathematics: two schemas fit into their join, it fits into each schema into which both fit, and it is the same in the other order.
-/
namespace Go.Proofs.YthcdeahobjhkbaaGreatDoor
open Go.RowKit

theorem one_kidN {n : Nat} {a : K (n + 1)} {d : Int} (hg : goodK (n + 1) a d = true) (hs : Kd.sort a = 4 ∨ Kd.sort a = 6) : ∃ x, Kd.kids a = [x] ∧ goodK n x (d + 1) = true := by
  have ga := goodK_all hg
  rcases goodK_kids hg with ⟨h, -⟩ | ⟨-, -, x, hx⟩ | ⟨h, -⟩
  · omega
  · exact ⟨x, hx, ga x (by rw [hx]; exact List.mem_cons_self ..)⟩
  · omega

theorem jn_mm {L n m : Nat} {a : K (n + 1)} {b : K (m + 1)} {x : K n} {y : K m} (ha : Kd.sort a = 6) (hb : Kd.sort b = 6) (hx : Kd.kids a = [x]) (hy : Kd.kids b = [y]) : jnL (L + 1) (n + 1) a (m + 1) b = (jnL L n x m y).map (oneK6 6) := by
  simp only [jnL, if_pos ha, if_pos hb, hx, hy]

theorem jn_mx {L n m : Nat} {a : K (n + 1)} {b : K (m + 1)} {x : K n} (ha : Kd.sort a = 6) (hb : Kd.sort b ≠ 6) (hx : Kd.kids a = [x]) : jnL (L + 1) (n + 1) a (m + 1) b = (jnL L n x (m + 1) b).map (oneK6 6) := by
  simp only [jnL, if_pos ha, if_neg hb, hx]

theorem jn_xm {L n m : Nat} {a : K (n + 1)} {b : K (m + 1)} {y : K m} (ha : Kd.sort a ≠ 6) (hb : Kd.sort b = 6) (hy : Kd.kids b = [y]) : jnL (L + 1) (n + 1) a (m + 1) b = (jnL L (n + 1) a m y).map (oneK6 6) := by
  simp only [jnL, if_neg ha, if_pos hb, hy]

theorem jn_no {L n m : Nat} {a : K (n + 1)} {b : K (m + 1)} (ha : Kd.sort a ≠ 6) (hb : Kd.sort b ≠ 6) (h : Kd.sort a ≠ Kd.sort b) : jnL (L + 1) (n + 1) a (m + 1) b = none := by
  simp only [jnL, if_neg ha, if_neg hb, if_pos h]

theorem jn_ll {L n m : Nat} {a : K (n + 1)} {b : K (m + 1)} {x : K n} {y : K m} (ha : Kd.sort a = 4) (hb : Kd.sort b = 4) (hx : Kd.kids a = [x]) (hy : Kd.kids b = [y]) : jnL (L + 1) (n + 1) a (m + 1) b = (jnL L n x m y).map (oneK6 4) := by
  have h1 : ¬ Kd.sort a = 6 := by omega
  have h2 : ¬ Kd.sort b = 6 := by omega
  have h3 : ¬ Kd.sort a ≠ Kd.sort b := by omega
  simp only [jnL, if_neg h1, if_neg h2, if_neg h3, if_pos ha, hx, hy]

theorem jn_leaf {L n m : Nat} {a : K (n + 1)} {b : K (m + 1)} (hs : Kd.sort a = 1 ∨ Kd.sort a = 2 ∨ Kd.sort a = 3) (h : Kd.sort a = Kd.sort b) (na : Kd.names a = []) (nb : Kd.names b = []) : jnL (L + 1) (n + 1) a (m + 1) b = some (⟨Kd.sort a, [], []⟩ : Kd (K (L + 1))) := by
  have h1 : ¬ Kd.sort a = 6 := by omega
  have h2 : ¬ Kd.sort b = 6 := by omega
  have h3 : ¬ Kd.sort a ≠ Kd.sort b := by omega
  have h4 : ¬ Kd.sort a = 4 := by omega
  simp only [jnL, if_neg h1, if_neg h2, if_neg h3, if_neg h4, na, nb]
  rfl

theorem atN_zipN {α : Type} : ∀ (ns : List ByteArray) (ks : List α) (s : ByteArray), atN (ns.zip ks) s = atName ns ks s := by
  intro ns
  induction ns with
  | nil => intro ks s; cases ks <;> rfl
  | cons x ns ih =>
    intro ks s
    cases ks with
    | nil => rfl
    | cons k ks =>
      show (if x = s then some k else atN (ns.zip ks) s) = (if x = s then some k else atName ns ks s)
      rw [ih]

/-- A name with what it has in the join of two forms. -/
def valN {n m L : Nat} (a : K (n + 1)) (b : K (m + 1)) (s : ByteArray) : Option (K (L + 1)) :=
  match atName (Kd.names a) (Kd.kids a) s, atName (Kd.names b) (Kd.kids b) s with
  | some x, some y => jnL L n x m y
  | some x, none => some (maybeL L n x)
  | none, some y => some (maybeL L m y)
  | none, none => none

theorem mapM_pair {γ : Type} (f : ByteArray → Option γ) : ∀ (l : List ByteArray), (l.mapM fun s => (f s).map fun z => (s, z)) = (l.mapM f).map fun ks => l.zip ks := by
  intro l
  induction l with
  | nil => rfl
  | cons s l ih =>
    rw [List.mapM_cons, List.mapM_cons, ih]
    cases f s with
    | none => rfl
    | some z =>
      cases l.mapM f <;> rfl

theorem mapM_get {γ : Type} (f : ByteArray → Option γ) : ∀ (l : List ByteArray) (ks : List γ), l.mapM f = some ks → ks.length = l.length ∧ ∀ i (h1 : i < l.length) (h2 : i < ks.length), f l[i] = some ks[i] := by
  intro l
  induction l with
  | nil => intro ks h; cases h; exact ⟨rfl, fun i h => absurd h (Nat.not_lt_zero _)⟩
  | cons s l ih =>
    intro ks h
    rw [List.mapM_cons] at h
    cases hf : f s with
    | none => rw [hf] at h; cases h
    | some z =>
      rw [hf] at h
      cases hm : l.mapM f with
      | none => rw [hm] at h; cases h
      | some zs =>
        rw [hm] at h
        cases h
        obtain ⟨e, g⟩ := ih zs hm
        refine ⟨by simp [e], fun i h1 h2 => ?_⟩
        cases i with
        | zero => exact hf
        | succ i => exact g i (by simpa using h1) (by simpa using h2)

theorem form_two {n : Nat} {a : K (n + 1)} {d : Int} (hg : goodK (n + 1) a d = true) (hs : Kd.sort a = 5) : (Kd.names a).length = (Kd.kids a).length ∧ Asc (Kd.names a) := by
  rcases goodK_kids hg with ⟨h, -⟩ | ⟨h, -⟩ | ⟨-, hl, hr⟩
  · omega
  · omega
  · exact ⟨hl, asc_of _ hr⟩

/-- The names of the join of two forms. -/
def namN {n m : Nat} (a : K (n + 1)) (b : K (m + 1)) : List ByteArray := merN ((Kd.names a).length + (Kd.names b).length) (Kd.names a) (Kd.names b)

theorem namN_mem {n m : Nat} (a : K (n + 1)) (b : K (m + 1)) (s : ByteArray) : s ∈ namN a b ↔ s ∈ Kd.names a ∨ s ∈ Kd.names b := merN_mem _ _ _ (Nat.le_refl _) s

theorem jn_formN {L n m : Nat} {a : K (n + 1)} {b : K (m + 1)} {d d' : Int} (ga : goodK (n + 1) a d = true) (gb : goodK (m + 1) b d' = true) (h5a : Kd.sort a = 5) (h5b : Kd.sort b = 5) :
    jnL (L + 1) (n + 1) a (m + 1) b = ((namN a b).mapM (valN (L := L) a b)).map fun ks => (⟨5, namN a b, ks⟩ : Kd (K (L + 1))) := by
  obtain ⟨hla, haa⟩ := form_two ga h5a
  obtain ⟨hlb, hab⟩ := form_two gb h5b
  have h1 : ¬ Kd.sort a = 6 := by omega
  have h2 : ¬ Kd.sort b = 6 := by omega
  have h3 : ¬ Kd.sort a ≠ Kd.sort b := by omega
  have h4 : ¬ Kd.sort a = 4 := by omega
  have za : ((Kd.names a).zip (Kd.kids a)).map Prod.fst = Kd.names a := List.map_fst_zip (by omega)
  have zb : ((Kd.names b).zip (Kd.kids b)).map Prod.fst = Kd.names b := List.map_fst_zip (by omega)
  have e := merge_eq (fun x y => jnL L n x m y) (maybeL L n) (maybeL L m) ((Kd.names a).length + (Kd.names b).length) ((Kd.names a).zip (Kd.kids a)) ((Kd.names b).zip (Kd.kids b)) (by rw [List.length_zip, List.length_zip]; omega) (by rw [za]; exact haa) (by rw [zb]; exact hab)
  rw [za, zb] at e
  have hv : ∀ s, valJ (fun x y => jnL L n x m y) (maybeL L n) (maybeL L m) ((Kd.names a).zip (Kd.kids a)) ((Kd.names b).zip (Kd.kids b)) s = valN (L := L) a b s := fun s => by
    unfold valJ valN
    rw [atN_zipN, atN_zipN]
    cases atName (Kd.names a) (Kd.kids a) s <;> cases atName (Kd.names b) (Kd.kids b) s <;> rfl
  have e2 : (merN ((Kd.names a).length + (Kd.names b).length) (Kd.names a) (Kd.names b)).mapM (atJ (fun x y => jnL L n x m y) (maybeL L n) (maybeL L m) ((Kd.names a).zip (Kd.kids a)) ((Kd.names b).zip (Kd.kids b))) = (namN a b).mapM (fun s => (valN (L := L) a b s).map fun z => (s, z)) := by
    refine mapO_congr _ fun s _ => ?_
    unfold atJ
    rw [hv]
  simp only [jnL, if_neg h1, if_neg h2, if_neg h3, if_neg h4, e, e2, mapM_pair]
  cases hm : (namN a b).mapM (valN (L := L) a b) with
  | none => rfl
  | some ks =>
    have hl := (mapM_get _ _ _ hm).1
    show some (⟨Kd.sort a, ((namN a b).zip ks).map Prod.fst, ((namN a b).zip ks).map Prod.snd⟩ : Kd (K (L + 1))) = some ⟨5, namN a b, ks⟩
    rw [List.map_fst_zip (by omega), List.map_snd_zip (by omega), h5a]

theorem namN_comm {n m : Nat} {a : K (n + 1)} {b : K (m + 1)} {d d' : Int} (ga : goodK (n + 1) a d = true) (gb : goodK (m + 1) b d' = true) (h5a : Kd.sort a = 5) (h5b : Kd.sort b = 5) : namN a b = namN b a := by
  have ha := (form_two ga h5a).2
  have hb := (form_two gb h5b).2
  refine asc_ext (merN_asc _ _ _ (Nat.le_refl _) ha hb) (merN_asc _ _ _ (Nat.le_refl _) hb ha) fun s => ?_
  rw [namN_mem a b s, namN_mem b a s]
  exact Or.comm

theorem atName_mem {α : Type} : ∀ (ns : List ByteArray) (ks : List α) (s : ByteArray) (x : α), atName ns ks s = some x → x ∈ ks ∧ s ∈ ns := by
  intro ns
  induction ns with
  | nil => intro ks s x h; cases ks <;> cases h
  | cons t ns ih =>
    intro ks s x h
    cases ks with
    | nil => cases h
    | cons k ks =>
      rw [atName] at h
      by_cases e : t = s
      · rw [if_pos e] at h; cases h; exact ⟨List.mem_cons_self .., by rw [e]; exact List.mem_cons_self ..⟩
      · rw [if_neg e] at h
        have := ih ks s x h
        exact ⟨List.mem_cons_of_mem _ this.1, List.mem_cons_of_mem _ this.2⟩

theorem valN_comm {L n m : Nat} {a : K (n + 1)} {b : K (m + 1)} (h : ∀ x, x ∈ Kd.kids a → ∀ y, y ∈ Kd.kids b → jnL L n x m y = jnL L m y n x) (s : ByteArray) : valN (L := L) a b s = valN (L := L) b a s := by
  unfold valN
  cases e1 : atName (Kd.names a) (Kd.kids a) s with
  | none => cases e2 : atName (Kd.names b) (Kd.kids b) s <;> rfl
  | some x =>
    cases e2 : atName (Kd.names b) (Kd.kids b) s with
    | none => rfl
    | some y => exact h x (atName_mem _ _ _ _ e1).1 y (atName_mem _ _ _ _ e2).1

/-- In the other order the join is the same. -/
theorem jn_comm : ∀ (L n m : Nat) (a : K n) (b : K m) (d d' : Int), goodK n a d = true → goodK m b d' = true → jnL L n a m b = jnL L m b n a := by
  intro L
  induction L with
  | zero => intro n m a b d d' _ _; simp [jnL]
  | succ L ih =>
    intro n m a b d d' ga gb
    cases n with
    | zero => exact Empty.elim (show Empty from a)
    | succ n =>
    cases m with
    | zero => exact Empty.elim (show Empty from b)
    | succ m =>
    by_cases a6 : Kd.sort a = 6
    · obtain ⟨x, hx, gx⟩ := one_kidN ga (.inr a6)
      by_cases b6 : Kd.sort b = 6
      · obtain ⟨y, hy, gy⟩ := one_kidN gb (.inr b6)
        rw [jn_mm a6 b6 hx hy, jn_mm b6 a6 hy hx, ih n m x y _ _ gx gy]
      · rw [jn_mx a6 b6 hx, jn_xm b6 a6 hx, ih n (m + 1) x b _ _ gx gb]
    · by_cases b6 : Kd.sort b = 6
      · obtain ⟨y, hy, gy⟩ := one_kidN gb (.inr b6)
        rw [jn_xm a6 b6 hy, jn_mx b6 a6 hy, ih (n + 1) m a y _ _ ga gy]
      · by_cases hs : Kd.sort a = Kd.sort b
        · rcases goodK_kids ga with ⟨h, na, -⟩ | ⟨h, -⟩ | ⟨h, -⟩
          · rcases goodK_kids gb with ⟨h', nb, -⟩ | ⟨h', -⟩ | ⟨h', -⟩
            · rw [jn_leaf h hs na nb, jn_leaf h' hs.symm nb na, hs]
            · omega
            · omega
          · have a4 : Kd.sort a = 4 := by omega
            have b4 : Kd.sort b = 4 := by omega
            obtain ⟨x, hx, gx⟩ := one_kidN ga (.inl a4)
            obtain ⟨y, hy, gy⟩ := one_kidN gb (.inl b4)
            rw [jn_ll a4 b4 hx hy, jn_ll b4 a4 hy hx, ih n m x y _ _ gx gy]
          · have b5 : Kd.sort b = 5 := by omega
            rw [jn_formN ga gb h b5, jn_formN gb ga b5 h, namN_comm ga gb h b5]
            have e : (namN b a).mapM (valN (L := L) a b) = (namN b a).mapM (valN (L := L) b a) := mapO_congr _ fun s _ => valN_comm (fun x hx y hy => ih n m x y _ _ (goodK_all ga x hx) (goodK_all gb y hy)) s
            rw [e]
        · rw [jn_no a6 b6 hs, jn_no b6 a6 (fun e => hs e.symm)]

theorem copy_one (a : K 1) : copyL 0 1 a = a := by
  obtain ⟨s, ns, ks⟩ := (show Kd (K 0) from a)
  cases ks with
  | nil => rfl
  | cons x r => exact Empty.elim (show Empty from x)

theorem srt_copy : ∀ (L n : Nat) (k : K n), srtK (L + 1) (copyL L n k) = srtK n k := by
  intro L n k
  cases n with
  | zero => exact Empty.elim (show Empty from k)
  | succ n => cases L <;> rfl

theorem atName_map {α β : Type} (g : α → β) : ∀ (ns : List ByteArray) (ks : List α) (s : ByteArray), atName ns (ks.map g) s = (atName ns ks s).map g := by
  intro ns
  induction ns with
  | nil => intro ks s; cases ks <;> rfl
  | cons t ns ih =>
    intro ks s
    cases ks with
    | nil => rfl
    | cons k ks =>
      show (if t = s then some (g k) else atName ns (ks.map g) s) = (if t = s then some k else atName ns ks s).map g
      rw [ih]
      by_cases e : t = s
      · rw [if_pos e, if_pos e]; rfl
      · rw [if_neg e, if_neg e]

theorem pairAll_map {α β : Type} (g : α → β) (f : ByteArray → β → Bool) : ∀ (ns : List ByteArray) (ks : List α), pairAll f ns (ks.map g) = pairAll (fun s y => f s (g y)) ns ks := by
  intro ns
  induction ns with
  | nil => intro ks; cases ks <;> rfl
  | cons t ns ih =>
    intro ks
    cases ks with
    | nil => rfl
    | cons k ks => show (f t (g k) && pairAll f ns (ks.map g)) = (f t (g k) && pairAll (fun s y => f s (g y)) ns ks); rw [ih]

/-- A copy fits just where the schema does. -/
theorem fits_cpr : ∀ (l : Nat) (c : K l) (n L : Nat) (a : K n), n ≤ L + 1 → fitsK l c (L + 1) (copyL L n a) = fitsK l c n a := by
  intro l
  induction l with
  | zero => intro c; exact Empty.elim (show Empty from c)
  | succ l ih =>
    intro c n L a hL
    cases n with
    | zero => exact Empty.elim (show Empty from a)
    | succ n =>
    cases L with
    | zero =>
      have hn : n = 0 := by omega
      subst hn
      rw [copy_one]
    | succ L =>
      have i1 : ∀ y, fitsK l y (L + 1 + 1) (copyL (L + 1) (n + 1) a) = fitsK l y (n + 1) a := fun y => ih y _ _ _ hL
      have i2 : ∀ (y : K l) (x : K n), fitsK l y (L + 1) (copyL L n x) = fitsK l y n x := fun y x => ih y _ _ _ (by omega)
      have hs : Kd.sort (copyL (L + 1) (n + 1) a) = Kd.sort a := rfl
      have hn : Kd.names (copyL (L + 1) (n + 1) a) = Kd.names a := rfl
      have hk : Kd.kids (copyL (L + 1) (n + 1) a) = (Kd.kids a).map (copyL L n) := rfl
      have h2 : ∀ ys : List (K l), head2 (fun y x => fitsK l y (L + 1) x) ys ((Kd.kids a).map (copyL L n)) = head2 (fun y x => fitsK l y n x) ys (Kd.kids a) := fun ys => by
        cases ys with
        | nil => rfl
        | cons y ys =>
          cases Kd.kids a with
          | nil => rfl
          | cons x xs => exact i2 y x
      have h1 : ∀ ys : List (K l), head1 (fun y => fitsK l y (L + 1 + 1) (copyL (L + 1) (n + 1) a)) ys = head1 (fun y => fitsK l y (n + 1) a) ys := fun ys => by
        cases ys with
        | nil => rfl
        | cons y ys => exact i1 y
      have h3 : pairAll (fieldFits (L + 1) (Kd.names a) ((Kd.kids a).map (copyL L n)) l) (Kd.names c) (Kd.kids c) = pairAll (fieldFits n (Kd.names a) (Kd.kids a) l) (Kd.names c) (Kd.kids c) := by
        congr 1
        funext s y
        unfold fieldFits
        rw [atName_map]
        cases atName (Kd.names a) (Kd.kids a) s with
        | none => rfl
        | some x => exact i2 y x
      unfold fitsK
      rw [hs, hn, hk, h1, h2]
      by_cases c6 : Kd.sort c = 6
      · rw [if_pos c6, if_pos c6]
      · rw [if_neg c6, if_neg c6]
        by_cases e : Kd.sort a = Kd.sort c
        · rw [if_pos e, if_pos e]
          by_cases a4 : Kd.sort a = 4
          · rw [if_pos a4, if_pos a4]
          · rw [if_neg a4, if_neg a4]
            exact congrArg (fun q => ((Kd.names a).all fun s => memB s (Kd.names c)) && q) h3
        · rw [if_neg e, if_neg e]

theorem fits_cpl : ∀ (n : Nat) (b : K n) (L m : Nat) (a : K m), n ≤ L + 1 → fitsK (L + 1) (copyL L n b) m a = fitsK n b m a := by
  intro n
  induction n with
  | zero => intro b; exact Empty.elim (show Empty from b)
  | succ n ih =>
    intro b L m a hL
    cases m with
    | zero => exact Empty.elim (show Empty from a)
    | succ m =>
    cases L with
    | zero =>
      have hn : n = 0 := by omega
      subst hn
      rw [copy_one]
    | succ L =>
      have i1 : ∀ (y : K n) (q : Nat) (x : K q), fitsK (L + 1) (copyL L n y) q x = fitsK n y q x := fun y q x => ih y _ _ _ (by omega)
      have hs : Kd.sort (copyL (L + 1) (n + 1) b) = Kd.sort b := rfl
      have hn : Kd.names (copyL (L + 1) (n + 1) b) = Kd.names b := rfl
      have hk : Kd.kids (copyL (L + 1) (n + 1) b) = (Kd.kids b).map (copyL L n) := rfl
      have h2 : ∀ xs : List (K m), head2 (fun y x => fitsK (L + 1) y m x) ((Kd.kids b).map (copyL L n)) xs = head2 (fun y x => fitsK n y m x) (Kd.kids b) xs := fun xs => by
        cases Kd.kids b with
        | nil => rfl
        | cons y ys =>
          cases xs with
          | nil => rfl
          | cons x xs => exact i1 y m x
      have h1 : head1 (fun y => fitsK (L + 1) y (m + 1) a) ((Kd.kids b).map (copyL L n)) = head1 (fun y => fitsK n y (m + 1) a) (Kd.kids b) := by
        cases Kd.kids b with
        | nil => rfl
        | cons y ys => exact i1 y (m + 1) a
      have h3 : pairAll (fieldFits m (Kd.names a) (Kd.kids a) (L + 1)) (Kd.names b) ((Kd.kids b).map (copyL L n)) = pairAll (fieldFits m (Kd.names a) (Kd.kids a) n) (Kd.names b) (Kd.kids b) := by
        rw [pairAll_map]
        congr 1
        funext s y
        unfold fieldFits
        cases atName (Kd.names a) (Kd.kids a) s with
        | none => show (srtK (L + 1) (copyL L n y) == 6) = (srtK n y == 6); rw [srt_copy]
        | some x => exact i1 y m x
      unfold fitsK
      rw [hs, hn, hk, h1, h2]
      by_cases c6 : Kd.sort b = 6
      · rw [if_pos c6, if_pos c6]
      · rw [if_neg c6, if_neg c6]
        by_cases e : Kd.sort a = Kd.sort b
        · rw [if_pos e, if_pos e]
          by_cases a4 : Kd.sort a = 4
          · rw [if_pos a4, if_pos a4]
          · rw [if_neg a4, if_neg a4]
            exact congrArg (fun q => ((Kd.names a).all fun s => memB s (Kd.names b)) && q) h3
        · rw [if_neg e, if_neg e]

theorem maybe_six {L n : Nat} {x : K n} (h : srtK n x = 6) : maybeL (L + 1) n x = copyL (L + 1) n x := if_pos h
theorem maybe_not {L n : Nat} {x : K n} (h : ¬ srtK n x = 6) : maybeL (L + 1) n x = (⟨6, [], [copyL L n x]⟩ : Kd (K (L + 1))) := if_neg h

theorem maybe_srt {L n : Nat} (x : K n) (hL : 1 ≤ L) : srtK (L + 1) (maybeL L n x) = 6 := by
  cases L with
  | zero => omega
  | succ L =>
    by_cases h : srtK n x = 6
    · rw [maybe_six h, srt_copy]; exact h
    · rw [maybe_not h]; rfl

theorem maybe_fits {L n : Nat} (x : K n) (d : Int) (hg : goodK n x d = true) (hL : n ≤ L) : fitsK (L + 1) (maybeL L n x) n x = true := by
  cases n with
  | zero => exact Empty.elim (show Empty from x)
  | succ n =>
  cases L with
  | zero => omega
  | succ L =>
    have hself := fitsK_self _ x d hg
    by_cases h : srtK (n + 1) x = 6
    · rw [maybe_six h, fits_cpl _ _ _ _ _ (by omega)]; exact hself
    · rw [maybe_not h]
      have h' : Kd.sort x ≠ 6 := h
      rw [fitsK_xm (b := (⟨6, [], [copyL L (n + 1) x]⟩ : Kd (K (L + 1)))) (y := copyL L (n + 1) x) rfl h' rfl, fits_cpl _ _ _ _ _ (by omega)]
      exact hself

theorem maybe_into {L n l : Nat} (x : K n) (z : K l) (d : Int) (hz : goodK l z d = true) (h6 : srtK l z = 6) (hf : fitsK l z n x = true) (hL : n ≤ L) : fitsK l z (L + 1) (maybeL L n x) = true := by
  cases l with
  | zero => exact Empty.elim (show Empty from z)
  | succ l =>
  cases n with
  | zero => exact Empty.elim (show Empty from x)
  | succ n =>
  cases L with
  | zero => omega
  | succ L =>
    obtain ⟨y, hy, -⟩ := one_kidN hz (.inr h6)
    by_cases h : srtK (n + 1) x = 6
    · rw [maybe_six h, fits_cpr _ _ _ _ _ (by omega)]; exact hf
    · rw [maybe_not h]
      have h' : Kd.sort x ≠ 6 := h
      rw [fitsK_xm h6 h' hy] at hf
      rw [fitsK_mm (a := (⟨6, [], [copyL L (n + 1) x]⟩ : Kd (K (L + 1)))) (x := copyL L (n + 1) x) h6 rfl hy rfl, fits_cpr _ _ _ _ _ (by omega)]
      exact hf

theorem map_some {α β : Type} {o : Option α} {f : α → β} {r : β} (h : o.map f = some r) : ∃ x, o = some x ∧ f x = r := by
  cases o with
  | none => cases h
  | some x => exact ⟨x, rfl, by simpa using h⟩

/-- The first fits into the join. -/
theorem jn_fits : ∀ (L n m : Nat) (a : K n) (b : K m) (r : K (L + 1)) (d d' : Int), n + m ≤ L → goodK n a d = true → goodK m b d' = true → jnL L n a m b = some r → fitsK (L + 1) r n a = true := by
  intro L
  induction L with
  | zero => intro n m a b r d d' _ _ _ h; simp [jnL] at h
  | succ L ih =>
    intro n m a b r d d' hL ga gb h
    cases n with
    | zero => exact Empty.elim (show Empty from a)
    | succ n =>
    cases m with
    | zero => exact Empty.elim (show Empty from b)
    | succ m =>
    by_cases a6 : Kd.sort a = 6
    · obtain ⟨x, hx, gx⟩ := one_kidN ga (.inr a6)
      by_cases b6 : Kd.sort b = 6
      · obtain ⟨y, hy, gy⟩ := one_kidN gb (.inr b6)
        rw [jn_mm a6 b6 hx hy] at h
        obtain ⟨q, hq, rfl⟩ := map_some h
        rw [fitsK_mm (b := oneK6 6 q) (y := q) rfl a6 rfl hx]
        exact ih n m x y q _ _ (by omega) gx gy hq
      · rw [jn_mx a6 b6 hx] at h
        obtain ⟨q, hq, rfl⟩ := map_some h
        rw [fitsK_mm (b := oneK6 6 q) (y := q) rfl a6 rfl hx]
        exact ih n (m + 1) x b q _ _ (by omega) gx gb hq
    · by_cases b6 : Kd.sort b = 6
      · obtain ⟨y, hy, gy⟩ := one_kidN gb (.inr b6)
        rw [jn_xm a6 b6 hy] at h
        obtain ⟨q, hq, rfl⟩ := map_some h
        rw [fitsK_xm (b := oneK6 6 q) (y := q) rfl a6 rfl]
        exact ih (n + 1) m a y q _ _ (by omega) ga gy hq
      · by_cases hs : Kd.sort a = Kd.sort b
        · rcases goodK_kids ga with ⟨h1, na, -⟩ | ⟨h1, -⟩ | ⟨h1, -⟩
          · rcases goodK_kids gb with ⟨h', nb, -⟩ | ⟨h', -⟩ | ⟨h', -⟩
            · rw [jn_leaf h1 hs na nb] at h
              cases h
              exact fitsK_leaf (b := (⟨Kd.sort a, [], []⟩ : Kd (K (L + 1)))) h1 rfl na rfl
            · omega
            · omega
          · have a4 : Kd.sort a = 4 := by omega
            have b4 : Kd.sort b = 4 := by omega
            obtain ⟨x, hx, gx⟩ := one_kidN ga (.inl a4)
            obtain ⟨y, hy, gy⟩ := one_kidN gb (.inl b4)
            rw [jn_ll a4 b4 hx hy] at h
            obtain ⟨q, hq, rfl⟩ := map_some h
            rw [fitsK_ll (b := oneK6 4 q) (y := q) rfl a4 rfl hx]
            exact ih n m x y q _ _ (by omega) gx gy hq
          · have b5 : Kd.sort b = 5 := by omega
            rw [jn_formN ga gb h1 b5] at h
            obtain ⟨ks, hks, rfl⟩ := map_some h
            obtain ⟨hlen, hget⟩ := mapM_get _ _ _ hks
            refine fitsK_form_yes (b := (⟨5, namN a b, ks⟩ : Kd (K (L + 1)))) rfl h1 (fun i hi => (namN_mem a b _).2 (.inl (List.getElem_mem hi))) (fun j hj hj' => ?_)
            have hv := hget j hj hj'
            show (match atName (Kd.names a) (Kd.kids a) (namN a b)[j] with | some x => fitsK (L + 1) ks[j] n x | none => srtK (L + 1) ks[j] == 6) = true
            unfold valN at hv
            cases e1 : atName (Kd.names a) (Kd.kids a) (namN a b)[j] with
            | none =>
              cases e2 : atName (Kd.names b) (Kd.kids b) (namN a b)[j] with
              | none => rw [e1, e2] at hv; cases hv
              | some y =>
                rw [e1, e2] at hv
                have hv' : maybeL L m y = ks[j] := by simpa using hv
                show (srtK (L + 1) ks[j] == 6) = true
                rw [← hv', maybe_srt y (by omega)]; rfl
            | some x =>
              have gx := goodK_all ga x (atName_mem _ _ _ _ e1).1
              show fitsK (L + 1) ks[j] n x = true
              cases e2 : atName (Kd.names b) (Kd.kids b) (namN a b)[j] with
              | none =>
                rw [e1, e2] at hv
                have hv' : maybeL L n x = ks[j] := by simpa using hv
                rw [← hv']
                exact maybe_fits x _ gx (by omega)
              | some y =>
                rw [e1, e2] at hv
                exact ih n m x y _ _ _ (by omega) gx (goodK_all gb y (atName_mem _ _ _ _ e2).1) hv
        · rw [jn_no a6 b6 hs] at h; cases h

/-- The join fits into each schema into which both fit. -/
theorem jn_least : ∀ (l : Nat) (c : K l) (L n m : Nat) (a : K n) (b : K m) (r : K (L + 1)) (d d' d'' : Int), n + m ≤ L → goodK n a d = true → goodK m b d' = true → goodK l c d'' = true → jnL L n a m b = some r → fitsK l c n a = true → fitsK l c m b = true → fitsK l c (L + 1) r = true := by
  intro l
  induction l with
  | zero => intro c; exact Empty.elim (show Empty from c)
  | succ l ih =>
    intro c L n m a b r d d' d'' hL ga gb gc h fa fb
    cases L with
    | zero => simp [jnL] at h
    | succ L =>
    cases n with
    | zero => exact Empty.elim (show Empty from a)
    | succ n =>
    cases m with
    | zero => exact Empty.elim (show Empty from b)
    | succ m =>
    by_cases c6 : Kd.sort c = 6
    · obtain ⟨z, hz, gz⟩ := one_kidN gc (.inr c6)
      by_cases a6 : Kd.sort a = 6
      · obtain ⟨x, hx, gx⟩ := one_kidN ga (.inr a6)
        rw [fitsK_mm c6 a6 hz hx] at fa
        by_cases b6 : Kd.sort b = 6
        · obtain ⟨y, hy, gy⟩ := one_kidN gb (.inr b6)
          rw [fitsK_mm c6 b6 hz hy] at fb
          rw [jn_mm a6 b6 hx hy] at h
          obtain ⟨q, hq, rfl⟩ := map_some h
          rw [fitsK_mm (a := oneK6 6 q) (x := q) c6 rfl hz rfl]
          exact ih z L n m x y q _ _ _ (by omega) gx gy gz hq fa fb
        · rw [fitsK_xm c6 b6 hz] at fb
          rw [jn_mx a6 b6 hx] at h
          obtain ⟨q, hq, rfl⟩ := map_some h
          rw [fitsK_mm (a := oneK6 6 q) (x := q) c6 rfl hz rfl]
          exact ih z L n (m + 1) x b q _ _ _ (by omega) gx gb gz hq fa fb
      · rw [fitsK_xm c6 a6 hz] at fa
        by_cases b6 : Kd.sort b = 6
        · obtain ⟨y, hy, gy⟩ := one_kidN gb (.inr b6)
          rw [fitsK_mm c6 b6 hz hy] at fb
          rw [jn_xm a6 b6 hy] at h
          obtain ⟨q, hq, rfl⟩ := map_some h
          rw [fitsK_mm (a := oneK6 6 q) (x := q) c6 rfl hz rfl]
          exact ih z L (n + 1) m a y q _ _ _ (by omega) ga gy gz hq fa fb
        · rw [fitsK_xm c6 b6 hz] at fb
          have hr6 : Kd.sort r ≠ 6 := by
            by_cases hs : Kd.sort a = Kd.sort b
            · rcases goodK_kids ga with ⟨h1, na, -⟩ | ⟨h1, -⟩ | ⟨h1, -⟩
              · rcases goodK_kids gb with ⟨h', nb, -⟩ | ⟨h', -⟩ | ⟨h', -⟩
                · rw [jn_leaf h1 hs na nb] at h; cases h; exact a6
                · omega
                · omega
              · have a4 : Kd.sort a = 4 := by omega
                have b4 : Kd.sort b = 4 := by omega
                obtain ⟨x, hx, -⟩ := one_kidN ga (.inl a4)
                obtain ⟨y, hy, -⟩ := one_kidN gb (.inl b4)
                rw [jn_ll a4 b4 hx hy] at h
                obtain ⟨q, hq, rfl⟩ := map_some h
                show (4 : Int) ≠ 6; omega
              · rw [jn_formN ga gb h1 (by omega)] at h
                obtain ⟨ks, hks, rfl⟩ := map_some h
                show (5 : Int) ≠ 6; omega
            · rw [jn_no a6 b6 hs] at h; cases h
          rw [fitsK_xm c6 hr6 hz]
          exact ih z (L + 1) (n + 1) (m + 1) a b r _ _ _ hL ga gb gz h fa fb
    · have hsa := fitsK_sorts c6 fa
      have hsb := fitsK_sorts c6 fb
      have a6 : Kd.sort a ≠ 6 := by omega
      have b6 : Kd.sort b ≠ 6 := by omega
      have hs : Kd.sort a = Kd.sort b := by omega
      rcases goodK_kids gc with ⟨h1, nc, -⟩ | ⟨h1, -⟩ | ⟨h1, -⟩
      · rcases goodK_kids ga with ⟨ha, na, -⟩ | ⟨h', -⟩ | ⟨h', -⟩
        · rcases goodK_kids gb with ⟨-, nb, -⟩ | ⟨h', -⟩ | ⟨h', -⟩
          · rw [jn_leaf ha hs na nb] at h
            cases h
            exact fitsK_leaf (a := (⟨Kd.sort a, [], []⟩ : Kd (K (L + 1)))) h1 hsa rfl nc
          · omega
          · omega
        · omega
        · omega
      · have c4 : Kd.sort c = 4 := by omega
        have a4 : Kd.sort a = 4 := by omega
        have b4 : Kd.sort b = 4 := by omega
        obtain ⟨z, hz, gz⟩ := one_kidN gc (.inl c4)
        obtain ⟨x, hx, gx⟩ := one_kidN ga (.inl a4)
        obtain ⟨y, hy, gy⟩ := one_kidN gb (.inl b4)
        rw [fitsK_ll c4 a4 hz hx] at fa
        rw [fitsK_ll c4 b4 hz hy] at fb
        rw [jn_ll a4 b4 hx hy] at h
        obtain ⟨q, hq, rfl⟩ := map_some h
        rw [fitsK_ll (a := oneK6 4 q) (x := q) c4 rfl hz rfl]
        exact ih z L n m x y q _ _ _ (by omega) gx gy gz hq fa fb
      · have a5 : Kd.sort a = 5 := by omega
        have b5 : Kd.sort b = 5 := by omega
        obtain ⟨hla, haa⟩ := form_two ga a5
        obtain ⟨hlb, hab⟩ := form_two gb b5
        obtain ⟨s1, f1⟩ := fitsK_form_get h1 a5 fa
        obtain ⟨s2, f2⟩ := fitsK_form_get h1 b5 fb
        rw [jn_formN ga gb a5 b5] at h
        obtain ⟨ks, hks, rfl⟩ := map_some h
        obtain ⟨hlen, hget⟩ := mapM_get _ _ _ hks
        have hasc : Asc (namN a b) := merN_asc _ _ _ (Nat.le_refl _) haa hab
        refine fitsK_form_yes (a := (⟨5, namN a b, ks⟩ : Kd (K (L + 1)))) h1 rfl (fun i hi => ?_) (fun j hj hj' => ?_)
        · rcases (namN_mem a b _).1 (List.getElem_mem hi) with e | e
          · exact s1 _ e
          · exact s2 _ e
        · have gz := goodK_all gc _ (List.getElem_mem hj')
          have fa' := f1 j hj hj'
          have fb' := f2 j hj hj'
          show fieldFits (L + 1) (namN a b) ks l (Kd.names c)[j] (Kd.kids c)[j] = true
          by_cases hm : (Kd.names c)[j] ∈ namN a b
          · obtain ⟨i, hi, he⟩ := List.getElem_of_mem hm
            have hik : i < ks.length := by omega
            have hv := hget i hi hik
            have hat := atName_yes (namN a b) ks i hi hik hasc
            rw [he] at hv hat
            unfold fieldFits
            rw [hat]
            show fitsK l (Kd.kids c)[j] (L + 1) ks[i] = true
            unfold valN at hv
            rcases field_kid haa hla fa' with ⟨p, p1, p2, -, hpa, hpf⟩ | ⟨-, hpa, hp6⟩
            · rcases field_kid hab hlb fb' with ⟨q, q1, q2, -, hqa, hqf⟩ | ⟨-, hqa, hq6⟩
              · rw [hpa, hqa] at hv
                exact ih _ L n m _ _ _ _ _ _ (by omega) (goodK_all ga _ (List.getElem_mem p2)) (goodK_all gb _ (List.getElem_mem q2)) gz hv hpf hqf
              · rw [hpa, hqa] at hv
                have hv' : maybeL L n (Kd.kids a)[p] = ks[i] := by simpa using hv
                rw [← hv']
                exact maybe_into _ _ _ gz hq6 hpf (by omega)
            · rcases field_kid hab hlb fb' with ⟨q, q1, q2, -, hqa, hqf⟩ | ⟨-, hqa, hq6⟩
              · rw [hpa, hqa] at hv
                have hv' : maybeL L m (Kd.kids b)[q] = ks[i] := by simpa using hv
                rw [← hv']
                exact maybe_into _ _ _ gz hp6 hqf (by omega)
              · rw [hpa, hqa] at hv; cases hv
          · have h6 : srtK l (Kd.kids c)[j] = 6 := by
              rcases field_kid haa hla fa' with ⟨p, p1, p2, hpe, -, -⟩ | ⟨-, -, hp6⟩
              · exact absurd ((namN_mem a b _).2 (.inl (hpe ▸ List.getElem_mem p1))) hm
              · exact hp6
            unfold fieldFits
            rw [atName_no _ _ _ hm, h6]; rfl

end Go.Proofs.YthcdeahobjhkbaaGreatDoor

/-
  Plain: the merging of two ascending rows, step by step.
-/
namespace Go.Proofs.YthcdeahobjhkbaaGreatDoor
open Go.RowKit

/-- Where the merging stands: i and j of the rows are done, acc is gathered. -/
def MSt {α β γ : Type} (f : α → β → Option γ) (ga : α → γ) (gb : β → γ) (xs : List (ByteArray × α)) (ys : List (ByteArray × β)) (i j : Nat) (acc : List (ByteArray × γ)) : Prop :=
  ∃ k, (xs.length - i) + (ys.length - j) ≤ k ∧ mergeF f ga gb (xs.length + ys.length) xs ys = (mergeF f ga gb k (xs.drop i) (ys.drop j)).map (acc ++ ·)

theorem MSt.start {α β γ : Type} (f : α → β → Option γ) (ga : α → γ) (gb : β → γ) (xs : List (ByteArray × α)) (ys : List (ByteArray × β)) : MSt f ga gb xs ys 0 0 [] :=
  ⟨xs.length + ys.length, by omega, by simp⟩

theorem map_acc {δ : Type} (o : Option (List δ)) (acc : List δ) (z : δ) : (o.map (z :: ·)).map (acc ++ ·) = o.map ((acc ++ [z]) ++ ·) := by
  cases o <;> simp

theorem MSt.left {α β γ : Type} {f : α → β → Option γ} {ga : α → γ} {gb : β → γ} {xs : List (ByteArray × α)} {ys : List (ByteArray × β)} {i j : Nat} {acc : List (ByteArray × γ)} (h : MSt f ga gb xs ys i j acc) (hi : i < xs.length) (hj : ys.length ≤ j ∨ ∃ hj : j < ys.length, ltB xs[i].1 ys[j].1 = true) :
    MSt f ga gb xs ys (i + 1) j (acc ++ [(xs[i].1, ga xs[i].2)]) := by
  obtain ⟨k, hk, e⟩ := h
  obtain ⟨k, rfl⟩ : ∃ k', k = k' + 1 := ⟨k - 1, by omega⟩
  refine ⟨k, by omega, e.trans ?_⟩
  rw [← map_acc]
  congr 1
  rw [List.drop_eq_getElem_cons hi]
  rcases hj with hj | ⟨hj, hl⟩
  · rw [List.drop_eq_nil_of_le hj]; rfl
  · rw [List.drop_eq_getElem_cons hj]
    simp only [mergeF, hl, if_true]

theorem MSt.right {α β γ : Type} {f : α → β → Option γ} {ga : α → γ} {gb : β → γ} {xs : List (ByteArray × α)} {ys : List (ByteArray × β)} {i j : Nat} {acc : List (ByteArray × γ)} (h : MSt f ga gb xs ys i j acc) (hj : j < ys.length) (hi : xs.length ≤ i ∨ ∃ hi : i < xs.length, ltB xs[i].1 ys[j].1 ≠ true ∧ ltB ys[j].1 xs[i].1 = true) :
    MSt f ga gb xs ys i (j + 1) (acc ++ [(ys[j].1, gb ys[j].2)]) := by
  obtain ⟨k, hk, e⟩ := h
  obtain ⟨k, rfl⟩ : ∃ k', k = k' + 1 := ⟨k - 1, by omega⟩
  refine ⟨k, by omega, e.trans ?_⟩
  rw [← map_acc]
  congr 1
  rw [List.drop_eq_getElem_cons hj]
  rcases hi with hi | ⟨hi, hl, hg⟩
  · rw [List.drop_eq_nil_of_le hi]; rfl
  · rw [List.drop_eq_getElem_cons hi]
    simp only [mergeF, if_neg hl, if_pos hg]

theorem MSt.both {α β γ : Type} {f : α → β → Option γ} {ga : α → γ} {gb : β → γ} {xs : List (ByteArray × α)} {ys : List (ByteArray × β)} {i j : Nat} {acc : List (ByteArray × γ)} (h : MSt f ga gb xs ys i j acc) (hi : i < xs.length) (hj : j < ys.length) (hl : ltB xs[i].1 ys[j].1 ≠ true) (hg : ltB ys[j].1 xs[i].1 ≠ true) :
    (f xs[i].2 ys[j].2 = none → mergeF f ga gb (xs.length + ys.length) xs ys = none) ∧ ∀ r, f xs[i].2 ys[j].2 = some r → MSt f ga gb xs ys (i + 1) (j + 1) (acc ++ [(xs[i].1, r)]) := by
  obtain ⟨k, hk, e⟩ := h
  obtain ⟨k, rfl⟩ : ∃ k', k = k' + 1 := ⟨k - 1, by omega⟩
  rw [List.drop_eq_getElem_cons hi, List.drop_eq_getElem_cons hj] at e
  refine ⟨fun hn => ?_, fun r hr => ⟨k, by omega, ?_⟩⟩
  · rw [e]; simp only [mergeF, if_neg hl, if_neg hg, hn]; rfl
  · rw [e, ← map_acc]
    simp only [mergeF, if_neg hl, if_neg hg, hr]

theorem MSt.done {α β γ : Type} {f : α → β → Option γ} {ga : α → γ} {gb : β → γ} {xs : List (ByteArray × α)} {ys : List (ByteArray × β)} {i j : Nat} {acc : List (ByteArray × γ)} (h : MSt f ga gb xs ys i j acc) (hi : xs.length ≤ i) (hj : ys.length ≤ j) : mergeF f ga gb (xs.length + ys.length) xs ys = some acc := by
  obtain ⟨k, hk, e⟩ := h
  rw [e, List.drop_eq_nil_of_le hi, List.drop_eq_nil_of_le hj]
  cases k <;> simp [mergeF]

end Go.Proofs.YthcdeahobjhkbaaGreatDoor
