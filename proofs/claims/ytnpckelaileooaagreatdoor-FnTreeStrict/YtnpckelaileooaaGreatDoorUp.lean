/-
  Plain mathematics: a tree of n levels as one of n + 1; the number that num reads.
-/
import Derived.Test.YtnpckelaileooaaGreatDoorParse2
import Derived.Test.YtnpckelaileooaaGreatDoorB11
namespace Go.Proofs.YtnpckelaileooaaGreatDoor
open Go.RowKit

/-- A tree of at most n levels is one of at most n + 1. -/
def upT : (n : Nat) → T n → T (n + 1)
  | 0, t => Empty.elim t
  | n + 1, t => (⟨Nd.sort t, Nd.num t, Nd.text t, Nd.names t, (Nd.kids t).map (upT n)⟩ : Nd (T (n + 1)))

theorem sumL_congr {α : Type} (f g : α → Nat) (l : List α) (h : ∀ x, x ∈ l → f x = g x) : sumL f l = sumL g l := by
  induction l with
  | nil => rfl
  | cons a r ih => simp only [sumL]; rw [h a (List.mem_cons_self ..), ih (fun x hx => h x (List.mem_cons_of_mem _ hx))]

theorem cnt_up : ∀ (n : Nat) (t : T n), cntT (n + 1) (upT n t) = cntT n t := by
  intro n
  induction n with
  | zero => intro t; cases t
  | succ n ih =>
    intro t
    show 1 + sumL (fun k => cntT (n + 1) k) ((Nd.kids t).map (upT n)) = 1 + sumL (fun k => cntT n k) (Nd.kids t)
    rw [sumL_map, sumL_congr _ _ _ (fun x _ => ih x)]

theorem good_up : ∀ (n : Nat) (t : T n) (d : Int), goodT (n + 1) (upT n t) d = goodT n t d := by
  intro n
  induction n with
  | zero => intro t; cases t
  | succ n ih =>
    intro t d
    have hk : ((Nd.kids t).map (upT n)).all (fun k => goodT (n + 1) k (d + 1)) = (Nd.kids t).all (fun k => goodT n k (d + 1)) := by
      rw [List.all_map]
      congr 1
      funext k
      exact ih k (d + 1)
    show (decide (d ≤ 6) && aloneF (Nd.sort t) (Nd.num t) (Nd.text t) (Nd.names t) ((Nd.kids t).map (upT n)).length && ((Nd.kids t).map (upT n)).all (fun k => goodT (n + 1) k (d + 1))) = (decide (d ≤ 6) && aloneF (Nd.sort t) (Nd.num t) (Nd.text t) (Nd.names t) (Nd.kids t).length && (Nd.kids t).all (fun k => goodT n k (d + 1)))
    rw [hk, List.length_map]

theorem txt_up : ∀ (n : Nat) (t : T n), txtL (n + 1) (upT n t) = txtL n t := by
  intro n
  induction n with
  | zero => intro t; cases t
  | succ n ih =>
    intro t
    have hk : ((Nd.kids t).map (upT n)).map (txtL (n + 1)) = (Nd.kids t).map (txtL n) := by
      rw [List.map_map]
      exact List.map_congr_left fun x _ => ih x
    have hm : maybeL (txtL (n + 1)) ((Nd.kids t).map (upT n)) = maybeL (txtL n) (Nd.kids t) := by
      cases Nd.kids t with
      | nil => rfl
      | cons k r => simp only [List.map_cons, maybeL, ih k]
    rw [txtL, txtL]
    show (if Nd.sort t = 1 then Lib.itoa (Nd.num t) else if Nd.sort t = 2 then 34 :: (Nd.text t).data.toList ++ [34] else if Nd.sort t = 3 then (if Nd.num t = 1 then [121, 101, 115] else [110, 111])
      else if Nd.sort t = 6 then maybeL (txtL (n + 1)) ((Nd.kids t).map (upT n)) else if Nd.sort t = 5 then 123 :: joinL (zipL (Nd.names t) (((Nd.kids t).map (upT n)).map (txtL (n + 1)))) ++ [125] else 91 :: joinL (((Nd.kids t).map (upT n)).map (txtL (n + 1))) ++ [93]) = _
    rw [hk, hm]

theorem list_down {α β : Type} (f : α → β) (l : List β) (h : ∀ x, x ∈ l → ∃ y, x = f y) : ∃ m : List α, l = m.map f := by
  induction l with
  | nil => exact ⟨[], rfl⟩
  | cons x r ih =>
    obtain ⟨y, hy⟩ := h x (List.mem_cons_self ..)
    obtain ⟨m, hm⟩ := ih fun z hz => h z (List.mem_cons_of_mem _ hz)
    exact ⟨y :: m, by rw [List.map_cons, ← hy, ← hm]⟩

/-- A good tree is no deeper than it may be. -/
theorem down_good : ∀ (n : Nat) (t : T (n + 1)) (d : Int), 7 ≤ d + n → goodT (n + 1) t d = true → ∃ t', t = upT n t' := by
  intro n
  induction n with
  | zero =>
    intro t d h hg
    simp only [goodT, Bool.and_eq_true, decide_eq_true_eq] at hg
    have := hg.1.1
    omega
  | succ n ih =>
    intro t d h hg
    have hk : (Nd.kids t).all (fun k => goodT (n + 1) k (d + 1)) = true := by
      simp only [goodT, Bool.and_eq_true] at hg
      simpa [goodT] using hg.2
    obtain ⟨m, hm⟩ := list_down (upT n) (Nd.kids t) fun x hx => ih x (d + 1) (by omega) (List.all_eq_true.1 hk x hx)
    exact ⟨(⟨Nd.sort t, Nd.num t, Nd.text t, Nd.names t, m⟩ : Nd (T n)), by
      show t = (⟨Nd.sort t, Nd.num t, Nd.text t, Nd.names t, m.map (upT n)⟩ : Nd (T (n + 1)))
      rw [← hm]
      cases t; rfl⟩

theorem RowIn.map {α β : Type} {S : Nat → Prop} {w : World} {R : α → Value → Value → Value → Value → Value → Prop} {R' : β → Value → Value → Value → Value → Value → Prop} {l : List α} {v : Value} (f : α → β) (h : RowIn S w R l v)
    (hR : ∀ x c0 c1 c2 c3 c4, x ∈ l → R x c0 c1 c2 c3 c4 → R' (f x) c0 c1 c2 c3 c4) : RowIn S w R' (l.map f) v := by
  obtain ⟨ao, cap, hv, hl, hc⟩ := h
  refine ⟨ao, cap, by rw [hv, List.length_map], by rw [List.length_map]; exact hl, fun hne => ?_⟩
  obtain ⟨b, off, ha, hB, hcell⟩ := hc (by intro e; apply hne; rw [e]; rfl)
  refine ⟨b, off, ha, hB, fun i hi => ?_⟩
  have hi' : i < l.length := by simpa using hi
  obtain ⟨c0, c1, c2, c3, c4, h0, h1, h2, h3, h4, hr⟩ := hcell i hi'
  refine ⟨c0, c1, c2, c3, c4, h0, h1, h2, h3, h4, ?_⟩
  rw [List.getElem_map]
  exact hR _ _ _ _ _ _ (List.getElem_mem hi') hr

theorem TreeIn.up {S : Nat → Prop} {w : World} : ∀ {n : Nat} {t : T n} {c0 c1 c2 c3 c4 : Value}, TreeIn S w n t c0 c1 c2 c3 c4 → TreeIn S w (n + 1) (upT n t) c0 c1 c2 c3 c4 := by
  intro n
  induction n with
  | zero => intro t c0 c1 c2 c3 c4 h; exact h.elim
  | succ n ih =>
    intro t c0 c1 c2 c3 c4 h
    obtain ⟨h0, h1, h2, hs, hw0, hw1, h3, h4⟩ := h
    exact ⟨h0, h1, h2, hs, hw0, hw1, h3, h4.map (upT n) fun x _ _ _ _ _ _ hx => ih hx⟩

theorem nDigits_le : ∀ (k u : Nat), u < 10 ^ (k + 1) → Lib.nDigits u ≤ k + 1
  | 0, u, h => by rw [Lib.nDigits_small (by simpa using h)]; omega
  | k + 1, u, h => by
    by_cases hu : u < 10
    · rw [Lib.nDigits_small hu]; omega
    · rw [Lib.nDigits_big hu]
      have := nDigits_le k (u / 10) (by rw [Nat.pow_succ] at h; omega)
      omega

theorem digits_read (l D post : List UInt8) (k : Nat) (he : l = D ++ post) (hD : ∀ c, c ∈ D → digC c = true) (hl : D.length ≤ 9) (hp : noDig post = true) (hall : ∀ c, c ∈ l.take k → digC c = true) (hk : k ≤ l.length)
    (hend : k = 10 ∨ digC ((l.drop k).headD 0) = false) : k = D.length := by
  subst he
  by_cases h1 : k < D.length
  · exfalso
    rcases hend with h | h
    · omega
    · rw [List.drop_append_of_le_length (by omega), List.drop_eq_getElem_cons h1] at h
      simp only [List.cons_append, List.headD_cons] at h
      rw [hD _ (List.getElem_mem h1)] at h
      cases h
  · by_cases h2 : D.length < k
    · exfalso
      cases post with
      | nil => simp at hk; omega
      | cons c r =>
        have hc : digC c = false := by simpa [noDig] using hp
        have : digC c = true := by
          apply hall
          rw [List.take_append]
          apply List.mem_append_right
          have : k - D.length = (k - D.length - 1) + 1 := by omega
          rw [this, List.take_succ_cons]
          exact List.mem_cons_self ..
        rw [hc] at this
        cases this
    · omega

/-- What num reads of a number's text. -/
theorem num_reads (s : ByteArray) (i k F : Nat) (neg : Bool) (m : Int) (post : List UInt8) (hm : -999999999 ≤ m ∧ m ≤ 999999999) (he : s.data.toList.drop i = Lib.itoa m ++ post) (hp : noDig post = true)
    (hneg : neg = decide (lookB s i = 45)) (hF : F = if neg = true then i + 1 else i) (hsz : F + k ≤ s.size)
    (hall : ∀ c, c ∈ (s.data.toList.drop F).take k → digC c = true) (hend : k = 10 ∨ digC (lookB s (F + k)) = false) :
    (if neg = true then -(decVal ((s.data.toList.drop F).take k) : Int) else (decVal ((s.data.toList.drop F).take k) : Int)) = m ∧ F + k = i + (Lib.itoa m).length ∧ ¬ k = 0 := by
  have key : ∀ (u : Nat), u ≤ 999999999 → s.data.toList.drop F = Lib.decDigits u ++ post → decVal ((s.data.toList.drop F).take k) = u ∧ k = (Lib.decDigits u).length ∧ ¬ k = 0 := by
    intro u hu hd
    have hlen : (Lib.decDigits u).length ≤ 9 := by rw [Lib.decDigits_length]; exact nDigits_le 8 u (by omega)
    have hk := digits_read _ _ post k hd (decDigits_dig u) hlen hp hall (by simp; omega) (by rw [List.drop_drop]; exact hend)
    refine ⟨?_, hk, ?_⟩
    · rw [hd, hk, List.take_left, decVal_digits]
    · have h0 := decDigits_ne u
      intro e
      rw [e] at hk
      exact h0 (List.eq_nil_of_length_eq_zero hk.symm)
  have hlook : lookB s i = (Lib.itoa m ++ post).headD 0 := by unfold lookB; rw [he]
  by_cases h0 : m < 0
  · have hi : Lib.itoa m = 45 :: Lib.decDigits m.natAbs := by unfold Lib.itoa; rw [if_pos h0]
    rw [hi] at he hlook
    have hn : neg = true := by rw [hneg, hlook]; rfl
    rw [if_pos hn] at hF
    have hd : s.data.toList.drop F = Lib.decDigits m.natAbs ++ post := by
      rw [hF, ← List.drop_drop, he]; rfl
    obtain ⟨k1, k2, k3⟩ := key m.natAbs (by omega) hd
    refine ⟨by rw [if_pos hn, k1]; omega, ?_, k3⟩
    rw [hi, hF, List.length_cons, k2]; omega
  · have hi : Lib.itoa m = Lib.decDigits m.toNat := by unfold Lib.itoa; rw [if_neg h0]
    rw [hi] at he hlook
    have hn : neg = false := by
      rw [hneg, hlook]
      obtain ⟨c, r, e, hc⟩ := digits_head m.toNat
      rw [e]
      simp only [List.cons_append, List.headD_cons]
      refine decide_eq_false ?_
      rintro rfl
      rw [digC_45] at hc; cases hc
    rw [hn] at hF
    simp only [Bool.false_eq_true, if_false] at hF
    have hd : s.data.toList.drop F = Lib.decDigits m.toNat ++ post := by rw [hF, he]
    obtain ⟨k1, k2, k3⟩ := key m.toNat (by omega) hd
    refine ⟨by rw [hn]; simp only [Bool.false_eq_true, if_false]; rw [k1]; omega, ?_, k3⟩
    rw [hi, hF, k2]

end Go.Proofs.YtnpckelaileooaaGreatDoor
