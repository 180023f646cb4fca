/-
  Several texts in one, in their order.
-/
import Derived.Test.YtfbfchffnapnnaaGreatDoorB1
import Derived.Laws.IdiomStrings
import Derived.Deep.QuietTactic
import Derived.BigQuiet
import Derived.WalkSmall
import Derived.LoopTactic
import Derived.Test.YtfbfchffnapnnaaGreatDoorB5
import Derived.Test.YtfbfchffnapnnaaGreatDoorB7
import Derived.Test.YtfbfchffnapnnaaGreatDoorB22
import Derived.Deep.RegionWith
import Derived.Test.YtfbfchffnapnnaaGreatDoorB8
import Derived.Test.YtfbfchffnapnnaaGreatDoorB2
import Derived.Test.YtfbfchffnapnnaaGreatDoorB4
import Derived.Test.YtfbfchffnapnnaaGreatDoorB9
import Derived.Test.YtfbfchffnapnnaaGreatDoorB20

/-
  The specification's reader of trees: its block; look, eat.
-/
namespace Go.Proofs.YtfbfchffnapnnaaGreatDoor
open Go.RowKit

theorem Near.drewN {R : Nat} {a w : World} (h : Near R a w) (n : Nat) : Near R a (w.drewN n) := ⟨h.os, h.tape, h.output, h.size, h.block⟩

end Go.Proofs.YtfbfchffnapnnaaGreatDoor

/-
  The specification's reader of trees: name.
-/
namespace Go.Proofs.YtfbfchffnapnnaaGreatDoor
open Go.RowKit

theorem takeWhile_take (l : List UInt8) (p : UInt8 → Bool) (k : Nat) (h : ∀ x, x ∈ l.take k → p x = true) (hd : p ((l.drop k).headD 0) = false) : l.takeWhile p = l.take k := by
  have hc : ∀ c r, l.drop k = c :: r → p c = false := by intro c r e; rw [e] at hd; exact hd
  conv => lhs; rw [← List.take_append_drop k l]
  exact takeWhile_all _ _ h hc

theorem take_more' (s : ByteArray) (i k : Nat) (p : UInt8 → Bool) (h : i + k < s.size) (ha : ∀ x, x ∈ (s.data.toList.drop i).take k → p x = true) (hc : p s[i + k] = true) : ∀ x, x ∈ (s.data.toList.drop i).take (k + 1) → p x = true := by
  intro x hx
  have hl : k < (s.data.toList.drop i).length := by simp; omega
  rw [List.take_succ_eq_append_getElem hl] at hx
  rcases List.mem_append.1 hx with hx | hx
  · exact ha x hx
  · rw [List.mem_singleton] at hx
    subst hx
    simpa [ByteArray.getElem_eq_getElem_data] using hc

end Go.Proofs.YtfbfchffnapnnaaGreatDoor

/-
  The specification's reader of schemas: plain mathematics of what it goes over.
-/
namespace Go.Proofs.YtfbfchffnapnnaaGreatDoor
open Go.RowKit

/-- The six makes of a schema that is ok by itself. -/
theorem goodK_cases {m : Nat} {t : K (m + 1)} {d : Int} (h : goodK (m + 1) t d = true) :
    (t = (⟨1, [], []⟩ : Kd (K m)) ∧ txtK (m + 1) t = [110, 117, 109]) ∨ (t = (⟨2, [], []⟩ : Kd (K m)) ∧ txtK (m + 1) t = [116, 101, 120, 116]) ∨ (t = (⟨3, [], []⟩ : Kd (K m)) ∧ txtK (m + 1) t = [102, 108, 97, 103]) ∨
    (∃ x, t = (⟨4, [], [x]⟩ : Kd (K m)) ∧ goodK m x (d + 1) = true ∧ txtK (m + 1) t = 91 :: (txtK m x ++ [93])) ∨ (∃ x, t = (⟨6, [], [x]⟩ : Kd (K m)) ∧ goodK m x (d + 1) = true ∧ txtK (m + 1) t = 63 :: txtK m x) ∨
    (∃ na ki, t = (⟨5, na, ki⟩ : Kd (K m)) ∧ na.length = ki.length ∧ (∀ x, x ∈ na → nameB x = true) ∧ (∀ k, k ∈ ki → goodK m k (d + 1) = true) ∧ txtK (m + 1) t = 123 :: (joinL (zipL na (ki.map (txtK m))) ++ [125])) := by
  simp only [goodK, Bool.and_eq_true] at h
  have ha : aloneKF (Kd.sort t) (Kd.names t) (Kd.kids t).length = true := h.1.2
  have hk := List.all_eq_true.1 h.2
  obtain ⟨so, na, ki⟩ : Kd (K m) := t
  simp only at ha hk
  unfold aloneKF at ha
  have one : (ki.length : Int) = 1 → ∃ x, ki = [x] ∧ goodK m x (d + 1) = true := by
    intro hl
    match ki, hl, hk with
    | [x], _, hk => exact ⟨x, rfl, hk x (List.mem_cons_self ..)⟩
  by_cases h1 : so = 1
  · rw [if_pos h1] at ha
    simp only [Bool.and_eq_true, beq_iff_eq] at ha
    have e2 : na = [] := List.eq_nil_of_length_eq_zero (by have := ha.1; omega)
    have e3 : ki = [] := List.eq_nil_of_length_eq_zero (by have := ha.2; omega)
    subst e2 e3 h1
    exact .inl ⟨rfl, by simp [txtK]⟩
  rw [if_neg h1] at ha
  by_cases h2 : so = 2
  · rw [if_pos h2] at ha
    simp only [Bool.and_eq_true, beq_iff_eq] at ha
    have e2 : na = [] := List.eq_nil_of_length_eq_zero (by have := ha.1; omega)
    have e3 : ki = [] := List.eq_nil_of_length_eq_zero (by have := ha.2; omega)
    subst e2 e3 h2
    exact .inr (.inl ⟨rfl, by simp [txtK]⟩)
  rw [if_neg h2] at ha
  by_cases h3 : so = 3
  · rw [if_pos h3] at ha
    simp only [Bool.and_eq_true, beq_iff_eq] at ha
    have e2 : na = [] := List.eq_nil_of_length_eq_zero (by have := ha.1; omega)
    have e3 : ki = [] := List.eq_nil_of_length_eq_zero (by have := ha.2; omega)
    subst e2 e3 h3
    exact .inr (.inr (.inl ⟨rfl, by simp [txtK]⟩))
  rw [if_neg h3] at ha
  by_cases h4 : so = 4
  · rw [if_pos h4] at ha
    simp only [Bool.and_eq_true, beq_iff_eq] at ha
    have e2 : na = [] := List.eq_nil_of_length_eq_zero (by have := ha.1; omega)
    obtain ⟨x, e3, hx⟩ := one ha.2
    subst e2 e3 h4
    exact .inr (.inr (.inr (.inl ⟨x, rfl, hx, by simp [txtK, headL]⟩)))
  rw [if_neg h4] at ha
  by_cases h5 : so = 5
  · rw [if_pos h5] at ha
    simp only [Bool.and_eq_true, beq_iff_eq] at ha
    have hl : na.length = ki.length := by have := ha.1; omega
    subst h5
    exact .inr (.inr (.inr (.inr (.inr ⟨na, ki, rfl, hl, riseB_name ha.2, fun k hk' => hk k hk', by simp [txtK]⟩))))
  rw [if_neg h5] at ha
  by_cases h6 : so = 6
  · rw [if_pos h6] at ha
    simp only [Bool.and_eq_true, beq_iff_eq] at ha
    have e2 : na = [] := List.eq_nil_of_length_eq_zero (by have := ha.1; omega)
    obtain ⟨x, e3, hx⟩ := one ha.2
    subst e2 e3 h6
    exact .inr (.inr (.inr (.inr (.inl ⟨x, rfl, hx, by simp [txtK, headL]⟩))))
  · rw [if_neg h6] at ha; cases ha

end Go.Proofs.YtfbfchffnapnnaaGreatDoor

/-
  The specification's reader of trees: num.
-/
namespace Go.Proofs.YtfbfchffnapnnaaGreatDoor
open Go.RowKit

theorem dig_bounds {c : UInt8} (h : digC c = true) : 48 ≤ c.toNat ∧ c.toNat ≤ 57 := by
  simp only [digC, decide_eq_true_eq] at h; omega

end Go.Proofs.YtfbfchffnapnnaaGreatDoor

/-
  Plain mathematics: a tree of n levels as one of n + 1; the number that num reads.
-/
namespace Go.Proofs.YtfbfchffnapnnaaGreatDoor
open Go.RowKit

/-- A tree of at most n levels is one of at most n + 1. -/
def upT : (n : Nat) → T n → T (n + 1)
  | 0, t => Empty.elim t
  | n + 1, t => (⟨Nd.sort t, Nd.num t, Nd.text t, Nd.names t, (Nd.kids t).map (upT n)⟩ : Nd (T (n + 1)))

theorem RowIn.map {α β : Type} {S : Nat → Prop} {w : World} {R : α → Value → Value → Value → Value → Value → Prop} {R' : β → Value → Value → Value → Value → Value → Prop} {l : List α} {v : Value} (f : α → β) (h : RowIn S w R l v)
    (hR : ∀ x c0 c1 c2 c3 c4, x ∈ l → R x c0 c1 c2 c3 c4 → R' (f x) c0 c1 c2 c3 c4) : RowIn S w R' (l.map f) v := by
  obtain ⟨ao, cap, hv, hl, hc⟩ := h
  refine ⟨ao, cap, by rw [hv, List.length_map], by rw [List.length_map]; exact hl, fun hne => ?_⟩
  obtain ⟨b, off, ha, hB, hcell⟩ := hc (by intro e; apply hne; rw [e]; rfl)
  refine ⟨b, off, ha, hB, fun i hi => ?_⟩
  have hi' : i < l.length := by simpa using hi
  obtain ⟨c0, c1, c2, c3, c4, h0, h1, h2, h3, h4, hr⟩ := hcell i hi'
  refine ⟨c0, c1, c2, c3, c4, h0, h1, h2, h3, h4, ?_⟩
  rw [List.getElem_map]
  exact hR _ _ _ _ _ _ (List.getElem_mem hi') hr

theorem TreeIn.up {S : Nat → Prop} {w : World} : ∀ {n : Nat} {t : T n} {c0 c1 c2 c3 c4 : Value}, TreeIn S w n t c0 c1 c2 c3 c4 → TreeIn S w (n + 1) (upT n t) c0 c1 c2 c3 c4 := by
  intro n
  induction n with
  | zero => intro t c0 c1 c2 c3 c4 h; exact h.elim
  | succ n ih =>
    intro t c0 c1 c2 c3 c4 h
    obtain ⟨h0, h1, h2, hs, hw0, hw1, h3, h4⟩ := h
    exact ⟨h0, h1, h2, hs, hw0, hw1, h3, h4.map (upT n) fun x _ _ _ _ _ _ hx => ih hx⟩

theorem nDigits_le : ∀ (k u : Nat), u < 10 ^ (k + 1) → Lib.nDigits u ≤ k + 1
  | 0, u, h => by rw [Lib.nDigits_small (by simpa using h)]; omega
  | k + 1, u, h => by
    by_cases hu : u < 10
    · rw [Lib.nDigits_small hu]; omega
    · rw [Lib.nDigits_big hu]
      have := nDigits_le k (u / 10) (by rw [Nat.pow_succ] at h; omega)
      omega

end Go.Proofs.YtfbfchffnapnnaaGreatDoor

/-
  The law of KindRead, walked: what the two readers answer is given as hypotheses here.
-/
namespace Go.Proofs.YtfbfchffnapnnaaGreatDoor
open Go.RowKit

theorem Box3.eqb {w w' : World} {N : Nat} {a b c : Value} (h : Box3 w N a b c) (hb : w'.heap[N]? = w.heap[N]?) : Box3 w' N a b c :=
  ⟨(World.cell?_of_block (w := w) (w' := w') (a := ⟨N, 0, none⟩) hb).trans h.c0, (World.cell?_of_block (w := w) (w' := w') (a := ⟨N, 1, none⟩) hb).trans h.c1, (World.cell?_of_block (w := w) (w' := w') (a := ⟨N, 2, none⟩) hb).trans h.c2⟩

/-- What the law holds from the first answer on: what is asked for, what was answered. -/
structure SitK (m : Nat) (k : K m) (P : Nat → Prop) (A G : Nat) (p0 p1 p2 g0 g1 g2 : Value) (w u : World) : Prop where
  below : Below w.heap.size w u
  ansBox : Box3 u A p0 p1 p2
  ans : KindIn P u m k p0 p1 p2
  ansB : ∀ b, P b → b < A
  gotBox : Box3 u G g0 g1 g2
  ag : A < G
  gu : G < u.heap.size

theorem SitK.step {m : Nat} {k : K m} {P : Nat → Prop} {A G : Nat} {p0 p1 p2 g0 g1 g2 : Value} {w u u' : World} (h : SitK m k P A G p0 p1 p2 g0 g1 g2 w u) {Z : Nat → Prop} (hb : Below w.heap.size w u') (hz : u.heap.size ≤ u'.heap.size)
    (hs : ∀ b : Nat, b < u.heap.size → ¬ Z b → u'.heap[b]? = u.heap[b]?) (hZ : ∀ b, Z b → A < b ∧ b ≠ G) : SitK m k P A G p0 p1 p2 g0 g1 g2 w u' := by
  have ag := h.ag
  have gu := h.gu
  have q : ∀ b, b ≤ A → u'.heap[b]? = u.heap[b]? := fun b hb => hs b (by omega) (fun hz => by have := hZ b hz; omega)
  exact ⟨hb, h.ansBox.eqb (q A (Nat.le_refl _)), h.ans.keep (fun b hb => q b (by have := h.ansB b hb; omega)) (fun _ h => h), h.ansB,
    h.gotBox.eqb (hs G gu (fun hz => (hZ G hz).2 rfl)), ag, by omega⟩

theorem SitK.keep {m : Nat} {k : K m} {P : Nat → Prop} {A G : Nat} {p0 p1 p2 g0 g1 g2 : Value} {w u u' : World} (h : SitK m k P A G p0 p1 p2 g0 g1 g2 w u) (hw : w.heap.size ≤ u.heap.size) (hb : Below u.heap.size u u') :
    SitK m k P A G p0 p1 p2 g0 g1 g2 w u' := h.step (Z := fun _ => False) (below_step h.below hw hb) hb.size (fun b hb' _ => hb.block b hb') (fun _ h => h.elim)

end Go.Proofs.YtfbfchffnapnnaaGreatDoor

/-
  What an answer owns: spots that no other has; rows of texts and of trees that a call has made.
-/
namespace Go.Proofs.YtfbfchffnapnnaaGreatDoor
open Go.RowKit

theorem SpR.same {w w' : World} : ∀ {n : Nat} {v : Value} {L : List Spot}, SpR w n v L → (∀ s, s ∈ L → w'.heap[s.b]? = w.heap[s.b]?) → SpR w' n v L := by
  intro n
  induction n with
  | zero => intro v L h _; exact h
  | succ n ih =>
    rintro v L ⟨ao, cap, Ls, hv, hl, rfl, hi⟩ hb
    refine ⟨ao, cap, Ls, hv, hl, rfl, fun i h => ?_⟩
    obtain ⟨b, off, c3, c4, L3, L4, ha, hLi, hok, h3, h4, hn, hr⟩ := hi i h
    have hm : ∀ s, s ∈ Ls[i] → w'.heap[s.b]? = w.heap[s.b]? := fun s hs => hb s (List.mem_flatten.2 ⟨_, List.getElem_mem h, hs⟩)
    rw [hLi] at hm
    have hbb : w'.heap[b]? = w.heap[b]? := hm ⟨b, off + i * 5, false⟩ (by simp [sp5])
    refine ⟨b, off, c3, c4, L3, L4, ha, hLi, fun s hs => Spot.ok_same (hok s hs) (hm s (by simp [hs])), ?_, ?_, hn.same (fun s hs => hm s (by simp [hs])), ih hr (fun s hs => hm s (by simp [hs]))⟩
    · exact (World.cell?_of_block (w := w) (w' := w') (a := ⟨b, off + i * 5 + 3, none⟩) hbb).trans h3
    · exact (World.cell?_of_block (w := w) (w' := w') (a := ⟨b, off + i * 5 + 4, none⟩) hbb).trans h4

theorem SpR.no (w : World) (n : Nat) : SpR w n (.slice none 0 0) [] := by
  cases n with
  | zero => exact ⟨none, 0, rfl, rfl⟩
  | succ n => exact ⟨none, 0, [], rfl, by simp [maxLen], rfl, fun i h => absurd h (Nat.not_lt_zero _)⟩

/-- Of the kids that are done: their cells, and what each owns. -/
def KidsOwn (P : Nat → Prop) (w : World) (n : Nat) (ks : List (T n)) (xs : List Value) (Ps : List (List Spot)) : Prop :=
  Own P Ps.flatten ∧ ∀ j (h : j < ks.length) (hp : j < Ps.length), ∃ c0 c1 c2 c3 c4 L3 L4, (xs[j * 5]? = some c0 ∧ xs[j * 5 + 1]? = some c1 ∧ xs[j * 5 + 2]? = some c2 ∧ xs[j * 5 + 3]? = some c3 ∧ xs[j * 5 + 4]? = some c4) ∧ Ps[j] = L3 ++ L4 ∧
    TreeIn P w n ks[j] c0 c1 c2 c3 c4 ∧ SpN w c3 L3 ∧ SpR w (n - 1) c4 L4

/-- The spots of a row of trees that a call has made. -/
theorem spr_of_owns {n : Nat} {w : World} {M : Nat} {e : TypeId} {v : Value} {l : List (T n)} {xs : List Value} {Ps : List (List Spot)} {P : Nat → Prop} (h : w.ownsRow M e 5 v l.length xs) (hl : l.length ≤ 20000) (hlp : Ps.length = l.length) (hk : KidsOwn P w n l xs Ps) (hP : ∀ b, P b → v.ownBlock ≠ some b) :
    ∃ L, SpR w n v L ∧ Own (fun b => P b ∨ v.ownBlock = some b) L ∧ L.length = 3 * l.length + Ps.flatten.length := by
  rcases id h.2 with ⟨rfl, h0⟩ | ⟨g, cap, cur, rfl, hbg, hg, hnc, hcm, hcs, htake⟩
  · have : Ps = [] := List.eq_nil_of_length_eq_zero (by omega)
    subst this
    exact ⟨[], SpR.no w n, Own.nil _, by simp [h0]⟩
  · have hnz : ∀ (i : Nat), i < l.length → n ≠ 0 := by
      intro i hi hn
      subst hn
      obtain ⟨c0, c1, c2, c3, c4, L3, L4, -, -, ht, -⟩ := hk.2 i hi (by omega)
      exact ht.elim
    have hfin : ∀ i (hi : i < l.length), ((List.range l.length).map (fun i => sp5 g (0 + i * 5) ++ Ps.getD i []))[i]'(by simpa using hi) = sp5 g (0 + i * 5) ++ Ps[i]'(by omega) := by
      intro i hi
      have : i < Ps.length := by omega
      simp [List.getD, this]
    have hown : Own (fun b => P b ∨ (Value.slice (some ⟨g, 0, none⟩) l.length cap).ownBlock = some b) ((List.range l.length).map (fun i => sp5 g (0 + i * 5) ++ Ps.getD i [])).flatten := by
      have hpp := List.pairwise_flatten.1 hk.1.2
      have hin : ∀ i s, s ∈ Ps.getD i [] → P s.b := fun i s hs => by
        by_cases hi : i < Ps.length
        · rw [List.getD_eq_getElem?_getD, List.getElem?_eq_getElem hi, Option.getD_some] at hs
          exact hk.1.1 s (List.mem_flatten.2 ⟨_, List.getElem_mem hi, hs⟩)
        · rw [List.getD_eq_getElem?_getD, List.getElem?_eq_none (by omega)] at hs; cases hs
      have h5 : ∀ o (s : Spot), s ∈ sp5 g o → s.b = g ∧ o ≤ s.o ∧ s.o ≤ o + 2 := fun o s hs => by
        simp only [sp5, List.mem_cons, List.not_mem_nil, or_false] at hs
        rcases hs with rfl | rfl | rfl <;> exact ⟨rfl, by simp, by simp⟩
      have hne : ∀ (s : Spot), P s.b → s.b ≠ g := fun s hs e => hP g (by rw [← e]; exact hs) rfl
      refine ⟨fun s hs => ?_, List.pairwise_flatten.2 ⟨fun x hx => ?_, ?_⟩⟩
      · obtain ⟨x, hx, hsx⟩ := List.mem_flatten.1 hs
        obtain ⟨i, hi, rfl⟩ := List.mem_map.1 hx
        rcases List.mem_append.1 hsx with h1 | h1
        · right; rw [(h5 _ s h1).1]; rfl
        · left; exact hin i s h1
      · obtain ⟨i, hi, rfl⟩ := List.mem_map.1 hx
        refine List.pairwise_append.2 ⟨?_, ?_, fun a ha b hb => at_ne fun e => hne b (hin i b hb) (by rw [← e, (h5 _ a ha).1])⟩
        · simp [sp5, Spot.at]
        · by_cases hi : i < Ps.length
          · rw [List.getD_eq_getElem?_getD, List.getElem?_eq_getElem hi, Option.getD_some]
            exact hpp.1 _ (List.getElem_mem hi)
          · rw [List.getD_eq_getElem?_getD, List.getElem?_eq_none (by omega)]; exact List.Pairwise.nil
      · refine List.pairwise_map.2 (List.Pairwise.imp (fun {i j} hij a ha b hb => ?_) List.pairwise_lt_range)
        rcases List.mem_append.1 ha with h1 | h1
        · rcases List.mem_append.1 hb with h2 | h2
          · intro e
            have e' : a.o = b.o := by simpa [Spot.at] using congrArg Addr.off e
            have q1 := (h5 _ a h1).2.2
            have q2 := (h5 _ b h2).2.1
            omega
          · exact at_ne fun e => hne b (hin j b h2) (by rw [← e, (h5 _ a h1).1])
        · rcases List.mem_append.1 hb with h2 | h2
          · exact at_ne fun e => hne a (hin i a h1) (by rw [e, (h5 _ b h2).1])
          · by_cases hj : j < Ps.length
            · rw [List.getD_eq_getElem?_getD, List.getElem?_eq_getElem hj, Option.getD_some] at h2
              rw [List.getD_eq_getElem?_getD, List.getElem?_eq_getElem (by omega : i < Ps.length), Option.getD_some] at h1
              exact (List.pairwise_iff_getElem.1 hpp.2) i j (by omega) hj hij a h1 b h2
            · rw [List.getD_eq_getElem?_getD, List.getElem?_eq_none (by omega)] at h2; cases h2
    have hlen : ((List.range l.length).map (fun i => sp5 g (0 + i * 5) ++ Ps.getD i [])).flatten.length = 3 * l.length + Ps.flatten.length := by
      have e : Ps = (List.range l.length).map (fun i => Ps.getD i []) := by
        refine List.ext_getElem (by simp [hlp]) fun i h1 h2 => ?_
        simp [List.getD, h1]
      conv => rhs; rw [e]
      generalize l.length = m
      induction m with
      | zero => rfl
      | succ m ih =>
        rw [List.range_succ, List.map_append, List.flatten_append, List.length_append, ih, List.map_append, List.flatten_append, List.length_append]
        simp [sp5]; omega
    refine ⟨_, ?_, hown, hlen⟩
    cases n with
    | zero =>
      have h0 : l.length = 0 := Nat.eq_zero_of_not_pos fun hpos => hnz 0 hpos rfl
      exact ⟨some ⟨g, 0, none⟩, cap, by rw [h0], by rw [h0]; rfl⟩
    | succ m =>
      refine ⟨some ⟨g, 0, none⟩, cap, _, by rw [List.length_map, List.length_range], by simp [maxLen]; omega, rfl, fun i hi => ?_⟩
      have hi' : i < l.length := by simpa using hi
      obtain ⟨c0, c1, c2, c3, c4, L3, L4, ⟨e0, e1, e2, e3, e4⟩, hPi, ht, h3, h4⟩ := hk.2 i hi' (by omega)
      have hc : ∀ j u, xs[j]? = some u → w.cell? ⟨g, 0 + j, none⟩ = some u := fun j u hu => by
        have := h.cells (g := g) rfl j u hu
        rwa [Addr.add_lit] at this
      obtain ⟨rfl, rfl, rfl, -⟩ := ht
      refine ⟨g, 0, c3, c4, L3, L4, rfl, by rw [hfin i hi', hPi], fun s hs => ?_, hc _ _ e3, hc _ _ e4, h3, h4⟩
      have hf : ∀ o, w.frozen? ⟨g, o, none⟩ = false := fun o => by simp [World.frozen?, hg]
      simp only [sp5, List.mem_cons, List.not_mem_nil, or_false] at hs
      rcases hs with rfl | rfl | rfl
      · exact ⟨⟨_, hc _ _ e0⟩, hf _⟩
      · exact ⟨⟨_, hc _ _ e1⟩, hf _⟩
      · exact ⟨⟨_, hc _ _ e2⟩, hf _⟩

end Go.Proofs.YtfbfchffnapnnaaGreatDoor

/-
  The text of a form, by the specification; of any tree; TreeWrite of the specification.
-/
namespace Go.Proofs.YtfbfchffnapnnaaGreatDoor
open Go.RowKit

/-- What TreeWrite answers. -/
def textF (n : Nat) (t : T n) : ByteArray := if okT n t = true then bs (txtL n t) else bs []

theorem okT_get {n : Nat} {t : T n} (h : okT n t = true) : goodT n t 1 = true ∧ cntT n t ≤ 120 := by
  simpa only [okT, Bool.and_eq_true, decide_eq_true_eq] using h

end Go.Proofs.YtfbfchffnapnnaaGreatDoor

/-
  The text of a tree, by the program: appendList, appendForm, appendMaybe.
-/
namespace Go.Proofs.YtfbfchffnapnnaaGreatDoor
open Go.RowKit

/-- The table of tens, whatever is done from block B on. -/
def Tens (B : Nat) (w : World) : Prop := Lib.TabBelow Tryz.prog B w "internal/strconv.uint64pow10" .u64 Lib.pow10Tab

/-- appendTree at trees of at most n levels. -/
def AppSaid (n : Nat) : Prop := ∀ (B : Nat) (w0 w : World) (v : Value) (l : List UInt8) (t : T n) (iv : Value) (d : Int), Buf B w0 w v l → InnerT (fun b => b < B) w n t iv → goodT n t d = true → cntT n t ≤ 120 → l.length + (txtL n t).length ≤ 20000 → Tens B w →
  Calls Tryz.prog 30 #[v, iv] w fun e w' => ∃ v', e = .returned v' ∧ Buf B w0 w' v' (l ++ txtL n t)

theorem Tens.on {B : Nat} {w w' : World} (h : Tens B w) (hb : Below B w w') : Tens B w' := Lib.TabBelow.on h hb

theorem buf_cast {B : Nat} {w0 w : World} {v : Value} {l l' : List UInt8} (h : Buf B w0 w v l) (e : l = l') : Buf B w0 w v l' := e ▸ h

set_option maxRecDepth 20000 in
set_option maxHeartbeats 400000 in
theorem appendList_any (n : Nat) (hn : AppSaid n) (B : Nat) (w0 w : World) (v : Value) (l : List UInt8) (ks : List (T n)) (kv : Value) (d : Int) (hb : Buf B w0 w v l) (hr : Row1 (fun b => b < B) w (InnerT (fun b => b < B) w n) ks kv)
    (hg : ks.all (fun x => goodT n x d) = true) (hc : 1 + sumL (fun x => cntT n x) ks ≤ 120) (hl : l.length + (joinL (ks.map (txtL n))).length + 2 ≤ 20000) (hT : Tens B w) :
    Calls Tryz.prog 71 #[v, kv] w fun e w' => ∃ v', e = .returned v' ∧ Buf B w0 w' v' (l ++ (91 :: joinL (ks.map (txtL n)) ++ [93])) := by
  obtain ⟨ao, cap, rfl, hlen, hcell⟩ := hr
  unfold maxLen at hlen
  obtain ⟨va, vn, vc, rfl⟩ := hb.shape
  have HG : Hid (∀ k (h : k < ks.length), goodT n ks[k] d = true ∧ cntT n ks[k] ≤ 120) := fun k h => by
    refine ⟨List.all_eq_true.1 hg _ (List.getElem_mem h), ?_⟩
    have := sumL_mono (fun x => cntT n x) ks _ (List.getElem_mem h)
    omega
  have HSz : Hid (∀ k, (joinL ((ks.map (txtL n)).take k)).length ≤ (joinL (ks.map (txtL n))).length) := fun k => joinL_take_len _ k
  have HB0 : Hid (Buf B w0 w (.slice va vn vc) l) := hb
  clear hg
  go_enter Tryz.func71, Tryz.ntmps71
  go_wp2_with (at_builtin; refine wpList_buf_byte rfl (.tmp 7) (.tmp 8) rfl B (.slice va vn vc) l rfl w w 91 91 rfl hb.here rfl (by omega) ?_; intro v1 w1 hb1; obtain ⟨va1, vn1, vc1, rfl⟩ := hb1.shape; refine Hid.out ?_)
  refine Lib.hid ?_
  go_wp2_with fail
  go_loopw [0, 12] (fun a i wr => ∃ k : Nat, k ≤ ks.length ∧ i = .int .i64 k ∧ Buf B w wr a (l ++ [91] ++ joinL ((ks.map (txtL n)).take k))) (fun _ i _ => ks.length - (intOf i).toNat)
  case atStart => exact ⟨0, Nat.zero_le _, rfl, buf_cast hb1 (by simp [joinL])⟩
  case round =>
    obtain ⟨k, hk, rfl, hbr⟩ := hrel
    obtain ⟨va2, vn2, vc2, rfl⟩ := hbr.shape
    have hsk := HSz.out k
    by_cases hlt : k < ks.length
    · obtain ⟨b, off, rfl, hbB, hcl⟩ := hcell (by intro h; rw [h] at hlt; simp at hlt)
      obtain ⟨c, e0, hin⟩ := hcl k hlt
      obtain ⟨ku, kx, rfl⟩ := hin.iface
      have f0 := (hbr.below.cell (p := ⟨b, off + k, none⟩) hbB).trans e0
      have hgk := HG.out k hlt
      have hml : k < (ks.map (txtL n)).length := by simpa using hlt
      have HS : Hid (joinL ((ks.map (txtL n)).take (k + 1)) = (if k = 0 then [] else joinL ((ks.map (txtL n)).take k) ++ [44]) ++ txtL n ks[k]) := by show _ = _; rw [joinL_take_succ _ _ hml]; simp
      have HIn : Hid (∀ W, Below B w W → InnerT (fun b => b < B) W n ks[k] (.iface ku kx)) := fun W hW => hin.keep (same_below hW (fun _ h => h)) (fun _ h => h)
      clear hcell hcl e0 hin hml
      have HBr : Hid _ := hbr
      clear hbr
      rcases Nat.eq_zero_or_pos k with rfl | hkp
      · rw [Nat.add_zero] at f0
        go_wp2_with fail
        refine (hn B w wr _ _ ks[0] _ d HBr.out (HIn.out _ HBr.out.below) hgk.1 hgk.2 (by have h1 := HSz.out (0 + 1); rw [HS.out] at h1; simp [joinL] at h1 ⊢; omega) (hT.on HBr.out.below)).mono ?_
        rintro e w2 ⟨v2, rfl, hb2⟩
        obtain ⟨va3, vn3, vc3, rfl⟩ := hb2.shape
        have HF := buf_cast hb2 (l' := l ++ [91] ++ joinL ((ks.map (txtL n)).take (0 + 1))) (by rw [HS.out]; simp [joinL])
        have HF' : Hid _ := HF
        clear hb2 f0 HF
        go_wp2_with fail
        go_roundw
        case rel => exact ⟨0 + 1, by omega, by go_num, HF'.out⟩
        case measure => simp [intOf]; omega
      · have hk0 : decide ((0 : Int) < (k : Int)) = true := decide_eq_true (by omega)
        go_wp2_with (at_builtin; refine wpList_buf_byte rfl (.tmp 19) (.tmp 20) rfl B (.slice va2 vn2 vc2) _ rfl w wr 44 44 rfl HBr.out rfl (by simp; omega) ?_; intro v3 w3 hb3; obtain ⟨va3, vn3, vc3, rfl⟩ := hb3.shape; refine Hid.out ?_)
        refine Lib.hid ?_
        have HB3 : Hid _ := hb3
        clear hb3
        go_wp2_with fail
        refine (hn B w w3 _ _ ks[k] _ d HB3.out (HIn.out _ HB3.out.below) hgk.1 hgk.2 (by have h1 := HSz.out (k + 1); rw [HS.out, if_neg (by omega)] at h1; simp at h1 ⊢; omega) (hT.on HB3.out.below)).mono ?_
        rintro e w2 ⟨v2, rfl, hb2⟩
        obtain ⟨va4, vn4, vc4, rfl⟩ := hb2.shape
        have HF : Hid _ := buf_cast hb2 (l' := l ++ [91] ++ joinL ((ks.map (txtL n)).take (k + 1))) (by rw [HS.out, if_neg (by omega)]; simp)
        clear hb2 f0 HB3 HBr
        go_wp2_with fail
        go_roundw
        case rel => exact ⟨k + 1, by omega, by go_num, HF.out⟩
        case measure => simp [intOf]; omega
    · have hkl : k = ks.length := by omega
      have HBr : Hid (Buf B w wr (.slice va2 vn2 vc2) (l ++ [91] ++ joinL (ks.map (txtL n)))) := buf_cast hbr (by rw [hkl, ← List.length_map (f := txtL n), List.take_length])
      clear hcell hbr hkl
      go_wp2_with (at_builtin; refine wpList_buf_byte rfl (.tmp 26) (.tmp 27) rfl B (.slice va2 vn2 vc2) _ rfl w wr 93 93 rfl HBr.out rfl (by simp; omega) ?_; intro v3 w3 hb3; obtain ⟨va3, vn3, vc3, rfl⟩ := hb3.shape; refine Hid.out ?_)
      refine Lib.hid ?_
      have HF : Hid _ := buf_cast (hb3.from HB0.out) (l' := l ++ (91 :: joinL (ks.map (txtL n)) ++ [93])) (by simp)
      clear hb3 HBr
      go_wp2_with fail
      go_ret
      exact ⟨_, rfl, HF.out⟩

end Go.Proofs.YtfbfchffnapnnaaGreatDoor

/-
  What is read of the text of a schema, and of no text; a code behind a call.
-/
namespace Go.Proofs.YtfbfchffnapnnaaGreatDoor
open Go.RowKit

theorem readK_text {m : Nat} {k : K (m + 1)} (h : okK (m + 1) k = true) : ansR m (textKF (m + 1) k) = k ∧ okR m (textKF (m + 1) k) = true := by
  have ht : (textKF (m + 1) k).data.toList = txtK (m + 1) k := by unfold textKF; rw [if_pos h]; rfl
  exact ansR_some (readK_of (textKF_800 _ _) h ht.symm)

end Go.Proofs.YtfbfchffnapnnaaGreatDoor

/-
  How long the text of a tree may be.
-/
namespace Go.Proofs.YtfbfchffnapnnaaGreatDoor
open Go.RowKit

theorem textF_10000 (n : Nat) (t : T n) : (textF n t).size ≤ 10000 := by
  unfold textF
  split
  · next h => rw [bs_size]; have := txtL_len n t 1 (okT_get h).1; have := (okT_get h).2; omega
  · rw [bs_size]; simp

end Go.Proofs.YtfbfchffnapnnaaGreatDoor
