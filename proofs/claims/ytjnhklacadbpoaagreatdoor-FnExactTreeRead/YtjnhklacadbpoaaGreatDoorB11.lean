/-
  Several texts in one, in their order.
-/
import Derived.Test.YtjnhklacadbpoaaGreatDoorTRdL
import Derived.Test.YtjnhklacadbpoaaGreatDoorB9
import Derived.Test.YtjnhklacadbpoaaGreatDoorParse2

/-
  The specification's reader of a form: plain mathematics of a round.
-/
namespace Go.Proofs.YtjnhklacadbpoaaGreatDoor
open Go.RowKit

/-- Behind a colon. -/
def Colon (s : ByteArray) (j i3 : Nat) (bad1 bad3 : Bool) : Prop :=
  (eatP [58] (s.data.toList.drop j) = some (s.data.toList.drop (j + 1)) ∧ j + 1 ≤ s.size ∧ i3 = j + 1 ∧ bad3 = bad1) ∨ (eatP [58] (s.data.toList.drop j) = none ∧ i3 = j ∧ bad3 = true)

/-- What the loop of a form holds. -/
def FormInv (m n : Nat) (s : ByteArray) (i : Nat) (ns : List ByteArray) (ks : List (T m)) (i' : Nat) (bad' : Bool) : Prop :=
  i < i' ∧ (bad' = false → i' ≤ s.size) ∧ i' ≤ s.size + n ∧ ks.length ≤ i' + (if bad' = true then 1 else 0) ∧ ns.length = ks.length ∧
    ∀ (ns0 : List ByteArray) (ks0 : List (T m)) post, ns0.length = ks0.length → (∀ x, x ∈ ns0 → nameB x = true) → s.data.toList.drop (i + 1) = joinL (zipL ns0 (ks0.map (txtL m))) ++ 125 :: post → (∀ k, k ∈ ks0 → goodT m k (7 - (n : Int)) = true) →
      ∃ k, k ≤ ks0.length ∧ ks = ks0.take k ∧ ns = ns0.take k ∧ bad' = false ∧ s.data.toList.drop i' = tailL (decide (k = 0)) ((zipL ns0 (ks0.map (txtL m))).drop k) ++ 125 :: post

theorem name_head {x : ByteArray} (h : nameB x = true) : ∃ c r, x.data.toList = c :: r ∧ nmByte c = true := by
  have hsz : 1 ≤ x.size := by simp only [nameB, Bool.and_eq_true, decide_eq_true_eq] at h; exact h.1.1.1
  cases hd : x.data.toList with
  | nil =>
    have h1 : x.data.toList.length = 0 := by rw [hd]; rfl
    have h2 : x.data.toList.length = x.size := by simp
    omega
  | cons c r => exact ⟨c, r, rfl, nameB_bytes h c (by rw [hd]; exact List.mem_cons_self ..)⟩

theorem form_step {m n : Nat} {s : ByteArray} {i : Nat} {ns : List ByteArray} {ks : List (T m)} {i' i1 i3 i2 : Nat} {bad1 bad3 bad2 : Bool} {t2 : T m} (hI : FormInv m n s i ns ks i' false) (hne : ¬ lookB s i' = 125) (hc : Comma s ks.length i' i1 bad1)
    (hco : Colon s (i1 + ((s.data.toList.drop i1).takeWhile nmByte).length) i3 bad1 bad3)
    (hp : i3 ≤ i2 ∧ (bad2 = false → bad3 = false ∧ i3 < i2 ∧ i2 ≤ s.size) ∧ (bad3 = false → i2 ≤ s.size + n) ∧ (bad3 = true → i2 = i3) ∧
      (∀ (t0 : T m) post, bad3 = false → s.data.toList.drop i3 = txtL m t0 ++ post → goodT m t0 (7 - (n : Int)) = true → noDig post = true → t2 = t0 ∧ bad2 = false ∧ i2 = i3 + (txtL m t0).length)) 
    (hsz : i1 + ((s.data.toList.drop i1).takeWhile nmByte).length ≤ s.size) :
    FormInv m n s i (ns ++ [bs ((s.data.toList.drop i1).takeWhile nmByte)]) (ks ++ [t2]) i2 bad2 ∧ (if bad2 = true then 0 else s.size + 1 - i2) < s.size + 1 - i' := by
  obtain ⟨h1, h2, h3, h4, h6, h5⟩ := hI
  obtain ⟨p1, p2, p3, p4, p5⟩ := hp
  have h2 := h2 rfl
  have h4 : ks.length ≤ i' := by simpa using h4
  have hi1 : i' ≤ i1 := by
    rcases hc with ⟨-, h, -⟩ | ⟨-, ⟨-, -, h, -⟩ | ⟨-, h, -⟩⟩ <;> omega
  have hi3 : i1 ≤ i3 ∧ i3 ≤ s.size := by
    rcases hco with ⟨-, h, h', -⟩ | ⟨-, h, -⟩ <;> omega
  refine ⟨⟨by omega, fun h => (p2 h).2.2, ?_, ?_, by simp [h6], fun ns0 ks0 post hlen hnm he hg => ?_⟩, ?_⟩
  · cases bad3 with
    | false => exact p3 rfl
    | true => have := p4 rfl; omega
  · rw [List.length_append, List.length_singleton]
    cases bad2 with
    | false => have := (p2 rfl).2.1; simp; omega
    | true => simp; omega
  · obtain ⟨k, hk, hks, hns, -, hd⟩ := h5 ns0 ks0 post hlen hnm he hg
    have hkl : ks.length = k := by rw [hks, List.length_take]; omega
    have hzl : (zipL ns0 (ks0.map (txtL m))).length = ks0.length := by rw [zipL_length _ _ (by simpa using hlen)]; simp
    have hlt : k < ks0.length := by
      refine Classical.byContradiction fun hge => hne ?_
      have : (zipL ns0 (ks0.map (txtL m))).drop k = [] := List.drop_of_length_le (by omega)
      rw [this] at hd
      unfold lookB
      rw [hd]; rfl
    have hlt' : k < (zipL ns0 (ks0.map (txtL m))).length := by omega
    have hkn : k < ns0.length := by omega
    rw [List.drop_eq_getElem_cons hlt', zipL_get _ _ _ hkn (by simpa using hlt) hlt', List.getElem_map, tailL, List.append_assoc] at hd
    have hrest : bad1 = false ∧ s.data.toList.drop i1 = ns0[k].data.toList ++ 58 :: (txtL m ks0[k] ++ (tailL false ((zipL ns0 (ks0.map (txtL m))).drop (k + 1)) ++ 125 :: post)) := by
      by_cases hk0 : k = 0
      · simp only [hk0, decide_true, if_true, List.append_assoc, List.cons_append] at hd
        rcases hc with ⟨-, h, hb⟩ | ⟨h, -⟩
        · refine ⟨hb, ?_⟩
          rw [h, hd]
          simp only [hk0]
        · exact absurd (by omega) h
      · simp only [hk0, decide_false, Bool.false_eq_true, if_false, List.cons_append, List.append_assoc] at hd
        rcases hc with ⟨h, -⟩ | ⟨-, ⟨he1, -, h, hb⟩ | ⟨he1, -⟩⟩
        · exact absurd (by omega) hk0
        · refine ⟨hb, ?_⟩
          rw [hd, eatP_one_cons] at he1
          rw [h]
          exact (Option.some.inj he1).symm
        · rw [hd, eatP_one_cons] at he1; cases he1
    have hnk := hnm ns0[k] (List.getElem_mem hkn)
    have htw : (s.data.toList.drop i1).takeWhile nmByte = ns0[k].data.toList := by
      rw [hrest.2]
      exact takeWhile_all _ _ (nameB_bytes hnk) (by intro c r e; cases e; decide)
    have hdj : s.data.toList.drop (i1 + ((s.data.toList.drop i1).takeWhile nmByte).length) = 58 :: (txtL m ks0[k] ++ (tailL false ((zipL ns0 (ks0.map (txtL m))).drop (k + 1)) ++ 125 :: post)) := by
      rw [htw, ← List.drop_drop, hrest.2, List.drop_left]
    have hcol : bad3 = false ∧ s.data.toList.drop i3 = txtL m ks0[k] ++ (tailL false ((zipL ns0 (ks0.map (txtL m))).drop (k + 1)) ++ 125 :: post) := by
      rcases hco with ⟨he1, -, h, hb⟩ | ⟨he1, -⟩
      · rw [hdj, eatP_one_cons] at he1
        exact ⟨by rw [hb]; exact hrest.1, by rw [h]; exact (Option.some.inj he1).symm⟩
      · rw [hdj, eatP_one_cons] at he1; cases he1
    have hnd : noDig (tailL false ((zipL ns0 (ks0.map (txtL m))).drop (k + 1)) ++ 125 :: post) = true := by
      cases (zipL ns0 (ks0.map (txtL m))).drop (k + 1) with
      | nil => rfl
      | cons y r => rw [tailL_cons_false]; rfl
    obtain ⟨q1, q2, q3⟩ := p5 ks0[k] _ hcol.1 hcol.2 (hg _ (List.getElem_mem hlt)) hnd
    refine ⟨k + 1, by omega, ?_, ?_, q2, ?_⟩
    · rw [List.take_succ_eq_append_getElem hlt, ← hks, q1]
    · rw [List.take_succ_eq_append_getElem hkn, ← hns, htw, bs_of]
    · rw [q3, ← List.drop_drop, hcol.2, List.drop_left]
      simp
  · cases bad2 with
    | true => simp; omega
    | false => have := (p2 rfl).2; simp; omega

end Go.Proofs.YtjnhklacadbpoaaGreatDoor

/-
  The specification's reader of trees: plain mathematics of what it goes over.
-/
namespace Go.Proofs.YtjnhklacadbpoaaGreatDoor
open Go.RowKit

/-- What the reading of a tree makes of the place, n levels being left. -/
def GotT (m n : Nat) (s : ByteArray) (i : Nat) (bad : Bool) (t : T m) (i' : Nat) (bad' : Bool) : Prop :=
  i ≤ i' ∧ (bad' = false → bad = false ∧ i < i' ∧ i' ≤ s.size) ∧ (bad = false → i' ≤ s.size + n) ∧ (bad = true → i' = i) ∧
    (∀ (t0 : T m) post, bad = false → s.data.toList.drop i = txtL m t0 ++ post → goodT m t0 (7 - (n : Int)) = true → noDig post = true → t = t0 ∧ bad' = false ∧ i' = i + (txtL m t0).length)

/-- The eight makes of a tree that is ok by itself. -/
theorem goodT_cases {m : Nat} {t : T (m + 1)} {d : Int} (h : goodT (m + 1) t d = true) :
    (∃ k : Int, (-999999999 ≤ k ∧ k ≤ 999999999) ∧ t = (⟨1, k, ByteArray.empty, [], []⟩ : Nd (T m)) ∧ txtL (m + 1) t = Lib.itoa k) ∨
    (∃ x : ByteArray, textB x = true ∧ t = (⟨2, 0, x, [], []⟩ : Nd (T m)) ∧ txtL (m + 1) t = 34 :: (x.data.toList ++ [34])) ∨
    (t = (⟨3, 1, ByteArray.empty, [], []⟩ : Nd (T m)) ∧ txtL (m + 1) t = [121, 101, 115]) ∨ (t = (⟨3, 0, ByteArray.empty, [], []⟩ : Nd (T m)) ∧ txtL (m + 1) t = [110, 111]) ∨
    (∃ ks, t = (⟨4, 0, ByteArray.empty, [], ks⟩ : Nd (T m)) ∧ (∀ k, k ∈ ks → goodT m k (d + 1) = true) ∧ txtL (m + 1) t = 91 :: (joinL (ks.map (txtL m)) ++ [93])) ∨
    (∃ ns ks, t = (⟨5, 0, ByteArray.empty, ns, ks⟩ : Nd (T m)) ∧ ns.length = ks.length ∧ (∀ x, x ∈ ns → nameB x = true) ∧ (∀ k, k ∈ ks → goodT m k (d + 1) = true) ∧ txtL (m + 1) t = 123 :: (joinL (zipL ns (ks.map (txtL m))) ++ [125])) ∨
    (t = (⟨6, 0, ByteArray.empty, [], []⟩ : Nd (T m)) ∧ txtL (m + 1) t = [126]) ∨
    (∃ k, t = (⟨6, 0, ByteArray.empty, [], [k]⟩ : Nd (T m)) ∧ goodT m k (d + 1) = true ∧ txtL (m + 1) t = 63 :: txtL m k) := by
  simp only [goodT, Bool.and_eq_true] at h
  have ha : aloneB (show Nd (T m) from t) = true := h.1.2
  have hk := List.all_eq_true.1 h.2
  obtain ⟨so, nu, tx, na, ki⟩ : Nd (T m) := t
  simp only [aloneB] at ha hk
  unfold aloneF at ha
  have nil1 : ∀ l : List ByteArray, (l.length : Int) = 0 → l = [] := fun l hl => List.eq_nil_of_length_eq_zero (by omega)
  have nil2 : ∀ l : List (T m), (l.length : Int) = 0 → l = [] := fun l hl => List.eq_nil_of_length_eq_zero (by omega)
  by_cases h1 : so = 1
  · rw [if_pos h1] at ha
    simp only [Bool.and_eq_true, beq_iff_eq, decide_eq_true_eq] at ha
    obtain ⟨⟨⟨a1, a2⟩, a3⟩, a4⟩ := ha
    have e1 := ba_empty a2
    have e2 := nil1 _ a3
    have e3 := nil2 _ a4
    subst e1 e2 e3 h1
    exact .inl ⟨nu, a1, rfl, by simp [txtL]⟩
  rw [if_neg h1] at ha
  by_cases h2 : so = 2
  · rw [if_pos h2] at ha
    simp only [Bool.and_eq_true, beq_iff_eq] at ha
    obtain ⟨⟨⟨a1, a2⟩, a3⟩, a4⟩ := ha
    have e2 := nil1 _ a3
    have e3 := nil2 _ a4
    subst a1 e2 e3 h2
    exact .inr (.inl ⟨tx, a2, rfl, by simp [txtL]⟩)
  rw [if_neg h2] at ha
  by_cases h3 : so = 3
  · rw [if_pos h3] at ha
    simp only [Bool.and_eq_true, beq_iff_eq, decide_eq_true_eq] at ha
    obtain ⟨⟨⟨a1, a2⟩, a3⟩, a4⟩ := ha
    have e1 := ba_empty a2
    have e2 := nil1 _ a3
    have e3 := nil2 _ a4
    subst e1 e2 e3 h3
    by_cases hn : 0 < nu
    · have : nu = 1 := by omega
      subst this
      exact .inr (.inr (.inl ⟨rfl, by simp [txtL]⟩))
    · have : nu = 0 := by omega
      subst this
      exact .inr (.inr (.inr (.inl ⟨rfl, by simp [txtL]⟩)))
  rw [if_neg h3] at ha
  by_cases h4 : so = 4
  · rw [if_pos h4] at ha
    simp only [Bool.and_eq_true, beq_iff_eq, decide_eq_true_eq] at ha
    obtain ⟨⟨⟨a1, a2⟩, a3⟩, a4⟩ := ha
    have e1 := ba_empty a2
    have e2 := nil1 _ a3
    subst a1 e1 e2 h4
    exact .inr (.inr (.inr (.inr (.inl ⟨ki, rfl, fun k hk' => hk k hk', by simp [txtL]⟩))))
  rw [if_neg h4] at ha
  by_cases h5 : so = 5
  · rw [if_pos h5] at ha
    simp only [Bool.and_eq_true, beq_iff_eq] at ha
    obtain ⟨⟨⟨a1, a2⟩, a3⟩, a4⟩ := ha
    have e1 := ba_empty a2
    subst a1 e1 h5
    exact .inr (.inr (.inr (.inr (.inr (.inl ⟨na, ki, rfl, by omega, riseB_name a4, fun k hk' => hk k hk', by simp [txtL]⟩)))))
  rw [if_neg h5] at ha
  by_cases h6 : so = 6
  · rw [if_pos h6] at ha
    simp only [Bool.and_eq_true, beq_iff_eq, decide_eq_true_eq] at ha
    obtain ⟨⟨⟨a1, a2⟩, a3⟩, a4⟩ := ha
    have e1 := ba_empty a2
    have e2 := nil1 _ a3
    subst a1 e1 e2 h6
    match ki, a4, hk with
    | [], _, _ => exact .inr (.inr (.inr (.inr (.inr (.inr (.inl ⟨rfl, by simp [txtL, maybeL]⟩))))))
    | [x], _, hk => exact .inr (.inr (.inr (.inr (.inr (.inr (.inr ⟨x, rfl, hk x (List.mem_cons_self ..), by simp [txtL, maybeL]⟩))))))
    | _ :: _ :: r, a4, _ => simp at a4; omega
  · rw [if_neg h6] at ha; cases ha

theorem lookT {s : ByteArray} {i : Nat} {c : UInt8} {r : List UInt8} (h : s.data.toList.drop i = c :: r) : lookB s i = c := by
  unfold lookB; rw [h]; rfl

theorem levelsT (n : Nat) : (7 - ((n + 1 : Nat) : Int)) + 1 = 7 - (n : Int) := by omega

theorem lookItoa {s : ByteArray} {i : Nat} {k : Int} {post : List UInt8} (h : s.data.toList.drop i = Lib.itoa k ++ post) : digC (lookB s i) = true ∨ lookB s i = 45 := by
  obtain ⟨c, r, e, hc⟩ := itoa_head k
  rw [e] at h
  rw [lookT h]; exact hc

/-- A word is gone over, or isn't there. -/
theorem word_got {m n : Nat} {s x : ByteArray} {i : Nat} {i' : Nat} {bad' : Bool} {t : T (m + 1)} (hi : i ≤ s.size) (hs : (eatP x.data.toList (s.data.toList.drop i) = some (s.data.toList.drop (i + x.size)) ∧ i + x.size ≤ s.size ∧ i' = i + x.size ∧ bad' = false) ∨ (eatP x.data.toList (s.data.toList.drop i) = none ∧ i' = i ∧ bad' = true))
    (hx : 0 < x.size) (hone : ∀ (t0 : T (m + 1)) post, s.data.toList.drop i = txtL (m + 1) t0 ++ post → goodT (m + 1) t0 (7 - ((n + 1 : Nat) : Int)) = true → t0 = t ∧ txtL (m + 1) t0 = x.data.toList) :
    GotT (m + 1) (n + 1) s i false t i' bad' := by
  rcases hs with ⟨h1, h2, rfl, rfl⟩ | ⟨h1, rfl, rfl⟩
  · refine ⟨by omega, fun _ => ⟨rfl, by omega, h2⟩, fun _ => by omega, fun h => (by cases h), fun t0 post _ he hg _ => ?_⟩
    obtain ⟨q1, q2⟩ := hone t0 post he hg
    exact ⟨q1.symm, rfl, by rw [q2]; simp⟩
  · refine ⟨Nat.le_refl _, fun h => (by cases h), fun _ => by omega, fun h => (by cases h), fun t0 post _ he hg _ => ?_⟩
    obtain ⟨q1, q2⟩ := hone t0 post he hg
    rw [he, q2, eatP_append] at h1
    cases h1

theorem yes_one {m : Nat} {s : ByteArray} {i : Nat} {d : Int} (hl : lookB s i = 121) (t0 : T (m + 1)) (post : List UInt8) (he : s.data.toList.drop i = txtL (m + 1) t0 ++ post) (hg : goodT (m + 1) t0 d = true) : t0 = (⟨3, 1, ByteArray.empty, [], []⟩ : Nd (T m)) ∧ txtL (m + 1) t0 = [121, 101, 115] := by
  rcases goodT_cases hg with ⟨k, -, h1, h2⟩ | ⟨x, -, h1, h2⟩ | ⟨h1, h2⟩ | ⟨h1, h2⟩ | ⟨ks, h1, -, h2⟩ | ⟨ns, ks, h1, -, -, -, h2⟩ | ⟨h1, h2⟩ | ⟨k, h1, -, h2⟩
  · rw [h2] at he; have := lookItoa he; rw [hl] at this; exact absurd this (by decide)
  · rw [h2] at he; rw [lookT he] at hl; exact absurd hl (by decide)
  · exact ⟨h1, h2⟩
  all_goals (rw [h2] at he; rw [lookT he] at hl; exact absurd hl (by decide))

theorem no_one {m : Nat} {s : ByteArray} {i : Nat} {d : Int} (hl : lookB s i = 110) (t0 : T (m + 1)) (post : List UInt8) (he : s.data.toList.drop i = txtL (m + 1) t0 ++ post) (hg : goodT (m + 1) t0 d = true) : t0 = (⟨3, 0, ByteArray.empty, [], []⟩ : Nd (T m)) ∧ txtL (m + 1) t0 = [110, 111] := by
  rcases goodT_cases hg with ⟨k, -, h1, h2⟩ | ⟨x, -, h1, h2⟩ | ⟨h1, h2⟩ | ⟨h1, h2⟩ | ⟨ks, h1, -, h2⟩ | ⟨ns, ks, h1, -, -, -, h2⟩ | ⟨h1, h2⟩ | ⟨k, h1, -, h2⟩
  · rw [h2] at he; have := lookItoa he; rw [hl] at this; exact absurd this (by decide)
  · rw [h2] at he; rw [lookT he] at hl; exact absurd hl (by decide)
  · rw [h2] at he; rw [lookT he] at hl; exact absurd hl (by decide)
  · exact ⟨h1, h2⟩
  all_goals (rw [h2] at he; rw [lookT he] at hl; exact absurd hl (by decide))

theorem none_one {m : Nat} {s : ByteArray} {i : Nat} {d : Int} (hl : lookB s i = 126) (t0 : T (m + 1)) (post : List UInt8) (he : s.data.toList.drop i = txtL (m + 1) t0 ++ post) (hg : goodT (m + 1) t0 d = true) : t0 = (⟨6, 0, ByteArray.empty, [], []⟩ : Nd (T m)) ∧ txtL (m + 1) t0 = [126] := by
  rcases goodT_cases hg with ⟨k, -, h1, h2⟩ | ⟨x, -, h1, h2⟩ | ⟨h1, h2⟩ | ⟨h1, h2⟩ | ⟨ks, h1, -, h2⟩ | ⟨ns, ks, h1, -, -, -, h2⟩ | ⟨h1, h2⟩ | ⟨k, h1, -, h2⟩
  · rw [h2] at he; have := lookItoa he; rw [hl] at this; exact absurd this (by decide)
  case inr.inr.inr.inr.inr.inr.inl => exact ⟨h1, h2⟩
  all_goals (rw [h2] at he; rw [lookT he] at hl; exact absurd hl (by decide))

/-- A maybe that has something. -/
theorem some_got {m n : Nat} {s : ByteArray} {i i' : Nat} {bad' : Bool} {x : T m} (hl : lookB s i = 63) (hp : GotT m n s (i + 1) false x i' bad') : GotT (m + 1) (n + 1) s i false (⟨6, 0, ByteArray.empty, [], [x]⟩ : Nd (T m)) i' bad' := by
  obtain ⟨p1, p2, p3, p4, p5⟩ := hp
  refine ⟨by omega, fun h => ⟨rfl, by omega, (p2 h).2.2⟩, fun _ => by have := p3 rfl; omega, fun h => (by cases h), fun t0 post _ he hg hnd => ?_⟩
  rcases goodT_cases hg with ⟨k, -, h1, h2⟩ | ⟨x, -, h1, h2⟩ | ⟨h1, h2⟩ | ⟨h1, h2⟩ | ⟨ks, h1, -, h2⟩ | ⟨ns, ks, h1, -, -, -, h2⟩ | ⟨h1, h2⟩ | ⟨y, h1, h3, h2⟩
  · rw [h2] at he; have := lookItoa he; rw [hl] at this; exact absurd this (by decide)
  case inr.inr.inr.inr.inr.inr.inr =>
    rw [h2] at he
    rw [levelsT] at h3
    have he1 : s.data.toList.drop (i + 1) = txtL m y ++ post := by rw [← List.drop_drop, he]; rfl
    obtain ⟨q1, q2, q3⟩ := p5 y post rfl he1 h3 hnd
    exact ⟨by rw [h1, q1], q2, by rw [h2, q3, List.length_cons]; omega⟩
  all_goals (rw [h2] at he; rw [lookT he] at hl; exact absurd hl (by decide))

/-- A text. -/
theorem quoted_got {m n : Nat} {s : ByteArray} {i : Nat} {x r : List UInt8} (hl : lookB s i = 34) (hu : untilP 34 (s.data.toList.drop (i + 1)) = some (x, r)) (hsz : i + 1 + x.length + 1 ≤ s.size) :
    GotT (m + 1) (n + 1) s i false (⟨2, 0, bs x, [], []⟩ : Nd (T m)) (i + 1 + x.length + 1) false := by
  refine ⟨by omega, fun _ => ⟨rfl, by omega, hsz⟩, fun _ => by omega, fun h => (by cases h), fun t0 post _ he hg _ => ?_⟩
  rcases goodT_cases hg with ⟨k, -, h1, h2⟩ | ⟨y, h3, h1, h2⟩ | ⟨h1, h2⟩ | ⟨h1, h2⟩ | ⟨ks, h1, -, h2⟩ | ⟨ns, ks, h1, -, -, -, h2⟩ | ⟨h1, h2⟩ | ⟨y, h1, h3, h2⟩
  · rw [h2] at he; have := lookItoa he; rw [hl] at this; exact absurd this (by decide)
  · rw [h2] at he
    have he1 : s.data.toList.drop (i + 1) = y.data.toList ++ 34 :: post := by rw [← List.drop_drop, he]; simp
    rw [he1, untilP_append 34 _ _ (textB_bytes h3)] at hu
    have hxy : y.data.toList = x := (Prod.mk.inj (Option.some.inj hu)).1
    refine ⟨by rw [h1, ← hxy, bs_of], rfl, ?_⟩
    rw [h2, ← hxy]; simp; omega
  all_goals (rw [h2] at he; rw [lookT he] at hl; exact absurd hl (by decide))

theorem quoted_bad {m n : Nat} {s : ByteArray} {i : Nat} {t : T (m + 1)} (hl : lookB s i = 34) (hi : i ≤ s.size) (hu : untilP 34 (s.data.toList.drop (i + 1)) = none) : GotT (m + 1) (n + 1) s i false t s.size true := by
  refine ⟨hi, fun h => (by cases h), fun _ => by omega, fun h => (by cases h), fun t0 post _ he hg _ => ?_⟩
  rcases goodT_cases hg with ⟨k, -, h1, h2⟩ | ⟨y, h3, h1, h2⟩ | ⟨h1, h2⟩ | ⟨h1, h2⟩ | ⟨ks, h1, -, h2⟩ | ⟨ns, ks, h1, -, -, -, h2⟩ | ⟨h1, h2⟩ | ⟨y, h1, h3, h2⟩
  · rw [h2] at he; have := lookItoa he; rw [hl] at this; exact absurd this (by decide)
  · rw [h2] at he
    have he1 : s.data.toList.drop (i + 1) = y.data.toList ++ 34 :: post := by rw [← List.drop_drop, he]; simp
    rw [he1, untilP_append 34 _ _ (textB_bytes h3)] at hu
    cases hu
  all_goals (rw [h2] at he; rw [lookT he] at hl; exact absurd hl (by decide))

/-- A list. -/
theorem listT_got {m n : Nat} {s : ByteArray} {i i' : Nat} {bad' : Bool} {ks : List (T m)} (hl : lookB s i = 91) (h1 : i < i') (h2 : bad' = false → i' ≤ s.size) (h3 : i' ≤ s.size + n + 1)
    (h4 : ∀ (ks0 : List (T m)) post, s.data.toList.drop (i + 1) = joinL (ks0.map (txtL m)) ++ 93 :: post → (∀ k, k ∈ ks0 → goodT m k (7 - (n : Int)) = true) → ks = ks0 ∧ bad' = false ∧ i' = i + (joinL (ks0.map (txtL m))).length + 2) :
    GotT (m + 1) (n + 1) s i false (⟨4, 0, ByteArray.empty, [], ks⟩ : Nd (T m)) i' bad' := by
  refine ⟨by omega, fun h => ⟨rfl, h1, h2 h⟩, fun _ => by omega, fun h => (by cases h), fun t0 post _ he hg _ => ?_⟩
  rcases goodT_cases hg with ⟨k, -, q1, q2⟩ | ⟨y, q3, q1, q2⟩ | ⟨q1, q2⟩ | ⟨q1, q2⟩ | ⟨ks0, q1, q3, q2⟩ | ⟨ns, ks, q1, -, -, -, q2⟩ | ⟨q1, q2⟩ | ⟨y, q1, q3, q2⟩
  · rw [q2] at he; have := lookItoa he; rw [hl] at this; exact absurd this (by decide)
  case inr.inr.inr.inr.inl =>
    rw [q2] at he
    have he1 : s.data.toList.drop (i + 1) = joinL (ks0.map (txtL m)) ++ 93 :: post := by rw [← List.drop_drop, he]; simp
    obtain ⟨r1, r2, r3⟩ := h4 ks0 post he1 (fun k hk => by have := q3 k hk; rwa [levelsT] at this)
    exact ⟨by rw [q1, r1], r2, by rw [r3, q2]; simp; omega⟩
  all_goals (rw [q2] at he; rw [lookT he] at hl; exact absurd hl (by decide))

/-- A form. -/
theorem formT_got {m n : Nat} {s : ByteArray} {i i' : Nat} {bad' : Bool} {ns : List ByteArray} {ks : List (T m)} (hl : lookB s i = 123) (h1 : i < i') (h2 : bad' = false → i' ≤ s.size) (h3 : i' ≤ s.size + n + 1)
    (h4 : ∀ (ns0 : List ByteArray) (ks0 : List (T m)) post, ns0.length = ks0.length → (∀ x, x ∈ ns0 → nameB x = true) → s.data.toList.drop (i + 1) = joinL (zipL ns0 (ks0.map (txtL m))) ++ 125 :: post → (∀ k, k ∈ ks0 → goodT m k (7 - (n : Int)) = true) →
      ns = ns0 ∧ ks = ks0 ∧ bad' = false ∧ i' = i + (joinL (zipL ns0 (ks0.map (txtL m)))).length + 2) :
    GotT (m + 1) (n + 1) s i false (⟨5, 0, ByteArray.empty, ns, ks⟩ : Nd (T m)) i' bad' := by
  refine ⟨by omega, fun h => ⟨rfl, h1, h2 h⟩, fun _ => by omega, fun h => (by cases h), fun t0 post _ he hg _ => ?_⟩
  rcases goodT_cases hg with ⟨k, -, q1, q2⟩ | ⟨y, q3, q1, q2⟩ | ⟨q1, q2⟩ | ⟨q1, q2⟩ | ⟨ks0, q1, q3, q2⟩ | ⟨ns0, ks0, q1, q3, q4, q5, q2⟩ | ⟨q1, q2⟩ | ⟨y, q1, q3, q2⟩
  · rw [q2] at he; have := lookItoa he; rw [hl] at this; exact absurd this (by decide)
  case inr.inr.inr.inr.inr.inl =>
    rw [q2] at he
    have he1 : s.data.toList.drop (i + 1) = joinL (zipL ns0 (ks0.map (txtL m))) ++ 125 :: post := by rw [← List.drop_drop, he]; simp
    obtain ⟨r0, r1, r2, r3⟩ := h4 ns0 ks0 post q3 q4 he1 (fun k hk => by have := q5 k hk; rwa [levelsT] at this)
    exact ⟨by rw [q1, r0, r1], r2, by rw [r3, q2]; simp; omega⟩
  all_goals (rw [q2] at he; rw [lookT he] at hl; exact absurd hl (by decide))

/-- A number. -/
theorem numT_got {m n : Nat} {s : ByteArray} {i k F : Nat} {neg : Bool} {v : Int} (h1 : ¬ lookB s i = 34) (h2 : ¬ lookB s i = 121) (h3 : ¬ lookB s i = 110) (h4 : ¬ lookB s i = 126) (h5 : ¬ lookB s i = 63) (h6 : ¬ lookB s i = 91) (h7 : ¬ lookB s i = 123)
    (hneg : neg = decide (lookB s i = 45)) (hF : F = if neg = true then i + 1 else i) (hsz : F + k ≤ s.size) (hall : ∀ c, c ∈ (s.data.toList.drop F).take k → digC c = true) (hend : k = 10 ∨ digC (lookB s (F + k)) = false)
    (hv : v = if neg = true then -(decVal ((s.data.toList.drop F).take k) : Int) else (decVal ((s.data.toList.drop F).take k) : Int)) :
    GotT (m + 1) (n + 1) s i false (⟨1, v, ByteArray.empty, [], []⟩ : Nd (T m)) (F + k) (false || k == 0) := by
  have hFi : i ≤ F := by cases neg <;> simp at hF <;> omega
  refine ⟨by omega, fun h => ⟨rfl, ?_, hsz⟩, fun _ => by omega, fun h => (by cases h), fun t0 post _ he hg hnd => ?_⟩
  · simp at h; omega
  rcases goodT_cases hg with ⟨q, q0, q1, q2⟩ | ⟨y, q3, q1, q2⟩ | ⟨q1, q2⟩ | ⟨q1, q2⟩ | ⟨ks0, q1, q3, q2⟩ | ⟨ns0, ks0, q1, q3, q4, q5, q2⟩ | ⟨q1, q2⟩ | ⟨y, q1, q3, q2⟩
  · rw [q2] at he
    obtain ⟨r1, r2, r3⟩ := num_reads s i k F neg q post q0 he hnd hneg hF hsz hall hend
    exact ⟨by rw [q1, hv, r1], by simpa using r3, by rw [q2]; exact r2⟩
  · rw [q2] at he; exact absurd (lookT he) h1
  · rw [q2] at he; exact absurd (lookT he) h2
  · rw [q2] at he; exact absurd (lookT he) h3
  · rw [q2] at he; exact absurd (lookT he) h6
  · rw [q2] at he; exact absurd (lookT he) h7
  · rw [q2] at he; exact absurd (lookT he) h4
  · rw [q2] at he; exact absurd (lookT he) h5

end Go.Proofs.YtjnhklacadbpoaaGreatDoor
