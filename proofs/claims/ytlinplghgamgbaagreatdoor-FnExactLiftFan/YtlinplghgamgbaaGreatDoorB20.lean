/-
  Several texts in one, in their order.
-/
import Derived.Test.YtlinplghgamgbaaGreatDoorB13
import Derived.Test.YtlinplghgamgbaaGreatDoorB18
import Derived.Test.YtlinplghgamgbaaGreatDoorB3

/-
  The specification on upcasters' nodes: words, names, kids of an op; which names are free.
-/
namespace Go.Proofs.YtlinplghgamgbaaGreatDoor
open Go.RowKit

theorem op_cases (k : Nat) (h : k < 44) : k = 0 ∨ k = 1 ∨ k = 2 ∨ k = 3 ∨ k = 4 ∨ k = 5 ∨ k = 6 ∨ k = 7 ∨ k = 8 ∨ k = 9 ∨ k = 10 ∨ k = 11 ∨ k = 12 ∨ k = 13 ∨ k = 14 ∨ k = 15 ∨ k = 16 ∨ k = 17 ∨ k = 18 ∨ k = 19 ∨ k = 20 ∨ k = 21 ∨ k = 22 ∨ k = 23 ∨ k = 24 ∨ k = 25 ∨ k = 26 ∨ k = 27 ∨ k = 28 ∨ k = 29 ∨ k = 30 ∨ k = 31 ∨ k = 32 ∨ k = 33 ∨ k = 34 ∨ k = 35 ∨ k = 36 ∨ k = 37 ∨ k = 38 ∨ k = 39 ∨ k = 40 ∨ k = 41 ∨ k = 42 ∨ k = 43 := by omega

/-- What the kids of an op are, as the specification spells it. -/
def kdS (k : Nat) : List UInt8 := (kdV k).map (fun v => if v = 65 then 97 else 118)

/-- How many names an op has. -/
def nmS (k : Nat) : Nat := ((preL k).filter (fun p => p == 78 || p == 88)).length

/-- Whether its names are bound. -/
def bdS (k : Nat) : Bool := (preL k).contains 88

set_option maxRecDepth 20000 in
set_option maxHeartbeats 4000000 in
theorem l11Names_any (k : Nat) (hk : k < 44) (w : World) : Calls Tryz.prog 48 #[.int .i64 (k : Int)] w fun e w' => e = .returned (.int .i64 (nmS k : Nat)) ∧ w' = w := by
  rcases op_cases k hk with rfl | rfl | rfl | rfl | rfl | rfl | rfl | rfl | rfl | rfl | rfl | rfl | rfl | rfl | rfl | rfl | rfl | rfl | rfl | rfl | rfl | rfl | rfl | rfl | rfl | rfl | rfl | rfl | rfl | rfl | rfl | rfl | rfl | rfl | rfl | rfl | rfl | rfl | rfl | rfl | rfl | rfl | rfl | rfl
  all_goals
    go_enter Tryz.func48, Tryz.ntmps48
    go_wp2
    go_ret
    exact ⟨ret_int (by decide), rfl⟩

set_option maxRecDepth 20000 in
set_option maxHeartbeats 4000000 in
theorem l11Binds_any (k : Nat) (hk : k < 44) (w : World) : Calls Tryz.prog 50 #[.int .i64 (k : Int)] w fun e w' => e = .returned (.bool (bdS k)) ∧ w' = w := by
  rcases op_cases k hk with rfl | rfl | rfl | rfl | rfl | rfl | rfl | rfl | rfl | rfl | rfl | rfl | rfl | rfl | rfl | rfl | rfl | rfl | rfl | rfl | rfl | rfl | rfl | rfl | rfl | rfl | rfl | rfl | rfl | rfl | rfl | rfl | rfl | rfl | rfl | rfl | rfl | rfl | rfl | rfl | rfl | rfl | rfl | rfl
  all_goals
    go_enter Tryz.func50, Tryz.ntmps50
    go_wp2
    go_ret
    exact ⟨ret_bool (by decide), rfl⟩

end Go.Proofs.YtlinplghgamgbaaGreatDoor

/-
  The specification on upcasters' nodes: the kids of an op.
-/
namespace Go.Proofs.YtlinplghgamgbaaGreatDoor
open Go.RowKit

/-- What l11Kids says; of a form nothing that counts. -/
def kdT (k : Nat) : List UInt8 := if k = 24 then [118, 118] else kdS k

set_option maxRecDepth 20000 in
set_option maxHeartbeats 8000000 in
theorem l11Kids_any (k : Nat) (hk : k < 44) (w : World) : Calls Tryz.prog 35 #[.int .i64 (k : Int)] w fun e w' => e = .returned (.string (bs (kdT k))) ∧ w' = w := by
  have HIn : Hid (∀ x a b w, Calls Tryz.prog 45 #[.int .i64 x, .int .i64 a, .int .i64 b] w _) := fun x a b w => l6In_any x a b w
  rcases op_cases k hk with rfl | rfl | rfl | rfl | rfl | rfl | rfl | rfl | rfl | rfl | rfl | rfl | rfl | rfl | rfl | rfl | rfl | rfl | rfl | rfl | rfl | rfl | rfl | rfl | rfl | rfl | rfl | rfl | rfl | rfl | rfl | rfl | rfl | rfl | rfl | rfl | rfl | rfl | rfl | rfl | rfl | rfl | rfl | rfl
  all_goals
    go_enter Tryz.func35, Tryz.ntmps35
    go_wp2_with fail
    first
      | (go_ret; exact ⟨str_ret rfl, rfl⟩)
      | (refine (HIn.out _ _ _ _).mono ?_
         rintro e w1 ⟨rfl, rfl⟩
         go_wp2_with fail
         go_ret
         exact ⟨str_ret rfl, rfl⟩)

end Go.Proofs.YtlinplghgamgbaaGreatDoor

/-
  Plain mathematics of upcasters: what a node has ahead of its kids, as the specification asks it.
-/
namespace Go.Proofs.YtlinplghgamgbaaGreatDoor
open Go.RowKit

/-- A name of a node is one that it may have. -/
def nmOk (bd : Bool) (l : List ByteArray) (i : Nat) : Bool := nameB (l.getD i ByteArray.empty) && (!bd || freeB (l.getD i ByteArray.empty)) && !(decide (0 < i) && (l.getD i ByteArray.empty == l.getD 0 ByteArray.empty))
def nmTo (bd : Bool) (l : List ByteArray) (j : Nat) : Bool := (List.range j).all (nmOk bd l)

theorem nmTo_succ (bd : Bool) (l : List ByteArray) (k : Nat) : nmTo bd l (k + 1) = (nmTo bd l k && nmOk bd l k) := by
  simp [nmTo, List.range_succ]

theorem nmTo_false (bd : Bool) (l : List ByteArray) (k j : Nat) (h : k < j) (hf : nmOk bd l k = false) : nmTo bd l j = false := by
  unfold nmTo
  rw [List.all_eq_false]
  exact ⟨k, List.mem_range.2 h, by simp [hf]⟩

/-- The number and the text of a node. -/
def tailP {α : Type} (n : Nd α) (pre : List UInt8) : Bool :=
  match pre with
  | [84] => aloneF n.sort n.num n.text [] 0
  | [75] => (n.num == 0) && kindB n.text
  | [35] => decide (lst n.sort.toNat ≤ n.num ∧ n.num ≤ mst n.sort.toNat) && n.text.toList.isEmpty
  | [78, 35] => decide (lst n.sort.toNat ≤ n.num ∧ n.num ≤ mst n.sort.toNat) && n.text.toList.isEmpty
  | _ => (n.num == 0) && n.text.toList.isEmpty

theorem free_name (a : ByteArray) (h : freeB a = true) : nameB a = true := by
  simp only [freeB, Bool.and_eq_true] at h; exact h.1.1.1.1

theorem nm_one (bd : Bool) (a : ByteArray) : nmTo bd [a] 1 = (nameB a && (!bd || freeB a)) := by
  simp [nmTo, nmOk, List.range_succ]

theorem nm_free (a : ByteArray) : (nameB a && (!true || freeB a)) = freeB a := by
  cases h : freeB a with
  | false => simp
  | true => rw [free_name a h]; rfl

theorem nm_two (a b : ByteArray) : nmTo true [a, b] 2 = (freeB a && freeB b && !(b == a)) := by
  have e : nmTo true [a, b] 2 = ((nameB a && (!true || freeB a)) && ((nameB b && (!true || freeB b)) && !(b == a))) := by
    simp [nmTo, nmOk, List.range_succ]
  rw [e, nm_free, nm_free, Bool.and_assoc]

theorem preC_eq {α : Type} (n : Nd α) (k : Nat) (hk : k < 44) (h24 : k ≠ 24) : preC n (preL k) = ((n.names.length == nmS k) && nmTo (bdS k) n.names n.names.length && tailP n (preL k)) := by
  have hz : ∀ bd, nmTo bd n.names 0 = true := fun _ => rfl
  unfold nmS bdS
  rcases (preL_which k hk).resolve_left h24 with e | e | e | e | e | e | e | e
  all_goals rw [e]
  · cases hn : n.names with
    | nil => simp [preC, tailP, hn, nmTo]
    | cons a q => simp [preC, hn]; omega
  · cases hn : n.names with
    | nil => simp [preC, tailP, hn, nmTo]
    | cons a q => simp [preC, hn]; omega
  · cases hn : n.names with
    | nil => simp [preC, tailP, hn, nmTo]
    | cons a q => simp [preC, hn]; omega
  · cases hn : n.names with
    | nil => simp [preC, tailP, hn, nmTo]
    | cons a q => simp [preC, hn]; omega
  · match hn : n.names with
    | [] => simp [preC, hn]
    | [a] =>
      have e1 : nmTo (([88] : List UInt8).contains 88) [a] 1 = freeB a := by rw [nm_one]; exact nm_free a
      simp only [preC, tailP, hn, List.length_singleton]
      rw [show (List.filter (fun p : UInt8 => p == 78 || p == 88) [88]).length = 1 from rfl, e1]
      simp [Bool.and_comm]
    | a :: b :: q => simp [preC, hn]
  · match hn : n.names with
    | [] => simp [preC, hn]
    | [a] =>
      have e1 : nmTo (([78] : List UInt8).contains 88) [a] 1 = nameB a := by rw [nm_one]; simp
      simp only [preC, tailP, hn, List.length_singleton]
      rw [show (List.filter (fun p : UInt8 => p == 78 || p == 88) [78]).length = 1 from rfl, e1]
      simp [Bool.and_comm]
    | a :: b :: q => simp [preC, hn]
  · match hn : n.names with
    | [] => simp [preC, hn]
    | [a] => simp [preC, hn]
    | [a, b] =>
      have e1 : nmTo (([88, 88] : List UInt8).contains 88) [a, b] 2 = (freeB a && freeB b && !(b == a)) := nm_two a b
      simp only [preC, tailP, hn, List.length_cons, List.length_nil]
      rw [show (List.filter (fun p : UInt8 => p == 78 || p == 88) [88, 88]).length = 2 from rfl, e1]
      simp [Bool.and_comm]
    | a :: b :: c :: q => simp [preC, hn]
  · match hn : n.names with
    | [] => simp [preC, hn]
    | [a] =>
      have e1 : nmTo (([78, 35] : List UInt8).contains 88) [a] 1 = nameB a := by rw [nm_one]; simp
      simp only [preC, tailP, hn, List.length_singleton]
      rw [show (List.filter (fun p : UInt8 => p == 78 || p == 88) [78, 35]).length = 1 from rfl, e1]
      simp [Bool.and_comm]
    | a :: b :: q => simp [preC, hn]

/-- A node is ok but for its kids, as the specification asks it. -/
def aloneS {α : Type} (n : Nd α) (act : Bool) : Bool :=
  decide (1 ≤ n.sort ∧ n.sort ≤ 43) && (act == decide (36 ≤ n.sort)) &&
    (if n.sort = 24 then (n.num == 0) && n.text.toList.isEmpty && riseB n.names && (n.names.length == n.kids.length) && !(n.names.any (fun y => y == bs [101, 110, 100]))
     else (n.kids.length == (kdV n.sort.toNat).length) && preC n (preL n.sort.toNat))

/-- What the kid at a place must be. -/
def actAt (k i : Nat) : Bool := decide (k ≠ 24) && ((kdS k).getD i 0 == 97)

theorem po_act (op : Int) (h : 1 ≤ op ∧ op ≤ 43) : poF op = if 36 ≤ op then 65 else 86 := by
  unfold poF
  rw [if_neg (by omega)]
  by_cases h2 : op < 36
  · rw [if_pos h2, if_neg (by omega)]
  · rw [if_neg h2, if_pos (by omega)]

/-- What the specification asks of a node and what its kids are. -/
theorem just_alone {α : Type} (po : α → Int) (n : Nd α) (act : Bool) :
    (aloneS n act && (n.kids.zipIdx.all fun x => po x.1 == (if actAt n.sort.toNat x.2 = true then 65 else 86))) = (justB po n && (act == decide (36 ≤ n.sort))) := by
  by_cases hr : 1 ≤ n.sort ∧ n.sort ≤ 43
  case neg =>
    have h1 : aloneS n act = false := by unfold aloneS; rw [decide_eq_false hr]; rfl
    have h2 : justB po n = false := by unfold justB; rw [decide_eq_false hr]; rfl
    rw [h1, h2]; rfl
  unfold aloneS
  rw [decide_eq_true hr, Bool.true_and]
  cases ha : (act == decide (36 ≤ n.sort)) with
  | false => simp
  | true =>
    rw [Bool.and_true, Bool.true_and]
    by_cases h24 : n.sort = 24
    · rw [if_pos h24, just_form po n h24, h24, show (24 : Int).toNat = 24 from rfl]
      have hk : (n.kids.zipIdx.all fun x => po x.1 == (if actAt 24 x.2 = true then 65 else 86)) = n.kids.all (fun x => po x == 86) := by
        have : ∀ i, actAt 24 i = false := fun i => by simp [actAt]
        simp only [this]
        rw [Bool.eq_iff_iff, List.all_eq_true, List.all_eq_true]
        constructor
        · intro h x hx
          obtain ⟨i, hi, rfl⟩ := List.getElem_of_mem hx
          exact h (n.kids[i], i) (by rw [List.mem_zipIdx_iff_getElem?]; simp [hi])
        · intro h x hx
          have := List.mem_zipIdx hx
          exact h x.1 (by rw [this.2.2]; exact List.getElem_mem _)
      rw [hk]
      unfold fieldsB
      by_cases hl : n.names.length = n.kids.length
      · have hl' : (n.names.length == n.kids.length) = true := by simp [hl]
        rw [hl']
        have hf : fieldsTo po n n.names.length = (riseB n.names && !(n.names.any (fun y => y == bs [101, 110, 100])) && n.kids.all (fun x => po x == 86)) := by
          rw [Bool.eq_iff_iff]
          simp only [fieldsTo, riseB, riseTo, Bool.and_eq_true, List.all_eq_true, List.mem_range, Bool.not_eq_true', List.any_eq_false, fieldB]
          constructor
          · intro h
            refine ⟨⟨fun i hi => (h i hi).1.1, fun y hy => ?_⟩, fun x hx => ?_⟩
            · obtain ⟨i, hi, rfl⟩ := List.getElem_of_mem hy
              have := (h i hi).1.2
              simp only [List.getD_eq_getElem?_getD, List.getElem?_eq_getElem hi, Option.getD_some] at this
              rw [this]; decide
            · obtain ⟨i, hi, rfl⟩ := List.getElem_of_mem hx
              have := (h i (by omega)).2
              simpa [List.getD_eq_getElem?_getD, hi] using this
          · rintro ⟨⟨h1, h2⟩, h3⟩ i hi
            have hik : i < n.kids.length := by omega
            refine ⟨⟨h1 i hi, ?_⟩, ?_⟩
            · have := h2 n.names[i] (List.getElem_mem hi)
              simp only [List.getD_eq_getElem?_getD, List.getElem?_eq_getElem hi, Option.getD_some]
              simpa using this
            · have := h3 n.kids[i] (List.getElem_mem hik)
              simpa [List.getD_eq_getElem?_getD, hik] using this
        rw [hf]
        cases (n.num == 0) <;> cases n.text.toList.isEmpty <;> cases riseB n.names <;> cases (n.names.any (fun y => y == bs [101, 110, 100])) <;> cases n.kids.all (fun x => po x == 86) <;> rfl
      · have hl' : (n.names.length == n.kids.length) = false := by simp [hl]
        rw [hl']; simp
    · rw [if_neg h24, just_op po n hr.1 hr.2 h24]
      have hk44 : n.sort.toNat < 44 := by omega
      have h24' : n.sort.toNat ≠ 24 := by omega
      generalize n.sort.toNat = k at *
      have hkd : ((n.kids.length == (kdV k).length) && (n.kids.zipIdx.all fun x => po x.1 == (if actAt k x.2 = true then 65 else 86))) = decide (n.kids.map po = (kdV k).map (fun v => (v.toNat : Int))) := by
        have hlet : ∀ i (h : i < (kdV k).length), (if actAt k i = true then (65 : Int) else 86) = (((kdV k)[i]).toNat : Int) := by
          intro i hi
          have hv := kdV_only k _ (List.getElem_mem hi)
          have hm : (kdS k).getD i 0 = if (kdV k)[i] = 65 then 97 else 118 := by
            unfold kdS; simp [List.getD_eq_getElem?_getD, hi]
          unfold actAt
          rw [hm, decide_eq_true h24']
          rcases hv with e | e <;> rw [e] <;> rfl
        rw [Bool.eq_iff_iff, decide_eq_true_eq, Bool.and_eq_true, List.all_eq_true, beq_iff_eq]
        constructor
        · rintro ⟨hl, h⟩
          apply List.ext_getElem
          · simpa using hl
          · intro i h1 h2
            simp only [List.length_map] at h1 h2
            have := h (n.kids[i], i) (by rw [List.mem_zipIdx_iff_getElem?]; simp [h1])
            simp only [beq_iff_eq] at this
            rw [List.getElem_map, List.getElem_map, this, hlet i h2]
        · intro h
          have hl : n.kids.length = (kdV k).length := by simpa using congrArg List.length h
          refine ⟨hl, fun x hx => ?_⟩
          have hm := List.mem_zipIdx hx
          have hi : x.2 < n.kids.length := by omega
          have e : (n.kids.map po)[x.2]? = ((kdV k).map (fun v => (v.toNat : Int)))[x.2]? := by rw [h]
          simp only [List.getElem?_map, List.getElem?_eq_getElem hi, List.getElem?_eq_getElem (show x.2 < (kdV k).length by omega), Option.map_some, Option.some.injEq] at e
          have hx1 : x.1 = n.kids[x.2] := by simpa using hm.2.2
          rw [hx1, e, hlet x.2 (by omega)]; simp
      rw [← hkd]
      cases (n.kids.length == (kdV k).length) <;> cases preC n (preL k) <;> simp

end Go.Proofs.YtlinplghgamgbaaGreatDoor

/-
  The specification on upcasters' nodes: how many nodes there are, if they are ok.
-/
namespace Go.Proofs.YtlinplghgamgbaaGreatDoor
open Go.RowKit

/-- All nodes are ok as the specification asks them. -/
def goodS : (m : Nat) → T m → Bool → Int → Bool
  | 0, _, _, _ => false
  | m + 1, t, act, d => decide (d ≤ 24) && aloneS (show Nd (T m) from t) act && ((Nd.kids t).zipIdx.all fun x => goodS m x.1 (actAt (Nd.sort t).toNat x.2) (d + 1))

theorem goodS_eq : ∀ (m : Nat) (t : T m) (act : Bool) (d : Int), goodS m t act d = (goodN m t d && (act == decide (36 ≤ opT m t))) := by
  intro m
  induction m with
  | zero => intro t act d; rfl
  | succ m ih =>
    intro t act d
    obtain ⟨n, hn⟩ : ∃ n : Nd (T m), n = t := ⟨t, rfl⟩
    have e1 : goodS (m + 1) t act d = (decide (d ≤ 24) && aloneS n act && (n.kids.zipIdx.all fun x => goodS m x.1 (actAt n.sort.toNat x.2) (d + 1))) := by rw [hn]; rfl
    have e2 : goodN (m + 1) t d = (decide (d ≤ 24) && justB (poT m) n && n.kids.all (fun k => goodN m k (d + 1))) := by rw [hn]; rfl
    have e3 : opT (m + 1) t = n.sort := by rw [hn]; rfl
    rw [e1, e2, e3]
    have hj := just_alone (poT m) n act
    have hk : (n.kids.zipIdx.all fun x => goodS m x.1 (actAt n.sort.toNat x.2) (d + 1)) = (n.kids.all (fun k => goodN m k (d + 1)) && (n.kids.zipIdx.all fun x => actAt n.sort.toNat x.2 == decide (36 ≤ opT m x.1))) := by
      rw [Bool.eq_iff_iff, Bool.and_eq_true, List.all_eq_true, List.all_eq_true, List.all_eq_true]
      constructor
      · intro h
        refine ⟨fun k hk => ?_, fun x hx => ?_⟩
        · obtain ⟨i, hi, rfl⟩ := List.getElem_of_mem hk
          have := h (n.kids[i], i) (by rw [List.mem_zipIdx_iff_getElem?]; simp [hi])
          rw [ih, Bool.and_eq_true] at this
          exact this.1
        · have := h x hx
          rw [ih, Bool.and_eq_true] at this
          exact this.2
      · rintro ⟨h1, h2⟩ x hx
        rw [ih, Bool.and_eq_true]
        have := List.mem_zipIdx hx
        exact ⟨h1 x.1 (by rw [this.2.2]; exact List.getElem_mem _), h2 x hx⟩
    have hp : (n.kids.all (fun k => goodN m k (d + 1)) && (n.kids.zipIdx.all fun x => actAt n.sort.toNat x.2 == decide (36 ≤ opT m x.1))) = (n.kids.all (fun k => goodN m k (d + 1)) && (n.kids.zipIdx.all fun x => poT m x.1 == (if actAt n.sort.toNat x.2 = true then 65 else 86))) := by
      cases hg : n.kids.all (fun k => goodN m k (d + 1)) with
      | false => rfl
      | true =>
        rw [Bool.true_and, Bool.true_and, Bool.eq_iff_iff, List.all_eq_true, List.all_eq_true]
        rw [List.all_eq_true] at hg
        have key : ∀ x, x ∈ n.kids.zipIdx → ((actAt n.sort.toNat x.2 == decide (36 ≤ opT m x.1)) = true ↔ (poT m x.1 == (if actAt n.sort.toNat x.2 = true then 65 else 86)) = true) := by
          intro x hx
          have hm := List.mem_zipIdx hx
          have hgx := hg x.1 (by rw [hm.2.2]; exact List.getElem_mem _)
          have hr : 1 ≤ opT m x.1 ∧ opT m x.1 ≤ 43 := by
            cases m with
            | zero => simp [goodN] at hgx
            | succ m =>
              simp only [goodN, Bool.and_eq_true] at hgx
              have := hgx.1.2
              unfold justB at this
              simp only [Bool.and_eq_true, decide_eq_true_eq] at this
              exact this.1
          have hpo := po_act _ hr
          unfold poT
          rw [hpo]
          cases actAt n.sort.toNat x.2 <;> by_cases h36 : 36 ≤ opT m x.1 <;> simp [h36]
        exact ⟨fun h x hx => (key x hx).1 (h x hx), fun h x hx => (key x hx).2 (h x hx)⟩
    rw [hk, hp]
    cases decide (d ≤ 24) with
    | false => rfl
    | true =>
      rw [Bool.true_and, Bool.true_and]
      rw [← Bool.and_assoc, Bool.and_comm (aloneS n act), Bool.and_assoc, hj]
      cases justB (poT m) n <;> cases n.kids.all (fun k => goodN m k (d + 1)) <;> cases (act == decide (36 ≤ n.sort)) <;> rfl

end Go.Proofs.YtlinplghgamgbaaGreatDoor
