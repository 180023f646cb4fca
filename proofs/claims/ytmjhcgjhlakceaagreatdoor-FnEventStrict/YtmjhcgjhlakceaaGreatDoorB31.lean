/-
  Several texts in one, in their order.
-/
import Derived.Test.YtmjhcgjhlakceaaGreatDoorB15
import Derived.Test.YtmjhcgjhlakceaaGreatDoorEvWrite
import Derived.Test.YtmjhcgjhlakceaaGreatDoorB14
import Derived.Test.YtmjhcgjhlakceaaGreatDoorB18
import Derived.Test.YtmjhcgjhlakceaaGreatDoorB8
import Derived.Test.YtmjhcgjhlakceaaGreatDoorB1
import Derived.Defers
import Derived.Recover
import Derived.Test.YtmjhcgjhlakceaaGreatDoorB12
import Derived.Test.YtmjhcgjhlakceaaGreatDoorEC4
import Derived.Test.YtmjhcgjhlakceaaGreatDoorTI4
import Derived.Test.YtmjhcgjhlakceaaGreatDoorTOut3

namespace Go.Proofs.YtmjhcgjhlakceaaGreatDoor
open Go.RowKit
def txtE (n : Nat) (x : ByteArray) (v : Int) (t : T n) : List UInt8 := x.data.toList ++ 64 :: (Lib.itoa v ++ txtL n t)
theorem textE_yes {n : Nat} {x : ByteArray} {v : Int} {t : T n} (h : okE n x v t = true) : (textE n x v t).data.toList = txtE n x v t := by
 rw [textE, if_pos h]
 unfold txtE bs
 simp
theorem txtE_ne {n : Nat} {x : ByteArray} {v : Int} {t : T n} : txtE n x v t ≠ [] := by
 unfold txtE; simp
theorem takeWhile_app {p : UInt8 -> Bool} (a : List UInt8) (c : UInt8) (r : List UInt8) (ha : ∀ x, x ∈ a -> p x = true) (hc : p c = false) : (a ++ c :: r).takeWhile p = a := by
 induction a with
 | nil => simp [hc]
 | cons y a ih =>
  rw [List.cons_append, List.takeWhile_cons, if_pos (ha y (List.mem_cons_self ..)), ih (fun x hx => ha x (List.mem_cons_of_mem _ hx))]
theorem takeWhile_allE {p : UInt8 -> Bool} (a : List UInt8) (ha : ∀ x, x ∈ a -> p x = true) : a.takeWhile p = a := by
 induction a with
 | nil => rfl
 | cons y a ih => rw [List.takeWhile_cons, if_pos (ha y (List.mem_cons_self ..)), ih (fun x hx => ha x (List.mem_cons_of_mem _ hx))]
theorem dec_two (k : Nat) (h : k <= 12) : (Lib.decDigits k).length <= 2 := by
 rw [Lib.decDigits]
 split
 ·simp
 ·rw [Lib.decDigits, dif_pos (by omega)]
  simp
theorem okE_text {m : Nat} {x : ByteArray} {v : Int} {t : T (m + 1)} (h : okE (m + 1) x v t = true) : (∀ c, c ∈ x.data.toList -> nmByte c = true) /\ x.size <= 8 /\ (1 <= v /\ v <= 12) /\ goodT (m + 1) t 1 = true /\ (∃ r, txtL (m + 1) t = 123 :: r) /\ (∀ c, c ∈ Lib.itoa v -> digC c = true) /\ (Lib.itoa v).length <= 2 /\ Lib.itoa v ≠ [] := by
 simp only [okE, Bool.and_eq_true, decide_eq_true_eq] at h
 obtain ⟨⟨⟨hn, hv⟩, hs⟩, ho⟩ := h
 have hg := (okT_parts ho).1
 have hi : Lib.itoa v = Lib.decDigits v.toNat := by unfold Lib.itoa; rw [if_neg (by omega)]
 simp only [nameB, Bool.and_eq_true, decide_eq_true_eq] at hn
 refine ⟨fun c hc => List.all_eq_true.1 hn.2 c hc, hn.1.1.2, hv, hg, ?_, ?_, ?_, ?_⟩
 ·have hs' : Nd.sort t = 5 := hs
  rcases goodT_cases hg with ⟨k, q0, q1, q2⟩ | ⟨y, q3, q1, q2⟩ | ⟨q1, q2⟩ | ⟨q1, q2⟩ | ⟨ks, q1, q3, q2⟩ | ⟨ns, ks, q1, q3, q4, q5, q2⟩ | ⟨q1, q2⟩ | ⟨y, q1, q3, q2⟩
  case inr.inr.inr.inr.inr.inl => exact ⟨_, q2⟩
  all_goals (rw [q1] at hs'; cases hs')
 ·rw [hi]; exact decDigits_dig _
 ·rw [hi]; exact dec_two _ (by omega)
 ·rw [hi]; exact decDigits_ne _
theorem nm_64 : nmByte 64 = false := by decide
theorem dig_123 : digC 123 = false := by decide
theorem txtE_parts {m : Nat} {x : ByteArray} {v : Int} {t : T (m + 1)} {l : List UInt8} (h : okE (m + 1) x v t = true) (hl : txtE (m + 1) x v t = l) : l.takeWhile nmByte = x.data.toList /\ l.drop x.data.toList.length = 64 :: (Lib.itoa v ++ txtL (m + 1) t) /\ l.drop (x.data.toList.length + 1) = Lib.itoa v ++ txtL (m + 1) t /\ l.drop (x.data.toList.length + 1 + (Lib.itoa v).length) = txtL (m + 1) t := by
 obtain ⟨h1, -⟩ := okE_text h
 have h2 : l.drop x.data.toList.length = 64 :: (Lib.itoa v ++ txtL (m + 1) t) := by rw [<- hl]; unfold txtE; rw [List.drop_left']; rfl
 refine ⟨by rw [<- hl]; exact takeWhile_app _ _ _ h1 nm_64, h2, ?_, ?_⟩
 ·rw [<- List.drop_drop, h2]; rfl
 ·rw [<- List.drop_drop, <- List.drop_drop, h2, List.drop_one, List.tail_cons, List.drop_left']; rfl
theorem eat_at (l : List UInt8) (r : List UInt8) : eatP [64] (64 :: r) = some r /\ l = l := by
 refine ⟨?_, rfl⟩
 unfold eatP
 rw [if_pos (by simp [List.isPrefixOf])]
 rfl
theorem txtE_len {n : Nat} {x : ByteArray} {v : Int} {t : T n} (h : okE n x v t = true) : (txtE n x v t).length <= 10000 := by
 obtain ⟨hn, hv, ho⟩ := okE_get h
 have hx8 : x.size <= 8 := by simp only [nameB, Bool.and_eq_true, decide_eq_true_eq] at hn; exact hn.1.1.2
 have hp := okT_get ho
 have h1 := itoa_21 v hv.1 hv.2
 rw [bs_size] at h1
 have h2 := txtL_len n t 1 hp.1
 have h3 := hp.2
 have h4 : x.data.toList.length = x.size := by simp
 unfold txtE
 rw [List.length_append, List.length_cons, List.length_append]
 omega
def ERdA (m : Nat) (l : List UInt8) (ok : Bool) (x : ByteArray) (v : Int) (t : T (m + 1)) : Prop :=
 (ok = true /\ okE (m + 1) x v t = true /\ txtE (m + 1) x v t = l) ∨ (ok = false /\ x = ByteArray.empty /\ v = 0 /\ t = (⟨0, 0, ByteArray.empty, [], []⟩ : Nd (T m)) /\ ∀ (x' : ByteArray) (v' : Int) (t' : T (m + 1)), okE (m + 1) x' v' t' = true -> txtE (m + 1) x' v' t' ≠ l)
theorem ba_eq {x y : ByteArray} (h : x.data.toList = y.data.toList) : x = y := by
 cases x with | mk a => cases y with | mk b => simpa using h
theorem txtE_one {m : Nat} {x x' : ByteArray} {v v' : Int} {t t' : T (m + 1)} (h : okE (m + 1) x v t = true) (h' : okE (m + 1) x' v' t' = true) (e : txtE (m + 1) x' v' t' = txtE (m + 1) x v t) : x' = x /\ v' = v /\ t' = t := by
 obtain ⟨a1, a2, a3, a4⟩ := txtE_parts h rfl
 obtain ⟨b1, b2, b3, b4⟩ := txtE_parts h' e
 have hx : x' = x := ba_eq (b1.symm.trans a1)
 subst hx
 obtain ⟨-, -, hv, hg, ⟨r, hr⟩, hd, -, -⟩ := okE_text h
 obtain ⟨-, -, hv', hg', ⟨r', hr'⟩, hd', -, -⟩ := okE_text h'
 have hi : Lib.itoa v' = Lib.itoa v := by
  have c1 := takeWhile_app (p := digC) (Lib.itoa v) 123 r hd dig_123
  have c2 := takeWhile_app (p := digC) (Lib.itoa v') 123 r' hd' dig_123
  rw [<- hr, <- a3] at c1
  rw [<- hr', <- b3] at c2
  exact c2.symm.trans c1
 have hvv : v' = v := itoa_inj hi
 subst hvv
 have ht : txtL (m + 1) t' = txtL (m + 1) t := b4.symm.trans a4
 have p1 := parseU_complete (m + 1) t 1 [] hg rfl
 have p2 := parseU_complete (m + 1) t' 1 [] hg' rfl
 rw [ht, p1] at p2
 injection p2 with p2
 exact ⟨rfl, rfl, (congrArg Prod.fst p2).symm⟩
theorem erd_one {m : Nat} {l : List UInt8} {ok ok' : Bool} {x x' : ByteArray} {v v' : Int} {t t' : T (m + 1)} (h : ERdA m l ok x v t) (h' : ERdA m l ok' x' v' t') : ok' = ok /\ x' = x /\ v' = v /\ t' = t := by
 rcases h with ⟨e1, e2, e3⟩ | ⟨e1, e2, e3, e4, e5⟩ <;> rcases h' with ⟨f1, f2, f3⟩ | ⟨f1, f2, f3, f4, f5⟩
 ·exact ⟨f1.trans e1.symm, txtE_one e2 f2 (f3.trans e3.symm)⟩
 ·exact absurd e3 (f5 x v t e2)
 ·exact absurd f3 (e5 x' v' t' f2)
 ·exact ⟨f1.trans e1.symm, f2.trans e2.symm, f3.trans e3.symm, f4.trans e4.symm⟩
end Go.Proofs.YtmjhcgjhlakceaaGreatDoor

namespace Go.Proofs.YtmjhcgjhlakceaaGreatDoor
open Go.RowKit
theorem okE_own {n : Nat} {x : ByteArray} {v : Int} {t : T n} (h : okE n x v t = true) : goodT n t 1 = true /\ cntT n t <= 120 := by
 simp only [okE, Bool.and_eq_true, decide_eq_true_eq] at h
 have := h.2
 simp only [okT, Bool.and_eq_true, decide_eq_true_eq] at this
 exact ⟨this.1, this.2⟩
theorem Tryz.assertE_yes (w : World) : (Instr.typeAssert (.iface 122 (.agg #[])) 20 122 true).run Tryz.prog w = .ok (.tuple #[.agg #[], .bool true]) w := by kernel_rfl
theorem Tryz.assertE_nil (w : World) : (Instr.typeAssert .nilIface 20 122 true).run Tryz.prog w = .ok (.tuple #[.agg #[], .bool false]) w := by kernel_rfl
set_option maxHeartbeats 400000 in
theorem catchE_refusal (w : World) :
  CallsD Tryz.prog 92 #[] (.panicking [{ v := .iface 122 (.agg #[]), recovered := false }]) w fun e u' w' =>
   e = .returned (.tuple #[]) /\ u' = .panicking [{ v := .iface 122 (.agg #[]), recovered := true }] /\ w' = w := by
 have hta := Tryz.assertE_yes
 refine callsD_of_wpS Tryz.func92 rfl fun c₀ cs hu => ?_
 apply wpS_seq
 apply wpS_region
 simp [wpOpsS, go_sem, recoverD, hu, Tryz.ntmps92, Exit.thenS]
 refine wpS_of_wp ?_
 go_wp2
 exact ⟨rfl, _, rfl, .tuple #[], by simp [results, Tryz.results92], rfl, rfl, rfl⟩
set_option maxHeartbeats 400000 in
theorem catchE_nothing (w : World) :
  CallsD Tryz.prog 92 #[] .returning w fun e u' w' => e = .returned (.tuple #[]) /\ u' = .returning /\ w' = w := by
 have hta := Tryz.assertE_nil
 refine callsD_of_wpS Tryz.func92 rfl fun c₀ cs hu => ?_
 apply wpS_seq
 apply wpS_region
 simp [wpOpsS, go_sem, recoverD, hu, Tryz.ntmps92, Exit.thenS]
 refine wpS_of_wp ?_
 go_wp2
 exact ⟨rfl, _, by rw [<- hu], .tuple #[], by simp [results, Tryz.results92], rfl, rfl, rfl⟩
theorem put7_near {R N : Nat} {w W : World} {g0 g1 g2 g3 g4 g5 g6 : Value} (hn : Near R w W) (hN : w.heap.size <= N) : Near R w (put7 W N g0 g1 g2 g3 g4 g5 g6) := by
 have hbl : Below 0 W (put7 W N g0 g1 g2 g3 g4 g5 g6) := put7_below (Below.refl 0 W) (Nat.zero_le _)
 exact ⟨hbl.os.trans hn.os, hbl.tape.trans hn.tape, hbl.output.trans hn.output, by rw [put7_size]; exact hn.size, fun b hb hne => (put7_other (by omega)).trans (hn.block b hb hne)⟩
def OwnA (P : Nat -> Prop) (w : World) (n : Nat) (c3 c4 : Value) : Prop := ∃ L3 L4, SpN w c3 L3 /\ SpR w (n - 1) c4 L4 /\ Own P (L3 ++ L4) /\ (L3 ++ L4).length <= 1000
theorem OwnA.keep {P P' : Nat -> Prop} {w w' : World} {n : Nat} {c3 c4 : Value} (h : OwnA P w n c3 c4) (hb : ∀ b, P b -> w'.heap[b]? = w.heap[b]?) (hP : ∀ b, P b -> P' b) : OwnA P' w' n c3 c4 := by
 obtain ⟨L3, L4, h3, h4, ho, hl⟩ := h
 exact ⟨L3, L4, h3.same (fun s hs => hb _ (ho.1 s (List.mem_append_left _ hs))), h4.same (fun s hs => hb _ (ho.1 s (List.mem_append_right _ hs))), ho.mono hP, hl⟩
theorem OwnT.ans {P : Nat -> Prop} {w : World} {n : Nat} {x : ByteArray} {v : Int} {t : T n} {c3 c4 : Value} (h : OwnT P w n t c3 c4) (ho : okE n x v t = true) : OwnA P w n c3 c4 := by
 obtain ⟨L3, L4, h3, h4, hw, hl⟩ := h
 have hg := okE_own ho
 have hs := spL_le n t 1 hg.1
 exact ⟨L3, L4, h3, h4, hw, by omega⟩
theorem OwnA.none (P : Nat -> Prop) (w : World) (n : Nat) : OwnA P w n (.slice none 0 0) (.slice none 0 0) := ⟨[], [], SpN.no _, SpR.no _ _, Own.nil _, by simp⟩
end Go.Proofs.YtmjhcgjhlakceaaGreatDoor

namespace Go.Proofs.YtmjhcgjhlakceaaGreatDoor
open Go.RowKit
theorem eatP_len {x l r : List UInt8} (h : eatP x l = some r) : l.length = x.length + r.length := by
 have := congrArg List.length (eatP_some h)
 simpa using this
theorem listQ_all {α : Type} (f : List UInt8 -> Option (α × List UInt8)) (P : α -> Prop) (N : Nat) (hf : ∀ s t r, s.length <= N -> f s = some (t, r) -> P t /\ r.length < s.length) :
  ∀ (fuel : Nat) (acc : List α) (s : List UInt8) (l : List α) (r : List UInt8), s.length <= N -> (∀ x, x ∈ acc -> P x) -> listQ f fuel acc s = some (l, r) -> (∀ x, x ∈ l -> P x) /\ l.length <= acc.length + s.length := by
 intro fuel
 induction fuel with
 | zero => intro acc s l r _ _ h; simp [listQ] at h
 | succ k ih =>
  intro acc s l r hN hacc h
  rw [listQ] at h
  cases h1 : eatP [93] s with
  | some r1 =>
   rw [h1] at h
   simp only [Option.some.injEq, Prod.mk.injEq] at h
   obtain ⟨rfl, rfl⟩ := h
   exact ⟨hacc, by omega⟩
  | none =>
   rw [h1] at h
   simp only at h
   cases h2 : (if acc.length = 0 then some s else eatP [44] s) with
   | none => rw [h2] at h; cases h
   | some s1 =>
    rw [h2] at h
    simp only at h
    have hs1 : s1.length <= s.length := by
     by_cases h0 : acc.length = 0
     ·rw [if_pos h0] at h2; cases h2; exact Nat.le_refl _
     ·rw [if_neg h0] at h2; have := eatP_len h2; simp at this; omega
    cases h3 : f s1 with
    | none => rw [h3] at h; cases h
    | some x =>
     obtain ⟨t, r2⟩ := x
     rw [h3] at h
     simp only at h
     obtain ⟨p1, p2⟩ := hf s1 t r2 (by omega) h3
     obtain ⟨q1, q2⟩ := ih (acc ++ [t]) r2 l r (by omega) (fun x hx => by
      rcases List.mem_append.1 hx with hx | hx
      ·exact hacc x hx
      ·rw [List.mem_singleton] at hx; subst hx; exact p1) h
     exact ⟨q1, by rw [List.length_append, List.length_singleton] at q2; omega⟩
theorem formQ_all {α : Type} (f : List UInt8 -> Option (α × List UInt8)) (P : α -> Prop) (N : Nat) (hf : ∀ s t r, s.length <= N -> f s = some (t, r) -> P t /\ r.length < s.length) :
  ∀ (fuel : Nat) (ns : List ByteArray) (acc : List α) (s : List UInt8) (nl : List ByteArray) (l : List α) (r : List UInt8), s.length <= N -> (∀ x, x ∈ acc -> P x) -> (∀ x, x ∈ ns -> x.size <= N) -> formQ f fuel ns acc s = some (nl, l, r) ->
   (∀ x, x ∈ l -> P x) /\ (∀ x, x ∈ nl -> x.size <= N) /\ l.length <= acc.length + s.length /\ nl.length <= ns.length + s.length := by
 intro fuel
 induction fuel with
 | zero => intro ns acc s nl l r _ _ _ h; simp [formQ] at h
 | succ k ih =>
  intro ns acc s nl l r hN hacc hns h
  rw [formQ] at h
  cases h1 : eatP [125] s with
  | some r1 =>
   rw [h1] at h
   simp only [Option.some.injEq, Prod.mk.injEq] at h
   obtain ⟨rfl, rfl, rfl⟩ := h
   exact ⟨hacc, hns, by omega, by omega⟩
  | none =>
   rw [h1] at h
   simp only at h
   cases h2 : (if ns.length = 0 then some s else eatP [44] s) with
   | none => rw [h2] at h; cases h
   | some s1 =>
    rw [h2] at h
    simp only at h
    have hs1 : s1.length <= s.length := by
     by_cases h0 : ns.length = 0
     ·rw [if_pos h0] at h2; cases h2; exact Nat.le_refl _
     ·rw [if_neg h0] at h2; have := eatP_len h2; simp at this; omega
    cases hu : untilP 58 s1 with
    | none => rw [hu] at h; cases h
    | some x =>
    obtain ⟨w, s2⟩ := x
    rw [hu] at h
    simp only at h
    obtain ⟨s3, u1, u2, -⟩ := untilP_some hu
    subst u1
    have hl := congrArg List.length u2
    rw [List.length_append, List.length_cons] at hl
    simp only [List.drop_succ_cons, List.drop_zero] at h
    cases h3 : f s3 with
    | none => rw [h3] at h; cases h
    | some x =>
     obtain ⟨t, r2⟩ := x
     rw [h3] at h
     simp only at h
     obtain ⟨p1, p2⟩ := hf s3 t r2 (by omega) h3
     obtain ⟨q1, q2, q3, q4⟩ := ih (ns ++ [bs w]) (acc ++ [t]) r2 nl l r (by omega) (fun x hx => by
      rcases List.mem_append.1 hx with hx | hx
      ·exact hacc x hx
      ·rw [List.mem_singleton] at hx; subst hx; exact p1) (fun x hx => by
      rcases List.mem_append.1 hx with hx | hx
      ·exact hns x hx
      ·rw [List.mem_singleton] at hx; subst hx; rw [bs_size]; omega) h
     exact ⟨q1, q2, by rw [List.length_append, List.length_singleton] at q3; omega, by rw [List.length_append, List.length_singleton] at q4; omega⟩
theorem cleanT_mk {n : Nat} {so nu : Int} {tx : ByteArray} {na : List ByteArray} {ki : List (T n)} (h1 : so = 1 -> tx = ByteArray.empty /\ na = [] /\ ki = []) (h2 : so = 2 -> nu = 0 /\ na = [] /\ ki = []) (h3 : so = 3 -> tx = ByteArray.empty /\ na = [] /\ ki = [] /\ (nu = 0 ∨ nu = 1))
  (h4 : so = 4 -> nu = 0 /\ tx = ByteArray.empty /\ na = []) (h5 : so = 5 -> nu = 0 /\ tx = ByteArray.empty) (h6 : so = 6 -> nu = 0 /\ tx = ByteArray.empty /\ na = []) (h7 : -999999999 <= nu) (h8 : nu <= 999999999) (h9 : tx.size <= 10000) (h10 : na.length <= 10000)
  (h11 : ∀ s, s ∈ na -> s.size <= 10000) (h12 : ki.length <= 10000) (h13 : ∀ k, k ∈ ki -> cleanT n k) : cleanT (n + 1) (⟨so, nu, tx, na, ki⟩ : Nd (T n)) := ⟨h1, h2, h3, h4, h5, h6, h7, h8, h9, h10, h11, h12, h13⟩
theorem parseU_clean : ∀ (n : Nat) (s : List UInt8) (t : T n) (r : List UInt8), s.length <= 10000 -> parseU n s = some (t, r) -> cleanT n t := by
 intro n
 induction n with
 | zero => intro s t r _ h; simp [parseU] at h
 | succ n ih =>
  intro s t r hN h
  have hem : ByteArray.empty.size <= 10000 := by decide
  have hf : ∀ s t r, s.length <= 10000 -> parseU n s = some (t, r) -> cleanT n t /\ r.length < s.length := fun s t r hs h => ⟨ih s t r hs h, parseU_shrinks n s t r h⟩
  have hd : (s.drop 1).length <= 10000 := by simp; omega
  rw [parseU] at h
  split at h
  ·cases h1 : numOf (numW s) with
   | none => rw [h1] at h; cases h
   | some m =>
    rw [h1] at h; cases h
    have hb := (numOf_some h1).1
    exact cleanT_mk (fun _ => ⟨rfl, rfl, rfl⟩) (fun e => by cases e) (fun e => by cases e) (fun e => by cases e) (fun e => by cases e) (fun e => by cases e) hb.1 hb.2 hem (by simp) (fun s h => by cases h) (by simp) (fun k h => by cases h)
  split at h
  ·cases h1 : untilP 34 (s.drop 1) with
   | none => rw [h1] at h; cases h
   | some x =>
    obtain ⟨w, r1⟩ := x
    rw [h1] at h; cases h
    obtain ⟨r', e1, e2, -⟩ := untilP_some h1
    have hl := congrArg List.length e2
    rw [List.length_append] at hl
    exact cleanT_mk (fun e => by cases e) (fun _ => ⟨rfl, rfl, rfl⟩) (fun e => by cases e) (fun e => by cases e) (fun e => by cases e) (fun e => by cases e) (by omega) (by omega) (by rw [bs_size]; omega) (by simp) (fun s h => by cases h) (by simp) (fun k h => by cases h)
  split at h
  ·cases h1 : eatP [121, 101, 115] s with
   | some r1 =>
    rw [h1] at h; cases h
    exact cleanT_mk (fun e => by cases e) (fun e => by cases e) (fun _ => ⟨rfl, rfl, rfl, .inr rfl⟩) (fun e => by cases e) (fun e => by cases e) (fun e => by cases e) (by omega) (by omega) hem (by simp) (fun s h => by cases h) (by simp) (fun k h => by cases h)
   | none =>
    rw [h1] at h
    simp only at h
    cases h2 : eatP [110, 111] s with
    | some r1 =>
     rw [h2] at h; cases h
     exact cleanT_mk (fun e => by cases e) (fun e => by cases e) (fun _ => ⟨rfl, rfl, rfl, .inl rfl⟩) (fun e => by cases e) (fun e => by cases e) (fun e => by cases e) (by omega) (by omega) hem (by simp) (fun s h => by cases h) (by simp) (fun k h => by cases h)
    | none => rw [h2] at h; cases h
  split at h
  ·cases h1 : listQ (parseU n) ((s.drop 1).length + 1) [] (s.drop 1) with
   | none => rw [h1] at h; cases h
   | some x =>
    obtain ⟨l, r1⟩ := x
    rw [h1] at h; cases h
    obtain ⟨q1, q2⟩ := listQ_all (parseU n) (cleanT n) 10000 hf _ _ _ _ _ hd (fun x hx => by cases hx) h1
    exact cleanT_mk (fun e => by cases e) (fun e => by cases e) (fun e => by cases e) (fun _ => ⟨rfl, rfl, rfl⟩) (fun e => by cases e) (fun e => by cases e) (by omega) (by omega) hem (by simp) (fun s h => by cases h) (by simp only [List.length_nil] at q2; omega) q1
  split at h
  ·cases h1 : formQ (parseU n) ((s.drop 1).length + 1) [] [] (s.drop 1) with
   | none => rw [h1] at h; cases h
   | some x =>
    obtain ⟨ns, l, r1⟩ := x
    rw [h1] at h; cases h
    obtain ⟨q1, q2, q3, q4⟩ := formQ_all (parseU n) (cleanT n) 10000 hf _ _ _ _ _ _ _ hd (fun x hx => by cases hx) (fun x hx => by cases hx) h1
    exact cleanT_mk (fun e => by cases e) (fun e => by cases e) (fun e => by cases e) (fun e => by cases e) (fun _ => ⟨rfl, rfl⟩) (fun e => by cases e) (by omega) (by omega) hem (by simp only [List.length_nil] at q4; omega) q2 (by simp only [List.length_nil] at q3; omega) q1
  split at h
  ·cases h
   exact cleanT_mk (fun e => by cases e) (fun e => by cases e) (fun e => by cases e) (fun e => by cases e) (fun e => by cases e) (fun _ => ⟨rfl, rfl, rfl⟩) (by omega) (by omega) hem (by simp) (fun s h => by cases h) (by simp) (fun k h => by cases h)
  split at h
  ·cases h1 : parseU n (s.drop 1) with
   | none => rw [h1] at h; cases h
   | some x =>
    obtain ⟨t1, r1⟩ := x
    rw [h1] at h; cases h
    have := ih _ _ _ hd h1
    exact cleanT_mk (fun e => by cases e) (fun e => by cases e) (fun e => by cases e) (fun e => by cases e) (fun e => by cases e) (fun _ => ⟨rfl, rfl, rfl⟩) (by omega) (by omega) hem (by simp) (fun s h => by cases h) (by simp) (fun k h => by rw [List.mem_singleton] at h; subst h; exact this)
  ·cases h
end Go.Proofs.YtmjhcgjhlakceaaGreatDoor

namespace Go.Proofs.YtmjhcgjhlakceaaGreatDoor
open Go.RowKit
theorem let_nm (c : UInt8) : nmByte c = true ↔ letB c.toNat := by
 unfold nmByte letB
 simp only [decide_eq_true_eq]
 omega
theorem ahead_take (s : ByteArray) (w : World) (hs : s.size <= 10000) : Calls Tryz.prog 75 #[.string s] w fun e w' => e = .returned (.string (bs (s.data.toList.takeWhile nmByte))) /\ Below w.heap.size w w' := by
 refine (ahead_any s w hs).mono ?_
 have hget : ∀ k (h : k < s.size), s.data.toList[k]'(by simpa using h) = s[k]'h := fun k h => by simp [ByteArray.getElem_eq_getElem_data]
 rintro e w' ⟨hb, ⟨ha, rfl⟩ | ⟨k, hk, hne, ha, rfl⟩⟩
 ·refine ⟨?_, hb⟩
  have : s.data.toList.takeWhile nmByte = s.data.toList := by
   refine takeWhile_allE _ fun c hc => ?_
   obtain ⟨j, hj, rfl⟩ := List.getElem_of_mem hc
   have hj' : j < s.size := by simpa using hj
   rw [hget j hj']
   exact (let_nm _).2 (ha j hj')
  rw [this]
  exact congrArg (fun x => Ending.returned (Value.string x)) (ba_eq (by unfold bs; simp))
 ·refine ⟨?_, hb⟩
  have hkl : k < s.data.toList.length := by simpa using hk
  have e1 : s.data.toList = s.data.toList.take k ++ (s[k]'hk) :: s.data.toList.drop (k + 1) := by
   rw [<- hget k hk, <- List.drop_eq_getElem_cons hkl, List.take_append_drop]
  have e2 : s.data.toList.takeWhile nmByte = s.data.toList.take k := by
   conv => lhs; rw [e1]
   refine takeWhile_app _ _ _ (fun c hc => ?_) ?_
   ·obtain ⟨j, hj, rfl⟩ := List.getElem_of_mem hc
    have hj' : j < k /\ j < s.size := by rw [List.length_take] at hj; constructor; omega; have : s.data.toList.length = s.size := (by simp); omega
    rw [List.getElem_take, hget j hj'.2]
    exact (let_nm _).2 (ha j hj'.2 hj'.1)
   ·rw [Bool.eq_false_iff]
    intro h
    exact hne ((let_nm _).1 h)
  rw [e2]
  refine congrArg (fun x => Ending.returned (Value.string x)) (ba_eq ?_)
  unfold bs
  simp [ByteArray.data_extract, Array.toList_extract, List.extract]
def WhAt (R : Nat) (s : ByteArray) (i m : Nat) (w : World) (e : Ending) (w' : World) : Prop :=
 Near R w w' /\ ((∃ (t : T m) (v : Value), parseU m (s.data.toList.drop i) = some (t, []) /\ e = .returned v /\ InnerT (fun b => w.heap.size <= b /\ b < w'.heap.size) w' m t v) ∨
  ((∀ t, parseU m (s.data.toList.drop i) ≠ some (t, [])) /\ e = .panicked refusal))
set_option maxRecDepth 100000 in
set_option maxHeartbeats 1000000 in
theorem wholeI_at (m B R : Nat) (s : ByteArray) (i : Nat) (w : World) (hL : LaidU B w) (hBR : B <= R) (h : Sc w R s i) (hM : Meth w R) (hs : s.size <= 10000) (hi : i <= s.size) (hm : s.size < m) :
  Calls Tryz.prog 80 #[.pointer (some ⟨R, 0, none⟩)] w (WhAt R s i m w) := by
 have hR := h.lt
 have HSc : Hid (Sc w R s i) := h
 have HC : Hid (Calls Tryz.prog 105 #[.pointer (some ⟨R, 0, none⟩)] w (TRPost R s i m w)) := treeI_any m B R s i w hL hBR h hM hi hs (by omega)
 clear h hL hM
 go_enter Tryz.func80, Tryz.ntmps80
 go_wp2_with fail
 refine HC.out.mono ?_
 rintro e w1 (⟨t, q, v, y1, y2, y3, rfl, y4, y5⟩ | ⟨y1, rfl, y2⟩)
 case inr => exact ⟨rfl, y2, .inr ⟨fun k e => (by rw [y1] at e; cases e), rfl⟩⟩
 obtain ⟨zt, zx, rfl⟩ := id y4.iface
 have hz1 := y5.near.size
 have HS1 : Hid (Scan R w w1 q) := y5
 have HE : Hid (Calls Tryz.prog 112 #[.pointer (some ⟨R, 0, none⟩)] w1 _) := wantEnd_any _ R s q (y5.sc HSc.out)
 have HY : Hid (InnerT (fun b => w.heap.size <= b /\ b < w1.heap.size) w1 m t (.iface zt zx) /\ parseU m (s.data.toList.drop i) = some (t, s.data.toList.drop q)) := ⟨y4, y1⟩
 clear HC y1 y4 y5
 go_wp2_with fail
 refine HE.out.mono ?_
 rintro e w2 (⟨v1, rfl, v2⟩ | ⟨v1, rfl, v2⟩)
 case inr =>
  refine ⟨rfl, HS1.out.near.trans v2, .inr ⟨fun k' e => ?_, rfl⟩⟩
  rw [HY.out.2] at e
  simp only [Option.some.injEq, Prod.mk.injEq] at e
  have := congrArg List.length e.2
  simp at this
  omega
 have HP : Hid (WhAt R s i m w (.returned (.iface zt zx)) w2) := by
  refine ⟨HS1.out.near.trans v2.near, .inl ⟨t, _, ?_, rfl, HY.out.1.keep (fun b hb => v2.near.block b hb.2 (by omega)) (fun b hb => ⟨hb.1, Nat.lt_of_lt_of_le hb.2 v2.near.size⟩)⟩⟩
  rw [HY.out.2, v1]; simp
 clear HE HY HS1 v1 v2
 go_wp2_with fail
 go_ret
 exact HP.out
def TookR (L : Nat) (l : List UInt8) (x : ByteArray) (v : Int) (t : T L) : Prop :=
 (okE L x v t = true -> txtE L x v t = l) /\ ∀ (x' : ByteArray) (v' : Int) (t' : T L), okE L x' v' t' = true -> txtE L x' v' t' = l -> x = x' /\ v = v' /\ t = t'
def NoR (L : Nat) (l : List UInt8) : Prop := ∀ (x' : ByteArray) (v' : Int) (t' : T L), okE L x' v' t' = true -> txtE L x' v' t' ≠ l
theorem took_atR {m : Nat} {l : List UInt8} (h : eatP [64] (l.drop (l.takeWhile nmByte).length) = none) : NoR (m + 1) l := fun x' v' t' ho hp => by
 obtain ⟨a1, a2, -⟩ := txtE_parts ho hp
 rw [a1, a2, (eat_at l _).1] at h
 cases h
theorem took_untilR {m : Nat} {l : List UInt8} (h : untilP 123 (l.drop ((l.takeWhile nmByte).length + 1)) = none) : NoR (m + 1) l := fun x' v' t' ho hp => by
 obtain ⟨a1, -, a3, -⟩ := txtE_parts ho hp
 obtain ⟨-, -, -, -, ⟨r, hr⟩, hd, -⟩ := okE_text ho
 rw [a1, a3, hr, untilP_append 123 _ _ (fun c hc e => by have := hd c hc; rw [e, dig_123] at this; cases this)] at h
 cases h
theorem until_oneR {m : Nat} {l d r : List UInt8} (h : untilP 123 (l.drop ((l.takeWhile nmByte).length + 1)) = some (d, r)) {x' : ByteArray} {v' : Int} {t' : T (m + 1)} (ho : okE (m + 1) x' v' t' = true) (hp : txtE (m + 1) x' v' t' = l) : d = Lib.itoa v' /\ r = txtL (m + 1) t' := by
 obtain ⟨a1, -, a3, -⟩ := txtE_parts ho hp
 obtain ⟨-, -, -, -, ⟨q, hr⟩, hd, -⟩ := okE_text ho
 rw [a1, a3, hr, untilP_append 123 _ _ (fun c hc e => by have := hd c hc; rw [e, dig_123] at this; cases this)] at h
 injection h with h
 exact ⟨(congrArg Prod.fst h).symm, by rw [hr]; exact (congrArg Prod.snd h).symm⟩
theorem took_numR {m : Nat} {l d r : List UInt8} (h : untilP 123 (l.drop ((l.takeWhile nmByte).length + 1)) = some (d, r)) (hn : numOf d = none) : NoR (m + 1) l := fun x' v' t' ho hp => by
 obtain ⟨h1, -⟩ := until_oneR h ho hp
 have hv := (okE_text ho).2.2.1
 exact numOf_none hn v' (by omega) h1.symm
theorem took_treeR {m : Nat} {l d r : List UInt8} (h : untilP 123 (l.drop ((l.takeWhile nmByte).length + 1)) = some (d, r)) (hn : ∀ t, parseU (m + 1) r ≠ some (t, [])) : NoR (m + 1) l := fun x' v' t' ho hp => by
 obtain ⟨-, h2⟩ := until_oneR h ho hp
 have hg := (okE_text ho).2.2.2.1
 have := parseU_complete (m + 1) t' 1 [] hg rfl
 rw [List.append_nil, <- h2] at this
 exact hn t' this
theorem took_allR {m : Nat} {l d r : List UInt8} {v : Int} {t : T (m + 1)} (he : eatP [64] (l.drop (l.takeWhile nmByte).length) = some (l.drop ((l.takeWhile nmByte).length + 1))) (h : untilP 123 (l.drop ((l.takeWhile nmByte).length + 1)) = some (d, r)) (hn : numOf d = some v) (ht : parseU (m + 1) r = some (t, [])) : TookR (m + 1) l (bs (l.takeWhile nmByte)) v t := by
 refine ⟨fun _ => ?_, fun x' v' t' ho hp => ?_⟩
 ·have h1 := eatP_some he
  obtain ⟨r', e1, e2, -⟩ := untilP_some h
  have h3 := parseU_sound _ _ _ _ ht
  rw [List.append_nil] at h3
  have h4 := (numOf_some hn).2
  have h5 := takeWhile_prefix' (p := nmByte) l
  unfold txtE
  rw [h4, <- h3, e1]
  rw [e2] at h1
  conv => rhs; rw [<- h5, h1]
  unfold bs
  simp
 ·obtain ⟨a1, -⟩ := txtE_parts ho hp
  obtain ⟨b1, b2⟩ := until_oneR h ho hp
  have hv := (okE_text ho).2.2.1
  have hg := (okE_text ho).2.2.2.1
  have p := parseU_complete (m + 1) t' 1 [] hg rfl
  rw [List.append_nil, <- b2, ht] at p
  injection p with p
  rw [b1, numOf_itoa v' (by omega)] at hn
  injection hn with hn
  exact ⟨ba_eq (by rw [a1]; unfold bs; simp), hn.symm, congrArg Prod.fst p⟩
end Go.Proofs.YtmjhcgjhlakceaaGreatDoor

namespace Go.Proofs.YtmjhcgjhlakceaaGreatDoor
open Go.RowKit
def WholeR (L : Nat) (w : World) (R : Nat) (l : List UInt8) (e : Ending) (w' : World) : Prop :=
 Near R w w' /\ ((∃ (x : ByteArray) (v : Int) (t : T L) (c0 c1 c2 c3 c4 : Value), e = .returned (.agg #[.string x, .int .i64 v, c0, c1, c2, c3, c4]) /\ x.size <= 10000 /\ TreeIn (fun b => w.heap.size <= b /\ b < w'.heap.size) w' L t c0 c1 c2 c3 c4 /\ OwnT (fun b => w.heap.size <= b /\ b < w'.heap.size) w' L t c3 c4 /\ TookR L l x v t) ∨
  (NoR L l /\ e = .panicked refusal))
structure RW (B : Nat) (w W : World) (R : Nat) (s : ByteArray) (i : Nat) : Prop where
 br : B <= R
 rw : R < w.heap.size
 near : Near R w W
 ptr : W.heap[w.heap.size]? = some (.cells #[.pointer (some ⟨R, 0, none⟩)] 75 (0, 0))
 zero : W.heap[w.heap.size + 1]? = some (.cells #[.string ⟨#[]⟩, .int .i64 0, .int .i64 0, .int .i64 0, .string ⟨#[]⟩, .slice none 0 0, .slice none 0 0] 29 (0, 0))
 sc : Sc W R s i
 meth : Meth W R
 laid : LaidU B W
theorem RW.scan {B R i j : Nat} {w W W' : World} {s : ByteArray} (h : RW B w W R s i) (hs : Scan R W W' j) : RW B w W' R s j := by
 have hR := h.rw
 have hB := h.br
 have hz : w.heap.size + 1 < W.heap.size := (Array.getElem?_eq_some_iff.1 h.zero).1
 exact ⟨hB, hR, h.near.trans hs.near, (hs.near.block _ (by omega) (by omega)).trans h.ptr, (hs.near.block _ hz (by omega)).trans h.zero, hs.sc h.sc, h.meth.scan hs, h.laid.near hs.near hB (by omega)⟩
theorem RW.below {B R i : Nat} {w W W' : World} {s : ByteArray} (h : RW B w W R s i) (hb : Below W.heap.size W W') : RW B w W' R s i :=
 h.scan ((Scan.refl h.sc).below hb (by have := h.rw; have := h.near.size; omega))
theorem RW.cell {B R i : Nat} {w W : World} {s : ByteArray} (h : RW B w W R s i) : W.cell? ⟨w.heap.size, 0, none⟩ = some (.pointer (some ⟨R, 0, none⟩)) := by
 simp [World.cell?, h.ptr]
theorem eat_pre {p : UInt8 -> Bool} (l : List UInt8) : eatP (l.takeWhile p) l = some (l.drop (l.takeWhile p).length) := by
 unfold eatP
 rw [if_pos]
 rw [List.isPrefixOf_iff_prefix]
 exact List.takeWhile_prefix p
set_option maxRecDepth 100000 in
set_option maxHeartbeats 2000000 in
theorem wholeR_any (m B R : Nat) (s : ByteArray) (w : World) (hL : LaidU B w) (hBR : B <= R) (h : Sc w R s 0) (hM : Meth w R) (hs : s.size <= 10000) (hm : s.size < m + 1) :
  Calls Tryz.prog 38 #[.agg #[.pointer (some ⟨R, 0, none⟩)]] w (WholeR (m + 1) w R s.data.toList) := by
 have hR := h.lt
 obtain ⟨W1, hW1⟩ : ∃ W1, W1 = (w.alloc (.cells #[.pointer (some ⟨R, 0, none⟩)] 75)).alloc (.cells #[.string ⟨#[]⟩, .int .i64 0, .int .i64 0, .int .i64 0, .string ⟨#[]⟩, .slice none 0 0, .slice none 0 0] 29) := ⟨_, rfl⟩
 have hb1 : Below w.heap.size w W1 := by rw [hW1]; exact ((Below.refl _ _).alloc (Nat.le_refl _) _).alloc (by simp) _
 have hsc1 : Scan R w W1 0 := (Scan.refl h).below hb1 hR
 have hE1 : RW B w W1 R s 0 := by
  refine ⟨hBR, hR, hsc1.near, ?_, ?_, hsc1.sc h, hM.scan hsc1, hL.step (hb1.mono (by omega))⟩
  ·rw [hW1, Below.heap_alloc _ _ _ (by simp)]; exact heap_alloc_new _ _
  ·rw [hW1]
   have := heap_alloc_new (w.alloc (.cells #[.pointer (some ⟨R, 0, none⟩)] 75)) (.cells #[.string ⟨#[]⟩, .int .i64 0, .int .i64 0, .int .i64 0, .string ⟨#[]⟩, .slice none 0 0, .slice none 0 0] 29)
   simpa using this
 obtain ⟨y, hy⟩ : ∃ y, y = bs (s.data.toList.takeWhile nmByte) := ⟨_, rfl⟩
 have HYl : Hid (y.data.toList = s.data.toList.takeWhile nmByte /\ y.size = (s.data.toList.takeWhile nmByte).length) := by rw [hy]; exact ⟨by unfold bs; simp, by rw [bs_size]⟩
 have hys : y.size <= 10000 := by
  rw [HYl.out.2]
  have := (List.takeWhile_prefix nmByte (l := s.data.toList)).length_le
  have h2 : s.data.toList.length = s.size := by simp
  omega
 have HE1 := Lib.hid hE1
 have c1 := hE1.cell
 have k1 := hE1.sc.c0
 have HC1 : Hid (Calls Tryz.prog 75 #[.string s] W1 fun e w' => e = .returned (.string y) /\ Below W1.heap.size W1 w') := by rw [hy]; exact ahead_take s W1 hs
 have HY := Lib.hid hy
 clear hb1 hsc1 hE1 h hM hL hy
 go_enter Tryz.func38, Tryz.ntmps38
 rw [hW1] at c1 k1
 go_wp2_with fail
 rw [<- hW1]
 rw [<- hW1] at c1 k1
 clear hW1
 refine HC1.out.mono ?_
 rintro e w2 ⟨rfl, hb2⟩
 have HE2 := Lib.hid (HE1.out.below hb2)
 clear c1 k1 hb2 HC1 HE1
 go_wp2_with fail
 refine (stringsClone_any y w2 hys).mono ?_
 rintro e w3 ⟨rfl, hb3⟩
 have hE3 := HE2.out.below hb3
 have c3 := hE3.cell
 have HW3 := Lib.hid (want_any w3 R s y 0 hE3.sc hs hys (Nat.zero_le _))
 have HE3 := Lib.hid hE3
 clear hb3 hE3 HE2
 go_wp2_with fail
 refine HW3.out.mono ?_
 rintro e w4 (⟨q1, rfl, q2, q3⟩ | ⟨q1, -, -⟩)
 case inr =>
  rw [List.drop_zero, HYl.out.1, eat_pre] at q1
  cases q1
 rw [Nat.zero_add] at q2 q3
 have hE4 := HE3.out.scan q2
 obtain ⟨n1, hn1⟩ : ∃ n1, y.size = n1 := ⟨_, rfl⟩
 rw [hn1] at hE4 q3
 have c4 := hE4.cell
 have HN1 : Hid ((s.data.toList.takeWhile nmByte).length = n1) := by rw [<- hn1, HYl.out.2]; rfl
 have HW4 := Lib.hid (want_any w4 R s ⟨#[64]⟩ n1 hE4.sc hs (by decide) q3)
 have HE4 := Lib.hid hE4
 clear q1 q2 hE4 HW3 HE3 c3
 go_wp2_with fail
 refine HW4.out.mono ?_
 rintro e w5 (⟨q1, rfl, q2, q4⟩ | ⟨q1, rfl, q2⟩)
 case inr =>
  have HNo : Hid (NoR (m + 1) s.data.toList) := took_atR (by rw [HN1.out]; exact q1)
  exact ⟨rfl, HE4.out.near.trans q2, .inr ⟨HNo.out, rfl⟩⟩
 have hE5 := HE4.out.scan q2
 have HEat : Hid (eatP [64] (s.data.toList.drop (s.data.toList.takeWhile nmByte).length) = some (s.data.toList.drop ((s.data.toList.takeWhile nmByte).length + 1))) := by rw [HN1.out]; exact q1
 have hi5 : n1 + 1 <= s.size := q4
 have c5 := hE5.cell
 have HU := Lib.hid (until_any 123 w5 R s (n1 + 1) hE5.sc hs hi5)
 have HE5 := Lib.hid hE5
 clear q1 q2 hE5 HW4 HE4 c4 q4
 go_wp2_with fail
 refine HU.out.mono ?_
 rintro e w6 (⟨d, q1, rfl, q2, q3'⟩ | ⟨q1, rfl, q2⟩)
 case inr =>
  have HNo : Hid (NoR (m + 1) s.data.toList) := took_untilR (by rw [HN1.out]; exact q1)
  exact ⟨rfl, HE5.out.near.trans q2, .inr ⟨HNo.out, rfl⟩⟩
 have hE6 := HE5.out.scan q2
 have HUn : Hid (untilP 123 (s.data.toList.drop ((s.data.toList.takeWhile nmByte).length + 1)) = some (d, s.data.toList.drop (n1 + 1 + d.length))) := by rw [HN1.out]; exact q1
 obtain ⟨i2, hi2⟩ : ∃ i2, n1 + 1 + d.length = i2 := ⟨_, rfl⟩
 rw [hi2] at hE6 HUn q3'
 have hds : (bs d).size <= 10000 := by rw [bs_size]; omega
 have hDl : (bs d).data.toList = d := by unfold bs; simp
 have HRn := Lib.hid (readNum_any B (bs d) w6 hE6.laid (by have := hE6.br; have := hE6.rw; have := hE6.near.size; omega) hds)
 have HE6 := Lib.hid hE6
 have HDl := Lib.hid hDl
 generalize bs d = db at *
 clear q1 q2 hE6 HU HE5 c5 hDl hi2
 go_wp2_with fail
 refine HRn.out.mono ?_
 rintro e w7 ⟨hb7, ⟨v, hnv, rfl⟩ | ⟨hnv, rfl⟩⟩
 case inr =>
  have HP : Hid (WholeR (m + 1) w R s.data.toList (.panicked refusal) w7) := ⟨(HE6.out.below hb7).near, .inr ⟨took_numR HUn.out (by rw [HDl.out] at hnv; exact hnv), rfl⟩⟩
  clear HRn hnv hb7 HE6 HUn HEat
  go_wp2_with (go_at_call 55; refine (demand_no _).mono ?_; rintro e w' ⟨rfl, rfl⟩)
  exact ⟨rfl, HP.out⟩
 rw [HDl.out] at hnv
 have hE7 := HE6.out.below hb7
 have c7 := hE7.cell
 have HWh := Lib.hid (wholeI_at (m + 1) B R s i2 w7 hE7.laid hE7.br hE7.sc hE7.meth hs (by omega) hm)
 have HE7 := Lib.hid hE7
 have HNv := Lib.hid hnv
 clear HRn hnv hb7 HE6 hE7
 go_wp2_with (go_at_call 55; refine (demand_yes _).mono ?_; rintro e w' ⟨rfl, hw'⟩; have hw'' := hw'.symm; subst hw''; clear hw')
 refine HWh.out.mono ?_
 rintro e w8 ⟨hn8, ⟨t, iv, ht, rfl, hin⟩ | ⟨hno, rfl⟩⟩
 case inr =>
  have HNo : Hid (NoR (m + 1) s.data.toList) := took_treeR HUn.out hno
  exact ⟨rfl, HE7.out.near.trans hn8, .inr ⟨HNo.out, rfl⟩⟩
 obtain ⟨zt, zx, rfl⟩ := id hin.iface
 have hz7 := HE7.out.near.size
 have hz7' : w.heap.size + 1 < w7.heap.size := (Array.getElem?_eq_some_iff.1 HE7.out.zero).1
 have hz8 := hn8.size
 have HO := Lib.hid (outerTree_any (m + 1) _ t _ w8 hin (fun b hb => hb.2) (parseU_clean (m + 1) _ t [] (by rw [List.length_drop]; have : s.data.toList.length = s.size := (by simp); omega) ht))
 have HTk : Hid (TookR (m + 1) s.data.toList y v t) := by
  have := took_allR HEat.out HUn.out HNv.out ht
  rw [<- HY.out] at this
  exact this
 have HN8 : Hid (Near R w w8 /\ w8.heap[w.heap.size + 1]? = some (.cells #[.string ⟨#[]⟩, .int .i64 0, .int .i64 0, .int .i64 0, .string ⟨#[]⟩, .slice none 0 0, .slice none 0 0] 29 (0, 0))) := ⟨HE7.out.near.trans hn8, (hn8.block _ hz7' (by omega)).trans HE7.out.zero⟩
 clear HWh hn8 ht hin HE7 HNv HUn HEat c7
 go_wp2_with fail
 refine HO.out.mono ?_
 rintro e w9 ⟨hb9, g0, g1, g2, g3, g4, L3, L4, rfl, hin9, hs3, hs4, ho, hl⟩
 obtain ⟨t0, t1, t2, ta, tl, tc, ua, ul, uc, rfl, rfl, rfl, rfl, rfl⟩ := hin9.shape
 have hz9 := hb9.size
 obtain ⟨⟨z0, z1, z2, z3, z4, z5, z6⟩, f0, f1, f2, f3, f4, f5, f6⟩ := ev7_cells ((hb9.block (w.heap.size + 1) (by omega)).trans HN8.out.2)
 have HP : Hid (WholeR (m + 1) w R s.data.toList (.returned (.agg #[.string y, .int .i64 v, .int .i64 t0, .int .i64 t1, .string t2, .slice ta tl tc, .slice ua ul uc])) (put7 w9 (w.heap.size + 1) (.string y) (.int .i64 v) (.int .i64 t0) (.int .i64 t1) (.string t2) (.slice ta tl tc) (.slice ua ul uc))) := by
  have hot : OwnT (fun b => w8.heap.size <= b /\ b < w9.heap.size) w9 (m + 1) t (.slice ta tl tc) (.slice ua ul uc) := ⟨L3, L4, hs3, hs4, ho, hl⟩
  exact ⟨put7_near (HN8.out.1.trans (Near.of_below hb9)) (by omega), .inl ⟨y, v, t, _, _, _, _, _, rfl, hys, hin9.keep (fun b hb => put7_other (by omega)) (fun b hb => ⟨by omega, by rw [put7_size]; exact hb.2⟩), hot.keep (fun b hb => put7_other (by omega)) (fun b hb => ⟨by omega, by rw [put7_size]; exact hb.2⟩), HTk.out⟩⟩
 clear HO hb9 hin9 hs3 hs4 ho hl HTk HN8
 go_wp2_with fail
 refine bodyPost_ret (v := .agg #[.string y, .int .i64 v, .int .i64 t0, .int .i64 t1, .string t2, .slice ta tl tc, .slice ua ul uc]) (by simp [results, Tryz.results38, go_sem, z0, z1, z2, z3, z4, z5, z6]) rfl ?_
 exact HP.out
end Go.Proofs.YtmjhcgjhlakceaaGreatDoor
