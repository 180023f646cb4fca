/-
  Several texts in one, in their order.
-/
import Derived.Test.YtjnhklacadbpoaaGreatDoorB1
import Derived.Test.YtjnhklacadbpoaaGreatDoorB4
import Derived.Test.YtjnhklacadbpoaaGreatDoorB6

/-
  Five cells of a block, kept from call to call; a tree kept from call to call.
-/
namespace Go.Proofs.YtjnhklacadbpoaaGreatDoor
open Go.RowKit

/-- Five cells of a block. -/
structure Box5 (w : World) (N : Nat) (a b c d e : Value) : Prop where
  c0 : w.cell? ⟨N, 0, none⟩ = some a
  c1 : w.cell? ⟨N, 1, none⟩ = some b
  c2 : w.cell? ⟨N, 2, none⟩ = some c
  c3 : w.cell? ⟨N, 3, none⟩ = some d
  c4 : w.cell? ⟨N, 4, none⟩ = some e

theorem Box5.keep {w w' : World} {N : Nat} {a b c d e : Value} (h : Box5 w N a b c d e) (hb : Below w.heap.size w w') : Box5 w' N a b c d e := by
  have hl : N < w.heap.size := by
    have h := h.c0
    exact Classical.byContradiction fun hge => by
      have : w.heap[N]? = none := Array.getElem?_eq_none (by omega)
      simp [World.cell?, this] at h
  exact ⟨(hb.cell (p := ⟨N, 0, none⟩) hl).trans h.c0, (hb.cell (p := ⟨N, 1, none⟩) hl).trans h.c1, (hb.cell (p := ⟨N, 2, none⟩) hl).trans h.c2, (hb.cell (p := ⟨N, 3, none⟩) hl).trans h.c3, (hb.cell (p := ⟨N, 4, none⟩) hl).trans h.c4⟩

theorem Box5.new (w : World) (a b c d e : Value) (t : TypeId) : Box5 (w.alloc (.cells #[a, b, c, d, e] t)) w.heap.size a b c d e :=
  ⟨by simp [go_sem], by simp [go_sem], by simp [go_sem], by simp [go_sem], by simp [go_sem]⟩

/-- A law's head: the argument in its box, and its measure. -/
theorem TreeIn.step {S : Nat → Prop} {w w' : World} {n : Nat} {t : T n} {c0 c1 c2 c3 c4 : Value} (h : TreeIn S w n t c0 c1 c2 c3 c4) (hS : ∀ b, S b → b < w.heap.size) (hb : Below w.heap.size w w') : TreeIn S w' n t c0 c1 c2 c3 c4 ∧ (∀ b, S b → b < w'.heap.size) :=
  ⟨h.keep (same_below hb hS) (fun _ h => h), fun b hb' => Nat.lt_of_lt_of_le (hS b hb') hb.size⟩

end Go.Proofs.YtjnhklacadbpoaaGreatDoor

/-
  The program's own functions on names and texts: what they answer.
-/
namespace Go.Proofs.YtjnhklacadbpoaaGreatDoor
open Go.RowKit

set_option maxHeartbeats 400000 in
theorem isTreeNum_any (x : Int) (w : World) : Calls Tryz.prog 58 #[.int .i64 x] w fun e w' => e = .returned (.bool (decide (-999999999 ≤ x ∧ x ≤ 999999999))) ∧ w' = w := by
  by_cases h : -999999999 ≤ x <;> by_cases h2 : x ≤ 999999999
  all_goals
    go_enter Tryz.func58, Tryz.ntmps58
    go_wp2
    go_ret
    exact ⟨bool_ret (by simp [h, h2]; try omega), rfl⟩

set_option maxHeartbeats 400000 in
theorem isTreeText_any (s : ByteArray) (w : World) (hs : s.size ≤ maxLen) : Calls Tryz.prog 59 #[.string s] w fun e w' => e = .returned (.bool (textB s)) ∧ w' = w := by
  unfold maxLen at hs
  by_cases hl : s.size ≤ 60
  · go_enter Tryz.func59, Tryz.ntmps59
    go_wp2
    go_loop [9] (fun i => ∃ k : Nat, k ≤ s.size ∧ i = .int .i64 k ∧ (s.data.toList.take k).all okByte = true) (fun i => s.size - (intOf i).toNat)
    case atStart => exact ⟨0, Nat.zero_le _, rfl, by simp⟩
    case round =>
      obtain ⟨k, hk, rfl, hall⟩ := hrel
      have HA : Hid ((s.data.toList.take k).all okByte = true) := hall
      clear hall
      by_cases hlt : k < s.size
      · cases hb : okByte s[k] with
        | true =>
          have HB : Hid (okByte s[k] = true) := hb
          unfold okByte at hb
          rw [decide_eq_true_eq] at hb
          obtain ⟨h1, h2, h3⟩ := hb
          have h3' : ((s[k].toNat : Int) == 34) = false := by simpa using h3
          clear h3
          go_wp2
          go_round
          case rel => exact ⟨k + 1, by omega, by go_num, all_take_succ k hlt HA.out HB.out⟩
          case measure => simp [intOf]; omega
        | false =>
          have HF : Hid (textB s = false) := by show _ = _; rw [textB, all_false_at k hlt hb]; simp
          unfold okByte at hb
          rw [decide_eq_false_iff_not] at hb
          go_wp2
          all_goals first
            | (go_ret; exact ⟨bool_ret HF.out.symm, rfl⟩)
            | (exfalso; apply hb; simp_all)
      · have HF : Hid (textB s = true) := by show _ = _; rw [textB, all_take_all k (by omega) HA.out]; simp [hl]
        go_wp2
        go_ret
        exact ⟨bool_ret HF.out.symm, rfl⟩
  · go_enter Tryz.func59, Tryz.ntmps59
    go_wp2
    go_ret
    exact ⟨bool_ret (by simp [textB, hl]), rfl⟩

end Go.Proofs.YtjnhklacadbpoaaGreatDoor

/-
  The program's own functions on one node: hasJustItsSort.
-/
namespace Go.Proofs.YtjnhklacadbpoaaGreatDoor
open Go.RowKit

set_option maxRecDepth 100000 in
set_option maxHeartbeats 2000000 in
theorem just_1 (m : Int) (x : ByteArray) (l : List ByteArray) (ka : Option Addr) (kl kc : Nat) (w : World) (na : Option Addr) (nc : Nat) :
    Calls Tryz.prog 26 #[.agg #[.int .i64 1, .int .i64 m, .string x, .slice na l.length nc, .slice ka kl kc]] w fun e w' => e = .returned (.bool (decide (-999999999 ≤ m ∧ m ≤ 999999999) && x.toList.isEmpty && ((l.length : Int) == 0) && ((kl : Int) == 0))) ∧ Below w.heap.size w w' := by
  go_enter Tryz.func26, Tryz.ntmps26
  go_wp2_with (go_at_call 58; refine (isTreeNum_any _ _).mono ?_; rintro e w' ⟨rfl, rfl⟩)
  all_goals
    go_ret
    exact ⟨bool_ret (by simp_all), (Below.refl _ _).alloc (Nat.le_refl _) _⟩


set_option maxRecDepth 100000 in
set_option maxHeartbeats 2000000 in
theorem just_2 (m : Int) (x : ByteArray) (l : List ByteArray) (ka : Option Addr) (kl kc : Nat) (w : World) (na : Option Addr) (nc : Nat) (hx : x.size ≤ maxLen) :
    Calls Tryz.prog 26 #[.agg #[.int .i64 2, .int .i64 m, .string x, .slice na l.length nc, .slice ka kl kc]] w fun e w' => e = .returned (.bool ((m == 0) && textB x && ((l.length : Int) == 0) && ((kl : Int) == 0))) ∧ Below w.heap.size w w' := by
  go_enter Tryz.func26, Tryz.ntmps26
  go_wp2_with (go_at_call 59; refine (isTreeText_any _ _ hx).mono ?_; rintro e w' ⟨rfl, rfl⟩)
  all_goals
    go_ret
    exact ⟨bool_ret (by simp_all), (Below.refl _ _).alloc (Nat.le_refl _) _⟩


set_option maxRecDepth 100000 in
set_option maxHeartbeats 2000000 in
theorem just_3 (m : Int) (x : ByteArray) (l : List ByteArray) (ka : Option Addr) (kl kc : Nat) (w : World) (na : Option Addr) (nc : Nat) :
    Calls Tryz.prog 26 #[.agg #[.int .i64 3, .int .i64 m, .string x, .slice na l.length nc, .slice ka kl kc]] w fun e w' => e = .returned (.bool (decide (0 ≤ m ∧ m ≤ 1) && x.toList.isEmpty && ((l.length : Int) == 0) && ((kl : Int) == 0))) ∧ Below w.heap.size w w' := by
  by_cases h0 : m = 0
  · subst h0
    go_enter Tryz.func26, Tryz.ntmps26
    go_wp2_with fail
    all_goals
      go_ret
      exact ⟨bool_ret (by simp_all), (Below.refl _ _).alloc (Nat.le_refl _) _⟩
  by_cases h1 : m = 1
  · subst h1
    go_enter Tryz.func26, Tryz.ntmps26
    go_wp2_with fail
    all_goals
      go_ret
      exact ⟨bool_ret (by simp_all), (Below.refl _ _).alloc (Nat.le_refl _) _⟩
  have hd : decide (0 ≤ m ∧ m ≤ 1) = false := decide_eq_false (by omega)
  have hm0 : (m == 0) = false := by simpa using h0
  have hm1 : (m == 1) = false := by simpa using h1
  rw [hd]
  clear hd h0 h1
  go_enter Tryz.func26, Tryz.ntmps26
  go_wp2_with fail
  all_goals
    go_ret
    exact ⟨bool_ret (by simp_all), (Below.refl _ _).alloc (Nat.le_refl _) _⟩

set_option maxRecDepth 100000 in
set_option maxHeartbeats 2000000 in
theorem just_4 (m : Int) (x : ByteArray) (l : List ByteArray) (ka : Option Addr) (kl kc : Nat) (w : World) (na : Option Addr) (nc : Nat) :
    Calls Tryz.prog 26 #[.agg #[.int .i64 4, .int .i64 m, .string x, .slice na l.length nc, .slice ka kl kc]] w fun e w' => e = .returned (.bool ((m == 0) && x.toList.isEmpty && ((l.length : Int) == 0) && decide ((kl : Int) ≤ 20))) ∧ Below w.heap.size w w' := by
  go_enter Tryz.func26, Tryz.ntmps26
  go_wp2_with fail
  all_goals
    go_ret
    exact ⟨bool_ret (by simp_all), (Below.refl _ _).alloc (Nat.le_refl _) _⟩


set_option maxRecDepth 100000 in
set_option maxHeartbeats 2000000 in
theorem just_6 (m : Int) (x : ByteArray) (l : List ByteArray) (ka : Option Addr) (kl kc : Nat) (w : World) (na : Option Addr) (nc : Nat) :
    Calls Tryz.prog 26 #[.agg #[.int .i64 6, .int .i64 m, .string x, .slice na l.length nc, .slice ka kl kc]] w fun e w' => e = .returned (.bool ((m == 0) && x.toList.isEmpty && ((l.length : Int) == 0) && decide ((kl : Int) ≤ 1))) ∧ Below w.heap.size w w' := by
  go_enter Tryz.func26, Tryz.ntmps26
  go_wp2_with fail
  all_goals
    go_ret
    exact ⟨bool_ret (by simp_all), (Below.refl _ _).alloc (Nat.le_refl _) _⟩


end Go.Proofs.YtjnhklacadbpoaaGreatDoor

/-
  The program's own functions on one node, more: hasJustItsSort at forms, at other sorts, at all.
-/
namespace Go.Proofs.YtjnhklacadbpoaaGreatDoor
open Go.RowKit

set_option maxRecDepth 100000 in
set_option maxHeartbeats 2000000 in
theorem just_5 (m : Int) (x : ByteArray) (l : List ByteArray) (ka : Option Addr) (kl kc : Nat) (w : World) (na : Option Addr) (nc : Nat) (S : Nat → Prop) (hl : StrsIn S w l (.slice na l.length nc)) (hB : ∀ b, S b → b < w.heap.size) :
    Calls Tryz.prog 26 #[.agg #[.int .i64 5, .int .i64 m, .string x, .slice na l.length nc, .slice ka kl kc]] w fun e w' => e = .returned (.bool ((m == 0) && x.toList.isEmpty && ((l.length : Int) == (kl : Int)) && riseB l)) ∧ Below w.heap.size w w' := by
  by_cases hm : m = 0
  · subst hm
    cases hx : x.toList.isEmpty with
    | false =>
      go_enter Tryz.func26, Tryz.ntmps26
      go_wp2_with fail
      all_goals
        go_ret
        exact ⟨bool_ret (by simp_all), (Below.refl _ _).alloc (Nat.le_refl _) _⟩
    | true =>
      by_cases hk : l.length = kl
      · subst hk
        have hb0 := (Below.refl w.heap.size w).alloc (Nat.le_refl _) (.cells #[.int .i64 5, .int .i64 0, .string x, .slice na l.length nc, .slice ka l.length kc] 26)
        have hl' := hl.keep (same_below hb0 hB) (fun _ h => h)
        have HC : Hid (Calls Tryz.prog 60 #[.slice na l.length nc] _ _) := areFormNames_any S l _ _ hl'
        have hk : ((l.length : Int) == (l.length : Int)) = true := by simp
        clear hl hl' hB
        cases h0 : ((l.length : Int) == 0) with
        | true =>
          go_enter Tryz.func26, Tryz.ntmps26
          go_wp2_with fail
          refine HC.out.mono ?_
          rintro e w' ⟨rfl, rfl⟩
          go_wp2_with fail
          go_ret
          exact ⟨by simp, hb0⟩
        | false =>
          go_enter Tryz.func26, Tryz.ntmps26
          go_wp2_with fail
          refine HC.out.mono ?_
          rintro e w' ⟨rfl, rfl⟩
          go_wp2_with fail
          go_ret
          exact ⟨by simp, hb0⟩
      · have hk' : ((l.length : Int) == (kl : Int)) = false := by simp; omega
        rw [hk']
        clear hk
        cases h0 : ((l.length : Int) == 0) <;> cases h1 : ((kl : Int) == 0)
        all_goals
          go_enter Tryz.func26, Tryz.ntmps26
          go_wp2_with fail
          go_ret
          exact ⟨rfl, (Below.refl _ _).alloc (Nat.le_refl _) _⟩
  · have hm' : (m == 0) = false := by simpa using hm
    rw [hm']
    clear hm
    go_enter Tryz.func26, Tryz.ntmps26
    go_wp2_with fail
    all_goals
      go_ret
      exact ⟨bool_ret (by simp_all), (Below.refl _ _).alloc (Nat.le_refl _) _⟩

set_option maxRecDepth 100000 in
set_option maxHeartbeats 2000000 in
theorem just_other (s m : Int) (x : ByteArray) (l : List ByteArray) (ka : Option Addr) (kl kc : Nat) (w : World) (na : Option Addr) (nc : Nat)
    (h1 : (s == 1) = false) (h2 : (s == 2) = false) (h3 : (s == 3) = false) (h4 : (s == 4) = false) (h5 : (s == 5) = false) (h6 : (s == 6) = false) :
    Calls Tryz.prog 26 #[.agg #[.int .i64 s, .int .i64 m, .string x, .slice na l.length nc, .slice ka kl kc]] w fun e w' => e = .returned (.bool false) ∧ Below w.heap.size w w' := by
  go_enter Tryz.func26, Tryz.ntmps26
  go_wp2_with fail
  all_goals
    go_ret
    exact ⟨rfl, (Below.refl _ _).alloc (Nat.le_refl _) _⟩

theorem just_any (s m : Int) (x : ByteArray) (l : List ByteArray) (ka : Option Addr) (kl kc : Nat) (w : World) (na : Option Addr) (nc : Nat) (hx : x.size ≤ maxLen)
    (S : Nat → Prop) (hl : StrsIn S w l (.slice na l.length nc)) (hB : ∀ b, S b → b < w.heap.size) :
    Calls Tryz.prog 26 #[.agg #[.int .i64 s, .int .i64 m, .string x, .slice na l.length nc, .slice ka kl kc]] w fun e w' => e = .returned (.bool (aloneF s m x l kl)) ∧ Below w.heap.size w w' := by
  unfold aloneF
  by_cases h1 : s = 1
  · subst h1; rw [if_pos rfl]; exact just_1 m x l ka kl kc w na nc
  rw [if_neg h1]
  by_cases h2 : s = 2
  · subst h2; rw [if_pos rfl]; exact just_2 m x l ka kl kc w na nc hx
  rw [if_neg h2]
  by_cases h3 : s = 3
  · subst h3; rw [if_pos rfl]; exact just_3 m x l ka kl kc w na nc
  rw [if_neg h3]
  by_cases h4 : s = 4
  · subst h4; rw [if_pos rfl]; exact just_4 m x l ka kl kc w na nc
  rw [if_neg h4]
  by_cases h5 : s = 5
  · subst h5; rw [if_pos rfl]; exact just_5 m x l ka kl kc w na nc S hl hB
  rw [if_neg h5]
  by_cases h6 : s = 6
  · subst h6; rw [if_pos rfl]; exact just_6 m x l ka kl kc w na nc
  rw [if_neg h6]
  exact just_other s m x l ka kl kc w na nc (by simp [h1]) (by simp [h2]) (by simp [h3]) (by simp [h4]) (by simp [h5]) (by simp [h6])

end Go.Proofs.YtjnhklacadbpoaaGreatDoor

/-
  Schemas in memory: what it means that three cells hold a schema, all of whose memory lies in given blocks; and that this lasts while those are not written.
-/
namespace Go.Proofs.YtjnhklacadbpoaaGreatDoor
open Go.RowKit

/-- A slice of things of three cells each, in blocks of S. -/
def RowIn3 {α : Type} (S : Nat → Prop) (w : World) (R : α → Value → Value → Value → Prop) (l : List α) (v : Value) : Prop :=
  ∃ (ao : Option Addr) (cap : Nat), v = .slice ao l.length cap ∧ l.length ≤ maxLen ∧
    (l ≠ [] → ∃ b off, ao = some ⟨b, off, none⟩ ∧ S b ∧ ∀ i (h : i < l.length), ∃ c0 c1 c2, w.cell? ⟨b, off + i * 3, none⟩ = some c0 ∧ w.cell? ⟨b, off + i * 3 + 1, none⟩ = some c1 ∧
      w.cell? ⟨b, off + i * 3 + 2, none⟩ = some c2 ∧ R l[i] c0 c1 c2)

/-- Three cells hold a schema, its memory in blocks of S. -/
def KindIn (S : Nat → Prop) (w : World) : (n : Nat) → K n → Value → Value → Value → Prop
  | 0, _, _, _, _ => False
  | n + 1, t, c0, c1, c2 => c0 = .int .i64 (Kd.sort t) ∧ (Lit.int .i64 (Kd.sort t)).wf = true ∧ StrsIn S w (Kd.names t) c1 ∧ RowIn3 S w (KindIn S w n) (Kd.kids t) c2

theorem RowIn3.keep {α : Type} {S S' : Nat → Prop} {w w' : World} {R R' : α → Value → Value → Value → Prop} {l : List α} {v : Value} (h : RowIn3 S w R l v) (hb : Same S w w') (hS : ∀ b, S b → S' b)
    (hR : ∀ x c0 c1 c2, x ∈ l → R x c0 c1 c2 → R' x c0 c1 c2) : RowIn3 S' w' R' l v := by
  obtain ⟨ao, cap, hv, hl, hc⟩ := h
  refine ⟨ao, cap, hv, hl, fun hne => ?_⟩
  obtain ⟨b, off, ha, hB, hcell⟩ := hc hne
  refine ⟨b, off, ha, hS b hB, fun i hi => ?_⟩
  obtain ⟨c0, c1, c2, h0, h1, h2, hr⟩ := hcell i hi
  exact ⟨c0, c1, c2, (hb.cell (p := ⟨b, off + i * 3, none⟩) hB).trans h0, (hb.cell (p := ⟨b, off + i * 3 + 1, none⟩) hB).trans h1, (hb.cell (p := ⟨b, off + i * 3 + 2, none⟩) hB).trans h2,
    hR _ _ _ _ (List.getElem_mem hi) hr⟩

theorem KindIn.keep {S S' : Nat → Prop} {w w' : World} (hb : Same S w w') (hS : ∀ b, S b → S' b) : ∀ {n : Nat} {t : K n} {c0 c1 c2 : Value}, KindIn S w n t c0 c1 c2 → KindIn S' w' n t c0 c1 c2 := by
  intro n
  induction n with
  | zero => intro t c0 c1 c2 h; exact h.elim
  | succ n ih =>
    intro t c0 c1 c2 h
    obtain ⟨h0, hw0, h3, h4⟩ := h
    exact ⟨h0, hw0, h3.keep hb hS, h4.keep hb hS fun x _ _ _ _ hx => ih hx⟩

theorem RowIn3.keepK {S S' : Nat → Prop} {w w' : World} {n : Nat} {l : List (K n)} {v : Value} (h : RowIn3 S w (KindIn S w n) l v) (hb : Same S w w') (hS : ∀ b, S b → S' b) : RowIn3 S' w' (KindIn S' w' n) l v :=
  h.keep hb hS fun _ _ _ _ _ hx => hx.keep hb hS

theorem KindIn.shape {S : Nat → Prop} {w : World} : ∀ {n : Nat} {t : K n} {c0 c1 c2 : Value}, KindIn S w n t c0 c1 c2 →
    ∃ (s : Int) (a : Option Addr) (l c : Nat) (a' : Option Addr) (l' c' : Nat), c0 = .int .i64 s ∧ c1 = .slice a l c ∧ c2 = .slice a' l' c' := by
  intro n
  cases n with
  | zero => intro t c0 c1 c2 h; exact h.elim
  | succ n =>
    intro t c0 c1 c2 h
    obtain ⟨h0, hw0, ⟨ao, cap, h3, -⟩, ⟨ao', cap', h4, -⟩⟩ := h
    exact ⟨_, _, _, _, _, _, _, h0, h3, h4⟩

/-- Three cells of a world, stored one behind the other. -/
def put3 (w : World) (b o : Nat) (g0 g1 g2 : Value) : World :=
  ((w.setCell ⟨b, o, none⟩ g0).setCell ⟨b, o + 1, none⟩ g1).setCell ⟨b, o + 2, none⟩ g2

/-- What the cells of a row hold behind that. -/
def put3F (o : Nat) (F : Nat → Value) (g0 g1 g2 : Value) (j : Nat) : Value :=
  if j = o + 2 then g2 else if j = o + 1 then g1 else if j = o then g0 else F j

theorem put3_row {w : World} {b t N : Nat} {F : Nat → Value} (h : w.rowIs b t N F) (o : Nat) (g0 g1 g2 : Value) : (put3 w b o g0 g1 g2).rowIs b t N (put3F o F g0 g1 g2) :=
  ((h.set o g0).set (o + 1) g1).set (o + 2) g2

theorem put3F_0 (o : Nat) (F : Nat → Value) (g0 g1 g2 : Value) : put3F o F g0 g1 g2 o = g0 := by simp [put3F]
theorem put3F_1 (o : Nat) (F : Nat → Value) (g0 g1 g2 : Value) : put3F o F g0 g1 g2 (o + 1) = g1 := by simp [put3F]
theorem put3F_2 (o : Nat) (F : Nat → Value) (g0 g1 g2 : Value) : put3F o F g0 g1 g2 (o + 2) = g2 := by simp [put3F]
theorem put3F_other (o : Nat) (F : Nat → Value) (g0 g1 g2 : Value) (j : Nat) (hj : j < o ∨ o + 3 ≤ j) : put3F o F g0 g1 g2 j = F j := by
  unfold put3F
  rw [if_neg (by omega), if_neg (by omega), if_neg (by omega)]

theorem put3_other {w : World} {b o : Nat} {g0 g1 g2 : Value} {k : Nat} (h : k ≠ b) : (put3 w b o g0 g1 g2).heap[k]? = w.heap[k]? := by
  unfold put3
  rw [Below.heap_setCell _ _ _ _ h, Below.heap_setCell _ _ _ _ h, Below.heap_setCell _ _ _ _ h]

theorem put3_size {w : World} {b o : Nat} {g0 g1 g2 : Value} : (put3 w b o g0 g1 g2).heap.size = w.heap.size := by
  simp [put3]

theorem put3_below {B : Nat} {a w : World} {b o : Nat} {g0 g1 g2 : Value} (h : Below B a w) (hb : B ≤ b) : Below B a (put3 w b o g0 g1 g2) :=
  ((h.setCell hb g0).setCell hb g1).setCell hb g2

/-- Three cells of a block. -/
structure Box3 (w : World) (N : Nat) (a b c : Value) : Prop where
  c0 : w.cell? ⟨N, 0, none⟩ = some a
  c1 : w.cell? ⟨N, 1, none⟩ = some b
  c2 : w.cell? ⟨N, 2, none⟩ = some c

theorem Box3.keep {w w' : World} {N : Nat} {a b c : Value} (h : Box3 w N a b c) (hb : Below w.heap.size w w') : Box3 w' N a b c := by
  have hl : N < w.heap.size := by
    have h := h.c0
    exact Classical.byContradiction fun hge => by
      have : w.heap[N]? = none := Array.getElem?_eq_none (by omega)
      simp [World.cell?, this] at h
  exact ⟨(hb.cell (p := ⟨N, 0, none⟩) hl).trans h.c0, (hb.cell (p := ⟨N, 1, none⟩) hl).trans h.c1, (hb.cell (p := ⟨N, 2, none⟩) hl).trans h.c2⟩

theorem Box3.new (w : World) (a b c : Value) (t : TypeId) : Box3 (w.alloc (.cells #[a, b, c] t)) w.heap.size a b c :=
  ⟨by simp [go_sem], by simp [go_sem], by simp [go_sem]⟩

theorem KindIn.step {S : Nat → Prop} {w w' : World} {n : Nat} {t : K n} {c0 c1 c2 : Value} (h : KindIn S w n t c0 c1 c2) (hS : ∀ b, S b → b < w.heap.size) (hb : Below w.heap.size w w') : KindIn S w' n t c0 c1 c2 ∧ (∀ b, S b → b < w'.heap.size) :=
  ⟨h.keep (same_below hb hS) (fun _ h => h), fun b hb' => Nat.lt_of_lt_of_le (hS b hb') hb.size⟩

end Go.Proofs.YtjnhklacadbpoaaGreatDoor
