/-
  Several texts in one, in their order.
-/
import Derived.Test.YtcpeajdjpecmkaaGreatDoorB2
import Derived.Test.YtcpeajdjpecmkaaGreatDoorB1
import Derived.WalkSmall
import Derived.LoopTactic
import Derived.Test.YtcpeajdjpecmkaaGreatDoorB10
import Derived.Laws.Closers25b
import Derived.Test.YtcpeajdjpecmkaaGreatDoorB3
import Derived.Deep.RegionLaw

/-
  The specification's reader of trees: name.
-/
namespace Go.Proofs.YtcpeajdjpecmkaaGreatDoor
open Go.RowKit

theorem takeWhile_take (l : List UInt8) (p : UInt8 → Bool) (k : Nat) (h : ∀ x, x ∈ l.take k → p x = true) (hd : p ((l.drop k).headD 0) = false) : l.takeWhile p = l.take k := by
  have hc : ∀ c r, l.drop k = c :: r → p c = false := by intro c r e; rw [e] at hd; exact hd
  conv => lhs; rw [← List.take_append_drop k l]
  exact takeWhile_all _ _ h hc

theorem take_more' (s : ByteArray) (i k : Nat) (p : UInt8 → Bool) (h : i + k < s.size) (ha : ∀ x, x ∈ (s.data.toList.drop i).take k → p x = true) (hc : p s[i + k] = true) : ∀ x, x ∈ (s.data.toList.drop i).take (k + 1) → p x = true := by
  intro x hx
  have hl : k < (s.data.toList.drop i).length := by simp; omega
  rw [List.take_succ_eq_append_getElem hl] at hx
  rcases List.mem_append.1 hx with hx | hx
  · exact ha x hx
  · rw [List.mem_singleton] at hx
    subst hx
    simpa [ByteArray.getElem_eq_getElem_data] using hc

end Go.Proofs.YtcpeajdjpecmkaaGreatDoor

/-
  The specification's reader of schemas: plain mathematics of what it goes over.
-/
namespace Go.Proofs.YtcpeajdjpecmkaaGreatDoor
open Go.RowKit

/-- The six makes of a schema that is ok by itself. -/
theorem goodK_cases {m : Nat} {t : K (m + 1)} {d : Int} (h : goodK (m + 1) t d = true) :
    (t = (⟨1, [], []⟩ : Kd (K m)) ∧ txtK (m + 1) t = [110, 117, 109]) ∨ (t = (⟨2, [], []⟩ : Kd (K m)) ∧ txtK (m + 1) t = [116, 101, 120, 116]) ∨ (t = (⟨3, [], []⟩ : Kd (K m)) ∧ txtK (m + 1) t = [102, 108, 97, 103]) ∨
    (∃ x, t = (⟨4, [], [x]⟩ : Kd (K m)) ∧ goodK m x (d + 1) = true ∧ txtK (m + 1) t = 91 :: (txtK m x ++ [93])) ∨ (∃ x, t = (⟨6, [], [x]⟩ : Kd (K m)) ∧ goodK m x (d + 1) = true ∧ txtK (m + 1) t = 63 :: txtK m x) ∨
    (∃ na ki, t = (⟨5, na, ki⟩ : Kd (K m)) ∧ na.length = ki.length ∧ (∀ x, x ∈ na → nameB x = true) ∧ (∀ k, k ∈ ki → goodK m k (d + 1) = true) ∧ txtK (m + 1) t = 123 :: (joinL (zipL na (ki.map (txtK m))) ++ [125])) := by
  simp only [goodK, Bool.and_eq_true] at h
  have ha : aloneKF (Kd.sort t) (Kd.names t) (Kd.kids t).length = true := h.1.2
  have hk := List.all_eq_true.1 h.2
  obtain ⟨so, na, ki⟩ : Kd (K m) := t
  simp only at ha hk
  unfold aloneKF at ha
  have one : (ki.length : Int) = 1 → ∃ x, ki = [x] ∧ goodK m x (d + 1) = true := by
    intro hl
    match ki, hl, hk with
    | [x], _, hk => exact ⟨x, rfl, hk x (List.mem_cons_self ..)⟩
  by_cases h1 : so = 1
  · rw [if_pos h1] at ha
    simp only [Bool.and_eq_true, beq_iff_eq] at ha
    have e2 : na = [] := List.eq_nil_of_length_eq_zero (by have := ha.1; omega)
    have e3 : ki = [] := List.eq_nil_of_length_eq_zero (by have := ha.2; omega)
    subst e2 e3 h1
    exact .inl ⟨rfl, by simp [txtK]⟩
  rw [if_neg h1] at ha
  by_cases h2 : so = 2
  · rw [if_pos h2] at ha
    simp only [Bool.and_eq_true, beq_iff_eq] at ha
    have e2 : na = [] := List.eq_nil_of_length_eq_zero (by have := ha.1; omega)
    have e3 : ki = [] := List.eq_nil_of_length_eq_zero (by have := ha.2; omega)
    subst e2 e3 h2
    exact .inr (.inl ⟨rfl, by simp [txtK]⟩)
  rw [if_neg h2] at ha
  by_cases h3 : so = 3
  · rw [if_pos h3] at ha
    simp only [Bool.and_eq_true, beq_iff_eq] at ha
    have e2 : na = [] := List.eq_nil_of_length_eq_zero (by have := ha.1; omega)
    have e3 : ki = [] := List.eq_nil_of_length_eq_zero (by have := ha.2; omega)
    subst e2 e3 h3
    exact .inr (.inr (.inl ⟨rfl, by simp [txtK]⟩))
  rw [if_neg h3] at ha
  by_cases h4 : so = 4
  · rw [if_pos h4] at ha
    simp only [Bool.and_eq_true, beq_iff_eq] at ha
    have e2 : na = [] := List.eq_nil_of_length_eq_zero (by have := ha.1; omega)
    obtain ⟨x, e3, hx⟩ := one ha.2
    subst e2 e3 h4
    exact .inr (.inr (.inr (.inl ⟨x, rfl, hx, by simp [txtK, headL]⟩)))
  rw [if_neg h4] at ha
  by_cases h5 : so = 5
  · rw [if_pos h5] at ha
    simp only [Bool.and_eq_true, beq_iff_eq] at ha
    have hl : na.length = ki.length := by have := ha.1; omega
    subst h5
    exact .inr (.inr (.inr (.inr (.inr ⟨na, ki, rfl, hl, riseB_name ha.2, fun k hk' => hk k hk', by simp [txtK]⟩))))
  rw [if_neg h5] at ha
  by_cases h6 : so = 6
  · rw [if_pos h6] at ha
    simp only [Bool.and_eq_true, beq_iff_eq] at ha
    have e2 : na = [] := List.eq_nil_of_length_eq_zero (by have := ha.1; omega)
    obtain ⟨x, e3, hx⟩ := one ha.2
    subst e2 e3 h6
    exact .inr (.inr (.inr (.inr (.inl ⟨x, rfl, hx, by simp [txtK, headL]⟩))))
  · rw [if_neg h6] at ha; cases ha

end Go.Proofs.YtcpeajdjpecmkaaGreatDoor

/-
  Plain mathematics: what has a text is read from it; what is read has that text.
-/
namespace Go.Proofs.YtcpeajdjpecmkaaGreatDoor
open Go.RowKit

/-- How a text begins. -/
def begB (c : UInt8) : Bool := digC c || c == 45 || c == 34 || c == 121 || c == 110 || c == 91 || c == 123 || c == 126 || c == 63

theorem digits_head (u : Nat) : ∃ c r, Lib.decDigits u = c :: r ∧ digC c = true := by
  cases h : Lib.decDigits u with
  | nil => exact absurd h (decDigits_ne u)
  | cons c r => exact ⟨c, r, rfl, decDigits_dig u c (by rw [h]; exact List.mem_cons_self ..)⟩

theorem itoa_head (m : Int) : ∃ c r, Lib.itoa m = c :: r ∧ (digC c = true ∨ c = 45) := by
  unfold Lib.itoa
  split
  · exact ⟨45, _, rfl, .inr rfl⟩
  · obtain ⟨c, r, h1, h2⟩ := digits_head m.toNat
    exact ⟨c, r, h1, .inl h2⟩

theorem txtL_head (n : Nat) (t : T (n + 1)) : ∃ c r, txtL (n + 1) t = c :: r ∧ begB c = true := by
  simp only [txtL]
  split
  · obtain ⟨c, r, h1, h2⟩ := itoa_head (Nd.num t)
    refine ⟨c, r, h1, ?_⟩
    rcases h2 with h2 | h2
    · simp [begB, h2]
    · subst h2; decide
  split
  · exact ⟨34, _, rfl, by decide⟩
  split
  · split
    · exact ⟨121, _, rfl, by decide⟩
    · exact ⟨110, _, rfl, by decide⟩
  split
  · cases Nd.kids t with
    | nil => exact ⟨126, _, rfl, by decide⟩
    | cons k r => exact ⟨63, _, rfl, by decide⟩
  split
  · exact ⟨123, _, rfl, by decide⟩
  · exact ⟨91, _, rfl, by decide⟩

theorem good_head (n : Nat) (t : T n) (d : Int) (h : goodT n t d = true) : ∃ c r, txtL n t = c :: r ∧ begB c = true := by
  cases n with
  | zero => simp [goodT] at h
  | succ n => exact txtL_head n t

theorem beg_ne {c : UInt8} (h : begB c = true) : c ≠ 93 ∧ c ≠ 125 ∧ c ≠ 44 := by
  refine ⟨?_, ?_, ?_⟩ <;> (rintro rfl; exact absurd h (by decide))

theorem textB_bytes {s : ByteArray} (h : textB s = true) : ∀ c, c ∈ s.data.toList → c ≠ 34 := by
  simp only [textB, Bool.and_eq_true] at h
  intro c hc
  have := List.all_eq_true.1 h.2 c hc
  rintro rfl
  exact absurd this (by decide)

theorem ba_empty {x : ByteArray} (h : x.toList.isEmpty = true) : x = ByteArray.empty :=
  (toList_nil_iff_emptyBytes x).1 (by simpa using h)

end Go.Proofs.YtcpeajdjpecmkaaGreatDoor

/-
  The specification's reader of trees: num.
-/
namespace Go.Proofs.YtcpeajdjpecmkaaGreatDoor
open Go.RowKit

theorem dig_bounds {c : UInt8} (h : digC c = true) : 48 ≤ c.toNat ∧ c.toNat ≤ 57 := by
  simp only [digC, decide_eq_true_eq] at h; omega

end Go.Proofs.YtcpeajdjpecmkaaGreatDoor

/-
  Plain mathematics: a tree of n levels as one of n + 1; the number that num reads.
-/
namespace Go.Proofs.YtcpeajdjpecmkaaGreatDoor
open Go.RowKit

/-- A tree of at most n levels is one of at most n + 1. -/
def upT : (n : Nat) → T n → T (n + 1)
  | 0, t => Empty.elim t
  | n + 1, t => (⟨Nd.sort t, Nd.num t, Nd.text t, Nd.names t, (Nd.kids t).map (upT n)⟩ : Nd (T (n + 1)))

theorem RowIn.map {α β : Type} {S : Nat → Prop} {w : World} {R : α → Value → Value → Value → Value → Value → Prop} {R' : β → Value → Value → Value → Value → Value → Prop} {l : List α} {v : Value} (f : α → β) (h : RowIn S w R l v)
    (hR : ∀ x c0 c1 c2 c3 c4, x ∈ l → R x c0 c1 c2 c3 c4 → R' (f x) c0 c1 c2 c3 c4) : RowIn S w R' (l.map f) v := by
  obtain ⟨ao, cap, hv, hl, hc⟩ := h
  refine ⟨ao, cap, by rw [hv, List.length_map], by rw [List.length_map]; exact hl, fun hne => ?_⟩
  obtain ⟨b, off, ha, hB, hcell⟩ := hc (by intro e; apply hne; rw [e]; rfl)
  refine ⟨b, off, ha, hB, fun i hi => ?_⟩
  have hi' : i < l.length := by simpa using hi
  obtain ⟨c0, c1, c2, c3, c4, h0, h1, h2, h3, h4, hr⟩ := hcell i hi'
  refine ⟨c0, c1, c2, c3, c4, h0, h1, h2, h3, h4, ?_⟩
  rw [List.getElem_map]
  exact hR _ _ _ _ _ _ (List.getElem_mem hi') hr

theorem TreeIn.up {S : Nat → Prop} {w : World} : ∀ {n : Nat} {t : T n} {c0 c1 c2 c3 c4 : Value}, TreeIn S w n t c0 c1 c2 c3 c4 → TreeIn S w (n + 1) (upT n t) c0 c1 c2 c3 c4 := by
  intro n
  induction n with
  | zero => intro t c0 c1 c2 c3 c4 h; exact h.elim
  | succ n ih =>
    intro t c0 c1 c2 c3 c4 h
    obtain ⟨h0, h1, h2, hs, hw0, hw1, h3, h4⟩ := h
    exact ⟨h0, h1, h2, hs, hw0, hw1, h3, h4.map (upT n) fun x _ _ _ _ _ _ hx => ih hx⟩

theorem nDigits_le : ∀ (k u : Nat), u < 10 ^ (k + 1) → Lib.nDigits u ≤ k + 1
  | 0, u, h => by rw [Lib.nDigits_small (by simpa using h)]; omega
  | k + 1, u, h => by
    by_cases hu : u < 10
    · rw [Lib.nDigits_small hu]; omega
    · rw [Lib.nDigits_big hu]
      have := nDigits_le k (u / 10) (by rw [Nat.pow_succ] at h; omega)
      omega

end Go.Proofs.YtcpeajdjpecmkaaGreatDoor

/-
  The specification's reader of a list, for trees of any number of levels.
-/
namespace Go.Proofs.YtcpeajdjpecmkaaGreatDoor
open Go.RowKit

/-- How far the reader has to go. -/
def leftOf (w : World) (R : Nat) (H : Nat) : Nat := match w.cell? ⟨R, 2, none⟩ with | some (.bool true) => 0 | _ => H + 1 - atOf w R

theorem RdS.left {w : World} {R : Nat} {s : ByteArray} {i : Nat} {b : Bool} (h : RdS w R s i b) (H : Nat) : leftOf w R H = if b = true then 0 else H + 1 - i := by
  unfold leftOf
  rw [h.cell2, h.atOf]
  cases b <;> simp

theorem Tryz.info_treeR : (Tryz.prog.info? 26).map (fun i => (i.zero, i.size, i.bytes)) = some (some (.agg #[.int .i64 0, .int .i64 0, .string ⟨#[]⟩, .slice none 0 0, .slice none 0 0]), 5, 80) := by kernel_rfl

theorem owns_on {R X k z : Nat} {e : TypeId} {v : Value} {xs : List Value} {W w2 : World} (h : W.ownsRow (X + 1) e z v k xs) (hRX : R < X) (hn : Near R W w2) (o : Obj) : (w2.alloc o).ownsRow (X + 1) e z v k xs :=
  owns_keep h fun g hg => by
    have h1 := owns_lt h g hg
    have h2 := hn.size
    rw [Below.heap_alloc _ _ _ (by omega)]
    exact hn.block g h1.2 (by omega)

theorem box_after {R X k z : Nat} {e : TypeId} {v : Value} {xs : List Value} {W w2 w3 : World} {o : Obj} (h : W.ownsRow (X + 1) e z v k xs) (hX : X < W.heap.size) (hRX : R < X) (hn : Near R W w2) (hg : (w2.alloc o).grownBy w3 v.ownBlock) : w3.heap[X]? = W.heap[X]? := by
  have hl := hn.size
  rw [hg.block X (by simp; omega) (fun e => by have := owns_lt h X e.symm; omega), Below.heap_alloc _ _ _ (by omega)]
  exact hn.block X hX (by omega)

theorem Many.kidD {R X n : Nat} {w wr W1 W2 : World} {so : Int} {ns : List ByteArray} {ks : List (T n)} {nv kv : Value} {t : T n} {c0 c1 c2 c3 c4 : Value} {one : Obj} {g cap : Nat} (m : Nat) (h0 : Many R X n w wr so ns ks nv kv) (hRX : R < X) (hw : w.heap.size ≤ X)
    (hn : Near R (wr.drewN m) W1) (ht : TreeIn (fun b => (wr.drewN m).heap.size ≤ b ∧ b < W1.heap.size) W1 n t c0 c1 c2 c3 c4) {xs : List Value}
    (hxs : wr.ownsRow (X + 1) 26 5 kv ks.length xs) (hk : ∀ j (h : j < ks.length), ∃ c0 c1 c2 c3 c4, (xs[j * 5]? = some c0 ∧ xs[j * 5 + 1]? = some c1 ∧ xs[j * 5 + 2]? = some c2 ∧ xs[j * 5 + 3]? = some c3 ∧ xs[j * 5 + 4]? = some c4) ∧ TreeIn (Far (X + 1) nv kv wr.heap.size) wr n ks[j] c0 c1 c2 c3 c4)
    (hown : W2.ownsRow (X + 1) 26 5 (.slice (some ⟨g, 0, none⟩) (ks.length + 1) cap) (ks.length + 1) (xs ++ [c0, c1, c2, c3, c4])) (hgrow : (W1.alloc one).grownBy W2 kv.ownBlock) (hat : kv.ownBlock = some g ∨ g = W1.heap.size + 1) :
    Many R X n w (W2.setCell ⟨X, 4, none⟩ (.slice (some ⟨g, 0, none⟩) (ks.length + 1) cap)) so ns (ks ++ [t]) nv (.slice (some ⟨g, 0, none⟩) (ks.length + 1) cap) :=
  Many.kid (W := wr.drewN m) (Wa := W1.alloc one) (one := one) (h0.keep hRX ((Near.refl R wr).drewN m)) hRX hw hn ht rfl ⟨rfl, rfl, rfl⟩ hxs
    (fun j hj => by obtain ⟨d0, d1, d2, d3, d4, hd, hdt⟩ := hk j hj; exact ⟨d0, d1, d2, d3, d4, hd, TreeIn.keep (S := Far (X + 1) nv kv wr.heap.size) (w := wr) (w' := wr.drewN m) (fun _ _ => rfl) (fun _ h => h) hdt⟩) hown hgrow hat

end Go.Proofs.YtcpeajdjpecmkaaGreatDoor

/-
  The specification's reader of a form: plain mathematics of a round.
-/
namespace Go.Proofs.YtcpeajdjpecmkaaGreatDoor
open Go.RowKit

theorem name_head {x : ByteArray} (h : nameB x = true) : ∃ c r, x.data.toList = c :: r ∧ nmByte c = true := by
  have hsz : 1 ≤ x.size := by simp only [nameB, Bool.and_eq_true, decide_eq_true_eq] at h; exact h.1.1.1
  cases hd : x.data.toList with
  | nil =>
    have h1 : x.data.toList.length = 0 := by rw [hd]; rfl
    have h2 : x.data.toList.length = x.size := by simp
    omega
  | cons c r => exact ⟨c, r, rfl, nameB_bytes h c (by rw [hd]; exact List.mem_cons_self ..)⟩

end Go.Proofs.YtcpeajdjpecmkaaGreatDoor

/-
  The specification's reader of trees: plain mathematics of what it goes over.
-/
namespace Go.Proofs.YtcpeajdjpecmkaaGreatDoor
open Go.RowKit

/-- The eight makes of a tree that is ok by itself. -/
theorem goodT_cases {m : Nat} {t : T (m + 1)} {d : Int} (h : goodT (m + 1) t d = true) :
    (∃ k : Int, (-999999999 ≤ k ∧ k ≤ 999999999) ∧ t = (⟨1, k, ByteArray.empty, [], []⟩ : Nd (T m)) ∧ txtL (m + 1) t = Lib.itoa k) ∨
    (∃ x : ByteArray, textB x = true ∧ t = (⟨2, 0, x, [], []⟩ : Nd (T m)) ∧ txtL (m + 1) t = 34 :: (x.data.toList ++ [34])) ∨
    (t = (⟨3, 1, ByteArray.empty, [], []⟩ : Nd (T m)) ∧ txtL (m + 1) t = [121, 101, 115]) ∨ (t = (⟨3, 0, ByteArray.empty, [], []⟩ : Nd (T m)) ∧ txtL (m + 1) t = [110, 111]) ∨
    (∃ ks, t = (⟨4, 0, ByteArray.empty, [], ks⟩ : Nd (T m)) ∧ (∀ k, k ∈ ks → goodT m k (d + 1) = true) ∧ txtL (m + 1) t = 91 :: (joinL (ks.map (txtL m)) ++ [93])) ∨
    (∃ ns ks, t = (⟨5, 0, ByteArray.empty, ns, ks⟩ : Nd (T m)) ∧ ns.length = ks.length ∧ (∀ x, x ∈ ns → nameB x = true) ∧ (∀ k, k ∈ ks → goodT m k (d + 1) = true) ∧ txtL (m + 1) t = 123 :: (joinL (zipL ns (ks.map (txtL m))) ++ [125])) ∨
    (t = (⟨6, 0, ByteArray.empty, [], []⟩ : Nd (T m)) ∧ txtL (m + 1) t = [126]) ∨
    (∃ k, t = (⟨6, 0, ByteArray.empty, [], [k]⟩ : Nd (T m)) ∧ goodT m k (d + 1) = true ∧ txtL (m + 1) t = 63 :: txtL m k) := by
  simp only [goodT, Bool.and_eq_true] at h
  have ha : aloneB (show Nd (T m) from t) = true := h.1.2
  have hk := List.all_eq_true.1 h.2
  obtain ⟨so, nu, tx, na, ki⟩ : Nd (T m) := t
  simp only [aloneB] at ha hk
  unfold aloneF at ha
  have nil1 : ∀ l : List ByteArray, (l.length : Int) = 0 → l = [] := fun l hl => List.eq_nil_of_length_eq_zero (by omega)
  have nil2 : ∀ l : List (T m), (l.length : Int) = 0 → l = [] := fun l hl => List.eq_nil_of_length_eq_zero (by omega)
  by_cases h1 : so = 1
  · rw [if_pos h1] at ha
    simp only [Bool.and_eq_true, beq_iff_eq, decide_eq_true_eq] at ha
    obtain ⟨⟨⟨a1, a2⟩, a3⟩, a4⟩ := ha
    have e1 := ba_empty a2
    have e2 := nil1 _ a3
    have e3 := nil2 _ a4
    subst e1 e2 e3 h1
    exact .inl ⟨nu, a1, rfl, by simp [txtL]⟩
  rw [if_neg h1] at ha
  by_cases h2 : so = 2
  · rw [if_pos h2] at ha
    simp only [Bool.and_eq_true, beq_iff_eq] at ha
    obtain ⟨⟨⟨a1, a2⟩, a3⟩, a4⟩ := ha
    have e2 := nil1 _ a3
    have e3 := nil2 _ a4
    subst a1 e2 e3 h2
    exact .inr (.inl ⟨tx, a2, rfl, by simp [txtL]⟩)
  rw [if_neg h2] at ha
  by_cases h3 : so = 3
  · rw [if_pos h3] at ha
    simp only [Bool.and_eq_true, beq_iff_eq, decide_eq_true_eq] at ha
    obtain ⟨⟨⟨a1, a2⟩, a3⟩, a4⟩ := ha
    have e1 := ba_empty a2
    have e2 := nil1 _ a3
    have e3 := nil2 _ a4
    subst e1 e2 e3 h3
    by_cases hn : 0 < nu
    · have : nu = 1 := by omega
      subst this
      exact .inr (.inr (.inl ⟨rfl, by simp [txtL]⟩))
    · have : nu = 0 := by omega
      subst this
      exact .inr (.inr (.inr (.inl ⟨rfl, by simp [txtL]⟩)))
  rw [if_neg h3] at ha
  by_cases h4 : so = 4
  · rw [if_pos h4] at ha
    simp only [Bool.and_eq_true, beq_iff_eq, decide_eq_true_eq] at ha
    obtain ⟨⟨⟨a1, a2⟩, a3⟩, a4⟩ := ha
    have e1 := ba_empty a2
    have e2 := nil1 _ a3
    subst a1 e1 e2 h4
    exact .inr (.inr (.inr (.inr (.inl ⟨ki, rfl, fun k hk' => hk k hk', by simp [txtL]⟩))))
  rw [if_neg h4] at ha
  by_cases h5 : so = 5
  · rw [if_pos h5] at ha
    simp only [Bool.and_eq_true, beq_iff_eq] at ha
    obtain ⟨⟨⟨a1, a2⟩, a3⟩, a4⟩ := ha
    have e1 := ba_empty a2
    subst a1 e1 h5
    exact .inr (.inr (.inr (.inr (.inr (.inl ⟨na, ki, rfl, by omega, riseB_name a4, fun k hk' => hk k hk', by simp [txtL]⟩)))))
  rw [if_neg h5] at ha
  by_cases h6 : so = 6
  · rw [if_pos h6] at ha
    simp only [Bool.and_eq_true, beq_iff_eq, decide_eq_true_eq] at ha
    obtain ⟨⟨⟨a1, a2⟩, a3⟩, a4⟩ := ha
    have e1 := ba_empty a2
    have e2 := nil1 _ a3
    subst a1 e1 e2 h6
    match ki, a4, hk with
    | [], _, _ => exact .inr (.inr (.inr (.inr (.inr (.inr (.inl ⟨rfl, by simp [txtL, mayTxt]⟩))))))
    | [x], _, hk => exact .inr (.inr (.inr (.inr (.inr (.inr (.inr ⟨x, rfl, hk x (List.mem_cons_self ..), by simp [txtL, mayTxt]⟩))))))
    | _ :: _ :: r, a4, _ => simp at a4; omega
  · rw [if_neg h6] at ha; cases ha

end Go.Proofs.YtcpeajdjpecmkaaGreatDoor

/-
  Plain mathematics: a tree of a text, as a function of no bounds; what it reads has that text, and what is ok is read from its text.
-/
namespace Go.Proofs.YtcpeajdjpecmkaaGreatDoor
open Go.RowKit

/-- The parts of a list. -/
def listQ {α : Type} (f : List UInt8 → Option (α × List UInt8)) : Nat → List α → List UInt8 → Option (List α × List UInt8)
  | 0, _, _ => none
  | k + 1, acc, s =>
    match eatP [93] s with
    | some r => some (acc, r)
    | none =>
      match (if acc.length = 0 then some s else eatP [44] s) with
      | none => none
      | some s1 =>
        match f s1 with
        | none => none
        | some (t, r) => listQ f k (acc ++ [t]) r

/-- A tree of a text. -/
def parseU : (n : Nat) → List UInt8 → Option (T n × List UInt8)
  | 0, _ => none
  | n + 1, s =>
    if digC (s.headD 0) = true ∨ s.headD 0 = 45 then
      match numOf (numW s) with
      | none => none
      | some m => some ((⟨1, m, ByteArray.empty, [], []⟩ : Nd (T n)), s.drop (numW s).length)
    else if s.headD 0 = 34 then
      match untilP 34 (s.drop 1) with
      | none => none
      | some (w, r) => some ((⟨2, 0, bs w, [], []⟩ : Nd (T n)), r.drop 1)
    else if s.headD 0 = 121 ∨ s.headD 0 = 110 then
      match eatP [121, 101, 115] s with
      | some r => some ((⟨3, 1, ByteArray.empty, [], []⟩ : Nd (T n)), r)
      | none =>
        match eatP [110, 111] s with
        | some r => some ((⟨3, 0, ByteArray.empty, [], []⟩ : Nd (T n)), r)
        | none => none
    else if s.headD 0 = 91 then
      match listQ (parseU n) ((s.drop 1).length + 1) [] (s.drop 1) with
      | none => none
      | some (l, r) => some ((⟨4, 0, ByteArray.empty, [], l⟩ : Nd (T n)), r)
    else if s.headD 0 = 123 then
      match formQ (parseU n) ((s.drop 1).length + 1) [] [] (s.drop 1) with
      | none => none
      | some (ns, l, r) => some ((⟨5, 0, ByteArray.empty, ns, l⟩ : Nd (T n)), r)
    else if s.headD 0 = 126 then some ((⟨6, 0, ByteArray.empty, [], []⟩ : Nd (T n)), s.drop 1)
    else if s.headD 0 = 63 then
      match parseU n (s.drop 1) with
      | none => none
      | some (t, r) => some ((⟨6, 0, ByteArray.empty, [], [t]⟩ : Nd (T n)), r)
    else none

theorem listQ_sound {α : Type} (f : List UInt8 → Option (α × List UInt8)) (txt : α → List UInt8) (hf : ∀ s t r, f s = some (t, r) → s = txt t ++ r)
    (fuel : Nat) (acc : List α) (s : List UInt8) (l : List α) (r : List UInt8) (h : listQ f fuel acc s = some (l, r)) :
    ∃ ks, l = acc ++ ks ∧ s = tailL (decide (acc.length = 0)) (ks.map txt) ++ 93 :: r := by
  induction fuel generalizing acc s with
  | zero => simp [listQ] at h
  | succ k ih =>
    rw [listQ] at h
    cases h1 : eatP [93] s with
    | some r1 =>
      rw [h1] at h
      simp only [Option.some.injEq, Prod.mk.injEq] at h
      obtain ⟨rfl, rfl⟩ := h
      exact ⟨[], by simp, by simpa [tailL] using eatP_some h1⟩
    | none =>
      rw [h1] at h
      simp only at h
      cases h2 : (if acc.length = 0 then some s else eatP [44] s) with
      | none => rw [h2] at h; cases h
      | some s1 =>
        rw [h2] at h
        simp only at h
        cases h3 : f s1 with
        | none => rw [h3] at h; cases h
        | some x =>
          obtain ⟨t, r2⟩ := x
          rw [h3] at h
          simp only at h
          have e1 := hf _ _ _ h3
          obtain ⟨ks, k1, k2⟩ := ih _ _ h
          have hacc : decide ((acc ++ [t]).length = 0) = false := by simp
          rw [hacc] at k2
          refine ⟨t :: ks, by simpa using k1, ?_⟩
          simp only [List.map_cons, tailL, List.append_assoc]
          by_cases h0 : acc.length = 0
          · rw [if_pos h0] at h2; cases h2
            simp only [h0, decide_true, if_true]
            rw [← k2]; exact e1
          · rw [if_neg h0] at h2
            simp only [h0, decide_false, Bool.false_eq_true, if_false, List.cons_append]
            rw [← k2, ← e1]; exact eatP_some h2

theorem headU_eq {s : List UInt8} {c : UInt8} (h : s.headD 0 = c) (hc : c ≠ 0) : s = c :: s.drop 1 := by
  cases s with
  | nil => exact absurd h.symm hc
  | cons d r => simp at h; subst h; rfl

theorem parseU_sound : ∀ (n : Nat) (s : List UInt8) (t : T n) (r : List UInt8), parseU n s = some (t, r) → s = txtL n t ++ r := by
  intro n
  induction n with
  | zero => intro s t r h; simp [parseU] at h
  | succ n ih =>
    intro s t r h
    rw [parseU] at h
    split at h
    · cases h1 : numOf (numW s) with
      | none => rw [h1] at h; cases h
      | some m =>
        rw [h1] at h; cases h
        have := (numOf_some h1).2
        simp only [txtL, if_true]
        rw [this]; exact (numW_prefix s).symm
    split at h
    · next hc =>
      cases h1 : untilP 34 (s.drop 1) with
      | none => rw [h1] at h; cases h
      | some x =>
        obtain ⟨w, r1⟩ := x
        rw [h1] at h; cases h
        obtain ⟨r', e1, e2, -⟩ := untilP_some h1
        rw [headU_eq hc (by decide), e2, e1]
        simp [txtL, bs_toList]
    split at h
    · cases h1 : eatP [121, 101, 115] s with
      | some r1 => rw [h1] at h; cases h; simpa [txtL] using eatP_some h1
      | none =>
        rw [h1] at h
        simp only at h
        cases h2 : eatP [110, 111] s with
        | some r1 => rw [h2] at h; cases h; simpa [txtL] using eatP_some h2
        | none => rw [h2] at h; cases h
    split at h
    · next hc =>
      cases h1 : listQ (parseU n) ((s.drop 1).length + 1) [] (s.drop 1) with
      | none => rw [h1] at h; cases h
      | some x =>
        obtain ⟨l, r1⟩ := x
        rw [h1] at h; cases h
        obtain ⟨ks, k1, k2⟩ := listQ_sound _ (txtL n) (fun s t r h => ih s t r h) _ _ _ _ _ h1
        simp only [List.nil_append] at k1
        subst k1
        simp only [List.length_nil, decide_true, tailL_true] at k2
        rw [headU_eq hc (by decide), k2]; simp [txtL]
    split at h
    · next hc =>
      cases h1 : formQ (parseU n) ((s.drop 1).length + 1) [] [] (s.drop 1) with
      | none => rw [h1] at h; cases h
      | some x =>
        obtain ⟨ns, l, r1⟩ := x
        rw [h1] at h; cases h
        obtain ⟨ms, ks, m1, k1, ml, k2⟩ := formQ_sound _ (txtL n) (fun s t r h => ih s t r h) _ _ _ _ _ _ _ h1
        simp only [List.nil_append] at m1 k1
        subst m1 k1
        simp only [List.length_nil, decide_true, tailL_true] at k2
        rw [headU_eq hc (by decide), k2]; simp [txtL]
    split at h
    · next hc => cases h; rw [headU_eq hc (by decide)]; simp [txtL, mayTxt]
    split at h
    · next hc =>
      cases h1 : parseU n (s.drop 1) with
      | none => rw [h1] at h; cases h
      | some x =>
        obtain ⟨t1, r1⟩ := x
        rw [h1] at h; cases h
        have := ih _ _ _ h1
        rw [headU_eq hc (by decide), this]; simp [txtL, mayTxt]
    · cases h

theorem txtL_pos (n : Nat) (t : T (n + 1)) : 1 ≤ (txtL (n + 1) t).length := by
  obtain ⟨c, r, e, -⟩ := txtL_head n t
  rw [e]; simp

theorem parseU_shrinks (n : Nat) (s : List UInt8) (t : T n) (r : List UInt8) (h : parseU n s = some (t, r)) : r.length < s.length := by
  have := parseU_sound n s t r h
  cases n with
  | zero => simp [parseU] at h
  | succ n =>
    have h2 := txtL_pos n t
    rw [this, List.length_append]; omega

theorem listQ_complete {α : Type} (f : List UInt8 → Option (α × List UInt8)) (txt : α → List UInt8) (ks : List α) (hf : ∀ k, k ∈ ks → ∀ post, noDig post = true → f (txt k ++ post) = some (k, post))
    (hh : ∀ k, k ∈ ks → ∃ c r, txt k = c :: r ∧ begB c = true) (fuel : Nat) (acc : List α) (post : List UInt8) (hfu : ks.length < fuel) :
    listQ f fuel acc (tailL (decide (acc.length = 0)) (ks.map txt) ++ 93 :: post) = some (acc ++ ks, post) := by
  induction ks generalizing fuel acc with
  | nil =>
    cases fuel with
    | zero => simp at hfu
    | succ k => simp [listQ, tailL, eatP_one_cons]
  | cons x ks ih =>
    cases fuel with
    | zero => omega
    | succ k =>
      have hnd : noDig (tailL false (ks.map txt) ++ 93 :: post) = true := by
        cases ks with
        | nil => rfl
        | cons y r => rw [List.map_cons, tailL_cons_false]; rfl
      have step := hf x (List.mem_cons_self ..) (tailL false (ks.map txt) ++ 93 :: post) hnd
      have rest := ih (fun k hk => hf k (List.mem_cons_of_mem _ hk)) (fun k hk => hh k (List.mem_cons_of_mem _ hk)) k (acc ++ [x]) (by simp at hfu; omega)
      have hacc : decide ((acc ++ [x]).length = 0) = false := by simp
      rw [hacc] at rest
      obtain ⟨c, r, e, hb⟩ := hh x (List.mem_cons_self ..)
      simp only [List.map_cons, tailL, List.append_assoc]
      by_cases h0 : acc.length = 0
      · simp only [h0, decide_true, if_true]
        rw [listQ]
        have hh1 : eatP [93] (txt x ++ (tailL false (ks.map txt) ++ 93 :: post)) = none := by rw [e, List.cons_append]; exact eatP_one_ne _ _ _ (beg_ne hb).1
        rw [hh1]
        simp only [h0, if_true]
        rw [step]
        simp only
        rw [rest]
        simp
      · simp only [h0, decide_false, if_false, Bool.false_eq_true, List.cons_append]
        rw [listQ, eatP_one_ne _ _ _ (by decide)]
        simp only [h0, if_false, eatP_one_cons]
        rw [step]
        simp only
        rw [rest]
        simp

theorem formQ_completeT {α : Type} (f : List UInt8 → Option (α × List UInt8)) (txt : α → List UInt8) (ks : List α) (hf : ∀ k, k ∈ ks → ∀ post, noDig post = true → f (txt k ++ post) = some (k, post))
    (ms : List ByteArray) (hms : ∀ s, s ∈ ms → nameB s = true) (hlen : ms.length = ks.length) (fuel : Nat) (ns : List ByteArray) (acc : List α) (post : List UInt8) (hfu : ks.length < fuel) :
    formQ f fuel ns acc (tailL (decide (ns.length = 0)) (zipL ms (ks.map txt)) ++ 125 :: post) = some (ns ++ ms, acc ++ ks, post) := by
  induction ks generalizing fuel ns acc ms with
  | nil =>
    have : ms = [] := List.eq_nil_of_length_eq_zero (by simpa using hlen)
    subst this
    cases fuel with
    | zero => simp at hfu
    | succ k => simp [formQ, tailL, zipL, eatP_one_cons]
  | cons x ks ih =>
    cases ms with
    | nil => simp at hlen
    | cons m ms =>
    cases fuel with
    | zero => omega
    | succ k =>
      have hm := hms m (List.mem_cons_self ..)
      have hmb := nameB_bytes hm
      have hnd : noDig (tailL false (zipL ms (ks.map txt)) ++ 125 :: post) = true := by
        cases zipL ms (ks.map txt) with
        | nil => rfl
        | cons y r => rw [tailL_cons_false]; rfl
      have step := hf x (List.mem_cons_self ..) (tailL false (zipL ms (ks.map txt)) ++ 125 :: post) hnd
      have rest := ih (fun k hk => hf k (List.mem_cons_of_mem _ hk)) ms (fun s hs => hms s (List.mem_cons_of_mem _ hs)) (by simpa using hlen) k (ns ++ [m]) (acc ++ [x]) (by simp at hfu; omega)
      have hacc : decide ((ns ++ [m]).length = 0) = false := by simp
      rw [hacc] at rest
      have hun := untilP_append 58 m.data.toList (txt x ++ (tailL false (zipL ms (ks.map txt)) ++ 125 :: post)) (fun c hc => (nm_ne (hmb c hc)).1)
      obtain ⟨c, r, e, hcb⟩ := name_head hm
      have hcn := nm_ne hcb
      simp only [List.map_cons, zipL, tailL, List.append_assoc]
      by_cases h0 : ns.length = 0
      · simp only [h0, decide_true, if_true, List.append_assoc, List.cons_append]
        rw [formQ]
        have hh1 : eatP [125] (m.data.toList ++ 58 :: (txt x ++ (tailL false (zipL ms (ks.map txt)) ++ 125 :: post))) = none := by rw [e, List.cons_append]; exact eatP_one_ne _ _ _ hcn.2.1
        rw [hh1]
        simp only [h0, if_true]
        rw [hun]
        simp only [List.drop_succ_cons, List.drop_zero]
        rw [step]
        simp only [bs_of]
        rw [rest]
        simp
      · simp only [h0, decide_false, if_false, Bool.false_eq_true, List.append_assoc, List.cons_append]
        rw [formQ, eatP_one_ne _ _ _ (by decide)]
        simp only [h0, if_false, eatP_one_cons]
        rw [hun]
        simp only [List.drop_succ_cons, List.drop_zero]
        rw [step]
        simp only [bs_of]
        rw [rest]
        simp

theorem parseU_complete : ∀ (n : Nat) (t : T n) (d : Int) (post : List UInt8), goodT n t d = true → noDig post = true → parseU n (txtL n t ++ post) = some (t, post) := by
  intro n
  induction n with
  | zero => intro t d post h; simp [goodT] at h
  | succ n ih =>
    intro t d post h hnd
    rcases goodT_cases h with ⟨k, q0, q1, q2⟩ | ⟨y, q3, q1, q2⟩ | ⟨q1, q2⟩ | ⟨q1, q2⟩ | ⟨ks, q1, q3, q2⟩ | ⟨ns, ks, q1, q3, q4, q5, q2⟩ | ⟨q1, q2⟩ | ⟨y, q1, q3, q2⟩
    · rw [q2, parseU]
      obtain ⟨c, r, e, hc⟩ := itoa_head k
      have hh : (Lib.itoa k ++ post).headD 0 = c := by rw [e]; rfl
      rw [hh, if_pos hc, numW_itoa k post hnd, numOf_itoa k q0]
      simp [q1]
    · have e : txtL (n + 1) t ++ post = 34 :: (y.data.toList ++ 34 :: post) := by rw [q2]; simp
      rw [e, parseU]
      simp only [List.headD_cons, List.drop_succ_cons, List.drop_zero, untilP_append 34 _ _ (textB_bytes q3), bs_of, q1]
      simp [digC]
    · rw [q2, parseU]
      simp only [List.cons_append, List.nil_append, List.headD_cons, q1]
      simp [digC, eatP, List.isPrefixOf]
    · rw [q2, parseU]
      simp only [List.cons_append, List.nil_append, List.headD_cons, q1]
      simp [digC, eatP, List.isPrefixOf]
    · have e : txtL (n + 1) t ++ post = 91 :: (tailL true (ks.map (txtL n)) ++ 93 :: post) := by rw [q2, tailL_true]; simp
      have hfu : ks.length < (tailL true (ks.map (txtL n)) ++ 93 :: post).length + 1 := by
        have h1 := tailL_count (ks.map (txtL n)) (fun x hx => by
          obtain ⟨k, hk, rfl⟩ := List.mem_map.1 hx
          obtain ⟨c, r, e, -⟩ := good_head n k (d + 1) (q3 k hk)
          rw [e]; simp) true
        rw [List.length_map] at h1
        simp only [List.length_append, List.length_cons]; omega
      have hlist := listQ_complete (parseU n) (txtL n) ks (fun k hk post hp => ih k (d + 1) post (q3 k hk) hp) (fun k hk => good_head n k (d + 1) (q3 k hk)) _ [] post hfu
      simp only [List.length_nil, decide_true, List.nil_append] at hlist
      rw [e, parseU]
      simp only [List.headD_cons, List.drop_succ_cons, List.drop_zero, hlist, q1]
      simp [digC]
    · have e : txtL (n + 1) t ++ post = 123 :: (tailL true (zipL ns (ks.map (txtL n))) ++ 125 :: post) := by rw [q2, tailL_true]; simp
      have hfu : ks.length < (tailL true (zipL ns (ks.map (txtL n))) ++ 125 :: post).length + 1 := by
        have h1 := tailL_count (zipL ns (ks.map (txtL n))) (zipL_ne _ _) true
        rw [zipL_length _ _ (by simpa using q3), List.length_map] at h1
        simp only [List.length_append, List.length_cons]; omega
      have hform := formQ_completeT (parseU n) (txtL n) ks (fun k hk post hp => ih k (d + 1) post (q5 k hk) hp) ns q4 q3 _ [] [] post hfu
      simp only [List.length_nil, decide_true, List.nil_append] at hform
      rw [e, parseU]
      simp only [List.headD_cons, List.drop_succ_cons, List.drop_zero, hform, q1]
      simp [digC]
    · rw [q2, parseU]
      simp only [List.cons_append, List.nil_append, List.headD_cons, q1]
      simp [digC]
    · rw [q2, parseU]
      simp only [List.cons_append, List.headD_cons, List.drop_succ_cons, List.drop_zero, ih y (d + 1) post q3 hnd, q1]
      simp [digC]

theorem okT_parts {n : Nat} {t : T n} (h : okT n t = true) : goodT n t 1 = true ∧ cntT n t ≤ 120 := by
  simpa only [okT, Bool.and_eq_true, decide_eq_true_eq] using h

end Go.Proofs.YtcpeajdjpecmkaaGreatDoor

/-
  The specification's reader of trees: leaves; where nothing is read.
-/
namespace Go.Proofs.YtcpeajdjpecmkaaGreatDoor
open Go.RowKit

theorem leafT_in (S : Nat → Prop) (w : World) (m : Nat) (x v : Int) (tx : ByteArray) (hx : (Lit.int .i64 x).wf = true) (hv : (Lit.int .i64 v).wf = true) (ht : tx.size ≤ 10000) : TreeIn S w (m + 1) (⟨x, v, tx, [], []⟩ : Nd (T m)) (.int .i64 x) (.int .i64 v) (.string tx) (.slice none 0 0) (.slice none 0 0) :=
  ⟨rfl, rfl, rfl, by show tx.size ≤ _; unfold maxLen; omega, hx, hv, ⟨none, 0, rfl, by simp [maxLen], fun s h => (by cases h), fun h => absurd rfl h⟩, ⟨none, 0, rfl, by simp [maxLen], fun h => absurd rfl h⟩⟩

end Go.Proofs.YtcpeajdjpecmkaaGreatDoor
