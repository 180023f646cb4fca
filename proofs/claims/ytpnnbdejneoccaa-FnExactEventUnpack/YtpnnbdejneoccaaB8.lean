/-
  Several texts in one, in their order.
-/
import Derived.Test.YtpnnbdejneoccaaUp
import Derived.Test.YtpnnbdejneoccaaB7
import Derived.Deep.RegionLaw
import Derived.Test.YtpnnbdejneoccaaB6
import Derived.Test.YtpnnbdejneoccaaText
import Derived.Test.YtpnnbdejneoccaaB1
import Derived.Deep.RegionWith
import Derived.Laws.IdiomStrings
import Derived.Lib.ItoaMem
import Derived.WalkSmall
import Derived.LoopTactic
import Derived.Test.YtpnnbdejneoccaaParse2

/-
  The specification's reader of a list, for trees of any number of levels.
-/
namespace Go.Proofs.Ytpnnbdejneoccaa
open Go.RowKit

theorem Try.info_treeR : (Try.prog.info? 33).map (fun i => (i.zero, i.size, i.bytes)) = some (some (.agg #[.int .i64 0, .int .i64 0, .string ⟨#[]⟩, .slice none 0 0, .slice none 0 0]), 5, 80) := by kernel_rfl

theorem owns_on {R X k z : Nat} {e : TypeId} {v : Value} {xs : List Value} {W w2 : World} (h : W.ownsRow (X + 1) e z v k xs) (hRX : R < X) (hn : Near R W w2) (o : Obj) : (w2.alloc o).ownsRow (X + 1) e z v k xs :=
  owns_keep h fun g hg => by
    have h1 := owns_lt h g hg
    have h2 := hn.size
    rw [Below.heap_alloc _ _ _ (by omega)]
    exact hn.block g h1.2 (by omega)

theorem box_after {R X k z : Nat} {e : TypeId} {v : Value} {xs : List Value} {W w2 w3 : World} {o : Obj} (h : W.ownsRow (X + 1) e z v k xs) (hX : X < W.heap.size) (hRX : R < X) (hn : Near R W w2) (hg : (w2.alloc o).grownBy w3 v.ownBlock) : w3.heap[X]? = W.heap[X]? := by
  have hl := hn.size
  rw [hg.block X (by simp; omega) (fun e => by have := owns_lt h X e.symm; omega), Below.heap_alloc _ _ _ (by omega)]
  exact hn.block X hX (by omega)

theorem Many.kidD {R X n : Nat} {w wr W1 W2 : World} {so : Int} {ns : List ByteArray} {ks : List (T n)} {nv kv : Value} {t : T n} {c0 c1 c2 c3 c4 : Value} {one : Obj} {g cap : Nat} (m : Nat) (h0 : Many R X n w wr so ns ks nv kv) (hRX : R < X) (hw : w.heap.size ≤ X)
    (hn : Near R (wr.drewN m) W1) (ht : TreeIn (fun b => (wr.drewN m).heap.size ≤ b ∧ b < W1.heap.size) W1 n t c0 c1 c2 c3 c4) {xs : List Value}
    (hxs : wr.ownsRow (X + 1) 33 5 kv ks.length xs) (hk : ∀ j (h : j < ks.length), ∃ c0 c1 c2 c3 c4, (xs[j * 5]? = some c0 ∧ xs[j * 5 + 1]? = some c1 ∧ xs[j * 5 + 2]? = some c2 ∧ xs[j * 5 + 3]? = some c3 ∧ xs[j * 5 + 4]? = some c4) ∧ TreeIn (Far (X + 1) nv kv wr.heap.size) wr n ks[j] c0 c1 c2 c3 c4)
    (hown : W2.ownsRow (X + 1) 33 5 (.slice (some ⟨g, 0, none⟩) (ks.length + 1) cap) (ks.length + 1) (xs ++ [c0, c1, c2, c3, c4])) (hgrow : (W1.alloc one).grownBy W2 kv.ownBlock) (hat : kv.ownBlock = some g ∨ g = W1.heap.size + 1) :
    Many R X n w (W2.setCell ⟨X, 4, none⟩ (.slice (some ⟨g, 0, none⟩) (ks.length + 1) cap)) so ns (ks ++ [t]) nv (.slice (some ⟨g, 0, none⟩) (ks.length + 1) cap) :=
  Many.kid (W := wr.drewN m) (Wa := W1.alloc one) (one := one) (h0.keep hRX ((Near.refl R wr).drewN m)) hRX hw hn ht rfl ⟨rfl, rfl, rfl⟩ hxs
    (fun j hj => by obtain ⟨d0, d1, d2, d3, d4, hd, hdt⟩ := hk j hj; exact ⟨d0, d1, d2, d3, d4, hd, TreeIn.keep (S := Far (X + 1) nv kv wr.heap.size) (w := wr) (w' := wr.drewN m) (fun _ _ => rfl) (fun _ h => h) hdt⟩) hown hgrow hat

end Go.Proofs.Ytpnnbdejneoccaa

/-
  The specification's reader of trees: plain mathematics of what it goes over.
-/
namespace Go.Proofs.Ytpnnbdejneoccaa
open Go.RowKit

/-- The eight makes of a tree that is ok by itself. -/
theorem goodT_cases {m : Nat} {t : T (m + 1)} {d : Int} (h : goodT (m + 1) t d = true) :
    (∃ k : Int, (-999999999 ≤ k ∧ k ≤ 999999999) ∧ t = (⟨1, k, ByteArray.empty, [], []⟩ : Nd (T m)) ∧ txtL (m + 1) t = Lib.itoa k) ∨
    (∃ x : ByteArray, textB x = true ∧ t = (⟨2, 0, x, [], []⟩ : Nd (T m)) ∧ txtL (m + 1) t = 34 :: (x.data.toList ++ [34])) ∨
    (t = (⟨3, 1, ByteArray.empty, [], []⟩ : Nd (T m)) ∧ txtL (m + 1) t = [121, 101, 115]) ∨ (t = (⟨3, 0, ByteArray.empty, [], []⟩ : Nd (T m)) ∧ txtL (m + 1) t = [110, 111]) ∨
    (∃ ks, t = (⟨4, 0, ByteArray.empty, [], ks⟩ : Nd (T m)) ∧ (∀ k, k ∈ ks → goodT m k (d + 1) = true) ∧ txtL (m + 1) t = 91 :: (joinL (ks.map (txtL m)) ++ [93])) ∨
    (∃ ns ks, t = (⟨5, 0, ByteArray.empty, ns, ks⟩ : Nd (T m)) ∧ ns.length = ks.length ∧ (∀ x, x ∈ ns → nameB x = true) ∧ (∀ k, k ∈ ks → goodT m k (d + 1) = true) ∧ txtL (m + 1) t = 123 :: (joinL (zipL ns (ks.map (txtL m))) ++ [125])) ∨
    (t = (⟨6, 0, ByteArray.empty, [], []⟩ : Nd (T m)) ∧ txtL (m + 1) t = [126]) ∨
    (∃ k, t = (⟨6, 0, ByteArray.empty, [], [k]⟩ : Nd (T m)) ∧ goodT m k (d + 1) = true ∧ txtL (m + 1) t = 63 :: txtL m k) := by
  simp only [goodT, Bool.and_eq_true] at h
  have ha : aloneB (show Nd (T m) from t) = true := h.1.2
  have hk := List.all_eq_true.1 h.2
  obtain ⟨so, nu, tx, na, ki⟩ : Nd (T m) := t
  simp only [aloneB] at ha hk
  unfold aloneF at ha
  have nil1 : ∀ l : List ByteArray, (l.length : Int) = 0 → l = [] := fun l hl => List.eq_nil_of_length_eq_zero (by omega)
  have nil2 : ∀ l : List (T m), (l.length : Int) = 0 → l = [] := fun l hl => List.eq_nil_of_length_eq_zero (by omega)
  by_cases h1 : so = 1
  · rw [if_pos h1] at ha
    simp only [Bool.and_eq_true, beq_iff_eq, decide_eq_true_eq] at ha
    obtain ⟨⟨⟨a1, a2⟩, a3⟩, a4⟩ := ha
    have e1 := ba_empty a2
    have e2 := nil1 _ a3
    have e3 := nil2 _ a4
    subst e1 e2 e3 h1
    exact .inl ⟨nu, a1, rfl, by simp [txtL]⟩
  rw [if_neg h1] at ha
  by_cases h2 : so = 2
  · rw [if_pos h2] at ha
    simp only [Bool.and_eq_true, beq_iff_eq] at ha
    obtain ⟨⟨⟨a1, a2⟩, a3⟩, a4⟩ := ha
    have e2 := nil1 _ a3
    have e3 := nil2 _ a4
    subst a1 e2 e3 h2
    exact .inr (.inl ⟨tx, a2, rfl, by simp [txtL]⟩)
  rw [if_neg h2] at ha
  by_cases h3 : so = 3
  · rw [if_pos h3] at ha
    simp only [Bool.and_eq_true, beq_iff_eq, decide_eq_true_eq] at ha
    obtain ⟨⟨⟨a1, a2⟩, a3⟩, a4⟩ := ha
    have e1 := ba_empty a2
    have e2 := nil1 _ a3
    have e3 := nil2 _ a4
    subst e1 e2 e3 h3
    by_cases hn : 0 < nu
    · have : nu = 1 := by omega
      subst this
      exact .inr (.inr (.inl ⟨rfl, by simp [txtL]⟩))
    · have : nu = 0 := by omega
      subst this
      exact .inr (.inr (.inr (.inl ⟨rfl, by simp [txtL]⟩)))
  rw [if_neg h3] at ha
  by_cases h4 : so = 4
  · rw [if_pos h4] at ha
    simp only [Bool.and_eq_true, beq_iff_eq, decide_eq_true_eq] at ha
    obtain ⟨⟨⟨a1, a2⟩, a3⟩, a4⟩ := ha
    have e1 := ba_empty a2
    have e2 := nil1 _ a3
    subst a1 e1 e2 h4
    exact .inr (.inr (.inr (.inr (.inl ⟨ki, rfl, fun k hk' => hk k hk', by simp [txtL]⟩))))
  rw [if_neg h4] at ha
  by_cases h5 : so = 5
  · rw [if_pos h5] at ha
    simp only [Bool.and_eq_true, beq_iff_eq] at ha
    obtain ⟨⟨⟨a1, a2⟩, a3⟩, a4⟩ := ha
    have e1 := ba_empty a2
    subst a1 e1 h5
    exact .inr (.inr (.inr (.inr (.inr (.inl ⟨na, ki, rfl, by omega, riseB_name a4, fun k hk' => hk k hk', by simp [txtL]⟩)))))
  rw [if_neg h5] at ha
  by_cases h6 : so = 6
  · rw [if_pos h6] at ha
    simp only [Bool.and_eq_true, beq_iff_eq, decide_eq_true_eq] at ha
    obtain ⟨⟨⟨a1, a2⟩, a3⟩, a4⟩ := ha
    have e1 := ba_empty a2
    have e2 := nil1 _ a3
    subst a1 e1 e2 h6
    match ki, a4, hk with
    | [], _, _ => exact .inr (.inr (.inr (.inr (.inr (.inr (.inl ⟨rfl, by simp [txtL, mayTxt]⟩))))))
    | [x], _, hk => exact .inr (.inr (.inr (.inr (.inr (.inr (.inr ⟨x, rfl, hk x (List.mem_cons_self ..), by simp [txtL, mayTxt]⟩))))))
    | _ :: _ :: r, a4, _ => simp at a4; omega
  · rw [if_neg h6] at ha; cases ha

end Go.Proofs.Ytpnnbdejneoccaa
