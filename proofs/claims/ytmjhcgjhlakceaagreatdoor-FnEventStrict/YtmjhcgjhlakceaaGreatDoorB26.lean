/-
  Several texts in one, in their order.
-/
import Derived.Test.YtmjhcgjhlakceaaGreatDoorB25
import Derived.Test.YtmjhcgjhlakceaaGreatDoorB14
import Derived.Test.YtmjhcgjhlakceaaGreatDoorB15
import Derived.Test.YtmjhcgjhlakceaaGreatDoorB1
import Derived.Deep.AppendLies
import Derived.Deep.Cut
import Derived.Deep.CutRange
import Derived.WalkSmall
import Derived.LoopTactic
import Derived.Test.YtmjhcgjhlakceaaGreatDoorB24

namespace Go.Proofs.YtmjhcgjhlakceaaGreatDoor
open Go.RowKit
def depT : (m : Nat) -> T m -> Nat -> Prop
 | 0, _, _ => False
 | m + 1, t, d => 1 <= d /\ (Nd.names t).length <= 1000 /\ (∀ s, s ∈ Nd.names t -> s.size <= 10000) /\ (Nd.kids t).length <= 1000 /\ ∀ k, k ∈ Nd.kids t -> depT m k (d - 1)
theorem depT.mono : ∀ {m : Nat} {k : T m} {d e : Nat}, depT m k d -> d <= e -> depT m k e := by
 intro m
 induction m with
 | zero => intro k d e h; exact h.elim
 | succ m ih =>
  intro k d e h hde
  exact ⟨Nat.le_trans h.1 hde, h.2.1, h.2.2.1, h.2.2.2.1, fun x hx => ih (h.2.2.2.2 x hx) (by omega)⟩
theorem depT.leaf (m : Nat) (x y : Int) (s : ByteArray) (d : Nat) : depT (m + 1) (⟨x, y, s, [], []⟩ : Nd (T m)) (d + 1) := ⟨by omega, by simp, fun s h => (by cases h), by simp, fun k h => (by cases h)⟩
theorem depT.one {m : Nat} {x y : Int} {s : ByteArray} {d : Nat} {k : T m} (h : depT m k d) : depT (m + 1) (⟨x, y, s, [], [k]⟩ : Nd (T m)) (d + 1) := ⟨by omega, by simp, fun s h => (by cases h), by simp, fun y hy => (by have e : y = k := (by simpa using hy); rw [e]; simpa using h)⟩
def pt : Nat -> Nat
 | 0 => 0
 | d + 1 => 4 + 40 * pt d
def DTPost (m d : Nat) (w : World) (R : Nat) (ao : Option Addr) (L cap p q : Nat) (e : Ending) (w' : World) : Prop :=
 Near R w w' /\ ∃ (p' : Nat) (t : T m) (c0 c1 c2 c3 c4 : Value), p' <= p + q /\ Dr w' R ao L cap p' /\ e = .returned (.agg #[c0, c1, c2, c3, c4]) /\ TreeIn (fun b => w.heap.size <= b /\ b < w'.heap.size) w' m t c0 c1 c2 c3 c4 /\ depT m t d
theorem dt_exit {m d R L cap p p' q N : Nat} {ao : Option Addr} {w W : World} {t : T m} {g0 g1 g2 g3 g4 : Value} (h : Dr w R ao L cap p) (hN : w.heap.size <= N) (hn : Near R w W) (hb : W.heap[R]? = some (.cells #[.slice ao L cap, .int .i64 (p' : Int)] 79 (0, 0))) (hp : p' <= p + q) (hk : TreeIn (fun b => N + 1 <= b /\ b < W.heap.size) W m t g0 g1 g2 g3 g4) (hd : depT m t d) :
  DTPost m d w R ao L cap p q (.returned (.agg #[g0, g1, g2, g3, g4])) (put5 W N 0 g0 g1 g2 g3 g4) := by
 have hR := h.lt
 have qq : ∀ b, b ≠ N -> (put5 W N 0 g0 g1 g2 g3 g4).heap[b]? = W.heap[b]? := fun b h => put5_other h
 have hz : (put5 W N 0 g0 g1 g2 g3 g4).heap.size = W.heap.size := put5_size
 have hbl : Below 0 W (put5 W N 0 g0 g1 g2 g3 g4) := put5_below (Below.refl 0 W) (Nat.zero_le _)
 have hn' : Near R w (put5 W N 0 g0 g1 g2 g3 g4) := ⟨by rw [hbl.os]; exact hn.os, by rw [hbl.tape]; exact hn.tape, by rw [hbl.output]; exact hn.output, by rw [hz]; exact hn.size, fun b hb hne => (qq b (by omega)).trans (hn.block b hb hne)⟩
 exact ⟨hn', p', t, _, _, _, _, _, hp, h.keep hn' ((qq R (by omega)).trans hb), rfl, hk.keep (fun b hb => qq b (by omega)) (fun b hb => ⟨by omega, by rw [hz]; exact hb.2⟩), hd⟩
theorem leafDT_in (S : Nat -> Prop) (w : World) (m : Nat) (x y : Int) (s : ByteArray) (hx : (Lit.int .i64 x).wf = true) (hy : (Lit.int .i64 y).wf = true) (hs : s.size <= 10000) : TreeIn S w (m + 1) (⟨x, y, s, [], []⟩ : Nd (T m)) (.int .i64 x) (.int .i64 y) (.string s) (.slice none 0 0) (.slice none 0 0) :=
 ⟨rfl, rfl, rfl, by unfold maxLen; show s.size <= _; omega, hx, hy, ⟨none, 0, rfl, by simp [maxLen], fun s h => (by cases h), fun h => absurd rfl h⟩, ⟨none, 0, rfl, by simp [maxLen], fun h => absurd rfl h⟩⟩
theorem oneDT_in {S : Nat -> Prop} {w : World} {m : Nat} {x y : Int} {s : ByteArray} {t : T m} {b c : Nat} {c0 c1 c2 c3 c4 : Value} (hx : (Lit.int .i64 x).wf = true) (hy : (Lit.int .i64 y).wf = true) (hs : s.size <= 10000) (hb : S b) (hB : Box5 w b c0 c1 c2 c3 c4) (ht : TreeIn S w m t c0 c1 c2 c3 c4) :
  TreeIn S w (m + 1) (⟨x, y, s, [], [t]⟩ : Nd (T m)) (.int .i64 x) (.int .i64 y) (.string s) (.slice none 0 0) (.slice (some ⟨b, 0, none⟩) 1 c) := by
 refine ⟨rfl, rfl, rfl, by unfold maxLen; show s.size <= _; omega, hx, hy, ⟨none, 0, rfl, by simp [maxLen], fun s h => (by cases h), fun h => absurd rfl h⟩, ⟨some ⟨b, 0, none⟩, c, rfl, by simp [maxLen], fun _ => ⟨b, 0, rfl, hb, fun i hi => ?_⟩⟩⟩
 have : i = 0 := by simpa using hi
 subst this
 exact ⟨c0, c1, c2, c3, c4, by simpa using hB.c0, by simpa using hB.c1, by simpa using hB.c2, by simpa using hB.c3, by simpa using hB.c4, ht⟩
theorem many_in {R X n : Nat} {w wr : World} {so : Int} {ns : List ByteArray} {ks : List (T n)} {nv kv : Value} (h : Many R X n w wr so ns ks nv kv) (hso : (Lit.int .i64 so).wf = true) (hns : ns.length <= 20000) (hks : ks.length <= 20000) :
  TreeIn (fun b => X <= b /\ b < wr.heap.size) wr (n + 1) (⟨so, 0, ByteArray.empty, ns, ks⟩ : Nd (T n)) (.int .i64 so) (.int .i64 0) (.string ByteArray.empty) nv kv := by
 obtain ⟨xs, hxs, hk⟩ := h.kids
 refine ⟨rfl, rfl, rfl, by simp [maxLen], hso, (by rfl : (Lit.int .i64 0).wf = true), ?_, ?_⟩
 ·refine strs_of_owns h.names hns h.short fun g hg => ?_
  have := owns_lt h.names g hg
  exact ⟨by omega, by omega⟩
 ·refine row_of_owns hxs hks (fun g hg => ?_) fun j hj => ?_
  ·have := owns_lt hxs g hg
   exact ⟨by omega, by omega⟩
  ·obtain ⟨c0, c1, c2, c3, c4, hc, ht⟩ := hk j hj
   refine ⟨c0, c1, c2, c3, c4, hc, ht.keep (fun b hb => rfl) (fun b hb => ?_)⟩
   have := hb.1
   have := hb.2.1
   exact ⟨by omega, by omega⟩
theorem sumL_ge {α : Type} (f : α -> Nat) (l : List α) (h : ∀ x, x ∈ l -> 1 <= f x) : l.length <= sumL f l := by
 induction l with
 | nil => exact Nat.zero_le _
 | cons a l ih =>
  have h1 := h a (List.mem_cons_self ..)
  have h2 := ih fun x hx => h x (List.mem_cons_of_mem _ hx)
  simp only [sumL, List.length_cons]; omega
theorem sumL_mem {α : Type} (f : α -> Nat) (l : List α) (x : α) (h : x ∈ l) : f x <= sumL f l := by
 induction l with
 | nil => cases h
 | cons a l ih =>
  rcases List.mem_cons.1 h with rfl | h
  ·simp only [sumL]; omega
  ·have := ih h
   simp only [sumL]; omega
theorem kids_few {m : Nat} {t : K (m + 1)} {d : Int} (hg : goodK (m + 1) t d = true) (hc : cntK (m + 1) t <= 40) : (Kd.kids t).length <= 39 /\ ∀ k, k ∈ Kd.kids t -> goodK m k (d + 1) = true /\ cntK m k <= 40 := by
 simp only [goodK, Bool.and_eq_true] at hg
 have hk := List.all_eq_true.1 hg.2
 simp only [cntK] at hc
 have h1 := sumL_ge (fun k => cntK m k) (Kd.kids t) fun k hm => cntK_pos m k _ (hk k hm)
 refine ⟨by omega, fun k hm => ⟨hk k hm, ?_⟩⟩
 have := sumL_mem (fun k => cntK m k) (Kd.kids t) k hm
 omega
end Go.Proofs.YtmjhcgjhlakceaaGreatDoor

namespace Go.Proofs.YtmjhcgjhlakceaaGreatDoor
open Go.RowKit
def rep5 (c0 c1 c2 c3 c4 : Value) : Nat -> List Value
 | 0 => []
 | n + 1 => rep5 c0 c1 c2 c3 c4 n ++ [c0, c1, c2, c3, c4]
theorem rep5_len (c0 c1 c2 c3 c4 : Value) (n : Nat) : (rep5 c0 c1 c2 c3 c4 n).length = n * 5 := by
 induction n with
 | zero => rfl
 | succ n ih => simp only [rep5, List.length_append, ih, List.length_cons, List.length_nil]; omega
theorem rep5_get (c0 c1 c2 c3 c4 : Value) (n j : Nat) (h : j < n) : (rep5 c0 c1 c2 c3 c4 n)[j * 5]? = some c0 /\ (rep5 c0 c1 c2 c3 c4 n)[j * 5 + 1]? = some c1 /\ (rep5 c0 c1 c2 c3 c4 n)[j * 5 + 2]? = some c2 /\ (rep5 c0 c1 c2 c3 c4 n)[j * 5 + 3]? = some c3 /\ (rep5 c0 c1 c2 c3 c4 n)[j * 5 + 4]? = some c4 := by
 induction n with
 | zero => omega
 | succ n ih =>
  have hl := rep5_len c0 c1 c2 c3 c4 n
  by_cases hj : j < n
  ·obtain ⟨h0, h1, h2, h3, h4⟩ := ih hj
   have up : ∀ i v, i < n * 5 -> (rep5 c0 c1 c2 c3 c4 n)[i]? = some v -> (rep5 c0 c1 c2 c3 c4 (n + 1))[i]? = some v := fun i v hi hv => by
    rw [rep5, List.getElem?_append_left (by omega)]; exact hv
   exact ⟨up _ _ (by omega) h0, up _ _ (by omega) h1, up _ _ (by omega) h2, up _ _ (by omega) h3, up _ _ (by omega) h4⟩
  ·have : j = n := by omega
   subst this
   have up : ∀ o v, [c0, c1, c2, c3, c4][o]? = some v -> (rep5 c0 c1 c2 c3 c4 (j + 1))[j * 5 + o]? = some v := fun o v hv => by
    rw [rep5, List.getElem?_append_right (by omega), hl, Nat.add_sub_cancel_left]; exact hv
   exact ⟨up 0 _ rfl, up 1 _ rfl, up 2 _ rfl, up 3 _ rfl, up 4 _ rfl⟩
structure Fill (X : Nat) (W wr : World) (b0 b1 b2 b3 c0 c1 c2 c3 c4 : Value) (ln : Nat) (kv : Value) : Prop where
 os : wr.os = W.os
 tape : wr.tape = W.tape
 output : wr.output = W.output
 size : W.heap.size <= wr.heap.size
 block : ∀ b, b < W.heap.size -> b ≠ X -> wr.heap[b]? = W.heap[b]?
 box : wr.heap[X]? = some (.cells #[b0, b1, b2, b3, kv] 27 (0, 0))
 row : wr.ownsRow (X + 1) 27 5 kv ln (rep5 c0 c1 c2 c3 c4 ln)
 new : ∀ g, kv.ownBlock = some g -> W.heap.size <= g
theorem Fill.start {X : Nat} {W : World} {b0 b1 b2 b3 : Value} (c0 c1 c2 c3 c4 : Value) (h : W.heap[X]? = some (.cells #[b0, b1, b2, b3, .slice none 0 0] 27 (0, 0))) : Fill X W W b0 b1 b2 b3 c0 c1 c2 c3 c4 0 (.slice none 0 0) :=
 ⟨rfl, rfl, rfl, Nat.le_refl _, fun _ _ _ => rfl, h, ⟨rfl, .inl ⟨rfl, rfl⟩⟩, fun g hg => by cases hg⟩
theorem Fill.more {X : Nat} {W wr W2 : World} {b0 b1 b2 b3 c0 c1 c2 c3 c4 : Value} {ln : Nat} {kv : Value} {one : Obj} {g cap : Nat} (h : Fill X W wr b0 b1 b2 b3 c0 c1 c2 c3 c4 ln kv) (hX : X < W.heap.size)
  (hown : W2.ownsRow (X + 1) 27 5 (.slice (some ⟨g, 0, none⟩) (ln + 1) cap) (ln + 1) (rep5 c0 c1 c2 c3 c4 ln ++ [c0, c1, c2, c3, c4])) (hgrow : (wr.alloc one).grownBy W2 kv.ownBlock) (hat : kv.ownBlock = some g ∨ g = wr.heap.size + 1) :
  Fill X W (W2.setCell ⟨X, 4, none⟩ (.slice (some ⟨g, 0, none⟩) (ln + 1) cap)) b0 b1 b2 b3 c0 c1 c2 c3 c4 (ln + 1) (.slice (some ⟨g, 0, none⟩) (ln + 1) cap) := by
 have hz := h.size
 have hz2 := hgrow.size
 rw [World.size_alloc] at hz2
 have q : ∀ b, b < W.heap.size -> W2.heap[b]? = wr.heap[b]? := fun b hb =>
  (hgrow.block b (by simp; omega) (fun e => by have := h.new b e.symm; omega)).trans (Below.heap_alloc _ _ _ (by omega))
 have hgl := owns_lt hown g rfl
 refine ⟨hgrow.os.trans h.os, hgrow.tape.trans h.tape, hgrow.output.trans h.output, ?_, fun b hb hne => ?_, ?_, ?_, fun g' hg' => ?_⟩
 ·simp; omega
 ·rw [Below.heap_setCell _ _ _ _ hne, q b hb]; exact h.block b hb hne
 ·simp [World.setCell, Array.getElem?_modify, (q X hX).trans h.box]
 ·exact owns_keep hown fun g' hg' => Below.heap_setCell _ _ _ _ (by have := owns_lt hown g' hg'; show g' ≠ X; omega)
 ·have e : g = g' := by simpa [Value.ownBlock] using hg'
  subst e
  rcases hat with h1 | h1
  ·exact h.new g h1
  ·omega
theorem Fill.row_in {S : Nat -> Prop} {X n : Nat} {W wr : World} {b0 b1 b2 b3 c0 c1 c2 c3 c4 : Value} {ln : Nat} {kv : Value} {t : T n} (h : Fill X W wr b0 b1 b2 b3 c0 c1 c2 c3 c4 ln kv) (hl : ln <= 1000) (hS : ∀ b, W.heap.size <= b -> b < wr.heap.size -> S b) (ht : TreeIn S wr n t c0 c1 c2 c3 c4) :
  RowIn S wr (TreeIn S wr n) (List.replicate ln t) kv := by
 refine row_of_owns (l := List.replicate ln t) (by rw [List.length_replicate]; exact h.row) (by rw [List.length_replicate]; omega) (fun g hg => hS g (h.new g hg) (owns_lt h.row g hg).2) fun j hj => ?_
 rw [List.length_replicate] at hj
 refine ⟨c0, c1, c2, c3, c4, rep5_get _ _ _ _ _ _ _ hj, ?_⟩
 rw [List.getElem_replicate]; exact ht
theorem Fill.cells {X : Nat} {W wr : World} {b0 b1 b2 b3 c0 c1 c2 c3 c4 : Value} {ln : Nat} {kv : Value} (h : Fill X W wr b0 b1 b2 b3 c0 c1 c2 c3 c4 ln kv) :
  (wr.cell? ⟨X, 0, none⟩ = some b0 /\ wr.cell? ⟨X, 1, none⟩ = some b1 /\ wr.cell? ⟨X, 2, none⟩ = some b2 /\ wr.cell? ⟨X, 3, none⟩ = some b3 /\ wr.cell? ⟨X, 4, none⟩ = some kv) /\
   wr.frozen? ⟨X, 0, none⟩ = false /\ wr.frozen? ⟨X, 1, none⟩ = false /\ wr.frozen? ⟨X, 2, none⟩ = false /\ wr.frozen? ⟨X, 3, none⟩ = false /\ wr.frozen? ⟨X, 4, none⟩ = false := by
 refine ⟨⟨?_, ?_, ?_, ?_, ?_⟩, ?_, ?_, ?_, ?_, ?_⟩ <;> simp [World.cell?, World.frozen?, h.box]
def MadeT (d : Nat) (w : World) (e : Ending) (w' : World) : Prop :=
 Below w.heap.size w w' /\ ∃ (c0 c1 c2 c3 c4 : Value), e = .returned (.agg #[c0, c1, c2, c3, c4]) /\ ∀ m, d <= m -> ∃ t : T m, TreeIn (fun b => w.heap.size <= b /\ b < w'.heap.size) w' m t c0 c1 c2 c3 c4 /\ depT m t d
set_option maxRecDepth 20000 in
set_option maxHeartbeats 1000000 in
theorem l5Deep_any (n : Nat) (w : World) (hn1 : 1 <= n) (hn : n <= 1000) : Calls Tryz.prog 89 #[.int .i64 (n : Int)] w (MadeT n w) := by
 obtain ⟨W2, hW2⟩ : ∃ W2, W2 = (w.alloc (.cells #[.int .i64 0, .int .i64 0, .string ⟨#[]⟩, .slice none 0 0, .slice none 0 0] 27)).alloc (.cells #[.int .i64 3, .int .i64 1, .string ⟨#[]⟩, .slice none 0 0, .slice none 0 0] 27) := ⟨_, rfl⟩
 have hz2 : W2.heap.size = w.heap.size + 2 := by rw [hW2]; simp
 have hb2 : Below w.heap.size w W2 := by rw [hW2]; exact ((Below.refl _ _).alloc (Nat.le_refl _) _).alloc (by simp) _
 have hX : W2.heap[w.heap.size + 1]? = some (.cells #[.int .i64 3, .int .i64 1, .string ⟨#[]⟩, .slice none 0 0, .slice none 0 0] 27 (0, 0)) := by
  have := heap_alloc_new (w.alloc (.cells #[.int .i64 0, .int .i64 0, .string ⟨#[]⟩, .slice none 0 0, .slice none 0 0] 27)) (.cells #[.int .i64 3, .int .i64 1, .string ⟨#[]⟩, .slice none 0 0, .slice none 0 0] 27)
  rw [hW2]; simpa using this
 have hzero : W2.heap[w.heap.size]? = some (.cells #[.int .i64 0, .int .i64 0, .string ⟨#[]⟩, .slice none 0 0, .slice none 0 0] 27 (0, 0)) := by rw [hW2, Below.heap_alloc _ _ _ (by simp)]; exact heap_alloc_new _ _
 have HW : Hid (Below w.heap.size w W2 /\ W2.heap[w.heap.size + 1]? = some (.cells #[.int .i64 3, .int .i64 1, .string ⟨#[]⟩, .slice none 0 0, .slice none 0 0] 27 (0, 0)) /\ W2.heap[w.heap.size]? = some (.cells #[.int .i64 0, .int .i64 0, .string ⟨#[]⟩, .slice none 0 0, .slice none 0 0] 27 (0, 0))) := ⟨hb2, hX, hzero⟩
 clear hb2 hX hzero
 go_enter Tryz.func89, Tryz.ntmps89
 go_wp2_with fail
 rw [<- hW2]
 clear hW2
 go_loopw [4] (fun iv wr => ∃ (i : Nat) (so nu : Int) (ka : Option Addr) (kl kc : Nat), 1 <= i /\ i <= n /\ iv = .int .i64 i /\ Below w.heap.size w wr /\ w.heap.size + 2 <= wr.heap.size /\ wr.heap[w.heap.size + 1]? = some (.cells #[.int .i64 so, .int .i64 nu, .string ByteArray.empty, .slice none 0 0, .slice ka kl kc] 27 (0, 0)) /\
   wr.heap[w.heap.size]? = some (.cells #[.int .i64 0, .int .i64 0, .string ⟨#[]⟩, .slice none 0 0, .slice none 0 0] 27 (0, 0)) /\ ∀ m, i <= m -> ∃ t : T m, TreeIn (fun b => w.heap.size + 2 <= b /\ b < wr.heap.size) wr m t (.int .i64 so) (.int .i64 nu) (.string ByteArray.empty) (.slice none 0 0) (.slice ka kl kc) /\ depT m t i) (fun iv _ => n - (intOf iv).toNat)
 case atStart =>
  refine ⟨1, 3, 1, none, 0, 0, by omega, hn1, rfl, HW.out.1, by omega, HW.out.2.1, HW.out.2.2, fun m hm => ?_⟩
  obtain ⟨m', rfl⟩ : ∃ m', m = m' + 1 := ⟨m - 1, by omega⟩
  exact ⟨_, leafDT_in _ _ m' 3 1 ByteArray.empty (by rfl) (by rfl) (by simp), depT.leaf m' 3 1 ByteArray.empty 0⟩
 case round =>
  obtain ⟨i, so, nu, ka, kl, kc, hi1, hin, rfl, hB, hzr, hbox, hz0, hT⟩ := hrel
  have x0 : wr.cell? ⟨w.heap.size + 1, 0, none⟩ = some (.int .i64 so) := by simp [World.cell?, hbox]
  have x1 : wr.cell? ⟨w.heap.size + 1, 1, none⟩ = some (.int .i64 nu) := by simp [World.cell?, hbox]
  have x2 : wr.cell? ⟨w.heap.size + 1, 2, none⟩ = some (.string ByteArray.empty) := by simp [World.cell?, hbox]
  have x3 : wr.cell? ⟨w.heap.size + 1, 3, none⟩ = some (.slice none 0 0) := by simp [World.cell?, hbox]
  have x4 : wr.cell? ⟨w.heap.size + 1, 4, none⟩ = some (.slice ka kl kc) := by simp [World.cell?, hbox]
  by_cases hlt : i < n
  ·have hlti : (i : Int) < (n : Int) := by omega
   obtain ⟨Wa, hWa⟩ : ∃ Wa, Wa = wr.alloc (.cells #[.int .i64 so, .int .i64 nu, .string ByteArray.empty, .slice none 0 0, .slice ka kl kc] 27) := ⟨_, rfl⟩
   have hba : Below wr.heap.size wr Wa := by rw [hWa]; exact (Below.refl _ _).alloc (Nat.le_refl _) _
   have hza : Wa.heap.size = wr.heap.size + 1 := by rw [hWa]; simp
   have hxa : Box5 Wa wr.heap.size (.int .i64 so) (.int .i64 nu) (.string ByteArray.empty) (.slice none 0 0) (.slice ka kl kc) := by rw [hWa]; exact Box5.new _ _ _ _ _ _ _
   have hboxa := (hba.block (w.heap.size + 1) (by omega)).trans hbox
   have f : ∀ o, Wa.frozen? ⟨w.heap.size + 1, o, none⟩ = false := fun o => by simp [World.frozen?, hboxa]
   have f0 := f 0
   have f1 := f 1
   have f2 := f 2
   have f3 := f 3
   have f4 := f 4
   have a0 : Wa.cell? ⟨w.heap.size + 1, 0, none⟩ = some (.int .i64 so) := by simp [World.cell?, hboxa]
   have a1 : Wa.cell? ⟨w.heap.size + 1, 1, none⟩ = some (.int .i64 nu) := by simp [World.cell?, hboxa]
   have a2 : Wa.cell? ⟨w.heap.size + 1, 2, none⟩ = some (.string ByteArray.empty) := by simp [World.cell?, hboxa]
   have a3 : Wa.cell? ⟨w.heap.size + 1, 3, none⟩ = some (.slice none 0 0) := by simp [World.cell?, hboxa]
   have a4 : Wa.cell? ⟨w.heap.size + 1, 4, none⟩ = some (.slice ka kl kc) := by simp [World.cell?, hboxa]
   have HP : Hid (Below w.heap.size w (put5 Wa (w.heap.size + 1) 0 (.int .i64 4) (.int .i64 0) (.string ByteArray.empty) (.slice none 0 0) (.slice (some ⟨wr.heap.size, 0, none⟩) 1 1)) /\ w.heap.size + 2 <= (put5 Wa (w.heap.size + 1) 0 (.int .i64 4) (.int .i64 0) (.string ByteArray.empty) (.slice none 0 0) (.slice (some ⟨wr.heap.size, 0, none⟩) 1 1)).heap.size /\
     (put5 Wa (w.heap.size + 1) 0 (.int .i64 4) (.int .i64 0) (.string ByteArray.empty) (.slice none 0 0) (.slice (some ⟨wr.heap.size, 0, none⟩) 1 1)).heap[w.heap.size + 1]? = some (.cells #[.int .i64 4, .int .i64 0, .string ByteArray.empty, .slice none 0 0, .slice (some ⟨wr.heap.size, 0, none⟩) 1 1] 27 (0, 0)) /\
     (put5 Wa (w.heap.size + 1) 0 (.int .i64 4) (.int .i64 0) (.string ByteArray.empty) (.slice none 0 0) (.slice (some ⟨wr.heap.size, 0, none⟩) 1 1)).heap[w.heap.size]? = some (.cells #[.int .i64 0, .int .i64 0, .string ⟨#[]⟩, .slice none 0 0, .slice none 0 0] 27 (0, 0)) /\
     ∀ m, i + 1 <= m -> ∃ t : T m, TreeIn (fun b => w.heap.size + 2 <= b /\ b < (put5 Wa (w.heap.size + 1) 0 (.int .i64 4) (.int .i64 0) (.string ByteArray.empty) (.slice none 0 0) (.slice (some ⟨wr.heap.size, 0, none⟩) 1 1)).heap.size) (put5 Wa (w.heap.size + 1) 0 (.int .i64 4) (.int .i64 0) (.string ByteArray.empty) (.slice none 0 0) (.slice (some ⟨wr.heap.size, 0, none⟩) 1 1)) m t (.int .i64 4) (.int .i64 0) (.string ByteArray.empty) (.slice none 0 0) (.slice (some ⟨wr.heap.size, 0, none⟩) 1 1) /\ depT m t (i + 1)) := by
    have qq : ∀ b, b ≠ w.heap.size + 1 -> (put5 Wa (w.heap.size + 1) 0 (.int .i64 4) (.int .i64 0) (.string ByteArray.empty) (.slice none 0 0) (.slice (some ⟨wr.heap.size, 0, none⟩) 1 1)).heap[b]? = Wa.heap[b]? := fun b h => put5_other h
    have hzp : (put5 Wa (w.heap.size + 1) 0 (.int .i64 4) (.int .i64 0) (.string ByteArray.empty) (.slice none 0 0) (.slice (some ⟨wr.heap.size, 0, none⟩) 1 1)).heap.size = Wa.heap.size := put5_size
    refine ⟨put5_below (hB.trans (hba.mono (by omega))) (by omega), by rw [hzp]; omega, ?_, (qq _ (by omega)).trans ((hba.block _ (by omega)).trans hz0), fun m hm => ?_⟩
    ·simp [put5, World.setCell, Array.getElem?_modify, hboxa]
    ·obtain ⟨m', rfl⟩ : ∃ m', m = m' + 1 := ⟨m - 1, by omega⟩
     obtain ⟨t, ht, hd⟩ := hT m' (by omega)
     refine ⟨_, oneDT_in (by rfl) (by rfl) (by simp) ⟨by omega, by rw [hzp]; omega⟩ (t := t) (c0 := .int .i64 so) (c1 := .int .i64 nu) (c2 := .string ByteArray.empty) (c3 := .slice none 0 0) (c4 := .slice ka kl kc) ?_ ?_, hd.one⟩
     ·exact ⟨(World.cell?_of_block (qq _ (by show wr.heap.size ≠ _; omega))).trans hxa.c0, (World.cell?_of_block (qq _ (by show wr.heap.size ≠ _; omega))).trans hxa.c1, (World.cell?_of_block (qq _ (by show wr.heap.size ≠ _; omega))).trans hxa.c2, (World.cell?_of_block (qq _ (by show wr.heap.size ≠ _; omega))).trans hxa.c3, (World.cell?_of_block (qq _ (by show wr.heap.size ≠ _; omega))).trans hxa.c4⟩
     ·exact ht.keep (fun b hb => (qq b (by omega)).trans (hba.block b hb.2)) (fun b hb => ⟨hb.1, by rw [hzp]; omega⟩)
   clear hB hbox hz0 hT hba hxa hboxa f HW
   subst hWa
   go_wp2_with fail
   go_roundw
   case rel => exact ⟨i + 1, 4, 0, some ⟨wr.heap.size, 0, none⟩, 1, 1, by omega, by omega, by go_num, HP.out.1, HP.out.2.1, HP.out.2.2.1, HP.out.2.2.2.1, HP.out.2.2.2.2⟩
   case measure => simp [intOf]; omega
  ·have hlti : ¬ (i : Int) < (n : Int) := by omega
   have hieq : i = n := by omega
   obtain ⟨⟨z0, z1, z2, z3, z4⟩, u0, u1, u2, u3, u4⟩ : (wr.cell? ⟨w.heap.size, 0, none⟩ = some (.int .i64 0) /\ wr.cell? ⟨w.heap.size, 1, none⟩ = some (.int .i64 0) /\ wr.cell? ⟨w.heap.size, 2, none⟩ = some (.string ⟨#[]⟩) /\ wr.cell? ⟨w.heap.size, 3, none⟩ = some (.slice none 0 0) /\ wr.cell? ⟨w.heap.size, 4, none⟩ = some (.slice none 0 0)) /\
     wr.frozen? ⟨w.heap.size, 0, none⟩ = false /\ wr.frozen? ⟨w.heap.size, 1, none⟩ = false /\ wr.frozen? ⟨w.heap.size, 2, none⟩ = false /\ wr.frozen? ⟨w.heap.size, 3, none⟩ = false /\ wr.frozen? ⟨w.heap.size, 4, none⟩ = false := by
    refine ⟨⟨?_, ?_, ?_, ?_, ?_⟩, ?_, ?_, ?_, ?_, ?_⟩ <;> simp [World.cell?, World.frozen?, hz0]
   have HP : Hid (MadeT n w (.returned (.agg #[.int .i64 so, .int .i64 nu, .string ByteArray.empty, .slice none 0 0, .slice ka kl kc])) (put5 wr w.heap.size 0 (.int .i64 so) (.int .i64 nu) (.string ByteArray.empty) (.slice none 0 0) (.slice ka kl kc))) := by
    refine ⟨put5_below hB (Nat.le_refl _), _, _, _, _, _, rfl, fun m hm => ?_⟩
    obtain ⟨t, ht, hd⟩ := hT m (by omega)
    exact ⟨t, ht.keep (fun b hb => put5_other (by omega)) (fun b hb => ⟨by omega, by rw [put5_size]; exact hb.2⟩), hd.mono (by omega)⟩
   clear hB hbox hz0 hT HW
   go_wp2_with fail
   refine bodyPost_ret (v := .agg #[.int .i64 so, .int .i64 nu, .string ByteArray.empty, .slice none 0 0, .slice ka kl kc]) (by simp [results, Tryz.results89, go_sem, z0, z1, z2, z3, z4]) rfl ?_
   exact HP.out
end Go.Proofs.YtmjhcgjhlakceaaGreatDoor

namespace Go.Proofs.YtmjhcgjhlakceaaGreatDoor
open Go.RowKit
def DrawTSaid (d : Nat) : Prop := ∀ (m R : Nat) (ao : Option Addr) (L cap p : Nat) (k : K m) (S : Nat -> Prop) (g : Int) (c0 c1 c2 : Value) (w : World), depK m k d -> goodK m k g = true -> cntK m k <= 40 -> KindIn S w m k c0 c1 c2 -> (∀ b, S b -> b < w.heap.size /\ b ≠ R) -> Dr w R ao L cap p -> p + pt d <= 900000 ->
 Calls Tryz.prog 43 #[.pointer (some ⟨R, 0, none⟩), .agg #[c0, c1, c2]] w (DTPost m d w R ao L cap p (pt d))
theorem wf_num {x : Int} (h1 : -1000000000 <= x) (h2 : x <= 1000000000) : (Lit.int .i64 x).wf = true := by
 simp only [Lit.wf, Bool.and_eq_true, decide_eq_true_eq]
 exact ⟨by have : IntKind.i64.min = -9223372036854775808 := rfl
           omega, by have : IntKind.i64.max = 9223372036854775807 := rfl
                     omega⟩
structure TStart (m R : Nat) (ao : Option Addr) (L cap p : Nat) (w W1 W2 : World) (so : Int) (nv kv : Value) : Prop where
 many : Many R (w.heap.size + 2) m W1 W2 so [] [] (.slice none 0 0) (.slice none 0 0)
 sz1 : W1.heap.size = w.heap.size + 2
 sz2 : W2.heap.size = w.heap.size + 3
 near : Near R w W1
 zero : W1.heap[w.heap.size + 1]? = some (.cells #[.int .i64 0, .int .i64 0, .string ⟨#[]⟩, .slice none 0 0, .slice none 0 0] 27 (0, 0))
 kbox : W1.heap[w.heap.size]? = some (.cells #[.int .i64 so, nv, kv] 85 (0, 0))
 dr0 : Dr w R ao L cap p
 dr : Dr W2 R ao L cap p
theorem tstart (m : Nat) {R : Nat} {ao : Option Addr} {L cap p : Nat} {w W1 W2 : World} {so : Int} {nv kv : Value} (h : Dr w R ao L cap p) (h1 : W1 = (w.alloc (.cells #[.int .i64 so, nv, kv] 85)).alloc (.cells #[.int .i64 0, .int .i64 0, .string ⟨#[]⟩, .slice none 0 0, .slice none 0 0] 27))
  (h2 : W2 = W1.alloc (.cells #[.int .i64 so, .int .i64 0, .string ⟨#[]⟩, .slice none 0 0, .slice none 0 0] 27)) : TStart m R ao L cap p w W1 W2 so nv kv := by
 have hz1 : W1.heap.size = w.heap.size + 2 := by rw [h1]; simp
 have hz2 : W2.heap.size = w.heap.size + 3 := by rw [h2]; simp [hz1]
 have hb1 : Below w.heap.size w W1 := by rw [h1]; exact ((Below.refl _ _).alloc (Nat.le_refl _) _).alloc (by simp) _
 have hb2 : Below W1.heap.size W1 W2 := by rw [h2]; exact (Below.refl _ _).alloc (Nat.le_refl _) _
 have hX : W2.heap[w.heap.size + 2]? = some (.cells #[.int .i64 so, .int .i64 0, .string ⟨#[]⟩, .slice none 0 0, .slice none 0 0] 27 (0, 0)) := by
  rw [h2, <- hz1]; exact heap_alloc_new _ _
 refine ⟨⟨Near.of_below hb2, hX, ⟨rfl, .inl ⟨rfl, rfl⟩⟩, by simp, ⟨[], ⟨rfl, .inl ⟨rfl, rfl⟩⟩, fun j hj => absurd hj (Nat.not_lt_zero _)⟩, fun b hb => by cases hb⟩, hz1, hz2, Near.of_below hb1, ?_, ?_, h, (h.same hb1).same hb2⟩
 ·rw [h1]
  have := heap_alloc_new (w.alloc (.cells #[.int .i64 so, nv, kv] 85)) (.cells #[.int .i64 0, .int .i64 0, .string ⟨#[]⟩, .slice none 0 0, .slice none 0 0] 27)
  simpa using this
 ·rw [h1, Below.heap_alloc _ _ _ (by simp)]
  exact heap_alloc_new _ _
theorem zeroDT_cells {w : World} {N : Nat} (h : w.heap[N]? = some (.cells #[.int .i64 0, .int .i64 0, .string ⟨#[]⟩, .slice none 0 0, .slice none 0 0] 27 (0, 0))) :
  (w.cell? ⟨N, 0, none⟩ = some (.int .i64 0) /\ w.cell? ⟨N, 1, none⟩ = some (.int .i64 0) /\ w.cell? ⟨N, 2, none⟩ = some (.string ⟨#[]⟩) /\ w.cell? ⟨N, 3, none⟩ = some (.slice none 0 0) /\ w.cell? ⟨N, 4, none⟩ = some (.slice none 0 0)) /\
   w.frozen? ⟨N, 0, none⟩ = false /\ w.frozen? ⟨N, 1, none⟩ = false /\ w.frozen? ⟨N, 2, none⟩ = false /\ w.frozen? ⟨N, 3, none⟩ = false /\ w.frozen? ⟨N, 4, none⟩ = false := by
 refine ⟨⟨?_, ?_, ?_, ?_, ?_⟩, ?_, ?_, ?_, ?_, ?_⟩ <;> simp [World.cell?, World.frozen?, h]
theorem treeX_cells {R X n : Nat} {w wr : World} {so : Int} {ns : List ByteArray} {ks : List (T n)} {nv kv : Value} (h : Many R X n w wr so ns ks nv kv) :
  (wr.cell? ⟨X, 0, none⟩ = some (.int .i64 so) /\ wr.cell? ⟨X, 1, none⟩ = some (.int .i64 0) /\ wr.cell? ⟨X, 2, none⟩ = some (.string ByteArray.empty) /\ wr.cell? ⟨X, 3, none⟩ = some nv /\ wr.cell? ⟨X, 4, none⟩ = some kv) /\
   wr.frozen? ⟨X, 0, none⟩ = false /\ wr.frozen? ⟨X, 1, none⟩ = false /\ wr.frozen? ⟨X, 2, none⟩ = false /\ wr.frozen? ⟨X, 3, none⟩ = false /\ wr.frozen? ⟨X, 4, none⟩ = false := by
 refine ⟨⟨?_, ?_, ?_, ?_, ?_⟩, ?_, ?_, ?_, ?_, ?_⟩ <;> simp [World.cell?, World.frozen?, h.box]
theorem dt_leaf {m d R L cap p p' q : Nat} {ao : Option Addr} {w W1 W2 wr W : World} {so y : Int} {s : ByteArray} {nv kv : Value} (hS : TStart m R ao L cap p w W1 W2 so nv kv) (hn : Near R W2 wr) (hD : Dr wr R ao L cap p') (hp : p' <= p + q) (hW : ∀ b, b ≠ w.heap.size + 2 -> W.heap[b]? = wr.heap[b]?) (hB : Below 0 wr W) (hz : W.heap.size = wr.heap.size)
  (hso : (Lit.int .i64 so).wf = true) (hy : (Lit.int .i64 y).wf = true) (hs : s.size <= 10000) :
  DTPost (m + 1) (d + 1) w R ao L cap p q (.returned (.agg #[.int .i64 so, .int .i64 y, .string s, .slice none 0 0, .slice none 0 0])) (put5 W (w.heap.size + 1) 0 (.int .i64 so) (.int .i64 y) (.string s) (.slice none 0 0) (.slice none 0 0)) := by
 have hR := hS.dr0.lt
 have h1 := hS.many.near.size
 have h2 := hn.size
 have hnr : Near R w wr := (hS.near.trans hS.many.near).trans hn
 have h3 := hS.sz1
 refine dt_exit hS.dr0 (by omega) ⟨by rw [hB.os]; exact hnr.os, by rw [hB.tape]; exact hnr.tape, by rw [hB.output]; exact hnr.output, by rw [hz]; exact hnr.size, fun b hb hne => (hW b (by omega)).trans (hnr.block b hb hne)⟩ ((hW R (by omega)).trans hD.box) hp (leafDT_in _ _ m so y s hso hy hs) (depT.leaf m so y s d)
set_option maxRecDepth 20000 in
set_option maxHeartbeats 1000000 in
theorem l5Tree_num (m d R : Nat) (ao : Option Addr) (L cap p : Nat) (w : World) (h : Dr w R ao L cap p) (na ka : Option Addr) (nc kc : Nat) (hp : p + (4 + 40 * pt d) <= 900000) :
  Calls Tryz.prog 43 #[.pointer (some ⟨R, 0, none⟩), .agg #[.int .i64 1, .slice na 0 nc, .slice ka 0 kc]] w (DTPost (m + 1) (d + 1) w R ao L cap p (4 + 40 * pt d)) := by
 have hR := h.lt
 obtain ⟨W1, hW1⟩ : ∃ W1, W1 = (w.alloc (.cells #[.int .i64 1, .slice na 0 nc, .slice ka 0 kc] 85)).alloc (.cells #[.int .i64 0, .int .i64 0, .string ⟨#[]⟩, .slice none 0 0, .slice none 0 0] 27) := ⟨_, rfl⟩
 obtain ⟨W2, hW2⟩ : ∃ W2, W2 = W1.alloc (.cells #[.int .i64 1, .int .i64 0, .string ⟨#[]⟩, .slice none 0 0, .slice none 0 0] 27) := ⟨_, rfl⟩
 have HS : Hid (TStart m R ao L cap p w W1 W2 1 (.slice na 0 nc) (.slice ka 0 kc)) := tstart m h hW1 hW2
 have HC : Hid (Calls Tryz.prog 85 #[.pointer (some ⟨R, 0, none⟩)] W2 _) := l5Num_any W2 R ao L cap p HS.out.dr (by omega)
 have hz1 := HS.out.sz1
 clear h
 go_enter Tryz.func43, Tryz.ntmps43
 go_wp2_with fail
 rw [<- hW1, <- hW2]
 clear hW1 hW2
 refine HC.out.mono ?_
 rintro e w3 ⟨x, p', rfl, hx1, hx2, hp', hn3, hD3⟩
 have hM := HS.out.many.keep (by omega) hn3
 obtain ⟨⟨x0, x1, x2, x3, x4⟩, y0, y1, y2, y3, y4⟩ := treeX_cells hM
 obtain ⟨⟨z0, z1, z2, z3, z4⟩, u0, u1, u2, u3, u4⟩ := zeroDT_cells ((hM.near.block (w.heap.size + 1) (by omega) (by omega)).trans HS.out.zero)
 have HP : Hid (DTPost (m + 1) (d + 1) w R ao L cap p (4 + 40 * pt d) (.returned (.agg #[.int .i64 1, .int .i64 x, .string ByteArray.empty, .slice none 0 0, .slice none 0 0])) (put5 (w3.setCell ⟨w.heap.size + 2, 1, none⟩ (.int .i64 x)) (w.heap.size + 1) 0 (.int .i64 1) (.int .i64 x) (.string ByteArray.empty) (.slice none 0 0) (.slice none 0 0))) :=
  dt_leaf HS.out hn3 hD3 (by omega) (fun b hb => Below.heap_setCell _ _ _ _ hb) ((Below.refl 0 w3).setCell (Nat.zero_le _) _) (by simp) (by rfl) (wf_num hx1 hx2) (by simp)
 clear HC hM hn3 hD3 HS
 go_wp2_with fail
 refine bodyPost_ret (v := .agg #[.int .i64 1, .int .i64 x, .string ByteArray.empty, .slice none 0 0, .slice none 0 0]) (by simp [results, Tryz.results43, go_sem, z0, z1, z2, z3, z4]) rfl ?_
 exact HP.out
set_option maxRecDepth 20000 in
set_option maxHeartbeats 1000000 in
theorem l5Tree_text (m d R : Nat) (ao : Option Addr) (L cap p : Nat) (w : World) (h : Dr w R ao L cap p) (na ka : Option Addr) (nc kc : Nat) (hp : p + (4 + 40 * pt d) <= 900000) :
  Calls Tryz.prog 43 #[.pointer (some ⟨R, 0, none⟩), .agg #[.int .i64 2, .slice na 0 nc, .slice ka 0 kc]] w (DTPost (m + 1) (d + 1) w R ao L cap p (4 + 40 * pt d)) := by
 have hR := h.lt
 obtain ⟨W1, hW1⟩ : ∃ W1, W1 = (w.alloc (.cells #[.int .i64 2, .slice na 0 nc, .slice ka 0 kc] 85)).alloc (.cells #[.int .i64 0, .int .i64 0, .string ⟨#[]⟩, .slice none 0 0, .slice none 0 0] 27) := ⟨_, rfl⟩
 obtain ⟨W2, hW2⟩ : ∃ W2, W2 = W1.alloc (.cells #[.int .i64 2, .int .i64 0, .string ⟨#[]⟩, .slice none 0 0, .slice none 0 0] 27) := ⟨_, rfl⟩
 have HS : Hid (TStart m R ao L cap p w W1 W2 2 (.slice na 0 nc) (.slice ka 0 kc)) := tstart m h hW1 hW2
 have HC : Hid (Calls Tryz.prog 86 #[.pointer (some ⟨R, 0, none⟩)] W2 _) := l5Text_any W2 R ao L cap p HS.out.dr (by omega)
 have hz1 := HS.out.sz1
 clear h
 go_enter Tryz.func43, Tryz.ntmps43
 go_wp2_with fail
 rw [<- hW1, <- hW2]
 clear hW1 hW2
 refine HC.out.mono ?_
 rintro e w3 ⟨x, p', rfl, hx1, hp', hn3, hD3⟩
 have hM := HS.out.many.keep (by omega) hn3
 obtain ⟨⟨x0, x1, x2, x3, x4⟩, y0, y1, y2, y3, y4⟩ := treeX_cells hM
 obtain ⟨⟨z0, z1, z2, z3, z4⟩, u0, u1, u2, u3, u4⟩ := zeroDT_cells ((hM.near.block (w.heap.size + 1) (by omega) (by omega)).trans HS.out.zero)
 have HP : Hid (DTPost (m + 1) (d + 1) w R ao L cap p (4 + 40 * pt d) (.returned (.agg #[.int .i64 2, .int .i64 0, .string x, .slice none 0 0, .slice none 0 0])) (put5 (w3.setCell ⟨w.heap.size + 2, 2, none⟩ (.string x)) (w.heap.size + 1) 0 (.int .i64 2) (.int .i64 0) (.string x) (.slice none 0 0) (.slice none 0 0))) :=
  dt_leaf HS.out hn3 hD3 (by omega) (fun b hb => Below.heap_setCell _ _ _ _ hb) ((Below.refl 0 w3).setCell (Nat.zero_le _) _) (by simp) (by rfl) (by rfl) hx1
 clear HC hM hn3 hD3 HS
 go_wp2_with fail
 refine bodyPost_ret (v := .agg #[.int .i64 2, .int .i64 0, .string x, .slice none 0 0, .slice none 0 0]) (by simp [results, Tryz.results43, go_sem, z0, z1, z2, z3, z4]) rfl ?_
 exact HP.out
set_option maxRecDepth 20000 in
set_option maxHeartbeats 1000000 in
theorem l5Tree_flag (m d R : Nat) (ao : Option Addr) (L cap p : Nat) (w : World) (h : Dr w R ao L cap p) (na ka : Option Addr) (nc kc : Nat) (hp : p + (4 + 40 * pt d) <= 900000) :
  Calls Tryz.prog 43 #[.pointer (some ⟨R, 0, none⟩), .agg #[.int .i64 3, .slice na 0 nc, .slice ka 0 kc]] w (DTPost (m + 1) (d + 1) w R ao L cap p (4 + 40 * pt d)) := by
 have hR := h.lt
 obtain ⟨W1, hW1⟩ : ∃ W1, W1 = (w.alloc (.cells #[.int .i64 3, .slice na 0 nc, .slice ka 0 kc] 85)).alloc (.cells #[.int .i64 0, .int .i64 0, .string ⟨#[]⟩, .slice none 0 0, .slice none 0 0] 27) := ⟨_, rfl⟩
 obtain ⟨W2, hW2⟩ : ∃ W2, W2 = W1.alloc (.cells #[.int .i64 3, .int .i64 0, .string ⟨#[]⟩, .slice none 0 0, .slice none 0 0] 27) := ⟨_, rfl⟩
 have HS : Hid (TStart m R ao L cap p w W1 W2 3 (.slice na 0 nc) (.slice ka 0 kc)) := tstart m h hW1 hW2
 have HC : Hid (Calls Tryz.prog 17 #[.pointer (some ⟨R, 0, none⟩), .int .i64 2] W2 (PickPost W2 R ao L cap p 2)) := pick_any W2 R ao L cap p 2 HS.out.dr (by omega) (by omega) (by omega)
 have hz1 := HS.out.sz1
 clear h
 go_enter Tryz.func43, Tryz.ntmps43
 go_wp2_with fail
 rw [<- hW1, <- hW2]
 clear hW1 hW2
 refine HC.out.mono ?_
 rintro e w3 ⟨x, rfl, hx, hn3, hD3, hz3⟩
 have hM := HS.out.many.keep (by omega) hn3
 obtain ⟨⟨x0, x1, x2, x3, x4⟩, y0, y1, y2, y3, y4⟩ := treeX_cells hM
 obtain ⟨⟨z0, z1, z2, z3, z4⟩, u0, u1, u2, u3, u4⟩ := zeroDT_cells ((hM.near.block (w.heap.size + 1) (by omega) (by omega)).trans HS.out.zero)
 have HP : Hid (DTPost (m + 1) (d + 1) w R ao L cap p (4 + 40 * pt d) (.returned (.agg #[.int .i64 3, .int .i64 (x : Int), .string ByteArray.empty, .slice none 0 0, .slice none 0 0])) (put5 (w3.setCell ⟨w.heap.size + 2, 1, none⟩ (.int .i64 (x : Int))) (w.heap.size + 1) 0 (.int .i64 3) (.int .i64 (x : Int)) (.string ByteArray.empty) (.slice none 0 0) (.slice none 0 0))) :=
  dt_leaf HS.out hn3 hD3 (by omega) (fun b hb => Below.heap_setCell _ _ _ _ hb) ((Below.refl 0 w3).setCell (Nat.zero_le _) _) (by simp) (by rfl) (wf_num (by omega) (by omega)) (by simp)
 clear HC hM hn3 hD3 HS
 go_wp2_with fail
 refine bodyPost_ret (v := .agg #[.int .i64 3, .int .i64 (x : Int), .string ByteArray.empty, .slice none 0 0, .slice none 0 0]) (by simp [results, Tryz.results43, go_sem, z0, z1, z2, z3, z4]) rfl ?_
 exact HP.out
end Go.Proofs.YtmjhcgjhlakceaaGreatDoor

namespace Go.Proofs.YtmjhcgjhlakceaaGreatDoor
open Go.RowKit
def SpoilPostT (m : Nat) (S : Nat -> Prop) (w : World) (R : Nat) (ao : Option Addr) (L cap p q : Nat) (e : Ending) (w' : World) : Prop :=
 Near R w w' /\ ∃ (p' : Nat) (t : T m) (c0 c1 c2 c3 c4 : Value), p' <= p + q /\ Dr w' R ao L cap p' /\ e = .returned (.agg #[c0, c1, c2, c3, c4]) /\ TreeIn (fun b => S b ∨ (w.heap.size <= b /\ b < w'.heap.size)) w' m t c0 c1 c2 c3 c4
theorem spt_exit {m R L cap p p' q : Nat} {S : Nat -> Prop} {ao : Option Addr} {w W W' : World} {t : T m} {g0 g1 g2 g3 g4 : Value} (h : Dr w R ao L cap p) (hS : ∀ b, S b -> b < w.heap.size) (hn : Near R w W) (hb : W.heap[R]? = some (.cells #[.slice ao L cap, .int .i64 (p' : Int)] 79 (0, 0))) (hp : p' <= p + q)
  (hk : TreeIn (fun b => S b ∨ (w.heap.size + 2 <= b /\ b < W.heap.size)) W m t g0 g1 g2 g3 g4) (hB : Below w.heap.size W W') (hW : ∀ b, b ≠ w.heap.size -> W'.heap[b]? = W.heap[b]?) (hz : W'.heap.size = W.heap.size) :
  SpoilPostT m S w R ao L cap p q (.returned (.agg #[g0, g1, g2, g3, g4])) (put5 W' (w.heap.size + 1) 0 g0 g1 g2 g3 g4) := by
 have hR := h.lt
 have qq : ∀ b, b ≠ w.heap.size + 1 -> b ≠ w.heap.size -> (put5 W' (w.heap.size + 1) 0 g0 g1 g2 g3 g4).heap[b]? = W.heap[b]? := fun b h1 h2 => (put5_other h1).trans (hW b h2)
 have hz' : (put5 W' (w.heap.size + 1) 0 g0 g1 g2 g3 g4).heap.size = W.heap.size := put5_size.trans hz
 have hB2 : Below w.heap.size W (put5 W' (w.heap.size + 1) 0 g0 g1 g2 g3 g4) := put5_below hB (by omega)
 have hn' : Near R w (put5 W' (w.heap.size + 1) 0 g0 g1 g2 g3 g4) := ⟨by rw [hB2.os]; exact hn.os, by rw [hB2.tape]; exact hn.tape, by rw [hB2.output]; exact hn.output, by rw [hz']; exact hn.size, fun b hb hne => (qq b (by omega) (by omega)).trans (hn.block b hb hne)⟩
 refine ⟨hn', p', t, _, _, _, _, _, hp, h.keep hn' ((qq R (by omega) (by omega)).trans hb), rfl, hk.keep (fun b hb => ?_) (fun b hb => hb.elim .inl (fun h => .inr ⟨by omega, by rw [hz']; exact h.2⟩))⟩
 exact hb.elim (fun h => by have := hS b h; exact qq b (by omega) (by omega)) (fun h => qq b (by omega) (by omega))
def SpoilTSaid (d : Nat) : Prop := ∀ (m R : Nat) (ao : Option Addr) (L cap p : Nat) (S : Nat -> Prop) (t : T m) (c0 c1 c2 c3 c4 : Value) (w : World), d + 2 <= m -> depT m t d -> TreeIn S w m t c0 c1 c2 c3 c4 -> (∀ b, S b -> b < w.heap.size /\ b ≠ R) -> Dr w R ao L cap p -> p + 10 * d <= 900000 ->
 Calls Tryz.prog 90 #[.pointer (some ⟨R, 0, none⟩), .agg #[c0, c1, c2, c3, c4]] w (SpoilPostT m S w R ao L cap p (10 * d))
theorem kids_newsT {S : Nat -> Prop} {w : World} {m : Nat} {l : List (T m)} {ao : Option Addr} {n c : Nat} (hl : l.length = n) (h : RowIn S w (TreeIn S w m) l (.slice ao n c)) :
  ∃ xs : List Value, xs.length = n * 5 /\ (∀ u ∈ xs, u.oneCell' = true) /\ (∀ w', Same S w w' -> 0 < n -> ∃ ad, ao = some ad /\ ∀ j u, xs[j]? = some u -> w'.cell? (ad.add j) = some u) /\
   ∀ j (h : j < l.length), ∃ c0 c1 c2 c3 c4, (xs[j * 5]? = some c0 /\ xs[j * 5 + 1]? = some c1 /\ xs[j * 5 + 2]? = some c2 /\ xs[j * 5 + 3]? = some c3 /\ xs[j * 5 + 4]? = some c4) /\ TreeIn S w m l[j] c0 c1 c2 c3 c4 := by
 subst hl
 obtain ⟨ao', cap', he, -, hc⟩ := h
 by_cases hne : l = []
 ·subst hne
  refine ⟨[], by simp, fun u hu => ?_, fun _ _ h => ?_, fun j hj => ?_⟩
  ·cases hu
  ·exact absurd h (by simp)
  ·exact absurd hj (by simp)
 obtain ⟨b, off, hb, hS, hcell⟩ := hc hne
 have hao : ao = ao' := by simpa using congrArg (fun v => match v with | Value.slice a _ _ => a | _ => none) he
 have hall : ∀ j, j < l.length * 5 -> ∃ u, w.cell? ⟨b, off + j, none⟩ = some u /\ u.oneCell' = true := fun j hj => by
  obtain ⟨c0, c1, c2, c3, c4, e0, e1, e2, e3, e4, hk⟩ := hcell (j / 5) (by omega)
  obtain ⟨_, _, _, _, _, _, _, _, _, rfl, rfl, rfl, rfl, rfl⟩ := hk.shape
  have h3 : j % 5 = 0 ∨ j % 5 = 1 ∨ j % 5 = 2 ∨ j % 5 = 3 ∨ j % 5 = 4 := by omega
  rcases h3 with h3 | h3 | h3 | h3 | h3
  ·rw [show off + j = off + j / 5 * 5 by omega]; exact ⟨_, e0, rfl⟩
  ·rw [show off + j = off + j / 5 * 5 + 1 by omega]; exact ⟨_, e1, rfl⟩
  ·rw [show off + j = off + j / 5 * 5 + 2 by omega]; exact ⟨_, e2, rfl⟩
  ·rw [show off + j = off + j / 5 * 5 + 3 by omega]; exact ⟨_, e3, rfl⟩
  ·rw [show off + j = off + j / 5 * 5 + 4 by omega]; exact ⟨_, e4, rfl⟩
 have hx : ∀ j u, ((List.range (l.length * 5)).map fun j => (w.cell? ⟨b, off + j, none⟩).getD (.slice none 0 0))[j]? = some u -> j < l.length * 5 /\ w.cell? ⟨b, off + j, none⟩ = some u := fun j u hu => by
  rw [List.getElem?_map] at hu
  by_cases hj : j < l.length * 5
  ·rw [List.getElem?_range hj] at hu
   obtain ⟨v, hv, -⟩ := hall j hj
   refine ⟨hj, ?_⟩
   simp only [Option.map_some, hv, Option.getD_some] at hu
   rw [hv]; exact hu
  ·rw [List.getElem?_eq_none (by simp; omega)] at hu; cases hu
 have hx2 : ∀ j u, j < l.length * 5 -> w.cell? ⟨b, off + j, none⟩ = some u -> ((List.range (l.length * 5)).map fun j => (w.cell? ⟨b, off + j, none⟩).getD (.slice none 0 0))[j]? = some u := fun j u hj hu => by
  rw [List.getElem?_map, List.getElem?_range hj]
  simp [hu]
 refine ⟨(List.range (l.length * 5)).map fun j => (w.cell? ⟨b, off + j, none⟩).getD (.slice none 0 0), by simp, fun u hu => ?_, fun w' hs _ => ⟨⟨b, off, none⟩, hao.trans hb, fun j u hu => ?_⟩, fun j hj => ?_⟩
 ·obtain ⟨j, hj, hju⟩ := List.mem_iff_getElem.1 hu
  obtain ⟨hj3, hcu⟩ := hx j u (by rw [List.getElem?_eq_getElem hj, hju])
  obtain ⟨v, hv, h1⟩ := hall j hj3
  rw [hcu] at hv
  cases hv; exact h1
 ·rw [Addr.add_lit]
  exact (hs.cell (p := ⟨b, off + j, none⟩) hS).trans (hx j u hu).2
 ·obtain ⟨c0, c1, c2, c3, c4, e0, e1, e2, e3, e4, hk⟩ := hcell j hj
  exact ⟨c0, c1, c2, c3, c4, ⟨hx2 _ _ (by omega) e0, hx2 _ _ (by omega) (by rw [<- Nat.add_assoc]; exact e1), hx2 _ _ (by omega) (by rw [<- Nat.add_assoc]; exact e2), hx2 _ _ (by omega) (by rw [<- Nat.add_assoc]; exact e3), hx2 _ _ (by omega) (by rw [<- Nat.add_assoc]; exact e4)⟩, hk⟩
theorem kids_moreT {S S8 : Nat -> Prop} {w w8 : World} {m kl M : Nat} {l : List (T m)} {t : T m} {xs : List Value} {c0 c1 c2 c3 c4 v : Value} {e : TypeId} (hl : l.length = kl) (hxl : xs.length = kl * 5)
  (hk : ∀ j (h : j < l.length), ∃ c0 c1 c2 c3 c4, (xs[j * 5]? = some c0 /\ xs[j * 5 + 1]? = some c1 /\ xs[j * 5 + 2]? = some c2 /\ xs[j * 5 + 3]? = some c3 /\ xs[j * 5 + 4]? = some c4) /\ TreeIn S w m l[j] c0 c1 c2 c3 c4) (hs : Same S w w8) (hSS : ∀ b, S b -> S8 b)
  (ht : TreeIn S8 w8 m t c0 c1 c2 c3 c4) (hown : w8.ownsRow M e 5 v (kl + 1) (xs ++ [c0, c1, c2, c3, c4])) (hle : kl <= 1000) (hv : ∀ g, v.ownBlock = some g -> S8 g) : RowIn S8 w8 (TreeIn S8 w8 m) (l ++ [t]) v := by
 subst hl
 refine row_of_owns (M := M) (e := e) (xs := xs ++ [c0, c1, c2, c3, c4]) (by simpa using hown) (by simp; omega) hv fun j hj => ?_
 rcases Nat.lt_or_ge j l.length with hlt | hge
 ·obtain ⟨d0, d1, d2, d3, d4, ⟨e0, e1, e2, e3, e4⟩, hd⟩ := hk j hlt
  have up : ∀ i u, i < l.length * 5 -> xs[i]? = some u -> (xs ++ [c0, c1, c2, c3, c4])[i]? = some u := fun i u hi hu => by rw [List.getElem?_append_left (by omega)]; exact hu
  refine ⟨d0, d1, d2, d3, d4, ⟨up _ _ (by omega) e0, up _ _ (by omega) e1, up _ _ (by omega) e2, up _ _ (by omega) e3, up _ _ (by omega) e4⟩, ?_⟩
  rw [List.getElem_append_left hlt]; exact hd.keep hs hSS
 ·have hj' : j = l.length := by simp at hj; omega
  subst hj'
  have up : ∀ o u, [c0, c1, c2, c3, c4][o]? = some u -> (xs ++ [c0, c1, c2, c3, c4])[l.length * 5 + o]? = some u := fun o u hu => by
   rw [List.getElem?_append_right (by omega), hxl, Nat.add_sub_cancel_left]; exact hu
  refine ⟨c0, c1, c2, c3, c4, ⟨up 0 _ rfl, up 1 _ rfl, up 2 _ rfl, up 3 _ rfl, up 4 _ rfl⟩, ?_⟩
  rw [List.getElem_append_right (Nat.le_refl _)]; simpa using ht
theorem put5_far {w : World} {g o j : Nat} {a0 a1 a2 a3 a4 : Value} (h : j < o ∨ o + 5 <= j) : (put5 w g o a0 a1 a2 a3 a4).cell? ⟨g, j, none⟩ = w.cell? ⟨g, j, none⟩ := by
 have ne : ∀ i, i ≠ j -> (⟨g, i, none⟩ : Addr) ≠ ⟨g, j, none⟩ := fun i hi e => hi (congrArg Addr.off e)
 unfold put5
 rw [World.cell?_setCell_other (h := ne _ (by omega)), World.cell?_setCell_other (h := ne _ (by omega)), World.cell?_setCell_other (h := ne _ (by omega)), World.cell?_setCell_other (h := ne _ (by omega)), World.cell?_setCell_other (h := ne _ (by omega))]
theorem put5_near {w : World} {g o : Nat} {a0 a1 a2 a3 a4 b0 b1 b2 b3 b4 : Value} (h0 : w.cell? ⟨g, o, none⟩ = some b0) (h1 : w.cell? ⟨g, o + 1, none⟩ = some b1) (h2 : w.cell? ⟨g, o + 2, none⟩ = some b2) (h3 : w.cell? ⟨g, o + 3, none⟩ = some b3) (h4 : w.cell? ⟨g, o + 4, none⟩ = some b4) :
  (put5 w g o a0 a1 a2 a3 a4).cell? ⟨g, o, none⟩ = some a0 /\ (put5 w g o a0 a1 a2 a3 a4).cell? ⟨g, o + 1, none⟩ = some a1 /\ (put5 w g o a0 a1 a2 a3 a4).cell? ⟨g, o + 2, none⟩ = some a2 /\ (put5 w g o a0 a1 a2 a3 a4).cell? ⟨g, o + 3, none⟩ = some a3 /\ (put5 w g o a0 a1 a2 a3 a4).cell? ⟨g, o + 4, none⟩ = some a4 := by
 have ne : ∀ i j, i ≠ j -> (⟨g, i, none⟩ : Addr) ≠ ⟨g, j, none⟩ := fun i j hi e => hi (congrArg Addr.off e)
 have ot : ∀ (W : World) (i j : Nat) (v : Value), i ≠ j -> (W.setCell ⟨g, i, none⟩ v).cell? ⟨g, j, none⟩ = W.cell? ⟨g, j, none⟩ := fun W i j v h => World.cell?_setCell_other _ _ _ _ (ne i j h)
 unfold put5
 refine ⟨?_, ?_, ?_, ?_, ?_⟩
 ·rw [ot _ _ _ _ (by omega), ot _ _ _ _ (by omega), ot _ _ _ _ (by omega), ot _ _ _ _ (by omega)]; exact World.cell?_setCell_same _ _ _ h0
 ·rw [ot _ _ _ _ (by omega), ot _ _ _ _ (by omega), ot _ _ _ _ (by omega)]; exact World.cell?_setCell_same _ _ _ ((ot _ _ _ _ (by omega)).trans h1)
 ·rw [ot _ _ _ _ (by omega), ot _ _ _ _ (by omega)]; exact World.cell?_setCell_same _ _ _ ((ot _ _ _ _ (by omega)).trans ((ot _ _ _ _ (by omega)).trans h2))
 ·rw [ot _ _ _ _ (by omega)]; exact World.cell?_setCell_same _ _ _ ((ot _ _ _ _ (by omega)).trans ((ot _ _ _ _ (by omega)).trans ((ot _ _ _ _ (by omega)).trans h3)))
 ·exact World.cell?_setCell_same _ _ _ ((ot _ _ _ _ (by omega)).trans ((ot _ _ _ _ (by omega)).trans ((ot _ _ _ _ (by omega)).trans ((ot _ _ _ _ (by omega)).trans h4))))
theorem kids_putT {S S8 U : Nat -> Prop} {w w8 : World} {m kl M i g cap : Nat} {l : List (T m)} {t : T m} {xs : List Value} {c0 c1 c2 c3 c4 : Value} {e : TypeId} (hl : l.length = kl)
  (hk : ∀ j (h : j < l.length), ∃ c0 c1 c2 c3 c4, (xs[j * 5]? = some c0 /\ xs[j * 5 + 1]? = some c1 /\ xs[j * 5 + 2]? = some c2 /\ xs[j * 5 + 3]? = some c3 /\ xs[j * 5 + 4]? = some c4) /\ TreeIn S w m l[j] c0 c1 c2 c3 c4) (hs : Same S w w8) (hSg : ¬ S g) (hSS : ∀ b, S b -> S8 b)
  (ht : TreeIn U w8 m t c0 c1 c2 c3 c4) (hUg : ¬ U g) (hU : ∀ b, U b -> S8 b) (hown : w8.ownsRow M e 5 (.slice (some ⟨g, 0, none⟩) kl cap) kl xs) (hle : kl <= 1000) (hg : S8 g) (hi : i < kl) :
  RowIn S8 (put5 w8 g (i * 5) c0 c1 c2 c3 c4) (TreeIn S8 (put5 w8 g (i * 5) c0 c1 c2 c3 c4) m) (l.set i t) (.slice (some ⟨g, 0, none⟩) kl cap) := by
 subst hl
 have hc : ∀ j x, xs[j]? = some x -> w8.cell? ⟨g, 0 + j, none⟩ = some x := fun j x hx => by
  have := hown.cells (g := g) rfl j x hx
  rwa [Addr.add_lit] at this
 have ho : ∀ b, b ≠ g -> (put5 w8 g (i * 5) c0 c1 c2 c3 c4).heap[b]? = w8.heap[b]? := fun b hb => put5_other hb
 refine ⟨some ⟨g, 0, none⟩, cap, by simp, by simp; unfold maxLen; omega, fun _ => ⟨g, 0, rfl, hg, fun j hj => ?_⟩⟩
 rw [List.length_set] at hj
 obtain ⟨d0, d1, d2, d3, d4, ⟨e0, e1, e2, e3, e4⟩, hd⟩ := hk j hj
 have h0 := hc _ _ e0
 have h1 := hc _ _ e1
 have h2 := hc _ _ e2
 have h3 := hc _ _ e3
 have h4 := hc _ _ e4
 rw [Nat.zero_add] at h0 h1 h2 h3 h4 ⊢
 by_cases hij : i = j
 ·subst hij
  obtain ⟨p0, p1, p2, p3, p4⟩ := put5_near (a0 := c0) (a1 := c1) (a2 := c2) (a3 := c3) (a4 := c4) h0 h1 h2 h3 h4
  refine ⟨c0, c1, c2, c3, c4, p0, p1, p2, p3, p4, ?_⟩
  rw [List.getElem_set_self]
  exact ht.keep (fun b hb => ho b (fun e => hUg (e ▸ hb))) hU
 ·refine ⟨d0, d1, d2, d3, d4, (put5_far (by omega)).trans h0, (put5_far (by omega)).trans h1, (put5_far (by omega)).trans h2, (put5_far (by omega)).trans h3, (put5_far (by omega)).trans h4, ?_⟩
  rw [List.getElem_set_ne hij]
  exact hd.keep (fun b hb => (ho b (fun e => hSg (e ▸ hb))).trans (hs b hb)) hSS
end Go.Proofs.YtmjhcgjhlakceaaGreatDoor

namespace Go.Proofs.YtmjhcgjhlakceaaGreatDoor
open Go.RowKit
set_option maxRecDepth 20000 in
set_option maxHeartbeats 1000000 in
theorem l5Tree_maybe (m d R : Nat) (hn : DrawTSaid d) (ao : Option Addr) (L cap p : Nat) (k : K m) (S : Nat -> Prop) (g : Int) (w : World) (h : Dr w R ao L cap p) (na : Option Addr) (nc kc b off : Nat) (q0 q1 q2 : Value) (hdk : depK m k d) (hg : goodK m k g = true) (hcn : cntK m k <= 40)
  (hS : ∀ b, S b -> b < w.heap.size /\ b ≠ R) (hb : S b) (hq0 : w.cell? ⟨b, off, none⟩ = some q0) (hq1 : w.cell? ⟨b, off + 1, none⟩ = some q1) (hq2 : w.cell? ⟨b, off + 2, none⟩ = some q2) (hk : KindIn S w m k q0 q1 q2) (hp : p + (4 + 40 * pt d) <= 900000) :
  Calls Tryz.prog 43 #[.pointer (some ⟨R, 0, none⟩), .agg #[.int .i64 6, .slice na 0 nc, .slice (some ⟨b, off, none⟩) 1 kc]] w (DTPost (m + 1) (d + 1) w R ao L cap p (4 + 40 * pt d)) := by
 have hR := h.lt
 obtain ⟨W1, hW1⟩ : ∃ W1, W1 = (w.alloc (.cells #[.int .i64 6, .slice na 0 nc, .slice (some ⟨b, off, none⟩) 1 kc] 85)).alloc (.cells #[.int .i64 0, .int .i64 0, .string ⟨#[]⟩, .slice none 0 0, .slice none 0 0] 27) := ⟨_, rfl⟩
 obtain ⟨W2, hW2⟩ : ∃ W2, W2 = W1.alloc (.cells #[.int .i64 6, .int .i64 0, .string ⟨#[]⟩, .slice none 0 0, .slice none 0 0] 27) := ⟨_, rfl⟩
 have HS : Hid (TStart m R ao L cap p w W1 W2 6 (.slice na 0 nc) (.slice (some ⟨b, off, none⟩) 1 kc)) := tstart m h hW1 hW2
 have HC : Hid (Calls Tryz.prog 17 #[.pointer (some ⟨R, 0, none⟩), .int .i64 3] W2 (PickPost W2 R ao L cap p 3)) := pick_any W2 R ao L cap p 3 HS.out.dr (by omega) (by omega) (by omega)
 have hz1 := HS.out.sz1
 have hz2 := HS.out.sz2
 have HN : Hid (DrawTSaid d /\ depK m k d) := ⟨hn, hdk⟩
 have HQ : Hid ((∀ b, S b -> b < w.heap.size /\ b ≠ R) /\ KindIn S w m k q0 q1 q2) := ⟨hS, hk⟩
 obtain ⟨hb1, hb2⟩ := hS b hb
 obtain ⟨v0, va, vl, vc, ya, yl, yc, rfl, rfl, rfl⟩ := hk.shape
 clear h hn hdk hS hk
 go_enter Tryz.func43, Tryz.ntmps43
 go_wp2_with fail
 rw [<- hW1, <- hW2]
 clear hW1 hW2
 refine HC.out.mono ?_
 rintro e w3 ⟨y, rfl, hy, hn3, hD3, hz3⟩
 have hM := HS.out.many.keep (by omega) hn3
 have hnw : Near R w w3 := (HS.out.near.trans HS.out.many.near).trans hn3
 clear HC
 by_cases hy0 : y = 0
 ·subst hy0
  obtain ⟨⟨x0, x1, x2, x3, x4⟩, y0, y1, y2, y3, y4⟩ := treeX_cells hM
  obtain ⟨⟨z0, z1, z2, z3, z4⟩, u0, u1, u2, u3, u4⟩ := zeroDT_cells ((hM.near.block (w.heap.size + 1) (by omega) (by omega)).trans HS.out.zero)
  have HP : Hid (DTPost (m + 1) (d + 1) w R ao L cap p (4 + 40 * pt d) (.returned (.agg #[.int .i64 6, .int .i64 0, .string ByteArray.empty, .slice none 0 0, .slice none 0 0])) (put5 w3 (w.heap.size + 1) 0 (.int .i64 6) (.int .i64 0) (.string ByteArray.empty) (.slice none 0 0) (.slice none 0 0))) :=
   dt_leaf HS.out hn3 hD3 (by omega) (fun b hb => rfl) (Below.refl 0 w3) rfl (by rfl) (by rfl) (by simp)
  clear hM hn3 hD3 HS HN HQ hnw
  go_wp2_with fail
  refine bodyPost_ret (v := .agg #[.int .i64 6, .int .i64 0, .string ByteArray.empty, .slice none 0 0, .slice none 0 0]) (by simp [results, Tryz.results43, go_sem, z0, z1, z2, z3, z4]) rfl ?_
  exact HP.out
 ·have hyp : (0 : Int) < (y : Int) := by omega
  have kb := (hM.near.block w.heap.size (by omega) (by omega)).trans HS.out.kbox
  have k2 : w3.cell? ⟨w.heap.size, 2, none⟩ = some (.slice (some ⟨b, off, none⟩) 1 kc) := by simp [World.cell?, kb]
  have e0 := hnw.cell hq0 hb2
  have e1 := hnw.cell hq1 hb2
  have e2 := hnw.cell hq2 hb2
  have HK : Hid (Calls Tryz.prog 43 #[.pointer (some ⟨R, 0, none⟩), .agg #[.int .i64 v0, .slice va vl vc, .slice ya yl yc]] w3 (DTPost m d w3 R ao L cap (p + 1) (pt d))) :=
   HN.out.1 m R ao L cap (p + 1) k S g _ _ _ w3 HN.out.2 hg hcn (HQ.out.2.keep (fun b hb => hnw.block b (HQ.out.1 b hb).1 (HQ.out.1 b hb).2) (fun _ h => h)) (fun b hb => ⟨by have := (HQ.out.1 b hb).1; have := hnw.size; omega, (HQ.out.1 b hb).2⟩) hD3 (by omega)
  have HM : Hid (Many R (w.heap.size + 2) m W1 w3 6 [] [] (.slice none 0 0) (.slice none 0 0) /\ Near R w w3) := ⟨hM, hnw⟩
  clear hM hnw hn3 hD3 hq0 hq1 hq2 kb
  go_wp2_with fail
  refine HK.out.mono ?_
  rintro e w4 ⟨hn4, p', t, c0, c1, c2, c3, c4, hp', hD4, rfl, ht, hdt⟩
  obtain ⟨t0, t1, t2, ta, tl, tc, ua, ul, uc, rfl, rfl, rfl, rfl, rfl⟩ := ht.shape
  have hz4 := hn4.size
  obtain ⟨W5, hW5⟩ : ∃ W5, W5 = w4.alloc (.cells #[.int .i64 t0, .int .i64 t1, .string t2, .slice ta tl tc, .slice ua ul uc] 27) := ⟨_, rfl⟩
  have hb5 : Below w4.heap.size w4 W5 := by rw [hW5]; exact (Below.refl _ _).alloc (Nat.le_refl _) _
  have hx5 : Box5 W5 w4.heap.size (.int .i64 t0) (.int .i64 t1) (.string t2) (.slice ta tl tc) (.slice ua ul uc) := by rw [hW5]; exact Box5.new _ _ _ _ _ _ _
  have hz5 : W5.heap.size = w4.heap.size + 1 := by rw [hW5]; simp
  have hM5 := HM.out.1.keep (by omega) (hn4.trans (Near.of_below hb5))
  obtain ⟨⟨x0, x1, x2, x3, x4⟩, y0, y1, y2, y3, y4⟩ := treeX_cells hM5
  obtain ⟨⟨z0, z1, z2, z3, z4⟩, u0, u1, u2, u3, u4⟩ := zeroDT_cells ((hM5.near.block (w.heap.size + 1) (by omega) (by omega)).trans HS.out.zero)
  have HP : Hid (DTPost (m + 1) (d + 1) w R ao L cap p (4 + 40 * pt d) (.returned (.agg #[.int .i64 6, .int .i64 0, .string ByteArray.empty, .slice none 0 0, .slice (some ⟨w4.heap.size, 0, none⟩) 1 1])) (put5 (W5.setCell ⟨w.heap.size + 2, 4, none⟩ (.slice (some ⟨w4.heap.size, 0, none⟩) 1 1)) (w.heap.size + 1) 0 (.int .i64 6) (.int .i64 0) (.string ByteArray.empty) (.slice none 0 0) (.slice (some ⟨w4.heap.size, 0, none⟩) 1 1))) := by
   have qs : ∀ a, a ≠ w.heap.size + 2 -> (W5.setCell ⟨w.heap.size + 2, 4, none⟩ (.slice (some ⟨w4.heap.size, 0, none⟩) 1 1)).heap[a]? = W5.heap[a]? := fun a ha => Below.heap_setCell _ _ _ _ ha
   have hsz : (W5.setCell ⟨w.heap.size + 2, 4, none⟩ (.slice (some ⟨w4.heap.size, 0, none⟩) 1 1)).heap.size = W5.heap.size := by simp
   have hnr : Near R w W5 := (HM.out.2.trans hn4).trans (Near.of_below hb5)
   refine dt_exit HS.out.dr0 (by omega) ⟨hnr.os, hnr.tape, hnr.output, by rw [hsz]; exact hnr.size, fun a ha hne => (qs a (by omega)).trans (hnr.block a ha hne)⟩ ((qs R (by omega)).trans (hD4.same hb5).box) (by omega) (oneDT_in (by rfl) (by rfl) (by simp) ⟨by omega, by rw [hsz]; omega⟩ ?_ (t := t) (c0 := .int .i64 t0) (c1 := .int .i64 t1) (c2 := .string t2) (c3 := .slice ta tl tc) (c4 := .slice ua ul uc) ?_) hdt.one
   ·exact ⟨(World.cell?_of_block (qs _ (by show w4.heap.size ≠ _; omega))).trans hx5.c0, (World.cell?_of_block (qs _ (by show w4.heap.size ≠ _; omega))).trans hx5.c1, (World.cell?_of_block (qs _ (by show w4.heap.size ≠ _; omega))).trans hx5.c2, (World.cell?_of_block (qs _ (by show w4.heap.size ≠ _; omega))).trans hx5.c3, (World.cell?_of_block (qs _ (by show w4.heap.size ≠ _; omega))).trans hx5.c4⟩
   ·exact ht.keep (fun a ha => (qs a (by omega)).trans (hb5.block a ha.2)) (fun a ha => ⟨by omega, by rw [hsz]; omega⟩)
  clear HK hM5 hn4 hD4 ht hdt HS HN HQ HM hx5 hb5
  subst hW5
  go_wp2_with fail
  refine bodyPost_ret (v := .agg #[.int .i64 6, .int .i64 0, .string ByteArray.empty, .slice none 0 0, .slice (some ⟨w4.heap.size, 0, none⟩) 1 1]) (by simp [results, Tryz.results43, go_sem, z0, z1, z2, z3, z4]) rfl ?_
  exact HP.out
end Go.Proofs.YtmjhcgjhlakceaaGreatDoor

namespace Go.Proofs.YtmjhcgjhlakceaaGreatDoor
open Go.RowKit
theorem dt_many {m d R L cap p p' q : Nat} {ao : Option Addr} {w W1 W2 wr : World} {so : Int} {n0 k0 nv kv : Value} {ns : List ByteArray} {ks : List (T m)} (hS : TStart m R ao L cap p w W1 W2 so n0 k0) (hM : Many R (w.heap.size + 2) m W1 wr so ns ks nv kv) (hD : wr.heap[R]? = some (.cells #[.slice ao L cap, .int .i64 (p' : Int)] 79 (0, 0))) (hp : p' <= p + q)
  (hso : (Lit.int .i64 so).wf = true) (hns : ns.length <= 1000) (hks : ks.length <= 1000) (hd : ∀ k, k ∈ ks -> depT m k d) :
  DTPost (m + 1) (d + 1) w R ao L cap p q (.returned (.agg #[.int .i64 so, .int .i64 0, .string ByteArray.empty, nv, kv])) (put5 wr (w.heap.size + 1) 0 (.int .i64 so) (.int .i64 0) (.string ByteArray.empty) nv kv) := by
 have h1 := hM.near.size
 have h3 := hS.sz1
 refine dt_exit hS.dr0 (by omega) (hS.near.trans hM.near) hD hp ((many_in hM hso (by omega) (by omega)).keep (fun _ _ => rfl) (fun b hb => ⟨by omega, hb.2⟩)) ⟨by omega, hns, hM.short, hks, fun k hk => by simpa using hd k hk⟩
theorem box_afterD {R X k z : Nat} {e : TypeId} {v : Value} {xs : List Value} {W w2 w3 : World} {o : Obj} {c : Obj} (h : W.ownsRow (X + 1) e z v k xs) (hRX : R < X) (hRl : R < w2.heap.size) (hg : (w2.alloc o).grownBy w3 v.ownBlock) (u : Value) (q : Nat) (hc : w2.heap[R]? = some c) : (w3.setCell ⟨X, q, none⟩ u).heap[R]? = some c := by
 rw [Below.heap_setCell _ _ _ _ (by show R ≠ X; omega), hg.block R (by simp; omega) (fun e => by have := owns_lt h R e.symm; omega), Below.heap_alloc _ _ _ hRl]
 exact hc
set_option maxRecDepth 20000 in
set_option maxHeartbeats 4000000 in
theorem l5Tree_list (m d R : Nat) (hn : DrawTSaid d) (ao : Option Addr) (L cap p : Nat) (k : K m) (S : Nat -> Prop) (g : Int) (w : World) (h : Dr w R ao L cap p) (na : Option Addr) (nc kc b off : Nat) (q0 q1 q2 : Value) (hdk : depK m k d) (hg : goodK m k g = true) (hcn : cntK m k <= 40)
  (hS : ∀ b, S b -> b < w.heap.size /\ b ≠ R) (hb : S b) (hq0 : w.cell? ⟨b, off, none⟩ = some q0) (hq1 : w.cell? ⟨b, off + 1, none⟩ = some q1) (hq2 : w.cell? ⟨b, off + 2, none⟩ = some q2) (hk : KindIn S w m k q0 q1 q2) (hp : p + (4 + 40 * pt d) <= 900000) :
  Calls Tryz.prog 43 #[.pointer (some ⟨R, 0, none⟩), .agg #[.int .i64 4, .slice na 0 nc, .slice (some ⟨b, off, none⟩) 1 kc]] w (DTPost (m + 1) (d + 1) w R ao L cap p (4 + 40 * pt d)) := by
 have hR := h.lt
 obtain ⟨W1, hW1⟩ : ∃ W1, W1 = (w.alloc (.cells #[.int .i64 4, .slice na 0 nc, .slice (some ⟨b, off, none⟩) 1 kc] 85)).alloc (.cells #[.int .i64 0, .int .i64 0, .string ⟨#[]⟩, .slice none 0 0, .slice none 0 0] 27) := ⟨_, rfl⟩
 obtain ⟨W2, hW2⟩ : ∃ W2, W2 = W1.alloc (.cells #[.int .i64 4, .int .i64 0, .string ⟨#[]⟩, .slice none 0 0, .slice none 0 0] 27) := ⟨_, rfl⟩
 have HS : Hid (TStart m R ao L cap p w W1 W2 4 (.slice na 0 nc) (.slice (some ⟨b, off, none⟩) 1 kc)) := tstart m h hW1 hW2
 have HC : Hid (Calls Tryz.prog 17 #[.pointer (some ⟨R, 0, none⟩), .int .i64 4] W2 (PickPost W2 R ao L cap p 4)) := pick_any W2 R ao L cap p 4 HS.out.dr (by omega) (by omega) (by omega)
 have hz1 := HS.out.sz1
 have hz2 := HS.out.sz2
 have HN : Hid (DrawTSaid d /\ depK m k d) := ⟨hn, hdk⟩
 have HQ : Hid ((∀ b, S b -> b < w.heap.size /\ b ≠ R) /\ KindIn S w m k q0 q1 q2 /\ w.cell? ⟨b, off, none⟩ = some q0 /\ w.cell? ⟨b, off + 1, none⟩ = some q1 /\ w.cell? ⟨b, off + 2, none⟩ = some q2) := ⟨hS, hk, hq0, hq1, hq2⟩
 obtain ⟨hb1, hb2⟩ := hS b hb
 obtain ⟨v0, va, vl, vc, ya, yl, yc, rfl, rfl, rfl⟩ := hk.shape
 clear h hn hdk hS hk hq0 hq1 hq2
 generalize hqe : pt d = qd at *
 go_enter Tryz.func43, Tryz.ntmps43
 go_wp2_with fail
 rw [<- hW1, <- hW2]
 clear hW1 hW2
 refine HC.out.mono ?_
 rintro e w3 ⟨y, rfl, hy, hn3, hD3, hz3⟩
 have HM3 : Hid (Many R (w.heap.size + 2) m W1 w3 4 [] [] (.slice none 0 0) (.slice none 0 0) /\ Dr w3 R ao L cap (p + 1)) := ⟨HS.out.many.keep (by omega) hn3, hD3⟩
 clear HC hn3 hD3
 generalize hXe : w.heap.size + 2 = X at *
 go_wp2_with fail
 go_loopw [6] (fun iv wr => ∃ (i ln p' : Nat) (ks : List (T m)) (ka : Option Addr) (kc : Nat), i + ln <= 3 /\ iv = .int .i64 i /\ ks.length = ln /\ Many R X m W1 wr 4 [] ks (.slice none 0 0) (.slice ka ln kc) /\ Dr wr R ao L cap p' /\ p' <= p + 1 + ln * qd /\ ∀ k, k ∈ ks -> depT m k d) (fun iv _ => (intOf iv).toNat)
 case atStart => exact ⟨y, 0, p + 1, [], none, 0, by omega, rfl, rfl, HM3.out.1, HM3.out.2, by omega, fun k hk => by cases hk⟩
 case round =>
  obtain ⟨i, ln, p', ks, ka, kc', hi3, rfl, hkl, hM, hD, hp', hdep⟩ := hrel
  clear HM3
  have hzr := hM.near.size
  have hXr := hM.lt
  have hmul : ln * qd <= 3 * qd := Nat.mul_le_mul_right _ (by omega)
  have HM := hidF hM
  have HDr : Hid (Dr wr R ao L cap p') := hD
  have HDep : Hid (ks.length = ln /\ ∀ k, k ∈ ks -> depT m k d) := ⟨hkl, hdep⟩
  by_cases hi0 : i = 0
  ·subst hi0
   obtain ⟨⟨x0, x1, x2, x3, x4⟩, y0, y1, y2, y3, y4⟩ := treeX_cells hM
   obtain ⟨⟨z0, z1, z2, z3, z4⟩, u0, u1, u2, u3, u4⟩ := zeroDT_cells ((hM.near.block (w.heap.size + 1) (by omega) (by omega)).trans HS.out.zero)
   have HP : Hid (DTPost (m + 1) (d + 1) w R ao L cap p (4 + 40 * qd) (.returned (.agg #[.int .i64 4, .int .i64 0, .string ByteArray.empty, .slice none 0 0, .slice ka ln kc'])) (put5 wr (w.heap.size + 1) 0 (.int .i64 4) (.int .i64 0) (.string ByteArray.empty) (.slice none 0 0) (.slice ka ln kc'))) :=
    dt_many HS.out (by rw [hXe]; exact HM.out) hD.box (by omega) (by rfl) (by simp) (by rw [HDep.out.1]; omega) HDep.out.2
   clear hM hD hdep hkl HM HDr HDep HS HN HQ
   go_wp2_with fail
   refine bodyPost_ret (v := .agg #[.int .i64 4, .int .i64 0, .string ByteArray.empty, .slice none 0 0, .slice ka ln kc']) (by simp [results, Tryz.results43, go_sem, z0, z1, z2, z3, z4]) rfl ?_
   exact HP.out
  ·have hi1 : (0 : Int) < (i : Int) := by omega
   have hwi : IntKind.i64.wrap ((i : Int) - 1) = ((i - 1 : Nat) : Int) := by rw [IntKind.wrap_i64]; omega
   have hnw : Near R w wr := HS.out.near.trans hM.near
   have kb := (hM.near.block w.heap.size (by omega) (by omega)).trans HS.out.kbox
   have k2 : wr.cell? ⟨w.heap.size, 2, none⟩ = some (.slice (some ⟨b, off, none⟩) 1 kc) := by simp [World.cell?, kb]
   have e0 := hnw.cell HQ.out.2.2.1 hb2
   have e1 := hnw.cell HQ.out.2.2.2.1 hb2
   have e2 := hnw.cell HQ.out.2.2.2.2 hb2
   have hmul2 : (ln + 1) * qd = ln * qd + qd := Nat.succ_mul _ _
   have HK : Hid (Calls Tryz.prog 43 #[.pointer (some ⟨R, 0, none⟩), .agg #[.int .i64 v0, .slice va vl vc, .slice ya yl yc]] wr.drew (DTPost m d wr.drew R ao L cap p' (pt d))) :=
    HN.out.1 m R ao L cap p' k S g _ _ _ wr.drew HN.out.2 hg hcn (KindIn.keep (w := w) (w' := wr.drew) (fun b hb => hnw.block b (HQ.out.1 b hb).1 (HQ.out.1 b hb).2) (fun _ h => h) HQ.out.2.1) (fun b hb => ⟨by have := (HQ.out.1 b hb).1; have := hnw.size; show b < wr.heap.size; omega, (HQ.out.1 b hb).2⟩) (hD.drewN 1) (by rw [hqe]; omega)
   rw [hqe] at HK
   obtain ⟨xs, hxs, hkk⟩ := hM.kids
   have HKK := hidF hkk
   have HX : Hid (wr.ownsRow (X + 1) 27 5 (.slice ka ln kc') ln xs) := by
    rw [hkl] at hxs; exact hxs
   have x4 : wr.cell? ⟨X, 4, none⟩ = some (.slice ka ln kc') := (treeX_cells hM).1.2.2.2.2
   obtain ⟨ik0, hi0', hy0, hy1, hyb⟩ := info_parts Tryz.info_treeR
   have HIK : Hid (_ /\ _ /\ _ /\ _) := ⟨hi0', hy0, hy1, hyb⟩
   clear hi0' hy0 hy1 hyb hxs hkk hM hD hdep hkl kb hnw hi0
   go_wp2_with fail
   go_region_law (first
    | (refine step_append_lies _ (by rfl) (.tmp 50) (.tmp 57) 25 (by rfl) (X + 1) 27 ik0 _ 5 80 Tryz.underlying25 HIK.out.1 HIK.out.2.1 HIK.out.2.2.1 HIK.out.2.2.2 rfl (by decide) (.slice ka ln kc') ln xs (by rfl) (hox2 _) ⟨v2.heap.size, 0, none⟩ 1 1 [.int .i64 t0, .int .i64 t1, .string t2, .slice ta tl tc, .slice ua ul uc] (by rfl) rfl (World.news_of_block (heap_alloc_new v2 _)) (by simp [Value.oneCell']) (by decide) (by unfold maxLen; omega) (by omega) (by simp; omega) (v2.heap.size + 1) (by simp) ?_; intro g2 cap2 v3 hown2 hgrow2 hat2 hlt2; have hb6 := (box_after (W := wr.drew) HX.out hXr (by omega) hn5 hgrow2).trans HM.out.box; have x4'' : v3.cell? ⟨X, 4, none⟩ = some (.slice ka ln kc') := (by simp [World.cell?, hb6]); have xg'' : v3.frozen? ⟨X, 4, none⟩ = false := (by simp [World.frozen?, hb6]))
    | (go_simp; go_at_call 43; refine HK.out.mono ?_; rintro e v2 ⟨hn5, p5, t5, f0, f1, f2, f3, f4, hp5, hD5, rfl, ht5, hdt5⟩; obtain ⟨t0, t1, t2, ta, tl, tc, ua, ul, uc, rfl, rfl, rfl, rfl, rfl⟩ := ht5.shape; have hsz2 : wr.heap.size <= v2.heap.size := hn5.size; have hox2 := fun o => owns_on (R := R) (X := X) (W := wr.drew) HX.out (by omega) hn5 o; have x4' : v2.cell? ⟨X, 4, none⟩ = some (.slice ka ln kc') := (World.cell?_of_block (hn5.block X (by simpa using hXr) (by omega))).trans x4; have x4a : (v2.alloc (.cells #[.int .i64 t0, .int .i64 t1, .string t2, .slice ta tl tc, .slice ua ul uc] 27)).cell? ⟨X, 4, none⟩ = some (.slice ka ln kc') := (World.cell?_of_block (Below.heap_alloc _ _ _ (by show X < _; omega))).trans x4'))
   all_goals
    have hF := Many.kidD (g := g2) (cap := cap2) (xs := xs) 1 HM.out (by omega) (by omega) hn5 ht5 (by rw [HDep.out.1]; exact HX.out) HKK.out (by rw [HDep.out.1]; exact hown2) hgrow2 hat2
    rw [HDep.out.1] at hF
    have HF := hidF hF
    have HDn : Hid (Dr (v3.setCell ⟨X, 4, none⟩ (.slice (some ⟨g2, 0, none⟩) (ln + 1) cap2)) R ao L cap p5) :=
     HS.out.dr0.keep (HS.out.near.trans hF.near) (box_afterD (W := wr.drew) HX.out (by omega) (by omega) hgrow2 _ 4 hD5.box)
    have HDep5 : Hid (∀ k, k ∈ ks ++ [t5] -> depT m k d) := fun k hk => by
     rcases List.mem_append.1 hk with h | h
     ·exact HDep.out.2 k h
     ·rw [List.mem_singleton] at h; subst h; exact hdt5
    clear hF hown2 hgrow2 hat2 hlt2 ht5 hdt5 hD5 hn5 hox2 x4' x4a x4'' xg'' hb6
    go_wp2_with fail
    go_roundw
    case rel => exact ⟨i - 1, ln + 1, p5, ks ++ [t5], some ⟨g2, 0, none⟩, cap2, by omega, by go_num, by simp [HDep.out.1], HF.out, HDn.out, by omega, HDep5.out⟩
    case measure => simp [intOf]; omega
end Go.Proofs.YtmjhcgjhlakceaaGreatDoor

namespace Go.Proofs.YtmjhcgjhlakceaaGreatDoor
open Go.RowKit
set_option maxRecDepth 20000 in
set_option maxHeartbeats 4000000 in
theorem l5Tree_form (m d R : Nat) (hn : DrawTSaid d) (ao : Option Addr) (L cap p : Nat) (na0 : List ByteArray) (ki : List (K m)) (len : Nat) (S : Nat -> Prop) (g : Int) (w : World) (h : Dr w R ao L cap p) (ka : Option Addr) (nb : Option Addr) (nc kc : Nat) (hl1 : na0.length = len) (hl2 : ki.length = len) (hl39 : len <= 39)
  (hdk : ∀ k, k ∈ ki -> depK m k d /\ goodK m k g = true /\ cntK m k <= 40) (hns : ∀ s, s ∈ na0 -> s.size <= 10000)
  (hS : ∀ b, S b -> b < w.heap.size /\ b ≠ R) (hnm : StrsIn S w na0 (.slice nb len nc)) (hki : RowIn3 S w (KindIn S w m) ki (.slice ka len kc)) (hp : p + (4 + 40 * pt d) <= 900000) :
  Calls Tryz.prog 43 #[.pointer (some ⟨R, 0, none⟩), .agg #[.int .i64 5, .slice nb len nc, .slice ka len kc]] w (DTPost (m + 1) (d + 1) w R ao L cap p (4 + 40 * pt d)) := by
 have hR := h.lt
 obtain ⟨W1, hW1⟩ : ∃ W1, W1 = (w.alloc (.cells #[.int .i64 5, .slice nb len nc, .slice ka len kc] 85)).alloc (.cells #[.int .i64 0, .int .i64 0, .string ⟨#[]⟩, .slice none 0 0, .slice none 0 0] 27) := ⟨_, rfl⟩
 obtain ⟨W2, hW2⟩ : ∃ W2, W2 = W1.alloc (.cells #[.int .i64 5, .int .i64 0, .string ⟨#[]⟩, .slice none 0 0, .slice none 0 0] 27) := ⟨_, rfl⟩
 have HS : Hid (TStart m R ao L cap p w W1 W2 5 (.slice nb len nc) (.slice ka len kc)) := tstart m h hW1 hW2
 have hz1 := HS.out.sz1
 have hz2 := HS.out.sz2
 have HN : Hid (DrawTSaid d /\ ∀ k, k ∈ ki -> depK m k d /\ goodK m k g = true /\ cntK m k <= 40) := ⟨hn, hdk⟩
 have HSS := hidF hS
 have HNam : Hid (∀ i, i < len -> ∃ (b off : Nat) (nm : ByteArray), nb = some ⟨b, off, none⟩ /\ b < w.heap.size /\ b ≠ R /\ nm.size <= 10000 /\ w.cell? ⟨b, off + i, none⟩ = some (.string nm)) := fun i hi => by
  obtain ⟨ao', cap', hv, -, -, hc⟩ := hnm
  obtain ⟨b, off, ha, hB, hcell⟩ := hc (fun e => by rw [e] at hl1; simp at hl1; omega)
  have hin : i < na0.length := by omega
  cases hv
  exact ⟨b, off, na0[i], ha, (hS b hB).1, (hS b hB).2, hns _ (List.getElem_mem hin), hcell i hin⟩
 have HKid : Hid (∀ i, i < len -> ∃ (b off : Nat) (k : K m) (v0 : Int) (va : Option Addr) (vl vc : Nat) (ya : Option Addr) (yl yc : Nat), ka = some ⟨b, off, none⟩ /\ b < w.heap.size /\ b ≠ R /\ k ∈ ki /\ KindIn S w m k (.int .i64 v0) (.slice va vl vc) (.slice ya yl yc) /\ w.cell? ⟨b, off + i * 3, none⟩ = some (.int .i64 v0) /\ w.cell? ⟨b, off + i * 3 + 1, none⟩ = some (.slice va vl vc) /\ w.cell? ⟨b, off + i * 3 + 2, none⟩ = some (.slice ya yl yc)) := fun i hi => by
  obtain ⟨ao', cap', hv, -, hc⟩ := hki
  obtain ⟨b, off, ha, hB, hcell⟩ := hc (fun e => by rw [e] at hl2; simp at hl2; omega)
  have hin : i < ki.length := by omega
  cases hv
  obtain ⟨c0, c1, c2, h0, h1, h2, hk⟩ := hcell i hin
  obtain ⟨v0, va, vl, vc, ya, yl, yc, rfl, rfl, rfl⟩ := hk.shape
  exact ⟨b, off, ki[i], v0, va, vl, vc, ya, yl, yc, ha, (hS b hB).1, (hS b hB).2, List.getElem_mem hin, hk, h0, h1, h2⟩
 clear h hn hdk hS hnm hki hns hl1 hl2
 generalize hqe : pt d = qd at *
 go_enter Tryz.func43, Tryz.ntmps43
 go_wp2_with fail
 rw [<- hW1, <- hW2]
 clear hW1 hW2
 generalize hXe : w.heap.size + 2 = X at *
 go_loopw [7] (fun iv wr => ∃ (i p' : Nat) (ns : List ByteArray) (ks : List (T m)) (na : Option Addr) (nc : Nat) (ka : Option Addr) (kc : Nat), i <= len /\ iv = .int .i64 i /\ ns.length = i /\ ks.length = i /\ Many R X m W1 wr 5 ns ks (.slice na i nc) (.slice ka i kc) /\ Dr wr R ao L cap p' /\ p' <= p + i * qd /\ ∀ k, k ∈ ks -> depT m k d) (fun iv _ => len - (intOf iv).toNat)
 case atStart => exact ⟨0, p, [], [], none, 0, none, 0, by omega, rfl, rfl, rfl, by rw [<- hXe]; exact HS.out.many, HS.out.dr, by omega, fun k hk => by cases hk⟩
 case round =>
  obtain ⟨i, p', ns, ks, na, nc', ka', kc', hile, rfl, hnl, hkl, hM, hD, hp', hdep⟩ := hrel
  have hzr := hM.near.size
  have hXr := hM.lt
  have hmul : i * qd <= 39 * qd := Nat.mul_le_mul_right _ (by omega)
  have HM := hidF hM
  have HDr : Hid (Dr wr R ao L cap p') := hD
  have HDep : Hid ((ns.length = i /\ ks.length = i) /\ ∀ k, k ∈ ks -> depT m k d) := ⟨⟨hnl, hkl⟩, hdep⟩
  have kb := (hM.near.block w.heap.size (by omega) (by omega)).trans HS.out.kbox
  have k1 : wr.cell? ⟨w.heap.size, 1, none⟩ = some (.slice nb len nc) := by simp [World.cell?, kb]
  by_cases hi0 : i = len
  ·subst hi0
   obtain ⟨⟨x0, x1, x2, x3, x4⟩, y0, y1, y2, y3, y4⟩ := treeX_cells hM
   obtain ⟨⟨z0, z1, z2, z3, z4⟩, u0, u1, u2, u3, u4⟩ := zeroDT_cells ((hM.near.block (w.heap.size + 1) (by omega) (by omega)).trans HS.out.zero)
   have HP : Hid (DTPost (m + 1) (d + 1) w R ao L cap p (4 + 40 * qd) (.returned (.agg #[.int .i64 5, .int .i64 0, .string ByteArray.empty, .slice na i nc', .slice ka' i kc'])) (put5 wr (w.heap.size + 1) 0 (.int .i64 5) (.int .i64 0) (.string ByteArray.empty) (.slice na i nc') (.slice ka' i kc'))) :=
    dt_many HS.out (by rw [hXe]; exact HM.out) hD.box (by omega) (by rfl) (by rw [HDep.out.1.1]; omega) (by rw [HDep.out.1.2]; omega) HDep.out.2
   clear hM hD hdep hkl hnl HM HDr HDep HS HN HNam HKid kb
   go_wp2_with fail
   refine bodyPost_ret (v := .agg #[.int .i64 5, .int .i64 0, .string ByteArray.empty, .slice na i nc', .slice ka' i kc']) (by simp [results, Tryz.results43, go_sem, z0, z1, z2, z3, z4]) rfl ?_
   exact HP.out
  ·have hlt : i < len := by omega
   have hlti : (i : Int) < (len : Int) := by omega
   have hnw : Near R w wr := HS.out.near.trans hM.near
   obtain ⟨bn, on, nm, hbn, hbn1, hbn2, hnm, hcn⟩ := HNam.out i hlt
   subst hbn
   have f0 := hnw.cell hcn hbn2
   have hmul2 : (i + 1) * qd = i * qd + qd := Nat.succ_mul _ _
   have x3 : wr.cell? ⟨X, 3, none⟩ = some (.slice na i nc') := (treeX_cells hM).1.2.2.2.1
   have HO : Hid (wr.ownsRow (X + 1) 9 1 (.slice na i nc') i (ns.map .string)) := by
    have := hM.names
    rw [hnl] at this; exact this
   have hoxN : ∀ o, (wr.drew.alloc o).ownsRow (X + 1) 9 1 (.slice na i nc') i (ns.map .string) := fun o => HO.out.drew.alloc o
   obtain ⟨is0, hi0', hy0, hy1, hyb⟩ := info_parts Tryz.info_strD
   have HIS : Hid (_ /\ _ /\ _ /\ _) := ⟨hi0', hy0, hy1, hyb⟩
   clear hi0' hy0 hy1 hyb hcn hM hD hdep hnl hkl kb hnw hi0 HNam
   go_upto_region 21 with fail
   go_cut [7] from 62 to 90 (fun iv wx => iv = .int .i64 i /\ ∃ g cap', Many R X m W1 wx 5 (ns ++ [nm]) ks (.slice (some ⟨g, 0, none⟩) (i + 1) cap') (.slice ka' i kc') /\ Dr wx R ao L cap p')
   case first =>
    go_region_law (first
     | (refine step_append_lies _ (by rfl) (.tmp 70) (.tmp 76) 24 (by rfl) (X + 1) 9 is0 _ 1 16 Tryz.underlying24 HIS.out.1 HIS.out.2.1 HIS.out.2.2.1 HIS.out.2.2.2 rfl (by decide) (.slice na i nc') i (ns.map .string) (by rfl) (hoxN _) ⟨wr.heap.size, 0, none⟩ 1 1 [.string nm] (by rfl) rfl (World.news_of_block (heap_alloc_new wr.drew _)) (by simp [Value.oneCell']) (by decide) (by unfold maxLen; omega) (by omega) (by simp; omega) (wr.heap.size + 1) (by simp) ?_; intro g cap' w5 hown hgrow hat hlt5; have hb5 := (box_after (W := wr.drew) HO.out hXr (by omega) (Near.refl R wr.drew) hgrow).trans HM.out.box; have x3'' : w5.cell? ⟨X, 3, none⟩ = some (.slice na i nc') := (by simp [World.cell?, hb5]); have xf'' : w5.frozen? ⟨X, 3, none⟩ = false := (by simp [World.frozen?, hb5])))
    all_goals
     have hM2 := Many.name (W := wr.drew) (Wa := wr.drew.alloc (.cells #[.string nm] 9)) (one := .cells #[.string nm] 9) (x := nm) (g := g) (cap := cap') (HM.out.keep (by omega) ((Near.refl R wr).drewN 1)) (by omega) rfl ⟨rfl, rfl, rfl⟩ hnm (by rw [HDep.out.1.1]; exact hown) hgrow hat
     rw [HDep.out.1.1] at hM2
     have HM2 := hidF hM2
     have HDn : Hid (Dr (w5.setCell ⟨X, 3, none⟩ (.slice (some ⟨g, 0, none⟩) (i + 1) cap')) R ao L cap p') :=
      HS.out.dr0.keep (HS.out.near.trans hM2.near) (box_afterD (W := wr.drew) (w2 := wr.drew) (o := .cells #[.string nm] 9) HO.out (by omega) (by show R < wr.heap.size; omega) hgrow _ 3 HDr.out.box)
     clear hM2 hown hgrow hat hlt5 hb5 x3'' xf'' x3 f0
     go_wp2_with fail
     go_meet
     exact ⟨rfl, _, _, HM2.out, HDn.out⟩
   case rest =>
    obtain ⟨rfl, g', cap', hM2, hDc⟩ := hcut
    have hXc := hM2.lt
    have hzc := hM2.near.size
    have hnc : Near R w wc := HS.out.near.trans hM2.near
    have x4 : wc.cell? ⟨X, 4, none⟩ = some (.slice ka' i kc') := (treeX_cells hM2).1.2.2.2.2
    have kb := (hM2.near.block w.heap.size (by omega) (by omega)).trans HS.out.kbox
    obtain ⟨bk, ok, k, v0, va, vl, vc, ya, yl, yc, hbk, hbk1, hbk2, hkm, hkk0, hc0, hc1, hc2⟩ := HKid.out i hlt
    subst hbk
    have k2 : wc.cell? ⟨w.heap.size, 2, none⟩ = some (.slice (some ⟨bk, ok, none⟩) len kc) := by simp [World.cell?, kb]
    have e0 := hnc.cell hc0 hbk2
    have e1 := hnc.cell hc1 hbk2
    have e2 := hnc.cell hc2 hbk2
    have HK : Hid (Calls Tryz.prog 43 #[.pointer (some ⟨R, 0, none⟩), .agg #[.int .i64 v0, .slice va vl vc, .slice ya yl yc]] wc.drew (DTPost m d wc.drew R ao L cap p' (pt d))) :=
     HN.out.1 m R ao L cap p' k S g _ _ _ wc.drew (HN.out.2 k hkm).1 (HN.out.2 k hkm).2.1 (HN.out.2 k hkm).2.2 (KindIn.keep (w := w) (w' := wc.drew) (fun b hb => hnc.block b (HSS.out b hb).1 (HSS.out b hb).2) (fun _ h => h) hkk0) (fun b hb => ⟨by have := (HSS.out b hb).1; have := hnc.size; show b < wc.heap.size; omega, (HSS.out b hb).2⟩) (hDc.drewN 1) (by rw [hqe]; omega)
    rw [hqe] at HK
    obtain ⟨xs, hxs, hkk⟩ := hM2.kids
    have HKK := hidF hkk
    have HX : Hid (wc.ownsRow (X + 1) 27 5 (.slice ka' i kc') i xs) := by
     rw [HDep.out.1.2] at hxs; exact hxs
    have HM2 := hidF hM2
    obtain ⟨ik0, hi0', hy0, hy1, hyb⟩ := info_parts Tryz.info_treeR
    have HIK : Hid (_ /\ _ /\ _ /\ _) := ⟨hi0', hy0, hy1, hyb⟩
    clear hi0' hy0 hy1 hyb hxs hkk hM2 hDc x3 f0 HO HM HDr hoxN HKid kb hnc hkk0 hc0 hc1 hc2 k1
    go_wp2_with fail
    go_region_law (first
     | (refine step_append_lies _ (by rfl) (.tmp 80) (.tmp 88) 25 (by rfl) (X + 1) 27 ik0 _ 5 80 Tryz.underlying25 HIK.out.1 HIK.out.2.1 HIK.out.2.2.1 HIK.out.2.2.2 rfl (by decide) (.slice ka' i kc') i xs (by rfl) (hox2 _) ⟨v2.heap.size, 0, none⟩ 1 1 [.int .i64 t0, .int .i64 t1, .string t2, .slice ta tl tc, .slice ua ul uc] (by rfl) rfl (World.news_of_block (heap_alloc_new v2 _)) (by simp [Value.oneCell']) (by decide) (by unfold maxLen; omega) (by omega) (by simp; omega) (v2.heap.size + 1) (by simp) ?_; intro g2 cap2 v3 hown2 hgrow2 hat2 hlt2; have hb6 := (box_after (W := wc.drew) HX.out hXc (by omega) hn5 hgrow2).trans HM2.out.box; have x4'' : v3.cell? ⟨X, 4, none⟩ = some (.slice ka' i kc') := (by simp [World.cell?, hb6]); have xg'' : v3.frozen? ⟨X, 4, none⟩ = false := (by simp [World.frozen?, hb6]))
     | (go_simp; go_at_call 43; refine HK.out.mono ?_; rintro e v2 ⟨hn5, p5, t5, f0, f1, f2, f3, f4, hp5, hD5, rfl, ht5, hdt5⟩; obtain ⟨t0, t1, t2, ta, tl, tc, ua, ul, uc, rfl, rfl, rfl, rfl, rfl⟩ := ht5.shape; have hsz2 : wc.heap.size <= v2.heap.size := hn5.size; have hox2 := fun o => owns_on (R := R) (X := X) (W := wc.drew) HX.out (by omega) hn5 o; have x4' : v2.cell? ⟨X, 4, none⟩ = some (.slice ka' i kc') := (World.cell?_of_block (hn5.block X (by simpa using hXc) (by omega))).trans x4; have x4a : (v2.alloc (.cells #[.int .i64 t0, .int .i64 t1, .string t2, .slice ta tl tc, .slice ua ul uc] 27)).cell? ⟨X, 4, none⟩ = some (.slice ka' i kc') := (World.cell?_of_block (Below.heap_alloc _ _ _ (by show X < _; omega))).trans x4'))
    all_goals
     have hF := Many.kidD (g := g2) (cap := cap2) (xs := xs) 1 HM2.out (by omega) (by omega) hn5 ht5 (by rw [HDep.out.1.2]; exact HX.out) HKK.out (by rw [HDep.out.1.2]; exact hown2) hgrow2 hat2
     rw [HDep.out.1.2] at hF
     have HF := hidF hF
     have HDn : Hid (Dr (v3.setCell ⟨X, 4, none⟩ (.slice (some ⟨g2, 0, none⟩) (i + 1) cap2)) R ao L cap p5) :=
      HS.out.dr0.keep (HS.out.near.trans hF.near) (box_afterD (W := wc.drew) HX.out (by omega) (by omega) hgrow2 _ 4 hD5.box)
     have HDep5 : Hid (∀ k, k ∈ ks ++ [t5] -> depT m k d) := fun k hk => by
      rcases List.mem_append.1 hk with h | h
      ·exact HDep.out.2 k h
      ·rw [List.mem_singleton] at h; subst h; exact hdt5
     clear hF hown2 hgrow2 hat2 hlt2 ht5 hdt5 hD5 hn5 hox2 x4' x4a x4'' xg'' hb6
     go_wp2_with fail
     go_roundw
     case rel => exact ⟨i + 1, p5, ns ++ [nm], ks ++ [t5], some ⟨g', 0, none⟩, cap', some ⟨g2, 0, none⟩, cap2, by omega, by go_num, by simp [HDep.out.1.1], by simp [HDep.out.1.2], HF.out, HDn.out, by omega, HDep5.out⟩
     case measure => simp [intOf]; omega
end Go.Proofs.YtmjhcgjhlakceaaGreatDoor

namespace Go.Proofs.YtmjhcgjhlakceaaGreatDoor
open Go.RowKit
theorem l5Tree_step (d : Nat) (hn : DrawTSaid d) : DrawTSaid (d + 1) := by
 intro m R ao L cap p k S g c0 c1 c2 w hdk hg hcn hk hS h hp
 cases m with
 | zero => exact hk.elim
 | succ m =>
  have hpt : pt (d + 1) = 4 + 40 * pt d := rfl
  rw [hpt] at hp ⊢
  obtain ⟨h39, hfew⟩ := kids_few hg hcn
  have hdd := hdk.2.2.2.2
  have hsh := hdk.2.2.1
  obtain ⟨rfl, hwf, hstr, hrow⟩ := hk
  rcases goodK_cases hg with ⟨rfl, -⟩ | ⟨rfl, -⟩ | ⟨rfl, -⟩ | ⟨x, rfl, hx, -⟩ | ⟨x, rfl, hx, -⟩ | ⟨na, ki, rfl, hl, hnm, hkk, -⟩
  ·obtain ⟨a, c, rfl, -⟩ := hstr
   obtain ⟨a', c', rfl, -⟩ := hrow
   exact l5Tree_num m d R ao L cap p w h a a' c c' hp
  ·obtain ⟨a, c, rfl, -⟩ := hstr
   obtain ⟨a', c', rfl, -⟩ := hrow
   exact l5Tree_text m d R ao L cap p w h a a' c c' hp
  ·obtain ⟨a, c, rfl, -⟩ := hstr
   obtain ⟨a', c', rfl, -⟩ := hrow
   exact l5Tree_flag m d R ao L cap p w h a a' c c' hp
  ·obtain ⟨a, c, rfl, -⟩ := hstr
   obtain ⟨a', c', rfl, -, hc⟩ := hrow
   obtain ⟨b, off, rfl, hB, hcell⟩ := hc (by simp)
   obtain ⟨q0, q1, q2, h0, h1, h2, hkx⟩ := hcell 0 (by simp)
   exact l5Tree_list m d R hn ao L cap p x S (g + 1) w h a c c' b off q0 q1 q2 (by simpa using hdd x (by simp)) hx (hfew x (by simp)).2 hS hB (by simpa using h0) (by simpa using h1) (by simpa using h2) hkx hp
  ·obtain ⟨a, c, rfl, -⟩ := hstr
   obtain ⟨a', c', rfl, -, hc⟩ := hrow
   obtain ⟨b, off, rfl, hB, hcell⟩ := hc (by simp)
   obtain ⟨q0, q1, q2, h0, h1, h2, hkx⟩ := hcell 0 (by simp)
   exact l5Tree_maybe m d R hn ao L cap p x S (g + 1) w h a c c' b off q0 q1 q2 (by simpa using hdd x (by simp)) hx (hfew x (by simp)).2 hS hB (by simpa using h0) (by simpa using h1) (by simpa using h2) hkx hp
  ·have hstr' := hstr
   have hrow' := hrow
   obtain ⟨a, c, rfl, -⟩ := hstr'
   obtain ⟨a', c', rfl, -⟩ := hrow'
   have e1 : na.length = ki.length := hl
   rw [show (Kd.names (⟨5, na, ki⟩ : Kd (K m))).length = ki.length from e1] at hstr ⊢
   exact l5Tree_form m d R hn ao L cap p na ki ki.length S (g + 1) w h a' a c c' e1 rfl h39 (fun k hk => ⟨by simpa using hdd k hk, hfew k hk⟩) hsh hS hstr hrow hp
theorem l5Tree_any : ∀ d, DrawTSaid d := by
 intro d
 induction d with
 | zero =>
  intro m R ao L cap p k S g c0 c1 c2 w hdk
  cases m with
  | zero => exact hdk.elim
  | succ m => exact absurd hdk.1 (by omega)
 | succ d ih => exact l5Tree_step d ih
end Go.Proofs.YtmjhcgjhlakceaaGreatDoor
