/-
  Several texts in one, in their order.
-/
import Derived.Test.YtmjhcgjhlakceaaGreatDoorB14
import Derived.Deep.RegionLaw
import Derived.Test.YtmjhcgjhlakceaaGreatDoorB1

namespace Go.Proofs.YtmjhcgjhlakceaaGreatDoor
open Go.RowKit
def ReadPost (m n : Nat) (w : World) (R : Nat) (s : ByteArray) (i : Nat) (bad : Bool) (e : Ending) (w' : World) : Prop :=
 Near R w w' /\ ∃ (t : T m) (c0 c1 c2 c3 c4 : Value) (i' : Nat) (bad' : Bool), e = .returned (.agg #[c0, c1, c2, c3, c4]) /\ TreeIn (fun b => w.heap.size <= b /\ b < w'.heap.size) w' m t c0 c1 c2 c3 c4 /\ RdS w' R s i' bad' /\
  i <= i' /\ (bad' = false -> bad = false /\ i < i' /\ i' <= s.size) /\ (bad = false -> i' <= s.size + n) /\ (bad = true -> i' = i) /\
  (∀ (t0 : T m) post, bad = false -> s.data.toList.drop i = txtL m t0 ++ post -> goodT m t0 (7 - (n : Int)) = true -> noDig post = true -> t = t0 /\ bad' = false /\ i' = i + (txtL m t0).length)
def ReadSaid (n : Nat) : Prop := ∀ (m R : Nat) (s : ByteArray) (i : Nat) (bad : Bool) (w : World), n + 1 <= m -> RdS w R s i bad -> s.size <= 10000 -> (bad = false -> i <= s.size) -> i <= 20000 ->
 Calls Tryz.prog 36 #[.pointer (some ⟨R, 0, none⟩), .int .i64 (7 - (n : Int))] w (ReadPost m n w R s i bad)
def leftOf (w : World) (R : Nat) (H : Nat) : Nat := match w.cell? ⟨R, 2, none⟩ with | some (.bool true) => 0 | _ => H + 1 - atOf w R
theorem RdS.left {w : World} {R : Nat} {s : ByteArray} {i : Nat} {b : Bool} (h : RdS w R s i b) (H : Nat) : leftOf w R H = if b = true then 0 else H + 1 - i := by
 unfold leftOf
 rw [h.cell2, h.atOf]
 cases b <;> simp
def ListInv (m n : Nat) (s : ByteArray) (i : Nat) (ks : List (T m)) (i' : Nat) (bad' : Bool) : Prop :=
 i < i' /\ (bad' = false -> i' <= s.size) /\ i' <= s.size + n /\ ks.length <= i' + (if bad' = true then 1 else 0) /\
  ∀ (ks0 : List (T m)) post, s.data.toList.drop (i + 1) = joinL (ks0.map (txtL m)) ++ 93 :: post -> (∀ k, k ∈ ks0 -> goodT m k (7 - (n : Int)) = true) ->
   ∃ k, k <= ks0.length /\ ks = ks0.take k /\ bad' = false /\ s.data.toList.drop i' = tailL (decide (k = 0)) ((ks0.drop k).map (txtL m)) ++ 93 :: post
theorem Tryz.info_treeR : (Tryz.prog.info? 27).map (fun i => (i.zero, i.size, i.bytes)) = some (some (.agg #[.int .i64 0, .int .i64 0, .string ⟨#[]⟩, .slice none 0 0, .slice none 0 0]), 5, 80) := by kernel_rfl
theorem owns_on {R X k z : Nat} {e : TypeId} {v : Value} {xs : List Value} {W w2 : World} (h : W.ownsRow (X + 1) e z v k xs) (hRX : R < X) (hn : Near R W w2) (o : Obj) : (w2.alloc o).ownsRow (X + 1) e z v k xs :=
 owns_keep h fun g hg => by
  have h1 := owns_lt h g hg
  have h2 := hn.size
  rw [Below.heap_alloc _ _ _ (by omega)]
  exact hn.block g h1.2 (by omega)
theorem rd_after {R X k z : Nat} {e : TypeId} {v u : Value} {xs : List Value} {W w2 w3 : World} {o : Obj} {s : ByteArray} {j : Int} {b : Bool} {q : Nat} (hr : RdS w2 R s j b) (h : W.ownsRow (X + 1) e z v k xs) (hRX : R < X) (hg : (w2.alloc o).grownBy w3 v.ownBlock) :
  RdS (w3.setCell ⟨X, q, none⟩ u) R s j b := by
 have hl := hr.lt
 unfold RdS at hr ⊢
 rw [Below.heap_setCell _ _ _ _ (by show R ≠ X; omega), hg.block R (by simp; omega) (fun e => by have := owns_lt h R e.symm; omega), Below.heap_alloc _ _ _ hl]
 exact hr
theorem box_after {R X k z : Nat} {e : TypeId} {v : Value} {xs : List Value} {W w2 w3 : World} {o : Obj} (h : W.ownsRow (X + 1) e z v k xs) (hX : X < W.heap.size) (hRX : R < X) (hn : Near R W w2) (hg : (w2.alloc o).grownBy w3 v.ownBlock) : w3.heap[X]? = W.heap[X]? := by
 have hl := hn.size
 rw [hg.block X (by simp; omega) (fun e => by have := owns_lt h X e.symm; omega), Below.heap_alloc _ _ _ (by omega)]
 exact hn.block X hX (by omega)
theorem Many.kidD {R X n : Nat} {w wr W1 W2 : World} {so : Int} {ns : List ByteArray} {ks : List (T n)} {nv kv : Value} {t : T n} {c0 c1 c2 c3 c4 : Value} {one : Obj} {g cap : Nat} (m : Nat) (h0 : Many R X n w wr so ns ks nv kv) (hRX : R < X) (hw : w.heap.size <= X)
  (hn : Near R (wr.drewN m) W1) (ht : TreeIn (fun b => (wr.drewN m).heap.size <= b /\ b < W1.heap.size) W1 n t c0 c1 c2 c3 c4) {xs : List Value}
  (hxs : wr.ownsRow (X + 1) 27 5 kv ks.length xs) (hk : ∀ j (h : j < ks.length), ∃ c0 c1 c2 c3 c4, (xs[j * 5]? = some c0 /\ xs[j * 5 + 1]? = some c1 /\ xs[j * 5 + 2]? = some c2 /\ xs[j * 5 + 3]? = some c3 /\ xs[j * 5 + 4]? = some c4) /\ TreeIn (Far (X + 1) nv kv wr.heap.size) wr n ks[j] c0 c1 c2 c3 c4)
  (hown : W2.ownsRow (X + 1) 27 5 (.slice (some ⟨g, 0, none⟩) (ks.length + 1) cap) (ks.length + 1) (xs ++ [c0, c1, c2, c3, c4])) (hgrow : (W1.alloc one).grownBy W2 kv.ownBlock) (hat : kv.ownBlock = some g ∨ g = W1.heap.size + 1) :
  Many R X n w (W2.setCell ⟨X, 4, none⟩ (.slice (some ⟨g, 0, none⟩) (ks.length + 1) cap)) so ns (ks ++ [t]) nv (.slice (some ⟨g, 0, none⟩) (ks.length + 1) cap) :=
 Many.kid (W := wr.drewN m) (Wa := W1.alloc one) (one := one) (h0.keep hRX ((Near.refl R wr).drewN m)) hRX hw hn ht rfl ⟨rfl, rfl, rfl⟩ hxs
  (fun j hj => by obtain ⟨d0, d1, d2, d3, d4, hd, hdt⟩ := hk j hj; exact ⟨d0, d1, d2, d3, d4, hd, TreeIn.keep (S := Far (X + 1) nv kv wr.heap.size) (w := wr) (w' := wr.drewN m) (fun _ _ => rfl) (fun _ h => h) hdt⟩) hown hgrow hat
theorem kids_move {R X n k : Nat} {wr w1 : World} {ks : List (T n)} {nv kv : Value} {xs : List Value} (hxs : wr.ownsRow (X + 1) 27 5 kv k xs)
  (hk : ∀ j (h : j < ks.length), ∃ c0 c1 c2 c3 c4, (xs[j * 5]? = some c0 /\ xs[j * 5 + 1]? = some c1 /\ xs[j * 5 + 2]? = some c2 /\ xs[j * 5 + 3]? = some c3 /\ xs[j * 5 + 4]? = some c4) /\ TreeIn (Far (X + 1) nv kv wr.heap.size) wr n ks[j] c0 c1 c2 c3 c4)
  (hRX : R < X) (hn : Near R wr w1) : w1.ownsRow (X + 1) 27 5 kv k xs /\
   ∀ j (h : j < ks.length), ∃ c0 c1 c2 c3 c4, (xs[j * 5]? = some c0 /\ xs[j * 5 + 1]? = some c1 /\ xs[j * 5 + 2]? = some c2 /\ xs[j * 5 + 3]? = some c3 /\ xs[j * 5 + 4]? = some c4) /\ TreeIn (Far (X + 1) nv kv w1.heap.size) w1 n ks[j] c0 c1 c2 c3 c4 := by
 refine ⟨owns_keep hxs fun g hg => ?_, fun j hj => ?_⟩
 ·have h1 := owns_lt hxs g hg
  exact hn.block g h1.2 (by omega)
 ·obtain ⟨d0, d1, d2, d3, d4, hd, hdt⟩ := hk j hj
  refine ⟨d0, d1, d2, d3, d4, hd, hdt.keep (fun b hb => hn.block b hb.2.1 (by have := hb.1; omega)) (fun b hb => ⟨hb.1, Nat.lt_of_lt_of_le hb.2.1 hn.size, hb.2.2⟩)⟩
def Comma (s : ByteArray) (L i' i1 : Nat) (bad1 : Bool) : Prop :=
 (L = 0 /\ i1 = i' /\ bad1 = false) ∨ (¬ L = 0 /\ ((eatP [44] (s.data.toList.drop i') = some (s.data.toList.drop (i' + 1)) /\ i' + 1 <= s.size /\ i1 = i' + 1 /\ bad1 = false) ∨ (eatP [44] (s.data.toList.drop i') = none /\ i1 = i' /\ bad1 = true)))
theorem list_step {m n : Nat} {s : ByteArray} {i : Nat} {ks : List (T m)} {i' i1 i2 : Nat} {bad1 bad2 : Bool} {t2 : T m} (hI : ListInv m n s i ks i' false) (hne : ¬ lookB s i' = 93) (hc : Comma s ks.length i' i1 bad1)
  (hp : i1 <= i2 /\ (bad2 = false -> bad1 = false /\ i1 < i2 /\ i2 <= s.size) /\ (bad1 = false -> i2 <= s.size + n) /\ (bad1 = true -> i2 = i1) /\
   (∀ (t0 : T m) post, bad1 = false -> s.data.toList.drop i1 = txtL m t0 ++ post -> goodT m t0 (7 - (n : Int)) = true -> noDig post = true -> t2 = t0 /\ bad2 = false /\ i2 = i1 + (txtL m t0).length)) :
  ListInv m n s i (ks ++ [t2]) i2 bad2 /\ (if bad2 = true then 0 else s.size + 1 - i2) < s.size + 1 - i' := by
 obtain ⟨h1, h2, h3, h4, h5⟩ := hI
 obtain ⟨p1, p2, p3, p4, p5⟩ := hp
 have h2 := h2 rfl
 have h4 : ks.length <= i' := by simpa using h4
 have hi1 : i' <= i1 := by
  rcases hc with ⟨-, h, -⟩ | ⟨-, ⟨-, -, h, -⟩ | ⟨-, h, -⟩⟩ <;> omega
 refine ⟨⟨by omega, fun h => (p2 h).2.2, ?_, ?_, fun ks0 post he hg => ?_⟩, ?_⟩
 ·cases bad1 with
  | false => exact p3 rfl
  | true =>
   have := p4 rfl
   rcases hc with ⟨-, -, h⟩ | ⟨-, ⟨-, -, -, h⟩ | ⟨-, h, -⟩⟩
   ·cases h
   ·cases h
   ·omega
 ·rw [List.length_append, List.length_singleton]
  cases bad2 with
  | false => have := (p2 rfl).2.1; simp; omega
  | true => simp; omega
 ·obtain ⟨k, hk, hks, -, hd⟩ := h5 ks0 post he hg
  have hkl : ks.length = k := by rw [hks, List.length_take]; omega
  have hlt : k < ks0.length := by
   refine Classical.byContradiction fun hge => hne ?_
   have : ks0.drop k = [] := List.drop_of_length_le (by omega)
   rw [this] at hd
   unfold lookB
   rw [hd]; rfl
  have hdr : ks0.drop k = ks0[k] :: ks0.drop (k + 1) := List.drop_eq_getElem_cons hlt
  rw [hdr, List.map_cons, tailL, List.append_assoc] at hd
  have hrest : bad1 = false /\ s.data.toList.drop i1 = txtL m ks0[k] ++ (tailL false ((ks0.drop (k + 1)).map (txtL m)) ++ 93 :: post) := by
   by_cases hk0 : k = 0
   ·simp only [hk0, decide_true, if_true] at hd
    rcases hc with ⟨-, h, hb⟩ | ⟨h, -⟩
    ·refine ⟨hb, ?_⟩
     rw [h, hd]
     simp only [hk0]
    ·exact absurd (by omega) h
   ·simp only [hk0, decide_false, Bool.false_eq_true, if_false, List.cons_append] at hd
    rcases hc with ⟨h, -⟩ | ⟨-, ⟨he1, -, h, hb⟩ | ⟨he1, -⟩⟩
    ·exact absurd (by omega) hk0
    ·refine ⟨hb, ?_⟩
     rw [hd, eatP_one_cons] at he1
     rw [h]
     exact (Option.some.inj he1).symm
    ·rw [hd, eatP_one_cons] at he1; cases he1
  have hnd : noDig (tailL false ((ks0.drop (k + 1)).map (txtL m)) ++ 93 :: post) = true := by
   cases ks0.drop (k + 1) with
   | nil => rfl
   | cons y r => rw [List.map_cons, tailL_cons_false]; rfl
  obtain ⟨q1, q2, q3⟩ := p5 ks0[k] _ hrest.1 hrest.2 (hg _ (List.getElem_mem hlt)) hnd
  refine ⟨k + 1, by omega, ?_, q2, ?_⟩
  ·rw [List.take_succ_eq_append_getElem hlt, <- hks, q1]
  ·rw [q3, <- List.drop_drop, hrest.2, List.drop_left]
   simp
 ·cases bad2 with
  | true => simp; omega
  | false => have := (p2 rfl).2; simp; omega
def ListPost (m n : Nat) (w : World) (R : Nat) (s : ByteArray) (i : Nat) (e : Ending) (w' : World) : Prop :=
 Near R w w' /\ ∃ (ks : List (T m)) (nv kv : Value) (i' : Nat) (bad' : Bool), e = .returned (.agg #[.int .i64 4, .int .i64 0, .string ByteArray.empty, nv, kv]) /\
  TreeIn (fun b => w.heap.size <= b /\ b < w'.heap.size) w' (m + 1) (⟨4, 0, ByteArray.empty, [], ks⟩ : Nd (T m)) (.int .i64 4) (.int .i64 0) (.string ByteArray.empty) nv kv /\ RdS w' R s i' bad' /\
  i < i' /\ (bad' = false -> i' <= s.size) /\ i' <= s.size + n + 1 /\
  (∀ (ks0 : List (T m)) post, s.data.toList.drop (i + 1) = joinL (ks0.map (txtL m)) ++ 93 :: post -> (∀ k, k ∈ ks0 -> goodT m k (7 - (n : Int)) = true) ->
   ks = ks0 /\ bad' = false /\ i' = i + (joinL (ks0.map (txtL m))).length + 2)
theorem list_out {m n : Nat} {w Wb wr : World} {R : Nat} {s : ByteArray} {i i' : Nat} {bad' : Bool} {ks : List (T m)} {nv kv : Value} (h : Many R (w.heap.size + 1) m Wb wr 4 [] ks nv kv) (hR : R < w.heap.size) (hwb : Near R w Wb)
  (hbs : Wb.heap.size = w.heap.size + 1) (hr : RdS wr R s i' bad') (hI : ListInv m n s i ks i' bad') (hs : s.size <= 10000) (hn6 : n <= 5) (hend : bad' = false -> lookB s i' = 93) :
  ListPost m n w R s i (.returned (.agg #[.int .i64 4, .int .i64 0, .string ByteArray.empty, nv, kv])) (put5 (wr.setCell ⟨R, 1, none⟩ (.int .i64 ((i' : Int) + 1))) w.heap.size 0 (.int .i64 4) (.int .i64 0) (.string ByteArray.empty) nv kv) := by
 obtain ⟨h1, h2, h3, h4, h5⟩ := hI
 have hl : ks.length <= 20000 := by cases bad' <;> simp at h4 <;> omega
 obtain ⟨q1, q2, q3⟩ := many_out h hR hwb hbs hr (by rfl) (Nat.zero_le _) hl
 refine ⟨q1, ks, nv, kv, i' + 1, bad', rfl, q3, q2, by omega, fun hb => ?_, by omega, fun ks0 post he hg => ?_⟩
 ·have := h2 hb
  have h93 := hend hb
  refine Classical.byContradiction fun hge => ?_
  rw [lookB_out s i' (by omega)] at h93
  exact absurd h93 (by decide)
 ·obtain ⟨k, hk, hks, hb, hd⟩ := h5 ks0 post he hg
  have h93 := hend hb
  have hkl : k = ks0.length := by
   refine Classical.byContradiction fun hne => ?_
   have hlt : k < ks0.length := by omega
   unfold lookB at h93
   rw [hd, List.drop_eq_getElem_cons hlt, List.map_cons, tailL] at h93
   obtain ⟨c, r, e, hbeg⟩ := good_head m ks0[k] (7 - (n : Int)) (hg _ (List.getElem_mem hlt))
   by_cases hk0 : k = 0
   ·simp only [hk0, decide_true, if_true] at h93
    simp only [hk0] at e
    rw [e] at h93
    simp only [List.cons_append, List.headD_cons] at h93
    exact (beg_ne hbeg).1 h93
   ·simp only [hk0, decide_false, Bool.false_eq_true, if_false, List.cons_append, List.headD_cons] at h93
    exact absurd h93 (by decide)
  refine ⟨by rw [hks, hkl, List.take_length], hb, ?_⟩
  have hle := h2 hb
  have e1 := congrArg List.length hd
  have e2 := congrArg List.length he
  rw [hkl, List.drop_length] at e1
  simp [tailL] at e1 e2
  have hlt : i' < s.size := by
   refine Classical.byContradiction fun hge => ?_
   rw [lookB_out s i' (by omega)] at h93
   exact absurd h93 (by decide)
  omega
set_option maxRecDepth 20000 in
set_option maxHeartbeats 2000000 in
theorem many_list (n : Nat) (hn : ReadSaid n) (hn6 : n <= 5) (m R : Nat) (hm : n + 1 <= m) (s : ByteArray) (i : Nat) (w : World) (h : RdS w R s i false) (hs : s.size <= 10000) (hi : i < s.size) :
  Calls Tryz.prog 67 #[.pointer (some ⟨R, 0, none⟩), .int .i64 4, .int .u8 93, .int .i64 (6 - n)] w (ListPost m n w R s i) := by
 have c0 := h.cell0
 have c1 := h.cell1
 have c2 := h.cell2
 have f1 := h.free 1
 have hR := h.lt
 have hw1 : IntKind.i64.wrap ((i : Int) + 1) = (i : Int) + 1 := by rw [IntKind.wrap_i64]; omega
 have hwb : Near R w ((w.setCell ⟨R, 1, none⟩ (.int .i64 ((i : Int) + 1))).alloc (.cells #[.int .i64 0, .int .i64 0, .string ⟨#[]⟩, .slice none 0 0, .slice none 0 0] 27)) := (Near.set R 1 w _).trans (Near.alloc _ _ _)
 have hrb : RdS ((w.setCell ⟨R, 1, none⟩ (.int .i64 ((i : Int) + 1))).alloc (.cells #[.int .i64 0, .int .i64 0, .string ⟨#[]⟩, .slice none 0 0, .slice none 0 0] 27)) R s ((i + 1 : Nat) : Int) false :=
  (Below.heap_alloc _ _ _ (by simpa using hR)).trans (h.set1 ((i : Int) + 1))
 have hblk : ((w.setCell ⟨R, 1, none⟩ (.int .i64 ((i : Int) + 1))).alloc (.cells #[.int .i64 0, .int .i64 0, .string ⟨#[]⟩, .slice none 0 0, .slice none 0 0] 27)).heap[w.heap.size]? = some (.cells #[.int .i64 0, .int .i64 0, .string ⟨#[]⟩, .slice none 0 0, .slice none 0 0] 27 (0, 0)) := by
  have := heap_alloc_new (w.setCell ⟨R, 1, none⟩ (.int .i64 ((i : Int) + 1))) (.cells #[.int .i64 0, .int .i64 0, .string ⟨#[]⟩, .slice none 0 0, .slice none 0 0] 27)
  simpa using this
 have hsz : ((w.setCell ⟨R, 1, none⟩ (.int .i64 ((i : Int) + 1))).alloc (.cells #[.int .i64 0, .int .i64 0, .string ⟨#[]⟩, .slice none 0 0, .slice none 0 0] 27)).heap.size = w.heap.size + 1 := by simp
 go_enter Tryz.func67, Tryz.ntmps67
 go_wp2_with fail
 generalize ((w.setCell ⟨R, 1, none⟩ (.int .i64 ((i : Int) + 1))).alloc (.cells #[.int .i64 0, .int .i64 0, .string ⟨#[]⟩, .slice none 0 0, .slice none 0 0] 27)) = Wb at *
 go_loopw [23] (fun _ wr => ∃ (ks : List (T m)) (nv kv : Value) (i' : Nat) (bad' : Bool), Many R (w.heap.size + 1) m Wb wr 4 [] ks nv kv /\ RdS wr R s i' bad' /\ ListInv m n s i ks i' bad') (fun _ wr => leftOf wr R s.size)
 case atStart =>
  refine ⟨[], .slice none 0 0, .slice none 0 0, i + 1, false, ⟨Near.alloc _ _ _, ?_, ⟨rfl, .inl ⟨rfl, rfl⟩⟩, by simp, ⟨[], ⟨rfl, .inl ⟨rfl, rfl⟩⟩, fun j hj => absurd hj (Nat.not_lt_zero _)⟩, fun b hb => by cases hb⟩, ?_, ?_⟩
  ·rw [<- hsz]; exact heap_alloc_new _ _
  ·exact (Below.heap_alloc _ _ _ (by omega)).trans hrb
  ·refine ⟨by omega, fun _ => by omega, by omega, by simp, fun ks0 post he hg => ⟨0, Nat.zero_le _, by simp, rfl, ?_⟩⟩
   rw [he]; simp [tailL_true]
 case round =>
  obtain ⟨ks, nv, kv, i', bad', hM, hr, hI⟩ := hrel
  obtain ⟨na, nc, rfl⟩ := owns_shape hM.names
  obtain ⟨xs, hxs, hkids⟩ := hM.kids
  obtain ⟨ka, kc, rfl⟩ := owns_shape hxs
  have hX := hM.lt
  have x3 : wr.cell? ⟨w.heap.size + 1, 3, none⟩ = some (.slice na 0 nc) := by simp [World.cell?, hM.box]
  have x4 : wr.cell? ⟨w.heap.size + 1, 4, none⟩ = some (.slice ka ks.length kc) := by simp [World.cell?, hM.box]
  have xf : wr.frozen? ⟨w.heap.size + 1, 4, none⟩ = false := by simp [World.frozen?, hM.box]
  have d1 := hr.cell1
  have d2 := hr.cell2
  have df := hr.free 1
  have hI' := hI
  obtain ⟨hi1, hi2, hi3, hi4, -⟩ := hI'
  have HM := hidF hM
  have HR : Hid (RdS wr R s i' bad') := hr
  have HI := hidF hI
  have HX := hidF hxs
  have HK := hidF hkids
  clear hM hr hI hxs hkids c0 c1 c2 f1 h
  cases bad' with
  | true =>
   have hw9 : IntKind.i64.wrap ((i' : Int) + 1) = (i' : Int) + 1 := by rw [IntKind.wrap_i64]; omega
   have gb : wr.heap[w.heap.size]? = _ := (HM.out.near.block w.heap.size (by omega) (by omega)).trans hblk
   have g0 : wr.cell? ⟨w.heap.size, 0, none⟩ = some (.int .i64 0) := by simp [World.cell?, gb]
   have g1 : wr.cell? ⟨w.heap.size, 1, none⟩ = some (.int .i64 0) := by simp [World.cell?, gb]
   have g2 : wr.cell? ⟨w.heap.size, 2, none⟩ = some (.string ⟨#[]⟩) := by simp [World.cell?, gb]
   have g3 : wr.cell? ⟨w.heap.size, 3, none⟩ = some (.slice none 0 0) := by simp [World.cell?, gb]
   have g4 : wr.cell? ⟨w.heap.size, 4, none⟩ = some (.slice none 0 0) := by simp [World.cell?, gb]
   have gf : ∀ o, wr.frozen? ⟨w.heap.size, o, none⟩ = false := fun o => by simp [World.frozen?, gb]
   have gf0 := gf 0
   have gf1 := gf 1
   have gf2 := gf 2
   have gf3 := gf 3
   have gf4 := gf 4
   have y0 : wr.cell? ⟨w.heap.size + 1, 0, none⟩ = some (.int .i64 4) := by simp [World.cell?, HM.out.box]
   have y1 : wr.cell? ⟨w.heap.size + 1, 1, none⟩ = some (.int .i64 0) := by simp [World.cell?, HM.out.box]
   have y2 : wr.cell? ⟨w.heap.size + 1, 2, none⟩ = some (.string ByteArray.empty) := by simp [World.cell?, HM.out.box]
   clear gb gf
   have HZ : Hid (ListPost m n w R s i _ _) := list_out HM.out hR hwb hsz HR.out HI.out hs hn6 (fun h => by cases h)
   go_wp2_with fail
   refine bodyPost_ret (v := .agg #[.int .i64 4, .int .i64 0, .string ByteArray.empty, .slice na 0 nc, .slice ka ks.length kc]) (by simp [results, Tryz.results67, go_sem, g0, g1, g2, g3, g4]) rfl ?_
   exact HZ.out
  | false =>
   have hiz : i' <= s.size := hi2 rfl
   have hi4z : ks.length <= i' := by simpa using hi4
   clear hi2 hi4
   have HL : Hid (Calls Tryz.prog 65 #[.pointer (some ⟨R, 0, none⟩)] wr fun e w' => e = .returned (.int .u8 ((lookB s i').toNat : Int)) /\ ∃ m', w' = wr.drewN m') := look_any wr R s i' false HR.out
   have hb1 : ((lookB s i').toNat : Int) <= 255 := by have := (lookB s i').toNat_lt; omega
   by_cases hend : lookB s i' = 93
   ·have hw9 : IntKind.i64.wrap ((i' : Int) + 1) = (i' : Int) + 1 := by rw [IntKind.wrap_i64]; omega
    have gb : wr.heap[w.heap.size]? = _ := (HM.out.near.block w.heap.size (by omega) (by omega)).trans hblk
    have g0 : wr.cell? ⟨w.heap.size, 0, none⟩ = some (.int .i64 0) := by simp [World.cell?, gb]
    have g1 : wr.cell? ⟨w.heap.size, 1, none⟩ = some (.int .i64 0) := by simp [World.cell?, gb]
    have g2 : wr.cell? ⟨w.heap.size, 2, none⟩ = some (.string ⟨#[]⟩) := by simp [World.cell?, gb]
    have g3 : wr.cell? ⟨w.heap.size, 3, none⟩ = some (.slice none 0 0) := by simp [World.cell?, gb]
    have g4 : wr.cell? ⟨w.heap.size, 4, none⟩ = some (.slice none 0 0) := by simp [World.cell?, gb]
    have gf : ∀ o, wr.frozen? ⟨w.heap.size, o, none⟩ = false := fun o => by simp [World.frozen?, gb]
    have gf0 := gf 0
    have gf1 := gf 1
    have gf2 := gf 2
    have gf3 := gf 3
    have gf4 := gf 4
    have y0 : wr.cell? ⟨w.heap.size + 1, 0, none⟩ = some (.int .i64 4) := by simp [World.cell?, HM.out.box]
    have y1 : wr.cell? ⟨w.heap.size + 1, 1, none⟩ = some (.int .i64 0) := by simp [World.cell?, HM.out.box]
    have y2 : wr.cell? ⟨w.heap.size + 1, 2, none⟩ = some (.string ByteArray.empty) := by simp [World.cell?, HM.out.box]
    clear gb gf
    have hc93 : (lookB s i').toNat = 93 := by rw [hend]; rfl
    have HZ : Hid (∀ q, ListPost m n w R s i _ _) := fun q => list_out (HM.out.keep (by omega) ((Near.refl R wr).drewN q)) hR hwb hsz (HR.out.drewN q) HI.out hs hn6 (fun _ => hend)
    rw [hc93] at HL
    clear hc93 hend
    go_wp2_with (go_at_call 65; refine HL.out.mono ?_; rintro e w' ⟨rfl, nq, rfl⟩)
    refine bodyPost_ret (v := .agg #[.int .i64 4, .int .i64 0, .string ByteArray.empty, .slice na 0 nc, .slice ka ks.length kc]) (by simp [results, Tryz.results67, go_sem, g0, g1, g2, g3, g4]) rfl ?_
    exact HZ.out nq
   ·have hne : (((lookB s i').toNat : Int) == 93) = false := by
     rw [beq_eq_false_iff_ne]
     intro e; apply hend; apply UInt8.toNat_inj.1
     have h93 : (93 : UInt8).toNat = 93 := rfl
     omega
    have HE : Hid (¬ lookB s i' = 93) := hend
    clear hend
    generalize (lookB s i').toNat = c at *
    have HW : Hid (∃ hgt : Bool, hgt = decide ((0 : Int) < (ks.length : Int))) := ⟨_, rfl⟩
    obtain ⟨i0, hi0, hz0, hz1, hz2⟩ := info_parts Tryz.info_treeR
    have HI0 : Hid (_ /\ _ /\ _ /\ _) := ⟨hi0, hz0, hz1, hz2⟩
    have hw6 : IntKind.i64.wrap (6 - (n : Int) + 1) = 7 - (n : Int) := by rw [IntKind.wrap_i64]; omega
    clear hi0 hz0 hz1 hz2
    cases hgt : decide ((0 : Int) < (ks.length : Int)) with
    | false =>
     have hle : ((ks.length : Nat) : Int) <= 0 := by simpa using hgt
     clear hgt
     have HC : Hid (∀ q, Calls Tryz.prog 36 #[.pointer (some ⟨R, 0, none⟩), .int .i64 (7 - (n : Int))] (wr.drewN q) (ReadPost m n (wr.drewN q) R s i' false)) := fun q => hn m R s i' false _ hm (HR.out.drewN m) hs (fun _ => hiz) (by omega)
     have HCM : Hid (Comma s ks.length i' i' false) := .inl ⟨by omega, rfl, rfl⟩
     go_wp2_with (go_at_call 65; refine HL.out.mono ?_; rintro e w' ⟨rfl, nq, rfl⟩)
     have HC1 : Hid (Calls Tryz.prog 36 #[.pointer (some ⟨R, 0, none⟩), .int .i64 (7 - (n : Int))] (wr.drewN nq).drew (ReadPost m n (wr.drewN nq).drew R s i' false)) := HC.out (nq + 1)
     go_region_law (first
      | (refine step_append_lies _ (by rfl) (.tmp 49) (.tmp 54) 25 (by rfl) (w.heap.size + 1 + 1) 27 i0 _ 5 80 Tryz.underlying25 HI0.out.1 HI0.out.2.1 HI0.out.2.2.1 HI0.out.2.2.2 rfl (by decide) (.slice ka ks.length kc) ks.length xs (by rfl) (hox _) ⟨w2.heap.size, 0, none⟩ 1 1 [.int .i64 y0', .int .i64 y1', .string y2', .slice ya yl yc, .slice za zl zc] (by rfl) rfl (World.news_of_block (heap_alloc_new w2 _)) (by simp [Value.oneCell']) (by decide) (by unfold maxLen; omega) (by omega) (by simp; omega) (w2.heap.size + 1) (by simp) ?_; intro g cap w3 hown hgrow hat hlt; have hb3 := (box_after (W := (wr.drewN nq).drew) HX.out hX (by omega) hn2 hgrow).trans HM.out.box; have x4'' : w3.cell? ⟨w.heap.size + 1, 4, none⟩ = some (.slice ka ks.length kc) := (by simp [World.cell?, hb3]); have xf'' : w3.frozen? ⟨w.heap.size + 1, 4, none⟩ = false := (by simp [World.frozen?, hb3]))
      | (go_simp; go_at_call 36; refine HC1.out.mono ?_; rintro e w2 ⟨hn2, t2, y0, y1, y2, y3, y4, i2, bad2, rfl, ht2, hr2, hp2⟩; obtain ⟨y0', y1', y2', ya, yl, yc, za, zl, zc, rfl, rfl, rfl, rfl, rfl⟩ := ht2.shape; have hsz2 : wr.heap.size <= w2.heap.size := hn2.size; have hox := fun o => owns_on (R := R) (X := w.heap.size + 1) (W := (wr.drewN nq).drew) HX.out (by omega) hn2 o; have x4' : w2.cell? ⟨w.heap.size + 1, 4, none⟩ = some (.slice ka ks.length kc) := (World.cell?_of_block (hn2.block (w.heap.size + 1) (by simpa using hX) (by omega))).trans x4; have x4a : (w2.alloc (.cells #[.int .i64 y0', .int .i64 y1', .string y2', .slice ya yl yc, .slice za zl zc] 27)).cell? ⟨w.heap.size + 1, 4, none⟩ = some (.slice ka ks.length kc) := (World.cell?_of_block (Below.heap_alloc _ _ _ (by show w.heap.size + 1 < _; omega))).trans x4'))
     all_goals
      have HF : Hid (Many R (w.heap.size + 1) m Wb (w3.setCell ⟨w.heap.size + 1, 4, none⟩ (.slice (some ⟨g, 0, none⟩) (ks.length + 1) cap)) 4 [] (ks ++ [t2]) (.slice na 0 nc) (.slice (some ⟨g, 0, none⟩) (ks.length + 1) cap)) :=
       Many.kidD (nq + 1) HM.out (by omega) (by omega) hn2 ht2 HX.out HK.out hown hgrow hat
      have HG := rd_after (X := w.heap.size + 1) (q := 4) (u := .slice (some ⟨g, 0, none⟩) (ks.length + 1) cap) (W := (wr.drewN nq).drew) hr2 HX.out (by omega) hgrow
      have HS := list_step HI.out HE.out HCM.out hp2
      have HG' : Hid (RdS (w3.setCell ⟨w.heap.size + 1, 4, none⟩ (.slice (some ⟨g, 0, none⟩) (ks.length + 1) cap)) R s i2 bad2) := HG
      have HS' : Hid _ := HS
      clear HG HS hown hgrow hat ht2 hr2 hp2 hn2 hox x4' x4a x4'' xf'' hb3
      go_wp2_with fail
      go_roundw
      case rel => exact ⟨_, _, _, i2, bad2, HF.out, HG'.out, HS'.out.1⟩
      case measure => rw [RdS.left HG'.out, RdS.left HR.out]; simpa using HS'.out.2
    | true =>
     have hlt0 : (0 : Int) < ((ks.length : Nat) : Int) := by simpa using hgt
     have HL0 : Hid (¬ ks.length = 0) := by show ¬ _; omega
     clear hgt
     go_wp2_with (go_at_call 65; refine HL.out.mono ?_; rintro e w' ⟨rfl, nq, rfl⟩)
     refine (eat_any _ R s ⟨#[44]⟩ i' false (HR.out.drewN nq) hs (by decide) hiz).mono ?_
     rintro e w1 ⟨rfl, hn1, hor⟩
     obtain ⟨i1, bad1, hr1, hcm, hok1, hlim1⟩ : ∃ (i1 : Nat) (bad1 : Bool), RdS w1 R s i1 bad1 /\ Comma s ks.length i' i1 bad1 /\ (bad1 = false -> i1 <= s.size) /\ i1 <= 20000 := by
      rcases hor with ⟨he, hz, h⟩ | ⟨he, h⟩
      ·exact ⟨i' + 1, false, h, .inr ⟨HL0.out, .inl ⟨he, hz, rfl, rfl⟩⟩, fun _ => hz, by omega⟩
      ·exact ⟨i', true, h, .inr ⟨HL0.out, .inr ⟨he, rfl, rfl⟩⟩, (fun h => by cases h), by omega⟩
     have hnw : Near R wr w1 := ((Near.refl R wr).drewN nq).trans hn1
     have HM1 : Hid (Many R (w.heap.size + 1) m Wb w1 4 [] ks (.slice na 0 nc) (.slice ka ks.length kc)) := HM.out.keep (by omega) hnw
     have hmv := kids_move HX.out HK.out (by omega) hnw
     have HX1 : Hid (w1.ownsRow (w.heap.size + 1 + 1) 27 5 (.slice ka ks.length kc) ks.length xs) := hmv.1
     have HK1 : Hid (∀ j (h : j < ks.length), _) := hmv.2
     have HCM := hidF hcm
     have hX1 := HM1.out.lt
     have x4w : w1.cell? ⟨w.heap.size + 1, 4, none⟩ = some (.slice ka ks.length kc) := by simp [World.cell?, HM1.out.box]
     have HC1 : Hid (Calls Tryz.prog 36 #[.pointer (some ⟨R, 0, none⟩), .int .i64 (7 - (n : Int))] w1.drew (ReadPost m n w1.drew R s i1 bad1)) := hn m R s i1 bad1 _ hm (hr1.drewN 1) hs hok1 hlim1
     clear hmv hcm hor hr1 hn1 hnw x3 x4 xf d1 d2 df HL HX HK HM
     go_wp2_with fail
     go_region_law (first
      | (refine step_append_lies _ (by rfl) (.tmp 49) (.tmp 54) 25 (by rfl) (w.heap.size + 1 + 1) 27 i0 _ 5 80 Tryz.underlying25 HI0.out.1 HI0.out.2.1 HI0.out.2.2.1 HI0.out.2.2.2 rfl (by decide) (.slice ka ks.length kc) ks.length xs (by rfl) (hox _) ⟨w2.heap.size, 0, none⟩ 1 1 [.int .i64 y0', .int .i64 y1', .string y2', .slice ya yl yc, .slice za zl zc] (by rfl) rfl (World.news_of_block (heap_alloc_new w2 _)) (by simp [Value.oneCell']) (by decide) (by unfold maxLen; omega) (by omega) (by simp; omega) (w2.heap.size + 1) (by simp) ?_; intro g cap w3 hown hgrow hat hlt; have hb3 := (box_after (W := w1.drew) HX1.out hX1 (by omega) hn2 hgrow).trans HM1.out.box; have x4'' : w3.cell? ⟨w.heap.size + 1, 4, none⟩ = some (.slice ka ks.length kc) := (by simp [World.cell?, hb3]); have xf'' : w3.frozen? ⟨w.heap.size + 1, 4, none⟩ = false := (by simp [World.frozen?, hb3]))
      | (go_simp; go_at_call 36; refine HC1.out.mono ?_; rintro e w2 ⟨hn2, t2, y0, y1, y2, y3, y4, i2, bad2, rfl, ht2, hr2, hp2⟩; obtain ⟨y0', y1', y2', ya, yl, yc, za, zl, zc, rfl, rfl, rfl, rfl, rfl⟩ := ht2.shape; have hsz2 : w1.heap.size <= w2.heap.size := hn2.size; have hox := fun o => owns_on (R := R) (X := w.heap.size + 1) (W := w1.drew) HX1.out (by omega) hn2 o; have x4' : w2.cell? ⟨w.heap.size + 1, 4, none⟩ = some (.slice ka ks.length kc) := (World.cell?_of_block (hn2.block (w.heap.size + 1) (by simpa using hX1) (by omega))).trans x4w; have x4a : (w2.alloc (.cells #[.int .i64 y0', .int .i64 y1', .string y2', .slice ya yl yc, .slice za zl zc] 27)).cell? ⟨w.heap.size + 1, 4, none⟩ = some (.slice ka ks.length kc) := (World.cell?_of_block (Below.heap_alloc _ _ _ (by show w.heap.size + 1 < _; omega))).trans x4'))
     all_goals
      have HF : Hid (Many R (w.heap.size + 1) m Wb (w3.setCell ⟨w.heap.size + 1, 4, none⟩ (.slice (some ⟨g, 0, none⟩) (ks.length + 1) cap)) 4 [] (ks ++ [t2]) (.slice na 0 nc) (.slice (some ⟨g, 0, none⟩) (ks.length + 1) cap)) :=
       Many.kidD 1 HM1.out (by omega) (by omega) hn2 ht2 HX1.out HK1.out hown hgrow hat
      have HG := rd_after (X := w.heap.size + 1) (q := 4) (u := .slice (some ⟨g, 0, none⟩) (ks.length + 1) cap) (W := w1.drew) hr2 HX1.out (by omega) hgrow
      have HS := list_step HI.out HE.out HCM.out hp2
      have HG' : Hid (RdS (w3.setCell ⟨w.heap.size + 1, 4, none⟩ (.slice (some ⟨g, 0, none⟩) (ks.length + 1) cap)) R s i2 bad2) := HG
      have HS' : Hid _ := HS
      clear HG HS hown hgrow hat ht2 hr2 hp2 hn2 hox x4' x4a x4'' xf'' hb3
      go_wp2_with fail
      go_roundw
      case rel => exact ⟨_, _, _, i2, bad2, HF.out, HG'.out, HS'.out.1⟩
      case measure => rw [RdS.left HG'.out, RdS.left HR.out]; simpa using HS'.out.2
end Go.Proofs.YtmjhcgjhlakceaaGreatDoor

namespace Go.Proofs.YtmjhcgjhlakceaaGreatDoor
open Go.RowKit
def Colon (s : ByteArray) (j i3 : Nat) (bad1 bad3 : Bool) : Prop :=
 (eatP [58] (s.data.toList.drop j) = some (s.data.toList.drop (j + 1)) /\ j + 1 <= s.size /\ i3 = j + 1 /\ bad3 = bad1) ∨ (eatP [58] (s.data.toList.drop j) = none /\ i3 = j /\ bad3 = true)
def FormInv (m n : Nat) (s : ByteArray) (i : Nat) (ns : List ByteArray) (ks : List (T m)) (i' : Nat) (bad' : Bool) : Prop :=
 i < i' /\ (bad' = false -> i' <= s.size) /\ i' <= s.size + n /\ ks.length <= i' + (if bad' = true then 1 else 0) /\ ns.length = ks.length /\
  ∀ (ns0 : List ByteArray) (ks0 : List (T m)) post, ns0.length = ks0.length -> (∀ x, x ∈ ns0 -> nameB x = true) -> s.data.toList.drop (i + 1) = joinL (zipL ns0 (ks0.map (txtL m))) ++ 125 :: post -> (∀ k, k ∈ ks0 -> goodT m k (7 - (n : Int)) = true) ->
   ∃ k, k <= ks0.length /\ ks = ks0.take k /\ ns = ns0.take k /\ bad' = false /\ s.data.toList.drop i' = tailL (decide (k = 0)) ((zipL ns0 (ks0.map (txtL m))).drop k) ++ 125 :: post
theorem name_head {x : ByteArray} (h : nameB x = true) : ∃ c r, x.data.toList = c :: r /\ nmByte c = true := by
 have hsz : 1 <= x.size := by simp only [nameB, Bool.and_eq_true, decide_eq_true_eq] at h; exact h.1.1.1
 cases hd : x.data.toList with
 | nil =>
  have h1 : x.data.toList.length = 0 := by rw [hd]; rfl
  have h2 : x.data.toList.length = x.size := by simp
  omega
 | cons c r => exact ⟨c, r, rfl, nameB_bytes h c (by rw [hd]; exact List.mem_cons_self ..)⟩
theorem form_step {m n : Nat} {s : ByteArray} {i : Nat} {ns : List ByteArray} {ks : List (T m)} {i' i1 i3 i2 : Nat} {bad1 bad3 bad2 : Bool} {t2 : T m} (hI : FormInv m n s i ns ks i' false) (hne : ¬ lookB s i' = 125) (hc : Comma s ks.length i' i1 bad1)
  (hco : Colon s (i1 + ((s.data.toList.drop i1).takeWhile nmByte).length) i3 bad1 bad3)
  (hp : i3 <= i2 /\ (bad2 = false -> bad3 = false /\ i3 < i2 /\ i2 <= s.size) /\ (bad3 = false -> i2 <= s.size + n) /\ (bad3 = true -> i2 = i3) /\
   (∀ (t0 : T m) post, bad3 = false -> s.data.toList.drop i3 = txtL m t0 ++ post -> goodT m t0 (7 - (n : Int)) = true -> noDig post = true -> t2 = t0 /\ bad2 = false /\ i2 = i3 + (txtL m t0).length))
  (hsz : i1 + ((s.data.toList.drop i1).takeWhile nmByte).length <= s.size) :
  FormInv m n s i (ns ++ [bs ((s.data.toList.drop i1).takeWhile nmByte)]) (ks ++ [t2]) i2 bad2 /\ (if bad2 = true then 0 else s.size + 1 - i2) < s.size + 1 - i' := by
 obtain ⟨h1, h2, h3, h4, h6, h5⟩ := hI
 obtain ⟨p1, p2, p3, p4, p5⟩ := hp
 have h2 := h2 rfl
 have h4 : ks.length <= i' := by simpa using h4
 have hi1 : i' <= i1 := by
  rcases hc with ⟨-, h, -⟩ | ⟨-, ⟨-, -, h, -⟩ | ⟨-, h, -⟩⟩ <;> omega
 have hi3 : i1 <= i3 /\ i3 <= s.size := by
  rcases hco with ⟨-, h, h', -⟩ | ⟨-, h, -⟩ <;> omega
 refine ⟨⟨by omega, fun h => (p2 h).2.2, ?_, ?_, by simp [h6], fun ns0 ks0 post hlen hnm he hg => ?_⟩, ?_⟩
 ·cases bad3 with
  | false => exact p3 rfl
  | true => have := p4 rfl; omega
 ·rw [List.length_append, List.length_singleton]
  cases bad2 with
  | false => have := (p2 rfl).2.1; simp; omega
  | true => simp; omega
 ·obtain ⟨k, hk, hks, hns, -, hd⟩ := h5 ns0 ks0 post hlen hnm he hg
  have hkl : ks.length = k := by rw [hks, List.length_take]; omega
  have hzl : (zipL ns0 (ks0.map (txtL m))).length = ks0.length := by rw [zipL_length _ _ (by simpa using hlen)]; simp
  have hlt : k < ks0.length := by
   refine Classical.byContradiction fun hge => hne ?_
   have : (zipL ns0 (ks0.map (txtL m))).drop k = [] := List.drop_of_length_le (by omega)
   rw [this] at hd
   unfold lookB
   rw [hd]; rfl
  have hlt' : k < (zipL ns0 (ks0.map (txtL m))).length := by omega
  have hkn : k < ns0.length := by omega
  rw [List.drop_eq_getElem_cons hlt', zipL_get _ _ _ hkn (by simpa using hlt) hlt', List.getElem_map, tailL, List.append_assoc] at hd
  have hrest : bad1 = false /\ s.data.toList.drop i1 = ns0[k].data.toList ++ 58 :: (txtL m ks0[k] ++ (tailL false ((zipL ns0 (ks0.map (txtL m))).drop (k + 1)) ++ 125 :: post)) := by
   by_cases hk0 : k = 0
   ·simp only [hk0, decide_true, if_true, List.append_assoc, List.cons_append] at hd
    rcases hc with ⟨-, h, hb⟩ | ⟨h, -⟩
    ·refine ⟨hb, ?_⟩
     rw [h, hd]
     simp only [hk0]
    ·exact absurd (by omega) h
   ·simp only [hk0, decide_false, Bool.false_eq_true, if_false, List.cons_append, List.append_assoc] at hd
    rcases hc with ⟨h, -⟩ | ⟨-, ⟨he1, -, h, hb⟩ | ⟨he1, -⟩⟩
    ·exact absurd (by omega) hk0
    ·refine ⟨hb, ?_⟩
     rw [hd, eatP_one_cons] at he1
     rw [h]
     exact (Option.some.inj he1).symm
    ·rw [hd, eatP_one_cons] at he1; cases he1
  have hnk := hnm ns0[k] (List.getElem_mem hkn)
  have htw : (s.data.toList.drop i1).takeWhile nmByte = ns0[k].data.toList := by
   rw [hrest.2]
   exact takeWhile_all _ _ (nameB_bytes hnk) (by intro c r e; cases e; decide)
  have hdj : s.data.toList.drop (i1 + ((s.data.toList.drop i1).takeWhile nmByte).length) = 58 :: (txtL m ks0[k] ++ (tailL false ((zipL ns0 (ks0.map (txtL m))).drop (k + 1)) ++ 125 :: post)) := by
   rw [htw, <- List.drop_drop, hrest.2, List.drop_left]
  have hcol : bad3 = false /\ s.data.toList.drop i3 = txtL m ks0[k] ++ (tailL false ((zipL ns0 (ks0.map (txtL m))).drop (k + 1)) ++ 125 :: post) := by
   rcases hco with ⟨he1, -, h, hb⟩ | ⟨he1, -⟩
   ·rw [hdj, eatP_one_cons] at he1
    exact ⟨by rw [hb]; exact hrest.1, by rw [h]; exact (Option.some.inj he1).symm⟩
   ·rw [hdj, eatP_one_cons] at he1; cases he1
  have hnd : noDig (tailL false ((zipL ns0 (ks0.map (txtL m))).drop (k + 1)) ++ 125 :: post) = true := by
   cases (zipL ns0 (ks0.map (txtL m))).drop (k + 1) with
   | nil => rfl
   | cons y r => rw [tailL_cons_false]; rfl
  obtain ⟨q1, q2, q3⟩ := p5 ks0[k] _ hcol.1 hcol.2 (hg _ (List.getElem_mem hlt)) hnd
  refine ⟨k + 1, by omega, ?_, ?_, q2, ?_⟩
  ·rw [List.take_succ_eq_append_getElem hlt, <- hks, q1]
  ·rw [List.take_succ_eq_append_getElem hkn, <- hns, htw, bs_of]
  ·rw [q3, <- List.drop_drop, hcol.2, List.drop_left]
   simp
 ·cases bad2 with
  | true => simp; omega
  | false => have := (p2 rfl).2; simp; omega
end Go.Proofs.YtmjhcgjhlakceaaGreatDoor

namespace Go.Proofs.YtmjhcgjhlakceaaGreatDoor
open Go.RowKit
def GotT (m n : Nat) (s : ByteArray) (i : Nat) (bad : Bool) (t : T m) (i' : Nat) (bad' : Bool) : Prop :=
 i <= i' /\ (bad' = false -> bad = false /\ i < i' /\ i' <= s.size) /\ (bad = false -> i' <= s.size + n) /\ (bad = true -> i' = i) /\
  (∀ (t0 : T m) post, bad = false -> s.data.toList.drop i = txtL m t0 ++ post -> goodT m t0 (7 - (n : Int)) = true -> noDig post = true -> t = t0 /\ bad' = false /\ i' = i + (txtL m t0).length)
theorem goodT_cases {m : Nat} {t : T (m + 1)} {d : Int} (h : goodT (m + 1) t d = true) :
  (∃ k : Int, (-999999999 <= k /\ k <= 999999999) /\ t = (⟨1, k, ByteArray.empty, [], []⟩ : Nd (T m)) /\ txtL (m + 1) t = Lib.itoa k) ∨
  (∃ x : ByteArray, textB x = true /\ t = (⟨2, 0, x, [], []⟩ : Nd (T m)) /\ txtL (m + 1) t = 34 :: (x.data.toList ++ [34])) ∨
  (t = (⟨3, 1, ByteArray.empty, [], []⟩ : Nd (T m)) /\ txtL (m + 1) t = [121, 101, 115]) ∨ (t = (⟨3, 0, ByteArray.empty, [], []⟩ : Nd (T m)) /\ txtL (m + 1) t = [110, 111]) ∨
  (∃ ks, t = (⟨4, 0, ByteArray.empty, [], ks⟩ : Nd (T m)) /\ (∀ k, k ∈ ks -> goodT m k (d + 1) = true) /\ txtL (m + 1) t = 91 :: (joinL (ks.map (txtL m)) ++ [93])) ∨
  (∃ ns ks, t = (⟨5, 0, ByteArray.empty, ns, ks⟩ : Nd (T m)) /\ ns.length = ks.length /\ (∀ x, x ∈ ns -> nameB x = true) /\ (∀ k, k ∈ ks -> goodT m k (d + 1) = true) /\ txtL (m + 1) t = 123 :: (joinL (zipL ns (ks.map (txtL m))) ++ [125])) ∨
  (t = (⟨6, 0, ByteArray.empty, [], []⟩ : Nd (T m)) /\ txtL (m + 1) t = [126]) ∨
  (∃ k, t = (⟨6, 0, ByteArray.empty, [], [k]⟩ : Nd (T m)) /\ goodT m k (d + 1) = true /\ txtL (m + 1) t = 63 :: txtL m k) := by
 simp only [goodT, Bool.and_eq_true] at h
 have ha : aloneB (show Nd (T m) from t) = true := h.1.2
 have hk := List.all_eq_true.1 h.2
 obtain ⟨so, nu, tx, na, ki⟩ : Nd (T m) := t
 simp only [aloneB] at ha hk
 unfold aloneF at ha
 have nil1 : ∀ l : List ByteArray, (l.length : Int) = 0 -> l = [] := fun l hl => List.eq_nil_of_length_eq_zero (by omega)
 have nil2 : ∀ l : List (T m), (l.length : Int) = 0 -> l = [] := fun l hl => List.eq_nil_of_length_eq_zero (by omega)
 by_cases h1 : so = 1
 ·rw [if_pos h1] at ha
  simp only [Bool.and_eq_true, beq_iff_eq, decide_eq_true_eq] at ha
  obtain ⟨⟨⟨a1, a2⟩, a3⟩, a4⟩ := ha
  have e1 := ba_empty a2
  have e2 := nil1 _ a3
  have e3 := nil2 _ a4
  subst e1 e2 e3 h1
  exact .inl ⟨nu, a1, rfl, by simp [txtL]⟩
 rw [if_neg h1] at ha
 by_cases h2 : so = 2
 ·rw [if_pos h2] at ha
  simp only [Bool.and_eq_true, beq_iff_eq] at ha
  obtain ⟨⟨⟨a1, a2⟩, a3⟩, a4⟩ := ha
  have e2 := nil1 _ a3
  have e3 := nil2 _ a4
  subst a1 e2 e3 h2
  exact .inr (.inl ⟨tx, a2, rfl, by simp [txtL]⟩)
 rw [if_neg h2] at ha
 by_cases h3 : so = 3
 ·rw [if_pos h3] at ha
  simp only [Bool.and_eq_true, beq_iff_eq, decide_eq_true_eq] at ha
  obtain ⟨⟨⟨a1, a2⟩, a3⟩, a4⟩ := ha
  have e1 := ba_empty a2
  have e2 := nil1 _ a3
  have e3 := nil2 _ a4
  subst e1 e2 e3 h3
  by_cases hn : 0 < nu
  ·have : nu = 1 := by omega
   subst this
   exact .inr (.inr (.inl ⟨rfl, by simp [txtL]⟩))
  ·have : nu = 0 := by omega
   subst this
   exact .inr (.inr (.inr (.inl ⟨rfl, by simp [txtL]⟩)))
 rw [if_neg h3] at ha
 by_cases h4 : so = 4
 ·rw [if_pos h4] at ha
  simp only [Bool.and_eq_true, beq_iff_eq, decide_eq_true_eq] at ha
  obtain ⟨⟨⟨a1, a2⟩, a3⟩, a4⟩ := ha
  have e1 := ba_empty a2
  have e2 := nil1 _ a3
  subst a1 e1 e2 h4
  exact .inr (.inr (.inr (.inr (.inl ⟨ki, rfl, fun k hk' => hk k hk', by simp [txtL]⟩))))
 rw [if_neg h4] at ha
 by_cases h5 : so = 5
 ·rw [if_pos h5] at ha
  simp only [Bool.and_eq_true, beq_iff_eq] at ha
  obtain ⟨⟨⟨a1, a2⟩, a3⟩, a4⟩ := ha
  have e1 := ba_empty a2
  subst a1 e1 h5
  exact .inr (.inr (.inr (.inr (.inr (.inl ⟨na, ki, rfl, by omega, riseB_name a4, fun k hk' => hk k hk', by simp [txtL]⟩)))))
 rw [if_neg h5] at ha
 by_cases h6 : so = 6
 ·rw [if_pos h6] at ha
  simp only [Bool.and_eq_true, beq_iff_eq, decide_eq_true_eq] at ha
  obtain ⟨⟨⟨a1, a2⟩, a3⟩, a4⟩ := ha
  have e1 := ba_empty a2
  have e2 := nil1 _ a3
  subst a1 e1 e2 h6
  match ki, a4, hk with
  | [], _, _ => exact .inr (.inr (.inr (.inr (.inr (.inr (.inl ⟨rfl, by simp [txtL, mayTxt]⟩))))))
  | [x], _, hk => exact .inr (.inr (.inr (.inr (.inr (.inr (.inr ⟨x, rfl, hk x (List.mem_cons_self ..), by simp [txtL, mayTxt]⟩))))))
  | _ :: _ :: r, a4, _ => simp at a4; omega
 ·rw [if_neg h6] at ha; cases ha
theorem lookT {s : ByteArray} {i : Nat} {c : UInt8} {r : List UInt8} (h : s.data.toList.drop i = c :: r) : lookB s i = c := by
 unfold lookB; rw [h]; rfl
theorem levelsT (n : Nat) : (7 - ((n + 1 : Nat) : Int)) + 1 = 7 - (n : Int) := by omega
theorem lookItoa {s : ByteArray} {i : Nat} {k : Int} {post : List UInt8} (h : s.data.toList.drop i = Lib.itoa k ++ post) : digC (lookB s i) = true ∨ lookB s i = 45 := by
 obtain ⟨c, r, e, hc⟩ := itoa_head k
 rw [e] at h
 rw [lookT h]; exact hc
theorem word_got {m n : Nat} {s x : ByteArray} {i : Nat} {i' : Nat} {bad' : Bool} {t : T (m + 1)} (hi : i <= s.size) (hs : (eatP x.data.toList (s.data.toList.drop i) = some (s.data.toList.drop (i + x.size)) /\ i + x.size <= s.size /\ i' = i + x.size /\ bad' = false) ∨ (eatP x.data.toList (s.data.toList.drop i) = none /\ i' = i /\ bad' = true))
  (hx : 0 < x.size) (hone : ∀ (t0 : T (m + 1)) post, s.data.toList.drop i = txtL (m + 1) t0 ++ post -> goodT (m + 1) t0 (7 - ((n + 1 : Nat) : Int)) = true -> t0 = t /\ txtL (m + 1) t0 = x.data.toList) :
  GotT (m + 1) (n + 1) s i false t i' bad' := by
 rcases hs with ⟨h1, h2, rfl, rfl⟩ | ⟨h1, rfl, rfl⟩
 ·refine ⟨by omega, fun _ => ⟨rfl, by omega, h2⟩, fun _ => by omega, fun h => (by cases h), fun t0 post _ he hg _ => ?_⟩
  obtain ⟨q1, q2⟩ := hone t0 post he hg
  exact ⟨q1.symm, rfl, by rw [q2]; simp⟩
 ·refine ⟨Nat.le_refl _, fun h => (by cases h), fun _ => by omega, fun h => (by cases h), fun t0 post _ he hg _ => ?_⟩
  obtain ⟨q1, q2⟩ := hone t0 post he hg
  rw [he, q2, eatP_append] at h1
  cases h1
theorem yes_one {m : Nat} {s : ByteArray} {i : Nat} {d : Int} (hl : lookB s i = 121) (t0 : T (m + 1)) (post : List UInt8) (he : s.data.toList.drop i = txtL (m + 1) t0 ++ post) (hg : goodT (m + 1) t0 d = true) : t0 = (⟨3, 1, ByteArray.empty, [], []⟩ : Nd (T m)) /\ txtL (m + 1) t0 = [121, 101, 115] := by
 rcases goodT_cases hg with ⟨k, -, h1, h2⟩ | ⟨x, -, h1, h2⟩ | ⟨h1, h2⟩ | ⟨h1, h2⟩ | ⟨ks, h1, -, h2⟩ | ⟨ns, ks, h1, -, -, -, h2⟩ | ⟨h1, h2⟩ | ⟨k, h1, -, h2⟩
 ·rw [h2] at he; have := lookItoa he; rw [hl] at this; exact absurd this (by decide)
 ·rw [h2] at he; rw [lookT he] at hl; exact absurd hl (by decide)
 ·exact ⟨h1, h2⟩
 all_goals (rw [h2] at he; rw [lookT he] at hl; exact absurd hl (by decide))
theorem no_one {m : Nat} {s : ByteArray} {i : Nat} {d : Int} (hl : lookB s i = 110) (t0 : T (m + 1)) (post : List UInt8) (he : s.data.toList.drop i = txtL (m + 1) t0 ++ post) (hg : goodT (m + 1) t0 d = true) : t0 = (⟨3, 0, ByteArray.empty, [], []⟩ : Nd (T m)) /\ txtL (m + 1) t0 = [110, 111] := by
 rcases goodT_cases hg with ⟨k, -, h1, h2⟩ | ⟨x, -, h1, h2⟩ | ⟨h1, h2⟩ | ⟨h1, h2⟩ | ⟨ks, h1, -, h2⟩ | ⟨ns, ks, h1, -, -, -, h2⟩ | ⟨h1, h2⟩ | ⟨k, h1, -, h2⟩
 ·rw [h2] at he; have := lookItoa he; rw [hl] at this; exact absurd this (by decide)
 ·rw [h2] at he; rw [lookT he] at hl; exact absurd hl (by decide)
 ·rw [h2] at he; rw [lookT he] at hl; exact absurd hl (by decide)
 ·exact ⟨h1, h2⟩
 all_goals (rw [h2] at he; rw [lookT he] at hl; exact absurd hl (by decide))
theorem none_one {m : Nat} {s : ByteArray} {i : Nat} {d : Int} (hl : lookB s i = 126) (t0 : T (m + 1)) (post : List UInt8) (he : s.data.toList.drop i = txtL (m + 1) t0 ++ post) (hg : goodT (m + 1) t0 d = true) : t0 = (⟨6, 0, ByteArray.empty, [], []⟩ : Nd (T m)) /\ txtL (m + 1) t0 = [126] := by
 rcases goodT_cases hg with ⟨k, -, h1, h2⟩ | ⟨x, -, h1, h2⟩ | ⟨h1, h2⟩ | ⟨h1, h2⟩ | ⟨ks, h1, -, h2⟩ | ⟨ns, ks, h1, -, -, -, h2⟩ | ⟨h1, h2⟩ | ⟨k, h1, -, h2⟩
 ·rw [h2] at he; have := lookItoa he; rw [hl] at this; exact absurd this (by decide)
 case inr.inr.inr.inr.inr.inr.inl => exact ⟨h1, h2⟩
 all_goals (rw [h2] at he; rw [lookT he] at hl; exact absurd hl (by decide))
theorem some_got {m n : Nat} {s : ByteArray} {i i' : Nat} {bad' : Bool} {x : T m} (hl : lookB s i = 63) (hp : GotT m n s (i + 1) false x i' bad') : GotT (m + 1) (n + 1) s i false (⟨6, 0, ByteArray.empty, [], [x]⟩ : Nd (T m)) i' bad' := by
 obtain ⟨p1, p2, p3, p4, p5⟩ := hp
 refine ⟨by omega, fun h => ⟨rfl, by omega, (p2 h).2.2⟩, fun _ => by have := p3 rfl; omega, fun h => (by cases h), fun t0 post _ he hg hnd => ?_⟩
 rcases goodT_cases hg with ⟨k, -, h1, h2⟩ | ⟨x, -, h1, h2⟩ | ⟨h1, h2⟩ | ⟨h1, h2⟩ | ⟨ks, h1, -, h2⟩ | ⟨ns, ks, h1, -, -, -, h2⟩ | ⟨h1, h2⟩ | ⟨y, h1, h3, h2⟩
 ·rw [h2] at he; have := lookItoa he; rw [hl] at this; exact absurd this (by decide)
 case inr.inr.inr.inr.inr.inr.inr =>
  rw [h2] at he
  rw [levelsT] at h3
  have he1 : s.data.toList.drop (i + 1) = txtL m y ++ post := by rw [<- List.drop_drop, he]; rfl
  obtain ⟨q1, q2, q3⟩ := p5 y post rfl he1 h3 hnd
  exact ⟨by rw [h1, q1], q2, by rw [h2, q3, List.length_cons]; omega⟩
 all_goals (rw [h2] at he; rw [lookT he] at hl; exact absurd hl (by decide))
theorem quoted_got {m n : Nat} {s : ByteArray} {i : Nat} {x r : List UInt8} (hl : lookB s i = 34) (hu : untilP 34 (s.data.toList.drop (i + 1)) = some (x, r)) (hsz : i + 1 + x.length + 1 <= s.size) :
  GotT (m + 1) (n + 1) s i false (⟨2, 0, bs x, [], []⟩ : Nd (T m)) (i + 1 + x.length + 1) false := by
 refine ⟨by omega, fun _ => ⟨rfl, by omega, hsz⟩, fun _ => by omega, fun h => (by cases h), fun t0 post _ he hg _ => ?_⟩
 rcases goodT_cases hg with ⟨k, -, h1, h2⟩ | ⟨y, h3, h1, h2⟩ | ⟨h1, h2⟩ | ⟨h1, h2⟩ | ⟨ks, h1, -, h2⟩ | ⟨ns, ks, h1, -, -, -, h2⟩ | ⟨h1, h2⟩ | ⟨y, h1, h3, h2⟩
 ·rw [h2] at he; have := lookItoa he; rw [hl] at this; exact absurd this (by decide)
 ·rw [h2] at he
  have he1 : s.data.toList.drop (i + 1) = y.data.toList ++ 34 :: post := by rw [<- List.drop_drop, he]; simp
  rw [he1, untilP_append 34 _ _ (textB_bytes h3)] at hu
  have hxy : y.data.toList = x := (Prod.mk.inj (Option.some.inj hu)).1
  refine ⟨by rw [h1, <- hxy, bs_of], rfl, ?_⟩
  rw [h2, <- hxy]; simp; omega
 all_goals (rw [h2] at he; rw [lookT he] at hl; exact absurd hl (by decide))
theorem quoted_bad {m n : Nat} {s : ByteArray} {i : Nat} {t : T (m + 1)} (hl : lookB s i = 34) (hi : i <= s.size) (hu : untilP 34 (s.data.toList.drop (i + 1)) = none) : GotT (m + 1) (n + 1) s i false t s.size true := by
 refine ⟨hi, fun h => (by cases h), fun _ => by omega, fun h => (by cases h), fun t0 post _ he hg _ => ?_⟩
 rcases goodT_cases hg with ⟨k, -, h1, h2⟩ | ⟨y, h3, h1, h2⟩ | ⟨h1, h2⟩ | ⟨h1, h2⟩ | ⟨ks, h1, -, h2⟩ | ⟨ns, ks, h1, -, -, -, h2⟩ | ⟨h1, h2⟩ | ⟨y, h1, h3, h2⟩
 ·rw [h2] at he; have := lookItoa he; rw [hl] at this; exact absurd this (by decide)
 ·rw [h2] at he
  have he1 : s.data.toList.drop (i + 1) = y.data.toList ++ 34 :: post := by rw [<- List.drop_drop, he]; simp
  rw [he1, untilP_append 34 _ _ (textB_bytes h3)] at hu
  cases hu
 all_goals (rw [h2] at he; rw [lookT he] at hl; exact absurd hl (by decide))
theorem listT_got {m n : Nat} {s : ByteArray} {i i' : Nat} {bad' : Bool} {ks : List (T m)} (hl : lookB s i = 91) (h1 : i < i') (h2 : bad' = false -> i' <= s.size) (h3 : i' <= s.size + n + 1)
  (h4 : ∀ (ks0 : List (T m)) post, s.data.toList.drop (i + 1) = joinL (ks0.map (txtL m)) ++ 93 :: post -> (∀ k, k ∈ ks0 -> goodT m k (7 - (n : Int)) = true) -> ks = ks0 /\ bad' = false /\ i' = i + (joinL (ks0.map (txtL m))).length + 2) :
  GotT (m + 1) (n + 1) s i false (⟨4, 0, ByteArray.empty, [], ks⟩ : Nd (T m)) i' bad' := by
 refine ⟨by omega, fun h => ⟨rfl, h1, h2 h⟩, fun _ => by omega, fun h => (by cases h), fun t0 post _ he hg _ => ?_⟩
 rcases goodT_cases hg with ⟨k, -, q1, q2⟩ | ⟨y, q3, q1, q2⟩ | ⟨q1, q2⟩ | ⟨q1, q2⟩ | ⟨ks0, q1, q3, q2⟩ | ⟨ns, ks, q1, -, -, -, q2⟩ | ⟨q1, q2⟩ | ⟨y, q1, q3, q2⟩
 ·rw [q2] at he; have := lookItoa he; rw [hl] at this; exact absurd this (by decide)
 case inr.inr.inr.inr.inl =>
  rw [q2] at he
  have he1 : s.data.toList.drop (i + 1) = joinL (ks0.map (txtL m)) ++ 93 :: post := by rw [<- List.drop_drop, he]; simp
  obtain ⟨r1, r2, r3⟩ := h4 ks0 post he1 (fun k hk => by have := q3 k hk; rwa [levelsT] at this)
  exact ⟨by rw [q1, r1], r2, by rw [r3, q2]; simp; omega⟩
 all_goals (rw [q2] at he; rw [lookT he] at hl; exact absurd hl (by decide))
theorem formT_got {m n : Nat} {s : ByteArray} {i i' : Nat} {bad' : Bool} {ns : List ByteArray} {ks : List (T m)} (hl : lookB s i = 123) (h1 : i < i') (h2 : bad' = false -> i' <= s.size) (h3 : i' <= s.size + n + 1)
  (h4 : ∀ (ns0 : List ByteArray) (ks0 : List (T m)) post, ns0.length = ks0.length -> (∀ x, x ∈ ns0 -> nameB x = true) -> s.data.toList.drop (i + 1) = joinL (zipL ns0 (ks0.map (txtL m))) ++ 125 :: post -> (∀ k, k ∈ ks0 -> goodT m k (7 - (n : Int)) = true) ->
   ns = ns0 /\ ks = ks0 /\ bad' = false /\ i' = i + (joinL (zipL ns0 (ks0.map (txtL m)))).length + 2) :
  GotT (m + 1) (n + 1) s i false (⟨5, 0, ByteArray.empty, ns, ks⟩ : Nd (T m)) i' bad' := by
 refine ⟨by omega, fun h => ⟨rfl, h1, h2 h⟩, fun _ => by omega, fun h => (by cases h), fun t0 post _ he hg _ => ?_⟩
 rcases goodT_cases hg with ⟨k, -, q1, q2⟩ | ⟨y, q3, q1, q2⟩ | ⟨q1, q2⟩ | ⟨q1, q2⟩ | ⟨ks0, q1, q3, q2⟩ | ⟨ns0, ks0, q1, q3, q4, q5, q2⟩ | ⟨q1, q2⟩ | ⟨y, q1, q3, q2⟩
 ·rw [q2] at he; have := lookItoa he; rw [hl] at this; exact absurd this (by decide)
 case inr.inr.inr.inr.inr.inl =>
  rw [q2] at he
  have he1 : s.data.toList.drop (i + 1) = joinL (zipL ns0 (ks0.map (txtL m))) ++ 125 :: post := by rw [<- List.drop_drop, he]; simp
  obtain ⟨r0, r1, r2, r3⟩ := h4 ns0 ks0 post q3 q4 he1 (fun k hk => by have := q5 k hk; rwa [levelsT] at this)
  exact ⟨by rw [q1, r0, r1], r2, by rw [r3, q2]; simp; omega⟩
 all_goals (rw [q2] at he; rw [lookT he] at hl; exact absurd hl (by decide))
theorem numT_got {m n : Nat} {s : ByteArray} {i k F : Nat} {neg : Bool} {v : Int} (h1 : ¬ lookB s i = 34) (h2 : ¬ lookB s i = 121) (h3 : ¬ lookB s i = 110) (h4 : ¬ lookB s i = 126) (h5 : ¬ lookB s i = 63) (h6 : ¬ lookB s i = 91) (h7 : ¬ lookB s i = 123)
  (hneg : neg = decide (lookB s i = 45)) (hF : F = if neg = true then i + 1 else i) (hsz : F + k <= s.size) (hall : ∀ c, c ∈ (s.data.toList.drop F).take k -> digC c = true) (hend : k = 10 ∨ digC (lookB s (F + k)) = false)
  (hv : v = if neg = true then -(decVal ((s.data.toList.drop F).take k) : Int) else (decVal ((s.data.toList.drop F).take k) : Int)) :
  GotT (m + 1) (n + 1) s i false (⟨1, v, ByteArray.empty, [], []⟩ : Nd (T m)) (F + k) (false || k == 0) := by
 have hFi : i <= F := by cases neg <;> simp at hF <;> omega
 refine ⟨by omega, fun h => ⟨rfl, ?_, hsz⟩, fun _ => by omega, fun h => (by cases h), fun t0 post _ he hg hnd => ?_⟩
 ·simp at h; omega
 rcases goodT_cases hg with ⟨q, q0, q1, q2⟩ | ⟨y, q3, q1, q2⟩ | ⟨q1, q2⟩ | ⟨q1, q2⟩ | ⟨ks0, q1, q3, q2⟩ | ⟨ns0, ks0, q1, q3, q4, q5, q2⟩ | ⟨q1, q2⟩ | ⟨y, q1, q3, q2⟩
 ·rw [q2] at he
  obtain ⟨r1, r2, r3⟩ := num_reads s i k F neg q post q0 he hnd hneg hF hsz hall hend
  exact ⟨by rw [q1, hv, r1], by simpa using r3, by rw [q2]; exact r2⟩
 ·rw [q2] at he; exact absurd (lookT he) h1
 ·rw [q2] at he; exact absurd (lookT he) h2
 ·rw [q2] at he; exact absurd (lookT he) h3
 ·rw [q2] at he; exact absurd (lookT he) h6
 ·rw [q2] at he; exact absurd (lookT he) h7
 ·rw [q2] at he; exact absurd (lookT he) h4
 ·rw [q2] at he; exact absurd (lookT he) h5
end Go.Proofs.YtmjhcgjhlakceaaGreatDoor

namespace Go.Proofs.YtmjhcgjhlakceaaGreatDoor
open Go.RowKit
def listQ {α : Type} (f : List UInt8 -> Option (α × List UInt8)) : Nat -> List α -> List UInt8 -> Option (List α × List UInt8)
 | 0, _, _ => none
 | k + 1, acc, s =>
  match eatP [93] s with
  | some r => some (acc, r)
  | none =>
   match (if acc.length = 0 then some s else eatP [44] s) with
   | none => none
   | some s1 =>
    match f s1 with
    | none => none
    | some (t, r) => listQ f k (acc ++ [t]) r
def parseU : (n : Nat) -> List UInt8 -> Option (T n × List UInt8)
 | 0, _ => none
 | n + 1, s =>
  if digC (s.headD 0) = true ∨ s.headD 0 = 45 then
   match numOf (numW s) with
   | none => none
   | some m => some ((⟨1, m, ByteArray.empty, [], []⟩ : Nd (T n)), s.drop (numW s).length)
  else if s.headD 0 = 34 then
   match untilP 34 (s.drop 1) with
   | none => none
   | some (w, r) => some ((⟨2, 0, bs w, [], []⟩ : Nd (T n)), r.drop 1)
  else if s.headD 0 = 121 ∨ s.headD 0 = 110 then
   match eatP [121, 101, 115] s with
   | some r => some ((⟨3, 1, ByteArray.empty, [], []⟩ : Nd (T n)), r)
   | none =>
    match eatP [110, 111] s with
    | some r => some ((⟨3, 0, ByteArray.empty, [], []⟩ : Nd (T n)), r)
    | none => none
  else if s.headD 0 = 91 then
   match listQ (parseU n) ((s.drop 1).length + 1) [] (s.drop 1) with
   | none => none
   | some (l, r) => some ((⟨4, 0, ByteArray.empty, [], l⟩ : Nd (T n)), r)
  else if s.headD 0 = 123 then
   match formQ (parseU n) ((s.drop 1).length + 1) [] [] (s.drop 1) with
   | none => none
   | some (ns, l, r) => some ((⟨5, 0, ByteArray.empty, ns, l⟩ : Nd (T n)), r)
  else if s.headD 0 = 126 then some ((⟨6, 0, ByteArray.empty, [], []⟩ : Nd (T n)), s.drop 1)
  else if s.headD 0 = 63 then
   match parseU n (s.drop 1) with
   | none => none
   | some (t, r) => some ((⟨6, 0, ByteArray.empty, [], [t]⟩ : Nd (T n)), r)
  else none
theorem listQ_sound {α : Type} (f : List UInt8 -> Option (α × List UInt8)) (txt : α -> List UInt8) (hf : ∀ s t r, f s = some (t, r) -> s = txt t ++ r)
  (fuel : Nat) (acc : List α) (s : List UInt8) (l : List α) (r : List UInt8) (h : listQ f fuel acc s = some (l, r)) :
  ∃ ks, l = acc ++ ks /\ s = tailL (decide (acc.length = 0)) (ks.map txt) ++ 93 :: r := by
 induction fuel generalizing acc s with
 | zero => simp [listQ] at h
 | succ k ih =>
  rw [listQ] at h
  cases h1 : eatP [93] s with
  | some r1 =>
   rw [h1] at h
   simp only [Option.some.injEq, Prod.mk.injEq] at h
   obtain ⟨rfl, rfl⟩ := h
   exact ⟨[], by simp, by simpa [tailL] using eatP_some h1⟩
  | none =>
   rw [h1] at h
   simp only at h
   cases h2 : (if acc.length = 0 then some s else eatP [44] s) with
   | none => rw [h2] at h; cases h
   | some s1 =>
    rw [h2] at h
    simp only at h
    cases h3 : f s1 with
    | none => rw [h3] at h; cases h
    | some x =>
     obtain ⟨t, r2⟩ := x
     rw [h3] at h
     simp only at h
     have e1 := hf _ _ _ h3
     obtain ⟨ks, k1, k2⟩ := ih _ _ h
     have hacc : decide ((acc ++ [t]).length = 0) = false := by simp
     rw [hacc] at k2
     refine ⟨t :: ks, by simpa using k1, ?_⟩
     simp only [List.map_cons, tailL, List.append_assoc]
     by_cases h0 : acc.length = 0
     ·rw [if_pos h0] at h2; cases h2
      simp only [h0, decide_true, if_true]
      rw [<- k2]; exact e1
     ·rw [if_neg h0] at h2
      simp only [h0, decide_false, Bool.false_eq_true, if_false, List.cons_append]
      rw [<- k2, <- e1]; exact eatP_some h2
theorem headU_eq {s : List UInt8} {c : UInt8} (h : s.headD 0 = c) (hc : c ≠ 0) : s = c :: s.drop 1 := by
 cases s with
 | nil => exact absurd h.symm hc
 | cons d r => simp at h; subst h; rfl
theorem parseU_sound : ∀ (n : Nat) (s : List UInt8) (t : T n) (r : List UInt8), parseU n s = some (t, r) -> s = txtL n t ++ r := by
 intro n
 induction n with
 | zero => intro s t r h; simp [parseU] at h
 | succ n ih =>
  intro s t r h
  rw [parseU] at h
  split at h
  ·cases h1 : numOf (numW s) with
   | none => rw [h1] at h; cases h
   | some m =>
    rw [h1] at h; cases h
    have := (numOf_some h1).2
    simp only [txtL, if_true]
    rw [this]; exact (numW_prefix s).symm
  split at h
  ·next hc =>
   cases h1 : untilP 34 (s.drop 1) with
   | none => rw [h1] at h; cases h
   | some x =>
    obtain ⟨w, r1⟩ := x
    rw [h1] at h; cases h
    obtain ⟨r', e1, e2, -⟩ := untilP_some h1
    rw [headU_eq hc (by decide), e2, e1]
    simp [txtL, bs_toList]
  split at h
  ·cases h1 : eatP [121, 101, 115] s with
   | some r1 => rw [h1] at h; cases h; simpa [txtL] using eatP_some h1
   | none =>
    rw [h1] at h
    simp only at h
    cases h2 : eatP [110, 111] s with
    | some r1 => rw [h2] at h; cases h; simpa [txtL] using eatP_some h2
    | none => rw [h2] at h; cases h
  split at h
  ·next hc =>
   cases h1 : listQ (parseU n) ((s.drop 1).length + 1) [] (s.drop 1) with
   | none => rw [h1] at h; cases h
   | some x =>
    obtain ⟨l, r1⟩ := x
    rw [h1] at h; cases h
    obtain ⟨ks, k1, k2⟩ := listQ_sound _ (txtL n) (fun s t r h => ih s t r h) _ _ _ _ _ h1
    simp only [List.nil_append] at k1
    subst k1
    simp only [List.length_nil, decide_true, tailL_true] at k2
    rw [headU_eq hc (by decide), k2]; simp [txtL]
  split at h
  ·next hc =>
   cases h1 : formQ (parseU n) ((s.drop 1).length + 1) [] [] (s.drop 1) with
   | none => rw [h1] at h; cases h
   | some x =>
    obtain ⟨ns, l, r1⟩ := x
    rw [h1] at h; cases h
    obtain ⟨ms, ks, m1, k1, ml, k2⟩ := formQ_sound _ (txtL n) (fun s t r h => ih s t r h) _ _ _ _ _ _ _ h1
    simp only [List.nil_append] at m1 k1
    subst m1 k1
    simp only [List.length_nil, decide_true, tailL_true] at k2
    rw [headU_eq hc (by decide), k2]; simp [txtL]
  split at h
  ·next hc => cases h; rw [headU_eq hc (by decide)]; simp [txtL, mayTxt]
  split at h
  ·next hc =>
   cases h1 : parseU n (s.drop 1) with
   | none => rw [h1] at h; cases h
   | some x =>
    obtain ⟨t1, r1⟩ := x
    rw [h1] at h; cases h
    have := ih _ _ _ h1
    rw [headU_eq hc (by decide), this]; simp [txtL, mayTxt]
  ·cases h
theorem txtL_pos (n : Nat) (t : T (n + 1)) : 1 <= (txtL (n + 1) t).length := by
 obtain ⟨c, r, e, -⟩ := txtL_head n t
 rw [e]; simp
theorem parseU_shrinks (n : Nat) (s : List UInt8) (t : T n) (r : List UInt8) (h : parseU n s = some (t, r)) : r.length < s.length := by
 have := parseU_sound n s t r h
 cases n with
 | zero => simp [parseU] at h
 | succ n =>
  have h2 := txtL_pos n t
  rw [this, List.length_append]; omega
theorem listQ_complete {α : Type} (f : List UInt8 -> Option (α × List UInt8)) (txt : α -> List UInt8) (ks : List α) (hf : ∀ k, k ∈ ks -> ∀ post, noDig post = true -> f (txt k ++ post) = some (k, post))
  (hh : ∀ k, k ∈ ks -> ∃ c r, txt k = c :: r /\ begB c = true) (fuel : Nat) (acc : List α) (post : List UInt8) (hfu : ks.length < fuel) :
  listQ f fuel acc (tailL (decide (acc.length = 0)) (ks.map txt) ++ 93 :: post) = some (acc ++ ks, post) := by
 induction ks generalizing fuel acc with
 | nil =>
  cases fuel with
  | zero => simp at hfu
  | succ k => simp [listQ, tailL, eatP_one_cons]
 | cons x ks ih =>
  cases fuel with
  | zero => omega
  | succ k =>
   have hnd : noDig (tailL false (ks.map txt) ++ 93 :: post) = true := by
    cases ks with
    | nil => rfl
    | cons y r => rw [List.map_cons, tailL_cons_false]; rfl
   have step := hf x (List.mem_cons_self ..) (tailL false (ks.map txt) ++ 93 :: post) hnd
   have rest := ih (fun k hk => hf k (List.mem_cons_of_mem _ hk)) (fun k hk => hh k (List.mem_cons_of_mem _ hk)) k (acc ++ [x]) (by simp at hfu; omega)
   have hacc : decide ((acc ++ [x]).length = 0) = false := by simp
   rw [hacc] at rest
   obtain ⟨c, r, e, hb⟩ := hh x (List.mem_cons_self ..)
   simp only [List.map_cons, tailL, List.append_assoc]
   by_cases h0 : acc.length = 0
   ·simp only [h0, decide_true, if_true]
    rw [listQ]
    have hh1 : eatP [93] (txt x ++ (tailL false (ks.map txt) ++ 93 :: post)) = none := by rw [e, List.cons_append]; exact eatP_one_ne _ _ _ (beg_ne hb).1
    rw [hh1]
    simp only [h0, if_true]
    rw [step]
    simp only
    rw [rest]
    simp
   ·simp only [h0, decide_false, if_false, Bool.false_eq_true, List.cons_append]
    rw [listQ, eatP_one_ne _ _ _ (by decide)]
    simp only [h0, if_false, eatP_one_cons]
    rw [step]
    simp only
    rw [rest]
    simp
theorem formQ_completeT {α : Type} (f : List UInt8 -> Option (α × List UInt8)) (txt : α -> List UInt8) (ks : List α) (hf : ∀ k, k ∈ ks -> ∀ post, noDig post = true -> f (txt k ++ post) = some (k, post))
  (ms : List ByteArray) (hms : ∀ s, s ∈ ms -> nameB s = true) (hlen : ms.length = ks.length) (fuel : Nat) (ns : List ByteArray) (acc : List α) (post : List UInt8) (hfu : ks.length < fuel) :
  formQ f fuel ns acc (tailL (decide (ns.length = 0)) (zipL ms (ks.map txt)) ++ 125 :: post) = some (ns ++ ms, acc ++ ks, post) := by
 induction ks generalizing fuel ns acc ms with
 | nil =>
  have : ms = [] := List.eq_nil_of_length_eq_zero (by simpa using hlen)
  subst this
  cases fuel with
  | zero => simp at hfu
  | succ k => simp [formQ, tailL, zipL, eatP_one_cons]
 | cons x ks ih =>
  cases ms with
  | nil => simp at hlen
  | cons m ms =>
  cases fuel with
  | zero => omega
  | succ k =>
   have hm := hms m (List.mem_cons_self ..)
   have hmb := nameB_bytes hm
   have hnd : noDig (tailL false (zipL ms (ks.map txt)) ++ 125 :: post) = true := by
    cases zipL ms (ks.map txt) with
    | nil => rfl
    | cons y r => rw [tailL_cons_false]; rfl
   have step := hf x (List.mem_cons_self ..) (tailL false (zipL ms (ks.map txt)) ++ 125 :: post) hnd
   have rest := ih (fun k hk => hf k (List.mem_cons_of_mem _ hk)) ms (fun s hs => hms s (List.mem_cons_of_mem _ hs)) (by simpa using hlen) k (ns ++ [m]) (acc ++ [x]) (by simp at hfu; omega)
   have hacc : decide ((ns ++ [m]).length = 0) = false := by simp
   rw [hacc] at rest
   have hun := untilP_append 58 m.data.toList (txt x ++ (tailL false (zipL ms (ks.map txt)) ++ 125 :: post)) (fun c hc => (nm_ne (hmb c hc)).1)
   obtain ⟨c, r, e, hcb⟩ := name_head hm
   have hcn := nm_ne hcb
   simp only [List.map_cons, zipL, tailL, List.append_assoc]
   by_cases h0 : ns.length = 0
   ·simp only [h0, decide_true, if_true, List.append_assoc, List.cons_append]
    rw [formQ]
    have hh1 : eatP [125] (m.data.toList ++ 58 :: (txt x ++ (tailL false (zipL ms (ks.map txt)) ++ 125 :: post))) = none := by rw [e, List.cons_append]; exact eatP_one_ne _ _ _ hcn.2.1
    rw [hh1]
    simp only [h0, if_true]
    rw [hun]
    simp only [List.drop_succ_cons, List.drop_zero]
    rw [step]
    simp only [bs_of]
    rw [rest]
    simp
   ·simp only [h0, decide_false, if_false, Bool.false_eq_true, List.append_assoc, List.cons_append]
    rw [formQ, eatP_one_ne _ _ _ (by decide)]
    simp only [h0, if_false, eatP_one_cons]
    rw [hun]
    simp only [List.drop_succ_cons, List.drop_zero]
    rw [step]
    simp only [bs_of]
    rw [rest]
    simp
theorem parseU_complete : ∀ (n : Nat) (t : T n) (d : Int) (post : List UInt8), goodT n t d = true -> noDig post = true -> parseU n (txtL n t ++ post) = some (t, post) := by
 intro n
 induction n with
 | zero => intro t d post h; simp [goodT] at h
 | succ n ih =>
  intro t d post h hnd
  rcases goodT_cases h with ⟨k, q0, q1, q2⟩ | ⟨y, q3, q1, q2⟩ | ⟨q1, q2⟩ | ⟨q1, q2⟩ | ⟨ks, q1, q3, q2⟩ | ⟨ns, ks, q1, q3, q4, q5, q2⟩ | ⟨q1, q2⟩ | ⟨y, q1, q3, q2⟩
  ·rw [q2, parseU]
   obtain ⟨c, r, e, hc⟩ := itoa_head k
   have hh : (Lib.itoa k ++ post).headD 0 = c := by rw [e]; rfl
   rw [hh, if_pos hc, numW_itoa k post hnd, numOf_itoa k q0]
   simp [q1]
  ·have e : txtL (n + 1) t ++ post = 34 :: (y.data.toList ++ 34 :: post) := by rw [q2]; simp
   rw [e, parseU]
   simp only [List.headD_cons, List.drop_succ_cons, List.drop_zero, untilP_append 34 _ _ (textB_bytes q3), bs_of, q1]
   simp [digC]
  ·rw [q2, parseU]
   simp only [List.cons_append, List.nil_append, List.headD_cons, q1]
   simp [digC, eatP, List.isPrefixOf]
  ·rw [q2, parseU]
   simp only [List.cons_append, List.nil_append, List.headD_cons, q1]
   simp [digC, eatP, List.isPrefixOf]
  ·have e : txtL (n + 1) t ++ post = 91 :: (tailL true (ks.map (txtL n)) ++ 93 :: post) := by rw [q2, tailL_true]; simp
   have hfu : ks.length < (tailL true (ks.map (txtL n)) ++ 93 :: post).length + 1 := by
    have h1 := tailL_count (ks.map (txtL n)) (fun x hx => by
     obtain ⟨k, hk, rfl⟩ := List.mem_map.1 hx
     obtain ⟨c, r, e, -⟩ := good_head n k (d + 1) (q3 k hk)
     rw [e]; simp) true
    rw [List.length_map] at h1
    simp only [List.length_append, List.length_cons]; omega
   have hlist := listQ_complete (parseU n) (txtL n) ks (fun k hk post hp => ih k (d + 1) post (q3 k hk) hp) (fun k hk => good_head n k (d + 1) (q3 k hk)) _ [] post hfu
   simp only [List.length_nil, decide_true, List.nil_append] at hlist
   rw [e, parseU]
   simp only [List.headD_cons, List.drop_succ_cons, List.drop_zero, hlist, q1]
   simp [digC]
  ·have e : txtL (n + 1) t ++ post = 123 :: (tailL true (zipL ns (ks.map (txtL n))) ++ 125 :: post) := by rw [q2, tailL_true]; simp
   have hfu : ks.length < (tailL true (zipL ns (ks.map (txtL n))) ++ 125 :: post).length + 1 := by
    have h1 := tailL_count (zipL ns (ks.map (txtL n))) (zipL_ne _ _) true
    rw [zipL_length _ _ (by simpa using q3), List.length_map] at h1
    simp only [List.length_append, List.length_cons]; omega
   have hform := formQ_completeT (parseU n) (txtL n) ks (fun k hk post hp => ih k (d + 1) post (q5 k hk) hp) ns q4 q3 _ [] [] post hfu
   simp only [List.length_nil, decide_true, List.nil_append] at hform
   rw [e, parseU]
   simp only [List.headD_cons, List.drop_succ_cons, List.drop_zero, hform, q1]
   simp [digC]
  ·rw [q2, parseU]
   simp only [List.cons_append, List.nil_append, List.headD_cons, q1]
   simp [digC]
  ·rw [q2, parseU]
   simp only [List.cons_append, List.headD_cons, List.drop_succ_cons, List.drop_zero, ih y (d + 1) post q3 hnd, q1]
   simp [digC]
theorem okT_parts {n : Nat} {t : T n} (h : okT n t = true) : goodT n t 1 = true /\ cntT n t <= 120 := by
 simpa only [okT, Bool.and_eq_true, decide_eq_true_eq] using h
end Go.Proofs.YtmjhcgjhlakceaaGreatDoor

namespace Go.Proofs.YtmjhcgjhlakceaaGreatDoor
open Go.RowKit
theorem zeroT_cells {w : World} {N : Nat} (h : w.heap[N]? = some (.cells #[.int .i64 0, .int .i64 0, .string ⟨#[]⟩, .slice none 0 0, .slice none 0 0] 27 (0, 0))) :
  (w.cell? ⟨N, 0, none⟩ = some (.int .i64 0) /\ w.cell? ⟨N, 1, none⟩ = some (.int .i64 0) /\ w.cell? ⟨N, 2, none⟩ = some (.string ⟨#[]⟩) /\ w.cell? ⟨N, 3, none⟩ = some (.slice none 0 0) /\ w.cell? ⟨N, 4, none⟩ = some (.slice none 0 0)) /\
   w.frozen? ⟨N, 0, none⟩ = false /\ w.frozen? ⟨N, 1, none⟩ = false /\ w.frozen? ⟨N, 2, none⟩ = false /\ w.frozen? ⟨N, 3, none⟩ = false /\ w.frozen? ⟨N, 4, none⟩ = false := by
 refine ⟨⟨?_, ?_, ?_, ?_, ?_⟩, ?_, ?_, ?_, ?_, ?_⟩ <;> simp [World.cell?, World.frozen?, h]
theorem leafT_in (S : Nat -> Prop) (w : World) (m : Nat) (x v : Int) (tx : ByteArray) (hx : (Lit.int .i64 x).wf = true) (hv : (Lit.int .i64 v).wf = true) (ht : tx.size <= 10000) : TreeIn S w (m + 1) (⟨x, v, tx, [], []⟩ : Nd (T m)) (.int .i64 x) (.int .i64 v) (.string tx) (.slice none 0 0) (.slice none 0 0) :=
 ⟨rfl, rfl, rfl, by show tx.size <= _; unfold maxLen; omega, hx, hv, ⟨none, 0, rfl, by simp [maxLen], fun s h => (by cases h), fun h => absurd rfl h⟩, ⟨none, 0, rfl, by simp [maxLen], fun h => absurd rfl h⟩⟩
theorem wfT (x : Int) (h0 : -9999999999 <= x) (h1 : x <= 9999999999) : (Lit.int .i64 x).wf = true := by
 simp only [Lit.wf, Bool.and_eq_true, decide_eq_true_eq]
 have a : IntKind.i64.min = -9223372036854775808 := by rfl
 have b : IntKind.i64.max = 9223372036854775807 := by rfl
 rw [a, b]; omega
theorem rt_exit {m n R i i' : Nat} {s : ByteArray} {bad bad' : Bool} {w W : World} {t : T m} {g0 g1 g2 g3 g4 : Value} (hn : Near R w W) (hR : R < w.heap.size) (hr : RdS W R s i' bad') (hk : TreeIn (fun b => w.heap.size + 1 <= b /\ b < W.heap.size) W m t g0 g1 g2 g3 g4) (hg : GotT m n s i bad t i' bad') :
  ReadPost m n w R s i bad (.returned (.agg #[g0, g1, g2, g3, g4])) (put5 W w.heap.size 0 g0 g1 g2 g3 g4) := by
 have q : ∀ b, b ≠ w.heap.size -> (put5 W w.heap.size 0 g0 g1 g2 g3 g4).heap[b]? = W.heap[b]? := fun b h => put5_other h
 have hz : (put5 W w.heap.size 0 g0 g1 g2 g3 g4).heap.size = W.heap.size := put5_size
 have hbl : Below 0 W (put5 W w.heap.size 0 g0 g1 g2 g3 g4) := put5_below (Below.refl 0 W) (Nat.zero_le _)
 exact ⟨⟨hbl.os.trans hn.os, hbl.tape.trans hn.tape, hbl.output.trans hn.output, by rw [hz]; exact hn.size, fun b hb hne => (q b (by omega)).trans (hn.block b hb hne)⟩, t, _, _, _, _, _, i', bad', rfl, hk.keep (fun b hb => q b (by omega)) (fun b hb => ⟨by omega, by rw [hz]; exact hb.2⟩), (q R (by omega)).trans hr, hg⟩
set_option maxRecDepth 20000 in
set_option maxHeartbeats 1000000 in
theorem l1_stop (n m R : Nat) (s : ByteArray) (i : Nat) (bad : Bool) (w : World) (h : RdS w R s i bad) (hb : bad = true ∨ n = 0) (hi : bad = false -> i <= s.size) :
  Calls Tryz.prog 36 #[.pointer (some ⟨R, 0, none⟩), .int .i64 (7 - (n : Int))] w (ReadPost (m + 1) n w R s i bad) := by
 have hR := h.lt
 have hG : GotT (m + 1) n s i bad (⟨0, 0, ⟨#[]⟩, [], []⟩ : Nd (T m)) i true := by
  refine ⟨Nat.le_refl _, fun h => (by cases h), fun hf => (by have := hi hf; omega), fun _ => rfl, fun t0 post hf he hg _ => ?_⟩
  rcases hb with hb | hb
  ·rw [hb] at hf; cases hf
  ·subst hb
   simp [goodT] at hg
 have HP : Hid (∀ o, ReadPost (m + 1) n w R s i bad (.returned (.agg #[.int .i64 0, .int .i64 0, .string ⟨#[]⟩, .slice none 0 0, .slice none 0 0])) ((w.setCell ⟨R, 2, none⟩ (.bool true)).alloc o)) := fun o =>
  ⟨(Near.set R 2 w _).trans (Near.alloc _ _ _), _, _, _, _, _, _, i, true, rfl, leafT_in _ _ m 0 0 _ rfl rfl (by decide), (Below.heap_alloc _ _ _ (by simpa using hR)).trans (h.set2 true), hG⟩
 have c2 := h.cell2
 have fz := h.free 2
 have hdeep : bad = false -> (6 : Int) < 7 - (n : Int) := fun hf => by
  rcases hb with hb | hb
  ·rw [hb] at hf; cases hf
  ·omega
 clear hG h
 cases bad with
 | true =>
  clear hdeep hi
  go_enter Tryz.func36, Tryz.ntmps36
  go_wp2_with fail
  refine bodyPost_ret (v := .agg #[.int .i64 0, .int .i64 0, .string ⟨#[]⟩, .slice none 0 0, .slice none 0 0]) (by simp [results, Tryz.results36, go_sem]) rfl ?_
  exact HP.out _
 | false =>
  have hdp := hdeep rfl
  clear hdeep hi
  go_enter Tryz.func36, Tryz.ntmps36
  go_wp2_with fail
  refine bodyPost_ret (v := .agg #[.int .i64 0, .int .i64 0, .string ⟨#[]⟩, .slice none 0 0, .slice none 0 0]) (by simp [results, Tryz.results36, go_sem]) rfl ?_
  exact HP.out _
set_option maxRecDepth 20000 in
set_option maxHeartbeats 2000000 in
theorem l1_yes (n m R : Nat) (s : ByteArray) (i : Nat) (w : World) (h : RdS w R s i false) (hs : s.size <= 10000) (hi : i <= s.size) (hl : lookB s i = 121) :
  Calls Tryz.prog 36 #[.pointer (some ⟨R, 0, none⟩), .int .i64 (7 - ((n + 1 : Nat) : Int))] w (ReadPost (m + 1) (n + 1) w R s i false) := by
 have hR := h.lt
 obtain ⟨W1, hW1⟩ : ∃ W1, W1 = w.alloc (.cells #[.int .i64 0, .int .i64 0, .string ⟨#[]⟩, .slice none 0 0, .slice none 0 0] 27) := ⟨_, rfl⟩
 have hz1 : W1.heap.size = w.heap.size + 1 := by rw [hW1]; simp
 have hb1 : Below w.heap.size w W1 := by rw [hW1]; exact (Below.refl _ _).alloc (Nat.le_refl _) _
 have hzero : W1.heap[w.heap.size]? = some (.cells #[.int .i64 0, .int .i64 0, .string ⟨#[]⟩, .slice none 0 0, .slice none 0 0] 27 (0, 0)) := by rw [hW1]; exact heap_alloc_new _ _
 have hr1 : RdS W1 R s i false := (hb1.block R hR).trans h
 have c2 := hr1.cell2
 rw [hW1] at c2
 have hdeep : ¬ (6 : Int) < 7 - ((n + 1 : Nat) : Int) := by omega
 have HL : Hid (Calls Tryz.prog 65 #[.pointer (some ⟨R, 0, none⟩)] W1 fun e w' => e = .returned (.int .u8 (((lookB s i).toNat : Nat) : Int)) /\ Near R w w' /\ RdS w' R s i false /\ w'.heap.size = w.heap.size + 1 /\ w'.heap[w.heap.size]? = some (.cells #[.int .i64 0, .int .i64 0, .string ⟨#[]⟩, .slice none 0 0, .slice none 0 0] 27 (0, 0))) :=
  (look_any W1 R s i false hr1).mono fun e w' ⟨he, k, hk⟩ => by
   subst hk
   exact ⟨he, ((Near.of_below hb1).trans (Near.refl R W1)).drewN k, hr1.drewN k, hz1, hzero⟩
 have HLK : Hid (lookB s i = 121) := hl
 have hc : ((lookB s i).toNat : Nat) = 121 := by rw [hl]; rfl
 rw [hc] at HL
 clear hr1 hzero hb1 h hl hc
 generalize hdp : 7 - ((n + 1 : Nat) : Int) = dp at *
 clear hdp
 go_enter Tryz.func36, Tryz.ntmps36
 go_wp2_with fail
 rw [<- hW1]
 clear hW1 c2
 refine HL.out.mono ?_
 rintro e w2 ⟨rfl, hn2, hr2, hz2, hzero2⟩
 have HE : Hid (Calls Tryz.prog 34 #[.pointer (some ⟨R, 0, none⟩), .string ⟨#[121, 101, 115]⟩] w2 _) := eat_any w2 R s ⟨#[121, 101, 115]⟩ i false hr2 hs (by decide) hi
 clear HL hr2
 go_wp2_with fail
 refine HE.out.mono ?_
 rintro e w3 ⟨rfl, hn3, hor⟩
 have hz3 := hn3.size
 obtain ⟨⟨r0, r1, r2, r3, r4⟩, f0, f1, f2, f3, f4⟩ := zeroT_cells ((hn3.block w.heap.size (by omega) (by omega)).trans hzero2)
 have HP : Hid (ReadPost (m + 1) (n + 1) w R s i false (.returned (.agg #[.int .i64 3, .int .i64 1, .string ⟨#[]⟩, .slice none 0 0, .slice none 0 0])) (put5 w3 w.heap.size 0 (.int .i64 3) (.int .i64 1) (.string ⟨#[]⟩) (.slice none 0 0) (.slice none 0 0))) := by
  rcases hor with ⟨q1, q2, q3⟩ | ⟨q1, q3⟩
  ·exact rt_exit (hn2.trans hn3) hR q3 (leafT_in _ _ m 3 1 _ rfl rfl (by decide)) (word_got (x := ⟨#[121, 101, 115]⟩) hi (.inl ⟨q1, q2, rfl, rfl⟩) (by decide) (fun t0 post he hg => yes_one HLK.out t0 post he hg))
  ·exact rt_exit (hn2.trans hn3) hR q3 (leafT_in _ _ m 3 1 _ rfl rfl (by decide)) (word_got (x := ⟨#[121, 101, 115]⟩) hi (.inr ⟨q1, rfl, rfl⟩) (by decide) (fun t0 post he hg => yes_one HLK.out t0 post he hg))
 clear HE hor hn3 hn2 hzero2
 go_wp2_with fail
 refine bodyPost_ret (v := .agg #[.int .i64 3, .int .i64 1, .string ⟨#[]⟩, .slice none 0 0, .slice none 0 0]) (by simp [results, Tryz.results36, go_sem, r0, r1, r2, r3, r4]) rfl ?_
 exact HP.out
set_option maxRecDepth 20000 in
set_option maxHeartbeats 2000000 in
theorem l1_no (n m R : Nat) (s : ByteArray) (i : Nat) (w : World) (h : RdS w R s i false) (hs : s.size <= 10000) (hi : i <= s.size) (hl : lookB s i = 110) :
  Calls Tryz.prog 36 #[.pointer (some ⟨R, 0, none⟩), .int .i64 (7 - ((n + 1 : Nat) : Int))] w (ReadPost (m + 1) (n + 1) w R s i false) := by
 have hR := h.lt
 obtain ⟨W1, hW1⟩ : ∃ W1, W1 = w.alloc (.cells #[.int .i64 0, .int .i64 0, .string ⟨#[]⟩, .slice none 0 0, .slice none 0 0] 27) := ⟨_, rfl⟩
 have hz1 : W1.heap.size = w.heap.size + 1 := by rw [hW1]; simp
 have hb1 : Below w.heap.size w W1 := by rw [hW1]; exact (Below.refl _ _).alloc (Nat.le_refl _) _
 have hzero : W1.heap[w.heap.size]? = some (.cells #[.int .i64 0, .int .i64 0, .string ⟨#[]⟩, .slice none 0 0, .slice none 0 0] 27 (0, 0)) := by rw [hW1]; exact heap_alloc_new _ _
 have hr1 : RdS W1 R s i false := (hb1.block R hR).trans h
 have c2 := hr1.cell2
 rw [hW1] at c2
 have hdeep : ¬ (6 : Int) < 7 - ((n + 1 : Nat) : Int) := by omega
 have HL : Hid (Calls Tryz.prog 65 #[.pointer (some ⟨R, 0, none⟩)] W1 fun e w' => e = .returned (.int .u8 (((lookB s i).toNat : Nat) : Int)) /\ Near R w w' /\ RdS w' R s i false /\ w'.heap.size = w.heap.size + 1 /\ w'.heap[w.heap.size]? = some (.cells #[.int .i64 0, .int .i64 0, .string ⟨#[]⟩, .slice none 0 0, .slice none 0 0] 27 (0, 0))) :=
  (look_any W1 R s i false hr1).mono fun e w' ⟨he, k, hk⟩ => by
   subst hk
   exact ⟨he, ((Near.of_below hb1).trans (Near.refl R W1)).drewN k, hr1.drewN k, hz1, hzero⟩
 have HLK : Hid (lookB s i = 110) := hl
 have hc : ((lookB s i).toNat : Nat) = 110 := by rw [hl]; rfl
 rw [hc] at HL
 clear hr1 hzero hb1 h hl hc
 generalize hdp : 7 - ((n + 1 : Nat) : Int) = dp at *
 clear hdp
 go_enter Tryz.func36, Tryz.ntmps36
 go_wp2_with fail
 rw [<- hW1]
 clear hW1 c2
 refine HL.out.mono ?_
 rintro e w2 ⟨rfl, hn2, hr2, hz2, hzero2⟩
 have HE : Hid (Calls Tryz.prog 34 #[.pointer (some ⟨R, 0, none⟩), .string ⟨#[110, 111]⟩] w2 _) := eat_any w2 R s ⟨#[110, 111]⟩ i false hr2 hs (by decide) hi
 clear HL hr2
 go_wp2_with fail
 refine HE.out.mono ?_
 rintro e w3 ⟨rfl, hn3, hor⟩
 have hz3 := hn3.size
 obtain ⟨⟨r0, r1, r2, r3, r4⟩, f0, f1, f2, f3, f4⟩ := zeroT_cells ((hn3.block w.heap.size (by omega) (by omega)).trans hzero2)
 have HP : Hid (ReadPost (m + 1) (n + 1) w R s i false (.returned (.agg #[.int .i64 3, .int .i64 0, .string ⟨#[]⟩, .slice none 0 0, .slice none 0 0])) (put5 w3 w.heap.size 0 (.int .i64 3) (.int .i64 0) (.string ⟨#[]⟩) (.slice none 0 0) (.slice none 0 0))) := by
  rcases hor with ⟨q1, q2, q3⟩ | ⟨q1, q3⟩
  ·exact rt_exit (hn2.trans hn3) hR q3 (leafT_in _ _ m 3 0 _ rfl rfl (by decide)) (word_got (x := ⟨#[110, 111]⟩) hi (.inl ⟨q1, q2, rfl, rfl⟩) (by decide) (fun t0 post he hg => no_one HLK.out t0 post he hg))
  ·exact rt_exit (hn2.trans hn3) hR q3 (leafT_in _ _ m 3 0 _ rfl rfl (by decide)) (word_got (x := ⟨#[110, 111]⟩) hi (.inr ⟨q1, rfl, rfl⟩) (by decide) (fun t0 post he hg => no_one HLK.out t0 post he hg))
 clear HE hor hn3 hn2 hzero2
 go_wp2_with fail
 refine bodyPost_ret (v := .agg #[.int .i64 3, .int .i64 0, .string ⟨#[]⟩, .slice none 0 0, .slice none 0 0]) (by simp [results, Tryz.results36, go_sem, r0, r1, r2, r3, r4]) rfl ?_
 exact HP.out
set_option maxRecDepth 20000 in
set_option maxHeartbeats 2000000 in
theorem l1_none (n m R : Nat) (s : ByteArray) (i : Nat) (w : World) (h : RdS w R s i false) (hs : s.size <= 10000) (hi : i <= s.size) (hl : lookB s i = 126) :
  Calls Tryz.prog 36 #[.pointer (some ⟨R, 0, none⟩), .int .i64 (7 - ((n + 1 : Nat) : Int))] w (ReadPost (m + 1) (n + 1) w R s i false) := by
 have hR := h.lt
 obtain ⟨W1, hW1⟩ : ∃ W1, W1 = w.alloc (.cells #[.int .i64 0, .int .i64 0, .string ⟨#[]⟩, .slice none 0 0, .slice none 0 0] 27) := ⟨_, rfl⟩
 have hz1 : W1.heap.size = w.heap.size + 1 := by rw [hW1]; simp
 have hb1 : Below w.heap.size w W1 := by rw [hW1]; exact (Below.refl _ _).alloc (Nat.le_refl _) _
 have hzero : W1.heap[w.heap.size]? = some (.cells #[.int .i64 0, .int .i64 0, .string ⟨#[]⟩, .slice none 0 0, .slice none 0 0] 27 (0, 0)) := by rw [hW1]; exact heap_alloc_new _ _
 have hr1 : RdS W1 R s i false := (hb1.block R hR).trans h
 have c2 := hr1.cell2
 rw [hW1] at c2
 have hdeep : ¬ (6 : Int) < 7 - ((n + 1 : Nat) : Int) := by omega
 have HL : Hid (Calls Tryz.prog 65 #[.pointer (some ⟨R, 0, none⟩)] W1 fun e w' => e = .returned (.int .u8 (((lookB s i).toNat : Nat) : Int)) /\ Near R w w' /\ RdS w' R s i false /\ w'.heap.size = w.heap.size + 1 /\ w'.heap[w.heap.size]? = some (.cells #[.int .i64 0, .int .i64 0, .string ⟨#[]⟩, .slice none 0 0, .slice none 0 0] 27 (0, 0))) :=
  (look_any W1 R s i false hr1).mono fun e w' ⟨he, k, hk⟩ => by
   subst hk
   exact ⟨he, ((Near.of_below hb1).trans (Near.refl R W1)).drewN k, hr1.drewN k, hz1, hzero⟩
 have HLK : Hid (lookB s i = 126) := hl
 have hc : ((lookB s i).toNat : Nat) = 126 := by rw [hl]; rfl
 rw [hc] at HL
 clear hr1 hzero hb1 h hl hc
 generalize hdp : 7 - ((n + 1 : Nat) : Int) = dp at *
 clear hdp
 go_enter Tryz.func36, Tryz.ntmps36
 go_wp2_with fail
 rw [<- hW1]
 clear hW1 c2
 refine HL.out.mono ?_
 rintro e w2 ⟨rfl, hn2, hr2, hz2, hzero2⟩
 have HE : Hid (Calls Tryz.prog 34 #[.pointer (some ⟨R, 0, none⟩), .string ⟨#[126]⟩] w2 _) := eat_any w2 R s ⟨#[126]⟩ i false hr2 hs (by decide) hi
 clear HL hr2
 go_wp2_with fail
 refine HE.out.mono ?_
 rintro e w3 ⟨rfl, hn3, hor⟩
 have hz3 := hn3.size
 obtain ⟨⟨r0, r1, r2, r3, r4⟩, f0, f1, f2, f3, f4⟩ := zeroT_cells ((hn3.block w.heap.size (by omega) (by omega)).trans hzero2)
 have HP : Hid (ReadPost (m + 1) (n + 1) w R s i false (.returned (.agg #[.int .i64 6, .int .i64 0, .string ⟨#[]⟩, .slice none 0 0, .slice none 0 0])) (put5 w3 w.heap.size 0 (.int .i64 6) (.int .i64 0) (.string ⟨#[]⟩) (.slice none 0 0) (.slice none 0 0))) := by
  rcases hor with ⟨q1, q2, q3⟩ | ⟨q1, q3⟩
  ·exact rt_exit (hn2.trans hn3) hR q3 (leafT_in _ _ m 6 0 _ rfl rfl (by decide)) (word_got (x := ⟨#[126]⟩) hi (.inl ⟨q1, q2, rfl, rfl⟩) (by decide) (fun t0 post he hg => none_one HLK.out t0 post he hg))
  ·exact rt_exit (hn2.trans hn3) hR q3 (leafT_in _ _ m 6 0 _ rfl rfl (by decide)) (word_got (x := ⟨#[126]⟩) hi (.inr ⟨q1, rfl, rfl⟩) (by decide) (fun t0 post he hg => none_one HLK.out t0 post he hg))
 clear HE hor hn3 hn2 hzero2
 go_wp2_with fail
 refine bodyPost_ret (v := .agg #[.int .i64 6, .int .i64 0, .string ⟨#[]⟩, .slice none 0 0, .slice none 0 0]) (by simp [results, Tryz.results36, go_sem, r0, r1, r2, r3, r4]) rfl ?_
 exact HP.out
set_option maxRecDepth 20000 in
set_option maxHeartbeats 2000000 in
theorem l1_text (n m R : Nat) (s : ByteArray) (i : Nat) (w : World) (h : RdS w R s i false) (hs : s.size <= 10000) (hi : i <= s.size) (hl : lookB s i = 34) :
  Calls Tryz.prog 36 #[.pointer (some ⟨R, 0, none⟩), .int .i64 (7 - ((n + 1 : Nat) : Int))] w (ReadPost (m + 1) (n + 1) w R s i false) := by
 have hR := h.lt
 obtain ⟨W1, hW1⟩ : ∃ W1, W1 = w.alloc (.cells #[.int .i64 0, .int .i64 0, .string ⟨#[]⟩, .slice none 0 0, .slice none 0 0] 27) := ⟨_, rfl⟩
 have hz1 : W1.heap.size = w.heap.size + 1 := by rw [hW1]; simp
 have hb1 : Below w.heap.size w W1 := by rw [hW1]; exact (Below.refl _ _).alloc (Nat.le_refl _) _
 have hzero : W1.heap[w.heap.size]? = some (.cells #[.int .i64 0, .int .i64 0, .string ⟨#[]⟩, .slice none 0 0, .slice none 0 0] 27 (0, 0)) := by rw [hW1]; exact heap_alloc_new _ _
 have hr1 : RdS W1 R s i false := (hb1.block R hR).trans h
 have c2 := hr1.cell2
 rw [hW1] at c2
 have hdeep : ¬ (6 : Int) < 7 - ((n + 1 : Nat) : Int) := by omega
 have HL : Hid (Calls Tryz.prog 65 #[.pointer (some ⟨R, 0, none⟩)] W1 fun e w' => e = .returned (.int .u8 (((lookB s i).toNat : Nat) : Int)) /\ Near R w w' /\ RdS w' R s i false /\ w'.heap.size = w.heap.size + 1 /\ w'.heap[w.heap.size]? = some (.cells #[.int .i64 0, .int .i64 0, .string ⟨#[]⟩, .slice none 0 0, .slice none 0 0] 27 (0, 0))) :=
  (look_any W1 R s i false hr1).mono fun e w' ⟨he, k, hk⟩ => by
   subst hk
   exact ⟨he, ((Near.of_below hb1).trans (Near.refl R W1)).drewN k, hr1.drewN k, hz1, hzero⟩
 have HLK : Hid (lookB s i = 34) := hl
 have hc : ((lookB s i).toNat : Nat) = 34 := by rw [hl]; rfl
 rw [hc] at HL
 have hilt : i < s.size := Classical.byContradiction fun hge => by rw [lookB_out s i (by omega)] at hl; exact absurd hl (by decide)
 have h34 : s[i] = 34 := by rw [<- lookB_in s i hilt]; exact hl
 clear hr1 hzero hb1 h hl hc
 generalize hdp : 7 - ((n + 1 : Nat) : Int) = dp at *
 clear hdp
 go_enter Tryz.func36, Tryz.ntmps36
 go_wp2_with fail
 rw [<- hW1]
 clear hW1 c2
 refine HL.out.mono ?_
 rintro e w2 ⟨rfl, hn2, hr2, hz2, hzero2⟩
 have HT : Hid (Calls Tryz.prog 66 #[.pointer (some ⟨R, 0, none⟩)] w2 (TextPost w2 R s i false)) := text_any w2 R s i false hr2 hs hilt h34
 clear HL hr2 h34
 go_wp2_with fail
 refine HT.out.mono ?_
 rintro e w3 ⟨hn3, hor⟩
 obtain ⟨x, i', bad', rfl, hx, hr3, hG⟩ : ∃ (x : ByteArray) (i' : Nat) (bad' : Bool), e = .returned (.string x) /\ x.size <= 10000 /\ RdS w3 R s i' bad' /\ GotT (m + 1) (n + 1) s i false (⟨2, 0, x, [], []⟩ : Nd (T m)) i' bad' := by
  rcases hor with ⟨x, r, q1, rfl, q3, q4⟩ | ⟨q1, x, q2, rfl, q3⟩
  ·exact ⟨bs x, _, false, rfl, by rw [bs_size]; omega, q3, quoted_got HLK.out q1 q4⟩
  ·exact ⟨x, s.size, true, rfl, q2, q3, quoted_bad HLK.out hi q1⟩
 have hz3 := hn3.size
 obtain ⟨⟨r0, r1, r2, r3, r4⟩, f0, f1, f2, f3, f4⟩ := zeroT_cells ((hn3.block w.heap.size (by omega) (by omega)).trans hzero2)
 have HP : Hid (ReadPost (m + 1) (n + 1) w R s i false (.returned (.agg #[.int .i64 2, .int .i64 0, .string x, .slice none 0 0, .slice none 0 0])) (put5 w3 w.heap.size 0 (.int .i64 2) (.int .i64 0) (.string x) (.slice none 0 0) (.slice none 0 0))) :=
  rt_exit (hn2.trans hn3) hR hr3 (leafT_in _ _ m 2 0 _ rfl rfl hx) hG
 clear HT hor hn3 hn2 hzero2 hr3 hG
 go_wp2_with fail
 refine bodyPost_ret (v := .agg #[.int .i64 2, .int .i64 0, .string x, .slice none 0 0, .slice none 0 0]) (by simp [results, Tryz.results36, go_sem, r0, r1, r2, r3, r4]) rfl ?_
 exact HP.out
set_option maxRecDepth 20000 in
set_option maxHeartbeats 2000000 in
theorem l1_num (n m R : Nat) (s : ByteArray) (i : Nat) (w : World) (h : RdS w R s i false) (hs : s.size <= 10000) (hi : i <= s.size) (h1n : ¬ lookB s i = 34) (h2n : ¬ lookB s i = 121) (h3n : ¬ lookB s i = 110) (h4n : ¬ lookB s i = 126) (h5n : ¬ lookB s i = 63) (h6n : ¬ lookB s i = 91) (h7n : ¬ lookB s i = 123) :
  Calls Tryz.prog 36 #[.pointer (some ⟨R, 0, none⟩), .int .i64 (7 - ((n + 1 : Nat) : Int))] w (ReadPost (m + 1) (n + 1) w R s i false) := by
 have hR := h.lt
 obtain ⟨W1, hW1⟩ : ∃ W1, W1 = w.alloc (.cells #[.int .i64 0, .int .i64 0, .string ⟨#[]⟩, .slice none 0 0, .slice none 0 0] 27) := ⟨_, rfl⟩
 have hz1 : W1.heap.size = w.heap.size + 1 := by rw [hW1]; simp
 have hb1 : Below w.heap.size w W1 := by rw [hW1]; exact (Below.refl _ _).alloc (Nat.le_refl _) _
 have hzero : W1.heap[w.heap.size]? = some (.cells #[.int .i64 0, .int .i64 0, .string ⟨#[]⟩, .slice none 0 0, .slice none 0 0] 27 (0, 0)) := by rw [hW1]; exact heap_alloc_new _ _
 have hr1 : RdS W1 R s i false := (hb1.block R hR).trans h
 have c2 := hr1.cell2
 rw [hW1] at c2
 have hdeep : ¬ (6 : Int) < 7 - ((n + 1 : Nat) : Int) := by omega
 have HL : Hid (Calls Tryz.prog 65 #[.pointer (some ⟨R, 0, none⟩)] W1 fun e w' => e = .returned (.int .u8 (((lookB s i).toNat : Nat) : Int)) /\ Near R w w' /\ RdS w' R s i false /\ w'.heap.size = w.heap.size + 1 /\ w'.heap[w.heap.size]? = some (.cells #[.int .i64 0, .int .i64 0, .string ⟨#[]⟩, .slice none 0 0, .slice none 0 0] 27 (0, 0))) :=
  (look_any W1 R s i false hr1).mono fun e w' ⟨he, k, hk⟩ => by
   subst hk
   exact ⟨he, ((Near.of_below hb1).trans (Near.refl R W1)).drewN k, hr1.drewN k, hz1, hzero⟩
 have hcne : ∀ c : UInt8, ¬ lookB s i = c -> ((((lookB s i).toNat : Nat) : Int) == (c.toNat : Int)) = false := fun c hc => by
  rw [beq_eq_false_iff_ne]
  intro e
  apply hc
  apply UInt8.toNat_inj.1
  omega
 have e1 : ((((lookB s i).toNat : Nat) : Int) == 34) = false := hcne 34 h1n
 have e2 : ((((lookB s i).toNat : Nat) : Int) == 121) = false := hcne 121 h2n
 have e3 : ((((lookB s i).toNat : Nat) : Int) == 110) = false := hcne 110 h3n
 have e4 : ((((lookB s i).toNat : Nat) : Int) == 126) = false := hcne 126 h4n
 have e5 : ((((lookB s i).toNat : Nat) : Int) == 63) = false := hcne 63 h5n
 have e6 : ((((lookB s i).toNat : Nat) : Int) == 91) = false := hcne 91 h6n
 have e7 : ((((lookB s i).toNat : Nat) : Int) == 123) = false := hcne 123 h7n
 have HNo : Hid (¬ lookB s i = 34 /\ ¬ lookB s i = 121 /\ ¬ lookB s i = 110 /\ ¬ lookB s i = 126 /\ ¬ lookB s i = 63 /\ ¬ lookB s i = 91 /\ ¬ lookB s i = 123) := ⟨h1n, h2n, h3n, h4n, h5n, h6n, h7n⟩
 have HNu : Hid (∀ w2, RdS w2 R s i false -> Calls Tryz.prog 35 #[.pointer (some ⟨R, 0, none⟩)] w2 fun e w' => Near R w2 w' /\ ∃ (v : Int) (i' : Nat) (bad' : Bool), e = .returned (.int .i64 v) /\ (Lit.int .i64 v).wf = true /\ RdS w' R s i' bad' /\ GotT (m + 1) (n + 1) s i false (⟨1, v, ByteArray.empty, [], []⟩ : Nd (T m)) i' bad') := by
  intro w2 hr2
  have fin : ∀ (neg : Bool) (F : Nat), neg = decide (lookB s i = 45) -> F = (if neg = true then i + 1 else i) -> ∀ e w', NumPost w2 R s false neg F e w' -> (Near R w2 w' /\ ∃ (v : Int) (i' : Nat) (bad' : Bool), e = .returned (.int .i64 v) /\ (Lit.int .i64 v).wf = true /\ RdS w' R s i' bad' /\ GotT (m + 1) (n + 1) s i false (⟨1, v, ByteArray.empty, [], []⟩ : Nd (T m)) i' bad') := by
   rintro neg F hneg hF e w' ⟨hn, k, hk, hsz, hall, hend, rfl, hr⟩
   have hlt := decVal_lt10 _ hall (by rw [List.length_take]; omega)
   refine ⟨hn, _, F + k, _, rfl, ?_, hr, numT_got h1n h2n h3n h4n h5n h6n h7n hneg hF hsz hall hend rfl⟩
   generalize decVal ((s.data.toList.drop F).take k) = u at hlt
   refine wfT _ ?_ ?_ <;> (cases neg <;> simp <;> omega)
  by_cases h45 : lookB s i = 45
  ·have hilt : i < s.size := Classical.byContradiction fun hge => by rw [lookB_out s i (by omega)] at h45; exact absurd h45 (by decide)
   exact (num_neg w2 R s i false hr2 hs hilt h45).mono (fin true (i + 1) (by simp [h45]) rfl)
  ·exact (num_pos w2 R s i false hr2 hs hi h45).mono (fin false i (by simp [h45]) rfl)
 clear hcne h1n h2n h3n h4n h5n h6n h7n
 generalize ((lookB s i).toNat : Nat) = cc at *
 clear hr1 hzero hb1 h
 generalize hdp : 7 - ((n + 1 : Nat) : Int) = dp at *
 clear hdp
 go_enter Tryz.func36, Tryz.ntmps36
 go_wp2_with fail
 rw [<- hW1]
 clear hW1 c2
 refine HL.out.mono ?_
 rintro e w2 ⟨rfl, hn2, hr2, hz2, hzero2⟩
 have HT : Hid (Calls Tryz.prog 35 #[.pointer (some ⟨R, 0, none⟩)] w2 _) := HNu.out w2 hr2
 clear HL hr2 HNu
 go_wp2_with fail
 refine HT.out.mono ?_
 rintro e w3 ⟨hn3, v, i', bad', rfl, hwf, hr3, hG⟩
 have hz3 := hn3.size
 obtain ⟨⟨r0, r1, r2, r3, r4⟩, f0, f1, f2, f3, f4⟩ := zeroT_cells ((hn3.block w.heap.size (by omega) (by omega)).trans hzero2)
 have HP : Hid (ReadPost (m + 1) (n + 1) w R s i false (.returned (.agg #[.int .i64 1, .int .i64 v, .string ⟨#[]⟩, .slice none 0 0, .slice none 0 0])) (put5 w3 w.heap.size 0 (.int .i64 1) (.int .i64 v) (.string ⟨#[]⟩) (.slice none 0 0) (.slice none 0 0))) :=
  rt_exit (hn2.trans hn3) hR hr3 (leafT_in _ _ m 1 v _ rfl hwf (by decide)) hG
 clear HT hn3 hn2 hzero2 hr3 hG e1 e2 e3 e4 e5 e6 e7 hwf
 go_wp2_with fail
 refine bodyPost_ret (v := .agg #[.int .i64 1, .int .i64 v, .string ⟨#[]⟩, .slice none 0 0, .slice none 0 0]) (by simp [results, Tryz.results36, go_sem, r0, r1, r2, r3, r4]) rfl ?_
 exact HP.out
end Go.Proofs.YtmjhcgjhlakceaaGreatDoor
