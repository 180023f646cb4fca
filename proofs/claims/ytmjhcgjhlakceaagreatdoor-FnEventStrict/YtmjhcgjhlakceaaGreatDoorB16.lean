/-
  Several texts in one, in their order.
-/
import Derived.Test.YtmjhcgjhlakceaaGreatDoorB7
import Derived.Test.YtmjhcgjhlakceaaGreatDoorB15
import Derived.Test.YtmjhcgjhlakceaaGreatDoorB1
import Derived.Deep.Cut
import Derived.Deep.CutRange
import Derived.WalkSmall
import Derived.LoopTactic

namespace Go.Proofs.YtmjhcgjhlakceaaGreatDoor
open Go.RowKit
def Tr4Post (m : Nat) (d : Int) (w : World) (R : Nat) (ao : Option Addr) (l : List UInt8) (cap i : Nat) (bad : Bool) (e : Ending) (w' : World) : Prop :=
 Near R w w' /\ ∃ (t : T m) (c0 c1 c2 c3 c4 : Value) (i' : Nat) (bad' : Bool), e = .returned (.agg #[c0, c1, c2, c3, c4]) /\ TreeIn (fun b => w.heap.size <= b /\ b < w'.heap.size) w' m t c0 c1 c2 c3 c4 /\ R4 w' R ao l cap i' bad' /\ treeR m d l i bad t i' bad'
theorem wf_wide {x : Int} (h1 : -99999999999 <= x) (h2 : x <= 99999999999) : (Lit.int .i64 x).wf = true := by
 simp only [Lit.wf, Bool.and_eq_true, decide_eq_true_eq]
 exact ⟨by have : IntKind.i64.min = -9223372036854775808 := rfl
           omega, by have : IntKind.i64.max = 9223372036854775807 := rfl
                     omega⟩
theorem tr_exit {m : Nat} {d : Int} {R cap i i' N : Nat} {bad bad' : Bool} {ao : Option Addr} {l : List UInt8} {w W : World} {t : T m} {g0 g1 g2 g3 g4 : Value} (h : R4 w R ao l cap i bad) (hN : N = w.heap.size) (hn : Near R w W) (hb : R4 W R ao l cap i' bad') (hk : TreeIn (fun b => N + 1 <= b /\ b < W.heap.size) W m t g0 g1 g2 g3 g4) (hr : treeR m d l i bad t i' bad') :
  Tr4Post m d w R ao l cap i bad (.returned (.agg #[g0, g1, g2, g3, g4])) (put5 W N 0 g0 g1 g2 g3 g4) := by
 have hR := h.lt
 have qq : ∀ b, b ≠ N -> (put5 W N 0 g0 g1 g2 g3 g4).heap[b]? = W.heap[b]? := fun b h => put5_other h
 have hz : (put5 W N 0 g0 g1 g2 g3 g4).heap.size = W.heap.size := put5_size
 have hbl : Below 0 W (put5 W N 0 g0 g1 g2 g3 g4) := put5_below (Below.refl 0 W) (Nat.zero_le _)
 have hn' : Near R w (put5 W N 0 g0 g1 g2 g3 g4) := ⟨by rw [hbl.os]; exact hn.os, by rw [hbl.tape]; exact hn.tape, by rw [hbl.output]; exact hn.output, by rw [hz]; exact hn.size, fun b hb hne => (qq b (by omega)).trans (hn.block b hb hne)⟩
 exact ⟨hn', t, _, _, _, _, _, i', bad', rfl, hk.keep (fun b hb => qq b (by omega)) (fun b hb => ⟨by omega, by rw [hz]; exact hb.2⟩), h.keep hn' ((qq R (by omega)).trans hb.box) hb.le, hr⟩
theorem leafR_in (S : Nat -> Prop) (w : World) (m : Nat) (x y : Int) (s : ByteArray) (hx : (Lit.int .i64 x).wf = true) (hy : (Lit.int .i64 y).wf = true) (hs : s.size <= 10000) : TreeIn S w (m + 1) (⟨x, y, s, [], []⟩ : Nd (T m)) (.int .i64 x) (.int .i64 y) (.string s) (.slice none 0 0) (.slice none 0 0) :=
 ⟨rfl, rfl, rfl, by unfold maxLen; show s.size <= _; omega, hx, hy, ⟨none, 0, rfl, by simp [maxLen], fun s h => (by cases h), fun h => absurd rfl h⟩, ⟨none, 0, rfl, by simp [maxLen], fun h => absurd rfl h⟩⟩
theorem manyR_in {R X n : Nat} {w wr : World} {so : Int} {ns : List ByteArray} {ks : List (T n)} {nv kv : Value} (h : Many R X n w wr so ns ks nv kv) (hso : (Lit.int .i64 so).wf = true) (hns : ns.length <= 20000) (hks : ks.length <= 20000) :
  TreeIn (fun b => X <= b /\ b < wr.heap.size) wr (n + 1) (⟨so, 0, ByteArray.empty, ns, ks⟩ : Nd (T n)) (.int .i64 so) (.int .i64 0) (.string ByteArray.empty) nv kv := by
 obtain ⟨xs, hxs, hk⟩ := h.kids
 refine ⟨rfl, rfl, rfl, by simp [maxLen], hso, (by rfl : (Lit.int .i64 0).wf = true), ?_, ?_⟩
 ·refine strs_of_owns h.names hns h.short fun g hg => ?_
  have := owns_lt h.names g hg
  exact ⟨by omega, by omega⟩
 ·refine row_of_owns hxs hks (fun g hg => ?_) fun j hj => ?_
  ·have := owns_lt hxs g hg
   exact ⟨by omega, by omega⟩
  ·obtain ⟨c0, c1, c2, c3, c4, hc, ht⟩ := hk j hj
   refine ⟨c0, c1, c2, c3, c4, hc, ht.keep (fun b hb => rfl) (fun b hb => ?_)⟩
   have := hb.1
   have := hb.2.1
   exact ⟨by omega, by omega⟩
theorem zeroR_cells {w : World} {N : Nat} {so : Value} {nv kv : Value} (h : w.heap[N]? = some (.cells #[so, .int .i64 0, .string ⟨#[]⟩, nv, kv] 27 (0, 0))) :
  (w.cell? ⟨N, 0, none⟩ = some so /\ w.cell? ⟨N, 1, none⟩ = some (.int .i64 0) /\ w.cell? ⟨N, 2, none⟩ = some (.string ⟨#[]⟩) /\ w.cell? ⟨N, 3, none⟩ = some nv /\ w.cell? ⟨N, 4, none⟩ = some kv) /\
   w.frozen? ⟨N, 0, none⟩ = false /\ w.frozen? ⟨N, 1, none⟩ = false /\ w.frozen? ⟨N, 2, none⟩ = false /\ w.frozen? ⟨N, 3, none⟩ = false /\ w.frozen? ⟨N, 4, none⟩ = false := by
 refine ⟨⟨?_, ?_, ?_, ?_, ?_⟩, ?_, ?_, ?_, ?_, ?_⟩ <;> simp [World.cell?, World.frozen?, h]
theorem box_afterR {R X k z : Nat} {e : TypeId} {v : Value} {xs : List Value} {W w2 w3 : World} {o : Obj} {c : Obj} (h : W.ownsRow (X + 1) e z v k xs) (hRX : R < X) (hRl : R < w2.heap.size) (hg : (w2.alloc o).grownBy w3 v.ownBlock) (u : Value) (q : Nat) (hc : w2.heap[R]? = some c) : (w3.setCell ⟨X, q, none⟩ u).heap[R]? = some c := by
 rw [Below.heap_setCell _ _ _ _ (by show R ≠ X; omega), hg.block R (by simp; omega) (fun e => by have := owns_lt h R e.symm; omega), Below.heap_alloc _ _ _ hRl]
 exact hc
structure Tr4 (m R : Nat) (ao : Option Addr) (l : List UInt8) (cap i : Nat) (bad : Bool) (w w1 W2 : World) (v i1 : Nat) (bad1 : Bool) : Prop where
 many : Many R w1.heap.size m w1 W2 (v : Int) [] [] (.slice none 0 0) (.slice none 0 0)
 lt : w.heap.size < w1.heap.size
 sz2 : W2.heap.size = w1.heap.size + 1
 near : Near R w w1
 zero : w1.heap[w.heap.size]? = some (.cells #[.int .i64 0, .int .i64 0, .string ⟨#[]⟩, .slice none 0 0, .slice none 0 0] 27 (0, 0))
 r0 : R4 w R ao l cap i bad
 r2 : R4 W2 R ao l cap i1 bad1
 one : oneR l i bad v i1 bad1
 v255 : v <= 255
theorem tr4 (m : Nat) {R : Nat} {ao : Option Addr} {l : List UInt8} {cap i : Nat} {bad : Bool} {w W0 w1 W2 : World} {v i1 : Nat} {bad1 : Bool} (h : R4 w R ao l cap i bad) (h0 : W0 = w.alloc (.cells #[.int .i64 0, .int .i64 0, .string ⟨#[]⟩, .slice none 0 0, .slice none 0 0] 27))
  (hn : Near R W0 w1) (h1 : R4 w1 R ao l cap i1 bad1) (ho : oneR l i bad v i1 bad1) (hv : v <= 255) (h2 : W2 = w1.alloc (.cells #[.int .i64 (v : Int), .int .i64 0, .string ⟨#[]⟩, .slice none 0 0, .slice none 0 0] 27)) : Tr4 m R ao l cap i bad w w1 W2 v i1 bad1 := by
 have hR := h.lt
 have hz0 : W0.heap.size = w.heap.size + 1 := by rw [h0]; simp
 have hs := hn.size
 have hb0 : Below w.heap.size w W0 := by rw [h0]; exact (Below.refl _ _).alloc (Nat.le_refl _) _
 have hb2 : Below w1.heap.size w1 W2 := by rw [h2]; exact (Below.refl _ _).alloc (Nat.le_refl _) _
 refine ⟨⟨Near.of_below hb2, by rw [h2]; exact heap_alloc_new _ _, ⟨rfl, .inl ⟨rfl, rfl⟩⟩, by simp, ⟨[], ⟨rfl, .inl ⟨rfl, rfl⟩⟩, fun j hj => absurd hj (Nat.not_lt_zero _)⟩, fun b hb => by cases hb⟩, by omega, by rw [h2]; simp, (Near.of_below hb0).trans hn, ?_, h, h1.same hb2, ho, hv⟩
 rw [hn.block w.heap.size (by omega) (by omega), h0]
 exact heap_alloc_new _ _
theorem tr_leaf {m : Nat} {d : Int} {R cap i i1 i2 : Nat} {bad bad1 bad2 : Bool} {ao : Option Addr} {l : List UInt8} {w w1 W2 wr W : World} {v : Nat} {y : Int} {s : ByteArray} (hS : Tr4 m R ao l cap i bad w w1 W2 v i1 bad1) (hn : Near R W2 wr) (hD : R4 wr R ao l cap i2 bad2) (hW : ∀ b, b ≠ w1.heap.size -> W.heap[b]? = wr.heap[b]?) (hB : Below 0 wr W) (hz : W.heap.size = wr.heap.size)
  (hy : (Lit.int .i64 y).wf = true) (hs : s.size <= 10000) (hr : treeR (m + 1) d l i bad (⟨(v : Int), y, s, [], []⟩ : Nd (T m)) i2 bad2) :
  Tr4Post (m + 1) d w R ao l cap i bad (.returned (.agg #[.int .i64 (v : Int), .int .i64 y, .string s, .slice none 0 0, .slice none 0 0])) (put5 W w.heap.size 0 (.int .i64 (v : Int)) (.int .i64 y) (.string s) (.slice none 0 0) (.slice none 0 0)) := by
 have hR := hS.r0.lt
 have h1 := hS.many.near.size
 have h2 := hn.size
 have h3 := hS.lt
 have h4 := hS.v255
 have hnr : Near R w wr := (hS.near.trans hS.many.near).trans hn
 have hnW : Near R w W := ⟨by rw [hB.os]; exact hnr.os, by rw [hB.tape]; exact hnr.tape, by rw [hB.output]; exact hnr.output, by rw [hz]; exact hnr.size, fun b hb hne => (hW b (by omega)).trans (hnr.block b hb hne)⟩
 exact tr_exit hS.r0 rfl hnW (hS.r0.keep hnW ((hW R (by omega)).trans hD.box) hD.le) (leafR_in _ _ m (v : Int) y s (wf_wide (by omega) (by omega)) hy hs) hr
theorem tr_many {m : Nat} {d : Int} {R cap i i1 i2 : Nat} {bad bad1 bad2 : Bool} {ao : Option Addr} {l : List UInt8} {w w1 W2 wr : World} {v : Nat} {nv kv : Value} {ns : List ByteArray} {ks : List (T m)} (hS : Tr4 m R ao l cap i bad w w1 W2 v i1 bad1) (hM : Many R w1.heap.size m w1 wr (v : Int) ns ks nv kv) (hD : R4 wr R ao l cap i2 bad2) (hns : ns.length <= 1000) (hks : ks.length <= 1000)
  (hr : treeR (m + 1) d l i bad (⟨(v : Int), 0, ByteArray.empty, ns, ks⟩ : Nd (T m)) i2 bad2) :
  Tr4Post (m + 1) d w R ao l cap i bad (.returned (.agg #[.int .i64 (v : Int), .int .i64 0, .string ByteArray.empty, nv, kv])) (put5 wr w.heap.size 0 (.int .i64 (v : Int)) (.int .i64 0) (.string ByteArray.empty) nv kv) := by
 have h3 := hS.lt
 have h4 := hS.v255
 exact tr_exit hS.r0 rfl (hS.near.trans hM.near) hD ((manyR_in hM (wf_wide (by omega) (by omega)) (by omega) (by omega)).keep (fun _ _ => rfl) (fun b hb => ⟨by omega, hb.2⟩)) hr
end Go.Proofs.YtmjhcgjhlakceaaGreatDoor

namespace Go.Proofs.YtmjhcgjhlakceaaGreatDoor
open Go.RowKit
theorem Tryz.info_strE : (Tryz.prog.info? 9).map (fun i => (i.zero, i.size, i.bytes)) = some (some (.string ⟨#[]⟩), 1, 16) := by kernel_rfl
def Tr4Said (m : Nat) : Prop := ∀ (d R : Nat) (ao : Option Addr) (l : List UInt8) (cap i : Nat) (bad : Bool) (w : World), d <= 7 -> 8 <= m + d -> R4 w R ao l cap i bad -> Calls Tryz.prog 20 #[.pointer (some ⟨R, 0, none⟩), .int .i64 (d : Int)] w (Tr4Post m (d : Int) w R ao l cap i bad)
set_option maxRecDepth 20000 in
set_option maxHeartbeats 4000000 in
theorem tree4_step (m : Nat) (hI : Tr4Said m) : Tr4Said (m + 1) := fun d R ao l cap i bad w hd hmd h => by
 have hI' : d <= 6 -> ∀ (R : Nat) (ao : Option Addr) (l : List UInt8) (cap i : Nat) (bad : Bool) (w : World), R4 w R ao l cap i bad -> Calls Tryz.prog 20 #[.pointer (some ⟨R, 0, none⟩), .int .i64 ((d : Int) + 1)] w (Tr4Post m ((d : Int) + 1) w R ao l cap i bad) := fun h6 R ao l cap i bad w h => by
  have := hI (d + 1) R ao l cap i bad w (by omega) (by omega) h
  rw [show ((d + 1 : Nat) : Int) = (d : Int) + 1 by omega] at this
  exact this
 have HI := Lib.hid hI'
 clear hI hI' hmd
 obtain ⟨W0, hW0⟩ : ∃ W0, W0 = w.alloc (.cells #[.int .i64 0, .int .i64 0, .string ⟨#[]⟩, .slice none 0 0, .slice none 0 0] 27) := ⟨_, rfl⟩
 have hb0 : Below w.heap.size w W0 := by rw [hW0]; exact (Below.refl _ _).alloc (Nat.le_refl _) _
 have HC := Lib.hid (one_any W0 R ao l cap i bad (h.same hb0))
 have HR0 := Lib.hid h
 have hRw := h.lt
 clear h hb0
 go_enter Tryz.func20, Tryz.ntmps20
 go_wp2_with fail
 rw [<- hW0]
 refine HC.out.mono ?_
 rintro e w1 ⟨v, i1, bad1, rfl, hv, hone, h1, hn1⟩
 obtain ⟨W2, hW2⟩ : ∃ W2, W2 = w1.alloc (.cells #[.int .i64 (v : Int), .int .i64 0, .string ⟨#[]⟩, .slice none 0 0, .slice none 0 0] 27) := ⟨_, rfl⟩
 have HS := Lib.hid (tr4 m HR0.out hW0 hn1 h1 hone hv hW2)
 have hz1 := HS.out.lt
 have hz2 := HS.out.sz2
 clear HC hone h1 hn1 hW0
 obtain ⟨⟨c0, c1, c2⟩, g1, g2⟩ := HS.out.r2.cells
 obtain ⟨⟨x0, x1, x2, x3, x4⟩, y0, y1, y2, y3, y4⟩ := zeroR_cells HS.out.many.box
 go_upto_region 2 with fail
 rw [<- hW2]
 clear hW2
 by_cases hbd : bad1 = true ∨ 6 < d
 case pos =>
  have HP : Hid (Tr4Post (m + 1) (d : Int) w R ao l cap i bad (.returned (.agg #[.int .i64 (v : Int), .int .i64 0, .string ByteArray.empty, .slice none 0 0, .slice none 0 0])) (put5 (W2.setCell ⟨R, 2, none⟩ (.bool true)) w.heap.size 0 (.int .i64 (v : Int)) (.int .i64 0) (.string ByteArray.empty) (.slice none 0 0) (.slice none 0 0))) := by
   have ht : treeR (m + 1) (d : Int) l i bad (⟨(v : Int), 0, ByteArray.empty, [], []⟩ : Nd (T m)) i1 true := by
    rcases hbd with h | h
    ·subst h; exact treeR_bad HS.out.one
    ·exact treeR_deep (by omega)
   exact tr_leaf (wr := W2.setCell ⟨R, 2, none⟩ (.bool true)) HS.out (Near.set R 2 W2 _) HS.out.r2.setBad (fun _ _ => rfl) (Below.refl _ _) rfl (by rfl) (by simp) ht
  have hRX : R ≠ w1.heap.size := by omega
  have hRN : R ≠ w.heap.size := by omega
  obtain ⟨⟨z0, z1, z2, z3, z4⟩, u0, u1, u2, u3, u4⟩ := zeroR_cells ((HS.out.many.near.block w.heap.size (by omega) (by omega)).trans HS.out.zero)
  clear HS HI HR0
  by_cases hb1 : bad1 = true
  ·subst hb1
   clear hbd
   go_wp2_with fail
   refine bodyPost_ret (v := .agg #[.int .i64 (v : Int), .int .i64 0, .string ByteArray.empty, .slice none 0 0, .slice none 0 0]) (by simp [results, Tryz.results20, go_sem, z0, z1, z2, z3, z4]; rfl) rfl ?_
   exact HP.out
  ·have hb1' : bad1 = false := by simpa using hb1
   subst hb1'
   have hd6 : (6 : Int) < (d : Int) := by
    rcases hbd with h | h
    ·cases h
    ·omega
   clear hbd hb1
   go_wp2_with fail
   refine bodyPost_ret (v := .agg #[.int .i64 (v : Int), .int .i64 0, .string ByteArray.empty, .slice none 0 0, .slice none 0 0]) (by simp [results, Tryz.results20, go_sem, z0, z1, z2, z3, z4]; rfl) rfl ?_
   exact HP.out
 case neg =>
  have hb1 : bad1 = false := by cases bad1 <;> simp_all
  have hd6 : ¬ (6 : Int) < (d : Int) := by omega
  have hd6n : d <= 6 := by omega
  subst hb1
  clear hbd
  by_cases h1 : v = 1
  ·subst h1
   have HC := Lib.hid (num4_any W2 R ao l cap i1 false HS.out.r2)
   clear HI x1 x2 x3 x4 y0 y1 y2 y3 y4 c0 c1 g1 g2
   go_wp2_with fail
   refine HC.out.mono ?_
   rintro e w3 ⟨x, i2, bad2, rfl, hx, hnum, h3, hn3⟩
   have hM := HS.out.many.keep (by omega) hn3
   obtain ⟨⟨x0, x1, x2, x3, x4⟩, y0, y1, y2, y3, y4⟩ := zeroR_cells hM.box
   have x0 : w3.cell? ⟨w1.heap.size, 0, none⟩ = some (.int .i64 1) := x0
   obtain ⟨⟨z0, z1, z2, z3, z4⟩, u0, u1, u2, u3, u4⟩ := zeroR_cells ((hM.near.block w.heap.size (by omega) (by omega)).trans HS.out.zero)
   have HP : Hid (Tr4Post (m + 1) (d : Int) w R ao l cap i bad (.returned (.agg #[.int .i64 1, .int .i64 x, .string ByteArray.empty, .slice none 0 0, .slice none 0 0])) (put5 (w3.setCell ⟨w1.heap.size, 1, none⟩ (.int .i64 x)) w.heap.size 0 (.int .i64 1) (.int .i64 x) (.string ByteArray.empty) (.slice none 0 0) (.slice none 0 0))) :=
    tr_leaf HS.out hn3 h3 (fun b hb => Below.heap_setCell _ _ _ _ hb) ((Below.refl 0 w3).setCell (Nat.zero_le _) _) (by simp) (wf_wide hx.1 hx.2) (by simp) (treeR_num HS.out.one hnum)
   clear HC hM hn3 h3 HS HR0
   go_wp2_with fail
   refine bodyPost_ret (v := .agg #[.int .i64 1, .int .i64 x, .string ByteArray.empty, .slice none 0 0, .slice none 0 0]) (by simp [results, Tryz.results20, go_sem, z0, z1, z2, z3, z4]; rfl) rfl ?_
   exact HP.out
  by_cases h2 : v = 2
  ·subst h2
   have HC := Lib.hid (short_any W2 R ao l cap i1 false HS.out.r2)
   clear HI x1 x2 x3 x4 y0 y1 y2 y3 y4 c0 c1 g1 g2
   go_wp2_with fail
   refine HC.out.mono ?_
   rintro e w3 ⟨x, i2, bad2, rfl, hx, hsh, h3, hn3⟩
   have hM := HS.out.many.keep (by omega) hn3
   obtain ⟨⟨x0, x1, x2, x3, x4⟩, y0, y1, y2, y3, y4⟩ := zeroR_cells hM.box
   have x0 : w3.cell? ⟨w1.heap.size, 0, none⟩ = some (.int .i64 2) := x0
   obtain ⟨⟨z0, z1, z2, z3, z4⟩, u0, u1, u2, u3, u4⟩ := zeroR_cells ((hM.near.block w.heap.size (by omega) (by omega)).trans HS.out.zero)
   have HP : Hid (Tr4Post (m + 1) (d : Int) w R ao l cap i bad (.returned (.agg #[.int .i64 2, .int .i64 0, .string x, .slice none 0 0, .slice none 0 0])) (put5 (w3.setCell ⟨w1.heap.size, 2, none⟩ (.string x)) w.heap.size 0 (.int .i64 2) (.int .i64 0) (.string x) (.slice none 0 0) (.slice none 0 0))) :=
    tr_leaf HS.out hn3 h3 (fun b hb => Below.heap_setCell _ _ _ _ hb) ((Below.refl 0 w3).setCell (Nat.zero_le _) _) (by simp) (by rfl) (by omega) (treeR_text HS.out.one hsh)
   clear HC hM hn3 h3 HS HR0
   go_wp2_with fail
   refine bodyPost_ret (v := .agg #[.int .i64 2, .int .i64 0, .string x, .slice none 0 0, .slice none 0 0]) (by simp [results, Tryz.results20, go_sem, z0, z1, z2, z3, z4]) rfl ?_
   exact HP.out
  by_cases h3 : v = 3
  ·subst h3
   have HC := Lib.hid (one_any W2 R ao l cap i1 false HS.out.r2)
   clear HI x1 x2 x3 x4 y0 y1 y2 y3 y4 c0 c1 g1 g2
   go_wp2_with fail
   refine HC.out.mono ?_
   rintro e w3 ⟨x, i2, bad2, rfl, hx, hon, h3, hn3⟩
   have hM := HS.out.many.keep (by omega) hn3
   obtain ⟨⟨x0, x1, x2, x3, x4⟩, y0, y1, y2, y3, y4⟩ := zeroR_cells hM.box
   have x0 : w3.cell? ⟨w1.heap.size, 0, none⟩ = some (.int .i64 3) := x0
   obtain ⟨⟨z0, z1, z2, z3, z4⟩, u0, u1, u2, u3, u4⟩ := zeroR_cells ((hM.near.block w.heap.size (by omega) (by omega)).trans HS.out.zero)
   have HP : Hid (Tr4Post (m + 1) (d : Int) w R ao l cap i bad (.returned (.agg #[.int .i64 3, .int .i64 (x : Int), .string ByteArray.empty, .slice none 0 0, .slice none 0 0])) (put5 (w3.setCell ⟨w1.heap.size, 1, none⟩ (.int .i64 (x : Int))) w.heap.size 0 (.int .i64 3) (.int .i64 (x : Int)) (.string ByteArray.empty) (.slice none 0 0) (.slice none 0 0))) :=
    tr_leaf HS.out hn3 h3 (fun b hb => Below.heap_setCell _ _ _ _ hb) ((Below.refl 0 w3).setCell (Nat.zero_le _) _) (by simp) (wf_wide (by omega) (by omega)) (by simp) (treeR_flag HS.out.one hon)
   clear HC hM hn3 h3 HS HR0
   go_wp2_with fail
   refine bodyPost_ret (v := .agg #[.int .i64 3, .int .i64 (x : Int), .string ByteArray.empty, .slice none 0 0, .slice none 0 0]) (by simp [results, Tryz.results20, go_sem, z0, z1, z2, z3, z4]; rfl) rfl ?_
   exact HP.out
  by_cases h5 : v = 5
  ·subst h5
   have x0 : W2.cell? ⟨w1.heap.size, 0, none⟩ = some (.int .i64 5) := x0
   have HC := Lib.hid (one_any W2 R ao l cap i1 false HS.out.r2)
   clear x1 x2 x3 x4 y0 y1 y2 y3 y4 c0 c1 g1 g2
   go_wp2_with fail
   refine HC.out.mono ?_
   rintro e w3 ⟨n0, i2, bad2, rfl, hn0, hon, h3r, hn3⟩
   have HM3 : Hid (Many R w1.heap.size m w1 w3 5 [] [] (.slice none 0 0) (.slice none 0 0)) := HS.out.many.keep (by omega) hn3
   have HR3 := Lib.hid h3r
   have HOn := Lib.hid hon
   clear HC hon h3r hn3 x0 c2
   obtain ⟨X, hXe⟩ : ∃ X, w1.heap.size = X := ⟨_, rfl⟩
   have hzX : W2.heap.size = X + 1 := by omega
   have hwX : w.heap.size < X := by omega
   rw [hXe] at HM3
   rw [hXe]
   go_wp2_with fail
   go_loopw [6] (fun kv wr => ∃ (k j nl i3 : Nat) (bad3 : Bool) (ns : List ByteArray) (ks : List (T m)) (na : Option Addr) (nc : Nat) (ka : Option Addr) (kc : Nat), kv = .int .i64 (k : Int) /\ k + j = n0 /\ ks.length = j /\ ns.length = nl /\ nl <= j /\ midT m ((d : Int) + 1) 5 l i2 bad2 n0 ns ks k i3 bad3 /\ R4 wr R ao l cap i3 bad3 /\ Many R X m w1 wr 5 ns ks (.slice na nl nc) (.slice ka j kc)) (fun kv _ => (intOf kv).toNat)
   case atStart => exact ⟨n0, 0, 0, i2, bad2, [], [], none, 0, none, 0, rfl, by omega, rfl, rfl, by omega, midT_start _ _ _ _ _ _ _, HR3.out, HM3.out⟩
   case round =>
    obtain ⟨k, j, nl, i3, bad3, ns, ks, na, nc, ka, kc, rfl, hkj, hkl, hnl, hnlj, hmid, hR4, hM⟩ := hrel
    have hXr := hM.lt
    have hzr := hM.near.size
    have HM := Lib.hid hM
    have HR := Lib.hid hR4
    have HMid := Lib.hid hmid
    have HKL := Lib.hid hkl
    have HNL := Lib.hid hnl
    clear HM3 HR3 hmid hR4 hM hkl hnl
    by_cases hk0 : k = 0
    ·subst hk0
     have HP : Hid (Tr4Post (m + 1) (d : Int) w R ao l cap i bad (.returned (.agg #[.int .i64 5, .int .i64 0, .string ByteArray.empty, .slice na nl nc, .slice ka j kc])) (put5 wr w.heap.size 0 (.int .i64 5) (.int .i64 0) (.string ByteArray.empty) (.slice na nl nc) (.slice ka j kc))) :=
      tr_many HS.out (by rw [hXe]; exact HM.out) HR.out (by rw [HNL.out]; omega) (by rw [HKL.out]; omega) (treeR_many HS.out.one h1 h2 h3 HOn.out HMid.out (.inl rfl))
     obtain ⟨⟨x0, x1, x2, x3, x4⟩, -⟩ := zeroR_cells HM.out.box
     obtain ⟨⟨z0, z1, z2, z3, z4⟩, u0, u1, u2, u3, u4⟩ := zeroR_cells ((HM.out.near.block w.heap.size (by omega) (by omega)).trans HS.out.zero)
     obtain ⟨⟨c0, c1, c2⟩, g1, g2⟩ := HR.out.cells
     clear HS HM HR HMid HOn HI HKL HNL
     go_wp2_with fail
     refine bodyPost_ret (v := .agg #[.int .i64 5, .int .i64 0, .string ByteArray.empty, .slice na nl nc, .slice ka j kc]) (by simp [results, Tryz.results20, go_sem, z0, z1, z2, z3, z4]; rfl) rfl ?_
     exact HP.out
    cases bad3
    case true =>
     have hkp : (k : Int) > 0 := by omega
     have hkp' : (0 : Int) < (k : Int) := by omega
     have HP : Hid (Tr4Post (m + 1) (d : Int) w R ao l cap i bad (.returned (.agg #[.int .i64 5, .int .i64 0, .string ByteArray.empty, .slice na nl nc, .slice ka j kc])) (put5 wr w.heap.size 0 (.int .i64 5) (.int .i64 0) (.string ByteArray.empty) (.slice na nl nc) (.slice ka j kc))) :=
      tr_many HS.out (by rw [hXe]; exact HM.out) HR.out (by rw [HNL.out]; omega) (by rw [HKL.out]; omega) (treeR_many HS.out.one h1 h2 h3 HOn.out HMid.out (.inr rfl))
     obtain ⟨⟨x0, x1, x2, x3, x4⟩, -⟩ := zeroR_cells HM.out.box
     obtain ⟨⟨z0, z1, z2, z3, z4⟩, u0, u1, u2, u3, u4⟩ := zeroR_cells ((HM.out.near.block w.heap.size (by omega) (by omega)).trans HS.out.zero)
     obtain ⟨⟨c0, c1, c2⟩, g1, g2⟩ := HR.out.cells
     clear HS HM HR HMid HOn HI HKL HNL
     go_wp2_with fail
     refine bodyPost_ret (v := .agg #[.int .i64 5, .int .i64 0, .string ByteArray.empty, .slice na nl nc, .slice ka j kc]) (by simp [results, Tryz.results20, go_sem, z0, z1, z2, z3, z4]; rfl) rfl ?_
     exact HP.out
    case false =>
     obtain ⟨k, rfl⟩ : ∃ q, k = q + 1 := ⟨k - 1, by omega⟩
     have hkp' : (0 : Int) < ((k + 1 : Nat) : Int) := by omega
     have hsub : ((k + 1 : Nat) : Int) - 1 = (k : Int) := by omega
     have hwd : IntKind.i64.wrap ((d : Int) + 1) = (d : Int) + 1 := by rw [IntKind.wrap_i64]; omega
     have c2 := HR.out.cells.1.2.2
     have x0 := (zeroR_cells HM.out.box).1.1
     have HK := Lib.hid (short_any wr.drew R ao l cap i3 false (HR.out.drewN 1))
     have HO : Hid (wr.ownsRow (X + 1) 9 1 (.slice na nl nc) nl (ns.map .string)) := by
      have := HM.out.names
      rw [HNL.out] at this; exact this
     have x3 : wr.cell? ⟨X, 3, none⟩ = some (.slice na nl nc) := (zeroR_cells HM.out.box).1.2.2.2.1
     obtain ⟨is0, hi0', hy0, hy1, hyb⟩ := info_parts Tryz.info_strE
     have HIS : Hid (_ /\ _ /\ _ /\ _) := ⟨hi0', hy0, hy1, hyb⟩
     clear hi0' hy0 hy1 hyb
     go_upto_region 19 with fail
     go_cut [6] from 44 to 73 (fun kv wx => kv = .int .i64 (((k + 1 : Nat)) : Int) /\ ∃ (x : ByteArray) (i4 : Nat) (bad4 : Bool) (g cap' : Nat), shortR l i3 false x i4 bad4 /\ R4 wx R ao l cap i4 bad4 /\ Many R X m w1 wx 5 (ns ++ [x]) ks (.slice (some ⟨g, 0, none⟩) (nl + 1) cap') (.slice ka j kc))
     case first =>
      go_region_law (first
       | (refine step_append_lies _ (by rfl) (.tmp 59) (.tmp 62) 24 (by rfl) (X + 1) 9 is0 _ 1 16 Tryz.underlying24 HIS.out.1 HIS.out.2.1 HIS.out.2.2.1 HIS.out.2.2.2 rfl (by decide) (.slice na nl nc) nl (ns.map .string) (by rfl) (hox2 _) ⟨v2.heap.size, 0, none⟩ 1 1 [.string x5] (by rfl) rfl (World.news_of_block (heap_alloc_new v2 _)) (by simp [Value.oneCell']) (by decide) (by unfold maxLen; omega) (by omega) (by simp; omega) (v2.heap.size + 1) (by simp) ?_; intro g2 cap2 v3 hown2 hgrow2 hat2 hlt2; have hb6 := (box_after (W := wr.drew) HO.out hXr (by omega) hn5 hgrow2).trans HM.out.box; have x3'' : v3.cell? ⟨X, 3, none⟩ = some (.slice na nl nc) := (by simp [World.cell?, hb6]); have xg'' : v3.frozen? ⟨X, 3, none⟩ = false := (by simp [World.frozen?, hb6]))
       | (go_simp; go_at_call 18; refine HK.out.mono ?_; rintro e v2 ⟨x5, i5, bad5, rfl, hx5, hsh5, hR5, hn5⟩; have hsz2 : wr.heap.size <= v2.heap.size := hn5.size; have hox2 := fun o => owns_on (R := R) (X := X) (W := wr.drew) HO.out (by omega) hn5 o; have x3' : v2.cell? ⟨X, 3, none⟩ = some (.slice na nl nc) := (World.cell?_of_block (hn5.block X (by simpa using hXr) (by omega))).trans x3; have x3a : (v2.alloc (.cells #[.string x5] 9)).cell? ⟨X, 3, none⟩ = some (.slice na nl nc) := (World.cell?_of_block (Below.heap_alloc _ _ _ (by show X < _; omega))).trans x3'))
      all_goals
       have hnw : Near R wr v2 := (near_drewN (Near.refl R wr) 1).trans hn5
       have hF := Many.name (W := v2) (Wa := v2.alloc (.cells #[.string x5] 9)) (one := .cells #[.string x5] 9) (x := x5) (g := g2) (cap := cap2) (HM.out.keep (by omega) hnw) (by omega) rfl ⟨rfl, rfl, rfl⟩ (by omega) (by rw [HNL.out]; exact hown2) hgrow2 hat2
       rw [HNL.out] at hF
       have HF := hidF hF
       have HDn : Hid (R4 (v3.setCell ⟨X, 3, none⟩ (.slice (some ⟨g2, 0, none⟩) (nl + 1) cap2)) R ao l cap i5 bad5) :=
        HS.out.r0.keep (HS.out.near.trans hF.near) (box_afterR (W := wr.drew) HO.out (by omega) (by omega) hgrow2 _ 3 hR5.box) hR5.le
       have HSh := Lib.hid hsh5
       clear hF hown2 hgrow2 hat2 hlt2 hR5 hn5 hox2 x3' x3a x3'' xg'' hb6 hsh5 hnw x3
       go_wp2_with fail
       go_meet
       exact ⟨by go_num, x5, i5, bad5, g2, cap2, HSh.out, HDn.out, HF.out⟩
     case rest =>
      obtain ⟨rfl, x, i4, bad4, g, cap', hsh, hR4c, hM2⟩ := hcut
      have HSh := Lib.hid hsh
      have HRc := Lib.hid hR4c
      have HM2 := Lib.hid hM2
      have hzc := hM2.near.size
      clear hsh hR4c hM2 x3 HO HK c2 x0
      have HK := Lib.hid (HI.out hd6n R ao l cap i4 bad4 wc.drew (HRc.out.drewN 1))
      obtain ⟨xs, hxs, hkk⟩ := HM2.out.kids
      have HKK := hidF hkk
      have HX : Hid (wc.ownsRow (X + 1) 27 5 (.slice ka j kc) j xs) := by
       rw [HKL.out] at hxs; exact hxs
      have hXc := HM2.out.lt
      have x4 : wc.cell? ⟨X, 4, none⟩ = some (.slice ka j kc) := (zeroR_cells HM2.out.box).1.2.2.2.2
      obtain ⟨ik0, hi0', hy0, hy1, hyb⟩ := info_parts Tryz.info_treeR
      have HIK : Hid (_ /\ _ /\ _ /\ _) := ⟨hi0', hy0, hy1, hyb⟩
      clear hi0' hy0 hy1 hyb hxs hkk
      go_wp2_with fail
      go_region_law (first
       | (refine step_append_lies _ (by rfl) (.tmp 66) (.tmp 71) 25 (by rfl) (X + 1) 27 ik0 _ 5 80 Tryz.underlying25 HIK.out.1 HIK.out.2.1 HIK.out.2.2.1 HIK.out.2.2.2 rfl (by decide) (.slice ka j kc) j xs (by rfl) (hox2 _) ⟨v2.heap.size, 0, none⟩ 1 1 [.int .i64 t0, .int .i64 t1, .string t2, .slice ta tl tc, .slice ua ul uc] (by rfl) rfl (World.news_of_block (heap_alloc_new v2 _)) (by simp [Value.oneCell']) (by decide) (by unfold maxLen; omega) (by omega) (by simp; omega) (v2.heap.size + 1) (by simp) ?_; intro g2 cap2 v3 hown2 hgrow2 hat2 hlt2; have hb6 := (box_after (W := wc.drew) HX.out hXc (by omega) hn5 hgrow2).trans HM2.out.box; have x4'' : v3.cell? ⟨X, 4, none⟩ = some (.slice ka j kc) := (by simp [World.cell?, hb6]); have xg'' : v3.frozen? ⟨X, 4, none⟩ = false := (by simp [World.frozen?, hb6]))
       | (go_simp; go_at_call 20; refine HK.out.mono ?_; rintro e v2 ⟨hn5, t5, f0, f1, f2, f3, f4, i5, bad5, rfl, ht5, hR5, htr5⟩; obtain ⟨t0, t1, t2, ta, tl, tc, ua, ul, uc, rfl, rfl, rfl, rfl, rfl⟩ := ht5.shape; have hsz2 : wc.heap.size <= v2.heap.size := hn5.size; have hox2 := fun o => owns_on (R := R) (X := X) (W := wc.drew) HX.out (by omega) hn5 o; have x4' : v2.cell? ⟨X, 4, none⟩ = some (.slice ka j kc) := (World.cell?_of_block (hn5.block X (by simpa using hXc) (by omega))).trans x4; have x4a : (v2.alloc (.cells #[.int .i64 t0, .int .i64 t1, .string t2, .slice ta tl tc, .slice ua ul uc] 27)).cell? ⟨X, 4, none⟩ = some (.slice ka j kc) := (World.cell?_of_block (Below.heap_alloc _ _ _ (by show X < _; omega))).trans x4'))
      all_goals
       have hF := Many.kidD (g := g2) (cap := cap2) (xs := xs) 1 HM2.out (by omega) (by omega) hn5 ht5 (by rw [HKL.out]; exact HX.out) HKK.out (by rw [HKL.out]; exact hown2) hgrow2 hat2
       rw [HKL.out] at hF
       have HF := hidF hF
       have HDn : Hid (R4 (v3.setCell ⟨X, 4, none⟩ (.slice (some ⟨g2, 0, none⟩) (j + 1) cap2)) R ao l cap i5 bad5) :=
        HS.out.r0.keep (HS.out.near.trans hF.near) (box_afterR (W := wc.drew) HX.out (by omega) (by omega) hgrow2 _ 4 hR5.box) hR5.le
       have HMid5 := Lib.hid (midT_five HMid.out HSh.out htr5)
       clear hF hown2 hgrow2 hat2 hlt2 ht5 hR5 htr5 hn5 hox2 x4' x4a x4'' xg'' hb6
       go_wp2_with fail
       go_roundw
       case rel => exact ⟨k, j + 1, nl + 1, i5, bad5, ns ++ [x], ks ++ [t5], some ⟨g, 0, none⟩, cap', some ⟨g2, 0, none⟩, cap2, by go_num, by omega, by simp [HKL.out], by simp [HNL.out], by omega, HMid5.out, HDn.out, HF.out⟩
       case measure => simp [intOf]
  have hv1 : ¬ (v : Int) = 1 := by omega
  have hv2 : ¬ (v : Int) = 2 := by omega
  have hv3 : ¬ (v : Int) = 3 := by omega
  have hv5 : ¬ (v : Int) = 5 := by omega
  have HC := Lib.hid (one_any W2 R ao l cap i1 false HS.out.r2)
  clear x1 x2 x3 x4 y0 y1 y2 y3 y4 c0 c1 g1 g2
  go_wp2_with fail
  refine HC.out.mono ?_
  rintro e w3 ⟨n0, i2, bad2, rfl, hn0, hon, h3r, hn3⟩
  have HM3 : Hid (Many R w1.heap.size m w1 w3 (v : Int) [] [] (.slice none 0 0) (.slice none 0 0)) := HS.out.many.keep (by omega) hn3
  have HR3 := Lib.hid h3r
  have HOn := Lib.hid hon
  clear HC hon h3r hn3 x0 c2
  obtain ⟨X, hXe⟩ : ∃ X, w1.heap.size = X := ⟨_, rfl⟩
  have hzX : W2.heap.size = X + 1 := by omega
  have hwX : w.heap.size < X := by omega
  rw [hXe] at HM3
  rw [hXe]
  go_wp2_with fail
  go_loopw [6] (fun kv wr => ∃ (k j nl i3 : Nat) (bad3 : Bool) (ns : List ByteArray) (ks : List (T m)) (na : Option Addr) (nc : Nat) (ka : Option Addr) (kc : Nat), kv = .int .i64 (k : Int) /\ k + j = n0 /\ ks.length = j /\ ns.length = nl /\ nl <= j /\ midT m ((d : Int) + 1) (v : Int) l i2 bad2 n0 ns ks k i3 bad3 /\ R4 wr R ao l cap i3 bad3 /\ Many R X m w1 wr (v : Int) ns ks (.slice na nl nc) (.slice ka j kc)) (fun kv _ => (intOf kv).toNat)
  case atStart => exact ⟨n0, 0, 0, i2, bad2, [], [], none, 0, none, 0, rfl, by omega, rfl, rfl, by omega, midT_start _ _ _ _ _ _ _, HR3.out, HM3.out⟩
  case round =>
   obtain ⟨k, j, nl, i3, bad3, ns, ks, na, nc, ka, kc, rfl, hkj, hkl, hnl, hnlj, hmid, hR4, hM⟩ := hrel
   have hXr := hM.lt
   have hzr := hM.near.size
   have HM := Lib.hid hM
   have HR := Lib.hid hR4
   have HMid := Lib.hid hmid
   have HKL := Lib.hid hkl
   have HNL := Lib.hid hnl
   clear HM3 HR3 hmid hR4 hM hkl hnl
   by_cases hk0 : k = 0
   ·subst hk0
    have HP : Hid (Tr4Post (m + 1) (d : Int) w R ao l cap i bad (.returned (.agg #[.int .i64 (v : Int), .int .i64 0, .string ByteArray.empty, .slice na nl nc, .slice ka j kc])) (put5 wr w.heap.size 0 (.int .i64 (v : Int)) (.int .i64 0) (.string ByteArray.empty) (.slice na nl nc) (.slice ka j kc))) :=
     tr_many HS.out (by rw [hXe]; exact HM.out) HR.out (by rw [HNL.out]; omega) (by rw [HKL.out]; omega) (treeR_many HS.out.one h1 h2 h3 HOn.out HMid.out (.inl rfl))
    obtain ⟨⟨x0, x1, x2, x3, x4⟩, -⟩ := zeroR_cells HM.out.box
    obtain ⟨⟨z0, z1, z2, z3, z4⟩, u0, u1, u2, u3, u4⟩ := zeroR_cells ((HM.out.near.block w.heap.size (by omega) (by omega)).trans HS.out.zero)
    obtain ⟨⟨c0, c1, c2⟩, g1, g2⟩ := HR.out.cells
    clear HS HM HR HMid HOn HI HKL HNL
    go_wp2_with fail
    refine bodyPost_ret (v := .agg #[.int .i64 (v : Int), .int .i64 0, .string ByteArray.empty, .slice na nl nc, .slice ka j kc]) (by simp [results, Tryz.results20, go_sem, z0, z1, z2, z3, z4]; rfl) rfl ?_
    exact HP.out
   cases bad3
   case true =>
    have hkp : (k : Int) > 0 := by omega
    have hkp' : (0 : Int) < (k : Int) := by omega
    have HP : Hid (Tr4Post (m + 1) (d : Int) w R ao l cap i bad (.returned (.agg #[.int .i64 (v : Int), .int .i64 0, .string ByteArray.empty, .slice na nl nc, .slice ka j kc])) (put5 wr w.heap.size 0 (.int .i64 (v : Int)) (.int .i64 0) (.string ByteArray.empty) (.slice na nl nc) (.slice ka j kc))) :=
     tr_many HS.out (by rw [hXe]; exact HM.out) HR.out (by rw [HNL.out]; omega) (by rw [HKL.out]; omega) (treeR_many HS.out.one h1 h2 h3 HOn.out HMid.out (.inr rfl))
    obtain ⟨⟨x0, x1, x2, x3, x4⟩, -⟩ := zeroR_cells HM.out.box
    obtain ⟨⟨z0, z1, z2, z3, z4⟩, u0, u1, u2, u3, u4⟩ := zeroR_cells ((HM.out.near.block w.heap.size (by omega) (by omega)).trans HS.out.zero)
    obtain ⟨⟨c0, c1, c2⟩, g1, g2⟩ := HR.out.cells
    clear HS HM HR HMid HOn HI HKL HNL
    go_wp2_with fail
    refine bodyPost_ret (v := .agg #[.int .i64 (v : Int), .int .i64 0, .string ByteArray.empty, .slice na nl nc, .slice ka j kc]) (by simp [results, Tryz.results20, go_sem, z0, z1, z2, z3, z4]; rfl) rfl ?_
    exact HP.out
   case false =>
    obtain ⟨k, rfl⟩ : ∃ q, k = q + 1 := ⟨k - 1, by omega⟩
    have hkp' : (0 : Int) < ((k + 1 : Nat) : Int) := by omega
    have hsub : ((k + 1 : Nat) : Int) - 1 = (k : Int) := by omega
    have hwd : IntKind.i64.wrap ((d : Int) + 1) = (d : Int) + 1 := by rw [IntKind.wrap_i64]; omega
    have c2 := HR.out.cells.1.2.2
    have x0 := (zeroR_cells HM.out.box).1.1
    have HK := Lib.hid (HI.out hd6n R ao l cap i3 false wr.drew (HR.out.drewN 1))
    obtain ⟨xs, hxs, hkk⟩ := HM.out.kids
    have HKK := hidF hkk
    have HX : Hid (wr.ownsRow (X + 1) 27 5 (.slice ka j kc) j xs) := by
     rw [HKL.out] at hxs; exact hxs
    have hXc := HM.out.lt
    have x4 : wr.cell? ⟨X, 4, none⟩ = some (.slice ka j kc) := (zeroR_cells HM.out.box).1.2.2.2.2
    obtain ⟨ik0, hi0', hy0, hy1, hyb⟩ := info_parts Tryz.info_treeR
    have HIK : Hid (_ /\ _ /\ _ /\ _) := ⟨hi0', hy0, hy1, hyb⟩
    clear hi0' hy0 hy1 hyb hxs hkk
    go_wp2_with fail
    go_region_law (first
     | (refine step_append_lies _ (by rfl) (.tmp 66) (.tmp 71) 25 (by rfl) (X + 1) 27 ik0 _ 5 80 Tryz.underlying25 HIK.out.1 HIK.out.2.1 HIK.out.2.2.1 HIK.out.2.2.2 rfl (by decide) (.slice ka j kc) j xs (by rfl) (hox2 _) ⟨v2.heap.size, 0, none⟩ 1 1 [.int .i64 t0, .int .i64 t1, .string t2, .slice ta tl tc, .slice ua ul uc] (by rfl) rfl (World.news_of_block (heap_alloc_new v2 _)) (by simp [Value.oneCell']) (by decide) (by unfold maxLen; omega) (by omega) (by simp; omega) (v2.heap.size + 1) (by simp) ?_; intro g2 cap2 v3 hown2 hgrow2 hat2 hlt2; have hb6 := (box_after (W := wr.drew) HX.out hXc (by omega) hn5 hgrow2).trans HM.out.box; have x4'' : v3.cell? ⟨X, 4, none⟩ = some (.slice ka j kc) := (by simp [World.cell?, hb6]); have xg'' : v3.frozen? ⟨X, 4, none⟩ = false := (by simp [World.frozen?, hb6]))
     | (go_simp; go_at_call 20; refine HK.out.mono ?_; rintro e v2 ⟨hn5, t5, f0, f1, f2, f3, f4, i5, bad5, rfl, ht5, hR5, htr5⟩; obtain ⟨t0, t1, t2, ta, tl, tc, ua, ul, uc, rfl, rfl, rfl, rfl, rfl⟩ := ht5.shape; have hsz2 : wr.heap.size <= v2.heap.size := hn5.size; have hox2 := fun o => owns_on (R := R) (X := X) (W := wr.drew) HX.out (by omega) hn5 o; have x4' : v2.cell? ⟨X, 4, none⟩ = some (.slice ka j kc) := (World.cell?_of_block (hn5.block X (by simpa using hXc) (by omega))).trans x4; have x4a : (v2.alloc (.cells #[.int .i64 t0, .int .i64 t1, .string t2, .slice ta tl tc, .slice ua ul uc] 27)).cell? ⟨X, 4, none⟩ = some (.slice ka j kc) := (World.cell?_of_block (Below.heap_alloc _ _ _ (by show X < _; omega))).trans x4'))
    all_goals
     have hF := Many.kidD (g := g2) (cap := cap2) (xs := xs) 1 HM.out (by omega) (by omega) hn5 ht5 (by rw [HKL.out]; exact HX.out) HKK.out (by rw [HKL.out]; exact hown2) hgrow2 hat2
     rw [HKL.out] at hF
     have HF := hidF hF
     have HDn : Hid (R4 (v3.setCell ⟨X, 4, none⟩ (.slice (some ⟨g2, 0, none⟩) (j + 1) cap2)) R ao l cap i5 bad5) :=
      HS.out.r0.keep (HS.out.near.trans hF.near) (box_afterR (W := wr.drew) HX.out (by omega) (by omega) hgrow2 _ 4 hR5.box) hR5.le
     have HMid5 := Lib.hid (midT_more (by omega) HMid.out htr5)
     clear hF hown2 hgrow2 hat2 hlt2 ht5 hR5 htr5 hn5 hox2 x4' x4a x4'' xg'' hb6
     go_wp2_with fail
     go_roundw
     case rel => exact ⟨k, j + 1, nl, i5, bad5, ns, ks ++ [t5], na, nc, some ⟨g2, 0, none⟩, cap2, by go_num, by omega, by simp [HKL.out], HNL.out, by omega, HMid5.out, HDn.out, HF.out⟩
     case measure => simp [intOf]
end Go.Proofs.YtmjhcgjhlakceaaGreatDoor
