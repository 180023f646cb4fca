/-
  What the specification draws: l5Tree at a number, a text, a flag.
-/
import Derived.Test.YtpalkdcgbbbmeaaGreatDoorDT0
import Derived.Deep.Cut
import Derived.Deep.CutRange
import Derived.WalkSmall
import Derived.LoopTactic
namespace Go.Proofs.YtpalkdcgbbbmeaaGreatDoor
open Go.RowKit

/-- l5Tree at d levels. -/
def DrawTSaid (d : Nat) : Prop := ∀ (m R : Nat) (ao : Option Addr) (L cap p : Nat) (k : K m) (S : Nat → Prop) (g : Int) (c0 c1 c2 : Value) (w : World), depK m k d → goodK m k g = true → cntK m k ≤ 40 → KindIn S w m k c0 c1 c2 → (∀ b, S b → b < w.heap.size ∧ b ≠ R) → Dr w R ao L cap p → p + pt d ≤ 900000 →
  Calls Tryz.prog 24 #[.pointer (some ⟨R, 0, none⟩), .agg #[c0, c1, c2]] w (DTPost m d w R ao L cap p (pt d))

theorem wf_num {x : Int} (h1 : -1000000000 ≤ x) (h2 : x ≤ 1000000000) : (Lit.int .i64 x).wf = true := by
  simp only [Lit.wf, Bool.and_eq_true, decide_eq_true_eq]
  exact ⟨by have : IntKind.i64.min = -9223372036854775808 := rfl
            omega, by have : IntKind.i64.max = 9223372036854775807 := rfl
                      omega⟩

/-- How l5Tree begins. -/
structure TStart (m R : Nat) (ao : Option Addr) (L cap p : Nat) (w W1 W2 : World) (so : Int) (nv kv : Value) : Prop where
  many : Many R (w.heap.size + 2) m W1 W2 so [] [] (.slice none 0 0) (.slice none 0 0)
  sz1 : W1.heap.size = w.heap.size + 2
  sz2 : W2.heap.size = w.heap.size + 3
  near : Near R w W1
  zero : W1.heap[w.heap.size + 1]? = some (.cells #[.int .i64 0, .int .i64 0, .string ⟨#[]⟩, .slice none 0 0, .slice none 0 0] 29 (0, 0))
  kbox : W1.heap[w.heap.size]? = some (.cells #[.int .i64 so, nv, kv] 26 (0, 0))
  dr0 : Dr w R ao L cap p
  dr : Dr W2 R ao L cap p

theorem tstart (m : Nat) {R : Nat} {ao : Option Addr} {L cap p : Nat} {w W1 W2 : World} {so : Int} {nv kv : Value} (h : Dr w R ao L cap p) (h1 : W1 = (w.alloc (.cells #[.int .i64 so, nv, kv] 26)).alloc (.cells #[.int .i64 0, .int .i64 0, .string ⟨#[]⟩, .slice none 0 0, .slice none 0 0] 29))
    (h2 : W2 = W1.alloc (.cells #[.int .i64 so, .int .i64 0, .string ⟨#[]⟩, .slice none 0 0, .slice none 0 0] 29)) : TStart m R ao L cap p w W1 W2 so nv kv := by
  have hz1 : W1.heap.size = w.heap.size + 2 := by rw [h1]; simp
  have hz2 : W2.heap.size = w.heap.size + 3 := by rw [h2]; simp [hz1]
  have hb1 : Below w.heap.size w W1 := by rw [h1]; exact ((Below.refl _ _).alloc (Nat.le_refl _) _).alloc (by simp) _
  have hb2 : Below W1.heap.size W1 W2 := by rw [h2]; exact (Below.refl _ _).alloc (Nat.le_refl _) _
  have hX : W2.heap[w.heap.size + 2]? = some (.cells #[.int .i64 so, .int .i64 0, .string ⟨#[]⟩, .slice none 0 0, .slice none 0 0] 29 (0, 0)) := by
    rw [h2, ← hz1]; exact heap_alloc_new _ _
  refine ⟨⟨Near.of_below hb2, hX, ⟨rfl, .inl ⟨rfl, rfl⟩⟩, by simp, ⟨[], ⟨rfl, .inl ⟨rfl, rfl⟩⟩, fun j hj => absurd hj (Nat.not_lt_zero _)⟩, fun b hb => by cases hb⟩, hz1, hz2, Near.of_below hb1, ?_, ?_, h, (h.same hb1).same hb2⟩
  · rw [h1]
    have := heap_alloc_new (w.alloc (.cells #[.int .i64 so, nv, kv] 26)) (.cells #[.int .i64 0, .int .i64 0, .string ⟨#[]⟩, .slice none 0 0, .slice none 0 0] 29)
    simpa using this
  · rw [h1, Below.heap_alloc _ _ _ (by simp)]
    exact heap_alloc_new _ _

theorem zeroDT_cells {w : World} {N : Nat} (h : w.heap[N]? = some (.cells #[.int .i64 0, .int .i64 0, .string ⟨#[]⟩, .slice none 0 0, .slice none 0 0] 29 (0, 0))) :
    (w.cell? ⟨N, 0, none⟩ = some (.int .i64 0) ∧ w.cell? ⟨N, 1, none⟩ = some (.int .i64 0) ∧ w.cell? ⟨N, 2, none⟩ = some (.string ⟨#[]⟩) ∧ w.cell? ⟨N, 3, none⟩ = some (.slice none 0 0) ∧ w.cell? ⟨N, 4, none⟩ = some (.slice none 0 0)) ∧
      w.frozen? ⟨N, 0, none⟩ = false ∧ w.frozen? ⟨N, 1, none⟩ = false ∧ w.frozen? ⟨N, 2, none⟩ = false ∧ w.frozen? ⟨N, 3, none⟩ = false ∧ w.frozen? ⟨N, 4, none⟩ = false := by
  refine ⟨⟨?_, ?_, ?_, ?_, ?_⟩, ?_, ?_, ?_, ?_, ?_⟩ <;> simp [World.cell?, World.frozen?, h]

/-- The cells of the tree that is made, in a world that is near. -/
theorem treeX_cells {R X n : Nat} {w wr : World} {so : Int} {ns : List ByteArray} {ks : List (T n)} {nv kv : Value} (h : Many R X n w wr so ns ks nv kv) :
    (wr.cell? ⟨X, 0, none⟩ = some (.int .i64 so) ∧ wr.cell? ⟨X, 1, none⟩ = some (.int .i64 0) ∧ wr.cell? ⟨X, 2, none⟩ = some (.string ByteArray.empty) ∧ wr.cell? ⟨X, 3, none⟩ = some nv ∧ wr.cell? ⟨X, 4, none⟩ = some kv) ∧
      wr.frozen? ⟨X, 0, none⟩ = false ∧ wr.frozen? ⟨X, 1, none⟩ = false ∧ wr.frozen? ⟨X, 2, none⟩ = false ∧ wr.frozen? ⟨X, 3, none⟩ = false ∧ wr.frozen? ⟨X, 4, none⟩ = false := by
  refine ⟨⟨?_, ?_, ?_, ?_, ?_⟩, ?_, ?_, ?_, ?_, ?_⟩ <;> simp [World.cell?, World.frozen?, h.box]

/-- Way out with a leaf whose number or text is drawn. -/
theorem dt_leaf {m d R L cap p p' q : Nat} {ao : Option Addr} {w W1 W2 wr W : World} {so y : Int} {s : ByteArray} {nv kv : Value} (hS : TStart m R ao L cap p w W1 W2 so nv kv) (hn : Near R W2 wr) (hD : Dr wr R ao L cap p') (hp : p' ≤ p + q) (hW : ∀ b, b ≠ w.heap.size + 2 → W.heap[b]? = wr.heap[b]?) (hB : Below 0 wr W) (hz : W.heap.size = wr.heap.size)
    (hso : (Lit.int .i64 so).wf = true) (hy : (Lit.int .i64 y).wf = true) (hs : s.size ≤ 10000) :
    DTPost (m + 1) (d + 1) w R ao L cap p q (.returned (.agg #[.int .i64 so, .int .i64 y, .string s, .slice none 0 0, .slice none 0 0])) (put5 W (w.heap.size + 1) 0 (.int .i64 so) (.int .i64 y) (.string s) (.slice none 0 0) (.slice none 0 0)) := by
  have hR := hS.dr0.lt
  have h1 := hS.many.near.size
  have h2 := hn.size
  have hnr : Near R w wr := (hS.near.trans hS.many.near).trans hn
  have h3 := hS.sz1
  refine dt_exit hS.dr0 (by omega) ⟨by rw [hB.os]; exact hnr.os, by rw [hB.tape]; exact hnr.tape, by rw [hB.output]; exact hnr.output, by rw [hz]; exact hnr.size, fun b hb hne => (hW b (by omega)).trans (hnr.block b hb hne)⟩ ((hW R (by omega)).trans hD.box) hp (leafDT_in _ _ m so y s hso hy hs) (depT.leaf m so y s d)

set_option maxRecDepth 20000 in
set_option maxHeartbeats 1000000 in
theorem l5Tree_num (m d R : Nat) (ao : Option Addr) (L cap p : Nat) (w : World) (h : Dr w R ao L cap p) (na ka : Option Addr) (nc kc : Nat) (hp : p + (4 + 40 * pt d) ≤ 900000) :
    Calls Tryz.prog 24 #[.pointer (some ⟨R, 0, none⟩), .agg #[.int .i64 1, .slice na 0 nc, .slice ka 0 kc]] w (DTPost (m + 1) (d + 1) w R ao L cap p (4 + 40 * pt d)) := by
  have hR := h.lt
  obtain ⟨W1, hW1⟩ : ∃ W1, W1 = (w.alloc (.cells #[.int .i64 1, .slice na 0 nc, .slice ka 0 kc] 26)).alloc (.cells #[.int .i64 0, .int .i64 0, .string ⟨#[]⟩, .slice none 0 0, .slice none 0 0] 29) := ⟨_, rfl⟩
  obtain ⟨W2, hW2⟩ : ∃ W2, W2 = W1.alloc (.cells #[.int .i64 1, .int .i64 0, .string ⟨#[]⟩, .slice none 0 0, .slice none 0 0] 29) := ⟨_, rfl⟩
  have HS : Hid (TStart m R ao L cap p w W1 W2 1 (.slice na 0 nc) (.slice ka 0 kc)) := tstart m h hW1 hW2
  have HC : Hid (Calls Tryz.prog 60 #[.pointer (some ⟨R, 0, none⟩)] W2 _) := l5Num_any W2 R ao L cap p HS.out.dr (by omega)
  have hz1 := HS.out.sz1
  clear h
  go_enter Tryz.func24, Tryz.ntmps24
  go_wp2_with fail
  rw [← hW1, ← hW2]
  clear hW1 hW2
  refine HC.out.mono ?_
  rintro e w3 ⟨x, p', rfl, hx1, hx2, hp', hn3, hD3⟩
  have hM := HS.out.many.keep (by omega) hn3
  obtain ⟨⟨x0, x1, x2, x3, x4⟩, y0, y1, y2, y3, y4⟩ := treeX_cells hM
  obtain ⟨⟨z0, z1, z2, z3, z4⟩, u0, u1, u2, u3, u4⟩ := zeroDT_cells ((hM.near.block (w.heap.size + 1) (by omega) (by omega)).trans HS.out.zero)
  have HP : Hid (DTPost (m + 1) (d + 1) w R ao L cap p (4 + 40 * pt d) (.returned (.agg #[.int .i64 1, .int .i64 x, .string ByteArray.empty, .slice none 0 0, .slice none 0 0])) (put5 (w3.setCell ⟨w.heap.size + 2, 1, none⟩ (.int .i64 x)) (w.heap.size + 1) 0 (.int .i64 1) (.int .i64 x) (.string ByteArray.empty) (.slice none 0 0) (.slice none 0 0))) :=
    dt_leaf HS.out hn3 hD3 (by omega) (fun b hb => Below.heap_setCell _ _ _ _ hb) ((Below.refl 0 w3).setCell (Nat.zero_le _) _) (by simp) (by rfl) (wf_num hx1 hx2) (by simp)
  clear HC hM hn3 hD3 HS
  go_wp2_with fail
  refine bodyPost_ret (v := .agg #[.int .i64 1, .int .i64 x, .string ByteArray.empty, .slice none 0 0, .slice none 0 0]) (by simp [results, Tryz.results24, go_sem, z0, z1, z2, z3, z4]) rfl ?_
  exact HP.out

set_option maxRecDepth 20000 in
set_option maxHeartbeats 1000000 in
theorem l5Tree_text (m d R : Nat) (ao : Option Addr) (L cap p : Nat) (w : World) (h : Dr w R ao L cap p) (na ka : Option Addr) (nc kc : Nat) (hp : p + (4 + 40 * pt d) ≤ 900000) :
    Calls Tryz.prog 24 #[.pointer (some ⟨R, 0, none⟩), .agg #[.int .i64 2, .slice na 0 nc, .slice ka 0 kc]] w (DTPost (m + 1) (d + 1) w R ao L cap p (4 + 40 * pt d)) := by
  have hR := h.lt
  obtain ⟨W1, hW1⟩ : ∃ W1, W1 = (w.alloc (.cells #[.int .i64 2, .slice na 0 nc, .slice ka 0 kc] 26)).alloc (.cells #[.int .i64 0, .int .i64 0, .string ⟨#[]⟩, .slice none 0 0, .slice none 0 0] 29) := ⟨_, rfl⟩
  obtain ⟨W2, hW2⟩ : ∃ W2, W2 = W1.alloc (.cells #[.int .i64 2, .int .i64 0, .string ⟨#[]⟩, .slice none 0 0, .slice none 0 0] 29) := ⟨_, rfl⟩
  have HS : Hid (TStart m R ao L cap p w W1 W2 2 (.slice na 0 nc) (.slice ka 0 kc)) := tstart m h hW1 hW2
  have HC : Hid (Calls Tryz.prog 61 #[.pointer (some ⟨R, 0, none⟩)] W2 _) := l5Text_any W2 R ao L cap p HS.out.dr (by omega)
  have hz1 := HS.out.sz1
  clear h
  go_enter Tryz.func24, Tryz.ntmps24
  go_wp2_with fail
  rw [← hW1, ← hW2]
  clear hW1 hW2
  refine HC.out.mono ?_
  rintro e w3 ⟨x, p', rfl, hx1, hp', hn3, hD3⟩
  have hM := HS.out.many.keep (by omega) hn3
  obtain ⟨⟨x0, x1, x2, x3, x4⟩, y0, y1, y2, y3, y4⟩ := treeX_cells hM
  obtain ⟨⟨z0, z1, z2, z3, z4⟩, u0, u1, u2, u3, u4⟩ := zeroDT_cells ((hM.near.block (w.heap.size + 1) (by omega) (by omega)).trans HS.out.zero)
  have HP : Hid (DTPost (m + 1) (d + 1) w R ao L cap p (4 + 40 * pt d) (.returned (.agg #[.int .i64 2, .int .i64 0, .string x, .slice none 0 0, .slice none 0 0])) (put5 (w3.setCell ⟨w.heap.size + 2, 2, none⟩ (.string x)) (w.heap.size + 1) 0 (.int .i64 2) (.int .i64 0) (.string x) (.slice none 0 0) (.slice none 0 0))) :=
    dt_leaf HS.out hn3 hD3 (by omega) (fun b hb => Below.heap_setCell _ _ _ _ hb) ((Below.refl 0 w3).setCell (Nat.zero_le _) _) (by simp) (by rfl) (by rfl) hx1
  clear HC hM hn3 hD3 HS
  go_wp2_with fail
  refine bodyPost_ret (v := .agg #[.int .i64 2, .int .i64 0, .string x, .slice none 0 0, .slice none 0 0]) (by simp [results, Tryz.results24, go_sem, z0, z1, z2, z3, z4]) rfl ?_
  exact HP.out

set_option maxRecDepth 20000 in
set_option maxHeartbeats 1000000 in
theorem l5Tree_flag (m d R : Nat) (ao : Option Addr) (L cap p : Nat) (w : World) (h : Dr w R ao L cap p) (na ka : Option Addr) (nc kc : Nat) (hp : p + (4 + 40 * pt d) ≤ 900000) :
    Calls Tryz.prog 24 #[.pointer (some ⟨R, 0, none⟩), .agg #[.int .i64 3, .slice na 0 nc, .slice ka 0 kc]] w (DTPost (m + 1) (d + 1) w R ao L cap p (4 + 40 * pt d)) := by
  have hR := h.lt
  obtain ⟨W1, hW1⟩ : ∃ W1, W1 = (w.alloc (.cells #[.int .i64 3, .slice na 0 nc, .slice ka 0 kc] 26)).alloc (.cells #[.int .i64 0, .int .i64 0, .string ⟨#[]⟩, .slice none 0 0, .slice none 0 0] 29) := ⟨_, rfl⟩
  obtain ⟨W2, hW2⟩ : ∃ W2, W2 = W1.alloc (.cells #[.int .i64 3, .int .i64 0, .string ⟨#[]⟩, .slice none 0 0, .slice none 0 0] 29) := ⟨_, rfl⟩
  have HS : Hid (TStart m R ao L cap p w W1 W2 3 (.slice na 0 nc) (.slice ka 0 kc)) := tstart m h hW1 hW2
  have HC : Hid (Calls Tryz.prog 25 #[.pointer (some ⟨R, 0, none⟩), .int .i64 2] W2 (PickPost W2 R ao L cap p 2)) := pick_any W2 R ao L cap p 2 HS.out.dr (by omega) (by omega) (by omega)
  have hz1 := HS.out.sz1
  clear h
  go_enter Tryz.func24, Tryz.ntmps24
  go_wp2_with fail
  rw [← hW1, ← hW2]
  clear hW1 hW2
  refine HC.out.mono ?_
  rintro e w3 ⟨x, rfl, hx, hn3, hD3, hz3⟩
  have hM := HS.out.many.keep (by omega) hn3
  obtain ⟨⟨x0, x1, x2, x3, x4⟩, y0, y1, y2, y3, y4⟩ := treeX_cells hM
  obtain ⟨⟨z0, z1, z2, z3, z4⟩, u0, u1, u2, u3, u4⟩ := zeroDT_cells ((hM.near.block (w.heap.size + 1) (by omega) (by omega)).trans HS.out.zero)
  have HP : Hid (DTPost (m + 1) (d + 1) w R ao L cap p (4 + 40 * pt d) (.returned (.agg #[.int .i64 3, .int .i64 (x : Int), .string ByteArray.empty, .slice none 0 0, .slice none 0 0])) (put5 (w3.setCell ⟨w.heap.size + 2, 1, none⟩ (.int .i64 (x : Int))) (w.heap.size + 1) 0 (.int .i64 3) (.int .i64 (x : Int)) (.string ByteArray.empty) (.slice none 0 0) (.slice none 0 0))) :=
    dt_leaf HS.out hn3 hD3 (by omega) (fun b hb => Below.heap_setCell _ _ _ _ hb) ((Below.refl 0 w3).setCell (Nat.zero_le _) _) (by simp) (by rfl) (wf_num (by omega) (by omega)) (by simp)
  clear HC hM hn3 hD3 HS
  go_wp2_with fail
  refine bodyPost_ret (v := .agg #[.int .i64 3, .int .i64 (x : Int), .string ByteArray.empty, .slice none 0 0, .slice none 0 0]) (by simp [results, Tryz.results24, go_sem, z0, z1, z2, z3, z4]) rfl ?_
  exact HP.out

end Go.Proofs.YtpalkdcgbbbmeaaGreatDoor
