/-
  Several texts in one, in their order.
-/
import Derived.Test.YtlinplghgamgbaaGreatDoorB1
import Derived.ProofKit
import Derived.Deep.Strs

/-
  An argument that is read as data is a tree in memory.
-/
namespace Go.Proofs.YtlinplghgamgbaaGreatDoor
open Go.ChangeShapes Go.WideShapes Go.ChangeAt Go.RowKit Go.Deep

theorem list_of {α : Type} {p : Nat → α → Prop} : ∀ n, (∀ i, i < n → ∃ x, p i x) → ∃ l : List α, l.length = n ∧ ∀ i (h : i < l.length), p i l[i] := by
  intro n
  induction n with
  | zero => intro _; exact ⟨[], rfl, fun i h => absurd h (Nat.not_lt_zero _)⟩
  | succ n ih =>
    intro h
    obtain ⟨l, hl, hp⟩ := ih (fun i hi => h i (by omega))
    obtain ⟨x, hx⟩ := h n (by omega)
    refine ⟨l ++ [x], by simp [hl], fun i hi => ?_⟩
    by_cases hin : i < l.length
    · rw [List.getElem_append_left hin]; exact hp i hin
    · have : i = l.length := by simp at hi; omega
      subst this
      simp; rw [hl]; exact hx

theorem cell_lt {w : World} {b o : Nat} {v : Value} (h : w.cell? ⟨b, o, none⟩ = some v) : b < w.heap.size :=
  Classical.byContradiction fun hge => by
    have : w.heap[b]? = none := Array.getElem?_eq_none (by omega)
    simp [World.cell?, this] at h

/-- A row of texts that is read. -/
theorem open_names {H : Type} {enc : TypeId × Value → H} {P : Program} {w : World} {spare : Nat → Bool} {held : Bool} {t e : TypeId} {fuel : Nat} {v : Value} {x : DataW H × List MemPlace}
    (ht : P.underlying t = some (.slice e)) (he : P.underlying e = some .string) (hc : P.cellsOf e = 1) (h : DataW.trod enc P w 0 spare held fuel t [v] = some x) :
    ∃ l : List ByteArray, StrsIn (fun b => b < w.heap.size) w l v := by
  rcases open_strs ht he hc h with ⟨hv, -⟩ | ⟨a, len, cap, m, Sx, hv, -, hl, hm, hmm, -, hx⟩
  · simp at hv; subst hv
    exact ⟨[], none, 0, rfl, by simp [maxLen], fun s hs => absurd hs (by simp), fun h => absurd rfl h⟩
  · simp at hv; subst hv
    have hlm : len ≤ m := by rw [hmm]; split <;> omega
    refine ⟨(List.range len).map Sx, some a, cap, by simp, by simp; unfold maxLen at *; omega, ?_, fun hne => ?_⟩
    · intro s hs
      obtain ⟨i, hi, rfl⟩ := List.mem_map.1 hs
      exact (hx i (by simp at hi; omega)).2
    · have h0 : 0 < len := by
        rcases Nat.eq_zero_or_pos len with h0 | h0
        · subst h0; simp at hne
        · exact h0
      obtain ⟨b, off, spot⟩ := a
      have hspot : spot = none := by simpa [Addr.add] using World.cell?_spot (hx 0 (by omega)).1
      subst hspot
      have hcell : ∀ i, i < len → w.cell? ⟨b, off + i, none⟩ = some (.string (Sx i)) := fun i hi => by
        have := (hx i (by omega)).1
        rwa [add_plain] at this
      exact ⟨b, off, rfl, cell_lt (hcell 0 h0), fun i hi => by simp at hi; rw [hcell i hi]; simp⟩

/-- A tree that is read: its type's facts. -/
structure TreeType (P : Program) (tt ks : TypeId) (fs : Array Field) (ti ts tn : TypeId) : Prop where
  tree : P.underlying tt = some (.struct fs)
  cells : P.cellsOf tt = 5
  kids : P.underlying ks = some (.slice tt)
  int : P.underlying ti = some (.int .i64)
  str : P.underlying ts = some .string
  names : P.underlying tn = some (.slice ts)
  ci : P.cellsOf ti = 1
  cs : P.cellsOf ts = 1
  cn : P.cellsOf tn = 1
  ck : P.cellsOf ks = 1
  f0 : ∃ f, fs[0]? = some f ∧ f.type = ti ∧ f.offset = 0
  f1 : ∃ f, fs[1]? = some f ∧ f.type = ti ∧ f.offset = 1
  f2 : ∃ f, fs[2]? = some f ∧ f.type = ts ∧ f.offset = 2
  f3 : ∃ f, fs[3]? = some f ∧ f.type = tn ∧ f.offset = 3
  f4 : ∃ f, fs[4]? = some f ∧ f.type = ks ∧ f.offset = 4
  nf : fs.size = 5

theorem open_tree {H : Type} {enc : TypeId × Value → H} {P : Program} {w : World} {spare : Nat → Bool} {held : Bool} {tt ks ti ts tn : TypeId} {fs : Array Field} (F : TreeType P tt ks fs ti ts tn) :
    ∀ fuel N, fuel ≤ N → ∀ (cs : List Value) (x : DataW H × List MemPlace), DataW.trod enc P w 0 spare held fuel tt cs = some x →
      ∃ (t : T N) (c0 c1 c2 c3 c4 : Value), cs = [c0, c1, c2, c3, c4] ∧ TreeIn (fun b => b < w.heap.size) w N t c0 c1 c2 c3 c4 := by
  intro fuel
  induction fuel using Nat.strongRecOn with
  | ind fuel ih =>
    intro N hN cs x h
    obtain ⟨xs, n, rfl, -, hlen, hxl, hf⟩ := DataW.trod_struct F.tree h
    rw [F.cells] at hlen
    match cs, hlen with
    | [c0, c1, c2, c3, c4], _ =>
      obtain ⟨f0, e0, t0, o0⟩ := F.f0
      obtain ⟨f1, e1, t1, o1⟩ := F.f1
      obtain ⟨f2, e2, t2, o2⟩ := F.f2
      obtain ⟨f3, e3, t3, o3⟩ := F.f3
      obtain ⟨f4, e4, t4, o4⟩ := F.f4
      have get : ∀ i, i < 5 → ∃ y, xs[i]? = some y := fun i hi => ⟨xs[i]'(by rw [hxl, F.nf]; exact hi), List.getElem?_eq_getElem _⟩
      have r0 := hf 0 f0 e0
      have r1 := hf 1 f1 e1
      have r2 := hf 2 f2 e2
      have r3 := hf 3 f3 e3
      have r4 := hf 4 f4 e4
      obtain ⟨y0, g0⟩ := get 0 (by omega)
      obtain ⟨y1, g1⟩ := get 1 (by omega)
      obtain ⟨y2, g2⟩ := get 2 (by omega)
      obtain ⟨y3, g3⟩ := get 3 (by omega)
      obtain ⟨y4, g4⟩ := get 4 (by omega)
      rw [t0, o0, F.ci, g0] at r0
      rw [t1, o1, F.ci, g1] at r1
      rw [t2, o2, F.cs, g2] at r2
      rw [t3, o3, F.cn, g3] at r3
      rw [t4, o4, F.ck, g4] at r4
      simp only [List.drop_zero, List.drop_succ_cons, List.take_succ_cons, List.take_zero] at r0 r1 r2 r3 r4
      obtain ⟨s, hs, -, ws⟩ := DataW.trod_int F.int r0
      obtain ⟨m, hm, -, wm⟩ := DataW.trod_int F.int r1
      obtain ⟨xx, hx, -, wx⟩ := DataW.trod_string F.str r2
      simp at hs hm hx
      subst hs hm hx
      obtain ⟨l, hl⟩ := open_names F.names F.str F.cs r3
      obtain ⟨N, rfl⟩ : ∃ M, N = M + 1 := ⟨N - 1, by omega⟩
      rcases DataW.trod_slice F.kids r4 with ⟨hv, -⟩ | ⟨a, len, cap, elems, rest, n', rfl, hv, -, -, hlc, hcm, hel, hcell, -⟩
      · simp at hv; subst hv
        refine ⟨(⟨s, m, xx, l, []⟩ : Nd (T N)), _, _, _, _, _, rfl, rfl, rfl, rfl, wx, ws, wm, hl, none, 0, rfl, by simp [maxLen], fun h => absurd rfl h⟩
      · simp at hv; subst hv
        rw [F.cells] at hcell
        obtain ⟨kl, hkl, hk⟩ := list_of (p := fun i (t : T N) => ∃ d0 d1 d2 d3 d4, w.cell? (a.add (i * 5)) = some d0 ∧ w.cell? ((a.add (i * 5)).add 1) = some d1 ∧ w.cell? ((a.add (i * 5)).add 2) = some d2 ∧ w.cell? ((a.add (i * 5)).add 3) = some d3 ∧
            w.cell? ((a.add (i * 5)).add 4) = some d4 ∧ TreeIn (fun b => b < w.heap.size) w N t d0 d1 d2 d3 d4) len (fun i hi => by
          have hc := hcell i hi
          rw [List.getElem?_eq_getElem (by omega)] at hc
          obtain ⟨cs', h1, h2⟩ := Option.bind_eq_some_iff.1 hc
          obtain ⟨t, d0, d1, d2, d3, d4, rfl, ht⟩ := ih n' (by omega) N (by omega) cs' _ h2
          obtain ⟨-, -, hget⟩ := World.cells?_some h1
          refine ⟨t, d0, d1, d2, d3, d4, ?_, ?_, ?_, ?_, ?_, ht⟩
          · have h0 := hget 0 (by omega)
            rw [show (a.add (i * 5)).add 0 = a.add (i * 5) from by rw [add_add]; rfl] at h0
            exact h0
          · exact hget 1 (by omega)
          · exact hget 2 (by omega)
          · exact hget 3 (by omega)
          · exact hget 4 (by omega))
        refine ⟨(⟨s, m, xx, l, kl⟩ : Nd (T N)), _, _, _, _, _, rfl, rfl, rfl, rfl, wx, ws, wm, hl, some a, cap, by show _ = Value.slice _ kl.length _; rw [hkl], by show kl.length ≤ _; rw [hkl]; exact Nat.le_trans hlc hcm, fun hne => ?_⟩
        have h0 : 0 < len := by
          rcases Nat.eq_zero_or_pos len with h0 | h0
          · exact absurd (List.eq_nil_of_length_eq_zero (by rw [hkl, h0])) hne
          · exact h0
        obtain ⟨b, off, spot⟩ := a
        have hspot : spot = none := by
          obtain ⟨d0, d1, d2, d3, d4, q0, -⟩ := hk 0 (by omega)
          simpa [Addr.add] using World.cell?_spot q0
        subst hspot
        refine ⟨b, off, rfl, ?_, fun i hi => ?_⟩
        · obtain ⟨d0, d1, d2, d3, d4, q0, -⟩ := hk 0 (by omega)
          rw [add_plain] at q0
          exact cell_lt q0
        · obtain ⟨d0, d1, d2, d3, d4, q0, q1, q2, q3, q4, ht⟩ := hk i hi
          rw [add_plain] at q0 q1 q2 q3 q4
          rw [add_plain] at q1 q2 q3 q4
          exact ⟨d0, d1, d2, d3, d4, q0, q1, q2, q3, q4, ht⟩

end Go.Proofs.YtlinplghgamgbaaGreatDoor

/-
  Closed facts on the types of nodes, for the rows' proofs.
-/
namespace Go.Proofs.YtlinplghgamgbaaGreatDoor
open Go.ChangeShapes Go.WideShapes Go.ChangeAt Go.RowKit

theorem Tryz.own : ownKnob Tryz.prog.godebug = none := by kernel_rfl
theorem Tryz.laidOut : laidOutB Tryz.prog = true := by kernel_rfl
theorem Tryz.cells_node : Tryz.prog.cellsOf 25 = 5 := by kernel_rfl
theorem Tryz.cells_nodes : Tryz.prog.cellsOf 23 = 1 := by kernel_rfl
theorem Tryz.cells_names : Tryz.prog.cellsOf 22 = 1 := by kernel_rfl
theorem Tryz.cells_int : Tryz.prog.cellsOf 3 = 1 := by kernel_rfl
theorem Tryz.cells_str : Tryz.prog.cellsOf 9 = 1 := by kernel_rfl

theorem Tryz.nodeType : ∃ fs, TreeType Tryz.prog 25 23 fs 3 9 22 :=
  ⟨_, Tryz.underlying25, Tryz.cells_node, Tryz.underlying23, Tryz.underlying3, Tryz.underlying9, Tryz.underlying22, Tryz.cells_int, Tryz.cells_str, Tryz.cells_names, Tryz.cells_nodes,
    ⟨_, rfl, rfl, rfl⟩, ⟨_, rfl, rfl, rfl⟩, ⟨_, rfl, rfl, rfl⟩, ⟨_, rfl, rfl, rfl⟩, ⟨_, rfl, rfl, rfl⟩, rfl⟩

end Go.Proofs.YtlinplghgamgbaaGreatDoor
