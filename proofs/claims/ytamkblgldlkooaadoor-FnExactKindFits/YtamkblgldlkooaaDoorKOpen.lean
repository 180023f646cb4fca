/-
  An argument that is read as data is a schema in memory.
-/
import Derived.Test.YtamkblgldlkooaaDoorKRep
import Derived.Test.YtamkblgldlkooaaDoorOpen
namespace Go.Proofs.YtamkblgldlkooaaDoor
open Go.ChangeShapes Go.WideShapes Go.ChangeAt Go.RowKit Go.Deep

/-- A schema that is read: its type's facts. -/
structure KindType (P : Program) (tt ks : TypeId) (fs : Array Field) (ti ts tn : TypeId) : Prop where
  tree : P.underlying tt = some (.struct fs)
  cells : P.cellsOf tt = 3
  kids : P.underlying ks = some (.slice tt)
  int : P.underlying ti = some (.int .i64)
  str : P.underlying ts = some .string
  names : P.underlying tn = some (.slice ts)
  ci : P.cellsOf ti = 1
  cs : P.cellsOf ts = 1
  cn : P.cellsOf tn = 1
  ck : P.cellsOf ks = 1
  f0 : ∃ f, fs[0]? = some f ∧ f.type = ti ∧ f.offset = 0
  f1 : ∃ f, fs[1]? = some f ∧ f.type = tn ∧ f.offset = 1
  f2 : ∃ f, fs[2]? = some f ∧ f.type = ks ∧ f.offset = 2
  nf : fs.size = 3

theorem open_kind {H : Type} {enc : TypeId × Value → H} {P : Program} {w : World} {spare : Nat → Bool} {held : Bool} {tt ks ti ts tn : TypeId} {fs : Array Field} (F : KindType P tt ks fs ti ts tn) :
    ∀ fuel N, fuel ≤ N → ∀ (cs : List Value) (x : DataW H × List MemPlace), DataW.trod enc P w 0 spare held fuel tt cs = some x →
      ∃ (t : K N) (c0 c1 c2 : Value), cs = [c0, c1, c2] ∧ KindIn (fun b => b < w.heap.size) w N t c0 c1 c2 := by
  intro fuel
  induction fuel using Nat.strongRecOn with
  | ind fuel ih =>
    intro N hN cs x h
    obtain ⟨xs, n, rfl, -, hlen, hxl, hf⟩ := DataW.trod_struct F.tree h
    rw [F.cells] at hlen
    match cs, hlen with
    | [c0, c1, c2], _ =>
      obtain ⟨f0, e0, t0, o0⟩ := F.f0
      obtain ⟨f1, e1, t1, o1⟩ := F.f1
      obtain ⟨f2, e2, t2, o2⟩ := F.f2
      have get : ∀ i, i < 3 → ∃ y, xs[i]? = some y := fun i hi => ⟨xs[i]'(by rw [hxl, F.nf]; exact hi), List.getElem?_eq_getElem _⟩
      have r0 := hf 0 f0 e0
      have r1 := hf 1 f1 e1
      have r2 := hf 2 f2 e2
      obtain ⟨y0, g0⟩ := get 0 (by omega)
      obtain ⟨y1, g1⟩ := get 1 (by omega)
      obtain ⟨y2, g2⟩ := get 2 (by omega)
      rw [t0, o0, F.ci, g0] at r0
      rw [t1, o1, F.cn, g1] at r1
      rw [t2, o2, F.ck, g2] at r2
      simp only [List.drop_zero, List.drop_succ_cons, List.take_succ_cons, List.take_zero] at r0 r1 r2
      obtain ⟨s, hs, -, ws⟩ := DataW.trod_int F.int r0
      simp at hs
      subst hs
      obtain ⟨l, hl⟩ := open_names F.names F.str F.cs r1
      obtain ⟨N, rfl⟩ : ∃ M, N = M + 1 := ⟨N - 1, by omega⟩
      rcases DataW.trod_slice F.kids r2 with ⟨hv, -⟩ | ⟨a, len, cap, elems, rest, n', rfl, hv, -, -, hlc, hcm, hel, hcell, -⟩
      · simp at hv; subst hv
        refine ⟨(⟨s, l, []⟩ : Kd (K N)), _, _, _, rfl, rfl, ws, hl, none, 0, rfl, by simp [maxLen], fun h => absurd rfl h⟩
      · simp at hv; subst hv
        rw [F.cells] at hcell
        obtain ⟨kl, hkl, hk⟩ := list_of (p := fun i (t : K N) => ∃ d0 d1 d2, w.cell? (a.add (i * 3)) = some d0 ∧ w.cell? ((a.add (i * 3)).add 1) = some d1 ∧ w.cell? ((a.add (i * 3)).add 2) = some d2 ∧
            KindIn (fun b => b < w.heap.size) w N t d0 d1 d2) len (fun i hi => by
          have hc := hcell i hi
          rw [List.getElem?_eq_getElem (by omega)] at hc
          obtain ⟨cs', h1, h2⟩ := Option.bind_eq_some_iff.1 hc
          obtain ⟨t, d0, d1, d2, rfl, ht⟩ := ih n' (by omega) N (by omega) cs' _ h2
          obtain ⟨-, -, hget⟩ := World.cells?_some h1
          refine ⟨t, d0, d1, d2, ?_, ?_, ?_, ht⟩
          · have h0 := hget 0 (by omega)
            rw [show (a.add (i * 3)).add 0 = a.add (i * 3) from by rw [add_add]; rfl] at h0
            exact h0
          · exact hget 1 (by omega)
          · exact hget 2 (by omega))
        refine ⟨(⟨s, l, kl⟩ : Kd (K N)), _, _, _, rfl, rfl, ws, hl, some a, cap, by show _ = Value.slice _ kl.length _; rw [hkl], by show kl.length ≤ _; rw [hkl]; exact Nat.le_trans hlc hcm, fun hne => ?_⟩
        have h0 : 0 < len := by
          rcases Nat.eq_zero_or_pos len with h0 | h0
          · exact absurd (List.eq_nil_of_length_eq_zero (by rw [hkl, h0])) hne
          · exact h0
        obtain ⟨b, off, spot⟩ := a
        have hspot : spot = none := by
          obtain ⟨d0, d1, d2, q0, -⟩ := hk 0 (by omega)
          simpa [Addr.add] using World.cell?_spot q0
        subst hspot
        refine ⟨b, off, rfl, ?_, fun i hi => ?_⟩
        · obtain ⟨d0, d1, d2, q0, -⟩ := hk 0 (by omega)
          rw [add_plain] at q0
          exact cell_lt q0
        · obtain ⟨d0, d1, d2, q0, q1, q2, ht⟩ := hk i hi
          rw [add_plain] at q0 q1 q2
          rw [add_plain] at q1 q2
          exact ⟨d0, d1, d2, q0, q1, q2, ht⟩

end Go.Proofs.YtamkblgldlkooaaDoor
