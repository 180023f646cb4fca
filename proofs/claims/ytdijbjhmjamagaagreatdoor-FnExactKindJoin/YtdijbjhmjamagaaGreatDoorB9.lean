/-
  Several texts in one, in their order.
-/
import Derived.Test.YtdijbjhmjamagaaGreatDoorB8
import Derived.Deep.RegionLaw
import Derived.Deep.Cut
import Derived.Deep.CutRange
import Derived.WalkSmall
import Derived.LoopTactic
import Derived.Test.YtdijbjhmjamagaaGreatDoorDRd
import Derived.Deep.AppendLies

/-
  What the specification draws: l5Kind.
-/
namespace Go.Proofs.YtdijbjhmjamagaaGreatDoor
open Go.RowKit

theorem Tryz.info_strD : (Tryz.prog.info? 9).map (fun i => (i.zero, i.size, i.bytes)) = some (some (.string ⟨#[]⟩), 1, 16) := by kernel_rfl
theorem Tryz.info_kindD : (Tryz.prog.info? 26).map (fun i => (i.zero, i.size, i.bytes)) = some (some (.agg #[.int .i64 0, .slice none 0 0, .slice none 0 0]), 3, 56) := by kernel_rfl

end Go.Proofs.YtdijbjhmjamagaaGreatDoor

/-
  What the specification draws: of; a spoilt schema's contract; the sort spoilt.
-/
namespace Go.Proofs.YtdijbjhmjamagaaGreatDoor
open Go.RowKit

/-- A schema within lists and maybes, j of them, in block X. -/
def ChainK (R X : Nat) (w wr : World) (j : Nat) : Prop :=
  ∃ (so : Int) (kv : Value), Near2 R X w wr ∧ wr.heap[X]? = some (.cells #[.int .i64 so, .slice none 0 0, kv] 26 (0, 0)) ∧ ∀ M, j + 1 ≤ M → ∃ k : K M, KindIn (fun b => w.heap.size ≤ b ∧ b < wr.heap.size) wr M k (.int .i64 so) (.slice none 0 0) kv

theorem ChainK.start {R X : Nat} {w : World} (h : w.heap[X]? = some (.cells #[.int .i64 3, .slice none 0 0, .slice none 0 0] 26 (0, 0))) : ChainK R X w w 0 :=
  ⟨3, _, Near2.refl _ _ _, h, fun M hM => by
    obtain ⟨M', rfl⟩ : ∃ M', M = M' + 1 := ⟨M - 1, by omega⟩
    exact ⟨(⟨3, [], []⟩ : Kd (K M')), leafD_in _ _ M' 3 rfl⟩⟩

theorem ChainK.drew {R X j : Nat} {w W : World} (h : ChainK R X w W j) : ChainK R X w W.drew j := by
  obtain ⟨so, kv, h1, h2, h3⟩ := h
  refine ⟨so, kv, ⟨h1.os, h1.tape, h1.output, h1.size, h1.block⟩, h2, fun M hM => ?_⟩
  obtain ⟨k, hk⟩ := h3 M hM
  exact ⟨k, KindIn.keep (w := W) (w' := W.drew) (fun _ _ => rfl) (fun _ h => h) hk⟩

/-- One more around it. -/
theorem ChainK.more {R X B j : Nat} {w wr W' : World} {so t : Int} {kv : Value} (hn : Near2 R X w wr) (hch : ∀ M, j + 1 ≤ M → ∃ k : K M, KindIn (fun b => w.heap.size ≤ b ∧ b < wr.heap.size) wr M k (.int .i64 so) (.slice none 0 0) kv) (hX : X < w.heap.size) (ht : (Lit.int .i64 t).wf = true)
    (ho : W'.os = wr.os ∧ W'.tape = wr.tape ∧ W'.output = wr.output) (hW : ∀ b, b < wr.heap.size → b ≠ X → W'.heap[b]? = wr.heap[b]?) (hB : wr.heap.size ≤ B ∧ B < W'.heap.size) (hBc : Box3 W' B (.int .i64 so) (.slice none 0 0) kv)
    (hbox : W'.heap[X]? = some (.cells #[.int .i64 t, .slice none 0 0, .slice (some ⟨B, 0, none⟩) 1 1] 26 (0, 0))) : ChainK R X w W' (j + 1) := by
  have hz := hn.size
  refine ⟨t, .slice (some ⟨B, 0, none⟩) 1 1, ⟨ho.1.trans hn.os, ho.2.1.trans hn.tape, ho.2.2.trans hn.output, by omega, fun b hb h1 h2 => (hW b (by omega) h2).trans (hn.block b hb h1 h2)⟩, hbox, fun M hM => ?_⟩
  obtain ⟨M', rfl⟩ : ∃ M', M = M' + 1 := ⟨M - 1, by omega⟩
  obtain ⟨k, hk⟩ := hch M' (by omega)
  refine ⟨(⟨t, [], [k]⟩ : Kd (K M')), oneD_in (t := k) ht ⟨by omega, by omega⟩ hBc.c0 hBc.c1 hBc.c2 ?_⟩
  exact hk.keep (fun b hb => hW b hb.2 (by omega)) (fun b hb => ⟨hb.1, by omega⟩)

end Go.Proofs.YtdijbjhmjamagaaGreatDoor

/-
  A row copied onto an empty one: append([]T{}, xs...), also where xs is empty.
-/
namespace Go.Proofs.YtdijbjhmjamagaaGreatDoor
open Go.RowKit

theorem owns_empty {w : World} {base E : Nat} {e : TypeId} {size : Nat} (hE : w.heap[E]? = some (.cells #[] e (0, 0))) (hb : base ≤ E) : w.ownsRow base e size (.slice (some ⟨E, 0, none⟩) 0 0) 0 [] :=
  ⟨by simp, .inr ⟨E, 0, #[], rfl, hb, hE, Nat.le_refl _, Nat.zero_le _, by simp, by simp⟩⟩

theorem run_copy {P : Program} (w : World) (t ty : TypeId) (base : Nat) (e : TypeId) (i : TypeInfo) (z : Value) (size bytes : Nat) (ht : P.underlying t = some (.slice e)) (hi : P.info? e = some i) (hz : i.zero = some z)
    (hsize : i.size = size) (hby : i.bytes = bytes) (hzs : z.cells.size = size) (hsz : 0 < size)
    (E : Nat) (hE : w.heap[E]? = some (.cells #[] e (0, 0))) (hb : base ≤ E) (ao : Option Addr) (m c : Nat) (news : List Value) (hl : news.length = m * size) (hnews : 0 < m → ∃ ad, ao = some ad ∧ ∀ j u, news[j]? = some u → w.cell? (ad.add j) = some u) (h1 : ∀ u ∈ news, u.oneCell' = true)
    (h63 : m ≤ maxLen) (hbytes : m * bytes ≤ 140737488355328) :
    ∃ g cap w', (Builtin.append_ #[t, t] ty #[.slice (some ⟨E, 0, none⟩) 0 0, .slice ao m c]).run P w = .ok (.slice (some ⟨g, 0, none⟩) m cap) w' ∧
      w'.ownsRow base e size (.slice (some ⟨g, 0, none⟩) m cap) m news ∧ w.grownBy w' (some E) ∧ (g = E ∨ g = w.heap.size) ∧ g < w'.heap.size := by
  have hEl : E < w.heap.size := (Array.getElem?_eq_some_iff.1 hE).1
  rcases Nat.eq_zero_or_pos m with rfl | hm
  · have hn : news = [] := List.eq_nil_of_length_eq_zero (by simpa using hl)
    subst hn
    refine ⟨E, 0, w, ?_, owns_empty hE hb, ⟨rfl, rfl, rfl, Nat.le_refl _, fun _ _ _ => rfl⟩, .inl rfl, hEl⟩
    cases ao <;> simp [Builtin.append_, run_underlying ht, sizeOf, typeInfo, hi, Builtin.lenOf, Builtin.firstCells, loadCells, loadCellsFrom, storeCells]
  · obtain ⟨ad, rfl, hc⟩ := hnews hm
    obtain ⟨g, cap, w', hr, h2, h3, h4, h5⟩ := run_append_lies (P := P) w t ty base e i z size bytes ht hi hz hsize hby hzs hsz (.slice (some ⟨E, 0, none⟩) 0 0) 0 [] (owns_empty hE hb) ad m c news hl hc h1 hm (by omega) (by simpa using hbytes) (by omega) w.heap.size rfl
    rw [Nat.zero_add] at hr h2
    refine ⟨g, cap, w', hr, h2, h3, h4.imp (fun h => ?_) id, h5⟩
    simpa [Value.ownBlock] using h.symm

theorem strs_news {S : Nat → Prop} {w w' : World} {l : List ByteArray} {ao : Option Addr} {n c : Nat} (hl : l.length = n) (h : StrsIn S w l (.slice ao n c)) (hs : Same S w w') :
    (l.map Value.string).length = n * 1 ∧ (∀ u ∈ l.map Value.string, u.oneCell' = true) ∧ (0 < n → ∃ ad, ao = some ad ∧ ∀ j u, (l.map Value.string)[j]? = some u → w'.cell? (ad.add j) = some u) := by
  subst hl
  obtain ⟨ao', cap', he, -, -, hc⟩ := h
  refine ⟨by simp, fun u hu => ?_, fun hp => ?_⟩
  · obtain ⟨x, -, rfl⟩ := List.mem_map.1 hu; rfl
  · obtain ⟨b, off, hb, hS, hcell⟩ := hc (fun e => by rw [e] at hp; simp at hp)
    have hao : ao = ao' := by simpa using congrArg (fun v => match v with | Value.slice a _ _ => a | _ => none) he
    refine ⟨⟨b, off, none⟩, hao.trans hb, fun j u hu => ?_⟩
    obtain ⟨hj, rfl⟩ : ∃ hj : j < l.length, Value.string l[j] = u := by
      rw [List.getElem?_map] at hu
      rcases hlj : l[j]? with _ | s
      · rw [hlj] at hu; cases hu
      · rw [hlj] at hu
        obtain ⟨hj, e⟩ := List.getElem?_eq_some_iff.1 hlj
        exact ⟨hj, by rw [e]; simpa using hu⟩
    rw [Addr.add_lit]
    exact (hs.cell (p := ⟨b, off + j, none⟩) hS).trans (hcell j hj)

end Go.Proofs.YtdijbjhmjamagaaGreatDoor
