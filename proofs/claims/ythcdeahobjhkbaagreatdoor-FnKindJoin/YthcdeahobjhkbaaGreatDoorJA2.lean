/-
  All names of two rows that ascend: put together, sorted, each once: they are the two rows merged.
-/
import Derived.Test.YthcdeahobjhkbaaGreatDoorJA1
import Derived.Test.YthcdeahobjhkbaaGreatDoorJN1
import Derived.Test.YthcdeahobjhkbaaGreatDoorB3
import Derived.Test.YthcdeahobjhkbaaGreatDoorShelg
import Derived.Sort.OwnSorted
import Derived.Sort.Grow
import Derived.Lib.OwnBridge
namespace Go.Proofs.YthcdeahobjhkbaaGreatDoor
open Go.RowKit Go.Sort

def toB (x : List UInt8) : ByteArray := ⟨x.toArray⟩

theorem toB_list (x : List UInt8) : (toB x).toList = x := by rw [ByteArray.toList_eq]; rfl
theorem toB_data (s : ByteArray) : toB s.data.toList = s := by cases s; rfl
theorem toB_enc (l : List (List UInt8)) : l.map encStr = (l.map toB).map Value.string := by rw [List.map_map]; rfl

theorem le_bl (x y : List UInt8) : decide (x ≤ y) = true ↔ Op.bytesLess y x = false := by
  rw [bytesLess_eq]
  simp [List.not_lt]

theorem mem_comp (zs : List (List UInt8)) (x : List UInt8) : x ∈ Lib.compact zs ↔ x ∈ zs := by
  unfold Lib.compact Lib.compactUpTo
  simp only [List.mem_map, List.mem_filter, List.mem_range]
  constructor
  · rintro ⟨j, ⟨hj, -⟩, rfl⟩
    simp [getElem!_pos, hj]
  · intro hx
    obtain ⟨j, hj, rfl⟩ := List.getElem_of_mem hx
    have key : ∀ j (hj : j < zs.length), ∃ q, (q < zs.length ∧ Lib.keeps zs.toArray q = true) ∧ zs.toArray[q]! = zs[j] := by
      intro j
      induction j with
      | zero => intro hj; exact ⟨0, ⟨hj, by simp [Lib.keeps]⟩, by simp [getElem!_pos, hj]⟩
      | succ j ih =>
        intro hj
        by_cases he : zs[j + 1] = zs[j]
        · obtain ⟨q, h1, h2⟩ := ih (by omega)
          exact ⟨q, h1, h2.trans he.symm⟩
        · have hj' : j < zs.length := by omega
          exact ⟨j + 1, ⟨hj, by simp [Lib.keeps, getElem!_pos, hj, hj', he]⟩, by simp [getElem!_pos, hj]⟩
    exact key j hj

theorem comp_lt (zs : List (List UInt8)) (h : zs.Pairwise (fun x y => Op.bytesLess y x = false)) : (Lib.compact zs).Pairwise (fun x y => Op.bytesLess x y = true) := by
  unfold Lib.compact Lib.compactUpTo
  rw [List.pairwise_map]
  refine (List.pairwise_lt_range.filter _).imp_of_mem ?_
  intro i j hi hj hij
  simp only [List.mem_filter, List.mem_range] at hi hj
  have hji : j < zs.length := hj.1
  have hii : i < zs.length := hi.1
  have hj1 : j - 1 < zs.length := by omega
  have hne : zs[j] ≠ zs[j - 1] := by
    have := hj.2
    simp only [Lib.keeps, decide_eq_true_eq] at this
    rcases this with h | h
    · omega
    · simpa [getElem!_pos, hji, hj1] using h
  have hle := List.pairwise_iff_getElem.1 h
  have h1 : Op.bytesLess zs[j - 1] zs[j] = true := by
    cases hb : Op.bytesLess zs[j - 1] zs[j] with
    | true => rfl
    | false => exact absurd (bl_tri zs[j] zs[j - 1] (hle (j - 1) j hj1 hji (by omega)) hb) hne
  have e1 : zs.toArray[i]! = zs[i] := by simp [getElem!_pos, hii]
  have e2 : zs.toArray[j]! = zs[j] := by simp [getElem!_pos, hji]
  rw [e1, e2]
  by_cases hq : i = j - 1
  · subst hq; exact h1
  · cases hb : Op.bytesLess zs[i] zs[j - 1] with
    | true => exact bl_trans _ _ _ hb h1
    | false =>
      have he := bl_tri zs[i] zs[j - 1] hb (hle i (j - 1) hii hj1 (by omega))
      rw [he]; exact h1

theorem sorted_names (la lb : List ByteArray) (ha : Asc la) (hb : Asc lb) : (Lib.compact (((la ++ lb).map (·.data.toList)).mergeSort fun x y => decide (x ≤ y))).map toB = merN (la.length + lb.length) la lb := by
  refine asc_ext ?_ (merN_asc _ la lb (Nat.le_refl _) ha hb) fun u => ?_
  · unfold Asc
    rw [List.pairwise_map]
    refine (comp_lt _ ?_).imp fun {x y} h => by unfold ltB; rw [toB_list, toB_list]; exact h
    refine (List.pairwise_mergeSort (le := fun x y => decide (x ≤ y)) ?_ ?_ _).imp fun {x y} h => (le_bl x y).1 h
    · intro x y z h1 h2
      rw [le_bl] at h1 h2 ⊢
      cases hb : Op.bytesLess z x with
      | false => rfl
      | true =>
        exfalso
        cases hxy : Op.bytesLess x y with
        | true =>
          have := bl_trans _ _ _ hb hxy
          rw [h2] at this; cases this
        | false =>
          have he := bl_tri x y hxy h1
          rw [← he, hb] at h2; cases h2
    · intro x y
      cases hb : Op.bytesLess y x with
      | false => simp [(le_bl x y).2 hb]
      | true =>
        have : Op.bytesLess x y = false := by
          cases h : Op.bytesLess x y with
          | false => rfl
          | true =>
            have := bl_trans _ _ _ hb h
            rw [bytesLess_eq] at this
            simp [List.lt_irrefl] at this
        simp [(le_bl y x).2 this]
  · rw [merN_mem _ _ _ (Nat.le_refl _), ← List.mem_append, List.mem_map]
    constructor
    · rintro ⟨x, hx, rfl⟩
      have := (List.mergeSort_perm _ _).mem_iff.1 ((mem_comp _ _).1 hx)
      obtain ⟨s, hs, rfl⟩ := List.mem_map.1 this
      rw [toB_data]; exact hs
    · intro hu
      exact ⟨u.data.toList, (mem_comp _ _).2 ((List.mergeSort_perm _ _).mem_iff.2 (List.mem_map.2 ⟨u, hu, rfl⟩)), toB_data u⟩

/-- What sorting and compacting leave of a row of the call's own. -/
theorem left_own {w w1 : World} {B g cap n nn q : Nat} {os : Array Obj} {ss : List (List UInt8)} (hown : w1.ownsRow B 9 1 (.slice (some ⟨g, 0, none⟩) n cap) n (ss.map encStr)) (hbel : Below w.heap.size w w1) (hB : w.heap.size ≤ B) (hlen : ss.length = n) :
    let w3 := putRow encStr (Sort.ahead (grow (putRow encStr (Sort.ahead w1 nn) g 0 (ss.mergeSort fun x y => decide (x ≤ y)).toArray) os) q) g 0 (Lib.compact (ss.mergeSort fun x y => decide (x ≤ y)) ++ List.replicate (n - (Lib.compact (ss.mergeSort fun x y => decide (x ≤ y))).length) []).toArray
    w3.ownsRow B 9 1 (.slice (some ⟨g, 0, none⟩) (Lib.compact (ss.mergeSort fun x y => decide (x ≤ y))).length cap) (Lib.compact (ss.mergeSort fun x y => decide (x ≤ y))).length ((Lib.compact (ss.mergeSort fun x y => decide (x ≤ y))).map encStr) ∧ Below w.heap.size w w3 := by
  have hl2 : (ss.mergeSort fun x y => decide (x ≤ y)).length = ss.length := List.length_mergeSort ss
  have hle := Lib.compact_length_le (ss.mergeSort fun x y => decide (x ≤ y))
  subst hlen
  rcases hown.2 with ⟨h0, _⟩ | ⟨g', cap', cur, hv, hbase, hb, h1, h2, h3, h4⟩
  · cases h0
  cases hv
  have hs := ownsRow_sorted (n := nn) (os := os) (ts := ss.mergeSort fun x y => decide (x ≤ y)) hl2 hbase hb h1 h2 h3
  have hc := Lib.ownsRow_putRow (q := q) (k := (Lib.compact (ss.mergeSort fun x y => decide (x ≤ y))).length) (ys := Lib.compact (ss.mergeSort fun x y => decide (x ≤ y)) ++ List.replicate (ss.length - (Lib.compact (ss.mergeSort fun x y => decide (x ≤ y))).length) []) hs (by simp; omega) (by omega)
  rw [List.take_left] at hc
  exact ⟨hc, Lib.below_putRow (hbel.grown (grownBy_sorted _) hbel.size (fun j hj => by cases hj; omega)) (by omega)⟩

theorem owns_lower {w : World} {B B' : Nat} {e : TypeId} {z : Nat} {v : Value} {n : Nat} {xs : List Value} (h : w.ownsRow B e z v n xs) (hB : B' ≤ B) : w.ownsRow B' e z v n xs :=
  ⟨h.1, h.2.imp id (fun ⟨g, cap, cur, h1, h2, h3⟩ => ⟨g, cap, cur, h1, by omega, h3⟩)⟩

set_option maxRecDepth 20000 in
set_option maxHeartbeats 4000000 in
theorem allNames_any (S : Nat → Prop) (la lb : List ByteArray) (va vb : Value) (w : World) (ha : StrsIn S w la va) (hb : StrsIn S w lb vb) (hB : ∀ b, S b → b < w.heap.size) (hla : la.length ≤ 100) (hlb : lb.length ≤ 100) (hsa : ∀ s, s ∈ la → s.size ≤ 10000) (hsb : ∀ s, s ∈ lb → s.size ≤ 10000) (haa : Asc la) (hab : Asc lb) :
    Calls Tryz.prog 56 #[va, vb] w fun e w' => ∃ v', e = .returned v' ∧ w'.ownsRow w.heap.size 9 1 v' (merN (la.length + lb.length) la lb).length ((merN (la.length + lb.length) la lb).map .string) ∧ Below w.heap.size w w' := by
  obtain ⟨aa, ca, rfl, -⟩ := id ha
  obtain ⟨ab, cb, rfl, -⟩ := id hb
  have hE := sorted_names la lb haa hab
  have hsh : ∀ s, s ∈ merN (la.length + lb.length) la lb → s.size ≤ 10000 := fun s hs => ((merN_mem _ la lb (Nat.le_refl _) s).1 hs).elim (hsa s) (hsb s)
  have hlm : (merN (la.length + lb.length) la lb).length ≤ 200 := by
    rw [← hE, List.length_map]
    have h1 := Lib.compact_length_le (((la ++ lb).map (·.data.toList)).mergeSort fun x y => decide (x ≤ y))
    rw [List.length_mergeSort, List.length_map, List.length_append] at h1
    omega
  obtain ⟨W1, hW1⟩ : ∃ W1, W1 = w.alloc (.cells #[.slice aa la.length ca, .slice ab lb.length cb] 23) := ⟨_, rfl⟩
  have hb1 : Below w.heap.size w W1 := by rw [hW1]; exact (Below.refl _ _).alloc (Nat.le_refl _) _
  have hz1 : W1.heap.size = w.heap.size + 1 := by rw [hW1]; simp
  have hx1 : W1.heap[w.heap.size]? = some (.cells #[.slice aa la.length ca, .slice ab lb.length cb] 23 (0, 0)) := by rw [hW1]; exact heap_alloc_new _ _
  have HC : Hid (Calls Tryz.prog 78 #[.slice (some ⟨w.heap.size, 0, none⟩) 2 2] W1 _) := concat_any S la lb aa ab ca cb w.heap.size la.length lb.length W1 rfl rfl (ha.keep (same_below hb1 hB) (fun _ h => h)) (hb.keep (same_below hb1 hB) (fun _ h => h)) (fun b hb => Nat.lt_of_lt_of_le (hB b hb) hb1.size) hla hlb (by omega) (by simp [World.cell?, hx1]) (by simp [World.cell?, hx1])
  have HB1 := Lib.hid hb1
  have hzz : w.heap.size ≤ W1.heap.size := hb1.size
  have hnl : la.length + lb.length ≤ 200 := by omega
  have hmap : (la ++ lb).map Value.string = ((la ++ lb).map (·.data.toList)).map encStr := (Lib.map_encStr (la ++ lb)).symm
  have hss : ((la ++ lb).map (·.data.toList)).length = la.length + lb.length := by simp
  rw [hmap] at HC
  generalize hmm : merN (la.length + lb.length) la lb = ml at *
  generalize (la ++ lb).map (·.data.toList) = ss at *
  generalize hN : la.length + lb.length = N at *
  have HE := Lib.hid hE
  have HSh := Lib.hid hsh
  have HSS := Lib.hid hss
  clear ha hb hB hsa hsb haa hab hmap hE hsh hss hx1 hz1 hb1 hmm hN hla hlb
  go_enter Tryz.func56, Tryz.ntmps56
  go_wp2_with fail
  rw [← hW1]
  clear hW1
  refine HC.out.mono ?_
  rintro e w2 ⟨v, rfl, hown, hb2⟩
  have HB2 : Hid (Below w.heap.size w w2) := below_step HB1.out HB1.out.size hb2
  by_cases hv : v = .slice none 0 0
  · subst hv
    have hN0 : N = 0 := by
      rcases hown.2 with ⟨-, h⟩ | ⟨g, cap, cur, h, -⟩
      · exact h
      · cases h
    have hml : ml = [] := by
      have h := Lib.compact_length_le (ss.mergeSort fun x y => decide (x ≤ y))
      rw [List.length_mergeSort] at h
      have e : ml.length = (Lib.compact (ss.mergeSort fun x y => decide (x ≤ y))).length := by rw [← HE.out, List.length_map]
      exact List.eq_nil_of_length_eq_zero (by have := HSS.out; omega)
    subst hml
    have HS : Hid (Calls Tryz.prog 79 #[.slice none 0 0] w2 _) := Tryz.slices_Sort_string_none none 0 w2
    have HP : Hid (Calls Tryz.prog 80 #[.slice none 0 0] w2 _) := Tryz.slices_Compact_string_empty none 0 w2
    have HY : Hid (Calls Tryz.prog 77 #[.slice none 0 0] w2 _) := copyNames_any (fun _ => False) [] (.slice none 0 0) w2 ⟨none, 0, rfl, by simp, (fun s hs => (by cases hs)), fun h => absurd rfl h⟩ (fun _ h => h.elim) (by simp) (fun s hs => (by cases hs))
    clear hown hb2 HC
    go_wp2_with fail
    refine HS.out.mono ?_
    rintro e w3 ⟨rfl, rfl⟩
    go_wp2_with fail
    refine HP.out.mono ?_
    rintro e w4 ⟨rfl, rfl⟩
    go_wp2_with fail
    refine HY.out.mono ?_
    rintro e w5 ⟨v', rfl, hown5, hb5⟩
    have HO := Lib.hid (owns_lower hown5 HB2.out.size)
    have HB5 := Lib.hid (below_step HB2.out HB2.out.size hb5)
    clear hown5 hb5 HS HP HY
    go_wp2_with fail
    go_ret
    exact ⟨_, rfl, HO.out, HB5.out⟩
  · obtain ⟨g, cap, rfl, hbg, hgl, hncap, hcm, hlen, hH⟩ := Lib.holds_of_ownsRow hown hv
    have hsort := Tryz.slices_Sort_string g 0 cap ss w2 hH hgl (by omega)
    rw [hlen] at hsort
    have HSo := Lib.hid hsort
    have X : Hid (w2.ownsRow W1.heap.size 9 1 (.slice (some ⟨g, 0, none⟩) N cap) N (ss.map encStr) ∧ Holds encStr w2 g 0 ss.toArray ∧ g < w2.heap.size ∧ N ≤ cap ∧ ss.length = N) := ⟨hown, hH, hgl, hncap, hlen⟩
    clear hown hb2 HC hv hH hsort
    go_wp2_with fail
    refine HSo.out.mono ?_
    rintro e w3 ⟨rfl, nn, os, hw3⟩
    have hl2 : (ss.mergeSort fun x y => decide (x ≤ y)).length = N := by rw [List.length_mergeSort]; exact X.out.2.2.2.2
    have hH2 : Holds encStr w3 g 0 (ss.mergeSort fun x y => decide (x ≤ y)).toArray := by
      rw [hw3]
      exact holds_grow encStr _ os g 0 _ (by simpa [putRow, mapBlock, Sort.ahead] using X.out.2.2.1) (holds_putRow encStr _ g 0 _ _ (holds_ahead encStr w2 nn g 0 _ X.out.2.1) (by simp))
    have hcomp := Tryz.slices_Compact_string g 0 cap (ss.mergeSort fun x y => decide (x ≤ y)) w3 hH2 (by omega) (by have := X.out.2.2.2.1; omega)
    rw [hl2] at hcomp
    have HP := Lib.hid hcomp
    have HW3 := Lib.hid hw3
    clear hH2 hcomp HSo hw3
    go_wp2_with fail
    refine HP.out.mono ?_
    rintro e w4 ⟨rfl, q, hw4⟩
    have hL := left_own (q := q) (nn := nn) (os := os) X.out.1 HB2.out HB1.out.size X.out.2.2.2.2
    have HL : Hid (w4.ownsRow W1.heap.size 9 1 (.slice (some ⟨g, 0, none⟩) ml.length cap) ml.length (ml.map .string) ∧ Below w.heap.size w w4) := by
      rw [hw4, HW3.out]
      have e : (Lib.compact (ss.mergeSort fun x y => decide (x ≤ y))).length = ml.length := by rw [← HE.out, List.length_map]
      have e2 : (Lib.compact (ss.mergeSort fun x y => decide (x ≤ y))).map encStr = ml.map .string := by rw [toB_enc, HE.out]
      refine ⟨?_, hL.2⟩
      have := hL.1
      rw [e2, e] at this
      rw [e]
      exact this
    have hml : (Lib.compact (ss.mergeSort fun x y => decide (x ≤ y))).length = ml.length := by rw [← HE.out, List.length_map]
    rw [hml]
    clear hL hw4 HW3 HP X hl2 hml
    have HY : Hid (Calls Tryz.prog 77 #[.slice (some ⟨g, 0, none⟩) ml.length cap] w4 _) := copyNames_any (fun b => b < w4.heap.size) ml (.slice (some ⟨g, 0, none⟩) ml.length cap) w4 (strs_of_ownsK HL.out.1 (by omega) HSh.out (fun q hq => (r1_lt HL.out.1 q hq).2)) (fun _ h => h) (by omega) HSh.out
    go_wp2_with fail
    refine HY.out.mono ?_
    rintro e w5 ⟨v', rfl, hown5, hb5⟩
    have HO := Lib.hid (owns_lower hown5 HL.out.2.size)
    have HB5 := Lib.hid (below_step HL.out.2 HL.out.2.size hb5)
    clear hown5 hb5 HY HL
    go_wp2_with fail
    go_ret
    exact ⟨_, rfl, HO.out, HB5.out⟩

end Go.Proofs.YthcdeahobjhkbaaGreatDoor
