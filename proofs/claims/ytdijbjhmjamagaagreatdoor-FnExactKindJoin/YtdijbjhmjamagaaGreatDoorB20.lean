/-
  Several texts in one, in their order.
-/
import Derived.Test.YtdijbjhmjamagaaGreatDoorJP3
import Derived.Test.YtdijbjhmjamagaaGreatDoorJP6

/-
  The program's joining, of any two good schemas.
-/
namespace Go.Proofs.YtdijbjhmjamagaaGreatDoor
open Go.RowKit

/-- What stands at a name of a row. -/
theorem atN_zip {α : Type} : ∀ (l : List ByteArray) (xs : List α) (i : Nat) (h : i < l.length) (h' : i < xs.length), Asc l → atN (l.zip xs) l[i] = some xs[i] := by
  intro l
  induction l with
  | nil => intro xs i h; exact absurd h (Nat.not_lt_zero _)
  | cons s r ih =>
    intro xs i h h' ha
    cases xs with
    | nil => exact absurd h' (Nat.not_lt_zero _)
    | cons y ys =>
      cases i with
      | zero => exact atN_head s y _
      | succ i =>
        have hr : i < r.length := by simpa using h
        have hy : i < ys.length := by simpa using h'
        have hs : s ≠ r[i] := lt_ne ((List.pairwise_cons.1 ha).1 _ (List.getElem_mem _))
        show atN ((s, y) :: r.zip ys) r[i] = some ys[i]
        rw [atN_tail y _ hs]
        exact ih ys i hr hy (List.pairwise_cons.1 ha).2

theorem atN_out {α : Type} (l : List ByteArray) (xs : List α) (s : ByteArray) (h : s ∉ l) : atN (l.zip xs) s = none := by
  refine atN_none _ _ fun hm => h ?_
  obtain ⟨p, hp, rfl⟩ := List.mem_map.1 hm
  exact (List.of_mem_zip hp).1

theorem mapM_at {γ : Type} (v : ByteArray → Option γ) : ∀ (l : List ByteArray), ((l.mapM fun s => (v s).map fun z => (s, z)).map fun q => (q.map Prod.fst, q.map Prod.snd)) = (l.mapM v).map fun ks => (l, ks) := by
  intro l
  induction l with
  | nil => rfl
  | cons a r ih =>
    rw [List.mapM_cons, List.mapM_cons]
    cases ha : v a with
    | none => rfl
    | some z =>
      cases h1 : (r.mapM fun s => (v s).map fun z => (s, z)) with
      | none =>
        cases h2 : r.mapM v with
        | none => rfl
        | some ks => rw [h1, h2] at ih; cases ih
      | some q =>
        cases h2 : r.mapM v with
        | none => rw [h1, h2] at ih; cases ih
        | some ks =>
          rw [h1, h2] at ih
          have ih : (q.map Prod.fst, q.map Prod.snd) = (r, ks) := by simpa using ih
          have e1 := congrArg Prod.fst ih
          have e2 := congrArg Prod.snd ih
          simp only at e1 e2
          simp [e1, e2]

theorem sort_natJ {n : Nat} {k : K (n + 1)} {d : Int} (h : goodK (n + 1) k d = true) : ∃ i : Nat, 1 ≤ i ∧ i ≤ 6 ∧ Kd.sort k = (i : Int) := by
  rcases goodK_kids h with ⟨h | h | h, -⟩ | ⟨h | h, -⟩ | ⟨h, -⟩
  · exact ⟨1, by omega, by omega, h⟩
  · exact ⟨2, by omega, by omega, h⟩
  · exact ⟨3, by omega, by omega, h⟩
  · exact ⟨4, by omega, by omega, h⟩
  · exact ⟨6, by omega, by omega, h⟩
  · exact ⟨5, by omega, by omega, h⟩

theorem j_kid_of {n : Nat} {k : K (n + 1)} {d : Int} (h : goodK (n + 1) k d = true) (hs : Kd.sort k = 6 ∨ Kd.sort k = 4) : ∃ x, Kd.kids k = [x] := by
  rcases goodK_kids h with ⟨h', -⟩ | ⟨-, -, h'⟩ | ⟨h', -⟩
  · omega
  · exact h'
  · omega

/-- The one kid, inside. -/
theorem in_kid {S : Nat → Prop} {w : World} {n : Nat} {k : K (n + 1)} {x : K n} {p : Nat} (h : InnerK S w (n + 1) k (.pointer (some ⟨p, 0, none⟩))) (hx : Kd.kids k = [x]) :
    ∃ g o cap q, (S g ∧ w.cell? ⟨p, 3, none⟩ = some (.slice (some ⟨g, o, none⟩) 1 cap) ∧ w.cell? ⟨g, o, none⟩ = some (.pointer (some ⟨q, 0, none⟩))) ∧ InnerK S w n x (.pointer (some ⟨q, 0, none⟩)) := by
  obtain ⟨pp, nv, pv, kv, he, hS, hcell, -, -, hr⟩ := h
  cases he
  rw [hx] at hr
  obtain ⟨ao, cap, rfl, -, hr⟩ := hr
  obtain ⟨g, o, rfl, hSg, hr⟩ := hr (by simp)
  obtain ⟨c, e, hin⟩ := hr 0 (by simp)
  simp only [List.getElem_cons_zero] at hin
  obtain ⟨q, rfl, -⟩ := id hin.ptr
  exact ⟨g, o, cap, q, ⟨hSg, by simp [World.cell?, hcell], by simpa using e⟩, hin⟩

theorem in_sort {S : Nat → Prop} {w : World} {n : Nat} {k : K (n + 1)} {p : Nat} (h : InnerK S w (n + 1) k (.pointer (some ⟨p, 0, none⟩))) : S p ∧ w.cell? ⟨p, 0, none⟩ = some (.int .i64 (Kd.sort k)) := by
  obtain ⟨pp, nv, pv, kv, he, hS, hcell, -⟩ := h
  cases he
  exact ⟨hS, by simp [World.cell?, hcell]⟩

theorem pathJ {x s : ByteArray} {a b : Int} (h : (x.size : Int) ≤ 20 * (a + b)) (hs : s.size ≤ 8) : ((pathTo x s).size : Int) ≤ 20 * (a + b + 1) := by
  rw [pathTo_size]; omega

end Go.Proofs.YtdijbjhmjamagaaGreatDoor

/-
  The program's joining: the step from schemas of L + 1 levels to one more.
-/
namespace Go.Proofs.YtdijbjhmjamagaaGreatDoor
open Go.RowKit

theorem jI_maybe (L : Nat) (hJ : JoinISaid L) (S : Nat → Prop) (n m : Nat) (a : K (n + 1)) (b : K (m + 1)) (pa pb : Nat) (d d' : Int) (R : Nat) (x : ByteArray) (w : World) (hL : n + 1 + (m + 1) ≤ L + 1) (ha : InnerK S w (n + 1) a (.pointer (some ⟨pa, 0, none⟩))) (hb : InnerK S w (m + 1) b (.pointer (some ⟨pb, 0, none⟩))) (hB : ∀ b, S b → b < w.heap.size) (hT : TabJ w R) (hR : R < w.heap.size)
    (hga : goodK (n + 1) a d = true) (hgb : goodK (m + 1) b d' = true) (hca : cntK (n + 1) a ≤ 40) (hcb : cntK (m + 1) b ≤ 40) (hd : 1 ≤ d) (hd' : 1 ≤ d') (hx : (x.size : Int) ≤ 20 * (d + d')) (h6 : Kd.sort a = 6 ∨ Kd.sort b = 6) :
    Calls Tryz.prog 54 #[.pointer (some ⟨R, 0, none⟩), .agg #[.pointer (some ⟨pa, 0, none⟩), .pointer (some ⟨pb, 0, none⟩), .string x]] w fun e w' => Below w.heap.size w w' ∧ EndJ (L + 1) (jnL (L + 1) (n + 1) a (m + 1) b) w e w' := by
  have hda : d ≤ 6 := by have h := hga; simp only [goodK, Bool.and_eq_true, decide_eq_true_eq] at h; exact h.1.1
  have hdb : d' ≤ 6 := by have h := hgb; simp only [goodK, Bool.and_eq_true, decide_eq_true_eq] at h; exact h.1.1
  have hx5 : x.size ≤ 100000 := by omega
  have hs1 : (⟨#[63]⟩ : ByteArray).size ≤ 8 := by decide
  have hfa := (few_of_good hga hca).2.2.2
  have hfb := (few_of_good hgb hcb).2.2.2
  obtain ⟨hSa, ca⟩ := in_sort ha
  obtain ⟨hSb, cb⟩ := in_sort hb
  have hla := hB pa hSa
  have hlb := hB pb hSb
  have hp := pathJ (s := ⟨#[63]⟩) hx hs1
  have key : ∀ {W : World}, Below w.heap.size w W → Same S w W ∧ (∀ b, S b → b < W.heap.size) ∧ TabJ W R ∧ R < W.heap.size := fun hW => ⟨same_below hW hB, fun b hb => Nat.lt_of_lt_of_le (hB b hb) hW.size, hT.keep (hW.block R hR), Nat.lt_of_lt_of_le hR hW.size⟩
  by_cases h6a : Kd.sort a = 6
  · obtain ⟨kx, hkx⟩ := j_kid_of hga (.inl h6a)
    obtain ⟨g, o, cap, q, ⟨hSg, c3, cq⟩, hin⟩ := in_kid ha hkx
    have hgx := hfa kx (by rw [hkx]; exact List.mem_cons_self ..)
    have hlg := hB g hSg
    rw [h6a] at ca
    have HWa : ∀ W, Below w.heap.size w W → Calls Tryz.prog 75 #[.pointer (some ⟨pa, 0, none⟩)] W fun e w' => e = .returned (.pointer (some ⟨q, 0, none⟩)) ∧ w' = W := fun W hW =>
      withoutMaybe_yes W pa g o cap q ((hW.cell (p := ⟨pa, 0, none⟩) hla).trans ca) ((hW.cell (p := ⟨pa, 3, none⟩) hla).trans c3) ((hW.cell (p := ⟨g, o, none⟩) hlg).trans cq)
    by_cases h6b : Kd.sort b = 6
    · obtain ⟨ky, hky⟩ := j_kid_of hgb (.inl h6b)
      obtain ⟨g2, o2, cap2, q2, ⟨hSg2, c32, cq2⟩, hin2⟩ := in_kid hb hky
      have hgy := hfb ky (by rw [hky]; exact List.mem_cons_self ..)
      have hlg2 := hB g2 hSg2
      rw [h6b] at cb
      have e : jnL (L + 1) (n + 1) a (m + 1) b = (jnL L n kx m ky).map (oneK6 6) := by simp only [jnL, if_pos h6a, if_pos h6b, hkx, hky]
      rw [e]
      exact ofMaybe_j L _ R pa pb q q2 x w hx5 HWa (fun W hW => withoutMaybe_yes W pb g2 o2 cap2 q2 ((hW.cell (p := ⟨pb, 0, none⟩) hlb).trans cb) ((hW.cell (p := ⟨pb, 3, none⟩) hlb).trans c32) ((hW.cell (p := ⟨g2, o2, none⟩) hlg2).trans cq2)) (fun W hW => hJ S n m kx ky _ _ (d + 1) (d' + 1) R _ W (by omega) (hin.keep (key hW).1 (fun _ h => h)) (hin2.keep (key hW).1 (fun _ h => h)) (key hW).2.1 (key hW).2.2.1 (key hW).2.2.2 hgx.1 hgy.1 hgx.2 hgy.2 (by omega) (by omega) (by omega))
    · have e : jnL (L + 1) (n + 1) a (m + 1) b = (jnL L n kx (m + 1) b).map (oneK6 6) := by simp only [jnL, if_pos h6a, if_neg h6b, hkx]
      rw [e]
      exact ofMaybe_j L _ R pa pb q pb x w hx5 HWa (fun W hW => withoutMaybe_no W pb _ ((hW.cell (p := ⟨pb, 0, none⟩) hlb).trans cb) h6b) (fun W hW => hJ S n (m + 1) kx b _ _ (d + 1) d' R _ W (by omega) (hin.keep (key hW).1 (fun _ h => h)) (hb.keep (key hW).1 (fun _ h => h)) (key hW).2.1 (key hW).2.2.1 (key hW).2.2.2 hgx.1 hgb hgx.2 hcb (by omega) hd' (by omega))
  · have h6b : Kd.sort b = 6 := h6.resolve_left h6a
    obtain ⟨ky, hky⟩ := j_kid_of hgb (.inl h6b)
    obtain ⟨g2, o2, cap2, q2, ⟨hSg2, c32, cq2⟩, hin2⟩ := in_kid hb hky
    have hgy := hfb ky (by rw [hky]; exact List.mem_cons_self ..)
    have hlg2 := hB g2 hSg2
    rw [h6b] at cb
    have e : jnL (L + 1) (n + 1) a (m + 1) b = (jnL L (n + 1) a m ky).map (oneK6 6) := by simp only [jnL, if_neg h6a, if_pos h6b, hky]
    rw [e]
    exact ofMaybe_j L _ R pa pb pa q2 x w hx5 (fun W hW => withoutMaybe_no W pa _ ((hW.cell (p := ⟨pa, 0, none⟩) hla).trans ca) h6a) (fun W hW => withoutMaybe_yes W pb g2 o2 cap2 q2 ((hW.cell (p := ⟨pb, 0, none⟩) hlb).trans cb) ((hW.cell (p := ⟨pb, 3, none⟩) hlb).trans c32) ((hW.cell (p := ⟨g2, o2, none⟩) hlg2).trans cq2)) (fun W hW => hJ S (n + 1) m a ky _ _ d (d' + 1) R _ W (by omega) (ha.keep (key hW).1 (fun _ h => h)) (hin2.keep (key hW).1 (fun _ h => h)) (key hW).2.1 (key hW).2.2.1 (key hW).2.2.2 hga hgy.1 hca hgy.2 hd (by omega) (by omega))

theorem jI_list (L : Nat) (hJ : JoinISaid L) (S : Nat → Prop) (n m : Nat) (a : K (n + 1)) (b : K (m + 1)) (pa pb : Nat) (d d' : Int) (R : Nat) (x : ByteArray) (w : World) (hL : n + 1 + (m + 1) ≤ L + 1) (ha : InnerK S w (n + 1) a (.pointer (some ⟨pa, 0, none⟩))) (hb : InnerK S w (m + 1) b (.pointer (some ⟨pb, 0, none⟩))) (hB : ∀ b, S b → b < w.heap.size) (hT : TabJ w R) (hR : R < w.heap.size)
    (hga : goodK (n + 1) a d = true) (hgb : goodK (m + 1) b d' = true) (hca : cntK (n + 1) a ≤ 40) (hcb : cntK (m + 1) b ≤ 40) (hd : 1 ≤ d) (hd' : 1 ≤ d') (hx : (x.size : Int) ≤ 20 * (d + d')) (h4a : Kd.sort a = 4) (h4b : Kd.sort b = 4) :
    Calls Tryz.prog 52 #[.pointer (some ⟨R, 0, none⟩), .agg #[.pointer (some ⟨pa, 0, none⟩), .pointer (some ⟨pb, 0, none⟩), .string x]] w fun e w' => Below w.heap.size w w' ∧ EndJ (L + 1) (jnL (L + 1) (n + 1) a (m + 1) b) w e w' := by
  have hda : d ≤ 6 := by have h := hga; simp only [goodK, Bool.and_eq_true, decide_eq_true_eq] at h; exact h.1.1
  have hdb : d' ≤ 6 := by have h := hgb; simp only [goodK, Bool.and_eq_true, decide_eq_true_eq] at h; exact h.1.1
  have hx5 : x.size ≤ 100000 := by omega
  have hs1 : (⟨#[91, 93]⟩ : ByteArray).size ≤ 8 := by decide
  have hp := pathJ (s := ⟨#[91, 93]⟩) hx hs1
  obtain ⟨hSa, -⟩ := in_sort ha
  obtain ⟨hSb, -⟩ := in_sort hb
  have hla := hB pa hSa
  have hlb := hB pb hSb
  have key : ∀ {W : World}, Below w.heap.size w W → Same S w W ∧ (∀ b, S b → b < W.heap.size) ∧ TabJ W R ∧ R < W.heap.size := fun hW => ⟨same_below hW hB, fun b hb => Nat.lt_of_lt_of_le (hB b hb) hW.size, hT.keep (hW.block R hR), Nat.lt_of_lt_of_le hR hW.size⟩
  obtain ⟨kx, hkx⟩ := j_kid_of hga (.inr h4a)
  obtain ⟨g, o, cap, q, ⟨hSg, c3, cq⟩, hin⟩ := in_kid ha hkx
  have hgx := (few_of_good hga hca).2.2.2 kx (by rw [hkx]; exact List.mem_cons_self ..)
  have hlg := hB g hSg
  obtain ⟨ky, hky⟩ := j_kid_of hgb (.inr h4b)
  obtain ⟨g2, o2, cap2, q2, ⟨hSg2, c32, cq2⟩, hin2⟩ := in_kid hb hky
  have hgy := (few_of_good hgb hcb).2.2.2 ky (by rw [hky]; exact List.mem_cons_self ..)
  have hlg2 := hB g2 hSg2
  have e : jnL (L + 1) (n + 1) a (m + 1) b = (jnL L n kx m ky).map (oneK6 4) := by
    have h1 : ¬ Kd.sort a = 6 := by omega
    have h2 : ¬ Kd.sort b = 6 := by omega
    have h3 : ¬ Kd.sort a ≠ Kd.sort b := by omega
    simp only [jnL, if_neg h1, if_neg h2, if_neg h3, if_pos h4a, hkx, hky]
  rw [e]
  exact ofLists_j L _ R pa pb q q2 x w hx5 (fun W hW => within_any W pa g o 0 cap q ((hW.cell (p := ⟨pa, 3, none⟩) hla).trans c3) ((hW.cell (p := ⟨g, o, none⟩) hlg).trans cq) (by omega)) (fun W hW => within_any W pb g2 o2 0 cap2 q2 ((hW.cell (p := ⟨pb, 3, none⟩) hlb).trans c32) ((hW.cell (p := ⟨g2, o2, none⟩) hlg2).trans cq2) (by omega)) (fun W hW => hJ S n m kx ky _ _ (d + 1) (d' + 1) R _ W (by omega) (hin.keep (key hW).1 (fun _ h => h)) (hin2.keep (key hW).1 (fun _ h => h)) (key hW).2.1 (key hW).2.2.1 (key hW).2.2.2 hgx.1 hgy.1 hgx.2 hgy.2 (by omega) (by omega) (by omega))

end Go.Proofs.YtdijbjhmjamagaaGreatDoor

/-
  The program's joining, of any two good schemas.
-/
namespace Go.Proofs.YtdijbjhmjamagaaGreatDoor
open Go.RowKit

/-- A kid, inside. -/
theorem in_at {S : Nat → Prop} {w : World} {n : Nat} {k : K (n + 1)} {p : Nat} (h : InnerK S w (n + 1) k (.pointer (some ⟨p, 0, none⟩))) (i : Nat) (hi : i < (Kd.kids k).length) :
    ∃ g o cap q, S g ∧ w.cell? ⟨p, 3, none⟩ = some (.slice (some ⟨g, o, none⟩) (Kd.kids k).length cap) ∧ w.cell? ⟨g, o + i, none⟩ = some (.pointer (some ⟨q, 0, none⟩)) ∧ InnerK S w n (Kd.kids k)[i] (.pointer (some ⟨q, 0, none⟩)) := by
  obtain ⟨pp, nv, pv, kv, he, hS, hcell, -, -, hr⟩ := h
  cases he
  obtain ⟨ao, cap, rfl, -, hr⟩ := hr
  obtain ⟨g, o, rfl, hSg, hr⟩ := hr (by intro e; rw [e] at hi; simp at hi)
  obtain ⟨c, e, hin⟩ := hr i hi
  obtain ⟨q, rfl, -⟩ := id hin.ptr
  exact ⟨g, o, cap, q, hSg, by simp [World.cell?, hcell], e, hin⟩

/-- The names and their places, inside. -/
theorem in_names {S : Nat → Prop} {w : World} {n : Nat} {k : K (n + 1)} {p : Nat} (h : InnerK S w (n + 1) k (.pointer (some ⟨p, 0, none⟩))) (h5 : Kd.sort k = 5) :
    ∃ na nc pv, w.cell? ⟨p, 1, none⟩ = some (.slice na (Kd.names k).length nc) ∧ StrsIn S w (Kd.names k) (.slice na (Kd.names k).length nc) ∧ w.cell? ⟨p, 2, none⟩ = some pv ∧ PlacesIn S w (Kd.names k) pv := by
  obtain ⟨pp, nv, pv, kv, he, hS, hcell, hN, hP, -⟩ := h
  cases he
  obtain ⟨na, nc, rfl, -⟩ := id hN
  exact ⟨na, nc, pv, by simp [World.cell?, hcell], hN, by simp [World.cell?, hcell], hP h5⟩

theorem maybe_out (L n : Nat) (hn : n ≤ L) (S : Nat → Prop) (k : K n) (p : Nat) (d : Int) (w : World) (hk : InnerK S w n k (.pointer (some ⟨p, 0, none⟩))) (hB : ∀ b, S b → b < w.heap.size) (hg : goodK n k d = true) (hc : cntK n k ≤ 40) :
    Calls Tryz.prog 98 #[.pointer (some ⟨p, 0, none⟩)] w (MaybePost L (maybeL L n k) w) := by
  cases n with
  | zero => exact Empty.elim (show Empty from k)
  | succ n => exact outerMaybe_any L n S k p d w hn hk hB hg hc

theorem form_facts {n : Nat} {k : K (n + 1)} {d : Int} (h : goodK (n + 1) k d = true) (h5 : Kd.sort k = 5) : (Kd.names k).length = (Kd.kids k).length ∧ riseB (Kd.names k) = true := by
  rcases goodK_kids h with ⟨h', -⟩ | ⟨h', -⟩ | ⟨-, h'⟩
  · omega
  · omega
  · exact h'

theorem zip_fst {α : Type} (l : List ByteArray) (xs : List α) (h : l.length = xs.length) : (l.zip xs).map Prod.fst = l := List.map_fst_zip (by omega)

theorem jn_form {L n m : Nat} {a : K (n + 1)} {b : K (m + 1)} (h5a : Kd.sort a = 5) (h5b : Kd.sort b = 5) (hla : (Kd.names a).length = (Kd.kids a).length) (hlb : (Kd.names b).length = (Kd.kids b).length) (haa : Asc (Kd.names a)) (hab : Asc (Kd.names b)) :
    jnL (L + 1) (n + 1) a (m + 1) b = ((merN ((Kd.names a).length + (Kd.names b).length) (Kd.names a) (Kd.names b)).mapM (valJ (fun x y => jnL L n x m y) (maybeL L n) (maybeL L m) ((Kd.names a).zip (Kd.kids a)) ((Kd.names b).zip (Kd.kids b)))).map fun ks => (⟨5, merN ((Kd.names a).length + (Kd.names b).length) (Kd.names a) (Kd.names b), ks⟩ : Kd (K (L + 1))) := by
  have h1 : ¬ Kd.sort a = 6 := by omega
  have h2 : ¬ Kd.sort b = 6 := by omega
  have h3 : ¬ Kd.sort a ≠ Kd.sort b := by omega
  have h4 : ¬ Kd.sort a = 4 := by omega
  have e := merge_eq (fun x y => jnL L n x m y) (maybeL L n) (maybeL L m) ((Kd.names a).length + (Kd.names b).length) ((Kd.names a).zip (Kd.kids a)) ((Kd.names b).zip (Kd.kids b)) (by rw [List.length_zip, List.length_zip]; omega) (by rw [zip_fst _ _ hla]; exact haa) (by rw [zip_fst _ _ hlb]; exact hab)
  rw [zip_fst _ _ hla, zip_fst _ _ hlb] at e
  have e2 := mapM_at (valJ (fun x y => jnL L n x m y) (maybeL L n) (maybeL L m) ((Kd.names a).zip (Kd.kids a)) ((Kd.names b).zip (Kd.kids b))) (merN ((Kd.names a).length + (Kd.names b).length) (Kd.names a) (Kd.names b))
  have e3 := congrArg (Option.map fun p : List ByteArray × List (K (L + 1)) => (⟨5, p.1, p.2⟩ : Kd (K (L + 1)))) e2
  rw [Option.map_map, Option.map_map] at e3
  simp only [jnL, if_neg h1, if_neg h2, if_neg h3, if_neg h4, e]
  rw [h5a]
  exact e3

theorem jI_form (L : Nat) (hJ : JoinISaid L) (S : Nat → Prop) (n m : Nat) (a : K (n + 1)) (b : K (m + 1)) (pa pb : Nat) (d d' : Int) (R : Nat) (x : ByteArray) (w : World) (hL : n + 1 + (m + 1) ≤ L + 1) (ha : InnerK S w (n + 1) a (.pointer (some ⟨pa, 0, none⟩))) (hb : InnerK S w (m + 1) b (.pointer (some ⟨pb, 0, none⟩))) (hB : ∀ b, S b → b < w.heap.size) (hT : TabJ w R) (hR : R < w.heap.size)
    (hga : goodK (n + 1) a d = true) (hgb : goodK (m + 1) b d' = true) (hca : cntK (n + 1) a ≤ 40) (hcb : cntK (m + 1) b ≤ 40) (hd : 1 ≤ d) (hd' : 1 ≤ d') (hx : (x.size : Int) ≤ 20 * (d + d')) (h5a : Kd.sort a = 5) (h5b : Kd.sort b = 5) :
    Calls Tryz.prog 53 #[.pointer (some ⟨R, 0, none⟩), .agg #[.pointer (some ⟨pa, 0, none⟩), .pointer (some ⟨pb, 0, none⟩), .string x]] w fun e w' => Below w.heap.size w w' ∧ EndJ (L + 1) (jnL (L + 1) (n + 1) a (m + 1) b) w e w' := by
  have hda : d ≤ 6 := by have h := hga; simp only [goodK, Bool.and_eq_true, decide_eq_true_eq] at h; exact h.1.1
  have hdb : d' ≤ 6 := by have h := hgb; simp only [goodK, Bool.and_eq_true, decide_eq_true_eq] at h; exact h.1.1
  obtain ⟨hSa, -⟩ := in_sort ha
  obtain ⟨hSb, -⟩ := in_sort hb
  have hpa := hB pa hSa
  have hpb := hB pb hSb
  obtain ⟨hla, hra⟩ := form_facts hga h5a
  obtain ⟨hlb, hrb⟩ := form_facts hgb h5b
  have haa := asc_of _ hra
  have hab := asc_of _ hrb
  obtain ⟨hna, hsa, hka, hfa⟩ := few_of_good hga hca
  obtain ⟨hnb, hsb, hkb, hfb⟩ := few_of_good hgb hcb
  obtain ⟨na, nc, pva, c1a, hNa, c2a, hPa⟩ := in_names ha h5a
  obtain ⟨nb, ncb, pvb, c1b, hNb, c2b, hPb⟩ := in_names hb h5b
  have key : ∀ {W : World}, Below w.heap.size w W → Same S w W ∧ (∀ b, S b → b < W.heap.size) ∧ TabJ W R ∧ R < W.heap.size := fun hW => ⟨same_below hW hB, fun b hb => Nat.lt_of_lt_of_le (hB b hb) hW.size, hT.keep (hW.block R hR), Nat.lt_of_lt_of_le hR hW.size⟩
  refine ofForms_j L (valJ (fun x y => jnL L n x m y) (maybeL L n) (maybeL L m) ((Kd.names a).zip (Kd.kids a)) ((Kd.names b).zip (Kd.kids b))) S (Kd.names a) (Kd.names b) _ na nb nc ncb R pa pb x w c1a c1b hpa hpb hNa hNb hB hna hnb hsa hsb haa hab rfl (fun s hs W hW => ?_) _ (jn_form h5a h5b hla hlb haa hab)
  have hmem := (merN_mem _ _ _ (Nat.le_refl _) s).1 hs
  have hyesA : ∀ (i : Nat) (hi : i < (Kd.names a).length), (Kd.names a)[i] = s → ∃ q, InnerK S w n ((Kd.kids a)[i]'(by omega)) (.pointer (some ⟨q, 0, none⟩)) ∧ ∀ W', Below W.heap.size W W' → Calls Tryz.prog 86 #[.pointer (some ⟨pa, 0, none⟩), .string s] W' fun e w' => e = .returned (.pointer (some ⟨q, 0, none⟩)) ∧ w' = W' := fun i hi he => by
    obtain ⟨g, o, cap, q, hSg, c3, cq, hin⟩ := in_at ha i (by omega)
    refine ⟨q, hin, fun W' hW' => ?_⟩
    have hb2 := below_step hW hW.size hW'
    have h8 := j_short hra i hi
    have := field_yes S W' (Kd.names a) pva pa g o (Kd.kids a).length cap q i ((hb2.cell (p := ⟨pa, 2, none⟩) hpa).trans c2a) (hPa.keep (same_below hb2 hB) (fun _ h => h)) haa hi (by unfold maxLen; omega) ((hb2.cell (p := ⟨pa, 3, none⟩) hpa).trans c3) (by omega) ((hb2.cell (p := ⟨g, o + i, none⟩) (hB g hSg)).trans cq)
    rwa [he] at this
  have hyesB : ∀ (i : Nat) (hi : i < (Kd.names b).length), (Kd.names b)[i] = s → ∃ q, InnerK S w m ((Kd.kids b)[i]'(by omega)) (.pointer (some ⟨q, 0, none⟩)) ∧ ∀ W', Below W.heap.size W W' → Calls Tryz.prog 86 #[.pointer (some ⟨pb, 0, none⟩), .string s] W' fun e w' => e = .returned (.pointer (some ⟨q, 0, none⟩)) ∧ w' = W' := fun i hi he => by
    obtain ⟨g, o, cap, q, hSg, c3, cq, hin⟩ := in_at hb i (by omega)
    refine ⟨q, hin, fun W' hW' => ?_⟩
    have hb2 := below_step hW hW.size hW'
    have h8 := j_short hrb i hi
    have := field_yes S W' (Kd.names b) pvb pb g o (Kd.kids b).length cap q i ((hb2.cell (p := ⟨pb, 2, none⟩) hpb).trans c2b) (hPb.keep (same_below hb2 hB) (fun _ h => h)) hab hi (by unfold maxLen; omega) ((hb2.cell (p := ⟨pb, 3, none⟩) hpb).trans c3) (by omega) ((hb2.cell (p := ⟨g, o + i, none⟩) (hB g hSg)).trans cq)
    rwa [he] at this
  have hs8 : s.size ≤ 8 := by
    rcases hmem with h | h
    · obtain ⟨i, hi, rfl⟩ := List.getElem_of_mem h; exact j_short hra i hi
    · obtain ⟨i, hi, rfl⟩ := List.getElem_of_mem h; exact j_short hrb i hi
  have hsM : s.size ≤ maxLen := by unfold maxLen; omega
  have hnoA : s ∉ Kd.names a → ∀ W', Below W.heap.size W W' → Calls Tryz.prog 86 #[.pointer (some ⟨pa, 0, none⟩), .string s] W' fun e w' => e = .returned (.pointer none) ∧ w' = W' := fun hn W' hW' => by
    have hb2 := below_step hW hW.size hW'
    exact field_no S W' (Kd.names a) pva pa s ((hb2.cell (p := ⟨pa, 2, none⟩) hpa).trans c2a) (hPa.keep (same_below hb2 hB) (fun _ h => h)) hn hsM
  have hnoB : s ∉ Kd.names b → ∀ W', Below W.heap.size W W' → Calls Tryz.prog 86 #[.pointer (some ⟨pb, 0, none⟩), .string s] W' fun e w' => e = .returned (.pointer none) ∧ w' = W' := fun hn W' hW' => by
    have hb2 := below_step hW hW.size hW'
    exact field_no S W' (Kd.names b) pvb pb s ((hb2.cell (p := ⟨pb, 2, none⟩) hpb).trans c2b) (hPb.keep (same_below hb2 hB) (fun _ h => h)) hn hsM
  by_cases hA : s ∈ Kd.names a
  · obtain ⟨i, hi, he⟩ := List.getElem_of_mem hA
    obtain ⟨qa, hia, HFa⟩ := hyesA i hi he
    have hvA : atN ((Kd.names a).zip (Kd.kids a)) s = some ((Kd.kids a)[i]'(by omega)) := by rw [← he]; exact atN_zip _ _ i hi (by omega) haa
    have hgA := hfa _ (List.getElem_mem (show i < (Kd.kids a).length by omega))
    by_cases hBm : s ∈ Kd.names b
    · obtain ⟨j, hj, hej⟩ := List.getElem_of_mem hBm
      obtain ⟨qb, hib, HFb⟩ := hyesB j hj hej
      have hvB : atN ((Kd.names b).zip (Kd.kids b)) s = some ((Kd.kids b)[j]'(by omega)) := by rw [← hej]; exact atN_zip _ _ j hj (by omega) hab
      have hgB := hfb _ (List.getElem_mem (show j < (Kd.kids b).length by omega))
      have ev : valJ (fun x y => jnL L n x m y) (maybeL L n) (maybeL L m) ((Kd.names a).zip (Kd.kids a)) ((Kd.names b).zip (Kd.kids b)) s = jnL L n ((Kd.kids a)[i]'(by omega)) m ((Kd.kids b)[j]'(by omega)) := by unfold valJ; rw [hvA, hvB]
      rw [ev]
      have hp := pathJ (s := s) hx hs8
      refine ofFields_both L _ R pa pb qa qb x s W (by omega) HFa HFb (fun W' hW' => ?_)
      have hb2 := below_step hW hW.size hW'
      exact hJ S n m _ _ _ _ (d + 1) (d' + 1) R _ W' (by omega) (hia.keep (key hb2).1 (fun _ h => h)) (hib.keep (key hb2).1 (fun _ h => h)) (key hb2).2.1 (key hb2).2.2.1 (key hb2).2.2.2 hgA.1 hgB.1 hgA.2 hgB.2 (by omega) (by omega) (by omega)
    · have ev : valJ (fun x y => jnL L n x m y) (maybeL L n) (maybeL L m) ((Kd.names a).zip (Kd.kids a)) ((Kd.names b).zip (Kd.kids b)) s = some (maybeL L n ((Kd.kids a)[i]'(by omega))) := by unfold valJ; rw [hvA, atN_out _ _ _ hBm]
      rw [ev]
      refine ofFields_a L _ R pa pb qa x s W HFa (hnoB hBm) (fun W' hW' => ?_)
      have hb2 := below_step hW hW.size hW'
      exact maybe_out L n (by omega) S _ qa (d + 1) W' (hia.keep (key hb2).1 (fun _ h => h)) (key hb2).2.1 hgA.1 hgA.2
  · have hBm : s ∈ Kd.names b := hmem.resolve_left hA
    obtain ⟨j, hj, hej⟩ := List.getElem_of_mem hBm
    obtain ⟨qb, hib, HFb⟩ := hyesB j hj hej
    have hvB : atN ((Kd.names b).zip (Kd.kids b)) s = some ((Kd.kids b)[j]'(by omega)) := by rw [← hej]; exact atN_zip _ _ j hj (by omega) hab
    have hgB := hfb _ (List.getElem_mem (show j < (Kd.kids b).length by omega))
    have ev : valJ (fun x y => jnL L n x m y) (maybeL L n) (maybeL L m) ((Kd.names a).zip (Kd.kids a)) ((Kd.names b).zip (Kd.kids b)) s = some (maybeL L m ((Kd.kids b)[j]'(by omega))) := by unfold valJ; rw [atN_out _ _ _ hA, hvB]
    rw [ev]
    refine ofFields_b L _ R pa pb qb x s W (hnoA hA) HFb (fun W' hW' => ?_)
    have hb2 := below_step hW hW.size hW'
    exact maybe_out L m (by omega) S _ qb (d' + 1) W' (hib.keep (key hb2).1 (fun _ h => h)) (key hb2).2.1 hgB.1 hgB.2

theorem joinI_step (L : Nat) (hJ : JoinISaid L) : JoinISaid (L + 1) := by
  intro S n m a b va vb d d' R x w hL ha hb hB hT hR hga hgb hca hcb hd hd' hx
  cases n with
  | zero => exact Empty.elim (show Empty from a)
  | succ n =>
  cases m with
  | zero => exact Empty.elim (show Empty from b)
  | succ m =>
  obtain ⟨i, hi1, hi6, hi⟩ := sort_natJ hga
  obtain ⟨j, hj1, hj6, hj⟩ := sort_natJ hgb
  obtain ⟨pa, rfl, hSa⟩ := ha.ptr
  obtain ⟨pb, rfl, hSb⟩ := hb.ptr
  have hla := hB pa hSa
  have hlb := hB pb hSb
  have ea := (in_sort ha).2
  have eb := (in_sort hb).2
  rw [hi] at ea
  rw [hj] at eb
  have eT := hT i j hi1 hi6 hj1 hj6
  have key : ∀ {W : World}, Below w.heap.size w W → InnerK S W (n + 1) a (.pointer (some ⟨pa, 0, none⟩)) ∧ InnerK S W (m + 1) b (.pointer (some ⟨pb, 0, none⟩)) ∧ (∀ b, S b → b < W.heap.size) ∧ TabJ W R ∧ R < W.heap.size := fun hW =>
    ⟨ha.keep (same_below hW hB) (fun _ h => h), hb.keep (same_below hW hB) (fun _ h => h), fun b hb => Nat.lt_of_lt_of_le (hB b hb) hW.size, hT.keep (hW.block R hR), Nat.lt_of_lt_of_le hR hW.size⟩
  by_cases h6 : i = 6 ∨ j = 6
  · have e : jnV R i j = widF R 54 := by unfold jnV; rw [if_pos h6]
    rw [e] at eT
    refine of_j (L + 1) _ R pa pb i j _ x w hi1 hi6 hj1 hj6 Tryz.call54 ea eb eT hla hlb hR fun W hW => ?_
    obtain ⟨k1, k2, k3, k4, k5⟩ := key hW
    exact jI_maybe L hJ S n m a b pa pb d d' R x W hL k1 k2 k3 k4 k5 hga hgb hca hcb hd hd' hx (h6.imp (fun h => by omega) (fun h => by omega))
  · by_cases hij : i = j
    · by_cases h4 : i = 4
      · have e : jnV R i j = widF R 52 := by unfold jnV; rw [if_neg h6, if_pos hij, if_pos h4]
        rw [e] at eT
        refine of_j (L + 1) _ R pa pb i j _ x w hi1 hi6 hj1 hj6 Tryz.call52 ea eb eT hla hlb hR fun W hW => ?_
        obtain ⟨k1, k2, k3, k4, k5⟩ := key hW
        exact jI_list L hJ S n m a b pa pb d d' R x W hL k1 k2 k3 k4 k5 hga hgb hca hcb hd hd' hx (by omega) (by omega)
      · by_cases h5 : i = 5
        · have e : jnV R i j = widF R 53 := by unfold jnV; rw [if_neg h6, if_pos hij, if_neg h4, if_pos h5]
          rw [e] at eT
          refine of_j (L + 1) _ R pa pb i j _ x w hi1 hi6 hj1 hj6 Tryz.call53 ea eb eT hla hlb hR fun W hW => ?_
          obtain ⟨k1, k2, k3, k4, k5⟩ := key hW
          exact jI_form L hJ S n m a b pa pb d d' R x W hL k1 k2 k3 k4 k5 hga hgb hca hcb hd hd' hx (by omega) (by omega)
        · have e : jnV R i j = widF R 51 := by unfold jnV; rw [if_neg h6, if_pos hij, if_neg h4, if_neg h5]
          rw [e] at eT
          have hka : Kd.names a = [] ∧ Kd.kids a = [] := by
            rcases goodK_kids hga with ⟨-, h1, h2⟩ | ⟨h, -⟩ | ⟨h, -⟩
            · exact ⟨h1, h2⟩
            · omega
            · omega
          have hkb : Kd.names b = [] ∧ Kd.kids b = [] := by
            rcases goodK_kids hgb with ⟨-, h1, h2⟩ | ⟨h, -⟩ | ⟨h, -⟩
            · exact ⟨h1, h2⟩
            · omega
            · omega
          have ej : jnL (L + 1) (n + 1) a (m + 1) b = some (copyL (L + 1) (n + 1) a) := by
            have h1 : ¬ Kd.sort a = 6 := by omega
            have h2 : ¬ Kd.sort b = 6 := by omega
            have h3 : ¬ Kd.sort a ≠ Kd.sort b := by omega
            have h4' : ¬ Kd.sort a = 4 := by omega
            simp only [jnL, if_neg h1, if_neg h2, if_neg h3, if_neg h4', hka.1, hkb.1, hka.2, hkb.2, copyL]
            rfl
          rw [ej]
          refine of_j (L + 1) _ R pa pb i j _ x w hi1 hi6 hj1 hj6 Tryz.call51 ea eb eT hla hlb hR fun W hW => ?_
          obtain ⟨k1, k2, k3, k4, k5⟩ := key hW
          exact ofLeaves_j (L + 1) (n + 1) S a R pa pb d x W (by omega) k1 k3 hga hca
    · have e : jnV R i j = .nilFunc := by unfold jnV; rw [if_neg h6, if_neg hij]
      rw [e] at eT
      have ej : jnL (L + 1) (n + 1) a (m + 1) b = none := by
        have h1 : ¬ Kd.sort a = 6 := by omega
        have h2 : ¬ Kd.sort b = 6 := by omega
        have h3 : Kd.sort a ≠ Kd.sort b := by omega
        simp only [jnL, if_neg h1, if_neg h2, if_pos h3]
      rw [ej]
      exact of_jnil (L + 1) R pa pb i j x w hi1 hi6 hj1 hj6 ea eb eT hla hlb hR

theorem joinI_any : ∀ L, JoinISaid L := by
  intro L
  induction L with
  | zero =>
    intro S n m a b va vb d d' R x w hL
    have hn : n = 0 := by omega
    subst hn
    exact Empty.elim (show Empty from a)
  | succ L ih => exact joinI_step L ih

end Go.Proofs.YtdijbjhmjamagaaGreatDoor
