/-
  The program's joining: of two forms, name by name.
-/
import Derived.Test.YtdijbjhmjamagaaGreatDoorB19
import Derived.Test.YtdijbjhmjamagaaGreatDoorJA2
namespace Go.Proofs.YtdijbjhmjamagaaGreatDoor
open Go.RowKit

theorem mapM_none {α β : Type} (f : α → Option β) : ∀ (l : List α) (x : α), x ∈ l → f x = none → l.mapM f = none := by
  intro l
  induction l with
  | nil => intro x hx; cases hx
  | cons a r ih =>
    intro x hx hf
    rw [List.mapM_cons]
    cases ha : f a with
    | none => rfl
    | some b =>
      rcases List.mem_cons.1 hx with rfl | hx
      · rw [hf] at ha; cases ha
      · rw [ih x hx hf]; rfl

theorem mapM_all {α β : Type} (f : α → Option β) (d : β) : ∀ (l : List α), (∀ x, x ∈ l → (f x).isSome = true) → l.mapM f = some (l.map fun x => (f x).getD d) := by
  intro l
  induction l with
  | nil => intro _; rfl
  | cons a r ih =>
    intro h
    rw [List.mapM_cons, ih (fun x hx => h x (List.mem_cons_of_mem _ hx))]
    cases ha : f a with
    | none => have := h a (List.mem_cons_self ..); rw [ha] at this; cases this
    | some b => simp [ha]

theorem kst_set {n : Nat} {t : K (n + 1)} {Wp W2 W y1 : World} {N : Nat} {s : Int} {nv : Value} (hb : Below Wp.heap.size Wp W2) (hz : W2.heap.size = Wp.heap.size + 1) (hzero : W2.heap[Wp.heap.size]? = some (.cells #[.int .i64 0, .slice none 0 0, .slice none 0 0] 26 (0, 0))) (hW : Below W2.heap.size W2 y1) (hWz : W2.heap.size ≤ W.heap.size)
    (hown : y1.ownsRow W.heap.size 9 1 nv (Kd.names t).length ((Kd.names t).map .string)) (q : NewJ y1 N) (h1 : W2.heap.size ≤ N) (h2 : N < W.heap.size) :
    KOutStart n t Wp N s nv (((y1.setCell ⟨N, 0, none⟩ (.int .i64 s)).setCell ⟨N, 1, none⟩ nv).setCell ⟨N, 2, none⟩ (.slice none 0 0)) := by
  have hol := r1_lt hown
  have q : y1.heap[N]? = _ := q
  refine ⟨j3_below (below_step hb hb.size hW) (by omega), ?_, ?_, ?_, fun e => by have := hol _ e; omega, by omega⟩
  · rw [j3_other (by omega), hW.block _ (by omega)]; exact hzero
  · simp [World.setCell, Array.getElem?_modify, q]
  · exact r1_keep (owns_lower hown (by omega)) fun g hg => j3_other (by have := hol g hg; omega)

theorem kst_new {n : Nat} {t : K (n + 1)} {Wp W2 W y1 : World} {s : Int} {nv : Value} (hb : Below Wp.heap.size Wp W2) (hz : W2.heap.size = Wp.heap.size + 1) (hzero : W2.heap[Wp.heap.size]? = some (.cells #[.int .i64 0, .slice none 0 0, .slice none 0 0] 26 (0, 0))) (hW : Below W2.heap.size W2 y1) (hWz : W2.heap.size ≤ W.heap.size)
    (hown : y1.ownsRow W.heap.size 9 1 nv (Kd.names t).length ((Kd.names t).map .string)) :
    KOutStart n t Wp y1.heap.size s nv (y1.alloc (.cells #[.int .i64 s, nv, .slice none 0 0] 26)) := by
  have hol := r1_lt hown
  have hzy := hW.size
  refine ⟨below_alloc (below_step hb hb.size hW) _, ?_, heap_alloc_new _ _, ?_, fun e => by have := hol _ e; omega, by omega⟩
  · rw [Below.heap_alloc _ _ _ (by omega), hW.block _ (by omega)]; exact hzero
  · exact (owns_lower hown (by omega)).alloc _

set_option maxRecDepth 20000 in
set_option maxHeartbeats 8000000 in
theorem ofForms_j (L : Nat) (vJ : ByteArray → Option (K (L + 1))) (S : Nat → Prop) (la lb ml : List ByteArray) (na nb : Option Addr) (nac nbc R pa pb : Nat) (x : ByteArray) (w : World) (ha : w.cell? ⟨pa, 1, none⟩ = some (.slice na la.length nac)) (hb : w.cell? ⟨pb, 1, none⟩ = some (.slice nb lb.length nbc)) (hpa : pa < w.heap.size) (hpb : pb < w.heap.size) (hA : StrsIn S w la (.slice na la.length nac)) (hBb : StrsIn S w lb (.slice nb lb.length nbc)) (hB : ∀ b, S b → b < w.heap.size) (hla : la.length ≤ 39) (hlb : lb.length ≤ 39) (hsa : ∀ s, s ∈ la → s.size ≤ 10000) (hsb : ∀ s, s ∈ lb → s.size ≤ 10000) (haa : Asc la) (hab : Asc lb) (hml : merN (la.length + lb.length) la lb = ml)
    (HF : ∀ s, s ∈ ml → ∀ W, Below w.heap.size w W → Calls Tryz.prog 74 #[.pointer (some ⟨R, 0, none⟩), .agg #[.pointer (some ⟨pa, 0, none⟩), .pointer (some ⟨pb, 0, none⟩), .string x], .string s] W fun e w' => Below W.heap.size W w' ∧ EndJ L (vJ s) W e w') (oo : Option (K (L + 1 + 1))) (hoo : oo = (ml.mapM vJ).map fun ks => (⟨5, ml, ks⟩ : Kd (K (L + 1)))) :
    Calls Tryz.prog 53 #[.pointer (some ⟨R, 0, none⟩), .agg #[.pointer (some ⟨pa, 0, none⟩), .pointer (some ⟨pb, 0, none⟩), .string x]] w fun e w' => Below w.heap.size w w' ∧ EndJ (L + 1) oo w e w' := by
  have hlm : ml.length ≤ 78 := by
    have h1 := Lib.compact_length_le (((la ++ lb).map (·.data.toList)).mergeSort fun x y => decide (x ≤ y))
    rw [List.length_mergeSort, List.length_map, List.length_append] at h1
    rw [← hml, ← sorted_names la lb haa hab, List.length_map]
    omega
  have hsm : ∀ s, s ∈ ml → s.size ≤ 10000 := fun s hs => by
    rw [← hml] at hs
    exact ((merN_mem _ la lb (Nat.le_refl _) s).1 hs).elim (hsa s) (hsb s)
  obtain ⟨ks, hks⟩ : ∃ ks : List (K (L + 1)), ks = ml.map fun s => (vJ s).getD (⟨0, [], []⟩ : Kd (K L)) := ⟨_, rfl⟩
  have hkl : ks.length = ml.length := by rw [hks, List.length_map]
  have HKs : Hid (∀ i (h : i < ml.length) (h' : i < ks.length) r, vJ ml[i] = some r → ks[i] = r) := fun i h h' r hr => by
    have e : ks[i] = (vJ ml[i]).getD (⟨0, [], []⟩ : Kd (K L)) := by simp [hks]
    rw [e, hr]; rfl
  obtain ⟨t, ht⟩ : ∃ t : K (L + 1 + 1), t = (⟨5, ml, ks⟩ : Kd (K (L + 1))) := ⟨_, rfl⟩
  have HYes : Hid ((∀ i (h : i < ml.length), (vJ ml[i]).isSome = true) → oo = some t) := fun h => by
    rw [ht, hoo, mapM_all vJ (⟨0, [], []⟩ : Kd (K L)) ml (fun s hs => by obtain ⟨i, hi, rfl⟩ := List.getElem_of_mem hs; exact h i hi), hks]; rfl
  have HNo : Hid (∀ i (h : i < ml.length), vJ ml[i] = none → oo = none) := fun i h hn => by
    rw [hoo, mapM_none vJ ml _ (List.getElem_mem h) hn]; rfl
  have HT : Hid (Kd.names t = ml ∧ Kd.kids t = ks ∧ Kd.sort t = 5) := by rw [ht]; exact ⟨rfl, rfl, rfl⟩
  obtain ⟨Wp, hWp⟩ : ∃ Wp, Wp = w.alloc (.cells #[.pointer (some ⟨pa, 0, none⟩), .pointer (some ⟨pb, 0, none⟩), .string x] 50) := ⟨_, rfl⟩
  obtain ⟨W2, hW2⟩ : ∃ W2, W2 = Wp.alloc (.cells #[.int .i64 0, .slice none 0 0, .slice none 0 0] 26) := ⟨_, rfl⟩
  have h2 : TwoP w W2 pa pb x := by rw [hW2, hWp]; exact two_at _ _ _ _
  have hzp : Wp.heap.size = w.heap.size + 1 := by rw [hWp]; simp
  have hbp : Below Wp.heap.size Wp W2 := by rw [hW2]; exact (Below.refl _ _).alloc (Nat.le_refl _) _
  have HP : Hid (Below Wp.heap.size Wp W2 ∧ W2.heap.size = Wp.heap.size + 1 ∧ W2.heap[Wp.heap.size]? = some (.cells #[.int .i64 0, .slice none 0 0, .slice none 0 0] 26 (0, 0)) ∧ Wp.heap.size = w.heap.size + 1) := ⟨hbp, by rw [hW2]; simp, by rw [hW2]; exact heap_alloc_new _ _, hzp⟩
  have H2 := Lib.hid h2
  have hz2 := h2.size
  have hza : w.heap.size + 2 ≤ W2.heap.size := Nat.le_of_eq hz2.symm
  have HS : Hid (∀ W, Below W2.heap.size W2 W → (W.cell? ⟨w.heap.size, 0, none⟩ = some (.pointer (some ⟨pa, 0, none⟩)) ∧ W.cell? ⟨w.heap.size, 1, none⟩ = some (.pointer (some ⟨pb, 0, none⟩)) ∧ W.cell? ⟨w.heap.size, 2, none⟩ = some (.string x)) ∧ W.cell? ⟨pa, 1, none⟩ = some (.slice na la.length nac) ∧ W.cell? ⟨pb, 1, none⟩ = some (.slice nb lb.length nbc)) := fun W hW => by
    have hbw := below_step h2.below h2.below.size hW
    exact ⟨h2.cells hW, (hbw.cell (p := ⟨pa, 1, none⟩) hpa).trans ha, (hbw.cell (p := ⟨pb, 1, none⟩) hpb).trans hb⟩
  have HAN : Hid (∀ W, Below W2.heap.size W2 W → Calls Tryz.prog 73 #[.slice na la.length nac, .slice nb lb.length nbc] W fun e w' => ∃ va vc, e = .returned (.slice va ml.length vc) ∧ w'.ownsRow W.heap.size 9 1 (.slice va ml.length vc) (Kd.names t).length ((Kd.names t).map .string) ∧ (W2.heap.size ≤ W.heap.size ∧ Below W2.heap.size W2 w') ∧ ∀ N, NewJ W N → NewJ w' N ∧ N < W.heap.size) := fun W hW => by
    have hbw := below_step h2.below h2.below.size hW
    refine (allNames_any S la lb _ _ W (hA.keep (same_below hbw hB) (fun _ h => h)) (hBb.keep (same_below hbw hB) (fun _ h => h)) (fun b hb => Nat.lt_of_lt_of_le (hB b hb) hbw.size) (by omega) (by omega) hsa hsb haa hab).mono ?_
    rintro e w' ⟨v', rfl, hown, hb'⟩
    rw [hml] at hown
    obtain ⟨va, vc, rfl⟩ := r1_shape hown
    exact ⟨va, vc, rfl, by rw [HT.out.1]; exact hown, ⟨hW.size, below_step hW hW.size hb'⟩, fun N q => ⟨q.keep hb', q.lt⟩⟩
  have HFF := Lib.hid HF
  have HSm := Lib.hid hsm
  have HKl := Lib.hid hkl
  have hd0 : Below W2.heap.size W2 W2.drew := (Below.refl _ _).drew
  have n0 : ¬ W2.heap.size = w.heap.size := by omega
  have n1 : ¬ W2.heap.size = pa := by omega
  have n2 : ¬ W2.heap.size = pb := by omega
  obtain ⟨⟨i0, i1, i2⟩, j1, j2⟩ := HS.out W2 (Below.refl _ _)
  have w2e : W2 = (w.alloc (.cells #[.pointer (some ⟨pa, 0, none⟩), .pointer (some ⟨pb, 0, none⟩), .string x] 50)).alloc (.cells #[.int .i64 0, .slice none 0 0, .slice none 0 0] 26) := by rw [hW2, hWp]
  obtain ⟨la', hla'⟩ : ∃ n, la.length = n := ⟨_, rfl⟩
  obtain ⟨lb', hlb'⟩ : ∃ n, lb.length = n := ⟨_, rfl⟩
  obtain ⟨nm, hnm⟩ : ∃ n, ml.length = n := ⟨_, rfl⟩
  have HNm : Hid (ml.length = nm) := hnm
  rw [hla'] at HS HAN j1
  rw [hlb'] at HS HAN j2
  rw [hnm] at HAN hlm
  clear hA hBb hB hsa hsb haa hab hml hsm hks hoo ht h2 hz2 hzp hbp hW2 hWp ha hb HF hla hlb hkl hla' hlb' hnm
  obtain ⟨ik0, hi0, hy0, hy1, hyb⟩ := info_parts Tryz.info_kindO
  have HIK : Hid (_ ∧ _ ∧ _ ∧ _) := ⟨hi0, hy0, hy1, hyb⟩
  clear hi0 hy0 hy1 hyb
  go_enter Tryz.func53, Tryz.ntmps53
  go_upto_region 1 with fail
  rw [← w2e]
  clear w2e
  go_cut [6] from 11 to 48 (fun pv wx => ∃ (X : Nat) (va : Option Addr) (vc : Nat), pv = .pointer (some ⟨X, 0, none⟩) ∧ KOutStart (L + 1) t Wp X 5 (.slice va nm vc) wx ∧ Below W2.heap.size W2 wx ∧ W2.heap.size ≤ X)
  case first =>
    go_region_held (fun W => (W.cell? ⟨w.heap.size, 0, none⟩ = some (.pointer (some ⟨pa, 0, none⟩)) ∧ W.cell? ⟨w.heap.size, 1, none⟩ = some (.pointer (some ⟨pb, 0, none⟩)) ∧ W.cell? ⟨w.heap.size, 2, none⟩ = some (.string x)) ∧ W.cell? ⟨pa, 1, none⟩ = some (.slice na la' nac) ∧ W.cell? ⟨pb, 1, none⟩ = some (.slice nb lb' nbc)) (first | with_reducible assumption | go_keep) (first
      | (go_at_call 73; refine (HAN.out _ (by (first | with_reducible assumption | (with_reducible refine below_alloc ?_ _; with_reducible assumption) | (with_reducible refine below_allocD ?_ _; with_reducible assumption)))).mono ?_; rintro e y1 ⟨va, vc, rfl, hown1, ⟨hW1, hy1⟩, hq1⟩; obtain ⟨⟨ic0, ic1, ic2⟩, jc1, jc2⟩ := HS.out y1 hy1; have hzc := hy1.size; have m0 : ¬ y1.heap.size = w.heap.size := (by omega); have m1 : ¬ y1.heap.size = pa := (by omega); have m2 : ¬ y1.heap.size = pb := (by omega); (first | with_reducible (have q := hq1 _ (newJ_at _)) | with_reducible (have q := hq1 _ (newJ_atD _)) | with_reducible (have q := hq1 _ q) | skip); (first | (obtain ⟨q, hN⟩ := q; obtain ⟨⟨r0, r1, r2⟩, f0, f1, f2⟩ := j3_cells q) | skip)))
    all_goals
      go_wp2_with fail
      go_meet
      first
        | with_reducible exact ⟨_, _, _, rfl, kst_set HP.out.1 HP.out.2.1 HP.out.2.2.1 hy1 hW1 hown1 q (by omega) hN, j3_below hy1 (by omega), by omega⟩
        | with_reducible exact ⟨_, _, _, rfl, kst_new HP.out.1 HP.out.2.1 HP.out.2.2.1 hy1 hW1 hown1, below_alloc hy1 _, hzc⟩
  case rest =>
    obtain ⟨X, va, vc, rfl, hST, hbc, hXg⟩ := hcut
    have HST := Lib.hid hST
    have HBc := Lib.hid hbc
    have hXc : X < wc.heap.size := (Array.getElem?_eq_some_iff.1 hST.box).1
    have hzc := hbc.size
    have HNr : Hid (∀ i (hi : i < ml.length), ∃ p o, va = some ⟨p, o, none⟩ ∧ p < wc.heap.size ∧ p ≠ X ∧ wc.cell? ⟨p, o + i, none⟩ = some (.string ml[i])) := fun i hi => by
      have hn := hST.names
      rw [HT.out.1] at hn
      obtain ⟨ao, cp, he, -, -, hc⟩ := strs_of_ownsK (S := fun b => b < wc.heap.size ∧ b ≠ X) hn (by have := HNm.out; omega) HSm.out (fun g hg => ⟨(r1_lt hn g hg).2, fun e => hST.far (by rw [← e]; exact hg)⟩)
      obtain ⟨b, off, hao, hb, hcell⟩ := hc (fun e => by rw [e] at hi; simp at hi)
      have hva : va = ao := by simpa using congrArg (fun v => match v with | Value.slice a _ _ => a | _ => none) he
      exact ⟨b, off, hva.trans hao, hb.1, hb.2, hcell i hi⟩
    obtain ⟨⟨x0, x1, x2⟩, -⟩ := j3_cells hST.box
    clear hST hbc i0 i1 i2 j1 j2 HAN hd0 n0 n1 n2
    go_wp2_with fail
    clear x0 x1 x2
    go_loopw [26] (fun iv wr => ∃ (k : Nat) (v : Value), k ≤ nm ∧ iv = .int .i64 k ∧ KOutLoop X (L + 1) ks 5 (.slice va nm vc) wc k v wr ∧ ∀ i (h : i < ml.length), i < k → (vJ ml[i]).isSome = true) (fun iv _ => nm - (intOf iv).toNat)
    case atStart => exact ⟨0, .slice none 0 0, Nat.zero_le _, rfl, ⟨Near.refl _ _, HST.out.box, [], [], World.ownsRow_nil _ _ _ _, rfl, ⟨Own.nil _, fun j _ hp => absurd hp (Nat.not_lt_zero _)⟩, by simp [sumL]⟩, fun i _ h => absurd h (Nat.not_lt_zero _)⟩
    case round =>
      obtain ⟨k, v, hk, rfl, hL, hall⟩ := hrel
      obtain ⟨W0, hW0⟩ : ∃ W0, W0 = wr := ⟨_, rfl⟩
      rw [← hW0] at hL ⊢
      clear hW0
      obtain ⟨xs, Ps, hown, hpl, hko, hln⟩ := hL.row
      obtain ⟨ka, kc, rfl⟩ := r1_shape hown
      have hnr := hL.near
      have hzr := hnr.size
      have HL := Lib.hid hL
      have HAl := Lib.hid hall
      have HX : Hid (W0.ownsRow wc.heap.size 26 3 (.slice ka k kc) k xs) := hown
      have HKO := Lib.hid (And.intro hpl (And.intro hko hln))
      have hbW : Below W2.heap.size W2 W0 := ⟨hnr.os.trans HBc.out.os, hnr.tape.trans HBc.out.tape, hnr.output.trans HBc.out.output, by omega, fun b hb => (hnr.block b (by omega) (by omega)).trans (HBc.out.block b hb)⟩
      have HBW := Lib.hid hbW
      obtain ⟨⟨i0, i1, i2⟩, -⟩ := HS.out W0 hbW
      have HNn : Hid (∀ b, b < wc.heap.size → b ≠ X → W0.heap[b]? = wc.heap[b]?) := hnr.block
      clear hL hall hown hpl hko hln hnr hbW
      by_cases hlt : k < nm
      · have hlti : (k : Int) < (nm : Int) := by omega
        have hkm : k < ml.length := by have := HNm.out; omega
        have hkk : k < ks.length := by have := HKl.out; omega
        obtain ⟨np, nq, hva, hnp, hnX, hnc⟩ := HNr.out k hkm
        have f0 : W0.cell? ⟨np, nq + k, none⟩ = some (.string ml[k]) := (World.cell?_of_block (a := ⟨np, nq + k, none⟩) (HNn.out np hnp hnX)).trans hnc
        have HC := Lib.hid (HFF.out ml[k] (List.getElem_mem hkm) W0 (below_step H2.out.below H2.out.below.size HBW.out))
        subst hva
        cases hv : vJ ml[k]
        case none =>
          have ho := HNo.out k hkm hv
          have HC' : Hid (Calls Tryz.prog 74 #[.pointer (some ⟨R, 0, none⟩), .agg #[.pointer (some ⟨pa, 0, none⟩), .pointer (some ⟨pb, 0, none⟩), .string x], .string ml[k]] W0 fun e w' => Below W0.heap.size W0 w' ∧ ∃ y : ByteArray, e = .returned (.tuple #[.agg #[.int .i64 0, .slice none 0 0, .slice none 0 0], .iface 100 (.agg #[.string y])])) := HC.out.mono fun e w' h => ⟨h.1, by
            rcases h.2 with ⟨r, _, _, _, _, _, _, _, h1, -⟩ | ⟨-, h1⟩
            · rw [hv] at h1; cases h1
            · exact h1⟩
          subst ho
          clear HC hv hnc HNr
          generalize ml[k] = s at *
          go_wp2_with fail
          refine HC'.out.mono ?_
          rintro e w3 ⟨hb3, y, rfl⟩
          have hz3 := hb3.size
          have hb23 : Below W2.heap.size W2 w3 := below_step HBW.out HBW.out.size hb3
          have hbA := below_alloc hb23 (.cells #[.int .i64 0, .slice none 0 0, .slice none 0 0] 26)
          obtain ⟨⟨r0, r1, r2⟩, f0', f1, f2⟩ := j3_cells ((hbA.block _ (by omega)).trans H2.out.bz)
          have HE := Lib.hid (end_none (L := L + 1) (y := y) H2.out hbA)
          clear hb3 hb23 hbA HC' f0
          go_wp2_with fail
          refine bodyPost_ret (v := .tuple #[.agg #[.int .i64 0, .slice none 0 0, .slice none 0 0], .iface 100 (.agg #[.string y])]) (by simp [results, Tryz.results53, go_sem, r0, r1, r2]) rfl ?_
          exact HE.out
        case some r =>
          have HKr := Lib.hid (HKs.out k hkm hkk r hv)
          have HAN : Hid (∀ i (h : i < ml.length), i < k + 1 → (vJ ml[i]).isSome = true) := fun i h hi => by
            by_cases hik : i < k
            · exact HAl.out i h hik
            · have e : i = k := by omega
              subst e; rw [hv]; rfl
          have HC' : Hid (Calls Tryz.prog 74 #[.pointer (some ⟨R, 0, none⟩), .agg #[.pointer (some ⟨pa, 0, none⟩), .pointer (some ⟨pb, 0, none⟩), .string x], .string ml[k]] W0 fun e w' => Below W0.heap.size W0 w' ∧ ∃ d0 da dl dc ea el ec, e = .returned (.tuple #[.agg #[.int .i64 d0, .slice da dl dc, .slice ea el ec], .nilIface]) ∧ Hid (OutAt (L + 1) r W0 w' (.int .i64 d0) (.slice da dl dc) (.slice ea el ec))) := HC.out.mono fun e w' h => ⟨h.1, by
            rcases h.2 with ⟨r', d0, da, dl, dc, ea, el, ec, h1, h2, h3⟩ | ⟨h1, -⟩
            · rw [hv] at h1; cases h1; exact ⟨d0, da, dl, dc, ea, el, ec, h2, h3⟩
            · rw [hv] at h1; cases h1⟩
          clear HC hv hnc HNr HNo HYes
          generalize ml[k] = s at *
          go_wp2_with fail
          refine HC'.out.mono ?_
          rintro e w3 ⟨hb3, d0, da, dl, dc, ea, el, ec, rfl, hO⟩
          have hz3 := hb3.size
          obtain ⟨V, hV⟩ : ∃ V, V = w3.alloc (.cells #[.int .i64 d0, .slice da dl dc, .slice ea el ec] 26) := ⟨_, rfl⟩
          have hbV : Below W0.heap.size W0 V := by rw [hV]; exact below_alloc hb3 _
          have hVb : V.heap[w3.heap.size]? = some (.cells #[.int .i64 d0, .slice da dl dc, .slice ea el ec] 26 (0, 0)) := by rw [hV]; exact heap_alloc_new _ _
          have hO2 : OutAt (L + 1) r W0 V (.int .i64 d0) (.slice da dl dc) (.slice ea el ec) := hO.out.move (fun b _ h2 => by rw [hV]; exact Below.heap_alloc _ _ _ h2) (by rw [hV]; simp) (Nat.le_refl _)
          have HO2 := Lib.hid hO2
          have HBV := Lib.hid hbV
          have hzV := hbV.size
          have hXr : X < W0.heap.size := by omega
          have hbx2 := (hbV.block X hXr).trans HL.out.box
          have HBX2 := Lib.hid hbx2
          have x2 : V.cell? ⟨X, 2, none⟩ = some (.slice ka k kc) := j3_at hbx2 2 _ rfl
          obtain ⟨⟨q0, q1, q2⟩, -⟩ := j3_cells hVb
          have HX2 : Hid (V.ownsRow wc.heap.size 26 3 (.slice ka k kc) k xs) := r1_keep HX.out (fun g' hg' => hbV.block g' (r1_lt HX.out g' hg').2)
          have V3e := Lib.hid hV
          have x2' := x2
          have q0' := q0
          have q1' := q1
          have q2' := q2
          rw [hV] at x2' q0' q1' q2'
          clear hO hO2 hbV hVb hbx2 hb3 HC' f0 x2 q0 q1 q2 i0 i1 i2 hV
          go_wp2_with (at_builtin; rw [← V3e.out]; refine wpList_append_lies _ rfl (.tmp 42) (.tmp 44) 24 rfl wc.heap.size 26 ik0 _ 3 56 Tryz.underlying24 HIK.out.1 HIK.out.2.1 HIK.out.2.2.1 HIK.out.2.2.2 rfl (by decide) (.slice ka k kc) k xs rfl (HX2.out.alloc _) ⟨V.heap.size, 0, none⟩ 1 1 [.int .i64 d0, .slice da dl dc, .slice ea el ec] (by rw [V3e.out, World.size_alloc]; rfl) rfl (World.news_of_block (heap_alloc_new V _)) (by simp [Value.oneCell']) (by decide) (by unfold maxLen; omega) (by omega) (by simp; omega) (V.heap.size + 1) (by simp) ?_; intro g2 cap2 v3 hown2 hgrow2 hat2 hlt2; refine Hid.out ?_)
          refine Lib.hid ?_
          have hb6 := ((hgrow2.block X (by simp; omega) (fun e => by have := r1_lt HX2.out _ e.symm; omega)).trans (Below.heap_alloc _ _ _ (by omega))).trans HBX2.out
          have x2'' : v3.cell? ⟨X, 2, none⟩ = some (.slice ka k kc) := by simp [World.cell?, hb6]
          have xg'' : v3.frozen? ⟨X, 2, none⟩ = false := by simp [World.frozen?, hb6]
          obtain ⟨hin, L3, L4, hs3, hs4, ho, hl⟩ := HO2.out
          rw [← HKr.out] at hin hl
          have HF : Hid (KOutLoop X (L + 1) ks 5 (.slice (some ⟨np, nq, none⟩) nm vc) wc (k + 1) (.slice (some ⟨g2, 0, none⟩) (k + 1) cap2) (v3.setCell ⟨X, 2, none⟩ (.slice (some ⟨g2, 0, none⟩) (k + 1) cap2))) :=
            kout_next (W := W0) HL.out.near hXc HL.out.box hkk HX.out HKO.out.1 HKO.out.2.1 HKO.out.2.2 rfl ⟨rfl, rfl, rfl⟩ HBV.out hin hs3 hs4 ho hl hown2 hgrow2 hat2
          clear hown2 hgrow2 hat2 hlt2 hin hs3 hs4 ho hl hb6 x2' q0' q1' q2'
          go_wp2_with fail
          go_roundw
          case rel => exact ⟨k + 1, _, by omega, by go_num, HF.out, HAN.out⟩
          case measure => simp [intOf]; omega
      · have hlti : ¬ (k : Int) < (nm : Int) := by omega
        have hkn : k = nm := by omega
        have ho := HYes.out (fun i h => HAl.out i h (by have := HNm.out; omega))
        obtain ⟨⟨r0, r1, r2⟩, f0, f1, f2⟩ := j3_cells ((HBW.out.block _ (by omega)).trans H2.out.bz)
        obtain ⟨⟨x0, x1, x2⟩, -⟩ := j3_cells HL.out.box
        have HE : Hid (Below w.heap.size w (((W0.setCell ⟨w.heap.size + 1, 0, none⟩ (.int .i64 5)).setCell ⟨w.heap.size + 1, 1, none⟩ (.slice va nm vc)).setCell ⟨w.heap.size + 1, 2, none⟩ (.slice ka k kc)) ∧ EndJ (L + 1) oo w (.returned (.tuple #[.agg #[.int .i64 5, .slice va nm vc, .slice ka k kc], .nilIface])) (((W0.setCell ⟨w.heap.size + 1, 0, none⟩ (.int .i64 5)).setCell ⟨w.heap.size + 1, 1, none⟩ (.slice va nm vc)).setCell ⟨w.heap.size + 1, 2, none⟩ (.slice ka k kc))) := by
          have h1 := HL.out
          have e1 : k = (Kd.kids t).length := by rw [HT.out.2.1]; have := HKl.out; have := HNm.out; omega
          have hp := HP.out.2.2.2
          have h3 := kout_out (v := .slice ka k kc) HST.out HT.out.2.2 rfl (by rw [HT.out.1]; have := HNm.out; omega) (by rw [HT.out.1]; exact HSm.out) (by omega) (by rw [← e1, HT.out.2.1]; exact h1)
          obtain ⟨-, g0, g1, g2, L3, L4, he, hk3, s3, s4, ho3, hl3⟩ := h3
          have he : g0 = .int .i64 5 ∧ g1 = .slice va nm vc ∧ g2 = .slice ka k kc := by
            have he : Value.agg #[.int .i64 5, .slice va nm vc, .slice ka k kc] = .agg #[g0, g1, g2] := by injection he
            simp at he
            exact ⟨he.1.symm, he.2.1.symm, he.2.2.symm⟩
          obtain ⟨rfl, rfl, rfl⟩ := he
          have hO : OutAt (L + 1 + 1) t Wp (put3 W0 Wp.heap.size 0 (.int .i64 5) (.slice va nm vc) (.slice ka k kc)) (.int .i64 5) (.slice va nm vc) (.slice ka k kc) := ⟨hk3, L3, L4, s3, s4, ho3, hl3⟩
          rw [hp] at hO
          exact ⟨j3_below (below_step H2.out.below H2.out.below.size HBW.out) (by omega), .inl ⟨t, _, _, _, _, _, _, _, ho, rfl, hO.move (w0 := w) (fun _ _ _ => rfl) (Nat.le_refl _) (by omega)⟩⟩
        clear ho hkn
        go_wp2_with fail
        refine bodyPost_ret (v := .tuple #[.agg #[.int .i64 5, .slice va nm vc, .slice ka k kc], .nilIface]) (by simp [results, Tryz.results53, go_sem, r0, r1, r2]) rfl ?_
        exact HE.out

end Go.Proofs.YtdijbjhmjamagaaGreatDoor
