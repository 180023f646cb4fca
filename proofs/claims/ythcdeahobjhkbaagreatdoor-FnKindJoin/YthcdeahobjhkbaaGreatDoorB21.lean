/-
  Several texts in one, in their order.
-/
import Derived.Test.YthcdeahobjhkbaaGreatDoorB19
import Derived.Test.YthcdeahobjhkbaaGreatDoorJA2
import Derived.Test.YthcdeahobjhkbaaGreatDoorJP3

/-
  The program's joining: of two forms, name by name.
-/
namespace Go.Proofs.YthcdeahobjhkbaaGreatDoor
open Go.RowKit

theorem mapM_none {α β : Type} (f : α → Option β) : ∀ (l : List α) (x : α), x ∈ l → f x = none → l.mapM f = none := by
  intro l
  induction l with
  | nil => intro x hx; cases hx
  | cons a r ih =>
    intro x hx hf
    rw [List.mapM_cons]
    cases ha : f a with
    | none => rfl
    | some b =>
      rcases List.mem_cons.1 hx with rfl | hx
      · rw [hf] at ha; cases ha
      · rw [ih x hx hf]; rfl

theorem mapM_all {α β : Type} (f : α → Option β) (d : β) : ∀ (l : List α), (∀ x, x ∈ l → (f x).isSome = true) → l.mapM f = some (l.map fun x => (f x).getD d) := by
  intro l
  induction l with
  | nil => intro _; rfl
  | cons a r ih =>
    intro h
    rw [List.mapM_cons, ih (fun x hx => h x (List.mem_cons_of_mem _ hx))]
    cases ha : f a with
    | none => have := h a (List.mem_cons_self ..); rw [ha] at this; cases this
    | some b => simp [ha]

theorem kst_set {n : Nat} {t : K (n + 1)} {Wp W2 W y1 : World} {N : Nat} {s : Int} {nv : Value} (hb : Below Wp.heap.size Wp W2) (hz : W2.heap.size = Wp.heap.size + 1) (hzero : W2.heap[Wp.heap.size]? = some (.cells #[.int .i64 0, .slice none 0 0, .slice none 0 0] 26 (0, 0))) (hW : Below W2.heap.size W2 y1) (hWz : W2.heap.size ≤ W.heap.size)
    (hown : y1.ownsRow W.heap.size 9 1 nv (Kd.names t).length ((Kd.names t).map .string)) (q : NewJ y1 N) (h1 : W2.heap.size ≤ N) (h2 : N < W.heap.size) :
    KOutStart n t Wp N s nv (((y1.setCell ⟨N, 0, none⟩ (.int .i64 s)).setCell ⟨N, 1, none⟩ nv).setCell ⟨N, 2, none⟩ (.slice none 0 0)) := by
  have hol := r1_lt hown
  have q : y1.heap[N]? = _ := q
  refine ⟨j3_below (below_step hb hb.size hW) (by omega), ?_, ?_, ?_, fun e => by have := hol _ e; omega, by omega⟩
  · rw [j3_other (by omega), hW.block _ (by omega)]; exact hzero
  · simp [World.setCell, Array.getElem?_modify, q]
  · exact r1_keep (owns_lower hown (by omega)) fun g hg => j3_other (by have := hol g hg; omega)

theorem kst_new {n : Nat} {t : K (n + 1)} {Wp W2 W y1 : World} {s : Int} {nv : Value} (hb : Below Wp.heap.size Wp W2) (hz : W2.heap.size = Wp.heap.size + 1) (hzero : W2.heap[Wp.heap.size]? = some (.cells #[.int .i64 0, .slice none 0 0, .slice none 0 0] 26 (0, 0))) (hW : Below W2.heap.size W2 y1) (hWz : W2.heap.size ≤ W.heap.size)
    (hown : y1.ownsRow W.heap.size 9 1 nv (Kd.names t).length ((Kd.names t).map .string)) :
    KOutStart n t Wp y1.heap.size s nv (y1.alloc (.cells #[.int .i64 s, nv, .slice none 0 0] 26)) := by
  have hol := r1_lt hown
  have hzy := hW.size
  refine ⟨below_alloc (below_step hb hb.size hW) _, ?_, heap_alloc_new _ _, ?_, fun e => by have := hol _ e; omega, by omega⟩
  · rw [Below.heap_alloc _ _ _ (by omega), hW.block _ (by omega)]; exact hzero
  · exact (owns_lower hown (by omega)).alloc _

set_option maxRecDepth 20000 in
set_option maxHeartbeats 8000000 in
theorem ofForms_j (L : Nat) (vJ : ByteArray → Option (K (L + 1))) (S : Nat → Prop) (la lb ml : List ByteArray) (na nb : Option Addr) (nac nbc R pa pb : Nat) (x : ByteArray) (w : World) (ha : w.cell? ⟨pa, 1, none⟩ = some (.slice na la.length nac)) (hb : w.cell? ⟨pb, 1, none⟩ = some (.slice nb lb.length nbc)) (hpa : pa < w.heap.size) (hpb : pb < w.heap.size) (hA : StrsIn S w la (.slice na la.length nac)) (hBb : StrsIn S w lb (.slice nb lb.length nbc)) (hB : ∀ b, S b → b < w.heap.size) (hla : la.length ≤ 39) (hlb : lb.length ≤ 39) (hsa : ∀ s, s ∈ la → s.size ≤ 10000) (hsb : ∀ s, s ∈ lb → s.size ≤ 10000) (haa : Asc la) (hab : Asc lb) (hml : merN (la.length + lb.length) la lb = ml)
    (HF : ∀ s, s ∈ ml → ∀ W, Below w.heap.size w W → Calls Tryz.prog 57 #[.pointer (some ⟨R, 0, none⟩), .agg #[.pointer (some ⟨pa, 0, none⟩), .pointer (some ⟨pb, 0, none⟩), .string x], .string s] W fun e w' => Below W.heap.size W w' ∧ EndJ L (vJ s) W e w') (oo : Option (K (L + 1 + 1))) (hoo : oo = (ml.mapM vJ).map fun ks => (⟨5, ml, ks⟩ : Kd (K (L + 1)))) :
    Calls Tryz.prog 37 #[.pointer (some ⟨R, 0, none⟩), .agg #[.pointer (some ⟨pa, 0, none⟩), .pointer (some ⟨pb, 0, none⟩), .string x]] w fun e w' => Below w.heap.size w w' ∧ EndJ (L + 1) oo w e w' := by
  have hlm : ml.length ≤ 78 := by
    have h1 := Lib.compact_length_le (((la ++ lb).map (·.data.toList)).mergeSort fun x y => decide (x ≤ y))
    rw [List.length_mergeSort, List.length_map, List.length_append] at h1
    rw [← hml, ← sorted_names la lb haa hab, List.length_map]
    omega
  have hsm : ∀ s, s ∈ ml → s.size ≤ 10000 := fun s hs => by
    rw [← hml] at hs
    exact ((merN_mem _ la lb (Nat.le_refl _) s).1 hs).elim (hsa s) (hsb s)
  obtain ⟨ks, hks⟩ : ∃ ks : List (K (L + 1)), ks = ml.map fun s => (vJ s).getD (⟨0, [], []⟩ : Kd (K L)) := ⟨_, rfl⟩
  have hkl : ks.length = ml.length := by rw [hks, List.length_map]
  have HKs : Hid (∀ i (h : i < ml.length) (h' : i < ks.length) r, vJ ml[i] = some r → ks[i] = r) := fun i h h' r hr => by
    have e : ks[i] = (vJ ml[i]).getD (⟨0, [], []⟩ : Kd (K L)) := by simp [hks]
    rw [e, hr]; rfl
  obtain ⟨t, ht⟩ : ∃ t : K (L + 1 + 1), t = (⟨5, ml, ks⟩ : Kd (K (L + 1))) := ⟨_, rfl⟩
  have HYes : Hid ((∀ i (h : i < ml.length), (vJ ml[i]).isSome = true) → oo = some t) := fun h => by
    rw [ht, hoo, mapM_all vJ (⟨0, [], []⟩ : Kd (K L)) ml (fun s hs => by obtain ⟨i, hi, rfl⟩ := List.getElem_of_mem hs; exact h i hi), hks]; rfl
  have HNo : Hid (∀ i (h : i < ml.length), vJ ml[i] = none → oo = none) := fun i h hn => by
    rw [hoo, mapM_none vJ ml _ (List.getElem_mem h) hn]; rfl
  have HT : Hid (Kd.names t = ml ∧ Kd.kids t = ks ∧ Kd.sort t = 5) := by rw [ht]; exact ⟨rfl, rfl, rfl⟩
  obtain ⟨Wp, hWp⟩ : ∃ Wp, Wp = w.alloc (.cells #[.pointer (some ⟨pa, 0, none⟩), .pointer (some ⟨pb, 0, none⟩), .string x] 43) := ⟨_, rfl⟩
  obtain ⟨W2, hW2⟩ : ∃ W2, W2 = Wp.alloc (.cells #[.int .i64 0, .slice none 0 0, .slice none 0 0] 26) := ⟨_, rfl⟩
  have h2 : TwoP w W2 pa pb x := by rw [hW2, hWp]; exact two_at _ _ _ _
  have hzp : Wp.heap.size = w.heap.size + 1 := by rw [hWp]; simp
  have hbp : Below Wp.heap.size Wp W2 := by rw [hW2]; exact (Below.refl _ _).alloc (Nat.le_refl _) _
  have HP : Hid (Below Wp.heap.size Wp W2 ∧ W2.heap.size = Wp.heap.size + 1 ∧ W2.heap[Wp.heap.size]? = some (.cells #[.int .i64 0, .slice none 0 0, .slice none 0 0] 26 (0, 0)) ∧ Wp.heap.size = w.heap.size + 1) := ⟨hbp, by rw [hW2]; simp, by rw [hW2]; exact heap_alloc_new _ _, hzp⟩
  have H2 := Lib.hid h2
  have hz2 := h2.size
  have hza : w.heap.size + 2 ≤ W2.heap.size := Nat.le_of_eq hz2.symm
  have HS : Hid (∀ W, Below W2.heap.size W2 W → (W.cell? ⟨w.heap.size, 0, none⟩ = some (.pointer (some ⟨pa, 0, none⟩)) ∧ W.cell? ⟨w.heap.size, 1, none⟩ = some (.pointer (some ⟨pb, 0, none⟩)) ∧ W.cell? ⟨w.heap.size, 2, none⟩ = some (.string x)) ∧ W.cell? ⟨pa, 1, none⟩ = some (.slice na la.length nac) ∧ W.cell? ⟨pb, 1, none⟩ = some (.slice nb lb.length nbc)) := fun W hW => by
    have hbw := below_step h2.below h2.below.size hW
    exact ⟨h2.cells hW, (hbw.cell (p := ⟨pa, 1, none⟩) hpa).trans ha, (hbw.cell (p := ⟨pb, 1, none⟩) hpb).trans hb⟩
  have HAN : Hid (∀ W, Below W2.heap.size W2 W → Calls Tryz.prog 56 #[.slice na la.length nac, .slice nb lb.length nbc] W fun e w' => ∃ va vc, e = .returned (.slice va ml.length vc) ∧ w'.ownsRow W.heap.size 9 1 (.slice va ml.length vc) (Kd.names t).length ((Kd.names t).map .string) ∧ (W2.heap.size ≤ W.heap.size ∧ Below W2.heap.size W2 w') ∧ ∀ N, NewJ W N → NewJ w' N ∧ N < W.heap.size) := fun W hW => by
    have hbw := below_step h2.below h2.below.size hW
    refine (allNames_any S la lb _ _ W (hA.keep (same_below hbw hB) (fun _ h => h)) (hBb.keep (same_below hbw hB) (fun _ h => h)) (fun b hb => Nat.lt_of_lt_of_le (hB b hb) hbw.size) (by omega) (by omega) hsa hsb haa hab).mono ?_
    rintro e w' ⟨v', rfl, hown, hb'⟩
    rw [hml] at hown
    obtain ⟨va, vc, rfl⟩ := r1_shape hown
    exact ⟨va, vc, rfl, by rw [HT.out.1]; exact hown, ⟨hW.size, below_step hW hW.size hb'⟩, fun N q => ⟨q.keep hb', q.lt⟩⟩
  have HFF := Lib.hid HF
  have HSm := Lib.hid hsm
  have HKl := Lib.hid hkl
  have hd0 : Below W2.heap.size W2 W2.drew := (Below.refl _ _).drew
  have n0 : ¬ W2.heap.size = w.heap.size := by omega
  have n1 : ¬ W2.heap.size = pa := by omega
  have n2 : ¬ W2.heap.size = pb := by omega
  obtain ⟨⟨i0, i1, i2⟩, j1, j2⟩ := HS.out W2 (Below.refl _ _)
  have w2e : W2 = (w.alloc (.cells #[.pointer (some ⟨pa, 0, none⟩), .pointer (some ⟨pb, 0, none⟩), .string x] 43)).alloc (.cells #[.int .i64 0, .slice none 0 0, .slice none 0 0] 26) := by rw [hW2, hWp]
  obtain ⟨la', hla'⟩ : ∃ n, la.length = n := ⟨_, rfl⟩
  obtain ⟨lb', hlb'⟩ : ∃ n, lb.length = n := ⟨_, rfl⟩
  obtain ⟨nm, hnm⟩ : ∃ n, ml.length = n := ⟨_, rfl⟩
  have HNm : Hid (ml.length = nm) := hnm
  rw [hla'] at HS HAN j1
  rw [hlb'] at HS HAN j2
  rw [hnm] at HAN hlm
  clear hA hBb hB hsa hsb haa hab hml hsm hks hoo ht h2 hz2 hzp hbp hW2 hWp ha hb HF hla hlb hkl hla' hlb' hnm
  obtain ⟨ik0, hi0, hy0, hy1, hyb⟩ := info_parts Tryz.info_kindO
  have HIK : Hid (_ ∧ _ ∧ _ ∧ _) := ⟨hi0, hy0, hy1, hyb⟩
  clear hi0 hy0 hy1 hyb
  go_enter Tryz.func37, Tryz.ntmps37
  go_upto_region 1 with fail
  rw [← w2e]
  clear w2e
  go_cut [6] from 11 to 48 (fun pv wx => ∃ (X : Nat) (va : Option Addr) (vc : Nat), pv = .pointer (some ⟨X, 0, none⟩) ∧ KOutStart (L + 1) t Wp X 5 (.slice va nm vc) wx ∧ Below W2.heap.size W2 wx ∧ W2.heap.size ≤ X)
  case first =>
    go_region_held (fun W => (W.cell? ⟨w.heap.size, 0, none⟩ = some (.pointer (some ⟨pa, 0, none⟩)) ∧ W.cell? ⟨w.heap.size, 1, none⟩ = some (.pointer (some ⟨pb, 0, none⟩)) ∧ W.cell? ⟨w.heap.size, 2, none⟩ = some (.string x)) ∧ W.cell? ⟨pa, 1, none⟩ = some (.slice na la' nac) ∧ W.cell? ⟨pb, 1, none⟩ = some (.slice nb lb' nbc)) (first | with_reducible assumption | go_keep) (first
      | (go_at_call 56; refine (HAN.out _ (by (first | with_reducible assumption | (with_reducible refine below_alloc ?_ _; with_reducible assumption) | (with_reducible refine below_allocD ?_ _; with_reducible assumption)))).mono ?_; rintro e y1 ⟨va, vc, rfl, hown1, ⟨hW1, hy1⟩, hq1⟩; obtain ⟨⟨ic0, ic1, ic2⟩, jc1, jc2⟩ := HS.out y1 hy1; have hzc := hy1.size; have m0 : ¬ y1.heap.size = w.heap.size := (by omega); have m1 : ¬ y1.heap.size = pa := (by omega); have m2 : ¬ y1.heap.size = pb := (by omega); (first | with_reducible (have q := hq1 _ (newJ_at _)) | with_reducible (have q := hq1 _ (newJ_atD _)) | with_reducible (have q := hq1 _ q) | skip); (first | (obtain ⟨q, hN⟩ := q; obtain ⟨⟨r0, r1, r2⟩, f0, f1, f2⟩ := j3_cells q) | skip)))
    all_goals
      go_wp2_with fail
      go_meet
      first
        | with_reducible exact ⟨_, _, _, rfl, kst_set HP.out.1 HP.out.2.1 HP.out.2.2.1 hy1 hW1 hown1 q (by omega) hN, j3_below hy1 (by omega), by omega⟩
        | with_reducible exact ⟨_, _, _, rfl, kst_new HP.out.1 HP.out.2.1 HP.out.2.2.1 hy1 hW1 hown1, below_alloc hy1 _, hzc⟩
  case rest =>
    obtain ⟨X, va, vc, rfl, hST, hbc, hXg⟩ := hcut
    have HST := Lib.hid hST
    have HBc := Lib.hid hbc
    have hXc : X < wc.heap.size := (Array.getElem?_eq_some_iff.1 hST.box).1
    have hzc := hbc.size
    have HNr : Hid (∀ i (hi : i < ml.length), ∃ p o, va = some ⟨p, o, none⟩ ∧ p < wc.heap.size ∧ p ≠ X ∧ wc.cell? ⟨p, o + i, none⟩ = some (.string ml[i])) := fun i hi => by
      have hn := hST.names
      rw [HT.out.1] at hn
      obtain ⟨ao, cp, he, -, -, hc⟩ := strs_of_ownsK (S := fun b => b < wc.heap.size ∧ b ≠ X) hn (by have := HNm.out; omega) HSm.out (fun g hg => ⟨(r1_lt hn g hg).2, fun e => hST.far (by rw [← e]; exact hg)⟩)
      obtain ⟨b, off, hao, hb, hcell⟩ := hc (fun e => by rw [e] at hi; simp at hi)
      have hva : va = ao := by simpa using congrArg (fun v => match v with | Value.slice a _ _ => a | _ => none) he
      exact ⟨b, off, hva.trans hao, hb.1, hb.2, hcell i hi⟩
    obtain ⟨⟨x0, x1, x2⟩, -⟩ := j3_cells hST.box
    clear hST hbc i0 i1 i2 j1 j2 HAN hd0 n0 n1 n2
    go_wp2_with fail
    clear x0 x1 x2
    go_loopw [26] (fun iv wr => ∃ (k : Nat) (v : Value), k ≤ nm ∧ iv = .int .i64 k ∧ KOutLoop X (L + 1) ks 5 (.slice va nm vc) wc k v wr ∧ ∀ i (h : i < ml.length), i < k → (vJ ml[i]).isSome = true) (fun iv _ => nm - (intOf iv).toNat)
    case atStart => exact ⟨0, .slice none 0 0, Nat.zero_le _, rfl, ⟨Near.refl _ _, HST.out.box, [], [], World.ownsRow_nil _ _ _ _, rfl, ⟨Own.nil _, fun j _ hp => absurd hp (Nat.not_lt_zero _)⟩, by simp [sumL]⟩, fun i _ h => absurd h (Nat.not_lt_zero _)⟩
    case round =>
      obtain ⟨k, v, hk, rfl, hL, hall⟩ := hrel
      obtain ⟨W0, hW0⟩ : ∃ W0, W0 = wr := ⟨_, rfl⟩
      rw [← hW0] at hL ⊢
      clear hW0
      obtain ⟨xs, Ps, hown, hpl, hko, hln⟩ := hL.row
      obtain ⟨ka, kc, rfl⟩ := r1_shape hown
      have hnr := hL.near
      have hzr := hnr.size
      have HL := Lib.hid hL
      have HAl := Lib.hid hall
      have HX : Hid (W0.ownsRow wc.heap.size 26 3 (.slice ka k kc) k xs) := hown
      have HKO := Lib.hid (And.intro hpl (And.intro hko hln))
      have hbW : Below W2.heap.size W2 W0 := ⟨hnr.os.trans HBc.out.os, hnr.tape.trans HBc.out.tape, hnr.output.trans HBc.out.output, by omega, fun b hb => (hnr.block b (by omega) (by omega)).trans (HBc.out.block b hb)⟩
      have HBW := Lib.hid hbW
      obtain ⟨⟨i0, i1, i2⟩, -⟩ := HS.out W0 hbW
      have HNn : Hid (∀ b, b < wc.heap.size → b ≠ X → W0.heap[b]? = wc.heap[b]?) := hnr.block
      clear hL hall hown hpl hko hln hnr hbW
      by_cases hlt : k < nm
      · have hlti : (k : Int) < (nm : Int) := by omega
        have hkm : k < ml.length := by have := HNm.out; omega
        have hkk : k < ks.length := by have := HKl.out; omega
        obtain ⟨np, nq, hva, hnp, hnX, hnc⟩ := HNr.out k hkm
        have f0 : W0.cell? ⟨np, nq + k, none⟩ = some (.string ml[k]) := (World.cell?_of_block (a := ⟨np, nq + k, none⟩) (HNn.out np hnp hnX)).trans hnc
        have HC := Lib.hid (HFF.out ml[k] (List.getElem_mem hkm) W0 (below_step H2.out.below H2.out.below.size HBW.out))
        subst hva
        cases hv : vJ ml[k]
        case none =>
          have ho := HNo.out k hkm hv
          have HC' : Hid (Calls Tryz.prog 57 #[.pointer (some ⟨R, 0, none⟩), .agg #[.pointer (some ⟨pa, 0, none⟩), .pointer (some ⟨pb, 0, none⟩), .string x], .string ml[k]] W0 fun e w' => Below W0.heap.size W0 w' ∧ ∃ y : ByteArray, e = .returned (.tuple #[.agg #[.int .i64 0, .slice none 0 0, .slice none 0 0], .iface 87 (.agg #[.string y])])) := HC.out.mono fun e w' h => ⟨h.1, by
            rcases h.2 with ⟨r, _, _, _, _, _, _, _, h1, -⟩ | ⟨-, h1⟩
            · rw [hv] at h1; cases h1
            · exact h1⟩
          subst ho
          clear HC hv hnc HNr
          generalize ml[k] = s at *
          go_wp2_with fail
          refine HC'.out.mono ?_
          rintro e w3 ⟨hb3, y, rfl⟩
          have hz3 := hb3.size
          have hb23 : Below W2.heap.size W2 w3 := below_step HBW.out HBW.out.size hb3
          have hbA := below_alloc hb23 (.cells #[.int .i64 0, .slice none 0 0, .slice none 0 0] 26)
          obtain ⟨⟨r0, r1, r2⟩, f0', f1, f2⟩ := j3_cells ((hbA.block _ (by omega)).trans H2.out.bz)
          have HE := Lib.hid (end_none (L := L + 1) (y := y) H2.out hbA)
          clear hb3 hb23 hbA HC' f0
          go_wp2_with fail
          refine bodyPost_ret (v := .tuple #[.agg #[.int .i64 0, .slice none 0 0, .slice none 0 0], .iface 87 (.agg #[.string y])]) (by simp [results, Tryz.results37, go_sem, r0, r1, r2]) rfl ?_
          exact HE.out
        case some r =>
          have HKr := Lib.hid (HKs.out k hkm hkk r hv)
          have HAN : Hid (∀ i (h : i < ml.length), i < k + 1 → (vJ ml[i]).isSome = true) := fun i h hi => by
            by_cases hik : i < k
            · exact HAl.out i h hik
            · have e : i = k := by omega
              subst e; rw [hv]; rfl
          have HC' : Hid (Calls Tryz.prog 57 #[.pointer (some ⟨R, 0, none⟩), .agg #[.pointer (some ⟨pa, 0, none⟩), .pointer (some ⟨pb, 0, none⟩), .string x], .string ml[k]] W0 fun e w' => Below W0.heap.size W0 w' ∧ ∃ d0 da dl dc ea el ec, e = .returned (.tuple #[.agg #[.int .i64 d0, .slice da dl dc, .slice ea el ec], .nilIface]) ∧ Hid (OutAt (L + 1) r W0 w' (.int .i64 d0) (.slice da dl dc) (.slice ea el ec))) := HC.out.mono fun e w' h => ⟨h.1, by
            rcases h.2 with ⟨r', d0, da, dl, dc, ea, el, ec, h1, h2, h3⟩ | ⟨h1, -⟩
            · rw [hv] at h1; cases h1; exact ⟨d0, da, dl, dc, ea, el, ec, h2, h3⟩
            · rw [hv] at h1; cases h1⟩
          clear HC hv hnc HNr HNo HYes
          generalize ml[k] = s at *
          go_wp2_with fail
          refine HC'.out.mono ?_
          rintro e w3 ⟨hb3, d0, da, dl, dc, ea, el, ec, rfl, hO⟩
          have hz3 := hb3.size
          obtain ⟨V, hV⟩ : ∃ V, V = w3.alloc (.cells #[.int .i64 d0, .slice da dl dc, .slice ea el ec] 26) := ⟨_, rfl⟩
          have hbV : Below W0.heap.size W0 V := by rw [hV]; exact below_alloc hb3 _
          have hVb : V.heap[w3.heap.size]? = some (.cells #[.int .i64 d0, .slice da dl dc, .slice ea el ec] 26 (0, 0)) := by rw [hV]; exact heap_alloc_new _ _
          have hO2 : OutAt (L + 1) r W0 V (.int .i64 d0) (.slice da dl dc) (.slice ea el ec) := hO.out.move (fun b _ h2 => by rw [hV]; exact Below.heap_alloc _ _ _ h2) (by rw [hV]; simp) (Nat.le_refl _)
          have HO2 := Lib.hid hO2
          have HBV := Lib.hid hbV
          have hzV := hbV.size
          have hXr : X < W0.heap.size := by omega
          have hbx2 := (hbV.block X hXr).trans HL.out.box
          have HBX2 := Lib.hid hbx2
          have x2 : V.cell? ⟨X, 2, none⟩ = some (.slice ka k kc) := j3_at hbx2 2 _ rfl
          obtain ⟨⟨q0, q1, q2⟩, -⟩ := j3_cells hVb
          have HX2 : Hid (V.ownsRow wc.heap.size 26 3 (.slice ka k kc) k xs) := r1_keep HX.out (fun g' hg' => hbV.block g' (r1_lt HX.out g' hg').2)
          have V3e := Lib.hid hV
          have x2' := x2
          have q0' := q0
          have q1' := q1
          have q2' := q2
          rw [hV] at x2' q0' q1' q2'
          clear hO hO2 hbV hVb hbx2 hb3 HC' f0 x2 q0 q1 q2 i0 i1 i2 hV
          go_wp2_with (at_builtin; rw [← V3e.out]; refine wpList_append_lies _ rfl (.tmp 42) (.tmp 44) 24 rfl wc.heap.size 26 ik0 _ 3 56 Tryz.underlying24 HIK.out.1 HIK.out.2.1 HIK.out.2.2.1 HIK.out.2.2.2 rfl (by decide) (.slice ka k kc) k xs rfl (HX2.out.alloc _) ⟨V.heap.size, 0, none⟩ 1 1 [.int .i64 d0, .slice da dl dc, .slice ea el ec] (by rw [V3e.out, World.size_alloc]; rfl) rfl (World.news_of_block (heap_alloc_new V _)) (by simp [Value.oneCell']) (by decide) (by unfold maxLen; omega) (by omega) (by simp; omega) (V.heap.size + 1) (by simp) ?_; intro g2 cap2 v3 hown2 hgrow2 hat2 hlt2; refine Hid.out ?_)
          refine Lib.hid ?_
          have hb6 := ((hgrow2.block X (by simp; omega) (fun e => by have := r1_lt HX2.out _ e.symm; omega)).trans (Below.heap_alloc _ _ _ (by omega))).trans HBX2.out
          have x2'' : v3.cell? ⟨X, 2, none⟩ = some (.slice ka k kc) := by simp [World.cell?, hb6]
          have xg'' : v3.frozen? ⟨X, 2, none⟩ = false := by simp [World.frozen?, hb6]
          obtain ⟨hin, L3, L4, hs3, hs4, ho, hl⟩ := HO2.out
          rw [← HKr.out] at hin hl
          have HF : Hid (KOutLoop X (L + 1) ks 5 (.slice (some ⟨np, nq, none⟩) nm vc) wc (k + 1) (.slice (some ⟨g2, 0, none⟩) (k + 1) cap2) (v3.setCell ⟨X, 2, none⟩ (.slice (some ⟨g2, 0, none⟩) (k + 1) cap2))) :=
            kout_next (W := W0) HL.out.near hXc HL.out.box hkk HX.out HKO.out.1 HKO.out.2.1 HKO.out.2.2 rfl ⟨rfl, rfl, rfl⟩ HBV.out hin hs3 hs4 ho hl hown2 hgrow2 hat2
          clear hown2 hgrow2 hat2 hlt2 hin hs3 hs4 ho hl hb6 x2' q0' q1' q2'
          go_wp2_with fail
          go_roundw
          case rel => exact ⟨k + 1, _, by omega, by go_num, HF.out, HAN.out⟩
          case measure => simp [intOf]; omega
      · have hlti : ¬ (k : Int) < (nm : Int) := by omega
        have hkn : k = nm := by omega
        have ho := HYes.out (fun i h => HAl.out i h (by have := HNm.out; omega))
        obtain ⟨⟨r0, r1, r2⟩, f0, f1, f2⟩ := j3_cells ((HBW.out.block _ (by omega)).trans H2.out.bz)
        obtain ⟨⟨x0, x1, x2⟩, -⟩ := j3_cells HL.out.box
        have HE : Hid (Below w.heap.size w (((W0.setCell ⟨w.heap.size + 1, 0, none⟩ (.int .i64 5)).setCell ⟨w.heap.size + 1, 1, none⟩ (.slice va nm vc)).setCell ⟨w.heap.size + 1, 2, none⟩ (.slice ka k kc)) ∧ EndJ (L + 1) oo w (.returned (.tuple #[.agg #[.int .i64 5, .slice va nm vc, .slice ka k kc], .nilIface])) (((W0.setCell ⟨w.heap.size + 1, 0, none⟩ (.int .i64 5)).setCell ⟨w.heap.size + 1, 1, none⟩ (.slice va nm vc)).setCell ⟨w.heap.size + 1, 2, none⟩ (.slice ka k kc))) := by
          have h1 := HL.out
          have e1 : k = (Kd.kids t).length := by rw [HT.out.2.1]; have := HKl.out; have := HNm.out; omega
          have hp := HP.out.2.2.2
          have h3 := kout_out (v := .slice ka k kc) HST.out HT.out.2.2 rfl (by rw [HT.out.1]; have := HNm.out; omega) (by rw [HT.out.1]; exact HSm.out) (by omega) (by rw [← e1, HT.out.2.1]; exact h1)
          obtain ⟨-, g0, g1, g2, L3, L4, he, hk3, s3, s4, ho3, hl3⟩ := h3
          have he : g0 = .int .i64 5 ∧ g1 = .slice va nm vc ∧ g2 = .slice ka k kc := by
            have he : Value.agg #[.int .i64 5, .slice va nm vc, .slice ka k kc] = .agg #[g0, g1, g2] := by injection he
            simp at he
            exact ⟨he.1.symm, he.2.1.symm, he.2.2.symm⟩
          obtain ⟨rfl, rfl, rfl⟩ := he
          have hO : OutAt (L + 1 + 1) t Wp (put3 W0 Wp.heap.size 0 (.int .i64 5) (.slice va nm vc) (.slice ka k kc)) (.int .i64 5) (.slice va nm vc) (.slice ka k kc) := ⟨hk3, L3, L4, s3, s4, ho3, hl3⟩
          rw [hp] at hO
          exact ⟨j3_below (below_step H2.out.below H2.out.below.size HBW.out) (by omega), .inl ⟨t, _, _, _, _, _, _, _, ho, rfl, hO.move (w0 := w) (fun _ _ _ => rfl) (Nat.le_refl _) (by omega)⟩⟩
        clear ho hkn
        go_wp2_with fail
        refine bodyPost_ret (v := .tuple #[.agg #[.int .i64 5, .slice va nm vc, .slice ka k kc], .nilIface]) (by simp [results, Tryz.results37, go_sem, r0, r1, r2]) rfl ?_
        exact HE.out

end Go.Proofs.YthcdeahobjhkbaaGreatDoor

/-
  The program's joining, of any two good schemas.
-/
namespace Go.Proofs.YthcdeahobjhkbaaGreatDoor
open Go.RowKit

/-- What stands at a name of a row. -/
theorem atN_zip {α : Type} : ∀ (l : List ByteArray) (xs : List α) (i : Nat) (h : i < l.length) (h' : i < xs.length), Asc l → atN (l.zip xs) l[i] = some xs[i] := by
  intro l
  induction l with
  | nil => intro xs i h; exact absurd h (Nat.not_lt_zero _)
  | cons s r ih =>
    intro xs i h h' ha
    cases xs with
    | nil => exact absurd h' (Nat.not_lt_zero _)
    | cons y ys =>
      cases i with
      | zero => exact atN_head s y _
      | succ i =>
        have hr : i < r.length := by simpa using h
        have hy : i < ys.length := by simpa using h'
        have hs : s ≠ r[i] := lt_ne ((List.pairwise_cons.1 ha).1 _ (List.getElem_mem _))
        show atN ((s, y) :: r.zip ys) r[i] = some ys[i]
        rw [atN_tail y _ hs]
        exact ih ys i hr hy (List.pairwise_cons.1 ha).2

theorem atN_out {α : Type} (l : List ByteArray) (xs : List α) (s : ByteArray) (h : s ∉ l) : atN (l.zip xs) s = none := by
  refine atN_none _ _ fun hm => h ?_
  obtain ⟨p, hp, rfl⟩ := List.mem_map.1 hm
  exact (List.of_mem_zip hp).1

theorem mapM_at {γ : Type} (v : ByteArray → Option γ) : ∀ (l : List ByteArray), ((l.mapM fun s => (v s).map fun z => (s, z)).map fun q => (q.map Prod.fst, q.map Prod.snd)) = (l.mapM v).map fun ks => (l, ks) := by
  intro l
  induction l with
  | nil => rfl
  | cons a r ih =>
    rw [List.mapM_cons, List.mapM_cons]
    cases ha : v a with
    | none => rfl
    | some z =>
      cases h1 : (r.mapM fun s => (v s).map fun z => (s, z)) with
      | none =>
        cases h2 : r.mapM v with
        | none => rfl
        | some ks => rw [h1, h2] at ih; cases ih
      | some q =>
        cases h2 : r.mapM v with
        | none => rw [h1, h2] at ih; cases ih
        | some ks =>
          rw [h1, h2] at ih
          have ih : (q.map Prod.fst, q.map Prod.snd) = (r, ks) := by simpa using ih
          have e1 := congrArg Prod.fst ih
          have e2 := congrArg Prod.snd ih
          simp only at e1 e2
          simp [e1, e2]

theorem sort_natJ {n : Nat} {k : K (n + 1)} {d : Int} (h : goodK (n + 1) k d = true) : ∃ i : Nat, 1 ≤ i ∧ i ≤ 6 ∧ Kd.sort k = (i : Int) := by
  rcases goodK_kids h with ⟨h | h | h, -⟩ | ⟨h | h, -⟩ | ⟨h, -⟩
  · exact ⟨1, by omega, by omega, h⟩
  · exact ⟨2, by omega, by omega, h⟩
  · exact ⟨3, by omega, by omega, h⟩
  · exact ⟨4, by omega, by omega, h⟩
  · exact ⟨6, by omega, by omega, h⟩
  · exact ⟨5, by omega, by omega, h⟩

theorem j_kid_of {n : Nat} {k : K (n + 1)} {d : Int} (h : goodK (n + 1) k d = true) (hs : Kd.sort k = 6 ∨ Kd.sort k = 4) : ∃ x, Kd.kids k = [x] := by
  rcases goodK_kids h with ⟨h', -⟩ | ⟨-, -, h'⟩ | ⟨h', -⟩
  · omega
  · exact h'
  · omega

/-- The one kid, inside. -/
theorem in_kid {S : Nat → Prop} {w : World} {n : Nat} {k : K (n + 1)} {x : K n} {p : Nat} (h : InnerK S w (n + 1) k (.pointer (some ⟨p, 0, none⟩))) (hx : Kd.kids k = [x]) :
    ∃ g o cap q, (S g ∧ w.cell? ⟨p, 3, none⟩ = some (.slice (some ⟨g, o, none⟩) 1 cap) ∧ w.cell? ⟨g, o, none⟩ = some (.pointer (some ⟨q, 0, none⟩))) ∧ InnerK S w n x (.pointer (some ⟨q, 0, none⟩)) := by
  obtain ⟨pp, nv, pv, kv, he, hS, hcell, -, -, hr⟩ := h
  cases he
  rw [hx] at hr
  obtain ⟨ao, cap, rfl, -, hr⟩ := hr
  obtain ⟨g, o, rfl, hSg, hr⟩ := hr (by simp)
  obtain ⟨c, e, hin⟩ := hr 0 (by simp)
  simp only [List.getElem_cons_zero] at hin
  obtain ⟨q, rfl, -⟩ := id hin.ptr
  exact ⟨g, o, cap, q, ⟨hSg, by simp [World.cell?, hcell], by simpa using e⟩, hin⟩

theorem in_sort {S : Nat → Prop} {w : World} {n : Nat} {k : K (n + 1)} {p : Nat} (h : InnerK S w (n + 1) k (.pointer (some ⟨p, 0, none⟩))) : S p ∧ w.cell? ⟨p, 0, none⟩ = some (.int .i64 (Kd.sort k)) := by
  obtain ⟨pp, nv, pv, kv, he, hS, hcell, -⟩ := h
  cases he
  exact ⟨hS, by simp [World.cell?, hcell]⟩

theorem pathJ {x s : ByteArray} {a b : Int} (h : (x.size : Int) ≤ 20 * (a + b)) (hs : s.size ≤ 8) : ((pathTo x s).size : Int) ≤ 20 * (a + b + 1) := by
  rw [pathTo_size]; omega

end Go.Proofs.YthcdeahobjhkbaaGreatDoor

/-
  The program's joining: the step from schemas of L + 1 levels to one more.
-/
namespace Go.Proofs.YthcdeahobjhkbaaGreatDoor
open Go.RowKit

theorem jI_maybe (L : Nat) (hJ : JoinISaid L) (S : Nat → Prop) (n m : Nat) (a : K (n + 1)) (b : K (m + 1)) (pa pb : Nat) (d d' : Int) (R : Nat) (x : ByteArray) (w : World) (hL : n + 1 + (m + 1) ≤ L + 1) (ha : InnerK S w (n + 1) a (.pointer (some ⟨pa, 0, none⟩))) (hb : InnerK S w (m + 1) b (.pointer (some ⟨pb, 0, none⟩))) (hB : ∀ b, S b → b < w.heap.size) (hT : TabJ w R) (hR : R < w.heap.size)
    (hga : goodK (n + 1) a d = true) (hgb : goodK (m + 1) b d' = true) (hca : cntK (n + 1) a ≤ 40) (hcb : cntK (m + 1) b ≤ 40) (hd : 1 ≤ d) (hd' : 1 ≤ d') (hx : (x.size : Int) ≤ 20 * (d + d')) (h6 : Kd.sort a = 6 ∨ Kd.sort b = 6) :
    Calls Tryz.prog 38 #[.pointer (some ⟨R, 0, none⟩), .agg #[.pointer (some ⟨pa, 0, none⟩), .pointer (some ⟨pb, 0, none⟩), .string x]] w fun e w' => Below w.heap.size w w' ∧ EndJ (L + 1) (jnL (L + 1) (n + 1) a (m + 1) b) w e w' := by
  have hda : d ≤ 6 := by have h := hga; simp only [goodK, Bool.and_eq_true, decide_eq_true_eq] at h; exact h.1.1
  have hdb : d' ≤ 6 := by have h := hgb; simp only [goodK, Bool.and_eq_true, decide_eq_true_eq] at h; exact h.1.1
  have hx5 : x.size ≤ 100000 := by omega
  have hs1 : (⟨#[63]⟩ : ByteArray).size ≤ 8 := by decide
  have hfa := (few_of_good hga hca).2.2.2
  have hfb := (few_of_good hgb hcb).2.2.2
  obtain ⟨hSa, ca⟩ := in_sort ha
  obtain ⟨hSb, cb⟩ := in_sort hb
  have hla := hB pa hSa
  have hlb := hB pb hSb
  have hp := pathJ (s := ⟨#[63]⟩) hx hs1
  have key : ∀ {W : World}, Below w.heap.size w W → Same S w W ∧ (∀ b, S b → b < W.heap.size) ∧ TabJ W R ∧ R < W.heap.size := fun hW => ⟨same_below hW hB, fun b hb => Nat.lt_of_lt_of_le (hB b hb) hW.size, hT.keep (hW.block R hR), Nat.lt_of_lt_of_le hR hW.size⟩
  by_cases h6a : Kd.sort a = 6
  · obtain ⟨kx, hkx⟩ := j_kid_of hga (.inl h6a)
    obtain ⟨g, o, cap, q, ⟨hSg, c3, cq⟩, hin⟩ := in_kid ha hkx
    have hgx := hfa kx (by rw [hkx]; exact List.mem_cons_self ..)
    have hlg := hB g hSg
    rw [h6a] at ca
    have HWa : ∀ W, Below w.heap.size w W → Calls Tryz.prog 58 #[.pointer (some ⟨pa, 0, none⟩)] W fun e w' => e = .returned (.pointer (some ⟨q, 0, none⟩)) ∧ w' = W := fun W hW =>
      withoutMaybe_yes W pa g o cap q ((hW.cell (p := ⟨pa, 0, none⟩) hla).trans ca) ((hW.cell (p := ⟨pa, 3, none⟩) hla).trans c3) ((hW.cell (p := ⟨g, o, none⟩) hlg).trans cq)
    by_cases h6b : Kd.sort b = 6
    · obtain ⟨ky, hky⟩ := j_kid_of hgb (.inl h6b)
      obtain ⟨g2, o2, cap2, q2, ⟨hSg2, c32, cq2⟩, hin2⟩ := in_kid hb hky
      have hgy := hfb ky (by rw [hky]; exact List.mem_cons_self ..)
      have hlg2 := hB g2 hSg2
      rw [h6b] at cb
      have e : jnL (L + 1) (n + 1) a (m + 1) b = (jnL L n kx m ky).map (oneK6 6) := by simp only [jnL, if_pos h6a, if_pos h6b, hkx, hky]
      rw [e]
      exact ofMaybe_j L _ R pa pb q q2 x w hx5 HWa (fun W hW => withoutMaybe_yes W pb g2 o2 cap2 q2 ((hW.cell (p := ⟨pb, 0, none⟩) hlb).trans cb) ((hW.cell (p := ⟨pb, 3, none⟩) hlb).trans c32) ((hW.cell (p := ⟨g2, o2, none⟩) hlg2).trans cq2)) (fun W hW => hJ S n m kx ky _ _ (d + 1) (d' + 1) R _ W (by omega) (hin.keep (key hW).1 (fun _ h => h)) (hin2.keep (key hW).1 (fun _ h => h)) (key hW).2.1 (key hW).2.2.1 (key hW).2.2.2 hgx.1 hgy.1 hgx.2 hgy.2 (by omega) (by omega) (by omega))
    · have e : jnL (L + 1) (n + 1) a (m + 1) b = (jnL L n kx (m + 1) b).map (oneK6 6) := by simp only [jnL, if_pos h6a, if_neg h6b, hkx]
      rw [e]
      exact ofMaybe_j L _ R pa pb q pb x w hx5 HWa (fun W hW => withoutMaybe_no W pb _ ((hW.cell (p := ⟨pb, 0, none⟩) hlb).trans cb) h6b) (fun W hW => hJ S n (m + 1) kx b _ _ (d + 1) d' R _ W (by omega) (hin.keep (key hW).1 (fun _ h => h)) (hb.keep (key hW).1 (fun _ h => h)) (key hW).2.1 (key hW).2.2.1 (key hW).2.2.2 hgx.1 hgb hgx.2 hcb (by omega) hd' (by omega))
  · have h6b : Kd.sort b = 6 := h6.resolve_left h6a
    obtain ⟨ky, hky⟩ := j_kid_of hgb (.inl h6b)
    obtain ⟨g2, o2, cap2, q2, ⟨hSg2, c32, cq2⟩, hin2⟩ := in_kid hb hky
    have hgy := hfb ky (by rw [hky]; exact List.mem_cons_self ..)
    have hlg2 := hB g2 hSg2
    rw [h6b] at cb
    have e : jnL (L + 1) (n + 1) a (m + 1) b = (jnL L (n + 1) a m ky).map (oneK6 6) := by simp only [jnL, if_neg h6a, if_pos h6b, hky]
    rw [e]
    exact ofMaybe_j L _ R pa pb pa q2 x w hx5 (fun W hW => withoutMaybe_no W pa _ ((hW.cell (p := ⟨pa, 0, none⟩) hla).trans ca) h6a) (fun W hW => withoutMaybe_yes W pb g2 o2 cap2 q2 ((hW.cell (p := ⟨pb, 0, none⟩) hlb).trans cb) ((hW.cell (p := ⟨pb, 3, none⟩) hlb).trans c32) ((hW.cell (p := ⟨g2, o2, none⟩) hlg2).trans cq2)) (fun W hW => hJ S (n + 1) m a ky _ _ d (d' + 1) R _ W (by omega) (ha.keep (key hW).1 (fun _ h => h)) (hin2.keep (key hW).1 (fun _ h => h)) (key hW).2.1 (key hW).2.2.1 (key hW).2.2.2 hga hgy.1 hca hgy.2 hd (by omega) (by omega))

theorem jI_list (L : Nat) (hJ : JoinISaid L) (S : Nat → Prop) (n m : Nat) (a : K (n + 1)) (b : K (m + 1)) (pa pb : Nat) (d d' : Int) (R : Nat) (x : ByteArray) (w : World) (hL : n + 1 + (m + 1) ≤ L + 1) (ha : InnerK S w (n + 1) a (.pointer (some ⟨pa, 0, none⟩))) (hb : InnerK S w (m + 1) b (.pointer (some ⟨pb, 0, none⟩))) (hB : ∀ b, S b → b < w.heap.size) (hT : TabJ w R) (hR : R < w.heap.size)
    (hga : goodK (n + 1) a d = true) (hgb : goodK (m + 1) b d' = true) (hca : cntK (n + 1) a ≤ 40) (hcb : cntK (m + 1) b ≤ 40) (hd : 1 ≤ d) (hd' : 1 ≤ d') (hx : (x.size : Int) ≤ 20 * (d + d')) (h4a : Kd.sort a = 4) (h4b : Kd.sort b = 4) :
    Calls Tryz.prog 36 #[.pointer (some ⟨R, 0, none⟩), .agg #[.pointer (some ⟨pa, 0, none⟩), .pointer (some ⟨pb, 0, none⟩), .string x]] w fun e w' => Below w.heap.size w w' ∧ EndJ (L + 1) (jnL (L + 1) (n + 1) a (m + 1) b) w e w' := by
  have hda : d ≤ 6 := by have h := hga; simp only [goodK, Bool.and_eq_true, decide_eq_true_eq] at h; exact h.1.1
  have hdb : d' ≤ 6 := by have h := hgb; simp only [goodK, Bool.and_eq_true, decide_eq_true_eq] at h; exact h.1.1
  have hx5 : x.size ≤ 100000 := by omega
  have hs1 : (⟨#[91, 93]⟩ : ByteArray).size ≤ 8 := by decide
  have hp := pathJ (s := ⟨#[91, 93]⟩) hx hs1
  obtain ⟨hSa, -⟩ := in_sort ha
  obtain ⟨hSb, -⟩ := in_sort hb
  have hla := hB pa hSa
  have hlb := hB pb hSb
  have key : ∀ {W : World}, Below w.heap.size w W → Same S w W ∧ (∀ b, S b → b < W.heap.size) ∧ TabJ W R ∧ R < W.heap.size := fun hW => ⟨same_below hW hB, fun b hb => Nat.lt_of_lt_of_le (hB b hb) hW.size, hT.keep (hW.block R hR), Nat.lt_of_lt_of_le hR hW.size⟩
  obtain ⟨kx, hkx⟩ := j_kid_of hga (.inr h4a)
  obtain ⟨g, o, cap, q, ⟨hSg, c3, cq⟩, hin⟩ := in_kid ha hkx
  have hgx := (few_of_good hga hca).2.2.2 kx (by rw [hkx]; exact List.mem_cons_self ..)
  have hlg := hB g hSg
  obtain ⟨ky, hky⟩ := j_kid_of hgb (.inr h4b)
  obtain ⟨g2, o2, cap2, q2, ⟨hSg2, c32, cq2⟩, hin2⟩ := in_kid hb hky
  have hgy := (few_of_good hgb hcb).2.2.2 ky (by rw [hky]; exact List.mem_cons_self ..)
  have hlg2 := hB g2 hSg2
  have e : jnL (L + 1) (n + 1) a (m + 1) b = (jnL L n kx m ky).map (oneK6 4) := by
    have h1 : ¬ Kd.sort a = 6 := by omega
    have h2 : ¬ Kd.sort b = 6 := by omega
    have h3 : ¬ Kd.sort a ≠ Kd.sort b := by omega
    simp only [jnL, if_neg h1, if_neg h2, if_neg h3, if_pos h4a, hkx, hky]
  rw [e]
  exact ofLists_j L _ R pa pb q q2 x w hx5 (fun W hW => within_any W pa g o 0 cap q ((hW.cell (p := ⟨pa, 3, none⟩) hla).trans c3) ((hW.cell (p := ⟨g, o, none⟩) hlg).trans cq) (by omega)) (fun W hW => within_any W pb g2 o2 0 cap2 q2 ((hW.cell (p := ⟨pb, 3, none⟩) hlb).trans c32) ((hW.cell (p := ⟨g2, o2, none⟩) hlg2).trans cq2) (by omega)) (fun W hW => hJ S n m kx ky _ _ (d + 1) (d' + 1) R _ W (by omega) (hin.keep (key hW).1 (fun _ h => h)) (hin2.keep (key hW).1 (fun _ h => h)) (key hW).2.1 (key hW).2.2.1 (key hW).2.2.2 hgx.1 hgy.1 hgx.2 hgy.2 (by omega) (by omega) (by omega))

end Go.Proofs.YthcdeahobjhkbaaGreatDoor

/-
  The program's joining, of any two good schemas.
-/
namespace Go.Proofs.YthcdeahobjhkbaaGreatDoor
open Go.RowKit

/-- A kid, inside. -/
theorem in_at {S : Nat → Prop} {w : World} {n : Nat} {k : K (n + 1)} {p : Nat} (h : InnerK S w (n + 1) k (.pointer (some ⟨p, 0, none⟩))) (i : Nat) (hi : i < (Kd.kids k).length) :
    ∃ g o cap q, S g ∧ w.cell? ⟨p, 3, none⟩ = some (.slice (some ⟨g, o, none⟩) (Kd.kids k).length cap) ∧ w.cell? ⟨g, o + i, none⟩ = some (.pointer (some ⟨q, 0, none⟩)) ∧ InnerK S w n (Kd.kids k)[i] (.pointer (some ⟨q, 0, none⟩)) := by
  obtain ⟨pp, nv, pv, kv, he, hS, hcell, -, -, hr⟩ := h
  cases he
  obtain ⟨ao, cap, rfl, -, hr⟩ := hr
  obtain ⟨g, o, rfl, hSg, hr⟩ := hr (by intro e; rw [e] at hi; simp at hi)
  obtain ⟨c, e, hin⟩ := hr i hi
  obtain ⟨q, rfl, -⟩ := id hin.ptr
  exact ⟨g, o, cap, q, hSg, by simp [World.cell?, hcell], e, hin⟩

/-- The names and their places, inside. -/
theorem in_names {S : Nat → Prop} {w : World} {n : Nat} {k : K (n + 1)} {p : Nat} (h : InnerK S w (n + 1) k (.pointer (some ⟨p, 0, none⟩))) (h5 : Kd.sort k = 5) :
    ∃ na nc pv, w.cell? ⟨p, 1, none⟩ = some (.slice na (Kd.names k).length nc) ∧ StrsIn S w (Kd.names k) (.slice na (Kd.names k).length nc) ∧ w.cell? ⟨p, 2, none⟩ = some pv ∧ PlacesIn S w (Kd.names k) pv := by
  obtain ⟨pp, nv, pv, kv, he, hS, hcell, hN, hP, -⟩ := h
  cases he
  obtain ⟨na, nc, rfl, -⟩ := id hN
  exact ⟨na, nc, pv, by simp [World.cell?, hcell], hN, by simp [World.cell?, hcell], hP h5⟩

theorem maybe_out (L n : Nat) (hn : n ≤ L) (S : Nat → Prop) (k : K n) (p : Nat) (d : Int) (w : World) (hk : InnerK S w n k (.pointer (some ⟨p, 0, none⟩))) (hB : ∀ b, S b → b < w.heap.size) (hg : goodK n k d = true) (hc : cntK n k ≤ 40) :
    Calls Tryz.prog 81 #[.pointer (some ⟨p, 0, none⟩)] w (MaybePost L (maybeL L n k) w) := by
  cases n with
  | zero => exact Empty.elim (show Empty from k)
  | succ n => exact outerMaybe_any L n S k p d w hn hk hB hg hc

theorem form_facts {n : Nat} {k : K (n + 1)} {d : Int} (h : goodK (n + 1) k d = true) (h5 : Kd.sort k = 5) : (Kd.names k).length = (Kd.kids k).length ∧ riseB (Kd.names k) = true := by
  rcases goodK_kids h with ⟨h', -⟩ | ⟨h', -⟩ | ⟨-, h'⟩
  · omega
  · omega
  · exact h'

theorem zip_fst {α : Type} (l : List ByteArray) (xs : List α) (h : l.length = xs.length) : (l.zip xs).map Prod.fst = l := List.map_fst_zip (by omega)

theorem jn_form {L n m : Nat} {a : K (n + 1)} {b : K (m + 1)} (h5a : Kd.sort a = 5) (h5b : Kd.sort b = 5) (hla : (Kd.names a).length = (Kd.kids a).length) (hlb : (Kd.names b).length = (Kd.kids b).length) (haa : Asc (Kd.names a)) (hab : Asc (Kd.names b)) :
    jnL (L + 1) (n + 1) a (m + 1) b = ((merN ((Kd.names a).length + (Kd.names b).length) (Kd.names a) (Kd.names b)).mapM (valJ (fun x y => jnL L n x m y) (maybeL L n) (maybeL L m) ((Kd.names a).zip (Kd.kids a)) ((Kd.names b).zip (Kd.kids b)))).map fun ks => (⟨5, merN ((Kd.names a).length + (Kd.names b).length) (Kd.names a) (Kd.names b), ks⟩ : Kd (K (L + 1))) := by
  have h1 : ¬ Kd.sort a = 6 := by omega
  have h2 : ¬ Kd.sort b = 6 := by omega
  have h3 : ¬ Kd.sort a ≠ Kd.sort b := by omega
  have h4 : ¬ Kd.sort a = 4 := by omega
  have e := merge_eq (fun x y => jnL L n x m y) (maybeL L n) (maybeL L m) ((Kd.names a).length + (Kd.names b).length) ((Kd.names a).zip (Kd.kids a)) ((Kd.names b).zip (Kd.kids b)) (by rw [List.length_zip, List.length_zip]; omega) (by rw [zip_fst _ _ hla]; exact haa) (by rw [zip_fst _ _ hlb]; exact hab)
  rw [zip_fst _ _ hla, zip_fst _ _ hlb] at e
  have e2 := mapM_at (valJ (fun x y => jnL L n x m y) (maybeL L n) (maybeL L m) ((Kd.names a).zip (Kd.kids a)) ((Kd.names b).zip (Kd.kids b))) (merN ((Kd.names a).length + (Kd.names b).length) (Kd.names a) (Kd.names b))
  have e3 := congrArg (Option.map fun p : List ByteArray × List (K (L + 1)) => (⟨5, p.1, p.2⟩ : Kd (K (L + 1)))) e2
  rw [Option.map_map, Option.map_map] at e3
  simp only [jnL, if_neg h1, if_neg h2, if_neg h3, if_neg h4, e]
  rw [h5a]
  exact e3

theorem jI_form (L : Nat) (hJ : JoinISaid L) (S : Nat → Prop) (n m : Nat) (a : K (n + 1)) (b : K (m + 1)) (pa pb : Nat) (d d' : Int) (R : Nat) (x : ByteArray) (w : World) (hL : n + 1 + (m + 1) ≤ L + 1) (ha : InnerK S w (n + 1) a (.pointer (some ⟨pa, 0, none⟩))) (hb : InnerK S w (m + 1) b (.pointer (some ⟨pb, 0, none⟩))) (hB : ∀ b, S b → b < w.heap.size) (hT : TabJ w R) (hR : R < w.heap.size)
    (hga : goodK (n + 1) a d = true) (hgb : goodK (m + 1) b d' = true) (hca : cntK (n + 1) a ≤ 40) (hcb : cntK (m + 1) b ≤ 40) (hd : 1 ≤ d) (hd' : 1 ≤ d') (hx : (x.size : Int) ≤ 20 * (d + d')) (h5a : Kd.sort a = 5) (h5b : Kd.sort b = 5) :
    Calls Tryz.prog 37 #[.pointer (some ⟨R, 0, none⟩), .agg #[.pointer (some ⟨pa, 0, none⟩), .pointer (some ⟨pb, 0, none⟩), .string x]] w fun e w' => Below w.heap.size w w' ∧ EndJ (L + 1) (jnL (L + 1) (n + 1) a (m + 1) b) w e w' := by
  have hda : d ≤ 6 := by have h := hga; simp only [goodK, Bool.and_eq_true, decide_eq_true_eq] at h; exact h.1.1
  have hdb : d' ≤ 6 := by have h := hgb; simp only [goodK, Bool.and_eq_true, decide_eq_true_eq] at h; exact h.1.1
  obtain ⟨hSa, -⟩ := in_sort ha
  obtain ⟨hSb, -⟩ := in_sort hb
  have hpa := hB pa hSa
  have hpb := hB pb hSb
  obtain ⟨hla, hra⟩ := form_facts hga h5a
  obtain ⟨hlb, hrb⟩ := form_facts hgb h5b
  have haa := asc_of _ hra
  have hab := asc_of _ hrb
  obtain ⟨hna, hsa, hka, hfa⟩ := few_of_good hga hca
  obtain ⟨hnb, hsb, hkb, hfb⟩ := few_of_good hgb hcb
  obtain ⟨na, nc, pva, c1a, hNa, c2a, hPa⟩ := in_names ha h5a
  obtain ⟨nb, ncb, pvb, c1b, hNb, c2b, hPb⟩ := in_names hb h5b
  have key : ∀ {W : World}, Below w.heap.size w W → Same S w W ∧ (∀ b, S b → b < W.heap.size) ∧ TabJ W R ∧ R < W.heap.size := fun hW => ⟨same_below hW hB, fun b hb => Nat.lt_of_lt_of_le (hB b hb) hW.size, hT.keep (hW.block R hR), Nat.lt_of_lt_of_le hR hW.size⟩
  refine ofForms_j L (valJ (fun x y => jnL L n x m y) (maybeL L n) (maybeL L m) ((Kd.names a).zip (Kd.kids a)) ((Kd.names b).zip (Kd.kids b))) S (Kd.names a) (Kd.names b) _ na nb nc ncb R pa pb x w c1a c1b hpa hpb hNa hNb hB hna hnb hsa hsb haa hab rfl (fun s hs W hW => ?_) _ (jn_form h5a h5b hla hlb haa hab)
  have hmem := (merN_mem _ _ _ (Nat.le_refl _) s).1 hs
  have hyesA : ∀ (i : Nat) (hi : i < (Kd.names a).length), (Kd.names a)[i] = s → ∃ q, InnerK S w n ((Kd.kids a)[i]'(by omega)) (.pointer (some ⟨q, 0, none⟩)) ∧ ∀ W', Below W.heap.size W W' → Calls Tryz.prog 69 #[.pointer (some ⟨pa, 0, none⟩), .string s] W' fun e w' => e = .returned (.pointer (some ⟨q, 0, none⟩)) ∧ w' = W' := fun i hi he => by
    obtain ⟨g, o, cap, q, hSg, c3, cq, hin⟩ := in_at ha i (by omega)
    refine ⟨q, hin, fun W' hW' => ?_⟩
    have hb2 := below_step hW hW.size hW'
    have h8 := j_short hra i hi
    have := field_yes S W' (Kd.names a) pva pa g o (Kd.kids a).length cap q i ((hb2.cell (p := ⟨pa, 2, none⟩) hpa).trans c2a) (hPa.keep (same_below hb2 hB) (fun _ h => h)) haa hi (by unfold maxLen; omega) ((hb2.cell (p := ⟨pa, 3, none⟩) hpa).trans c3) (by omega) ((hb2.cell (p := ⟨g, o + i, none⟩) (hB g hSg)).trans cq)
    rwa [he] at this
  have hyesB : ∀ (i : Nat) (hi : i < (Kd.names b).length), (Kd.names b)[i] = s → ∃ q, InnerK S w m ((Kd.kids b)[i]'(by omega)) (.pointer (some ⟨q, 0, none⟩)) ∧ ∀ W', Below W.heap.size W W' → Calls Tryz.prog 69 #[.pointer (some ⟨pb, 0, none⟩), .string s] W' fun e w' => e = .returned (.pointer (some ⟨q, 0, none⟩)) ∧ w' = W' := fun i hi he => by
    obtain ⟨g, o, cap, q, hSg, c3, cq, hin⟩ := in_at hb i (by omega)
    refine ⟨q, hin, fun W' hW' => ?_⟩
    have hb2 := below_step hW hW.size hW'
    have h8 := j_short hrb i hi
    have := field_yes S W' (Kd.names b) pvb pb g o (Kd.kids b).length cap q i ((hb2.cell (p := ⟨pb, 2, none⟩) hpb).trans c2b) (hPb.keep (same_below hb2 hB) (fun _ h => h)) hab hi (by unfold maxLen; omega) ((hb2.cell (p := ⟨pb, 3, none⟩) hpb).trans c3) (by omega) ((hb2.cell (p := ⟨g, o + i, none⟩) (hB g hSg)).trans cq)
    rwa [he] at this
  have hs8 : s.size ≤ 8 := by
    rcases hmem with h | h
    · obtain ⟨i, hi, rfl⟩ := List.getElem_of_mem h; exact j_short hra i hi
    · obtain ⟨i, hi, rfl⟩ := List.getElem_of_mem h; exact j_short hrb i hi
  have hsM : s.size ≤ maxLen := by unfold maxLen; omega
  have hnoA : s ∉ Kd.names a → ∀ W', Below W.heap.size W W' → Calls Tryz.prog 69 #[.pointer (some ⟨pa, 0, none⟩), .string s] W' fun e w' => e = .returned (.pointer none) ∧ w' = W' := fun hn W' hW' => by
    have hb2 := below_step hW hW.size hW'
    exact field_no S W' (Kd.names a) pva pa s ((hb2.cell (p := ⟨pa, 2, none⟩) hpa).trans c2a) (hPa.keep (same_below hb2 hB) (fun _ h => h)) hn hsM
  have hnoB : s ∉ Kd.names b → ∀ W', Below W.heap.size W W' → Calls Tryz.prog 69 #[.pointer (some ⟨pb, 0, none⟩), .string s] W' fun e w' => e = .returned (.pointer none) ∧ w' = W' := fun hn W' hW' => by
    have hb2 := below_step hW hW.size hW'
    exact field_no S W' (Kd.names b) pvb pb s ((hb2.cell (p := ⟨pb, 2, none⟩) hpb).trans c2b) (hPb.keep (same_below hb2 hB) (fun _ h => h)) hn hsM
  by_cases hA : s ∈ Kd.names a
  · obtain ⟨i, hi, he⟩ := List.getElem_of_mem hA
    obtain ⟨qa, hia, HFa⟩ := hyesA i hi he
    have hvA : atN ((Kd.names a).zip (Kd.kids a)) s = some ((Kd.kids a)[i]'(by omega)) := by rw [← he]; exact atN_zip _ _ i hi (by omega) haa
    have hgA := hfa _ (List.getElem_mem (show i < (Kd.kids a).length by omega))
    by_cases hBm : s ∈ Kd.names b
    · obtain ⟨j, hj, hej⟩ := List.getElem_of_mem hBm
      obtain ⟨qb, hib, HFb⟩ := hyesB j hj hej
      have hvB : atN ((Kd.names b).zip (Kd.kids b)) s = some ((Kd.kids b)[j]'(by omega)) := by rw [← hej]; exact atN_zip _ _ j hj (by omega) hab
      have hgB := hfb _ (List.getElem_mem (show j < (Kd.kids b).length by omega))
      have ev : valJ (fun x y => jnL L n x m y) (maybeL L n) (maybeL L m) ((Kd.names a).zip (Kd.kids a)) ((Kd.names b).zip (Kd.kids b)) s = jnL L n ((Kd.kids a)[i]'(by omega)) m ((Kd.kids b)[j]'(by omega)) := by unfold valJ; rw [hvA, hvB]
      rw [ev]
      have hp := pathJ (s := s) hx hs8
      refine ofFields_both L _ R pa pb qa qb x s W (by omega) HFa HFb (fun W' hW' => ?_)
      have hb2 := below_step hW hW.size hW'
      exact hJ S n m _ _ _ _ (d + 1) (d' + 1) R _ W' (by omega) (hia.keep (key hb2).1 (fun _ h => h)) (hib.keep (key hb2).1 (fun _ h => h)) (key hb2).2.1 (key hb2).2.2.1 (key hb2).2.2.2 hgA.1 hgB.1 hgA.2 hgB.2 (by omega) (by omega) (by omega)
    · have ev : valJ (fun x y => jnL L n x m y) (maybeL L n) (maybeL L m) ((Kd.names a).zip (Kd.kids a)) ((Kd.names b).zip (Kd.kids b)) s = some (maybeL L n ((Kd.kids a)[i]'(by omega))) := by unfold valJ; rw [hvA, atN_out _ _ _ hBm]
      rw [ev]
      refine ofFields_a L _ R pa pb qa x s W HFa (hnoB hBm) (fun W' hW' => ?_)
      have hb2 := below_step hW hW.size hW'
      exact maybe_out L n (by omega) S _ qa (d + 1) W' (hia.keep (key hb2).1 (fun _ h => h)) (key hb2).2.1 hgA.1 hgA.2
  · have hBm : s ∈ Kd.names b := hmem.resolve_left hA
    obtain ⟨j, hj, hej⟩ := List.getElem_of_mem hBm
    obtain ⟨qb, hib, HFb⟩ := hyesB j hj hej
    have hvB : atN ((Kd.names b).zip (Kd.kids b)) s = some ((Kd.kids b)[j]'(by omega)) := by rw [← hej]; exact atN_zip _ _ j hj (by omega) hab
    have hgB := hfb _ (List.getElem_mem (show j < (Kd.kids b).length by omega))
    have ev : valJ (fun x y => jnL L n x m y) (maybeL L n) (maybeL L m) ((Kd.names a).zip (Kd.kids a)) ((Kd.names b).zip (Kd.kids b)) s = some (maybeL L m ((Kd.kids b)[j]'(by omega))) := by unfold valJ; rw [atN_out _ _ _ hA, hvB]
    rw [ev]
    refine ofFields_b L _ R pa pb qb x s W (hnoA hA) HFb (fun W' hW' => ?_)
    have hb2 := below_step hW hW.size hW'
    exact maybe_out L m (by omega) S _ qb (d' + 1) W' (hib.keep (key hb2).1 (fun _ h => h)) (key hb2).2.1 hgB.1 hgB.2

theorem joinI_step (L : Nat) (hJ : JoinISaid L) : JoinISaid (L + 1) := by
  intro S n m a b va vb d d' R x w hL ha hb hB hT hR hga hgb hca hcb hd hd' hx
  cases n with
  | zero => exact Empty.elim (show Empty from a)
  | succ n =>
  cases m with
  | zero => exact Empty.elim (show Empty from b)
  | succ m =>
  obtain ⟨i, hi1, hi6, hi⟩ := sort_natJ hga
  obtain ⟨j, hj1, hj6, hj⟩ := sort_natJ hgb
  obtain ⟨pa, rfl, hSa⟩ := ha.ptr
  obtain ⟨pb, rfl, hSb⟩ := hb.ptr
  have hla := hB pa hSa
  have hlb := hB pb hSb
  have ea := (in_sort ha).2
  have eb := (in_sort hb).2
  rw [hi] at ea
  rw [hj] at eb
  have eT := hT i j hi1 hi6 hj1 hj6
  have key : ∀ {W : World}, Below w.heap.size w W → InnerK S W (n + 1) a (.pointer (some ⟨pa, 0, none⟩)) ∧ InnerK S W (m + 1) b (.pointer (some ⟨pb, 0, none⟩)) ∧ (∀ b, S b → b < W.heap.size) ∧ TabJ W R ∧ R < W.heap.size := fun hW =>
    ⟨ha.keep (same_below hW hB) (fun _ h => h), hb.keep (same_below hW hB) (fun _ h => h), fun b hb => Nat.lt_of_lt_of_le (hB b hb) hW.size, hT.keep (hW.block R hR), Nat.lt_of_lt_of_le hR hW.size⟩
  by_cases h6 : i = 6 ∨ j = 6
  · have e : jnV R i j = widF R 38 := by unfold jnV; rw [if_pos h6]
    rw [e] at eT
    refine of_j (L + 1) _ R pa pb i j _ x w hi1 hi6 hj1 hj6 Tryz.call38 ea eb eT hla hlb hR fun W hW => ?_
    obtain ⟨k1, k2, k3, k4, k5⟩ := key hW
    exact jI_maybe L hJ S n m a b pa pb d d' R x W hL k1 k2 k3 k4 k5 hga hgb hca hcb hd hd' hx (h6.imp (fun h => by omega) (fun h => by omega))
  · by_cases hij : i = j
    · by_cases h4 : i = 4
      · have e : jnV R i j = widF R 36 := by unfold jnV; rw [if_neg h6, if_pos hij, if_pos h4]
        rw [e] at eT
        refine of_j (L + 1) _ R pa pb i j _ x w hi1 hi6 hj1 hj6 Tryz.call36 ea eb eT hla hlb hR fun W hW => ?_
        obtain ⟨k1, k2, k3, k4, k5⟩ := key hW
        exact jI_list L hJ S n m a b pa pb d d' R x W hL k1 k2 k3 k4 k5 hga hgb hca hcb hd hd' hx (by omega) (by omega)
      · by_cases h5 : i = 5
        · have e : jnV R i j = widF R 37 := by unfold jnV; rw [if_neg h6, if_pos hij, if_neg h4, if_pos h5]
          rw [e] at eT
          refine of_j (L + 1) _ R pa pb i j _ x w hi1 hi6 hj1 hj6 Tryz.call37 ea eb eT hla hlb hR fun W hW => ?_
          obtain ⟨k1, k2, k3, k4, k5⟩ := key hW
          exact jI_form L hJ S n m a b pa pb d d' R x W hL k1 k2 k3 k4 k5 hga hgb hca hcb hd hd' hx (by omega) (by omega)
        · have e : jnV R i j = widF R 35 := by unfold jnV; rw [if_neg h6, if_pos hij, if_neg h4, if_neg h5]
          rw [e] at eT
          have hka : Kd.names a = [] ∧ Kd.kids a = [] := by
            rcases goodK_kids hga with ⟨-, h1, h2⟩ | ⟨h, -⟩ | ⟨h, -⟩
            · exact ⟨h1, h2⟩
            · omega
            · omega
          have hkb : Kd.names b = [] ∧ Kd.kids b = [] := by
            rcases goodK_kids hgb with ⟨-, h1, h2⟩ | ⟨h, -⟩ | ⟨h, -⟩
            · exact ⟨h1, h2⟩
            · omega
            · omega
          have ej : jnL (L + 1) (n + 1) a (m + 1) b = some (copyL (L + 1) (n + 1) a) := by
            have h1 : ¬ Kd.sort a = 6 := by omega
            have h2 : ¬ Kd.sort b = 6 := by omega
            have h3 : ¬ Kd.sort a ≠ Kd.sort b := by omega
            have h4' : ¬ Kd.sort a = 4 := by omega
            simp only [jnL, if_neg h1, if_neg h2, if_neg h3, if_neg h4', hka.1, hkb.1, hka.2, hkb.2, copyL]
            rfl
          rw [ej]
          refine of_j (L + 1) _ R pa pb i j _ x w hi1 hi6 hj1 hj6 Tryz.call35 ea eb eT hla hlb hR fun W hW => ?_
          obtain ⟨k1, k2, k3, k4, k5⟩ := key hW
          exact ofLeaves_j (L + 1) (n + 1) S a R pa pb d x W (by omega) k1 k3 hga hca
    · have e : jnV R i j = .nilFunc := by unfold jnV; rw [if_neg h6, if_neg hij]
      rw [e] at eT
      have ej : jnL (L + 1) (n + 1) a (m + 1) b = none := by
        have h1 : ¬ Kd.sort a = 6 := by omega
        have h2 : ¬ Kd.sort b = 6 := by omega
        have h3 : Kd.sort a ≠ Kd.sort b := by omega
        simp only [jnL, if_neg h1, if_neg h2, if_pos h3]
      rw [ej]
      exact of_jnil (L + 1) R pa pb i j x w hi1 hi6 hj1 hj6 ea eb eT hla hlb hR

theorem joinI_any : ∀ L, JoinISaid L := by
  intro L
  induction L with
  | zero =>
    intro S n m a b va vb d d' R x w hL
    have hn : n = 0 := by omega
    subst hn
    exact Empty.elim (show Empty from a)
  | succ L ih => exact joinI_step L ih

end Go.Proofs.YthcdeahobjhkbaaGreatDoor
