/-
  Several texts in one, in their order.
-/
import Derived.Test.YthcdeahobjhkbaaGreatDoorJP2
import Derived.BigQuiet
import Derived.Deep.RegionLaw

/-
  The program's joining: of leaves; what may be nothing; two that do not go together.
-/
namespace Go.Proofs.YthcdeahobjhkbaaGreatDoor
open Go.RowKit

set_option maxRecDepth 20000 in
set_option maxHeartbeats 1000000 in
theorem ofLeaves_j (L n : Nat) (S : Nat → Prop) (a : K n) (R pa pb : Nat) (d : Int) (x : ByteArray) (w : World) (hL : n ≤ L + 1) (ha : InnerK S w n a (.pointer (some ⟨pa, 0, none⟩))) (hB : ∀ b, S b → b < w.heap.size) (hg : goodK n a d = true) (hc : cntK n a ≤ 40) :
    Calls Tryz.prog 35 #[.pointer (some ⟨R, 0, none⟩), .agg #[.pointer (some ⟨pa, 0, none⟩), .pointer (some ⟨pb, 0, none⟩), .string x]] w fun e w' => Below w.heap.size w w' ∧ EndJ L (some (copyL L n a)) w e w' := by
  obtain ⟨W2, hW2⟩ : ∃ W2, W2 = (w.alloc (.cells #[.pointer (some ⟨pa, 0, none⟩), .pointer (some ⟨pb, 0, none⟩), .string x] 43)).alloc (.cells #[.int .i64 0, .slice none 0 0, .slice none 0 0] 26) := ⟨_, rfl⟩
  have h2 : TwoP w W2 pa pb x := by rw [hW2]; exact two_at _ _ _ _
  have H2 := Lib.hid h2
  have HC : Hid (Calls Tryz.prog 53 #[.pointer (some ⟨pa, 0, none⟩)] W2 (OutKPost n a W2)) := outerKind_any n S a _ d W2 (ha.keep (same_below h2.below hB) (fun _ h => h)) (fun b hb => Nat.lt_of_lt_of_le (hB b hb) h2.below.size) hg hc
  clear ha hB hg hc h2
  go_enter Tryz.func35, Tryz.ntmps35
  go_wp2_with fail
  rw [← hW2]
  clear hW2
  refine HC.out.mono ?_
  rintro e w3 ⟨hb3, g0, g1, g2, L3, L4, rfl, hk, h3, h4, ho, hl⟩
  obtain ⟨y0, ya, yl, yc, za, zl, zc, rfl, rfl, rfl⟩ := hk.shape
  have hz := H2.out.size
  obtain ⟨⟨r0, r1, r2⟩, f0, f1, f2⟩ := j3_cells ((hb3.block _ (by omega)).trans H2.out.bz)
  have hO : OutAt n a W2 w3 (.int .i64 y0) (.slice ya yl yc) (.slice za zl zc) := ⟨hk, L3, L4, h3, h4, ho, hl⟩
  have HF : Hid (Below w.heap.size w (((w3.setCell ⟨w.heap.size + 1, 0, none⟩ (.int .i64 y0)).setCell ⟨w.heap.size + 1, 1, none⟩ (.slice ya yl yc)).setCell ⟨w.heap.size + 1, 2, none⟩ (.slice za zl zc)) ∧ EndJ L (some (copyL L n a)) w (.returned (.tuple #[.agg #[.int .i64 y0, .slice ya yl yc, .slice za zl zc], .nilIface])) (((w3.setCell ⟨w.heap.size + 1, 0, none⟩ (.int .i64 y0)).setCell ⟨w.heap.size + 1, 1, none⟩ (.slice ya yl yc)).setCell ⟨w.heap.size + 1, 2, none⟩ (.slice za zl zc))) :=
    ⟨j3_below (below_step H2.out.below H2.out.below.size hb3) (by omega), .inl ⟨_, _, _, _, _, _, _, _, rfl, rfl, (hO.up hL).move (fun b h1 _ => j3_other (by omega)) (by rw [j3_size]; exact Nat.le_refl _) H2.out.below.size⟩⟩
  clear hb3 hk h3 h4 ho hl hO hz HC
  go_wp2_with fail
  refine bodyPost_ret (v := .tuple #[.agg #[.int .i64 y0, .slice ya yl yc, .slice za zl zc], .nilIface]) (by simp [results, Tryz.results35, go_sem, r0, r1, r2]) rfl ?_
  exact HF.out

/-- What outerMaybe makes. -/
def MaybePost (L : Nat) (r : K (L + 1)) (w : World) (e : Ending) (w' : World) : Prop :=
  Below w.heap.size w w' ∧ ∃ d0 da dl dc ea el ec, e = .returned (.agg #[.int .i64 d0, .slice da dl dc, .slice ea el ec]) ∧ OutAt (L + 1) r w w' (.int .i64 d0) (.slice da dl dc) (.slice ea el ec)

set_option maxRecDepth 20000 in
set_option maxHeartbeats 1000000 in
theorem outerMaybe_any (L n : Nat) (S : Nat → Prop) (k : K (n + 1)) (p : Nat) (d : Int) (w : World) (hL : n + 1 ≤ L) (hk : InnerK S w (n + 1) k (.pointer (some ⟨p, 0, none⟩))) (hB : ∀ b, S b → b < w.heap.size) (hg : goodK (n + 1) k d = true) (hc : cntK (n + 1) k ≤ 40) :
    Calls Tryz.prog 81 #[.pointer (some ⟨p, 0, none⟩)] w (MaybePost L (maybeL L (n + 1) k) w) := by
  obtain ⟨L, rfl⟩ : ∃ L', L = L' + 1 := ⟨L - 1, by omega⟩
  obtain ⟨W1, hW1⟩ : ∃ W1, W1 = w.alloc (.cells #[.int .i64 0, .slice none 0 0, .slice none 0 0] 26) := ⟨_, rfl⟩
  have hb1 : Below w.heap.size w W1 := by rw [hW1]; exact (Below.refl _ _).alloc (Nat.le_refl _) _
  have hz1 : W1.heap.size = w.heap.size + 1 := by rw [hW1]; simp
  have hzb : W1.heap[w.heap.size]? = some (.cells #[.int .i64 0, .slice none 0 0, .slice none 0 0] 26 (0, 0)) := by rw [hW1]; exact heap_alloc_new _ _
  have HC : Hid (Calls Tryz.prog 53 #[.pointer (some ⟨p, 0, none⟩)] W1 (OutKPost (n + 1) k W1)) := outerKind_any (n + 1) S k _ d W1 (hk.keep (same_below hb1 hB) (fun _ h => h)) (fun b hb => Nat.lt_of_lt_of_le (hB b hb) hb1.size) hg hc
  obtain ⟨pp, nv, pv, kv, he, hS, hcell, -⟩ := hk
  cases he
  have c0 : W1.cell? ⟨p, 0, none⟩ = some (.int .i64 (Kd.sort k)) := (hb1.cell (p := ⟨p, 0, none⟩) (hB p hS)).trans (by simp [World.cell?, hcell])
  have HZ := Lib.hid hzb
  have HB1 := Lib.hid hb1
  have hza : w.heap.size + 1 ≤ W1.heap.size := Nat.le_of_eq hz1.symm
  obtain ⟨so, hso⟩ : ∃ so, Kd.sort k = so := ⟨_, rfl⟩
  have hm : maybeL (L + 1) (n + 1) k = if so = 6 then copyL (L + 1) (n + 1) k else oneK6 6 (copyL L (n + 1) k) := by rw [← hso]; rfl
  rw [hso] at c0
  rw [hm]
  have c0' := c0
  rw [hW1] at c0'
  clear hso hm hcell hg hc hB hzb hb1 hz1 c0
  by_cases h6 : so = 6
  · rw [if_pos h6]
    subst h6
    go_enter Tryz.func81, Tryz.ntmps81
    go_wp2_with fail
    rw [← hW1]
    clear hW1 c0'
    refine HC.out.mono ?_
    rintro e w3 ⟨hb3, g0, g1, g2, L3, L4, rfl, hkk, h3, h4, ho, hl⟩
    obtain ⟨y0, ya, yl, yc, za, zl, zc, rfl, rfl, rfl⟩ := hkk.shape
    obtain ⟨⟨r0, r1, r2⟩, f0, f1, f2⟩ := j3_cells ((hb3.block _ (by omega)).trans HZ.out)
    have hO : OutAt (n + 1) k W1 w3 (.int .i64 y0) (.slice ya yl yc) (.slice za zl zc) := ⟨hkk, L3, L4, h3, h4, ho, hl⟩
    have HF : Hid (MaybePost (L + 1) (copyL (L + 1) (n + 1) k) w (.returned (.agg #[.int .i64 y0, .slice ya yl yc, .slice za zl zc])) (((w3.setCell ⟨w.heap.size, 0, none⟩ (.int .i64 y0)).setCell ⟨w.heap.size, 1, none⟩ (.slice ya yl yc)).setCell ⟨w.heap.size, 2, none⟩ (.slice za zl zc))) :=
      ⟨j3_below (below_step HB1.out HB1.out.size hb3) (Nat.le_refl _), _, _, _, _, _, _, _, rfl, (hO.up (by omega)).move (fun b h1 _ => j3_other (by omega)) (by rw [j3_size]; exact Nat.le_refl _) HB1.out.size⟩
    clear hb3 hkk h3 h4 ho hl hO HC
    go_wp2_with fail
    refine bodyPost_ret (v := .agg #[.int .i64 y0, .slice ya yl yc, .slice za zl zc]) (by simp [results, Tryz.results81, go_sem, r0, r1, r2]) rfl ?_
    exact HF.out
  · rw [if_neg h6]
    go_enter Tryz.func81, Tryz.ntmps81
    go_wp2_with fail
    rw [← hW1]
    clear hW1 c0'
    refine HC.out.mono ?_
    rintro e w3 ⟨hb3, g0, g1, g2, L3, L4, rfl, hkk, h3, h4, ho, hl⟩
    obtain ⟨y0, ya, yl, yc, za, zl, zc, rfl, rfl, rfl⟩ := hkk.shape
    obtain ⟨⟨r0, r1, r2⟩, f0, f1, f2⟩ := j3_cells (((below_alloc hb3 (.cells #[.int .i64 y0, .slice ya yl yc, .slice za zl zc] 26)).block _ (by omega)).trans HZ.out)
    have hO : OutAt (n + 1) k W1 w3 (.int .i64 y0) (.slice ya yl yc) (.slice za zl zc) := ⟨hkk, L3, L4, h3, h4, ho, hl⟩
    have HF : Hid (MaybePost (L + 1) (oneK6 6 (copyL L (n + 1) k)) w (.returned (.agg #[.int .i64 6, .slice none 0 0, .slice (some ⟨w3.heap.size, 0, none⟩) 1 1])) ((((w3.alloc (.cells #[.int .i64 y0, .slice ya yl yc, .slice za zl zc] 26)).setCell ⟨w.heap.size, 0, none⟩ (.int .i64 6)).setCell ⟨w.heap.size, 1, none⟩ (.slice none 0 0)).setCell ⟨w.heap.size, 2, none⟩ (.slice (some ⟨w3.heap.size, 0, none⟩) 1 1))) :=
      ⟨j3_below (below_alloc (below_step HB1.out HB1.out.size hb3) _) (Nat.le_refl _), _, _, _, _, _, _, _, rfl, out_one (w0 := W1) (W := w3) rfl (hO.up (by omega)) HB1.out.size hb3.size (fun b h1 _ => j3_other (by omega)) (by rw [j3_size]; simp)⟩
    clear hb3 hkk h3 h4 ho hl hO HC
    go_wp2_with fail
    refine bodyPost_ret (v := .agg #[.int .i64 6, .slice none 0 0, .slice (some ⟨w3.heap.size, 0, none⟩) 1 1]) (by simp [results, Tryz.results81, go_sem, r0, r1, r2]) rfl ?_
    exact HF.out

set_option maxRecDepth 20000 in
set_option maxHeartbeats 1000000 in
theorem withoutMaybe_yes (w : World) (p g o cap q : Nat) (h0 : w.cell? ⟨p, 0, none⟩ = some (.int .i64 6)) (h3 : w.cell? ⟨p, 3, none⟩ = some (.slice (some ⟨g, o, none⟩) 1 cap)) (hk : w.cell? ⟨g, o, none⟩ = some (.pointer (some ⟨q, 0, none⟩))) :
    Calls Tryz.prog 58 #[.pointer (some ⟨p, 0, none⟩)] w fun e w' => e = .returned (.pointer (some ⟨q, 0, none⟩)) ∧ w' = w := by
  have HC : Hid (Calls Tryz.prog 55 #[.pointer (some ⟨p, 0, none⟩)] w _) := within_any w p g o 0 cap q h3 hk (by omega)
  go_enter Tryz.func58, Tryz.ntmps58
  go_wp2_with fail
  refine HC.out.mono ?_
  rintro e w2 ⟨rfl, rfl⟩
  go_wp2_with fail
  go_ret
  exact ⟨rfl, rfl⟩

set_option maxRecDepth 20000 in
set_option maxHeartbeats 1000000 in
theorem withoutMaybe_no (w : World) (p : Nat) (s : Int) (h0 : w.cell? ⟨p, 0, none⟩ = some (.int .i64 s)) (hs : ¬ s = 6) :
    Calls Tryz.prog 58 #[.pointer (some ⟨p, 0, none⟩)] w fun e w' => e = .returned (.pointer (some ⟨p, 0, none⟩)) ∧ w' = w := by
  go_enter Tryz.func58, Tryz.ntmps58
  go_wp2_with fail
  go_ret
  exact ⟨rfl, rfl⟩

set_option maxRecDepth 20000 in
set_option maxHeartbeats 2000000 in
theorem of_jnil (L R pa pb i j : Nat) (x : ByteArray) (w : World) (h1 : 1 ≤ i) (h2 : i ≤ 6) (h3 : 1 ≤ j) (h4 : j ≤ 6) (ha : w.cell? ⟨pa, 0, none⟩ = some (.int .i64 (i : Int))) (hb : w.cell? ⟨pb, 0, none⟩ = some (.int .i64 (j : Int))) (hT : w.cell? ⟨R, i * 7 + j, none⟩ = some .nilFunc)
    (hla : pa < w.heap.size) (hlb : pb < w.heap.size) (hlR : R < w.heap.size) :
    Calls Tryz.prog 20 #[.pointer (some ⟨R, 0, none⟩), .agg #[.pointer (some ⟨pa, 0, none⟩), .pointer (some ⟨pb, 0, none⟩), .string x]] w fun e w' => Below w.heap.size w w' ∧ EndJ L none w e w' := by
  obtain ⟨W0, hW0⟩ : ∃ W0, W0 = (w.alloc (.cells #[.pointer (some ⟨pa, 0, none⟩), .pointer (some ⟨pb, 0, none⟩), .string x] 43)).alloc (.cells #[.int .i64 0, .slice none 0 0, .slice none 0 0] 26) := ⟨_, rfl⟩
  have h2p : TwoP w W0 pa pb x := by rw [hW0]; exact two_at _ _ _ _
  have H2 := Lib.hid h2p
  have hb0 := h2p.below
  have ha' := (hb0.cell (p := ⟨pa, 0, none⟩) hla).trans ha
  have hb' := (hb0.cell (p := ⟨pb, 0, none⟩) hlb).trans hb
  have hT' := (hb0.cell (p := ⟨R, i * 7 + j, none⟩) hlR).trans hT
  obtain ⟨p0, p1, p2⟩ := h2p.cells (Below.refl _ _)
  have hq1 := Tryz.jfunc_nil
  have hq2 := Tryz.jfunc_eq
  have hi7 : (i : Int) < 7 := by omega
  have hj7 : (j : Int) < 7 := by omega
  have hza : w.heap.size + 2 ≤ W0.heap.size := Nat.le_of_eq h2p.size.symm
  clear ha hb hT hb0 h2p
  go_enter Tryz.func20, Tryz.ntmps20
  go_wp2_with fail
  rw [← hW0]
  clear hW0
  go_quiet (fail)
  obtain ⟨V, hV⟩ : ∃ V, V = W0.drewN nq := ⟨_, rfl⟩
  have hbV : Below W0.heap.size W0 V := by rw [hV]; exact below_drewN (Below.refl _ _) nq
  rw [← hV]
  clear hV
  have hzV := hbV.size
  obtain ⟨V2, hV2⟩ : ∃ V2, V2 = V.alloc (.cells #[.int .i64 0, .slice none 0 0, .slice none 0 0] 26) := ⟨_, rfl⟩
  have hbV2 : Below W0.heap.size W0 V2 := by rw [hV2]; exact hbV.alloc hzV _
  obtain ⟨p0', p1', p2'⟩ := H2.out.cells hbV2
  obtain ⟨⟨r0, r1, r2⟩, f0, f1, f2⟩ := j3_cells ((hbV2.block _ (by omega)).trans H2.out.bz)
  obtain ⟨⟨s0, s1, s2⟩, -⟩ := j3_cells (show V2.heap[V.heap.size]? = _ by rw [hV2]; exact heap_alloc_new V _)
  have HF : Hid (Below w.heap.size w (((V2.setCell ⟨w.heap.size + 1, 0, none⟩ (.int .i64 0)).setCell ⟨w.heap.size + 1, 1, none⟩ (.slice none 0 0)).setCell ⟨w.heap.size + 1, 2, none⟩ (.slice none 0 0)).drew ∧ EndJ L none w (.returned (.tuple #[.agg #[.int .i64 0, .slice none 0 0, .slice none 0 0], .iface 87 (.agg #[.string x])])) (((V2.setCell ⟨w.heap.size + 1, 0, none⟩ (.int .i64 0)).setCell ⟨w.heap.size + 1, 1, none⟩ (.slice none 0 0)).setCell ⟨w.heap.size + 1, 2, none⟩ (.slice none 0 0)).drew) := ⟨(end_none (L := L) (y := x) H2.out hbV2).1.drew, .inr ⟨rfl, x, rfl⟩⟩
  clear hbV hbV2
  go_wp2_with fail
  rw [← hV2]
  clear hV2
  go_region_law (fail)
  all_goals
    go_wp2_with fail
    refine bodyPost_ret (v := .tuple #[.agg #[.int .i64 0, .slice none 0 0, .slice none 0 0], .iface 87 (.agg #[.string x])]) (by simp [results, Tryz.results20, go_sem, r0, r1, r2]) rfl ?_
    exact HF.out

end Go.Proofs.YthcdeahobjhkbaaGreatDoor

/-
  The program's joining: of one name of two forms.
-/
namespace Go.Proofs.YthcdeahobjhkbaaGreatDoor
open Go.RowKit

/-- What outerMaybe made, as the answer. -/
theorem end_may {L : Nat} {r : K (L + 1)} {w W2 W wc : World} {pa pb : Nat} {x : ByteArray} {v0 : Int} {va xa : Option Addr} {vl vc xl xc : Nat} (h2 : TwoP w W2 pa pb x) (hb : Below W2.heap.size W2 W) (hbc : Below W.heap.size W wc) (hr : OutAt (L + 1) r W wc (.int .i64 v0) (.slice va vl vc) (.slice xa xl xc)) :
    Below w.heap.size w (((wc.setCell ⟨w.heap.size + 1, 0, none⟩ (.int .i64 v0)).setCell ⟨w.heap.size + 1, 1, none⟩ (.slice va vl vc)).setCell ⟨w.heap.size + 1, 2, none⟩ (.slice xa xl xc)) ∧
      EndJ L (some r) w (.returned (.tuple #[.agg #[.int .i64 v0, .slice va vl vc, .slice xa xl xc], .nilIface])) (((wc.setCell ⟨w.heap.size + 1, 0, none⟩ (.int .i64 v0)).setCell ⟨w.heap.size + 1, 1, none⟩ (.slice va vl vc)).setCell ⟨w.heap.size + 1, 2, none⟩ (.slice xa xl xc)) := by
  have hz := h2.size
  have hzW := hb.size
  exact ⟨j3_below (below_step h2.below h2.below.size (below_step hb hb.size hbc)) (by omega), .inl ⟨_, _, _, _, _, _, _, _, rfl, rfl, hr.move (fun b h1 _ => j3_other (by omega)) (by rw [j3_size]; exact Nat.le_refl _) (by omega)⟩⟩

set_option maxRecDepth 20000 in
set_option maxHeartbeats 2000000 in
theorem ofFields_a (L : Nat) (r : K (L + 1)) (R pa pb qa : Nat) (x s : ByteArray) (w : World)
    (HFa : ∀ W, Below w.heap.size w W → Calls Tryz.prog 69 #[.pointer (some ⟨pa, 0, none⟩), .string s] W fun e w' => e = .returned (.pointer (some ⟨qa, 0, none⟩)) ∧ w' = W)
    (HFb : ∀ W, Below w.heap.size w W → Calls Tryz.prog 69 #[.pointer (some ⟨pb, 0, none⟩), .string s] W fun e w' => e = .returned (.pointer none) ∧ w' = W)
    (HM : ∀ W, Below w.heap.size w W → Calls Tryz.prog 81 #[.pointer (some ⟨qa, 0, none⟩)] W (MaybePost L r W)) :
    Calls Tryz.prog 57 #[.pointer (some ⟨R, 0, none⟩), .agg #[.pointer (some ⟨pa, 0, none⟩), .pointer (some ⟨pb, 0, none⟩), .string x], .string s] w fun e w' => Below w.heap.size w w' ∧ EndJ L (some r) w e w' := by
  obtain ⟨W2, hW2⟩ : ∃ W2, W2 = (w.alloc (.cells #[.pointer (some ⟨pa, 0, none⟩), .pointer (some ⟨pb, 0, none⟩), .string x] 43)).alloc (.cells #[.int .i64 0, .slice none 0 0, .slice none 0 0] 26) := ⟨_, rfl⟩
  have h2 : TwoP w W2 pa pb x := by rw [hW2]; exact two_at _ _ _ _
  have H2 := Lib.hid h2
  have hbN : ∀ k, Below w.heap.size w (W2.drewN k) := fun k => below_drewN h2.below k
  obtain ⟨i0, i1, i2⟩ := h2.cells (Below.refl _ _)
  have HFa := Lib.hid HFa
  have HFb := Lib.hid HFb
  have HM := Lib.hid HM
  have hza : w.heap.size + 2 ≤ W2.heap.size := Nat.le_of_eq h2.size.symm
  clear h2
  go_enter Tryz.func57, Tryz.ntmps57
  go_wp2_with fail
  rw [← hW2]
  clear hW2
  go_quiet (first | (go_at_call_of 69 (Value.pointer (some ⟨pa, 0, none⟩)); refine Calls.quiet_of_same (HFa.out _ (hbN _))) | (go_at_call_of 69 (Value.pointer (some ⟨pb, 0, none⟩)); refine Calls.quiet_of_same (HFb.out _ (hbN _))))
  have hbq := hbN nq
  have HCm := Lib.hid (HM.out _ hbq)
  have hb2q : Below W2.heap.size W2 (W2.drewN nq) := below_drewN (Below.refl _ _) nq
  go_wp2_with fail
  refine HCm.out.mono ?_
  rintro e w3 ⟨hb3, d0, da, dl, dc, ea, el, ec, rfl, hr⟩
  have hb23 : Below W2.heap.size W2 w3 := hb2q.trans hb3
  obtain ⟨⟨r0, r1, r2⟩, f0, f1, f2⟩ := j3_cells ((hb23.block _ (by omega)).trans H2.out.bz)
  have HF := Lib.hid (end_may H2.out hb2q hb3 hr)
  clear hr hb3 hb23 hbq hb2q HCm
  go_wp2_with fail
  refine bodyPost_ret (v := .tuple #[.agg #[.int .i64 d0, .slice da dl dc, .slice ea el ec], .nilIface]) (by simp [results, Tryz.results57, go_sem, r0, r1, r2]) rfl ?_
  exact HF.out

set_option maxRecDepth 20000 in
set_option maxHeartbeats 2000000 in
theorem ofFields_b (L : Nat) (r : K (L + 1)) (R pa pb qb : Nat) (x s : ByteArray) (w : World)
    (HFa : ∀ W, Below w.heap.size w W → Calls Tryz.prog 69 #[.pointer (some ⟨pa, 0, none⟩), .string s] W fun e w' => e = .returned (.pointer none) ∧ w' = W)
    (HFb : ∀ W, Below w.heap.size w W → Calls Tryz.prog 69 #[.pointer (some ⟨pb, 0, none⟩), .string s] W fun e w' => e = .returned (.pointer (some ⟨qb, 0, none⟩)) ∧ w' = W)
    (HM : ∀ W, Below w.heap.size w W → Calls Tryz.prog 81 #[.pointer (some ⟨qb, 0, none⟩)] W (MaybePost L r W)) :
    Calls Tryz.prog 57 #[.pointer (some ⟨R, 0, none⟩), .agg #[.pointer (some ⟨pa, 0, none⟩), .pointer (some ⟨pb, 0, none⟩), .string x], .string s] w fun e w' => Below w.heap.size w w' ∧ EndJ L (some r) w e w' := by
  obtain ⟨W2, hW2⟩ : ∃ W2, W2 = (w.alloc (.cells #[.pointer (some ⟨pa, 0, none⟩), .pointer (some ⟨pb, 0, none⟩), .string x] 43)).alloc (.cells #[.int .i64 0, .slice none 0 0, .slice none 0 0] 26) := ⟨_, rfl⟩
  have h2 : TwoP w W2 pa pb x := by rw [hW2]; exact two_at _ _ _ _
  have H2 := Lib.hid h2
  have hbN : ∀ k, Below w.heap.size w (W2.drewN k) := fun k => below_drewN h2.below k
  obtain ⟨i0, i1, i2⟩ := h2.cells (Below.refl _ _)
  have HFa := Lib.hid HFa
  have HFb := Lib.hid HFb
  have HM := Lib.hid HM
  have hza : w.heap.size + 2 ≤ W2.heap.size := Nat.le_of_eq h2.size.symm
  clear h2
  go_enter Tryz.func57, Tryz.ntmps57
  go_wp2_with fail
  rw [← hW2]
  clear hW2
  go_quiet (first | (go_at_call_of 69 (Value.pointer (some ⟨pa, 0, none⟩)); refine Calls.quiet_of_same (HFa.out _ (hbN _))) | (go_at_call_of 69 (Value.pointer (some ⟨pb, 0, none⟩)); refine Calls.quiet_of_same (HFb.out _ (hbN _))))
  have hbq := hbN nq
  have HCm := Lib.hid (HM.out _ hbq)
  have hb2q : Below W2.heap.size W2 (W2.drewN nq) := below_drewN (Below.refl _ _) nq
  go_wp2_with fail
  refine HCm.out.mono ?_
  rintro e w3 ⟨hb3, d0, da, dl, dc, ea, el, ec, rfl, hr⟩
  have hb23 : Below W2.heap.size W2 w3 := hb2q.trans hb3
  obtain ⟨⟨r0, r1, r2⟩, f0, f1, f2⟩ := j3_cells ((hb23.block _ (by omega)).trans H2.out.bz)
  have HF := Lib.hid (end_may H2.out hb2q hb3 hr)
  clear hr hb3 hb23 hbq hb2q HCm
  go_wp2_with fail
  refine bodyPost_ret (v := .tuple #[.agg #[.int .i64 d0, .slice da dl dc, .slice ea el ec], .nilIface]) (by simp [results, Tryz.results57, go_sem, r0, r1, r2]) rfl ?_
  exact HF.out

set_option maxRecDepth 20000 in
set_option maxHeartbeats 4000000 in
theorem ofFields_both (L : Nat) (o : Option (K (L + 1))) (R pa pb qa qb : Nat) (x s : ByteArray) (w : World) (hx : x.size + s.size ≤ 100000)
    (HFa : ∀ W, Below w.heap.size w W → Calls Tryz.prog 69 #[.pointer (some ⟨pa, 0, none⟩), .string s] W fun e w' => e = .returned (.pointer (some ⟨qa, 0, none⟩)) ∧ w' = W)
    (HFb : ∀ W, Below w.heap.size w W → Calls Tryz.prog 69 #[.pointer (some ⟨pb, 0, none⟩), .string s] W fun e w' => e = .returned (.pointer (some ⟨qb, 0, none⟩)) ∧ w' = W)
    (HOf : ∀ W, Below w.heap.size w W → Calls Tryz.prog 20 #[.pointer (some ⟨R, 0, none⟩), .agg #[.pointer (some ⟨qa, 0, none⟩), .pointer (some ⟨qb, 0, none⟩), .string (pathTo x s)]] W fun e w' => Below W.heap.size W w' ∧ EndJ L o W e w') :
    Calls Tryz.prog 57 #[.pointer (some ⟨R, 0, none⟩), .agg #[.pointer (some ⟨pa, 0, none⟩), .pointer (some ⟨pb, 0, none⟩), .string x], .string s] w fun e w' => Below w.heap.size w w' ∧ EndJ L o w e w' := by
  obtain ⟨W2, hW2⟩ : ∃ W2, W2 = (w.alloc (.cells #[.pointer (some ⟨pa, 0, none⟩), .pointer (some ⟨pb, 0, none⟩), .string x] 43)).alloc (.cells #[.int .i64 0, .slice none 0 0, .slice none 0 0] 26) := ⟨_, rfl⟩
  have h2 : TwoP w W2 pa pb x := by rw [hW2]; exact two_at _ _ _ _
  have H2 := Lib.hid h2
  have hbN : ∀ k, Below w.heap.size w (W2.drewN k) := fun k => below_drewN h2.below k
  obtain ⟨i0, i1, i2⟩ := h2.cells (Below.refl _ _)
  have HFa := Lib.hid HFa
  have HFb := Lib.hid HFb
  have hza : w.heap.size + 2 ≤ W2.heap.size := Nat.le_of_eq h2.size.symm
  have HS : Hid (∀ W, Below W2.heap.size W2 W → (W.cell? ⟨w.heap.size, 0, none⟩ = some (.pointer (some ⟨pa, 0, none⟩)) ∧ W.cell? ⟨w.heap.size, 1, none⟩ = some (.pointer (some ⟨pb, 0, none⟩)) ∧ W.cell? ⟨w.heap.size, 2, none⟩ = some (.string x)) ∧ NewJ W (w.heap.size + 1)) := fun W hW => ⟨h2.cells hW, (hW.block _ (by omega)).trans h2.bz⟩
  have HBe : Hid (∀ W, Below W2.heap.size W2 W → Calls Tryz.prog 54 #[.agg #[.pointer (some ⟨pa, 0, none⟩), .pointer (some ⟨pb, 0, none⟩), .string x], .string s, .pointer (some ⟨qa, 0, none⟩), .pointer (some ⟨qb, 0, none⟩)] W fun e w' => e = .returned (.agg #[.pointer (some ⟨qa, 0, none⟩), .pointer (some ⟨qb, 0, none⟩), .string (pathTo x s)]) ∧ Below W2.heap.size W2 w') := fun W hW =>
    (below_any x _ _ _ _ _ W (by omega)).mono fun e w' h => ⟨h.1, below_step hW hW.size h.2⟩
  have HCj : Hid (∀ W, Below W2.heap.size W2 W → Calls Tryz.prog 20 #[.pointer (some ⟨R, 0, none⟩), .agg #[.pointer (some ⟨qa, 0, none⟩), .pointer (some ⟨qb, 0, none⟩), .string (pathTo x s)]] W fun e w' => ∃ v0 va vl vc xa xl xc u, e = .returned (.tuple #[.agg #[.int .i64 v0, .slice va vl vc, .slice xa xl xc], u]) ∧ Hid (EndQ L o W2 v0 va vl vc xa xl xc u w') ∧ Below W2.heap.size W2 w') := fun W hW => (HOf W (below_step h2.below h2.below.size hW)).mono (by
    rintro e w' ⟨hb, hE⟩
    obtain ⟨v0, va, vl, vc, xa, xl, xc, u, rfl, hQ⟩ := endQ_to hE
    exact ⟨v0, va, vl, vc, xa, xl, xc, u, rfl, hQ.move (fun _ _ _ => rfl) (Nat.le_refl _) hW.size, below_step hW hW.size hb⟩)
  generalize pathTo x s = y at *
  clear h2 HOf
  go_enter Tryz.func57, Tryz.ntmps57
  go_wp2_with fail
  rw [← hW2]
  clear hW2
  go_quiet (first | (go_at_call_of 69 (Value.pointer (some ⟨pa, 0, none⟩)); refine Calls.quiet_of_same (HFa.out _ (hbN _))) | (go_at_call_of 69 (Value.pointer (some ⟨pb, 0, none⟩)); refine Calls.quiet_of_same (HFb.out _ (hbN _))))
  obtain ⟨V, hV⟩ : ∃ V, V = W2.drewN nq := ⟨_, rfl⟩
  have hbV : Below W2.heap.size W2 V := by rw [hV]; exact below_drewN (Below.refl _ _) nq
  rw [← hV]
  clear hV i0 i1 i2 hbN
  obtain ⟨⟨i0, i1, i2⟩, -⟩ := HS.out V hbV
  have hbVd := hbV.drew
  go_wp2_with fail
  go_region_held (fun w' => w'.cell? ⟨w.heap.size, 0, none⟩ = some (.pointer (some ⟨pa, 0, none⟩)) ∧ w'.cell? ⟨w.heap.size, 1, none⟩ = some (.pointer (some ⟨pb, 0, none⟩)) ∧ w'.cell? ⟨w.heap.size, 2, none⟩ = some (.string x)) (first | with_reducible assumption | go_keep) (first
    | (go_at_call 54; refine (HBe.out _ (by (first | with_reducible assumption | (with_reducible refine below_alloc ?_ _; with_reducible assumption) | (with_reducible refine below_allocD ?_ _; with_reducible assumption)))).mono ?_; rintro e y3 ⟨rfl, hy3⟩; obtain ⟨⟨ic0, ic1, ic2⟩, -⟩ := HS.out y3 hy3)
    | (go_at_call 20; refine (HCj.out _ (by (first | with_reducible assumption | (with_reducible refine below_alloc ?_ _; with_reducible assumption) | (with_reducible refine below_allocD ?_ _; with_reducible assumption)))).mono ?_; rintro e y4 ⟨v0, va, vl, vc, xa, xl, xc, u, rfl, hQ4, hy4⟩; obtain ⟨⟨id0, id1, id2⟩, q⟩ := HS.out y4 hy4; obtain ⟨⟨r0, r1, r2⟩, f0, f1, f2⟩ := j3_cells q))
  all_goals
    have HF : Hid (Below w.heap.size w (((y4.setCell ⟨w.heap.size + 1, 0, none⟩ (.int .i64 v0)).setCell ⟨w.heap.size + 1, 1, none⟩ (.slice va vl vc)).setCell ⟨w.heap.size + 1, 2, none⟩ (.slice xa xl xc)) ∧ EndJ L o w (.returned (.tuple #[.agg #[.int .i64 v0, .slice va vl vc, .slice xa xl xc], u])) (((y4.setCell ⟨w.heap.size + 1, 0, none⟩ (.int .i64 v0)).setCell ⟨w.heap.size + 1, 1, none⟩ (.slice va vl vc)).setCell ⟨w.heap.size + 1, 2, none⟩ (.slice xa xl xc))) :=
      ⟨j3_below (below_step H2.out.below H2.out.below.size hy4) (by omega), endQ_from hQ4.out (fun b h1 _ => j3_other (by omega)) (by rw [j3_size]; exact Nat.le_refl _) H2.out.below.size⟩
    clear hQ4 q
    go_wp2_with fail
    refine bodyPost_ret (v := .tuple #[.agg #[.int .i64 v0, .slice va vl vc, .slice xa xl xc], u]) (by simp [results, Tryz.results57, go_sem, r0, r1, r2]) rfl ?_
    exact HF.out

end Go.Proofs.YthcdeahobjhkbaaGreatDoor
