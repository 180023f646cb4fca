/-
 The specification's l3Widen: of forms.
-/
import Derived.Test.YtpalkdcgbbbmeaaGreatDoorB27
import Derived.BigQuiet
import Derived.Deep.RegionLaw
import Derived.Lib.Hide
namespace Go.Proofs.YtpalkdcgbbbmeaaGreatDoor
open Go.RowKit

theorem Tryz.info_strW : (Tryz.prog.info? 9).map (fun i => (i.zero, i.size, i.bytes)) = some (some (.string ⟨#[]⟩), 1, 16) := by kernel_rfl

set_option maxRecDepth 100000 in
set_option maxHeartbeats 16000000 in
theorem l3Widen_formL (m n p : Nat) (hm : WidSSaid m) (S : Nat → Prop) (la lb : List ByteArray) (ka : List (K n)) (kb : List (K m)) (kt : List (T p)) (ana aka bna bka tna tka : Option Addr) (anc akc bnc bkc tnl tnc tkc : Nat) (d d' e : Int) (w : World) (hB : ∀ b, S b → b < w.heap.size)
  (h1 : StrsIn S w la (.slice ana la.length anc)) (h2 : RowIn3 S w (KindIn S w n) ka (.slice aka ka.length akc)) (h3 : StrsIn S w lb (.slice bna lb.length bnc)) (h4 : RowIn3 S w (KindIn S w m) kb (.slice bka kb.length bkc)) (h5 : RowIn S w (TreeIn S w p) kt (.slice tka kt.length tkc))
  (hga : ∀ x, x ∈ ka → goodK n x d = true) (hgb : ∀ y, y ∈ kb → goodK m y d' = true ∧ cntK m y ≤ 40) (hgt : ∀ u, u ∈ kt → goodT p u e = true) (hlb : lb.length = kb.length) (hla : la.length = ka.length) (hlt : kt.length = ka.length) (hAa : Asc la) (h39 : lb.length ≤ 39) (hs8 : ∀ s, s ∈ lb → s.size ≤ 8)
  (hff : ∀ j (h1 : j < lb.length) (h2 : j < kb.length) r (_ : r < la.length) (hr2 : r < ka.length), la[r] = lb[j] → fitsK m kb[j] n ka[r] = true) (hkk : ∀ i (h1 : i < ka.length) (h2 : i < kt.length), hasK n ka[i] p kt[i] = true) :
  Calls Tryz.prog 30 #[.agg #[.int .i64 5, .slice ana la.length anc, .slice aka ka.length akc], .agg #[.int .i64 5, .slice bna lb.length bnc, .slice bka kb.length bkc], .agg #[.int .i64 5, .int .i64 0, .string ByteArray.empty, .slice tna tnl tnc, .slice tka kt.length tkc]] w fun en w' => ∃ g0 g1 g2 g3 g4, en = .returned (.agg #[g0, g1, g2, g3, g4]) ∧ TreeIn (fun b => w.heap.size ≤ b ∧ b < w'.heap.size) w' (m + 1) (mkT m 5 0 ByteArray.empty lb (mapW (fun y x u => widT m y n x p u) (noneT m) la ka kt lb kb)) g0 g1 g2 g3 g4 ∧ Below w.heap.size w w' := by
 obtain ⟨ts, hts⟩ : ∃ ts, ts = mapW (fun y x u => widT m y n x p u) (noneT m) la ka kt lb kb := ⟨_, rfl⟩
 have HTL : Hid (ts.length = lb.length) := by show _ = _; rw [hts, mapW_length _ _ hlb, hlb]
 have HTJ : Hid (∀ j (h : j < lb.length) (hk : j < kb.length) (ht : j < ts.length) (tk : T m), KidIs m n p la ka kt lb[j] kb[j] la.length tk → ts[j] = tk) := fun j h hk ht tk hK => by
  have e0 := mapW_get (f := fun y x u => widT m y n x p u) (z := noneT m) (ns := la) (xs := ka) (us := kt) lb kb j h hk (by rw [← hts]; exact ht)
  have e1 := Eq.trans (show ts[j] = (mapW (fun y x u => widT m y n x p u) (noneT m) la ka kt lb kb)[j]'(by rw [← hts]; exact ht) by simp only [hts]) e0
  rcases hK with ⟨hno, rfl⟩ | ⟨r, hr, r1, r2, r3, he, rfl⟩
  · rw [e1, atName2_no la ka kt lb[j] (fun hm => by obtain ⟨r, hr, e⟩ := List.getElem_of_mem hm; exact hno r hr hr e)]
  · rw [e1, ← he, atName2_yes la ka kt r r1 r2 r3 hAa]
 rw [← hts]
 have HNA : Hid (∀ i (hi : i < la.length), ∃ g o, ana = some ⟨g, o, none⟩ ∧ g < w.heap.size ∧ w.cell? ⟨g, o + i, none⟩ = some (.string la[i])) := fun i hi => by
  obtain ⟨ao, c', e, -, -, hc⟩ := h1
  cases e
  obtain ⟨g, o, e, hSg, hc⟩ := hc (by intro h; rw [h] at hi; simp at hi)
  exact ⟨g, o, e, hB g hSg, hc i hi⟩
 have HNB : Hid (∀ i (hi : i < lb.length), ∃ g o, bna = some ⟨g, o, none⟩ ∧ g < w.heap.size ∧ w.cell? ⟨g, o + i, none⟩ = some (.string lb[i])) := fun i hi => by
  obtain ⟨ao, c', e, -, -, hc⟩ := h3
  cases e
  obtain ⟨g, o, e, hSg, hc⟩ := hc (by intro h; rw [h] at hi; simp at hi)
  exact ⟨g, o, e, hB g hSg, hc i hi⟩
 have HKID : Hid (∀ r (hr : r < la.length) j (hj : j < lb.length) (hj2 : j < kb.length), la[r] = lb[j] → ∃ (r2 : r < ka.length) (r3 : r < kt.length) (ga oa gb ob gt ot : Nat), aka = some ⟨ga, oa, none⟩ ∧ ga < w.heap.size ∧ bka = some ⟨gb, ob, none⟩ ∧ gb < w.heap.size ∧ tka = some ⟨gt, ot, none⟩ ∧ gt < w.heap.size ∧
   ∃ i0 ia il ic ja jl jc z0 za zl zc ya yl yc q0 q1 q2 qa ql qc ra rl rc, (w.cell? ⟨ga, oa + r * 3, none⟩ = some (.int .i64 i0) ∧ w.cell? ⟨ga, oa + r * 3 + 1, none⟩ = some (.slice ia il ic) ∧ w.cell? ⟨ga, oa + r * 3 + 2, none⟩ = some (.slice ja jl jc)) ∧ (w.cell? ⟨gb, ob + j * 3, none⟩ = some (.int .i64 z0) ∧ w.cell? ⟨gb, ob + j * 3 + 1, none⟩ = some (.slice za zl zc) ∧ w.cell? ⟨gb, ob + j * 3 + 2, none⟩ = some (.slice ya yl yc)) ∧
    (w.cell? ⟨gt, ot + r * 5, none⟩ = some (.int .i64 q0) ∧ w.cell? ⟨gt, ot + r * 5 + 1, none⟩ = some (.int .i64 q1) ∧ w.cell? ⟨gt, ot + r * 5 + 2, none⟩ = some (.string q2) ∧ w.cell? ⟨gt, ot + r * 5 + 3, none⟩ = some (.slice qa ql qc) ∧ w.cell? ⟨gt, ot + r * 5 + 4, none⟩ = some (.slice ra rl rc)) ∧
    ∀ W, Below w.heap.size w W → Calls Tryz.prog 30 #[.agg #[.int .i64 i0, .slice ia il ic, .slice ja jl jc], .agg #[.int .i64 z0, .slice za zl zc, .slice ya yl yc], .agg #[.int .i64 q0, .int .i64 q1, .string q2, .slice qa ql qc, .slice ra rl rc]] W fun en w' => Below W.heap.size W w' ∧ ∃ u0 u1 u2 va vl vc pa pl pc, en = .returned (.agg #[.int .i64 u0, .int .i64 u1, .string u2, .slice va vl vc, .slice pa pl pc]) ∧ Hid (TreeIn (fun b => W.heap.size ≤ b ∧ b < w'.heap.size) w' m (widT m kb[j] n ka[r] p kt[r]) (.int .i64 u0) (.int .i64 u1) (.string u2) (.slice va vl vc) (.slice pa pl pc))) := fun r hr j hj hj2 he => by
  have r2 : r < ka.length := by omega
  have r3 : r < kt.length := by omega
  obtain ⟨ao, c', e', -, h2⟩ := h2
  cases e'
  obtain ⟨ga, oa, rfl, hSa, h2⟩ := h2 (by intro h; rw [h] at r2; simp at r2)
  obtain ⟨x0, x1, x2, l0, l1, l2, hxin⟩ := h2 r r2
  obtain ⟨i0, ia, il, ic, ja, jl, jc, rfl, rfl, rfl⟩ := hxin.shape
  obtain ⟨ao, c', e', -, h4⟩ := h4
  cases e'
  obtain ⟨gb, ob, rfl, hSb, h4⟩ := h4 (by intro h; rw [h] at hj2; simp at hj2)
  obtain ⟨y0, y1, y2, k0, k1, k2, hyin⟩ := h4 j hj2
  obtain ⟨z0, za, zl, zc, ya, yl, yc, rfl, rfl, rfl⟩ := hyin.shape
  obtain ⟨ao, c', e', -, h5⟩ := h5
  cases e'
  obtain ⟨gt, ot, rfl, hSt, h5⟩ := h5 (by intro h; rw [h] at r3; simp at r3)
  obtain ⟨v0, v1, v2, v3, v4, m0, m1, m2, m3, m4, hin⟩ := h5 r r3
  obtain ⟨q0, q1, q2, qa, ql, qc, ra, rl, rc, rfl, rfl, rfl, rfl, rfl⟩ := hin.shape
  refine ⟨r2, r3, ga, oa, gb, ob, gt, ot, rfl, hB ga hSa, rfl, hB gb hSb, rfl, hB gt hSt, i0, ia, il, ic, ja, jl, jc, z0, za, zl, zc, ya, yl, yc, q0, q1, q2, qa, ql, qc, ra, rl, rc, ⟨l0, l1, l2⟩, ⟨k0, k1, k2⟩, ⟨m0, m1, m2, m3, m4⟩, fun W hW => ?_⟩
  obtain ⟨s1, s2⟩ := hxin.step hB hW
  obtain ⟨s3, -⟩ := hyin.step hB hW
  obtain ⟨s4, -⟩ := hin.step hB hW
  refine (hm S n p ka[r] kb[j] kt[r] _ _ _ _ _ _ _ _ _ _ _ d d' e W s1 s3 s4 s2 (hga _ (List.getElem_mem r2)) (hgb _ (List.getElem_mem hj2)).1 (hgb _ (List.getElem_mem hj2)).2 (hgt _ (List.getElem_mem r3)) (hff j hj hj2 r hr r2 he) (hkk r r2 r3)).mono ?_
  rintro en w' ⟨g0, g1, g2, g3, g4, rfl, hin, hbl⟩
  obtain ⟨u0, u1, u2, va, vl, vc, pa, pl, pc, rfl, rfl, rfl, rfl, rfl⟩ := hin.shape
  exact ⟨hbl, _, _, _, _, _, _, _, _, _, rfl, hin⟩
 have HLB : Hid (lb.length = kb.length) := hlb
 have H8 : Hid (∀ s, s ∈ lb → s.size ≤ 8) := hs8
 have HLA : Hid (la.length = ka.length ∧ kt.length = ka.length) := ⟨hla, hlt⟩
 obtain ⟨W4, hW4⟩ : ∃ W4, W4 = (((w.alloc (.cells #[.int .i64 5, .slice ana la.length anc, .slice aka ka.length akc] 26)).alloc (.cells #[.int .i64 5, .slice bna lb.length bnc, .slice bka kb.length bkc] 26)).alloc (.cells #[.int .i64 5, .int .i64 0, .string ByteArray.empty, .slice tna tnl tnc, .slice tka kt.length tkc] 29)).alloc (.cells #[.int .i64 0, .int .i64 0, .string ⟨#[]⟩, .slice none 0 0, .slice none 0 0] 29) := ⟨_, rfl⟩
 have hb4 : Below w.heap.size w W4 := by rw [hW4]; exact ((((Below.refl _ _).alloc (Nat.le_refl _) _).alloc (by simp) _).alloc (by simp; omega) _).alloc (by simp; omega) _
 have hz4 : W4.heap.size = w.heap.size + 1 + 1 + 1 + 1 := by rw [hW4]; simp
 have c : W4.cell? ⟨w.heap.size, 1, none⟩ = some (.slice ana la.length anc) ∧ W4.cell? ⟨w.heap.size, 2, none⟩ = some (.slice aka ka.length akc) ∧ W4.cell? ⟨w.heap.size + 1, 1, none⟩ = some (.slice bna lb.length bnc) ∧ W4.cell? ⟨w.heap.size + 1, 2, none⟩ = some (.slice bka kb.length bkc) ∧ W4.cell? ⟨w.heap.size + 1 + 1, 4, none⟩ = some (.slice tka kt.length tkc) := by
  rw [hW4]
  refine ⟨?_, ?_, ?_, ?_, ?_⟩ <;> simp [go_sem]
 have kz : W4.heap[w.heap.size + 1 + 1 + 1]? = some (.cells #[.int .i64 0, .int .i64 0, .string ⟨#[]⟩, .slice none 0 0, .slice none 0 0] 29 (0, 0)) := by
  have := heap_alloc_new (((w.alloc (.cells #[.int .i64 5, .slice ana la.length anc, .slice aka ka.length akc] 26)).alloc (.cells #[.int .i64 5, .slice bna lb.length bnc, .slice bka kb.length bkc] 26)).alloc (.cells #[.int .i64 5, .int .i64 0, .string ByteArray.empty, .slice tna tnl tnc, .slice tka kt.length tkc] 29)) (.cells #[.int .i64 0, .int .i64 0, .string ⟨#[]⟩, .slice none 0 0, .slice none 0 0] 29)
  rw [hW4]; simpa using this
 have HK : Hid (∀ W, Below (w.heap.size + 1 + 1 + 1 + 1) W4 W → (W.cell? ⟨w.heap.size, 1, none⟩ = some (.slice ana la.length anc) ∧ W.cell? ⟨w.heap.size, 2, none⟩ = some (.slice aka ka.length akc) ∧ W.cell? ⟨w.heap.size + 1, 1, none⟩ = some (.slice bna lb.length bnc) ∧ W.cell? ⟨w.heap.size + 1, 2, none⟩ = some (.slice bka kb.length bkc) ∧ W.cell? ⟨w.heap.size + 1 + 1, 4, none⟩ = some (.slice tka kt.length tkc)) ∧
   Below w.heap.size w W ∧ W.heap[w.heap.size + 1 + 1 + 1]? = some (.cells #[.int .i64 0, .int .i64 0, .string ⟨#[]⟩, .slice none 0 0, .slice none 0 0] 29 (0, 0))) := fun W hW => by
  have hbW : Below w.heap.size w W := hb4.trans (hW.mono (by omega))
  have g : ∀ (b o : Nat), b < w.heap.size + 1 + 1 + 1 → W.cell? ⟨b, o, none⟩ = W4.cell? ⟨b, o, none⟩ := fun b o h => hW.cell (p := ⟨b, o, none⟩) (by show b < _; omega)
  exact ⟨⟨(g _ _ (by omega)).trans c.1, (g _ _ (by omega)).trans c.2.1, (g _ _ (by omega)).trans c.2.2.1, (g _ _ (by omega)).trans c.2.2.2.1, (g _ _ (by omega)).trans c.2.2.2.2⟩, hbW, (hW.block (w.heap.size + 1 + 1 + 1) (by omega)).trans kz⟩
 have hl1 : la.length ≤ maxLen := by obtain ⟨ao, c', e', h, -⟩ := h1; exact h
 clear hm h1 h2 h3 h4 h5 hga hgb hgt hff hkk c kz hs8 hAa hts
 obtain ⟨it0, hi0, hy0, hy1, hyb⟩ := info_parts Tryz.info_treeW
 have HIT : Hid (_ ∧ _ ∧ _ ∧ _) := ⟨hi0, hy0, hy1, hyb⟩
 clear hi0 hy0 hy1 hyb
 obtain ⟨is0, hi0, hy0, hy1, hyb⟩ := info_parts Tryz.info_strW
 have HIS : Hid (_ ∧ _ ∧ _ ∧ _) := ⟨hi0, hy0, hy1, hyb⟩
 clear hi0 hy0 hy1 hyb hlb hla hlt
 unfold maxLen at hl1
 go_enter Tryz.func30, Tryz.ntmps30
 go_wp2_with fail
 rw [← hW4]
 clear hW4
 go_loopw [10] (fun i wr => ∃ (j : Nat) (nv kv : Value), j ≤ lb.length ∧ i = .int .i64 j ∧ Many w.heap.size (w.heap.size + 1 + 1 + 1 + 1) m W4 wr 5 (lb.take j) (ts.take j) nv kv ∧ Below (w.heap.size + 1 + 1 + 1 + 1) W4 wr) (fun i _ => lb.length - (intOf i).toNat)
 case atStart =>
  refine ⟨0, .slice none 0 0, .slice none 0 0, Nat.zero_le _, rfl, ⟨Near.alloc _ _ _, ?_, ⟨by simp, .inl ⟨rfl, by simp⟩⟩, by simp, ⟨[], ⟨by simp, .inl ⟨rfl, by simp⟩⟩, fun j hj => absurd hj (by simp)⟩, fun b hb => by cases hb⟩, (Below.refl _ _).alloc (by omega) _⟩
  rw [← hz4]; exact heap_alloc_new _ _
 case round =>
  obtain ⟨j, nv, kv, hj, rfl, hM, hbel⟩ := hrel
  obtain ⟨w0, rfl⟩ : ∃ w0, w0 = wr := ⟨_, rfl⟩
  obtain ⟨⟨cA1, cA2, cB1, cB2, cT⟩, hbw, hres⟩ := HK.out w0 hbel
  obtain ⟨nva, nvc, rfl⟩ := owns_shape hM.names
  obtain ⟨xs, hxs, hkids⟩ := hM.kids
  obtain ⟨kva, kvc, rfl⟩ := owns_shape hxs
  have hX := hM.lt
  have hlN : (lb.take j).length = j := by simp; omega
  have hlK : (ts.take j).length = j := by have := HTL.out; simp; omega
  have HM : Hid (Many w.heap.size (w.heap.size + 1 + 1 + 1 + 1) m W4 w0 5 (lb.take j) (ts.take j) (.slice nva j nvc) (.slice kva j kvc)) := by
   show Many _ _ _ _ _ _ _ _ _ _
   rw [hlN, hlK] at hM; exact hM
  have HBel := hidF hbel
  clear hM hxs hkids
  by_cases hlt : j < lb.length
  ·
   have hlti : (j : Int) < (lb.length : Int) := by omega
   have hj2 : j < kb.length := by rw [← HLB.out]; exact hlt
   have hjt : j < ts.length := by rw [HTL.out]; exact hlt
   have hj2i : (j : Int) < (kb.length : Int) := by omega
   obtain ⟨gn, on, hno, hgn, hcn⟩ := HNB.out j hlt
   have h8 := H8.out _ (List.getElem_mem hlt)
   obtain ⟨V, hV⟩ : ∃ V, V = w0.alloc (.cells #[.int .i64 6, .int .i64 0, .string ⟨#[]⟩, .slice none 0 0, .slice none 0 0] 29) := ⟨_, rfl⟩
   have hbV : Below w0.heap.size w0 V := by rw [hV]; exact (Below.refl _ _).alloc (Nat.le_refl _) _
   have hVb : V.heap[w0.heap.size]? = some (.cells #[.int .i64 6, .int .i64 0, .string ⟨#[]⟩, .slice none 0 0, .slice none 0 0] 29 (0, 0)) := by rw [hV]; exact heap_alloc_new _ _
   have HTJ' : Hid (∀ tk : T m, KidIs m n p la ka kt lb[j] kb[j] la.length tk → ts.take (j + 1) = ts.take j ++ [tk]) := fun tk h => by
    rw [List.take_succ_eq_append_getElem hjt, HTJ.out j hlt hj2 hjt tk h]
   have HNT : Hid (lb.take (j + 1) = lb.take j ++ [lb[j]]) := List.take_succ_eq_append_getElem hlt
   subst hno
   clear HTJ hres HNB
   go_wp2_with fail
   rw [← hV]
   clear hV cA1 cA2 cB1 cB2 cT
   have HV : Hid (Below w0.heap.size w0 V ∧ V.heap[w0.heap.size]? = some (.cells #[.int .i64 6, .int .i64 0, .string ⟨#[]⟩, .slice none 0 0, .slice none 0 0] 29 (0, 0))) := ⟨hbV, hVb⟩
   clear hbV hVb
   go_loopw [12] (fun iv wi => ∃ (q : Nat) (tk : T m) (c0 c1 c2 c3 c4 : Value), q ≤ la.length ∧ iv = .int .i64 q ∧ Below w0.heap.size w0 wi ∧ wi.heap[w0.heap.size]? = some (.cells #[c0, c1, c2, c3, c4] 29 (0, 0)) ∧ TreeIn (fun b => w0.heap.size + 1 ≤ b ∧ b < wi.heap.size) wi m tk c0 c1 c2 c3 c4 ∧ KidIs m n p la ka kt lb[j] kb[j] q tk) (fun iv _ => la.length - (intOf iv).toNat)
   case atStart => exact ⟨0, noneT m kb[j], _, _, _, _, _, Nat.zero_le _, rfl, HV.out.1, HV.out.2, none_in m _ _ _, .inl ⟨fun r _ h => absurd h (Nat.not_lt_zero _), rfl⟩⟩
   case round =>
    obtain ⟨q, tk, b0, b1, b2, b3, b4, hq, rfl, hbi, hki, hin, hKI⟩ := hrel
    obtain ⟨o0, o1, o2, o3a, o3l, o3c, o4a, o4l, o4c, rfl, rfl, rfl, rfl, rfl⟩ := hin.shape
    have hzi := hbi.size
    have hKbi : w0.heap.size < wr.heap.size := (Array.getElem?_eq_some_iff.1 hki).1
    have hbX : Below (w.heap.size + 1 + 1 + 1 + 1) W4 wr := HBel.out.trans (hbi.mono (by omega))
    obtain ⟨⟨cA1, cA2, cB1, cB2, cT⟩, hbwi, -⟩ := HK.out wr hbX
    have f2 := (hbwi.cell (p := ⟨gn, on + j, none⟩) hgn).trans hcn
    have HKI := hidF hKI
    have HIn := hidF hin
    have HBi : Hid (Below w0.heap.size w0 wr) := hbi
    have HKi := hidF hki
    clear hin hKI hbi hki
    by_cases hqlt : q < la.length
    ·
     have hqi : (q : Int) < (la.length : Int) := by omega
     obtain ⟨ga1, oa1, hna, hga1, hca1⟩ := HNA.out q hqlt
     have f1 := (hbwi.cell (p := ⟨ga1, oa1 + q, none⟩) hga1).trans hca1
     have HQL : Hid (q + 1 ≤ la.length) := hqlt
     subst hna
     by_cases he : la[q] = lb[j]
     ·
      have heq : (la[q].toList == lb[j].toList) = true := by rw [str_beq]; simpa using he
      obtain ⟨r2, r3, ga, oa, gb, ob, gt, ot, hka, hga, hkb, hgb, hkt, hgt, i0, ia, il, ic, ja, jl, jc, z0, za, zl, zc, ya, yl, yc, q0, q1, q2, qa, ql, qc, ra, rl, rc, ⟨l0, l1, l2⟩, ⟨k0, k1, k2⟩, ⟨m0, m1, m2, m3, m4⟩, hcall⟩ := HKID.out q hqlt j hlt hj2 he
      subst hka hkb hkt
      have hqa : (q : Int) < (ka.length : Int) := by omega
      have hqt : (q : Int) < (kt.length : Int) := by omega
      have HKS : Hid (∀ W, Below (w.heap.size + 1 + 1 + 1 + 1) W4 W → (W.cell? ⟨w.heap.size, 2, none⟩ = some (.slice (some ⟨ga, oa, none⟩) ka.length akc) ∧ W.cell? ⟨w.heap.size + 1, 2, none⟩ = some (.slice (some ⟨gb, ob, none⟩) kb.length bkc) ∧ W.cell? ⟨w.heap.size + 1 + 1, 4, none⟩ = some (.slice (some ⟨gt, ot, none⟩) kt.length tkc)) ∧
        (W.cell? ⟨ga, oa + q * 3, none⟩ = some (.int .i64 i0) ∧ W.cell? ⟨ga, oa + q * 3 + 1, none⟩ = some (.slice ia il ic) ∧ W.cell? ⟨ga, oa + q * 3 + 2, none⟩ = some (.slice ja jl jc)) ∧ (W.cell? ⟨gb, ob + j * 3, none⟩ = some (.int .i64 z0) ∧ W.cell? ⟨gb, ob + j * 3 + 1, none⟩ = some (.slice za zl zc) ∧ W.cell? ⟨gb, ob + j * 3 + 2, none⟩ = some (.slice ya yl yc)) ∧
        (W.cell? ⟨gt, ot + q * 5, none⟩ = some (.int .i64 q0) ∧ W.cell? ⟨gt, ot + q * 5 + 1, none⟩ = some (.int .i64 q1) ∧ W.cell? ⟨gt, ot + q * 5 + 2, none⟩ = some (.string q2) ∧ W.cell? ⟨gt, ot + q * 5 + 3, none⟩ = some (.slice qa ql qc) ∧ W.cell? ⟨gt, ot + q * 5 + 4, none⟩ = some (.slice ra rl rc))) := fun W hW => by
       obtain ⟨⟨-, g2, -, g4, g5⟩, gb', -⟩ := HK.out W hW
       exact ⟨⟨g2, g4, g5⟩, ⟨(gb'.cell (p := ⟨ga, oa + q * 3, none⟩) hga).trans l0, (gb'.cell (p := ⟨ga, oa + q * 3 + 1, none⟩) hga).trans l1, (gb'.cell (p := ⟨ga, oa + q * 3 + 2, none⟩) hga).trans l2⟩, ⟨(gb'.cell (p := ⟨gb, ob + j * 3, none⟩) hgb).trans k0, (gb'.cell (p := ⟨gb, ob + j * 3 + 1, none⟩) hgb).trans k1, (gb'.cell (p := ⟨gb, ob + j * 3 + 2, none⟩) hgb).trans k2⟩,
        ⟨(gb'.cell (p := ⟨gt, ot + q * 5, none⟩) hgt).trans m0, (gb'.cell (p := ⟨gt, ot + q * 5 + 1, none⟩) hgt).trans m1, (gb'.cell (p := ⟨gt, ot + q * 5 + 2, none⟩) hgt).trans m2, (gb'.cell (p := ⟨gt, ot + q * 5 + 3, none⟩) hgt).trans m3, (gb'.cell (p := ⟨gt, ot + q * 5 + 4, none⟩) hgt).trans m4⟩⟩
      have HC : Hid (∀ nq, Calls Tryz.prog 30 #[.agg #[.int .i64 i0, .slice ia il ic, .slice ja jl jc], .agg #[.int .i64 z0, .slice za zl zc, .slice ya yl yc], .agg #[.int .i64 q0, .int .i64 q1, .string q2, .slice qa ql qc, .slice ra rl rc]] (wr.drewN nq).drew fun en w' => Below wr.heap.size (wr.drewN nq).drew w' ∧ ∃ u0 u1 u2 va vl vc pa pl pc, en = .returned (.agg #[.int .i64 u0, .int .i64 u1, .string u2, .slice va vl vc, .slice pa pl pc]) ∧ Hid (TreeIn (fun b => wr.heap.size ≤ b ∧ b < w'.heap.size) w' m (widT m kb[j] n ka[q] p kt[q]) (.int .i64 u0) (.int .i64 u1) (.string u2) (.slice va vl vc) (.slice pa pl pc))) := fun nq => hcall _ (below_drewN hbwi nq).drew
      have HHit : Hid (KidIs m n p la ka kt lb[j] kb[j] (q + 1) (widT m kb[j] n ka[q] p kt[q])) := KidIs.hit hqlt r2 r3 he
      clear hcall l0 l1 l2 k0 k1 k2 m0 m1 m2 m3 m4 hca1 he
      generalize widT m kb[j] n ka[q] p kt[q] = tn at *
      generalize la[q] = s1 at *
      go_wp2_with fail
      go_quiet (fail)
      have hbq : Below (w.heap.size + 1 + 1 + 1 + 1) W4 (wr.drewN nq).drew := (below_drewN hbX nq).drew
      have HKq : Hid ((wr.drewN nq).drew.heap[w0.heap.size]? = some (.cells #[.int .i64 o0, .int .i64 o1, .string o2, .slice o3a o3l o3c, .slice o4a o4l o4c] 29 (0, 0))) := HKi.out
      have HBq : Hid (Below w0.heap.size w0 (wr.drewN nq).drew) := (below_drewN HBi.out nq).drew
      go_wp2_with fail
      go_region_held (fun W => (W.cell? ⟨w.heap.size, 2, none⟩ = some (.slice (some ⟨ga, oa, none⟩) ka.length akc) ∧ W.cell? ⟨w.heap.size + 1, 2, none⟩ = some (.slice (some ⟨gb, ob, none⟩) kb.length bkc) ∧ W.cell? ⟨w.heap.size + 1 + 1, 4, none⟩ = some (.slice (some ⟨gt, ot, none⟩) kt.length tkc)) ∧
        (W.cell? ⟨ga, oa + q * 3, none⟩ = some (.int .i64 i0) ∧ W.cell? ⟨ga, oa + q * 3 + 1, none⟩ = some (.slice ia il ic) ∧ W.cell? ⟨ga, oa + q * 3 + 2, none⟩ = some (.slice ja jl jc)) ∧ (W.cell? ⟨gb, ob + j * 3, none⟩ = some (.int .i64 z0) ∧ W.cell? ⟨gb, ob + j * 3 + 1, none⟩ = some (.slice za zl zc) ∧ W.cell? ⟨gb, ob + j * 3 + 2, none⟩ = some (.slice ya yl yc)) ∧
        (W.cell? ⟨gt, ot + q * 5, none⟩ = some (.int .i64 q0) ∧ W.cell? ⟨gt, ot + q * 5 + 1, none⟩ = some (.int .i64 q1) ∧ W.cell? ⟨gt, ot + q * 5 + 2, none⟩ = some (.string q2) ∧ W.cell? ⟨gt, ot + q * 5 + 3, none⟩ = some (.slice qa ql qc) ∧ W.cell? ⟨gt, ot + q * 5 + 4, none⟩ = some (.slice ra rl rc))) (first | with_reducible assumption | (refine HKS.out _ ?_; first | with_reducible assumption | with_reducible exact below_set5 hb5 hXk _ _ _ _ _)) (first
       | (go_at_call 30; refine (HC.out nq).mono ?_; rintro en w5 ⟨hb5', u0, u1, u2, va, vl, vc, pa, pl, pc, rfl, hin5⟩; have hz5 : wr.heap.size ≤ w5.heap.size := hb5'.size; have hXk : w.heap.size + 1 + 1 + 1 + 1 ≤ w0.heap.size := (by omega); have hb5 : Below (w.heap.size + 1 + 1 + 1 + 1) W4 w5 := hbq.trans (hb5'.mono (by omega)); have hk5 := (hb5'.block w0.heap.size hKbi).trans HKq.out; obtain ⟨⟨r0, r1, r2', r3', r4⟩, f0, f1', f2', f3, f4⟩ := cells5 hk5))
      all_goals
       have HF : Hid (∃ (c0 c1 c2 c3 c4 : Value), Below w0.heap.size w0 (put5 w5 w0.heap.size 0 (.int .i64 u0) (.int .i64 u1) (.string u2) (.slice va vl vc) (.slice pa pl pc)) ∧ (put5 w5 w0.heap.size 0 (.int .i64 u0) (.int .i64 u1) (.string u2) (.slice va vl vc) (.slice pa pl pc)).heap[w0.heap.size]? = some (.cells #[c0, c1, c2, c3, c4] 29 (0, 0)) ∧ TreeIn (fun b => w0.heap.size + 1 ≤ b ∧ b < (put5 w5 w0.heap.size 0 (.int .i64 u0) (.int .i64 u1) (.string u2) (.slice va vl vc) (.slice pa pl pc)).heap.size) (put5 w5 w0.heap.size 0 (.int .i64 u0) (.int .i64 u1) (.string u2) (.slice va vl vc) (.slice pa pl pc)) m tn c0 c1 c2 c3 c4) := by
        refine ⟨_, _, _, _, _, put5_below (HBq.out.trans (hb5'.mono (by omega))) (Nat.le_refl _), put5_block hk5, hin5.out.keep (fun b hb => put5_other (by omega)) (fun b hb => ⟨by omega, by rw [put5_size]; exact hb.2⟩)⟩
       clear hin5 hb5 hb5' hk5
       go_wp2_with fail
       go_roundw
       case rel => obtain ⟨c0, c1, c2, c3, c4, g1, g2, g3⟩ := HF.out; exact ⟨q + 1, tn, c0, c1, c2, c3, c4, HQL.out, by go_num, g1, g2, g3, HHit.out⟩
       case measure => have := HQL.out; simp [intOf]; omega
     ·
      have heq : (la[q].toList == lb[j].toList) = false := by rw [str_beq]; simpa using he
      have HMiss : Hid (KidIs m n p la ka kt lb[j] kb[j] (q + 1) tk) := HKI.out.miss hqlt he
      clear he hca1
      generalize la[q] = s1 at *
      go_wp2_with fail
      go_quiet (fail)
      have HF : Hid (Below w0.heap.size w0 (wr.drewN nq) ∧ (wr.drewN nq).heap[w0.heap.size]? = some (.cells #[.int .i64 o0, .int .i64 o1, .string o2, .slice o3a o3l o3c, .slice o4a o4l o4c] 29 (0, 0)) ∧ TreeIn (fun b => w0.heap.size + 1 ≤ b ∧ b < (wr.drewN nq).heap.size) (wr.drewN nq) m tk (.int .i64 o0) (.int .i64 o1) (.string o2) (.slice o3a o3l o3c) (.slice o4a o4l o4c)) :=
       ⟨below_drewN HBi.out nq, HKi.out, TreeIn.keep (w := wr) (w' := wr.drewN nq) (fun _ _ => rfl) (fun _ h => h) HIn.out⟩
      go_wp2_with fail
      go_roundw
      case rel => exact ⟨q + 1, tk, _, _, _, _, _, HQL.out, by go_num, HF.out.1, HF.out.2.1, HF.out.2.2, HMiss.out⟩
      case measure => have := HQL.out; simp [intOf]; omega
    ·
     have hqi : ¬ (q : Int) < (la.length : Int) := by omega
     have HTT : Hid (ts.take (j + 1) = ts.take j ++ [tk]) := HTJ'.out tk (by have e : q = la.length := (by omega); rw [← e]; exact HKI.out)
     clear HKID HNA HKI
     have HMr : Hid (Many w.heap.size (w.heap.size + 1 + 1 + 1 + 1) m W4 wr 5 (lb.take j) (ts.take j) (.slice nva j nvc) (.slice kva j kvc)) := HM.out.keep (by omega) (Near.of_below HBi.out)
     have HN0 : Hid (w0.ownsRow (w.heap.size + 1 + 1 + 1 + 1 + 1) 9 1 (.slice nva j nvc) j ((lb.take j).map .string)) := by
      have := HM.out.names
      rw [hlN] at this; exact this
     have HXN : Hid (wr.ownsRow (w.heap.size + 1 + 1 + 1 + 1 + 1) 9 1 (.slice nva j nvc) j ((lb.take j).map .string)) := by
      have := HMr.out.names
      rw [hlN] at this; exact this
     have HK0 : Hid (∀ b, (Value.slice kva j kvc).ownBlock = some b → b < w0.heap.size) := fun b hb => by
      obtain ⟨xs, hxs, -⟩ := HM.out.kids
      exact (owns_lt hxs b hb).2
     have hbox := HMr.out.box
     have x3 : wr.cell? ⟨w.heap.size + 1 + 1 + 1 + 1, 3, none⟩ = some (.slice nva j nvc) := by simp [World.cell?, hbox]
     have hoxN : ∀ o, (wr.drew.alloc o).ownsRow (w.heap.size + 1 + 1 + 1 + 1 + 1) 9 1 (.slice nva j nvc) j ((lb.take j).map .string) := fun o => HXN.out.drew.alloc o
     have hXr : w.heap.size + 1 + 1 + 1 + 1 < wr.heap.size := HMr.out.lt
     have h39' := h39
     clear hbox
     generalize lb[j] = nm at *
     go_upto_region 25 with fail
     go_cut [10, 11] from 92 to 149 (fun iv kp wx => iv = .int .i64 j ∧ kp = .pointer (some ⟨w0.heap.size, 0, none⟩) ∧ ∃ g cap, Many w.heap.size (w.heap.size + 1 + 1 + 1 + 1) m W4 wx 5 (lb.take j ++ [nm]) (ts.take j) (.slice (some ⟨g, 0, none⟩) (j + 1) cap) (.slice kva j kvc) ∧ Below (w.heap.size + 1 + 1 + 1 + 1) W4 wx ∧ wx.heap[w0.heap.size]? = some (.cells #[.int .i64 o0, .int .i64 o1, .string o2, .slice o3a o3l o3c, .slice o4a o4l o4c] 29 (0, 0)) ∧
       TreeIn (Far (w.heap.size + 1 + 1 + 1 + 1 + 1) (.slice (some ⟨g, 0, none⟩) (j + 1) cap) (.slice kva j kvc) wx.heap.size) wx m tk (.int .i64 o0) (.int .i64 o1) (.string o2) (.slice o3a o3l o3c) (.slice o4a o4l o4c))
     case first =>
      go_region_law (first
       | (refine step_append_lies _ (by rfl) (.tmp 135) (.tmp 141) 23 (by rfl) (w.heap.size + 1 + 1 + 1 + 1 + 1) 9 is0 _ 1 16 Tryz.underlying23 HIS.out.1 HIS.out.2.1 HIS.out.2.2.1 HIS.out.2.2.2 rfl (by decide) (.slice nva j nvc) j ((lb.take j).map .string) (by rfl) (hoxN _) ⟨wr.heap.size, 0, none⟩ 1 1 [.string nm] (by rfl) rfl (World.news_of_block (heap_alloc_new wr.drew _)) (by simp [Value.oneCell']) (by decide) (by unfold maxLen; omega) (by omega) (by simp; omega) (wr.heap.size + 1) (by simp) ?_; intro g cap w3 hown hgrow hat hlt3; have hb3 := ((hgrow.block (w.heap.size + 1 + 1 + 1 + 1) (by simp; omega) (fun e => by have := owns_lt HXN.out _ e.symm; omega)).trans (Below.heap_alloc _ _ _ (by simpa using hXr))).trans HMr.out.box; have x3'' : w3.cell? ⟨w.heap.size + 1 + 1 + 1 + 1, 3, none⟩ = some (.slice nva j nvc) := (by simp [World.cell?, hb3]); have xf'' : w3.frozen? ⟨w.heap.size + 1 + 1 + 1 + 1, 3, none⟩ = false := (by simp [World.frozen?, hb3])))
      all_goals
       have hMN := HMr.out.name (Wa := wr.drew.alloc (.cells #[.string nm] 9)) (one := .cells #[.string nm] 9) (x := nm) (g := g) (cap := cap) (by omega) rfl ⟨rfl, rfl, rfl⟩ (by omega) (by rw [hlN]; exact hown) hgrow hat
       rw [hlN] at hMN
       have hgz : wr.heap.size + 1 ≤ w3.heap.size := by have := hgrow.size; simpa using this
       have far : ∀ b, b < wr.heap.size → (Value.slice nva j nvc).ownBlock ≠ some b → b ≠ w.heap.size + 1 + 1 + 1 + 1 → (w3.setCell ⟨w.heap.size + 1 + 1 + 1 + 1, 3, none⟩ (.slice (some ⟨g, 0, none⟩) (j + 1) cap)).heap[b]? = wr.heap[b]? := fun b h1 h2 h3 => by
        rw [Below.heap_setCell _ _ _ _ h3, hgrow.block b (by simp; omega) (fun e => h2 e.symm)]
        exact Below.heap_alloc wr _ _ h1
       have hb4' : Below (w.heap.size + 1 + 1 + 1 + 1) W4 (w3.setCell ⟨w.heap.size + 1 + 1 + 1 + 1, 3, none⟩ (.slice (some ⟨g, 0, none⟩) (j + 1) cap)) :=
        ((hbX.drew.alloc (by simp; omega) (.cells #[.string nm] 9)).grown hgrow (by simp; omega) (fun q hq => by have := owns_lt HXN.out q hq; omega)).setCell (Nat.le_refl _) _
       have hz3 : (w3.setCell ⟨w.heap.size + 1 + 1 + 1 + 1, 3, none⟩ (.slice (some ⟨g, 0, none⟩) (j + 1) cap)).heap.size = w3.heap.size := by simp
       have hk3 := (far w0.heap.size hKbi (fun e => by have := owns_lt HN0.out _ e; omega) (by omega)).trans HKi.out
       have HT3 : Hid (TreeIn (Far (w.heap.size + 1 + 1 + 1 + 1 + 1) (.slice (some ⟨g, 0, none⟩) (j + 1) cap) (.slice kva j kvc) (w3.setCell ⟨w.heap.size + 1 + 1 + 1 + 1, 3, none⟩ (.slice (some ⟨g, 0, none⟩) (j + 1) cap)).heap.size) (w3.setCell ⟨w.heap.size + 1 + 1 + 1 + 1, 3, none⟩ (.slice (some ⟨g, 0, none⟩) (j + 1) cap)) m tk (.int .i64 o0) (.int .i64 o1) (.string o2) (.slice o3a o3l o3c) (.slice o4a o4l o4c)) := by
        refine HIn.out.keep (fun b hb => far b hb.2 (fun e => by have := owns_lt HN0.out _ e; omega) (by omega)) (fun b hb => ⟨by omega, by rw [hz3]; omega, fun e => ?_, fun e => by have := HK0.out b e; omega⟩)
        have e : g = b := by simpa [Value.ownBlock] using e
        rcases hat with h | h
        · have := owns_lt HN0.out _ h; omega
        · omega
       have HMN : Hid _ := hMN
       have HB4 : Hid _ := hb4'
       have HK3 : Hid _ := hk3
       clear hMN hb4' hk3 far hown hgrow hat hlt3 hb3 x3'' xf'' x3 f2 cA1 cA2 cB1 cB2 cT
       go_wp2_with fail
       go_meet
       exact ⟨rfl, rfl, _, _, HMN.out, HB4.out, HK3.out, HT3.out⟩
     case rest =>
      obtain ⟨rfl, rfl, g, cap, hMN, hb4', hk3, hT3⟩ := hcut
      obtain ⟨xs, hxs, hkids⟩ := hMN.kids
      rw [hlK] at hxs
      have HMN := hidF hMN
      have HXK := hidF hxs
      have HKK := hidF hkids
      have hbx3 := hMN.box
      have x4 : wc.cell? ⟨w.heap.size + 1 + 1 + 1 + 1, 4, none⟩ = some (.slice kva j kvc) := by simp [World.cell?, hbx3]
      have hX3 := hMN.lt
      have HB4 := hidF hb4'
      have HBX := hidF hbx3
      have HT3 := hidF hT3
      obtain ⟨⟨r0, r1, r2, r3, r4⟩, -⟩ := cells5 hk3
      clear hMN hxs hkids hbx3 hb4' hk3 hT3 x3 f2 cA1 cA2 cB1 cB2 cT hoxN HMr HXN HIn HKi HBi hbX hbwi
      go_wp2_with (at_builtin; refine wpList_append_lies _ rfl (.tmp 145) (.tmp 147) 27 rfl (w.heap.size + 1 + 1 + 1 + 1 + 1) 29 it0 _ 5 80 Tryz.underlying27 HIT.out.1 HIT.out.2.1 HIT.out.2.2.1 HIT.out.2.2.2 rfl (by decide) (.slice kva j kvc) j xs rfl (HXK.out.alloc _) ⟨wc.heap.size, 0, none⟩ 1 1 [.int .i64 o0, .int .i64 o1, .string o2, .slice o3a o3l o3c, .slice o4a o4l o4c] rfl rfl (World.news_of_block (heap_alloc_new wc _)) (by simp [Value.oneCell']) (by decide) (by unfold maxLen; omega) (by omega) (by simp; omega) (wc.heap.size + 1) (by simp) ?_; intro g2 cap2 w6 hown6 hgrow6 hat6 hlt6; refine Hid.out ?_)
      refine Lib.hid ?_
      have hb6 := ((hgrow6.block (w.heap.size + 1 + 1 + 1 + 1) (by simp; omega) (fun e => by have := owns_lt HXK.out _ e.symm; omega)).trans (Below.heap_alloc _ _ _ hX3)).trans HBX.out
      have x4'' : w6.cell? ⟨w.heap.size + 1 + 1 + 1 + 1, 4, none⟩ = some (.slice kva j kvc) := by simp [World.cell?, hb6]
      have xf4 : w6.frozen? ⟨w.heap.size + 1 + 1 + 1 + 1, 4, none⟩ = false := by simp [World.frozen?, hb6]
      have hKd := Many.kidF (W := wc) (W1 := wc) (Wa := wc.alloc (.cells #[.int .i64 o0, .int .i64 o1, .string o2, .slice o3a o3l o3c, .slice o4a o4l o4c] 29)) (one := .cells #[.int .i64 o0, .int .i64 o1, .string o2, .slice o3a o3l o3c, .slice o4a o4l o4c] 29) (g := g2) (cap := cap2) (xs := xs)
       HMN.out (by omega) (by omega) (Near.refl _ _) HT3.out rfl ⟨rfl, rfl, rfl⟩ (by rw [hlK]; exact HXK.out) HKK.out (by rw [hlK]; exact hown6) hgrow6 hat6
      rw [hlK] at hKd
      have HF : Hid (Many w.heap.size (w.heap.size + 1 + 1 + 1 + 1) m W4 (w6.setCell ⟨w.heap.size + 1 + 1 + 1 + 1, 4, none⟩ (.slice (some ⟨g2, 0, none⟩) (j + 1) cap2)) 5 (lb.take (j + 1)) (ts.take (j + 1)) (.slice (some ⟨g, 0, none⟩) (j + 1) cap) (.slice (some ⟨g2, 0, none⟩) (j + 1) cap2)) := by
       show Many _ _ _ _ _ _ _ _ _ _
       rw [HNT.out, HTT.out]; exact hKd
      have HB6 : Hid (Below (w.heap.size + 1 + 1 + 1 + 1) W4 (w6.setCell ⟨w.heap.size + 1 + 1 + 1 + 1, 4, none⟩ (.slice (some ⟨g2, 0, none⟩) (j + 1) cap2))) :=
       (((HB4.out.alloc (by omega) (.cells #[.int .i64 o0, .int .i64 o1, .string o2, .slice o3a o3l o3c, .slice o4a o4l o4c] 29)).grown hgrow6 (by simp; omega) (fun q hq => by have := owns_lt HXK.out q hq; omega)).setCell (Nat.le_refl _) _)
      clear hKd hown6 hgrow6 hat6 hb6 x4
      go_wp2_with fail
      go_roundw
      case rel => exact ⟨j + 1, _, _, by omega, by go_num, HF.out, HB6.out⟩
      case measure => simp [intOf]; omega
  ·
   have hjl : j = lb.length := by omega
   have hlti : ¬ (j : Int) < (lb.length : Int) := by omega
   have hbox := HM.out.box
   obtain ⟨⟨r0, r1, r2, r3, r4⟩, f0, f1, f2, f3, f4⟩ := zeroT_cells hres
   have y0 : w0.cell? ⟨w.heap.size + 1 + 1 + 1 + 1, 0, none⟩ = some (.int .i64 5) := by simp [World.cell?, hbox]
   have y1 : w0.cell? ⟨w.heap.size + 1 + 1 + 1 + 1, 1, none⟩ = some (.int .i64 0) := by simp [World.cell?, hbox]
   have y2 : w0.cell? ⟨w.heap.size + 1 + 1 + 1 + 1, 2, none⟩ = some (.string ByteArray.empty) := by simp [World.cell?, hbox]
   have y3 : w0.cell? ⟨w.heap.size + 1 + 1 + 1 + 1, 3, none⟩ = some (.slice nva j nvc) := by simp [World.cell?, hbox]
   have y4 : w0.cell? ⟨w.heap.size + 1 + 1 + 1 + 1, 4, none⟩ = some (.slice kva j kvc) := by simp [World.cell?, hbox]
   have HF : Hid (TreeIn (fun b => w.heap.size ≤ b ∧ b < (put5 w0 (w.heap.size + 1 + 1 + 1) 0 (.int .i64 5) (.int .i64 0) (.string ByteArray.empty) (.slice nva j nvc) (.slice kva j kvc)).heap.size) (put5 w0 (w.heap.size + 1 + 1 + 1) 0 (.int .i64 5) (.int .i64 0) (.string ByteArray.empty) (.slice nva j nvc) (.slice kva j kvc)) (m + 1) (mkT m 5 0 ByteArray.empty lb ts) (.int .i64 5) (.int .i64 0) (.string ByteArray.empty) (.slice nva j nvc) (.slice kva j kvc)) :=
    many_tree HM.out (t := mkT m 5 0 ByteArray.empty lb ts) rfl rfl rfl (by show lb = _; rw [hjl, List.take_length]) (by show ts = _; rw [hjl, ← HTL.out, List.take_length]) (by rfl) (by rw [hlN]; omega) (by rw [hlK]; omega) (by omega) (by omega)
   have HB : Hid (Below w.heap.size w (put5 w0 (w.heap.size + 1 + 1 + 1) 0 (.int .i64 5) (.int .i64 0) (.string ByteArray.empty) (.slice nva j nvc) (.slice kva j kvc))) := put5_below hbw (by omega)
   clear hjl hres hbox HM hlK hlN HK HKID HTJ HNA HNB
   go_wp2_with fail
   refine bodyPost_ret (v := .agg #[.int .i64 5, .int .i64 0, .string ByteArray.empty, .slice nva j nvc, .slice kva j kvc]) (by simp [results, Tryz.results30, go_sem, r0, r1, r2, r3, r4]) rfl ?_
   exact ⟨_, _, _, _, _, rfl, HF.out, HB.out⟩

end Go.Proofs.YtpalkdcgbbbmeaaGreatDoor
