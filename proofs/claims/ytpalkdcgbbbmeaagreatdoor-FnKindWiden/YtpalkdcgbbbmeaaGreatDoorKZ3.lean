/-
  The specification's l3Widen: of maybes.
-/
import Derived.Test.YtpalkdcgbbbmeaaGreatDoorKZ2
namespace Go.Proofs.YtpalkdcgbbbmeaaGreatDoor
open Go.RowKit

set_option maxRecDepth 100000 in
set_option maxHeartbeats 8000000 in
theorem l3Widen_maybe (m : Nat) (hm : WidSSaid m) (S : Nat → Prop) (n p : Nat) (a : K (n + 1)) (b : K (m + 1)) (t : T (p + 1)) (y : K m) (x : K n) (a0 a1 a2 b0 b1 b2 e0 e1 e2 e3 e4 : Value) (d d' e : Int) (w : World) (ha : KindIn S w (n + 1) a a0 a1 a2) (hb : KindIn S w (m + 1) b b0 b1 b2) (ht : TreeIn S w (p + 1) t e0 e1 e2 e3 e4) (hB : ∀ b, S b → b < w.heap.size)
    (hgx : goodK n x d = true) (hgy : goodK m y d' = true) (hcy : cntK m y ≤ 40) (hgt : goodT (p + 1) t e = true) (hf : fitsK m y n x = true) (hh : ∀ u, u ∈ Nd.kids t → hasK n x p u = true) (sb : Kd.sort b = 6) (sa : Kd.sort a = 6) (st : Nd.sort t = 6) (ky : Kd.kids b = [y]) (kx : Kd.kids a = [x]) :
    Calls Tryz.prog 30 #[.agg #[a0, a1, a2], .agg #[b0, b1, b2], .agg #[e0, e1, e2, e3, e4]] w fun en w' => ∃ g0 g1 g2 g3 g4, en = .returned (.agg #[g0, g1, g2, g3, g4]) ∧ TreeIn (fun b => w.heap.size ≤ b ∧ b < w'.heap.size) w' (m + 1) (widT (m + 1) b (n + 1) a (p + 1) t) g0 g1 g2 g3 g4 ∧ Below w.heap.size w w' := by
  rw [widT_mm sb sa ky kx]
  have hgk := goodT_all hgt
  have h20 := good_20 hgt (by omega)
  obtain ⟨hn0, htx0⟩ := goodT_bare hgt (by omega)
  obtain ⟨rfl, hwa, ha1, ha2⟩ := ha
  obtain ⟨ana, anc, rfl, -⟩ := ha1
  rw [kx] at ha2
  obtain ⟨aka, akc, rfl, -, hak⟩ := ha2
  obtain ⟨ja, joff, rfl, hSj, hak⟩ := hak (by simp)
  obtain ⟨x0, x1, x2, l0, l1, l2, hxin⟩ := hak 0 (by simp)
  obtain ⟨i0, ia, il, ic, ha_, hl_, hc_, rfl, rfl, rfl⟩ := hxin.shape
  obtain ⟨rfl, hwb, hb1, hb2⟩ := hb
  obtain ⟨bna, bnc, rfl, -⟩ := hb1
  rw [ky] at hb2
  obtain ⟨bka, bkc, rfl, -, hbk⟩ := hb2
  obtain ⟨kb, koff, rfl, hSk, hbk⟩ := hbk (by simp)
  obtain ⟨y0, y1, y2, k0, k1, k2, hyin⟩ := hbk 0 (by simp)
  obtain ⟨z0, za, zl, zc, ua, ul, uc, rfl, rfl, rfl⟩ := hyin.shape
  have hkb := hB kb hSk
  have hja := hB ja hSj
  obtain ⟨rfl, rfl, rfl, -, -, -, ht3, ht4⟩ := ht
  obtain ⟨tna, tnc, rfl, -⟩ := ht3
  obtain ⟨tka, tkc, rfl, htl, htk⟩ := ht4
  rw [sb, sa, st, hn0, htx0, show [y].length = 1 from rfl, show [x].length = 1 from rfl]
  simp only [List.getElem_cons_zero] at hyin hxin
  obtain ⟨ks, hks⟩ : ∃ ks, ks = Nd.kids t := ⟨_, rfl⟩
  rw [← hks] at htl htk h20 hgk hh ⊢
  have HTK : Hid (∀ j (h : j < ks.length), ∃ tb toff, tka = some ⟨tb, toff, none⟩ ∧ tb < w.heap.size ∧ ∃ q0 q1 q2 qa ql qc ra rl rc, w.cell? ⟨tb, toff + j * 5, none⟩ = some (.int .i64 q0) ∧ w.cell? ⟨tb, toff + j * 5 + 1, none⟩ = some (.int .i64 q1) ∧ w.cell? ⟨tb, toff + j * 5 + 2, none⟩ = some (.string q2) ∧ w.cell? ⟨tb, toff + j * 5 + 3, none⟩ = some (.slice qa ql qc) ∧ w.cell? ⟨tb, toff + j * 5 + 4, none⟩ = some (.slice ra rl rc) ∧
      ∀ W, Below w.heap.size w W → Calls Tryz.prog 30 #[.agg #[.int .i64 i0, .slice ia il ic, .slice ha_ hl_ hc_], .agg #[.int .i64 z0, .slice za zl zc, .slice ua ul uc], .agg #[.int .i64 q0, .int .i64 q1, .string q2, .slice qa ql qc, .slice ra rl rc]] W fun en w' => Below W.heap.size W w' ∧ ∃ u0 u1 u2 va vl vc pa pl pc, en = .returned (.agg #[.int .i64 u0, .int .i64 u1, .string u2, .slice va vl vc, .slice pa pl pc]) ∧ Hid (TreeIn (fun b => W.heap.size ≤ b ∧ b < w'.heap.size) w' m (widT m y n x p ks[j]) (.int .i64 u0) (.int .i64 u1) (.string u2) (.slice va vl vc) (.slice pa pl pc))) := fun j hj => by
    obtain ⟨tb, toff, rfl, hSt, htk⟩ := htk (by intro h; rw [h] at hj; simp at hj)
    obtain ⟨v0, v1, v2, v3, v4, m0, m1, m2, m3, m4, hin⟩ := htk j hj
    obtain ⟨q0, q1, q2, qa, ql, qc, ra, rl, rc, rfl, rfl, rfl, rfl, rfl⟩ := hin.shape
    refine ⟨tb, toff, rfl, hB tb hSt, q0, q1, q2, qa, ql, qc, ra, rl, rc, m0, m1, m2, m3, m4, fun W hW => ?_⟩
    obtain ⟨h1, h2⟩ := hxin.step hB hW
    obtain ⟨h3, -⟩ := hyin.step hB hW
    obtain ⟨h4, -⟩ := hin.step hB hW
    refine (hm S n p x y ks[j] _ _ _ _ _ _ _ _ _ _ _ d d' _ W h1 h3 h4 h2 hgx hgy hcy (hgk _ (List.getElem_mem hj)) hf (hh _ (List.getElem_mem hj))).mono ?_
    rintro en w' ⟨g0, g1, g2, g3, g4, rfl, hin, hbl⟩
    obtain ⟨u0, u1, u2, va, vl, vc, pa, pl, pc, rfl, rfl, rfl, rfl, rfl⟩ := hin.shape
    exact ⟨hbl, _, _, _, _, _, _, _, _, _, rfl, hin⟩
  generalize (Kd.names a).length = la1 at *
  generalize (Kd.names b).length = lb1 at *
  generalize (Nd.names t).length = ln1 at *
  obtain ⟨W4, hW4⟩ : ∃ W4, W4 = (((w.alloc (.cells #[.int .i64 6, .slice ana la1 anc, .slice (some ⟨ja, joff, none⟩) 1 akc] 26)).alloc (.cells #[.int .i64 6, .slice bna lb1 bnc, .slice (some ⟨kb, koff, none⟩) 1 bkc] 26)).alloc (.cells #[.int .i64 6, .int .i64 0, .string ByteArray.empty, .slice tna ln1 tnc, .slice tka ks.length tkc] 29)).alloc (.cells #[.int .i64 0, .int .i64 0, .string ⟨#[]⟩, .slice none 0 0, .slice none 0 0] 29) := ⟨_, rfl⟩
  have hb4 : Below w.heap.size w W4 := by rw [hW4]; exact ((((Below.refl _ _).alloc (Nat.le_refl _) _).alloc (by simp) _).alloc (by simp; omega) _).alloc (by simp; omega) _
  have hz4 : W4.heap.size = w.heap.size + 1 + 1 + 1 + 1 := by rw [hW4]; simp
  have c : W4.cell? ⟨w.heap.size, 2, none⟩ = some (.slice (some ⟨ja, joff, none⟩) 1 akc) ∧ W4.cell? ⟨w.heap.size + 1, 2, none⟩ = some (.slice (some ⟨kb, koff, none⟩) 1 bkc) ∧ W4.cell? ⟨w.heap.size + 1 + 1, 4, none⟩ = some (.slice tka ks.length tkc) := by
    rw [hW4]
    refine ⟨?_, ?_, ?_⟩ <;> simp [go_sem]
  have kz : W4.heap[w.heap.size + 1 + 1 + 1]? = some (.cells #[.int .i64 0, .int .i64 0, .string ⟨#[]⟩, .slice none 0 0, .slice none 0 0] 29 (0, 0)) := by
    have := heap_alloc_new (((w.alloc (.cells #[.int .i64 6, .slice ana la1 anc, .slice (some ⟨ja, joff, none⟩) 1 akc] 26)).alloc (.cells #[.int .i64 6, .slice bna lb1 bnc, .slice (some ⟨kb, koff, none⟩) 1 bkc] 26)).alloc (.cells #[.int .i64 6, .int .i64 0, .string ByteArray.empty, .slice tna ln1 tnc, .slice tka ks.length tkc] 29)) (.cells #[.int .i64 0, .int .i64 0, .string ⟨#[]⟩, .slice none 0 0, .slice none 0 0] 29)
    rw [hW4]; simpa using this
  have HK : Hid (∀ W, Below (w.heap.size + 1 + 1 + 1 + 1) W4 W → (W.cell? ⟨w.heap.size, 2, none⟩ = some (.slice (some ⟨ja, joff, none⟩) 1 akc) ∧ W.cell? ⟨w.heap.size + 1, 2, none⟩ = some (.slice (some ⟨kb, koff, none⟩) 1 bkc) ∧ W.cell? ⟨w.heap.size + 1 + 1, 4, none⟩ = some (.slice tka ks.length tkc)) ∧
      (W.cell? ⟨ja, joff, none⟩ = some (.int .i64 i0) ∧ W.cell? ⟨ja, joff + 1, none⟩ = some (.slice ia il ic) ∧ W.cell? ⟨ja, joff + 2, none⟩ = some (.slice ha_ hl_ hc_)) ∧ (W.cell? ⟨kb, koff, none⟩ = some (.int .i64 z0) ∧ W.cell? ⟨kb, koff + 1, none⟩ = some (.slice za zl zc) ∧ W.cell? ⟨kb, koff + 2, none⟩ = some (.slice ua ul uc)) ∧
      Below w.heap.size w W ∧ W.heap[w.heap.size + 1 + 1 + 1]? = some (.cells #[.int .i64 0, .int .i64 0, .string ⟨#[]⟩, .slice none 0 0, .slice none 0 0] 29 (0, 0))) := fun W hW => by
    have hbW : Below w.heap.size w W := hb4.trans (hW.mono (by omega))
    exact ⟨⟨(hW.cell (p := ⟨w.heap.size, 2, none⟩) (by show w.heap.size < _; omega)).trans c.1, (hW.cell (p := ⟨w.heap.size + 1, 2, none⟩) (by show w.heap.size + 1 < _; omega)).trans c.2.1, (hW.cell (p := ⟨w.heap.size + 1 + 1, 4, none⟩) (by show w.heap.size + 1 + 1 < _; omega)).trans c.2.2⟩,
      ⟨(hbW.cell (p := ⟨ja, joff, none⟩) hja).trans (by simpa using l0), (hbW.cell (p := ⟨ja, joff + 1, none⟩) hja).trans (by simpa using l1), (hbW.cell (p := ⟨ja, joff + 2, none⟩) hja).trans (by simpa using l2)⟩,
      ⟨(hbW.cell (p := ⟨kb, koff, none⟩) hkb).trans (by simpa using k0), (hbW.cell (p := ⟨kb, koff + 1, none⟩) hkb).trans (by simpa using k1), (hbW.cell (p := ⟨kb, koff + 2, none⟩) hkb).trans (by simpa using k2)⟩,
      hbW, (hW.block (w.heap.size + 1 + 1 + 1) (by omega)).trans kz⟩
  clear hm hxin hyin k0 k1 k2 l0 l1 l2 hbk hak hgx hgy hcy hgt hf hh c kz sa ky kx hwa hwb hgk htk hks st sb hn0 htx0 hkb hja
  obtain ⟨it0, hi0, hy0, hy1, hyb⟩ := info_parts Tryz.info_treeW
  have HIT : Hid (_ ∧ _ ∧ _ ∧ _) := ⟨hi0, hy0, hy1, hyb⟩
  clear hi0 hy0 hy1 hyb
  unfold maxLen at htl
  go_enter Tryz.func30, Tryz.ntmps30
  go_wp2_with fail
  rw [← hW4]
  clear hW4
  go_loopw [8] (fun i wr => ∃ (j : Nat) (kv : Value), j ≤ ks.length ∧ i = .int .i64 j ∧ Many w.heap.size (w.heap.size + 1 + 1 + 1 + 1) m W4 wr 6 [] ((ks.map (fun u => widT m y n x p u)).take j) (.slice none 0 0) kv ∧ Below (w.heap.size + 1 + 1 + 1 + 1) W4 wr) (fun i _ => ks.length - (intOf i).toNat)
  case atStart =>
    refine ⟨0, .slice none 0 0, Nat.zero_le _, rfl, ⟨Near.alloc _ _ _, ?_, ⟨by simp, .inl ⟨rfl, by simp⟩⟩, by simp, ⟨[], ⟨by simp, .inl ⟨rfl, by simp⟩⟩, fun j hj => absurd hj (by simp)⟩, fun b hb => by cases hb⟩, (Below.refl _ _).alloc (by omega) _⟩
    rw [← hz4]; exact heap_alloc_new _ _
  case round =>
    obtain ⟨j, kv, hj, rfl, hM, hbel⟩ := hrel
    obtain ⟨xs, hxs, hkids⟩ := hM.kids
    obtain ⟨kva, kvc, rfl⟩ := owns_shape hxs
    have hX := hM.lt
    have hlK : ((ks.map (fun u => widT m y n x p u)).take j).length = j := by simp; omega
    rw [hlK] at hxs
    obtain ⟨⟨i1, i2, i3⟩, -, -, hbw, hres⟩ := HK.out wr hbel
    have hbox := hM.box
    rw [hlK] at hbox
    have HM : Hid (Many w.heap.size (w.heap.size + 1 + 1 + 1 + 1) m W4 wr 6 [] ((ks.map (fun u => widT m y n x p u)).take j) (.slice none 0 0) (.slice kva j kvc)) := by
      show Many _ _ _ _ _ _ _ _ _ _
      rw [hlK] at hM; exact hM
    clear hM
    by_cases hlt : j < ks.length
    · have hlti : (j : Int) < (ks.length : Int) := by omega
      obtain ⟨tb, toff, rfl, htb, q0, q1, q2, qa, ql, qc, ra, rl, rc, m0, m1, m2, m3, m4, hcall⟩ := HTK.out j hlt
      have x4 : wr.cell? ⟨w.heap.size + 1 + 1 + 1 + 1, 4, none⟩ = some (.slice kva j kvc) := by simp [World.cell?, hbox]
      have HKS : Hid (∀ W, Below (w.heap.size + 1 + 1 + 1 + 1) W4 W → (W.cell? ⟨w.heap.size, 2, none⟩ = some (.slice (some ⟨ja, joff, none⟩) 1 akc) ∧ W.cell? ⟨w.heap.size + 1, 2, none⟩ = some (.slice (some ⟨kb, koff, none⟩) 1 bkc) ∧ W.cell? ⟨w.heap.size + 1 + 1, 4, none⟩ = some (.slice (some ⟨tb, toff, none⟩) ks.length tkc)) ∧
          (W.cell? ⟨ja, joff, none⟩ = some (.int .i64 i0) ∧ W.cell? ⟨ja, joff + 1, none⟩ = some (.slice ia il ic) ∧ W.cell? ⟨ja, joff + 2, none⟩ = some (.slice ha_ hl_ hc_)) ∧ (W.cell? ⟨kb, koff, none⟩ = some (.int .i64 z0) ∧ W.cell? ⟨kb, koff + 1, none⟩ = some (.slice za zl zc) ∧ W.cell? ⟨kb, koff + 2, none⟩ = some (.slice ua ul uc)) ∧
          (W.cell? ⟨tb, toff + j * 5, none⟩ = some (.int .i64 q0) ∧ W.cell? ⟨tb, toff + j * 5 + 1, none⟩ = some (.int .i64 q1) ∧ W.cell? ⟨tb, toff + j * 5 + 2, none⟩ = some (.string q2) ∧ W.cell? ⟨tb, toff + j * 5 + 3, none⟩ = some (.slice qa ql qc) ∧ W.cell? ⟨tb, toff + j * 5 + 4, none⟩ = some (.slice ra rl rc))) := fun W hW => by
        obtain ⟨g1, g2, g3, g4, -⟩ := HK.out W hW
        exact ⟨g1, g2, g3, (g4.cell (p := ⟨tb, toff + j * 5, none⟩) htb).trans m0, (g4.cell (p := ⟨tb, toff + j * 5 + 1, none⟩) htb).trans m1, (g4.cell (p := ⟨tb, toff + j * 5 + 2, none⟩) htb).trans m2, (g4.cell (p := ⟨tb, toff + j * 5 + 3, none⟩) htb).trans m3, (g4.cell (p := ⟨tb, toff + j * 5 + 4, none⟩) htb).trans m4⟩
      have HC : Hid (Calls Tryz.prog 30 _ wr.drew _) := hcall wr.drew hbw.drew
      have hbd : Below (w.heap.size + 1 + 1 + 1 + 1) W4 wr.drew := hbel.drew
      have HXK : Hid (wr.ownsRow (w.heap.size + 1 + 1 + 1 + 1 + 1) 29 5 (.slice kva j kvc) j xs) := hxs
      have HKK : Hid (∀ q (h : q < ((ks.map (fun u => widT m y n x p u)).take j).length), _) := hkids
      have HNT : Hid ((ks.map (fun u => widT m y n x p u)).take (j + 1) = (ks.map (fun u => widT m y n x p u)).take j ++ [widT m y n x p ks[j]]) := by
        show _ = _
        rw [List.take_succ_eq_append_getElem (by simpa using hlt)]; simp
      have HBel : Hid (Below (w.heap.size + 1 + 1 + 1 + 1) W4 wr) := hbel
      have hXz : w.heap.size + 1 + 1 + 1 + 1 < wr.heap.size := hX
      clear hxs hkids hcall m0 m1 m2 m3 m4 hres hbel HTK hX
      generalize ks[j] = kj at *
      go_wp2_with fail
      refine wp_region_held_drew (S := (fun W => (W.cell? ⟨w.heap.size, 2, none⟩ = some (.slice (some ⟨ja, joff, none⟩) 1 akc) ∧ W.cell? ⟨w.heap.size + 1, 2, none⟩ = some (.slice (some ⟨kb, koff, none⟩) 1 bkc) ∧ W.cell? ⟨w.heap.size + 1 + 1, 4, none⟩ = some (.slice (some ⟨tb, toff, none⟩) ks.length tkc)) ∧
          (W.cell? ⟨ja, joff, none⟩ = some (.int .i64 i0) ∧ W.cell? ⟨ja, joff + 1, none⟩ = some (.slice ia il ic) ∧ W.cell? ⟨ja, joff + 2, none⟩ = some (.slice ha_ hl_ hc_)) ∧ (W.cell? ⟨kb, koff, none⟩ = some (.int .i64 z0) ∧ W.cell? ⟨kb, koff + 1, none⟩ = some (.slice za zl zc) ∧ W.cell? ⟨kb, koff + 2, none⟩ = some (.slice ua ul uc)) ∧
          (W.cell? ⟨tb, toff + j * 5, none⟩ = some (.int .i64 q0) ∧ W.cell? ⟨tb, toff + j * 5 + 1, none⟩ = some (.int .i64 q1) ∧ W.cell? ⟨tb, toff + j * 5 + 2, none⟩ = some (.string q2) ∧ W.cell? ⟨tb, toff + j * 5 + 3, none⟩ = some (.slice qa ql qc) ∧ W.cell? ⟨tb, toff + j * 5 + 4, none⟩ = some (.slice ra rl rc)))) (by kernel_rfl) (HKS.out _ hbd) (fun hHeld => ?_)
      refine wpAnyH_take (i := 0) (v := ?_) rfl (by kernel_rfl) (by kernel_rfl) (by kernel_rfl) (fun _ _ _ h => h) (Or.inl ⟨by rfl, ?_⟩) (by assumption) ?_
      rotate_left 1
      · (intro wq hSw; (try dsimp only at hSw); go_simp; first | done | with_reducible rfl)
      refine wpAnyH_take (i := 2) (v := ?_) rfl (by kernel_rfl) (by kernel_rfl) (by kernel_rfl) (fun _ _ _ h => h) (Or.inl ⟨by rfl, ?_⟩) (by assumption) ?_
      rotate_left 1
      · (intro wq hSw; (try dsimp only at hSw); go_simp; first | done | with_reducible rfl)
      refine wpAnyH_take (i := 3) (v := ?_) rfl (by kernel_rfl) (by kernel_rfl) (by kernel_rfl) (fun _ _ _ h => h) (Or.inl ⟨by rfl, ?_⟩) (by assumption) ?_
      rotate_left 1
      · (intro wq hSw; (try dsimp only at hSw); go_simp; first | done | with_reducible rfl)
      refine wpAnyH_take (i := 4) (v := ?_) rfl (by kernel_rfl) (by kernel_rfl) (by kernel_rfl) (fun _ _ _ h => h) (Or.inl ⟨by rfl, ?_⟩) (by assumption) ?_
      rotate_left 1
      · (intro wq hSw; (try dsimp only at hSw); go_simp; first | done | with_reducible rfl)
      refine wpAnyH_take (i := 5) (v := ?_) rfl (by kernel_rfl) (by kernel_rfl) (by kernel_rfl) (fun _ _ _ h => h) (Or.inl ⟨by rfl, ?_⟩) (by assumption) ?_
      rotate_left 1
      · (intro wq hSw; (try dsimp only at hSw); go_simp; first | done | with_reducible rfl)
      refine wpAnyH_take (i := 6) (v := ?_) rfl (by kernel_rfl) (by kernel_rfl) (by kernel_rfl) (fun _ _ _ h => h) (Or.inl ⟨by rfl, ?_⟩) (by assumption) ?_
      rotate_left 1
      · (intro wq hSw; (try dsimp only at hSw); go_simp; first | done | with_reducible rfl)
      refine wpAnyH_take (i := 7) (v := ?_) rfl (by kernel_rfl) (by kernel_rfl) (by kernel_rfl) (fun _ _ _ h => h) (Or.inl ⟨by rfl, ?_⟩) (by assumption) ?_
      rotate_left 1
      · (intro wq hSw; (try dsimp only at hSw); go_simp; first | done | with_reducible rfl)
      refine wpAnyH_take (i := 8) (v := ?_) rfl (by kernel_rfl) (by kernel_rfl) (by kernel_rfl) (fun _ _ _ h => h) (Or.inl ⟨by rfl, ?_⟩) (by assumption) ?_
      rotate_left 1
      · (intro wq hSw; (try dsimp only at hSw); go_simp; first | done | with_reducible rfl)
      refine wpAnyH_take (i := 9) (v := ?_) rfl (by kernel_rfl) (by kernel_rfl) (by kernel_rfl) (fun _ _ _ h => h) (Or.inl ⟨by rfl, ?_⟩) (by assumption) ?_
      rotate_left 1
      · (intro wq hSw; (try dsimp only at hSw); go_simp; first | done | with_reducible rfl)
      refine wpAnyH_take (i := 10) (v := ?_) rfl (by kernel_rfl) (by kernel_rfl) (by kernel_rfl) (fun _ _ _ h => h) (Or.inl ⟨by rfl, ?_⟩) (by assumption) ?_
      rotate_left 1
      · (intro wq hSw; (try dsimp only at hSw); go_simp; first | done | with_reducible rfl)
      refine wpAnyH_take (i := 11) (v := ?_) rfl (by kernel_rfl) (by kernel_rfl) (by kernel_rfl) (fun _ _ _ h => h) (Or.inl ⟨by rfl, ?_⟩) (by assumption) ?_
      rotate_left 1
      · (intro wq hSw; (try dsimp only at hSw); go_simp; first | done | with_reducible rfl)
      refine wpAnyH_take (i := 12) (v := ?_) rfl (by kernel_rfl) (by kernel_rfl) (by kernel_rfl) (fun _ _ _ h => h) (Or.inl ⟨by rfl, ?_⟩) (by assumption) ?_
      rotate_left 1
      · (intro wq hSw; (try dsimp only at hSw); go_simp; first | done | with_reducible rfl)
      refine wpAnyH_take (i := 13) (v := ?_) rfl (by kernel_rfl) (by kernel_rfl) (by kernel_rfl) (fun _ _ _ h => h) (Or.inl ⟨by rfl, ?_⟩) (by assumption) ?_
      rotate_left 1
      · (intro wq hSw; (try dsimp only at hSw); go_simp; first | done | with_reducible rfl)
      refine wpAnyH_take (i := 14) (v := ?_) rfl (by kernel_rfl) (by kernel_rfl) (by kernel_rfl) (fun _ _ _ h => h) (Or.inl ⟨by rfl, ?_⟩) (by assumption) ?_
      rotate_left 1
      · (intro wq hSw; (try dsimp only at hSw); go_simp; first | done | with_reducible rfl)
      refine wpAnyH_ready (rs := [1, 15]) (by kernel_rfl) (by simp) ?_
      refine AllReadyH.cons rfl (fun K hK => ?_) (AllReadyH.cons rfl (fun K hK => ?_) AllReadyH.nil)
      · go_simp
        refine hK.out _ _ (HKS.out _ hbd) (fun hHeld => ?_)
        clear hK K
        refine wpAnyH_ready (rs := [15]) (by kernel_rfl) (by simp) ?_
        refine AllReadyH.cons rfl (fun K hK => ?_) AllReadyH.nil
        go_simp
        go_at_call 30
        refine HC.out.mono ?_
        rintro en w5 ⟨hb5', u0, u1, u2, va, vl, vc, pa, pl, pc, rfl, hin5⟩
        have hz5 : wr.heap.size ≤ w5.heap.size := hb5'.size
        have hb5 : Below (w.heap.size + 1 + 1 + 1 + 1) W4 w5 := hbd.trans (hb5'.mono (by show _ ≤ wr.heap.size; omega))
        have hb5a : ∀ o, Below (w.heap.size + 1 + 1 + 1 + 1) W4 (w5.alloc o) := (fun o => hb5.alloc (by omega) o)
        have hbx5 := (hb5'.block (w.heap.size + 1 + 1 + 1 + 1) hXz).trans hbox
        have hoxK : ∀ o, (w5.alloc o).ownsRow (w.heap.size + 1 + 1 + 1 + 1 + 1) 29 5 (.slice kva j kvc) j xs := (fun o => owns_keep HXK.out (fun g' hg' => by have := owns_lt HXK.out g' hg'; rw [Below.heap_alloc _ _ _ (by omega)]; exact hb5'.block g' this.2))
        have x4' : w5.cell? ⟨w.heap.size + 1 + 1 + 1 + 1, 4, none⟩ = some (.slice kva j kvc) := (by simp [World.cell?, hbx5])
        have x4a : (w5.alloc (.cells #[.int .i64 u0, .int .i64 u1, .string u2, .slice va vl vc, .slice pa pl pc] 29)).cell? ⟨w.heap.size + 1 + 1 + 1 + 1, 4, none⟩ = some (.slice kva j kvc) := (World.cell?_of_block (Below.heap_alloc _ _ _ (by show w.heap.size + 1 + 1 + 1 + 1 < _; omega))).trans x4'
        refine hK.out _ _ (HKS.out _ hb5) (fun hHeld => ?_)
        clear hK K
        refine wpAnyH_ready (rs := [16]) (by kernel_rfl) (by simp) ?_
        refine AllReadyH.cons rfl (fun K hK => ?_) AllReadyH.nil
        go_simp
        refine hK.out _ _ (HKS.out _ (hb5a _)) (fun hHeld => ?_)
        clear hK K
        refine wpAnyH_ready (rs := [17]) (by kernel_rfl) (by simp) ?_
        refine AllReadyH.cons rfl (fun K hK => ?_) AllReadyH.nil
        refine step_append_lies _ (by rfl) (.tmp 44) (.tmp 59) 27 (by rfl) (w.heap.size + 1 + 1 + 1 + 1 + 1) 29 it0 _ 5 80 Tryz.underlying27 HIT.out.1 HIT.out.2.1 HIT.out.2.2.1 HIT.out.2.2.2 rfl (by decide) (.slice kva j kvc) j xs (by rfl) (hoxK _) ⟨w5.heap.size, 0, none⟩ 1 1 [.int .i64 u0, .int .i64 u1, .string u2, .slice va vl vc, .slice pa pl pc] (by rfl) rfl (World.news_of_block (heap_alloc_new w5 _)) (by simp [Value.oneCell']) (by decide) (by unfold maxLen; omega) (by omega) (by simp; omega) (w5.heap.size + 1) (by simp) ?_
        intro g2 cap2 w6 hown6 hgrow6 hat6 hlt6
        have hbx6 := ((hgrow6.block (w.heap.size + 1 + 1 + 1 + 1) (by simp; omega) (fun e => by have := owns_lt HXK.out _ e.symm; omega)).trans (Below.heap_alloc _ _ _ (by omega))).trans hbx5
        have x4'' : w6.cell? ⟨w.heap.size + 1 + 1 + 1 + 1, 4, none⟩ = some (.slice kva j kvc) := (by simp [World.cell?, hbx6])
        have xf4 : w6.frozen? ⟨w.heap.size + 1 + 1 + 1 + 1, 4, none⟩ = false := (by simp [World.frozen?, hbx6])
        have hb6 : Below (w.heap.size + 1 + 1 + 1 + 1) W4 w6 := (hb5a (.cells #[.int .i64 u0, .int .i64 u1, .string u2, .slice va vl vc, .slice pa pl pc] 29)).grown hgrow6 (by simp; omega) (fun q hq => by have := owns_lt HXK.out q hq; omega)
        refine hK.out _ _ (HKS.out _ hb6) (fun hHeld => ?_)
        clear hK K
        refine wpAnyH_ready (rs := [18]) (by kernel_rfl) (by simp) ?_
        refine AllReadyH.cons rfl (fun K hK => ?_) AllReadyH.nil
        go_simp
        refine hK.out _ _ (HKS.out _ hb6) (fun hHeld => ?_)
        clear hK K
        refine wpAnyH_ready (rs := [19]) (by kernel_rfl) (by simp) ?_
        refine AllReadyH.cons rfl (fun K hK => ?_) AllReadyH.nil
        go_simp
        refine hK.out _ _ (HKS.out _ (hb6.setCell (Nat.le_refl _) _)) (fun hHeld => ?_)
        clear hK K
        refine wpAnyH_done (by kernel_rfl) ?_ _
        have hKd := Many.kid (W := wr.drew) (W1 := w5) (Wa := w5.alloc (.cells #[.int .i64 u0, .int .i64 u1, .string u2, .slice va vl vc, .slice pa pl pc] 29)) (one := .cells #[.int .i64 u0, .int .i64 u1, .string u2, .slice va vl vc, .slice pa pl pc] 29) (g := g2) (cap := cap2) (xs := xs)
          (HM.out.keep (by omega) (Near.drew (Near.refl _ wr))) (by omega) (by omega) (Near.of_below hb5') hin5.out rfl ⟨rfl, rfl, rfl⟩ (by rw [hlK]; exact HXK.out.drew)
          (fun q hq => by obtain ⟨d0, d1, d2, d3, d4, hd, hdt⟩ := HKK.out q hq; exact ⟨d0, d1, d2, d3, d4, hd, TreeIn.keep (w := wr) (w' := wr.drew) (fun _ _ => rfl) (fun b h => by rw [hlK] at h; exact h) hdt⟩) (by rw [hlK]; exact hown6) hgrow6 hat6
        rw [hlK] at hKd
        have HF : Hid (Many w.heap.size (w.heap.size + 1 + 1 + 1 + 1) m W4 (w6.setCell ⟨w.heap.size + 1 + 1 + 1 + 1, 4, none⟩ (.slice (some ⟨g2, 0, none⟩) (j + 1) cap2)) 6 [] ((ks.map (fun u => widT m y n x p u)).take (j + 1)) (.slice none 0 0) (.slice (some ⟨g2, 0, none⟩) (j + 1) cap2)) := by
          show Many _ _ _ _ _ _ _ _ _ _
          rw [HNT.out]; exact hKd
        have HB6 : Hid (Below (w.heap.size + 1 + 1 + 1 + 1) W4 (w6.setCell ⟨w.heap.size + 1 + 1 + 1 + 1, 4, none⟩ (.slice (some ⟨g2, 0, none⟩) (j + 1) cap2))) := hb6.setCell (Nat.le_refl _) _
        clear hKd hown6 hgrow6 hat6 hin5 hb5' hb5 hb5a hoxK x4' x4a x4'' xf4 hbx6 hbx5 hb6
        go_wp2_with fail
        go_roundw
        case rel => exact ⟨j + 1, _, by omega, by go_num, HF.out, HB6.out⟩
        case measure => simp [intOf]; omega
      · go_simp
        go_at_call 30
        refine HC.out.mono ?_
        rintro en w5 ⟨hb5', u0, u1, u2, va, vl, vc, pa, pl, pc, rfl, hin5⟩
        have hz5 : wr.heap.size ≤ w5.heap.size := hb5'.size
        have hb5 : Below (w.heap.size + 1 + 1 + 1 + 1) W4 w5 := hbd.trans (hb5'.mono (by show _ ≤ wr.heap.size; omega))
        have hb5a : ∀ o, Below (w.heap.size + 1 + 1 + 1 + 1) W4 (w5.alloc o) := (fun o => hb5.alloc (by omega) o)
        have hbx5 := (hb5'.block (w.heap.size + 1 + 1 + 1 + 1) hXz).trans hbox
        have hoxK : ∀ o, (w5.alloc o).ownsRow (w.heap.size + 1 + 1 + 1 + 1 + 1) 29 5 (.slice kva j kvc) j xs := (fun o => owns_keep HXK.out (fun g' hg' => by have := owns_lt HXK.out g' hg'; rw [Below.heap_alloc _ _ _ (by omega)]; exact hb5'.block g' this.2))
        have x4' : w5.cell? ⟨w.heap.size + 1 + 1 + 1 + 1, 4, none⟩ = some (.slice kva j kvc) := (by simp [World.cell?, hbx5])
        have x4a : (w5.alloc (.cells #[.int .i64 u0, .int .i64 u1, .string u2, .slice va vl vc, .slice pa pl pc] 29)).cell? ⟨w.heap.size + 1 + 1 + 1 + 1, 4, none⟩ = some (.slice kva j kvc) := (World.cell?_of_block (Below.heap_alloc _ _ _ (by show w.heap.size + 1 + 1 + 1 + 1 < _; omega))).trans x4'
        refine hK.out _ _ (HKS.out _ hb5) (fun hHeld => ?_)
        clear hK K
        refine wpAnyH_ready (rs := [1, 16]) (by kernel_rfl) (by simp) ?_
        refine AllReadyH.cons rfl (fun K hK => ?_) (AllReadyH.cons rfl (fun K hK => ?_) AllReadyH.nil)
        · go_simp
          refine hK.out _ _ (HKS.out _ hb5) (fun hHeld => ?_)
          clear hK K
          refine wpAnyH_ready (rs := [16]) (by kernel_rfl) (by simp) ?_
          refine AllReadyH.cons rfl (fun K hK => ?_) AllReadyH.nil
          go_simp
          refine hK.out _ _ (HKS.out _ (hb5a _)) (fun hHeld => ?_)
          clear hK K
          refine wpAnyH_ready (rs := [17]) (by kernel_rfl) (by simp) ?_
          refine AllReadyH.cons rfl (fun K hK => ?_) AllReadyH.nil
          refine step_append_lies _ (by rfl) (.tmp 44) (.tmp 59) 27 (by rfl) (w.heap.size + 1 + 1 + 1 + 1 + 1) 29 it0 _ 5 80 Tryz.underlying27 HIT.out.1 HIT.out.2.1 HIT.out.2.2.1 HIT.out.2.2.2 rfl (by decide) (.slice kva j kvc) j xs (by rfl) (hoxK _) ⟨w5.heap.size, 0, none⟩ 1 1 [.int .i64 u0, .int .i64 u1, .string u2, .slice va vl vc, .slice pa pl pc] (by rfl) rfl (World.news_of_block (heap_alloc_new w5 _)) (by simp [Value.oneCell']) (by decide) (by unfold maxLen; omega) (by omega) (by simp; omega) (w5.heap.size + 1) (by simp) ?_
          intro g2 cap2 w6 hown6 hgrow6 hat6 hlt6
          have hbx6 := ((hgrow6.block (w.heap.size + 1 + 1 + 1 + 1) (by simp; omega) (fun e => by have := owns_lt HXK.out _ e.symm; omega)).trans (Below.heap_alloc _ _ _ (by omega))).trans hbx5
          have x4'' : w6.cell? ⟨w.heap.size + 1 + 1 + 1 + 1, 4, none⟩ = some (.slice kva j kvc) := (by simp [World.cell?, hbx6])
          have xf4 : w6.frozen? ⟨w.heap.size + 1 + 1 + 1 + 1, 4, none⟩ = false := (by simp [World.frozen?, hbx6])
          have hb6 : Below (w.heap.size + 1 + 1 + 1 + 1) W4 w6 := (hb5a (.cells #[.int .i64 u0, .int .i64 u1, .string u2, .slice va vl vc, .slice pa pl pc] 29)).grown hgrow6 (by simp; omega) (fun q hq => by have := owns_lt HXK.out q hq; omega)
          refine hK.out _ _ (HKS.out _ hb6) (fun hHeld => ?_)
          clear hK K
          refine wpAnyH_ready (rs := [18]) (by kernel_rfl) (by simp) ?_
          refine AllReadyH.cons rfl (fun K hK => ?_) AllReadyH.nil
          go_simp
          refine hK.out _ _ (HKS.out _ hb6) (fun hHeld => ?_)
          clear hK K
          refine wpAnyH_ready (rs := [19]) (by kernel_rfl) (by simp) ?_
          refine AllReadyH.cons rfl (fun K hK => ?_) AllReadyH.nil
          go_simp
          refine hK.out _ _ (HKS.out _ (hb6.setCell (Nat.le_refl _) _)) (fun hHeld => ?_)
          clear hK K
          refine wpAnyH_done (by kernel_rfl) ?_ _
          have hKd := Many.kid (W := wr.drew) (W1 := w5) (Wa := w5.alloc (.cells #[.int .i64 u0, .int .i64 u1, .string u2, .slice va vl vc, .slice pa pl pc] 29)) (one := .cells #[.int .i64 u0, .int .i64 u1, .string u2, .slice va vl vc, .slice pa pl pc] 29) (g := g2) (cap := cap2) (xs := xs)
            (HM.out.keep (by omega) (Near.drew (Near.refl _ wr))) (by omega) (by omega) (Near.of_below hb5') hin5.out rfl ⟨rfl, rfl, rfl⟩ (by rw [hlK]; exact HXK.out.drew)
            (fun q hq => by obtain ⟨d0, d1, d2, d3, d4, hd, hdt⟩ := HKK.out q hq; exact ⟨d0, d1, d2, d3, d4, hd, TreeIn.keep (w := wr) (w' := wr.drew) (fun _ _ => rfl) (fun b h => by rw [hlK] at h; exact h) hdt⟩) (by rw [hlK]; exact hown6) hgrow6 hat6
          rw [hlK] at hKd
          have HF : Hid (Many w.heap.size (w.heap.size + 1 + 1 + 1 + 1) m W4 (w6.setCell ⟨w.heap.size + 1 + 1 + 1 + 1, 4, none⟩ (.slice (some ⟨g2, 0, none⟩) (j + 1) cap2)) 6 [] ((ks.map (fun u => widT m y n x p u)).take (j + 1)) (.slice none 0 0) (.slice (some ⟨g2, 0, none⟩) (j + 1) cap2)) := by
            show Many _ _ _ _ _ _ _ _ _ _
            rw [HNT.out]; exact hKd
          have HB6 : Hid (Below (w.heap.size + 1 + 1 + 1 + 1) W4 (w6.setCell ⟨w.heap.size + 1 + 1 + 1 + 1, 4, none⟩ (.slice (some ⟨g2, 0, none⟩) (j + 1) cap2))) := hb6.setCell (Nat.le_refl _) _
          clear hKd hown6 hgrow6 hat6 hin5 hb5' hb5 hb5a hoxK x4' x4a x4'' xf4 hbx6 hbx5 hb6
          go_wp2_with fail
          go_roundw
          case rel => exact ⟨j + 1, _, by omega, by go_num, HF.out, HB6.out⟩
          case measure => simp [intOf]; omega
        · go_simp
          refine hK.out _ _ (HKS.out _ (hb5a _)) (fun hHeld => ?_)
          clear hK K
          refine wpAnyH_ready (rs := [1]) (by kernel_rfl) (by simp) ?_
          refine AllReadyH.cons rfl (fun K hK => ?_) AllReadyH.nil
          go_simp
          refine hK.out _ _ (HKS.out _ (hb5a _)) (fun hHeld => ?_)
          clear hK K
          refine wpAnyH_ready (rs := [17]) (by kernel_rfl) (by simp) ?_
          refine AllReadyH.cons rfl (fun K hK => ?_) AllReadyH.nil
          refine step_append_lies _ (by rfl) (.tmp 44) (.tmp 59) 27 (by rfl) (w.heap.size + 1 + 1 + 1 + 1 + 1) 29 it0 _ 5 80 Tryz.underlying27 HIT.out.1 HIT.out.2.1 HIT.out.2.2.1 HIT.out.2.2.2 rfl (by decide) (.slice kva j kvc) j xs (by rfl) (hoxK _) ⟨w5.heap.size, 0, none⟩ 1 1 [.int .i64 u0, .int .i64 u1, .string u2, .slice va vl vc, .slice pa pl pc] (by rfl) rfl (World.news_of_block (heap_alloc_new w5 _)) (by simp [Value.oneCell']) (by decide) (by unfold maxLen; omega) (by omega) (by simp; omega) (w5.heap.size + 1) (by simp) ?_
          intro g2 cap2 w6 hown6 hgrow6 hat6 hlt6
          have hbx6 := ((hgrow6.block (w.heap.size + 1 + 1 + 1 + 1) (by simp; omega) (fun e => by have := owns_lt HXK.out _ e.symm; omega)).trans (Below.heap_alloc _ _ _ (by omega))).trans hbx5
          have x4'' : w6.cell? ⟨w.heap.size + 1 + 1 + 1 + 1, 4, none⟩ = some (.slice kva j kvc) := (by simp [World.cell?, hbx6])
          have xf4 : w6.frozen? ⟨w.heap.size + 1 + 1 + 1 + 1, 4, none⟩ = false := (by simp [World.frozen?, hbx6])
          have hb6 : Below (w.heap.size + 1 + 1 + 1 + 1) W4 w6 := (hb5a (.cells #[.int .i64 u0, .int .i64 u1, .string u2, .slice va vl vc, .slice pa pl pc] 29)).grown hgrow6 (by simp; omega) (fun q hq => by have := owns_lt HXK.out q hq; omega)
          refine hK.out _ _ (HKS.out _ hb6) (fun hHeld => ?_)
          clear hK K
          refine wpAnyH_ready (rs := [18]) (by kernel_rfl) (by simp) ?_
          refine AllReadyH.cons rfl (fun K hK => ?_) AllReadyH.nil
          go_simp
          refine hK.out _ _ (HKS.out _ hb6) (fun hHeld => ?_)
          clear hK K
          refine wpAnyH_ready (rs := [19]) (by kernel_rfl) (by simp) ?_
          refine AllReadyH.cons rfl (fun K hK => ?_) AllReadyH.nil
          go_simp
          refine hK.out _ _ (HKS.out _ (hb6.setCell (Nat.le_refl _) _)) (fun hHeld => ?_)
          clear hK K
          refine wpAnyH_done (by kernel_rfl) ?_ _
          have hKd := Many.kid (W := wr.drew) (W1 := w5) (Wa := w5.alloc (.cells #[.int .i64 u0, .int .i64 u1, .string u2, .slice va vl vc, .slice pa pl pc] 29)) (one := .cells #[.int .i64 u0, .int .i64 u1, .string u2, .slice va vl vc, .slice pa pl pc] 29) (g := g2) (cap := cap2) (xs := xs)
            (HM.out.keep (by omega) (Near.drew (Near.refl _ wr))) (by omega) (by omega) (Near.of_below hb5') hin5.out rfl ⟨rfl, rfl, rfl⟩ (by rw [hlK]; exact HXK.out.drew)
            (fun q hq => by obtain ⟨d0, d1, d2, d3, d4, hd, hdt⟩ := HKK.out q hq; exact ⟨d0, d1, d2, d3, d4, hd, TreeIn.keep (w := wr) (w' := wr.drew) (fun _ _ => rfl) (fun b h => by rw [hlK] at h; exact h) hdt⟩) (by rw [hlK]; exact hown6) hgrow6 hat6
          rw [hlK] at hKd
          have HF : Hid (Many w.heap.size (w.heap.size + 1 + 1 + 1 + 1) m W4 (w6.setCell ⟨w.heap.size + 1 + 1 + 1 + 1, 4, none⟩ (.slice (some ⟨g2, 0, none⟩) (j + 1) cap2)) 6 [] ((ks.map (fun u => widT m y n x p u)).take (j + 1)) (.slice none 0 0) (.slice (some ⟨g2, 0, none⟩) (j + 1) cap2)) := by
            show Many _ _ _ _ _ _ _ _ _ _
            rw [HNT.out]; exact hKd
          have HB6 : Hid (Below (w.heap.size + 1 + 1 + 1 + 1) W4 (w6.setCell ⟨w.heap.size + 1 + 1 + 1 + 1, 4, none⟩ (.slice (some ⟨g2, 0, none⟩) (j + 1) cap2))) := hb6.setCell (Nat.le_refl _) _
          clear hKd hown6 hgrow6 hat6 hin5 hb5' hb5 hb5a hoxK x4' x4a x4'' xf4 hbx6 hbx5 hb6
          go_wp2_with fail
          go_roundw
          case rel => exact ⟨j + 1, _, by omega, by go_num, HF.out, HB6.out⟩
          case measure => simp [intOf]; omega
    · have hjl : j = ks.length := by omega
      have hlti : ¬ (j : Int) < (ks.length : Int) := by omega
      obtain ⟨⟨r0, r1, r2, r3, r4⟩, f0, f1, f2, f3, f4⟩ := zeroT_cells hres
      have y0 : wr.cell? ⟨w.heap.size + 1 + 1 + 1 + 1, 0, none⟩ = some (.int .i64 6) := by simp [World.cell?, hbox]
      have y1 : wr.cell? ⟨w.heap.size + 1 + 1 + 1 + 1, 1, none⟩ = some (.int .i64 0) := by simp [World.cell?, hbox]
      have y2 : wr.cell? ⟨w.heap.size + 1 + 1 + 1 + 1, 2, none⟩ = some (.string ByteArray.empty) := by simp [World.cell?, hbox]
      have y3 : wr.cell? ⟨w.heap.size + 1 + 1 + 1 + 1, 3, none⟩ = some (.slice none 0 0) := by simp [World.cell?, hbox]
      have y4 : wr.cell? ⟨w.heap.size + 1 + 1 + 1 + 1, 4, none⟩ = some (.slice kva j kvc) := by simp [World.cell?, hbox]
      have HF : Hid (TreeIn (fun b => w.heap.size ≤ b ∧ b < (put5 wr (w.heap.size + 1 + 1 + 1) 0 (.int .i64 6) (.int .i64 0) (.string ByteArray.empty) (.slice none 0 0) (.slice kva j kvc)).heap.size) (put5 wr (w.heap.size + 1 + 1 + 1) 0 (.int .i64 6) (.int .i64 0) (.string ByteArray.empty) (.slice none 0 0) (.slice kva j kvc)) (m + 1) (mkT m 6 0 ByteArray.empty [] (ks.map (fun u => widT m y n x p u))) (.int .i64 6) (.int .i64 0) (.string ByteArray.empty) (.slice none 0 0) (.slice kva j kvc)) :=
        many_tree HM.out (t := mkT m 6 0 ByteArray.empty [] (ks.map (fun u => widT m y n x p u))) rfl rfl rfl rfl (by show ks.map _ = _; rw [hjl, ← List.length_map (f := fun u => widT m y n x p u), List.take_length]) (by rfl) (by simp) (by simp; omega) (by omega) (by omega)
      have HB : Hid (Below w.heap.size w (put5 wr (w.heap.size + 1 + 1 + 1) 0 (.int .i64 6) (.int .i64 0) (.string ByteArray.empty) (.slice none 0 0) (.slice kva j kvc))) := put5_below hbw (by omega)
      clear hjl hres hbox HM hlK hxs hkids HTK HK
      go_wp2_with fail
      refine bodyPost_ret (v := .agg #[.int .i64 6, .int .i64 0, .string ByteArray.empty, .slice none 0 0, .slice kva j kvc]) (by simp [results, Tryz.results30, go_sem, r0, r1, r2, r3, r4]) rfl ?_
      exact ⟨_, _, _, _, _, rfl, HF.out, HB.out⟩

end Go.Proofs.YtpalkdcgbbbmeaaGreatDoor
