import Derived.Test.YtmjhcgjhlakceaaGreatDoorB18
namespace Go.Proofs.YtmjhcgjhlakceaaGreatDoor
open Go.RowKit
theorem Tryz.info_strC : (Tryz.prog.info? 9).map (fun i => (i.zero, i.size, i.bytes)) = some (some (.string ⟨#[]⟩), 1, 16) := by kernel_rfl
theorem textC_some {w : World} {R : Nat} {ao : Option Addr} {l : List UInt8} {cap i : Nat} {p : ByteArray × List UInt8} (h : Cu w R ao l cap i) (ht : takeS (l.drop i) = some p) : Calls Tryz.prog 93 #[.pointer (some ⟨R, 0, none⟩)] w fun e w' => ∃ (x : ByteArray) (i' : Nat), e = .returned (.string x) /\ takeS (l.drop i) = some (x, l.drop i') /\ x.size <= 255 /\ Cu w' R ao l cap i' /\ i < i' /\ Near R w w' := by
 refine (textC_any w R ao l cap i h).mono ?_
 rintro e w' ⟨hn, ⟨x, i', h1, h2, h3, h4, h5⟩ | ⟨h1, -⟩⟩
 ·exact ⟨x, i', h2, h1, h3, h4, h5, hn⟩
 ·rw [ht] at h1; cases h1
theorem textC_none {w : World} {R : Nat} {ao : Option Addr} {l : List UInt8} {cap i : Nat} (h : Cu w R ao l cap i) (ht : takeS (l.drop i) = none) : Calls Tryz.prog 93 #[.pointer (some ⟨R, 0, none⟩)] w fun e w' => e = .panicked refusal /\ Near R w w' := by
 refine (textC_any w R ao l cap i h).mono ?_
 rintro e w' ⟨hn, ⟨x, i', h1, -⟩ | ⟨h1, h2⟩⟩
 ·rw [ht] at h1; cases h1
 ·exact ⟨h2, hn⟩
theorem near_zero {R : Nat} {wc W : World} (hW : W = wc.drew ∨ W = wc.drew.alloc zeroT) : Near R wc W := by
 rcases hW with rfl | rfl
 ·exact nearC_drewN (Near.refl R wc) 1
 ·exact (nearC_drewN (Near.refl R wc) 1).trans (Near.alloc R _ _)
theorem cu_zero {R : Nat} {ao : Option Addr} {l : List UInt8} {cap i : Nat} {wc W : World} (h : Cu wc R ao l cap i) (hW : W = wc.drew ∨ W = wc.drew.alloc zeroT) : Cu W R ao l cap i := by
 refine h.keep (near_zero hW) (Eq.trans ?_ h.box) h.le
 rcases hW with rfl | rfl
 ·rfl
 ·exact Below.heap_alloc _ _ _ h.lt
theorem treeC_some {L : Nat} (hI : TrCSaid L) {wc : World} {R : Nat} {ao : Option Addr} {l : List UInt8} {cap i : Nat} {p : T L × List UInt8} (hl : l.length <= L + i) (h : Cu wc R ao l cap i) (ht : decI L (l.drop i) = some p) (W : World) (hW : W = wc.drew ∨ W = wc.drew.alloc zeroT) : Calls Tryz.prog 54 #[.pointer (some ⟨R, 0, none⟩)] W fun e w' => ∃ (t : T L) (c0 c1 c2 c3 c4 : Value) (i' : Nat), e = .returned (.agg #[c0, c1, c2, c3, c4]) /\ decI L (l.drop i) = some (t, l.drop i') /\ TreeIn (fun b => wc.heap.size <= b /\ b < w'.heap.size) w' L t c0 c1 c2 c3 c4 /\ OwnT (fun b => wc.heap.size <= b /\ b < w'.heap.size) w' L t c3 c4 /\ Cu w' R ao l cap i' /\ i < i' /\ Near R W w' /\ Near R wc w' := by
 refine (hI R ao l cap i W hl (cu_zero h hW)).mono ?_
 rintro e w' ⟨hn, ⟨t, c0, c1, c2, c3, c4, i', h1, h2, h3, h3o, h4, h5⟩ | ⟨h1, -⟩⟩
 ·exact ⟨t, c0, c1, c2, c3, c4, i', h2, h1, h3.keep (fun _ _ => rfl) (fun b hb => ⟨Nat.le_trans (near_zero (R := R) hW).size hb.1, hb.2⟩), h3o.keep (fun _ _ => rfl) (fun b hb => ⟨Nat.le_trans (near_zero (R := R) hW).size hb.1, hb.2⟩), h4, h5, hn, (near_zero hW).trans hn⟩
 ·rw [ht] at h1; cases h1
theorem treeC_none {L : Nat} (hI : TrCSaid L) {wc : World} {R : Nat} {ao : Option Addr} {l : List UInt8} {cap i : Nat} (hl : l.length <= L + i) (h : Cu wc R ao l cap i) (ht : decI L (l.drop i) = none) (W : World) (hW : W = wc.drew ∨ W = wc.drew.alloc zeroT) : Calls Tryz.prog 54 #[.pointer (some ⟨R, 0, none⟩)] W fun e w' => e = .panicked refusal /\ Near R wc w' := by
 refine (hI R ao l cap i W hl (cu_zero h hW)).mono ?_
 rintro e w' ⟨hn, ⟨t, c0, c1, c2, c3, c4, i', h1, -⟩ | ⟨h1, h2⟩⟩
 ·rw [ht] at h1; cases h1
 ·exact ⟨h2, (near_zero hW).trans hn⟩
theorem tree_up {L : Nat} {wc v2 : World} {t : T L} {c0 c1 c2 c3 c4 : Value} (h : TreeIn (fun b => wc.heap.size <= b /\ b < v2.heap.size) v2 L t c0 c1 c2 c3 c4) (o : Obj) : TreeIn (fun b => wc.heap.size <= b /\ b < (v2.alloc o).heap.size) (v2.alloc o) L t c0 c1 c2 c3 c4 :=
 h.keep (fun b hb => Below.heap_alloc _ _ _ hb.2) (fun b hb => ⟨hb.1, by have := hb.2; simp; omega⟩)
theorem own_up {L : Nat} {wc v2 : World} {t : T L} {c3 c4 : Value} (h : OwnT (fun b => wc.heap.size <= b /\ b < v2.heap.size) v2 L t c3 c4) (o : Obj) : OwnT (fun b => wc.heap.size <= b /\ b < (v2.alloc o).heap.size) (v2.alloc o) L t c3 c4 :=
 h.keep (fun b hb => Below.heap_alloc _ _ _ hb.2) (fun b hb => ⟨hb.1, by have := hb.2; simp; omega⟩)
set_option maxRecDepth 20000 in
set_option maxHeartbeats 8000000 in
theorem kidsC_step (L : Nat) (hI : TrCSaid L) : KdCSaid L := fun R ao l cap i X s w0 w hs hL hRX hw0 h0 h hM => by
 have HC := Lib.hid (takeC_any w R ao l cap i h)
 have HM0 := Lib.hid hM
 have H0 := Lib.hid h0
 have HI := Lib.hid hI
 have HL := Lib.hid hL
 clear hI h hM h0 hL
 go_enter Tryz.func96, Tryz.ntmps96
 go_wp2_with fail
 refine HC.out.mono ?_
 rintro e w1 ⟨hn1, ⟨hi, rfl, h1⟩ | ⟨hi, rfl⟩⟩
 case inr => exact ⟨rfl, .inr ⟨kidsB_nil hi, rfl, HM0.out.near.trans hn1⟩⟩
 have HM1 := Lib.hid (HM0.out.keep hRX hn1)
 have HC1 := Lib.hid h1
 have hv := l[i].toNat_lt
 have HB : Hid (kidsB L (s : Int) (l.drop i) = kidsI (decI L) (s : Int) l[i].toNat (l.drop (i + 1))) := kidsB_at hi
 obtain ⟨v, hvv⟩ : ∃ v, l[i].toNat = v := ⟨_, rfl⟩
 rw [hvv] at hv HB
 rw [hvv]
 clear HC h1 hn1 hvv hi HM0
 go_wp2_with fail
 go_loopw [6] (fun jv wr => ∃ (j nl i3 : Nat) (ns : List ByteArray) (ks : List (T L)) (na : Option Addr) (nc : Nat) (ka : Option Addr) (kc : Nat), jv = .int .u8 (j : Int) /\ j <= v /\ ks.length = j /\ ns.length = nl /\ nl <= j /\ midK L (s : Int) l (i + 1) v ns ks (v - j) i3 /\ i < i3 /\ Cu wr R ao l cap i3 /\ ManyP R X L w0 wr (s : Int) ns ks (.slice na nl nc) (.slice ka j kc)) (fun jv _ => v - (intOf jv).toNat)
 case atStart => exact ⟨0, 0, i + 1, [], [], none, 0, none, 0, rfl, by omega, rfl, rfl, by omega, midK_start _ _ _ _ _, by omega, HC1.out, HM1.out⟩
 case round =>
  obtain ⟨j, nl, i3, ns, ks, na, nc, ka, kc, rfl, hj, hkl, hnl, hnlj, hmid, hii, hcu, hmn⟩ := hrel
  have hXr := hmn.lt
  have HM := Lib.hid hmn
  have HR := Lib.hid hcu
  have HMid := Lib.hid hmid
  have HKL := Lib.hid hkl
  have HNL := Lib.hid hnl
  have HII := Lib.hid hii
  clear HM1 HC1 hmid hcu hmn hkl hnl hii
  by_cases hjv : j = v
  ·have hge : ¬ (j : Int) < (v : Int) := by omega
   have HP : Hid (KidsC L X (s : Int) w0 R ao l cap i (.returned (.tuple #[])) wr) := by
    refine .inl ⟨ns, ks, .slice na nl nc, .slice ka j kc, i3, ?_, rfl, HM.out, HR.out, HII.out, by have := HNL.out; omega, by have := HKL.out; omega⟩
    have hm := HMid.out
    rw [show v - j = 0 by omega] at hm
    rw [HB.out, midK_end hm]
   clear HM HR HMid HKL HNL HII HB HI HL H0 hs hjv
   go_wp2_with fail
   exact bodyPost_end (results_none rfl _ _ _) rfl HP.out
  have hlt : (j : Int) < (v : Int) := by omega
  obtain ⟨k, hk⟩ : ∃ k, v - j = k + 1 := ⟨v - j - 1, by omega⟩
  have HVK : Hid (v - (j + 1) = k /\ j + 1 <= v) := ⟨by omega, by omega⟩
  have HMk : Hid (midK L (s : Int) l (i + 1) v ns ks (k + 1) i3) := by have h := HMid.out; rw [hk] at h; exact h
  have hwj : IntKind.u8.wrap ((j : Int) + 1) = (j : Int) + 1 := by rw [IntKind.wrap_u8]; omega
  have x0 := (zeroR_cells HM.out.box).1.1
  have hjj : (j : Int) < (j : Int) + 1 := by omega
  have HPn : Hid (∀ W, kidsI (decI L) (s : Int) v (l.drop (i + 1)) = none -> Near R w0 W -> KidsC L X (s : Int) w0 R ao l cap i (.panicked refusal) W) := fun W h1 h2 => .inr ⟨by rw [HB.out]; exact h1, rfl, h2⟩
  clear hk hjv HMid HB hs
  by_cases h5 : s = 5
  ·subst h5
   have x0 : wr.cell? ⟨X, 0, none⟩ = some (.int .i64 5) := x0
   have HO : Hid (wr.ownsRow (X + 1) 9 1 (.slice na nl nc) nl (ns.map .string)) := by
    have := HM.out.names
    rw [HNL.out] at this; exact this
   have x3 : wr.cell? ⟨X, 3, none⟩ = some (.slice na nl nc) := (zeroR_cells HM.out.box).1.2.2.2.1
   obtain ⟨is0, hi0', hy0, hy1, hyb⟩ := info_parts Tryz.info_strC
   have HIS : Hid (_ /\ _ /\ _ /\ _) := ⟨hi0', hy0, hy1, hyb⟩
   clear hi0' hy0 hy1 hyb
   cases hts : takeS (l.drop i3) with
   | none =>
    have HK := Lib.hid (textC_none (HR.out.drewN 1) hts)
    have HPP : Hid (∀ W, Near R wr.drew W -> KidsC L X 5 w0 R ao l cap i (.panicked refusal) W) := fun W hW => HPn.out W (midK_five_no HMk.out hts) (HM.out.near.trans ((nearC_drewN (Near.refl R wr) 1).trans hW))
    clear hts HPn HO HIS
    go_wp2_with fail
    go_region_dies
    all_goals (go_at_call 93; refine HK.out.mono ?_; rintro e w' ⟨rfl, hnw⟩; exact ⟨rfl, HPP.out _ hnw⟩)
   | some pp =>
    have HK := Lib.hid (textC_some (HR.out.drewN 1) hts)
    clear hts
    go_upto_region 3 with fail
    go_cut [6] from 6 to 36 (fun jv wx => jv = .int .u8 (j : Int) /\ ∃ (x : ByteArray) (i4 g cap' : Nat), takeS (l.drop i3) = some (x, l.drop i4) /\ i3 < i4 /\ Cu wx R ao l cap i4 /\ ManyP R X L w0 wx ((5 : Nat) : Int) (ns ++ [x]) ks (.slice (some ⟨g, 0, none⟩) (nl + 1) cap') (.slice ka j kc))
    case first =>
     go_region_law (first
      | (refine step_append_lies _ (by rfl) (.tmp 17) (.tmp 20) 24 (by rfl) (X + 1) 9 is0 _ 1 16 Tryz.underlying24 HIS.out.1 HIS.out.2.1 HIS.out.2.2.1 HIS.out.2.2.2 rfl (by decide) (.slice na nl nc) nl (ns.map .string) (by rfl) (hox2 _) ⟨v2.heap.size, 0, none⟩ 1 1 [.string x5] (by rfl) rfl (World.news_of_block (heap_alloc_new v2 _)) (by simp [Value.oneCell']) (by decide) (by unfold maxLen; omega) (by omega) (by simp; omega) (v2.heap.size + 1) (by simp) ?_; intro g2 cap2 v3 hown2 hgrow2 hat2 hlt2; have hb6 := (box_after (W := wr.drew) HO.out hXr (by omega) hn5 hgrow2).trans HM.out.box; have x3'' : v3.cell? ⟨X, 3, none⟩ = some (.slice na nl nc) := (by simp [World.cell?, hb6]); have xg'' : v3.frozen? ⟨X, 3, none⟩ = false := (by simp [World.frozen?, hb6]))
      | (go_simp; go_at_call 93; refine HK.out.mono ?_; rintro e v2 ⟨x5, i5, rfl, hts5, hx5, hR5, hii5, hn5⟩; have hsz2 : wr.heap.size <= v2.heap.size := hn5.size; have hox2 := fun o => owns_on (R := R) (X := X) (W := wr.drew) HO.out (by omega) hn5 o; have x3' : v2.cell? ⟨X, 3, none⟩ = some (.slice na nl nc) := (World.cell?_of_block (hn5.block X (by simpa using hXr) (by omega))).trans x3; have x3a : (v2.alloc (.cells #[.string x5] 9)).cell? ⟨X, 3, none⟩ = some (.slice na nl nc) := (World.cell?_of_block (Below.heap_alloc _ _ _ (by show X < _; omega))).trans x3'))
     all_goals
      have hnw : Near R wr v2 := (nearC_drewN (Near.refl R wr) 1).trans hn5
      have hF := ManyP.name (W := v2) (Wa := v2.alloc (.cells #[.string x5] 9)) (one := .cells #[.string x5] 9) (x := x5) (g := g2) (cap := cap2) (HM.out.keep hRX hnw) hw0 rfl ⟨rfl, rfl, rfl⟩ (by omega) (by rw [HNL.out]; exact hown2) hgrow2 hat2
      rw [HNL.out] at hF
      have HF := hidF hF
      have HDn : Hid (Cu (v3.setCell ⟨X, 3, none⟩ (.slice (some ⟨g2, 0, none⟩) (nl + 1) cap2)) R ao l cap i5) :=
       H0.out.keep hF.near (box_afterR (W := wr.drew) HO.out hRX (by omega) hgrow2 _ 3 hR5.box) hR5.le
      have HTs := Lib.hid hts5
      have HLt := Lib.hid hii5
      clear hF hown2 hgrow2 hat2 hlt2 hR5 hn5 hox2 x3' x3a x3'' xg'' hb6 hts5 hnw x3 hii5
      go_wp2_with fail
      go_meet
      exact ⟨by go_num, x5, i5, g2, cap2, HTs.out, HLt.out, HDn.out, HF.out⟩
    case rest =>
     obtain ⟨rfl, x, i4, g, cap', hts4, hii4, hR4c, hM2⟩ := hcut
     have HTs := Lib.hid hts4
     have HRc := Lib.hid hR4c
     have HM2 := Lib.hid hM2
     have HLt := Lib.hid hii4
     clear hts4 hR4c hM2 hii4 x3 HO HK x0 HIS
     have hXc := HM2.out.lt
     have hRc := HRc.out.lt
     obtain ⟨xs, Ps, hxs, hpl, hko, hln⟩ := HM2.out.own
     have HKK : Hid (_ /\ _ /\ _) := ⟨hpl, hko, hln⟩
     have HXL : Hid (xs.length = j * 5) := by have h := hxs.1; rw [HKL.out] at h; exact h
     have HX : Hid (wc.ownsRow (X + 1) 27 5 (.slice ka j kc) j xs) := by
      rw [HKL.out] at hxs; exact hxs
     have HM2X := Lib.hid HM2.out.box
     have x4 : wc.cell? ⟨X, 4, none⟩ = some (.slice ka j kc) := (zeroR_cells HM2.out.box).1.2.2.2.2
     obtain ⟨ik0, hi0', hy0, hy1, hyb⟩ := info_parts Tryz.info_treeR
     have HIK : Hid (_ /\ _ /\ _ /\ _) := ⟨hi0', hy0, hy1, hyb⟩
     clear hi0' hy0 hy1 hyb hxs hpl hko hln
     have HLL : Hid (l.length <= L + i4) := by have h1 := HL.out; have h2 := HII.out; have h3 := HLt.out; show _ <= _; omega
     cases hde : decI L (l.drop i4) with
     | none =>
      have HK := Lib.hid (treeC_none HI.out HLL.out HRc.out hde)
      have HPP : Hid (∀ W, Near R wc W -> KidsC L X ((5 : Nat) : Int) w0 R ao l cap i (.panicked refusal) W) := fun W hW => HPn.out W (midK_five_no2 HMk.out HTs.out hde) (HM2.out.near.trans hW)
      clear hde HPn HX HXL HIK HKK HM2X
      go_wp2_with fail
      go_region_dies
      all_goals (go_at_call 54; refine (HK.out _ (by first | exact .inl rfl | exact .inr rfl)).mono ?_; rintro e w' ⟨rfl, hnw⟩; exact ⟨rfl, HPP.out _ hnw⟩)
     | some pp =>
      have HK := Lib.hid (treeC_some HI.out HLL.out HRc.out hde)
      clear hde HPn
      go_wp2_with fail
      go_region_law (first
       | (go_simp; go_at_call 54; refine (HK.out _ (by first | with_reducible exact .inl rfl | with_reducible exact .inr rfl)).mono ?_; rintro e v2 ⟨t5, f0, f1, f2, f3, f4, i5, rfl, hde5, ht5, ho5, hR5, hii5, hnW, hnA⟩; obtain ⟨t0, t1, t2, ta, tl, tc, ua, ul, uc, rfl, rfl, rfl, rfl, rfl⟩ := ht5.shape; have hsz2 : wc.heap.size <= v2.heap.size := hnA.size; have hnB : Near R wc (v2.alloc zeroT) := hnA.trans (Near.alloc R _ _); have x4a : v2.cell? ⟨X, 4, none⟩ = some (.slice ka j kc) := (World.cell?_of_block (hnA.block X hXc (by omega))).trans x4; have x4b : (v2.alloc zeroT).cell? ⟨X, 4, none⟩ = some (.slice ka j kc) := (World.cell?_of_block (hnB.block X hXc (by omega))).trans x4; try (have hzb := zero_kept hnW hRc))
       | (refine step_append_lies _ (by rfl) (.tmp 27) (.tmp 31) 25 (by rfl) (X + 1) 27 ik0 _ 5 80 Tryz.underlying25 HIK.out.1 HIK.out.2.1 HIK.out.2.2.1 HIK.out.2.2.2 rfl (by decide) (.slice ka j kc) j xs (by rfl) (owns_near HX.out hRX hnB) ⟨v2.heap.size, 0, none⟩ 1 1 [.int .i64 0, .int .i64 0, .string ⟨#[]⟩, .slice none 0 0, .slice none 0 0] (by rfl) rfl (World.news_of_block (heap_alloc_new v2 _)) (by simp [Value.oneCell']) (by decide) (by unfold maxLen; omega) (by omega) (by simp; omega) (v2.alloc zeroT).heap.size rfl ?_; intro g2 cap2 v3 hown2 hgrow2 hat2 hlt2; have hgl2 := owns_lt hown2 g2 rfl; have hgX : g2 ≠ X := (by omega); have hXg : X ≠ g2 := (by omega); have hb6 := boxZ_after HM2X.out HX.out hRX hnB hgrow2; have x4'' : v3.cell? ⟨X, 4, none⟩ = some (.slice ka j kc) := (by simp [World.cell?, hb6]); have xg'' : v3.frozen? ⟨X, 4, none⟩ = false := (by simp [World.frozen?, hb6]); obtain ⟨⟨r0, r1, r2, r3, r4⟩, rf⟩ := zrow_cells hown2 HXL.out; have rf0 := rf (j * 5); have rf1 := rf (j * 5 + 1); have rf2 := rf (j * 5 + 2); have rf3 := rf (j * 5 + 3); have rf4 := rf (j * 5 + 4); have HF := Lib.hid (kidZ_all HKL.out HM2.out.toMany hRX hw0 hnB (tree_up ht5 _) (own_up ho5 _) HX.out HKK.out.1 HKK.out.2.1 HKK.out.2.2 hown2 hgrow2 hat2 H0.out (hR5.same ((Below.refl _ _).alloc (Nat.le_refl _) _))); clear rf hown2 hgrow2 hat2 hb6 hlt2)
       | (refine step_append_lies _ (by rfl) (.tmp 27) (.tmp 31) 25 (by rfl) (X + 1) 27 ik0 _ 5 80 Tryz.underlying25 HIK.out.1 HIK.out.2.1 HIK.out.2.2.1 HIK.out.2.2.2 rfl (by decide) (.slice ka j kc) j xs (by rfl) (owns_near HX.out hRX hnA) ⟨wc.heap.size, 0, none⟩ 1 1 [.int .i64 0, .int .i64 0, .string ⟨#[]⟩, .slice none 0 0, .slice none 0 0] (by rfl) rfl (World.news_of_block hzb) (by simp [Value.oneCell']) (by decide) (by unfold maxLen; omega) (by omega) (by omega) v2.heap.size rfl ?_; intro g2 cap2 v3 hown2 hgrow2 hat2 hlt2; have hgl2 := owns_lt hown2 g2 rfl; have hgX : g2 ≠ X := (by omega); have hXg : X ≠ g2 := (by omega); have hb6 := boxZ_after HM2X.out HX.out hRX hnA hgrow2; have x4'' : v3.cell? ⟨X, 4, none⟩ = some (.slice ka j kc) := (by simp [World.cell?, hb6]); have xg'' : v3.frozen? ⟨X, 4, none⟩ = false := (by simp [World.frozen?, hb6]); obtain ⟨⟨r0, r1, r2, r3, r4⟩, rf⟩ := zrow_cells hown2 HXL.out; have rf0 := rf (j * 5); have rf1 := rf (j * 5 + 1); have rf2 := rf (j * 5 + 2); have rf3 := rf (j * 5 + 3); have rf4 := rf (j * 5 + 4); have HF := Lib.hid (kidZ_all HKL.out HM2.out.toMany hRX hw0 hnA (ht5) (ho5) HX.out HKK.out.1 HKK.out.2.1 HKK.out.2.2 hown2 hgrow2 hat2 H0.out (hR5)); clear rf hown2 hgrow2 hat2 hb6 hlt2))
      all_goals
       have HDe := Lib.hid hde5
       have HLt5 := Lib.hid hii5
       clear hde5 hii5 ht5 ho5 hR5 hnW hnA hnB x4a x4b x4'' xg'' r0 r1 r2 r3 r4 rf0 rf1 rf2 rf3 rf4
       go_wp2_with fail
       go_roundw
       case rel =>
        have HRl : Hid (midK L ((5 : Nat) : Int) l (i + 1) v (ns ++ [x]) (ks ++ [t5]) (v - (j + 1)) i5 /\ i < i5) := ⟨by rw [HVK.out.1]; exact midK_five HMk.out HTs.out HDe.out, by have h1 := HLt5.out; have h2 := HII.out; have h3 := HLt.out; omega⟩
        first
         | with_reducible exact ⟨j + 1, nl + 1, i5, ns ++ [x], ks ++ [t5], some ⟨g, 0, none⟩, cap', some ⟨g2, 0, none⟩, cap2, by go_num, HVK.out.2, by simp [HKL.out], by simp [HNL.out], by omega, HRl.out.1, HRl.out.2, HF.out.1.2, HF.out.1.1⟩
         | with_reducible exact ⟨j + 1, nl + 1, i5, ns ++ [x], ks ++ [t5], some ⟨g, 0, none⟩, cap', some ⟨g2, 0, none⟩, cap2, by go_num, HVK.out.2, by simp [HKL.out], by simp [HNL.out], by omega, HRl.out.1, HRl.out.2, HF.out.2.2, HF.out.2.1⟩
       case measure => have h1 := HVK.out; simp [intOf]; omega
  have hs5 : ¬ (s : Int) = 5 := by omega
  have hXc := HM.out.lt
  have hRc := HR.out.lt
  obtain ⟨xs, Ps, hxs, hpl, hko, hln⟩ := HM.out.own
  have HKK : Hid (_ /\ _ /\ _) := ⟨hpl, hko, hln⟩
  have HXL : Hid (xs.length = j * 5) := by have h := hxs.1; rw [HKL.out] at h; exact h
  have HX : Hid (wr.ownsRow (X + 1) 27 5 (.slice ka j kc) j xs) := by
   rw [HKL.out] at hxs; exact hxs
  have HM2X := Lib.hid HM.out.box
  have x4 : wr.cell? ⟨X, 4, none⟩ = some (.slice ka j kc) := (zeroR_cells HM.out.box).1.2.2.2.2
  obtain ⟨ik0, hi0', hy0, hy1, hyb⟩ := info_parts Tryz.info_treeR
  have HIK : Hid (_ /\ _ /\ _ /\ _) := ⟨hi0', hy0, hy1, hyb⟩
  clear hi0' hy0 hy1 hyb hxs hpl hko hln
  have HLL : Hid (l.length <= L + i3) := by have h1 := HL.out; have h2 := HII.out; skip; show _ <= _; omega
  cases hde : decI L (l.drop i3) with
  | none =>
   have HK := Lib.hid (treeC_none HI.out HLL.out HR.out hde)
   have HPP : Hid (∀ W, Near R wr W -> KidsC L X (s : Int) w0 R ao l cap i (.panicked refusal) W) := fun W hW => HPn.out W (midK_more_no (by omega) HMk.out hde) (HM.out.near.trans hW)
   clear hde HPn HX HXL HIK HKK HM2X
   go_wp2_with fail
   go_region_dies
   all_goals (go_at_call 54; refine (HK.out _ (by first | exact .inl rfl | exact .inr rfl)).mono ?_; rintro e w' ⟨rfl, hnw⟩; exact ⟨rfl, HPP.out _ hnw⟩)
  | some pp =>
   have HK := Lib.hid (treeC_some HI.out HLL.out HR.out hde)
   clear hde HPn
   go_wp2_with fail
   go_region_law (first
    | (go_simp; go_at_call 54; refine (HK.out _ (by first | with_reducible exact .inl rfl | with_reducible exact .inr rfl)).mono ?_; rintro e v2 ⟨t5, f0, f1, f2, f3, f4, i5, rfl, hde5, ht5, ho5, hR5, hii5, hnW, hnA⟩; obtain ⟨t0, t1, t2, ta, tl, tc, ua, ul, uc, rfl, rfl, rfl, rfl, rfl⟩ := ht5.shape; have hsz2 : wr.heap.size <= v2.heap.size := hnA.size; have hnB : Near R wr (v2.alloc zeroT) := hnA.trans (Near.alloc R _ _); have x4a : v2.cell? ⟨X, 4, none⟩ = some (.slice ka j kc) := (World.cell?_of_block (hnA.block X hXc (by omega))).trans x4; have x4b : (v2.alloc zeroT).cell? ⟨X, 4, none⟩ = some (.slice ka j kc) := (World.cell?_of_block (hnB.block X hXc (by omega))).trans x4; try (have hzb := zero_kept hnW hRc))
    | (refine step_append_lies _ (by rfl) (.tmp 27) (.tmp 31) 25 (by rfl) (X + 1) 27 ik0 _ 5 80 Tryz.underlying25 HIK.out.1 HIK.out.2.1 HIK.out.2.2.1 HIK.out.2.2.2 rfl (by decide) (.slice ka j kc) j xs (by rfl) (owns_near HX.out hRX hnB) ⟨v2.heap.size, 0, none⟩ 1 1 [.int .i64 0, .int .i64 0, .string ⟨#[]⟩, .slice none 0 0, .slice none 0 0] (by rfl) rfl (World.news_of_block (heap_alloc_new v2 _)) (by simp [Value.oneCell']) (by decide) (by unfold maxLen; omega) (by omega) (by simp; omega) (v2.alloc zeroT).heap.size rfl ?_; intro g2 cap2 v3 hown2 hgrow2 hat2 hlt2; have hgl2 := owns_lt hown2 g2 rfl; have hgX : g2 ≠ X := (by omega); have hXg : X ≠ g2 := (by omega); have hb6 := boxZ_after HM2X.out HX.out hRX hnB hgrow2; have x4'' : v3.cell? ⟨X, 4, none⟩ = some (.slice ka j kc) := (by simp [World.cell?, hb6]); have xg'' : v3.frozen? ⟨X, 4, none⟩ = false := (by simp [World.frozen?, hb6]); obtain ⟨⟨r0, r1, r2, r3, r4⟩, rf⟩ := zrow_cells hown2 HXL.out; have rf0 := rf (j * 5); have rf1 := rf (j * 5 + 1); have rf2 := rf (j * 5 + 2); have rf3 := rf (j * 5 + 3); have rf4 := rf (j * 5 + 4); have HF := Lib.hid (kidZ_all HKL.out HM.out.toMany hRX hw0 hnB (tree_up ht5 _) (own_up ho5 _) HX.out HKK.out.1 HKK.out.2.1 HKK.out.2.2 hown2 hgrow2 hat2 H0.out (hR5.same ((Below.refl _ _).alloc (Nat.le_refl _) _))); clear rf hown2 hgrow2 hat2 hb6 hlt2)
    | (refine step_append_lies _ (by rfl) (.tmp 27) (.tmp 31) 25 (by rfl) (X + 1) 27 ik0 _ 5 80 Tryz.underlying25 HIK.out.1 HIK.out.2.1 HIK.out.2.2.1 HIK.out.2.2.2 rfl (by decide) (.slice ka j kc) j xs (by rfl) (owns_near HX.out hRX hnA) ⟨wr.heap.size, 0, none⟩ 1 1 [.int .i64 0, .int .i64 0, .string ⟨#[]⟩, .slice none 0 0, .slice none 0 0] (by rfl) rfl (World.news_of_block hzb) (by simp [Value.oneCell']) (by decide) (by unfold maxLen; omega) (by omega) (by omega) v2.heap.size rfl ?_; intro g2 cap2 v3 hown2 hgrow2 hat2 hlt2; have hgl2 := owns_lt hown2 g2 rfl; have hgX : g2 ≠ X := (by omega); have hXg : X ≠ g2 := (by omega); have hb6 := boxZ_after HM2X.out HX.out hRX hnA hgrow2; have x4'' : v3.cell? ⟨X, 4, none⟩ = some (.slice ka j kc) := (by simp [World.cell?, hb6]); have xg'' : v3.frozen? ⟨X, 4, none⟩ = false := (by simp [World.frozen?, hb6]); obtain ⟨⟨r0, r1, r2, r3, r4⟩, rf⟩ := zrow_cells hown2 HXL.out; have rf0 := rf (j * 5); have rf1 := rf (j * 5 + 1); have rf2 := rf (j * 5 + 2); have rf3 := rf (j * 5 + 3); have rf4 := rf (j * 5 + 4); have HF := Lib.hid (kidZ_all HKL.out HM.out.toMany hRX hw0 hnA (ht5) (ho5) HX.out HKK.out.1 HKK.out.2.1 HKK.out.2.2 hown2 hgrow2 hat2 H0.out (hR5)); clear rf hown2 hgrow2 hat2 hb6 hlt2))
   all_goals
    have HDe := Lib.hid hde5
    have HLt5 := Lib.hid hii5
    clear hde5 hii5 ht5 ho5 hR5 hnW hnA hnB x4a x4b x4'' xg'' r0 r1 r2 r3 r4 rf0 rf1 rf2 rf3 rf4
    go_wp2_with fail
    go_roundw
    case rel =>
     have HRl : Hid (midK L (s : Int) l (i + 1) v (ns) (ks ++ [t5]) (v - (j + 1)) i5 /\ i < i5) := ⟨by rw [HVK.out.1]; exact midK_more (by omega) HMk.out HDe.out, by have h1 := HLt5.out; have h2 := HII.out; skip; omega⟩
     first
      | with_reducible exact ⟨j + 1, nl, i5, ns, ks ++ [t5], na, nc, some ⟨g2, 0, none⟩, cap2, by go_num, HVK.out.2, by simp [HKL.out], HNL.out, by omega, HRl.out.1, HRl.out.2, HF.out.1.2, HF.out.1.1⟩
      | with_reducible exact ⟨j + 1, nl, i5, ns, ks ++ [t5], na, nc, some ⟨g2, 0, none⟩, cap2, by go_num, HVK.out.2, by simp [HKL.out], HNL.out, by omega, HRl.out.1, HRl.out.2, HF.out.2.2, HF.out.2.1⟩
    case measure => have h1 := HVK.out; simp [intOf]; omega
end Go.Proofs.YtmjhcgjhlakceaaGreatDoor
