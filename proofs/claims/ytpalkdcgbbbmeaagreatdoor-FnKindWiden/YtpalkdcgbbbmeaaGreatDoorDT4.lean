/-
  What the specification draws: l5Tree at a list.
-/
import Derived.Test.YtpalkdcgbbbmeaaGreatDoorDT2
namespace Go.Proofs.YtpalkdcgbbbmeaaGreatDoor
open Go.RowKit

/-- Way out with what is gathered. -/
theorem dt_many {m d R L cap p p' q : Nat} {ao : Option Addr} {w W1 W2 wr : World} {so : Int} {n0 k0 nv kv : Value} {ns : List ByteArray} {ks : List (T m)} (hS : TStart m R ao L cap p w W1 W2 so n0 k0) (hM : Many R (w.heap.size + 2) m W1 wr so ns ks nv kv) (hD : wr.heap[R]? = some (.cells #[.slice ao L cap, .int .i64 (p' : Int)] 105 (0, 0))) (hp : p' ≤ p + q)
    (hso : (Lit.int .i64 so).wf = true) (hns : ns.length ≤ 1000) (hks : ks.length ≤ 1000) (hd : ∀ k, k ∈ ks → depT m k d) :
    DTPost (m + 1) (d + 1) w R ao L cap p q (.returned (.agg #[.int .i64 so, .int .i64 0, .string ByteArray.empty, nv, kv])) (put5 wr (w.heap.size + 1) 0 (.int .i64 so) (.int .i64 0) (.string ByteArray.empty) nv kv) := by
  have h1 := hM.near.size
  have h3 := hS.sz1
  refine dt_exit hS.dr0 (by omega) (hS.near.trans hM.near) hD hp ((many_in hM hso (by omega) (by omega)).keep (fun _ _ => rfl) (fun b hb => ⟨by omega, hb.2⟩)) ⟨by omega, hns, hM.short, hks, fun k hk => by simpa using hd k hk⟩

theorem box_afterD {R X k z : Nat} {e : TypeId} {v : Value} {xs : List Value} {W w2 w3 : World} {o : Obj} {c : Obj} (h : W.ownsRow (X + 1) e z v k xs) (hRX : R < X) (hRl : R < w2.heap.size) (hg : (w2.alloc o).grownBy w3 v.ownBlock) (u : Value) (q : Nat) (hc : w2.heap[R]? = some c) : (w3.setCell ⟨X, q, none⟩ u).heap[R]? = some c := by
  rw [Below.heap_setCell _ _ _ _ (by show R ≠ X; omega), hg.block R (by simp; omega) (fun e => by have := owns_lt h R e.symm; omega), Below.heap_alloc _ _ _ hRl]
  exact hc

set_option maxRecDepth 20000 in
set_option maxHeartbeats 4000000 in
theorem l5Tree_list (m d R : Nat) (hn : DrawTSaid d) (ao : Option Addr) (L cap p : Nat) (k : K m) (S : Nat → Prop) (g : Int) (w : World) (h : Dr w R ao L cap p) (na : Option Addr) (nc kc b off : Nat) (q0 q1 q2 : Value) (hdk : depK m k d) (hg : goodK m k g = true) (hcn : cntK m k ≤ 40)
    (hS : ∀ b, S b → b < w.heap.size ∧ b ≠ R) (hb : S b) (hq0 : w.cell? ⟨b, off, none⟩ = some q0) (hq1 : w.cell? ⟨b, off + 1, none⟩ = some q1) (hq2 : w.cell? ⟨b, off + 2, none⟩ = some q2) (hk : KindIn S w m k q0 q1 q2) (hp : p + (4 + 40 * pt d) ≤ 900000) :
    Calls Tryz.prog 24 #[.pointer (some ⟨R, 0, none⟩), .agg #[.int .i64 4, .slice na 0 nc, .slice (some ⟨b, off, none⟩) 1 kc]] w (DTPost (m + 1) (d + 1) w R ao L cap p (4 + 40 * pt d)) := by
  have hR := h.lt
  obtain ⟨W1, hW1⟩ : ∃ W1, W1 = (w.alloc (.cells #[.int .i64 4, .slice na 0 nc, .slice (some ⟨b, off, none⟩) 1 kc] 26)).alloc (.cells #[.int .i64 0, .int .i64 0, .string ⟨#[]⟩, .slice none 0 0, .slice none 0 0] 29) := ⟨_, rfl⟩
  obtain ⟨W2, hW2⟩ : ∃ W2, W2 = W1.alloc (.cells #[.int .i64 4, .int .i64 0, .string ⟨#[]⟩, .slice none 0 0, .slice none 0 0] 29) := ⟨_, rfl⟩
  have HS : Hid (TStart m R ao L cap p w W1 W2 4 (.slice na 0 nc) (.slice (some ⟨b, off, none⟩) 1 kc)) := tstart m h hW1 hW2
  have HC : Hid (Calls Tryz.prog 25 #[.pointer (some ⟨R, 0, none⟩), .int .i64 4] W2 (PickPost W2 R ao L cap p 4)) := pick_any W2 R ao L cap p 4 HS.out.dr (by omega) (by omega) (by omega)
  have hz1 := HS.out.sz1
  have hz2 := HS.out.sz2
  have HN : Hid (DrawTSaid d ∧ depK m k d) := ⟨hn, hdk⟩
  have HQ : Hid ((∀ b, S b → b < w.heap.size ∧ b ≠ R) ∧ KindIn S w m k q0 q1 q2 ∧ w.cell? ⟨b, off, none⟩ = some q0 ∧ w.cell? ⟨b, off + 1, none⟩ = some q1 ∧ w.cell? ⟨b, off + 2, none⟩ = some q2) := ⟨hS, hk, hq0, hq1, hq2⟩
  obtain ⟨hb1, hb2⟩ := hS b hb
  obtain ⟨v0, va, vl, vc, ya, yl, yc, rfl, rfl, rfl⟩ := hk.shape
  clear h hn hdk hS hk hq0 hq1 hq2
  generalize hqe : pt d = qd at *
  go_enter Tryz.func24, Tryz.ntmps24
  go_wp2_with fail
  rw [← hW1, ← hW2]
  clear hW1 hW2
  refine HC.out.mono ?_
  rintro e w3 ⟨y, rfl, hy, hn3, hD3, hz3⟩
  have HM3 : Hid (Many R (w.heap.size + 2) m W1 w3 4 [] [] (.slice none 0 0) (.slice none 0 0) ∧ Dr w3 R ao L cap (p + 1)) := ⟨HS.out.many.keep (by omega) hn3, hD3⟩
  clear HC hn3 hD3
  generalize hXe : w.heap.size + 2 = X at *
  go_wp2_with fail
  go_loopw [6] (fun iv wr => ∃ (i ln p' : Nat) (ks : List (T m)) (ka : Option Addr) (kc : Nat), i + ln ≤ 3 ∧ iv = .int .i64 i ∧ ks.length = ln ∧ Many R X m W1 wr 4 [] ks (.slice none 0 0) (.slice ka ln kc) ∧ Dr wr R ao L cap p' ∧ p' ≤ p + 1 + ln * qd ∧ ∀ k, k ∈ ks → depT m k d) (fun iv _ => (intOf iv).toNat)
  case atStart => exact ⟨y, 0, p + 1, [], none, 0, by omega, rfl, rfl, HM3.out.1, HM3.out.2, by omega, fun k hk => by cases hk⟩
  case round =>
    obtain ⟨i, ln, p', ks, ka, kc', hi3, rfl, hkl, hM, hD, hp', hdep⟩ := hrel
    clear HM3
    have hzr := hM.near.size
    have hXr := hM.lt
    have hmul : ln * qd ≤ 3 * qd := Nat.mul_le_mul_right _ (by omega)
    have HM : Hid (Many R X m W1 wr 4 [] ks (.slice none 0 0) (.slice ka ln kc')) := hM
    have HDr : Hid (Dr wr R ao L cap p') := hD
    have HDep : Hid (ks.length = ln ∧ ∀ k, k ∈ ks → depT m k d) := ⟨hkl, hdep⟩
    by_cases hi0 : i = 0
    · subst hi0
      obtain ⟨⟨x0, x1, x2, x3, x4⟩, y0, y1, y2, y3, y4⟩ := treeX_cells hM
      obtain ⟨⟨z0, z1, z2, z3, z4⟩, u0, u1, u2, u3, u4⟩ := zeroDT_cells ((hM.near.block (w.heap.size + 1) (by omega) (by omega)).trans HS.out.zero)
      have HP : Hid (DTPost (m + 1) (d + 1) w R ao L cap p (4 + 40 * qd) (.returned (.agg #[.int .i64 4, .int .i64 0, .string ByteArray.empty, .slice none 0 0, .slice ka ln kc'])) (put5 wr (w.heap.size + 1) 0 (.int .i64 4) (.int .i64 0) (.string ByteArray.empty) (.slice none 0 0) (.slice ka ln kc'))) :=
        dt_many HS.out (by rw [hXe]; exact HM.out) hD.box (by omega) (by rfl) (by simp) (by rw [HDep.out.1]; omega) HDep.out.2
      clear hM hD hdep hkl HM HDr HDep HS HN HQ
      go_wp2_with fail
      refine bodyPost_ret (v := .agg #[.int .i64 4, .int .i64 0, .string ByteArray.empty, .slice none 0 0, .slice ka ln kc']) (by simp [results, Tryz.results24, go_sem, z0, z1, z2, z3, z4]) rfl ?_
      exact HP.out
    · have hi1 : (0 : Int) < (i : Int) := by omega
      have hwi : IntKind.i64.wrap ((i : Int) - 1) = ((i - 1 : Nat) : Int) := by rw [IntKind.wrap_i64]; omega
      have hnw : Near R w wr := HS.out.near.trans hM.near
      have kb := (hM.near.block w.heap.size (by omega) (by omega)).trans HS.out.kbox
      have k2 : wr.cell? ⟨w.heap.size, 2, none⟩ = some (.slice (some ⟨b, off, none⟩) 1 kc) := by simp [World.cell?, kb]
      have e0 := hnw.cell HQ.out.2.2.1 hb2
      have e1 := hnw.cell HQ.out.2.2.2.1 hb2
      have e2 := hnw.cell HQ.out.2.2.2.2 hb2
      have hmul2 : (ln + 1) * qd = ln * qd + qd := Nat.succ_mul _ _
      have HK : Hid (Calls Tryz.prog 24 #[.pointer (some ⟨R, 0, none⟩), .agg #[.int .i64 v0, .slice va vl vc, .slice ya yl yc]] wr.drew (DTPost m d wr.drew R ao L cap p' (pt d))) :=
        HN.out.1 m R ao L cap p' k S g _ _ _ wr.drew HN.out.2 hg hcn (KindIn.keep (w := w) (w' := wr.drew) (fun b hb => hnw.block b (HQ.out.1 b hb).1 (HQ.out.1 b hb).2) (fun _ h => h) HQ.out.2.1) (fun b hb => ⟨by have := (HQ.out.1 b hb).1; have := hnw.size; show b < wr.heap.size; omega, (HQ.out.1 b hb).2⟩) (hD.drewN 1) (by rw [hqe]; omega)
      rw [hqe] at HK
      obtain ⟨xs, hxs, hkk⟩ := hM.kids
      have HKK : Hid (∀ q (h : q < ks.length), _) := hkk
      have HX : Hid (wr.ownsRow (X + 1) 29 5 (.slice ka ln kc') ln xs) := by
        rw [hkl] at hxs; exact hxs
      have x4 : wr.cell? ⟨X, 4, none⟩ = some (.slice ka ln kc') := (treeX_cells hM).1.2.2.2.2
      obtain ⟨ik0, hi0', hy0, hy1, hyb⟩ := info_parts Tryz.info_treeR
      have HIK : Hid (_ ∧ _ ∧ _ ∧ _) := ⟨hi0', hy0, hy1, hyb⟩
      clear hi0' hy0 hy1 hyb hxs hkk hM hD hdep hkl kb hnw hi0
      go_wp2_with fail
      go_region_law (first
        | (refine step_append_lies _ (by rfl) (.tmp 50) (.tmp 57) 27 (by rfl) (X + 1) 29 ik0 _ 5 80 Tryz.underlying27 HIK.out.1 HIK.out.2.1 HIK.out.2.2.1 HIK.out.2.2.2 rfl (by decide) (.slice ka ln kc') ln xs (by rfl) (hox2 _) ⟨v2.heap.size, 0, none⟩ 1 1 [.int .i64 t0, .int .i64 t1, .string t2, .slice ta tl tc, .slice ua ul uc] (by rfl) rfl (World.news_of_block (heap_alloc_new v2 _)) (by simp [Value.oneCell']) (by decide) (by unfold maxLen; omega) (by omega) (by simp; omega) (v2.heap.size + 1) (by simp) ?_; intro g2 cap2 v3 hown2 hgrow2 hat2 hlt2; have hb6 := (box_after (W := wr.drew) HX.out hXr (by omega) hn5 hgrow2).trans HM.out.box; have x4'' : v3.cell? ⟨X, 4, none⟩ = some (.slice ka ln kc') := (by simp [World.cell?, hb6]); have xg'' : v3.frozen? ⟨X, 4, none⟩ = false := (by simp [World.frozen?, hb6]))
        | (go_simp; go_at_call 24; refine HK.out.mono ?_; rintro e v2 ⟨hn5, p5, t5, f0, f1, f2, f3, f4, hp5, hD5, rfl, ht5, hdt5⟩; obtain ⟨t0, t1, t2, ta, tl, tc, ua, ul, uc, rfl, rfl, rfl, rfl, rfl⟩ := ht5.shape; have hsz2 : wr.heap.size ≤ v2.heap.size := hn5.size; have hox2 := fun o => owns_on (R := R) (X := X) (W := wr.drew) HX.out (by omega) hn5 o; have x4' : v2.cell? ⟨X, 4, none⟩ = some (.slice ka ln kc') := (World.cell?_of_block (hn5.block X (by simpa using hXr) (by omega))).trans x4; have x4a : (v2.alloc (.cells #[.int .i64 t0, .int .i64 t1, .string t2, .slice ta tl tc, .slice ua ul uc] 29)).cell? ⟨X, 4, none⟩ = some (.slice ka ln kc') := (World.cell?_of_block (Below.heap_alloc _ _ _ (by show X < _; omega))).trans x4'))
      all_goals
        have hF := Many.kidD (g := g2) (cap := cap2) (xs := xs) 1 HM.out (by omega) (by omega) hn5 ht5 (by rw [HDep.out.1]; exact HX.out) HKK.out (by rw [HDep.out.1]; exact hown2) hgrow2 hat2
        rw [HDep.out.1] at hF
        have HF : Hid (Many R X m W1 (v3.setCell ⟨X, 4, none⟩ (.slice (some ⟨g2, 0, none⟩) (ln + 1) cap2)) 4 [] (ks ++ [t5]) (.slice none 0 0) (.slice (some ⟨g2, 0, none⟩) (ln + 1) cap2)) := hF
        have HDn : Hid (Dr (v3.setCell ⟨X, 4, none⟩ (.slice (some ⟨g2, 0, none⟩) (ln + 1) cap2)) R ao L cap p5) :=
          HS.out.dr0.keep (HS.out.near.trans hF.near) (box_afterD (W := wr.drew) HX.out (by omega) (by omega) hgrow2 _ 4 hD5.box)
        have HDep5 : Hid (∀ k, k ∈ ks ++ [t5] → depT m k d) := fun k hk => by
          rcases List.mem_append.1 hk with h | h
          · exact HDep.out.2 k h
          · rw [List.mem_singleton] at h; subst h; exact hdt5
        clear hF hown2 hgrow2 hat2 hlt2 ht5 hdt5 hD5 hn5 hox2 x4' x4a x4'' xg'' hb6
        go_wp2_with fail
        go_roundw
        case rel => exact ⟨i - 1, ln + 1, p5, ks ++ [t5], some ⟨g2, 0, none⟩, cap2, by omega, by go_num, by simp [HDep.out.1], HF.out, HDn.out, by omega, HDep5.out⟩
        case measure => simp [intOf]; omega

end Go.Proofs.YtpalkdcgbbbmeaaGreatDoor
