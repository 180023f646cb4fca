/-
  Several texts in one, in their order.
-/
import Derived.Test.YtfbfchffnapnnaaGreatDoorBufN
import Derived.Test.YtfbfchffnapnnaaGreatDoorB1
import Derived.Test.YtfbfchffnapnnaaGreatDoorKMade

/-
  The text of a schema, by the program: within, appendForm, appendKind, KindWrite.
-/
namespace Go.Proofs.YtfbfchffnapnnaaGreatDoor
open Go.RowKit

theorem bufK_cast {B : Nat} {w0 w : World} {v : Value} {l l' : List UInt8} (h : Buf B w0 w v l) (e : l = l') : Buf B w0 w v l' := e ▸ h

/-- appendKind at schemas of at most n levels. -/
def AppKSaid (n : Nat) : Prop := ∀ (B : Nat) (w0 w : World) (v : Value) (l : List UInt8) (t : K n) (iv : Value) (d : Int), Buf B w0 w v l → InnerK (fun b => b < B) w n t iv → goodK n t d = true → cntK n t ≤ 40 → l.length + (txtK n t).length ≤ 20000 →
  Calls Tryz.prog 35 #[v, iv] w fun e w' => ∃ v', e = .returned v' ∧ Buf B w0 w' v' (l ++ txtK n t)

theorem four_cells {w : World} {N : Nat} {a b c d : Value} {t : TypeId} (h : w.heap[N]? = some (.cells #[a, b, c, d] t (0, 0))) :
    w.cell? ⟨N, 0, none⟩ = some a ∧ w.cell? ⟨N, 1, none⟩ = some b ∧ w.cell? ⟨N, 2, none⟩ = some c ∧ w.cell? ⟨N, 3, none⟩ = some d := by
  refine ⟨?_, ?_, ?_, ?_⟩ <;> simp [World.cell?, h]

set_option maxRecDepth 20000 in
set_option maxHeartbeats 400000 in
theorem within_any (w : World) (b g o len cap kb : Nat) (h3 : w.cell? ⟨b, 3, none⟩ = some (.slice (some ⟨g, o, none⟩) (len + 1) cap)) (hk : w.cell? ⟨g, o, none⟩ = some (.pointer (some ⟨kb, 0, none⟩))) (_hl : len < 1000) :
    Calls Tryz.prog 53 #[.pointer (some ⟨b, 0, none⟩)] w fun e w' => e = .returned (.pointer (some ⟨kb, 0, none⟩)) ∧ w' = w := by
  go_enter Tryz.func53, Tryz.ntmps53
  go_wp2_with fail
  go_ret
  exact ⟨rfl, rfl⟩

set_option maxRecDepth 20000 in
set_option maxHeartbeats 2000000 in
theorem appendFormK_any (n : Nat) (hn : AppKSaid n) (B : Nat) (w0 w : World) (v : Value) (l : List UInt8) (ns : List ByteArray) (nv : Value) (ks : List (K n)) (kv : Value) (d : Int) (hN : StrsIn (fun b => b < B) w ns nv) (hll : ns.length = ks.length) (hl8 : ∀ s, s ∈ ns → s.size ≤ 8)
    (hb : Buf B w0 w v l) (hr : Row1 (fun b => b < B) w (InnerK (fun b => b < B) w n) ks kv)
    (hg : ks.all (fun x => goodK n x d) = true) (hc : 1 + sumL (fun x => cntK n x) ks ≤ 40) (hl : l.length + (joinL (zipL ns (ks.map (txtK n)))).length + 2 ≤ 20000) :
    Calls Tryz.prog 76 #[v, nv, kv, .func (.func 35) #[] #[]] w fun e w' => ∃ v', e = .returned v' ∧ Buf B w0 w' v' (l ++ (123 :: joinL (zipL ns (ks.map (txtK n))) ++ [125])) := by
  obtain ⟨ao, cap, rfl, hlen, hcell⟩ := hr
  obtain ⟨no, ncap, rfl, -, -, hncell⟩ := hN
  unfold maxLen at hlen
  obtain ⟨va, vn, vc, rfl⟩ := hb.shape
  have hBw := hb.le
  have HG : Hid (∀ k (h : k < ks.length), goodK n ks[k] d = true ∧ cntK n ks[k] ≤ 40) := fun k h => by
    refine ⟨List.all_eq_true.1 hg _ (List.getElem_mem h), ?_⟩
    have := sumL_mono (fun x => cntK n x) ks _ (List.getElem_mem h)
    omega
  have HSz : Hid (∀ k, (joinL ((zipL ns (ks.map (txtK n))).take k)).length ≤ (joinL (zipL ns (ks.map (txtK n)))).length) := fun k => joinL_take_len _ k
  have HLL : Hid (ns.length = ks.length) := hll
  have HB0 : Hid (Buf B w0 w (.slice va vn vc) l) := hb
  clear hg hll
  go_enter Tryz.func76, Tryz.ntmps76
  go_wp2_with (at_builtin; refine wpList_buf_byte rfl (.tmp 11) (.tmp 12) rfl B (.slice va vn vc) l rfl w w 123 123 rfl HB0.out.here rfl (by omega) ?_; intro v1 w1 hb1; obtain ⟨va1, vn1, vc1, rfl⟩ := hb1.shape; refine Hid.out ?_)
  refine Lib.hid ?_
  have HB1 : Hid _ := hb1
  clear hb1
  go_wp2_with fail
  go_loopw [0, 16] (fun a i wr => ∃ k : Nat, k ≤ ks.length ∧ i = .int .i64 k ∧ Buf B w wr a (l ++ [123] ++ joinL ((zipL ns (ks.map (txtK n))).take k))) (fun _ i _ => ks.length - (intOf i).toNat)
  case atStart => exact ⟨0, Nat.zero_le _, rfl, bufK_cast HB1.out (by simp [joinL])⟩
  case round =>
    obtain ⟨k, hk, rfl, hbr⟩ := hrel
    obtain ⟨va2, vn2, vc2, rfl⟩ := hbr.shape
    have hsk := HSz.out k
    clear HB1
    by_cases hlt : k < ks.length
    · obtain ⟨b, off, rfl, hbB, hcl⟩ := hcell (by intro h; rw [h] at hlt; simp at hlt)
      obtain ⟨c, e0, hin⟩ := hcl k hlt
      obtain ⟨kb, rfl, -⟩ := id hin.ptr
      have f0 := (hbr.below.cell (p := ⟨b, off + k, none⟩) hbB).trans e0
      have hgk := HG.out k hlt
      have hnk : k < ns.length := by rw [HLL.out]; exact hlt
      obtain ⟨nb, noff, rfl, hnB, hnc⟩ := hncell (by intro h; rw [h] at hnk; simp at hnk)
      have hnl8 := hl8 ns[k] (List.getElem_mem hnk)
      have HNm : Hid (∀ W, Below B w W → W.cell? ⟨nb, noff + k, none⟩ = some (.string ns[k])) := fun W hW => (hW.cell (p := ⟨nb, noff + k, none⟩) hnB).trans (hnc k hnk)
      have hml : k < (zipL ns (ks.map (txtK n))).length := by rw [zipL_length _ _ (by simpa using HLL.out)]; simpa using hlt
      have HS : Hid (joinL ((zipL ns (ks.map (txtK n))).take (k + 1)) = (if k = 0 then [] else joinL ((zipL ns (ks.map (txtK n))).take k) ++ [44]) ++ (ns[k].data.toList ++ 58 :: txtK n ks[k])) := by
        show _ = _
        rw [joinL_take_succ _ _ hml, zipL_get ns (ks.map (txtK n)) k hnk (by simpa using hlt) hml, List.getElem_map]
      have HIn : Hid (∀ W, Below B w W → InnerK (fun b => b < B) W n ks[k] (.pointer (some ⟨kb, 0, none⟩))) := fun W hW => hin.keep (same_below hW (fun _ h => h)) (fun _ h => h)
      have hszn : ns[k].data.toList.length = ns[k].size := by simp
      clear hcell hcl e0 hin hml hncell hnc
      have HBr : Hid _ := hbr
      clear hbr
      rcases Nat.eq_zero_or_pos k with rfl | hkp
      · rw [Nat.add_zero] at f0
        rw [Nat.add_zero] at HNm
        generalize ns[0] = nm at *
        have HC : Hid _ := HBr.out
        have q0 := HNm.out _ HC.out.below
        go_wp2_with (at_builtin; refine wpList_buf_text rfl (.tmp 26) (.tmp 30) 9 rfl Tryz.underlying9 B (.slice va2 vn2 vc2) _ rfl w HC.out nm rfl (by simp [joinL]; omega) ?_; intro v5 w5 hb5; obtain ⟨va5, vn5, vc5, rfl⟩ := hb5.shape; refine Hid.out ?_)
        refine Lib.hid ?_
        have HB5 : Hid _ := hb5
        clear hb5 HC q0 HBr f0
        go_wp2_with (at_builtin; refine wpList_buf_byte rfl (.tmp 32) (.tmp 33) rfl B (.slice va5 vn5 vc5) _ rfl w w5 58 58 rfl HB5.out rfl (by simp [joinL]; omega) ?_; intro v6 w6 hb6; obtain ⟨va6, vn6, vc6, rfl⟩ := hb6.shape; refine Hid.out ?_)
        refine Lib.hid ?_
        have HB6 : Hid _ := hb6
        clear hb6 HB5
        go_wp2_with fail
        refine (hn B w w6 _ _ ks[0] _ d HB6.out (HIn.out _ HB6.out.below) hgk.1 hgk.2 (by have h1 := HSz.out (0 + 1); rw [HS.out] at h1; simp [joinL] at h1 ⊢; omega)).mono ?_
        rintro e w7 ⟨v7, rfl, hb7⟩
        obtain ⟨va7, vn7, vc7, rfl⟩ := hb7.shape
        have HF : Hid _ := bufK_cast hb7 (l' := l ++ [123] ++ joinL ((zipL ns (ks.map (txtK n))).take (0 + 1))) (by rw [HS.out]; simp [joinL])
        clear hb7 HB6
        go_wp2_with fail
        go_roundw
        case rel => exact ⟨0 + 1, by omega, by go_num, HF.out⟩
        case measure => simp [intOf]; omega
      · have hk0 : decide ((0 : Int) < (k : Int)) = true := decide_eq_true (by omega)
        generalize ns[k] = nm at *
        go_wp2_with (at_builtin; refine wpList_buf_byte rfl (.tmp 23) (.tmp 24) rfl B (.slice va2 vn2 vc2) _ rfl w wr 44 44 rfl HBr.out rfl (by simp; omega) ?_; intro v3 w3 hb3; obtain ⟨va3, vn3, vc3, rfl⟩ := hb3.shape; refine Hid.out ?_)
        refine Lib.hid ?_
        have HC : Hid _ := hb3
        clear hb3
        have q0 := HNm.out _ HC.out.below
        go_wp2_with (at_builtin; refine wpList_buf_text rfl (.tmp 26) (.tmp 30) 9 rfl Tryz.underlying9 B (.slice va3 vn3 vc3) _ rfl w HC.out nm rfl (by simp; omega) ?_; intro v5 w5 hb5; obtain ⟨va5, vn5, vc5, rfl⟩ := hb5.shape; refine Hid.out ?_)
        refine Lib.hid ?_
        have HB5 : Hid _ := hb5
        clear hb5 HC q0 HBr f0
        go_wp2_with (at_builtin; refine wpList_buf_byte rfl (.tmp 32) (.tmp 33) rfl B (.slice va5 vn5 vc5) _ rfl w w5 58 58 rfl HB5.out rfl (by simp; omega) ?_; intro v6 w6 hb6; obtain ⟨va6, vn6, vc6, rfl⟩ := hb6.shape; refine Hid.out ?_)
        refine Lib.hid ?_
        have HB6 : Hid _ := hb6
        clear hb6 HB5
        go_wp2_with fail
        refine (hn B w w6 _ _ ks[k] _ d HB6.out (HIn.out _ HB6.out.below) hgk.1 hgk.2 (by have h1 := HSz.out (k + 1); rw [HS.out, if_neg (by omega)] at h1; simp at h1 ⊢; omega)).mono ?_
        rintro e w7 ⟨v7, rfl, hb7⟩
        obtain ⟨va7, vn7, vc7, rfl⟩ := hb7.shape
        have HF : Hid _ := bufK_cast hb7 (l' := l ++ [123] ++ joinL ((zipL ns (ks.map (txtK n))).take (k + 1))) (by rw [HS.out, if_neg (by omega)]; simp)
        clear hb7 HB6
        go_wp2_with fail
        go_roundw
        case rel => exact ⟨k + 1, by omega, by go_num, HF.out⟩
        case measure => simp [intOf]; omega
    · have hkl : k = ks.length := by omega
      have HBr : Hid (Buf B w wr (.slice va2 vn2 vc2) (l ++ [123] ++ joinL (zipL ns (ks.map (txtK n))))) := bufK_cast hbr (by
        have e : ks.length = (zipL ns (ks.map (txtK n))).length := by rw [zipL_length _ _ (by simpa using HLL.out)]; simp
        rw [hkl, e, List.take_length])
      clear hcell hbr hkl hncell
      go_wp2_with (at_builtin; refine wpList_buf_byte rfl (.tmp 40) (.tmp 41) rfl B (.slice va2 vn2 vc2) _ rfl w wr 125 125 rfl HBr.out rfl (by simp; omega) ?_; intro v3 w3 hb3; obtain ⟨va3, vn3, vc3, rfl⟩ := hb3.shape; refine Hid.out ?_)
      refine Lib.hid ?_
      have HF : Hid _ := bufK_cast (hb3.from HB0.out) (l' := l ++ (123 :: joinL (zipL ns (ks.map (txtK n))) ++ [125])) (by simp)
      clear hb3 HBr
      go_wp2_with fail
      go_ret
      exact ⟨_, rfl, HF.out⟩

end Go.Proofs.YtfbfchffnapnnaaGreatDoor

/-
  The text of a schema, by the program: appendKind, KindWrite.
-/
namespace Go.Proofs.YtfbfchffnapnnaaGreatDoor
open Go.RowKit

set_option maxRecDepth 20000 in
set_option maxHeartbeats 1000000 in
theorem appendK_leaf (B : Nat) (w0 w : World) (v : Value) (l : List UInt8) (b : Nat) (s : Int) (x : List UInt8) (hb : Buf B w0 w v l) (h0 : w.cell? ⟨b, 0, none⟩ = some (.int .i64 s))
    (hs : (s = 1 ∧ x = [110, 117, 109]) ∨ (s = 2 ∧ x = [116, 101, 120, 116]) ∨ (s = 3 ∧ x = [102, 108, 97, 103])) (hl : l.length ≤ 20000) :
    Calls Tryz.prog 35 #[v, .pointer (some ⟨b, 0, none⟩)] w fun e w' => ∃ v', e = .returned v' ∧ Buf B w0 w' v' (l ++ x) := by
  obtain ⟨va, vn, vc, rfl⟩ := hb.shape
  have HB : Hid (Buf B w0 w (.slice va vn vc) l) := hb
  clear hb
  rcases hs with ⟨rfl, rfl⟩ | ⟨rfl, rfl⟩ | ⟨rfl, rfl⟩
  · go_enter Tryz.func35, Tryz.ntmps35
    go_wp2_with (at_builtin; refine wpList_buf_text rfl (.tmp 11) (.const (.string ⟨#[110, 117, 109]⟩)) 9 rfl Tryz.underlying9 B (.slice va vn vc) l rfl w0 HB.out ⟨#[110, 117, 109]⟩ rfl (by show l.length + 3 ≤ _; omega) ?_; intro v5 w5 hb5; obtain ⟨va5, vn5, vc5, rfl⟩ := hb5.shape; refine Hid.out ?_)
    refine Lib.hid ?_
    have HF : Hid _ := hb5
    clear hb5
    go_wp2_with fail
    go_ret
    exact ⟨_, rfl, HF.out⟩
  · go_enter Tryz.func35, Tryz.ntmps35
    go_wp2_with (at_builtin; refine wpList_buf_text rfl (.tmp 15) (.const (.string ⟨#[116, 101, 120, 116]⟩)) 9 rfl Tryz.underlying9 B (.slice va vn vc) l rfl w0 HB.out ⟨#[116, 101, 120, 116]⟩ rfl (by show l.length + 4 ≤ _; omega) ?_; intro v5 w5 hb5; obtain ⟨va5, vn5, vc5, rfl⟩ := hb5.shape; refine Hid.out ?_)
    refine Lib.hid ?_
    have HF : Hid _ := hb5
    clear hb5
    go_wp2_with fail
    go_ret
    exact ⟨_, rfl, HF.out⟩
  · go_enter Tryz.func35, Tryz.ntmps35
    go_wp2_with (at_builtin; refine wpList_buf_text rfl (.tmp 19) (.const (.string ⟨#[102, 108, 97, 103]⟩)) 9 rfl Tryz.underlying9 B (.slice va vn vc) l rfl w0 HB.out ⟨#[102, 108, 97, 103]⟩ rfl (by show l.length + 4 ≤ _; omega) ?_; intro v5 w5 hb5; obtain ⟨va5, vn5, vc5, rfl⟩ := hb5.shape; refine Hid.out ?_)
    refine Lib.hid ?_
    have HF : Hid _ := hb5
    clear hb5
    go_wp2_with fail
    go_ret
    exact ⟨_, rfl, HF.out⟩

set_option maxRecDepth 20000 in
set_option maxHeartbeats 1000000 in
theorem appendK_list (n : Nat) (hn : AppKSaid n) (B : Nat) (w0 w : World) (v : Value) (l : List UInt8) (b g o cap : Nat) (k : K n) (kv : Value) (d : Int) (hb : Buf B w0 w v l) (hbB : b < B) (hgB : g < B) (h0 : w.cell? ⟨b, 0, none⟩ = some (.int .i64 4))
    (h3 : w.cell? ⟨b, 3, none⟩ = some (.slice (some ⟨g, o, none⟩) (0 + 1) cap)) (hk : w.cell? ⟨g, o, none⟩ = some kv) (hin : InnerK (fun b => b < B) w n k kv) (hg : goodK n k d = true) (hc : cntK n k ≤ 40) (hl : l.length + (txtK n k).length + 2 ≤ 20000) :
    Calls Tryz.prog 35 #[v, .pointer (some ⟨b, 0, none⟩)] w fun e w' => ∃ v', e = .returned v' ∧ Buf B w0 w' v' (l ++ (91 :: txtK n k ++ [93])) := by
  obtain ⟨va, vn, vc, rfl⟩ := hb.shape
  obtain ⟨kb, rfl, -⟩ := id hin.ptr
  have HB : Hid (Buf B w0 w (.slice va vn vc) l) := hb
  have HW : Hid (∀ W, Below B w W → Calls Tryz.prog 53 #[.pointer (some ⟨b, 0, none⟩)] W fun e w' => e = .returned (.pointer (some ⟨kb, 0, none⟩)) ∧ w' = W) := fun W hW =>
    within_any W b g o 0 cap kb ((hW.cell (p := ⟨b, 3, none⟩) hbB).trans h3) ((hW.cell (p := ⟨g, o, none⟩) hgB).trans hk) (by omega)
  have HI : Hid (∀ W, Below B w W → InnerK (fun b => b < B) W n k (.pointer (some ⟨kb, 0, none⟩))) := fun W hW => hin.keep (same_below hW (fun _ h => h)) (fun _ h => h)
  clear hb hin h3 hk
  go_enter Tryz.func35, Tryz.ntmps35
  go_wp2_with (at_builtin; refine wpList_buf_byte rfl (.tmp 23) (.tmp 24) rfl B (.slice va vn vc) l rfl w w 91 91 rfl HB.out.here rfl (by omega) ?_; intro v1 w1 hb1; obtain ⟨va1, vn1, vc1, rfl⟩ := hb1.shape; refine Hid.out ?_)
  refine Lib.hid ?_
  have HB1 : Hid _ := hb1
  clear hb1
  go_wp2_with fail
  refine (HW.out _ HB1.out.below).mono ?_
  rintro e w1' ⟨rfl, rfl⟩
  go_wp2_with fail
  refine (hn B w w1' _ _ k _ d HB1.out (HI.out _ HB1.out.below) hg hc (by simp; omega)).mono ?_
  rintro e w2 ⟨v2, rfl, hb2⟩
  obtain ⟨va2, vn2, vc2, rfl⟩ := hb2.shape
  have HB2 : Hid _ := hb2
  clear hb2 HB1
  go_wp2_with (at_builtin; refine wpList_buf_byte rfl (.tmp 28) (.tmp 29) rfl B (.slice va2 vn2 vc2) _ rfl w w2 93 93 rfl HB2.out rfl (by simp; omega) ?_; intro v3 w3 hb3; obtain ⟨va3, vn3, vc3, rfl⟩ := hb3.shape; refine Hid.out ?_)
  refine Lib.hid ?_
  have HF : Hid _ := bufK_cast (hb3.from HB.out) (l' := l ++ (91 :: txtK n k ++ [93])) (by simp)
  clear hb3 HB2
  go_wp2_with fail
  go_ret
  exact ⟨_, rfl, HF.out⟩

set_option maxRecDepth 20000 in
set_option maxHeartbeats 1000000 in
theorem appendK_maybe (n : Nat) (hn : AppKSaid n) (B : Nat) (w0 w : World) (v : Value) (l : List UInt8) (b g o cap : Nat) (k : K n) (kv : Value) (d : Int) (hb : Buf B w0 w v l) (hbB : b < B) (hgB : g < B) (h0 : w.cell? ⟨b, 0, none⟩ = some (.int .i64 6))
    (h3 : w.cell? ⟨b, 3, none⟩ = some (.slice (some ⟨g, o, none⟩) (0 + 1) cap)) (hk : w.cell? ⟨g, o, none⟩ = some kv) (hin : InnerK (fun b => b < B) w n k kv) (hg : goodK n k d = true) (hc : cntK n k ≤ 40) (hl : l.length + (txtK n k).length + 1 ≤ 20000) :
    Calls Tryz.prog 35 #[v, .pointer (some ⟨b, 0, none⟩)] w fun e w' => ∃ v', e = .returned v' ∧ Buf B w0 w' v' (l ++ (63 :: txtK n k)) := by
  obtain ⟨va, vn, vc, rfl⟩ := hb.shape
  obtain ⟨kb, rfl, -⟩ := id hin.ptr
  have HB : Hid (Buf B w0 w (.slice va vn vc) l) := hb
  have HW : Hid (∀ W, Below B w W → Calls Tryz.prog 53 #[.pointer (some ⟨b, 0, none⟩)] W fun e w' => e = .returned (.pointer (some ⟨kb, 0, none⟩)) ∧ w' = W) := fun W hW =>
    within_any W b g o 0 cap kb ((hW.cell (p := ⟨b, 3, none⟩) hbB).trans h3) ((hW.cell (p := ⟨g, o, none⟩) hgB).trans hk) (by omega)
  have HI : Hid (∀ W, Below B w W → InnerK (fun b => b < B) W n k (.pointer (some ⟨kb, 0, none⟩))) := fun W hW => hin.keep (same_below hW (fun _ h => h)) (fun _ h => h)
  clear hb hin h3 hk
  go_enter Tryz.func35, Tryz.ntmps35
  go_wp2_with (at_builtin; refine wpList_buf_byte rfl (.tmp 43) (.tmp 44) rfl B (.slice va vn vc) l rfl w w 63 63 rfl HB.out.here rfl (by omega) ?_; intro v1 w1 hb1; obtain ⟨va1, vn1, vc1, rfl⟩ := hb1.shape; refine Hid.out ?_)
  refine Lib.hid ?_
  have HB1 : Hid _ := hb1
  clear hb1
  go_wp2_with fail
  refine (HW.out _ HB1.out.below).mono ?_
  rintro e w1' ⟨rfl, rfl⟩
  go_wp2_with fail
  refine (hn B w w1' _ _ k _ d HB1.out (HI.out _ HB1.out.below) hg hc (by simp; omega)).mono ?_
  rintro e w2 ⟨v2, rfl, hb2⟩
  obtain ⟨va2, vn2, vc2, rfl⟩ := hb2.shape
  have HF : Hid _ := bufK_cast (hb2.from HB.out) (l' := l ++ (63 :: txtK n k)) (by simp)
  clear hb2 HB1
  go_wp2_with fail
  go_ret
  exact ⟨_, rfl, HF.out⟩

set_option maxRecDepth 20000 in
set_option maxHeartbeats 1000000 in
theorem appendK_form (B : Nat) (w0 w : World) (v : Value) (l x : List UInt8) (b : Nat) (na : Option Addr) (nl nc : Nat) (ka : Option Addr) (kl kc : Nat) (hb : Buf B w0 w v l) (h0 : w.cell? ⟨b, 0, none⟩ = some (.int .i64 5))
    (h1 : w.cell? ⟨b, 1, none⟩ = some (.slice na nl nc)) (h3 : w.cell? ⟨b, 3, none⟩ = some (.slice ka kl kc))
    (hC : Calls Tryz.prog 76 #[v, .slice na nl nc, .slice ka kl kc, .func (.func 35) #[] #[]] w.drew fun e w' => ∃ v', e = .returned v' ∧ Buf B w0 w' v' (l ++ x)) :
    Calls Tryz.prog 35 #[v, .pointer (some ⟨b, 0, none⟩)] w fun e w' => ∃ v', e = .returned v' ∧ Buf B w0 w' v' (l ++ x) := by
  obtain ⟨va, vn, vc, rfl⟩ := hb.shape
  have HC : Hid (Calls Tryz.prog 76 _ _ _) := hC
  clear hC hb
  go_enter Tryz.func35, Tryz.ntmps35
  go_wp2_with fail
  go_region_with (go_at_call 76; refine HC.out.mono ?_; rintro e w' ⟨v', rfl, hb'⟩; obtain ⟨va', vn', vc', rfl⟩ := hb'.shape)
  all_goals
    have HF : Hid _ := hb'
    clear hb'
    go_wp2_with fail
    go_ret
    exact ⟨_, rfl, HF.out⟩

theorem appK_step (n : Nat) (hn : AppKSaid n) : AppKSaid (n + 1) := by
  intro B w0 w v l t iv d hb h hg hc hl
  obtain ⟨b, nv, pv, kv, rfl, hbB, hcell, hnm, -, hk⟩ := h
  obtain ⟨q0, q1, -, q3⟩ := four_cells hcell
  simp only [goodK, Bool.and_eq_true] at hg
  have ha : aloneKF (Kd.sort t) (Kd.names t) (Kd.kids t).length = true := hg.1.2
  have hc' : 1 + sumL (fun x => cntK n x) (Kd.kids t) ≤ 40 := by simpa only [cntK] using hc
  unfold aloneKF at ha
  simp only [txtK] at hl ⊢
  by_cases h1 : Kd.sort t = 1
  · rw [if_pos h1] at hl ⊢
    exact appendK_leaf B w0 w v l b _ _ hb q0 (.inl ⟨h1, rfl⟩) (by omega)
  rw [if_neg h1] at ha hl ⊢
  by_cases h2 : Kd.sort t = 2
  · rw [if_pos h2] at hl ⊢
    exact appendK_leaf B w0 w v l b _ _ hb q0 (.inr (.inl ⟨h2, rfl⟩)) (by omega)
  rw [if_neg h2] at ha hl ⊢
  by_cases h3 : Kd.sort t = 3
  · rw [if_pos h3] at hl ⊢
    exact appendK_leaf B w0 w v l b _ _ hb q0 (.inr (.inr ⟨h3, rfl⟩)) (by omega)
  rw [if_neg h3] at ha hl ⊢
  by_cases h5 : Kd.sort t = 5
  · rw [if_neg (by omega), if_pos h5] at ha
    rw [if_neg (by omega), if_neg (by omega)] at hl ⊢
    simp only [Bool.and_eq_true, beq_iff_eq] at ha
    rw [h5] at q0
    obtain ⟨na, nc, rfl, -⟩ := id hnm
    obtain ⟨ka, kc, rfl, -⟩ := id hk
    simp only [List.length_append, List.length_cons, List.length_nil] at hl
    exact appendK_form B w0 w v l _ b _ _ _ _ _ _ hb q0 q1 q3 (appendFormK_any n hn B w0 w.drew v l (Kd.names t) _ (Kd.kids t) _ (d + 1) (hnm.keep (w' := w.drew) (fun _ _ => rfl) (fun _ h => h)) (by omega) (riseB_names _ ha.2) hb.drew
      (hk.keep (w' := w.drew) (fun _ _ => rfl) (fun _ h => h) (fun _ _ _ hx => InnerK.keep (w := w) (w' := w.drew) (fun _ _ => rfl) (fun _ h => h) hx)) hg.2 hc' (by omega))
  have hone : ∀ hk1 : (Kd.kids t).length = 1, ∃ k g o cap c, Kd.kids t = [k] ∧ g < B ∧ kv = .slice (some ⟨g, o, none⟩) (0 + 1) cap ∧ w.cell? ⟨g, o, none⟩ = some c ∧ InnerK (fun b => b < B) w n k c := by
    intro hk1
    obtain ⟨ao, cap, rfl, -, hcl⟩ := hk
    match hks : Kd.kids t, hk1 with
    | [k], _ =>
      rw [hks] at hcl
      obtain ⟨g, o, rfl, hgB, hcl⟩ := hcl (by simp)
      obtain ⟨c, hc, hin⟩ := hcl 0 (by simp)
      exact ⟨k, g, o, cap, c, rfl, hgB, rfl, by simpa using hc, by simpa using hin⟩
  by_cases h4 : Kd.sort t = 4
  · rw [if_pos h4] at ha hl ⊢
    simp only [Bool.and_eq_true, beq_iff_eq] at ha
    obtain ⟨k, g, o, cap, c, hks, hgB, rfl, hcc, hin⟩ := hone (by omega)
    rw [h4] at q0
    rw [hks] at hl hg hc' ⊢
    simp only [headL, List.length_append, List.length_cons, List.length_nil, sumL, List.all_cons, Bool.and_eq_true] at hl hg hc' ⊢
    exact appendK_list n hn B w0 w v l b g o cap k c (d + 1) hb hbB hgB q0 q3 hcc hin hg.2.1 (by omega) (by omega)
  rw [if_neg h4] at ha hl ⊢
  by_cases h6 : Kd.sort t = 6
  · rw [if_neg h5, if_pos h6] at ha
    rw [if_pos h6] at hl ⊢
    simp only [Bool.and_eq_true, beq_iff_eq] at ha
    obtain ⟨k, g, o, cap, c, hks, hgB, rfl, hcc, hin⟩ := hone (by omega)
    rw [h6] at q0
    rw [hks] at hl hg hc' ⊢
    simp only [headL, List.length_cons, sumL, List.all_cons, Bool.and_eq_true] at hl hg hc' ⊢
    exact appendK_maybe n hn B w0 w v l b g o cap k c (d + 1) hb hbB hgB q0 q3 hcc hin hg.2.1 (by omega) (by omega)
  · rw [if_neg h5, if_neg h6] at ha; cases ha

theorem appendKind_any : ∀ n, AppKSaid n := by
  intro n
  induction n with
  | zero => intro B w0 w v l t iv d hb h; exact h.elim
  | succ n ih => exact appK_step n ih

set_option maxRecDepth 20000 in
set_option maxHeartbeats 400000 in
theorem implKWrite_any (n : Nat) (S : Nat → Prop) (t : K n) (c0 c1 c2 : Value) (w : World) (ht : KindIn S w n t c0 c1 c2) (hB : ∀ b, S b → b < w.heap.size) :
    Calls Tryz.prog 10 #[.agg #[c0, c1, c2]] w fun e w' => e = .returned (.string (textKF n t)) ∧ Below w.heap.size w w' := by
  obtain ⟨x0, xa, xl, xc, ya, yl, yc, rfl, rfl, rfl⟩ := ht.shape
  have hb0 := (Below.refl w.heap.size w).alloc (Nat.le_refl _) (.cells #[.int .i64 x0, .slice xa xl xc, .slice ya yl yc] 26)
  obtain ⟨ht0, hB0⟩ := ht.step hB hb0
  clear ht
  go_enter Tryz.func10, Tryz.ntmps10
  go_wp2_with fail
  refine (innerKind_any n S t _ _ _ _ ht0 hB0).mono ?_
  rintro e w1 ⟨hb, ⟨hok, v, rfl, hin⟩ | ⟨hok, rfl⟩⟩
  · have hp := okK_get hok
    have hbw := below_step hb0 (by simp) hb
    have hz1 := hb.size
    simp at hz1
    have hlen := txtK_len n t 1 hp.1
    have hin' : InnerK (fun b => b < w1.heap.size) w1 n t v := hin.keep (fun _ _ => rfl) (fun b hb => hb.elim (fun h => by have := hB b h; omega) (fun h => h.2))
    obtain ⟨kb, rfl, -⟩ := id hin'.ptr
    have HC : Hid (textKF n t = bs (txtK n t)) := by show _ = _; rw [textKF, if_pos hok]
    have HP : Hid (Calls Tryz.prog 35 #[.slice none 0 0, _] w1 _) := appendKind_any n w1.heap.size w1 w1 (.slice none 0 0) [] t _ 1 (Buf.nil (Nat.le_refl _)) hin' hp.1 hp.2 (by simp; omega)
    have HNE : Hid (txtK n t ≠ []) := txtK_ne n t 1 hp.1
    clear hb hok hin hin' hb0 ht0 hp hlen
    go_wp2_with fail
    refine HP.out.mono ?_
    rintro e w2 ⟨v2, rfl, hb2⟩
    rw [List.nil_append] at hb2
    have hcv := buf_string _ _ _ _ _ hb2 HNE.out
    have hbw2 := hbw.trans (hb2.below.mono hbw.size)
    obtain ⟨va, vn, vc, rfl⟩ := hb2.shape
    clear hb2 hbw HP
    go_wp2_with fail
    go_ret
    exact ⟨str_retK HC.out.symm, hbw2⟩
  · have HP : Hid (textKF n t = bs [] ∧ Below w.heap.size w w1) := ⟨by rw [textKF, if_neg (by rw [hok]; simp)], below_step hb0 (by simp) hb⟩
    clear hb hok hb0 ht0
    go_wp2_with fail
    go_ret
    exact ⟨str_retK HP.out.1.symm, HP.out.2⟩

end Go.Proofs.YtfbfchffnapnnaaGreatDoor
