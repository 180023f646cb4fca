/-
  The text of a schema, by the program: within, appendForm, appendKind, KindWrite.
-/
import Derived.Test.YtkaannpoldenkaaBufN
import Derived.Test.YtkaannpoldenkaaB9
import Derived.Test.YtkaannpoldenkaaKMade
namespace Go.Proofs.Ytkaannpoldenkaa
open Go.RowKit

theorem bufK_cast {B : Nat} {w0 w : World} {v : Value} {l l' : List UInt8} (h : Buf B w0 w v l) (e : l = l') : Buf B w0 w v l' := e ▸ h

/-- appendKind at schemas of at most n levels. -/
def AppKSaid (n : Nat) : Prop := ∀ (B : Nat) (w0 w : World) (v : Value) (l : List UInt8) (t : K n) (iv : Value) (d : Int), Buf B w0 w v l → InnerK (fun b => b < B) w n t iv → goodK n t d = true → cntK n t ≤ 40 → l.length + (txtK n t).length ≤ 20000 →
  Calls Try.prog 24 #[v, iv] w fun e w' => ∃ v', e = .returned v' ∧ Buf B w0 w' v' (l ++ txtK n t)

theorem four_cells {w : World} {N : Nat} {a b c d : Value} {t : TypeId} (h : w.heap[N]? = some (.cells #[a, b, c, d] t (0, 0))) :
    w.cell? ⟨N, 0, none⟩ = some a ∧ w.cell? ⟨N, 1, none⟩ = some b ∧ w.cell? ⟨N, 2, none⟩ = some c ∧ w.cell? ⟨N, 3, none⟩ = some d := by
  refine ⟨?_, ?_, ?_, ?_⟩ <;> simp [World.cell?, h]

set_option maxRecDepth 20000 in
set_option maxHeartbeats 400000 in
theorem within_any (w : World) (b g o len cap kb : Nat) (h3 : w.cell? ⟨b, 3, none⟩ = some (.slice (some ⟨g, o, none⟩) (len + 1) cap)) (hk : w.cell? ⟨g, o, none⟩ = some (.pointer (some ⟨kb, 0, none⟩))) (_hl : len < 1000) :
    Calls Try.prog 46 #[.pointer (some ⟨b, 0, none⟩)] w fun e w' => e = .returned (.pointer (some ⟨kb, 0, none⟩)) ∧ w' = w := by
  go_enter Try.func46, Try.ntmps46
  go_wp2_with fail
  go_ret
  exact ⟨rfl, rfl⟩

set_option maxRecDepth 20000 in
set_option maxHeartbeats 2000000 in
theorem appendFormK_any (n : Nat) (hn : AppKSaid n) (B : Nat) (w0 w : World) (v : Value) (l : List UInt8) (ns : List ByteArray) (nv : Value) (ks : List (K n)) (kv : Value) (d : Int) (hN : StrsIn (fun b => b < B) w ns nv) (hll : ns.length = ks.length) (hl8 : ∀ s, s ∈ ns → s.size ≤ 8)
    (hb : Buf B w0 w v l) (hr : Row1 (fun b => b < B) w (InnerK (fun b => b < B) w n) ks kv)
    (hg : ks.all (fun x => goodK n x d) = true) (hc : 1 + sumL (fun x => cntK n x) ks ≤ 40) (hl : l.length + (joinL (zipL ns (ks.map (txtK n)))).length + 2 ≤ 20000) :
    Calls Try.prog 47 #[v, nv, kv, .func (.func 24) #[] #[]] w fun e w' => ∃ v', e = .returned v' ∧ Buf B w0 w' v' (l ++ (123 :: joinL (zipL ns (ks.map (txtK n))) ++ [125])) := by
  obtain ⟨ao, cap, rfl, hlen, hcell⟩ := hr
  obtain ⟨no, ncap, rfl, -, -, hncell⟩ := hN
  unfold maxLen at hlen
  obtain ⟨va, vn, vc, rfl⟩ := hb.shape
  have hBw := hb.le
  have HG : Hid (∀ k (h : k < ks.length), goodK n ks[k] d = true ∧ cntK n ks[k] ≤ 40) := fun k h => by
    refine ⟨List.all_eq_true.1 hg _ (List.getElem_mem h), ?_⟩
    have := sumL_mono (fun x => cntK n x) ks _ (List.getElem_mem h)
    omega
  have HSz : Hid (∀ k, (joinL ((zipL ns (ks.map (txtK n))).take k)).length ≤ (joinL (zipL ns (ks.map (txtK n)))).length) := fun k => joinL_take_len _ k
  have HLL : Hid (ns.length = ks.length) := hll
  have HB0 : Hid (Buf B w0 w (.slice va vn vc) l) := hb
  clear hg hll
  go_enter Try.func47, Try.ntmps47
  go_wp2_with (at_builtin; refine wpList_buf_byte rfl (.tmp 11) (.tmp 12) rfl B (.slice va vn vc) l rfl w w 123 123 rfl HB0.out.here rfl (by omega) ?_; intro v1 w1 hb1; obtain ⟨va1, vn1, vc1, rfl⟩ := hb1.shape; refine Hid.out ?_)
  refine Lib.hid ?_
  have HB1 : Hid _ := hb1
  clear hb1
  go_wp2_with fail
  go_loopw [0, 16] (fun a i wr => ∃ k : Nat, k ≤ ks.length ∧ i = .int .i64 k ∧ Buf B w wr a (l ++ [123] ++ joinL ((zipL ns (ks.map (txtK n))).take k))) (fun _ i _ => ks.length - (intOf i).toNat)
  case atStart => exact ⟨0, Nat.zero_le _, rfl, bufK_cast HB1.out (by simp [joinL])⟩
  case round =>
    obtain ⟨k, hk, rfl, hbr⟩ := hrel
    obtain ⟨va2, vn2, vc2, rfl⟩ := hbr.shape
    have hsk := HSz.out k
    clear HB1
    by_cases hlt : k < ks.length
    · obtain ⟨b, off, rfl, hbB, hcl⟩ := hcell (by intro h; rw [h] at hlt; simp at hlt)
      obtain ⟨c, e0, hin⟩ := hcl k hlt
      obtain ⟨kb, rfl, -⟩ := id hin.ptr
      have f0 := (hbr.below.cell (p := ⟨b, off + k, none⟩) hbB).trans e0
      have hgk := HG.out k hlt
      have hnk : k < ns.length := by rw [HLL.out]; exact hlt
      obtain ⟨nb, noff, rfl, hnB, hnc⟩ := hncell (by intro h; rw [h] at hnk; simp at hnk)
      have hnl8 := hl8 ns[k] (List.getElem_mem hnk)
      have HNm : Hid (∀ W, Below B w W → W.cell? ⟨nb, noff + k, none⟩ = some (.string ns[k])) := fun W hW => (hW.cell (p := ⟨nb, noff + k, none⟩) hnB).trans (hnc k hnk)
      have hml : k < (zipL ns (ks.map (txtK n))).length := by rw [zipL_length _ _ (by simpa using HLL.out)]; simpa using hlt
      have HS : Hid (joinL ((zipL ns (ks.map (txtK n))).take (k + 1)) = (if k = 0 then [] else joinL ((zipL ns (ks.map (txtK n))).take k) ++ [44]) ++ (ns[k].data.toList ++ 58 :: txtK n ks[k])) := by
        show _ = _
        rw [joinL_take_succ _ _ hml, zipL_get ns (ks.map (txtK n)) k hnk (by simpa using hlt) hml, List.getElem_map]
      have HIn : Hid (∀ W, Below B w W → InnerK (fun b => b < B) W n ks[k] (.pointer (some ⟨kb, 0, none⟩))) := fun W hW => hin.keep (same_below hW (fun _ h => h)) (fun _ h => h)
      have hszn : ns[k].data.toList.length = ns[k].size := by simp
      clear hcell hcl e0 hin hml hncell hnc
      have HBr : Hid _ := hbr
      clear hbr
      rcases Nat.eq_zero_or_pos k with rfl | hkp
      · rw [Nat.add_zero] at f0
        rw [Nat.add_zero] at HNm
        generalize ns[0] = nm at *
        have HC : Hid _ := HBr.out
        have q0 := HNm.out _ HC.out.below
        go_wp2_with (at_builtin; refine wpList_buf_text rfl (.tmp 26) (.tmp 30) 9 rfl Try.underlying9 B (.slice va2 vn2 vc2) _ rfl w HC.out nm rfl (by simp [joinL]; omega) ?_; intro v5 w5 hb5; obtain ⟨va5, vn5, vc5, rfl⟩ := hb5.shape; refine Hid.out ?_)
        refine Lib.hid ?_
        have HB5 : Hid _ := hb5
        clear hb5 HC q0 HBr f0
        go_wp2_with (at_builtin; refine wpList_buf_byte rfl (.tmp 32) (.tmp 33) rfl B (.slice va5 vn5 vc5) _ rfl w w5 58 58 rfl HB5.out rfl (by simp [joinL]; omega) ?_; intro v6 w6 hb6; obtain ⟨va6, vn6, vc6, rfl⟩ := hb6.shape; refine Hid.out ?_)
        refine Lib.hid ?_
        have HB6 : Hid _ := hb6
        clear hb6 HB5
        go_wp2_with fail
        refine (hn B w w6 _ _ ks[0] _ d HB6.out (HIn.out _ HB6.out.below) hgk.1 hgk.2 (by have h1 := HSz.out (0 + 1); rw [HS.out] at h1; simp [joinL] at h1 ⊢; omega)).mono ?_
        rintro e w7 ⟨v7, rfl, hb7⟩
        obtain ⟨va7, vn7, vc7, rfl⟩ := hb7.shape
        have HF : Hid _ := bufK_cast hb7 (l' := l ++ [123] ++ joinL ((zipL ns (ks.map (txtK n))).take (0 + 1))) (by rw [HS.out]; simp [joinL])
        clear hb7 HB6
        go_wp2_with fail
        go_roundw
        case rel => exact ⟨0 + 1, by omega, by go_num, HF.out⟩
        case measure => simp [intOf]; omega
      · have hk0 : decide ((0 : Int) < (k : Int)) = true := decide_eq_true (by omega)
        generalize ns[k] = nm at *
        go_wp2_with (at_builtin; refine wpList_buf_byte rfl (.tmp 23) (.tmp 24) rfl B (.slice va2 vn2 vc2) _ rfl w wr 44 44 rfl HBr.out rfl (by simp; omega) ?_; intro v3 w3 hb3; obtain ⟨va3, vn3, vc3, rfl⟩ := hb3.shape; refine Hid.out ?_)
        refine Lib.hid ?_
        have HC : Hid _ := hb3
        clear hb3
        have q0 := HNm.out _ HC.out.below
        go_wp2_with (at_builtin; refine wpList_buf_text rfl (.tmp 26) (.tmp 30) 9 rfl Try.underlying9 B (.slice va3 vn3 vc3) _ rfl w HC.out nm rfl (by simp; omega) ?_; intro v5 w5 hb5; obtain ⟨va5, vn5, vc5, rfl⟩ := hb5.shape; refine Hid.out ?_)
        refine Lib.hid ?_
        have HB5 : Hid _ := hb5
        clear hb5 HC q0 HBr f0
        go_wp2_with (at_builtin; refine wpList_buf_byte rfl (.tmp 32) (.tmp 33) rfl B (.slice va5 vn5 vc5) _ rfl w w5 58 58 rfl HB5.out rfl (by simp; omega) ?_; intro v6 w6 hb6; obtain ⟨va6, vn6, vc6, rfl⟩ := hb6.shape; refine Hid.out ?_)
        refine Lib.hid ?_
        have HB6 : Hid _ := hb6
        clear hb6 HB5
        go_wp2_with fail
        refine (hn B w w6 _ _ ks[k] _ d HB6.out (HIn.out _ HB6.out.below) hgk.1 hgk.2 (by have h1 := HSz.out (k + 1); rw [HS.out, if_neg (by omega)] at h1; simp at h1 ⊢; omega)).mono ?_
        rintro e w7 ⟨v7, rfl, hb7⟩
        obtain ⟨va7, vn7, vc7, rfl⟩ := hb7.shape
        have HF : Hid _ := bufK_cast hb7 (l' := l ++ [123] ++ joinL ((zipL ns (ks.map (txtK n))).take (k + 1))) (by rw [HS.out, if_neg (by omega)]; simp)
        clear hb7 HB6
        go_wp2_with fail
        go_roundw
        case rel => exact ⟨k + 1, by omega, by go_num, HF.out⟩
        case measure => simp [intOf]; omega
    · have hkl : k = ks.length := by omega
      have HBr : Hid (Buf B w wr (.slice va2 vn2 vc2) (l ++ [123] ++ joinL (zipL ns (ks.map (txtK n))))) := bufK_cast hbr (by
        have e : ks.length = (zipL ns (ks.map (txtK n))).length := by rw [zipL_length _ _ (by simpa using HLL.out)]; simp
        rw [hkl, e, List.take_length])
      clear hcell hbr hkl hncell
      go_wp2_with (at_builtin; refine wpList_buf_byte rfl (.tmp 40) (.tmp 41) rfl B (.slice va2 vn2 vc2) _ rfl w wr 125 125 rfl HBr.out rfl (by simp; omega) ?_; intro v3 w3 hb3; obtain ⟨va3, vn3, vc3, rfl⟩ := hb3.shape; refine Hid.out ?_)
      refine Lib.hid ?_
      have HF : Hid _ := bufK_cast (hb3.from HB0.out) (l' := l ++ (123 :: joinL (zipL ns (ks.map (txtK n))) ++ [125])) (by simp)
      clear hb3 HBr
      go_wp2_with fail
      go_ret
      exact ⟨_, rfl, HF.out⟩

end Go.Proofs.Ytkaannpoldenkaa
