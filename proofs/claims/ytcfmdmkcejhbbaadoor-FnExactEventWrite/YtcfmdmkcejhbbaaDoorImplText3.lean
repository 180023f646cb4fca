/-
  The text of a form, by the program.
-/
import Derived.Test.YtcfmdmkcejhbbaaDoorImplText2
namespace Go.Proofs.YtcfmdmkcejhbbaaDoor
open Go.RowKit

set_option maxRecDepth 20000 in
set_option maxHeartbeats 2000000 in
theorem appendForm_any (n : Nat) (hn : AppSaid n) (B : Nat) (w0 w : World) (v : Value) (l : List UInt8) (ns : List ByteArray) (nv : Value) (ks : List (T n)) (kv : Value) (d : Int) (hN : StrsIn (fun b => b < B) w ns nv) (hll : ns.length = ks.length) (hl8 : ∀ s, s ∈ ns → s.size ≤ 8)
    (hb : Buf B w0 w v l) (hr : Row1 (fun b => b < B) w (InnerT (fun b => b < B) w n) ks kv)
    (hg : ks.all (fun x => goodT n x d) = true) (hc : 1 + sumL (fun x => cntT n x) ks ≤ 120) (hl : l.length + (joinL (zipL ns (ks.map (txtL n)))).length + 2 ≤ 20000) (hT : Tens B w) :
    Calls Tryd.prog 41 #[v, nv, kv, .func (.func 29) #[] #[]] w fun e w' => ∃ v', e = .returned v' ∧ Buf B w0 w' v' (l ++ (123 :: joinL (zipL ns (ks.map (txtL n))) ++ [125])) := by
  obtain ⟨ao, cap, rfl, hlen, hcell⟩ := hr
  obtain ⟨no, ncap, rfl, -, -, hncell⟩ := hN
  unfold maxLen at hlen
  obtain ⟨va, vn, vc, rfl⟩ := hb.shape
  have hBw := hb.le
  have HG : Hid (∀ k (h : k < ks.length), goodT n ks[k] d = true ∧ cntT n ks[k] ≤ 120) := fun k h => by
    refine ⟨List.all_eq_true.1 hg _ (List.getElem_mem h), ?_⟩
    have := sumL_mono (fun x => cntT n x) ks _ (List.getElem_mem h)
    omega
  have HSz : Hid (∀ k, (joinL ((zipL ns (ks.map (txtL n))).take k)).length ≤ (joinL (zipL ns (ks.map (txtL n)))).length) := fun k => joinL_take_len _ k
  have HLL : Hid (ns.length = ks.length) := hll
  have HB0 : Hid (Buf B w0 w (.slice va vn vc) l) := hb
  clear hg hll
  go_enter Tryd.func41, Tryd.ntmps41
  go_wp2_with (at_builtin; refine wpList_buf_byte rfl (.tmp 11) (.tmp 12) rfl B (.slice va vn vc) l rfl w w 123 123 rfl HB0.out.here rfl (by omega) ?_; intro v1 w1 hb1; obtain ⟨va1, vn1, vc1, rfl⟩ := hb1.shape; refine Hid.out ?_)
  refine Lib.hid ?_
  have HB1 : Hid _ := hb1
  clear hb1
  go_wp2_with fail
  go_loopw [0, 16] (fun a i wr => ∃ k : Nat, k ≤ ks.length ∧ i = .int .i64 k ∧ Buf B w wr a (l ++ [123] ++ joinL ((zipL ns (ks.map (txtL n))).take k))) (fun _ i _ => ks.length - (intOf i).toNat)
  case atStart => exact ⟨0, Nat.zero_le _, rfl, buf_cast HB1.out (by simp [joinL])⟩
  case round =>
    obtain ⟨k, hk, rfl, hbr⟩ := hrel
    obtain ⟨va2, vn2, vc2, rfl⟩ := hbr.shape
    have hsk := HSz.out k
    clear HB1
    by_cases hlt : k < ks.length
    · obtain ⟨b, off, rfl, hbB, hcl⟩ := hcell (by intro h; rw [h] at hlt; simp at hlt)
      obtain ⟨c, e0, hin⟩ := hcl k hlt
      obtain ⟨ku, kx, rfl⟩ := hin.iface
      have f0 := (hbr.below.cell (p := ⟨b, off + k, none⟩) hbB).trans e0
      have hgk := HG.out k hlt
      have hnk : k < ns.length := by rw [HLL.out]; exact hlt
      obtain ⟨nb, noff, rfl, hnB, hnc⟩ := hncell (by intro h; rw [h] at hnk; simp at hnk)
      have hnl8 := hl8 ns[k] (List.getElem_mem hnk)
      have HNm : Hid (∀ W, Below B w W → W.cell? ⟨nb, noff + k, none⟩ = some (.string ns[k])) := fun W hW => (hW.cell (p := ⟨nb, noff + k, none⟩) hnB).trans (hnc k hnk)
      have hml : k < (zipL ns (ks.map (txtL n))).length := by rw [zipL_length _ _ (by simpa using HLL.out)]; simpa using hlt
      have HS : Hid (joinL ((zipL ns (ks.map (txtL n))).take (k + 1)) = (if k = 0 then [] else joinL ((zipL ns (ks.map (txtL n))).take k) ++ [44]) ++ (ns[k].data.toList ++ 58 :: txtL n ks[k])) := by
        show _ = _
        rw [joinL_take_succ _ _ hml, zipL_get ns (ks.map (txtL n)) k hnk (by simpa using hlt) hml, List.getElem_map]
      have HIn : Hid (∀ W, Below B w W → InnerT (fun b => b < B) W n ks[k] (.iface ku kx)) := fun W hW => hin.keep (same_below hW (fun _ h => h)) (fun _ h => h)
      have hszn : ns[k].data.toList.length = ns[k].size := by simp
      clear hcell hcl e0 hin hml hncell hnc
      have HBr : Hid _ := hbr
      clear hbr
      rcases Nat.eq_zero_or_pos k with rfl | hkp
      · rw [Nat.add_zero] at f0
        rw [Nat.add_zero] at HNm
        generalize ns[0] = nm at *
        have HC : Hid _ := HBr.out
        have q0 := HNm.out _ HC.out.below
        go_wp2_with (at_builtin; refine wpList_buf_text rfl (.tmp 26) (.tmp 30) 9 rfl Tryd.underlying9 B (.slice va2 vn2 vc2) _ rfl w HC.out nm rfl (by simp [joinL]; omega) ?_; intro v5 w5 hb5; obtain ⟨va5, vn5, vc5, rfl⟩ := hb5.shape; refine Hid.out ?_)
        refine Lib.hid ?_
        have HB5 : Hid _ := hb5
        clear hb5 HC q0 HBr f0
        go_wp2_with (at_builtin; refine wpList_buf_byte rfl (.tmp 32) (.tmp 33) rfl B (.slice va5 vn5 vc5) _ rfl w w5 58 58 rfl HB5.out rfl (by simp [joinL]; omega) ?_; intro v6 w6 hb6; obtain ⟨va6, vn6, vc6, rfl⟩ := hb6.shape; refine Hid.out ?_)
        refine Lib.hid ?_
        have HB6 : Hid _ := hb6
        clear hb6 HB5
        go_wp2_with fail
        refine (hn B w w6 _ _ ks[0] _ d HB6.out (HIn.out _ HB6.out.below) hgk.1 hgk.2 (by have h1 := HSz.out (0 + 1); rw [HS.out] at h1; simp [joinL] at h1 ⊢; omega) (hT.on HB6.out.below)).mono ?_
        rintro e w7 ⟨v7, rfl, hb7⟩
        obtain ⟨va7, vn7, vc7, rfl⟩ := hb7.shape
        have HF : Hid _ := buf_cast hb7 (l' := l ++ [123] ++ joinL ((zipL ns (ks.map (txtL n))).take (0 + 1))) (by rw [HS.out]; simp [joinL])
        clear hb7 HB6
        go_wp2_with fail
        go_roundw
        case rel => exact ⟨0 + 1, by omega, by go_num, HF.out⟩
        case measure => simp [intOf]; omega
      · have hk0 : decide ((0 : Int) < (k : Int)) = true := decide_eq_true (by omega)
        generalize ns[k] = nm at *
        go_wp2_with (at_builtin; refine wpList_buf_byte rfl (.tmp 23) (.tmp 24) rfl B (.slice va2 vn2 vc2) _ rfl w wr 44 44 rfl HBr.out rfl (by simp; omega) ?_; intro v3 w3 hb3; obtain ⟨va3, vn3, vc3, rfl⟩ := hb3.shape; refine Hid.out ?_)
        refine Lib.hid ?_
        have HC : Hid _ := hb3
        clear hb3
        have q0 := HNm.out _ HC.out.below
        go_wp2_with (at_builtin; refine wpList_buf_text rfl (.tmp 26) (.tmp 30) 9 rfl Tryd.underlying9 B (.slice va3 vn3 vc3) _ rfl w HC.out nm rfl (by simp; omega) ?_; intro v5 w5 hb5; obtain ⟨va5, vn5, vc5, rfl⟩ := hb5.shape; refine Hid.out ?_)
        refine Lib.hid ?_
        have HB5 : Hid _ := hb5
        clear hb5 HC q0 HBr f0
        go_wp2_with (at_builtin; refine wpList_buf_byte rfl (.tmp 32) (.tmp 33) rfl B (.slice va5 vn5 vc5) _ rfl w w5 58 58 rfl HB5.out rfl (by simp; omega) ?_; intro v6 w6 hb6; obtain ⟨va6, vn6, vc6, rfl⟩ := hb6.shape; refine Hid.out ?_)
        refine Lib.hid ?_
        have HB6 : Hid _ := hb6
        clear hb6 HB5
        go_wp2_with fail
        refine (hn B w w6 _ _ ks[k] _ d HB6.out (HIn.out _ HB6.out.below) hgk.1 hgk.2 (by have h1 := HSz.out (k + 1); rw [HS.out, if_neg (by omega)] at h1; simp at h1 ⊢; omega) (hT.on HB6.out.below)).mono ?_
        rintro e w7 ⟨v7, rfl, hb7⟩
        obtain ⟨va7, vn7, vc7, rfl⟩ := hb7.shape
        have HF : Hid _ := buf_cast hb7 (l' := l ++ [123] ++ joinL ((zipL ns (ks.map (txtL n))).take (k + 1))) (by rw [HS.out, if_neg (by omega)]; simp)
        clear hb7 HB6
        go_wp2_with fail
        go_roundw
        case rel => exact ⟨k + 1, by omega, by go_num, HF.out⟩
        case measure => simp [intOf]; omega
    · have hkl : k = ks.length := by omega
      have HBr : Hid (Buf B w wr (.slice va2 vn2 vc2) (l ++ [123] ++ joinL (zipL ns (ks.map (txtL n))))) := buf_cast hbr (by
        have e : ks.length = (zipL ns (ks.map (txtL n))).length := by rw [zipL_length _ _ (by simpa using HLL.out)]; simp
        rw [hkl, e, List.take_length])
      clear hcell hbr hkl hncell
      go_wp2_with (at_builtin; refine wpList_buf_byte rfl (.tmp 40) (.tmp 41) rfl B (.slice va2 vn2 vc2) _ rfl w wr 125 125 rfl HBr.out rfl (by simp; omega) ?_; intro v3 w3 hb3; obtain ⟨va3, vn3, vc3, rfl⟩ := hb3.shape; refine Hid.out ?_)
      refine Lib.hid ?_
      have HF : Hid _ := buf_cast (hb3.from HB0.out) (l' := l ++ (123 :: joinL (zipL ns (ks.map (txtL n))) ++ [125])) (by simp)
      clear hb3 HBr
      go_wp2_with fail
      go_ret
      exact ⟨_, rfl, HF.out⟩

end Go.Proofs.YtcfmdmkcejhbbaaDoor
