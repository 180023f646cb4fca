/-
  Several texts in one, in their order.
-/
import Derived.Test.YtlinplghgamgbaaGreatDoorB15
import Derived.Deep.RegionLaw
import Derived.Test.YtlinplghgamgbaaGreatDoorB1

/-
  The text of a maybe and of a form, by the program.
-/
namespace Go.Proofs.YtlinplghgamgbaaGreatDoor
open Go.RowKit

set_option maxRecDepth 20000 in
set_option maxHeartbeats 1000000 in
theorem appendMaybe_any (n : Nat) (hn : AppSaid n) (B : Nat) (w0 w : World) (v : Value) (l : List UInt8) (ks : List (T n)) (kv : Value) (d : Int) (hb : Buf B w0 w v l) (hr : Row1 (fun b => b < B) w (InnerT (fun b => b < B) w n) ks kv)
    (hg : ks.all (fun x => goodT n x d) = true) (hc : 1 + sumL (fun x => cntT n x) ks ≤ 120) (hl : l.length + (mayTxt (txtL n) ks).length ≤ 20000) (hT : Tens B w) :
    Calls Tryz.prog 107 #[v, kv] w fun e w' => ∃ v', e = .returned v' ∧ Buf B w0 w' v' (l ++ mayTxt (txtL n) ks) := by
  obtain ⟨ao, cap, rfl, hlen, hcell⟩ := hr
  unfold maxLen at hlen
  obtain ⟨va, vn, vc, rfl⟩ := hb.shape
  cases ks with
  | nil =>
    rw [List.length_nil]
    simp only [mayTxt, List.length_cons, List.length_nil] at hl
    go_enter Tryz.func107, Tryz.ntmps107
    go_wp2_with (at_builtin; refine wpList_buf_byte rfl (.tmp 8) (.tmp 9) rfl B (.slice va vn vc) l rfl w0 w 126 126 rfl hb rfl (by omega) ?_; intro v1 w1 hb1; obtain ⟨va1, vn1, vc1, rfl⟩ := hb1.shape; refine Hid.out ?_)
    refine Lib.hid ?_
    have HB1 : Hid _ := hb1
    clear hb1 hb
    go_wp2_with fail
    go_ret
    exact ⟨_, rfl, HB1.out⟩
  | cons k r =>
    obtain ⟨b, off, rfl, hbB, hcl⟩ := hcell (by simp)
    obtain ⟨c, e0, hin⟩ := hcl 0 (by simp)
    rw [Nat.add_zero] at e0
    rw [List.getElem_cons_zero] at hin
    obtain ⟨ku, kx, rfl⟩ := hin.iface
    rw [List.length_cons] at hlen ⊢
    have hne : (((r.length : Nat) : Int) + 1 == 0) = false := by simp; omega
    simp only [mayTxt, List.length_cons] at hl
    simp only [List.all_cons, Bool.and_eq_true] at hg
    simp only [sumL] at hc
    have hBw := hb.le
    have HB : Hid (Buf B w w (.slice va vn vc) l) := hb.here
    have HB0 : Hid (Buf B w0 w (.slice va vn vc) l) := hb
    have HC : Hid (∀ (W : World) (v1 : Value), Buf B w W v1 (l ++ [63]) → Calls Tryz.prog 86 #[v1, .iface ku kx] W fun e w' => ∃ v', e = .returned v' ∧ Buf B w w' v' (l ++ [63] ++ txtL n k)) := fun W v1 h1 =>
      hn B w W v1 _ k _ d h1 (hin.keep (same_below h1.below (fun _ h => h)) (fun _ h => h)) hg.1 (by omega) (by simp; omega) (hT.on h1.below)
    have HCell : Hid (∀ W, Below B w W → W.cell? ⟨b, off, none⟩ = some (.iface ku kx)) := fun W hW => (hW.cell (p := ⟨b, off, none⟩) hbB).trans e0
    clear hcell hcl hin hn hT hg hc hb
    have hbw : b < w.heap.size := by have : b < B := hbB; omega
    go_enter Tryz.func107, Tryz.ntmps107
    go_wp2_with fail
    go_region_law (first
      | (refine step_buf_byte rfl (.tmp 11) (.tmp 12) rfl B (.slice va vn vc) l rfl w 63 (by first | exact (HB.out.alloc _).drew | exact HB.out.drew.alloc _) w.heap.size rfl (by simp [go_sem]) (by omega) ?_; intro v1 w1 hb1; obtain ⟨va1, vn1, vc1, rfl⟩ := hb1.shape; have hck := HCell.out _ hb1.below)
      | (go_simp; go_at_call 86; refine (HC.out _ _ (by first | assumption | exact Buf.drew (by assumption))).mono ?_; rintro e w2 ⟨v2, rfl, hb2⟩; obtain ⟨va2, vn2, vc2, rfl⟩ := hb2.shape))
    all_goals
      have HF : Hid _ := buf_cast (hb2.from HB0.out) (l' := l ++ mayTxt (txtL n) (k :: r)) (by simp [mayTxt])
      clear hb2
      go_wp2_with fail
      go_ret
      exact ⟨_, rfl, HF.out⟩

end Go.Proofs.YtlinplghgamgbaaGreatDoor

/-
  The text of a form, by the program.
-/
namespace Go.Proofs.YtlinplghgamgbaaGreatDoor
open Go.RowKit

set_option maxRecDepth 20000 in
set_option maxHeartbeats 2000000 in
theorem appendForm_any (n : Nat) (hn : AppSaid n) (B : Nat) (w0 w : World) (v : Value) (l : List UInt8) (ns : List ByteArray) (nv : Value) (ks : List (T n)) (kv : Value) (d : Int) (hN : StrsIn (fun b => b < B) w ns nv) (hll : ns.length = ks.length) (hl8 : ∀ s, s ∈ ns → s.size ≤ 8)
    (hb : Buf B w0 w v l) (hr : Row1 (fun b => b < B) w (InnerT (fun b => b < B) w n) ks kv)
    (hg : ks.all (fun x => goodT n x d) = true) (hc : 1 + sumL (fun x => cntT n x) ks ≤ 120) (hl : l.length + (joinL (zipL ns (ks.map (txtL n)))).length + 2 ≤ 20000) (hT : Tens B w) :
    Calls Tryz.prog 106 #[v, nv, kv, .func (.func 86) #[] #[]] w fun e w' => ∃ v', e = .returned v' ∧ Buf B w0 w' v' (l ++ (123 :: joinL (zipL ns (ks.map (txtL n))) ++ [125])) := by
  obtain ⟨ao, cap, rfl, hlen, hcell⟩ := hr
  obtain ⟨no, ncap, rfl, -, -, hncell⟩ := hN
  unfold maxLen at hlen
  obtain ⟨va, vn, vc, rfl⟩ := hb.shape
  have hBw := hb.le
  have HG : Hid (∀ k (h : k < ks.length), goodT n ks[k] d = true ∧ cntT n ks[k] ≤ 120) := fun k h => by
    refine ⟨List.all_eq_true.1 hg _ (List.getElem_mem h), ?_⟩
    have := sumL_mono (fun x => cntT n x) ks _ (List.getElem_mem h)
    omega
  have HSz : Hid (∀ k, (joinL ((zipL ns (ks.map (txtL n))).take k)).length ≤ (joinL (zipL ns (ks.map (txtL n)))).length) := fun k => joinL_take_len _ k
  have HLL : Hid (ns.length = ks.length) := hll
  have HB0 : Hid (Buf B w0 w (.slice va vn vc) l) := hb
  clear hg hll
  go_enter Tryz.func106, Tryz.ntmps106
  go_wp2_with (at_builtin; refine wpList_buf_byte rfl (.tmp 11) (.tmp 12) rfl B (.slice va vn vc) l rfl w w 123 123 rfl HB0.out.here rfl (by omega) ?_; intro v1 w1 hb1; obtain ⟨va1, vn1, vc1, rfl⟩ := hb1.shape; refine Hid.out ?_)
  refine Lib.hid ?_
  have HB1 : Hid _ := hb1
  clear hb1
  go_wp2_with fail
  go_loopw [0, 16] (fun a i wr => ∃ k : Nat, k ≤ ks.length ∧ i = .int .i64 k ∧ Buf B w wr a (l ++ [123] ++ joinL ((zipL ns (ks.map (txtL n))).take k))) (fun _ i _ => ks.length - (intOf i).toNat)
  case atStart => exact ⟨0, Nat.zero_le _, rfl, buf_cast HB1.out (by simp [joinL])⟩
  case round =>
    obtain ⟨k, hk, rfl, hbr⟩ := hrel
    obtain ⟨va2, vn2, vc2, rfl⟩ := hbr.shape
    have hsk := HSz.out k
    clear HB1
    by_cases hlt : k < ks.length
    · obtain ⟨b, off, rfl, hbB, hcl⟩ := hcell (by intro h; rw [h] at hlt; simp at hlt)
      obtain ⟨c, e0, hin⟩ := hcl k hlt
      obtain ⟨ku, kx, rfl⟩ := hin.iface
      have f0 := (hbr.below.cell (p := ⟨b, off + k, none⟩) hbB).trans e0
      have hgk := HG.out k hlt
      have hnk : k < ns.length := by rw [HLL.out]; exact hlt
      obtain ⟨nb, noff, rfl, hnB, hnc⟩ := hncell (by intro h; rw [h] at hnk; simp at hnk)
      have hnl8 := hl8 ns[k] (List.getElem_mem hnk)
      have HNm : Hid (∀ W, Below B w W → W.cell? ⟨nb, noff + k, none⟩ = some (.string ns[k])) := fun W hW => (hW.cell (p := ⟨nb, noff + k, none⟩) hnB).trans (hnc k hnk)
      have hml : k < (zipL ns (ks.map (txtL n))).length := by rw [zipL_length _ _ (by simpa using HLL.out)]; simpa using hlt
      have HS : Hid (joinL ((zipL ns (ks.map (txtL n))).take (k + 1)) = (if k = 0 then [] else joinL ((zipL ns (ks.map (txtL n))).take k) ++ [44]) ++ (ns[k].data.toList ++ 58 :: txtL n ks[k])) := by
        show _ = _
        rw [joinL_take_succ _ _ hml, zipL_get ns (ks.map (txtL n)) k hnk (by simpa using hlt) hml, List.getElem_map]
      have HIn : Hid (∀ W, Below B w W → InnerT (fun b => b < B) W n ks[k] (.iface ku kx)) := fun W hW => hin.keep (same_below hW (fun _ h => h)) (fun _ h => h)
      have hszn : ns[k].data.toList.length = ns[k].size := by simp
      clear hcell hcl e0 hin hml hncell hnc
      have HBr : Hid _ := hbr
      clear hbr
      rcases Nat.eq_zero_or_pos k with rfl | hkp
      · rw [Nat.add_zero] at f0
        rw [Nat.add_zero] at HNm
        generalize ns[0] = nm at *
        have HC : Hid _ := HBr.out
        have q0 := HNm.out _ HC.out.below
        go_wp2_with (at_builtin; refine wpList_buf_text rfl (.tmp 26) (.tmp 30) 9 rfl Tryz.underlying9 B (.slice va2 vn2 vc2) _ rfl w HC.out nm rfl (by simp [joinL]; omega) ?_; intro v5 w5 hb5; obtain ⟨va5, vn5, vc5, rfl⟩ := hb5.shape; refine Hid.out ?_)
        refine Lib.hid ?_
        have HB5 : Hid _ := hb5
        clear hb5 HC q0 HBr f0
        go_wp2_with (at_builtin; refine wpList_buf_byte rfl (.tmp 32) (.tmp 33) rfl B (.slice va5 vn5 vc5) _ rfl w w5 58 58 rfl HB5.out rfl (by simp [joinL]; omega) ?_; intro v6 w6 hb6; obtain ⟨va6, vn6, vc6, rfl⟩ := hb6.shape; refine Hid.out ?_)
        refine Lib.hid ?_
        have HB6 : Hid _ := hb6
        clear hb6 HB5
        go_wp2_with fail
        refine (hn B w w6 _ _ ks[0] _ d HB6.out (HIn.out _ HB6.out.below) hgk.1 hgk.2 (by have h1 := HSz.out (0 + 1); rw [HS.out] at h1; simp [joinL] at h1 ⊢; omega) (hT.on HB6.out.below)).mono ?_
        rintro e w7 ⟨v7, rfl, hb7⟩
        obtain ⟨va7, vn7, vc7, rfl⟩ := hb7.shape
        have HF : Hid _ := buf_cast hb7 (l' := l ++ [123] ++ joinL ((zipL ns (ks.map (txtL n))).take (0 + 1))) (by rw [HS.out]; simp [joinL])
        clear hb7 HB6
        go_wp2_with fail
        go_roundw
        case rel => exact ⟨0 + 1, by omega, by go_num, HF.out⟩
        case measure => simp [intOf]; omega
      · have hk0 : decide ((0 : Int) < (k : Int)) = true := decide_eq_true (by omega)
        generalize ns[k] = nm at *
        go_wp2_with (at_builtin; refine wpList_buf_byte rfl (.tmp 23) (.tmp 24) rfl B (.slice va2 vn2 vc2) _ rfl w wr 44 44 rfl HBr.out rfl (by simp; omega) ?_; intro v3 w3 hb3; obtain ⟨va3, vn3, vc3, rfl⟩ := hb3.shape; refine Hid.out ?_)
        refine Lib.hid ?_
        have HC : Hid _ := hb3
        clear hb3
        have q0 := HNm.out _ HC.out.below
        go_wp2_with (at_builtin; refine wpList_buf_text rfl (.tmp 26) (.tmp 30) 9 rfl Tryz.underlying9 B (.slice va3 vn3 vc3) _ rfl w HC.out nm rfl (by simp; omega) ?_; intro v5 w5 hb5; obtain ⟨va5, vn5, vc5, rfl⟩ := hb5.shape; refine Hid.out ?_)
        refine Lib.hid ?_
        have HB5 : Hid _ := hb5
        clear hb5 HC q0 HBr f0
        go_wp2_with (at_builtin; refine wpList_buf_byte rfl (.tmp 32) (.tmp 33) rfl B (.slice va5 vn5 vc5) _ rfl w w5 58 58 rfl HB5.out rfl (by simp; omega) ?_; intro v6 w6 hb6; obtain ⟨va6, vn6, vc6, rfl⟩ := hb6.shape; refine Hid.out ?_)
        refine Lib.hid ?_
        have HB6 : Hid _ := hb6
        clear hb6 HB5
        go_wp2_with fail
        refine (hn B w w6 _ _ ks[k] _ d HB6.out (HIn.out _ HB6.out.below) hgk.1 hgk.2 (by have h1 := HSz.out (k + 1); rw [HS.out, if_neg (by omega)] at h1; simp at h1 ⊢; omega) (hT.on HB6.out.below)).mono ?_
        rintro e w7 ⟨v7, rfl, hb7⟩
        obtain ⟨va7, vn7, vc7, rfl⟩ := hb7.shape
        have HF : Hid _ := buf_cast hb7 (l' := l ++ [123] ++ joinL ((zipL ns (ks.map (txtL n))).take (k + 1))) (by rw [HS.out, if_neg (by omega)]; simp)
        clear hb7 HB6
        go_wp2_with fail
        go_roundw
        case rel => exact ⟨k + 1, by omega, by go_num, HF.out⟩
        case measure => simp [intOf]; omega
    · have hkl : k = ks.length := by omega
      have HBr : Hid (Buf B w wr (.slice va2 vn2 vc2) (l ++ [123] ++ joinL (zipL ns (ks.map (txtL n))))) := buf_cast hbr (by
        have e : ks.length = (zipL ns (ks.map (txtL n))).length := by rw [zipL_length _ _ (by simpa using HLL.out)]; simp
        rw [hkl, e, List.take_length])
      clear hcell hbr hkl hncell
      go_wp2_with (at_builtin; refine wpList_buf_byte rfl (.tmp 40) (.tmp 41) rfl B (.slice va2 vn2 vc2) _ rfl w wr 125 125 rfl HBr.out rfl (by simp; omega) ?_; intro v3 w3 hb3; obtain ⟨va3, vn3, vc3, rfl⟩ := hb3.shape; refine Hid.out ?_)
      refine Lib.hid ?_
      have HF : Hid _ := buf_cast (hb3.from HB0.out) (l' := l ++ (123 :: joinL (zipL ns (ks.map (txtL n))) ++ [125])) (by simp)
      clear hb3 HBr
      go_wp2_with fail
      go_ret
      exact ⟨_, rfl, HF.out⟩

end Go.Proofs.YtlinplghgamgbaaGreatDoor

/-
  The text of any tree, by the program: appendTree, TreeWrite.
-/
namespace Go.Proofs.YtlinplghgamgbaaGreatDoor
open Go.RowKit

set_option maxRecDepth 20000 in
set_option maxHeartbeats 1000000 in
theorem appendTree_num (B : Nat) (w0 w : World) (v : Value) (l : List UInt8) (x : Int) (hb : Buf B w0 w v l) (h0 : -999999999 ≤ x) (h1 : x ≤ 999999999) (hl : l.length ≤ 20000) (hT : Tens B w) :
    Calls Tryz.prog 86 #[v, .iface 126 (.int .i64 x)] w fun e w' => ∃ v', e = .returned v' ∧ Buf B w0 w' v' (l ++ Lib.itoa x) := by
  have hyes := Tryz.yes_num
  obtain ⟨va, vn, vc, rfl⟩ := hb.shape
  have HQ : Hid (Calls Tryz.prog 103 _ w _) := buf_int B w0 w _ l x (by omega) (by omega) hb (by omega) hT
  clear hb hT
  go_enter Tryz.func86, Tryz.ntmps86
  go_wp2_with fail
  refine HQ.out.mono ?_
  rintro e w1 ⟨v1, rfl, hb1⟩
  obtain ⟨va1, vn1, vc1, rfl⟩ := hb1.shape
  have HB1 : Hid _ := hb1
  clear hb1 HQ
  go_wp2_with fail
  go_ret
  exact ⟨_, rfl, HB1.out⟩

set_option maxRecDepth 20000 in
set_option maxHeartbeats 1000000 in
theorem appendTree_text (B : Nat) (w0 w : World) (v : Value) (l : List UInt8) (x : ByteArray) (hb : Buf B w0 w v l) (hx : x.size ≤ 60) (hl : l.length ≤ 20000) :
    Calls Tryz.prog 86 #[v, .iface 128 (.string x)] w fun e w' => ∃ v', e = .returned v' ∧ Buf B w0 w' v' (l ++ (34 :: x.data.toList ++ [34])) := by
  have hno0 := Tryz.no_num_text
  have hyes := Tryz.yes_text
  obtain ⟨va, vn, vc, rfl⟩ := hb.shape
  have hxl : x.data.toList.length = x.size := by simp
  have HB : Hid _ := hb
  clear hb
  go_enter Tryz.func86, Tryz.ntmps86
  go_wp2_with (at_builtin; refine wpList_buf_byte rfl (.tmp 21) (.tmp 22) rfl B (.slice va vn vc) _ rfl w0 w 34 34 rfl HB.out rfl (by omega) ?_; intro v1 w1 hb1; obtain ⟨va1, vn1, vc1, rfl⟩ := hb1.shape; refine Hid.out ?_)
  refine Lib.hid ?_
  have HB1 : Hid _ := hb1
  clear hb1 HB
  go_wp2_with (at_builtin; refine wpList_buf_text rfl (.tmp 24) (.tmp 25) 128 rfl Tryz.underlying128 B (.slice va1 vn1 vc1) _ rfl w0 HB1.out x rfl (by simp; omega) ?_; intro v2 w2 hb2; obtain ⟨va2, vn2, vc2, rfl⟩ := hb2.shape; refine Hid.out ?_)
  refine Lib.hid ?_
  have HB2 : Hid _ := hb2
  clear hb2 HB1
  go_wp2_with (at_builtin; refine wpList_buf_byte rfl (.tmp 27) (.tmp 28) rfl B (.slice va2 vn2 vc2) _ rfl w0 w2 34 34 rfl HB2.out rfl (by simp; omega) ?_; intro v3 w3 hb3; obtain ⟨va3, vn3, vc3, rfl⟩ := hb3.shape; refine Hid.out ?_)
  refine Lib.hid ?_
  have HB3 : Hid _ := buf_cast hb3 (l' := l ++ (34 :: x.data.toList ++ [34])) (by simp)
  clear hb3 HB2
  go_wp2_with fail
  go_ret
  exact ⟨_, rfl, HB3.out⟩

set_option maxHeartbeats 400000 in
theorem flagWord_any (x : Bool) (w : World) : Calls Tryz.prog 104 #[.bool x] w fun e w' => e = .returned (.string (bs (if x = true then [121, 101, 115] else [110, 111]))) ∧ w = w' := by
  cases x
  all_goals
    go_enter Tryz.func104, Tryz.ntmps104
    go_wp2
    go_ret
    exact ⟨rfl, rfl⟩

set_option maxRecDepth 20000 in
set_option maxHeartbeats 1000000 in
theorem appendTree_flag (B : Nat) (w0 w : World) (v : Value) (l : List UInt8) (x : Bool) (hb : Buf B w0 w v l) (hl : l.length ≤ 20000) :
    Calls Tryz.prog 86 #[v, .iface 129 (.bool x)] w fun e w' => ∃ v', e = .returned v' ∧ Buf B w0 w' v' (l ++ (if x = true then [121, 101, 115] else [110, 111])) := by
  have hno0 := Tryz.no_num_flag
  have hno1 := Tryz.no_text_flag
  have hyes := Tryz.yes_flag
  obtain ⟨va, vn, vc, rfl⟩ := hb.shape
  have HB : Hid _ := hb
  have hfl : (if x = true then [121, 101, 115] else [110, 111] : List UInt8).length ≤ 3 := by split <;> simp
  have HE : Hid (∀ u : List UInt8, u = (if x = true then [121, 101, 115] else [110, 111]) → Buf B w0 w (.slice va vn vc) l) := fun _ _ => hb
  obtain ⟨fw, hfw⟩ : ∃ fw : List UInt8, fw = (if x = true then [121, 101, 115] else [110, 111]) := ⟨_, rfl⟩
  rw [← hfw] at hfl ⊢
  have HQ : Hid (Calls Tryz.prog 104 #[.bool x] w fun e w' => e = .returned (.string (bs fw)) ∧ w = w') := by rw [hfw]; exact flagWord_any x w
  have hsz : (bs fw).size = fw.length := bs_size fw
  have hsl : (bs fw).data.toList = fw := bs_toList fw
  clear hb hfw HE
  go_enter Tryz.func86, Tryz.ntmps86
  go_wp2_with fail
  refine HQ.out.mono ?_
  rintro e w1 ⟨rfl, rfl⟩
  go_wp2_with (at_builtin; refine wpList_buf_text rfl (.tmp 33) (.tmp 35) 9 rfl Tryz.underlying9 B (.slice va vn vc) _ rfl w0 HB.out (bs fw) rfl (by omega) ?_; intro v2 w2 hb2; obtain ⟨va2, vn2, vc2, rfl⟩ := hb2.shape; refine Hid.out ?_)
  refine Lib.hid ?_
  have HB3 : Hid _ := buf_cast hb2 (l' := l ++ fw) (by rw [bs_toList])
  clear hb2 HB
  go_wp2_with fail
  go_ret
  exact ⟨_, rfl, HB3.out⟩

set_option maxRecDepth 20000 in
set_option maxHeartbeats 1000000 in
theorem appendTree_list (B : Nat) (w0 w : World) (v : Value) (l r : List UInt8) (ka : Option Addr) (kl kc : Nat) (hb : Buf B w0 w v l) (HQ : Hid (Calls Tryz.prog 105 #[v, .slice ka kl kc] w fun e w' => ∃ v', e = .returned v' ∧ Buf B w0 w' v' r)) :
    Calls Tryz.prog 86 #[v, .iface 132 (.slice ka kl kc)] w fun e w' => ∃ v', e = .returned v' ∧ Buf B w0 w' v' r := by
  have hno0 := Tryz.no_num_list
  have hno1 := Tryz.no_text_list
  have hno2 := Tryz.no_flag_list
  have hyes := Tryz.yes_list
  obtain ⟨va, vn, vc, rfl⟩ := hb.shape
  clear hb
  go_enter Tryz.func86, Tryz.ntmps86
  go_wp2_with fail
  refine HQ.out.mono ?_
  rintro e w1 ⟨v1, rfl, hb1⟩
  obtain ⟨va1, vn1, vc1, rfl⟩ := hb1.shape
  have HB1 : Hid _ := hb1
  clear hb1 HQ
  go_wp2_with fail
  go_ret
  exact ⟨_, rfl, HB1.out⟩

set_option maxRecDepth 20000 in
set_option maxHeartbeats 1000000 in
theorem appendTree_form (B : Nat) (w0 w : World) (v : Value) (l r : List UInt8) (na ka : Option Addr) (nl nc kl kc : Nat) (hb : Buf B w0 w v l)
    (HQ : Hid (Calls Tryz.prog 106 #[v, .slice na nl nc, .slice ka kl kc, .func (.func 86) #[] #[]] (w.alloc (.cells #[.slice na nl nc, .slice ka kl kc] 135)) fun e w' => ∃ v', e = .returned v' ∧ Buf B w0 w' v' r)) :
    Calls Tryz.prog 86 #[v, .iface 135 (.agg #[.slice na nl nc, .slice ka kl kc])] w fun e w' => ∃ v', e = .returned v' ∧ Buf B w0 w' v' r := by
  have hno0 := Tryz.no_num_form
  have hno1 := Tryz.no_text_form
  have hno2 := Tryz.no_flag_form
  have hno3 := Tryz.no_list_form
  have hyes := Tryz.yes_form
  obtain ⟨va, vn, vc, rfl⟩ := hb.shape
  clear hb
  go_enter Tryz.func86, Tryz.ntmps86
  go_wp2_with fail
  refine HQ.out.mono ?_
  rintro e w1 ⟨v1, rfl, hb1⟩
  obtain ⟨va1, vn1, vc1, rfl⟩ := hb1.shape
  have HB1 : Hid _ := hb1
  clear hb1 HQ
  go_wp2_with fail
  go_ret
  exact ⟨_, rfl, HB1.out⟩

set_option maxRecDepth 20000 in
set_option maxHeartbeats 1000000 in
theorem appendTree_maybe (B : Nat) (w0 w : World) (v : Value) (l r : List UInt8) (ka : Option Addr) (kl kc : Nat) (hb : Buf B w0 w v l) (HQ : Hid (Calls Tryz.prog 107 #[v, .slice ka kl kc] w fun e w' => ∃ v', e = .returned v' ∧ Buf B w0 w' v' r)) :
    Calls Tryz.prog 86 #[v, .iface 137 (.slice ka kl kc)] w fun e w' => ∃ v', e = .returned v' ∧ Buf B w0 w' v' r := by
  have hno0 := Tryz.no_num_maybe
  have hno1 := Tryz.no_text_maybe
  have hno2 := Tryz.no_flag_maybe
  have hno3 := Tryz.no_list_maybe
  have hno4 := Tryz.no_form_maybe
  have hyes := Tryz.yes_maybe
  obtain ⟨va, vn, vc, rfl⟩ := hb.shape
  clear hb
  go_enter Tryz.func86, Tryz.ntmps86
  go_wp2_with fail
  refine HQ.out.mono ?_
  rintro e w1 ⟨v1, rfl, hb1⟩
  obtain ⟨va1, vn1, vc1, rfl⟩ := hb1.shape
  have HB1 : Hid _ := hb1
  clear hb1 HQ
  go_wp2_with fail
  go_ret
  exact ⟨_, rfl, HB1.out⟩

end Go.Proofs.YtlinplghgamgbaaGreatDoor

/-
  TreeWrite of the program: what it answers.
-/
namespace Go.Proofs.YtlinplghgamgbaaGreatDoor
open Go.RowKit

theorem app_step (n : Nat) (hn : AppSaid n) : AppSaid (n + 1) := by
  intro B w0 w v l t iv d hb h hg hc hl hT
  have hg' := hg
  simp only [goodT, Bool.and_eq_true] at hg'
  have ha : aloneF (Nd.sort t) (Nd.num t) (Nd.text t) (Nd.names t) (Nd.kids t).length = true := hg'.1.2
  have hc' : 1 + sumL (fun x => cntT n x) (Nd.kids t) ≤ 120 := by simpa only [cntT] using hc
  unfold aloneF at ha
  simp only [txtL] at hl ⊢
  rcases h with ⟨hs, rfl⟩ | ⟨hs, rfl⟩ | ⟨hs, rfl⟩ | ⟨hs, kv, rfl, hk⟩ | ⟨hs, nv, kv, rfl, hnm, hk⟩ | ⟨hs, kv, rfl, hk⟩
  · rw [if_pos hs] at ha hl ⊢
    simp only [Bool.and_eq_true, decide_eq_true_eq] at ha
    exact appendTree_num B w0 w v l _ hb ha.1.1.1.1 ha.1.1.1.2 (by omega) hT
  · rw [if_neg (by omega), if_pos hs] at ha hl ⊢
    simp only [Bool.and_eq_true, textB, decide_eq_true_eq] at ha
    exact appendTree_text B w0 w v l _ hb ha.1.1.2.1 (by omega)
  · rw [if_neg (by omega), if_neg (by omega), if_pos hs] at hl ⊢
    have := appendTree_flag B w0 w v l (Nd.num t == 1) hb (by omega)
    simpa using this
  · rw [if_neg (by omega), if_neg (by omega), if_neg (by omega), if_neg (by omega), if_neg (by omega)] at hl ⊢
    obtain ⟨ka, kc, rfl, -⟩ := id hk
    simp only [List.length_append, List.length_cons, List.length_nil] at hl
    exact appendTree_list B w0 w v l _ _ _ _ hb (appendList_any n hn B w0 w v l (Nd.kids t) _ (d + 1) hb hk hg'.2 hc' (by omega) hT)
  · rw [if_neg (by omega), if_neg (by omega), if_neg (by omega), if_neg (by omega), if_pos hs] at hl ⊢
    rw [if_neg (by omega), if_neg (by omega), if_neg (by omega), if_neg (by omega), if_pos hs] at ha
    simp only [Bool.and_eq_true, beq_iff_eq] at ha
    obtain ⟨ka, kc, rfl, -⟩ := id hk
    obtain ⟨na, nc, rfl, -⟩ := id hnm
    simp only [List.length_append, List.length_cons, List.length_nil] at hl
    have hal := (Below.refl B w).alloc hb.le (.cells #[.slice na (Nd.names t).length nc, .slice ka (Nd.kids t).length kc] 135)
    exact appendTree_form B w0 w v l _ _ _ _ _ _ _ hb (appendForm_any n hn B w0 _ v l (Nd.names t) _ (Nd.kids t) _ (d + 1) (hnm.keep (same_below hal (fun _ h => h)) (fun _ h => h)) (by omega) (riseB_names _ ha.2) (hb.alloc _)
      (hk.keep (same_below hal (fun _ h => h)) (fun _ h => h) (fun _ _ _ hx => hx.keep (same_below hal (fun _ h => h)) (fun _ h => h))) hg'.2 hc' (by omega) (hT.on hal))
  · rw [if_neg (by omega), if_neg (by omega), if_neg (by omega), if_pos hs] at hl ⊢
    obtain ⟨ka, kc, rfl, -⟩ := id hk
    exact appendTree_maybe B w0 w v l _ _ _ _ hb (appendMaybe_any n hn B w0 w v l (Nd.kids t) _ (d + 1) hb hk hg'.2 hc' (by omega) hT)

theorem appendTree_any : ∀ n, AppSaid n := by
  intro n
  induction n with
  | zero => intro B w0 w v l t iv d hb h; exact h.elim
  | succ n ih => exact app_step n ih

theorem txtL_ne : ∀ (n : Nat) (t : T n) (d : Int), goodT n t d = true → txtL n t ≠ [] := by
  intro n t d h
  cases n with
  | zero => simp [goodT] at h
  | succ n =>
    simp only [txtL]
    by_cases h1 : Nd.sort t = 1
    · rw [if_pos h1]
      intro e
      have : (Lib.itoa (Nd.num t)).length = 0 := by rw [e]; rfl
      unfold Lib.itoa at this
      split at this
      · simp at this
      · rw [Lib.decDigits_length] at this
        unfold Lib.nDigits at this
        split at this <;> omega
    rw [if_neg h1]
    by_cases h2 : Nd.sort t = 2
    · rw [if_pos h2]; simp
    rw [if_neg h2]
    by_cases h3 : Nd.sort t = 3
    · rw [if_pos h3]; split <;> simp
    rw [if_neg h3]
    by_cases h6 : Nd.sort t = 6
    · rw [if_pos h6]; cases Nd.kids t <;> simp [mayTxt]
    rw [if_neg h6]
    by_cases h5 : Nd.sort t = 5
    · rw [if_pos h5]; simp
    rw [if_neg h5]; simp

/-- The table of tens lies below all that the call makes. -/
def TensIn (w : World) : Prop := Lib.TabBelow Tryz.prog w.heap.size w "internal/strconv.uint64pow10" .u64 Lib.pow10Tab

theorem TensIn.step {w w' : World} (h : TensIn w) (hb : Below w.heap.size w w') : TensIn w' := fun w2 h2 => h w2 (hb.trans (h2.mono hb.size))

set_option maxRecDepth 20000 in
set_option maxHeartbeats 400000 in
theorem implWrite_any (n : Nat) (S : Nat → Prop) (t : T n) (c0 c1 c2 c3 c4 : Value) (w : World) (ht : TreeIn S w n t c0 c1 c2 c3 c4) (hB : ∀ b, S b → b < w.heap.size) (hT : TensIn w) :
    Calls Tryz.prog 69 #[.agg #[c0, c1, c2, c3, c4]] w fun e w' => e = .returned (.string (textF n t)) ∧ Below w.heap.size w w' := by
  obtain ⟨x0, x1, x2, xa, xl, xc, ya, yl, yc, rfl, rfl, rfl, rfl, rfl⟩ := ht.shape
  have hb0 := (Below.refl w.heap.size w).alloc (Nat.le_refl _) (.cells #[.int .i64 x0, .int .i64 x1, .string x2, .slice xa xl xc, .slice ya yl yc] 52)
  have ht' := ht.keep (same_below hb0 hB) (fun _ h => h)
  clear ht
  go_enter Tryz.func69, Tryz.ntmps69
  go_wp2_with fail
  refine (innerTree_any n S t _ _ _ _ _ _ ht' (fun b hb => by have := hB b hb; simp; omega)).mono ?_
  rintro e w1 ⟨hb, ⟨hok, v, rfl, hin⟩ | ⟨hok, rfl⟩⟩
  · have hp := okT_get hok
    have hbw := below_step hb0 (by simp) hb
    have hz1 := hb.size
    simp at hz1
    have hin' : InnerT (fun b => b < w1.heap.size) w1 n t v := hin.keep (fun _ _ => rfl) (fun b hb => hb.elim (fun h => by have := hB b h; omega) (fun h => h.2))
    obtain ⟨ku, kx, rfl⟩ := id hin'.iface
    have hlen := txtL_len n t 1 hp.1
    have hne := txtL_ne n t 1 hp.1
    have HC : Hid (textF n t = bs (txtL n t)) := by show _ = _; rw [textF, if_pos hok]
    have HP : Hid (Calls Tryz.prog 86 #[.slice none 0 0, _] w1 _) := appendTree_any n w1.heap.size w1 w1 (.slice none 0 0) [] t _ 1 (Buf.nil (Nat.le_refl _)) hin' hp.1 hp.2 (by simp; omega) (hT.step hbw)
    have HNE : Hid (txtL n t ≠ []) := hne
    clear hb hok hin hin' hb0 ht' hp hne hlen
    go_wp2_with fail
    refine HP.out.mono ?_
    rintro e w2 ⟨v2, rfl, hb2⟩
    rw [List.nil_append] at hb2
    have hcv := buf_string _ _ _ _ _ hb2 HNE.out
    have hbw2 := hbw.trans (hb2.below.mono hbw.size)
    obtain ⟨va, vn, vc, rfl⟩ := hb2.shape
    clear hb2 hbw HP
    go_wp2_with fail
    go_ret
    exact ⟨str_ret HC.out.symm, hbw2⟩
  · have HP : Hid (textF n t = bs [] ∧ Below w.heap.size w w1) := ⟨by rw [textF, if_neg (by rw [hok]; simp)], below_step hb0 (by simp) hb⟩
    clear hb hok hb0 ht'
    go_wp2_with fail
    go_ret
    exact ⟨str_ret HP.out.1.symm, HP.out.2⟩

end Go.Proofs.YtlinplghgamgbaaGreatDoor
