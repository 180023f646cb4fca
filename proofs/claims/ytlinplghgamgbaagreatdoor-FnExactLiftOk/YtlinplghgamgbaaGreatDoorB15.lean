/-
  Several texts in one, in their order.
-/
import Derived.Test.YtlinplghgamgbaaGreatDoorBufN
import Derived.Test.YtlinplghgamgbaaGreatDoorB13
import Derived.Test.YtlinplghgamgbaaGreatDoorShelf
import Derived.Lib.AppendIntMem
import Derived.Test.YtlinplghgamgbaaGreatDoorB14
import Derived.Test.YtlinplghgamgbaaGreatDoorB9

/-
  A number into a buffer of bytes that a call owns.
-/
namespace Go.Proofs.YtlinplghgamgbaaGreatDoor
open Go.RowKit

/-- A number into the buffer. -/
theorem buf_int (B : Nat) (w0 w : World) (v : Value) (l : List UInt8) (i : Int) (h0 : -9223372036854775808 ≤ i) (h1 : i ≤ 9223372036854775807) (hb : Buf B w0 w v l) (hlen : l.length ≤ 1000000)
    (htab : Lib.TabBelow Tryz.prog B w "internal/strconv.uint64pow10" .u64 Lib.pow10Tab) :
    Calls Tryz.prog 103 #[v, .int .i64 i, .int .i64 10] w fun e w' => ∃ v', e = .returned v' ∧ Buf B w0 w' v' (l ++ Lib.itoa i) := by
  refine (Tryz.strconv_AppendInt_10 B l.length i h0 h1 v (Lib.byteCells l) w hb.own hb.le (by omega) htab).mono ?_
  rintro e w' ⟨v', rfl, hown, hbel, hkept⟩
  refine ⟨v', rfl, ?_, hb.below.trans hbel, Nat.le_trans hb.le hbel.size, hb.kept.trans hkept⟩
  rw [List.length_append, Lib.byteCells_append]
  exact hown

end Go.Proofs.YtlinplghgamgbaaGreatDoor

/-
  The text of a tree, by the program: appendList, appendForm, appendMaybe.
-/
namespace Go.Proofs.YtlinplghgamgbaaGreatDoor
open Go.RowKit

/-- The table of tens, whatever is done from block B on. -/
def Tens (B : Nat) (w : World) : Prop := Lib.TabBelow Tryz.prog B w "internal/strconv.uint64pow10" .u64 Lib.pow10Tab

/-- appendTree at trees of at most n levels. -/
def AppSaid (n : Nat) : Prop := ∀ (B : Nat) (w0 w : World) (v : Value) (l : List UInt8) (t : T n) (iv : Value) (d : Int), Buf B w0 w v l → InnerT (fun b => b < B) w n t iv → goodT n t d = true → cntT n t ≤ 120 → l.length + (txtL n t).length ≤ 20000 → Tens B w →
  Calls Tryz.prog 86 #[v, iv] w fun e w' => ∃ v', e = .returned v' ∧ Buf B w0 w' v' (l ++ txtL n t)

theorem Tens.on {B : Nat} {w w' : World} (h : Tens B w) (hb : Below B w w') : Tens B w' := Lib.TabBelow.on h hb

theorem buf_cast {B : Nat} {w0 w : World} {v : Value} {l l' : List UInt8} (h : Buf B w0 w v l) (e : l = l') : Buf B w0 w v l' := e ▸ h

set_option maxRecDepth 20000 in
set_option maxHeartbeats 400000 in
theorem appendList_any (n : Nat) (hn : AppSaid n) (B : Nat) (w0 w : World) (v : Value) (l : List UInt8) (ks : List (T n)) (kv : Value) (d : Int) (hb : Buf B w0 w v l) (hr : Row1 (fun b => b < B) w (InnerT (fun b => b < B) w n) ks kv)
    (hg : ks.all (fun x => goodT n x d) = true) (hc : 1 + sumL (fun x => cntT n x) ks ≤ 120) (hl : l.length + (joinL (ks.map (txtL n))).length + 2 ≤ 20000) (hT : Tens B w) :
    Calls Tryz.prog 105 #[v, kv] w fun e w' => ∃ v', e = .returned v' ∧ Buf B w0 w' v' (l ++ (91 :: joinL (ks.map (txtL n)) ++ [93])) := by
  obtain ⟨ao, cap, rfl, hlen, hcell⟩ := hr
  unfold maxLen at hlen
  obtain ⟨va, vn, vc, rfl⟩ := hb.shape
  have HG : Hid (∀ k (h : k < ks.length), goodT n ks[k] d = true ∧ cntT n ks[k] ≤ 120) := fun k h => by
    refine ⟨List.all_eq_true.1 hg _ (List.getElem_mem h), ?_⟩
    have := sumL_mono (fun x => cntT n x) ks _ (List.getElem_mem h)
    omega
  have HSz : Hid (∀ k, (joinL ((ks.map (txtL n)).take k)).length ≤ (joinL (ks.map (txtL n))).length) := fun k => joinL_take_len _ k
  have HB0 : Hid (Buf B w0 w (.slice va vn vc) l) := hb
  clear hg
  go_enter Tryz.func105, Tryz.ntmps105
  go_wp2_with (at_builtin; refine wpList_buf_byte rfl (.tmp 7) (.tmp 8) rfl B (.slice va vn vc) l rfl w w 91 91 rfl hb.here rfl (by omega) ?_; intro v1 w1 hb1; obtain ⟨va1, vn1, vc1, rfl⟩ := hb1.shape; refine Hid.out ?_)
  refine Lib.hid ?_
  go_wp2_with fail
  go_loopw [0, 12] (fun a i wr => ∃ k : Nat, k ≤ ks.length ∧ i = .int .i64 k ∧ Buf B w wr a (l ++ [91] ++ joinL ((ks.map (txtL n)).take k))) (fun _ i _ => ks.length - (intOf i).toNat)
  case atStart => exact ⟨0, Nat.zero_le _, rfl, buf_cast hb1 (by simp [joinL])⟩
  case round =>
    obtain ⟨k, hk, rfl, hbr⟩ := hrel
    obtain ⟨va2, vn2, vc2, rfl⟩ := hbr.shape
    have hsk := HSz.out k
    by_cases hlt : k < ks.length
    · obtain ⟨b, off, rfl, hbB, hcl⟩ := hcell (by intro h; rw [h] at hlt; simp at hlt)
      obtain ⟨c, e0, hin⟩ := hcl k hlt
      obtain ⟨ku, kx, rfl⟩ := hin.iface
      have f0 := (hbr.below.cell (p := ⟨b, off + k, none⟩) hbB).trans e0
      have hgk := HG.out k hlt
      have hml : k < (ks.map (txtL n)).length := by simpa using hlt
      have HS : Hid (joinL ((ks.map (txtL n)).take (k + 1)) = (if k = 0 then [] else joinL ((ks.map (txtL n)).take k) ++ [44]) ++ txtL n ks[k]) := by show _ = _; rw [joinL_take_succ _ _ hml]; simp
      have HIn : Hid (∀ W, Below B w W → InnerT (fun b => b < B) W n ks[k] (.iface ku kx)) := fun W hW => hin.keep (same_below hW (fun _ h => h)) (fun _ h => h)
      clear hcell hcl e0 hin hml
      have HBr : Hid _ := hbr
      clear hbr
      rcases Nat.eq_zero_or_pos k with rfl | hkp
      · rw [Nat.add_zero] at f0
        go_wp2_with fail
        refine (hn B w wr _ _ ks[0] _ d HBr.out (HIn.out _ HBr.out.below) hgk.1 hgk.2 (by have h1 := HSz.out (0 + 1); rw [HS.out] at h1; simp [joinL] at h1 ⊢; omega) (hT.on HBr.out.below)).mono ?_
        rintro e w2 ⟨v2, rfl, hb2⟩
        obtain ⟨va3, vn3, vc3, rfl⟩ := hb2.shape
        have HF := buf_cast hb2 (l' := l ++ [91] ++ joinL ((ks.map (txtL n)).take (0 + 1))) (by rw [HS.out]; simp [joinL])
        have HF' : Hid _ := HF
        clear hb2 f0 HF
        go_wp2_with fail
        go_roundw
        case rel => exact ⟨0 + 1, by omega, by go_num, HF'.out⟩
        case measure => simp [intOf]; omega
      · have hk0 : decide ((0 : Int) < (k : Int)) = true := decide_eq_true (by omega)
        go_wp2_with (at_builtin; refine wpList_buf_byte rfl (.tmp 19) (.tmp 20) rfl B (.slice va2 vn2 vc2) _ rfl w wr 44 44 rfl HBr.out rfl (by simp; omega) ?_; intro v3 w3 hb3; obtain ⟨va3, vn3, vc3, rfl⟩ := hb3.shape; refine Hid.out ?_)
        refine Lib.hid ?_
        have HB3 : Hid _ := hb3
        clear hb3
        go_wp2_with fail
        refine (hn B w w3 _ _ ks[k] _ d HB3.out (HIn.out _ HB3.out.below) hgk.1 hgk.2 (by have h1 := HSz.out (k + 1); rw [HS.out, if_neg (by omega)] at h1; simp at h1 ⊢; omega) (hT.on HB3.out.below)).mono ?_
        rintro e w2 ⟨v2, rfl, hb2⟩
        obtain ⟨va4, vn4, vc4, rfl⟩ := hb2.shape
        have HF : Hid _ := buf_cast hb2 (l' := l ++ [91] ++ joinL ((ks.map (txtL n)).take (k + 1))) (by rw [HS.out, if_neg (by omega)]; simp)
        clear hb2 f0 HB3 HBr
        go_wp2_with fail
        go_roundw
        case rel => exact ⟨k + 1, by omega, by go_num, HF.out⟩
        case measure => simp [intOf]; omega
    · have hkl : k = ks.length := by omega
      have HBr : Hid (Buf B w wr (.slice va2 vn2 vc2) (l ++ [91] ++ joinL (ks.map (txtL n)))) := buf_cast hbr (by rw [hkl, ← List.length_map (f := txtL n), List.take_length])
      clear hcell hbr hkl
      go_wp2_with (at_builtin; refine wpList_buf_byte rfl (.tmp 26) (.tmp 27) rfl B (.slice va2 vn2 vc2) _ rfl w wr 93 93 rfl HBr.out rfl (by simp; omega) ?_; intro v3 w3 hb3; obtain ⟨va3, vn3, vc3, rfl⟩ := hb3.shape; refine Hid.out ?_)
      refine Lib.hid ?_
      have HF : Hid _ := buf_cast (hb3.from HB0.out) (l' := l ++ (91 :: joinL (ks.map (txtL n)) ++ [93])) (by simp)
      clear hb3 HBr
      go_wp2_with fail
      go_ret
      exact ⟨_, rfl, HF.out⟩

end Go.Proofs.YtlinplghgamgbaaGreatDoor
