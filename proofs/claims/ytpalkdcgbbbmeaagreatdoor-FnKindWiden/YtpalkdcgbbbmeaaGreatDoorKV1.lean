/-
  The program's widenAll: each tree of a row, by a function value.
-/
import Derived.Test.YtpalkdcgbbbmeaaGreatDoorKV0
import Derived.Lib.Hide
namespace Go.Proofs.YtpalkdcgbbbmeaaGreatDoor
open Go.RowKit

set_option maxRecDepth 100000 in
set_option maxHeartbeats 2000000 in
theorem widenAll_any (m : Nat) (S S0 : Nat → Prop) (R : (Nat → Prop) → World → Value → T m → Prop) (ts : List (T m)) (v fv : Value) (w : World) (hF : Fv S m w fv R) (h0 : ∀ b, S b → S0 b) (hB : ∀ b, S0 b → b < w.heap.size)
    (hr : Row1 S0 w (fun t' c => (∃ u x, c = .iface u x) ∧ ∀ W, Below w.heap.size w W → R S0 W c t') ts v) (hl : ts.length ≤ 1000) :
    Calls Tryz.prog 100 #[v, fv] w fun e w' => Below w.heap.size w w' ∧ ∃ v', e = .returned v' ∧ Row1 (fun b => S0 b ∨ (w.heap.size ≤ b ∧ b < w'.heap.size)) w' (InnerT (fun b => S0 b ∨ (w.heap.size ≤ b ∧ b < w'.heap.size)) w' m) ts v' := by
  obtain ⟨ao, cap, rfl, hlen, hkids⟩ := hr
  obtain ⟨f, fcap, rfl, eg, hc⟩ := hF
  have HC : Hid (∀ W, Below w.heap.size w W → ∀ (t' : T m) (c : Value), (∀ W, Below w.heap.size w W → R S0 W c t') → ∀ args : Array Value, args = #[c] ++ fcap → Calls Tryz.prog f args W fun e w' => Below W.heap.size W w' ∧ ∃ v', e = .returned v' ∧ InnerT (fun b => S0 b ∨ (W.heap.size ≤ b ∧ b < w'.heap.size)) w' m t' v') := fun W hW t' c hR args ha =>
    hc S0 W h0 (fun b hb => Nat.lt_of_lt_of_le (hB b hb) hW.size) (same_below hW (fun b hb => hB b (h0 b hb))) c t' (hR W hW) args ha
  clear hc hlen
  obtain ⟨i0, hi, hzz0, hzz1, hzz2⟩ := info_parts Tryz.info_at
  have HI : Hid (_ ∧ _ ∧ _ ∧ _) := ⟨hi, hzz0, hzz1, hzz2⟩
  clear hi hzz0 hzz1 hzz2
  go_enter Tryz.func100, Tryz.ntmps100
  go_wp2_with fail
  go_loopw [5, 10] (fun v i wr => ∃ k : Nat, k ≤ ts.length ∧ i = .int .i64 k ∧ MadeTLoop S0 w.heap.size m ts w k v wr) (fun _ i _ => ts.length - (intOf i).toNat)
  case atStart => exact ⟨0, Nat.zero_le _, rfl, Below.refl _ _, [], World.ownsRow_nil _ _ _ _, fun j _ hx => absurd hx (Nat.not_lt_zero _)⟩
  case round =>
    obtain ⟨k, hk, rfl, hL⟩ := hrel
    obtain ⟨xs, hown, hxs⟩ := hL.row
    obtain ⟨va, vc, rfl⟩ := r1_shape hown
    have hbel := hL.below
    have hzr := hbel.size
    have HL : Hid (MadeTLoop S0 w.heap.size m ts w k (.slice va k vc) wr) := hL
    have HX : Hid (wr.ownsRow w.heap.size 71 1 (.slice va k vc) k xs) := hown
    have HK : Hid (∀ j (h : j < ts.length) (hx : j < xs.length), _) := hxs
    clear hL hown hxs
    by_cases hlt : k < ts.length
    · obtain ⟨b, off, rfl, hbB, hcell⟩ := hkids (by intro h; rw [h] at hlt; simp at hlt)
      obtain ⟨c, e0, ⟨ku, kx, rfl⟩, hR⟩ := hcell k hlt
      have hbb := hB b hbB
      have f0 := (hbel.cell (p := ⟨b, off + k, none⟩) hbb).trans e0
      have HCk : Hid (∀ args : Array Value, args = #[Value.iface ku kx] ++ fcap → Calls Tryz.prog f args wr fun e w' => Below wr.heap.size wr w' ∧ ∃ v', e = .returned v' ∧ InnerT (fun b => S0 b ∨ (wr.heap.size ≤ b ∧ b < w'.heap.size)) w' m ts[k] v') := HC.out wr hbel ts[k] _ hR
      clear hkids hcell e0 hR HC
      go_wp2_with fail
      refine (HCk.out _ (by simp)).mono ?_
      rintro e w2 ⟨hb2, kv, rfl, hin⟩
      obtain ⟨ku', kx', rfl⟩ := hin.iface
      have hsz2 : wr.heap.size ≤ w2.heap.size := hb2.size
      have HO2 : Hid (w2.ownsRow w.heap.size 71 1 (.slice va k vc) k xs) := r1_keep HX.out (fun g' hg' => by have := r1_lt HX.out g' hg'; exact hb2.block g' this.2)
      have HK2 : Hid (_ ∧ _) := ⟨hb2, hin⟩
      clear hb2 hin f0 HCk
      go_wp2_with (at_builtin; refine wpList_append_lies _ rfl (.tmp 14) (.tmp 18) 121 rfl w.heap.size 71 i0 .nilIface 1 16 Tryz.underlying121 HI.out.1 HI.out.2.1 HI.out.2.2.1 HI.out.2.2.2 rfl (by decide) (.slice va k vc) k xs rfl (HO2.out.alloc _) ⟨w2.heap.size, 0, none⟩ 1 1 [.iface ku' kx'] rfl rfl (World.news_of_block (heap_alloc_new w2 _)) (by simp [Value.oneCell']) (by decide) (by unfold maxLen; omega) (by omega) (by simp; omega) (w2.heap.size + 1) (by simp) ?_; intro g cap w3 hown3 hgrow3 hat3 hlt3; refine Hid.out ?_)
      refine Lib.hid ?_
      have HF : Hid (MadeTLoop S0 w.heap.size m ts w (k + 1) (.slice (some ⟨g, 0, none⟩) (k + 1) cap) w3) := wid_next HL.out hlt hB hzr HX.out HK.out HK2.out.1 HK2.out.2 hown3 hgrow3 hat3
      clear hown3 hgrow3 hat3 HK2 HO2 HX HK HL
      go_wp2_with fail
      go_roundw
      case rel => exact ⟨k + 1, by omega, by go_num, HF.out⟩
      case measure => simp [intOf]; omega
    · have hkl : k = ts.length := by omega
      have HP : Hid (Below w.heap.size w wr ∧ Row1 (fun b => S0 b ∨ (w.heap.size ≤ b ∧ b < wr.heap.size)) wr (InnerT (fun b => S0 b ∨ (w.heap.size ≤ b ∧ b < wr.heap.size)) wr m) ts (.slice va k vc)) := by
        refine ⟨hbel, ?_⟩
        have h1 := HX.out
        rw [hkl] at h1 ⊢
        refine row1_of_owns h1 (by unfold maxLen; omega) (fun g hg => .inr (r1_lt h1 g hg)) (fun i hi hx => ?_)
        have := HK.out i hi hx
        rw [hkl] at this
        exact this.keep (fun _ _ => rfl) (fun b hb => hb.elim .inl (fun h => .inr ⟨h.1, h.2.1⟩))
      clear hkl hkids HX HK HL HC
      go_wp2_with fail
      go_ret
      exact ⟨HP.out.1, _, rfl, HP.out.2⟩

end Go.Proofs.YtpalkdcgbbbmeaaGreatDoor
