/-
  The function values that widen: of leaves, of nothing, into maybes, of lists, of maybes.
-/
import Derived.Test.YtpalkdcgbbbmeaaGreatDoorKV1
import Derived.Test.YtpalkdcgbbbmeaaGreatDoorPWalk
import Derived.Deep.RegionHeld
import Derived.Handy
namespace Go.Proofs.YtpalkdcgbbbmeaaGreatDoor
open Go.RowKit

theorem row1_one {α : Type} {S : Nat → Prop} {w : World} {R : α → Value → Prop} (x : α) (c : Value) (ty : TypeId) (hS : S w.heap.size) (hR : R x c) : Row1 S (w.alloc (.cells #[c] ty)) R [x] (.slice (some ⟨w.heap.size, 0, none⟩) 1 1) := by
  refine ⟨_, _, rfl, by simp [maxLen], fun _ => ⟨w.heap.size, 0, rfl, hS, fun i hi => ⟨c, ?_, ?_⟩⟩⟩
  · have : i = 0 := by simp at hi; exact hi
    subst this
    simp [go_sem]
  · have : i = 0 := by simp at hi; exact hi
    subst this
    exact hR

set_option maxHeartbeats 400000 in
theorem fv_leaf (S : Nat → Prop) (m n : Nat) (b : K (m + 1)) (a : K (n + 1)) (w : World) (hb : Kd.sort b = 1 ∨ Kd.sort b = 2 ∨ Kd.sort b = 3) (hab : Kd.sort a = Kd.sort b) :
    Fv S (m + 1) w (.func (.func 97) #[] #[]) (WidR (m + 1) b (n + 1) a) := by
  refine ⟨_, _, rfl, Tryz.call97, fun S0 W h0 hB hs v t' hR args ha => ?_⟩
  obtain ⟨p, t, e, hin, hg, hh, rfl⟩ := hR
  cases p with
  | zero => exact hin.elim
  | succ p =>
  obtain ⟨hst, -⟩ := hasK_get hh
  obtain ⟨u, x, rfl⟩ := hin.iface
  rw [show args = #[Value.iface u x] from ha, widT_leaf hb]
  have HF : Hid (InnerT (fun b => S0 b ∨ (W.heap.size ≤ b ∧ b < W.heap.size)) W (m + 1) (mkT m (Nd.sort t) (Nd.num t) (Nd.text t) [] []) (.iface u x)) := by
    rcases hin with h | h | h | ⟨h, -⟩ | ⟨h, -⟩ | ⟨h, -⟩
    · exact .inl h
    · exact .inr (.inl h)
    · exact .inr (.inr (.inl h))
    · omega
    · omega
    · omega
  clear hin hg hh
  go_enter Tryz.func97, Tryz.ntmps97
  go_wp2_with fail
  go_ret
  exact ⟨Below.refl _ _, _, rfl, HF.out⟩

set_option maxHeartbeats 400000 in
theorem fv_none (S : Nat → Prop) (m : Nat) (b : K (m + 1)) (w : World) :
    Fv S (m + 1) w (.func (.func 121) #[] #[]) (fun S0 W v t' => (v = .nilIface ∨ ∃ u x, v = .iface u x) ∧ NoneR (m + 1) b S0 W v t') := by
  refine ⟨_, _, rfl, Tryz.call121, fun S0 W h0 hB hs v t' hR args ha => ?_⟩
  obtain ⟨hv, rfl⟩ := hR
  have HF : Hid (InnerT (fun b => S0 b ∨ (W.heap.size ≤ b ∧ b < W.heap.size)) W (m + 1) (noneT (m + 1) b) (.iface 128 (.slice none 0 0))) :=
    .inr (.inr (.inr (.inr (.inr ⟨rfl, _, rfl, none, 0, rfl, by simp [noneT, mkT], fun h => absurd rfl h⟩))))
  rw [show args = #[v] from ha]
  rcases hv with rfl | ⟨u, x, rfl⟩
  all_goals
    go_enter Tryz.func121, Tryz.ntmps121
    go_wp2_with fail
    go_ret
    exact ⟨Below.refl _ _, _, rfl, HF.out⟩

theorem cell_same {S : Nat → Prop} {w W : World} {g : Nat} {v : Value} (hs : Same S w W) (hg : S g) (h : w.cell? ⟨g, 0, none⟩ = some v) : W.cell? ⟨g, 0, none⟩ = some v := (World.cell?_of_block (a := ⟨g, 0, none⟩) (hs g hg)).trans h

set_option maxHeartbeats 1000000 in
theorem fv_into (S : Nat → Prop) (m n g : Nat) (b : K (m + 1)) (a : K (n + 1)) (y : K m) (w : World) (kv : Value) (hk : Fv S m w kv (WidR m y (n + 1) a)) (hc : w.cell? ⟨g, 0, none⟩ = some kv) (hg : S g) (sb : Kd.sort b = 6) (sa : Kd.sort a ≠ 6) (ky : Kd.kids b = [y]) :
    Fv S (m + 1) w (.func (.func 104) #[] #[.pointer (some ⟨g, 0, none⟩)]) (WidR (m + 1) b (n + 1) a) := by
  refine ⟨_, _, rfl, Tryz.call104, fun S0 W h0 hB hs v t' hR args ha => ?_⟩
  obtain ⟨p, t, e, hin, hgt, hh, rfl⟩ := hR
  cases p with
  | zero => exact hin.elim
  | succ p =>
  obtain ⟨f, cap, rfl, eg, hcall⟩ := hk
  have hc' := cell_same hs hg hc
  have HC : Hid (∀ args : Array Value, args = #[v] ++ cap → Calls Tryz.prog f args W fun e w' => Below W.heap.size W w' ∧ ∃ v', e = .returned v' ∧ InnerT (fun b => S0 b ∨ (W.heap.size ≤ b ∧ b < w'.heap.size)) w' m (widT m y (n + 1) a (p + 1) t) v') := hcall S0 W h0 hB hs v _ ⟨p + 1, t, e, hin, hgt, hh, rfl⟩
  obtain ⟨u, x, rfl⟩ := hin.iface
  rw [show args = #[Value.iface u x, .pointer (some ⟨g, 0, none⟩)] from ha, widT_xm sb sa ky]
  clear hcall hc hs hgt hh hin
  go_enter Tryz.func104, Tryz.ntmps104
  go_wp2_with fail
  refine (HC.out _ (by simp)).mono ?_
  rintro e w2 ⟨hb2, kv, rfl, hin⟩
  obtain ⟨ku, kx, rfl⟩ := hin.iface
  have HF : Hid (Below W.heap.size W (w2.alloc (.cells #[.iface ku kx] 71)) ∧ InnerT (fun b => S0 b ∨ (W.heap.size ≤ b ∧ b < (w2.alloc (.cells #[.iface ku kx] 71)).heap.size)) (w2.alloc (.cells #[.iface ku kx] 71)) (m + 1) (mkT m 6 0 ByteArray.empty [] [widT m y (n + 1) a (p + 1) t]) (.iface 128 (.slice (some ⟨w2.heap.size, 0, none⟩) 1 1))) := by
    have hz := hb2.size
    refine ⟨hb2.alloc hb2.size _, .inr (.inr (.inr (.inr (.inr ⟨rfl, _, rfl, row1_one _ _ _ (.inr ⟨hz, by simp⟩) (hin.keep (fun b hb => ?_) (fun b hb => ?_))⟩))))⟩
    · rcases hb with hb | hb
      · have := hB b hb; exact Below.heap_alloc _ _ _ (by omega)
      · exact Below.heap_alloc _ _ _ hb.2
    · rcases hb with hb | hb
      · exact .inl hb
      · exact .inr ⟨hb.1, by simp; omega⟩
  clear hb2 hin HC hB
  go_wp2_with fail
  go_ret
  exact ⟨HF.out.1, _, rfl, HF.out.2⟩

end Go.Proofs.YtpalkdcgbbbmeaaGreatDoor
