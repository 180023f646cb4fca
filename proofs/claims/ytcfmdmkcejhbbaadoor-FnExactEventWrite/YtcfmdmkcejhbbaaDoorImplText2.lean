/-
  The text of a maybe and of a form, by the program.
-/
import Derived.Test.YtcfmdmkcejhbbaaDoorImplText
import Derived.Deep.RegionLaw
namespace Go.Proofs.YtcfmdmkcejhbbaaDoor
open Go.RowKit

set_option maxRecDepth 20000 in
set_option maxHeartbeats 1000000 in
theorem appendMaybe_any (n : Nat) (hn : AppSaid n) (B : Nat) (w0 w : World) (v : Value) (l : List UInt8) (ks : List (T n)) (kv : Value) (d : Int) (hb : Buf B w0 w v l) (hr : Row1 (fun b => b < B) w (InnerT (fun b => b < B) w n) ks kv)
    (hg : ks.all (fun x => goodT n x d) = true) (hc : 1 + sumL (fun x => cntT n x) ks ≤ 120) (hl : l.length + (maybeL (txtL n) ks).length ≤ 20000) (hT : Tens B w) :
    Calls Tryd.prog 42 #[v, kv] w fun e w' => ∃ v', e = .returned v' ∧ Buf B w0 w' v' (l ++ maybeL (txtL n) ks) := by
  obtain ⟨ao, cap, rfl, hlen, hcell⟩ := hr
  unfold maxLen at hlen
  obtain ⟨va, vn, vc, rfl⟩ := hb.shape
  cases ks with
  | nil =>
    rw [List.length_nil]
    simp only [maybeL, List.length_cons, List.length_nil] at hl
    go_enter Tryd.func42, Tryd.ntmps42
    go_wp2_with (at_builtin; refine wpList_buf_byte rfl (.tmp 8) (.tmp 9) rfl B (.slice va vn vc) l rfl w0 w 126 126 rfl hb rfl (by omega) ?_; intro v1 w1 hb1; obtain ⟨va1, vn1, vc1, rfl⟩ := hb1.shape; refine Hid.out ?_)
    refine Lib.hid ?_
    have HB1 : Hid _ := hb1
    clear hb1 hb
    go_wp2_with fail
    go_ret
    exact ⟨_, rfl, HB1.out⟩
  | cons k r =>
    obtain ⟨b, off, rfl, hbB, hcl⟩ := hcell (by simp)
    obtain ⟨c, e0, hin⟩ := hcl 0 (by simp)
    rw [Nat.add_zero] at e0
    rw [List.getElem_cons_zero] at hin
    obtain ⟨ku, kx, rfl⟩ := hin.iface
    rw [List.length_cons] at hlen ⊢
    have hne : (((r.length : Nat) : Int) + 1 == 0) = false := by simp; omega
    simp only [maybeL, List.length_cons] at hl
    simp only [List.all_cons, Bool.and_eq_true] at hg
    simp only [sumL] at hc
    have hBw := hb.le
    have HB : Hid (Buf B w w (.slice va vn vc) l) := hb.here
    have HB0 : Hid (Buf B w0 w (.slice va vn vc) l) := hb
    have HC : Hid (∀ (W : World) (v1 : Value), Buf B w W v1 (l ++ [63]) → Calls Tryd.prog 29 #[v1, .iface ku kx] W fun e w' => ∃ v', e = .returned v' ∧ Buf B w w' v' (l ++ [63] ++ txtL n k)) := fun W v1 h1 =>
      hn B w W v1 _ k _ d h1 (hin.keep (same_below h1.below (fun _ h => h)) (fun _ h => h)) hg.1 (by omega) (by simp; omega) (hT.on h1.below)
    have HCell : Hid (∀ W, Below B w W → W.cell? ⟨b, off, none⟩ = some (.iface ku kx)) := fun W hW => (hW.cell (p := ⟨b, off, none⟩) hbB).trans e0
    clear hcell hcl hin hn hT hg hc hb
    have hbw : b < w.heap.size := by have : b < B := hbB; omega
    go_enter Tryd.func42, Tryd.ntmps42
    go_wp2_with fail
    go_region_law (first
      | (refine step_buf_byte rfl (.tmp 11) (.tmp 12) rfl B (.slice va vn vc) l rfl w 63 (by first | exact (HB.out.alloc _).drew | exact HB.out.drew.alloc _) w.heap.size rfl (by simp [go_sem]) (by omega) ?_; intro v1 w1 hb1; obtain ⟨va1, vn1, vc1, rfl⟩ := hb1.shape; have hck := HCell.out _ hb1.below)
      | (go_simp; go_at_call 29; refine (HC.out _ _ (by first | assumption | exact Buf.drew (by assumption))).mono ?_; rintro e w2 ⟨v2, rfl, hb2⟩; obtain ⟨va2, vn2, vc2, rfl⟩ := hb2.shape))
    all_goals
      have HF : Hid _ := buf_cast (hb2.from HB0.out) (l' := l ++ maybeL (txtL n) (k :: r)) (by simp [maybeL])
      clear hb2
      go_wp2_with fail
      go_ret
      exact ⟨_, rfl, HF.out⟩

end Go.Proofs.YtcfmdmkcejhbbaaDoor
