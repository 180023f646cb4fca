/-
  The program's widenings: of two schemas of which the first fits into the second a function value is made that widens.
-/
import Derived.Test.YtpalkdcgbbbmeaaGreatDoorKX2
import Derived.Test.YtpalkdcgbbbmeaaGreatDoorKX3
import Derived.Test.YtpalkdcgbbbmeaaGreatDoorKX4
import Derived.Test.YtpalkdcgbbbmeaaGreatDoorKX6
import Derived.Test.YtpalkdcgbbbmeaaGreatDoorKX7
namespace Go.Proofs.YtpalkdcgbbbmeaaGreatDoor
open Go.RowKit

/-- How the making of a widening ends, told of its two results. -/
def EndP (m : Nat) (r : Bool) (R : (Nat → Prop) → World → Value → T m → Prop) (S : Nat → Prop) (w : World) (v u : Value) (w' : World) : Prop :=
  (r = true ∧ (∃ fn first cap, v = .func fn first cap) ∧ u = .nilIface ∧ Fv (fun b => S b ∨ (w.heap.size ≤ b ∧ b < w'.heap.size)) m w' v R) ∨ (r = false ∧ v = .nilFunc ∧ ∃ y : ByteArray, u = .iface 132 (.agg #[.string y]))

theorem endP_to {m : Nat} {r : Bool} {R : (Nat → Prop) → World → Value → T m → Prop} {S : Nat → Prop} {w W : World} {e : Ending} {w' : World} (h : EndV m r R S W e w') (hz : w.heap.size ≤ W.heap.size) : ∃ v u, e = .returned (.tuple #[v, u]) ∧ EndP m r R S w v u w' := by
  rcases h.wide hz with ⟨hr, fn, first, cap, rfl, hF⟩ | ⟨hr, y, rfl⟩
  · exact ⟨_, _, rfl, .inl ⟨hr, ⟨_, _, _, rfl⟩, rfl, hF⟩⟩
  · exact ⟨_, _, rfl, .inr ⟨hr, rfl, _, rfl⟩⟩

theorem endP_from {m : Nat} {r : Bool} {R : (Nat → Prop) → World → Value → T m → Prop} {S : Nat → Prop} {w : World} {e : Ending} {w' : World} (h : ∃ v u, e = .returned (.tuple #[v, u]) ∧ EndP m r R S w v u w') : EndV m r R S w e w' := by
  obtain ⟨v, u, rfl, ⟨h, ⟨fn, first, cap, rfl⟩, rfl, hF⟩ | ⟨h, rfl, y, rfl⟩⟩ := h
  · exact .inl ⟨h, _, _, _, rfl, hF⟩
  · exact .inr ⟨h, _, rfl⟩

theorem sort_natV {n : Nat} {k : K (n + 1)} {d : Int} (h : goodK (n + 1) k d = true) : ∃ i : Nat, 1 ≤ i ∧ i ≤ 6 ∧ Kd.sort k = (i : Int) := by
  rcases goodK_kids h with ⟨h | h | h, -⟩ | ⟨h | h, -⟩ | ⟨h, -⟩
  · exact ⟨1, by omega, by omega, h⟩
  · exact ⟨2, by omega, by omega, h⟩
  · exact ⟨3, by omega, by omega, h⟩
  · exact ⟨4, by omega, by omega, h⟩
  · exact ⟨6, by omega, by omega, h⟩
  · exact ⟨5, by omega, by omega, h⟩

theorem fitV_step (m : Nat) (hm : FitSaidV m) : FitSaidV (m + 1) := by
  intro S n a b va vb d d' R x w ha hb hB hT hR hga hgb hc40 hd hx
  cases n with
  | zero => exact ha.elim
  | succ n =>
    obtain ⟨i, hi1, hi6, hi⟩ := sort_natV hga
    obtain ⟨j, hj1, hj6, hj⟩ := sort_natV hgb
    have hina := ha
    have hinb := hb
    obtain ⟨pa, nva, pva, kva, rfl, hSa, hca, -⟩ := ha
    obtain ⟨pb, nvb, pvb, kvb, rfl, hSb, hcb, -⟩ := hb
    have hla := hB pa hSa
    have hlb := hB pb hSb
    have ea : w.cell? ⟨pa, 0, none⟩ = some (.int .i64 (i : Int)) := by rw [zeroD_W4 hca, hi]
    have eb : w.cell? ⟨pb, 0, none⟩ = some (.int .i64 (j : Int)) := by rw [zeroD_W4 hcb, hj]
    have eT := hT i j hi1 hi6 hj1 hj6
    have key : ∀ {W : World}, Below w.heap.size w W → InnerK S W (n + 1) a (.pointer (some ⟨pa, 0, none⟩)) ∧ InnerK S W (m + 1) b (.pointer (some ⟨pb, 0, none⟩)) ∧ (∀ b, S b → b < W.heap.size) ∧ TabW W R ∧ R < W.heap.size := fun hW =>
      ⟨hina.keep (same_below hW hB) (fun _ h => h), hinb.keep (same_below hW hB) (fun _ h => h), fun b hb => Nat.lt_of_lt_of_le (hB b hb) hW.size, hT.keep (hW.block R hR), Nat.lt_of_lt_of_le hR hW.size⟩
    by_cases hj' : j = 6
    · by_cases hi' : i = 6
      · have e : widV R i j = widF R 77 := by unfold widV; rw [if_pos hj', if_pos hi']
        rw [e] at eT
        refine (of_v R pa pb i j _ (EndP (m + 1) (fitsK (m + 1) b (n + 1) a) (WidR (m + 1) b (n + 1) a) S w) x w hi1 hi6 hj1 hj6 Tryz.call77 ea eb eT hla hlb hR fun W hW => ?_).mono fun e w' h => ⟨h.1, endP_from h.2⟩
        obtain ⟨k1, k2, k3, k4, k5⟩ := key hW
        exact (ofMaybes_v m n hm S a b _ _ d d' R x W k1 k2 k3 k4 k5 hga hgb hc40 hd hx (by omega) (by omega)).mono fun e w' h => ⟨h.1, endP_to h.2 hW.size⟩
      · have e : widV R i j = widF R 76 := by unfold widV; rw [if_pos hj', if_neg hi']
        rw [e] at eT
        refine (of_v R pa pb i j _ (EndP (m + 1) (fitsK (m + 1) b (n + 1) a) (WidR (m + 1) b (n + 1) a) S w) x w hi1 hi6 hj1 hj6 Tryz.call76 ea eb eT hla hlb hR fun W hW => ?_).mono fun e w' h => ⟨h.1, endP_from h.2⟩
        obtain ⟨k1, k2, k3, k4, k5⟩ := key hW
        exact (intoMaybe_v m n hm S a b _ _ d d' R x W k1 k2 k3 k4 k5 hga hgb hc40 hd hx (by omega) (by omega)).mono fun e w' h => ⟨h.1, endP_to h.2 hW.size⟩
    · by_cases hij : i = j
      · by_cases h4 : i = 4
        · have e : widV R i j = widF R 74 := by unfold widV; rw [if_neg hj', if_pos hij, if_pos h4]
          rw [e] at eT
          refine (of_v R pa pb i j _ (EndP (m + 1) (fitsK (m + 1) b (n + 1) a) (WidR (m + 1) b (n + 1) a) S w) x w hi1 hi6 hj1 hj6 Tryz.call74 ea eb eT hla hlb hR fun W hW => ?_).mono fun e w' h => ⟨h.1, endP_from h.2⟩
          obtain ⟨k1, k2, k3, k4, k5⟩ := key hW
          exact (ofLists_v m n hm S a b _ _ d d' R x W k1 k2 k3 k4 k5 hga hgb hc40 hd hx (by omega) (by omega)).mono fun e w' h => ⟨h.1, endP_to h.2 hW.size⟩
        · by_cases h5 : i = 5
          · have e : widV R i j = widF R 75 := by unfold widV; rw [if_neg hj', if_pos hij, if_neg h4, if_pos h5]
            rw [e] at eT
            refine (of_v R pa pb i j _ (EndP (m + 1) (fitsK (m + 1) b (n + 1) a) (WidR (m + 1) b (n + 1) a) S w) x w hi1 hi6 hj1 hj6 Tryz.call75 ea eb eT hla hlb hR fun W hW => ?_).mono fun e w' h => ⟨h.1, endP_from h.2⟩
            obtain ⟨k1, k2, k3, k4, k5⟩ := key hW
            exact (ofForms_v m n hm S a b _ _ d d' R x W k1 k2 k3 k4 k5 hga hgb hc40 hd hx (by omega) (by omega)).mono fun e w' h => ⟨h.1, endP_to h.2 hW.size⟩
          · have e : widV R i j = widF R 73 := by unfold widV; rw [if_neg hj', if_pos hij, if_neg h4, if_neg h5]
            rw [e] at eT
            have hna : Kd.names a = [] := by
              rcases goodK_kids hga with ⟨-, h, -⟩ | ⟨-, h, -⟩ | ⟨h, -⟩
              · exact h
              · exact h
              · omega
            have hnb : Kd.names b = [] := by
              rcases goodK_kids hgb with ⟨-, h, -⟩ | ⟨-, h, -⟩ | ⟨h, -⟩
              · exact h
              · exact h
              · omega
            have hf : fitsK (m + 1) b (n + 1) a = true := fitsK_leaf (by omega) (by omega) hna hnb
            refine (of_v R pa pb i j _ (EndP (m + 1) (fitsK (m + 1) b (n + 1) a) (WidR (m + 1) b (n + 1) a) S w) x w hi1 hi6 hj1 hj6 Tryz.call73 ea eb eT hla hlb hR fun W hW => ?_).mono fun e w' h => ⟨h.1, endP_from h.2⟩
            refine (ofLeaves_v R _ _ x W ⟨_, rfl⟩ ⟨_, rfl⟩).mono fun e w' h => ?_
            obtain ⟨rfl, hb⟩ := h
            exact ⟨hb, _, _, rfl, .inl ⟨hf, ⟨_, _, _, rfl⟩, rfl, fv_leaf _ m n b a _ (by omega) (by omega)⟩⟩
      · have e : widV R i j = .nilFunc := by unfold widV; rw [if_neg hj', if_neg hij]
        rw [e] at eT
        have hf : fitsK (m + 1) b (n + 1) a = false := fitsK_no (by omega) (by omega)
        exact (of_nil R pa pb i j x w hi1 hi6 hj1 hj6 ea eb eT hla hlb hR).mono fun e w' h => ⟨h.1, .inr ⟨hf, h.2⟩⟩

theorem fitV_any : ∀ m, FitSaidV m := by
  intro m
  induction m with
  | zero => intro S n a b va vb d d' R x w _ hb; exact hb.elim
  | succ m ih => exact fitV_step m ih

end Go.Proofs.YtpalkdcgbbbmeaaGreatDoor
