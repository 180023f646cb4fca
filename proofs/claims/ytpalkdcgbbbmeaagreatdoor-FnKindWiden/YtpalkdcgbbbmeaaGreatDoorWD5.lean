/-
  Plain mathematics: what comes of widening is good, but for the number of its parts.
-/
import Derived.Test.YtpalkdcgbbbmeaaGreatDoorWD2
namespace Go.Proofs.YtpalkdcgbbbmeaaGreatDoor
open Go.RowKit

theorem good_mk {m : Nat} {so nu : Int} {tx : ByteArray} {ns : List ByteArray} {ks : List (T m)} {d : Int} (hd : d ≤ 6) (ha : aloneF so nu tx ns ks.length = true) (hk : ∀ k, k ∈ ks → goodT m k (d + 1) = true) : goodT (m + 1) (mkT m so nu tx ns ks) d = true := by
  show (decide (d ≤ 6) && aloneF so nu tx ns ks.length && ks.all (fun k => goodT m k (d + 1))) = true
  rw [decide_eq_true hd, ha, List.all_eq_true.2 hk]
  rfl

theorem alone_six (k : Nat) (h : k ≤ 1) : aloneF 6 0 ByteArray.empty [] k = true := by
  have hk : (k : Int) ≤ 1 := by omega
  unfold aloneF
  simp only [show ¬ ((6 : Int) = 1) by decide, show ¬ ((6 : Int) = 2) by decide, show ¬ ((6 : Int) = 3) by decide, show ¬ ((6 : Int) = 4) by decide, show ¬ ((6 : Int) = 5) by decide, if_false, if_true, decide_eq_true hk]
  simp [ByteArray.toList_eq]

theorem good_none : ∀ (m : Nat) (y : K m) (d : Int), goodK m y d = true → goodT m (noneT m y) d = true
  | 0, y, _, _ => Empty.elim (show Empty from y)
  | m + 1, y, d, hg => good_mk (by simp only [goodK, Bool.and_eq_true, decide_eq_true_eq] at hg; exact hg.1.1) (alone_six 0 (by omega)) (fun k hk => by cases hk)

theorem good_alone {p : Nat} {t : T (p + 1)} {e : Int} (h : goodT (p + 1) t e = true) : aloneF (Nd.sort t) (Nd.num t) (Nd.text t) (Nd.names t) (Nd.kids t).length = true := by
  simp only [goodT, Bool.and_eq_true] at h
  exact h.1.2

theorem good_wid : ∀ (m : Nat) (b : K m) (n : Nat) (a : K n) (p : Nat) (t : T p) (d d' e : Int), goodK m b d' = true → goodK n a d = true → goodT p t e = true → fitsK m b n a = true → hasK n a p t = true → goodT m (widT m b n a p t) d' = true := by
  intro m
  induction m with
  | zero => intro b; exact Empty.elim (show Empty from b)
  | succ m ih =>
    intro b n a p t d d' e hgb hga hgt hf hh
    cases n with
    | zero => exact Empty.elim (show Empty from a)
    | succ n =>
    cases p with
    | zero => exact Empty.elim (show Empty from t)
    | succ p =>
    have gb := goodK_all hgb
    have ga := goodK_all hga
    have gt := goodT_all hgt
    have hd : d' ≤ 6 := by simp only [goodK, Bool.and_eq_true, decide_eq_true_eq] at hgb; exact hgb.1.1
    have hal := good_alone hgt
    obtain ⟨hs, hnm, -, -⟩ := hasK_get hh
    rcases fits_ways hgb hga hgt hf hh with ⟨y, x, hb, ha, ky, kx, hf', hu⟩ | ⟨y, hb, ha, ky, hf'⟩ | ⟨y, x, hb, ha, ky, kx, hf', hu⟩ | ⟨hb, ha, hlb, hla, hlt, hAa, hAb, hsub, hff, hkk⟩ | ⟨hb, ha, nb, kb, kt⟩
    · rw [widT_mm hb ha ky kx]
      obtain ⟨b1, b2⟩ := goodT_bare hgt (by omega)
      have hn : Nd.names t = [] := (goodT_kids hgt).2.1 (by omega)
      rw [show Nd.sort t = 6 by omega, b1, b2, hn] at hal
      refine good_mk hd (by rw [List.length_map]; exact hal) fun v hv => ?_
      obtain ⟨u, hu', rfl⟩ := List.mem_map.1 hv
      exact ih y n x p u _ _ _ (gb y (by rw [ky]; exact List.mem_cons_self ..)) (ga x (by rw [kx]; exact List.mem_cons_self ..)) (gt u hu') hf' (hu u hu')
    · rw [widT_xm hb ha ky]
      refine good_mk hd (alone_six 1 (by omega)) fun v hv => ?_
      rw [List.mem_singleton.1 hv]
      exact ih y (n + 1) a (p + 1) t _ _ _ (gb y (by rw [ky]; exact List.mem_cons_self ..)) hga hgt hf' hh
    · rw [widT_ll hb ky kx]
      obtain ⟨b1, b2⟩ := goodT_bare hgt (by omega)
      have hn : Nd.names t = [] := (goodT_kids hgt).2.1 (by omega)
      rw [show Nd.sort t = 4 by omega, b1, b2, hn] at hal
      refine good_mk hd (by rw [List.length_map]; exact hal) fun v hv => ?_
      obtain ⟨u, hu', rfl⟩ := List.mem_map.1 hv
      exact ih y n x p u _ _ _ (gb y (by rw [ky]; exact List.mem_cons_self ..)) (ga x (by rw [kx]; exact List.mem_cons_self ..)) (gt u hu') hf' (hu u hu')
    · rw [widT_ff hb]
      have hrb : riseB (Kd.names b) = true := by
        rcases goodK_kids hgb with ⟨h, -⟩ | ⟨h, -⟩ | ⟨-, -, h⟩
        · omega
        · omega
        · exact h
      have hl := mapW_length (f := fun y x u => widT m y n x p u) (z := noneT m) (ns := Kd.names a) (xs := Kd.kids a) (us := Nd.kids t) (Kd.names b) (Kd.kids b) hlb
      refine good_mk hd ?_ fun v hv => ?_
      · rw [hl]
        unfold aloneF
        simp only [show ¬ ((5 : Int) = 1) by decide, show ¬ ((5 : Int) = 2) by decide, show ¬ ((5 : Int) = 3) by decide, show ¬ ((5 : Int) = 4) by decide, if_false, if_true, hrb, hlb]
        simp [ByteArray.toList_eq]
      · obtain ⟨j, hj, rfl⟩ := List.getElem_of_mem hv
        have hjk : j < (Kd.kids b).length := by omega
        rw [mapW_get _ _ j (by omega) hjk hj]
        have hgy := gb _ (List.getElem_mem hjk)
        rcases field_pair (us := Nd.kids t) hAa hla hlt (hff j (by omega) hjk) with ⟨i, i1, i2, i3, he, hat, hfi⟩ | ⟨-, hat, h6⟩
        · rw [hat]
          exact ih _ n _ p _ _ _ _ hgy (ga _ (List.getElem_mem i2)) (gt _ (List.getElem_mem i3)) hfi (hkk i i2 i3)
        · rw [hat]
          exact good_none m _ _ hgy
    · rw [widT_leaf hb]
      have hn : Nd.names t = [] := ((goodT_kids hgt).1 (by omega)).1
      rw [hn, kt] at hal
      exact good_mk hd hal (fun v hv => by cases hv)

end Go.Proofs.YtpalkdcgbbbmeaaGreatDoor
