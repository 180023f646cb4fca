/-
  The specification's l3Widen: what it answers.
-/
import Derived.Test.YtpalkdcgbbbmeaaGreatDoorKZ5
namespace Go.Proofs.YtpalkdcgbbbmeaaGreatDoor
open Go.RowKit

theorem l3Widen_any : ∀ m, WidSSaid m := by
  intro m
  induction m with
  | zero => intro S n p a b t a0 a1 a2 b0 b1 b2 e0 e1 e2 e3 e4 d d' e w _ hb; exact hb.elim
  | succ m ih =>
    intro S n p a b t a0 a1 a2 b0 b1 b2 e0 e1 e2 e3 e4 d d' e w ha hb ht hB hga hgb hc hgt hf hh
    cases n with
    | zero => exact ha.elim
    | succ n =>
    cases p with
    | zero => exact ht.elim
    | succ p =>
    have gb := goodK_all hgb
    have ga := goodK_all hga
    have gt := goodT_all hgt
    have h39 := kids_39 hgb hc
    obtain ⟨hst, hnm, -, -⟩ := hasK_get hh
    rcases fits_ways hgb hga hgt hf hh with ⟨y, x, sb, sa, ky, kx, hf', hu⟩ | ⟨y, sb, sa, ky, hf'⟩ | ⟨y, x, sb, sa, ky, kx, hf', hu⟩ | ⟨sb, sa, hlb, hla, hlt, hAa, hAb, hsub, hff, hkk⟩ | ⟨sb, sa, nb, kb, kt⟩
    · exact l3Widen_maybe m ih S n p a b t y x _ _ _ _ _ _ _ _ _ _ _ (d + 1) (d' + 1) e w ha hb ht hB (ga x (by rw [kx]; exact List.mem_cons_self ..)) (gb y (by rw [ky]; exact List.mem_cons_self ..)) (cnt_kid hc (by rw [ky]; exact List.mem_cons_self ..)) hgt hf' hu sb sa (by omega) ky kx
    · exact l3Widen_into m ih S n p a b t y _ _ _ _ _ _ _ _ _ _ _ d (d' + 1) e w ha hb ht hB hga (gb y (by rw [ky]; exact List.mem_cons_self ..)) (cnt_kid hc (by rw [ky]; exact List.mem_cons_self ..)) hgt hf' hh sb sa ky
    · exact l3Widen_list m ih S n p a b t y x _ _ _ _ _ _ _ _ _ _ _ (d + 1) (d' + 1) e w ha hb ht hB (ga x (by rw [kx]; exact List.mem_cons_self ..)) (gb y (by rw [ky]; exact List.mem_cons_self ..)) (cnt_kid hc (by rw [ky]; exact List.mem_cons_self ..)) hgt hf' hu sb sa (by omega) ky kx
    · obtain ⟨hn0, htx0⟩ := goodT_bare hgt (by omega)
      have hrb : riseB (Kd.names b) = true := by
        rcases goodK_kids hgb with ⟨h, -⟩ | ⟨h, -⟩ | ⟨-, -, h⟩
        · omega
        · omega
        · exact h
      obtain ⟨rfl, -, h1, h2⟩ := ha
      obtain ⟨ana, anc, rfl, -⟩ := id h1
      obtain ⟨aka, akc, rfl, -⟩ := id h2
      obtain ⟨rfl, -, h3, h4⟩ := hb
      obtain ⟨bna, bnc, rfl, -⟩ := id h3
      obtain ⟨bka, bkc, rfl, -⟩ := id h4
      obtain ⟨rfl, rfl, rfl, -, -, -, ht3, h5⟩ := ht
      obtain ⟨tna, tnc, rfl, -⟩ := ht3
      obtain ⟨tka, tkc, rfl, -⟩ := id h5
      rw [widT_ff sb, sa, sb, show Nd.sort t = 5 by omega, hn0, htx0]
      refine l3Widen_formL m n p ih S (Kd.names a) (Kd.names b) (Kd.kids a) (Kd.kids b) (Nd.kids t) ana aka bna bka tna tka anc akc bnc bkc _ tnc tkc (d + 1) (d' + 1) (e + 1) w hB h1 h2 h3 h4 h5 ga (fun y hy => ⟨gb y hy, cnt_kid hc hy⟩) gt hlb hla hlt hAa (by omega) (rise_8 hrb) (fun j j1 j2 r hr hr2 he => ?_) hkk
      have := hff j j1 j2
      unfold fieldFits at this
      rw [← he, atName_yes _ _ r hr hr2 hAa] at this
      exact this
    · exact l3Widen_leaf m S n p a b t _ _ _ _ _ _ _ _ _ _ _ w ha hb ht sb (by omega)

end Go.Proofs.YtpalkdcgbbbmeaaGreatDoor
