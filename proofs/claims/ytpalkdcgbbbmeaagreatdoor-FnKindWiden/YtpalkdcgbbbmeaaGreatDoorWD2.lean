/-
  Plain mathematics: what comes of widening is of the schema into which it was widened, has no fewer parts, and is the tree itself where the two schemas are one.
-/
import Derived.Test.YtpalkdcgbbbmeaaGreatDoorWD1
namespace Go.Proofs.YtpalkdcgbbbmeaaGreatDoor
open Go.RowKit

theorem field_pair {n m p : Nat} {ns : List ByteArray} {xs : List (K n)} {us : List (T p)} {s : ByteArray} {y : K m} (hA : Asc ns) (h1 : ns.length = xs.length) (h2 : us.length = xs.length) (hf : fieldFits n ns xs m s y = true) :
    (∃ (i : Nat) (h1 : i < ns.length) (h2 : i < xs.length) (h3 : i < us.length), ns[i] = s ∧ atName2 ns xs us s = some (xs[i], us[i]) ∧ fitsK m y n xs[i] = true) ∨ (s ∉ ns ∧ atName2 ns xs us s = none ∧ srtK m y = 6) := by
  by_cases hm : s ∈ ns
  · obtain ⟨i, hi, rfl⟩ := List.getElem_of_mem hm
    refine .inl ⟨i, hi, by omega, by omega, rfl, atName2_yes ns xs us i hi (by omega) (by omega) hA, ?_⟩
    unfold fieldFits at hf
    rw [atName_yes ns xs i hi (by omega) hA] at hf
    exact hf
  · refine .inr ⟨hm, atName2_no ns xs us s hm, ?_⟩
    unfold fieldFits at hf
    rw [atName_no ns xs s hm] at hf
    simpa using hf

theorem has_wid : ∀ (m : Nat) (b : K m) (n : Nat) (a : K n) (p : Nat) (t : T p) (d d' e : Int), goodK m b d' = true → goodK n a d = true → goodT p t e = true → fitsK m b n a = true → hasK n a p t = true → hasK m b m (widT m b n a p t) = true := by
  intro m
  induction m with
  | zero => intro b; exact Empty.elim (show Empty from b)
  | succ m ih =>
    intro b n a p t d d' e hgb hga hgt hf hh
    cases n with
    | zero => exact Empty.elim (show Empty from a)
    | succ n =>
    cases p with
    | zero => exact Empty.elim (show Empty from t)
    | succ p =>
    have gb := goodK_all hgb
    have ga := goodK_all hga
    have gt := goodT_all hgt
    have hnb := goodK_kids hgb
    rcases fits_ways hgb hga hgt hf hh with ⟨y, x, hb, ha, ky, kx, hf', hu⟩ | ⟨y, hb, ha, ky, hf'⟩ | ⟨y, x, hb, ha, ky, kx, hf', hu⟩ | ⟨hb, ha, hlb, hla, hlt, hAa, hAb, hsub, hff, hkk⟩ | ⟨hb, ha, nb, kb, kt⟩
    · rw [widT_mm hb ha ky kx]
      refine hasK_yes (by rw [hb]; rfl) ?_ (fun h => by omega) (fun _ => ?_)
      · rcases hnb with ⟨h, -⟩ | ⟨-, h, -⟩ | ⟨h, -⟩
        · omega
        · rw [h]; rfl
        · omega
      · show headAll _ (Kd.kids b) ((Nd.kids t).map _) = true
        rw [ky]
        refine headAll_true (List.all_eq_true.2 fun v hv => ?_)
        obtain ⟨u, hu', rfl⟩ := List.mem_map.1 hv
        exact ih y n x p u _ _ _ (gb y (by rw [ky]; exact List.mem_cons_self ..)) (ga x (by rw [kx]; exact List.mem_cons_self ..)) (gt u hu') hf' (hu u hu')
    · rw [widT_xm hb ha ky]
      refine hasK_yes (by rw [hb]; rfl) ?_ (fun h => by omega) (fun _ => ?_)
      · rcases hnb with ⟨h, -⟩ | ⟨-, h, -⟩ | ⟨h, -⟩
        · omega
        · rw [h]; rfl
        · omega
      · show headAll _ (Kd.kids b) [_] = true
        rw [ky]
        refine headAll_true (List.all_eq_true.2 fun v hv => ?_)
        rw [List.mem_singleton.1 hv]
        exact ih y (n + 1) a (p + 1) t _ _ _ (gb y (by rw [ky]; exact List.mem_cons_self ..)) hga hgt hf' hh
    · rw [widT_ll hb ky kx]
      refine hasK_yes (by rw [hb]; rfl) ?_ (fun h => by omega) (fun _ => ?_)
      · rcases hnb with ⟨h, -⟩ | ⟨-, h, -⟩ | ⟨h, -⟩
        · omega
        · rw [h]; rfl
        · omega
      · show headAll _ (Kd.kids b) ((Nd.kids t).map _) = true
        rw [ky]
        refine headAll_true (List.all_eq_true.2 fun v hv => ?_)
        obtain ⟨u, hu', rfl⟩ := List.mem_map.1 hv
        exact ih y n x p u _ _ _ (gb y (by rw [ky]; exact List.mem_cons_self ..)) (ga x (by rw [kx]; exact List.mem_cons_self ..)) (gt u hu') hf' (hu u hu')
    · rw [widT_ff hb]
      refine hasK_yes (by rw [hb]; rfl) rfl (fun _ => ?_) (fun h => absurd hb h)
      show zipAll _ (Kd.kids b) (mapW _ _ _ _ _ _ _) = true
      have hl := mapW_length (f := fun y x u => widT m y n x p u) (z := noneT m) (ns := Kd.names a) (xs := Kd.kids a) (us := Nd.kids t) (Kd.names b) (Kd.kids b) hlb
      refine zipAll_true hl.symm fun j h1 h2 => ?_
      rw [mapW_get _ _ j (by omega) h1 h2]
      have hgy := gb _ (List.getElem_mem h1)
      rcases field_pair (us := Nd.kids t) hAa hla hlt (hff j (by omega) h1) with ⟨i, i1, i2, i3, he, hat, hfi⟩ | ⟨-, hat, h6⟩
      · rw [hat]
        exact ih _ n _ p _ _ _ _ hgy (ga _ (List.getElem_mem i2)) (gt _ (List.getElem_mem i3)) hfi (hkk i i2 i3)
      · rw [hat]
        exact has_none m _ _ hgy h6
    · rw [widT_leaf hb]
      have hs := (hasK_get hh).1
      refine hasK_yes (by rw [← ha, hs]; rfl) (by rw [nb]; rfl) (fun h => by omega) (fun _ => ?_)
      show headAll _ _ [] = true
      cases Kd.kids b <;> rfl

theorem sumL_leW {α β : Type} {f : α → Nat} {g : β → Nat} {h : α → β} : ∀ (l : List α), (∀ x, x ∈ l → f x ≤ g (h x)) → sumL f l ≤ sumL g (l.map h)
  | [], _ => Nat.le_refl _
  | x :: r, hx => by
    simp only [List.map_cons, sumL]
    exact Nat.add_le_add (hx x (List.mem_cons_self ..)) (sumL_leW r fun y hy => hx y (List.mem_cons_of_mem _ hy))

theorem mapW_skip {α β γ δ : Type} {f : α → β → γ → δ} {z : α → δ} {c : ByteArray} {ns : List ByteArray} {x : β} {xs : List β} {u : γ} {us : List γ} : ∀ (ss : List ByteArray) (ys : List α), c ∉ ss → mapW f z (c :: ns) (x :: xs) (u :: us) ss ys = mapW f z ns xs us ss ys
  | [], _, _ => by simp [mapW]
  | _ :: _, [], _ => by simp [mapW]
  | s :: ss, y :: ys, h => by
    have hne : c ≠ s := fun e => h (by rw [e]; exact List.mem_cons_self ..)
    simp only [mapW]
    rw [mapW_skip ss ys (fun h' => h (List.mem_cons_of_mem _ h'))]
    rw [show atName2 (c :: ns) (x :: xs) (u :: us) s = atName2 ns xs us s by rw [atName2, if_neg hne]]

theorem sumW {α β γ δ : Type} {f : α → β → γ → δ} {z : α → δ} {g : γ → Nat} {h : δ → Nat} : ∀ (ss : List ByteArray) (ys : List α) (ns : List ByteArray) (xs : List β) (us : List γ), ss.length = ys.length → ns.length = xs.length → us.length = xs.length → Asc ss → Asc ns → (∀ s, s ∈ ns → s ∈ ss) →
    (∀ j (h1 : j < ss.length) (h2 : j < ys.length) x u, atName2 ns xs us ss[j] = some (x, u) → g u ≤ h (f ys[j] x u)) → sumL g us ≤ sumL h (mapW f z ns xs us ss ys) := by
  intro ss
  induction ss with
  | nil =>
    intro ys ns xs us _ h1 h2 _ _ hsub _
    cases ns with
    | nil =>
      have : us = [] := List.eq_nil_of_length_eq_zero (by rw [h2, ← h1]; rfl)
      rw [this]; exact Nat.zero_le _
    | cons n ns => exact absurd (hsub n (List.mem_cons_self ..)) (by simp)
  | cons s ss ih =>
    intro ys ns xs us hl h1 h2 hAs hAn hsub hle
    cases ys with
    | nil => cases hl
    | cons y ys =>
    have hAs' := (List.pairwise_cons.1 hAs)
    cases ns with
    | nil =>
      have : us = [] := List.eq_nil_of_length_eq_zero (by rw [h2, ← h1]; rfl)
      rw [this]; exact Nat.zero_le _
    | cons n ns =>
    cases xs with
    | nil => cases h1
    | cons x xs =>
    cases us with
    | nil => cases h2
    | cons u us =>
    have hAn' := (List.pairwise_cons.1 hAn)
    have hl' : ss.length = ys.length := by simpa using hl
    by_cases hns : n = s
    · subst hns
      have hnot : n ∉ ss := fun h => by have := hAs'.1 n h; rw [lt_irr] at this; cases this
      have h0 := hle 0 (by simp) (by simp) x u (by simp [atName2])
      simp only [mapW, sumL]
      rw [mapW_skip ss ys hnot]
      rw [show atName2 (n :: ns) (x :: xs) (u :: us) n = some (x, u) by simp [atName2]]
      refine Nat.add_le_add (by simpa using h0) (ih ys ns xs us hl' (by simpa using h1) (by simpa using h2) hAs'.2 hAn'.2 (fun r hr => ?_) (fun j j1 j2 x' u' hat => ?_))
      · rcases List.mem_cons.1 (hsub r (List.mem_cons_of_mem _ hr)) with h | h
        · have := hAn'.1 r hr; rw [h, lt_irr] at this; cases this
        · exact h
      · have hne : n ≠ ss[j] := fun e => hnot (by rw [e]; exact List.getElem_mem j1)
        have := hle (j + 1) (by simpa using j1) (by simpa using j2) x' u' (by simpa [atName2, hne] using hat)
        simpa using this
    · have hn' : n ∈ ss := by
        rcases List.mem_cons.1 (hsub n (List.mem_cons_self ..)) with h | h
        · exact absurd h hns
        · exact h
      have hsub' : ∀ r, r ∈ n :: ns → r ∈ ss := fun r hr => by
        rcases List.mem_cons.1 (hsub r hr) with h | h
        · exfalso
          have hsn := hAs'.1 n hn'
          rcases List.mem_cons.1 hr with h2 | h2
          · exact hns (h2.symm.trans h)
          · have := hAn'.1 r h2
            rw [h] at this
            have := lt_tr hsn this
            rw [lt_irr] at this; cases this
        · exact h
      have := ih ys (n :: ns) (x :: xs) (u :: us) hl' h1 h2 hAs'.2 hAn hsub' (fun j j1 j2 x' u' hat => by
        have := hle (j + 1) (by simpa using j1) (by simpa using j2) x' u' (by simpa using hat)
        simpa using this)
      simp only [mapW]
      refine Nat.le_trans this ?_
      simp only [sumL]
      omega

theorem cnt_wid : ∀ (m : Nat) (b : K m) (n : Nat) (a : K n) (p : Nat) (t : T p) (d d' e : Int), goodK m b d' = true → goodK n a d = true → goodT p t e = true → fitsK m b n a = true → hasK n a p t = true → cntT p t ≤ cntT m (widT m b n a p t) := by
  intro m
  induction m with
  | zero => intro b; exact Empty.elim (show Empty from b)
  | succ m ih =>
    intro b n a p t d d' e hgb hga hgt hf hh
    cases n with
    | zero => exact Empty.elim (show Empty from a)
    | succ n =>
    cases p with
    | zero => exact Empty.elim (show Empty from t)
    | succ p =>
    have gb := goodK_all hgb
    have ga := goodK_all hga
    have gt := goodT_all hgt
    rcases fits_ways hgb hga hgt hf hh with ⟨y, x, hb, ha, ky, kx, hf', hu⟩ | ⟨y, hb, ha, ky, hf'⟩ | ⟨y, x, hb, ha, ky, kx, hf', hu⟩ | ⟨hb, ha, hlb, hla, hlt, hAa, hAb, hsub, hff, hkk⟩ | ⟨hb, ha, nb, kb, kt⟩
    · rw [widT_mm hb ha ky kx]
      show 1 + sumL (fun k => cntT p k) (Nd.kids t) ≤ 1 + sumL (fun k => cntT m k) ((Nd.kids t).map _)
      refine Nat.add_le_add_left (sumL_leW _ fun u hu' => ?_) 1
      exact ih y n x p u _ _ _ (gb y (by rw [ky]; exact List.mem_cons_self ..)) (ga x (by rw [kx]; exact List.mem_cons_self ..)) (gt u hu') hf' (hu u hu')
    · rw [widT_xm hb ha ky]
      show cntT (p + 1) t ≤ 1 + sumL (fun k => cntT m k) [_]
      have := ih y (n + 1) a (p + 1) t _ _ _ (gb y (by rw [ky]; exact List.mem_cons_self ..)) hga hgt hf' hh
      simp only [sumL]
      omega
    · rw [widT_ll hb ky kx]
      show 1 + sumL (fun k => cntT p k) (Nd.kids t) ≤ 1 + sumL (fun k => cntT m k) ((Nd.kids t).map _)
      refine Nat.add_le_add_left (sumL_leW _ fun u hu' => ?_) 1
      exact ih y n x p u _ _ _ (gb y (by rw [ky]; exact List.mem_cons_self ..)) (ga x (by rw [kx]; exact List.mem_cons_self ..)) (gt u hu') hf' (hu u hu')
    · rw [widT_ff hb]
      show 1 + sumL (fun k => cntT p k) (Nd.kids t) ≤ 1 + sumL (fun k => cntT m k) (mapW _ _ _ _ _ _ _)
      refine Nat.add_le_add_left (sumW _ _ _ _ _ hlb hla hlt hAb hAa hsub fun j h1 h2 x u hat => ?_) 1
      have hgy := gb _ (List.getElem_mem h2)
      rcases field_pair (us := Nd.kids t) hAa hla hlt (hff j h1 h2) with ⟨i, i1, i2, i3, he, hat', hfi⟩ | ⟨-, hat', h6⟩
      · rw [hat'] at hat
        cases hat
        exact ih _ n _ p _ _ _ _ hgy (ga _ (List.getElem_mem i2)) (gt _ (List.getElem_mem i3)) hfi (hkk i i2 i3)
      · rw [hat'] at hat; cases hat
    · rw [widT_leaf hb]
      show 1 + sumL (fun k => cntT p k) (Nd.kids t) ≤ 1 + sumL (fun k => cntT m k) []
      rw [kt]
      exact Nat.le_refl _

theorem nd_eta {m : Nat} {t : T (m + 1)} {so nu : Int} {tx : ByteArray} {ns : List ByteArray} {ks : List (T m)} (h1 : Nd.sort t = so) (h2 : Nd.num t = nu) (h3 : Nd.text t = tx) (h4 : Nd.names t = ns) (h5 : Nd.kids t = ks) : mkT m so nu tx ns ks = t := by
  subst h1 h2 h3 h4 h5
  rfl

/-- What a good tree that is no leaf has as number and text. -/
theorem goodT_bare {n : Nat} {t : T (n + 1)} {d : Int} (h : goodT (n + 1) t d = true) (hs : Nd.sort t = 4 ∨ Nd.sort t = 5 ∨ Nd.sort t = 6) : Nd.num t = 0 ∧ Nd.text t = ByteArray.empty := by
  simp only [goodT, Bool.and_eq_true] at h
  have ha : aloneF (Nd.sort t) (Nd.num t) (Nd.text t) (Nd.names t) (Nd.kids t).length = true := h.1.2
  have he : ∀ x : ByteArray, x.toList.isEmpty = true → x = ByteArray.empty := fun x hx => by
    rw [ByteArray.toList_eq] at hx
    have : x.data.toList = [] := List.isEmpty_iff.1 hx
    have h2 : x.data = #[] := by rw [← Array.toArray_toList (xs := x.data), this]
    cases x with
    | mk data => simp only at h2; rw [h2]; rfl
  unfold aloneF at ha
  rcases hs with hs | hs | hs
  · rw [hs] at ha
    simp only [show ¬ ((4 : Int) = 1) by decide, show ¬ ((4 : Int) = 2) by decide, show ¬ ((4 : Int) = 3) by decide, if_false, if_true, Bool.and_eq_true, beq_iff_eq] at ha
    exact ⟨ha.1.1.1, he _ ha.1.1.2⟩
  · rw [hs] at ha
    simp only [show ¬ ((5 : Int) = 1) by decide, show ¬ ((5 : Int) = 2) by decide, show ¬ ((5 : Int) = 3) by decide, show ¬ ((5 : Int) = 4) by decide, if_false, if_true, Bool.and_eq_true, beq_iff_eq] at ha
    exact ⟨ha.1.1.1, he _ ha.1.1.2⟩
  · rw [hs] at ha
    simp only [show ¬ ((6 : Int) = 1) by decide, show ¬ ((6 : Int) = 2) by decide, show ¬ ((6 : Int) = 3) by decide, show ¬ ((6 : Int) = 4) by decide, show ¬ ((6 : Int) = 5) by decide, if_false, if_true, Bool.and_eq_true, beq_iff_eq] at ha
    exact ⟨ha.1.1.1, he _ ha.1.1.2⟩

/-- Into its own schema each tree stays as it is. -/
theorem wid_self : ∀ (m : Nat) (a : K m) (t : T m) (d e : Int), goodK m a d = true → goodT m t e = true → hasK m a m t = true → widT m a m a m t = t := by
  intro m
  induction m with
  | zero => intro a; exact Empty.elim (show Empty from a)
  | succ m ih =>
    intro a t d e hga hgt hh
    have ga := goodK_all hga
    have gt := goodT_all hgt
    obtain ⟨hs, hnm, -, -⟩ := hasK_get hh
    have hself := fitsK_self (m + 1) a d hga
    rcases fits_ways hga hga hgt hself hh with ⟨y, x, hb, ha, ky, kx, hf', hu⟩ | ⟨y, hb, ha, ky, hf'⟩ | ⟨y, x, hb, ha, ky, kx, hf', hu⟩ | ⟨hb, ha, hlb, hla, hlt, hAa, hAb, hsub, hff, hkk⟩ | ⟨hb, ha, nb, kb, kt⟩
    · rw [widT_mm hb ha ky kx]
      obtain ⟨b1, b2⟩ := goodT_bare hgt (by omega)
      have hxy : x = y := by rw [ky] at kx; exact ((List.cons.inj kx).1).symm
      subst hxy
      refine nd_eta (by omega) b1 b2 (by rcases goodK_kids hga with ⟨h, -⟩ | ⟨-, h, -⟩ | ⟨h, -⟩ <;> first | omega | (rw [← hnm, h])) ?_
      refine (List.map_congr_left (g := id) fun u hu' => ?_).trans (List.map_id _) |>.symm
      exact ih x u _ _ (ga x (by rw [ky]; exact List.mem_cons_self ..)) (gt u hu') (hu u hu')
    · exact absurd hb ha
    · rw [widT_ll hb ky kx]
      obtain ⟨b1, b2⟩ := goodT_bare hgt (by omega)
      have hxy : x = y := by rw [ky] at kx; exact ((List.cons.inj kx).1).symm
      subst hxy
      refine nd_eta (by omega) b1 b2 (by rcases goodK_kids hga with ⟨h, -⟩ | ⟨-, h, -⟩ | ⟨h, -⟩ <;> first | omega | (rw [← hnm, h])) ?_
      refine (List.map_congr_left (g := id) fun u hu' => ?_).trans (List.map_id _) |>.symm
      exact ih x u _ _ (ga x (by rw [ky]; exact List.mem_cons_self ..)) (gt u hu') (hu u hu')
    · rw [widT_ff hb]
      obtain ⟨b1, b2⟩ := goodT_bare hgt (by omega)
      refine nd_eta (by omega) b1 b2 hnm.symm ?_
      have hl := mapW_length (f := fun y x u => widT m y m x m u) (z := noneT m) (ns := Kd.names a) (xs := Kd.kids a) (us := Nd.kids t) (Kd.names a) (Kd.kids a) hlb
      refine List.ext_getElem (by rw [hl]; exact hlt) fun j h1 h2 => ?_
      have hjk : j < (Kd.kids a).length := by omega
      rw [mapW_get _ _ j (by omega) hjk h2, atName2_yes _ _ _ j (by omega) hjk h1 hAa]
      exact (ih _ _ _ _ (ga _ (List.getElem_mem hjk)) (gt _ (List.getElem_mem h1)) (hkk j hjk h1)).symm
    · rw [widT_leaf hb]
      exact nd_eta rfl rfl rfl (by rw [← hnm, nb]) kt

end Go.Proofs.YtpalkdcgbbbmeaaGreatDoor
