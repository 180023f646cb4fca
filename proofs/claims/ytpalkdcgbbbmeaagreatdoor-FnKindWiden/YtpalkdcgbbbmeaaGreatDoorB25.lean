/-
 Several texts in one, in their order.
-/
import Derived.Test.YtpalkdcgbbbmeaaGreatDoorB10
import Derived.Test.YtpalkdcgbbbmeaaGreatDoorB15
import Derived.Test.YtpalkdcgbbbmeaaGreatDoorB21
import Derived.Test.YtpalkdcgbbbmeaaGreatDoorB1

/-
 Plain mathematics: what comes of widening is a tree as the program has it; what KindWiden answers.
-/
namespace Go.Proofs.YtpalkdcgbbbmeaaGreatDoor
open Go.RowKit

theorem empty_of {x : ByteArray} (hx : x.toList.isEmpty = true) : x = ByteArray.empty := by
 rw [ByteArray.toList_eq] at hx
 have : x.data.toList = [] := List.isEmpty_iff.1 hx
 have h2 : x.data = #[] := by rw [← Array.toArray_toList (xs := x.data), this]
 cases x with
 | mk data => simp only at h2; rw [h2]; rfl

theorem rise_8 {l : List ByteArray} (h : riseB l = true) : ∀ s, s ∈ l → s.size ≤ 8 := fun s hs => by
 obtain ⟨i, hi, rfl⟩ := List.getElem_of_mem hs
 have := List.all_eq_true.1 h i (List.mem_range.2 hi)
 simp only [riseAt, Bool.and_eq_true, nameB, decide_eq_true_eq] at this
 have h8 := this.1.1.1.2
 rwa [List.getD_eq_getElem?_getD, List.getElem?_eq_getElem hi, Option.getD_some] at h8

theorem clean_of {n : Nat} {t : T (n + 1)} {d : Int} (h : goodT (n + 1) t d = true) (h1 : (Nd.names t).length ≤ 10000) (h2 : (Nd.kids t).length ≤ 10000) (h3 : ∀ k, k ∈ Nd.kids t → cleanT n k) : cleanT (n + 1) t := by
 have hk := goodT_kids h
 have hb := goodT_bare h
 have ha := good_alone h
 have hsort : Nd.sort t = 1 ∨ Nd.sort t = 2 ∨ Nd.sort t = 3 ∨ Nd.sort t = 4 ∨ Nd.sort t = 5 ∨ Nd.sort t = 6 := by
  unfold aloneF at ha
  by_cases c1 : Nd.sort t = 1
  · exact .inl c1
  by_cases c2 : Nd.sort t = 2
  · exact .inr (.inl c2)
  by_cases c3 : Nd.sort t = 3
  · exact .inr (.inr (.inl c3))
  by_cases c4 : Nd.sort t = 4
  · exact .inr (.inr (.inr (.inl c4)))
  by_cases c5 : Nd.sort t = 5
  · exact .inr (.inr (.inr (.inr (.inl c5))))
  by_cases c6 : Nd.sort t = 6
  · exact .inr (.inr (.inr (.inr (.inr c6))))
  rw [if_neg c1, if_neg c2, if_neg c3, if_neg c4, if_neg c5, if_neg c6] at ha
  cases ha
 have a1 : Nd.sort t = 1 → (-999999999 ≤ Nd.num t ∧ Nd.num t ≤ 999999999) ∧ Nd.text t = ByteArray.empty := fun hs => by
  unfold aloneF at ha
  rw [if_pos hs] at ha
  simp only [Bool.and_eq_true, decide_eq_true_eq] at ha
  exact ⟨ha.1.1.1, empty_of ha.1.1.2⟩
 have a2 : Nd.sort t = 2 → Nd.num t = 0 ∧ (Nd.text t).size ≤ 60 := fun hs => by
  unfold aloneF at ha
  rw [if_neg (by omega), if_pos hs] at ha
  simp only [Bool.and_eq_true, beq_iff_eq, textB, decide_eq_true_eq] at ha
  exact ⟨ha.1.1.1, ha.1.1.2.1⟩
 have a3 : Nd.sort t = 3 → (0 ≤ Nd.num t ∧ Nd.num t ≤ 1) ∧ Nd.text t = ByteArray.empty := fun hs => by
  unfold aloneF at ha
  rw [if_neg (by omega), if_neg (by omega), if_pos hs] at ha
  simp only [Bool.and_eq_true, decide_eq_true_eq] at ha
  exact ⟨ha.1.1.1, empty_of ha.1.1.2⟩
 have hz : (ByteArray.empty).size ≤ 10000 := by simp
 refine ⟨fun hs => ⟨(a1 hs).2, hk.1 (.inl hs)⟩, fun hs => ⟨(a2 hs).1, hk.1 (.inr (.inl hs))⟩, fun hs => ⟨(a3 hs).2, (hk.1 (.inr (.inr hs))).1, (hk.1 (.inr (.inr hs))).2, by have := (a3 hs).1; omega⟩,
  fun hs => ⟨(hb (.inl hs)).1, (hb (.inl hs)).2, hk.2.1 (.inl hs)⟩, fun hs => hb (.inr (.inl hs)), fun hs => ⟨(hb (.inr (.inr hs))).1, (hb (.inr (.inr hs))).2, hk.2.1 (.inr hs)⟩, ?_, ?_, ?_, h1, fun s hs => ?_, h2, h3⟩
 ·
  rcases hsort with c | c | c | c | c | c
  · exact (a1 c).1.1
  · have := (a2 c).1; omega
  · have := (a3 c).1; omega
  · have := (hb (.inl c)).1; omega
  · have := (hb (.inr (.inl c))).1; omega
  · have := (hb (.inr (.inr c))).1; omega
 ·
  rcases hsort with c | c | c | c | c | c
  · exact (a1 c).1.2
  · have := (a2 c).1; omega
  · have := (a3 c).1; omega
  · have := (hb (.inl c)).1; omega
  · have := (hb (.inr (.inl c))).1; omega
  · have := (hb (.inr (.inr c))).1; omega
 ·
  rcases hsort with c | c | c | c | c | c
  · rw [(a1 c).2]; exact hz
  · have := (a2 c).2; omega
  · rw [(a3 c).2]; exact hz
  · rw [(hb (.inl c)).2]; exact hz
  · rw [(hb (.inr (.inl c))).2]; exact hz
  · rw [(hb (.inr (.inr c))).2]; exact hz
 ·
  rcases hsort with c | c | c | c | c | c
  · rw [(hk.1 (.inl c)).1] at hs; cases hs
  · rw [(hk.1 (.inr (.inl c))).1] at hs; cases hs
  · rw [(hk.1 (.inr (.inr c))).1] at hs; cases hs
  · rw [hk.2.1 (.inl c)] at hs; cases hs
  · have := rise_8 (hk.2.2 c).2 s hs; omega
  · rw [hk.2.1 (.inr c)] at hs; cases hs

theorem good_20 {p : Nat} {t : T (p + 1)} {e : Int} (h : goodT (p + 1) t e = true) (hs : Nd.sort t = 4 ∨ Nd.sort t = 6) : (Nd.kids t).length ≤ 20 := by
 have ha := good_alone h
 unfold aloneF at ha
 rcases hs with hs | hs
 ·
  rw [hs] at ha
  simp at ha
  omega
 ·
  rw [hs] at ha
  simp at ha
  omega

theorem clean_none (m : Nat) (y : K m) (d : Int) (h : goodK m y d = true) : cleanT m (noneT m y) := by
 cases m with
 | zero => exact Empty.elim (show Empty from y)
 | succ m => exact clean_of (good_none (m + 1) y d h) (by simp [noneT, mkT]) (by simp [noneT, mkT]) (fun k hk => by cases hk)

theorem clean_wid : ∀ (m : Nat) (b : K m) (n : Nat) (a : K n) (p : Nat) (t : T p) (d d' e : Int), goodK m b d' = true → cntK m b ≤ 40 → goodK n a d = true → goodT p t e = true → fitsK m b n a = true → hasK n a p t = true → cleanT m (widT m b n a p t) := by
 intro m
 induction m with
 | zero => intro b; exact Empty.elim (show Empty from b)
 | succ m ih =>
  intro b n a p t d d' e hgb hc hga hgt hf hh
  cases n with
  | zero => exact Empty.elim (show Empty from a)
  | succ n =>
  cases p with
  | zero => exact Empty.elim (show Empty from t)
  | succ p =>
  have hg := good_wid (m + 1) b (n + 1) a (p + 1) t d d' e hgb hga hgt hf hh
  have gb := goodK_all hgb
  have ga := goodK_all hga
  have gt := goodT_all hgt
  have h39 := kids_39 hgb hc
  obtain ⟨hs, hnm, -, -⟩ := hasK_get hh
  rcases fits_ways hgb hga hgt hf hh with ⟨y, x, hb, ha, ky, kx, hf', hu⟩ | ⟨y, hb, ha, ky, hf'⟩ | ⟨y, x, hb, ha, ky, kx, hf', hu⟩ | ⟨hb, ha, hlb, hla, hlt, hAa, hAb, hsub, hff, hkk⟩ | ⟨hb, ha, nb, kb, kt⟩
  ·
   rw [widT_mm hb ha ky kx] at hg ⊢
   have hl := good_20 hgt (.inr (by omega))
   refine clean_of hg (by simp [mkT]) (by show ((Nd.kids t).map _).length ≤ _; rw [List.length_map]; omega) fun v hv => ?_
   obtain ⟨u, hu', rfl⟩ := List.mem_map.1 hv
   exact ih y n x p u _ _ _ (gb y (by rw [ky]; exact List.mem_cons_self ..)) (cnt_kid hc (by rw [ky]; exact List.mem_cons_self ..)) (ga x (by rw [kx]; exact List.mem_cons_self ..)) (gt u hu') hf' (hu u hu')
  ·
   rw [widT_xm hb ha ky] at hg ⊢
   refine clean_of hg (by simp [mkT]) (by simp [mkT]) fun v hv => ?_
   rw [List.mem_singleton.1 hv]
   exact ih y (n + 1) a (p + 1) t _ _ _ (gb y (by rw [ky]; exact List.mem_cons_self ..)) (cnt_kid hc (by rw [ky]; exact List.mem_cons_self ..)) hga hgt hf' hh
  ·
   rw [widT_ll hb ky kx] at hg ⊢
   have hl := good_20 hgt (.inl (by omega))
   refine clean_of hg (by simp [mkT]) (by show ((Nd.kids t).map _).length ≤ _; rw [List.length_map]; omega) fun v hv => ?_
   obtain ⟨u, hu', rfl⟩ := List.mem_map.1 hv
   exact ih y n x p u _ _ _ (gb y (by rw [ky]; exact List.mem_cons_self ..)) (cnt_kid hc (by rw [ky]; exact List.mem_cons_self ..)) (ga x (by rw [kx]; exact List.mem_cons_self ..)) (gt u hu') hf' (hu u hu')
  ·
   rw [widT_ff hb] at hg ⊢
   have hl := mapW_length (f := fun y x u => widT m y n x p u) (z := noneT m) (ns := Kd.names a) (xs := Kd.kids a) (us := Nd.kids t) (Kd.names b) (Kd.kids b) hlb
   refine clean_of hg (by show (Kd.names b).length ≤ _; omega) (by show (mapW _ _ _ _ _ _ _).length ≤ _; rw [hl]; omega) fun v hv => ?_
   have hv : v ∈ mapW (fun y x u => widT m y n x p u) (noneT m) (Kd.names a) (Kd.kids a) (Nd.kids t) (Kd.names b) (Kd.kids b) := hv
   obtain ⟨j, hj, rfl⟩ := List.getElem_of_mem hv
   have hjk : j < (Kd.kids b).length := by omega
   rw [mapW_get _ _ j (by omega) hjk hj]
   have hgy := gb _ (List.getElem_mem hjk)
   rcases field_pair (us := Nd.kids t) hAa hla hlt (hff j (by omega) hjk) with ⟨i, i1, i2, i3, he, hat, hfi⟩ | ⟨-, hat, h6⟩
   ·
    rw [hat]
    exact ih _ n _ p _ _ _ _ hgy (cnt_kid hc (List.getElem_mem hjk)) (ga _ (List.getElem_mem i2)) (gt _ (List.getElem_mem i3)) hfi (hkk i i2 i3)
   ·
    rw [hat]
    exact clean_none m _ _ hgy
  ·
   rw [widT_leaf hb] at hg ⊢
   exact clean_of hg (by simp [mkT]) (by simp [mkT]) (fun v hv => by cases hv)

def nilT : (n : Nat) → K n → T n
 | 0, k => k
 | n + 1, _ => mkT n 0 0 ByteArray.empty [] []

def widB (n : Nat) (a : K n) (m : Nat) (b : K m) (p : Nat) (t : T p) : Bool := fitsF n a m b && hasF n a p t && okT m (widT m b n a p t)

def widA (n : Nat) (a : K n) (m : Nat) (b : K m) (p : Nat) (t : T p) : T m := if widB n a m b p t = true then widT m b n a p t else nilT m b

end Go.Proofs.YtpalkdcgbbbmeaaGreatDoor

/-
 Two schemas and a tree in boxes of the law's; a tree that was answered in its box.
-/
namespace Go.Proofs.YtpalkdcgbbbmeaaGreatDoor
open Go.RowKit

structure BoxKKT (B : Nat) (w : World) (m : Nat) (a b : K m) (t : T m) (X : Nat) (a0 a1 a2 b0 b1 b2 d0 d1 d2 d3 d4 : Value) : Prop where
 a : BoxK B w m a X a0 a1 a2
 b : BoxK B w m b (X + 1) b0 b1 b2
 t : BoxT B w m t (X + 1 + 1) d0 d1 d2 d3 d4

theorem BoxKKT.keep {B : Nat} {w w' : World} {m : Nat} {a b : K m} {t : T m} {X : Nat} {a0 a1 a2 b0 b1 b2 d0 d1 d2 d3 d4 : Value} (h : BoxKKT B w m a b t X a0 a1 a2 b0 b1 b2 d0 d1 d2 d3 d4) (hb : Below w.heap.size w w') : BoxKKT B w' m a b t X a0 a1 a2 b0 b1 b2 d0 d1 d2 d3 d4 :=
 ⟨h.a.keep hb, h.b.keep hb, h.t.keep hb⟩

theorem kkt_new {w : World} {m : Nat} {a b : K m} {t : T m} {a0 a1 a2 b0 b1 b2 d0 d1 d2 d3 d4 : Value} (B : Nat) (ha : KindIn (fun b => B ≤ b ∧ b < w.heap.size) w m a a0 a1 a2) (hb : KindIn (fun b => B ≤ b ∧ b < w.heap.size) w m b b0 b1 b2) (ht : TreeIn (fun b => B ≤ b ∧ b < w.heap.size) w m t d0 d1 d2 d3 d4) :
  BoxKKT w.heap.size (((w.alloc (.cells #[a0, a1, a2] 26)).alloc (.cells #[b0, b1, b2] 26)).alloc (.cells #[d0, d1, d2, d3, d4] 29)) m a b t w.heap.size a0 a1 a2 b0 b1 b2 d0 d1 d2 d3 d4 := by
 have h1 : Below w.heap.size w (w.alloc (.cells #[a0, a1, a2] 26)) := (Below.refl _ _).alloc (Nat.le_refl _) _
 have h2 : Below (w.alloc (.cells #[a0, a1, a2] 26)).heap.size (w.alloc (.cells #[a0, a1, a2] 26)) ((w.alloc (.cells #[a0, a1, a2] 26)).alloc (.cells #[b0, b1, b2] 26)) := (Below.refl _ _).alloc (Nat.le_refl _) _
 have h3 : Below ((w.alloc (.cells #[a0, a1, a2] 26)).alloc (.cells #[b0, b1, b2] 26)).heap.size ((w.alloc (.cells #[a0, a1, a2] 26)).alloc (.cells #[b0, b1, b2] 26)) (((w.alloc (.cells #[a0, a1, a2] 26)).alloc (.cells #[b0, b1, b2] 26)).alloc (.cells #[d0, d1, d2, d3, d4] 29)) := (Below.refl _ _).alloc (Nat.le_refl _) _
 have h4 := below_step (below_step h1 h1.size h2) (below_step h1 h1.size h2).size h3
 have hx := Box3.new (w.alloc (.cells #[a0, a1, a2] 26)) b0 b1 b2 26
 rw [show (w.alloc (.cells #[a0, a1, a2] 26)).heap.size = w.heap.size + 1 by simp] at hx
 have hy := Box5.new ((w.alloc (.cells #[a0, a1, a2] 26)).alloc (.cells #[b0, b1, b2] 26)) d0 d1 d2 d3 d4 29
 rw [show ((w.alloc (.cells #[a0, a1, a2] 26)).alloc (.cells #[b0, b1, b2] 26)).heap.size = w.heap.size + 1 + 1 by simp] at hy
 exact ⟨⟨((Box3.new w a0 a1 a2 26).keep h2).keep h3, ha.keep (fun b hb => h4.block b hb.2) (fun b hb => hb.2), h4.size⟩, ⟨hx.keep h3, hb.keep (fun b hb => h4.block b hb.2) (fun b hb => hb.2), h4.size⟩, ⟨hy, ht.keep (fun b hb => h4.block b hb.2) (fun b hb => hb.2), h4.size⟩⟩

theorem nil_sort {S : Nat → Prop} {w : World} : ∀ {m : Nat} {b : K m} {x0 : Int} {c1 c2 c3 c4 : Value}, TreeIn S w m (nilT m b) (.int .i64 x0) c1 c2 c3 c4 → x0 = 0 := by
 intro m
 cases m with
 | zero => intro _ x0 c1 c2 c3 c4 h; exact h.elim
 | succ m =>
  intro b x0 c1 c2 c3 c4 h
  have h1 : Value.int .i64 x0 = .int .i64 0 := h.1
  cases h1; rfl

theorem boxT_new {w : World} {m : Nat} {t : T m} {d0 d1 d2 d3 d4 : Value} (B : Nat) (ht : TreeIn (fun b => B ≤ b ∧ b < w.heap.size) w m t d0 d1 d2 d3 d4) : BoxT w.heap.size (w.alloc (.cells #[d0, d1, d2, d3, d4] 29)) m t w.heap.size d0 d1 d2 d3 d4 :=
 ⟨Box5.new _ _ _ _ _ _ _, ht.keep (fun b hb => ((Below.refl w.heap.size w).alloc (Nat.le_refl _) _).block b hb.2) (fun _ hb => hb.2), ((Below.refl w.heap.size w).alloc (Nat.le_refl _) _).size⟩

end Go.Proofs.YtpalkdcgbbbmeaaGreatDoor
