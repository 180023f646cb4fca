/-
 The program's walker at inner trees, with the closure by which partsOf counts; partsOf; TreeParts.
-/
import Derived.Test.YtpalkdcgbbbmeaaGreatDoorB9
import Derived.Test.YtpalkdcgbbbmeaaGreatDoorB7
import Derived.Handy
namespace Go.Proofs.YtpalkdcgbbbmeaaGreatDoor
open Go.RowKit

theorem leaf_none {n : Nat} {t : T (n + 1)} {d : Int} (h : goodT (n + 1) t d = true) (hs : Nd.sort t = 1 ∨ Nd.sort t = 2 ∨ Nd.sort t = 3) : cntT (n + 1) t = 1 := by
 simp only [goodT, Bool.and_eq_true] at h
 have ha : aloneF (Nd.sort t) (Nd.num t) (Nd.text t) (Nd.names t) (Nd.kids t).length = true := h.1.2
 have hk : (Nd.kids t).length = 0 := by
  unfold aloneF at ha
  rcases hs with hs | hs | hs
  · rw [hs] at ha; simp at ha; simp [ha]
  · rw [hs] at ha; simp at ha; simp [ha]
  · rw [hs] at ha; simp at ha; simp [ha]
 rw [List.length_eq_zero_iff] at hk
 simp [cntT, hk, sumL]

set_option maxHeartbeats 400000 in
theorem kids_list (a : Option Addr) (l c : Nat) (w : World) : Calls Tryz.prog 153 #[.slice a l c] w fun e w' => e = .returned (.slice a l c) ∧ w = w' := by
 go_enter Tryz.func153, Tryz.ntmps153
 go_wp2
 go_ret
 exact ⟨rfl, rfl⟩

set_option maxHeartbeats 400000 in
theorem kids_maybe (a : Option Addr) (l c : Nat) (w : World) : Calls Tryz.prog 155 #[.slice a l c] w fun e w' => e = .returned (.slice a l c) ∧ w = w' := by
 go_enter Tryz.func155, Tryz.ntmps155
 go_wp2
 go_ret
 exact ⟨rfl, rfl⟩

set_option maxHeartbeats 400000 in
theorem kids_form (a b : Option Addr) (l c m d : Nat) (w : World) : Calls Tryz.prog 154 #[.agg #[.slice a l c, .slice b m d]] w fun e w' => e = .returned (.slice b m d) ∧ w' = w.alloc (.cells #[.slice a l c, .slice b m d] 126) := by
 go_enter Tryz.func154, Tryz.ntmps154
 go_wp2
 go_ret
 exact ⟨rfl, rfl⟩

set_option maxHeartbeats 400000 in
theorem count_any (v : Value) (d p : Int) (pb : Nat) (w : World) (hp : Prt w pb p) (hp0 : 0 ≤ p) (hp1 : p ≤ 1000) :
  Calls Tryz.prog 87 #[v, .int .i64 d, .pointer (some ⟨pb, 0, none⟩)] w fun e w' => e = .returned (.bool true) ∧ w' = w.setCell ⟨pb, 0, none⟩ (.int .i64 (p + 1)) := by
 have c0 := hp.cell
 have f0 := hp.free
 clear hp
 go_enter Tryz.func87, Tryz.ntmps87
 go_wp2_with fail
 go_ret
 exact ⟨rfl, rfl⟩

def clP (pb : Nat) : Value := .func (.func 87) #[] #[.pointer (some ⟨pb, 0, none⟩)]

def WalkPSaid (n : Nat) : Prop := ∀ (S : Nat → Prop) (t : T n) (v : Value) (d p : Int) (pb : Nat) (w : World), InnerT S w n t v → (∀ b, S b → b < w.heap.size ∧ b ≠ pb) → Prt w pb p → goodT n t d = true → cntT n t ≤ 120 → 0 ≤ p → p + (cntT n t : Int) ≤ 200 → 1 ≤ d →
 Calls Tryz.prog 86 #[v, .int .i64 d, clP pb] w fun e w' => e = .returned (.bool true) ∧ Near pb w w' ∧ Prt w' pb (p + cntT n t)

set_option maxHeartbeats 1000000 in
theorem walkP_leaf (v : Value) (d p : Int) (pb : Nat) (w : World) (hv : (∃ x, v = .iface 114 (.int .i64 x)) ∨ (∃ x, v = .iface 119 (.string x)) ∨ (∃ x, v = .iface 120 (.bool x)))
  (hp : Prt w pb p) (hp0 : 0 ≤ p) (hp1 : p ≤ 1000) :
  Calls Tryz.prog 86 #[v, .int .i64 d, clP pb] w fun e w' => e = .returned (.bool true) ∧ Near pb w w' ∧ Prt w' pb (p + 1) := by
 have HC : Hid (Calls Tryz.prog 87 #[v, .int .i64 d, .pointer (some ⟨pb, 0, none⟩)] w _) := count_any v d p pb w hp hp0 hp1
 have HP : Hid (Near pb w (w.setCell ⟨pb, 0, none⟩ (.int .i64 (p + 1))) ∧ Prt (w.setCell ⟨pb, 0, none⟩ (.int .i64 (p + 1))) pb (p + 1)) := ⟨Near.set pb 0 w _, hp.set _⟩
 clear hp
 unfold clP
 rcases hv with ⟨x, rfl⟩ | ⟨x, rfl⟩ | ⟨x, rfl⟩
 all_goals
  go_enter Tryz.func86, Tryz.ntmps86
  go_wp2_with fail
  refine HC.out.mono ?_
  rintro e w' ⟨rfl, rfl⟩
  go_wp2_with (first | (go_at_call 150; go_in) | (go_at_call 151; go_in) | (go_at_call 152; go_in))
  go_rounds 1
  go_ret
  exact ⟨rfl, HP.out⟩

set_option maxRecDepth 100000 in
set_option maxHeartbeats 2000000 in
theorem walkP_row (n : Nat) (hn : WalkPSaid n) (S : Nat → Prop) (ks : List (T n)) (kv v : Value) (d p : Int) (pb : Nat) (w : World) (hr : Row1 S w (InnerT S w n) ks kv) (hB : ∀ b, S b → b < w.heap.size ∧ b ≠ pb)
  (hp : Prt w pb p) (hg : ks.all (fun x => goodT n x (d + 1)) = true) (hc : 1 + sumL (fun x => cntT n x) ks ≤ 120) (hp0 : 0 ≤ p) (hp1 : p + 1 + (sumL (fun x => cntT n x) ks : Int) ≤ 200) (hd1 : 1 ≤ d) (hd6 : d ≤ 6)
  (hv : v = .iface 122 kv ∨ v = .iface 128 kv ∨ (∃ a l c, v = .iface 126 (.agg #[.slice a l c, kv]))) :
  Calls Tryz.prog 86 #[v, .int .i64 d, clP pb] w fun e w' => e = .returned (.bool true) ∧ Near pb w w' ∧ Prt w' pb (p + (1 + (sumL (fun x => cntT n x) ks : Int))) := by
 obtain ⟨ao, cap, rfl, hlen, hcell⟩ := hr
 unfold maxLen at hlen
 have HG : Hid (∀ k (h : k < ks.length), goodT n ks[k] (d + 1) = true ∧ cntT n ks[k] ≤ 120) := by
  intro k h
  refine ⟨List.all_eq_true.1 hg _ (List.getElem_mem h), ?_⟩
  have := sumL_mono (fun x => cntT n x) ks _ (List.getElem_mem h)
  omega
 have HM : Hid (∀ k, sumL (fun x => cntT n x) (ks.take k) ≤ sumL (fun x => cntT n x) ks) := fun k => by
  have := sumL_append (fun x => cntT n x) (ks.take k) (ks.drop k)
  rw [List.take_append_drop] at this; omega
 have hlt := hp.lt
 have HC : Hid (Calls Tryz.prog 87 #[v, .int .i64 d, .pointer (some ⟨pb, 0, none⟩)] w _) := count_any v d p pb w hp hp0 (by omega)
 have HN0 : Hid (Near pb w (w.setCell ⟨pb, 0, none⟩ (.int .i64 (p + 1))) ∧ Prt (w.setCell ⟨pb, 0, none⟩ (.int .i64 (p + 1))) pb (p + 1)) := ⟨Near.set pb 0 w _, hp.set _⟩
 clear hg hp
 unfold clP
 rcases hv with rfl | rfl | ⟨na, nl, nc, rfl⟩
 all_goals
  go_enter Tryz.func86, Tryz.ntmps86
  go_wp2_with fail
  refine HC.out.mono ?_
  rintro e w' ⟨rfl, rfl⟩
  clear HC
  generalize w.setCell ⟨pb, 0, none⟩ (.int .i64 (p + 1)) = w1 at *
  go_wp2_with (first | (go_at_call 153; refine (kids_list _ _ _ _).mono ?_; rintro e w' ⟨rfl, rfl⟩) | (go_at_call 155; refine (kids_maybe _ _ _ _).mono ?_; rintro e w' ⟨rfl, rfl⟩) | (go_at_call 154; refine (kids_form _ _ _ _ _ _ _).mono ?_; rintro e w' ⟨rfl, rfl⟩))
  go_loopw [17] (fun i wr => ∃ k : Nat, k ≤ ks.length ∧ i = .int .i64 k ∧ Near pb w wr ∧ Prt wr pb (p + 1 + (sumL (fun x => cntT n x) (ks.take k) : Int))) (fun i _ => ks.length - (intOf i).toNat)
  case atStart =>
   first
    | exact ⟨0, Nat.zero_le _, rfl, HN0.out.1, by simpa [sumL] using HN0.out.2⟩
    | exact ⟨0, Nat.zero_le _, rfl, HN0.out.1.trans (Near.alloc _ _ _), by simpa [sumL] using HN0.out.2.keep ((Below.refl _ _).alloc (Nat.le_refl _) _)⟩
  case round =>
   obtain ⟨k, hk, rfl, hnr, hpr⟩ := hrel
   have hsk := HM.out k
   by_cases hlt : k < ks.length
   ·
    obtain ⟨b, off, rfl, hbB, hcl⟩ := hcell (by intro h; rw [h] at hlt; simp at hlt)
    obtain ⟨c, e0, hin⟩ := hcl k hlt
    obtain ⟨ku, kx, rfl⟩ := hin.iface
    have f0 := hnr.cell e0 (hB b hbB).2
    have hin' := hin.keep (hnr.same hB) (fun _ h => h)
    have hgk := HG.out k hlt
    have hzr := hnr.size
    have HS : Hid (sumL (fun x => cntT n x) (ks.take (k + 1)) = sumL (fun x => cntT n x) (ks.take k) + cntT n ks[k]) := sumL_take_succ _ _ _ hlt
    have HCK : Hid (Calls Tryz.prog 86 _ _ _) := hn S ks[k] (.iface ku kx) (d + 1) _ pb wr hin' (fun b hb => by have := hB b hb; omega) hpr hgk.1 hgk.2 (by omega) (by have h1 := HM.out (k + 1); rw [HS.out] at h1; omega) (by omega)
    unfold clP at HCK
    clear hcell hcl e0 hin hin' hgk
    go_wp2_with fail
    refine HCK.out.mono ?_
    rintro e w2 ⟨rfl, hn2, hp2⟩
    have HR : Hid (Near pb w w2 ∧ Prt w2 pb (p + 1 + (sumL (fun x => cntT n x) (ks.take (k + 1)) : Int))) := by
     refine ⟨hnr.trans hn2, ?_⟩
     rw [HS.out, show p + 1 + ((sumL (fun x => cntT n x) (ks.take k) + cntT n ks[k] : Nat) : Int) = p + 1 + (sumL (fun x => cntT n x) (ks.take k) : Int) + (cntT n ks[k] : Int) by omega]
     exact hp2
    clear hn2 hp2 HS HCK f0 hpr hnr
    go_wp2_with fail
    go_roundw
    case rel => exact ⟨k + 1, by omega, by go_num, HR.out.1, HR.out.2⟩
    case measure => simp [intOf]; omega
   ·
    have hkl : k = ks.length := by omega
    have HP : Hid (Near pb w wr ∧ Prt wr pb (p + (1 + (sumL (fun x => cntT n x) ks : Int)))) := by
     refine ⟨hnr, ?_⟩
     rw [hkl, List.take_length] at hpr
     rw [show p + (1 + (sumL (fun x => cntT n x) ks : Int)) = p + 1 + (sumL (fun x => cntT n x) ks : Int) by omega]
     exact hpr
    clear hkl hcell hnr hpr
    go_wp2_with fail
    go_ret
    exact ⟨rfl, HP.out⟩

theorem walkP_step (n : Nat) (hn : WalkPSaid n) : WalkPSaid (n + 1) := by
 intro S t v d p pb w h hB hp hg hc hp0 hp1 hd1
 have hg' := hg
 simp only [goodT, Bool.and_eq_true, decide_eq_true_eq] at hg'
 have hcn : (cntT (n + 1) t : Int) = 1 + (sumL (fun x => cntT n x) (Nd.kids t) : Int) := by simp only [cntT]; omega
 have hc' : 1 + sumL (fun x => cntT n x) (Nd.kids t) ≤ 120 := by simpa only [cntT] using hc
 rcases h with ⟨hs, hv⟩ | ⟨hs, hv⟩ | ⟨hs, hv⟩ | ⟨hs, kv, hv, hk⟩ | ⟨hs, nv, kv, hv, hnm, hk⟩ | ⟨hs, kv, hv, hk⟩
 ·
  rw [leaf_none hg (.inl hs)]
  exact walkP_leaf v d p pb w (.inl ⟨_, hv⟩) hp hp0 (by omega)
 ·
  rw [leaf_none hg (.inr (.inl hs))]
  exact walkP_leaf v d p pb w (.inr (.inl ⟨_, hv⟩)) hp hp0 (by omega)
 ·
  rw [leaf_none hg (.inr (.inr hs))]
  exact walkP_leaf v d p pb w (.inr (.inr ⟨_, hv⟩)) hp hp0 (by omega)
 · rw [hcn]; exact walkP_row n hn S (Nd.kids t) kv v d p pb w hk hB hp hg'.2 hc' hp0 (by omega) hd1 hg'.1.1 (.inl hv)
 ·
  obtain ⟨na, nc, rfl, -⟩ := id hnm
  rw [hcn]; exact walkP_row n hn S (Nd.kids t) kv v d p pb w hk hB hp hg'.2 hc' hp0 (by omega) hd1 hg'.1.1 (.inr (.inr ⟨_, _, _, hv⟩))
 · rw [hcn]; exact walkP_row n hn S (Nd.kids t) kv v d p pb w hk hB hp hg'.2 hc' hp0 (by omega) hd1 hg'.1.1 (.inr (.inl hv))

theorem walkP_any : ∀ n, WalkPSaid n := by
 intro n
 induction n with
 | zero => intro S t v d p pb w h; exact h.elim
 | succ n ih => exact walkP_step n ih

set_option maxRecDepth 100000 in
set_option maxHeartbeats 400000 in
theorem partsOf_any (n : Nat) (S : Nat → Prop) (t : T n) (v : Value) (w : World) (h : InnerT S w n t v) (hB : ∀ b, S b → b < w.heap.size) (hg : goodT n t 1 = true) (hc : cntT n t ≤ 120) :
  Calls Tryz.prog 43 #[v] w fun e w' => e = .returned (.int .i64 (cntT n t)) ∧ Below w.heap.size w w' := by
 have hmf : ∀ (fn : Fn) (first cap : Array Value) (w : World), (Instr.makeFunc fn first cap).run Tryz.prog w = .ok (.func fn first cap) w := fun _ _ _ _ => rfl
 obtain ⟨ku, kx, rfl⟩ := h.iface
 have hb0 := (Below.refl w.heap.size w).alloc (Nat.le_refl _) (.cells #[.int .i64 0] 3)
 have h' := h.keep (same_below hb0 hB) (fun _ h => h)
 have HC : Hid (Calls Tryz.prog 86 _ _ _) := walkP_any n S t _ 1 0 w.heap.size _ h' (fun b hb => by have := hB b hb; simp; omega) (Prt.new w 0) hg hc (by omega) (by omega) (by omega)
 unfold clP at HC
 clear h h' hg hc
 go_enter Tryz.func43, Tryz.ntmps43
 go_wp2_with fail
 refine HC.out.mono ?_
 rintro e w1 ⟨rfl, hn1, hp1⟩
 have hb1 : Below w.heap.size w w1 := hb0.trans (hn1.below (Nat.le_refl _) (by simp))
 rw [Int.zero_add] at hp1
 have c0 := hp1.cell
 clear hp1 hn1 hb0 HC
 go_wp2_with fail
 go_ret
 exact ⟨rfl, hb1⟩

set_option maxRecDepth 100000 in
set_option maxHeartbeats 400000 in
theorem implParts_any (n : Nat) (S : Nat → Prop) (t : T n) (c0 c1 c2 c3 c4 : Value) (w : World) (ht : TreeIn S w n t c0 c1 c2 c3 c4) (hB : ∀ b, S b → b < w.heap.size) :
  Calls Tryz.prog 12 #[.agg #[c0, c1, c2, c3, c4]] w fun e w' => e = .returned (.int .i64 (cntF n t)) ∧ Below w.heap.size w w' := by
 obtain ⟨x0, x1, x2, xa, xl, xc, ya, yl, yc, rfl, rfl, rfl, rfl, rfl⟩ := ht.shape
 have hb0 := (Below.refl w.heap.size w).alloc (Nat.le_refl _) (.cells #[.int .i64 x0, .int .i64 x1, .string x2, .slice xa xl xc, .slice ya yl yc] 29)
 obtain ⟨ht0, hB0⟩ := ht.step hB hb0
 clear ht
 go_enter Tryz.func12, Tryz.ntmps12
 go_wp2_with fail
 refine (innerTree_any n S t _ _ _ _ _ _ ht0 hB0).mono ?_
 rintro e w1 ⟨hb, ⟨hok, v, rfl, hin⟩ | ⟨hok, rfl⟩⟩
 ·
  have hbw := below_step hb0 (by simp) hb
  have hz1 := hb.size
  simp at hz1
  obtain ⟨ku, kx, rfl⟩ := id hin.iface
  have HT : Hid (cntF n t = (cntT n t : Int)) := by show _ = _; rw [cntF, if_pos hok]
  simp only [okT, Bool.and_eq_true, decide_eq_true_eq] at hok
  have HC : Hid (Calls Tryz.prog 43 _ _ _) := partsOf_any n _ t _ w1 hin (fun b hb => hb.elim (fun h => by have := hB b h; omega) (fun h => h.2)) hok.1 hok.2
  clear hb hok hin hb0 ht0
  go_wp2_with fail
  refine HC.out.mono ?_
  rintro e w2 ⟨rfl, hb2⟩
  have hbw2 := below_step hbw hbw.size hb2
  clear hb2 HC
  go_wp2_with fail
  go_ret
  exact ⟨ret_int HT.out.symm, hbw2⟩
 ·
  have HP : Hid (cntF n t = 0 ∧ Below w.heap.size w w1) := ⟨by rw [cntF, if_neg (by rw [hok]; simp)], below_step hb0 (by simp) hb⟩
  clear hb hok hb0 ht0
  go_wp2_with fail
  go_ret
  exact ⟨ret_int HP.out.1.symm, HP.out.2⟩

end Go.Proofs.YtpalkdcgbbbmeaaGreatDoor
