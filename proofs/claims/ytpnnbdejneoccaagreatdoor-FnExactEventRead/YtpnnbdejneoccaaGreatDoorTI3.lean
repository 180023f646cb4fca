/-
  The program's reader of trees: lists and forms.
-/
import Derived.Test.YtpnnbdejneoccaaGreatDoorB20
import Derived.Lib.Hide
import Derived.WalkSmall
import Derived.LoopTactic
namespace Go.Proofs.YtpnnbdejneoccaaGreatDoor
open Go.RowKit

theorem Tryz.info_anyQ : (Tryz.prog.info? 67).map (fun i => (i.zero, i.size, i.bytes)) = some (some .nilIface, 1, 16) := by kernel_rfl

/-- What follows behind the comma of a list's part. -/
def listR {α : Type} (f : List UInt8 → Option (α × List UInt8)) (k : Nat) (acc : List α) (s1 : List UInt8) : Option (List α × List UInt8) :=
  match f s1 with
  | none => none
  | some (t, r) => listQ f k (acc ++ [t]) r

theorem listQ_end {α : Type} {f : List UInt8 → Option (α × List UInt8)} {k : Nat} {acc : List α} {s r : List UInt8} (h : eatP [93] s = some r) : listQ f (k + 1) acc s = some (acc, r) := by
  rw [listQ, h]
theorem listQ_first {α : Type} {f : List UInt8 → Option (α × List UInt8)} {k : Nat} {acc : List α} {s : List UInt8} (h : eatP [93] s = none) (h0 : acc.length = 0) : listQ f (k + 1) acc s = listR f k acc s := by
  rw [listQ, h]; simp only [h0, if_true]; rfl
theorem listQ_next {α : Type} {f : List UInt8 → Option (α × List UInt8)} {k : Nat} {acc : List α} {s s1 : List UInt8} (h : eatP [93] s = none) (h0 : ¬ acc.length = 0) (h1 : eatP [44] s = some s1) : listQ f (k + 1) acc s = listR f k acc s1 := by
  rw [listQ, h]; simp only [if_neg h0, h1]; rfl
theorem listQ_stop {α : Type} {f : List UInt8 → Option (α × List UInt8)} {k : Nat} {acc : List α} {s : List UInt8} (h : eatP [93] s = none) (h0 : ¬ acc.length = 0) (h1 : eatP [44] s = none) : listQ f (k + 1) acc s = none := by
  rw [listQ, h]; simp only [if_neg h0, h1]
theorem listR_bad {α : Type} {f : List UInt8 → Option (α × List UInt8)} {k : Nat} {acc : List α} {s : List UInt8} (h1 : f s = none) : listR f k acc s = none := by
  rw [listR, h1]
theorem listR_yes {α : Type} {f : List UInt8 → Option (α × List UInt8)} {k : Nat} {acc : List α} {s r : List UInt8} {t : α} (h1 : f s = some (t, r)) : listR f k acc s = listQ f k (acc ++ [t]) r := by
  rw [listR, h1]

/-- What the parts of a list are. -/
def listOfT (m : Nat) (s : ByteArray) (i : Nat) : Option (List (T m) × List UInt8) := listQ (parseU m) ((s.data.toList.drop (i + 1)).length + 1) [] (s.data.toList.drop (i + 1))

set_option maxRecDepth 100000 in
set_option maxHeartbeats 4000000 in
theorem listI_any (m : Nat) (hm : TRSaid m) (B R : Nat) (s : ByteArray) (i : Nat) (w : World) (hL : LaidU B w) (hBR : B ≤ R) (h : Sc w R s i) (hMe : Meth w R) (hi : i ≤ s.size) (hs : s.size ≤ 10000) (hlt : s.size - i ≤ m) (hc : (s.data.toList.drop i).headD 0 = 91) :
    Calls Tryz.prog 32 #[.pointer (some ⟨R, 0, none⟩)] w (TRPost R s i (m + 1) w) := by
  have HW : Hid (Calls Tryz.prog 36 #[.pointer (some ⟨R, 0, none⟩), .string ⟨#[91]⟩] w _) := want_any w R s ⟨#[91]⟩ i h hs (by decide) hi
  have hR := h.lt
  have HM : Hid (TRSaid m ∧ LaidU B w ∧ Meth w R) := ⟨hm, hL, hMe⟩
  have HSc0 : Hid (Sc w R s i) := h
  have HPu : Hid ((listOfT m s i = none → parseU (m + 1) (s.data.toList.drop i) = none) ∧ (∀ ks r, listOfT m s i = some (ks, r) → parseU (m + 1) (s.data.toList.drop i) = some ((⟨4, 0, ByteArray.empty, [], ks⟩ : Nd (T m)), r))) := by
    have := pu_list (m := m) hc
    rw [List.drop_drop] at this
    exact this
  have HE : Hid (eatP [91] (s.data.toList.drop i) = some ((s.data.toList.drop i).drop 1)) := head_eat hc (by decide)
  clear h hm hL hMe hc
  go_enter Tryz.func32, Tryz.ntmps32
  go_wp2_with fail
  refine HW.out.mono ?_
  rintro e w1 (⟨h1, rfl, h2, h3⟩ | ⟨h1, rfl, h2⟩)
  case inr =>
    have h1 : eatP [91] (s.data.toList.drop i) = none := h1
    rw [HE.out] at h1; cases h1
  have h2 : Scan R w w1 (i + 1) := h2
  have h3 : i + 1 ≤ s.size := h3
  clear h1 HW
  go_wp2_with fail
  go_loopw [3] (fun kv wr => ∃ (ks : List (T m)) (j fuel ln : Nat) (ka : Option Addr) (kc : Nat), ks.length = ln ∧ ln ≤ j ∧ kv = .slice ka ln kc ∧ RTree R m w wr [] ks (.slice none 0 0) (.slice ka ln kc) ∧ Scan R w wr j ∧ i < j ∧ j ≤ s.size ∧
      listQ (parseU m) (fuel + 1) ks (s.data.toList.drop j) = listOfT m s i ∧ s.size - j ≤ fuel) (fun _ wr => s.size - atS wr R)
  case atStart => exact ⟨[], i + 1, (s.data.toList.drop (i + 1)).length, 0, none, 0, rfl, by omega, rfl, RTree.start R m w w1 h2.near, h2, by omega, h3, rfl, by simp⟩
  case round =>
    obtain ⟨ks, j, fuel, ln, ka, kc, hkl, hlj, rfl, hF, hS, hij, hj, hG, hfu⟩ := hrel
    have HN : Hid (ks.length = ln) := hkl
    have HF : Hid (RTree R m w wr [] ks (.slice none 0 0) (.slice ka ln kc)) := hF
    have HS : Hid (Scan R w wr j) := hS
    have HG : Hid (listQ (parseU m) (fuel + 1) ks (s.data.toList.drop j) = listOfT m s i) := hG
    have HA : Hid (atS wr R = j) := hS.atS
    have HC : Hid (Calls Tryz.prog 54 #[.pointer (some ⟨R, 0, none⟩), .string ⟨#[93]⟩] wr _) := skip_any wr R s ⟨#[93]⟩ j (hS.sc HSc0.out) hs (by decide) hj
    clear hkl hF hS hG h2 h3
    go_wp2_with fail
    refine HC.out.mono ?_
    rintro e w1 (⟨p1, rfl, p2, p3⟩ | ⟨p1, rfl, p2⟩)
    · have HP : Hid (TRPost R s i (m + 1) w (.returned (.iface 83 (.slice ka ln kc))) w1) := by
        have p2 : Scan R wr w1 (j + 1) := p2
        have p3 : j + 1 ≤ s.size := p3
        have hF1 := HF.out.keep hR p2.near
        obtain ⟨-, r2⟩ := hF1.rows (by simp) (by rw [HN.out]; omega)
        exact .inl ⟨_, j + 1, _, HPu.out.2 ks _ (by rw [← HG.out]; exact listQ_end p1), by omega, p3, rfl, .inr (.inr (.inr (.inl ⟨rfl, _, rfl, r2⟩))), HS.out.trans p2⟩
      clear p1 p2 p3 HC HF HS HG
      go_wp2_with fail
      go_ret
      exact HP.out
    · have p1 : eatP [93] (s.data.toList.drop j) = none := p1
      have HF0 : Hid (RTree R m w w1 [] ks (.slice none 0 0) (.slice ka ln kc)) := HF.out.keep hR p2.near
      have hS0 : Hid (Scan R w w1 j) := HS.out.trans p2
      clear HF HS HC p2
      have HNo : Hid (∀ W, listOfT m s i = none → Near R w W → TRPost R s i (m + 1) w (.panicked refusal) W) := fun W h1 h2 => .inr ⟨HPu.out.1 h1, rfl, h2⟩
      rcases Nat.eq_zero_or_pos ln with h0 | h0
      case' inl =>
        obtain ⟨j1, hj1⟩ : ∃ j1, j1 = j := ⟨_, rfl⟩
        have HQ : Hid (listR (parseU m) fuel ks (s.data.toList.drop j1) = listOfT m s i) := by
          show _ = _
          rw [hj1, ← HG.out]; exact (listQ_first p1 (by rw [HN.out]; exact h0)).symm
        have HS1 : Hid (Scan R w w1 j1) := by rw [hj1]; exact hS0
        have hj1s : j1 ≤ s.size := by omega
        have hjj : j ≤ j1 := by omega
        have hd : (0 < ln) = False := eq_false (by omega)
        clear h0 hS0 HG hj1 p1
        go_wp2_with fail
        clear hd
      case' inr =>
        have HC : Hid (Calls Tryz.prog 36 #[.pointer (some ⟨R, 0, none⟩), .string ⟨#[44]⟩] w1 _) := want_any w1 R s ⟨#[44]⟩ j (hS0.out.sc HSc0.out) hs (by decide) hj
        have hd : 0 < ln := h0
        go_wp2_with fail
        refine HC.out.mono ?_
        rintro e w1 (⟨q1, rfl, q2, q3⟩ | ⟨q1, rfl, q2⟩)
        case inr =>
          refine ⟨rfl, HNo.out w1 ?_ (hS0.out.near.trans q2)⟩
          rw [← HG.out]; exact listQ_stop p1 (by rw [HN.out]; omega) q1
        obtain ⟨j1, hj1⟩ : ∃ j1, j1 = j + 1 := ⟨_, rfl⟩
        have q2 : Scan R _ w1 (j + 1) := q2
        have q3 : j + 1 ≤ s.size := q3
        have HQ : Hid (listR (parseU m) fuel ks (s.data.toList.drop j1) = listOfT m s i) := by
          show _ = _
          rw [hj1, ← HG.out]; exact (listQ_next p1 (by rw [HN.out]; omega) q1).symm
        have HS1 : Hid (Scan R w w1 j1) := by rw [hj1]; exact hS0.out.trans q2
        have hj1s : j1 ≤ s.size := by omega
        have hjj : j ≤ j1 := by omega
        have HF1 := HF0.out.keep hR q2.near
        clear HF0
        have HF0 : Hid (RTree R m w w1 [] ks (.slice none 0 0) (.slice ka ln kc)) := HF1
        clear HF1 hS0 HG hj1 p1 q1 q2 q3 h0 HC
        go_wp2_with fail
        clear hd
      all_goals
        have HK : Hid (Calls Tryz.prog 56 #[.pointer (some ⟨R, 0, none⟩)] w1 (TRPost R s j1 m w1)) := HM.out.1 B R s _ w1 (HM.out.2.1.near HS1.out.near hBR hR) hBR (HS1.out.sc HSc0.out) (HM.out.2.2.scan HS1.out) hj1s hs (by omega)
        obtain ⟨xs, hxs4, hkk⟩ := HF0.out.kids
        have HKK : Hid (∀ q (h : q < ks.length), _) := hkk
        have HOK : Hid (w1.ownsRow w.heap.size 67 1 (.slice ka ln kc) ln xs) := by
          rw [HN.out] at hxs4; exact hxs4
        clear hxs4 hkk
        refine HK.out.mono ?_
        rintro e w5 (⟨t, q, c, y1, y2, y3, rfl, y4, y5⟩ | ⟨y1, rfl, y2⟩)
        case inr => exact ⟨rfl, HNo.out w5 (by rw [← HQ.out]; exact listR_bad y1) (HS1.out.near.trans y2)⟩
        obtain ⟨zt, zx, rfl⟩ := id y4.iface
        have hz5 := y5.near.size
        have hz4 := HF0.out.near.size
        have HO5 : Hid (w5.ownsRow w.heap.size 67 1 (.slice ka ln kc) ln xs) := r1_keep HOK.out (fun g' hg' => by
          have := r1_lt HOK.out g' hg'
          exact y5.near.block g' this.2 (by omega))
        have HY : Hid (InnerT (fun b => w1.heap.size ≤ b ∧ b < w5.heap.size) w5 m t (.iface zt zx) ∧ Scan R w1 w5 q) := ⟨y4, y5⟩
        have HG6 : Hid (listQ (parseU m) fuel (ks ++ [t]) (s.data.toList.drop q) = listOfT m s i) := by
          show _ = _
          rw [← HQ.out]
          exact (listR_yes y1).symm
        obtain ⟨ik0, hi0, hy0, hy1, hyb⟩ := info_parts Tryz.info_anyQ
        have HIK : Hid (_ ∧ _ ∧ _ ∧ _) := ⟨hi0, hy0, hy1, hyb⟩
        clear hi0 hy0 hy1 hyb y1 y4 y5 HK HQ
        go_wp2_with (at_builtin; refine wpList_append_lies _ rfl (.tmp 20) (.tmp 23) 83 rfl w.heap.size 67 ik0 _ 1 16 Tryz.underlying83 HIK.out.1 HIK.out.2.1 HIK.out.2.2.1 HIK.out.2.2.2 rfl (by decide) (.slice ka ln kc) ln xs rfl (HO5.out.alloc _) ⟨w5.heap.size, 0, none⟩ 1 1 [.iface zt zx] rfl rfl (World.news_of_block (heap_alloc_new w5 _)) (by simp [Value.oneCell']) (by decide) (by unfold maxLen; omega) (by omega) (by simp; omega) (w5.heap.size + 1) (by simp) ?_; intro g2 cap2 w6 hown6 hgrow6 hat6 hlt6; refine Hid.out ?_)
        refine Lib.hid ?_
        obtain ⟨hF6, hb6, hz6⟩ := HF0.out.kid (W1 := w5) (Wa := w5.alloc (.cells #[.iface zt zx] 67)) (one := .cells #[.iface zt zx] 67) (g := g2) (cap := cap2) hR HY.out.2.near HY.out.1 rfl ⟨rfl, rfl, rfl⟩ (by rw [HN.out]; exact HOK.out) HKK.out (by rw [HN.out]; exact hown6) hgrow6 hat6
        rw [HN.out] at hF6
        have HF6 : Hid (RTree R m w w6 [] (ks ++ [t]) (.slice none 0 0) (.slice (some ⟨g2, 0, none⟩) (ln + 1) cap2)) := hF6
        have HS6 : Hid (Scan R w w6 q) := (HS1.out.trans HY.out.2).same hF6.near (hb6 R hR)
        obtain ⟨f', rfl⟩ : ∃ f', fuel = f' + 1 := ⟨fuel - 1, by omega⟩
        clear hF6 hb6 hz6 hown6 hgrow6 hat6 hlt6 HO5 HOK HKK HF0 HS1 HY
        go_wp2_with fail
        go_roundw
        case rel => exact ⟨ks ++ [t], q, f', ln + 1, some ⟨g2, 0, none⟩, cap2, by simp [HN.out], by omega, rfl, HF6.out, HS6.out, by omega, y3, HG6.out, by omega⟩
        case measure => rw [HS6.out.atS, HA.out]; omega

/-- What the parts of a form are. -/
def formOfT (m : Nat) (s : ByteArray) (i : Nat) : Option (List ByteArray × List (T m) × List UInt8) := formQ (parseU m) ((s.data.toList.drop (i + 1)).length + 1) [] [] (s.data.toList.drop (i + 1))

/-- What the reader of a form makes. -/
def FTPost (R : Nat) (s : ByteArray) (i m : Nat) (w : World) (e : Ending) (w' : World) : Prop :=
  (∃ (ns : List ByteArray) (ks : List (T m)) (q : Nat) (na : Option Addr) (nc : Nat) (ka : Option Addr) (kc ln : Nat), eatP [123] (s.data.toList.drop i) = some (s.data.toList.drop (i + 1)) ∧ formOfT m s i = some (ns, ks, s.data.toList.drop q) ∧ i < q ∧ q ≤ s.size ∧ ln ≤ 10000 ∧
    e = .returned (.tuple #[.slice na ln nc, .slice ka ln kc]) ∧ StrsIn (fun b => w.heap.size ≤ b ∧ b < w'.heap.size) w' ns (.slice na ln nc) ∧
    Row1 (fun b => w.heap.size ≤ b ∧ b < w'.heap.size) w' (InnerT (fun b => w.heap.size ≤ b ∧ b < w'.heap.size) w' m) ks (.slice ka ln kc) ∧ Scan R w w' q) ∨
    ((eatP [123] (s.data.toList.drop i) = none ∨ (eatP [123] (s.data.toList.drop i) = some (s.data.toList.drop (i + 1)) ∧ formOfT m s i = none)) ∧ e = .panicked refusal ∧ Near R w w')

set_option maxRecDepth 100000 in
set_option maxHeartbeats 4000000 in
theorem readFormT_any (m : Nat) (hm : TRSaid m) (B R : Nat) (s : ByteArray) (i : Nat) (w : World) (hL : LaidU B w) (hBR : B ≤ R) (h : Sc w R s i) (hMe : Meth w R) (hi : i ≤ s.size) (hs : s.size ≤ 10000) (hlt : s.size - i ≤ m) :
    Calls Tryz.prog 57 #[.pointer (some ⟨R, 0, none⟩), .func (.func 56) #[.pointer (some ⟨R, 0, none⟩)] #[]] w (FTPost R s i m w) := by
  have HW : Hid (Calls Tryz.prog 36 #[.pointer (some ⟨R, 0, none⟩), .string ⟨#[123]⟩] w _) := want_any w R s ⟨#[123]⟩ i h hs (by decide) hi
  have hR := h.lt
  have HM : Hid (TRSaid m ∧ LaidU B w ∧ Meth w R) := ⟨hm, hL, hMe⟩
  have HSc0 : Hid (Sc w R s i) := h
  clear h hm hL hMe
  go_enter Tryz.func57, Tryz.ntmps57
  go_wp2_with fail
  refine HW.out.mono ?_
  rintro e w1 (⟨h1, rfl, h2, h3⟩ | ⟨h1, rfl, h2⟩)
  case inr => exact ⟨rfl, .inr ⟨.inl h1, rfl, h2⟩⟩
  have HE : Hid (eatP [123] (s.data.toList.drop i) = some (s.data.toList.drop (i + 1))) := h1
  have h2 : Scan R w w1 (i + 1) := h2
  have h3 : i + 1 ≤ s.size := h3
  clear h1 HW
  go_wp2_with fail
  go_loopw [4, 5] (fun nv kv wr => ∃ (ns : List ByteArray) (ks : List (T m)) (j fuel ln : Nat) (na : Option Addr) (nc : Nat) (ka : Option Addr) (kc : Nat), ns.length = ln ∧ ks.length = ln ∧ ln ≤ j ∧ nv = .slice na ln nc ∧ kv = .slice ka ln kc ∧ RTree R m w wr ns ks (.slice na ln nc) (.slice ka ln kc) ∧ Scan R w wr j ∧ i < j ∧ j ≤ s.size ∧
      formQ (parseU m) (fuel + 1) ns ks (s.data.toList.drop j) = formOfT m s i ∧ s.size - j ≤ fuel) (fun _ _ wr => s.size - atS wr R)
  case atStart => exact ⟨[], [], i + 1, (s.data.toList.drop (i + 1)).length, 0, none, 0, none, 0, rfl, rfl, by omega, rfl, rfl, RTree.start R m w w1 h2.near, h2, by omega, h3, rfl, by simp⟩
  case round =>
    obtain ⟨ns, ks, j, fuel, ln, na, nc, ka, kc, hnl, hkl, hlj, rfl, rfl, hF, hS, hij, hj, hG, hfu⟩ := hrel
    have HN : Hid (ns.length = ln ∧ ks.length = ln) := ⟨hnl, hkl⟩
    have HF : Hid (RTree R m w wr ns ks (.slice na ln nc) (.slice ka ln kc)) := hF
    have HS : Hid (Scan R w wr j) := hS
    have HG : Hid (formQ (parseU m) (fuel + 1) ns ks (s.data.toList.drop j) = formOfT m s i) := hG
    have HA : Hid (atS wr R = j) := hS.atS
    have HC : Hid (Calls Tryz.prog 54 #[.pointer (some ⟨R, 0, none⟩), .string ⟨#[125]⟩] wr _) := skip_any wr R s ⟨#[125]⟩ j (hS.sc HSc0.out) hs (by decide) hj
    clear hnl hkl hF hS hG h2 h3
    go_wp2_with fail
    refine HC.out.mono ?_
    rintro e w1 (⟨p1, rfl, p2, p3⟩ | ⟨p1, rfl, p2⟩)
    · have HP : Hid (FTPost R s i m w (.returned (.tuple #[.slice na ln nc, .slice ka ln kc])) w1) := by
        have p2 : Scan R wr w1 (j + 1) := p2
        have p3 : j + 1 ≤ s.size := p3
        have hF1 := HF.out.keep hR p2.near
        obtain ⟨r1, r2⟩ := hF1.rows (by rw [HN.out.1]; omega) (by rw [HN.out.2]; omega)
        exact .inl ⟨ns, ks, j + 1, na, nc, ka, kc, ln, HE.out, by rw [← HG.out]; exact formQ_end p1, by omega, p3, by omega, rfl, r1, r2, HS.out.trans p2⟩
      clear p1 p2 p3 HC HF HS HG
      go_wp2_with fail
      go_ret2
      exact HP.out
    · have p1 : eatP [125] (s.data.toList.drop j) = none := p1
      have HF0 : Hid (RTree R m w w1 ns ks (.slice na ln nc) (.slice ka ln kc)) := HF.out.keep hR p2.near
      have hS0 : Hid (Scan R w w1 j) := HS.out.trans p2
      clear HF HS HC p2
      have HNo : Hid (∀ W, formOfT m s i = none → Near R w W → FTPost R s i m w (.panicked refusal) W) := fun W h1 h2 => .inr ⟨.inr ⟨HE.out, h1⟩, rfl, h2⟩
      rcases Nat.eq_zero_or_pos ln with h0 | h0
      case' inl =>
        obtain ⟨j1, hj1⟩ : ∃ j1, j1 = j := ⟨_, rfl⟩
        have HQ : Hid (formR (parseU m) fuel ns ks (s.data.toList.drop j1) = formOfT m s i) := by
          show _ = _
          rw [hj1, ← HG.out]; exact (formQ_first p1 (by rw [HN.out.1]; exact h0)).symm
        have HS1 : Hid (Scan R w w1 j1) := by rw [hj1]; exact hS0
        have hj1s : j1 ≤ s.size := by omega
        have hjj : j ≤ j1 := by omega
        have hd : (0 < ln) = False := eq_false (by omega)
        clear h0 hS0 HG hj1 p1
        go_wp2_with fail
        clear hd
      case' inr =>
        have HC : Hid (Calls Tryz.prog 36 #[.pointer (some ⟨R, 0, none⟩), .string ⟨#[44]⟩] w1 _) := want_any w1 R s ⟨#[44]⟩ j (hS0.out.sc HSc0.out) hs (by decide) hj
        have hd : 0 < ln := h0
        go_wp2_with fail
        refine HC.out.mono ?_
        rintro e w1 (⟨q1, rfl, q2, q3⟩ | ⟨q1, rfl, q2⟩)
        case inr =>
          refine ⟨rfl, HNo.out w1 ?_ (hS0.out.near.trans q2)⟩
          rw [← HG.out]; exact formQ_stop p1 (by rw [HN.out.1]; omega) q1
        obtain ⟨j1, hj1⟩ : ∃ j1, j1 = j + 1 := ⟨_, rfl⟩
        have q2 : Scan R _ w1 (j + 1) := q2
        have q3 : j + 1 ≤ s.size := q3
        have HQ : Hid (formR (parseU m) fuel ns ks (s.data.toList.drop j1) = formOfT m s i) := by
          show _ = _
          rw [hj1, ← HG.out]; exact (formQ_next p1 (by rw [HN.out.1]; omega) q1).symm
        have HS1 : Hid (Scan R w w1 j1) := by rw [hj1]; exact hS0.out.trans q2
        have hj1s : j1 ≤ s.size := by omega
        have hjj : j ≤ j1 := by omega
        have HF1 := HF0.out.keep hR q2.near
        clear HF0
        have HF0 : Hid (RTree R m w w1 ns ks (.slice na ln nc) (.slice ka ln kc)) := HF1
        clear HF1 hS0 HG hj1 p1 q1 q2 q3 h0 HC
        go_wp2_with fail
        clear hd
      all_goals
        have HU : Hid (Calls Tryz.prog 38 #[.pointer (some ⟨R, 0, none⟩), .int .u8 58] w1 (UntilPost 58 w1 R s j1)) := until_any 58 w1 R s j1 (HS1.out.sc HSc0.out) hs hj1s
        refine HU.out.mono ?_
        rintro e w2 (⟨x, u1, rfl, u2, u3⟩ | ⟨u1, rfl, u2⟩)
        case inr => exact ⟨rfl, HNo.out w2 (by rw [← HQ.out]; exact formR_no u1) (HS1.out.near.trans u2)⟩
        have u2 : Scan R w1 w2 (j1 + x.length) := u2
        have hxs : (bs x).size ≤ 10000 := by rw [bs_size]; omega
        have HF2 : Hid (RTree R m w w2 ns ks (.slice na ln nc) (.slice ka ln kc)) := HF0.out.keep hR u2.near
        have HS2 : Hid (Scan R w w2 (j1 + x.length)) := HS1.out.trans u2
        have HU1 : Hid (untilP 58 (s.data.toList.drop j1) = some (x, s.data.toList.drop (j1 + x.length))) := u1
        have HO : Hid (w2.ownsRow w.heap.size 9 1 (.slice na ln nc) ln (ns.map .string)) := by
          have := HF2.out.names
          rw [HN.out.1] at this; exact this
        have hz2 := HF2.out.near.size
        obtain ⟨is0, hi0, hy0, hy1, hyb⟩ := info_parts Tryz.info_strQ
        have HIS : Hid (_ ∧ _ ∧ _ ∧ _) := ⟨hi0, hy0, hy1, hyb⟩
        clear hi0 hy0 hy1 hyb u1 u2 HF0 HS1 HU
        go_wp2_with (at_builtin; refine wpList_append_lies _ rfl (.tmp 16) (.tmp 19) 22 rfl w.heap.size 9 is0 _ 1 16 Tryz.underlying22 HIS.out.1 HIS.out.2.1 HIS.out.2.2.1 HIS.out.2.2.2 rfl (by decide) (.slice na ln nc) ln (ns.map .string) rfl (HO.out.alloc _) ⟨w2.heap.size, 0, none⟩ 1 1 [.string (bs x)] rfl rfl (World.news_of_block (heap_alloc_new w2 _)) (by simp [Value.oneCell']) (by decide) (by unfold maxLen; omega) (by omega) (by simp; omega) (w2.heap.size + 1) (by simp) ?_; intro g cap w3 hown3 hgrow3 hat3 hlt3; refine Hid.out ?_)
        refine Lib.hid ?_
        obtain ⟨hF3, hb3, hz3⟩ := HF2.out.name (Wa := w2.alloc (.cells #[.string (bs x)] 9)) (one := .cells #[.string (bs x)] 9) (x := bs x) (g := g) (cap := cap) rfl ⟨rfl, rfl, rfl⟩ hxs (by rw [HN.out.1]; exact hown3) hgrow3 hat3
        rw [HN.out.1] at hF3
        have HF3 : Hid (RTree R m w w3 (ns ++ [bs x]) ks (.slice (some ⟨g, 0, none⟩) (ln + 1) cap) (.slice ka ln kc)) := hF3
        have HS3 : Hid (Scan R w w3 (j1 + x.length)) := HS2.out.same hF3.near (hb3 R hR)
        have HW3 : Hid (Calls Tryz.prog 36 #[.pointer (some ⟨R, 0, none⟩), .string ⟨#[58]⟩] w3 _) := want_any w3 R s ⟨#[58]⟩ (j1 + x.length) (HS3.out.sc HSc0.out) hs (by decide) (by omega)
        clear hF3 hb3 hz3 hown3 hgrow3 hat3 hlt3 HO HF2 HS2
        go_wp2_with fail
        refine HW3.out.mono ?_
        rintro e w4 (⟨v1, rfl, v2, v3⟩ | ⟨v1, rfl, v2⟩)
        case inr =>
          have v1 : eatP [58] (s.data.toList.drop (j1 + x.length)) = none := v1
          obtain ⟨r', e1, -⟩ := untilP_some HU1.out
          rw [e1, eatP_one_cons] at v1
          cases v1
        have v2 : Scan R w3 w4 (j1 + x.length + 1) := v2
        have v3 : j1 + x.length + 1 ≤ s.size := v3
        have hF4 := HF3.out.keep hR v2.near
        have HF4 : Hid (RTree R m w w4 (ns ++ [bs x]) ks (.slice (some ⟨g, 0, none⟩) (ln + 1) cap) (.slice ka ln kc)) := hF4
        have HS4 : Hid (Scan R w w4 (j1 + x.length + 1)) := HS3.out.trans v2
        have HK : Hid (Calls Tryz.prog 56 #[.pointer (some ⟨R, 0, none⟩)] w4 (TRPost R s (j1 + x.length + 1) m w4)) := HM.out.1 B R s _ w4 (HM.out.2.1.near HS4.out.near hBR hR) hBR (HS4.out.sc HSc0.out) (HM.out.2.2.scan HS4.out) v3 hs (by omega)
        obtain ⟨xs, hxs4, hkk⟩ := hF4.kids
        have HKK : Hid (∀ q (h : q < ks.length), _) := hkk
        have HOK : Hid (w4.ownsRow w.heap.size 67 1 (.slice ka ln kc) ln xs) := by
          rw [HN.out.2] at hxs4; exact hxs4
        clear v1 v2 hF4 hxs4 hkk HF3 HS3 HW3
        go_wp2_with fail
        refine HK.out.mono ?_
        rintro e w5 (⟨t, q, c, y1, y2, y3, rfl, y4, y5⟩ | ⟨y1, rfl, y2⟩)
        case inr =>
          refine ⟨rfl, HNo.out w5 ?_ (HS4.out.near.trans y2)⟩
          rw [← HQ.out]
          refine formR_bad HU1.out ?_
          rw [List.drop_drop]; exact y1
        obtain ⟨zt, zx, rfl⟩ := id y4.iface
        have hz5 := y5.near.size
        have hz4 := HF4.out.near.size
        have HO5 : Hid (w5.ownsRow w.heap.size 67 1 (.slice ka ln kc) ln xs) := r1_keep HOK.out (fun g' hg' => by
          have := r1_lt HOK.out g' hg'
          exact y5.near.block g' this.2 (by omega))
        have HY : Hid (InnerT (fun b => w4.heap.size ≤ b ∧ b < w5.heap.size) w5 m t (.iface zt zx) ∧ Scan R w4 w5 q) := ⟨y4, y5⟩
        have HG6 : Hid (formQ (parseU m) fuel (ns ++ [bs x]) (ks ++ [t]) (s.data.toList.drop q) = formOfT m s i) := by
          show _ = _
          rw [← HQ.out]
          refine (formR_yes HU1.out ?_).symm
          rw [List.drop_drop]; exact y1
        obtain ⟨ik0, hi0, hy0, hy1, hyb⟩ := info_parts Tryz.info_anyQ
        have HIK : Hid (_ ∧ _ ∧ _ ∧ _) := ⟨hi0, hy0, hy1, hyb⟩
        clear hi0 hy0 hy1 hyb y1 y4 y5 HK HQ HU1
        go_wp2_with (at_builtin; refine wpList_append_lies _ rfl (.tmp 23) (.tmp 26) 80 rfl w.heap.size 67 ik0 _ 1 16 Tryz.underlying80 HIK.out.1 HIK.out.2.1 HIK.out.2.2.1 HIK.out.2.2.2 rfl (by decide) (.slice ka ln kc) ln xs rfl (HO5.out.alloc _) ⟨w5.heap.size, 0, none⟩ 1 1 [.iface zt zx] rfl rfl (World.news_of_block (heap_alloc_new w5 _)) (by simp [Value.oneCell']) (by decide) (by unfold maxLen; omega) (by omega) (by simp; omega) (w5.heap.size + 1) (by simp) ?_; intro g2 cap2 w6 hown6 hgrow6 hat6 hlt6; refine Hid.out ?_)
        refine Lib.hid ?_
        obtain ⟨hF6, hb6, hz6⟩ := HF4.out.kid (W1 := w5) (Wa := w5.alloc (.cells #[.iface zt zx] 67)) (one := .cells #[.iface zt zx] 67) (g := g2) (cap := cap2) hR HY.out.2.near HY.out.1 rfl ⟨rfl, rfl, rfl⟩ (by rw [HN.out.2]; exact HOK.out) HKK.out (by rw [HN.out.2]; exact hown6) hgrow6 hat6
        rw [HN.out.2] at hF6
        have HF6 : Hid (RTree R m w w6 (ns ++ [bs x]) (ks ++ [t]) (.slice (some ⟨g, 0, none⟩) (ln + 1) cap) (.slice (some ⟨g2, 0, none⟩) (ln + 1) cap2)) := hF6
        have HS6 : Hid (Scan R w w6 q) := (HS4.out.trans HY.out.2).same hF6.near (hb6 R hR)
        obtain ⟨f', rfl⟩ : ∃ f', fuel = f' + 1 := ⟨fuel - 1, by omega⟩
        clear hF6 hb6 hz6 hown6 hgrow6 hat6 hlt6 HO5 HOK HKK HF4 HS4 HY
        go_wp2_with fail
        go_roundw
        case rel => exact ⟨ns ++ [bs x], ks ++ [t], q, f', ln + 1, some ⟨g, 0, none⟩, cap, some ⟨g2, 0, none⟩, cap2, by simp [HN.out.1], by simp [HN.out.2], by omega, rfl, rfl, HF6.out, HS6.out, by omega, y3, HG6.out, by omega⟩
        case measure => rw [HS6.out.atS, HA.out]; omega


set_option maxRecDepth 100000 in
set_option maxHeartbeats 1000000 in
theorem formI_any (m : Nat) (hm : TRSaid m) (B R : Nat) (s : ByteArray) (i : Nat) (w : World) (hL : LaidU B w) (hBR : B ≤ R) (h : Sc w R s i) (hMe : Meth w R) (hi : i ≤ s.size) (hs : s.size ≤ 10000) (hlt : s.size - i ≤ m) (hc : (s.data.toList.drop i).headD 0 = 123) :
    Calls Tryz.prog 33 #[.pointer (some ⟨R, 0, none⟩)] w (TRPost R s i (m + 1) w) := by
  have HPu : Hid ((formOfT m s i = none → parseU (m + 1) (s.data.toList.drop i) = none) ∧ (∀ ns ks r, formOfT m s i = some (ns, ks, r) → parseU (m + 1) (s.data.toList.drop i) = some ((⟨5, 0, ByteArray.empty, ns, ks⟩ : Nd (T m)), r))) := by
    have := pu_form (m := m) hc
    rw [List.drop_drop] at this
    exact this
  have HE : Hid (eatP [123] (s.data.toList.drop i) = some ((s.data.toList.drop i).drop 1)) := head_eat hc (by decide)
  have HC : Hid (Calls Tryz.prog 57 _ _ _) := readFormT_any m hm B R s i w hL hBR h hMe hi hs hlt
  have hmf : ∀ (fn : Fn) (first cap : Array Value) (w : World), (Instr.makeFunc fn first cap).run Tryz.prog w = .ok (.func fn first cap) w := fun _ _ _ _ => rfl
  clear h hm hL hMe hc
  go_enter Tryz.func33, Tryz.ntmps33
  go_wp2_with fail
  refine HC.out.mono ?_
  rintro e w1 (⟨ns, ks, q, na, nc, ka, kc, ln, -, y1, y2, y3, -, rfl, y4, y5, y6⟩ | ⟨y1, rfl, y2⟩)
  case inr =>
    refine ⟨rfl, .inr ⟨?_, rfl, y2⟩⟩
    rcases y1 with y1 | ⟨-, y1⟩
    · rw [HE.out] at y1; cases y1
    · exact HPu.out.1 y1
  have HF : Hid (TRPost R s i (m + 1) w (.returned (.iface 88 (.agg #[.slice na ln nc, .slice ka ln kc]))) w1) :=
    .inl ⟨_, q, _, HPu.out.2 ns ks _ y1, y2, y3, rfl, .inr (.inr (.inr (.inr (.inl ⟨rfl, _, _, rfl, y4, y5⟩)))), y6⟩
  clear y1 y4 y5 y6 HC
  go_wp2_with fail
  go_ret
  exact HF.out

end Go.Proofs.YtpnnbdejneoccaaGreatDoor
