/-
  Several texts in one, in their order.
-/
import Derived.Test.YtlinplghgamgbaaGreatDoorB7
import Derived.Lib.Hide
import Derived.WalkSmall
import Derived.LoopTactic

/-
  readForm of the program, at schemas.
-/
namespace Go.Proofs.YtlinplghgamgbaaGreatDoor
open Go.RowKit

/-- What follows behind the comma of a form's part. -/
def formR {α : Type} (f : List UInt8 → Option (α × List UInt8)) (k : Nat) (ns : List ByteArray) (acc : List α) (s1 : List UInt8) : Option (List ByteArray × List α × List UInt8) :=
  match untilP 58 s1 with
  | none => none
  | some (w, s2) =>
    match f (s2.drop 1) with
    | none => none
    | some (t, r) => formQ f k (ns ++ [bs w]) (acc ++ [t]) r

theorem formQ_end {α : Type} {f : List UInt8 → Option (α × List UInt8)} {k : Nat} {ns : List ByteArray} {acc : List α} {s r : List UInt8} (h : eatP [125] s = some r) : formQ f (k + 1) ns acc s = some (ns, acc, r) := by
  rw [formQ, h]
theorem formQ_first {α : Type} {f : List UInt8 → Option (α × List UInt8)} {k : Nat} {ns : List ByteArray} {acc : List α} {s : List UInt8} (h : eatP [125] s = none) (h0 : ns.length = 0) : formQ f (k + 1) ns acc s = formR f k ns acc s := by
  rw [formQ, h]; simp only [h0, if_true]; rfl
theorem formQ_next {α : Type} {f : List UInt8 → Option (α × List UInt8)} {k : Nat} {ns : List ByteArray} {acc : List α} {s s1 : List UInt8} (h : eatP [125] s = none) (h0 : ¬ ns.length = 0) (h1 : eatP [44] s = some s1) : formQ f (k + 1) ns acc s = formR f k ns acc s1 := by
  rw [formQ, h]; simp only [if_neg h0, h1]; rfl
theorem formQ_stop {α : Type} {f : List UInt8 → Option (α × List UInt8)} {k : Nat} {ns : List ByteArray} {acc : List α} {s : List UInt8} (h : eatP [125] s = none) (h0 : ¬ ns.length = 0) (h1 : eatP [44] s = none) : formQ f (k + 1) ns acc s = none := by
  rw [formQ, h]; simp only [if_neg h0, h1]
theorem formR_no {α : Type} {f : List UInt8 → Option (α × List UInt8)} {k : Nat} {ns : List ByteArray} {acc : List α} {s : List UInt8} (h : untilP 58 s = none) : formR f k ns acc s = none := by
  rw [formR, h]
theorem formR_bad {α : Type} {f : List UInt8 → Option (α × List UInt8)} {k : Nat} {ns : List ByteArray} {acc : List α} {s w s2 : List UInt8} (h : untilP 58 s = some (w, s2)) (h1 : f (s2.drop 1) = none) : formR f k ns acc s = none := by
  rw [formR, h]; simp only [h1]
theorem formR_yes {α : Type} {f : List UInt8 → Option (α × List UInt8)} {k : Nat} {ns : List ByteArray} {acc : List α} {s w s2 r : List UInt8} {t : α} (h : untilP 58 s = some (w, s2)) (h1 : f (s2.drop 1) = some (t, r)) : formR f k ns acc s = formQ f k (ns ++ [bs w]) (acc ++ [t]) r := by
  rw [formR, h]; simp only [h1]

/-- What the reader of a schema makes. -/
def KRPost (R : Nat) (s : ByteArray) (i m : Nat) (w : World) (e : Ending) (w' : World) : Prop :=
  (∃ (k : K m) (q : Nat) (c0 c1 c2 : Value), parseK m (s.data.toList.drop i) = some (k, s.data.toList.drop q) ∧ i < q ∧ q ≤ s.size ∧ e = .returned (.agg #[c0, c1, c2]) ∧ KindIn (fun b => w.heap.size ≤ b ∧ b < w'.heap.size) w' m k c0 c1 c2 ∧ Scan R w w' q) ∨
    (parseK m (s.data.toList.drop i) = none ∧ e = .panicked refusal ∧ Near R w w')

/-- The reader of schemas, of at most m levels. -/
def KRSaid (m : Nat) : Prop := ∀ (R : Nat) (s : ByteArray) (i : Nat) (w : World), Sc w R s i → i ≤ s.size → s.size ≤ 10000 → s.size - i < m →
  Calls Tryz.prog 94 #[.pointer (some ⟨R, 0, none⟩)] w (KRPost R s i m w)

/-- What the parts of a form are. -/
def formOf (m : Nat) (s : ByteArray) (i : Nat) : Option (List ByteArray × List (K m) × List UInt8) := formQ (parseK m) ((s.data.toList.drop (i + 1)).length + 1) [] [] (s.data.toList.drop (i + 1))

/-- What the reader of a form makes. -/
def FRPost (R : Nat) (s : ByteArray) (i m : Nat) (w : World) (e : Ending) (w' : World) : Prop :=
  (∃ (ns : List ByteArray) (ks : List (K m)) (q : Nat) (na : Option Addr) (nc : Nat) (ka : Option Addr) (kc ln : Nat), eatP [123] (s.data.toList.drop i) = some (s.data.toList.drop (i + 1)) ∧ formOf m s i = some (ns, ks, s.data.toList.drop q) ∧ i < q ∧ q ≤ s.size ∧ ln ≤ 10000 ∧
    e = .returned (.tuple #[.slice na ln nc, .slice ka ln kc]) ∧ StrsIn (fun b => w.heap.size ≤ b ∧ b < w'.heap.size) w' ns (.slice na ln nc) ∧
    RowIn3 (fun b => w.heap.size ≤ b ∧ b < w'.heap.size) w' (KindIn (fun b => w.heap.size ≤ b ∧ b < w'.heap.size) w' m) ks (.slice ka ln kc) ∧ Scan R w w' q) ∨
    ((eatP [123] (s.data.toList.drop i) = none ∨ (eatP [123] (s.data.toList.drop i) = some (s.data.toList.drop (i + 1)) ∧ formOf m s i = none)) ∧ e = .panicked refusal ∧ Near R w w')

theorem Scan.same {R : Nat} {a b c : World} {q : Nat} (h : Scan R a b q) (hn : Near R a c) (hb : c.heap[R]? = b.heap[R]?) : Scan R a c q :=
  ⟨hn, fun o ho => (World.cell?_of_block (w := b) (w' := c) (a := ⟨R, o, none⟩) hb).trans (h.cells o ho), (World.cell?_of_block (w := b) (w' := c) (a := ⟨R, 1, none⟩) hb).trans h.at1, fun o => by
    have := h.fz o
    simp only [World.frozen?, hb] at this ⊢
    exact this⟩

/-- The place of a scanner. -/
def atS (w : World) (R : Nat) : Nat := match w.cell? ⟨R, 1, none⟩ with | some (.int _ n) => n.toNat | _ => 0

theorem Scan.atS {R : Nat} {a b : World} {q : Nat} (h : Scan R a b q) : atS b R = q := by
  unfold Go.Proofs.YtlinplghgamgbaaGreatDoor.atS; rw [h.at1]; simp

theorem Tryz.info_strQ : (Tryz.prog.info? 9).map (fun i => (i.zero, i.size, i.bytes)) = some (some (.string ⟨#[]⟩), 1, 16) := by kernel_rfl

theorem Tryz.info_kindQ : (Tryz.prog.info? 70).map (fun i => (i.zero, i.size, i.bytes)) = some (some (.agg #[.int .i64 0, .slice none 0 0, .slice none 0 0]), 3, 56) := by kernel_rfl

set_option maxRecDepth 100000 in
set_option maxHeartbeats 4000000 in
theorem readForm_any (m : Nat) (hm : KRSaid m) (R : Nat) (s : ByteArray) (i : Nat) (w : World) (h : Sc w R s i) (hi : i ≤ s.size) (hs : s.size ≤ 10000) (hlt : s.size - i ≤ m) :
    Calls Tryz.prog 111 #[.pointer (some ⟨R, 0, none⟩), .func (.func 94) #[.pointer (some ⟨R, 0, none⟩)] #[]] w (FRPost R s i m w) := by
  have HW : Hid (Calls Tryz.prog 110 #[.pointer (some ⟨R, 0, none⟩), .string ⟨#[123]⟩] w _) := want_any w R s ⟨#[123]⟩ i h hs (by decide) hi
  have hR := h.lt
  have HM : Hid (KRSaid m) := hm
  have HSc0 : Hid (Sc w R s i) := h
  clear h hm
  go_enter Tryz.func111, Tryz.ntmps111
  go_wp2_with fail
  refine HW.out.mono ?_
  rintro e w1 (⟨h1, rfl, h2, h3⟩ | ⟨h1, rfl, h2⟩)
  case inr => exact ⟨rfl, .inr ⟨.inl h1, rfl, h2⟩⟩
  have HE : Hid (eatP [123] (s.data.toList.drop i) = some (s.data.toList.drop (i + 1))) := h1
  have h2 : Scan R w w1 (i + 1) := h2
  have h3 : i + 1 ≤ s.size := h3
  clear h1 HW
  go_wp2_with fail
  go_loopw [4, 5] (fun nv kv wr => ∃ (ns : List ByteArray) (ks : List (K m)) (j fuel ln : Nat) (na : Option Addr) (nc : Nat) (ka : Option Addr) (kc : Nat), ns.length = ln ∧ ks.length = ln ∧ ln ≤ j ∧ nv = .slice na ln nc ∧ kv = .slice ka ln kc ∧ RForm R m w wr ns ks (.slice na ln nc) (.slice ka ln kc) ∧ Scan R w wr j ∧ i < j ∧ j ≤ s.size ∧
      formQ (parseK m) (fuel + 1) ns ks (s.data.toList.drop j) = formOf m s i ∧ s.size - j ≤ fuel) (fun _ _ wr => s.size - atS wr R)
  case atStart => exact ⟨[], [], i + 1, (s.data.toList.drop (i + 1)).length, 0, none, 0, none, 0, rfl, rfl, by omega, rfl, rfl, RForm.start R m w w1 h2.near, h2, by omega, h3, rfl, by simp⟩
  case round =>
    obtain ⟨ns, ks, j, fuel, ln, na, nc, ka, kc, hnl, hkl, hlj, rfl, rfl, hF, hS, hij, hj, hG, hfu⟩ := hrel
    have HN : Hid (ns.length = ln ∧ ks.length = ln) := ⟨hnl, hkl⟩
    have HF : Hid (RForm R m w wr ns ks (.slice na ln nc) (.slice ka ln kc)) := hF
    have HS : Hid (Scan R w wr j) := hS
    have HG : Hid (formQ (parseK m) (fuel + 1) ns ks (s.data.toList.drop j) = formOf m s i) := hG
    have HA : Hid (atS wr R = j) := hS.atS
    have HC : Hid (Calls Tryz.prog 109 #[.pointer (some ⟨R, 0, none⟩), .string ⟨#[125]⟩] wr _) := skip_any wr R s ⟨#[125]⟩ j (hS.sc HSc0.out) hs (by decide) hj
    clear hnl hkl hF hS hG h2 h3
    go_wp2_with fail
    refine HC.out.mono ?_
    rintro e w1 (⟨p1, rfl, p2, p3⟩ | ⟨p1, rfl, p2⟩)
    · have HP : Hid (FRPost R s i m w (.returned (.tuple #[.slice na ln nc, .slice ka ln kc])) w1) := by
        have p2 : Scan R wr w1 (j + 1) := p2
        have p3 : j + 1 ≤ s.size := p3
        have hF1 := HF.out.keep hR p2.near
        obtain ⟨r1, r2⟩ := hF1.rows (by rw [HN.out.1]; omega) (by rw [HN.out.2]; omega)
        exact .inl ⟨ns, ks, j + 1, na, nc, ka, kc, ln, HE.out, by rw [← HG.out]; exact formQ_end p1, by omega, p3, by omega, rfl, r1, r2, HS.out.trans p2⟩
      clear p1 p2 p3 HC HF HS HG
      go_wp2_with fail
      go_ret2
      exact HP.out
    · have p1 : eatP [125] (s.data.toList.drop j) = none := p1
      have HF0 : Hid (RForm R m w w1 ns ks (.slice na ln nc) (.slice ka ln kc)) := HF.out.keep hR p2.near
      have hS0 : Hid (Scan R w w1 j) := HS.out.trans p2
      clear HF HS HC p2
      have HNo : Hid (∀ W, formOf m s i = none → Near R w W → FRPost R s i m w (.panicked refusal) W) := fun W h1 h2 => .inr ⟨.inr ⟨HE.out, h1⟩, rfl, h2⟩
      rcases Nat.eq_zero_or_pos ln with h0 | h0
      case' inl =>
        obtain ⟨j1, hj1⟩ : ∃ j1, j1 = j := ⟨_, rfl⟩
        have HQ : Hid (formR (parseK m) fuel ns ks (s.data.toList.drop j1) = formOf m s i) := by
          show _ = _
          rw [hj1, ← HG.out]; exact (formQ_first p1 (by rw [HN.out.1]; exact h0)).symm
        have HS1 : Hid (Scan R w w1 j1) := by rw [hj1]; exact hS0
        have hj1s : j1 ≤ s.size := by omega
        have hjj : j ≤ j1 := by omega
        have hd : (0 < ln) = False := eq_false (by omega)
        clear h0 hS0 HG hj1 p1
        go_wp2_with fail
        clear hd
      case' inr =>
        have HC : Hid (Calls Tryz.prog 110 #[.pointer (some ⟨R, 0, none⟩), .string ⟨#[44]⟩] w1 _) := want_any w1 R s ⟨#[44]⟩ j (hS0.out.sc HSc0.out) hs (by decide) hj
        have hd : 0 < ln := h0
        go_wp2_with fail
        refine HC.out.mono ?_
        rintro e w1 (⟨q1, rfl, q2, q3⟩ | ⟨q1, rfl, q2⟩)
        case inr =>
          refine ⟨rfl, HNo.out w1 ?_ (hS0.out.near.trans q2)⟩
          rw [← HG.out]; exact formQ_stop p1 (by rw [HN.out.1]; omega) q1
        obtain ⟨j1, hj1⟩ : ∃ j1, j1 = j + 1 := ⟨_, rfl⟩
        have q2 : Scan R _ w1 (j + 1) := q2
        have q3 : j + 1 ≤ s.size := q3
        have HQ : Hid (formR (parseK m) fuel ns ks (s.data.toList.drop j1) = formOf m s i) := by
          show _ = _
          rw [hj1, ← HG.out]; exact (formQ_next p1 (by rw [HN.out.1]; omega) q1).symm
        have HS1 : Hid (Scan R w w1 j1) := by rw [hj1]; exact hS0.out.trans q2
        have hj1s : j1 ≤ s.size := by omega
        have hjj : j ≤ j1 := by omega
        have HF1 := HF0.out.keep hR q2.near
        clear HF0
        have HF0 : Hid (RForm R m w w1 ns ks (.slice na ln nc) (.slice ka ln kc)) := HF1
        clear HF1 hS0 HG hj1 p1 q1 q2 q3 h0 HC
        go_wp2_with fail
        clear hd
      all_goals
        have HU : Hid (Calls Tryz.prog 127 #[.pointer (some ⟨R, 0, none⟩), .int .u8 58] w1 (UntilPost 58 w1 R s j1)) := until_any 58 w1 R s j1 (HS1.out.sc HSc0.out) hs hj1s
        refine HU.out.mono ?_
        rintro e w2 (⟨x, u1, rfl, u2, u3⟩ | ⟨u1, rfl, u2⟩)
        case inr => exact ⟨rfl, HNo.out w2 (by rw [← HQ.out]; exact formR_no u1) (HS1.out.near.trans u2)⟩
        have u2 : Scan R w1 w2 (j1 + x.length) := u2
        have hxs : (bs x).size ≤ 10000 := by rw [bs_size]; omega
        have HF2 : Hid (RForm R m w w2 ns ks (.slice na ln nc) (.slice ka ln kc)) := HF0.out.keep hR u2.near
        have HS2 : Hid (Scan R w w2 (j1 + x.length)) := HS1.out.trans u2
        have HU1 : Hid (untilP 58 (s.data.toList.drop j1) = some (x, s.data.toList.drop (j1 + x.length))) := u1
        have HO : Hid (w2.ownsRow w.heap.size 9 1 (.slice na ln nc) ln (ns.map .string)) := by
          have := HF2.out.names
          rw [HN.out.1] at this; exact this
        have hz2 := HF2.out.near.size
        obtain ⟨is0, hi0, hy0, hy1, hyb⟩ := info_parts Tryz.info_strQ
        have HIS : Hid (_ ∧ _ ∧ _ ∧ _) := ⟨hi0, hy0, hy1, hyb⟩
        clear hi0 hy0 hy1 hyb u1 u2 HF0 HS1 HU
        go_wp2_with (at_builtin; refine wpList_append_lies _ rfl (.tmp 16) (.tmp 19) 22 rfl w.heap.size 9 is0 _ 1 16 Tryz.underlying22 HIS.out.1 HIS.out.2.1 HIS.out.2.2.1 HIS.out.2.2.2 rfl (by decide) (.slice na ln nc) ln (ns.map .string) rfl (HO.out.alloc _) ⟨w2.heap.size, 0, none⟩ 1 1 [.string (bs x)] rfl rfl (World.news_of_block (heap_alloc_new w2 _)) (by simp [Value.oneCell']) (by decide) (by unfold maxLen; omega) (by omega) (by simp; omega) (w2.heap.size + 1) (by simp) ?_; intro g cap w3 hown3 hgrow3 hat3 hlt3; refine Hid.out ?_)
        refine Lib.hid ?_
        obtain ⟨hF3, hb3, hz3⟩ := HF2.out.name (Wa := w2.alloc (.cells #[.string (bs x)] 9)) (one := .cells #[.string (bs x)] 9) (x := bs x) (g := g) (cap := cap) rfl ⟨rfl, rfl, rfl⟩ hxs (by rw [HN.out.1]; exact hown3) hgrow3 hat3
        rw [HN.out.1] at hF3
        have HF3 : Hid (RForm R m w w3 (ns ++ [bs x]) ks (.slice (some ⟨g, 0, none⟩) (ln + 1) cap) (.slice ka ln kc)) := hF3
        have HS3 : Hid (Scan R w w3 (j1 + x.length)) := HS2.out.same hF3.near (hb3 R hR)
        have HW3 : Hid (Calls Tryz.prog 110 #[.pointer (some ⟨R, 0, none⟩), .string ⟨#[58]⟩] w3 _) := want_any w3 R s ⟨#[58]⟩ (j1 + x.length) (HS3.out.sc HSc0.out) hs (by decide) (by omega)
        clear hF3 hb3 hz3 hown3 hgrow3 hat3 hlt3 HO HF2 HS2
        go_wp2_with fail
        refine HW3.out.mono ?_
        rintro e w4 (⟨v1, rfl, v2, v3⟩ | ⟨v1, rfl, v2⟩)
        case inr =>
          have v1 : eatP [58] (s.data.toList.drop (j1 + x.length)) = none := v1
          obtain ⟨r', e1, -⟩ := untilP_some HU1.out
          rw [e1, eatP_one_cons] at v1
          cases v1
        have v2 : Scan R w3 w4 (j1 + x.length + 1) := v2
        have v3 : j1 + x.length + 1 ≤ s.size := v3
        have hF4 := HF3.out.keep hR v2.near
        have HF4 : Hid (RForm R m w w4 (ns ++ [bs x]) ks (.slice (some ⟨g, 0, none⟩) (ln + 1) cap) (.slice ka ln kc)) := hF4
        have HS4 : Hid (Scan R w w4 (j1 + x.length + 1)) := HS3.out.trans v2
        have HK : Hid (Calls Tryz.prog 94 #[.pointer (some ⟨R, 0, none⟩)] w4 (KRPost R s (j1 + x.length + 1) m w4)) := HM.out R s _ w4 (HS4.out.sc HSc0.out) v3 hs (by omega)
        obtain ⟨xs, hxs4, hkk⟩ := hF4.kids
        have HKK : Hid (∀ q (h : q < ks.length), _) := hkk
        have HOK : Hid (w4.ownsRow w.heap.size 70 3 (.slice ka ln kc) ln xs) := by
          rw [HN.out.2] at hxs4; exact hxs4
        clear v1 v2 hF4 hxs4 hkk HF3 HS3 HW3
        go_wp2_with fail
        refine HK.out.mono ?_
        rintro e w5 (⟨t, q, c0, c1, c2, y1, y2, y3, rfl, y4, y5⟩ | ⟨y1, rfl, y2⟩)
        case inr =>
          refine ⟨rfl, HNo.out w5 ?_ (HS4.out.near.trans y2)⟩
          rw [← HQ.out]
          refine formR_bad HU1.out ?_
          rw [List.drop_drop]; exact y1
        obtain ⟨z0, za, zl, zc, ua, ul, uc, rfl, rfl, rfl⟩ := y4.shape
        have hz5 := y5.near.size
        have hz4 := HF4.out.near.size
        have HO5 : Hid (w5.ownsRow w.heap.size 70 3 (.slice ka ln kc) ln xs) := r1_keep HOK.out (fun g' hg' => by
          have := r1_lt HOK.out g' hg'
          exact y5.near.block g' this.2 (by omega))
        have HY : Hid (KindIn (fun b => w4.heap.size ≤ b ∧ b < w5.heap.size) w5 m t (.int .i64 z0) (.slice za zl zc) (.slice ua ul uc) ∧ Scan R w4 w5 q) := ⟨y4, y5⟩
        have HG6 : Hid (formQ (parseK m) fuel (ns ++ [bs x]) (ks ++ [t]) (s.data.toList.drop q) = formOf m s i) := by
          show _ = _
          rw [← HQ.out]
          refine (formR_yes HU1.out ?_).symm
          rw [List.drop_drop]; exact y1
        obtain ⟨ik0, hi0, hy0, hy1, hyb⟩ := info_parts Tryz.info_kindQ
        have HIK : Hid (_ ∧ _ ∧ _ ∧ _) := ⟨hi0, hy0, hy1, hyb⟩
        clear hi0 hy0 hy1 hyb y1 y4 y5 HK HQ HU1
        go_wp2_with (at_builtin; refine wpList_append_lies _ rfl (.tmp 23) (.tmp 26) 68 rfl w.heap.size 70 ik0 _ 3 56 Tryz.underlying68 HIK.out.1 HIK.out.2.1 HIK.out.2.2.1 HIK.out.2.2.2 rfl (by decide) (.slice ka ln kc) ln xs rfl (HO5.out.alloc _) ⟨w5.heap.size, 0, none⟩ 1 1 [.int .i64 z0, .slice za zl zc, .slice ua ul uc] rfl rfl (World.news_of_block (heap_alloc_new w5 _)) (by simp [Value.oneCell']) (by decide) (by unfold maxLen; omega) (by omega) (by simp; omega) (w5.heap.size + 1) (by simp) ?_; intro g2 cap2 w6 hown6 hgrow6 hat6 hlt6; refine Hid.out ?_)
        refine Lib.hid ?_
        obtain ⟨hF6, hb6, hz6⟩ := HF4.out.kid (W1 := w5) (Wa := w5.alloc (.cells #[.int .i64 z0, .slice za zl zc, .slice ua ul uc] 70)) (one := .cells #[.int .i64 z0, .slice za zl zc, .slice ua ul uc] 70) (g := g2) (cap := cap2) hR HY.out.2.near HY.out.1 rfl ⟨rfl, rfl, rfl⟩ (by rw [HN.out.2]; exact HOK.out) HKK.out (by rw [HN.out.2]; exact hown6) hgrow6 hat6
        rw [HN.out.2] at hF6
        have HF6 : Hid (RForm R m w w6 (ns ++ [bs x]) (ks ++ [t]) (.slice (some ⟨g, 0, none⟩) (ln + 1) cap) (.slice (some ⟨g2, 0, none⟩) (ln + 1) cap2)) := hF6
        have HS6 : Hid (Scan R w w6 q) := (HS4.out.trans HY.out.2).same hF6.near (hb6 R hR)
        obtain ⟨f', rfl⟩ : ∃ f', fuel = f' + 1 := ⟨fuel - 1, by omega⟩
        clear hF6 hb6 hz6 hown6 hgrow6 hat6 hlt6 HO5 HOK HKK HF4 HS4 HY
        go_wp2_with fail
        go_roundw
        case rel => exact ⟨ns ++ [bs x], ks ++ [t], q, f', ln + 1, some ⟨g, 0, none⟩, cap, some ⟨g2, 0, none⟩, cap2, by simp [HN.out.1], by simp [HN.out.2], by omega, rfl, rfl, HF6.out, HS6.out, by omega, y3, HG6.out, by omega⟩
        case measure => rw [HS6.out.atS, HA.out]; omega

end Go.Proofs.YtlinplghgamgbaaGreatDoor

/-
  The program's reader of schemas: kind.
-/
namespace Go.Proofs.YtlinplghgamgbaaGreatDoor
open Go.RowKit

theorem zero_kind {w : World} {N : Nat} (h : w.heap[N]? = some (.cells #[.int .i64 0, .slice none 0 0, .slice none 0 0] 70 (0, 0))) :
    (w.cell? ⟨N, 0, none⟩ = some (.int .i64 0) ∧ w.cell? ⟨N, 1, none⟩ = some (.slice none 0 0) ∧ w.cell? ⟨N, 2, none⟩ = some (.slice none 0 0)) ∧
      w.frozen? ⟨N, 0, none⟩ = false ∧ w.frozen? ⟨N, 1, none⟩ = false ∧ w.frozen? ⟨N, 2, none⟩ = false := by
  refine ⟨⟨?_, ?_, ?_⟩, ?_, ?_, ?_⟩ <;> simp [World.cell?, World.frozen?, h]

theorem Scan.alloc {R : Nat} {w w1 : World} {q : Nat} {o : Obj} (h : Scan R (w.alloc o) w1 q) (hR : R < w.heap.size) : Scan R w w1 q :=
  ⟨(Near.alloc R w o).trans h.near, fun p hp => (h.cells p hp).trans (World.cell?_of_block (w := w) (w' := w.alloc o) (a := ⟨R, p, none⟩) (Below.heap_alloc _ _ _ hR)), h.at1, fun p => (h.fz p).trans (by
    have : (w.alloc o).heap[R]? = w.heap[R]? := Below.heap_alloc _ _ _ hR
    simp only [World.frozen?, this])⟩

/-- The way out of kind. -/
theorem kr_exit {R i m q : Nat} {s : ByteArray} {w W : World} {k : K (m + 1)} {g0 g1 g2 : Value} (hS : Scan R w W q) (hR : R < w.heap.size) (hp : parseK (m + 1) (s.data.toList.drop i) = some (k, s.data.toList.drop q)) (hiq : i < q) (hq : q ≤ s.size)
    (hk : KindIn (fun b => w.heap.size + 1 ≤ b ∧ b < W.heap.size) W (m + 1) k g0 g1 g2) : KRPost R s i (m + 1) w (.returned (.agg #[g0, g1, g2])) (put3 W w.heap.size 0 g0 g1 g2) := by
  have q : ∀ b, b ≠ w.heap.size → (put3 W w.heap.size 0 g0 g1 g2).heap[b]? = W.heap[b]? := fun b h => put3_other h
  have hz : (put3 W w.heap.size 0 g0 g1 g2).heap.size = W.heap.size := put3_size
  have hn : Near R w (put3 W w.heap.size 0 g0 g1 g2) := ⟨hS.near.os, hS.near.tape, hS.near.output, by rw [hz]; exact hS.near.size, fun b hb hne => (q b (by omega)).trans (hS.near.block b hb hne)⟩
  refine .inl ⟨k, _, g0, g1, g2, hp, hiq, hq, rfl, hk.keep (fun b hb => q b (by omega)) (fun b hb => ⟨by omega, by rw [hz]; exact hb.2⟩), hS.same hn (q R (by omega))⟩

theorem leaf_in (S : Nat → Prop) (w : World) (m : Nat) (x : Int) (hx : (Lit.int .i64 x).wf = true) : KindIn S w (m + 1) (⟨x, [], []⟩ : Kd (K m)) (.int .i64 x) (.slice none 0 0) (.slice none 0 0) :=
  ⟨rfl, hx, ⟨none, 0, rfl, by simp [maxLen], fun s h => (by cases h), fun h => absurd rfl h⟩, ⟨none, 0, rfl, by simp [maxLen], fun h => absurd rfl h⟩⟩

theorem one_in {S : Nat → Prop} {w : World} {m : Nat} {x : Int} {t : K m} {b c : Nat} {c0 c1 c2 : Value} (hx : (Lit.int .i64 x).wf = true) (hb : S b) (h0 : w.cell? ⟨b, 0, none⟩ = some c0) (h1 : w.cell? ⟨b, 1, none⟩ = some c1) (h2 : w.cell? ⟨b, 2, none⟩ = some c2) (ht : KindIn S w m t c0 c1 c2) :
    KindIn S w (m + 1) (⟨x, [], [t]⟩ : Kd (K m)) (.int .i64 x) (.slice none 0 0) (.slice (some ⟨b, 0, none⟩) 1 c) := by
  refine ⟨rfl, hx, ⟨none, 0, rfl, by simp [maxLen], fun s h => (by cases h), fun h => absurd rfl h⟩, ⟨some ⟨b, 0, none⟩, c, rfl, by simp [maxLen], fun _ => ⟨b, 0, rfl, hb, fun i hi => ?_⟩⟩⟩
  have : i = 0 := by simpa using hi
  subst this
  exact ⟨c0, c1, c2, by simpa using h0, by simpa using h1, by simpa using h2, ht⟩

theorem pk_list {m : Nat} {l r : List UInt8} (h1 : eatP [110, 117, 109] l = none) (h2 : eatP [116, 101, 120, 116] l = none) (h3 : eatP [102, 108, 97, 103] l = none) (h4 : eatP [91] l = some r) :
    (oneQ (parseK m) [93] r = none → parseK (m + 1) l = none) ∧ (∀ k r', oneQ (parseK m) [93] r = some (k, r') → parseK (m + 1) l = some ((⟨4, [], [k]⟩ : Kd (K m)), r')) := by
  refine ⟨fun h => ?_, fun k r' h => ?_⟩
  · simp only [parseK, h1, h2, h3, h4, h]
  · simp only [parseK, h1, h2, h3, h4, h]; rfl
theorem pk_maybe {m : Nat} {l r : List UInt8} (h1 : eatP [110, 117, 109] l = none) (h2 : eatP [116, 101, 120, 116] l = none) (h3 : eatP [102, 108, 97, 103] l = none) (h4 : eatP [91] l = none) (h5 : eatP [63] l = some r) :
    (parseK m r = none → parseK (m + 1) l = none) ∧ (∀ k r', parseK m r = some (k, r') → parseK (m + 1) l = some ((⟨6, [], [k]⟩ : Kd (K m)), r')) := by
  refine ⟨fun h => ?_, fun k r' h => ?_⟩
  · simp only [parseK, oneQ, h1, h2, h3, h4, h5, h]
  · simp only [parseK, oneQ, eatP_nil, h1, h2, h3, h4, h5, h]; rfl
theorem pk_form {m : Nat} {l : List UInt8} (h1 : eatP [110, 117, 109] l = none) (h2 : eatP [116, 101, 120, 116] l = none) (h3 : eatP [102, 108, 97, 103] l = none) (h4 : eatP [91] l = none) (h5 : eatP [63] l = none) :
    (eatP [123] l = none → parseK (m + 1) l = none) ∧ (∀ r, eatP [123] l = some r → (formQ (parseK m) (r.length + 1) [] [] r = none → parseK (m + 1) l = none) ∧ (∀ ns ks r', formQ (parseK m) (r.length + 1) [] [] r = some (ns, ks, r') → parseK (m + 1) l = some ((⟨5, ns, ks⟩ : Kd (K m)), r'))) := by
  refine ⟨fun h => ?_, fun r h => ⟨fun h' => ?_, fun ns ks r' h' => ?_⟩⟩
  · simp only [parseK, h1, h2, h3, h4, h5, h]
  · simp only [parseK, h1, h2, h3, h4, h5, h, h']
  · simp only [parseK, h1, h2, h3, h4, h5, h, h']; rfl
theorem oneQ_none {α : Type} {f : List UInt8 → Option (α × List UInt8)} {c s : List UInt8} (h : f s = none) : oneQ f c s = none := by simp only [oneQ, h]
theorem oneQ_shut {α : Type} {f : List UInt8 → Option (α × List UInt8)} {c s r : List UInt8} {k : α} (h : f s = some (k, r)) (h2 : eatP c r = none) : oneQ f c s = none := by simp only [oneQ, h, h2]
theorem oneQ_yes {α : Type} {f : List UInt8 → Option (α × List UInt8)} {c s r r' : List UInt8} {k : α} (h : f s = some (k, r)) (h2 : eatP c r = some r') : oneQ f c s = some (k, r') := by simp only [oneQ, h, h2]

set_option maxRecDepth 100000 in
set_option maxHeartbeats 4000000 in
theorem kind_step (m : Nat) (hm : KRSaid m) : KRSaid (m + 1) := by
  intro R s i w h hi hs hlt
  have hR := h.lt
  obtain ⟨W, hW⟩ : ∃ W, W = w.alloc (.cells #[.int .i64 0, .slice none 0 0, .slice none 0 0] 70) := ⟨_, rfl⟩
  have hzW : W.heap.size = w.heap.size + 1 := by rw [hW]; simp
  have hb0 : Below w.heap.size w W := by rw [hW]; exact (Below.refl _ _).alloc (Nat.le_refl _) _
  have HZ : Hid (W.heap[w.heap.size]? = some (.cells #[.int .i64 0, .slice none 0 0, .slice none 0 0] 70 (0, 0))) := by rw [hW]; exact heap_alloc_new _ _
  have HS0 : Hid (Scan R w W i) := (Scan.refl h).below hb0 hR
  have HSc : Hid (Sc w R s i) := h
  have HM : Hid (KRSaid m) := hm
  have HZ1 : Hid (∀ W1 q, Scan R W W1 q → W1.heap[w.heap.size]? = some (.cells #[.int .i64 0, .slice none 0 0, .slice none 0 0] 70 (0, 0))) := fun W1 q hq => (hq.near.block w.heap.size (by omega) (by omega)).trans HZ.out
  have HC1 : Hid (Calls Tryz.prog 109 #[.pointer (some ⟨R, 0, none⟩), .string ⟨#[110, 117, 109]⟩] W _) := skip_any W R s ⟨#[110, 117, 109]⟩ i (HS0.out.sc h) hs (by decide) hi
  clear h hm
  go_enter Tryz.func94, Tryz.ntmps94
  go_wp2_with fail
  rw [← hW]
  clear hW
  refine HC1.out.mono ?_
  rintro e w1 (⟨p1, rfl, p2, p3⟩ | ⟨p1, rfl, p2⟩)
  · have p1 : eatP [110, 117, 109] (s.data.toList.drop i) = some (s.data.toList.drop (i + 3)) := p1
    have p2 : Scan R W w1 (i + 3) := p2
    have HP : Hid (KRPost R s i (m + 1) w (.returned (.agg #[.int .i64 1, .slice none 0 0, .slice none 0 0])) (put3 w1 w.heap.size 0 (.int .i64 1) (.slice none 0 0) (.slice none 0 0))) :=
      kr_exit (HS0.out.trans p2) hR (by simp only [parseK, p1]) (by omega) p3 (leaf_in _ _ m 1 rfl)
    obtain ⟨⟨r0, r1, r2⟩, f0, f1, f2⟩ := zero_kind (HZ1.out w1 _ p2)
    clear p1 p2 p3 HC1
    go_wp2_with fail
    refine bodyPost_ret (v := .agg #[.int .i64 1, .slice none 0 0, .slice none 0 0]) (by simp [results, Tryz.results94, go_sem, r0, r1, r2]) rfl ?_
    exact HP.out
  have HP1 : Hid (eatP [110, 117, 109] (s.data.toList.drop i) = none) := p1
  have HS1 : Hid (Scan R W w1 i) := p2
  have HC2 : Hid (Calls Tryz.prog 109 #[.pointer (some ⟨R, 0, none⟩), .string ⟨#[116, 101, 120, 116]⟩] w1 _) := skip_any w1 R s ⟨#[116, 101, 120, 116]⟩ i ((HS0.out.trans p2).sc HSc.out) hs (by decide) hi
  clear p1 p2 HC1
  go_wp2_with fail
  refine HC2.out.mono ?_
  rintro e w2 (⟨p1, rfl, p2, p3⟩ | ⟨p1, rfl, p2⟩)
  · have p1 : eatP [116, 101, 120, 116] (s.data.toList.drop i) = some (s.data.toList.drop (i + 4)) := p1
    have p2 : Scan R W w2 (i + 4) := HS1.out.trans p2
    have HP : Hid (KRPost R s i (m + 1) w (.returned (.agg #[.int .i64 2, .slice none 0 0, .slice none 0 0])) (put3 w2 w.heap.size 0 (.int .i64 2) (.slice none 0 0) (.slice none 0 0))) :=
      kr_exit (HS0.out.trans p2) hR (by simp only [parseK, HP1.out, p1]) (by omega) p3 (leaf_in _ _ m 2 rfl)
    obtain ⟨⟨r0, r1, r2⟩, f0, f1, f2⟩ := zero_kind (HZ1.out w2 _ p2)
    clear p1 p2 p3 HC2
    go_wp2_with fail
    refine bodyPost_ret (v := .agg #[.int .i64 2, .slice none 0 0, .slice none 0 0]) (by simp [results, Tryz.results94, go_sem, r0, r1, r2]) rfl ?_
    exact HP.out
  have HP2 : Hid (eatP [116, 101, 120, 116] (s.data.toList.drop i) = none) := p1
  have HS2 : Hid (Scan R W w2 i) := HS1.out.trans p2
  have HC3 : Hid (Calls Tryz.prog 109 #[.pointer (some ⟨R, 0, none⟩), .string ⟨#[102, 108, 97, 103]⟩] w2 _) := skip_any w2 R s ⟨#[102, 108, 97, 103]⟩ i ((HS0.out.trans HS2.out).sc HSc.out) hs (by decide) hi
  clear p1 p2 HC2 HS1
  go_wp2_with fail
  refine HC3.out.mono ?_
  rintro e w3 (⟨p1, rfl, p2, p3⟩ | ⟨p1, rfl, p2⟩)
  · have p1 : eatP [102, 108, 97, 103] (s.data.toList.drop i) = some (s.data.toList.drop (i + 4)) := p1
    have p2 : Scan R W w3 (i + 4) := HS2.out.trans p2
    have HP : Hid (KRPost R s i (m + 1) w (.returned (.agg #[.int .i64 3, .slice none 0 0, .slice none 0 0])) (put3 w3 w.heap.size 0 (.int .i64 3) (.slice none 0 0) (.slice none 0 0))) :=
      kr_exit (HS0.out.trans p2) hR (by simp only [parseK, HP1.out, HP2.out, p1]) (by omega) p3 (leaf_in _ _ m 3 rfl)
    obtain ⟨⟨r0, r1, r2⟩, f0, f1, f2⟩ := zero_kind (HZ1.out w3 _ p2)
    clear p1 p2 p3 HC3
    go_wp2_with fail
    refine bodyPost_ret (v := .agg #[.int .i64 3, .slice none 0 0, .slice none 0 0]) (by simp [results, Tryz.results94, go_sem, r0, r1, r2]) rfl ?_
    exact HP.out
  have HP3 : Hid (eatP [102, 108, 97, 103] (s.data.toList.drop i) = none) := p1
  have HS3 : Hid (Scan R W w3 i) := HS2.out.trans p2
  have HC4 : Hid (Calls Tryz.prog 109 #[.pointer (some ⟨R, 0, none⟩), .string ⟨#[91]⟩] w3 _) := skip_any w3 R s ⟨#[91]⟩ i ((HS0.out.trans HS3.out).sc HSc.out) hs (by decide) hi
  clear p1 p2 HC3 HS2
  go_wp2_with fail
  refine HC4.out.mono ?_
  rintro e w4 (⟨p1, rfl, p2, p3⟩ | ⟨p1, rfl, p2⟩)
  · have p1 : eatP [91] (s.data.toList.drop i) = some (s.data.toList.drop (i + 1)) := p1
    have p2 : Scan R W w4 (i + 1) := HS3.out.trans p2
    have p3 : i + 1 ≤ s.size := p3
    have HPK : Hid (_ ∧ _) := pk_list (m := m) HP1.out HP2.out HP3.out p1
    have HS4 : Hid (Scan R W w4 (i + 1)) := p2
    have HK : Hid (Calls Tryz.prog 94 #[.pointer (some ⟨R, 0, none⟩)] w4 (KRPost R s (i + 1) m w4)) := HM.out R s _ w4 ((HS0.out.trans p2).sc HSc.out) p3 hs (by omega)
    clear p1 p2 HC4 HS3 HP1 HP2 HP3
    go_wp2_with fail
    refine HK.out.mono ?_
    rintro e w5 (⟨t, q, c0, c1, c2, y1, y2, y3, rfl, y4, y5⟩ | ⟨y1, rfl, y2⟩)
    case inr =>
      refine ⟨rfl, .inr ⟨?_, rfl, (HS0.out.trans HS4.out).near.trans y2⟩⟩
      exact HPK.out.1 (oneQ_none y1)
    obtain ⟨z0, za, zl, zc, ua, ul, uc, rfl, rfl, rfl⟩ := y4.shape
    have hz5 := y5.near.size
    have hz4 := HS4.out.near.size
    have HY : Hid (KindIn (fun b => w4.heap.size ≤ b ∧ b < w5.heap.size) w5 m t (.int .i64 z0) (.slice za zl zc) (.slice ua ul uc)) := y4
    have hbx : Below w5.heap.size w5 (w5.alloc (.cells #[.int .i64 z0, .slice za zl zc, .slice ua ul uc] 70)) := (Below.refl _ _).alloc (Nat.le_refl _) _
    have HS5 : Hid (Scan R W (w5.alloc (.cells #[.int .i64 z0, .slice za zl zc, .slice ua ul uc] 70)) q) := (HS4.out.trans y5).below hbx (by omega)
    have hx5 := Box3.new w5 (.int .i64 z0) (.slice za zl zc) (.slice ua ul uc) 70
    have HW : Hid (Calls Tryz.prog 110 #[.pointer (some ⟨R, 0, none⟩), .string ⟨#[93]⟩] (w5.alloc (.cells #[.int .i64 z0, .slice za zl zc, .slice ua ul uc] 70)) _) := want_any _ R s ⟨#[93]⟩ q ((HS0.out.trans HS5.out).sc HSc.out) hs (by decide) y3
    have HY1 : Hid (parseK m (s.data.toList.drop (i + 1)) = some (t, s.data.toList.drop q)) := y1
    clear HK y4 y5 y1
    go_wp2_with fail
    refine HW.out.mono ?_
    rintro e w6 (⟨v1, rfl, v2, v3⟩ | ⟨v1, rfl, v2⟩)
    case inr => exact ⟨rfl, .inr ⟨HPK.out.1 (oneQ_shut HY1.out v1), rfl, (HS0.out.trans HS5.out).near.trans v2⟩⟩
    have v2 : Scan R _ w6 (q + 1) := v2
    have hz6 := v2.near.size
    simp only [World.size_alloc] at hz6
    have kk : ∀ o, w6.cell? ⟨w5.heap.size, o, none⟩ = (w5.alloc (.cells #[.int .i64 z0, .slice za zl zc, .slice ua ul uc] 70)).cell? ⟨w5.heap.size, o, none⟩ := fun o => World.cell?_of_block (a := ⟨w5.heap.size, o, none⟩) (v2.near.block w5.heap.size (by simp) (by omega))
    have k0 := (kk 0).trans hx5.c0
    have k1 := (kk 1).trans hx5.c1
    have k2 := (kk 2).trans hx5.c2
    have hb6 : Below w6.heap.size w6 (w6.alloc (.cells #[.int .i64 z0, .slice za zl zc, .slice ua ul uc] 70)) := (Below.refl _ _).alloc (Nat.le_refl _) _
    have HS6 : Hid (Scan R W (w6.alloc (.cells #[.int .i64 z0, .slice za zl zc, .slice ua ul uc] 70)) (q + 1)) := (HS5.out.trans v2).below hb6 (by omega)
    have hx6 := Box3.new w6 (.int .i64 z0) (.slice za zl zc) (.slice ua ul uc) 70
    have HP : Hid (KRPost R s i (m + 1) w (.returned (.agg #[.int .i64 4, .slice none 0 0, .slice (some ⟨w6.heap.size, 0, none⟩) 1 1])) (put3 (w6.alloc (.cells #[.int .i64 z0, .slice za zl zc, .slice ua ul uc] 70)) w.heap.size 0 (.int .i64 4) (.slice none 0 0) (.slice (some ⟨w6.heap.size, 0, none⟩) 1 1))) := by
      refine kr_exit (HS0.out.trans HS6.out) hR (HPK.out.2 _ _ (oneQ_yes HY1.out v1)) (by show i < q + 1; omega) v3 (one_in rfl ⟨by omega, by simp⟩ hx6.c0 hx6.c1 hx6.c2 ?_)
      refine HY.out.keep (fun b hb => ?_) (fun b hb => ⟨by omega, by simp; omega⟩)
      rw [Below.heap_alloc _ _ _ (by omega), v2.near.block b (by simp; omega) (by omega), Below.heap_alloc _ _ _ hb.2]
    obtain ⟨⟨r0, r1, r2⟩, f0, f1, f2⟩ := zero_kind (HZ1.out _ _ HS6.out)
    clear v1 v2 v3 HW HY HY1 HS5 HS6 hx5 hx6 hbx hb6 kk
    go_wp2_with fail
    refine bodyPost_ret (v := .agg #[.int .i64 4, .slice none 0 0, .slice (some ⟨w6.heap.size, 0, none⟩) 1 1]) (by simp [results, Tryz.results94, go_sem, r0, r1, r2]) rfl ?_
    exact HP.out
  have HP4 : Hid (eatP [91] (s.data.toList.drop i) = none) := p1
  have HS4 : Hid (Scan R W w4 i) := HS3.out.trans p2
  have HC5 : Hid (Calls Tryz.prog 109 #[.pointer (some ⟨R, 0, none⟩), .string ⟨#[63]⟩] w4 _) := skip_any w4 R s ⟨#[63]⟩ i ((HS0.out.trans HS4.out).sc HSc.out) hs (by decide) hi
  clear p1 p2 HC4 HS3
  go_wp2_with fail
  refine HC5.out.mono ?_
  rintro e w5 (⟨p1, rfl, p2, p3⟩ | ⟨p1, rfl, p2⟩)
  · have p1 : eatP [63] (s.data.toList.drop i) = some (s.data.toList.drop (i + 1)) := p1
    have p2 : Scan R W w5 (i + 1) := HS4.out.trans p2
    have p3 : i + 1 ≤ s.size := p3
    have HPK : Hid (_ ∧ _) := pk_maybe (m := m) HP1.out HP2.out HP3.out HP4.out p1
    have HS5 : Hid (Scan R W w5 (i + 1)) := p2
    have HK : Hid (Calls Tryz.prog 94 #[.pointer (some ⟨R, 0, none⟩)] w5 (KRPost R s (i + 1) m w5)) := HM.out R s _ w5 ((HS0.out.trans p2).sc HSc.out) p3 hs (by omega)
    clear p1 p2 HC5 HS4 HP1 HP2 HP3 HP4
    go_wp2_with fail
    refine HK.out.mono ?_
    rintro e w6 (⟨t, q, c0, c1, c2, y1, y2, y3, rfl, y4, y5⟩ | ⟨y1, rfl, y2⟩)
    case inr => exact ⟨rfl, .inr ⟨HPK.out.1 y1, rfl, (HS0.out.trans HS5.out).near.trans y2⟩⟩
    obtain ⟨z0, za, zl, zc, ua, ul, uc, rfl, rfl, rfl⟩ := y4.shape
    have hz5 := HS5.out.near.size
    have hz6 := y5.near.size
    have hb6 : Below w6.heap.size w6 (w6.alloc (.cells #[.int .i64 z0, .slice za zl zc, .slice ua ul uc] 70)) := (Below.refl _ _).alloc (Nat.le_refl _) _
    have HS6 : Hid (Scan R W (w6.alloc (.cells #[.int .i64 z0, .slice za zl zc, .slice ua ul uc] 70)) q) := (HS5.out.trans y5).below hb6 (by omega)
    have hx6 := Box3.new w6 (.int .i64 z0) (.slice za zl zc) (.slice ua ul uc) 70
    have HP : Hid (KRPost R s i (m + 1) w (.returned (.agg #[.int .i64 6, .slice none 0 0, .slice (some ⟨w6.heap.size, 0, none⟩) 1 1])) (put3 (w6.alloc (.cells #[.int .i64 z0, .slice za zl zc, .slice ua ul uc] 70)) w.heap.size 0 (.int .i64 6) (.slice none 0 0) (.slice (some ⟨w6.heap.size, 0, none⟩) 1 1))) := by
      refine kr_exit (HS0.out.trans HS6.out) hR (HPK.out.2 _ _ y1) (by omega) y3 (one_in rfl ⟨by omega, by simp⟩ hx6.c0 hx6.c1 hx6.c2 ?_)
      refine y4.keep (fun b hb => ?_) (fun b hb => ⟨by omega, by simp; omega⟩)
      rw [Below.heap_alloc _ _ _ hb.2]
    obtain ⟨⟨r0, r1, r2⟩, f0, f1, f2⟩ := zero_kind (HZ1.out _ _ HS6.out)
    clear HK y1 y4 y5 HS5 HS6 hx6 hb6
    go_wp2_with fail
    refine bodyPost_ret (v := .agg #[.int .i64 6, .slice none 0 0, .slice (some ⟨w6.heap.size, 0, none⟩) 1 1]) (by simp [results, Tryz.results94, go_sem, r0, r1, r2]) rfl ?_
    exact HP.out
  have HPK : Hid (_ ∧ _) := pk_form (m := m) HP1.out HP2.out HP3.out HP4.out p1
  have HS5 : Hid (Scan R W w5 i) := HS4.out.trans p2
  have hz5 := HS5.out.near.size
  have HK : Hid (Calls Tryz.prog 111 #[.pointer (some ⟨R, 0, none⟩), .func (.func 94) #[.pointer (some ⟨R, 0, none⟩)] #[]] w5 (FRPost R s i m w5)) := readForm_any m HM.out R s i w5 ((HS0.out.trans HS5.out).sc HSc.out) hi hs (by omega)
  have hmf : ∀ (fn : Fn) (first cap : Array Value) (w : World), (Instr.makeFunc fn first cap).run Tryz.prog w = .ok (.func fn first cap) w := fun _ _ _ _ => rfl
  clear p1 p2 HC5 HS4 HP1 HP2 HP3 HP4
  go_wp2_with fail
  refine HK.out.mono ?_
  rintro e w6 (⟨ns, ks, q, na, nc, ka, kc, ln, y0, y1, y2, y3, y4, rfl, y5, y6, y7⟩ | ⟨y1, rfl, y2⟩)
  case inr =>
    refine ⟨rfl, .inr ⟨?_, rfl, (HS0.out.trans HS5.out).near.trans y2⟩⟩
    rcases y1 with y1 | ⟨y0, y1⟩
    · exact HPK.out.1 y1
    · exact (HPK.out.2 _ y0).1 y1
  have HS6 : Hid (Scan R W w6 q) := HS5.out.trans y7
  have HP : Hid (KRPost R s i (m + 1) w (.returned (.agg #[.int .i64 5, .slice na ln nc, .slice ka ln kc])) (put3 w6 w.heap.size 0 (.int .i64 5) (.slice na ln nc) (.slice ka ln kc))) := by
    refine kr_exit (HS0.out.trans HS6.out) hR ((HPK.out.2 _ y0).2 _ _ _ y1) y2 y3 ⟨rfl, rfl, ?_, ?_⟩
    · exact y5.keep (fun _ _ => rfl) (fun b hb => ⟨by omega, hb.2⟩)
    · exact y6.keepK (fun _ _ => rfl) (fun b hb => ⟨by omega, hb.2⟩)
  obtain ⟨⟨r0, r1, r2⟩, f0, f1, f2⟩ := zero_kind (HZ1.out _ _ HS6.out)
  clear HK y0 y1 y5 y6 y7 HS5 HS6
  go_wp2_with fail
  refine bodyPost_ret (v := .agg #[.int .i64 5, .slice na ln nc, .slice ka ln kc]) (by simp [results, Tryz.results94, go_sem, r0, r1, r2]) rfl ?_
  exact HP.out

theorem kind_any : ∀ m, KRSaid m := by
  intro m
  induction m with
  | zero => intro R s i w _ _ _ h; exact absurd h (Nat.not_lt_zero _)
  | succ m ih => exact kind_step m ih

end Go.Proofs.YtlinplghgamgbaaGreatDoor
