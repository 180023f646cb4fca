/-
  The measure of the laws: what szStringS, szTreeS and szTree answer.
-/
import Derived.Test.YtpnnbdejneoccaaB1
namespace Go.Proofs.Ytpnnbdejneoccaa
open Go.RowKit


/-- what is left behind the first k names -/
def leftN (l : List ByteArray) (k : Nat) (left : Int) : Int := left - l.length - sumL (fun s : ByteArray => s.size) (l.take k)

theorem szN_eq (l : List ByteArray) : szN l = l.length + sumL (fun s : ByteArray => s.size) l := by
  induction l with
  | nil => rfl
  | cons x r ih => simp only [szN, sumL, List.length_cons, ih]; omega

set_option maxHeartbeats 400000 in
theorem szStringS_any (S : Nat → Prop) (l : List ByteArray) (v : Value) (left : Int) (w : World) (hl : StrsIn S w l v) (h0 : -1 ≤ left) (h1 : left ≤ 1048576) :
    Calls Try.prog 35 #[v, .int .i64 left] w fun e w' => e = .returned (.int .i64 (leftB (szN l) left)) ∧ w' = w := by
  obtain ⟨ao, cap, rfl, hlen, hs, hc⟩ := hl
  unfold maxLen at hlen
  by_cases hneg : left - l.length < 0
  · go_enter Try.func35, Try.ntmps35
    go_wp2
    go_ret
    exact ⟨ret_int (by rw [leftB, szN_eq, if_neg (by omega)]), rfl⟩
  go_enter Try.func35, Try.ntmps35
  go_wp2
  go_loop [1, 5] (fun a i => ∃ k : Nat, k ≤ l.length ∧ i = .int .i64 k ∧ a = .int .i64 (leftN l k left) ∧ 0 ≤ leftN l k left) (fun _ i => l.length - (intOf i).toNat)
  case atStart => exact ⟨0, Nat.zero_le _, rfl, by simp [leftN, sumL], by simp [leftN, sumL]; omega⟩
  case round =>
    obtain ⟨k, hk, rfl, rfl, hpos⟩ := hrel
    have hub : leftN l k left ≤ 1048576 := by unfold leftN; omega
    by_cases hlt : k < l.length
    · obtain ⟨b, off, rfl, -, hcell⟩ := hc (by intro h; rw [h] at hlt; simp at hlt)
      have hck := hcell k hlt
      have hsk := hs l[k] (List.getElem_mem hlt)
      have HS : Hid (leftN l (k + 1) left = leftN l k left - (l[k].size : Int)) := by
        show _ = _
        unfold leftN; rw [sumL_take_succ _ _ _ hlt]; omega
      have HT : Hid (leftN l (k + 1) left = left - l.length - sumL (fun s : ByteArray => s.size) (l.take (k + 1)) ∧ sumL (fun s : ByteArray => s.size) (l.take (k + 1)) ≤ sumL (fun s : ByteArray => s.size) l) := by
        refine ⟨rfl, ?_⟩
        have := sumL_append (fun s : ByteArray => s.size) (l.take (k + 1)) (l.drop (k + 1))
        rw [List.take_append_drop] at this; omega
      unfold maxLen at hsk
      clear hc hs hcell
      generalize l[k] = s at *
      generalize leftN l k left = m at *
      go_wp2
      · go_ret
        refine ⟨ret_int ?_, rfl⟩
        have h1 := HS.out
        have h2 := HT.out
        rw [leftB, szN_eq, if_neg (by omega)]
      · go_round
        case rel => exact ⟨k + 1, by omega, by go_num, by rw [HS.out], by rw [HS.out]; omega⟩
        case measure => simp [intOf]; omega
    · have hkl : k = l.length := by omega
      have HE : Hid (leftN l k left = leftB (szN l) left) := by
        show _ = _
        have e : leftN l k left = left - (szN l : Int) := by unfold leftN; rw [szN_eq, hkl, List.take_length]; omega
        rw [leftB, if_pos (by omega), e]
      clear hkl hc hs
      go_wp2
      go_ret
      exact ⟨ret_int HE.out, rfl⟩

/-- what is left behind the first k kids -/
def leftK {α : Type} (f : α → Nat) (l : List α) (k : Nat) (left : Int) : Int := leftB (l.length + sumL f (l.take k)) left

theorem sumL_one {α : Type} (f : α → Nat) (l : List α) : sumL (fun k => f k + 1) l = l.length + sumL f l := by
  induction l with
  | nil => rfl
  | cons x r ih => simp only [sumL, List.length_cons, ih]; omega

theorem leftK_succ {α : Type} (f : α → Nat) (l : List α) (k : Nat) (left : Int) (h : k < l.length) : leftK f l (k + 1) left = leftB (f l[k]) (leftK f l k left) := by
  unfold leftK; rw [leftB_add, sumL_take_succ _ _ _ h]; congr 1; omega

/-- szTree at trees of at most n levels. -/
def SzSaid (n : Nat) : Prop := ∀ (S : Nat → Prop) (t : T n) (c0 c1 c2 c3 c4 : Value) (left : Int) (w : World), TreeIn S w n t c0 c1 c2 c3 c4 → (∀ b, S b → b < w.heap.size) → -1 ≤ left → left ≤ 1048576 →
  Calls Try.prog 18 #[.agg #[c0, c1, c2, c3, c4], .int .i64 left] w fun e w' => e = .returned (.int .i64 (leftB (szT n t) left)) ∧ Below w.heap.size w w'

set_option maxHeartbeats 400000 in
theorem szTreeS_any (n : Nat) (hn : SzSaid n) (S : Nat → Prop) (l : List (T n)) (v : Value) (left : Int) (w : World) (hl : RowIn S w (TreeIn S w n) l v) (hB : ∀ b, S b → b < w.heap.size) (h0 : -1 ≤ left) (h1 : left ≤ 1048576) :
    Calls Try.prog 36 #[v, .int .i64 left] w fun e w' => e = .returned (.int .i64 (leftB (sumL (fun k => szT n k + 1) l) left)) ∧ Below w.heap.size w w' := by
  obtain ⟨ao, cap, rfl, hlen, hc⟩ := hl
  unfold maxLen at hlen
  by_cases hneg : left - l.length < 0
  · go_enter Try.func36, Try.ntmps36
    go_wp2
    go_ret
    exact ⟨ret_int (by rw [leftB, sumL_one, if_neg (by omega)]), Below.refl _ _⟩
  go_enter Try.func36, Try.ntmps36
  go_wp2
  go_loopw [1, 5] (fun a i wr => ∃ k : Nat, k ≤ l.length ∧ i = .int .i64 k ∧ a = .int .i64 (leftK (szT n) l k left) ∧ 0 ≤ leftK (szT n) l k left ∧ Below w.heap.size w wr) (fun _ i _ => l.length - (intOf i).toNat)
  case atStart =>
    have e : leftK (szT n) l 0 left = left - l.length := by simp [leftK, leftB, sumL]; omega
    exact ⟨0, Nat.zero_le _, rfl, by rw [e], by rw [e]; omega, Below.refl _ _⟩
  case round =>
    obtain ⟨k, hk, rfl, rfl, hpos, hbel⟩ := hrel
    have hub := (leftB_le (l.length + sumL (szT n) (l.take k)) left h1).2
    change leftK (szT n) l k left ≤ 1048576 at hub
    by_cases hlt : k < l.length
    · obtain ⟨b, off, rfl, hbB, hcell⟩ := hc (by intro h; rw [h] at hlt; simp at hlt)
      obtain ⟨d0, d1, d2, d3, d4, e0, e1, e2, e3, e4, hr⟩ := hcell k hlt
      have f0 := (hbel.cell (p := ⟨b, off + k * 5, none⟩) (hB b hbB)).trans e0
      have f1 := (hbel.cell (p := ⟨b, off + k * 5 + 1, none⟩) (hB b hbB)).trans e1
      have f2 := (hbel.cell (p := ⟨b, off + k * 5 + 2, none⟩) (hB b hbB)).trans e2
      have f3 := (hbel.cell (p := ⟨b, off + k * 5 + 3, none⟩) (hB b hbB)).trans e3
      have f4 := (hbel.cell (p := ⟨b, off + k * 5 + 4, none⟩) (hB b hbB)).trans e4
      clear hc hcell e0 e1 e2 e3 e4
      have hr' := hr.keep (same_below hbel hB) (fun _ h => h)
      have hsz := hbel.size
      have HL : Hid (leftK (szT n) l (k + 1) left = leftB (szT n l[k]) (leftK (szT n) l k left)) := leftK_succ _ _ _ _ hlt
      have HM : Hid (leftK (szT n) l (k + 1) left = -1 → leftB (sumL (fun k => szT n k + 1) l) left = -1) := by
        intro hm
        have := sumL_append (szT n) (l.take (k + 1)) (l.drop (k + 1))
        rw [List.take_append_drop] at this
        rw [sumL_one]
        unfold leftK leftB at hm
        unfold leftB
        rw [if_neg]
        intro hle
        rw [if_pos (by omega)] at hm
        omega
      clear hr
      go_wp2_with fail
      refine (hn S l[k] d0 d1 d2 d3 d4 _ wr hr' (fun b hb => Nat.lt_of_lt_of_le (hB b hb) hsz) (by omega) hub).mono ?_
      rintro e w1 ⟨rfl, hb1⟩
      rw [← HL.out]
      have hbd := leftB_le (szT n l[k]) (leftK (szT n) l k left) hub
      rw [← HL.out] at hbd
      have hbel1 := hbel.trans (hb1.mono hsz)
      clear HL hb1 f0 f1 f2 f3 f4 hr' hbel
      generalize hm : leftK (szT n) l (k + 1) left = m at *
      have Hm := hm
      have HM2 := hidF HM
      have HE := hidF hm
      clear HM hm Hm
      go_wp2_with fail
      · go_ret
        refine ⟨ret_int ?_, hbel1⟩
        rw [HM2.out (by omega)]
      · go_roundw
        case rel => exact ⟨k + 1, by omega, by go_num, by rw [HE.out], by rw [HE.out]; omega, hbel1⟩
        case measure => simp [intOf]; omega
    · have hkl : k = l.length := by omega
      have HE : Hid (leftK (szT n) l k left = leftB (sumL (fun k => szT n k + 1) l) left) := by
        show _ = _
        unfold leftK; rw [sumL_one, hkl, List.take_length]
      clear hkl hc
      go_wp2_with fail
      go_ret
      exact ⟨ret_int HE.out, hbel⟩

set_option maxHeartbeats 400000 in
theorem szTree_step (n : Nat) (hn : SzSaid n) : SzSaid (n + 1) := by
  intro S t c0 c1 c2 c3 c4 left w ht hB h0 h1
  obtain ⟨rfl, rfl, rfl, hs, -, -, h3, h4⟩ := ht
  have hT : szT (n + 1) t = (Nd.text t).size + szN (Nd.names t) + sumL (fun k => szT n k + 1) (Nd.kids t) := rfl
  have HT := hidF hT
  clear hT
  unfold maxLen at hs
  by_cases hneg : left - (Nd.text t).size < 0
  · go_enter Try.func18, Try.ntmps18
    go_wp2_with fail
    go_ret
    exact ⟨ret_int (by rw [leftB, HT.out, if_neg (by omega)]), (Below.refl _ _).alloc (Nat.le_refl _) _⟩
  have hb0 : Below w.heap.size w (w.alloc (.cells #[.int .i64 (Nd.sort t), .int .i64 (Nd.num t), .string (Nd.text t), c3, c4] 25)) := (Below.refl _ _).alloc (Nat.le_refl _) _
  have h3' := h3.keep (same_below hb0 hB) (fun _ h => h)
  have h4' := h4.keepT (same_below hb0 hB) (fun _ h => h)
  have hbd := leftB_le (szN (Nd.names t)) (left - (Nd.text t).size) (by omega)
  have HA : Hid (leftB (szN (Nd.names t)) (left - (Nd.text t).size) = leftB ((Nd.text t).size + szN (Nd.names t)) left) := by
    show _ = _
    rw [← leftB_add]; congr 1; rw [leftB, if_pos (by omega)]
  clear h3 h4
  go_enter Try.func18, Try.ntmps18
  go_wp2_with fail
  refine (szStringS_any S _ _ _ _ h3' (by omega) (by omega)).mono ?_
  rintro e w1 ⟨rfl, rfl⟩
  rw [HA.out]
  rw [HA.out] at hbd
  generalize hm : leftB ((Nd.text t).size + szN (Nd.names t)) left = m at *
  have HM := hidF hm
  clear hm HA
  by_cases hm0 : m < 0
  · go_wp2_with fail
    go_ret
    refine ⟨ret_int ?_, hb0⟩
    rw [HT.out, ← leftB_add, HM.out, leftB, if_neg (by omega)]
  · go_wp2_with fail
    refine (szTreeS_any n hn S _ _ _ _ h4' (fun b hb => by have := hB b hb; simp; omega) (by omega) (by omega)).mono ?_
    rintro e w1 ⟨rfl, hb1⟩
    have hb2 := below_step hb0 (by simp) hb1
    have hbd2 := leftB_le (sumL (fun k => szT n k + 1) (Nd.kids t)) m (by omega)
    have HF : Hid (leftB (sumL (fun k => szT n k + 1) (Nd.kids t)) m = leftB (szT (n + 1) t) left) := by
      show _ = _
      rw [HT.out, ← leftB_add, HM.out]
    clear hb0 hb1 h3' h4' HM HT
    rw [HF.out]
    rw [HF.out] at hbd2
    generalize hq : leftB (szT (n + 1) t) left = q at *
    have HQ := hidF hq
    clear hq HF
    go_wp2_with fail
    · go_ret
      exact ⟨ret_int (by rw [HQ.out]; omega), hb2⟩
    · go_ret
      exact ⟨ret_int HQ.out.symm, hb2⟩

theorem szTree_any : ∀ n, SzSaid n := by
  intro n
  induction n with
  | zero => intro S t c0 c1 c2 c3 c4 left w ht; exact ht.elim
  | succ n ih => exact szTree_step n ih

end Go.Proofs.Ytpnnbdejneoccaa
