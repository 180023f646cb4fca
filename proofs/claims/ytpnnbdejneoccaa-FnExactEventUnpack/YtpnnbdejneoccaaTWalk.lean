/-
  The program's walker at trees, with the closure by which isOk asks each part; isOk; TreeOk.
-/
import Derived.Test.YtpnnbdejneoccaaB9
import Derived.Test.YtpnnbdejneoccaaB5
import Derived.Test.YtpnnbdejneoccaaB1
namespace Go.Proofs.Ytpnnbdejneoccaa
open Go.RowKit

set_option maxHeartbeats 1000000 in
theorem accT_any (S : Nat → Prop) (s m : Int) (x : ByteArray) (hx : x.size ≤ maxLen) (l : List ByteArray) (na ka : Option Addr) (nc kl kc pb mb ab : Nat) (d p : Int) (w : World) (hl : StrsIn S w l (.slice na l.length nc)) (hB : ∀ b, S b → b < w.heap.size ∧ b ≠ pb)
    (hp : Cap w pb mb ab p 120 64) (hp0 : 0 ≤ p) (hp1 : p ≤ 120) :
    Calls Try.prog 76 #[.agg #[.int .i64 s, .int .i64 m, .string x, .slice na l.length nc, .slice ka kl kc], .int .i64 d, .pointer (some ⟨pb, 0, none⟩), .pointer (some ⟨mb, 0, none⟩), .pointer (some ⟨ab, 0, none⟩)] w
      fun e w' => e = .returned (.bool (decide (p + 1 ≤ 120) && decide (d ≤ 6) && aloneF s m x l kl)) ∧ Prt w' pb (p + 1) ∧ Near pb w w' := by
  have hlt := hp.parts.lt
  have hn0 : Near pb w (w.setCell ⟨pb, 0, none⟩ (.int .i64 (p + 1))) := Near.set pb 0 _ (.int .i64 (p + 1))
  have hn1 := hn0.trans (Near.alloc pb _ (.cells #[.int .i64 s, .int .i64 m, .string x, .slice na l.length nc, .slice ka kl kc] 33))
  have hp' : Prt ((w.setCell ⟨pb, 0, none⟩ (.int .i64 (p + 1))).alloc (.cells #[.int .i64 s, .int .i64 m, .string x, .slice na l.length nc, .slice ka kl kc] 33)) pb (p + 1) := (hp.parts.set (p + 1)).keep ((Below.refl _ _).alloc (Nat.le_refl _) _)
  have hl' := hl.keep (hn1.same hB) (fun _ h => h)
  have HC : Hid (Calls Try.prog 64 _ _ _) := just_any s m x l ka kl kc _ na nc hx S hl' (fun b hb => by have := (hB b hb).1; simp; omega)
  have c0 := hp.parts.cell
  have f0 := hp.parts.free
  have m0 := hp.max
  have a0 := hp.acc
  have nm := hp.nm
  have na' := hp.na
  have hm : mb < w.heap.size := cell_lt0 m0
  have ha : ab < w.heap.size := cell_lt0 a0
  have hne : w.heap.size ≠ pb := by omega
  clear hl hl' hp hn0 hB
  by_cases h1 : p + 1 ≤ 120
  · by_cases h2 : d ≤ 6
    · go_enter Try.func76, Try.ntmps76
      go_wp2_with fail
      refine HC.out.mono ?_
      rintro e w' ⟨rfl, hb1⟩
      have hp2 : Prt w' pb (p + 1) := (hb1.block pb (by simp; omega)).trans hp'
      have hn2 := hn1.trans (Near.of_below (bb := pb) hb1)
      clear hb1 HC
      go_wp2_with fail
      go_ret
      exact ⟨bool_ret (by simp [h1, h2]), hp2, hn2⟩
    · go_enter Try.func76, Try.ntmps76
      go_wp2_with fail
      go_ret
      exact ⟨bool_ret (by rw [decide_eq_false (show ¬ d ≤ 6 by omega)]; simp), hp', hn1⟩
  · go_enter Try.func76, Try.ntmps76
    go_wp2_with fail
    go_ret
    exact ⟨bool_ret (by rw [decide_eq_false (show ¬ p + 1 ≤ 120 by omega)]; simp), hp', hn1⟩

theorem all_take_kidT {α : Type} {p : α → Bool} {l : List α} (k : Nat) (h : k < l.length) (ht : (l.take k).all p = true) (hf : p l[k] = true) : (l.take (k + 1)).all p = true := by
  rw [List.take_succ_eq_append_getElem h, List.all_append, ht]; simpa using hf

/-- What walk does with a tree. -/
def WalkTPost (n : Nat) (t : T n) (d p : Int) (pb : Nat) (w : World) (e : Ending) (w' : World) : Prop :=
  Near pb w w' ∧ ∃ r, e = .returned (.bool r) ∧ (r = true → goodT n t d = true ∧ p + (cntT n t : Int) ≤ 120 ∧ Prt w' pb (p + cntT n t)) ∧ (r = false → ¬ (goodT n t d = true ∧ p + (cntT n t : Int) ≤ 120))

/-- The closure of isOk. -/
def clT (pb mb ab : Nat) : Value := .func (.func 76) #[] #[.pointer (some ⟨pb, 0, none⟩), .pointer (some ⟨mb, 0, none⟩), .pointer (some ⟨ab, 0, none⟩)]

/-- walk at trees of at most n levels. -/
def WalkTSaid (n : Nat) : Prop := ∀ (S : Nat → Prop) (t : T n) (c0 c1 c2 c3 c4 : Value) (d p : Int) (pb mb ab : Nat) (w : World), TreeIn S w n t c0 c1 c2 c3 c4 → (∀ b, S b → b < w.heap.size ∧ b ≠ pb) → Cap w pb mb ab p 120 64 → 0 ≤ p → p ≤ 120 → 1 ≤ d → d ≤ 7 →
  Calls Try.prog 75 #[.agg #[c0, c1, c2, c3, c4], .int .i64 d, clT pb mb ab] w (WalkTPost n t d p pb w)

set_option maxHeartbeats 1200000 in
theorem kidsT_any (a b c d e : Value) (ha : ∃ x l k, e = .slice x l k) (w : World) : Calls Try.prog 98 #[.agg #[a, b, c, d, e]] w fun e' w' => e' = .returned e ∧ Below w.heap.size w w' := by
  obtain ⟨x, l, k, rfl⟩ := ha
  have hb0 := (Below.refl w.heap.size w).alloc (Nat.le_refl _) (.cells #[a, b, c, d, .slice x l k] 33)
  go_enter Try.func98, Try.ntmps98
  go_wp2_with fail
  go_ret
  exact ⟨rfl, hb0⟩

theorem walkT_bad {n : Nat} {t : T (n + 1)} {d p : Int} (k : Nat) (hk : k < (Nd.kids t).length)
    (h : ¬ (goodT n (Nd.kids t)[k] (d + 1) = true ∧ p + 1 + (sumL (fun x => cntT n x) ((Nd.kids t).take k) : Int) + (cntT n (Nd.kids t)[k] : Int) ≤ 120)) : ¬ (goodT (n + 1) t d = true ∧ p + (cntT (n + 1) t : Int) ≤ 120) := by
  rintro ⟨h1, h2⟩
  apply h
  simp only [goodT, Bool.and_eq_true, List.all_eq_true] at h1
  refine ⟨h1.2 _ (List.getElem_mem hk), ?_⟩
  have e := sumL_take_succ (fun x => cntT n x) (Nd.kids t) k hk
  have e2 := sumL_append (fun x => cntT n x) ((Nd.kids t).take (k + 1)) ((Nd.kids t).drop (k + 1))
  rw [List.take_append_drop] at e2
  simp only [cntT] at h2
  omega

set_option maxRecDepth 100000 in
set_option maxHeartbeats 1000000 in
theorem walkT_step (n : Nat) (hn : WalkTSaid n) : WalkTSaid (n + 1) := by
  intro S t c0 c1 c2 c3 c4 d p pb mb ab w ht hB hcap hp0 hp1 hd1 hd7

  obtain ⟨rfl, rfl, rfl, hsx, -, -, h3, h4⟩ := ht
  obtain ⟨na, nc, rfl, -, -, -⟩ := id h3
  obtain ⟨ka, kc, rfl, hlen, -⟩ := id h4
  unfold maxLen at hlen
  have hlt := hcap.parts.lt
  generalize hs : Nd.sort t = s at *
  have hb0 := (Below.refl w.heap.size w).alloc (Nat.le_refl _) (.cells #[.int .i64 s, .int .i64 (Nd.num t), .string (Nd.text t), .slice na (Nd.names t).length nc, .slice ka (Nd.kids t).length kc] 33)
  have hn0 : Near pb w (w.alloc (.cells #[.int .i64 s, .int .i64 (Nd.num t), .string (Nd.text t), .slice na (Nd.names t).length nc, .slice ka (Nd.kids t).length kc] 33)) := Near.of_below hb0
  have h3' := h3.keep (hn0.same hB) (fun _ h => h)
  have HC : Hid (Calls Try.prog 76 _ _ _) := accT_any S s (Nd.num t) (Nd.text t) hsx (Nd.names t) na ka nc (Nd.kids t).length kc pb mb ab d p _ h3' (fun b hb => by have := hB b hb; simp; omega) (hcap.keep hn0 (hcap.parts.keep hb0)) hp0 hp1
  unfold clT
  go_enter Try.func75, Try.ntmps75
  go_wp2_with fail
  refine HC.out.mono ?_
  rintro e w1 ⟨rfl, hp2, hn1⟩
  have hn2 := hn0.trans hn1
  have hcap2 := hcap.keep hn2 hp2
  have hz2 := hn2.size
  have hz1 : w.heap.size < w1.heap.size := by have := hn1.size; simp at this; omega
  have k0 : w1.cell? ⟨w.heap.size, 0, none⟩ = some (.int .i64 s) := hn1.cell (by simp [go_sem]) (by omega)
  have k1 : w1.cell? ⟨w.heap.size, 1, none⟩ = some (.int .i64 (Nd.num t)) := hn1.cell (by simp [go_sem]) (by omega)
  have k2 : w1.cell? ⟨w.heap.size, 2, none⟩ = some (.string (Nd.text t)) := hn1.cell (by simp [go_sem]) (by omega)
  have k3 : w1.cell? ⟨w.heap.size, 3, none⟩ = some (.slice na (Nd.names t).length nc) := hn1.cell (by simp [go_sem]) (by omega)
  have k4 : w1.cell? ⟨w.heap.size, 4, none⟩ = some (.slice ka (Nd.kids t).length kc) := hn1.cell (by simp [go_sem]) (by omega)
  have h4' := h4.keepT (hn2.same hB) (fun _ h => h)
  clear HC hn0 hb0 h3' hn1 h3 h4
  generalize hok : (decide (p + 1 ≤ 120) && decide (d ≤ 6) && aloneF s (Nd.num t) (Nd.text t) (Nd.names t) (Nd.kids t).length) = ok
  cases ok with
  | false =>
    have HP : Hid (WalkTPost (n + 1) t d p pb w (.returned (.bool false)) w1) := by
      refine ⟨hn2, false, rfl, fun h => (by cases h), fun _ => ?_⟩
      rintro ⟨hg, hc⟩
      simp only [goodT, Bool.and_eq_true, decide_eq_true_eq] at hg
      have ha : aloneF s (Nd.num t) (Nd.text t) (Nd.names t) (Nd.kids t).length = true := by rw [← hs]; exact hg.1.2
      have : p + 1 ≤ 120 := by simp only [cntT] at hc; omega
      rw [ha, decide_eq_true hg.1.1, decide_eq_true this] at hok
      cases hok
    clear hok hs
    go_wp2_with fail
    go_ret
    exact HP.out
  | true =>
    simp only [Bool.and_eq_true, decide_eq_true_eq] at hok
    have HAL : Hid ((decide (d ≤ 6) && aloneB (show Nd (T n) from t)) = true) := by show (_ && aloneF (Nd.sort t) _ _ _ _) = _; rw [hs, hok.2, decide_eq_true hok.1.2]; rfl
    obtain ⟨⟨ho1, ho2⟩, -⟩ := hok
    clear hs
    go_wp2_with fail
    refine (kidsT_any _ _ _ _ _ ⟨_, _, _, rfl⟩ _).mono ?_
    rintro e w2 ⟨rfl, hb2⟩
    have hn3 : Near pb w w2 := hn2.trans (Near.of_below hb2)
    have hp3 : Prt w2 pb (p + 1) := hp2.keep hb2
    have hz3 := hb2.size
    have h5 := h4'.keepT ((Near.of_below (bb := pb) hb2).same (fun b hb => by have := hB b hb; omega)) (fun _ h => h)
    clear h4' hb2 hcap2 hn2 hp2 k0 k1 k2 k3 k4
    obtain ⟨_, _, hkv, -, hkids⟩ := h5
    cases hkv
    go_wp2_with fail
    go_loopw [18] (fun i wr => ∃ k : Nat, k ≤ (Nd.kids t).length ∧ i = .int .i64 k ∧ Near pb w2 wr ∧ Prt wr pb (p + 1 + (sumL (fun x => cntT n x) ((Nd.kids t).take k) : Int)) ∧
        p + 1 + (sumL (fun x => cntT n x) ((Nd.kids t).take k) : Int) ≤ 120 ∧ ((Nd.kids t).take k).all (fun x => goodT n x (d + 1)) = true) (fun i _ => (Nd.kids t).length - (intOf i).toNat)
    case atStart => exact ⟨0, Nat.zero_le _, rfl, Near.refl _ _, by simpa [sumL] using hp3, by simpa [sumL] using ho1, by simp⟩
    case round =>
      obtain ⟨k, hk, rfl, hnr, hpr, hfew, hall⟩ := hrel
      have HALL := hidF hall
      clear hall
      have hzr := hnr.size
      have hn4 := hn3.trans hnr
      have hltr := hpr.lt
      by_cases hlt : k < (Nd.kids t).length
      · obtain ⟨b, off, rfl, hbB, hcell⟩ := hkids (by intro h; rw [h] at hlt; simp at hlt)
        obtain ⟨x0, x1, x2, x3, x4, e0, e1, e2, e3, e4, hr⟩ := hcell k hlt
        have hbb := hB b hbB
        have f0 := hnr.cell e0 hbb.2
        have f1 := hnr.cell e1 hbb.2
        have f2 := hnr.cell e2 hbb.2
        have f3 := hnr.cell e3 hbb.2
        have f4 := hnr.cell e4 hbb.2
        have q := hr.keep (hnr.same (fun b hb => by have := hB b hb; omega)) (fun _ h => h)
        obtain ⟨y0, y1, y2, ya, yl, yc, za, zl, zc, rfl, rfl, rfl, rfl, rfl⟩ := q.shape
        clear hkids hcell e0 e1 e2 e3 e4 hr
        have hb5 := (Below.refl wr.heap.size wr).alloc (Nat.le_refl _) (.cells #[.int .i64 y0, .int .i64 y1, .string y2, .slice ya yl yc, .slice za zl zc] 33)
        have hn5 : Near pb wr (wr.alloc (.cells #[.int .i64 y0, .int .i64 y1, .string y2, .slice ya yl yc, .slice za zl zc] 33)) := Near.of_below hb5
        have q5 := q.keep (hn5.same (fun b hb => by have := hB b hb; omega)) (fun _ h => h)
        have hcap5 := hcap.keep (hn4.trans hn5) (hpr.keep hb5)
        have HC : Hid (Calls Try.prog 75 _ _ _) := hn S (Nd.kids t)[k] _ _ _ _ _ (d + 1) _ pb mb ab _ q5 (fun b hb => by have := hB b hb; simp; omega) hcap5 (by omega) hfew (by omega) (by omega)
        have HBad := @walkT_bad n t d p k hlt
        have HSum : Hid (sumL (fun x => cntT n x) ((Nd.kids t).take (k + 1)) = sumL (fun x => cntT n x) ((Nd.kids t).take k) + cntT n (Nd.kids t)[k]) := sumL_take_succ _ _ _ hlt
        clear q q5 hcap5 hb5
        unfold clT at HC
        go_wp2_with fail
        refine HC.out.mono ?_
        rintro e w3 ⟨hn6, r, rfl, hyes, hno⟩
        have hn7 := hnr.trans (hn5.trans hn6)
        cases r with
        | false =>
          have HP : Hid (WalkTPost (n + 1) t d p pb w (.returned (.bool false)) w3) := ⟨hn3.trans hn7, false, rfl, fun h => (by cases h), fun _ => HBad (hno rfl)⟩
          clear HBad hno hyes HSum HALL hn6 hn7 hn5 hn4
          go_wp2_with fail
          go_ret
          exact HP.out
        | true =>
          obtain ⟨hg, hc, hp6⟩ := hyes rfl
          have HR : Hid (Near pb w2 w3 ∧ Prt w3 pb (p + 1 + (sumL (fun x => cntT n x) ((Nd.kids t).take (k + 1)) : Int)) ∧ p + 1 + (sumL (fun x => cntT n x) ((Nd.kids t).take (k + 1)) : Int) ≤ 120 ∧ ((Nd.kids t).take (k + 1)).all (fun x => goodT n x (d + 1)) = true) := by
            refine ⟨hn7, ?_, ?_, all_take_kidT k hlt HALL.out hg⟩
            · rw [HSum.out, show p + 1 + ((sumL (fun x => cntT n x) ((Nd.kids t).take k) + cntT n (Nd.kids t)[k] : Nat) : Int) = p + 1 + (sumL (fun x => cntT n x) ((Nd.kids t).take k) : Int) + (cntT n (Nd.kids t)[k] : Int) by omega]
              exact hp6
            · rw [HSum.out]; omega
          clear HBad hno hyes HSum HALL hn6 hn7 hn5 hn4 hg hc hp6 hpr hfew
          go_wp2_with fail
          go_roundw
          case rel => exact ⟨k + 1, by omega, by go_num, HR.out.1, HR.out.2.1, HR.out.2.2.1, HR.out.2.2.2⟩
          case measure => simp [intOf]; omega
      · have hkl : k = (Nd.kids t).length := by omega
        have HP : Hid (WalkTPost (n + 1) t d p pb w (.returned (.bool true)) wr) := by
          have h1 := HALL.out
          rw [hkl, List.take_length] at h1 hpr hfew
          have e : p + 1 + (sumL (fun x => cntT n x) (Nd.kids t) : Int) = p + (cntT (n + 1) t : Int) := by simp only [cntT]; omega
          rw [e] at hpr hfew
          exact ⟨hn4, true, rfl, fun _ => ⟨by have := HAL.out; simp only [goodT, this, h1, Bool.and_self], hfew, hpr⟩, fun h => (by cases h)⟩
        clear hkl hkids HALL hn4 hpr hfew
        go_wp2_with fail
        go_ret
        exact HP.out

theorem walkT_any : ∀ n, WalkTSaid n := by
  intro n
  induction n with
  | zero => intro S t c0 c1 c2 c3 c4 d p pb mb ab w ht; exact ht.elim
  | succ n ih => exact walkT_step n ih

set_option maxRecDepth 100000 in
set_option maxHeartbeats 1000000 in
theorem isOkT_any (n : Nat) (S : Nat → Prop) (t : T n) (c0 c1 c2 c3 c4 : Value) (w : World) (ht : TreeIn S w n t c0 c1 c2 c3 c4) (hB : ∀ b, S b → b < w.heap.size) :
    Calls Try.prog 63 #[.agg #[c0, c1, c2, c3, c4], .int .i64 120, .func (.func 64) #[] #[]] w fun e w' => e = .returned (.bool (okT n t)) ∧ Below w.heap.size w w' := by
  have hmf : ∀ (fn : Fn) (first cap : Array Value) (w : World), (Instr.makeFunc fn first cap).run Try.prog w = .ok (.func fn first cap) w := fun _ _ _ _ => rfl
  obtain ⟨x0, x1, x2, xa, xl, xc, ya, yl, yc, rfl, rfl, rfl, rfl, rfl⟩ := ht.shape
  have hb : Below w.heap.size w ((((w.alloc (.cells #[.int .i64 x0, .int .i64 x1, .string x2, .slice xa xl xc, .slice ya yl yc] 33)).alloc (.cells #[.int .i64 120] 3)).alloc (.cells #[.func (.func 64) #[] #[]] 76)).alloc (.cells #[.int .i64 0] 3)) :=
    ((((Below.refl _ _).alloc (Nat.le_refl _) _).alloc (by simp) _).alloc (by simp; omega) _).alloc (by simp; omega) _
  have ht' := ht.keep (same_below hb hB) (fun _ h => h)
  have HC : Hid (Calls Try.prog 75 _ _ _) := walkT_any n S t _ _ _ _ _ 1 0 (w.heap.size + 1 + 1 + 1) (w.heap.size + 1) (w.heap.size + 1 + 1) _ ht' (fun b hb => by have := hB b hb; simp; omega)
    ⟨by rw [show w.heap.size + 1 + 1 + 1 = (((w.alloc (.cells #[.int .i64 x0, .int .i64 x1, .string x2, .slice xa xl xc, .slice ya yl yc] 33)).alloc (.cells #[.int .i64 120] 3)).alloc (.cells #[.func (.func 64) #[] #[]] 76)).heap.size by simp]; exact Prt.new _ 0,
      by simp [go_sem], by simp [go_sem], by omega, by omega⟩ (by omega) (by omega) (by omega) (by omega)
  unfold clT at HC
  clear ht ht'
  go_enter Try.func63, Try.ntmps63
  go_wp2_with fail
  refine HC.out.mono ?_
  rintro e w1 ⟨hn, r, rfl, hyes, hno⟩
  have hb1 : Below w.heap.size w w1 := hb.trans (hn.below (by omega) (by simp; omega))
  have hr : r = okT n t := by
    cases r with
    | true =>
      obtain ⟨h1, h2, -⟩ := hyes rfl
      unfold okT; rw [h1, decide_eq_true (by omega)]; rfl
    | false =>
      symm
      rw [Bool.eq_false_iff]
      intro h
      simp only [okT, Bool.and_eq_true, decide_eq_true_eq] at h
      exact hno rfl ⟨h.1, by omega⟩
  clear hyes hno hn hb HC
  go_wp2_with fail
  go_ret
  exact ⟨rfl, hb1⟩

set_option maxRecDepth 100000 in
set_option maxHeartbeats 1200000 in
theorem implOk_any (n : Nat) (S : Nat → Prop) (t : T n) (c0 c1 c2 c3 c4 : Value) (w : World) (ht : TreeIn S w n t c0 c1 c2 c3 c4) (hB : ∀ b, S b → b < w.heap.size) :
    Calls Try.prog 44 #[.agg #[c0, c1, c2, c3, c4]] w fun e w' => e = .returned (.bool (okT n t)) ∧ Below w.heap.size w w' := by
  obtain ⟨x0, x1, x2, xa, xl, xc, ya, yl, yc, rfl, rfl, rfl, rfl, rfl⟩ := ht.shape
  have hb0 := (Below.refl w.heap.size w).alloc (Nat.le_refl _) (.cells #[.int .i64 x0, .int .i64 x1, .string x2, .slice xa xl xc, .slice ya yl yc] 33)
  obtain ⟨ht0, hB0⟩ := ht.step hB hb0
  have HC : Hid (Calls Try.prog 63 _ _ _) := isOkT_any n S t _ _ _ _ _ _ ht0 hB0
  clear ht ht0
  go_enter Try.func44, Try.ntmps44
  go_wp2_with fail
  refine HC.out.mono ?_
  rintro e w1 ⟨rfl, hb1⟩
  have hb2 := below_step hb0 (by simp) hb1
  clear hb0 hb1 HC
  go_wp2_with fail
  go_ret
  exact ⟨rfl, hb2⟩

end Go.Proofs.Ytpnnbdejneoccaa
