/-
  The program's reader of schemas: kind.
-/
import Derived.Test.YtkaannpoldenkagKForm
namespace Go.Proofs.Ytkaannpoldenkag
open Go.RowKit

theorem zero_kind {w : World} {N : Nat} (h : w.heap[N]? = some (.cells #[.int .i64 0, .slice none 0 0, .slice none 0 0] 30 (0, 0))) :
    (w.cell? ⟨N, 0, none⟩ = some (.int .i64 0) ∧ w.cell? ⟨N, 1, none⟩ = some (.slice none 0 0) ∧ w.cell? ⟨N, 2, none⟩ = some (.slice none 0 0)) ∧
      w.frozen? ⟨N, 0, none⟩ = false ∧ w.frozen? ⟨N, 1, none⟩ = false ∧ w.frozen? ⟨N, 2, none⟩ = false := by
  refine ⟨⟨?_, ?_, ?_⟩, ?_, ?_, ?_⟩ <;> simp [World.cell?, World.frozen?, h]

theorem Scan.alloc {R : Nat} {w w1 : World} {q : Nat} {o : Obj} (h : Scan R (w.alloc o) w1 q) (hR : R < w.heap.size) : Scan R w w1 q :=
  ⟨(Near.alloc R w o).trans h.near, fun p hp => (h.cells p hp).trans (World.cell?_of_block (w := w) (w' := w.alloc o) (a := ⟨R, p, none⟩) (Below.heap_alloc _ _ _ hR)), h.at1, fun p => (h.fz p).trans (by
    have : (w.alloc o).heap[R]? = w.heap[R]? := Below.heap_alloc _ _ _ hR
    simp only [World.frozen?, this])⟩

/-- The way out of kind. -/
theorem kr_exit {R i m q : Nat} {s : ByteArray} {w W : World} {k : K (m + 1)} {g0 g1 g2 : Value} (hS : Scan R w W q) (hR : R < w.heap.size) (hp : parseK (m + 1) (s.data.toList.drop i) = some (k, s.data.toList.drop q)) (hiq : i < q) (hq : q ≤ s.size)
    (hk : KindIn (fun b => w.heap.size + 1 ≤ b ∧ b < W.heap.size) W (m + 1) k g0 g1 g2) : KRPost R s i (m + 1) w (.returned (.agg #[g0, g1, g2])) (put3 W w.heap.size 0 g0 g1 g2) := by
  have q : ∀ b, b ≠ w.heap.size → (put3 W w.heap.size 0 g0 g1 g2).heap[b]? = W.heap[b]? := fun b h => put3_other h
  have hz : (put3 W w.heap.size 0 g0 g1 g2).heap.size = W.heap.size := put3_size
  have hn : Near R w (put3 W w.heap.size 0 g0 g1 g2) := ⟨hS.near.os, hS.near.tape, hS.near.output, by rw [hz]; exact hS.near.size, fun b hb hne => (q b (by omega)).trans (hS.near.block b hb hne)⟩
  refine .inl ⟨k, _, g0, g1, g2, hp, hiq, hq, rfl, hk.keep (fun b hb => q b (by omega)) (fun b hb => ⟨by omega, by rw [hz]; exact hb.2⟩), hS.same hn (q R (by omega))⟩

theorem leaf_in (S : Nat → Prop) (w : World) (m : Nat) (x : Int) (hx : (Lit.int .i64 x).wf = true) : KindIn S w (m + 1) (⟨x, [], []⟩ : Kd (K m)) (.int .i64 x) (.slice none 0 0) (.slice none 0 0) :=
  ⟨rfl, hx, ⟨none, 0, rfl, by simp [maxLen], fun s h => (by cases h), fun h => absurd rfl h⟩, ⟨none, 0, rfl, by simp [maxLen], fun h => absurd rfl h⟩⟩

theorem one_in {S : Nat → Prop} {w : World} {m : Nat} {x : Int} {t : K m} {b c : Nat} {c0 c1 c2 : Value} (hx : (Lit.int .i64 x).wf = true) (hb : S b) (h0 : w.cell? ⟨b, 0, none⟩ = some c0) (h1 : w.cell? ⟨b, 1, none⟩ = some c1) (h2 : w.cell? ⟨b, 2, none⟩ = some c2) (ht : KindIn S w m t c0 c1 c2) :
    KindIn S w (m + 1) (⟨x, [], [t]⟩ : Kd (K m)) (.int .i64 x) (.slice none 0 0) (.slice (some ⟨b, 0, none⟩) 1 c) := by
  refine ⟨rfl, hx, ⟨none, 0, rfl, by simp [maxLen], fun s h => (by cases h), fun h => absurd rfl h⟩, ⟨some ⟨b, 0, none⟩, c, rfl, by simp [maxLen], fun _ => ⟨b, 0, rfl, hb, fun i hi => ?_⟩⟩⟩
  have : i = 0 := by simpa using hi
  subst this
  exact ⟨c0, c1, c2, by simpa using h0, by simpa using h1, by simpa using h2, ht⟩

theorem pk_list {m : Nat} {l r : List UInt8} (h1 : eatP [110, 117, 109] l = none) (h2 : eatP [116, 101, 120, 116] l = none) (h3 : eatP [102, 108, 97, 103] l = none) (h4 : eatP [91] l = some r) :
    (oneQ (parseK m) [93] r = none → parseK (m + 1) l = none) ∧ (∀ k r', oneQ (parseK m) [93] r = some (k, r') → parseK (m + 1) l = some ((⟨4, [], [k]⟩ : Kd (K m)), r')) := by
  refine ⟨fun h => ?_, fun k r' h => ?_⟩
  · simp only [parseK, h1, h2, h3, h4, h]
  · simp only [parseK, h1, h2, h3, h4, h]; rfl
theorem pk_maybe {m : Nat} {l r : List UInt8} (h1 : eatP [110, 117, 109] l = none) (h2 : eatP [116, 101, 120, 116] l = none) (h3 : eatP [102, 108, 97, 103] l = none) (h4 : eatP [91] l = none) (h5 : eatP [63] l = some r) :
    (parseK m r = none → parseK (m + 1) l = none) ∧ (∀ k r', parseK m r = some (k, r') → parseK (m + 1) l = some ((⟨6, [], [k]⟩ : Kd (K m)), r')) := by
  refine ⟨fun h => ?_, fun k r' h => ?_⟩
  · simp only [parseK, oneQ, h1, h2, h3, h4, h5, h]
  · simp only [parseK, oneQ, eatP_nil, h1, h2, h3, h4, h5, h]; rfl
theorem pk_form {m : Nat} {l : List UInt8} (h1 : eatP [110, 117, 109] l = none) (h2 : eatP [116, 101, 120, 116] l = none) (h3 : eatP [102, 108, 97, 103] l = none) (h4 : eatP [91] l = none) (h5 : eatP [63] l = none) :
    (eatP [123] l = none → parseK (m + 1) l = none) ∧ (∀ r, eatP [123] l = some r → (formQ (parseK m) (r.length + 1) [] [] r = none → parseK (m + 1) l = none) ∧ (∀ ns ks r', formQ (parseK m) (r.length + 1) [] [] r = some (ns, ks, r') → parseK (m + 1) l = some ((⟨5, ns, ks⟩ : Kd (K m)), r'))) := by
  refine ⟨fun h => ?_, fun r h => ⟨fun h' => ?_, fun ns ks r' h' => ?_⟩⟩
  · simp only [parseK, h1, h2, h3, h4, h5, h]
  · simp only [parseK, h1, h2, h3, h4, h5, h, h']
  · simp only [parseK, h1, h2, h3, h4, h5, h, h']; rfl
theorem oneQ_none {α : Type} {f : List UInt8 → Option (α × List UInt8)} {c s : List UInt8} (h : f s = none) : oneQ f c s = none := by simp only [oneQ, h]
theorem oneQ_shut {α : Type} {f : List UInt8 → Option (α × List UInt8)} {c s r : List UInt8} {k : α} (h : f s = some (k, r)) (h2 : eatP c r = none) : oneQ f c s = none := by simp only [oneQ, h, h2]
theorem oneQ_yes {α : Type} {f : List UInt8 → Option (α × List UInt8)} {c s r r' : List UInt8} {k : α} (h : f s = some (k, r)) (h2 : eatP c r = some r') : oneQ f c s = some (k, r') := by simp only [oneQ, h, h2]

set_option maxRecDepth 100000 in
set_option maxHeartbeats 4000000 in
theorem kind_step (m : Nat) (hm : KRSaid m) : KRSaid (m + 1) := by
  intro R s i w h hi hs hlt
  have hR := h.lt
  obtain ⟨W, hW⟩ : ∃ W, W = w.alloc (.cells #[.int .i64 0, .slice none 0 0, .slice none 0 0] 30) := ⟨_, rfl⟩
  have hzW : W.heap.size = w.heap.size + 1 := by rw [hW]; simp
  have hb0 : Below w.heap.size w W := by rw [hW]; exact (Below.refl _ _).alloc (Nat.le_refl _) _
  have HZ : Hid (W.heap[w.heap.size]? = some (.cells #[.int .i64 0, .slice none 0 0, .slice none 0 0] 30 (0, 0))) := by rw [hW]; exact heap_alloc_new _ _
  have HS0 : Hid (Scan R w W i) := (Scan.refl h).below hb0 hR
  have HSc : Hid (Sc w R s i) := h
  have HM : Hid (KRSaid m) := hm
  have HZ1 : Hid (∀ W1 q, Scan R W W1 q → W1.heap[w.heap.size]? = some (.cells #[.int .i64 0, .slice none 0 0, .slice none 0 0] 30 (0, 0))) := fun W1 q hq => (hq.near.block w.heap.size (by omega) (by omega)).trans HZ.out
  have HC1 : Hid (Calls Try.prog 82 #[.pointer (some ⟨R, 0, none⟩), .string ⟨#[110, 117, 109]⟩] W _) := skip_any W R s ⟨#[110, 117, 109]⟩ i (HS0.out.sc h) hs (by decide) hi
  clear h hm
  go_enter Try.func65, Try.ntmps65
  go_wp2_with fail
  rw [← hW]
  clear hW
  refine HC1.out.mono ?_
  rintro e w1 (⟨p1, rfl, p2, p3⟩ | ⟨p1, rfl, p2⟩)
  · have p1 : eatP [110, 117, 109] (s.data.toList.drop i) = some (s.data.toList.drop (i + 3)) := p1
    have p2 : Scan R W w1 (i + 3) := p2
    have HP : Hid (KRPost R s i (m + 1) w (.returned (.agg #[.int .i64 1, .slice none 0 0, .slice none 0 0])) (put3 w1 w.heap.size 0 (.int .i64 1) (.slice none 0 0) (.slice none 0 0))) :=
      kr_exit (HS0.out.trans p2) hR (by simp only [parseK, p1]) (by omega) p3 (leaf_in _ _ m 1 rfl)
    obtain ⟨⟨r0, r1, r2⟩, f0, f1, f2⟩ := zero_kind (HZ1.out w1 _ p2)
    clear p1 p2 p3 HC1
    go_wp2_with fail
    refine bodyPost_ret (v := .agg #[.int .i64 1, .slice none 0 0, .slice none 0 0]) (by simp [results, Try.results65, go_sem, r0, r1, r2]) rfl ?_
    exact HP.out
  have HP1 : Hid (eatP [110, 117, 109] (s.data.toList.drop i) = none) := p1
  have HS1 : Hid (Scan R W w1 i) := p2
  have HC2 : Hid (Calls Try.prog 82 #[.pointer (some ⟨R, 0, none⟩), .string ⟨#[116, 101, 120, 116]⟩] w1 _) := skip_any w1 R s ⟨#[116, 101, 120, 116]⟩ i ((HS0.out.trans p2).sc HSc.out) hs (by decide) hi
  clear p1 p2 HC1
  go_wp2_with fail
  refine HC2.out.mono ?_
  rintro e w2 (⟨p1, rfl, p2, p3⟩ | ⟨p1, rfl, p2⟩)
  · have p1 : eatP [116, 101, 120, 116] (s.data.toList.drop i) = some (s.data.toList.drop (i + 4)) := p1
    have p2 : Scan R W w2 (i + 4) := HS1.out.trans p2
    have HP : Hid (KRPost R s i (m + 1) w (.returned (.agg #[.int .i64 2, .slice none 0 0, .slice none 0 0])) (put3 w2 w.heap.size 0 (.int .i64 2) (.slice none 0 0) (.slice none 0 0))) :=
      kr_exit (HS0.out.trans p2) hR (by simp only [parseK, HP1.out, p1]) (by omega) p3 (leaf_in _ _ m 2 rfl)
    obtain ⟨⟨r0, r1, r2⟩, f0, f1, f2⟩ := zero_kind (HZ1.out w2 _ p2)
    clear p1 p2 p3 HC2
    go_wp2_with fail
    refine bodyPost_ret (v := .agg #[.int .i64 2, .slice none 0 0, .slice none 0 0]) (by simp [results, Try.results65, go_sem, r0, r1, r2]) rfl ?_
    exact HP.out
  have HP2 : Hid (eatP [116, 101, 120, 116] (s.data.toList.drop i) = none) := p1
  have HS2 : Hid (Scan R W w2 i) := HS1.out.trans p2
  have HC3 : Hid (Calls Try.prog 82 #[.pointer (some ⟨R, 0, none⟩), .string ⟨#[102, 108, 97, 103]⟩] w2 _) := skip_any w2 R s ⟨#[102, 108, 97, 103]⟩ i ((HS0.out.trans HS2.out).sc HSc.out) hs (by decide) hi
  clear p1 p2 HC2 HS1
  go_wp2_with fail
  refine HC3.out.mono ?_
  rintro e w3 (⟨p1, rfl, p2, p3⟩ | ⟨p1, rfl, p2⟩)
  · have p1 : eatP [102, 108, 97, 103] (s.data.toList.drop i) = some (s.data.toList.drop (i + 4)) := p1
    have p2 : Scan R W w3 (i + 4) := HS2.out.trans p2
    have HP : Hid (KRPost R s i (m + 1) w (.returned (.agg #[.int .i64 3, .slice none 0 0, .slice none 0 0])) (put3 w3 w.heap.size 0 (.int .i64 3) (.slice none 0 0) (.slice none 0 0))) :=
      kr_exit (HS0.out.trans p2) hR (by simp only [parseK, HP1.out, HP2.out, p1]) (by omega) p3 (leaf_in _ _ m 3 rfl)
    obtain ⟨⟨r0, r1, r2⟩, f0, f1, f2⟩ := zero_kind (HZ1.out w3 _ p2)
    clear p1 p2 p3 HC3
    go_wp2_with fail
    refine bodyPost_ret (v := .agg #[.int .i64 3, .slice none 0 0, .slice none 0 0]) (by simp [results, Try.results65, go_sem, r0, r1, r2]) rfl ?_
    exact HP.out
  have HP3 : Hid (eatP [102, 108, 97, 103] (s.data.toList.drop i) = none) := p1
  have HS3 : Hid (Scan R W w3 i) := HS2.out.trans p2
  have HC4 : Hid (Calls Try.prog 82 #[.pointer (some ⟨R, 0, none⟩), .string ⟨#[91]⟩] w3 _) := skip_any w3 R s ⟨#[91]⟩ i ((HS0.out.trans HS3.out).sc HSc.out) hs (by decide) hi
  clear p1 p2 HC3 HS2
  go_wp2_with fail
  refine HC4.out.mono ?_
  rintro e w4 (⟨p1, rfl, p2, p3⟩ | ⟨p1, rfl, p2⟩)
  · have p1 : eatP [91] (s.data.toList.drop i) = some (s.data.toList.drop (i + 1)) := p1
    have p2 : Scan R W w4 (i + 1) := HS3.out.trans p2
    have p3 : i + 1 ≤ s.size := p3
    have HPK : Hid (_ ∧ _) := pk_list (m := m) HP1.out HP2.out HP3.out p1
    have HS4 : Hid (Scan R W w4 (i + 1)) := p2
    have HK : Hid (Calls Try.prog 65 #[.pointer (some ⟨R, 0, none⟩)] w4 (KRPost R s (i + 1) m w4)) := HM.out R s _ w4 ((HS0.out.trans p2).sc HSc.out) p3 hs (by omega)
    clear p1 p2 HC4 HS3 HP1 HP2 HP3
    go_wp2_with fail
    refine HK.out.mono ?_
    rintro e w5 (⟨t, q, c0, c1, c2, y1, y2, y3, rfl, y4, y5⟩ | ⟨y1, rfl, y2⟩)
    case inr =>
      refine ⟨rfl, .inr ⟨?_, rfl, (HS0.out.trans HS4.out).near.trans y2⟩⟩
      exact HPK.out.1 (oneQ_none y1)
    obtain ⟨z0, za, zl, zc, ua, ul, uc, rfl, rfl, rfl⟩ := y4.shape
    have hz5 := y5.near.size
    have hz4 := HS4.out.near.size
    have HY : Hid (KindIn (fun b => w4.heap.size ≤ b ∧ b < w5.heap.size) w5 m t (.int .i64 z0) (.slice za zl zc) (.slice ua ul uc)) := y4
    have hbx : Below w5.heap.size w5 (w5.alloc (.cells #[.int .i64 z0, .slice za zl zc, .slice ua ul uc] 30)) := (Below.refl _ _).alloc (Nat.le_refl _) _
    have HS5 : Hid (Scan R W (w5.alloc (.cells #[.int .i64 z0, .slice za zl zc, .slice ua ul uc] 30)) q) := (HS4.out.trans y5).below hbx (by omega)
    have hx5 := Box3.new w5 (.int .i64 z0) (.slice za zl zc) (.slice ua ul uc) 30
    have HW : Hid (Calls Try.prog 83 #[.pointer (some ⟨R, 0, none⟩), .string ⟨#[93]⟩] (w5.alloc (.cells #[.int .i64 z0, .slice za zl zc, .slice ua ul uc] 30)) _) := want_any _ R s ⟨#[93]⟩ q ((HS0.out.trans HS5.out).sc HSc.out) hs (by decide) y3
    have HY1 : Hid (parseK m (s.data.toList.drop (i + 1)) = some (t, s.data.toList.drop q)) := y1
    clear HK y4 y5 y1
    go_wp2_with fail
    refine HW.out.mono ?_
    rintro e w6 (⟨v1, rfl, v2, v3⟩ | ⟨v1, rfl, v2⟩)
    case inr => exact ⟨rfl, .inr ⟨HPK.out.1 (oneQ_shut HY1.out v1), rfl, (HS0.out.trans HS5.out).near.trans v2⟩⟩
    have v2 : Scan R _ w6 (q + 1) := v2
    have hz6 := v2.near.size
    simp only [World.size_alloc] at hz6
    have kk : ∀ o, w6.cell? ⟨w5.heap.size, o, none⟩ = (w5.alloc (.cells #[.int .i64 z0, .slice za zl zc, .slice ua ul uc] 30)).cell? ⟨w5.heap.size, o, none⟩ := fun o => World.cell?_of_block (a := ⟨w5.heap.size, o, none⟩) (v2.near.block w5.heap.size (by simp) (by omega))
    have k0 := (kk 0).trans hx5.c0
    have k1 := (kk 1).trans hx5.c1
    have k2 := (kk 2).trans hx5.c2
    have hb6 : Below w6.heap.size w6 (w6.alloc (.cells #[.int .i64 z0, .slice za zl zc, .slice ua ul uc] 30)) := (Below.refl _ _).alloc (Nat.le_refl _) _
    have HS6 : Hid (Scan R W (w6.alloc (.cells #[.int .i64 z0, .slice za zl zc, .slice ua ul uc] 30)) (q + 1)) := (HS5.out.trans v2).below hb6 (by omega)
    have hx6 := Box3.new w6 (.int .i64 z0) (.slice za zl zc) (.slice ua ul uc) 30
    have HP : Hid (KRPost R s i (m + 1) w (.returned (.agg #[.int .i64 4, .slice none 0 0, .slice (some ⟨w6.heap.size, 0, none⟩) 1 1])) (put3 (w6.alloc (.cells #[.int .i64 z0, .slice za zl zc, .slice ua ul uc] 30)) w.heap.size 0 (.int .i64 4) (.slice none 0 0) (.slice (some ⟨w6.heap.size, 0, none⟩) 1 1))) := by
      refine kr_exit (HS0.out.trans HS6.out) hR (HPK.out.2 _ _ (oneQ_yes HY1.out v1)) (by show i < q + 1; omega) v3 (one_in rfl ⟨by omega, by simp⟩ hx6.c0 hx6.c1 hx6.c2 ?_)
      refine HY.out.keep (fun b hb => ?_) (fun b hb => ⟨by omega, by simp; omega⟩)
      rw [Below.heap_alloc _ _ _ (by omega), v2.near.block b (by simp; omega) (by omega), Below.heap_alloc _ _ _ hb.2]
    obtain ⟨⟨r0, r1, r2⟩, f0, f1, f2⟩ := zero_kind (HZ1.out _ _ HS6.out)
    clear v1 v2 v3 HW HY HY1 HS5 HS6 hx5 hx6 hbx hb6 kk
    go_wp2_with fail
    refine bodyPost_ret (v := .agg #[.int .i64 4, .slice none 0 0, .slice (some ⟨w6.heap.size, 0, none⟩) 1 1]) (by simp [results, Try.results65, go_sem, r0, r1, r2]) rfl ?_
    exact HP.out
  have HP4 : Hid (eatP [91] (s.data.toList.drop i) = none) := p1
  have HS4 : Hid (Scan R W w4 i) := HS3.out.trans p2
  have HC5 : Hid (Calls Try.prog 82 #[.pointer (some ⟨R, 0, none⟩), .string ⟨#[63]⟩] w4 _) := skip_any w4 R s ⟨#[63]⟩ i ((HS0.out.trans HS4.out).sc HSc.out) hs (by decide) hi
  clear p1 p2 HC4 HS3
  go_wp2_with fail
  refine HC5.out.mono ?_
  rintro e w5 (⟨p1, rfl, p2, p3⟩ | ⟨p1, rfl, p2⟩)
  · have p1 : eatP [63] (s.data.toList.drop i) = some (s.data.toList.drop (i + 1)) := p1
    have p2 : Scan R W w5 (i + 1) := HS4.out.trans p2
    have p3 : i + 1 ≤ s.size := p3
    have HPK : Hid (_ ∧ _) := pk_maybe (m := m) HP1.out HP2.out HP3.out HP4.out p1
    have HS5 : Hid (Scan R W w5 (i + 1)) := p2
    have HK : Hid (Calls Try.prog 65 #[.pointer (some ⟨R, 0, none⟩)] w5 (KRPost R s (i + 1) m w5)) := HM.out R s _ w5 ((HS0.out.trans p2).sc HSc.out) p3 hs (by omega)
    clear p1 p2 HC5 HS4 HP1 HP2 HP3 HP4
    go_wp2_with fail
    refine HK.out.mono ?_
    rintro e w6 (⟨t, q, c0, c1, c2, y1, y2, y3, rfl, y4, y5⟩ | ⟨y1, rfl, y2⟩)
    case inr => exact ⟨rfl, .inr ⟨HPK.out.1 y1, rfl, (HS0.out.trans HS5.out).near.trans y2⟩⟩
    obtain ⟨z0, za, zl, zc, ua, ul, uc, rfl, rfl, rfl⟩ := y4.shape
    have hz5 := HS5.out.near.size
    have hz6 := y5.near.size
    have hb6 : Below w6.heap.size w6 (w6.alloc (.cells #[.int .i64 z0, .slice za zl zc, .slice ua ul uc] 30)) := (Below.refl _ _).alloc (Nat.le_refl _) _
    have HS6 : Hid (Scan R W (w6.alloc (.cells #[.int .i64 z0, .slice za zl zc, .slice ua ul uc] 30)) q) := (HS5.out.trans y5).below hb6 (by omega)
    have hx6 := Box3.new w6 (.int .i64 z0) (.slice za zl zc) (.slice ua ul uc) 30
    have HP : Hid (KRPost R s i (m + 1) w (.returned (.agg #[.int .i64 6, .slice none 0 0, .slice (some ⟨w6.heap.size, 0, none⟩) 1 1])) (put3 (w6.alloc (.cells #[.int .i64 z0, .slice za zl zc, .slice ua ul uc] 30)) w.heap.size 0 (.int .i64 6) (.slice none 0 0) (.slice (some ⟨w6.heap.size, 0, none⟩) 1 1))) := by
      refine kr_exit (HS0.out.trans HS6.out) hR (HPK.out.2 _ _ y1) (by omega) y3 (one_in rfl ⟨by omega, by simp⟩ hx6.c0 hx6.c1 hx6.c2 ?_)
      refine y4.keep (fun b hb => ?_) (fun b hb => ⟨by omega, by simp; omega⟩)
      rw [Below.heap_alloc _ _ _ hb.2]
    obtain ⟨⟨r0, r1, r2⟩, f0, f1, f2⟩ := zero_kind (HZ1.out _ _ HS6.out)
    clear HK y1 y4 y5 HS5 HS6 hx6 hb6
    go_wp2_with fail
    refine bodyPost_ret (v := .agg #[.int .i64 6, .slice none 0 0, .slice (some ⟨w6.heap.size, 0, none⟩) 1 1]) (by simp [results, Try.results65, go_sem, r0, r1, r2]) rfl ?_
    exact HP.out
  have HPK : Hid (_ ∧ _) := pk_form (m := m) HP1.out HP2.out HP3.out HP4.out p1
  have HS5 : Hid (Scan R W w5 i) := HS4.out.trans p2
  have hz5 := HS5.out.near.size
  have HK : Hid (Calls Try.prog 84 #[.pointer (some ⟨R, 0, none⟩), .func (.func 65) #[.pointer (some ⟨R, 0, none⟩)] #[]] w5 (FRPost R s i m w5)) := readForm_any m HM.out R s i w5 ((HS0.out.trans HS5.out).sc HSc.out) hi hs (by omega)
  have hmf : ∀ (fn : Fn) (first cap : Array Value) (w : World), (Instr.makeFunc fn first cap).run Try.prog w = .ok (.func fn first cap) w := fun _ _ _ _ => rfl
  clear p1 p2 HC5 HS4 HP1 HP2 HP3 HP4
  go_wp2_with fail
  refine HK.out.mono ?_
  rintro e w6 (⟨ns, ks, q, na, nc, ka, kc, ln, y0, y1, y2, y3, y4, rfl, y5, y6, y7⟩ | ⟨y1, rfl, y2⟩)
  case inr =>
    refine ⟨rfl, .inr ⟨?_, rfl, (HS0.out.trans HS5.out).near.trans y2⟩⟩
    rcases y1 with y1 | ⟨y0, y1⟩
    · exact HPK.out.1 y1
    · exact (HPK.out.2 _ y0).1 y1
  have HS6 : Hid (Scan R W w6 q) := HS5.out.trans y7
  have HP : Hid (KRPost R s i (m + 1) w (.returned (.agg #[.int .i64 5, .slice na ln nc, .slice ka ln kc])) (put3 w6 w.heap.size 0 (.int .i64 5) (.slice na ln nc) (.slice ka ln kc))) := by
    refine kr_exit (HS0.out.trans HS6.out) hR ((HPK.out.2 _ y0).2 _ _ _ y1) y2 y3 ⟨rfl, rfl, ?_, ?_⟩
    · exact y5.keep (fun _ _ => rfl) (fun b hb => ⟨by omega, hb.2⟩)
    · exact y6.keepK (fun _ _ => rfl) (fun b hb => ⟨by omega, hb.2⟩)
  obtain ⟨⟨r0, r1, r2⟩, f0, f1, f2⟩ := zero_kind (HZ1.out _ _ HS6.out)
  clear HK y0 y1 y5 y6 y7 HS5 HS6
  go_wp2_with fail
  refine bodyPost_ret (v := .agg #[.int .i64 5, .slice na ln nc, .slice ka ln kc]) (by simp [results, Try.results65, go_sem, r0, r1, r2]) rfl ?_
  exact HP.out

theorem kind_any : ∀ m, KRSaid m := by
  intro m
  induction m with
  | zero => intro R s i w _ _ _ h; exact absurd h (Nat.not_lt_zero _)
  | succ m ih => exact kind_step m ih

end Go.Proofs.Ytkaannpoldenkag
