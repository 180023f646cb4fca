/-
  Several texts in one, in their order.
-/
import Derived.Test.YtfbfchffnapnnaaGreatDoorB12
import Derived.Defers
import Derived.Recover
import Derived.Test.YtfbfchffnapnnaaGreatDoorB23
import Derived.Test.YtfbfchffnapnnaaGreatDoorKOut2
import Derived.Test.YtfbfchffnapnnaaGreatDoorB22

/-
  The program's reader of schemas: whole, newKindReader, caught.
-/
namespace Go.Proofs.YtfbfchffnapnnaaGreatDoor
open Go.RowKit

/-- What whole makes. -/
def WhPost (R : Nat) (s : ByteArray) (m : Nat) (w : World) (e : Ending) (w' : World) : Prop :=
  Near R w w' ∧ ((∃ (k : K m) (c0 c1 c2 : Value), parseK m s.data.toList = some (k, []) ∧ e = .returned (.agg #[c0, c1, c2]) ∧ KindIn (fun b => w.heap.size ≤ b ∧ b < w'.heap.size) w' m k c0 c1 c2) ∨
    ((∀ k, parseK m s.data.toList ≠ some (k, [])) ∧ e = .panicked refusal))

set_option maxRecDepth 100000 in
set_option maxHeartbeats 2000000 in
theorem whole_any (m : Nat) (R : Nat) (s : ByteArray) (w : World) (h : Sc w R s 0) (hs : s.size ≤ 10000) (hm : s.size < m) :
    Calls Tryz.prog 33 #[.pointer (some ⟨R, 0, none⟩)] w (WhPost R s m w) := by
  have hR := h.lt
  obtain ⟨W, hW⟩ : ∃ W, W = w.alloc (.cells #[.int .i64 0, .slice none 0 0, .slice none 0 0] 26) := ⟨_, rfl⟩
  have hzW : W.heap.size = w.heap.size + 1 := by rw [hW]; simp
  have hb0 : Below w.heap.size w W := by rw [hW]; exact (Below.refl _ _).alloc (Nat.le_refl _) _
  have HZ : Hid (W.heap[w.heap.size]? = some (.cells #[.int .i64 0, .slice none 0 0, .slice none 0 0] 26 (0, 0))) := by rw [hW]; exact heap_alloc_new _ _
  have HS0 : Hid (Scan R w W 0) := (Scan.refl h).below hb0 hR
  have HSc : Hid (Sc w R s 0) := h
  have HC : Hid (Calls Tryz.prog 75 #[.pointer (some ⟨R, 0, none⟩)] W (KRPost R s 0 m W)) := kind_any m R s 0 W (HS0.out.sc h) (Nat.zero_le _) hs (by omega)
  clear h
  go_enter Tryz.func33, Tryz.ntmps33
  go_wp2_with fail
  rw [← hW]
  clear hW
  refine HC.out.mono ?_
  rintro e w1 (⟨k, q, c0, c1, c2, y1, y2, y3, rfl, y4, y5⟩ | ⟨y1, rfl, y2⟩)
  case inr =>
    rw [List.drop_zero] at y1
    exact ⟨rfl, HS0.out.near.trans y2, .inr ⟨fun k e => (by rw [y1] at e; cases e), rfl⟩⟩
  rw [List.drop_zero] at y1
  obtain ⟨z0, za, zl, zc, ua, ul, uc, rfl, rfl, rfl⟩ := y4.shape
  have hz1 := y5.near.size
  have hb1 : Below w1.heap.size w1 (w1.alloc (.cells #[.int .i64 z0, .slice za zl zc, .slice ua ul uc] 26)) := (Below.refl _ _).alloc (Nat.le_refl _) _
  have HS1 : Hid (Scan R W (w1.alloc (.cells #[.int .i64 z0, .slice za zl zc, .slice ua ul uc] 26)) q) := y5.below hb1 (by omega)
  have hx1 := Box3.new w1 (.int .i64 z0) (.slice za zl zc) (.slice ua ul uc) 26
  have HE : Hid (Calls Tryz.prog 63 #[.pointer (some ⟨R, 0, none⟩)] (w1.alloc (.cells #[.int .i64 z0, .slice za zl zc, .slice ua ul uc] 26)) _) := wantEnd_any _ R s q ((HS0.out.trans HS1.out).sc HSc.out)
  have HY : Hid (KindIn (fun b => W.heap.size ≤ b ∧ b < w1.heap.size) w1 m k (.int .i64 z0) (.slice za zl zc) (.slice ua ul uc) ∧ parseK m s.data.toList = some (k, s.data.toList.drop q)) := ⟨y4, y1⟩
  clear HC y1 y4 y5
  go_wp2_with fail
  refine HE.out.mono ?_
  rintro e w2 (⟨v1, rfl, v2⟩ | ⟨v1, rfl, v2⟩)
  case inr =>
    refine ⟨rfl, (HS0.out.trans HS1.out).near.trans v2, .inr ⟨fun k' e => ?_, rfl⟩⟩
    rw [HY.out.2] at e
    simp only [Option.some.injEq, Prod.mk.injEq] at e
    have := congrArg List.length e.2
    simp at this
    omega
  have hz2 := v2.near.size
  simp only [World.size_alloc] at hz2
  have kk : ∀ o, w2.cell? ⟨w1.heap.size, o, none⟩ = (w1.alloc (.cells #[.int .i64 z0, .slice za zl zc, .slice ua ul uc] 26)).cell? ⟨w1.heap.size, o, none⟩ := fun o => World.cell?_of_block (a := ⟨w1.heap.size, o, none⟩) (v2.near.block w1.heap.size (by simp) (by omega))
  have k0 := (kk 0).trans hx1.c0
  have k1 := (kk 1).trans hx1.c1
  have k2 := (kk 2).trans hx1.c2
  have HS2 : Hid (Scan R W w2 q) := HS1.out.trans v2
  have HP : Hid (WhPost R s m w (.returned (.agg #[.int .i64 z0, .slice za zl zc, .slice ua ul uc])) (put3 w2 w.heap.size 0 (.int .i64 z0) (.slice za zl zc) (.slice ua ul uc))) := by
    have qq : ∀ b, b ≠ w.heap.size → (put3 w2 w.heap.size 0 (.int .i64 z0) (.slice za zl zc) (.slice ua ul uc)).heap[b]? = w2.heap[b]? := fun b h => put3_other h
    have hz : (put3 w2 w.heap.size 0 (.int .i64 z0) (.slice za zl zc) (.slice ua ul uc)).heap.size = w2.heap.size := put3_size
    have hn := (HS0.out.trans HS2.out).near
    refine ⟨⟨hn.os, hn.tape, hn.output, by rw [hz]; exact hn.size, fun b hb hne => (qq b (by omega)).trans (hn.block b hb hne)⟩, .inl ⟨k, _, _, _, ?_, rfl, ?_⟩⟩
    · rw [HY.out.2, v1, List.drop_of_length_le (by simp)]
    · refine HY.out.1.keep (fun b hb => ?_) (fun b hb => ⟨by omega, by rw [hz]; omega⟩)
      rw [qq b (by omega), v2.near.block b (by simp; omega) (by omega), Below.heap_alloc _ _ _ hb.2]
  obtain ⟨⟨r0, r1, r2⟩, f0, f1, f2⟩ := zero_kind ((HS2.out.near.block w.heap.size (by omega) (by omega)).trans HZ.out)
  clear v1 v2 HE HY HS1 HS2 hx1 hb1 kk
  go_wp2_with fail
  refine bodyPost_ret (v := .agg #[.int .i64 z0, .slice za zl zc, .slice ua ul uc]) (by simp [results, Tryz.results33, go_sem, r0, r1, r2]) rfl ?_
  exact HP.out

set_option maxRecDepth 20000 in
set_option maxHeartbeats 400000 in
theorem newKindReader_any (s : ByteArray) (w : World) : Calls Tryz.prog 32 #[.string s] w fun e w' => e = .returned (.pointer (some ⟨w.heap.size, 0, none⟩)) ∧ w' = w.alloc (.cells #[.string s, .int .i64 0] 135) := by
  go_enter Tryz.func32, Tryz.ntmps32
  go_wp2_with fail
  go_ret
  exact ⟨rfl, rfl⟩

theorem Tryz.assert_yes (w : World) : (Instr.typeAssert (.iface 119 (.agg #[])) 20 119 true).run Tryz.prog w = .ok (.tuple #[.agg #[], .bool true]) w := by kernel_rfl
theorem Tryz.assert_nil (w : World) : (Instr.typeAssert .nilIface 20 119 true).run Tryz.prog w = .ok (.tuple #[.agg #[], .bool false]) w := by kernel_rfl

set_option maxHeartbeats 400000 in
theorem catch_refusal (w : World) :
    CallsD Tryz.prog 74 #[] (.panicking [{ v := .iface 119 (.agg #[]), recovered := false }]) w fun e u' w' =>
      e = .returned (.tuple #[]) ∧ u' = .panicking [{ v := .iface 119 (.agg #[]), recovered := true }] ∧ w' = w := by
  have hta := Tryz.assert_yes
  refine callsD_of_wpS Tryz.func74 rfl fun c₀ cs hu => ?_
  apply wpS_seq
  apply wpS_region
  simp [wpOpsS, go_sem, recoverD, hu, Tryz.ntmps74, Exit.thenS]
  refine wpS_of_wp ?_
  go_wp2
  exact ⟨rfl, _, rfl, .tuple #[], by simp [results, Tryz.results74], rfl, rfl, rfl⟩

set_option maxHeartbeats 400000 in
theorem catch_nothing (w : World) :
    CallsD Tryz.prog 74 #[] .returning w fun e u' w' => e = .returned (.tuple #[]) ∧ u' = .returning ∧ w' = w := by
  have hta := Tryz.assert_nil
  refine callsD_of_wpS Tryz.func74 rfl fun c₀ cs hu => ?_
  apply wpS_seq
  apply wpS_region
  simp [wpOpsS, go_sem, recoverD, hu, Tryz.ntmps74, Exit.thenS]
  refine wpS_of_wp ?_
  go_wp2
  exact ⟨rfl, _, by rw [← hu], .tuple #[], by simp [results, Tryz.results74], rfl, rfl, rfl⟩

/-- What caught makes. -/
def CaughtPost (R : Nat) (s : ByteArray) (m : Nat) (w : World) (e : Ending) (w' : World) : Prop :=
  Near R w w' ∧ ((∃ (k : K m) (c0 c1 c2 : Value), parseK m s.data.toList = some (k, []) ∧ e = .returned (.tuple #[.agg #[c0, c1, c2], .bool true]) ∧ KindIn (fun b => w.heap.size ≤ b ∧ b < w'.heap.size) w' m k c0 c1 c2) ∨
    ((∀ k, parseK m s.data.toList ≠ some (k, [])) ∧ e = .returned (.tuple #[.agg #[.int .i64 0, .slice none 0 0, .slice none 0 0], .bool false])))

set_option maxRecDepth 100000 in
set_option maxHeartbeats 2000000 in
theorem caught_any (m : Nat) (R : Nat) (s : ByteArray) (w : World) (h : Sc w R s 0) (hs : s.size ≤ 10000) (hm : s.size < m) :
    Calls Tryz.prog 31 #[.func (.func 33) #[.pointer (some ⟨R, 0, none⟩)] #[]] w (CaughtPost R s m w) := by
  have hR := h.lt
  obtain ⟨W, hW⟩ : ∃ W, W = w.alloc (.cells #[.int .i64 0, .slice none 0 0, .slice none 0 0] 26) := ⟨_, rfl⟩
  have hzW : W.heap.size = w.heap.size + 1 := by rw [hW]; simp
  have hb0 : Below w.heap.size w W := by rw [hW]; exact (Below.refl _ _).alloc (Nat.le_refl _) _
  have HZ : Hid (W.heap[w.heap.size]? = some (.cells #[.int .i64 0, .slice none 0 0, .slice none 0 0] 26 (0, 0))) := by rw [hW]; exact heap_alloc_new _ _
  have HS0 : Hid (Scan R w W 0) := (Scan.refl h).below hb0 hR
  have HC : Hid (Calls Tryz.prog 33 #[.pointer (some ⟨R, 0, none⟩)] W (WhPost R s m W)) := whole_any m R s W (HS0.out.sc h) hs hm
  clear h
  go_enter_defers Tryz.func31, Tryz.ntmps31
  go_wp2_with fail
  rw [← hW]
  clear hW
  refine HC.out.mono ?_
  rintro e w1 ⟨hn, ⟨k, c0, c1, c2, y1, rfl, y4⟩ | ⟨y1, rfl⟩⟩
  · obtain ⟨z0, za, zl, zc, ua, ul, uc, rfl, rfl, rfl⟩ := y4.shape
    have hz1 := hn.size
    obtain ⟨⟨r0, r1, r2⟩, f0, f1, f2⟩ := zero_kind ((hn.block w.heap.size (by omega) (by omega)).trans HZ.out)
    have HP : Hid (CaughtPost R s m w (.returned (.tuple #[.agg #[.int .i64 z0, .slice za zl zc, .slice ua ul uc], .bool true])) (put3 w1 w.heap.size 0 (.int .i64 z0) (.slice za zl zc) (.slice ua ul uc))) := by
      have qq : ∀ b, b ≠ w.heap.size → (put3 w1 w.heap.size 0 (.int .i64 z0) (.slice za zl zc) (.slice ua ul uc)).heap[b]? = w1.heap[b]? := fun b h => put3_other h
      have hz : (put3 w1 w.heap.size 0 (.int .i64 z0) (.slice za zl zc) (.slice ua ul uc)).heap.size = w1.heap.size := put3_size
      have hn' := HS0.out.near.trans hn
      exact ⟨⟨hn'.os, hn'.tape, hn'.output, by rw [hz]; exact hn'.size, fun b hb hne => (qq b (by omega)).trans (hn'.block b hb hne)⟩, .inl ⟨k, _, _, _, y1, rfl, y4.keep (fun b hb => qq b (by omega)) (fun b hb => ⟨by omega, by rw [hz]; omega⟩)⟩⟩
    clear HC y1 y4 hn
    go_wp2_with fail
    refine leaves_cons (f := 74) (args := #[]) (by simp) (by simp [go_sem]) ?_
    refine (catch_nothing _).mono ?_
    rintro e u' w'' ⟨rfl, rfl, rfl⟩
    exact ⟨.tuple #[.agg #[.int .i64 z0, .slice za zl zc, .slice ua ul uc], .bool true], by simp [results, Tryz.results31, go_sem, r0, r1, r2], HP.out⟩
  · obtain ⟨⟨r0, r1, r2⟩, f0, f1, f2⟩ := zero_kind ((hn.block w.heap.size (by omega) (by omega)).trans HZ.out)
    have HP : Hid (CaughtPost R s m w (.returned (.tuple #[.agg #[.int .i64 0, .slice none 0 0, .slice none 0 0], .bool false])) w1) := ⟨HS0.out.near.trans hn, .inr ⟨y1, rfl⟩⟩
    clear HC y1 hn
    refine leaves_cons (f := 74) (args := #[]) (by simp) (by simp [go_sem]) ?_
    refine (catch_refusal _).mono ?_
    rintro e u' w'' ⟨rfl, rfl, rfl⟩
    exact ⟨.tuple #[.agg #[.int .i64 0, .slice none 0 0, .slice none 0 0], .bool false], by simp [results, Tryz.results31, go_sem, r0, r1, r2], HP.out⟩

end Go.Proofs.YtfbfchffnapnnaaGreatDoor

/-
  KindRead of the program: what it answers, and what the answer owns.
-/
namespace Go.Proofs.YtfbfchffnapnnaaGreatDoor
open Go.RowKit

/-- What KindRead gives. -/
def ReadPostK (m : Nat) (k : K m) (ok : Bool) (w : World) (e : Ending) (w' : World) : Prop :=
  Below w.heap.size w w' ∧ ∃ c0 c1 c2 L3 L4, e = .returned (.tuple #[.agg #[c0, c1, c2], .bool ok]) ∧ KindIn (fun b => w.heap.size ≤ b ∧ b < w'.heap.size) w' m k c0 c1 c2 ∧
    SpN w' c1 L3 ∧ SpK w' (m - 1) c2 L4 ∧ Own (fun b => w.heap.size ≤ b ∧ b < w'.heap.size) (L3 ++ L4) ∧ (L3 ++ L4).length ≤ 1000

theorem read_none {m : Nat} {s : ByteArray} {w w' : World} (h : readK (m + 1) s = none) (hb : Below w.heap.size w w') : ReadPostK (m + 1) (ansR m s) (okR m s) w (.returned (.tuple #[.agg #[.int .i64 0, .slice none 0 0, .slice none 0 0], .bool false])) w' := by
  obtain ⟨h1, h2⟩ := ansR_none h
  rw [h1, h2]
  exact ⟨hb, _, _, _, [], [], rfl, zeroK_in _ _ m, SpN.no _, SpK.no _ _, Own.nil _, by simp⟩

set_option maxRecDepth 100000 in
set_option maxHeartbeats 2000000 in
theorem implKRead_any (s : ByteArray) (m : Nat) (hm : s.size ≤ m) (hs : s.size ≤ 1048576) (w : World) :
    Calls Tryz.prog 9 #[.string s] w (ReadPostK (m + 1) (ansR m s) (okR m s) w) := by
  obtain ⟨W1, hW1⟩ : ∃ W1, W1 = w.alloc (.cells #[.int .i64 0, .slice none 0 0, .slice none 0 0] 26) := ⟨_, rfl⟩
  have hz1 : W1.heap.size = w.heap.size + 1 := by rw [hW1]; simp
  have hb1 : Below w.heap.size w W1 := by rw [hW1]; exact (Below.refl _ _).alloc (Nat.le_refl _) _
  have hzero : W1.heap[w.heap.size]? = some (.cells #[.int .i64 0, .slice none 0 0, .slice none 0 0] 26 (0, 0)) := by rw [hW1]; exact heap_alloc_new _ _
  have HPut : Hid (∀ W : World, Below w.heap.size w W → Below w.heap.size w (put3 W w.heap.size 0 (.int .i64 0) (.slice none 0 0) (.slice none 0 0))) := fun W h => put3_below h (Nat.le_refl _)
  by_cases h8 : s.size ≤ 800
  case neg =>
    have HN : Hid (readK (m + 1) s = none) := readK_long h8
    have hgt : (800 : Int) < (s.size : Int) := by omega
    obtain ⟨⟨r0, r1, r2⟩, f0, f1, f2⟩ := zero_kind0 hzero
    rw [hW1] at r0 r1 r2 f0 f1 f2
    have HP : Hid (∀ o, ReadPostK (m + 1) (ansR m s) (okR m s) w (.returned (.tuple #[.agg #[.int .i64 0, .slice none 0 0, .slice none 0 0], .bool false])) (w.alloc o)) := fun o => read_none HN.out ((Below.refl _ _).alloc (Nat.le_refl _) _)
    clear hb1 hzero hz1 HN h8
    go_enter Tryz.func9, Tryz.ntmps9
    go_wp2_with fail
    refine bodyPost_ret (v := .tuple #[.agg #[.int .i64 0, .slice none 0 0, .slice none 0 0], .bool false]) (by simp [results, Tryz.results9, go_sem]) rfl ?_
    exact HP.out _
  have hle : ¬ (800 : Int) < (s.size : Int) := by omega
  have hmf : ∀ (fn : Fn) (first cap : Array Value) (w : World), (Instr.makeFunc fn first cap).run Tryz.prog w = .ok (.func fn first cap) w := fun _ _ _ _ => rfl
  have HNw : Hid (Calls Tryz.prog 32 #[.string s] W1 _) := newKindReader_any s W1
  obtain ⟨W2, hW2⟩ : ∃ W2, W2 = W1.alloc (.cells #[.string s, .int .i64 0] 135) := ⟨_, rfl⟩
  have hz2 : W2.heap.size = W1.heap.size + 1 := by rw [hW2]; simp
  have hb2 : Below w.heap.size w W2 := by rw [hW2]; exact hb1.alloc hb1.size _
  have hnew : W2.heap[w.heap.size + 1]? = some (.cells #[.string s, .int .i64 0] 135 (0, 0)) := by rw [hW2, ← hz1]; exact heap_alloc_new _ _
  have hzero2 : W2.heap[w.heap.size]? = some (.cells #[.int .i64 0, .slice none 0 0, .slice none 0 0] 26 (0, 0)) := by rw [hW2, Below.heap_alloc _ _ _ (by omega)]; exact hzero
  have hSc : Sc W2 (w.heap.size + 1) s 0 := ⟨by simp [World.cell?, hnew], by simp [World.cell?, hnew], by simp [World.frozen?, hnew]⟩
  have HCa : Hid (Calls Tryz.prog 31 #[.func (.func 33) #[.pointer (some ⟨w.heap.size + 1, 0, none⟩)] #[]] W2 (CaughtPost (w.heap.size + 1) s (m + 1) W2)) := caught_any (m + 1) (w.heap.size + 1) s W2 hSc (by omega) (by omega)
  clear hnew hSc hzero hb1
  go_enter Tryz.func9, Tryz.ntmps9
  go_wp2_with fail
  rw [← hW1]
  clear hW1
  refine HNw.out.mono ?_
  rintro e w' ⟨rfl, rfl⟩
  clear HNw
  go_wp2_with fail
  rw [← hW2]
  clear hW2
  refine HCa.out.mono ?_
  rintro e w3 ⟨hn3, hor⟩
  have hz3 := hn3.size
  have hb3 : Below w.heap.size w w3 := ⟨hn3.os.trans hb2.os, hn3.tape.trans hb2.tape, hn3.output.trans hb2.output, by omega, fun b hb => (hn3.block b (by omega) (by omega)).trans (hb2.block b hb)⟩
  have hzero3 : w3.heap[w.heap.size]? = some (.cells #[.int .i64 0, .slice none 0 0, .slice none 0 0] 26 (0, 0)) := (hn3.block _ (by omega) (by omega)).trans hzero2
  clear HCa hb2 hzero2 hn3
  rcases hor with ⟨k, c0, c1, c2, y1, rfl, y4⟩ | ⟨y1, rfl⟩
  case inr =>
    have HN : Hid (readK (m + 1) s = none) := readK_no y1
    have hb4 := hb3.alloc (by omega) (.cells #[.int .i64 0, .slice none 0 0, .slice none 0 0] 26)
    obtain ⟨⟨r0, r1, r2⟩, f0, f1, f2⟩ := zero_kind0 ((Below.heap_alloc w3 (.cells #[.int .i64 0, .slice none 0 0, .slice none 0 0] 26) w.heap.size (by omega)).trans hzero3)
    have HP : Hid (ReadPostK (m + 1) (ansR m s) (okR m s) w _ _) := read_none HN.out (HPut.out _ hb4)
    clear y1 HN hb3 hzero3 hb4 HPut
    go_wp2_with fail
    refine bodyPost_ret (v := .tuple #[.agg #[.int .i64 0, .slice none 0 0, .slice none 0 0], .bool false]) (by simp [results, Tryz.results9, go_sem, r0, r1, r2]) rfl ?_
    exact HP.out
  obtain ⟨z0, za, zl, zc, ua, ul, uc, rfl, rfl, rfl⟩ := y4.shape
  obtain ⟨W4, hW4⟩ : ∃ W4, W4 = w3.alloc (.cells #[.int .i64 z0, .slice za zl zc, .slice ua ul uc] 26) := ⟨_, rfl⟩
  have hz4 : W4.heap.size = w3.heap.size + 1 := by rw [hW4]; simp
  have hb34 : Below w3.heap.size w3 W4 := by rw [hW4]; exact (Below.refl _ _).alloc (Nat.le_refl _) _
  have hb4 := below_step hb3 hb3.size hb34
  have hzero4 := (hb34.block w.heap.size (by omega)).trans hzero3
  obtain ⟨ht4, hB4⟩ := y4.step (fun b hb => hb.2) hb34
  have HC : Hid (Calls Tryz.prog 22 _ _ _) := innerKind_any (m + 1) _ k _ _ _ W4 ht4 hB4
  have HY : Hid (parseK (m + 1) s.data.toList = some (k, [])) := y1
  clear y1 y4 hb3 hzero3 hb34 ht4
  go_wp2_with fail
  rw [← hW4]
  clear hW4
  refine HC.out.mono ?_
  rintro e w5 ⟨hb5, ⟨hok, v, rfl, hin⟩ | ⟨hok, rfl⟩⟩
  case inr =>
    have hz5 := hb5.size
    have HN : Hid (readK (m + 1) s = none) := readK_bad HY.out hok
    have hbw5 := below_step hb4 hb4.size hb5
    obtain ⟨⟨r0, r1, r2⟩, f0, f1, f2⟩ := zero_kind0 ((hb5.block w.heap.size (by omega)).trans hzero4)
    have HP : Hid (ReadPostK (m + 1) (ansR m s) (okR m s) w _ _) := read_none HN.out (HPut.out _ hbw5)
    clear HN HC HY hok hb5 hb4 hzero4 hbw5 HPut hB4
    go_wp2_with fail
    refine bodyPost_ret (v := .tuple #[.agg #[.int .i64 0, .slice none 0 0, .slice none 0 0], .bool false]) (by simp [results, Tryz.results9, go_sem, r0, r1, r2]) rfl ?_
    exact HP.out
  obtain ⟨kb, rfl, -⟩ := id hin.ptr
  have hp := okK_get hok
  have hz5 := hb5.size
  have hbw5 := below_step hb4 hb4.size hb5
  have hzero5 := (hb5.block w.heap.size (by omega)).trans hzero4
  have HO : Hid (Calls Tryz.prog 34 _ _ _) := outerKind_any (m + 1) _ k _ 1 w5 hin (fun b hb => hb.elim (fun h => by have := hB4 b h; omega) (fun h => h.2)) hp.1 hp.2
  have HR : Hid (ansR m s = k ∧ okR m s = true ∧ spKL (m + 1) k ≤ 1000) := by
    obtain ⟨q1, q2⟩ := ansR_some (readK_yes h8 HY.out hok)
    exact ⟨q1, q2, by have := spKL_le (m + 1) k 1 hp.1; omega⟩
  clear HC HY hok hp hin hb5 hb4 hzero4 hB4 HPut
  go_wp2_with fail
  refine HO.out.mono ?_
  rintro e w6 ⟨hb6, g0, g1, g2, L3, L4, rfl, hin6, hs3, hs4, ho, hl⟩
  obtain ⟨u0, va, vl, vc, ya, yl, yc, rfl, rfl, rfl⟩ := hin6.shape
  have hz6 := hb6.size
  obtain ⟨⟨r0, r1, r2⟩, f0, f1, f2⟩ := zero_kind0 ((hb6.block w.heap.size (by omega)).trans hzero5)
  have HP : Hid (ReadPostK (m + 1) (ansR m s) (okR m s) w (.returned (.tuple #[.agg #[.int .i64 u0, .slice va vl vc, .slice ya yl yc], .bool true])) (put3 w6 w.heap.size 0 (.int .i64 u0) (.slice va vl vc) (.slice ya yl yc))) := by
    obtain ⟨q1, q2, q3⟩ := HR.out
    rw [q1, q2]
    have q : ∀ b, w5.heap.size ≤ b → (put3 w6 w.heap.size 0 (.int .i64 u0) (.slice va vl vc) (.slice ya yl yc)).heap[b]? = w6.heap[b]? := fun b h => put3_other (by omega)
    have hS : ∀ b, (w5.heap.size ≤ b ∧ b < w6.heap.size) → w.heap.size ≤ b ∧ b < (put3 w6 w.heap.size 0 (.int .i64 u0) (.slice va vl vc) (.slice ya yl yc)).heap.size := fun b h => by rw [put3_size]; omega
    exact ⟨put3_below (below_step hbw5 hbw5.size hb6) (Nat.le_refl _), _, _, _, L3, L4, rfl, hin6.keep (fun b h => q b h.1) hS, hs3.same (fun s h => q _ (ho.1 s (List.mem_append_left _ h)).1), hs4.same (fun s h => q _ (ho.1 s (List.mem_append_right _ h)).1), ho.mono hS, by rw [hl]; exact q3⟩
  clear HO HR hin6 hs3 hs4 ho hl hb6 hbw5 hzero5
  go_wp2_with fail
  refine bodyPost_ret (v := .tuple #[.agg #[.int .i64 u0, .slice va vl vc, .slice ya yl yc], .bool true]) (by simp [results, Tryz.results9, go_sem, r0, r1, r2]) rfl ?_
  exact HP.out

end Go.Proofs.YtfbfchffnapnnaaGreatDoor
