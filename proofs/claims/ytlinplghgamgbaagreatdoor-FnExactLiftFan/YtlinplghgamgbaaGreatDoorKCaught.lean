/-
  The program's reader of schemas: whole, newKindReader, caught.
-/
import Derived.Test.YtlinplghgamgbaaGreatDoorB12
import Derived.Defers
import Derived.Recover
namespace Go.Proofs.YtlinplghgamgbaaGreatDoor
open Go.RowKit

/-- What whole makes. -/
def WhPost (R : Nat) (s : ByteArray) (m : Nat) (w : World) (e : Ending) (w' : World) : Prop :=
  Near R w w' ∧ ((∃ (k : K m) (c0 c1 c2 : Value), parseK m s.data.toList = some (k, []) ∧ e = .returned (.agg #[c0, c1, c2]) ∧ KindIn (fun b => w.heap.size ≤ b ∧ b < w'.heap.size) w' m k c0 c1 c2) ∨
    ((∀ k, parseK m s.data.toList ≠ some (k, [])) ∧ e = .panicked refusal))

set_option maxRecDepth 100000 in
set_option maxHeartbeats 2000000 in
theorem whole_any (m : Nat) (R : Nat) (s : ByteArray) (w : World) (h : Sc w R s 0) (hs : s.size ≤ 10000) (hm : s.size < m) :
    Calls Tryz.prog 80 #[.pointer (some ⟨R, 0, none⟩)] w (WhPost R s m w) := by
  have hR := h.lt
  obtain ⟨W, hW⟩ : ∃ W, W = w.alloc (.cells #[.int .i64 0, .slice none 0 0, .slice none 0 0] 70) := ⟨_, rfl⟩
  have hzW : W.heap.size = w.heap.size + 1 := by rw [hW]; simp
  have hb0 : Below w.heap.size w W := by rw [hW]; exact (Below.refl _ _).alloc (Nat.le_refl _) _
  have HZ : Hid (W.heap[w.heap.size]? = some (.cells #[.int .i64 0, .slice none 0 0, .slice none 0 0] 70 (0, 0))) := by rw [hW]; exact heap_alloc_new _ _
  have HS0 : Hid (Scan R w W 0) := (Scan.refl h).below hb0 hR
  have HSc : Hid (Sc w R s 0) := h
  have HC : Hid (Calls Tryz.prog 94 #[.pointer (some ⟨R, 0, none⟩)] W (KRPost R s 0 m W)) := kind_any m R s 0 W (HS0.out.sc h) (Nat.zero_le _) hs (by omega)
  clear h
  go_enter Tryz.func80, Tryz.ntmps80
  go_wp2_with fail
  rw [← hW]
  clear hW
  refine HC.out.mono ?_
  rintro e w1 (⟨k, q, c0, c1, c2, y1, y2, y3, rfl, y4, y5⟩ | ⟨y1, rfl, y2⟩)
  case inr =>
    rw [List.drop_zero] at y1
    exact ⟨rfl, HS0.out.near.trans y2, .inr ⟨fun k e => (by rw [y1] at e; cases e), rfl⟩⟩
  rw [List.drop_zero] at y1
  obtain ⟨z0, za, zl, zc, ua, ul, uc, rfl, rfl, rfl⟩ := y4.shape
  have hz1 := y5.near.size
  have hb1 : Below w1.heap.size w1 (w1.alloc (.cells #[.int .i64 z0, .slice za zl zc, .slice ua ul uc] 70)) := (Below.refl _ _).alloc (Nat.le_refl _) _
  have HS1 : Hid (Scan R W (w1.alloc (.cells #[.int .i64 z0, .slice za zl zc, .slice ua ul uc] 70)) q) := y5.below hb1 (by omega)
  have hx1 := Box3.new w1 (.int .i64 z0) (.slice za zl zc) (.slice ua ul uc) 70
  have HE : Hid (Calls Tryz.prog 95 #[.pointer (some ⟨R, 0, none⟩)] (w1.alloc (.cells #[.int .i64 z0, .slice za zl zc, .slice ua ul uc] 70)) _) := wantEnd_any _ R s q ((HS0.out.trans HS1.out).sc HSc.out)
  have HY : Hid (KindIn (fun b => W.heap.size ≤ b ∧ b < w1.heap.size) w1 m k (.int .i64 z0) (.slice za zl zc) (.slice ua ul uc) ∧ parseK m s.data.toList = some (k, s.data.toList.drop q)) := ⟨y4, y1⟩
  clear HC y1 y4 y5
  go_wp2_with fail
  refine HE.out.mono ?_
  rintro e w2 (⟨v1, rfl, v2⟩ | ⟨v1, rfl, v2⟩)
  case inr =>
    refine ⟨rfl, (HS0.out.trans HS1.out).near.trans v2, .inr ⟨fun k' e => ?_, rfl⟩⟩
    rw [HY.out.2] at e
    simp only [Option.some.injEq, Prod.mk.injEq] at e
    have := congrArg List.length e.2
    simp at this
    omega
  have hz2 := v2.near.size
  simp only [World.size_alloc] at hz2
  have kk : ∀ o, w2.cell? ⟨w1.heap.size, o, none⟩ = (w1.alloc (.cells #[.int .i64 z0, .slice za zl zc, .slice ua ul uc] 70)).cell? ⟨w1.heap.size, o, none⟩ := fun o => World.cell?_of_block (a := ⟨w1.heap.size, o, none⟩) (v2.near.block w1.heap.size (by simp) (by omega))
  have k0 := (kk 0).trans hx1.c0
  have k1 := (kk 1).trans hx1.c1
  have k2 := (kk 2).trans hx1.c2
  have HS2 : Hid (Scan R W w2 q) := HS1.out.trans v2
  have HP : Hid (WhPost R s m w (.returned (.agg #[.int .i64 z0, .slice za zl zc, .slice ua ul uc])) (put3 w2 w.heap.size 0 (.int .i64 z0) (.slice za zl zc) (.slice ua ul uc))) := by
    have qq : ∀ b, b ≠ w.heap.size → (put3 w2 w.heap.size 0 (.int .i64 z0) (.slice za zl zc) (.slice ua ul uc)).heap[b]? = w2.heap[b]? := fun b h => put3_other h
    have hz : (put3 w2 w.heap.size 0 (.int .i64 z0) (.slice za zl zc) (.slice ua ul uc)).heap.size = w2.heap.size := put3_size
    have hn := (HS0.out.trans HS2.out).near
    refine ⟨⟨hn.os, hn.tape, hn.output, by rw [hz]; exact hn.size, fun b hb hne => (qq b (by omega)).trans (hn.block b hb hne)⟩, .inl ⟨k, _, _, _, ?_, rfl, ?_⟩⟩
    · rw [HY.out.2, v1, List.drop_of_length_le (by simp)]
    · refine HY.out.1.keep (fun b hb => ?_) (fun b hb => ⟨by omega, by rw [hz]; omega⟩)
      rw [qq b (by omega), v2.near.block b (by simp; omega) (by omega), Below.heap_alloc _ _ _ hb.2]
  obtain ⟨⟨r0, r1, r2⟩, f0, f1, f2⟩ := zero_kind ((HS2.out.near.block w.heap.size (by omega) (by omega)).trans HZ.out)
  clear v1 v2 HE HY HS1 HS2 hx1 hb1 kk
  go_wp2_with fail
  refine bodyPost_ret (v := .agg #[.int .i64 z0, .slice za zl zc, .slice ua ul uc]) (by simp [results, Tryz.results80, go_sem, r0, r1, r2]) rfl ?_
  exact HP.out

set_option maxRecDepth 20000 in
set_option maxHeartbeats 400000 in
theorem newKindReader_any (s : ByteArray) (w : World) : Calls Tryz.prog 79 #[.string s] w fun e w' => e = .returned (.pointer (some ⟨w.heap.size, 0, none⟩)) ∧ w' = w.alloc (.cells #[.string s, .int .i64 0] 119) := by
  go_enter Tryz.func79, Tryz.ntmps79
  go_wp2_with fail
  go_ret
  exact ⟨rfl, rfl⟩

theorem Tryz.assert_yes (w : World) : (Instr.typeAssert (.iface 115 (.agg #[])) 20 115 true).run Tryz.prog w = .ok (.tuple #[.agg #[], .bool true]) w := by kernel_rfl
theorem Tryz.assert_nil (w : World) : (Instr.typeAssert .nilIface 20 115 true).run Tryz.prog w = .ok (.tuple #[.agg #[], .bool false]) w := by kernel_rfl

set_option maxHeartbeats 400000 in
theorem catch_refusal (w : World) :
    CallsD Tryz.prog 93 #[] (.panicking [{ v := .iface 115 (.agg #[]), recovered := false }]) w fun e u' w' =>
      e = .returned (.tuple #[]) ∧ u' = .panicking [{ v := .iface 115 (.agg #[]), recovered := true }] ∧ w' = w := by
  have hta := Tryz.assert_yes
  refine callsD_of_wpS Tryz.func93 rfl fun c₀ cs hu => ?_
  apply wpS_seq
  apply wpS_region
  simp [wpOpsS, go_sem, recoverD, hu, Tryz.ntmps93, Exit.thenS]
  refine wpS_of_wp ?_
  go_wp2
  exact ⟨rfl, _, rfl, .tuple #[], by simp [results, Tryz.results93], rfl, rfl, rfl⟩

set_option maxHeartbeats 400000 in
theorem catch_nothing (w : World) :
    CallsD Tryz.prog 93 #[] .returning w fun e u' w' => e = .returned (.tuple #[]) ∧ u' = .returning ∧ w' = w := by
  have hta := Tryz.assert_nil
  refine callsD_of_wpS Tryz.func93 rfl fun c₀ cs hu => ?_
  apply wpS_seq
  apply wpS_region
  simp [wpOpsS, go_sem, recoverD, hu, Tryz.ntmps93, Exit.thenS]
  refine wpS_of_wp ?_
  go_wp2
  exact ⟨rfl, _, by rw [← hu], .tuple #[], by simp [results, Tryz.results93], rfl, rfl, rfl⟩

/-- What caught makes. -/
def CaughtPost (R : Nat) (s : ByteArray) (m : Nat) (w : World) (e : Ending) (w' : World) : Prop :=
  Near R w w' ∧ ((∃ (k : K m) (c0 c1 c2 : Value), parseK m s.data.toList = some (k, []) ∧ e = .returned (.tuple #[.agg #[c0, c1, c2], .bool true]) ∧ KindIn (fun b => w.heap.size ≤ b ∧ b < w'.heap.size) w' m k c0 c1 c2) ∨
    ((∀ k, parseK m s.data.toList ≠ some (k, [])) ∧ e = .returned (.tuple #[.agg #[.int .i64 0, .slice none 0 0, .slice none 0 0], .bool false])))

set_option maxRecDepth 100000 in
set_option maxHeartbeats 2000000 in
theorem caught_any (m : Nat) (R : Nat) (s : ByteArray) (w : World) (h : Sc w R s 0) (hs : s.size ≤ 10000) (hm : s.size < m) :
    Calls Tryz.prog 78 #[.func (.func 80) #[.pointer (some ⟨R, 0, none⟩)] #[]] w (CaughtPost R s m w) := by
  have hR := h.lt
  obtain ⟨W, hW⟩ : ∃ W, W = w.alloc (.cells #[.int .i64 0, .slice none 0 0, .slice none 0 0] 70) := ⟨_, rfl⟩
  have hzW : W.heap.size = w.heap.size + 1 := by rw [hW]; simp
  have hb0 : Below w.heap.size w W := by rw [hW]; exact (Below.refl _ _).alloc (Nat.le_refl _) _
  have HZ : Hid (W.heap[w.heap.size]? = some (.cells #[.int .i64 0, .slice none 0 0, .slice none 0 0] 70 (0, 0))) := by rw [hW]; exact heap_alloc_new _ _
  have HS0 : Hid (Scan R w W 0) := (Scan.refl h).below hb0 hR
  have HC : Hid (Calls Tryz.prog 80 #[.pointer (some ⟨R, 0, none⟩)] W (WhPost R s m W)) := whole_any m R s W (HS0.out.sc h) hs hm
  clear h
  go_enter_defers Tryz.func78, Tryz.ntmps78
  go_wp2_with fail
  rw [← hW]
  clear hW
  refine HC.out.mono ?_
  rintro e w1 ⟨hn, ⟨k, c0, c1, c2, y1, rfl, y4⟩ | ⟨y1, rfl⟩⟩
  · obtain ⟨z0, za, zl, zc, ua, ul, uc, rfl, rfl, rfl⟩ := y4.shape
    have hz1 := hn.size
    obtain ⟨⟨r0, r1, r2⟩, f0, f1, f2⟩ := zero_kind ((hn.block w.heap.size (by omega) (by omega)).trans HZ.out)
    have HP : Hid (CaughtPost R s m w (.returned (.tuple #[.agg #[.int .i64 z0, .slice za zl zc, .slice ua ul uc], .bool true])) (put3 w1 w.heap.size 0 (.int .i64 z0) (.slice za zl zc) (.slice ua ul uc))) := by
      have qq : ∀ b, b ≠ w.heap.size → (put3 w1 w.heap.size 0 (.int .i64 z0) (.slice za zl zc) (.slice ua ul uc)).heap[b]? = w1.heap[b]? := fun b h => put3_other h
      have hz : (put3 w1 w.heap.size 0 (.int .i64 z0) (.slice za zl zc) (.slice ua ul uc)).heap.size = w1.heap.size := put3_size
      have hn' := HS0.out.near.trans hn
      exact ⟨⟨hn'.os, hn'.tape, hn'.output, by rw [hz]; exact hn'.size, fun b hb hne => (qq b (by omega)).trans (hn'.block b hb hne)⟩, .inl ⟨k, _, _, _, y1, rfl, y4.keep (fun b hb => qq b (by omega)) (fun b hb => ⟨by omega, by rw [hz]; omega⟩)⟩⟩
    clear HC y1 y4 hn
    go_wp2_with fail
    refine leaves_cons (f := 93) (args := #[]) (by simp) (by simp [go_sem]) ?_
    refine (catch_nothing _).mono ?_
    rintro e u' w'' ⟨rfl, rfl, rfl⟩
    exact ⟨.tuple #[.agg #[.int .i64 z0, .slice za zl zc, .slice ua ul uc], .bool true], by simp [results, Tryz.results78, go_sem, r0, r1, r2], HP.out⟩
  · obtain ⟨⟨r0, r1, r2⟩, f0, f1, f2⟩ := zero_kind ((hn.block w.heap.size (by omega) (by omega)).trans HZ.out)
    have HP : Hid (CaughtPost R s m w (.returned (.tuple #[.agg #[.int .i64 0, .slice none 0 0, .slice none 0 0], .bool false])) w1) := ⟨HS0.out.near.trans hn, .inr ⟨y1, rfl⟩⟩
    clear HC y1 hn
    refine leaves_cons (f := 93) (args := #[]) (by simp) (by simp [go_sem]) ?_
    refine (catch_refusal _).mono ?_
    rintro e u' w'' ⟨rfl, rfl, rfl⟩
    exact ⟨.tuple #[.agg #[.int .i64 0, .slice none 0 0, .slice none 0 0], .bool false], by simp [results, Tryz.results78, go_sem, r0, r1, r2], HP.out⟩

end Go.Proofs.YtlinplghgamgbaaGreatDoor
