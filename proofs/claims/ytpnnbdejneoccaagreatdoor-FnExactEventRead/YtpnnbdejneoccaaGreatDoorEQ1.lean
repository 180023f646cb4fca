/-
  The program's reader of events: what is plain of it; the reader of trees from a place on; typeAhead.
-/
import Derived.Test.YtpnnbdejneoccaaGreatDoorEQ0
import Derived.Test.YtpnnbdejneoccaaGreatDoorEC4
import Derived.Test.YtpnnbdejneoccaaGreatDoorB18
import Derived.Test.YtpnnbdejneoccaaGreatDoorTI4
import Derived.Test.YtpnnbdejneoccaaGreatDoorTClean
import Derived.Test.YtpnnbdejneoccaaGreatDoorTOut3
import Derived.Test.YtpnnbdejneoccaaGreatDoorEO1
namespace Go.Proofs.YtpnnbdejneoccaaGreatDoor
open Go.RowKit

theorem let_nm (c : UInt8) : nmByte c = true ↔ letB c.toNat := by
  unfold nmByte letB
  simp only [decide_eq_true_eq]
  omega

/-- typeAhead gives the letters ahead. -/
theorem ahead_take (s : ByteArray) (w : World) (hs : s.size ≤ 10000) : Calls Tryz.prog 35 #[.string s] w fun e w' => e = .returned (.string (bs (s.data.toList.takeWhile nmByte))) ∧ Below w.heap.size w w' := by
  refine (ahead_any s w hs).mono ?_
  have hget : ∀ k (h : k < s.size), s.data.toList[k]'(by simpa using h) = s[k]'h := fun k h => by simp [ByteArray.getElem_eq_getElem_data]
  rintro e w' ⟨hb, ⟨ha, rfl⟩ | ⟨k, hk, hne, ha, rfl⟩⟩
  · refine ⟨?_, hb⟩
    have : s.data.toList.takeWhile nmByte = s.data.toList := by
      refine takeWhile_allE _ fun c hc => ?_
      obtain ⟨j, hj, rfl⟩ := List.getElem_of_mem hc
      have hj' : j < s.size := by simpa using hj
      rw [hget j hj']
      exact (let_nm _).2 (ha j hj')
    rw [this]
    exact congrArg (fun x => Ending.returned (Value.string x)) (ba_eq (by unfold bs; simp))
  · refine ⟨?_, hb⟩
    have hkl : k < s.data.toList.length := by simpa using hk
    have e1 : s.data.toList = s.data.toList.take k ++ (s[k]'hk) :: s.data.toList.drop (k + 1) := by
      rw [← hget k hk, ← List.drop_eq_getElem_cons hkl, List.take_append_drop]
    have e2 : s.data.toList.takeWhile nmByte = s.data.toList.take k := by
      conv => lhs; rw [e1]
      refine takeWhile_app _ _ _ (fun c hc => ?_) ?_
      · obtain ⟨j, hj, rfl⟩ := List.getElem_of_mem hc
        have hj' : j < k ∧ j < s.size := by rw [List.length_take] at hj; constructor; omega; have : s.data.toList.length = s.size := (by simp); omega
        rw [List.getElem_take, hget j hj'.2]
        exact (let_nm _).2 (ha j hj'.2 hj'.1)
      · rw [Bool.eq_false_iff]
        intro h
        exact hne ((let_nm _).1 h)
    rw [e2]
    refine congrArg (fun x => Ending.returned (Value.string x)) (ba_eq ?_)
    unfold bs
    simp [ByteArray.data_extract, Array.toList_extract, List.extract]

/-- What whole makes from a place on. -/
def WhAt (R : Nat) (s : ByteArray) (i m : Nat) (w : World) (e : Ending) (w' : World) : Prop :=
  Near R w w' ∧ ((∃ (t : T m) (v : Value), parseU m (s.data.toList.drop i) = some (t, []) ∧ e = .returned v ∧ InnerT (fun b => w.heap.size ≤ b ∧ b < w'.heap.size) w' m t v) ∨
    ((∀ t, parseU m (s.data.toList.drop i) ≠ some (t, [])) ∧ e = .panicked refusal))

set_option maxRecDepth 100000 in
set_option maxHeartbeats 1000000 in
theorem wholeI_at (m B R : Nat) (s : ByteArray) (i : Nat) (w : World) (hL : LaidU B w) (hBR : B ≤ R) (h : Sc w R s i) (hM : Meth w R) (hs : s.size ≤ 10000) (hi : i ≤ s.size) (hm : s.size < m) :
    Calls Tryz.prog 41 #[.pointer (some ⟨R, 0, none⟩)] w (WhAt R s i m w) := by
  have hR := h.lt
  have HSc : Hid (Sc w R s i) := h
  have HC : Hid (Calls Tryz.prog 56 #[.pointer (some ⟨R, 0, none⟩)] w (TRPost R s i m w)) := treeI_any m B R s i w hL hBR h hM hi hs (by omega)
  clear h hL hM
  go_enter Tryz.func41, Tryz.ntmps41
  go_wp2_with fail
  refine HC.out.mono ?_
  rintro e w1 (⟨t, q, v, y1, y2, y3, rfl, y4, y5⟩ | ⟨y1, rfl, y2⟩)
  case inr => exact ⟨rfl, y2, .inr ⟨fun k e => (by rw [y1] at e; cases e), rfl⟩⟩
  obtain ⟨zt, zx, rfl⟩ := id y4.iface
  have hz1 := y5.near.size
  have HS1 : Hid (Scan R w w1 q) := y5
  have HE : Hid (Calls Tryz.prog 65 #[.pointer (some ⟨R, 0, none⟩)] w1 _) := wantEnd_any _ R s q (y5.sc HSc.out)
  have HY : Hid (InnerT (fun b => w.heap.size ≤ b ∧ b < w1.heap.size) w1 m t (.iface zt zx) ∧ parseU m (s.data.toList.drop i) = some (t, s.data.toList.drop q)) := ⟨y4, y1⟩
  clear HC y1 y4 y5
  go_wp2_with fail
  refine HE.out.mono ?_
  rintro e w2 (⟨v1, rfl, v2⟩ | ⟨v1, rfl, v2⟩)
  case inr =>
    refine ⟨rfl, HS1.out.near.trans v2, .inr ⟨fun k' e => ?_, rfl⟩⟩
    rw [HY.out.2] at e
    simp only [Option.some.injEq, Prod.mk.injEq] at e
    have := congrArg List.length e.2
    simp at this
    omega
  have HP : Hid (WhAt R s i m w (.returned (.iface zt zx)) w2) := by
    refine ⟨HS1.out.near.trans v2.near, .inl ⟨t, _, ?_, rfl, HY.out.1.keep (fun b hb => v2.near.block b hb.2 (by omega)) (fun b hb => ⟨hb.1, Nat.lt_of_lt_of_le hb.2 v2.near.size⟩)⟩⟩
    rw [HY.out.2, v1]; simp
  clear HE HY HS1 v1 v2
  go_wp2_with fail
  go_ret
  exact HP.out

/-- Of the event that was read: it has this text if it is ok, and no other has it. -/
def TookR (L : Nat) (l : List UInt8) (x : ByteArray) (v : Int) (t : T L) : Prop :=
  (okE L x v t = true → txtE L x v t = l) ∧ ∀ (x' : ByteArray) (v' : Int) (t' : T L), okE L x' v' t' = true → txtE L x' v' t' = l → x = x' ∧ v = v' ∧ t = t'

/-- No event that is ok has this text. -/
def NoR (L : Nat) (l : List UInt8) : Prop := ∀ (x' : ByteArray) (v' : Int) (t' : T L), okE L x' v' t' = true → txtE L x' v' t' ≠ l

theorem took_atR {m : Nat} {l : List UInt8} (h : eatP [64] (l.drop (l.takeWhile nmByte).length) = none) : NoR (m + 1) l := fun x' v' t' ho hp => by
  obtain ⟨a1, a2, -⟩ := txtE_parts ho hp
  rw [a1, a2, (eat_at l _).1] at h
  cases h

theorem took_untilR {m : Nat} {l : List UInt8} (h : untilP 123 (l.drop ((l.takeWhile nmByte).length + 1)) = none) : NoR (m + 1) l := fun x' v' t' ho hp => by
  obtain ⟨a1, -, a3, -⟩ := txtE_parts ho hp
  obtain ⟨-, -, -, -, ⟨r, hr⟩, hd, -⟩ := okE_text ho
  rw [a1, a3, hr, untilP_append 123 _ _ (fun c hc e => by have := hd c hc; rw [e, dig_123] at this; cases this)] at h
  cases h

theorem until_oneR {m : Nat} {l d r : List UInt8} (h : untilP 123 (l.drop ((l.takeWhile nmByte).length + 1)) = some (d, r)) {x' : ByteArray} {v' : Int} {t' : T (m + 1)} (ho : okE (m + 1) x' v' t' = true) (hp : txtE (m + 1) x' v' t' = l) : d = Lib.itoa v' ∧ r = txtL (m + 1) t' := by
  obtain ⟨a1, -, a3, -⟩ := txtE_parts ho hp
  obtain ⟨-, -, -, -, ⟨q, hr⟩, hd, -⟩ := okE_text ho
  rw [a1, a3, hr, untilP_append 123 _ _ (fun c hc e => by have := hd c hc; rw [e, dig_123] at this; cases this)] at h
  injection h with h
  exact ⟨(congrArg Prod.fst h).symm, by rw [hr]; exact (congrArg Prod.snd h).symm⟩

theorem took_numR {m : Nat} {l d r : List UInt8} (h : untilP 123 (l.drop ((l.takeWhile nmByte).length + 1)) = some (d, r)) (hn : numOf d = none) : NoR (m + 1) l := fun x' v' t' ho hp => by
  obtain ⟨h1, -⟩ := until_oneR h ho hp
  have hv := (okE_text ho).2.2.1
  exact numOf_none hn v' (by omega) h1.symm

theorem took_treeR {m : Nat} {l d r : List UInt8} (h : untilP 123 (l.drop ((l.takeWhile nmByte).length + 1)) = some (d, r)) (hn : ∀ t, parseU (m + 1) r ≠ some (t, [])) : NoR (m + 1) l := fun x' v' t' ho hp => by
  obtain ⟨-, h2⟩ := until_oneR h ho hp
  have hg := (okE_text ho).2.2.2.1
  have := parseU_complete (m + 1) t' 1 [] hg rfl
  rw [List.append_nil, ← h2] at this
  exact hn t' this

theorem took_allR {m : Nat} {l d r : List UInt8} {v : Int} {t : T (m + 1)} (he : eatP [64] (l.drop (l.takeWhile nmByte).length) = some (l.drop ((l.takeWhile nmByte).length + 1))) (h : untilP 123 (l.drop ((l.takeWhile nmByte).length + 1)) = some (d, r)) (hn : numOf d = some v) (ht : parseU (m + 1) r = some (t, [])) : TookR (m + 1) l (bs (l.takeWhile nmByte)) v t := by
  refine ⟨fun _ => ?_, fun x' v' t' ho hp => ?_⟩
  · have h1 := eatP_some he
    obtain ⟨r', e1, e2, -⟩ := untilP_some h
    have h3 := parseU_sound _ _ _ _ ht
    rw [List.append_nil] at h3
    have h4 := (numOf_some hn).2
    have h5 := takeWhile_prefix' (p := nmByte) l
    unfold txtE
    rw [h4, ← h3, e1]
    rw [e2] at h1
    conv => rhs; rw [← h5, h1]
    unfold bs
    simp
  · obtain ⟨a1, -⟩ := txtE_parts ho hp
    obtain ⟨b1, b2⟩ := until_oneR h ho hp
    have hv := (okE_text ho).2.2.1
    have hg := (okE_text ho).2.2.2.1
    have p := parseU_complete (m + 1) t' 1 [] hg rfl
    rw [List.append_nil, ← b2, ht] at p
    injection p with p
    rw [b1, numOf_itoa v' (by omega)] at hn
    injection hn with hn
    exact ⟨ba_eq (by rw [a1]; unfold bs; simp), hn.symm, congrArg Prod.fst p⟩

end Go.Proofs.YtpnnbdejneoccaaGreatDoor
