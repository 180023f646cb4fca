/-
  Several texts in one, in their order.
-/
import Derived.Test.YtmjhcgjhlakceaaGreatDoorB29
import Derived.Deep.WholeRow
import Derived.Deep.Cut
import Derived.Deep.CutRange
import Derived.LoopTactic
import Derived.Test.YtmjhcgjhlakceaaGreatDoorB31
import Derived.Test.YtmjhcgjhlakceaaGreatDoorB15

namespace Go.Proofs.YtmjhcgjhlakceaaGreatDoor
open Go.RowKit
theorem Tryz.zeroReader : Tryz.zeroCells103.toList = Value.string ⟨#[]⟩ :: Value.int .i64 0 :: List.replicate 256 Value.nilFunc := by kernel_rfl
def newF (s : ByteArray) (j : Nat) : Value := if j = 0 then .string s else if j = 1 then .int .i64 0 else .nilFunc
theorem new_row (s : ByteArray) (w : World) : (w.alloc (.cells ((Tryz.zeroCells103.setIfInBounds 0 (.string s)).setIfInBounds 1 (.int .i64 0)) 103)).rowIs w.heap.size 103 258 (newF s) := by
 have hz := Tryz.zeroCells103_size
 have hl := Tryz.zeroReader
 generalize Tryz.zeroCells103 = z at *
 have hsz : ((z.setIfInBounds 0 (.string s)).setIfInBounds 1 (.int .i64 0)).size = 258 := by simp [hz]
 have := World.rowIs_alloc w ((z.setIfInBounds 0 (.string s)).setIfInBounds 1 (.int .i64 0)) 103 (newF s) (fun i hi => by
  rw [hsz] at hi
  unfold newF
  by_cases h0 : i = 0
  ·subst h0; simp [hz]
  by_cases h1 : i = 1
  ·subst h1; simp [hz]
  rw [if_neg h0, if_neg h1]
  have hzi : z[i]? = some .nilFunc := by
   rw [<- Array.getElem?_toList, hl]
   obtain ⟨k, rfl⟩ : ∃ k, i = k + 2 := ⟨i - 2, by omega⟩
   simp only [List.getElem?_cons_succ]
   rw [List.getElem?_replicate, if_pos (by omega)]
  rw [Array.getElem?_setIfInBounds_ne (by omega), Array.getElem?_setIfInBounds_ne (by omega)]
  exact hzi)
 rw [hsz] at this
 exact this
def methN (R n : Nat) : Value :=
 if (48 <= n /\ n <= 57) ∨ n = 45 then .func (.func 68) #[.pointer (some ⟨R, 0, none⟩)] #[]
 else if n = 34 then .func (.func 71) #[.pointer (some ⟨R, 0, none⟩)] #[]
 else if n = 121 ∨ n = 110 then .func (.func 69) #[.pointer (some ⟨R, 0, none⟩)] #[]
 else if n = 91 then .func (.func 72) #[.pointer (some ⟨R, 0, none⟩)] #[]
 else if n = 123 then .func (.func 73) #[.pointer (some ⟨R, 0, none⟩)] #[]
 else if n = 126 ∨ n = 63 then .func (.func 70) #[.pointer (some ⟨R, 0, none⟩)] #[]
 else .nilFunc
theorem methV_nat (R : Nat) (c : UInt8) : methV R c = methN R c.toNat := by
 have e : ∀ k : UInt8, (c = k) = (c.toNat = k.toNat) := fun k => propext UInt8.toNat_inj.symm
 have d : (digC c = true) = (48 <= c.toNat /\ c.toNat <= 57) := by
  unfold digC
  rw [decide_eq_true_eq]
  exact propext ⟨fun h => ⟨by omega, by omega⟩, fun h => ⟨by omega, by omega⟩⟩
 unfold methV methN
 simp only [e, d]
 rfl
theorem meth_of_row {w : World} {R : Nat} {t : TypeId} {F : Nat -> Value} (h : w.rowIs R t 258 F) (hF : ∀ n, n < 256 -> F (2 + n) = methN R n) : Meth w R := fun c => by
 have hc := c.toNat_lt
 rw [h.cell (by omega), hF _ (by omega), methV_nat]
def digF (s : ByteArray) (R k : Nat) (j : Nat) : Value := if 50 <= j /\ j < 2 + k then .func (.func 68) #[.pointer (some ⟨R, 0, none⟩)] #[] else newF s j
def finW (wr : World) (R : Nat) (vn vq vf vl vo vm : Value) : World := ((((((((wr.setCell ⟨R, 47, none⟩ vn).setCell ⟨R, 36, none⟩ vq).setCell ⟨R, 123, none⟩ vf).setCell ⟨R, 112, none⟩ vf).setCell ⟨R, 93, none⟩ vl).setCell ⟨R, 125, none⟩ vo).setCell ⟨R, 128, none⟩ vm).setCell ⟨R, 65, none⟩ vm)
theorem fin_row {wr : World} {R : Nat} {t : TypeId} {F : Nat -> Value} (h : wr.rowIs R t 258 F) (vn vq vf vl vo vm : Value) : (finW wr R vn vq vf vl vo vm).rowIs R t 258 (fun j => if j = 65 then vm else if j = 128 then vm else if j = 125 then vo else if j = 93 then vl else if j = 112 then vf else if j = 123 then vf else if j = 36 then vq else if j = 47 then vn else F j) := ((((((((h.set 47 vn).set 36 vq).set 123 vf).set 112 vf).set 93 vl).set 125 vo).set 128 vm).set 65 vm)
theorem fin_below {w wr : World} (hb : Below w.heap.size w wr) (vn vq vf vl vo vm : Value) : Below w.heap.size w (finW wr w.heap.size vn vq vf vl vo vm) := by
 have R : Nat := w.heap.size
 exact ((((((((hb.setCell (Nat.le_refl _) _).setCell (Nat.le_refl _) _).setCell (Nat.le_refl _) _).setCell (Nat.le_refl _) _).setCell (Nat.le_refl _) _).setCell (Nat.le_refl _) _).setCell (Nat.le_refl _) _).setCell (Nat.le_refl _) _)
theorem fin_eq (n : Nat) (vn vq vf vl vo vm z : Value) : (if 2 + n = 65 then vm else if 2 + n = 128 then vm else if 2 + n = 125 then vo else if 2 + n = 93 then vl else if 2 + n = 112 then vf else if 2 + n = 123 then vf else if 2 + n = 36 then vq else if 2 + n = 47 then vn else if 50 <= 2 + n /\ 2 + n < 2 + 58 then vn else z) = (if (48 <= n /\ n <= 57) ∨ n = 45 then vn else if n = 34 then vq else if n = 121 ∨ n = 110 then vf else if n = 91 then vl else if n = 123 then vo else if n = 126 ∨ n = 63 then vm else z) := by
 by_cases h1 : n = 63
 ·subst h1; rfl
 by_cases h2 : n = 126
 ·subst h2; rfl
 by_cases h3 : n = 123
 ·subst h3; rfl
 by_cases h4 : n = 91
 ·subst h4; rfl
 by_cases h5 : n = 110
 ·subst h5; rfl
 by_cases h6 : n = 121
 ·subst h6; rfl
 by_cases h7 : n = 34
 ·subst h7; rfl
 by_cases h8 : n = 45
 ·subst h8; rfl
 rw [if_neg (by omega), if_neg (by omega), if_neg (by omega), if_neg (by omega), if_neg (by omega), if_neg (by omega), if_neg (by omega), if_neg (by omega)]
 by_cases h9 : 48 <= n /\ n <= 57
 ·rw [if_pos (by omega), if_pos (.inl h9)]
 ·rw [if_neg (by omega), if_neg (by omega), if_neg h7, if_neg (by omega), if_neg h4, if_neg h3, if_neg (by omega)]
theorem fin_ok {s : ByteArray} {w wr : World} {R : Nat} (hR : R = w.heap.size) (hb : Below w.heap.size w wr) (hr : wr.rowIs R 103 258 (digF s R 58)) :
  (fun W => Below w.heap.size w W /\ Sc W R s 0 /\ Meth W R) (finW wr R (.func (.func 68) #[.pointer (some ⟨R, 0, none⟩)] #[]) (.func (.func 71) #[.pointer (some ⟨R, 0, none⟩)] #[]) (.func (.func 69) #[.pointer (some ⟨R, 0, none⟩)] #[])
   (.func (.func 72) #[.pointer (some ⟨R, 0, none⟩)] #[]) (.func (.func 73) #[.pointer (some ⟨R, 0, none⟩)] #[]) (.func (.func 70) #[.pointer (some ⟨R, 0, none⟩)] #[])) := by
 have hrow := fin_row hr (.func (.func 68) #[.pointer (some ⟨R, 0, none⟩)] #[]) (.func (.func 71) #[.pointer (some ⟨R, 0, none⟩)] #[]) (.func (.func 69) #[.pointer (some ⟨R, 0, none⟩)] #[])
   (.func (.func 72) #[.pointer (some ⟨R, 0, none⟩)] #[]) (.func (.func 73) #[.pointer (some ⟨R, 0, none⟩)] #[]) (.func (.func 70) #[.pointer (some ⟨R, 0, none⟩)] #[])
 refine ⟨?_, ⟨?_, ?_, hrow.frozen 1⟩, meth_of_row hrow fun n hn => ?_⟩
 ·subst hR
  exact fin_below hb _ _ _ _ _ _
 ·have := hrow.cell (i := 0) (by omega)
  rw [this]; rfl
 ·have := hrow.cell (i := 1) (by omega)
  rw [this]; rfl
 ·have hz : newF s (2 + n) = .nilFunc := by unfold newF; rw [if_neg (by omega), if_neg (by omega)]
  show (if 2 + n = 65 then (.func (.func 70) #[.pointer (some ⟨R, 0, none⟩)] #[] : Value) else if 2 + n = 128 then (.func (.func 70) #[.pointer (some ⟨R, 0, none⟩)] #[] : Value) else if 2 + n = 125 then (.func (.func 73) #[.pointer (some ⟨R, 0, none⟩)] #[] : Value) else if 2 + n = 93 then (.func (.func 72) #[.pointer (some ⟨R, 0, none⟩)] #[] : Value) else if 2 + n = 112 then (.func (.func 69) #[.pointer (some ⟨R, 0, none⟩)] #[] : Value) else if 2 + n = 123 then (.func (.func 69) #[.pointer (some ⟨R, 0, none⟩)] #[] : Value) else if 2 + n = 36 then (.func (.func 71) #[.pointer (some ⟨R, 0, none⟩)] #[] : Value) else if 2 + n = 47 then (.func (.func 68) #[.pointer (some ⟨R, 0, none⟩)] #[] : Value) else if 50 <= 2 + n /\ 2 + n < 2 + 58 then (.func (.func 68) #[.pointer (some ⟨R, 0, none⟩)] #[] : Value) else newF s (2 + n)) = _
  rw [hz]
  exact fin_eq n _ _ _ _ _ _ _
theorem fin_drew {B R : Nat} {w W : World} {s : ByteArray} (h : Below B w W /\ Sc W R s 0 /\ Meth W R) : Below B w W.drew.drew /\ Sc W.drew.drew R s 0 /\ Meth W.drew.drew R :=
 ⟨h.1.drew.drew, ⟨h.2.1.c0, h.2.1.c1, h.2.1.f1⟩, fun c => h.2.2 c⟩
set_option maxRecDepth 100000 in
set_option maxHeartbeats 2000000 in
theorem newTreeReader_any (s : ByteArray) (w : World) :
  Calls Tryz.prog 37 #[.string s] w fun e w' => e = .returned (.pointer (some ⟨w.heap.size, 0, none⟩)) /\ Below w.heap.size w w' /\ Sc w' w.heap.size s 0 /\ Meth w' w.heap.size := by
 have hmf : ∀ (fn : Fn) (first cap : Array Value) (w : World), (Instr.makeFunc fn first cap).run Tryz.prog w = .ok (.func fn first cap) w := fun _ _ _ _ => rfl
 have hst : ∀ (a : Addr) (md : Mode) (fn : Fn) (first cap : Array Value) (w : World), (store a (.func fn first cap) md).run Tryz.prog w = stored Tryz.prog w a (.func fn first cap) md := fun a md _ _ _ w => run_store _ w a _ md rfl
 have HR0 : Hid (World.rowIs _ w.heap.size 103 258 (newF s)) := new_row s w
 have HB0 : Hid (Below w.heap.size w (w.alloc (.cells ((Tryz.zeroCells103.setIfInBounds 0 (.string s)).setIfInBounds 1 (.int .i64 0)) 103))) := (Below.refl _ _).alloc (Nat.le_refl _) _
 go_enter Tryz.func37, Tryz.ntmps37
 go_upto_region 4 with fail
 generalize (w.alloc (.cells ((Tryz.zeroCells103.setIfInBounds 0 (.string s)).setIfInBounds 1 (.int .i64 0)) 103)) = W at *
 go_loopw [7] (fun d wr => ∃ k : Nat, 48 <= k /\ k <= 58 /\ d = .int .i32 (k : Int) /\ Below w.heap.size w wr /\ wr.rowIs w.heap.size 103 258 (digF s w.heap.size k)) (fun d _ => 58 - (intOf d).toNat)
 case atStart => exact ⟨48, by omega, by omega, rfl, HB0.out, HR0.out.congr (fun j _ => by unfold digF; rw [if_neg (by omega)])⟩
 case round =>
  obtain ⟨k, hk0, hk1, rfl, hb, hr⟩ := hrel
  have HR : Hid (wr.rowIs w.heap.size 103 258 (digF s w.heap.size k)) := hr
  have HB : Hid (Below w.heap.size w wr) := hb
  clear HR0 HB0
  by_cases hlt : k <= 57
  ·have hki : (k : Int) <= 57 := by omega
   have hw : IntKind.i32.wrap ((k : Int) + 1) = (k : Int) + 1 := by rw [IntKind.wrap_i32]; omega
   have hc := hr.cell (i := 2 + k) (by omega)
   have hf := hr.frozen (2 + k)
   clear hr hb
   go_wp2_with fail
   go_roundw
   case rel =>
    refine ⟨k + 1, by omega, by omega, by go_num, HB.out.setCell (Nat.le_refl _) _, (HR.out.set (2 + k) _).congr (fun j _ => ?_)⟩
    unfold digF
    by_cases hj : j = 2 + k
    ·rw [if_pos hj, if_pos (by omega)]
    ·rw [if_neg hj]
     by_cases hj2 : 50 <= j /\ j < 2 + k
     ·rw [if_pos hj2, if_pos (by omega)]
     ·rw [if_neg hj2, if_neg (by omega)]
   case measure => simp [intOf]; omega
  ·have hk : k = 58 := by omega
   subst hk
   have hki : ¬ (58 : Int) <= 57 := by omega
   have hc : ∀ o, o < 258 -> ∃ v, wr.cell? ⟨w.heap.size, o, none⟩ = some v := fun o ho => ⟨_, hr.cell ho⟩
   have hf := hr.frozen
   obtain ⟨v1, a1⟩ := hc 47 (by omega)
   obtain ⟨v2, a2⟩ := hc 36 (by omega)
   obtain ⟨v3, a3⟩ := hc 123 (by omega)
   obtain ⟨v4, a4⟩ := hc 112 (by omega)
   obtain ⟨v5, a5⟩ := hc 93 (by omega)
   obtain ⟨v6, a6⟩ := hc 125 (by omega)
   obtain ⟨v7, a7⟩ := hc 128 (by omega)
   obtain ⟨v8, a8⟩ := hc 65 (by omega)
   have b1 := hf 47
   have b2 := hf 36
   have b3 := hf 123
   have b4 := hf 112
   have b5 := hf 93
   have b6 := hf 125
   have b7 := hf 128
   have b8 := hf 65
   have HFin : Hid (Below w.heap.size w ((((((((wr.setCell ⟨w.heap.size, 47, none⟩ (.func (.func 68) #[.pointer (some ⟨w.heap.size, 0, none⟩)] #[])).setCell ⟨w.heap.size, 36, none⟩ (.func (.func 71) #[.pointer (some ⟨w.heap.size, 0, none⟩)] #[])).setCell ⟨w.heap.size, 123, none⟩ (.func (.func 69) #[.pointer (some ⟨w.heap.size, 0, none⟩)] #[])).setCell ⟨w.heap.size, 112, none⟩ (.func (.func 69) #[.pointer (some ⟨w.heap.size, 0, none⟩)] #[])).setCell ⟨w.heap.size, 93, none⟩ (.func (.func 72) #[.pointer (some ⟨w.heap.size, 0, none⟩)] #[])).setCell ⟨w.heap.size, 125, none⟩ (.func (.func 73) #[.pointer (some ⟨w.heap.size, 0, none⟩)] #[])).setCell ⟨w.heap.size, 128, none⟩ (.func (.func 70) #[.pointer (some ⟨w.heap.size, 0, none⟩)] #[])).setCell ⟨w.heap.size, 65, none⟩ (.func (.func 70) #[.pointer (some ⟨w.heap.size, 0, none⟩)] #[])) /\ Sc ((((((((wr.setCell ⟨w.heap.size, 47, none⟩ (.func (.func 68) #[.pointer (some ⟨w.heap.size, 0, none⟩)] #[])).setCell ⟨w.heap.size, 36, none⟩ (.func (.func 71) #[.pointer (some ⟨w.heap.size, 0, none⟩)] #[])).setCell ⟨w.heap.size, 123, none⟩ (.func (.func 69) #[.pointer (some ⟨w.heap.size, 0, none⟩)] #[])).setCell ⟨w.heap.size, 112, none⟩ (.func (.func 69) #[.pointer (some ⟨w.heap.size, 0, none⟩)] #[])).setCell ⟨w.heap.size, 93, none⟩ (.func (.func 72) #[.pointer (some ⟨w.heap.size, 0, none⟩)] #[])).setCell ⟨w.heap.size, 125, none⟩ (.func (.func 73) #[.pointer (some ⟨w.heap.size, 0, none⟩)] #[])).setCell ⟨w.heap.size, 128, none⟩ (.func (.func 70) #[.pointer (some ⟨w.heap.size, 0, none⟩)] #[])).setCell ⟨w.heap.size, 65, none⟩ (.func (.func 70) #[.pointer (some ⟨w.heap.size, 0, none⟩)] #[])) w.heap.size s 0 /\ Meth ((((((((wr.setCell ⟨w.heap.size, 47, none⟩ (.func (.func 68) #[.pointer (some ⟨w.heap.size, 0, none⟩)] #[])).setCell ⟨w.heap.size, 36, none⟩ (.func (.func 71) #[.pointer (some ⟨w.heap.size, 0, none⟩)] #[])).setCell ⟨w.heap.size, 123, none⟩ (.func (.func 69) #[.pointer (some ⟨w.heap.size, 0, none⟩)] #[])).setCell ⟨w.heap.size, 112, none⟩ (.func (.func 69) #[.pointer (some ⟨w.heap.size, 0, none⟩)] #[])).setCell ⟨w.heap.size, 93, none⟩ (.func (.func 72) #[.pointer (some ⟨w.heap.size, 0, none⟩)] #[])).setCell ⟨w.heap.size, 125, none⟩ (.func (.func 73) #[.pointer (some ⟨w.heap.size, 0, none⟩)] #[])).setCell ⟨w.heap.size, 128, none⟩ (.func (.func 70) #[.pointer (some ⟨w.heap.size, 0, none⟩)] #[])).setCell ⟨w.heap.size, 65, none⟩ (.func (.func 70) #[.pointer (some ⟨w.heap.size, 0, none⟩)] #[])) w.heap.size) := by
    have h0 := fin_ok (s := s) (w := w) (wr := wr) (R := w.heap.size) rfl HB.out HR.out
    unfold finW at h0
    exact h0
   clear hc hf hr hb HB HR
   go_wp2_with fail
   go_region
   all_goals go_wp2_with fail
   all_goals go_region
   all_goals go_wp2_with fail
   all_goals
    go_ret
    exact ⟨rfl, fin_drew HFin.out⟩
end Go.Proofs.YtmjhcgjhlakceaaGreatDoor

namespace Go.Proofs.YtmjhcgjhlakceaaGreatDoor
open Go.RowKit
def CaughtR (L : Nat) (w : World) (R : Nat) (l : List UInt8) (e : Ending) (w' : World) : Prop :=
 Near R w w' /\ ((∃ (x : ByteArray) (v : Int) (t : T L) (c0 c1 c2 c3 c4 : Value), e = .returned (.tuple #[.agg #[.string x, .int .i64 v, c0, c1, c2, c3, c4], .bool true]) /\ x.size <= 10000 /\ TreeIn (fun b => w.heap.size <= b /\ b < w'.heap.size) w' L t c0 c1 c2 c3 c4 /\ OwnT (fun b => w.heap.size <= b /\ b < w'.heap.size) w' L t c3 c4 /\ TookR L l x v t) ∨
  (NoR L l /\ e = .returned (.tuple #[.agg #[.string ⟨#[]⟩, .int .i64 0, .int .i64 0, .int .i64 0, .string ⟨#[]⟩, .slice none 0 0, .slice none 0 0], .bool false])))
set_option maxRecDepth 100000 in
set_option maxHeartbeats 2000000 in
theorem caughtR_any (m B R : Nat) (s : ByteArray) (w : World) (hL : LaidU B w) (hBR : B <= R) (h : Sc w R s 0) (hM : Meth w R) (hs : s.size <= 10000) (hm : s.size < m + 1) :
  Calls Tryz.prog 51 #[.func (.func 38) #[.agg #[.pointer (some ⟨R, 0, none⟩)]] #[]] w (CaughtR (m + 1) w R s.data.toList) := by
 have hR := h.lt
 obtain ⟨W, hW⟩ : ∃ W, W = w.alloc (.cells #[.string ⟨#[]⟩, .int .i64 0, .int .i64 0, .int .i64 0, .string ⟨#[]⟩, .slice none 0 0, .slice none 0 0] 29) := ⟨_, rfl⟩
 have hzW : W.heap.size = w.heap.size + 1 := by rw [hW]; simp
 have hb0 : Below w.heap.size w W := by rw [hW]; exact (Below.refl _ _).alloc (Nat.le_refl _) _
 have HZ : Hid (W.heap[w.heap.size]? = some (.cells #[.string ⟨#[]⟩, .int .i64 0, .int .i64 0, .int .i64 0, .string ⟨#[]⟩, .slice none 0 0, .slice none 0 0] 29 (0, 0))) := by rw [hW]; exact heap_alloc_new _ _
 have HN0 : Hid (Near R w W) := Near.of_below hb0
 have hsc0 : Scan R w W 0 := (Scan.refl h).below hb0 hR
 have HC := Lib.hid (wholeR_any m B R s W (hL.step (hb0.mono (by omega))) hBR (hsc0.sc h) (hM.scan hsc0) hs hm)
 clear h hL hM hb0 hsc0
 go_enter_defers Tryz.func51, Tryz.ntmps51
 go_wp2_with fail
 rw [<- hW]
 clear hW
 refine HC.out.mono ?_
 rintro e w1 ⟨hn, ⟨x, v, t, q0, q1, q2, q3, q4, rfl, hx, ht, ho, hk⟩ | ⟨hno, rfl⟩⟩
 ·obtain ⟨t0, t1, t2, ta, tl, tc, ua, ul, uc, rfl, rfl, rfl, rfl, rfl⟩ := ht.shape
  have hz1 := hn.size
  obtain ⟨⟨z0, z1, z2, z3, z4, z5, z6⟩, f0, f1, f2, f3, f4, f5, f6⟩ := ev7_cells ((hn.block w.heap.size (by omega) (by omega)).trans HZ.out)
  have HP : Hid (CaughtR (m + 1) w R s.data.toList (.returned (.tuple #[.agg #[.string x, .int .i64 v, .int .i64 t0, .int .i64 t1, .string t2, .slice ta tl tc, .slice ua ul uc], .bool true])) (put7 w1 w.heap.size (.string x) (.int .i64 v) (.int .i64 t0) (.int .i64 t1) (.string t2) (.slice ta tl tc) (.slice ua ul uc))) := by
   refine ⟨put7_near (HN0.out.trans hn) (Nat.le_refl _), .inl ⟨x, v, t, _, _, _, _, _, rfl, hx, ht.keep (fun b hb => put7_other (by omega)) (fun b hb => ⟨by omega, by rw [put7_size]; exact hb.2⟩), ho.keep (fun b hb => put7_other (by omega)) (fun b hb => ⟨by omega, by rw [put7_size]; exact hb.2⟩), hk⟩⟩
  clear HC ht ho hk hn
  go_wp2_with fail
  refine leaves_cons (f := 92) (args := #[]) (by simp) (by simp [go_sem]) ?_
  refine (catchE_nothing _).mono ?_
  rintro e u' w'' ⟨rfl, rfl, rfl⟩
  exact ⟨.tuple #[.agg #[.string x, .int .i64 v, .int .i64 t0, .int .i64 t1, .string t2, .slice ta tl tc, .slice ua ul uc], .bool true], by simp [results, Tryz.results51, go_sem, z0, z1, z2, z3, z4, z5, z6], HP.out⟩
 ·obtain ⟨⟨z0, z1, z2, z3, z4, z5, z6⟩, f0, f1, f2, f3, f4, f5, f6⟩ := ev7_cells ((hn.block w.heap.size (by omega) (by omega)).trans HZ.out)
  have HP : Hid (CaughtR (m + 1) w R s.data.toList (.returned (.tuple #[.agg #[.string ⟨#[]⟩, .int .i64 0, .int .i64 0, .int .i64 0, .string ⟨#[]⟩, .slice none 0 0, .slice none 0 0], .bool false])) w1) := ⟨HN0.out.trans hn, .inr ⟨hno, rfl⟩⟩
  clear HC hn hno
  refine leaves_cons (f := 92) (args := #[]) (by simp) (by simp [go_sem]) ?_
  refine (catchE_refusal _).mono ?_
  rintro e u' w'' ⟨rfl, rfl, rfl⟩
  exact ⟨.tuple #[.agg #[.string ⟨#[]⟩, .int .i64 0, .int .i64 0, .int .i64 0, .string ⟨#[]⟩, .slice none 0 0, .slice none 0 0], .bool false], by simp [results, Tryz.results51, go_sem, z0, z1, z2, z3, z4, z5, z6], HP.out⟩
def TakenR (m : Nat) (w : World) (R : Nat) (l : List UInt8) (e : Ending) (w' : World) : Prop :=
 Near R w w' /\ ∃ (ok : Bool) (x : ByteArray) (v : Int) (t : T (m + 1)) (c0 c1 c2 c3 c4 : Value), e = .returned (.tuple #[.agg #[.string x, .int .i64 v, c0, c1, c2, c3, c4], .bool ok]) /\ x.size <= 10000 /\ TreeIn (fun b => w.heap.size <= b /\ b < w'.heap.size) w' (m + 1) t c0 c1 c2 c3 c4 /\ OwnA (fun b => w.heap.size <= b /\ b < w'.heap.size) w' (m + 1) c3 c4 /\ ERdA m l ok x v t
theorem takenR_none {m : Nat} {w W : World} {R : Nat} {l : List UInt8} (hn : Near R w W) (hno : ∀ (x' : ByteArray) (v' : Int) (t' : T (m + 1)), okE (m + 1) x' v' t' = true -> txtE (m + 1) x' v' t' ≠ l) : TakenR m w R l (.returned (.tuple #[.agg #[.string ⟨#[]⟩, .int .i64 0, .int .i64 0, .int .i64 0, .string ⟨#[]⟩, .slice none 0 0, .slice none 0 0], .bool false])) W :=
 ⟨hn, false, ByteArray.empty, 0, (⟨0, 0, ByteArray.empty, [], []⟩ : Nd (T m)), _, _, _, _, _, rfl, by simp, leafT_in _ _ m 0 0 ByteArray.empty (by rfl) (by rfl) (by simp), OwnA.none _ _ _, .inr ⟨rfl, rfl, rfl, rfl, hno⟩⟩
set_option maxRecDepth 100000 in
set_option maxHeartbeats 2000000 in
theorem takenR_any (m B R : Nat) (s : ByteArray) (w : World) (hL : LaidU B w) (hBR : B <= R) (h : Sc w R s 0) (hM : Meth w R) (hs : s.size <= 10000) (hm : s.size < m + 1) :
  Calls Tryz.prog 23 #[.func (.func 38) #[.agg #[.pointer (some ⟨R, 0, none⟩)]] #[]] w (TakenR m w R s.data.toList) := by
 have hR := h.lt
 obtain ⟨W, hW⟩ : ∃ W, W = w.alloc (.cells #[.string ⟨#[]⟩, .int .i64 0, .int .i64 0, .int .i64 0, .string ⟨#[]⟩, .slice none 0 0, .slice none 0 0] 29) := ⟨_, rfl⟩
 have hzW : W.heap.size = w.heap.size + 1 := by rw [hW]; simp
 have hb0 : Below w.heap.size w W := by rw [hW]; exact (Below.refl _ _).alloc (Nat.le_refl _) _
 have HZ : Hid (W.heap[w.heap.size]? = some (.cells #[.string ⟨#[]⟩, .int .i64 0, .int .i64 0, .int .i64 0, .string ⟨#[]⟩, .slice none 0 0, .slice none 0 0] 29 (0, 0))) := by rw [hW]; exact heap_alloc_new _ _
 have HN0 : Hid (Near R w W) := Near.of_below hb0
 have hsc0 : Scan R w W 0 := (Scan.refl h).below hb0 hR
 have HC := Lib.hid (caughtR_any m B R s W (hL.step (hb0.mono (by omega))) hBR (hsc0.sc h) (hM.scan hsc0) hs hm)
 clear h hL hM hb0 hsc0
 go_enter Tryz.func23, Tryz.ntmps23
 go_wp2_with fail
 rw [<- hW]
 clear hW
 refine HC.out.mono ?_
 rintro e w1 ⟨hn, ⟨x, v, t, q0, q1, q2, q3, q4, rfl, hx, ht, ho, hk⟩ | ⟨hno, rfl⟩⟩
 case inr =>
  have hz1 := hn.size
  obtain ⟨W2, hW2⟩ : ∃ W2, W2 = w1.alloc (.cells #[.string ⟨#[]⟩, .int .i64 0, .int .i64 0, .int .i64 0, .string ⟨#[]⟩, .slice none 0 0, .slice none 0 0] 29) := ⟨_, rfl⟩
  have hb2 : Below w1.heap.size w1 W2 := by rw [hW2]; exact (Below.refl _ _).alloc (Nat.le_refl _) _
  have hzero2 := (hb2.block w.heap.size (by omega)).trans ((hn.block w.heap.size (by omega) (by omega)).trans HZ.out)
  obtain ⟨⟨z0, z1, z2, z3, z4, z5, z6⟩, f0, f1, f2, f3, f4, f5, f6⟩ := ev7_cells hzero2
  have HP : Hid (TakenR m w R s.data.toList (.returned (.tuple #[.agg #[.string ⟨#[]⟩, .int .i64 0, .int .i64 0, .int .i64 0, .string ⟨#[]⟩, .slice none 0 0, .slice none 0 0], .bool false])) (put7 W2 w.heap.size (.string ⟨#[]⟩) (.int .i64 0) (.int .i64 0) (.int .i64 0) (.string ⟨#[]⟩) (.slice none 0 0) (.slice none 0 0))) := takenR_none (put7_near ((HN0.out.trans hn).trans (Near.of_below hb2)) (Nat.le_refl _)) hno
  have HW2 : Hid (w1.alloc (.cells #[.string ⟨#[]⟩, .int .i64 0, .int .i64 0, .int .i64 0, .string ⟨#[]⟩, .slice none 0 0, .slice none 0 0] 29) = W2) := hW2.symm
  clear HC hn hno hb2 hzero2 hW2
  go_upto_region 2 with fail
  rw [HW2.out]
  clear HW2
  go_wp2_with fail
  refine bodyPost_ret (v := .tuple #[.agg #[.string ⟨#[]⟩, .int .i64 0, .int .i64 0, .int .i64 0, .string ⟨#[]⟩, .slice none 0 0, .slice none 0 0], .bool false]) (by simp [results, Tryz.results23, go_sem, z0, z1, z2, z3, z4, z5, z6]) rfl ?_
  exact HP.out
 obtain ⟨t0, t1, t2, ta, tl, tc, ua, ul, uc, rfl, rfl, rfl, rfl, rfl⟩ := ht.shape
 have hz1 := hn.size
 obtain ⟨W2, hW2⟩ : ∃ W2, W2 = w1.alloc (.cells #[.string x, .int .i64 v, .int .i64 t0, .int .i64 t1, .string t2, .slice ta tl tc, .slice ua ul uc] 29) := ⟨_, rfl⟩
 have hb2 : Below w1.heap.size w1 W2 := by rw [hW2]; exact (Below.refl _ _).alloc (Nat.le_refl _) _
 have hz2 : W2.heap.size = w1.heap.size + 1 := by rw [hW2]; simp
 have hbox2 : W2.heap[w1.heap.size]? = some (.cells #[.string x, .int .i64 v, .int .i64 t0, .int .i64 t1, .string t2, .slice ta tl tc, .slice ua ul uc] 29 (0, 0)) := by rw [hW2]; exact heap_alloc_new _ _
 have hzero2 := (hb2.block w.heap.size (by omega)).trans ((hn.block w.heap.size (by omega) (by omega)).trans HZ.out)
 have hnW2 : Near R w W2 := (HN0.out.trans hn).trans (Near.of_below hb2)
 have ht2 : TreeIn (fun b => W.heap.size <= b /\ b < w1.heap.size) W2 (m + 1) t (.int .i64 t0) (.int .i64 t1) (.string t2) (.slice ta tl tc) (.slice ua ul uc) := ht.keep (fun b hb => hb2.block b hb.2) (fun _ h => h)
 have ho2 : OwnT (fun b => W.heap.size <= b /\ b < w1.heap.size) W2 (m + 1) t (.slice ta tl tc) (.slice ua ul uc) := ho.keep (fun b hb => hb2.block b hb.2) (fun _ h => h)
 have HC2 := Lib.hid (implEOk_any (m + 1) _ x v t _ _ _ _ _ W2 (by unfold maxLen; omega) ht2 (fun b hb => by omega))
 have HTo : Hid (_ /\ _) := ⟨ht2, ho2⟩
 have HK := Lib.hid hk
 have HB2 : Hid (_ /\ _ /\ _) := ⟨hbox2, hzero2, hnW2⟩
 obtain ⟨⟨s0, s1, s2, s3, s4, s5, s6⟩, -⟩ := ev7_cells hbox2
 have HW2 : Hid (w1.alloc (.cells #[.string x, .int .i64 v, .int .i64 t0, .int .i64 t1, .string t2, .slice ta tl tc, .slice ua ul uc] 29) = W2) := hW2.symm
 clear HC hn ht ho hk hb2 hbox2 hzero2 hnW2 ht2 ho2 hW2 HZ HN0
 go_upto_region 2 with fail
 rw [HW2.out]
 clear HW2
 go_wp2_with fail
 refine HC2.out.mono ?_
 rintro e w3 ⟨rfl, hb3⟩
 have hz3 := hb3.size
 clear s0 s1 s2 s3 s4 s5 s6
 obtain ⟨⟨s0, s1, s2, s3, s4, s5, s6⟩, -⟩ := ev7_cells ((hb3.block w1.heap.size (by omega)).trans HB2.out.1)
 obtain ⟨⟨z0, z1, z2, z3, z4, z5, z6⟩, f0, f1, f2, f3, f4, f5, f6⟩ := ev7_cells ((hb3.block w.heap.size (by omega)).trans HB2.out.2.1)
 have hn3 : Near R w w3 := HB2.out.2.2.trans (Near.of_below hb3)
 cases hok : okE (m + 1) x v t with
 | false =>
  have HP : Hid (TakenR m w R s.data.toList (.returned (.tuple #[.agg #[.string ⟨#[]⟩, .int .i64 0, .int .i64 0, .int .i64 0, .string ⟨#[]⟩, .slice none 0 0, .slice none 0 0], .bool false])) (put7 w3 w.heap.size (.string ⟨#[]⟩) (.int .i64 0) (.int .i64 0) (.int .i64 0) (.string ⟨#[]⟩) (.slice none 0 0) (.slice none 0 0))) := takenR_none (put7_near hn3 (Nat.le_refl _)) (fun x' v' t' ho' hp' => by
   obtain ⟨rfl, rfl, rfl⟩ := HK.out.2 x' v' t' ho' hp'
   rw [ho'] at hok; cases hok)
  clear HC2 HTo HK HB2 hb3 hn3 hok
  go_wp2_with fail
  refine bodyPost_ret (v := .tuple #[.agg #[.string ⟨#[]⟩, .int .i64 0, .int .i64 0, .int .i64 0, .string ⟨#[]⟩, .slice none 0 0, .slice none 0 0], .bool false]) (by simp [results, Tryz.results23, go_sem, z0, z1, z2, z3, z4, z5, z6]) rfl ?_
  exact HP.out
 | true =>
  have HP : Hid (TakenR m w R s.data.toList (.returned (.tuple #[.agg #[.string x, .int .i64 v, .int .i64 t0, .int .i64 t1, .string t2, .slice ta tl tc, .slice ua ul uc], .bool true])) (put7 w3 w.heap.size (.string x) (.int .i64 v) (.int .i64 t0) (.int .i64 t1) (.string t2) (.slice ta tl tc) (.slice ua ul uc))) := by
   refine ⟨put7_near hn3 (Nat.le_refl _), true, x, v, t, _, _, _, _, _, rfl, hx, HTo.out.1.keep (fun b hb => (put7_other (by omega)).trans (hb3.block b (by omega))) (fun b hb => ⟨by omega, by rw [put7_size]; omega⟩), ((HTo.out.2).ans hok).keep (fun b hb => (put7_other (by omega)).trans (hb3.block b (by omega))) (fun b hb => ⟨by omega, by rw [put7_size]; omega⟩), .inl ⟨rfl, hok, HK.out.1 hok⟩⟩
  clear HC2 HTo HK HB2 hb3 hn3 hok
  go_wp2_with fail
  refine bodyPost_ret (v := .tuple #[.agg #[.string x, .int .i64 v, .int .i64 t0, .int .i64 t1, .string t2, .slice ta tl tc, .slice ua ul uc], .bool true]) (by simp [results, Tryz.results23, go_sem, z0, z1, z2, z3, z4, z5, z6]) rfl ?_
  exact HP.out
def ERPostI (m : Nat) (l : List UInt8) (w : World) (e : Ending) (w' : World) : Prop :=
 Below w.heap.size w w' /\ ∃ (ok : Bool) (x : ByteArray) (v : Int) (t : T (m + 1)) (c0 c1 c2 c3 c4 : Value), e = .returned (.tuple #[.agg #[.string x, .int .i64 v, c0, c1, c2, c3, c4], .bool ok]) /\ TreeIn (fun b => w.heap.size <= b /\ b < w'.heap.size) w' (m + 1) t c0 c1 c2 c3 c4 /\ OwnA (fun b => w.heap.size <= b /\ b < w'.heap.size) w' (m + 1) c3 c4 /\ ERdA m l ok x v t
set_option maxRecDepth 100000 in
set_option maxHeartbeats 2000000 in
theorem implERead_any (m B : Nat) (s : ByteArray) (hm : s.size <= m) (hs : s.size <= 1048576) (w : World) (hL : LaidU B w) (hB : B <= w.heap.size) :
  Calls Tryz.prog 12 #[.string s] w (ERPostI m s.data.toList w) := by
 obtain ⟨W0, hW0⟩ : ∃ W0, W0 = w.alloc (.cells #[.string ⟨#[]⟩, .int .i64 0, .int .i64 0, .int .i64 0, .string ⟨#[]⟩, .slice none 0 0, .slice none 0 0] 29) := ⟨_, rfl⟩
 have hb0 : Below w.heap.size w W0 := by rw [hW0]; exact (Below.refl _ _).alloc (Nat.le_refl _) _
 have hz0 : W0.heap.size = w.heap.size + 1 := by rw [hW0]; simp
 have hN0 : W0.heap[w.heap.size]? = some (.cells #[.string ⟨#[]⟩, .int .i64 0, .int .i64 0, .int .i64 0, .string ⟨#[]⟩, .slice none 0 0, .slice none 0 0] 29 (0, 0)) := by rw [hW0]; exact heap_alloc_new _ _
 have HB0 := Lib.hid hb0
 have HN0 := Lib.hid hN0
 by_cases h8 : s.size <= 10000
 case neg =>
  have hll : s.data.toList.length = s.size := by simp
  have HP : Hid (ERPostI m s.data.toList w (.returned (.tuple #[.agg #[.string ⟨#[]⟩, .int .i64 0, .int .i64 0, .int .i64 0, .string ⟨#[]⟩, .slice none 0 0, .slice none 0 0], .bool false])) W0) :=
   ⟨HB0.out, false, ByteArray.empty, 0, (⟨0, 0, ByteArray.empty, [], []⟩ : Nd (T m)), _, _, _, _, _, rfl, leafT_in _ _ m 0 0 ByteArray.empty (by rfl) (by rfl) (by simp), OwnA.none _ _ _, .inr ⟨rfl, rfl, rfl, rfl, fun x' v' t' ho hp => by have h1 := txtE_len ho; rw [hp] at h1; omega⟩⟩
  obtain ⟨⟨z0, z1, z2, z3, z4, z5, z6⟩, f0, f1, f2, f3, f4, f5, f6⟩ := ev7_cells hN0
  subst hW0
  have hLi : (10000 : Int) < (s.size : Int) := by omega
  clear hN0 HN0 HB0 hL hll hb0
  go_enter Tryz.func12, Tryz.ntmps12
  go_wp2_with fail
  refine bodyPost_ret (v := .tuple #[.agg #[.string ⟨#[]⟩, .int .i64 0, .int .i64 0, .int .i64 0, .string ⟨#[]⟩, .slice none 0 0, .slice none 0 0], .bool false]) (by simp [results, Tryz.results12, go_sem, z0, z1, z2, z3, z4, z5, z6]) rfl ?_
  exact HP.out
 have hLi : ¬ (10000 : Int) < (s.size : Int) := by omega
 have hmf : ∀ (fn : Fn) (first cap : Array Value) (w : World), (Instr.makeFunc fn first cap).run Tryz.prog w = .ok (.func fn first cap) w := fun _ _ _ _ => rfl
 have HNw := Lib.hid (newTreeReader_any s W0)
 have HL := Lib.hid hL
 clear hL hb0 hN0
 go_enter Tryz.func12, Tryz.ntmps12
 go_wp2_with fail
 rw [<- hW0]
 clear hW0
 refine HNw.out.mono ?_
 rintro e W1 ⟨rfl, hb1, hSc, hMe⟩
 have hz1 : W0.heap.size < W1.heap.size := hSc.lt
 obtain ⟨R, hR⟩ : ∃ R, W0.heap.size = R := ⟨_, rfl⟩
 rw [hR] at hSc hMe hz1
 rw [hR]
 have hRw : R = w.heap.size + 1 := by omega
 have hR1 : w.heap.size < R := by omega
 have hbw1 : Below w.heap.size w W1 := below_step HB0.out HB0.out.size hb1
 have HC := Lib.hid (takenR_any m B R s W1 (HL.out.step (hbw1.mono hB)) (by omega) hSc hMe h8 (by omega))
 have HN1 := Lib.hid ((hb1.block w.heap.size (by omega)).trans HN0.out)
 have HB1 := Lib.hid hbw1
 clear hb1 hSc hMe hbw1 HNw HL HN0 HB0 hR hz0 hRw
 go_wp2_with fail
 refine HC.out.mono ?_
 rintro e w2 ⟨hn2, ok, x, v, t, q0, q1, q2, q3, q4, rfl, hx, ht, ho, hu⟩
 obtain ⟨t0, t1, t2, ta, tl, tc, ua, ul, uc, rfl, rfl, rfl, rfl, rfl⟩ := ht.shape
 have hz2 := hn2.size
 obtain ⟨⟨z0, z1, z2, z3, z4, z5, z6⟩, f0, f1, f2, f3, f4, f5, f6⟩ := ev7_cells ((hn2.block w.heap.size (by omega) (by omega)).trans HN1.out)
 have HP : Hid (ERPostI m s.data.toList w (.returned (.tuple #[.agg #[.string x, .int .i64 v, .int .i64 t0, .int .i64 t1, .string t2, .slice ta tl tc, .slice ua ul uc], .bool ok])) (put7 w2 w.heap.size (.string x) (.int .i64 v) (.int .i64 t0) (.int .i64 t1) (.string t2) (.slice ta tl tc) (.slice ua ul uc))) := by
  have hb2 : Below w.heap.size w w2 := ⟨hn2.os.trans HB1.out.os, hn2.tape.trans HB1.out.tape, hn2.output.trans HB1.out.output, by have := HB1.out.size; omega, fun b hb => (hn2.block b (by have := HB1.out.size; omega) (by omega)).trans (HB1.out.block b hb)⟩
  exact ⟨put7_below hb2 (Nat.le_refl _), ok, x, v, t, _, _, _, _, _, rfl, ht.keep (fun b hb => put7_other (by omega)) (fun b hb => ⟨by omega, by rw [put7_size]; exact hb.2⟩), ho.keep (fun b hb => put7_other (by omega)) (fun b hb => ⟨by omega, by rw [put7_size]; exact hb.2⟩), hu⟩
 clear HC hn2 ht ho hu HB1 HN1
 go_wp2_with fail
 refine bodyPost_ret (v := .tuple #[.agg #[.string x, .int .i64 v, .int .i64 t0, .int .i64 t1, .string t2, .slice ta tl tc, .slice ua ul uc], .bool ok]) (by simp [results, Tryz.results12, go_sem, z0, z1, z2, z3, z4, z5, z6]) rfl ?_
 exact HP.out
end Go.Proofs.YtmjhcgjhlakceaaGreatDoor
