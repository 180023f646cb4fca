/-
  Several texts in one, in their order.
-/
import Derived.Test.YtmjhcgjhlakceaaGreatDoorB24
import Derived.Test.YtmjhcgjhlakceaaGreatDoorB8

namespace Go.Proofs.YtmjhcgjhlakceaaGreatDoor
open Go.RowKit
theorem pk_mono : ∀ {d e : Nat}, d <= e -> pk d <= pk e := by
 intro d e h
 induction e generalizing d with
 | zero => have : d = 0 := by omega
           subst this; exact Nat.le_refl _
 | succ e ih =>
  cases d with
  | zero => simp only [pk]; omega
  | succ d => simp only [pk]; have := ih (show d <= e by omega); omega
theorem pk4 : pk 4 = 5265 := rfl
end Go.Proofs.YtmjhcgjhlakceaaGreatDoor

namespace Go.Proofs.YtmjhcgjhlakceaaGreatDoor
open Go.RowKit
def DSPost (m : Nat) (w : World) (R : Nat) (ao : Option Addr) (L cap p q : Nat) (e : Ending) (w' : World) : Prop :=
 Near R w w' /\ ∃ (p' : Nat) (k : K m) (c0 c1 c2 : Value), p' <= p + q /\ Dr w' R ao L cap p' /\ e = .returned (.agg #[c0, c1, c2]) /\ KindIn (fun b => w.heap.size <= b /\ b < w'.heap.size) w' m k c0 c1 c2 /\ depK m k 4 /\ okK m k = true
theorem ds_exit {m R L cap p p' q : Nat} {ao : Option Addr} {w W : World} {k : K m} {g0 g1 g2 : Value} (h : Dr w R ao L cap p) (hn : Near R w W) (hb : W.heap[R]? = some (.cells #[.slice ao L cap, .int .i64 (p' : Int)] 79 (0, 0))) (hp : p' <= p + q) (hk : KindIn (fun b => w.heap.size + 1 <= b /\ b < W.heap.size) W m k g0 g1 g2) (hd : depK m k 4) (hok : okK m k = true) :
  DSPost m w R ao L cap p q (.returned (.agg #[g0, g1, g2])) (put3 W w.heap.size 0 g0 g1 g2) := by
 have hR := h.lt
 have qq : ∀ b, b ≠ w.heap.size -> (put3 W w.heap.size 0 g0 g1 g2).heap[b]? = W.heap[b]? := fun b h => put3_other h
 have hz : (put3 W w.heap.size 0 g0 g1 g2).heap.size = W.heap.size := put3_size
 have hn' : Near R w (put3 W w.heap.size 0 g0 g1 g2) := ⟨hn.os, hn.tape, hn.output, by rw [hz]; exact hn.size, fun b hb hne => (qq b (by omega)).trans (hn.block b hb hne)⟩
 exact ⟨hn', p', k, _, _, _, hp, h.keep hn' ((qq R (by omega)).trans hb), rfl, hk.keep (fun b hb => qq b (by omega)) (fun b hb => ⟨by omega, by rw [hz]; exact hb.2⟩), hd, hok⟩
theorem form_okK (m : Nat) : okK (m + 1) (⟨5, [], []⟩ : Kd (K m)) = true := by
 simp [okK, goodK, cntK, sumL]; rfl
set_option maxRecDepth 20000 in
set_option maxHeartbeats 4000000 in
theorem l5SomeOk_any (m R : Nat) (ao : Option Addr) (L cap p : Nat) (top : Bool) (w : World) (hm : 4 <= m) (h : Dr w R ao L cap p) (hp : p <= 900000) :
  Calls Tryz.prog 44 #[.pointer (some ⟨R, 0, none⟩), .bool top] w (DSPost m w R ao L cap p 21064) := by
 have hR := h.lt
 have HD0 : Hid (Dr w R ao L cap p) := h
 obtain ⟨W1, hW1⟩ : ∃ W1, W1 = w.alloc (.cells #[.int .i64 0, .slice none 0 0, .slice none 0 0] 85) := ⟨_, rfl⟩
 have hz1 : W1.heap.size = w.heap.size + 1 := by rw [hW1]; simp
 have hb1 : Below w.heap.size w W1 := by rw [hW1]; exact (Below.refl _ _).alloc (Nat.le_refl _) _
 have hzero : W1.heap[w.heap.size]? = some (.cells #[.int .i64 0, .slice none 0 0, .slice none 0 0] 85 (0, 0)) := by rw [hW1]; exact heap_alloc_new _ _
 have HZ1 : Hid (Below w.heap.size w W1 /\ W1.heap[w.heap.size]? = some (.cells #[.int .i64 0, .slice none 0 0, .slice none 0 0] 85 (0, 0))) := ⟨hb1, hzero⟩
 have hD1 := h.same hb1
 have HS0 : Hid (Near R W1 W1 /\ Dr W1 R ao L cap p) := ⟨Near.refl _ _, hD1⟩
 clear h hb1 hzero hD1
 go_enter Tryz.func44, Tryz.ntmps44
 go_wp2_with fail
 rw [<- hW1]
 clear hW1
 go_loopw [5] (fun iv wr => ∃ (i p' : Nat), i <= 4 /\ iv = .int .i64 i /\ Near R W1 wr /\ Dr wr R ao L cap p' /\ p' <= p + i * 5266) (fun iv _ => 4 - (intOf iv).toNat)
 case atStart => exact ⟨0, p, by omega, rfl, HS0.out.1, HS0.out.2, by omega⟩
 case round =>
  obtain ⟨i, p', hi4, rfl, hnr, hD, hp'⟩ := hrel
  have hzr := hnr.size
  have HZr : Hid (∀ W, Near R wr W -> Near R w W /\ W.heap[w.heap.size]? = some (.cells #[.int .i64 0, .slice none 0 0, .slice none 0 0] 85 (0, 0))) := fun W hW =>
   ⟨((Near.of_below HZ1.out.1).trans hnr).trans hW, ((hnr.trans hW).block _ (by omega) (by omega)).trans HZ1.out.2⟩
  by_cases hlt : i < 4
  ·have hlti : (i : Int) < 4 := by omega
   have HPk : Hid (Calls Tryz.prog 17 #[.pointer (some ⟨R, 0, none⟩), .int .i64 3] wr (PickPost wr R ao L cap p' 3)) := pick_any wr R ao L cap p' 3 hD (by omega) (by omega) (by omega)
   have HNr : Hid (Near R W1 wr) := hnr
   clear hnr hD HS0
   go_wp2_with fail
   refine HPk.out.mono ?_
   rintro e w4 ⟨y, rfl, hy, hn4, hD4, hz4⟩
   have HK : Hid (Calls Tryz.prog 87 #[.pointer (some ⟨R, 0, none⟩), .int .i64 (2 + (y : Int)), .bool top] w4 (DKPost m (2 + y) w4 R ao L cap (p' + 1) (pk (2 + y)))) := by
    have hle := pk_mono (show 2 + y <= 4 by omega)
    rw [pk4] at hle
    have := l5Kind_any (2 + y) m R ao L cap (p' + 1) top w4 (by omega) (by omega) hD4 (by omega)
    rw [show ((2 + y : Nat) : Int) = 2 + (y : Int) by omega] at this
    exact this
   have HN4 : Hid (Near R wr w4) := hn4
   clear HPk hz4 hD4 hn4
   go_wp2_with fail
   refine HK.out.mono ?_
   rintro e w5 ⟨hn5, p5, k, c0, c1, c2, hp5, hD5, rfl, hk, hdk⟩
   obtain ⟨u0, ua, ul, uc, ya, yl, yc, rfl, rfl, rfl⟩ := hk.shape
   have hle := pk_mono (show 2 + y <= 4 by omega)
   rw [pk4] at hle
   have hz45 := hn5.size
   have hz04 := HN4.out.size
   obtain ⟨W6, hW6⟩ : ∃ W6, W6 = w5.alloc (.cells #[.int .i64 u0, .slice ua ul uc, .slice ya yl yc] 85) := ⟨_, rfl⟩
   have hb56 : Below w5.heap.size w5 W6 := by rw [hW6]; exact (Below.refl _ _).alloc (Nat.le_refl _) _
   have hx6 : Box3 W6 w5.heap.size (.int .i64 u0) (.slice ua ul uc) (.slice ya yl yc) := by rw [hW6]; exact Box3.new _ _ _ _ _
   obtain ⟨hk6, hB6⟩ := hk.step (fun b hb => hb.2) hb56
   have HOk : Hid (Calls Tryz.prog 88 #[.agg #[.int .i64 u0, .slice ua ul uc, .slice ya yl yc]] W6 _) := specKOk_any m _ k _ _ _ W6 hk6 hB6
   have hn06 : Near R wr W6 := (HN4.out.trans hn5).trans (Near.of_below hb56)
   have hD6 := hD5.same hb56
   clear HK hn5 hD5 hk
   go_wp2_with fail
   rw [<- hW6]
   clear hW6
   refine HOk.out.mono ?_
   rintro e w7 ⟨rfl, hb7⟩
   have hz7 := hb7.size
   have hz56 := hb56.size
   obtain ⟨k0, k1, k2⟩ := hx6.keep hb7
   have hn07 := hn06.trans (Near.of_below hb7)
   have hD7 := hD6.same hb7
   have hk7 := (hk6.step hB6 hb7).1
   cases hok : okK m k with
   | true =>
    obtain ⟨q1, q2⟩ := HZr.out w7 hn07
    obtain ⟨⟨r0, r1, r2⟩, f0, f1, f2⟩ := zeroD_cells q2
    have HP : Hid (DSPost m w R ao L cap p 21064 (.returned (.agg #[.int .i64 u0, .slice ua ul uc, .slice ya yl yc])) (put3 w7 w.heap.size 0 (.int .i64 u0) (.slice ua ul uc) (.slice ya yl yc))) :=
     ds_exit HD0.out q1 hD7.box (by omega) (hk7.keep (fun _ _ => rfl) (fun b hb => ⟨by omega, by omega⟩)) (hdk.mono (by omega)) hok
    clear HOk hb7 hb56 hx6 hk6 hn06 hD6 hn07 hD7 hk7 hok q1 q2 HZr
    go_wp2_with fail
    refine bodyPost_ret (v := .agg #[.int .i64 u0, .slice ua ul uc, .slice ya yl yc]) (by simp [results, Tryz.results44, go_sem, r0, r1, r2]) rfl ?_
    exact HP.out
   | false =>
    have HR7 : Hid (Near R W1 w7 /\ Dr w7 R ao L cap p5) := ⟨HNr.out.trans hn07, hD7⟩
    clear HOk hb7 hb56 hx6 hk6 hn06 hD6 hn07 hD7 hk7 hok HZr k0 k1 k2
    go_wp2_with fail
    go_roundw
    case rel => exact ⟨i + 1, p5, by omega, by go_num, HR7.out.1, HR7.out.2, by omega⟩
    case measure => simp [intOf]; omega
  ·have hlti : ¬ (i : Int) < 4 := by omega
   obtain ⟨q1, q2⟩ := HZr.out wr (Near.refl _ _)
   obtain ⟨⟨r0, r1, r2⟩, f0, f1, f2⟩ := zeroD_cells q2
   obtain ⟨m', rfl⟩ : ∃ m', m = m' + 1 := ⟨m - 1, by omega⟩
   have HP : Hid (DSPost (m' + 1) w R ao L cap p 21064 (.returned (.agg #[.int .i64 5, .slice none 0 0, .slice none 0 0])) (put3 wr w.heap.size 0 (.int .i64 5) (.slice none 0 0) (.slice none 0 0))) :=
    ds_exit HD0.out q1 hD.box (by omega) (leafD_in _ _ m' 5 rfl) (depK.leaf m' 5 3) (form_okK m')
   clear HZr q1 q2 hnr hD HS0
   go_wp2_with fail
   refine bodyPost_ret (v := .agg #[.int .i64 5, .slice none 0 0, .slice none 0 0]) (by simp [results, Tryz.results44, go_sem, r0, r1, r2]) rfl ?_
   exact HP.out
end Go.Proofs.YtmjhcgjhlakceaaGreatDoor

namespace Go.Proofs.YtmjhcgjhlakceaaGreatDoor
open Go.RowKit
set_option maxRecDepth 20000 in
set_option maxHeartbeats 1000000 in
theorem l5Num_any (w : World) (R : Nat) (ao : Option Addr) (L cap p : Nat) (h : Dr w R ao L cap p) (hp : p <= 900000) :
  Calls Tryz.prog 85 #[.pointer (some ⟨R, 0, none⟩)] w fun e w' => ∃ (x : Int) (p' : Nat), e = .returned (.int .i64 x) /\ -1000000000 <= x /\ x <= 1000000000 /\ p' <= p + 3 /\ Near R w w' /\ Dr w' R ao L cap p' := by
 have HPk : Hid (Calls Tryz.prog 17 #[.pointer (some ⟨R, 0, none⟩), .int .i64 9] w (PickPost w R ao L cap p 9)) := pick_any w R ao L cap p 9 h (by omega) (by omega) (by omega)
 clear h
 go_enter Tryz.func85, Tryz.ntmps85
 go_wp2_with fail
 refine HPk.out.mono ?_
 rintro e w1 ⟨y, rfl, hy, hn1, hD1, hz1⟩
 have HND : Hid (Near R w w1 /\ Dr w1 R ao L cap (p + 1)) := ⟨hn1, hD1⟩
 clear HPk hn1 hD1 hz1
 by_cases y0 : y = 0
 ·subst y0
  go_wp2_with fail
  go_ret
  exact ⟨_, p + 1, rfl, by omega, by omega, by omega, HND.out.1, HND.out.2⟩
 by_cases y1 : y = 1
 ·subst y1
  go_wp2_with fail
  go_ret
  exact ⟨_, p + 1, rfl, by omega, by omega, by omega, HND.out.1, HND.out.2⟩
 by_cases y2 : y = 2
 ·subst y2
  have HP2 : Hid (Calls Tryz.prog 17 #[.pointer (some ⟨R, 0, none⟩), .int .i64 250] w1 (PickPost w1 R ao L cap (p + 1) 250)) := pick_any w1 R ao L cap (p + 1) 250 HND.out.2 (by omega) (by omega) (by omega)
  go_wp2_with fail
  refine HP2.out.mono ?_
  rintro e w2 ⟨a, rfl, ha, hn2, hD2, hz2⟩
  have hw : IntKind.i64.wrap ((a : Int) * 4000000) = (a : Int) * 4000000 := by rw [IntKind.wrap_i64]; omega
  have HP3 : Hid (Calls Tryz.prog 17 #[.pointer (some ⟨R, 0, none⟩), .int .i64 200] w2 (PickPost w2 R ao L cap (p + 1 + 1) 200)) := pick_any w2 R ao L cap (p + 1 + 1) 200 hD2 (by omega) (by omega) (by omega)
  have HN2 : Hid (Near R w w2) := HND.out.1.trans hn2
  clear HP2 hn2 hD2 hz2 HND
  go_wp2_with fail
  refine HP3.out.mono ?_
  rintro e w3 ⟨b, rfl, hb, hn3, hD3, hz3⟩
  have hw2 : IntKind.i64.wrap ((a : Int) * 4000000 + (b : Int)) = (a : Int) * 4000000 + (b : Int) := by rw [IntKind.wrap_i64]; omega
  have HN3 : Hid (Near R w w3 /\ Dr w3 R ao L cap (p + 1 + 1 + 1)) := ⟨HN2.out.trans hn3, hD3⟩
  clear HP3 hn3 hD3 hz3 HN2
  go_wp2_with fail
  go_ret
  exact ⟨_, _, rfl, by omega, by omega, by omega, HN3.out.1, HN3.out.2⟩
 have e0 : ((y : Int) == 0) = false := by simp; omega
 have e1 : ((y : Int) == 1) = false := by simp; omega
 have e2 : ((y : Int) == 2) = false := by simp; omega
 by_cases y3 : y = 3
 ·subst y3
  have HP2 : Hid (Calls Tryz.prog 17 #[.pointer (some ⟨R, 0, none⟩), .int .i64 2] w1 (PickPost w1 R ao L cap (p + 1) 2)) := pick_any w1 R ao L cap (p + 1) 2 HND.out.2 (by omega) (by omega) (by omega)
  clear e0 e1 e2
  go_wp2_with fail
  refine HP2.out.mono ?_
  rintro e w2 ⟨a, rfl, ha, hn2, hD2, hz2⟩
  have hw : IntKind.i64.wrap (127 + (a : Int)) = 127 + (a : Int) := by rw [IntKind.wrap_i64]; omega
  have HN2 : Hid (Near R w w2 /\ Dr w2 R ao L cap (p + 1 + 1)) := ⟨HND.out.1.trans hn2, hD2⟩
  clear HP2 hn2 hD2 hz2 HND
  go_wp2_with fail
  go_ret
  exact ⟨_, _, rfl, by omega, by omega, by omega, HN2.out.1, HN2.out.2⟩
 have e3 : ((y : Int) == 3) = false := by simp; omega
 have HP2 : Hid (Calls Tryz.prog 17 #[.pointer (some ⟨R, 0, none⟩), .int .i64 12] w1 (PickPost w1 R ao L cap (p + 1) 12)) := pick_any w1 R ao L cap (p + 1) 12 HND.out.2 (by omega) (by omega) (by omega)
 go_wp2_with fail
 refine HP2.out.mono ?_
 rintro e w2 ⟨a, rfl, ha, hn2, hD2, hz2⟩
 have hw : IntKind.i64.wrap ((a : Int) - 3) = (a : Int) - 3 := by rw [IntKind.wrap_i64]; omega
 have HN2 : Hid (Near R w w2 /\ Dr w2 R ao L cap (p + 1 + 1)) := ⟨HND.out.1.trans hn2, hD2⟩
 clear HP2 hn2 hD2 hz2 HND
 go_wp2_with fail
 go_ret
 exact ⟨_, _, rfl, by omega, by omega, by omega, HN2.out.1, HN2.out.2⟩
set_option maxRecDepth 20000 in
set_option maxHeartbeats 1000000 in
theorem l5Text_any (w : World) (R : Nat) (ao : Option Addr) (L cap p : Nat) (h : Dr w R ao L cap p) (hp : p <= 900000) :
  Calls Tryz.prog 86 #[.pointer (some ⟨R, 0, none⟩)] w fun e w' => ∃ (x : ByteArray) (p' : Nat), e = .returned (.string x) /\ x.size <= 10000 /\ p' <= p + 3 /\ Near R w w' /\ Dr w' R ao L cap p' := by
 have HPk : Hid (Calls Tryz.prog 17 #[.pointer (some ⟨R, 0, none⟩), .int .i64 30] w (PickPost w R ao L cap p 30)) := pick_any w R ao L cap p 30 h (by omega) (by omega) (by omega)
 clear h
 go_enter Tryz.func86, Tryz.ntmps86
 go_wp2_with fail
 refine HPk.out.mono ?_
 rintro e w1 ⟨y, rfl, hy, hn1, hD1, hz1⟩
 have HND : Hid (Near R w w1 /\ Dr w1 R ao L cap (p + 1)) := ⟨hn1, hD1⟩
 clear HPk hn1 hD1 hz1
 by_cases y0 : y = 0
 ·subst y0
  have HM : Hid (Calls Tryz.prog 120 #[.string ⟨#[120]⟩, .int .i64 60] w1 _) := l6Many_any ⟨#[120]⟩ 60 w1 (by decide) (by omega)
  go_wp2_with fail
  refine HM.out.mono ?_
  rintro e w2 ⟨x, rfl, hx, rfl⟩
  clear HM
  go_wp2_with fail
  go_ret
  exact ⟨_, _, rfl, hx, by omega, HND.out.1, HND.out.2⟩
 ·have e0 : ((y : Int) == 0) = false := by simp; omega
  have HOf : Hid (∀ (cs : Array Value), cs.size = 13 -> cs.toList.all okLit = true -> Calls Tryz.prog 30 #[.pointer (some ⟨R, 0, none⟩), .slice (some ⟨w1.heap.size, 0, none⟩) 13 13] (w1.alloc (.cells cs 9)) _) := fun cs h1 h2 => of_lit w1 R ao L cap (p + 1) HND.out.2 (by omega) cs 13 h1 (by omega) (by omega) h2
  go_wp2_with fail
  refine (HOf.out _ rfl rfl).mono ?_
  rintro e w2 ⟨x, rfl, hx, hn2, hD2⟩
  have HN2 : Hid (Near R w w2 /\ Dr w2 R ao L cap (p + 1 + 1)) := ⟨HND.out.1.trans hn2, hD2⟩
  clear HOf hn2 hD2 HND
  go_wp2_with fail
  go_ret
  exact ⟨_, _, rfl, hx, by omega, HN2.out.1, HN2.out.2⟩
end Go.Proofs.YtmjhcgjhlakceaaGreatDoor
