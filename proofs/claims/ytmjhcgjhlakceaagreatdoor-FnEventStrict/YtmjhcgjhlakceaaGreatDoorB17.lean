/-
  Several texts in one, in their order.
-/
import Derived.Test.YtmjhcgjhlakceaaGreatDoorB15
import Derived.Deep.Cut
import Derived.Deep.CutRange
import Derived.Test.YtmjhcgjhlakceaaGreatDoorB1

namespace Go.Proofs.YtmjhcgjhlakceaaGreatDoor
open Go.RowKit
theorem Tryz.info_stringR : (Tryz.prog.info? 9).map (fun i => (i.zero, i.size, i.bytes)) = some (some (.string ⟨#[]⟩), 1, 16) := by kernel_rfl
def FormPost (m n : Nat) (w : World) (R : Nat) (s : ByteArray) (i : Nat) (e : Ending) (w' : World) : Prop :=
 Near R w w' /\ ∃ (ns : List ByteArray) (ks : List (T m)) (nv kv : Value) (i' : Nat) (bad' : Bool), e = .returned (.agg #[.int .i64 5, .int .i64 0, .string ByteArray.empty, nv, kv]) /\
  TreeIn (fun b => w.heap.size <= b /\ b < w'.heap.size) w' (m + 1) (⟨5, 0, ByteArray.empty, ns, ks⟩ : Nd (T m)) (.int .i64 5) (.int .i64 0) (.string ByteArray.empty) nv kv /\ RdS w' R s i' bad' /\
  i < i' /\ (bad' = false -> i' <= s.size) /\ i' <= s.size + n + 1 /\
  (∀ (ns0 : List ByteArray) (ks0 : List (T m)) post, ns0.length = ks0.length -> (∀ x, x ∈ ns0 -> nameB x = true) -> s.data.toList.drop (i + 1) = joinL (zipL ns0 (ks0.map (txtL m))) ++ 125 :: post -> (∀ k, k ∈ ks0 -> goodT m k (7 - (n : Int)) = true) ->
   ns = ns0 /\ ks = ks0 /\ bad' = false /\ i' = i + (joinL (zipL ns0 (ks0.map (txtL m)))).length + 2)
theorem form_out {m n : Nat} {w Wb wr : World} {R : Nat} {s : ByteArray} {i i' : Nat} {bad' : Bool} {ns : List ByteArray} {ks : List (T m)} {nv kv : Value} (h : Many R (w.heap.size + 1) m Wb wr 5 ns ks nv kv) (hR : R < w.heap.size) (hwb : Near R w Wb)
  (hbs : Wb.heap.size = w.heap.size + 1) (hr : RdS wr R s i' bad') (hI : FormInv m n s i ns ks i' bad') (hs : s.size <= 10000) (hn6 : n <= 5) (hend : bad' = false -> lookB s i' = 125) :
  FormPost m n w R s i (.returned (.agg #[.int .i64 5, .int .i64 0, .string ByteArray.empty, nv, kv])) (put5 (wr.setCell ⟨R, 1, none⟩ (.int .i64 ((i' : Int) + 1))) w.heap.size 0 (.int .i64 5) (.int .i64 0) (.string ByteArray.empty) nv kv) := by
 obtain ⟨h1, h2, h3, h4, h6, h5⟩ := hI
 have hl : ks.length <= 20000 := by cases bad' <;> simp at h4 <;> omega
 obtain ⟨q1, q2, q3⟩ := many_out h hR hwb hbs hr (by rfl) (by omega) hl
 refine ⟨q1, ns, ks, nv, kv, i' + 1, bad', rfl, q3, q2, by omega, fun hb => ?_, by omega, fun ns0 ks0 post hlen hnm he hg => ?_⟩
 ·have := h2 hb
  have h93 := hend hb
  refine Classical.byContradiction fun hge => ?_
  rw [lookB_out s i' (by omega)] at h93
  exact absurd h93 (by decide)
 ·obtain ⟨k, hk, hks, hns, hb, hd⟩ := h5 ns0 ks0 post hlen hnm he hg
  have h93 := hend hb
  have hzl : (zipL ns0 (ks0.map (txtL m))).length = ks0.length := by rw [zipL_length _ _ (by simpa using hlen)]; simp
  have hkl : k = ks0.length := by
   refine Classical.byContradiction fun hne => ?_
   have hlt : k < ks0.length := by omega
   have hlt' : k < (zipL ns0 (ks0.map (txtL m))).length := by omega
   have hkn : k < ns0.length := by omega
   unfold lookB at h93
   rw [hd, List.drop_eq_getElem_cons hlt', zipL_get _ _ _ hkn (by simpa using hlt) hlt', tailL] at h93
   obtain ⟨c, r, e, hbeg⟩ := name_head (hnm ns0[k] (List.getElem_mem hkn))
   by_cases hk0 : k = 0
   ·simp only [hk0, decide_true, if_true] at h93
    simp only [hk0] at e
    rw [e] at h93
    simp only [List.cons_append, List.headD_cons] at h93
    exact (nm_ne hbeg).2.1 h93
   ·simp only [hk0, decide_false, Bool.false_eq_true, if_false, List.cons_append, List.headD_cons] at h93
    exact absurd h93 (by decide)
  refine ⟨by rw [hns, hkl, <- hlen, List.take_length], by rw [hks, hkl, List.take_length], hb, ?_⟩
  have hle := h2 hb
  have e1 := congrArg List.length hd
  have e2 := congrArg List.length he
  rw [hkl, <- hzl, List.drop_length] at e1
  simp [tailL] at e1 e2
  have hlt : i' < s.size := by
   refine Classical.byContradiction fun hge => ?_
   rw [lookB_out s i' (by omega)] at h93
   exact absurd h93 (by decide)
  omega
set_option maxRecDepth 20000 in
set_option maxHeartbeats 4000000 in
theorem many_form (n : Nat) (hn : ReadSaid n) (hn6 : n <= 5) (m R : Nat) (hm : n + 1 <= m) (s : ByteArray) (i : Nat) (w : World) (h : RdS w R s i false) (hs : s.size <= 10000) (hi : i < s.size) :
  Calls Tryz.prog 67 #[.pointer (some ⟨R, 0, none⟩), .int .i64 5, .int .u8 125, .int .i64 (6 - n)] w (FormPost m n w R s i) := by
 have c0 := h.cell0
 have c1 := h.cell1
 have c2 := h.cell2
 have f1 := h.free 1
 have hR := h.lt
 have hw1 : IntKind.i64.wrap ((i : Int) + 1) = (i : Int) + 1 := by rw [IntKind.wrap_i64]; omega
 have hwb : Near R w ((w.setCell ⟨R, 1, none⟩ (.int .i64 ((i : Int) + 1))).alloc (.cells #[.int .i64 0, .int .i64 0, .string ⟨#[]⟩, .slice none 0 0, .slice none 0 0] 27)) := (Near.set R 1 w _).trans (Near.alloc _ _ _)
 have hrb : RdS ((w.setCell ⟨R, 1, none⟩ (.int .i64 ((i : Int) + 1))).alloc (.cells #[.int .i64 0, .int .i64 0, .string ⟨#[]⟩, .slice none 0 0, .slice none 0 0] 27)) R s ((i + 1 : Nat) : Int) false :=
  (Below.heap_alloc _ _ _ (by simpa using hR)).trans (h.set1 ((i : Int) + 1))
 have hblk : ((w.setCell ⟨R, 1, none⟩ (.int .i64 ((i : Int) + 1))).alloc (.cells #[.int .i64 0, .int .i64 0, .string ⟨#[]⟩, .slice none 0 0, .slice none 0 0] 27)).heap[w.heap.size]? = some (.cells #[.int .i64 0, .int .i64 0, .string ⟨#[]⟩, .slice none 0 0, .slice none 0 0] 27 (0, 0)) := by
  have := heap_alloc_new (w.setCell ⟨R, 1, none⟩ (.int .i64 ((i : Int) + 1))) (.cells #[.int .i64 0, .int .i64 0, .string ⟨#[]⟩, .slice none 0 0, .slice none 0 0] 27)
  simpa using this
 have hsz : ((w.setCell ⟨R, 1, none⟩ (.int .i64 ((i : Int) + 1))).alloc (.cells #[.int .i64 0, .int .i64 0, .string ⟨#[]⟩, .slice none 0 0, .slice none 0 0] 27)).heap.size = w.heap.size + 1 := by simp
 go_enter Tryz.func67, Tryz.ntmps67
 go_wp2_with fail
 generalize ((w.setCell ⟨R, 1, none⟩ (.int .i64 ((i : Int) + 1))).alloc (.cells #[.int .i64 0, .int .i64 0, .string ⟨#[]⟩, .slice none 0 0, .slice none 0 0] 27)) = Wb at *
 have HN : Hid (ReadSaid n) := hn
 have HWb : Hid (Near R w Wb /\ Wb.heap[w.heap.size]? = some (.cells #[.int .i64 0, .int .i64 0, .string ⟨#[]⟩, .slice none 0 0, .slice none 0 0] 27 (0, 0))) := ⟨hwb, hblk⟩
 clear hn hwb hblk c0 c1 c2 f1 h
 go_loopw [23] (fun _ wr => ∃ (ns : List ByteArray) (ks : List (T m)) (j ln : Nat) (bad' : Bool) (na : Option Addr) (nc : Nat) (ka : Option Addr) (kc : Nat), ns.length = ln /\ ks.length = ln /\ Many R (w.heap.size + 1) m Wb wr 5 ns ks (.slice na ln nc) (.slice ka ln kc) /\ RdS wr R s j bad' /\ FormInv m n s i ns ks j bad') (fun _ wr => leftOf wr R s.size)
 case atStart =>
  refine ⟨[], [], i + 1, 0, false, none, 0, none, 0, rfl, rfl, ⟨Near.alloc _ _ _, ?_, ⟨rfl, .inl ⟨rfl, rfl⟩⟩, by simp, ⟨[], ⟨rfl, .inl ⟨rfl, rfl⟩⟩, fun j hj => absurd hj (Nat.not_lt_zero _)⟩, fun b hb => by cases hb⟩, ?_, ?_⟩
  ·rw [<- hsz]; exact heap_alloc_new _ _
  ·exact (Below.heap_alloc _ _ _ (by omega)).trans hrb
  ·refine ⟨by omega, fun _ => by omega, by omega, by simp, rfl, fun ns0 ks0 post hlen hnm he hg => ⟨0, Nat.zero_le _, by simp, by simp, rfl, ?_⟩⟩
   rw [he]; simp [tailL_true]
 case round =>
  obtain ⟨ns, ks, j, ln, bad', na, nc, ka, kc, hnl, hkl, hM, hr, hI⟩ := hrel
  have hX := hM.lt
  have hzr := hM.near.size
  have x0 : wr.cell? ⟨w.heap.size + 1, 0, none⟩ = some (.int .i64 5) := by simp [World.cell?, hM.box]
  have x1 : wr.cell? ⟨w.heap.size + 1, 1, none⟩ = some (.int .i64 0) := by simp [World.cell?, hM.box]
  have x2 : wr.cell? ⟨w.heap.size + 1, 2, none⟩ = some (.string ByteArray.empty) := by simp [World.cell?, hM.box]
  have x3 : wr.cell? ⟨w.heap.size + 1, 3, none⟩ = some (.slice na ln nc) := by simp [World.cell?, hM.box]
  have x4 : wr.cell? ⟨w.heap.size + 1, 4, none⟩ = some (.slice ka ln kc) := by simp [World.cell?, hM.box]
  have d1 := hr.cell1
  have d2 := hr.cell2
  have df := hr.free 1
  have hI' := hI
  obtain ⟨hi1, hi2, hi3, hi4, -, -⟩ := hI'
  rw [hkl] at hi4
  have HN2 : Hid (ns.length = ln /\ ks.length = ln) := ⟨hnl, hkl⟩
  have HM : Hid (Many R (w.heap.size + 1) m Wb wr 5 ns ks (.slice na ln nc) (.slice ka ln kc)) := hM
  have HR : Hid (RdS wr R s j bad') := hr
  have HI : Hid (FormInv m n s i ns ks j bad') := hI
  have hw9 : IntKind.i64.wrap ((j : Int) + 1) = (j : Int) + 1 := by rw [IntKind.wrap_i64]; omega
  have hlen : ln <= 10010 := by cases bad' <;> simp at hi4 <;> omega
  have gb : wr.heap[w.heap.size]? = _ := (hM.near.block w.heap.size (by omega) (by omega)).trans HWb.out.2
  have g0 : wr.cell? ⟨w.heap.size, 0, none⟩ = some (.int .i64 0) := by simp [World.cell?, gb]
  have g1 : wr.cell? ⟨w.heap.size, 1, none⟩ = some (.int .i64 0) := by simp [World.cell?, gb]
  have g2 : wr.cell? ⟨w.heap.size, 2, none⟩ = some (.string ⟨#[]⟩) := by simp [World.cell?, gb]
  have g3 : wr.cell? ⟨w.heap.size, 3, none⟩ = some (.slice none 0 0) := by simp [World.cell?, gb]
  have g4 : wr.cell? ⟨w.heap.size, 4, none⟩ = some (.slice none 0 0) := by simp [World.cell?, gb]
  have gf : ∀ o, wr.frozen? ⟨w.heap.size, o, none⟩ = false := fun o => by simp [World.frozen?, gb]
  have gf0 := gf 0
  have gf1 := gf 1
  have gf2 := gf 2
  have gf3 := gf 3
  have gf4 := gf 4
  have HOut : Hid ((bad' = false -> lookB s j = 125) -> ∀ q, FormPost m n w R s i (.returned (.agg #[.int .i64 5, .int .i64 0, .string ByteArray.empty, .slice na ln nc, .slice ka ln kc])) (put5 ((wr.drewN q).setCell ⟨R, 1, none⟩ (.int .i64 ((j : Int) + 1))) w.heap.size 0 (.int .i64 5) (.int .i64 0) (.string ByteArray.empty) (.slice na ln nc) (.slice ka ln kc))) := fun he q =>
   form_out (HM.out.keep (by omega) ((Near.refl R wr).drewN q)) hR HWb.out.1 hsz (HR.out.drewN q) HI.out hs hn6 he
  clear hM hr hI hnl hkl gb gf hrb
  cases bad' with
  | true =>
   have HZ : Hid _ := HOut.out (fun h => by cases h) 0
   clear HOut
   go_wp2_with fail
   refine bodyPost_ret (v := .agg #[.int .i64 5, .int .i64 0, .string ByteArray.empty, .slice na ln nc, .slice ka ln kc]) (by simp [results, Tryz.results67, go_sem, g0, g1, g2, g3, g4]) rfl ?_
   exact HZ.out
  | false =>
   have hjz : j <= s.size := hi2 rfl
   have hlj : ln <= j := by simpa using hi4
   clear hi2 hi4
   have HL : Hid (Calls Tryz.prog 65 #[.pointer (some ⟨R, 0, none⟩)] wr fun e w' => e = .returned (.int .u8 ((lookB s j).toNat : Int)) /\ ∃ m', w' = wr.drewN m') := look_any wr R s j false HR.out
   by_cases hend : lookB s j = 125
   ·have hc : ((lookB s j).toNat : Nat) = 125 := by rw [hend]; rfl
    rw [hc] at HL
    have HZ : Hid (∀ q, _) := HOut.out (fun _ => hend)
    clear HOut hend hc
    go_wp2_with (go_at_call 65; refine HL.out.mono ?_; rintro e w' ⟨rfl, nq, rfl⟩)
    refine bodyPost_ret (v := .agg #[.int .i64 5, .int .i64 0, .string ByteArray.empty, .slice na ln nc, .slice ka ln kc]) (by simp [results, Tryz.results67, go_sem, g0, g1, g2, g3, g4]) rfl ?_
    exact HZ.out nq
   ·have hne : ((((lookB s j).toNat : Nat) : Int) == 125) = false := by
     rw [beq_eq_false_iff_ne]
     intro e; apply hend; apply UInt8.toNat_inj.1
     have h125 : (125 : UInt8).toNat = 125 := rfl
     omega
    have hne' : ((((lookB s j).toNat : Nat) : Int) != 125) = true := by simp [bne, hne]
    have HE : Hid (¬ lookB s j = 125) := hend
    have hb1 : (((lookB s j).toNat : Nat) : Int) <= 255 := by have := (lookB s j).toNat_lt; omega
    have hw6 : IntKind.i64.wrap (6 - (n : Int) + 1) = 7 - (n : Int) := by rw [IntKind.wrap_i64]; omega
    clear hend HOut g0 g1 g2 g3 g4 gf0 gf1 gf2 gf3 gf4 x0 x1 x2
    generalize ((lookB s j).toNat : Nat) = c at *
    rcases Nat.eq_zero_or_pos ln with h0 | h0
    case' inl =>
     have hd : (0 < ln) = False := eq_false (by omega)
     have hd' : ((0 : Int) < (ln : Int)) = False := eq_false (by omega)
     have HCM : Hid (Comma s ln j j false) := .inl ⟨h0, rfl, rfl⟩
     clear h0
     go_wp2_with (go_at_call 65; refine HL.out.mono ?_; rintro e w' ⟨rfl, nq, rfl⟩)
     have hnw : Near R wr (wr.drewN nq) := (Near.refl R wr).drewN nq
     have hr1 : RdS (wr.drewN nq) R s j false := HR.out.drewN nq
     generalize wr.drewN nq = w1 at *
     obtain ⟨i1, bad1, hr1, HCM, hlei1⟩ : ∃ (i1 : Nat) (bad1 : Bool), RdS w1 R s i1 bad1 /\ Hid (Comma s ln j i1 bad1) /\ i1 <= s.size := ⟨j, false, hr1, HCM, hjz⟩
     clear hd hd'
    case' inr =>
     have hd : (0 : Int) < (ln : Int) := by omega
     go_wp2_with (go_at_call 65; refine HL.out.mono ?_; rintro e w' ⟨rfl, nq, rfl⟩)
     refine (eat_any _ R s ⟨#[44]⟩ j false (HR.out.drewN nq) hs (by decide) hjz).mono ?_
     rintro e w1 ⟨rfl, hn1, hor⟩
     obtain ⟨i1, bad1, hr1, HCM, hlei1⟩ : ∃ (i1 : Nat) (bad1 : Bool), RdS w1 R s i1 bad1 /\ Hid (Comma s ln j i1 bad1) /\ i1 <= s.size := by
      rcases hor with ⟨he, hz, h⟩ | ⟨he, h⟩
      ·exact ⟨j + 1, false, h, .inr ⟨by omega, .inl ⟨he, hz, rfl, rfl⟩⟩, hz⟩
      ·exact ⟨j, true, h, .inr ⟨by omega, .inr ⟨he, rfl, rfl⟩⟩, hjz⟩
     have hnw : Near R wr w1 := ((Near.refl R wr).drewN nq).trans hn1
     clear hor hn1 hd h0
    all_goals
     have HM1 : Hid (Many R (w.heap.size + 1) m Wb w1 5 ns ks (.slice na ln nc) (.slice ka ln kc)) := HM.out.keep (by omega) hnw
     have hX1 := HM1.out.lt
     have x3w : w1.cell? ⟨w.heap.size + 1, 3, none⟩ = some (.slice na ln nc) := by simp [World.cell?, HM1.out.box]
     obtain ⟨x, HXe⟩ : ∃ x, Hid (bs ((s.data.toList.drop i1).takeWhile nmByte) = x) := ⟨_, rfl⟩
     obtain ⟨j1, HJ⟩ : ∃ j1, Hid (i1 + ((s.data.toList.drop i1).takeWhile nmByte).length = j1) := ⟨_, rfl⟩
     have HNm : Hid (Calls Tryz.prog 33 #[.pointer (some ⟨R, 0, none⟩)] w1.drew fun e w' => e = .returned (.string x) /\ Near R w1.drew w' /\ RdS w' R s (j1 : Int) bad1) :=
      (name_any w1.drew R s i1 bad1 (hr1.drewN 1) hs hlei1).mono fun e w' ⟨h1, h2, h3, _⟩ => ⟨by rw [h1, HXe.out], h2, by rw [HJ.out] at h3; exact h3⟩
     have HT : Hid ((bs ((s.data.toList.drop i1).takeWhile nmByte)).size <= 10000 /\ i1 + ((s.data.toList.drop i1).takeWhile nmByte).length <= s.size) := by
      have h1 : ((s.data.toList.drop i1).takeWhile nmByte).length <= (s.data.toList.drop i1).length := (List.takeWhile_prefix _).length_le
      rw [List.length_drop] at h1
      have h2 : s.data.toList.length = s.size := by simp
      exact ⟨by rw [bs_size]; omega, by omega⟩
     rw [HXe.out, HJ.out] at HT
     have hjs := HT.out.2
     have HO1 : Hid (w1.ownsRow (w.heap.size + 1 + 1) 9 1 (.slice na ln nc) ln (ns.map .string)) := by
      have := HM1.out.names
      rw [HN2.out.1] at this; exact this
     obtain ⟨is0, hi0, hy0, hy1, hyb⟩ := info_parts Tryz.info_stringR
     have HIS : Hid (_ /\ _ /\ _ /\ _) := ⟨hi0, hy0, hy1, hyb⟩
     clear hi0 hy0 hy1 hyb hr1 x3 x4 d1 d2 df HL HM hnw
     go_upto_region 7 with fail
     go_cut [23] from 20 to 56 (fun _ wx => ∃ g cap, Many R (w.heap.size + 1) m Wb wx 5 (ns ++ [x]) ks (.slice (some ⟨g, 0, none⟩) (ln + 1) cap) (.slice ka ln kc) /\ RdS wx R s (j1 : Int) bad1)
     case first =>
      go_region_law (first
       | (refine step_append_lies _ (by rfl) (.tmp 40) (.tmp 43) 24 (by rfl) (w.heap.size + 1 + 1) 9 is0 _ 1 16 Tryz.underlying24 HIS.out.1 HIS.out.2.1 HIS.out.2.2.1 HIS.out.2.2.2 rfl (by decide) (.slice na ln nc) ln (ns.map .string) (by rfl) (hox _) ⟨w2.heap.size, 0, none⟩ 1 1 [.string x] (by rfl) rfl (World.news_of_block (heap_alloc_new w2 _)) (by simp [Value.oneCell']) (by decide) (by unfold maxLen; omega) (by omega) (by simp; omega) (w2.heap.size + 1) (by simp) ?_; intro g cap w3' hown hgrow hat hlt; have hb3 := (box_after (W := w1.drew) HO1.out hX1 (by omega) hn2 hgrow).trans HM1.out.box; have x3'' : w3'.cell? ⟨w.heap.size + 1, 3, none⟩ = some (.slice na ln nc) := (by simp [World.cell?, hb3]); have xf'' : w3'.frozen? ⟨w.heap.size + 1, 3, none⟩ = false := (by simp [World.frozen?, hb3]))
       | (go_simp; go_at_call 33; refine HNm.out.mono ?_; rintro e w2 ⟨rfl, hn2, hr2⟩; have hsz2 : w1.heap.size <= w2.heap.size := hn2.size; have hox := fun o => owns_on (R := R) (X := w.heap.size + 1) (W := w1.drew) HO1.out (by omega) hn2 o; have x3' : w2.cell? ⟨w.heap.size + 1, 3, none⟩ = some (.slice na ln nc) := (World.cell?_of_block (hn2.block (w.heap.size + 1) (by simpa using hX1) (by omega))).trans x3w; have x3a : (w2.alloc (.cells #[.string x] 9)).cell? ⟨w.heap.size + 1, 3, none⟩ = some (.slice na ln nc) := (World.cell?_of_block (Below.heap_alloc _ _ _ (by show w.heap.size + 1 < _; omega))).trans x3'))
      all_goals
       have hM2 := Many.name (W := w2) (Wa := w2.alloc (.cells #[.string x] 9)) (one := .cells #[.string x] 9) (HM1.out.keep (by omega) (((Near.refl R w1).drewN 1).trans hn2)) (by omega) rfl ⟨rfl, rfl, rfl⟩ HT.out.1 (by rw [HN2.out.1]; exact hown) hgrow hat
       rw [HN2.out.1] at hM2
       have HM2 : Hid (Many R (w.heap.size + 1) m Wb (w3'.setCell ⟨w.heap.size + 1, 3, none⟩ (.slice (some ⟨g, 0, none⟩) (ln + 1) cap)) 5 (ns ++ [x]) ks (.slice (some ⟨g, 0, none⟩) (ln + 1) cap) (.slice ka ln kc)) := hM2
       have HR2 : Hid (RdS (w3'.setCell ⟨w.heap.size + 1, 3, none⟩ (.slice (some ⟨g, 0, none⟩) (ln + 1) cap)) R s (j1 : Int) bad1) := rd_after (X := w.heap.size + 1) (q := 3) (W := w1.drew) hr2 HO1.out (by omega) hgrow
       clear hM2 hown hgrow hat hn2 hr2 hox x3' x3a x3'' xf'' hb3
       go_wp2_with fail
       go_meet
       exact ⟨_, _, HM2.out, HR2.out⟩
     case rest =>
      obtain ⟨g, cap, hM2, hR2⟩ := hcut
      have HM2 : Hid (Many R (w.heap.size + 1) m Wb wc 5 (ns ++ [x]) ks (.slice (some ⟨g, 0, none⟩) (ln + 1) cap) (.slice ka ln kc)) := hM2
      have HR2 : Hid (RdS wc R s (j1 : Int) bad1) := hR2
      clear hM2 hR2 x3w HNm HM1 HO1 hX1
      go_wp2_with fail
      refine (eat_any wc R s ⟨#[58]⟩ j1 bad1 HR2.out hs (by decide) hjs).mono ?_
      rintro e w5 ⟨rfl, hn5, hor⟩
      obtain ⟨i3, bad3, hr3, HCO, hok3, hlim3⟩ : ∃ (i3 : Nat) (bad3 : Bool), RdS w5 R s i3 bad3 /\ Hid (Colon s j1 i3 bad1 bad3) /\ (bad3 = false -> i3 <= s.size) /\ i3 <= 20000 := by
       rcases hor with ⟨he, hz, h⟩ | ⟨he, h⟩
       ·exact ⟨j1 + 1, bad1, h, .inl ⟨he, hz, rfl, rfl⟩, fun _ => hz, by have : (⟨#[58]⟩ : ByteArray).size = 1 := rfl; omega⟩
       ·exact ⟨j1, true, h, .inr ⟨he, rfl, rfl⟩, (fun h => by cases h), by omega⟩
      have hM5 := HM2.out.keep (by omega) hn5
      have HM5 : Hid (Many R (w.heap.size + 1) m Wb w5 5 (ns ++ [x]) ks (.slice (some ⟨g, 0, none⟩) (ln + 1) cap) (.slice ka ln kc)) := hM5
      obtain ⟨xs, hxs, hkk⟩ := hM5.kids
      have HKK : Hid (∀ q (h : q < ks.length), _) := hkk
      have HX5 : Hid (w5.ownsRow (w.heap.size + 1 + 1) 27 5 (.slice ka ln kc) ln xs) := by
       rw [HN2.out.2] at hxs; exact hxs
      have hX5 := HM5.out.lt
      have x4w : w5.cell? ⟨w.heap.size + 1, 4, none⟩ = some (.slice ka ln kc) := by simp [World.cell?, HM5.out.box]
      have HC1 : Hid (Calls Tryz.prog 36 #[.pointer (some ⟨R, 0, none⟩), .int .i64 (7 - (n : Int))] w5.drew (ReadPost m n w5.drew R s i3 bad3)) := HN.out m R s i3 bad3 _ hm (hr3.drewN 1) hs hok3 hlim3
      obtain ⟨ik0, hi0, hy0, hy1, hyb⟩ := info_parts Tryz.info_treeR
      have HIK : Hid (_ /\ _ /\ _ /\ _) := ⟨hi0, hy0, hy1, hyb⟩
      clear hi0 hy0 hy1 hyb hxs hkk hM5 hor hr3 hn5 HM2 HR2
      go_wp2_with fail
      go_region_law (first
       | (refine step_append_lies _ (by rfl) (.tmp 49) (.tmp 54) 25 (by rfl) (w.heap.size + 1 + 1) 27 ik0 _ 5 80 Tryz.underlying25 HIK.out.1 HIK.out.2.1 HIK.out.2.2.1 HIK.out.2.2.2 rfl (by decide) (.slice ka ln kc) ln xs (by rfl) (hox2 _) ⟨v2.heap.size, 0, none⟩ 1 1 [.int .i64 y0', .int .i64 y1', .string y2', .slice ya yl yc, .slice za zl zc] (by rfl) rfl (World.news_of_block (heap_alloc_new v2 _)) (by simp [Value.oneCell']) (by decide) (by unfold maxLen; omega) (by omega) (by simp; omega) (v2.heap.size + 1) (by simp) ?_; intro g2 cap2 v3 hown2 hgrow2 hat2 hlt2; have hb6 := (box_after (W := w5.drew) HX5.out hX5 (by omega) hn6' hgrow2).trans HM5.out.box; have x4'' : v3.cell? ⟨w.heap.size + 1, 4, none⟩ = some (.slice ka ln kc) := (by simp [World.cell?, hb6]); have xg'' : v3.frozen? ⟨w.heap.size + 1, 4, none⟩ = false := (by simp [World.frozen?, hb6]))
       | (go_simp; go_at_call 36; refine HC1.out.mono ?_; rintro e v2 ⟨hn6', t2, y0, y1, y2, y3, y4, i2, bad2, rfl, ht2, hr6, hp2⟩; obtain ⟨y0', y1', y2', ya, yl, yc, za, zl, zc, rfl, rfl, rfl, rfl, rfl⟩ := ht2.shape; have hsz2 : w5.heap.size <= v2.heap.size := hn6'.size; have hox2 := fun o => owns_on (R := R) (X := w.heap.size + 1) (W := w5.drew) HX5.out (by omega) hn6' o; have x4' : v2.cell? ⟨w.heap.size + 1, 4, none⟩ = some (.slice ka ln kc) := (World.cell?_of_block (hn6'.block (w.heap.size + 1) (by simpa using hX5) (by omega))).trans x4w; have x4a : (v2.alloc (.cells #[.int .i64 y0', .int .i64 y1', .string y2', .slice ya yl yc, .slice za zl zc] 27)).cell? ⟨w.heap.size + 1, 4, none⟩ = some (.slice ka ln kc) := (World.cell?_of_block (Below.heap_alloc _ _ _ (by show w.heap.size + 1 < _; omega))).trans x4'))
      all_goals
       have hF := Many.kidD (g := g2) (cap := cap2) (xs := xs) 1 HM5.out (by omega) (by omega) hn6' ht2 (by rw [HN2.out.2]; exact HX5.out) HKK.out (by rw [HN2.out.2]; exact hown2) hgrow2 hat2
       rw [HN2.out.2] at hF
       have HF : Hid (Many R (w.heap.size + 1) m Wb (v3.setCell ⟨w.heap.size + 1, 4, none⟩ (.slice (some ⟨g2, 0, none⟩) (ln + 1) cap2)) 5 (ns ++ [x]) (ks ++ [t2]) (.slice (some ⟨g, 0, none⟩) (ln + 1) cap) (.slice (some ⟨g2, 0, none⟩) (ln + 1) cap2)) := hF
       have HG' : Hid (RdS (v3.setCell ⟨w.heap.size + 1, 4, none⟩ (.slice (some ⟨g2, 0, none⟩) (ln + 1) cap2)) R s i2 bad2) := rd_after (X := w.heap.size + 1) (q := 4) (u := .slice (some ⟨g2, 0, none⟩) (ln + 1) cap2) (W := w5.drew) hr6 HX5.out (by omega) hgrow2
       have HS := form_step HI.out HE.out (by rw [HN2.out.2]; exact HCM.out) (by rw [HJ.out]; exact HCO.out) hp2 (by rw [HJ.out]; exact hjs)
       rw [HXe.out] at HS
       have HS' : Hid _ := HS
       clear hF HS hown2 hgrow2 hat2 ht2 hr6 hp2 hn6' hox2 x4' x4a x4'' xg'' hb6
       go_wp2_with fail
       go_roundw
       case rel => exact ⟨ns ++ [x], ks ++ [t2], i2, ln + 1, bad2, some ⟨g, 0, none⟩, cap, some ⟨g2, 0, none⟩, cap2, by simp [HN2.out.1], by simp [HN2.out.2], HF.out, HG'.out, HS'.out.1⟩
       case measure => rw [RdS.left HG'.out, RdS.left HR.out]; simpa using HS'.out.2
end Go.Proofs.YtmjhcgjhlakceaaGreatDoor

namespace Go.Proofs.YtmjhcgjhlakceaaGreatDoor
open Go.RowKit
theorem oneT_in {S : Nat -> Prop} {w : World} {m : Nat} {x : Int} {t : T m} {b c : Nat} {c0 c1 c2 c3 c4 : Value} (hx : (Lit.int .i64 x).wf = true) (hb : S b) (h : Box5 w b c0 c1 c2 c3 c4) (ht : TreeIn S w m t c0 c1 c2 c3 c4) :
  TreeIn S w (m + 1) (⟨x, 0, ByteArray.empty, [], [t]⟩ : Nd (T m)) (.int .i64 x) (.int .i64 0) (.string ⟨#[]⟩) (.slice none 0 0) (.slice (some ⟨b, 0, none⟩) 1 c) := by
 refine ⟨rfl, rfl, rfl, by show ByteArray.empty.size <= _; unfold maxLen; decide, hx, by rfl, ⟨none, 0, rfl, by simp [maxLen], fun s h => (by cases h), fun h => absurd rfl h⟩, ⟨some ⟨b, 0, none⟩, c, rfl, by simp [maxLen], fun _ => ⟨b, 0, rfl, hb, fun i hi => ?_⟩⟩⟩
 have : i = 0 := by simpa using hi
 subst this
 exact ⟨c0, c1, c2, c3, c4, by simpa using h.c0, by simpa using h.c1, by simpa using h.c2, by simpa using h.c3, by simpa using h.c4, ht⟩
set_option maxRecDepth 20000 in
set_option maxHeartbeats 2000000 in
theorem l1_some (n : Nat) (hn : ReadSaid n) (m R : Nat) (s : ByteArray) (i : Nat) (w : World) (hm : n + 1 <= m) (hn6 : n <= 5) (h : RdS w R s i false) (hs : s.size <= 10000) (hi : i <= s.size) (hl : lookB s i = 63) :
  Calls Tryz.prog 36 #[.pointer (some ⟨R, 0, none⟩), .int .i64 (7 - ((n + 1 : Nat) : Int))] w (ReadPost (m + 1) (n + 1) w R s i false) := by
 have hR := h.lt
 obtain ⟨W1, hW1⟩ : ∃ W1, W1 = w.alloc (.cells #[.int .i64 0, .int .i64 0, .string ⟨#[]⟩, .slice none 0 0, .slice none 0 0] 27) := ⟨_, rfl⟩
 have hz1 : W1.heap.size = w.heap.size + 1 := by rw [hW1]; simp
 have hb1 : Below w.heap.size w W1 := by rw [hW1]; exact (Below.refl _ _).alloc (Nat.le_refl _) _
 have hzero : W1.heap[w.heap.size]? = some (.cells #[.int .i64 0, .int .i64 0, .string ⟨#[]⟩, .slice none 0 0, .slice none 0 0] 27 (0, 0)) := by rw [hW1]; exact heap_alloc_new _ _
 have hr1 : RdS W1 R s i false := (hb1.block R hR).trans h
 have c2 := hr1.cell2
 rw [hW1] at c2
 have hdeep : ¬ (6 : Int) < 7 - ((n + 1 : Nat) : Int) := by omega
 have HL : Hid (Calls Tryz.prog 65 #[.pointer (some ⟨R, 0, none⟩)] W1 fun e w' => e = .returned (.int .u8 (((lookB s i).toNat : Nat) : Int)) /\ Near R w w' /\ RdS w' R s i false /\ w'.heap.size = w.heap.size + 1 /\ w'.heap[w.heap.size]? = some (.cells #[.int .i64 0, .int .i64 0, .string ⟨#[]⟩, .slice none 0 0, .slice none 0 0] 27 (0, 0))) :=
  (look_any W1 R s i false hr1).mono fun e w' ⟨he, k, hk⟩ => by
   subst hk
   exact ⟨he, ((Near.of_below hb1).trans (Near.refl R W1)).drewN k, hr1.drewN k, hz1, hzero⟩
 have HLK : Hid (lookB s i = 63) := hl
 have hc : ((lookB s i).toNat : Nat) = 63 := by rw [hl]; rfl
 rw [hc] at HL
 have HLE : Hid (eatP [63] (s.data.toList.drop i) = some (s.data.toList.drop (i + 1)) /\ i < s.size) := by
  have hilt : i < s.size := Classical.byContradiction fun hge => by rw [lookB_out s i (by omega)] at hl; exact absurd hl (by decide)
  refine ⟨?_, hilt⟩
  have h63 : s[i] = 63 := by rw [<- lookB_in s i hilt]; exact hl
  rw [drop_at s i hilt, h63]; exact eatP_one_cons _ _
 have hw6 : IntKind.i64.wrap (7 - ((n + 1 : Nat) : Int) + 1) = 7 - (n : Int) := by rw [IntKind.wrap_i64]; omega
 have HN : Hid (ReadSaid n) := hn
 clear hn
 clear hr1 hzero hb1 h hl hc
 generalize hdp : 7 - ((n + 1 : Nat) : Int) = dp at *
 clear hdp
 go_enter Tryz.func36, Tryz.ntmps36
 go_wp2_with fail
 rw [<- hW1]
 clear hW1 c2
 refine HL.out.mono ?_
 rintro e w2 ⟨rfl, hn2, hr2, hz2, hzero2⟩
 have HE : Hid (Calls Tryz.prog 34 #[.pointer (some ⟨R, 0, none⟩), .string ⟨#[63]⟩] w2 _) := eat_any w2 R s ⟨#[63]⟩ i false hr2 hs (by decide) hi
 clear HL hr2
 go_wp2_with fail
 refine HE.out.mono ?_
 rintro e w3 ⟨rfl, hn3, ⟨q1, q2, q3⟩ | ⟨q1, q3⟩⟩
 case inr =>
  have q1 : eatP [63] (s.data.toList.drop i) = none := q1
  rw [HLE.out.1] at q1
  cases q1
 have q3 : RdS w3 R s ((i + 1 : Nat) : Int) false := q3
 have hz3 := hn3.size
 have hzero3 := (hn3.block w.heap.size (by omega) (by omega)).trans hzero2
 have hn13 := hn2.trans hn3
 have hilt := HLE.out.2
 have HK : Hid (Calls Tryz.prog 36 #[.pointer (some ⟨R, 0, none⟩), .int .i64 (7 - (n : Int))] w3 (ReadPost m n w3 R s (i + 1) false)) := HN.out m R s (i + 1) false w3 hm q3 hs (fun _ => by omega) (by omega)
 clear HE hn2 hn3 hzero2 q1 q2 q3 HN HLE
 go_wp2_with fail
 refine HK.out.mono ?_
 rintro e w4 ⟨hn4, t, d0, d1, d2, d3, d4, i1, bad1, rfl, ht, hr4, hG⟩
 obtain ⟨u0, u1, u2, ua, ul, uc, ya, yl, yc, rfl, rfl, rfl, rfl, rfl⟩ := ht.shape
 have hz4 := hn4.size
 have hzero4 := (hn4.block w.heap.size (by omega) (by omega)).trans hzero3
 have hn14 := hn13.trans hn4
 clear HK hzero3 hn13
 obtain ⟨o, ho⟩ : ∃ o : Obj, o = .cells #[.int .i64 u0, .int .i64 u1, .string u2, .slice ua ul uc, .slice ya yl yc] 27 := ⟨_, rfl⟩
 have hx5 := Box5.new w4 (.int .i64 u0) (.int .i64 u1) (.string u2) (.slice ua ul uc) (.slice ya yl yc) 27
 rw [<- ho] at hx5
 have hn5 : Near R w (w4.alloc o) := hn14.trans (Near.alloc _ _ _)
 obtain ⟨⟨r0, r1, r2, r3, r4⟩, f0, f1, f2, f3, f4⟩ := zeroT_cells ((Below.heap_alloc w4 o w.heap.size (by omega)).trans hzero4)
 have HP : Hid (ReadPost (m + 1) (n + 1) w R s i false (.returned (.agg #[.int .i64 6, .int .i64 0, .string ⟨#[]⟩, .slice none 0 0, .slice (some ⟨w4.heap.size, 0, none⟩) 1 1])) (put5 (w4.alloc o) w.heap.size 0 (.int .i64 6) (.int .i64 0) (.string ⟨#[]⟩) (.slice none 0 0) (.slice (some ⟨w4.heap.size, 0, none⟩) 1 1))) := by
  refine rt_exit hn5 hR ((Below.heap_alloc _ _ _ (by have := hr4.lt; omega)).trans hr4) (oneT_in (t := t) rfl ⟨by omega, by simp⟩ hx5 ?_) (some_got HLK.out hG)
  exact ht.keep (fun b hb => Below.heap_alloc _ _ _ hb.2) (fun b hb => ⟨by omega, by simp; omega⟩)
 subst ho
 clear hr4 hG ht hx5 hn5 hzero4 hn14 hn4
 go_wp2_with fail
 refine bodyPost_ret (v := .agg #[.int .i64 6, .int .i64 0, .string ⟨#[]⟩, .slice none 0 0, .slice (some ⟨w4.heap.size, 0, none⟩) 1 1]) (by simp [results, Tryz.results36, go_sem, r0, r1, r2, r3, r4]) rfl ?_
 exact HP.out
set_option maxRecDepth 20000 in
set_option maxHeartbeats 2000000 in
theorem l1_list (n : Nat) (hn : ReadSaid n) (m R : Nat) (s : ByteArray) (i : Nat) (w : World) (hm : n + 1 <= m) (hn6 : n <= 5) (h : RdS w R s i false) (hs : s.size <= 10000) (hi : i <= s.size) (hl : lookB s i = 91) :
  Calls Tryz.prog 36 #[.pointer (some ⟨R, 0, none⟩), .int .i64 (7 - ((n + 1 : Nat) : Int))] w (ReadPost (m + 1) (n + 1) w R s i false) := by
 have hR := h.lt
 obtain ⟨W1, hW1⟩ : ∃ W1, W1 = w.alloc (.cells #[.int .i64 0, .int .i64 0, .string ⟨#[]⟩, .slice none 0 0, .slice none 0 0] 27) := ⟨_, rfl⟩
 have hz1 : W1.heap.size = w.heap.size + 1 := by rw [hW1]; simp
 have hb1 : Below w.heap.size w W1 := by rw [hW1]; exact (Below.refl _ _).alloc (Nat.le_refl _) _
 have hzero : W1.heap[w.heap.size]? = some (.cells #[.int .i64 0, .int .i64 0, .string ⟨#[]⟩, .slice none 0 0, .slice none 0 0] 27 (0, 0)) := by rw [hW1]; exact heap_alloc_new _ _
 have hr1 : RdS W1 R s i false := (hb1.block R hR).trans h
 have c2 := hr1.cell2
 rw [hW1] at c2
 have hdeep : ¬ (6 : Int) < 7 - ((n + 1 : Nat) : Int) := by omega
 have HL : Hid (Calls Tryz.prog 65 #[.pointer (some ⟨R, 0, none⟩)] W1 fun e w' => e = .returned (.int .u8 (((lookB s i).toNat : Nat) : Int)) /\ Near R w w' /\ RdS w' R s i false /\ w'.heap.size = w.heap.size + 1 /\ w'.heap[w.heap.size]? = some (.cells #[.int .i64 0, .int .i64 0, .string ⟨#[]⟩, .slice none 0 0, .slice none 0 0] 27 (0, 0))) :=
  (look_any W1 R s i false hr1).mono fun e w' ⟨he, k, hk⟩ => by
   subst hk
   exact ⟨he, ((Near.of_below hb1).trans (Near.refl R W1)).drewN k, hr1.drewN k, hz1, hzero⟩
 have HLK : Hid (lookB s i = 91) := hl
 have hc : ((lookB s i).toNat : Nat) = 91 := by rw [hl]; rfl
 rw [hc] at HL
 have hilt : i < s.size := Classical.byContradiction fun hge => by rw [lookB_out s i (by omega)] at hl; exact absurd hl (by decide)
 have hdq : 7 - ((n + 1 : Nat) : Int) = 6 - (n : Int) := by omega
 rw [hdq] at hdeep ⊢
 have HN : Hid (ReadSaid n) := hn
 clear hn
 clear hr1 hzero hb1 h hl hc
 go_enter Tryz.func36, Tryz.ntmps36
 go_wp2_with fail
 rw [<- hW1]
 clear hW1 c2
 refine HL.out.mono ?_
 rintro e w2 ⟨rfl, hn2, hr2, hz2, hzero2⟩
 have HK : Hid (Calls Tryz.prog 67 #[.pointer (some ⟨R, 0, none⟩), .int .i64 4, .int .u8 93, .int .i64 (6 - (n : Int))] w2 (ListPost m n w2 R s i)) := many_list n HN.out hn6 m R hm s i w2 hr2 hs hilt
 clear HL hr2 HN
 go_wp2_with fail
 refine HK.out.mono ?_
 rintro e w3 ⟨hn3, ks, nv, kv, i', bad', rfl, ht, hr3, g1, g2, g3, g4⟩
 obtain ⟨na, nc, rfl, -⟩ := ht.2.2.2.2.2.2.1
 obtain ⟨ka, kc, rfl, -⟩ := ht.2.2.2.2.2.2.2
 have hz3 := hn3.size
 obtain ⟨⟨r0, r1, r2, r3, r4⟩, f0, f1, f2, f3, f4⟩ := zeroT_cells ((hn3.block w.heap.size (by omega) (by omega)).trans hzero2)
 have HP : Hid (ReadPost (m + 1) (n + 1) w R s i false (.returned (.agg #[.int .i64 4, .int .i64 0, .string ByteArray.empty, .slice na 0 nc, .slice ka ks.length kc])) (put5 w3 w.heap.size 0 (.int .i64 4) (.int .i64 0) (.string ByteArray.empty) (.slice na 0 nc) (.slice ka ks.length kc))) :=
  rt_exit (hn2.trans hn3) hR hr3 (ht.keep (fun _ _ => rfl) (fun b hb => ⟨by omega, hb.2⟩)) (listT_got HLK.out g1 g2 g3 g4)
 clear HK hn3 hn2 hzero2 hr3 ht g1 g2 g3 g4
 go_wp2_with fail
 refine bodyPost_ret (v := .agg #[.int .i64 4, .int .i64 0, .string ByteArray.empty, .slice na 0 nc, .slice ka ks.length kc]) (by simp [results, Tryz.results36, go_sem, r0, r1, r2, r3, r4]) rfl ?_
 exact HP.out
set_option maxRecDepth 20000 in
set_option maxHeartbeats 2000000 in
theorem l1_form (n : Nat) (hn : ReadSaid n) (m R : Nat) (s : ByteArray) (i : Nat) (w : World) (hm : n + 1 <= m) (hn6 : n <= 5) (h : RdS w R s i false) (hs : s.size <= 10000) (hi : i <= s.size) (hl : lookB s i = 123) :
  Calls Tryz.prog 36 #[.pointer (some ⟨R, 0, none⟩), .int .i64 (7 - ((n + 1 : Nat) : Int))] w (ReadPost (m + 1) (n + 1) w R s i false) := by
 have hR := h.lt
 obtain ⟨W1, hW1⟩ : ∃ W1, W1 = w.alloc (.cells #[.int .i64 0, .int .i64 0, .string ⟨#[]⟩, .slice none 0 0, .slice none 0 0] 27) := ⟨_, rfl⟩
 have hz1 : W1.heap.size = w.heap.size + 1 := by rw [hW1]; simp
 have hb1 : Below w.heap.size w W1 := by rw [hW1]; exact (Below.refl _ _).alloc (Nat.le_refl _) _
 have hzero : W1.heap[w.heap.size]? = some (.cells #[.int .i64 0, .int .i64 0, .string ⟨#[]⟩, .slice none 0 0, .slice none 0 0] 27 (0, 0)) := by rw [hW1]; exact heap_alloc_new _ _
 have hr1 : RdS W1 R s i false := (hb1.block R hR).trans h
 have c2 := hr1.cell2
 rw [hW1] at c2
 have hdeep : ¬ (6 : Int) < 7 - ((n + 1 : Nat) : Int) := by omega
 have HL : Hid (Calls Tryz.prog 65 #[.pointer (some ⟨R, 0, none⟩)] W1 fun e w' => e = .returned (.int .u8 (((lookB s i).toNat : Nat) : Int)) /\ Near R w w' /\ RdS w' R s i false /\ w'.heap.size = w.heap.size + 1 /\ w'.heap[w.heap.size]? = some (.cells #[.int .i64 0, .int .i64 0, .string ⟨#[]⟩, .slice none 0 0, .slice none 0 0] 27 (0, 0))) :=
  (look_any W1 R s i false hr1).mono fun e w' ⟨he, k, hk⟩ => by
   subst hk
   exact ⟨he, ((Near.of_below hb1).trans (Near.refl R W1)).drewN k, hr1.drewN k, hz1, hzero⟩
 have HLK : Hid (lookB s i = 123) := hl
 have hc : ((lookB s i).toNat : Nat) = 123 := by rw [hl]; rfl
 rw [hc] at HL
 have hilt : i < s.size := Classical.byContradiction fun hge => by rw [lookB_out s i (by omega)] at hl; exact absurd hl (by decide)
 have hdq : 7 - ((n + 1 : Nat) : Int) = 6 - (n : Int) := by omega
 rw [hdq] at hdeep ⊢
 have HN : Hid (ReadSaid n) := hn
 clear hn
 clear hr1 hzero hb1 h hl hc
 go_enter Tryz.func36, Tryz.ntmps36
 go_wp2_with fail
 rw [<- hW1]
 clear hW1 c2
 refine HL.out.mono ?_
 rintro e w2 ⟨rfl, hn2, hr2, hz2, hzero2⟩
 have HK : Hid (Calls Tryz.prog 67 #[.pointer (some ⟨R, 0, none⟩), .int .i64 5, .int .u8 125, .int .i64 (6 - (n : Int))] w2 (FormPost m n w2 R s i)) := many_form n HN.out hn6 m R hm s i w2 hr2 hs hilt
 clear HL hr2 HN
 go_wp2_with fail
 refine HK.out.mono ?_
 rintro e w3 ⟨hn3, ns, ks, nv, kv, i', bad', rfl, ht, hr3, g1, g2, g3, g4⟩
 obtain ⟨na, nc, rfl, -⟩ := ht.2.2.2.2.2.2.1
 obtain ⟨ka, kc, rfl, -⟩ := ht.2.2.2.2.2.2.2
 have hz3 := hn3.size
 obtain ⟨⟨r0, r1, r2, r3, r4⟩, f0, f1, f2, f3, f4⟩ := zeroT_cells ((hn3.block w.heap.size (by omega) (by omega)).trans hzero2)
 have HP : Hid (ReadPost (m + 1) (n + 1) w R s i false (.returned (.agg #[.int .i64 5, .int .i64 0, .string ByteArray.empty, .slice na ns.length nc, .slice ka ks.length kc])) (put5 w3 w.heap.size 0 (.int .i64 5) (.int .i64 0) (.string ByteArray.empty) (.slice na ns.length nc) (.slice ka ks.length kc))) :=
  rt_exit (hn2.trans hn3) hR hr3 (ht.keep (fun _ _ => rfl) (fun b hb => ⟨by omega, hb.2⟩)) (formT_got HLK.out g1 g2 g3 g4)
 clear HK hn3 hn2 hzero2 hr3 ht g1 g2 g3 g4
 go_wp2_with fail
 refine bodyPost_ret (v := .agg #[.int .i64 5, .int .i64 0, .string ByteArray.empty, .slice na ns.length nc, .slice ka ks.length kc]) (by simp [results, Tryz.results36, go_sem, r0, r1, r2, r3, r4]) rfl ?_
 exact HP.out
theorem l1Tree_any : ∀ n, n <= 6 -> ReadSaid n := by
 intro n
 induction n with
 | zero =>
  intro _ m R s i bad w hm h hs hi _
  obtain ⟨m', rfl⟩ : ∃ m', m = m' + 1 := ⟨m - 1, by omega⟩
  exact l1_stop 0 m' R s i bad w h (.inr rfl) hi
 | succ n ih =>
  intro hn6 m R s i bad w hm h hs hi hi2
  obtain ⟨m', rfl⟩ : ∃ m', m = m' + 1 := ⟨m - 1, by omega⟩
  have hn := ih (by omega)
  cases bad with
  | true => exact l1_stop (n + 1) m' R s i true w h (.inl rfl) hi
  | false =>
   have hi := hi rfl
   by_cases h1 : lookB s i = 34
   ·exact l1_text n m' R s i w h hs hi h1
   by_cases h2 : lookB s i = 121
   ·exact l1_yes n m' R s i w h hs hi h2
   by_cases h3 : lookB s i = 110
   ·exact l1_no n m' R s i w h hs hi h3
   by_cases h4 : lookB s i = 126
   ·exact l1_none n m' R s i w h hs hi h4
   by_cases h5 : lookB s i = 63
   ·exact l1_some n hn m' R s i w (by omega) (by omega) h hs hi h5
   by_cases h6 : lookB s i = 91
   ·exact l1_list n hn m' R s i w (by omega) (by omega) h hs hi h6
   by_cases h7 : lookB s i = 123
   ·exact l1_form n hn m' R s i w (by omega) (by omega) h hs hi h7
   ·exact l1_num n m' R s i w h hs hi h1 h2 h3 h4 h5 h6 h7
end Go.Proofs.YtmjhcgjhlakceaaGreatDoor
