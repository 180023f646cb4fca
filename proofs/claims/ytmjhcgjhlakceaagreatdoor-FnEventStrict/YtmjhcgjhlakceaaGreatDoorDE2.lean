import Derived.Test.YtmjhcgjhlakceaaGreatDoorDE0
import Derived.Test.YtmjhcgjhlakceaaGreatDoorB20
import Derived.Test.YtmjhcgjhlakceaaGreatDoorB21
import Derived.Test.YtmjhcgjhlakceaaGreatDoorB24
import Derived.Deep.RegionLaw
import Derived.Deep.RegionHeld
namespace Go.Proofs.YtmjhcgjhlakceaaGreatDoor
open Go.RowKit
def DrawnB (w : World) (e : Ending) (w' : World) : Prop :=
 Below w.heap.size w w' /\ ∃ (l : List UInt8) (a : Option Addr) (c : Nat), e = .returned (.slice a l.length c) /\ l.length <= 9100 /\ BytesA (fun b => b < w'.heap.size) w' a l c
theorem drawn_own {w W : World} {B : Nat} {a : Option Addr} {c n : Nat} {l : List UInt8} (hb : Below w.heap.size w W) (hn : l.length = n) (ho : OwnB B W (.slice a n c) l) (hl : n <= 9100) : DrawnB w (.returned (.slice a n c)) W := by
 subst hn
 exact ⟨hb, l, a, c, rfl, hl, ho.given⟩
theorem drawn_take {w W : World} {B : Nat} {a : Option Addr} {c n i : Nat} {l : List UInt8} (hb : Below w.heap.size w W) (hn : l.length = n) (ho : OwnB B W (.slice a n c) l) (hl : n <= 9100) (hi : i <= n) : DrawnB w (.returned (.slice a i c)) W := by
 subst hn
 have hg := ho.given
 have hl' : (l.take i).length = i := by rw [List.length_take]; omega
 refine ⟨hb, l.take i, a, c, by rw [hl'], by omega, ⟨by rw [hl']; exact ⟨by have := hg.lc.1; omega, hg.lc.2⟩, fun j hj => ?_⟩⟩
 rw [hl'] at hj
 obtain ⟨b, off, ha, hlt, hc⟩ := hg.bytes j (by omega)
 refine ⟨b, off, ha, hlt, ?_⟩
 rw [hc, List.getElem_take]
theorem near_own {R : Nat} {w w' : World} {B : Nat} {v : Value} {l : List UInt8} (h : OwnB B w v l) (hR : R < B) (hn : Near R w w') : OwnB B w' v l :=
 OwnB.keep h (fun b h1 h2 => hn.block b h2 (by omega))
theorem byteCells_app (a b : List UInt8) : Lib.byteCells (a ++ b) = Lib.byteCells a ++ Lib.byteCells b := by simp [Lib.byteCells]
theorem news_bytes {w : World} {b off : Nat} {l2 : List UInt8} (hcell : ∀ j (hj : j < l2.length), w.cell? ⟨b, off + j, none⟩ = some (.int .u8 (l2[j].toNat : Int))) : ∀ j u, (Lib.byteCells l2)[j]? = some u -> w.cell? ((⟨b, off, none⟩ : Addr).add j) = some u := by
 intro j u hu
 simp only [Lib.byteCells, List.getElem?_map] at hu
 cases hjl : l2[j]? with
 | none => rw [hjl] at hu; cases hu
 | some y =>
  rw [hjl] at hu
  obtain ⟨hj, e⟩ := List.getElem?_eq_some_iff.1 hjl
  rw [Addr.add_lit, hcell j hj, e]
  simpa using hu
theorem step_ownB {ops : Array Oper} {o : Oper} {a : Act} {K : Act -> World -> Prop} {Q : Exit -> Act -> World -> Prop} {E : Prop} {w : World} (hgd : o.guard = none) (s x : Operand)
  (ho : o.op = .call { callee := .builtin .append, args := #[s, x], argTypes := #[22, 22] })
  (base : Nat) (v : Value) (l : List UInt8) (hs : a.eval s = v) (hown : OwnB base w v l) (b off k cap : Nat) (l2 : List UInt8) (hx : a.eval x = .slice (some ⟨b, off, none⟩) k cap) (hk : l2.length = k) (h0 : 0 < k) (hcell : ∀ j (hj : j < l2.length), w.cell? ⟨b, off + j, none⟩ = some (.int .u8 (l2[j].toNat : Int))) (hlen : l.length + l2.length <= 1000000) (hbase : base <= w.heap.size)
  (h : ∀ v' w', OwnB base w' v' (l ++ l2) -> w.grownBy w' v.ownBlock -> K (a.put o.dst v') w') : if Region.wanted o (yielded ops a.tmps) = true then Oper.wp Tryz.prog o a w K Q else E := by
 obtain ⟨i0, hi, hz0, hz1, hz2⟩ := info_parts Tryz.info_byteT
 subst hk
 refine step_append_lies _ hgd s x 22 ho base 5 i0 (.int .u8 0) 1 1 Tryz.underlying22 hi hz0 hz1 hz2 rfl (by decide) v l.length (Lib.byteCells l) hs hown ⟨b, off, none⟩ l2.length cap (Lib.byteCells l2) hx (by simp [Lib.byteCells]) (news_bytes hcell) (byteCells_one l2) h0 (by unfold maxLen; omega) (by omega) hbase w.heap.size rfl ?_
 intro g cap' w' hown' hgrow' _ _
 refine h _ w' ?_ hgrow'
 unfold OwnB
 rw [List.length_append, byteCells_app]
 exact hown'
theorem step_copyB {ops : Array Oper} {o : Oper} {a : Act} {K : Act -> World -> Prop} {Q : Exit -> Act -> World -> Prop} {E : Prop} {w : World} (hgd : o.guard = none) (s x : Operand)
  (ho : o.op = .call { callee := .builtin .append, args := #[s, x], argTypes := #[22, 22] })
  (base N : Nat) (hs : a.eval s = .slice (some ⟨N, 0, none⟩) 0 0) (hN : w.heap[N]? = some (.cells #[] 5 (0, 0))) (hb : base <= N) (b off k cap : Nat) (l2 : List UInt8) (hx : a.eval x = .slice (some ⟨b, off, none⟩) k cap) (hk : l2.length = k) (hcell : ∀ j (hj : j < l2.length), w.cell? ⟨b, off + j, none⟩ = some (.int .u8 (l2[j].toNat : Int))) (hlen : l2.length <= 1000000)
  (h : ∀ v' w', OwnB base w' v' l2 -> w.grownBy w' (some N) -> K (a.put o.dst v') w') : if Region.wanted o (yielded ops a.tmps) = true then Oper.wp Tryz.prog o a w K Q else E := by
 have hw : Region.wanted o (yielded ops a.tmps) = true := by simp [Region.wanted, hgd]
 rw [if_pos hw]
 obtain ⟨i0, hi, hz0, hz1, hz2⟩ := info_parts Tryz.info_byteT
 subst hk
 obtain ⟨g, cap', w', hr, h2, h3, h4, h5⟩ := run_copy (P := Tryz.prog) w 22 o.type base 5 i0 (.int .u8 0) 1 1 Tryz.underlying22 hi hz0 hz1 hz2 rfl (by decide) N hN hb (some ⟨b, off, none⟩) l2.length cap (Lib.byteCells l2) (by simp [Lib.byteCells]) (fun _ => ⟨_, rfl, news_bytes hcell⟩) (byteCells_one l2) (by unfold maxLen; omega) (by omega)
 unfold Oper.wp execOp
 simp only [ho, resolve, invoke, builtin, Sem.run_bind, Sem.run_pure, Result.andThen_ok, List.map_toArray, List.map_cons, List.map_nil, hs, hx, hr]
 exact h _ w' h2 h3
theorem own_byte {w : World} {B g n c i : Nat} {l : List UInt8} {z : Int} (h : OwnB B w (.slice (some ⟨g, 0, none⟩) n c) l) (hz : 0 <= z /\ z < 256) : OwnB B (w.setCell ⟨g, i, none⟩ (.int .u8 z)) (.slice (some ⟨g, 0, none⟩) n c) (l.set i (b8 z)) := by
 have hS := own_set h g i rfl (.int .u8 z)
 unfold OwnB
 rw [List.length_set]
 have e : Lib.byteCells (l.set i (b8 z)) = (Lib.byteCells l).set i (.int .u8 z) := by
  unfold Lib.byteCells
  rw [List.map_set, b8_nat hz.1 hz.2]
 rw [e]
 exact hS
theorem one_byte (w : World) (z : Int) (t : TypeId) (hz : 0 <= z /\ z < 256) : ∀ j (hj : j < [b8 z].length), (w.alloc (.cells #[.int .u8 z] t)).cell? ⟨w.heap.size, 0 + j, none⟩ = some (.int .u8 ([b8 z][j].toNat : Int)) := by
 intro j hj
 have h0 : j = 0 := by simpa using hj
 subst h0
 have h1 := World.news_of_block (heap_alloc_new w (.cells #[.int .u8 z] t)) 0 (.int .u8 z) (by simp)
 rw [Addr.add_lit] at h1
 simp only [List.getElem_cons_zero, b8_nat hz.1 hz.2]
 exact h1
theorem own_shape {w : World} {B : Nat} {v : Value} {l : List UInt8} (h : OwnB B w v l) : ∃ a c, v = .slice a l.length c := by
 rcases id h.2 with ⟨hv, h0⟩ | ⟨g, cap, cur, hv, -⟩
 ·exact ⟨none, 0, by rw [hv, h0]⟩
 ·exact ⟨_, _, hv⟩
theorem drawn_own2 {w W : World} {B : Nat} {v : Value} {l : List UInt8} (hb : Below w.heap.size w W) (ho : OwnB B W v l) (hl : l.length <= 9100) : DrawnB w (.returned v) W := by
 obtain ⟨a, c, rfl⟩ := own_shape ho
 exact drawn_own hb rfl ho hl
set_option maxRecDepth 20000 in
set_option maxHeartbeats 8000000 in
theorem drawEUnpack_any (S : Nat -> Prop) (w : World) (ao : Option Addr) (L cap : Nat) (h : CodeIn S w ao L cap) (hS : ∀ b, S b -> b < w.heap.size) :
  Calls Tryz.prog 4 #[.slice ao L cap] w (DrawnB w) := by
 have HO : Hid (Calls Tryz.prog 14 #[.slice ao L cap] w _) := l6Open_any S w ao L cap h hS
 clear h
 go_enter Tryz.func4, Tryz.ntmps4
 go_wp2_with fail
 refine HO.out.mono ?_
 rintro e w1 ⟨hb1, R, rfl, hR, L', hD⟩
 have HA := Lib.hid (l5Event_any 8 R ao L' cap 0 w1 (Nat.le_refl _) hD (by omega))
 have HB1 := Lib.hid hb1
 have hR1 := hD.lt
 clear HO hb1 hD
 go_wp2_with fail
 refine HA.out.mono ?_
 rintro e w2 ⟨hn2, p2, x, v, t, c0, c1, c2, c3, c4, hp2, hD2, rfl, hx, -, hk⟩
 have hz2 := hn2.size
 have HB2 : Hid (Below w.heap.size w w2) := near_new HB1.out hR hn2
 have HW := Lib.hid (specEPackO_any 8 _ x v t c0 c1 c2 c3 c4 w2 (by unfold maxLen; omega) hk (fun b hb => hb.2))
 have HD2 := Lib.hid hD2
 clear HA HB1 hn2 hD2 hk
 go_wp2_with fail
 refine HW.out.mono ?_
 rintro e w3 ⟨u, rfl, -, hb3, hyes, hno⟩
 have HB3 : Hid (Below w.heap.size w w3) := below_step HB2.out HB2.out.size hb3
 have HD3 : Hid (Dr w3 R ao L' cap p2) := HD2.out.same hb3
 have hz3 := hb3.size
 cases hok : okE 8 x v t
 case false =>
  obtain ⟨a, rfl⟩ := hno hok
  have HP : Hid (DrawnB w (.returned (.slice a 0 0)) w3) := ⟨HB3.out, [], a, 0, rfl, by simp, ⟨Nat.le_refl _, Nat.zero_le _⟩, fun j hj => absurd hj (Nat.not_lt_zero _)⟩
  clear HW hyes hno hok hb3 HB2 HD2 HB3 HD3
  go_wp2_with fail
  go_ret
  exact HP.out
 have hbb := hyes hok
 have hbe : bytesE 8 x v t = packE 8 x v t := by rw [bytesE, if_pos hok]
 rw [hbe] at hbb
 have hpl := packE_len hok
 have hpp : 2 <= (packE 8 x v t).length := by unfold packE shortB; simp; omega
 obtain ⟨bl, hbl⟩ : ∃ bl, packE 8 x v t = bl := ⟨_, rfl⟩
 rw [hbl] at hbb hpl hpp
 obtain ⟨ba, bc, rfl⟩ := hbb.shape
 obtain ⟨ln, hln⟩ : ∃ ln, bl.length = ln := ⟨_, rfl⟩
 have HO3 : Hid (OwnB w2.heap.size w3 (.slice ba bl.length bc) bl) := hbb.own
 rw [hln] at hpl hpp HO3
 rw [hln]
 have HLn := Lib.hid hln
 have HPk := Lib.hid (pick_any w3 R ao L' cap p2 3 HD3.out (by omega) (by omega) (by omega))
 have hln0 : ¬ (ln : Int) = 0 := by omega
 have hln0b : ((ln : Int) == 0) = false := by simp; omega
 clear HW hyes hno hok hb3 HB2 HD2 hbb hbe hbl hln
 go_wp2_with fail
 refine HPk.out.mono ?_
 rintro e w4 ⟨y, rfl, hy, hn4, hD4, -⟩
 have HB4 : Hid (Below w.heap.size w w4) := near_new HB3.out hR hn4
 have HO4 : Hid (OwnB w2.heap.size w4 (.slice ba ln bc) bl) := near_own HO3.out (by omega) hn4
 have HD4 := Lib.hid hD4
 have hz4 := hn4.size
 clear HPk HB3 HD3 HO3 hn4 hD4
 by_cases hy0 : 0 < y
 case pos =>
  have hyi : (0 : Int) < (y : Int) := by omega
  have HP : Hid (DrawnB w (.returned (.slice ba ln bc)) w4) := drawn_own HB4.out HLn.out HO4.out (by omega)
  clear HB4 HO4 HD4 HLn
  go_wp2_with fail
  go_ret
  exact HP.out
 have hyi : ¬ (0 : Int) < (y : Int) := by omega
 have HPk := Lib.hid (pick_any w4 R ao L' cap (p2 + 1) ln HD4.out (by omega) (by omega) (by omega))
 go_wp2_with fail
 refine HPk.out.mono ?_
 rintro e w5 ⟨i, rfl, hi, hn5, hD5, -⟩
 have HB5 : Hid (Below w.heap.size w w5) := near_new HB4.out hR hn5
 have HO5 : Hid (OwnB w2.heap.size w5 (.slice ba ln bc) bl) := near_own HO4.out (by omega) hn5
 have HPk5 := Lib.hid (pick_any w5 R ao L' cap (p2 + 1 + 1) 5 hD5 (by omega) (by omega) (by omega))
 have hz5 := hn5.size
 clear HPk HB4 HO4 HD4 hn5 hD5
 go_wp2_with fail
 refine HPk5.out.mono ?_
 rintro e w6 ⟨k, rfl, hk, hn6, hD6, -⟩
 have HB6 : Hid (Below w.heap.size w w6) := near_new HB5.out hR hn6
 have hO6 : OwnB w2.heap.size w6 (.slice ba ln bc) bl := near_own HO5.out (by omega) hn6
 have HO6 := Lib.hid hO6
 have HD6 := Lib.hid hD6
 have hz6 := hn6.size
 have hii : (i : Int) <= (ln : Int) := by omega
 have hil : (i : Int) < (ln : Int) := by omega
 have hbc : ln <= bc /\ bc <= maxLen := by have h := hO6; rw [<- HLn.out] at h; have := h.given.lc; rw [HLn.out] at this; exact this
 have hbci : (i : Int) <= (bc : Int) := by omega
 have hij : i < bl.length := by have := HLn.out; omega
 have hO6' := hO6
 rw [<- HLn.out] at hO6'
 obtain ⟨g, c', hv', hc6, hf6⟩ := hO6'.cells i hij
 obtain ⟨hba, -⟩ : ba = some ⟨g, 0, none⟩ /\ bc = c' := by injection hv' with a b c; exact ⟨a, c⟩
 subst hba
 rw [Nat.zero_add] at hc6 hf6
 have hgl := r1_lt hO6 g rfl
 generalize hq : (bl[i].toNat : Int) = bi at hc6
 have hbi : 0 <= bi /\ bi < 256 := by rw [<- hq]; have := bl[i].toNat_lt; omega
 clear HPk5 HB5 HO5 hn6 hD6 hO6 hO6' hv' hq hij
 by_cases k0 : k = 0
 ·subst k0
  have HP : Hid (DrawnB w (.returned (.slice (some ⟨g, 0, none⟩) i bc)) w6) := drawn_take HB6.out HLn.out HO6.out (by omega) (by omega)
  clear HB6 HO6 HD6 HLn hc6 hf6
  go_wp2_with fail
  go_ret
  exact HP.out
 by_cases k1 : k = 1
 ·subst k1
  have HPk := Lib.hid (pick_any w6 R ao L' cap (p2 + 1 + 1 + 1) 7 HD6.out (by omega) (by omega) (by omega))
  clear hc6 hf6
  go_wp2_with fail
  refine HPk.out.mono ?_
  rintro e w7 ⟨a, rfl, ha, hn7, -, -⟩
  have HB7 : Hid (Below w.heap.size w w7) := near_new HB6.out hR hn7
  have HO7 : Hid (OwnB w2.heap.size w7 (.slice (some ⟨g, 0, none⟩) ln bc) bl) := near_own HO6.out (by omega) hn7
  have hz7 := hn7.size
  have hwa : IntKind.u8.wrap (a : Int) = (a : Int) := by rw [IntKind.wrap_u8]; omega
  obtain ⟨i0, hi0, hy0', hy1, hyb⟩ := info_parts Tryz.info_byteT
  have HI0 : Hid (_ /\ _ /\ _ /\ _) := ⟨hi0, hy0', hy1, hyb⟩
  have HOx : Hid (∀ o, (w7.alloc o).ownsRow w2.heap.size 5 1 (.slice (some ⟨g, 0, none⟩) ln bc) ln (Lib.byteCells bl)) := fun o => by
   have h := OwnB.keep (w' := w7.alloc o) HO7.out (fun b _ h2 => Below.heap_alloc _ _ _ h2)
   have e := HLn.out
   unfold OwnB at h
   rw [e] at h
   exact h
  clear hi0 hy0' hy1 hyb HPk hn7 HB6 HO6 HD6
  go_wp2_with (at_builtin; refine wpList_append_lies _ rfl (.tmp 49) (.tmp 53) 22 rfl w2.heap.size 5 i0 (.int .u8 0) 1 1 Tryz.underlying22 HI0.out.1 HI0.out.2.1 HI0.out.2.2.1 HI0.out.2.2.2 rfl (by decide) (.slice (some ⟨g, 0, none⟩) ln bc) ln (Lib.byteCells bl) rfl (HOx.out _) ⟨w7.heap.size, 0, none⟩ 1 1 [.int .u8 (a : Int)] rfl rfl (World.news_of_block (heap_alloc_new w7 _)) (by simp [Value.oneCell']) (by decide) (by unfold maxLen; omega) (by omega) (by simp; omega) (w7.heap.size + 1) (by simp) ?_; intro g' cap' w8 hown8 hgrow8 hat8 hlt8; refine Hid.out ?_)
  refine Lib.hid ?_
  have HP : Hid (DrawnB w (.returned (.slice (some ⟨g', 0, none⟩) (ln + 1) cap')) w8) := by
   refine drawn_own (B := w2.heap.size) (l := bl ++ [b8 (a : Int)]) (Below.grown (HB7.out.alloc (HB7.out.size) _) hgrow8 (by have := HB7.out.size; simp; omega) (fun k hk => by simp [Value.ownBlock] at hk; omega)) (by rw [List.length_append, HLn.out]; rfl) ?_ (by omega)
   unfold OwnB
   rw [List.length_append, byteCells_app, HLn.out]
   have e : Lib.byteCells [b8 (a : Int)] = [.int .u8 (a : Int)] := by simp [Lib.byteCells, b8_nat (show (0 : Int) <= (a : Int) by omega) (show (a : Int) < 256 by omega)]
   rw [e]
   exact hown8
  clear hown8 hgrow8 hat8 HO7 HB7 HOx
  go_wp2_with fail
  go_ret
  exact HP.out
 by_cases k2 : k = 2
 ·subst k2
  have HPk := Lib.hid (pick_any w6 R ao L' cap (p2 + 1 + 1 + 1) 256 HD6.out (by omega) (by omega) (by omega))
  go_wp2_with fail
  refine HPk.out.mono ?_
  rintro e w7 ⟨a, rfl, ha, hn7, -, -⟩
  have HB7 : Hid (Below w.heap.size w w7) := near_new HB6.out hR hn7
  have HO7 : Hid (OwnB w2.heap.size w7 (.slice (some ⟨g, 0, none⟩) ln bc) bl) := near_own HO6.out (by omega) hn7
  have hwa : IntKind.u8.wrap (a : Int) = (a : Int) := by rw [IntKind.wrap_u8]; omega
  have hc7 := (World.cell?_of_block (a := ⟨g, i, none⟩) (hn7.block g (by omega) (by omega))).trans hc6
  have hf7 := (World.frozen?_of_block (a := ⟨g, i, none⟩) (hn7.block g (by omega) (by omega))).trans hf6
  have HP : Hid (DrawnB w (.returned (.slice (some ⟨g, 0, none⟩) ln bc)) (w7.setCell ⟨g, i, none⟩ (.int .u8 (a : Int)))) :=
   drawn_own (HB7.out.setCell (by have := HB7.out.size; show w.heap.size <= g; omega) _) (by rw [List.length_set]; exact HLn.out) (own_byte HO7.out (by omega)) (by omega)
  clear HPk hn7 HB6 HO6 HD6 HB7 HO7 hc6 hf6
  go_wp2_with fail
  go_ret
  exact HP.out
 have HPk : Hid (∀ (W : World) (n : Nat), 1 <= n -> n <= 1000 -> Dr W R ao L' cap (p2 + 1 + 1 + 1) -> Calls Tryz.prog 17 #[.pointer (some ⟨R, 0, none⟩), .int .i64 (n : Int)] W (PickPost W R ao L' cap (p2 + 1 + 1 + 1) n)) := fun W n h1 h2 hD => pick_any W R ao L' cap (p2 + 1 + 1 + 1) n hD (by omega) h1 (by omega)
 by_cases k3 : k = 3
 ·subst k3
  have HPd := Lib.hid (HPk.out w6.drew 3 (by omega) (by omega) (HD6.out.drewN 1))
  have HZ : Hid (∀ w7, Near R w6.drew w7 -> ∀ z : Int, DrawnB w (.returned (.slice (some ⟨g, 0, none⟩) ln bc)) (w7.setCell ⟨g, i, none⟩ (.int .u8 (IntKind.u8.wrap z)))) := fun w7 hn7 z => by
   have hn : Near R w6 w7 := ⟨hn7.os, hn7.tape, hn7.output, hn7.size, hn7.block⟩
   have hB7 : Below w.heap.size w w7 := near_new HB6.out hR hn
   have hO7 : OwnB w2.heap.size w7 (.slice (some ⟨g, 0, none⟩) ln bc) bl := near_own HO6.out (by omega) hn
   exact drawn_own (hB7.setCell (by have := HB6.out.size; show w.heap.size <= g; omega) _) (by rw [List.length_set]; exact HLn.out) (own_byte hO7 (by rw [IntKind.wrap_u8]; omega)) (by omega)
  clear HPk HB6 HO6 HD6
  go_upto_region 15 with fail
  go_region_law (first
   | (go_simp; go_at_call 17; refine HPd.out.mono ?_; rintro e w7 ⟨a, rfl, ha, hn7, -, -⟩; have hc7 : w7.cell? ⟨g, i, none⟩ = some (.int .u8 bi) := (World.cell?_of_block (a := ⟨g, i, none⟩) (hn7.block g (by show g < w6.heap.size; omega) (by omega))).trans hc6; have hf7 : w7.frozen? ⟨g, i, none⟩ = false := (World.frozen?_of_block (a := ⟨g, i, none⟩) (hn7.block g (by show g < w6.heap.size; omega) (by omega))).trans hf6))
  all_goals
   go_wp2_with fail
   go_ret
   exact HZ.out _ hn7 _
 have k4 : k = 4 := by omega
 subst k4
 have hR6 : R < w6.heap.size := by omega
 have HCells : Hid (∀ W : World, W.heap[g]? = w6.heap[g]? -> ∀ j (hj : j < bl.length), W.cell? ⟨g, j, none⟩ = some (.int .u8 (bl[j].toNat : Int))) := fun W hW j hj => by
  have h := HO6.out
  rw [<- HLn.out] at h
  obtain ⟨g', c2, hv, hc, -⟩ := h.cells j hj
  injection hv with e1 e2 e3
  cases e1
  rw [Nat.zero_add] at hc
  exact (World.cell?_of_block (a := ⟨g, j, none⟩) hW).trans hc
 have hlt : (bl.take i).length = i := by rw [List.length_take, HLn.out]; omega
 have hld : (bl.drop i).length = ln - i := by rw [List.length_drop, HLn.out]
 have hnb : ¬ bc = i := by omega
 have HB6s := HB6.out.size
 have HK7 : Hid (∀ o w7, (w6.drew.alloc o).grownBy w7 (some w6.heap.size) -> Below w6.heap.size w6 w7) := fun o w7 hg => Below.grown (((Below.refl _ _).drew).alloc (Nat.le_refl _) _) hg (by simp) (fun k hk => by cases hk; exact Nat.le_refl _)
 clear hc6 hf6 hbi
 go_upto_region 7 with fail
 go_region_law (first
  | (refine step_copyB rfl (.tmp 26) (.tmp 29) rfl w6.heap.size w6.heap.size rfl (heap_alloc_new _ _) (Nat.le_refl _) g 0 i bc (bl.take i) rfl hlt (fun j hj => by rw [Nat.zero_add, List.getElem_take]; exact HCells.out _ (Below.heap_alloc _ _ _ (by show g < w6.heap.size; omega)) j _) (by omega) ?_; intro v7 w7 ho7 hg7; have hb7 := HK7.out _ _ hg7; have HB7 := Lib.hid hb7; have HO7 := Lib.hid ho7; clear hb7 hg7 ho7)
  | (go_simp; go_at_call 17; refine (HPk.out w7 2 (by omega) (by omega) (HD6.out.same HB7.out)).mono ?_; rintro e w8 ⟨a, rfl, ha, hn8, -, -⟩; have hwm : IntKind.i64.wrap ((a : Int) * -128) = (a : Int) * -128 := (by rw [IntKind.wrap_i64]; omega); have hwp : IntKind.i64.wrap (128 + (a : Int) * -128) = 128 + (a : Int) * -128 := (by rw [IntKind.wrap_i64]; omega); have hwu : IntKind.u8.wrap (128 + (a : Int) * -128) = 128 + (a : Int) * -128 := (by rw [IntKind.wrap_u8]; omega))
  | (refine step_ownB rfl (.tmp 30) (.tmp 36) rfl w6.heap.size v7 (bl.take i) rfl (OwnB.keep (near_own HO7.out hR6 hn8) (fun b _ h2 => Below.heap_alloc _ _ _ h2)) w8.heap.size 0 1 1 [b8 (128 + (a : Int) * -128)] rfl rfl (by decide) (one_byte w8 _ _ (by omega)) (by rw [hlt]; simp; omega) (by have := HB7.out.size; have := hn8.size; simp; omega) ?_; intro v9 w9 ho9 hg9; have hG9 : w9.heap[g]? = w6.heap[g]? := (hg9.block g (by have := HB7.out.size; have := hn8.size; simp; omega) (fun e => by have := (r1_lt HO7.out g e.symm).1; omega)).trans ((Below.heap_alloc _ _ _ (by have := HB7.out.size; have := hn8.size; omega)).trans ((hn8.block g (by have := HB7.out.size; omega) (by omega)).trans (HB7.out.block g (by omega)))); have HB9 : Hid (Below w.heap.size w w9) := Below.grown ((near_new (below_step HB6.out HB6.out.size HB7.out) hR hn8).alloc (by have := HB7.out.size; have := hn8.size; omega) _) hg9 (by have := HB7.out.size; have := hn8.size; simp; omega) (fun k hk => by have := (r1_lt HO7.out k hk).1; omega); have hs9 : w6.heap.size <= w9.heap.size := Nat.le_trans (by have := HB7.out.size; have := hn8.size; simp; omega) hg9.size; have HO9 := Lib.hid ho9; clear ho9 hg9)
  | (refine step_ownB rfl (.tmp 37) (.tmp 40) rfl w6.heap.size v9 (bl.take i ++ [b8 (128 + (a : Int) * -128)]) rfl HO9.out g i (ln - i) (bc - i) (bl.drop i) rfl hld (by omega) (fun j hj => by rw [List.getElem_drop]; exact HCells.out _ hG9 (i + j) _) (by rw [List.length_append, hlt, hld]; simp; omega) hs9 ?_; intro v10 w10 ho10 hg10; have HP : Hid (DrawnB w (.returned v10) w10) := drawn_own2 (Below.grown HB9.out hg10 (by omega) (fun k hk => by have := (r1_lt HO9.out k hk).1; omega)) ho10 (by rw [List.length_append, List.length_append, hlt, hld]; simp; omega); clear ho10 hg10))
 all_goals
  go_wp2_with fail
  go_ret
  exact HP.out
end Go.Proofs.YtmjhcgjhlakceaaGreatDoor
