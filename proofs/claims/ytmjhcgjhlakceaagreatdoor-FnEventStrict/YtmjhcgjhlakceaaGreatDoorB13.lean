/-
  Several texts in one, in their order.
-/
import Derived.Test.YtmjhcgjhlakceaaGreatDoorB1
import Derived.Test.YtmjhcgjhlakceaaGreatDoorShelf
import Derived.Test.YtmjhcgjhlakceaaGreatDoorB2
import Derived.Lib.IndexLaws
import Derived.Laws.IdiomStrings
import Derived.Deep.QuietTactic
import Derived.BigQuiet
import Derived.RegionDies
import Derived.Test.YtmjhcgjhlakceaaGreatDoorB5

namespace Go.Proofs.YtmjhcgjhlakceaaGreatDoor
open Go.RowKit
structure Sc (w : World) (R : Nat) (s : ByteArray) (i : Nat) : Prop where
 c0 : w.cell? ⟨R, 0, none⟩ = some (.string s)
 c1 : w.cell? ⟨R, 1, none⟩ = some (.int .i64 (i : Int))
 f1 : w.frozen? ⟨R, 1, none⟩ = false
structure Scan (R : Nat) (w w' : World) (q : Nat) : Prop where
 near : Near R w w'
 cells : ∀ o, o ≠ 1 -> w'.cell? ⟨R, o, none⟩ = w.cell? ⟨R, o, none⟩
 at1 : w'.cell? ⟨R, 1, none⟩ = some (.int .i64 (q : Int))
 fz : ∀ o, w'.frozen? ⟨R, o, none⟩ = w.frozen? ⟨R, o, none⟩
theorem Scan.sc {R : Nat} {w w' : World} {q i : Nat} {s : ByteArray} (h : Scan R w w' q) (k : Sc w R s i) : Sc w' R s q := ⟨(h.cells 0 (by decide)).trans k.c0, h.at1, (h.fz 1).trans k.f1⟩
theorem Scan.trans {R : Nat} {a b c : World} {p q : Nat} (h : Scan R a b p) (k : Scan R b c q) : Scan R a c q :=
 ⟨h.near.trans k.near, fun o ho => (k.cells o ho).trans (h.cells o ho), k.at1, fun o => (k.fz o).trans (h.fz o)⟩
theorem Scan.refl {R : Nat} {w : World} {i : Nat} {s : ByteArray} (k : Sc w R s i) : Scan R w w i := ⟨Near.refl _ _, fun _ _ => rfl, k.c1, fun _ => rfl⟩
theorem Scan.drewN {R : Nat} {a w : World} {q : Nat} (h : Scan R a w q) (n : Nat) : Scan R a (w.drewN n) q := ⟨⟨h.near.os, h.near.tape, h.near.output, h.near.size, h.near.block⟩, h.cells, h.at1, h.fz⟩
theorem Sc.lt {w : World} {R : Nat} {s : ByteArray} {i : Nat} (h : Sc w R s i) : R < w.heap.size :=
 Classical.byContradiction fun hge => by
  have : w.heap[R]? = none := Array.getElem?_eq_none (by omega)
  have h0 := h.c0
  simp [World.cell?, this] at h0
theorem Scan.set {w : World} {R : Nat} {s : ByteArray} {i : Nat} (h : Sc w R s i) (q : Nat) : Scan R w (w.setCell ⟨R, 1, none⟩ (.int .i64 (q : Int))) q :=
 ⟨Near.set R 1 w _, fun o ho => World.cell?_setCell_other _ _ _ _ (fun e => ho (by have := congrArg Addr.off e; simpa using this.symm)), World.cell?_setCell_same _ _ _ h.c1, fun o => World.frozen?_setCell _ _ _ _⟩
theorem Scan.below {R : Nat} {a b c : World} {q : Nat} (h : Scan R a b q) (hb : Below b.heap.size b c) (hR : R < b.heap.size) : Scan R a c q :=
 ⟨h.near.trans (Near.of_below hb), fun o ho => (hb.cell (p := ⟨R, o, none⟩) hR).trans (h.cells o ho), (hb.cell (p := ⟨R, 1, none⟩) hR).trans h.at1, fun o => (hb.frozen (p := ⟨R, o, none⟩) hR).trans (h.fz o)⟩
theorem extract_end (s : ByteArray) (i : Nat) : (s.extract i s.size).data.toList = s.data.toList.drop i := by
 simp [ByteArray.data_extract, List.extract_eq_take_drop]
 rw [List.take_of_length_le]; simp
theorem eatP_drop {x l r : List UInt8} (h : eatP x l = some r) : r = l.drop x.length := by
 unfold eatP at h
 split at h
 ·cases h; rfl
 ·cases h
theorem eatP_fit {x : List UInt8} {s : ByteArray} {i : Nat} {r : List UInt8} (h : eatP x (s.data.toList.drop i) = some r) : (i <= s.size -> i + x.length <= s.size) /\ r = s.data.toList.drop (i + x.length) := by
 have h1 := eatP_some h
 have h2 := eatP_drop h
 rw [List.drop_drop] at h2
 refine ⟨fun hi => ?_, h2⟩
 have := congrArg List.length h1
 simp at this
 omega
def SkipPost (w : World) (R : Nat) (s x : ByteArray) (i : Nat) (e : Ending) (w' : World) : Prop :=
 (eatP x.data.toList (s.data.toList.drop i) = some (s.data.toList.drop (i + x.size)) /\ e = .returned (.bool true) /\ Scan R w w' (i + x.size) /\ i + x.size <= s.size) ∨
  (eatP x.data.toList (s.data.toList.drop i) = none /\ e = .returned (.bool false) /\ Scan R w w' i)
set_option maxRecDepth 20000 in
set_option maxHeartbeats 1000000 in
theorem skip_any (w : World) (R : Nat) (s x : ByteArray) (i : Nat) (h : Sc w R s i) (hs : s.size <= 10000) (hx : x.size <= 10000) (hi : i <= s.size) :
  Calls Tryz.prog 104 #[.pointer (some ⟨R, 0, none⟩), .string x] w (SkipPost w R s x i) := by
 have c0 := h.c0
 have c1 := h.c1
 have f1 := h.f1
 have hi' : (i : Int) <= (s.size : Int) := by omega
 have hw : IntKind.i64.wrap ((i : Int) + (x.size : Int)) = (i : Int) + (x.size : Int) := by rw [IntKind.wrap_i64]; omega
 have HC : Hid (∀ W, Calls Tryz.prog 125 #[.string (s.extract i s.size), .string x] W fun e w' => e = .returned (.bool (Lib.hasPrefix (s.extract i s.size).data.toList x.data.toList)) /\ w' = W) := fun W => Tryz.strings_HasPrefix _ _ W
 have hh : Lib.hasPrefix (s.extract i s.size).data.toList x.data.toList = x.data.toList.isPrefixOf (s.data.toList.drop i) := by rw [extract_end]; rfl
 have H1 : Hid (∀ m, Scan R w ((w.drewN m).setCell ⟨R, 1, none⟩ (.int .i64 ((i : Int) + (x.size : Int)))) (i + x.size)) := fun m => by
  have := ((Scan.refl h).drewN m).trans (Scan.set (((Scan.refl h).drewN m).sc h) (i + x.size))
  rw [show ((i + x.size : Nat) : Int) = (i : Int) + (x.size : Int) by omega] at this
  exact this
 have H2 : Hid (∀ m, Scan R w (w.drewN m) i) := fun m => (Scan.refl h).drewN m
 clear h
 cases hp : x.data.toList.isPrefixOf (s.data.toList.drop i) with
 | true =>
  have HE : Hid (eatP x.data.toList (s.data.toList.drop i) = some (s.data.toList.drop (i + x.size)) /\ i + x.size <= s.size) := by
   have e : eatP x.data.toList (s.data.toList.drop i) = some ((s.data.toList.drop i).drop x.data.toList.length) := by unfold eatP; rw [if_pos hp]
   have h2 := eatP_fit e
   rw [List.drop_drop] at e
   have e3 : x.data.toList.length = x.size := by simp
   rw [e3] at e h2
   exact ⟨e, h2.1 hi⟩
  rw [hp] at hh
  rw [hh] at HC
  clear hh hp
  go_enter Tryz.func104, Tryz.ntmps104
  go_wp2_with fail
  go_quiet (first | (go_at_call 125; refine Calls.quiet_of_same (HC.out _)))
  go_wp2_with fail
  go_ret
  exact .inl ⟨HE.out.1, rfl, H1.out _, HE.out.2⟩
 | false =>
  have HE : Hid (eatP x.data.toList (s.data.toList.drop i) = none) := by
   show _ = _
   unfold eatP; rw [if_neg (by rw [hp]; simp)]
  rw [hp] at hh
  rw [hh] at HC
  clear hh hp
  go_enter Tryz.func104, Tryz.ntmps104
  go_wp2_with fail
  go_quiet (first | (go_at_call 125; refine Calls.quiet_of_same (HC.out _)))
  go_wp2_with fail
  go_ret
  exact .inr ⟨HE.out, rfl, H2.out _⟩
def WantPost (w : World) (R : Nat) (s x : ByteArray) (i : Nat) (e : Ending) (w' : World) : Prop :=
 (eatP x.data.toList (s.data.toList.drop i) = some (s.data.toList.drop (i + x.size)) /\ e = .returned (.tuple #[]) /\ Scan R w w' (i + x.size) /\ i + x.size <= s.size) ∨
  (eatP x.data.toList (s.data.toList.drop i) = none /\ e = .panicked refusal /\ Near R w w')
set_option maxRecDepth 20000 in
set_option maxHeartbeats 400000 in
theorem want_any (w : World) (R : Nat) (s x : ByteArray) (i : Nat) (h : Sc w R s i) (hs : s.size <= 10000) (hx : x.size <= 10000) (hi : i <= s.size) :
  Calls Tryz.prog 76 #[.pointer (some ⟨R, 0, none⟩), .string x] w (WantPost w R s x i) := by
 have HC : Hid (Calls Tryz.prog 104 _ _ _) := skip_any w R s x i h hs hx hi
 clear h
 go_enter Tryz.func76, Tryz.ntmps76
 go_wp2_with fail
 refine HC.out.mono ?_
 rintro e w1 (⟨h1, rfl, h2, h3⟩ | ⟨h1, rfl, h2⟩)
 ·have HP : Hid (WantPost w R s x i (.returned (.tuple #[])) w1) := .inl ⟨h1, rfl, h2, h3⟩
  clear HC h1 h2 h3
  go_wp2_with (go_at_call 55; refine (demand_yes _).mono ?_; rintro e w' ⟨rfl, rfl⟩)
  go_end0
  exact HP.out
 ·have HP : Hid (WantPost w R s x i (.panicked refusal) w1) := .inr ⟨h1, rfl, h2.near⟩
  clear HC h1 h2
  go_wp2_with (go_at_call 55; refine (demand_no _).mono ?_; rintro e w' ⟨rfl, rfl⟩)
  exact ⟨rfl, HP.out⟩
end Go.Proofs.YtmjhcgjhlakceaaGreatDoor

namespace Go.Proofs.YtmjhcgjhlakceaaGreatDoor
open Go.RowKit
def UntilPost (c : UInt8) (w : World) (R : Nat) (s : ByteArray) (i : Nat) (e : Ending) (w' : World) : Prop :=
 (∃ x, untilP c (s.data.toList.drop i) = some (x, s.data.toList.drop (i + x.length)) /\ e = .returned (.string (bs x)) /\ Scan R w w' (i + x.length) /\ i + x.length < s.size) ∨
  (untilP c (s.data.toList.drop i) = none /\ e = .panicked refusal /\ Near R w w')
set_option maxRecDepth 20000 in
set_option maxHeartbeats 1000000 in
theorem until_any (c : UInt8) (w : World) (R : Nat) (s : ByteArray) (i : Nat) (h : Sc w R s i) (hs : s.size <= 10000) (hi : i <= s.size) :
  Calls Tryz.prog 78 #[.pointer (some ⟨R, 0, none⟩), .int .u8 (c.toNat : Int)] w (UntilPost c w R s i) := by
 have c0 := h.c0
 have c1 := h.c1
 have f1 := h.f1
 have hi' : (i : Int) <= (s.size : Int) := by omega
 have hcc : ((c.toNat : Int)).toNat.toUInt8 = c := by
  apply UInt8.toNat_inj.1
  simp
 have HC : Hid (∀ W, Calls Tryz.prog 109 #[.string (s.extract i s.size), .int .u8 (c.toNat : Int)] W fun e w' => e = .returned (.int .i64 (Lib.indexByte (s.data.toList.drop i) c)) /\ w' = W) := fun W => by
  have := Tryz.strings_IndexByte (s.extract i s.size) (c.toNat : Int) W
  rw [hcc, extract_end] at this
  exact this
 have hge := Lib.indexByte_ge (s.data.toList.drop i) c
 have HN : Hid (∀ m, Near R w (w.drewN m)) := fun m => ((Scan.refl h).drewN m).near
 rcases Int.lt_or_le (Lib.indexByte (s.data.toList.drop i) c) 0 with hneg | hpos
 ·have e1 : Lib.indexByte (s.data.toList.drop i) c = -1 := by omega
  have HU : Hid (untilP c (s.data.toList.drop i) = none) := by
   refine untilP_never c _ fun x hx e => ?_
   obtain ⟨k, hk, he⟩ := List.getElem_of_mem hx
   exact Lib.indexByte_none e1 k (by rw [List.getElem?_eq_getElem hk, he, e])
  rw [e1] at HC
  clear hneg hge e1 h
  go_enter Tryz.func78, Tryz.ntmps78
  go_wp2_with fail
  go_quiet (first | (go_at_call 109; refine Calls.quiet_of_same (HC.out _)))
  go_wp2_with (go_at_call 55; refine (demand_no _).mono ?_; rintro e w' ⟨rfl, rfl⟩)
  exact ⟨rfl, .inr ⟨HU.out, rfl, HN.out _⟩⟩
 ·obtain ⟨o, ho⟩ : ∃ o : Nat, Lib.indexByte (s.data.toList.drop i) c = o := ⟨_, (Int.toNat_of_nonneg hpos).symm⟩
  obtain ⟨g1, g2⟩ := Lib.indexByte_some ho
  have hlt : i + o < s.size := by
   have := (List.getElem?_eq_some_iff.1 g1).1
   simp at this; omega
  have hlen : ((s.data.toList.drop i).take o).length = o := by simp; omega
  have HU : Hid (untilP c (s.data.toList.drop i) = some ((s.data.toList.drop i).take o, s.data.toList.drop (i + o))) := by
   have := untilP_at c (s.data.toList.drop i) o (fun x hx e => by
    obtain ⟨k, hk, he⟩ := List.getElem_of_mem hx
    have hk' : k < o := by rw [hlen] at hk; exact hk
    have hkl : k < (s.data.toList.drop i).length := by simp; omega
    refine g2 k hk' ?_
    rw [List.getElem?_eq_getElem hkl, <- e, <- he]; simp) (by
    have hol := (List.getElem?_eq_some_iff.1 g1).1
    have := (List.getElem?_eq_some_iff.1 g1).2
    rw [List.drop_eq_getElem_cons hol, this])
   rw [List.drop_drop] at this
   exact this
  have HX : Hid (s.extract i (i + o) = bs ((s.data.toList.drop i).take o)) := extract_bs s i o
  rw [ho] at HC
  have hw : IntKind.i64.wrap ((i : Int) + (o : Int)) = (i : Int) + (o : Int) := by rw [IntKind.wrap_i64]; omega
  have hge0 : (0 : Int) <= (o : Int) := by omega
  have HS : Hid (∀ m, Scan R w ((w.drewN m).setCell ⟨R, 1, none⟩ (.int .i64 ((i : Int) + (o : Int)))) (i + o)) := fun m => by
   have := ((Scan.refl h).drewN m).trans (Scan.set (((Scan.refl h).drewN m).sc h) (i + o))
   rw [show ((i + o : Nat) : Int) = (i : Int) + (o : Int) by omega] at this
   exact this
  have hio : (i : Int) + (o : Int) <= (s.size : Int) := by omega
  have hio2 : (i : Int) <= (i : Int) + (o : Int) := by omega
  have hio3 : ((i : Int) + (o : Int)).toNat = i + o := by omega
  have hd0 : ∀ m, ((w.drewN m).setCell ⟨R, 1, none⟩ (.int .i64 ((i : Int) + (o : Int)))).cell? ⟨R, 0, none⟩ = some (.string s) := fun m => ((HS.out m).cells 0 (by decide)).trans c0
  have hd1 : ∀ m, ((w.drewN m).setCell ⟨R, 1, none⟩ (.int .i64 ((i : Int) + (o : Int)))).cell? ⟨R, 1, none⟩ = some (.int .i64 ((i : Int) + (o : Int))) := fun m => (HS.out m).at1
  clear hpos hge ho g1 g2 h
  go_enter Tryz.func78, Tryz.ntmps78
  go_wp2_with fail
  go_quiet (first | (go_at_call 109; refine Calls.quiet_of_same (HC.out _)))
  go_wp2_with (go_at_call 55; refine (demand_yes _).mono ?_; rintro e w' ⟨rfl, rfl⟩)
  have d0 := hd0 nq
  have d1 := hd1 nq
  go_quiet (fail)
  go_wp2_with fail
  go_ret
  refine .inl ⟨_, by rw [hlen]; exact HU.out, congrArg (fun x => Ending.returned (.string x)) HX.out, ?_, by rw [hlen]; exact hlt⟩
  rw [hlen]
  exact (HS.out _).drewN _
def EndPost (w : World) (R : Nat) (s : ByteArray) (i : Nat) (e : Ending) (w' : World) : Prop :=
 (i = s.size /\ e = .returned (.tuple #[]) /\ Scan R w w' i) ∨ (i ≠ s.size /\ e = .panicked refusal /\ Near R w w')
set_option maxRecDepth 20000 in
set_option maxHeartbeats 1000000 in
theorem wantEnd_any (w : World) (R : Nat) (s : ByteArray) (i : Nat) (h : Sc w R s i) :
  Calls Tryz.prog 112 #[.pointer (some ⟨R, 0, none⟩)] w (EndPost w R s i) := by
 have c0 := h.c0
 have c1 := h.c1
 have HS : Hid (∀ m, Scan R w (w.drewN m) i) := fun m => (Scan.refl h).drewN m
 clear h
 by_cases he : i = s.size
 ·have hq : ((i : Int) == (s.size : Int)) = true := by simp [he]
  have HE : Hid (i = s.size) := he
  clear he
  go_enter Tryz.func112, Tryz.ntmps112
  go_wp2_with fail
  go_quiet (first | (go_at_call 55; refine Calls.quiet_of_same (demand_yes _)))
  go_wp2_with fail
  go_end0
  exact .inl ⟨HE.out, rfl, HS.out _⟩
 ·have hq : ((i : Int) == (s.size : Int)) = false := by simp; omega
  have HP : Hid (EndPost w R s i (.panicked refusal) w.drew) := .inr ⟨he, rfl, ⟨rfl, rfl, rfl, Nat.le_refl _, fun _ _ _ => rfl⟩⟩
  clear he
  go_enter Tryz.func112, Tryz.ntmps112
  go_wp2_with fail
  go_region_dies
  all_goals (go_at_call 55; refine (demand_no _).mono ?_; rintro e w' ⟨rfl, rfl⟩; exact ⟨rfl, HP.out⟩)
end Go.Proofs.YtmjhcgjhlakceaaGreatDoor

namespace Go.Proofs.YtmjhcgjhlakceaaGreatDoor
open Go.RowKit
def Fr (M : Nat) (nv kv : Value) (H b : Nat) : Prop := M <= b /\ b < H /\ nv.ownBlock ≠ some b /\ kv.ownBlock ≠ some b
structure RForm (R n : Nat) (w wr : World) (ns : List ByteArray) (ks : List (K n)) (nv kv : Value) : Prop where
 near : Near R w wr
 names : wr.ownsRow w.heap.size 9 1 nv ns.length (ns.map .string)
 short : ∀ s, s ∈ ns -> s.size <= 10000
 kids : ∃ xs, wr.ownsRow w.heap.size 85 3 kv ks.length xs /\ ∀ j (h : j < ks.length), ∃ c0 c1 c2, (xs[j * 3]? = some c0 /\ xs[j * 3 + 1]? = some c1 /\ xs[j * 3 + 2]? = some c2) /\ KindIn (Fr w.heap.size nv kv wr.heap.size) wr n ks[j] c0 c1 c2
 apart : ∀ b, nv.ownBlock = some b -> kv.ownBlock ≠ some b
theorem RForm.start (R n : Nat) (w wr : World) (h : Near R w wr) : RForm R n w wr [] [] (.slice none 0 0) (.slice none 0 0) :=
 ⟨h, World.ownsRow_nil _ _ _ _, fun _ h => (by cases h), ⟨[], World.ownsRow_nil _ _ _ _, fun j h => absurd h (Nat.not_lt_zero _)⟩, fun b hb => by cases hb⟩
theorem RForm.keep {R n : Nat} {w wr W : World} {ns : List ByteArray} {ks : List (K n)} {nv kv : Value} (h : RForm R n w wr ns ks nv kv) (hR : R < w.heap.size) (hn : Near R wr W) : RForm R n w W ns ks nv kv := by
 have hs : ∀ b, w.heap.size <= b -> b < wr.heap.size -> W.heap[b]? = wr.heap[b]? := fun b h1 h2 => hn.block b h2 (by omega)
 obtain ⟨xs, hx, hk⟩ := h.kids
 refine ⟨h.near.trans hn, r1_keep h.names fun g hg => ?_, h.short, ⟨xs, r1_keep hx fun g hg => ?_, fun j hj => ?_⟩, h.apart⟩
 ·have := r1_lt h.names g hg
  exact hs g this.1 this.2
 ·have := r1_lt hx g hg
  exact hs g this.1 this.2
 ·obtain ⟨c0, c1, c2, hc, ht⟩ := hk j hj
  exact ⟨c0, c1, c2, hc, ht.keep (fun b hb => hs b hb.1 hb.2.1) (fun b hb => ⟨hb.1, Nat.lt_of_lt_of_le hb.2.1 hn.size, hb.2.2⟩)⟩
theorem strs_of_ownsK {S : Nat -> Prop} {w : World} {M : Nat} {e : TypeId} {v : Value} {l : List ByteArray} (h : w.ownsRow M e 1 v l.length (l.map .string)) (hl : l.length <= 20000) (hs : ∀ s, s ∈ l -> s.size <= 10000) (hS : ∀ g, v.ownBlock = some g -> S g) : StrsIn S w l v := by
 have hm : ∀ s, s ∈ l -> s.size <= maxLen := fun s h => by have := hs s h; unfold maxLen; omega
 have hlm : l.length <= maxLen := by unfold maxLen; omega
 rcases id h.2 with ⟨rfl, h0⟩ | ⟨g, cap, cur, rfl, hbg, hg, hnc, hcm, hcs, htake⟩
 ·exact ⟨none, 0, by rw [h0], hlm, hm, fun hne => absurd (List.eq_nil_of_length_eq_zero h0) hne⟩
 ·refine ⟨_, _, rfl, hlm, hm, fun _ => ⟨g, 0, rfl, hS g rfl, fun i hi => ?_⟩⟩
  have := h.cells (g := g) rfl i (.string l[i]) (by simp [hi])
  rw [Addr.add_lit] at this
  simpa using this
theorem row3_of_owns {S : Nat -> Prop} {n : Nat} {w : World} {M : Nat} {e : TypeId} {v : Value} {l : List (K n)} {xs : List Value} (h : w.ownsRow M e 3 v l.length xs) (hl : l.length <= 20000) (hS : ∀ g, v.ownBlock = some g -> S g)
  (hk : ∀ j (h : j < l.length), ∃ c0 c1 c2, (xs[j * 3]? = some c0 /\ xs[j * 3 + 1]? = some c1 /\ xs[j * 3 + 2]? = some c2) /\ KindIn S w n l[j] c0 c1 c2) : RowIn3 S w (KindIn S w n) l v := by
 have hlm : l.length <= maxLen := by unfold maxLen; omega
 rcases id h.2 with ⟨rfl, h0⟩ | ⟨g, cap, cur, rfl, hbg, hg, hnc, hcm, hcs, htake⟩
 ·exact ⟨none, 0, by rw [h0], hlm, fun hne => absurd (List.eq_nil_of_length_eq_zero h0) hne⟩
 ·refine ⟨_, _, rfl, hlm, fun _ => ⟨g, 0, rfl, hS g rfl, fun i hi => ?_⟩⟩
  obtain ⟨c0, c1, c2, ⟨e0, e1, e2⟩, ht⟩ := hk i hi
  have hc : ∀ j u, xs[j]? = some u -> w.cell? ⟨g, 0 + j, none⟩ = some u := fun j u hu => by
   have := h.cells (g := g) rfl j u hu
   rwa [Addr.add_lit] at this
  exact ⟨c0, c1, c2, hc _ _ e0, hc _ _ e1, hc _ _ e2, ht⟩
end Go.Proofs.YtmjhcgjhlakceaaGreatDoor

namespace Go.Proofs.YtmjhcgjhlakceaaGreatDoor
open Go.RowKit
structure Near2 (R X : Nat) (w w' : World) : Prop where
 os : w'.os = w.os
 tape : w'.tape = w.tape
 output : w'.output = w.output
 size : w.heap.size <= w'.heap.size
 block : ∀ k, k < w.heap.size -> k ≠ R -> k ≠ X -> w'.heap[k]? = w.heap[k]?
theorem Near2.refl (R X : Nat) (w : World) : Near2 R X w w := ⟨rfl, rfl, rfl, Nat.le_refl _, fun _ _ _ _ => rfl⟩
theorem Near2.near {R X : Nat} {a b c : World} (h : Near2 R X a b) (k : Near R b c) : Near2 R X a c :=
 ⟨k.os.trans h.os, k.tape.trans h.tape, k.output.trans h.output, Nat.le_trans h.size k.size, fun i hi h1 h2 => (k.block i (Nat.lt_of_lt_of_le hi h.size) h1).trans (h.block i hi h1 h2)⟩
theorem Near2.out {R X : Nat} {w a b : World} (h : Near2 R X a b) (k : Near R w a) (hX : w.heap.size <= X) : Near R w b :=
 ⟨h.os.trans k.os, h.tape.trans k.tape, h.output.trans k.output, Nat.le_trans k.size h.size, fun i hi hne => (h.block i (Nat.lt_of_lt_of_le hi k.size) hne (by omega)).trans (k.block i hi hne)⟩
structure GrowK (R X n : Nat) (w wr : World) (so : Int) (ns : List ByteArray) (ks : List (K n)) (nv kv : Value) : Prop where
 near : Near2 R X w wr
 box : wr.heap[X]? = some (.cells #[.int .i64 so, nv, kv] 85 (0, 0))
 names : wr.ownsRow w.heap.size 9 1 nv ns.length (ns.map .string)
 short : ∀ s, s ∈ ns -> s.size <= 10000
 kids : ∃ xs, wr.ownsRow w.heap.size 85 3 kv ks.length xs /\ ∀ j (h : j < ks.length), ∃ c0 c1 c2, (xs[j * 3]? = some c0 /\ xs[j * 3 + 1]? = some c1 /\ xs[j * 3 + 2]? = some c2) /\ KindIn (Fr w.heap.size nv kv wr.heap.size) wr n ks[j] c0 c1 c2
 apart : ∀ b, nv.ownBlock = some b -> kv.ownBlock ≠ some b
theorem GrowK.lt {R X n : Nat} {w wr : World} {so : Int} {ns : List ByteArray} {ks : List (K n)} {nv kv : Value} (h : GrowK R X n w wr so ns ks nv kv) : X < wr.heap.size := (Array.getElem?_eq_some_iff.1 h.box).1
theorem GrowK.keep {R X n : Nat} {w wr W : World} {so : Int} {ns : List ByteArray} {ks : List (K n)} {nv kv : Value} (h : GrowK R X n w wr so ns ks nv kv) (hRX : R ≠ X) (hRw : R < w.heap.size) (hn : Near R wr W) : GrowK R X n w W so ns ks nv kv := by
 have hX := h.lt
 have hs : ∀ b, b ≠ R -> b < wr.heap.size -> W.heap[b]? = wr.heap[b]? := fun b h1 h2 => hn.block b h2 h1
 obtain ⟨xs, hx, hk⟩ := h.kids
 refine ⟨h.near.near hn, by rw [hs X (fun e => hRX e.symm) hX]; exact h.box, r1_keep h.names fun g hg => ?_, h.short, ⟨xs, r1_keep hx fun g hg => ?_, fun j hj => ?_⟩, h.apart⟩
 ·have := r1_lt h.names g hg
  exact hs g (by omega) this.2
 ·have := r1_lt hx g hg
  exact hs g (by omega) this.2
 ·obtain ⟨c0, c1, c2, hc, ht⟩ := hk j hj
  refine ⟨c0, c1, c2, hc, ht.keep (fun b hb => hs b ?_ hb.2.1) (fun b hb => ⟨hb.1, Nat.lt_of_lt_of_le hb.2.1 hn.size, hb.2.2⟩)⟩
  have := hb.1
  omega
theorem GrowK.name {R X n : Nat} {w W Wa W2 : World} {so : Int} {ns : List ByteArray} {ks : List (K n)} {nv kv : Value} {x : ByteArray} {one : Obj} {g cap : Nat} (h : GrowK R X n w W so ns ks nv kv) (hXw : X < w.heap.size)
  (ha : Wa.heap = W.heap.push one) (ho : Wa.os = W.os /\ Wa.tape = W.tape /\ Wa.output = W.output) (hx : x.size <= 10000)
  (hown : W2.ownsRow w.heap.size 9 1 (.slice (some ⟨g, 0, none⟩) (ns.length + 1) cap) (ns.length + 1) (ns.map .string ++ [.string x])) (hgrow : Wa.grownBy W2 nv.ownBlock) (hat : nv.ownBlock = some g ∨ g = W.heap.size + 1) :
  GrowK R X n w (W2.setCell ⟨X, 1, none⟩ (.slice (some ⟨g, 0, none⟩) (ns.length + 1) cap)) so (ns ++ [x]) ks (.slice (some ⟨g, 0, none⟩) (ns.length + 1) cap) kv := by
 have hX := h.lt
 have hz : W2.heap.size ≥ W.heap.size + 1 := by have := hgrow.size; rw [ha] at this; simp at this; omega
 have hnl := r1_lt h.names
 have hgl := r1_lt hown g rfl
 have q : ∀ b, b < W.heap.size -> nv.ownBlock ≠ some b -> W2.heap[b]? = W.heap[b]? := fun b hb hne => by
  rw [hgrow.block b (by rw [ha]; simp; omega) (fun e => hne e.symm), ha, Array.getElem?_push_lt hb, Array.getElem?_eq_getElem hb]
 have qs : ∀ b, b ≠ X -> (W2.setCell ⟨X, 1, none⟩ (.slice (some ⟨g, 0, none⟩) (ns.length + 1) cap)).heap[b]? = W2.heap[b]? := fun b hb => Below.heap_setCell _ _ _ _ hb
 have hsz : (W2.setCell ⟨X, 1, none⟩ (.slice (some ⟨g, 0, none⟩) (ns.length + 1) cap)).heap.size = W2.heap.size := by simp
 have hXn : nv.ownBlock ≠ some X := fun e => by have := hnl X e; omega
 have hbox2 := (q X hX hXn).trans h.box
 obtain ⟨xs, hxs, hk⟩ := h.kids
 have hkl := r1_lt hxs
 refine ⟨⟨?_, ?_, ?_, by rw [hsz]; have := h.near.size; omega, fun b hb hne hneX => ?_⟩, ?_, ?_, ?_, ⟨xs, r1_keep hxs fun g' hg' => ?_, fun j hj => ?_⟩, fun b hb => ?_⟩
 ·show W2.os = w.os
  rw [hgrow.os, ho.1]; exact h.near.os
 ·show W2.tape = w.tape
  rw [hgrow.tape, ho.2.1]; exact h.near.tape
 ·show W2.output = w.output
  rw [hgrow.output, ho.2.2]; exact h.near.output
 ·have hs := h.near.size
  rw [qs b hneX, q b (by omega) (fun e => by have := hnl b e; omega)]
  exact h.near.block b hb hne hneX
 ·simp [World.setCell, Array.getElem?_modify, hbox2]
 ·rw [List.length_append, List.length_singleton, List.map_append, List.map_singleton]
  exact r1_keep hown fun g' hg' => qs g' (by have := r1_lt hown g' hg'; omega)
 ·intro s hs
  rcases List.mem_append.1 hs with hs | hs
  ·exact h.short s hs
  ·rw [List.mem_singleton] at hs; subst hs; exact hx
 ·have := hkl g' hg'
  rw [qs g' (by omega), q g' this.2 (fun e => h.apart g' e hg')]
 ·obtain ⟨c0, c1, c2, hc, ht⟩ := hk j hj
  refine ⟨c0, c1, c2, hc, ht.keep (fun b hb => ?_) (fun b hb => ?_)⟩
  ·rw [qs b (by have := hb.1; omega), q b hb.2.1 hb.2.2.1]
  ·refine ⟨hb.1, by rw [hsz]; have := hb.2.1; omega, ?_, hb.2.2.2⟩
   intro e
   have e : g = b := by simpa [Value.ownBlock] using e
   rcases hat with h1 | h1
   ·exact hb.2.2.1 (by rw [h1, e])
   ·have := hb.2.1; omega
 ·have hb : g = b := by simpa [Value.ownBlock] using hb
  subst hb
  rcases hat with h1 | h1
  ·exact h.apart g h1
  ·intro e; have := hkl g e; omega
theorem GrowK.kid {R X n : Nat} {w W W1 Wa W2 : World} {so : Int} {ns : List ByteArray} {ks : List (K n)} {nv kv : Value} {t : K n} {c0 c1 c2 : Value} {one : Obj} {g cap : Nat} (h0 : GrowK R X n w W so ns ks nv kv) (hRX : R ≠ X) (hXw : X < w.heap.size) (hRw : R < w.heap.size)
  (hn : Near R W W1) (ht : KindIn (fun b => W.heap.size <= b /\ b < W1.heap.size) W1 n t c0 c1 c2)
  (ha : Wa.heap = W1.heap.push one) (ho : Wa.os = W1.os /\ Wa.tape = W1.tape /\ Wa.output = W1.output) {xs : List Value}
  (hxs : W.ownsRow w.heap.size 85 3 kv ks.length xs) (hk : ∀ j (h : j < ks.length), ∃ c0 c1 c2, (xs[j * 3]? = some c0 /\ xs[j * 3 + 1]? = some c1 /\ xs[j * 3 + 2]? = some c2) /\ KindIn (Fr w.heap.size nv kv W.heap.size) W n ks[j] c0 c1 c2)
  (hown : W2.ownsRow w.heap.size 85 3 (.slice (some ⟨g, 0, none⟩) (ks.length + 1) cap) (ks.length + 1) (xs ++ [c0, c1, c2])) (hgrow : Wa.grownBy W2 kv.ownBlock) (hat : kv.ownBlock = some g ∨ g = W1.heap.size + 1) :
  GrowK R X n w (W2.setCell ⟨X, 2, none⟩ (.slice (some ⟨g, 0, none⟩) (ks.length + 1) cap)) so ns (ks ++ [t]) nv (.slice (some ⟨g, 0, none⟩) (ks.length + 1) cap) := by
 have hX := h0.lt
 have hws := h0.near.size
 have hz1 := hn.size
 have hz : W2.heap.size ≥ W1.heap.size + 1 := by have := hgrow.size; rw [ha] at this; simp at this; omega
 have hnl := r1_lt h0.names
 have hkl := r1_lt hxs
 have hgl := r1_lt hown g rfl
 have q1 : ∀ b, b < W1.heap.size -> kv.ownBlock ≠ some b -> W2.heap[b]? = W1.heap[b]? := fun b hb hne => by
  rw [hgrow.block b (by rw [ha]; simp; omega) (fun e => hne e.symm), ha, Array.getElem?_push_lt hb, Array.getElem?_eq_getElem hb]
 have q : ∀ b, b < W.heap.size -> b ≠ R -> kv.ownBlock ≠ some b -> W2.heap[b]? = W.heap[b]? := fun b hb hR hne => by
  rw [q1 b (by omega) hne, hn.block b hb hR]
 have qs : ∀ b, b ≠ X -> (W2.setCell ⟨X, 2, none⟩ (.slice (some ⟨g, 0, none⟩) (ks.length + 1) cap)).heap[b]? = W2.heap[b]? := fun b hb => Below.heap_setCell _ _ _ _ hb
 have hsz : (W2.setCell ⟨X, 2, none⟩ (.slice (some ⟨g, 0, none⟩) (ks.length + 1) cap)).heap.size = W2.heap.size := by simp
 have hXn : kv.ownBlock ≠ some X := fun e => by have := hkl X e; omega
 have hbox2 := (q X hX (by omega) hXn).trans h0.box
 have hxl : xs.length = ks.length * 3 := hxs.1
 refine ⟨⟨?_, ?_, ?_, by rw [hsz]; have := h0.near.size; omega, fun b hb hne hneX => ?_⟩, ?_, r1_keep h0.names fun g' hg' => ?_, h0.short, ⟨xs ++ [c0, c1, c2], ?_, fun j hj => ?_⟩, fun b hb => ?_⟩
 ·show W2.os = w.os
  rw [hgrow.os, ho.1]; exact hn.os.trans h0.near.os
 ·show W2.tape = w.tape
  rw [hgrow.tape, ho.2.1]; exact hn.tape.trans h0.near.tape
 ·show W2.output = w.output
  rw [hgrow.output, ho.2.2]; exact hn.output.trans h0.near.output
 ·have hs := h0.near.size
  rw [qs b hneX, q b (by omega) hne (fun e => by have := hkl b e; omega)]
  exact h0.near.block b hb hne hneX
 ·simp [World.setCell, Array.getElem?_modify, hbox2]
 ·have := hnl g' hg'
  rw [qs g' (by omega), q g' this.2 (by omega) (h0.apart g' hg')]
 ·rw [List.length_append, List.length_singleton]
  exact r1_keep hown fun g' hg' => qs g' (by have := r1_lt hown g' hg'; omega)
 ·have hfar : ∀ b, kv.ownBlock ≠ some b -> b < W1.heap.size -> (Value.slice (some ⟨g, 0, none⟩) (ks.length + 1) cap).ownBlock ≠ some b := by
   intro b h1 h2 e
   have e : g = b := by simpa [Value.ownBlock] using e
   rcases hat with h3 | h3
   ·exact h1 (by rw [h3, e])
   ·omega
  by_cases hjk : j < ks.length
  ·obtain ⟨d0, d1, d2, ⟨e0, e1, e2⟩, hd⟩ := hk j hjk
   have hlift : ∀ o v, o < 3 -> xs[j * 3 + o]? = some v -> (xs ++ [c0, c1, c2])[j * 3 + o]? = some v := fun o v ho h => by
    rw [List.getElem?_append_left (by omega)]; exact h
   refine ⟨d0, d1, d2, ⟨hlift 0 _ (by omega) e0, hlift 1 _ (by omega) e1, hlift 2 _ (by omega) e2⟩, ?_⟩
   rw [List.getElem_append_left hjk]
   refine hd.keep (fun b hb => ?_) (fun b hb => ⟨hb.1, by rw [hsz]; have := hb.2.1; omega, hb.2.2.1, hfar b hb.2.2.2 (by have := hb.2.1; omega)⟩)
   rw [qs b (by have := hb.1; omega), q b hb.2.1 (by have := hb.1; omega) hb.2.2.2]
  ·have hj' : j = ks.length := by simp at hj; omega
   subst hj'
   have hget : ∀ o v, o < 3 -> [c0, c1, c2][o]? = some v -> (xs ++ [c0, c1, c2])[ks.length * 3 + o]? = some v := fun o v ho h => by
    rw [List.getElem?_append_right (by omega), hxl, Nat.add_sub_cancel_left]; exact h
   refine ⟨c0, c1, c2, ⟨hget 0 _ (by omega) rfl, hget 1 _ (by omega) rfl, hget 2 _ (by omega) rfl⟩, ?_⟩
   have : (ks ++ [t])[ks.length] = t := by simp
   rw [this]
   refine ht.keep (fun b hb => ?_) (fun b hb => ⟨by omega, by rw [hsz]; omega, fun e => by have := hnl b e; omega, hfar b (fun e => by have := hkl b e; omega) hb.2⟩)
   rw [qs b (by omega), q1 b hb.2 (fun e => by have := hkl b e; omega)]
 ·intro e
  have e : g = b := by simpa [Value.ownBlock] using e
  subst e
  rcases hat with h1 | h1
  ·exact h0.apart g hb h1
  ·have := hnl g hb; omega
theorem GrowK.start {R X m : Nat} {w : World} {so : Int} (h : w.heap[X]? = some (.cells #[.int .i64 so, .slice none 0 0, .slice none 0 0] 85 (0, 0))) : GrowK R X m w w so [] [] (.slice none 0 0) (.slice none 0 0) :=
 ⟨Near2.refl _ _ _, h, World.ownsRow_nil _ _ _ _, fun _ h => (by cases h), ⟨[], World.ownsRow_nil _ _ _ _, fun j h => absurd h (Nat.not_lt_zero _)⟩, fun b hb => by cases hb⟩
theorem GrowK.kind {R X m B : Nat} {w wr W : World} {so : Int} {ns : List ByteArray} {ks : List (K m)} {nv kv : Value} (h : GrowK R X m w wr so ns ks nv kv) (hwf : (Lit.int .i64 so).wf = true) (hW : ∀ b, w.heap.size <= b -> W.heap[b]? = wr.heap[b]?) (hz : wr.heap.size <= W.heap.size) (hl : ns.length <= 20000) (hk : ks.length <= 20000) (hB : B <= w.heap.size) :
  KindIn (fun b => B <= b /\ b < W.heap.size) W (m + 1) (⟨so, ns, ks⟩ : Kd (K m)) (.int .i64 so) nv kv := by
 obtain ⟨xs, hxs, hkk⟩ := h.kids
 have hnl := r1_lt h.names
 have hkl := r1_lt hxs
 refine ⟨rfl, hwf, ?_, ?_⟩
 ·refine strs_of_ownsK (r1_keep h.names fun g hg => hW g (by have := hnl g hg; omega)) hl h.short fun g hg => ?_
  have := hnl g hg
  exact ⟨by omega, by omega⟩
 ·refine row3_of_owns (r1_keep hxs fun g hg => hW g (by have := hkl g hg; omega)) hk (fun g hg => ?_) fun j hj => ?_
  ·have := hkl g hg
   exact ⟨by omega, by omega⟩
  ·obtain ⟨c0, c1, c2, hd, hdt⟩ := hkk j hj
   refine ⟨c0, c1, c2, hd, hdt.keep (fun b hb => hW b hb.1) (fun b hb => ?_)⟩
   have h1 := hb.1
   have h2 := hb.2.1
   exact ⟨by omega, by omega⟩
theorem owns_onG {R M k z : Nat} {e : TypeId} {v : Value} {xs : List Value} {W w2 : World} (h : W.ownsRow M e z v k xs) (hRM : R < M) (hn : Near R W w2) (o : Obj) : (w2.alloc o).ownsRow M e z v k xs :=
 r1_keep h fun g hg => by
  have h1 := r1_lt h g hg
  have h2 := hn.size
  rw [Below.heap_alloc _ _ _ (by omega)]
  exact hn.block g h1.2 (by omega)
theorem blk_afterG {M k z b : Nat} {e : TypeId} {v : Value} {xs : List Value} {W w2 w3 : World} {o : Obj} (h : W.ownsRow M e z v k xs) (hb : b < w2.heap.size) (hbM : b < M) (hg : (w2.alloc o).grownBy w3 v.ownBlock) : w3.heap[b]? = w2.heap[b]? := by
 rw [hg.block b (by simp; omega) (fun e => by have := r1_lt h b e.symm; omega), Below.heap_alloc _ _ _ hb]
end Go.Proofs.YtmjhcgjhlakceaaGreatDoor
