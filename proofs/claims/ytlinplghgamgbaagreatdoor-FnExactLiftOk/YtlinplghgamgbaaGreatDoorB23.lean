/-
  Several texts in one, in their order.
-/
import Derived.Test.YtlinplghgamgbaaGreatDoorB22
import Derived.Test.YtlinplghgamgbaaGreatDoorB15
import Derived.Test.YtlinplghgamgbaaGreatDoorB16

/-
  The program's writer of nodes: its block and its buffer; a word.
-/
namespace Go.Proofs.YtlinplghgamgbaaGreatDoor
open Go.RowKit

/-- The writer in block wb, its buffer v of bytes l in blocks from B on; below B all is as it was in w0, and so is all that is no row of bytes. -/
structure Wrt (B wb bk : Nat) (w0 w : World) (v : Value) (l : List UInt8) : Prop where
  own : w.ownsRow B 5 1 v l.length (Lib.byteCells l)
  below : Below B w0 w
  le : B ≤ w.heap.size
  kept : Lib.OthersKept 5 (some wb) w0 w
  box : w.heap[wb]? = some (.cells #[.pointer (some ⟨bk, 0, none⟩), v] 79 (0, 0))
  ge : B ≤ wb

theorem Wrt.here {B wb bk : Nat} {w0 w : World} {v : Value} {l : List UInt8} (h : Wrt B wb bk w0 w v l) : Wrt B wb bk w w v l := ⟨h.own, Below.refl _ _, h.le, Lib.OthersKept.refl _ _ _, h.box, h.ge⟩

theorem Wrt.from {B wb bk : Nat} {w0 w1 w : World} {v v0 : Value} {l l0 : List UInt8} (h : Wrt B wb bk w1 w v l) (h0 : Wrt B wb bk w0 w1 v0 l0) : Wrt B wb bk w0 w v l := ⟨h.own, h0.below.trans h.below, h.le, h0.kept.trans h.kept, h.box, h.ge⟩

theorem Wrt.buf {B wb bk : Nat} {w0 w : World} {v : Value} {l : List UInt8} (h : Wrt B wb bk w0 w v l) : Buf B w w v l := ⟨h.own, Below.refl _ _, h.le, Lib.OthersKept.refl _ _ _⟩

theorem kept_more {e : TypeId} {b : Option Nat} {w w' : World} (h : Lib.OthersKept e none w w') : Lib.OthersKept e b w w' := fun k o hk _ ho => h k o hk (by simp) ho

theorem own_other {w : World} {B wb : Nat} {v x : Value} {n : Nat} {xs : List Value} {o : Obj} (h : w.ownsRow B 5 1 v n xs) (hb : w.heap[wb]? = some o) (ho : ∀ c fz, o ≠ .cells c 5 fz) (i : Nat) : (w.setCell ⟨wb, i, none⟩ x).ownsRow B 5 1 v n xs := by
  refine ⟨h.1, ?_⟩
  rcases h.2 with hn | ⟨g, cap, cur, hv, hbg, hg, hr⟩
  · exact .inl hn
  · refine .inr ⟨g, cap, cur, hv, hbg, ?_, hr⟩
    rw [Below.heap_setCell _ _ _ _ (fun e => ?_)]
    · exact hg
    · have e2 : g = wb := e
      subst e2
      rw [hg] at hb
      exact ho _ _ (Option.some.inj hb).symm

/-- The buffer grew, and the writer took it. -/
theorem Wrt.took {B wb bk : Nat} {w0 w w1 : World} {v v1 : Value} {l l1 : List UInt8} (h : Wrt B wb bk w0 w v l) (hb : Buf B w w1 v1 l1) : Wrt B wb bk w0 (w1.setCell ⟨wb, 1, none⟩ v1) v1 l1 := by
  have hbx : w1.heap[wb]? = some (.cells #[.pointer (some ⟨bk, 0, none⟩), v] 79 (0, 0)) := hb.kept wb _ h.box (by simp) (fun c fz e => by cases e)
  exact ⟨own_other hb.own hbx (fun c fz e => by cases e) 1, (h.below.trans hb.below).setCell h.ge _, by have := hb.le; simpa using this, (h.kept.trans (kept_more hb.kept)).setCell _ rfl _, blk_set hbx _, h.ge⟩

theorem Wrt.lt {B wb bk : Nat} {w0 w : World} {v : Value} {l : List UInt8} (h : Wrt B wb bk w0 w v l) : wb < w.heap.size := (Array.getElem?_eq_some_iff.1 h.box).1

theorem Wrt.alloc {B wb bk : Nat} {w0 w : World} {v : Value} {l : List UInt8} (h : Wrt B wb bk w0 w v l) (o : Obj) : Wrt B wb bk w0 (w.alloc o) v l :=
  ⟨h.own.alloc o, h.below.alloc h.le o, by have := h.le; simp; omega, h.kept.alloc o, (Below.heap_alloc _ _ _ h.lt).trans h.box, h.ge⟩

theorem Wrt.drew {B wb bk : Nat} {w0 w : World} {v : Value} {l : List UInt8} (h : Wrt B wb bk w0 w v l) : Wrt B wb bk w0 w.drew v l :=
  ⟨h.own.drew, h.below.drew, h.le, h.kept.drew, h.box, h.ge⟩

/-- Behind a call that made memory alone. -/
theorem Wrt.on {B wb bk : Nat} {w0 w w' : World} {v : Value} {l : List UInt8} (h : Wrt B wb bk w0 w v l) (hb : Below w.heap.size w w') : Wrt B wb bk w0 w' v l := by
  refine ⟨⟨h.own.1, ?_⟩, h.below.trans (hb.mono h.le), Nat.le_trans h.le hb.size, h.kept.trans (fun k o hk _ _ => (hb.block k (Array.getElem?_eq_some_iff.1 hk).1).trans hk), (hb.block wb h.lt).trans h.box, h.ge⟩
  rcases h.own.2 with hn | ⟨g, cap, cur, hv, hbg, hg, hr⟩
  · exact .inl hn
  · exact .inr ⟨g, cap, cur, hv, hbg, (hb.block g (Array.getElem?_eq_some_iff.1 hg).1).trans hg, hr⟩

theorem Wrt.cells {B wb bk : Nat} {w0 w : World} {v : Value} {l : List UInt8} (h : Wrt B wb bk w0 w v l) : w.cell? ⟨wb, 0, none⟩ = some (.pointer (some ⟨bk, 0, none⟩)) ∧ w.cell? ⟨wb, 1, none⟩ = some v ∧ w.frozen? ⟨wb, 1, none⟩ = false := by
  have := h.box
  refine ⟨?_, ?_, ?_⟩ <;> simp [World.cell?, World.frozen?, this]

/-- What is written: so many bytes more. -/
def WPost (B wb bk : Nat) (w : World) (k : Nat) (e : Ending) (w' : World) : Prop := e = .returned (.tuple #[]) ∧ ∃ v' l', Wrt B wb bk w w' v' l' ∧ l'.length = k

set_option maxRecDepth 20000 in
set_option maxHeartbeats 1000000 in
theorem word_any (B wb bk : Nat) (w : World) (v : Value) (l : List UInt8) (s : ByteArray) (h : Wrt B wb bk w w v l) (hl : l.length + 1 + s.size ≤ 900000) :
    Calls Tryz.prog 68 #[.pointer (some ⟨wb, 0, none⟩), .string s] w (WPost B wb bk w (wk l.length s.size)) := by
  obtain ⟨va, vn, vc, rfl⟩ := h.buf.shape
  obtain ⟨-, c1, f1⟩ := h.cells
  have hvn : vn = l.length := by
    rcases h.own.2 with ⟨hv, h0⟩ | ⟨g, cap, cur, hv, -⟩
    · cases hv; exact h0.symm
    · cases hv; rfl
  by_cases h0 : l.length = 0
  · obtain rfl : vn = 0 := by omega
    have HB := hidF h.buf
    have HL : Hid (wk l.length s.size = s.size ∧ l.length = 0) := ⟨by simp [wk, h0], h0⟩
    have hlen : l.length + s.size ≤ 1000000 := by omega
    clear h0 hvn hl
    go_enter Tryz.func68, Tryz.ntmps68
    go_wp2_with (at_builtin; refine wpList_buf_text rfl (.tmp 23) (.tmp 24) 9 rfl Tryz.underlying9 B (.slice va 0 vc) l rfl w HB.out s rfl hlen ?_; intro v1 w1 hb1; obtain ⟨va1, vn1, vc1, rfl⟩ := hb1.shape; refine Hid.out ?_)
    refine Lib.hid ?_
    have hw := h.took hb1
    have hq := hb1.kept wb _ h.box (by simp) (fun c fz e => by cases e)
    have q1 : w1.cell? ⟨wb, 1, none⟩ = some (.slice va 0 vc) := by simp [World.cell?, hq]
    have q2 : w1.frozen? ⟨wb, 1, none⟩ = false := by simp [World.frozen?, hq]
    have HP : Hid (WPost B wb bk w (wk l.length s.size) (.returned (.tuple #[])) (w1.setCell ⟨wb, 1, none⟩ (.slice va1 vn1 vc1))) := ⟨rfl, _, _, hw, by rw [List.length_append, HL.out.1, HL.out.2]; simp⟩
    clear hb1 hw h HB hq
    go_wp2_with fail
    refine bodyPost_end (results_none rfl _ _ _) rfl ?_
    exact HP.out
  · have hv0 : (0 : Int) < (vn : Int) := by omega
    have HB := hidF h.buf
    have HL : Hid (wk l.length s.size = l.length + 1 + s.size) := wk_pos (by omega) _
    have hlen : l.length ≤ 1000000 := by omega
    have hlen2 : (l ++ [32]).length + s.size ≤ 1000000 := by simp; omega
    clear h0 hvn hl
    go_enter Tryz.func68, Tryz.ntmps68
    go_wp2_with (at_builtin; refine wpList_buf_byte rfl (.tmp 14) (.tmp 15) rfl B (.slice va vn vc) l rfl w w 32 32 rfl HB.out rfl hlen ?_; intro v1 w1 hb1; obtain ⟨va1, vn1, vc1, rfl⟩ := hb1.shape; refine Hid.out ?_)
    refine Lib.hid ?_
    have hw := h.took hb1
    have hq := hb1.kept wb _ h.box (by simp) (fun c fz e => by cases e)
    have q1 : w1.cell? ⟨wb, 1, none⟩ = some (.slice va vn vc) := by simp [World.cell?, hq]
    have q2 : w1.frozen? ⟨wb, 1, none⟩ = false := by simp [World.frozen?, hq]
    have HW := hidF hw
    have HB2 := hidF hw.buf
    clear hb1 hw h HB hq
    go_wp2_with (at_builtin; refine wpList_buf_text rfl (.tmp 23) (.tmp 24) 9 rfl Tryz.underlying9 B (.slice va1 vn1 vc1) (l ++ [32]) rfl _ HB2.out s rfl hlen2 ?_; intro v2 w2 hb2; obtain ⟨va2, vn2, vc2, rfl⟩ := hb2.shape; refine Hid.out ?_)
    refine Lib.hid ?_
    have hw2 := HW.out.took hb2
    have hq2 := hb2.kept wb _ HW.out.box (by simp) (fun c fz e => by cases e)
    have q3 : w2.cell? ⟨wb, 1, none⟩ = some (.slice va1 vn1 vc1) := by simp [World.cell?, hq2]
    have q4 : w2.frozen? ⟨wb, 1, none⟩ = false := by simp [World.frozen?, hq2]
    have HP : Hid (WPost B wb bk w (wk l.length s.size) (.returned (.tuple #[])) (w2.setCell ⟨wb, 1, none⟩ (.slice va2 vn2 vc2))) := ⟨rfl, _, _, hw2, by rw [List.length_append, List.length_append, HL.out]; simp⟩
    clear hb2 hw2 HW HB2 hq2 q1 q2
    go_wp2_with fail
    refine bodyPost_end (results_none rfl _ _ _) rfl ?_
    exact HP.out

end Go.Proofs.YtlinplghgamgbaaGreatDoor

/-
  The program's writer of nodes: the fields of a form.
-/
namespace Go.Proofs.YtlinplghgamgbaaGreatDoor
open Go.RowKit

/-- The writer at nodes of at most m levels. -/
def NodeW (m : Nat) : Prop := ∀ (B wb bk : Nat) (w : World) (v : Value) (l : List UInt8) (t : T m) (c0 c1 c2 c3 c4 : Value) (d : Int), Wrt B wb bk w w v l → NodeIn (fun b => b < B) w m t c0 c1 c2 c3 c4 → Book w bk → bk < B → goodN m t d = true →
  wk l.length (lenN m t) ≤ 800000 → Tens B w → Calls Tryz.prog 55 #[.pointer (some ⟨wb, 0, none⟩), .agg #[c0, c1, c2, c3, c4]] w (WPost B wb bk w (wk l.length (lenN m t)))

theorem wk_le (k x : Nat) : k + x ≤ wk k x := by unfold wk; split <;> omega

theorem lenFs_ge {α : Type} (lk : α → Nat) : ∀ (ns : List ByteArray) (ks : List α) (k : Nat), k ≤ lenFs lk ns ks k := by
  intro ns
  induction ns with
  | nil => intro ks k; simp [lenFs]
  | cons a ns ih =>
    intro ks k
    cases ks with
    | nil => simp [lenFs]
    | cons x r =>
      rw [lenFs]
      have h1 := ih r (wk (wk k a.size) (lk x))
      have h2 := wk_le (wk k a.size) (lk x)
      have h3 := wk_le k a.size
      omega

theorem Wrt.same {B wb bk : Nat} {w0 w : World} {v : Value} {l : List UInt8} (h : Wrt B wb bk w0 w v l) : Same (fun b => b < B) w0 w := fun b hb => h.below.block b hb

set_option maxRecDepth 20000 in
set_option maxHeartbeats 1000000 in
theorem fields_any (m : Nat) (hn : NodeW m) (B wb bk : Nat) (w : World) (v : Value) (l : List UInt8) (n : Nd (T m)) (na ka : Option Addr) (nc kc : Nat) (d : Int) (h : Wrt B wb bk w w v l)
    (h3 : StrsIn (fun b => b < B) w n.names (.slice na n.names.length nc)) (h4 : RowIn (fun b => b < B) w (NodeIn (fun b => b < B) w m) n.kids (.slice ka n.kids.length kc)) (hle : n.names.length = n.kids.length) (hbk : Book w bk) (hbB : bk < B)
    (hg : n.kids.all (fun x => goodN m x d) = true) (hl : lenFs (lenN m) n.names n.kids l.length ≤ 800000) (hT : Tens B w) :
    Calls Tryz.prog 71 #[.pointer (some ⟨wb, 0, none⟩), .agg #[.int .i64 n.sort, .int .i64 n.num, .string n.text, .slice na n.names.length nc, .slice ka n.kids.length kc]] w (WPost B wb bk w (wk (lenFs (lenN m) n.names n.kids l.length) 3)) := by
  obtain ⟨W, hW⟩ : ∃ W, W = w.alloc (.cells #[.int .i64 n.sort, .int .i64 n.num, .string n.text, .slice na n.names.length nc, .slice ka n.kids.length kc] 30) := ⟨_, rfl⟩
  have hWw : Wrt B wb bk w W v l := by rw [hW]; exact h.alloc _
  have hbox : W.heap[w.heap.size]? = some (.cells #[.int .i64 n.sort, .int .i64 n.num, .string n.text, .slice na n.names.length nc, .slice ka n.kids.length kc] 30 (0, 0)) := by rw [hW]; exact heap_alloc_last _ _
  have hwlt := h.lt
  have hs0 := hWw.same
  obtain ⟨_, _, hv, hl3, hs3, hc3⟩ := h3.keep hs0 (fun _ h => h)
  cases hv
  obtain ⟨_, _, hv, hl4, hc4⟩ := h4.keepN hs0 (fun _ h => h)
  cases hv
  have hbk1 : Book W bk := hbk.keep (hWw.below.block bk hbB)
  have hT1 : Tens B W := hT.on hWw.below
  have HG : Hid (∀ k (h : k < n.kids.length), goodN m n.kids[k] d = true) := fun k h => List.all_eq_true.1 hg _ (List.getElem_mem h)
  have HL : Hid (lenFs (lenN m) n.names n.kids l.length ≤ 800000) := hl
  have HW0 := hidF hWw
  have hle1 : n.names.length ≤ n.kids.length := by omega
  have hle2 : n.kids.length ≤ n.names.length := by omega
  have HWW := hidF hW
  unfold maxLen at hl3 hl4
  clear hg hl h3 h4 hle hbk hT h hs0 hWw hW
  obtain ⟨q0, q1, q2, q3, q4⟩ := five_of hbox
  rw [HWW.out] at q0 q1 q2 q3 q4
  go_enter Tryz.func71, Tryz.ntmps71
  go_wp2_with fail
  rw [← HWW.out]
  clear q0 q1 q2 q3 q4
  go_loopw [9] (fun i wr => ∃ (k : Nat) (v' : Value) (l' : List UInt8), k ≤ n.names.length ∧ i = .int .i64 k ∧ Wrt B wb bk W wr v' l' ∧ Hid (lenFs (lenN m) (n.names.drop k) (n.kids.drop k) l'.length = lenFs (lenN m) n.names n.kids l.length)) (fun i _ => n.names.length - (intOf i).toNat)
  case atStart => exact ⟨0, v, l, Nat.zero_le _, rfl, HW0.out.here, by rw [List.drop_zero, List.drop_zero]; exact rfl⟩
  case round =>
    obtain ⟨k, v', l', hk, rfl, hwr, HE⟩ := hrel
    have hbr := (hwr.kept w.heap.size _ hbox (by simp; omega) (fun c fz e => by cases e))
    obtain ⟨z0, z1, z2, z3, z4⟩ := five_of hbr
    by_cases hlt : k < n.names.length
    · obtain ⟨b, off, rfl, hSb, hcell⟩ := hc3 (by intro h; rw [h] at hlt; simp at hlt)
      have e0 := (hwr.below.cell (p := ⟨b, off + k, none⟩) hSb).trans (hcell k hlt)
      have hkk : k < n.kids.length := by omega
      obtain ⟨b2, off2, rfl, hSb2, hcell2⟩ := hc4 (by intro h; have := List.length_eq_zero_iff.2 h; omega)
      obtain ⟨d0, d1, d2, d3, d4, k0, k1, k2, k3, k4, hin⟩ := hcell2 k hkk
      obtain ⟨x0, x1, x2, xa, xl, xc, ya, yl, yc, rfl, rfl, rfl, rfl, rfl⟩ := hin.shape
      have HS : Hid (lenFs (lenN m) (n.names.drop (k + 1)) (n.kids.drop (k + 1)) (wk (wk l'.length n.names[k].size) (lenN m n.kids[k])) = lenFs (lenN m) n.names n.kids l.length) := by
        have := HE.out
        rw [List.drop_eq_getElem_cons hlt, List.drop_eq_getElem_cons hkk, lenFs] at this
        exact this
      have hge := lenFs_ge (lenN m) (n.names.drop (k + 1)) (n.kids.drop (k + 1)) (wk (wk l'.length n.names[k].size) (lenN m n.kids[k]))
      rw [HS.out] at hge
      have hL := HL.out
      have g1 := wk_le (wk l'.length n.names[k].size) (lenN m n.kids[k])
      have g2 := wk_le l'.length n.names[k].size
      have HC1 : Hid (Calls Tryz.prog 68 _ wr _) := word_any B wb bk wr v' l' n.names[k] hwr.here (by omega)
      have HC2 : Hid (∀ w2 v2 l2, Wrt B wb bk wr w2 v2 l2 → l2.length = wk l'.length n.names[k].size → Calls Tryz.prog 55 #[.pointer (some ⟨wb, 0, none⟩), .agg #[.int .i64 x0, .int .i64 x1, .string x2, .slice xa xl xc, .slice ya yl yc]] w2 (WPost B wb bk w2 (wk (wk l'.length n.names[k].size) (lenN m n.kids[k])))) := by
        intro w2 v2 l2 hw2 hl2
        have hww := hw2.from hwr
        have := hn B wb bk w2 v2 l2 n.kids[k] _ _ _ _ _ d hw2.here (hin.keep hww.same (fun _ h => h)) (hbk1.keep (hww.below.block bk hbB)) hbB (HG.out k hkk) (by rw [hl2]; omega) (hT1.on hww.below)
        rw [hl2] at this
        exact this
      have HK : Hid (∀ w2 v2 l2, Wrt B wb bk wr w2 v2 l2 → (w2.cell? ⟨w.heap.size, 4, none⟩ = some (.slice (some ⟨b2, off2, none⟩) n.kids.length kc) ∧ w2.cell? ⟨b2, off2 + k * 5, none⟩ = some (.int .i64 x0) ∧ w2.cell? ⟨b2, off2 + k * 5 + 1, none⟩ = some (.int .i64 x1) ∧ w2.cell? ⟨b2, off2 + k * 5 + 2, none⟩ = some (.string x2) ∧ w2.cell? ⟨b2, off2 + k * 5 + 3, none⟩ = some (.slice xa xl xc) ∧ w2.cell? ⟨b2, off2 + k * 5 + 4, none⟩ = some (.slice ya yl yc))) := by
        intro w2 v2 l2 hw2
        have hww := hw2.from hwr
        have hb2 := five_of (hww.kept w.heap.size _ hbox (by simp; omega) (fun c fz e => by cases e))
        exact ⟨hb2.2.2.2.2, (hww.below.cell (p := ⟨b2, off2 + k * 5, none⟩) hSb2).trans k0, (hww.below.cell (p := ⟨b2, off2 + k * 5 + 1, none⟩) hSb2).trans k1, (hww.below.cell (p := ⟨b2, off2 + k * 5 + 2, none⟩) hSb2).trans k2, (hww.below.cell (p := ⟨b2, off2 + k * 5 + 3, none⟩) hSb2).trans k3, (hww.below.cell (p := ⟨b2, off2 + k * 5 + 4, none⟩) hSb2).trans k4⟩
      have HWr := hidF hwr
      clear hc3 hc4 hcell hcell2 hin hbr hge g1 g2 hL hwr k0 k1 k2 k3 k4 HE
      have hki : (k : Int) < (n.kids.length : Int) := by omega
      generalize n.names[k] = nm at *
      go_wp2_with fail
      refine HC1.out.mono ?_
      rintro e w2 ⟨rfl, v2, l2, hw2, hl2⟩
      have HCn := hidF (HC2.out w2 v2 l2 hw2 hl2)
      obtain ⟨y4, k0, k1, k2, k3, k4⟩ := HK.out w2 v2 l2 hw2
      have HW2 := hidF hw2
      clear hw2 HC1 HC2 HK z0 z1 z2 z3 z4 e0
      go_wp2_with fail
      refine HCn.out.mono ?_
      rintro e w3 ⟨rfl, v3, l3, hw3, hl3'⟩
      have HW3 := hidF ((hw3.from HW2.out).from HWr.out)
      have HS3 : Hid (lenFs (lenN m) (n.names.drop (k + 1)) (n.kids.drop (k + 1)) l3.length = lenFs (lenN m) n.names n.kids l.length) := by show _ = _; rw [hl3']; exact HS.out
      clear hw3 HCn y4 k0 k1 k2 k3 k4 HW2 HWr HS hl3' hl2
      go_wp2_with fail
      go_roundw
      case rel => exact ⟨k + 1, v3, l3, by omega, by go_num, HW3.out, HS3⟩
      case measure => simp [intOf]; omega
    · have hkl : k = n.names.length := by omega
      have hlen : l'.length = lenFs (lenN m) n.names n.kids l.length := by
        have := HE.out
        rw [hkl, List.drop_length] at this
        simpa [lenFs] using this
      have HC1 : Hid (Calls Tryz.prog 68 _ wr _) := word_any B wb bk wr v' l' ⟨#[101, 110, 100]⟩ hwr.here (by rw [hlen]; have := HL.out; show _ + 3 ≤ _; omega)
      have HWr := hidF (hwr.from HW0.out)
      have HLn := hidF hlen
      clear hc3 hc4 hbr hwr hkl hlen HE z0 z1 z2 z3 z4
      go_wp2_with fail
      refine HC1.out.mono ?_
      rintro e w2 ⟨rfl, v2, l2, hw2, hl2⟩
      have HP : Hid (WPost B wb bk w (wk (lenFs (lenN m) n.names n.kids l.length) 3) (.returned (.tuple #[])) w2) := ⟨rfl, v2, l2, hw2.from HWr.out, by rw [hl2, HLn.out]; rfl⟩
      clear hw2 hl2 HC1
      go_wp2_with fail
      refine bodyPost_end (results_none rfl _ _ _) rfl ?_
      exact HP.out

end Go.Proofs.YtlinplghgamgbaaGreatDoor
