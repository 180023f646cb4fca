import Derived.Test.YtmjhcgjhlakceaaGreatDoorB26
import Derived.Test.YtmjhcgjhlakceaaGreatDoorDF1
import Derived.Test.YtmjhcgjhlakceaaGreatDoorB24
import Derived.Deep.RegionLaw
import Derived.Deep.Cut
import Derived.Deep.CutRange
import Derived.Lib.Hide
import Derived.WalkSmall
import Derived.LoopTactic
namespace Go.Proofs.YtmjhcgjhlakceaaGreatDoor
open Go.RowKit
structure SpB (S : Nat -> Prop) (w : World) (R : Nat) (ao : Option Addr) (L cap : Nat) (b0 b1 b2 b3 b4 : Value) (p : Nat) (u : World) : Prop where
 near : Near R w u
 sz : w.heap.size + 2 <= u.heap.size
 box : u.heap[w.heap.size]? = some (.cells #[b0, b1, b2, b3, b4] 27 (0, 0))
 zero : u.heap[w.heap.size + 1]? = some (.cells #[.int .i64 0, .int .i64 0, .string ⟨#[]⟩, .slice none 0 0, .slice none 0 0] 27 (0, 0))
 same : Same S w u
 dr : Dr u R ao L cap p
theorem SpB.next {S : Nat -> Prop} {w : World} {R : Nat} {ao : Option Addr} {L cap : Nat} {b0 b1 b2 b3 b4 : Value} {p p' : Nat} {u u' : World} (h : SpB S w R ao L cap b0 b1 b2 b3 b4 p u) (h0 : Dr w R ao L cap p') (hS : ∀ b, S b -> b < w.heap.size /\ b ≠ R) (ho : u'.os = u.os /\ u'.tape = u.tape /\ u'.output = u.output) (hz : u.heap.size <= u'.heap.size)
  (hb : ∀ b, b < u.heap.size -> b ≠ R -> u'.heap[b]? = u.heap[b]?) {q : Nat} (hd : u'.heap[R]? = some (.cells #[.slice ao L cap, .int .i64 (q : Int)] 79 (0, 0))) : SpB S w R ao L cap b0 b1 b2 b3 b4 q u' := by
 have hR := h0.lt
 have h2 := h.sz
 have hn : Near R w u' := ⟨ho.1.trans h.near.os, ho.2.1.trans h.near.tape, ho.2.2.trans h.near.output, by omega, fun b h1 hne => (hb b (by omega) hne).trans (h.near.block b h1 hne)⟩
 exact ⟨hn, by omega, (hb _ (by omega) (by omega)).trans h.box, (hb _ (by omega) (by omega)).trans h.zero, fun b hb' => (hb b (by have := (hS b hb').1; omega) (hS b hb').2).trans (h.same b hb'), h0.keep hn hd⟩
theorem SpB.keep {S : Nat -> Prop} {w : World} {R : Nat} {ao : Option Addr} {L cap : Nat} {b0 b1 b2 b3 b4 : Value} {p p' q : Nat} {u u' : World} (h : SpB S w R ao L cap b0 b1 b2 b3 b4 p u) (h0 : Dr w R ao L cap p') (hS : ∀ b, S b -> b < w.heap.size /\ b ≠ R) (hn : Near R u u') (hd : Dr u' R ao L cap q) : SpB S w R ao L cap b0 b1 b2 b3 b4 q u' :=
 h.next h0 hS ⟨hn.os, hn.tape, hn.output⟩ hn.size hn.block hd.box
theorem SpB.set3 {S : Nat -> Prop} {w : World} {R : Nat} {ao : Option Addr} {L cap : Nat} {b0 b1 b2 b3 b4 : Value} {p p' : Nat} {u : World} (h : SpB S w R ao L cap b0 b1 b2 b3 b4 p u) (h0 : Dr w R ao L cap p') (hS : ∀ b, S b -> b < w.heap.size /\ b ≠ R) (x : Value) : SpB S w R ao L cap b0 b1 b2 x b4 p (u.setCell ⟨w.heap.size, 3, none⟩ x) := by
 have hR := h0.lt
 have q : ∀ b, b ≠ w.heap.size -> (u.setCell ⟨w.heap.size, 3, none⟩ x).heap[b]? = u.heap[b]? := fun b hb => Below.heap_setCell _ _ _ _ hb
 have hn : Near R w (u.setCell ⟨w.heap.size, 3, none⟩ x) := ⟨h.near.os, h.near.tape, h.near.output, by simpa using h.near.size, fun b h1 hne => (q b (by omega)).trans (h.near.block b h1 hne)⟩
 exact ⟨hn, by simpa using h.sz, by simp [World.setCell, Array.getElem?_modify, h.box], (q _ (by omega)).trans h.zero, fun b hb' => (q b (by have := (hS b hb').1; omega)).trans (h.same b hb'), h0.keep hn ((q R (by omega)).trans h.dr.box)⟩
theorem set_below (W : World) (X o : Nat) (x : Value) : Below X W (W.setCell ⟨X, o, none⟩ x) := by
 refine (Below.refl X W).setCell ?_ x
 exact Nat.le_refl X
def numT (m : Nat) : T (m + 1) := (⟨1, 0, ByteArray.empty, [], []⟩ : Nd (T m))
theorem numT_in (S : Nat -> Prop) (w : World) (m : Nat) : TreeIn S w (m + 1) (numT m) (.int .i64 1) (.int .i64 0) (.string ⟨#[]⟩) (.slice none 0 0) (.slice none 0 0) := leafDT_in S w m 1 0 ByteArray.empty (by rfl) (by rfl) (by simp)
set_option maxRecDepth 20000 in
set_option maxHeartbeats 16000000 in
theorem spoilT_step (d : Nat) (hn : SpoilTSaid d) : SpoilTSaid (d + 1) := by
 intro m R ao L cap p S t c0 c1 c2 c3 c4 w hm hdt ht hS h hp
 obtain ⟨m, rfl⟩ : ∃ m', m = m' + 1 := ⟨m - 1, by omega⟩
 obtain ⟨-, hnl, hns, hkl, hdks⟩ := hdt
 obtain ⟨rfl, rfl, rfl, htx, hwf, hwn, h3, h4⟩ := ht
 obtain ⟨na, nc, rfl, -⟩ := id h3
 obtain ⟨ka, kc, rfl, -, -⟩ := id h4
 generalize hs : Nd.sort t = s at *
 generalize hs1 : Nd.num t = nu at *
 generalize hs2 : Nd.text t = tx at *
 clear hs hs1 hs2
 have hR := h.lt
 have HD0 : Hid (Dr w R ao L cap p) := h
 have HNm := hidF h3
 have HKd := hidF h4
 have HNs := hidF hns
 have HDk : Hid (∀ x, x ∈ Nd.kids t -> depT m x d) := fun x hx => by simpa using hdks x hx
 have HN : Hid (SpoilTSaid d) := hn
 have HSS := hidF hS
 have HSL : Hid (∀ b, S b -> b < w.heap.size) := fun b hb => (hS b hb).1
 obtain ⟨W2, hW2⟩ : ∃ W2, W2 = (w.alloc (.cells #[.int .i64 s, .int .i64 nu, .string tx, .slice na (Nd.names t).length nc, .slice ka (Nd.kids t).length kc] 27)).alloc (.cells #[.int .i64 0, .int .i64 0, .string ⟨#[]⟩, .slice none 0 0, .slice none 0 0] 27) := ⟨_, rfl⟩
 have hz2 : W2.heap.size = w.heap.size + 2 := by rw [hW2]; simp
 have hb2 : Below w.heap.size w W2 := by rw [hW2]; exact ((Below.refl _ _).alloc (Nat.le_refl _) _).alloc (by simp) _
 have hboxX : W2.heap[w.heap.size]? = some (.cells #[.int .i64 s, .int .i64 nu, .string tx, .slice na (Nd.names t).length nc, .slice ka (Nd.kids t).length kc] 27 (0, 0)) := by rw [hW2, Below.heap_alloc _ _ _ (by simp)]; exact heap_alloc_new _ _
 have hzero : W2.heap[w.heap.size + 1]? = some (.cells #[.int .i64 0, .int .i64 0, .string ⟨#[]⟩, .slice none 0 0, .slice none 0 0] 27 (0, 0)) := by
  have := heap_alloc_new (w.alloc (.cells #[.int .i64 s, .int .i64 nu, .string tx, .slice na (Nd.names t).length nc, .slice ka (Nd.kids t).length kc] 27)) (.cells #[.int .i64 0, .int .i64 0, .string ⟨#[]⟩, .slice none 0 0, .slice none 0 0] 27)
  rw [hW2]; simpa using this
 have HB2 : Hid (SpB S w R ao L cap (.int .i64 s) (.int .i64 nu) (.string tx) (.slice na (Nd.names t).length nc) (.slice ka (Nd.kids t).length kc) p W2) :=
  ⟨Near.of_below hb2, by omega, hboxX, hzero, fun b hb => hb2.block b (hS b hb).1, h.same hb2⟩
 have x4 : W2.cell? ⟨w.heap.size, 4, none⟩ = some (.slice ka (Nd.kids t).length kc) := by simp [World.cell?, hboxX]
 clear h h3 h4 hns hdks hn hb2 hboxX hzero hS
 generalize hkl0 : (Nd.kids t).length = kl at *
 generalize hnl0 : (Nd.names t).length = nl at *
 have HLn : Hid ((Nd.kids t).length = kl /\ (Nd.names t).length = nl) := ⟨hkl0, hnl0⟩
 clear hkl0 hnl0
 rw [hW2] at x4
 rcases Nat.eq_zero_or_pos kl with hk0 | hk0
 case' inl =>
  subst hk0
  obtain ⟨p1, hp1, HU⟩ : ∃ p1, p1 <= p + 1 /\ Hid (SpB S w R ao L cap (.int .i64 s) (.int .i64 nu) (.string tx) (.slice na nl nc) (.slice ka 0 kc) p1 W2) := ⟨p, by omega, HB2⟩
  go_enter Tryz.func90, Tryz.ntmps90
  go_wp2_with fail
  rw [<- hW2]
  obtain ⟨u, rfl⟩ : ∃ u, u = W2 := ⟨_, rfl⟩
  clear hW2 x4 HB2
  obtain ⟨kl, hkz⟩ : ∃ kl : Nat, kl = 0 := ⟨0, rfl⟩
  have HU : Hid (SpB S w R ao L cap (.int .i64 s) (.int .i64 nu) (.string tx) (.slice na nl nc) (.slice ka kl kc) p1 u) := by rw [hkz]; exact HU
  have HKd : Hid (RowIn S w (TreeIn S w m) (Nd.kids t) (.slice ka kl kc)) := by rw [hkz]; exact HKd
  have HLn : Hid ((Nd.kids t).length = kl /\ (Nd.names t).length = nl) := by rw [hkz]; exact HLn
  have hkl : kl <= 1000 := by omega
  clear hkz hz2
 case' inr =>
  have hd0 : (0 : Int) < (kl : Int) := by omega
  have HPk : Hid (Calls Tryz.prog 17 #[.pointer (some ⟨R, 0, none⟩), .int .i64 3] W2 (PickPost W2 R ao L cap p 3)) := pick_any W2 R ao L cap p 3 HB2.out.dr (by omega) (by omega) (by omega)
  go_enter Tryz.func90, Tryz.ntmps90
  go_wp2_with fail
  rw [<- hW2]
  refine HPk.out.mono ?_
  rintro e u ⟨y, rfl, hy, hnu, hDu, -⟩
  have HU : Hid (SpB S w R ao L cap (.int .i64 s) (.int .i64 nu) (.string tx) (.slice na nl nc) (.slice ka kl kc) (p + 1) u) := HB2.out.keep HD0.out HSS.out hnu hDu
  clear HPk hW2 x4 HB2 hnu hDu hz2
  by_cases hy0 : y = 0
  case neg =>
   have hy1 : (0 : Int) < (y : Int) := by omega
   have hzu := HU.out.sz
   obtain ⟨⟨y0, y1, y2, y3, y4⟩, -⟩ := five_cells HU.out.box
   have yE : (u.alloc (.cells #[] 27)).cell? ⟨w.heap.size, 4, none⟩ = some (.slice ka kl kc) := (World.cell?_of_block (Below.heap_alloc _ _ _ (by show w.heap.size < _; omega))).trans y4
   obtain ⟨xs, hxl, hx1, hxn, hxk⟩ := kids_newsT HLn.out.1 HKd.out
   have HXN : Hid (xs.length = kl * 5 /\ (∀ u ∈ xs, u.oneCell' = true) /\ (0 < kl -> ∃ ad, ka = some ad /\ ∀ j x, xs[j]? = some x -> (u.alloc (.cells #[] 27)).cell? (ad.add j) = some x)) :=
    ⟨hxl, hx1, hxn _ (fun b hb => (Below.heap_alloc _ _ _ (by have := HSL.out b hb; omega)).trans (HU.out.same b hb))⟩
   have HXK := hidF hxk
   obtain ⟨ik0, hi0, hz0, hz1, hzb⟩ := info_parts Tryz.info_treeR
   have HIK : Hid (_ /\ _ /\ _ /\ _) := ⟨hi0, hz0, hz1, hzb⟩
   clear hxl hx1 hxn hxk hi0 hz0 hz1 hzb y0 y1 y2 y3
   go_wp2_with (at_builtin; refine wpList_copy _ rfl (.tmp 17) (.tmp 19) 25 rfl u.heap.size 27 ik0 _ 5 80 Tryz.underlying25 HIK.out.1 HIK.out.2.1 HIK.out.2.2.1 HIK.out.2.2.2 rfl (by decide) u.heap.size rfl (heap_alloc_new u _) (Nat.le_refl _) ka kl kc xs rfl HXN.out.1 HXN.out.2.2 HXN.out.2.1 (by unfold maxLen; omega) (by omega) (u.heap.size + 1) (by simp) ?_)
   intro g1 cap1 w6 hown1 hgrow1 hat1 hlt1
   have hz6 := hgrow1.size
   rw [World.size_alloc] at hz6
   have hG1 : ∀ b, b < u.heap.size -> w6.heap[b]? = u.heap[b]? := fun b hb => (hgrow1.block b (by simp; omega) (by simp; omega)).trans (Below.heap_alloc _ _ _ hb)
   have hQ6 := HU.out.next (u' := w6) HD0.out HSS.out ⟨hgrow1.os, hgrow1.tape, hgrow1.output⟩ (by omega) (fun b hb _ => hG1 b hb) ((hG1 R (by omega)).trans HU.out.dr.box)
   have HPk : Hid (Calls Tryz.prog 17 #[.pointer (some ⟨R, 0, none⟩), .int .i64 (kl : Int)] w6 (PickPost w6 R ao L cap (p + 1) kl)) := pick_any w6 R ao L cap (p + 1) kl hQ6.dr (by omega) (by omega) (by omega)
   have HO1 := hidF hown1
   have HQ6 := hidF hQ6
   have hg1 : u.heap.size <= g1 := by omega
   clear hown1 hgrow1 hG1 hQ6 yE y4 HXN hat1
   go_wp2_with fail
   refine HPk.out.mono ?_
   rintro e w7 ⟨i, rfl, hi, hn7, hD7, -⟩
   have hz7 := hn7.size
   have hO7 : w7.ownsRow u.heap.size 27 5 (.slice (some ⟨g1, 0, none⟩) kl cap1) kl xs := owns_keep HO1.out fun g hg => by
    have := owns_lt HO1.out g hg
    exact hn7.block g (by omega) (by omega)
   have hik : i < (Nd.kids t).length := by rw [HLn.out.1]; exact hi
   obtain ⟨d0, d1, d2, d3, d4, ⟨e0, e1, e2, e3, e4⟩, hkd⟩ := HXK.out i hik
   obtain ⟨v0, v1, v2, va, vl, vc, ua, ul, uc, rfl, rfl, rfl, rfl, rfl⟩ := hkd.shape
   have hc7 : ∀ j x, xs[j]? = some x -> w7.cell? ⟨g1, j, none⟩ = some x := fun j x hx => by
    have := hO7.cells (g := g1) rfl j x hx
    rw [Addr.add_lit] at this
    simpa using this
   have z0 := hc7 _ _ e0
   have z1 := hc7 _ _ e1
   have z2 := hc7 _ _ e2
   have z3 := hc7 _ _ e3
   have z4 := hc7 _ _ e4
   have HQ7 : Hid (SpB S w R ao L cap (.int .i64 s) (.int .i64 nu) (.string tx) (.slice na nl nc) (.slice ka kl kc) (p + 1 + 1) w7) := HQ6.out.keep HD0.out HSS.out hn7 hD7
   have HO7 := hidF hO7
   have HC : Hid (Calls Tryz.prog 90 #[.pointer (some ⟨R, 0, none⟩), .agg #[.int .i64 v0, .int .i64 v1, .string v2, .slice va vl vc, .slice ua ul uc]] w7 (SpoilPostT m S w7 R ao L cap (p + 1 + 1) (10 * d))) :=
    HN.out m R ao L cap (p + 1 + 1) S ((Nd.kids t)[i]'hik) _ _ _ _ _ w7 (by omega) (HDk.out _ (List.getElem_mem hik)) (hkd.keep HQ7.out.same (fun _ h => h)) (fun b hb => ⟨by have := (HSS.out b hb).1; have := HQ7.out.sz; omega, (HSS.out b hb).2⟩) hD7 (by omega)
   have hii : (i : Int) < (kl : Int) := by omega
   clear HPk hn7 hD7 hO7 HO1 hc7 hkd HQ6
   go_wp2_with fail
   refine HC.out.mono ?_
   rintro e w8 ⟨hn8, p8, t8, f0, f1, f2, f3, f4, hp8, hD8, rfl, hk8⟩
   obtain ⟨n0, n1, n2, ya, yl, yc, za, zl, zc, rfl, rfl, rfl, rfl, rfl⟩ := hk8.shape
   have hz8 := hn8.size
   have hO8 : w8.ownsRow u.heap.size 27 5 (.slice (some ⟨g1, 0, none⟩) kl cap1) kl xs := owns_keep HO7.out fun g hg => by
    have := owns_lt HO7.out g hg
    exact hn8.block g (by omega) (by omega)
   have hc8 : ∀ j x, xs[j]? = some x -> w8.cell? ⟨g1, j, none⟩ = some x := fun j x hx => by
    have := hO8.cells (g := g1) rfl j x hx
    rw [Addr.add_lit] at this
    simpa using this
   have t0 := hc8 _ _ e0
   have t1 := hc8 _ _ e1
   have t2 := hc8 _ _ e2
   have t3 := hc8 _ _ e3
   have t4 := hc8 _ _ e4
   have hfr : ∀ o, w8.frozen? ⟨g1, o, none⟩ = false := fun o => by
    rcases hO8.2 with ⟨hv, -⟩ | ⟨g, cap, cur, hv, -, hgc, -⟩
    ·cases hv
    ·cases hv; simp [World.frozen?, hgc]
   have tf0 := hfr (i * 5)
   have tf1 := hfr (i * 5 + 1)
   have tf2 := hfr (i * 5 + 2)
   have tf3 := hfr (i * 5 + 3)
   have tf4 := hfr (i * 5 + 4)
   have hQ8 := HQ7.out.keep HD0.out HSS.out hn8 hD8
   have hsz7 := HQ7.out.sz
   obtain ⟨⟨y0, y1, y2, y3, y4⟩, -, -, -, -, yf⟩ := five_cells hQ8.box
   obtain ⟨⟨r0, r1, r2, r3, r4⟩, g0', g1', g2', g3', g4'⟩ := five_cells hQ8.zero
   have HP : Hid (SpoilPostT (m + 1) S w R ao L cap p (10 * (d + 1)) (.returned (.agg #[.int .i64 s, .int .i64 nu, .string tx, .slice na nl nc, .slice (some ⟨g1, 0, none⟩) kl cap1])) (put5 ((put5 w8 g1 (i * 5) (.int .i64 n0) (.int .i64 n1) (.string n2) (.slice ya yl yc) (.slice za zl zc)).setCell ⟨w.heap.size, 4, none⟩ (.slice (some ⟨g1, 0, none⟩) kl cap1)) (w.heap.size + 1) 0 (.int .i64 s) (.int .i64 nu) (.string tx) (.slice na nl nc) (.slice (some ⟨g1, 0, none⟩) kl cap1))) := by
    have hg7 := (owns_lt HO7.out g1 rfl).2
    have qq : ∀ b, b ≠ g1 -> (put5 w8 g1 (i * 5) (.int .i64 n0) (.int .i64 n1) (.string n2) (.slice ya yl yc) (.slice za zl zc)).heap[b]? = w8.heap[b]? := fun b hb => put5_other hb
    have hzp : (put5 w8 g1 (i * 5) (.int .i64 n0) (.int .i64 n1) (.string n2) (.slice ya yl yc) (.slice za zl zc)).heap.size = w8.heap.size := put5_size
    have hbp : Below w.heap.size w8 (put5 w8 g1 (i * 5) (.int .i64 n0) (.int .i64 n1) (.string n2) (.slice ya yl yc) (.slice za zl zc)) := put5_below (Below.refl _ _) (by omega)
    have hnw := hQ8.near
    refine spt_exit (m := m + 1) (t := (⟨s, nu, tx, Nd.names t, (Nd.kids t).set i t8⟩ : Nd (T m))) HD0.out HSL.out (W := put5 w8 g1 (i * 5) (.int .i64 n0) (.int .i64 n1) (.string n2) (.slice ya yl yc) (.slice za zl zc)) ⟨by rw [hbp.os]; exact hnw.os, by rw [hbp.tape]; exact hnw.tape, by rw [hbp.output]; exact hnw.output, by rw [hzp]; exact hnw.size, fun b hb hne => (qq b (by omega)).trans (hnw.block b hb hne)⟩ ((qq R (by omega)).trans hD8.box) (by omega) ⟨rfl, rfl, rfl, htx, hwf, hwn, ?_, ?_⟩ (set_below _ _ _ _) (fun b hb => Below.heap_setCell _ _ _ _ hb) (by simp)
    ·exact HNm.out.keep (fun b hb => (qq b (by have := HSL.out b hb; omega)).trans (hQ8.same b hb)) (fun b hb => Or.inl hb)
    ·exact kids_putT HLn.out.1 HXK.out hQ8.same (fun hb => by have := HSL.out _ hb; omega) (fun b hb => Or.inl hb) hk8 (fun hb => hb.elim (fun h => by have := HSL.out _ h; omega) (fun h => by omega)) (fun b hb => hb.imp id (fun h => ⟨by omega, by rw [hzp]; exact h.2⟩)) hO8 hkl (.inr ⟨by omega, by rw [hzp]; omega⟩) hi
   clear hQ8 hO8 hc8 hfr HQ7 HO7 HXK HIK HC hk8 hD8 hn8 HU z0 z1 z2 z3 z4
   go_wp2_with fail
   refine bodyPost_ret (v := .agg #[.int .i64 s, .int .i64 nu, .string tx, .slice na nl nc, .slice (some ⟨g1, 0, none⟩) kl cap1]) (by simp [results, Tryz.results90, go_sem, r0, r1, r2, r3, r4]) rfl ?_
   exact HP.out
  case' pos =>
   subst hy0
   obtain ⟨p1, hp1, HU⟩ : ∃ p1, p1 <= p + 1 /\ Hid (SpB S w R ao L cap (.int .i64 s) (.int .i64 nu) (.string tx) (.slice na nl nc) (.slice ka kl kc) p1 u) := ⟨p + 1, by omega, HU⟩
   go_wp2_with fail
   clear hd0 hy hk0
 all_goals
  have HPk : Hid (Calls Tryz.prog 17 #[.pointer (some ⟨R, 0, none⟩), .int .i64 8] u (PickPost u R ao L cap p1 8)) := pick_any u R ao L cap p1 8 HU.out.dr (by omega) (by omega) (by omega)
  refine HPk.out.mono ?_
  rintro e w5 ⟨v, rfl, hv, hn5, hD5, -⟩
  have HQ : Hid (SpB S w R ao L cap (.int .i64 s) (.int .i64 nu) (.string tx) (.slice na nl nc) (.slice ka kl kc) (p1 + 1) w5) := HU.out.keep HD0.out HSS.out hn5 hD5
  have hz5 := HQ.out.sz
  clear HPk hn5 hD5 HU
  have hcase : v = 0 ∨ v = 1 ∨ v = 2 ∨ v = 3 ∨ v = 4 ∨ v = 5 ∨ v = 6 ∨ v = 7 := by omega
  clear hv
  rcases hcase with rfl | rfl | rfl | rfl | rfl | rfl | rfl | rfl
  ·have HPk : Hid (Calls Tryz.prog 17 #[.pointer (some ⟨R, 0, none⟩), .int .i64 8] w5 (PickPost w5 R ao L cap (p1 + 1) 8)) := pick_any w5 R ao L cap (p1 + 1) 8 HQ.out.dr (by omega) (by omega) (by omega)
   go_wp2_with fail
   refine HPk.out.mono ?_
   rintro e w6 ⟨z, rfl, hz, hn6, hD6, -⟩
   have hQ := HQ.out.keep HD0.out HSS.out hn6 hD6
   obtain ⟨⟨y0, y1, y2, y3, y4⟩, e0, e1, e2, e3, e4⟩ := five_cells hQ.box
   obtain ⟨⟨r0, r1, r2, r3, r4⟩, f0, f1, f2, f3, f4⟩ := five_cells hQ.zero
   have HP : Hid (SpoilPostT (m + 1) S w R ao L cap p (10 * (d + 1)) (.returned (.agg #[.int .i64 (z : Int), .int .i64 nu, .string tx, .slice na nl nc, .slice ka kl kc])) (put5 (w6.setCell ⟨w.heap.size, 0, none⟩ (.int .i64 (z : Int))) (w.heap.size + 1) 0 (.int .i64 (z : Int)) (.int .i64 nu) (.string tx) (.slice na nl nc) (.slice ka kl kc))) :=
    spt_exit (m := m + 1) (t := (⟨(z : Int), nu, tx, Nd.names t, Nd.kids t⟩ : Nd (T m))) HD0.out HSL.out hQ.near hQ.dr.box (by omega) ⟨rfl, rfl, rfl, htx, wf_small z (by omega), hwn, (HNm.out.keep hQ.same (fun b hb => Or.inl hb)), (HKd.out.keepT hQ.same (fun b hb => Or.inl hb))⟩ (set_below _ _ _ _) (fun b hb => Below.heap_setCell _ _ _ _ hb) (by simp)
   clear HPk hn6 hD6 hQ HQ
   go_wp2_with fail
   refine bodyPost_ret (v := .agg #[.int .i64 (z : Int), .int .i64 nu, .string tx, .slice na nl nc, .slice ka kl kc]) (by simp [results, Tryz.results90, go_sem, r0, r1, r2, r3, r4]) rfl ?_
   exact HP.out
  ·obtain ⟨W6, hW6⟩ : ∃ W6, W6 = w5.alloc (.cells #[.int .i64 1, .int .i64 2, .int .i64 (-1), .int .i64 1000000000, .int .i64 (-1000000000)] 3) := ⟨_, rfl⟩
   have hb6 : Below w5.heap.size w5 W6 := by rw [hW6]; exact (Below.refl _ _).alloc (Nat.le_refl _) _
   have hz6 : W6.heap.size = w5.heap.size + 1 := by rw [hW6]; simp
   have hi6 : W6.heap[w5.heap.size]? = some (.cells #[.int .i64 1, .int .i64 2, .int .i64 (-1), .int .i64 1000000000, .int .i64 (-1000000000)] 3 (0, 0)) := by rw [hW6]; exact heap_alloc_new _ _
   have hQ6 := HQ.out.keep HD0.out HSS.out (Near.of_below hb6) (HQ.out.dr.same hb6)
   have HPk : Hid (Calls Tryz.prog 17 #[.pointer (some ⟨R, 0, none⟩), .int .i64 5] W6 (PickPost W6 R ao L cap (p1 + 1) 5)) := pick_any W6 R ao L cap (p1 + 1) 5 hQ6.dr (by omega) (by omega) (by omega)
   have HQ6 : Hid (SpB S w R ao L cap (.int .i64 s) (.int .i64 nu) (.string tx) (.slice na nl nc) (.slice ka kl kc) (p1 + 1) W6 /\ W6.heap[w5.heap.size]? = some (.cells #[.int .i64 1, .int .i64 2, .int .i64 (-1), .int .i64 1000000000, .int .i64 (-1000000000)] 3 (0, 0))) := ⟨hQ6, hi6⟩
   clear hb6 hi6 hQ6
   go_wp2_with fail
   rw [<- hW6]
   clear hW6
   refine HPk.out.mono ?_
   rintro e w7 ⟨z, rfl, hz, hn7, hD7, -⟩
   have hQ := HQ6.out.1.keep HD0.out HSS.out hn7 hD7
   have hI := (hn7.block w5.heap.size (by omega) (by omega)).trans HQ6.out.2
   obtain ⟨x, hx, hxw⟩ : ∃ x : Int, w7.cell? ⟨w5.heap.size, z, none⟩ = some (.int .i64 x) /\ (Lit.int .i64 x).wf = true := by
    have hz' : z = 0 ∨ z = 1 ∨ z = 2 ∨ z = 3 ∨ z = 4 := by omega
    rcases hz' with rfl | rfl | rfl | rfl | rfl
    ·exact ⟨1, by simp [World.cell?, hI], by rfl⟩
    ·exact ⟨2, by simp [World.cell?, hI], by rfl⟩
    ·exact ⟨-1, by simp [World.cell?, hI], by rfl⟩
    ·exact ⟨1000000000, by simp [World.cell?, hI], by rfl⟩
    ·exact ⟨-1000000000, by simp [World.cell?, hI], by rfl⟩
   have hzi : (z : Int) < 5 := by omega
   obtain ⟨⟨y0, y1, y2, y3, y4⟩, e0, e1, e2, e3, e4⟩ := five_cells hQ.box
   obtain ⟨⟨r0, r1, r2, r3, r4⟩, f0, f1, f2, f3, f4⟩ := five_cells hQ.zero
   have HP : Hid (SpoilPostT (m + 1) S w R ao L cap p (10 * (d + 1)) (.returned (.agg #[.int .i64 s, .int .i64 x, .string tx, .slice na nl nc, .slice ka kl kc])) (put5 (w7.setCell ⟨w.heap.size, 1, none⟩ (.int .i64 x)) (w.heap.size + 1) 0 (.int .i64 s) (.int .i64 x) (.string tx) (.slice na nl nc) (.slice ka kl kc))) :=
    spt_exit (m := m + 1) (t := (⟨s, x, tx, Nd.names t, Nd.kids t⟩ : Nd (T m))) HD0.out HSL.out hQ.near hQ.dr.box (by omega) ⟨rfl, rfl, rfl, htx, hwf, hxw, (HNm.out.keep hQ.same (fun b hb => Or.inl hb)), (HKd.out.keepT hQ.same (fun b hb => Or.inl hb))⟩ (set_below _ _ _ _) (fun b hb => Below.heap_setCell _ _ _ _ hb) (by simp)
   clear HPk hn7 hD7 hQ HQ HQ6 hI
   go_wp2_with fail
   refine bodyPost_ret (v := .agg #[.int .i64 s, .int .i64 x, .string tx, .slice na nl nc, .slice ka kl kc]) (by simp [results, Tryz.results90, go_sem, r0, r1, r2, r3, r4]) rfl ?_
   exact HP.out
  ·have HM : Hid (Calls Tryz.prog 120 #[.string ⟨#[120]⟩, .int .i64 61] w5 _) := l6Many_any ⟨#[120]⟩ 61 w5 (by decide) (by omega)
   go_wp2_with fail
   refine HM.out.mono ?_
   rintro e w6 ⟨sx, rfl, hsx, rfl⟩
   obtain ⟨W7, hW7⟩ : ∃ W7, W7 = w6.alloc (.cells #[.string ⟨#[120]⟩, .string ⟨#[34]⟩, .string ⟨#[10]⟩, .string sx, .string ⟨#[127]⟩] 9) := ⟨_, rfl⟩
   have hb7 : Below w6.heap.size w6 W7 := by rw [hW7]; exact (Below.refl _ _).alloc (Nat.le_refl _) _
   have hnew : W7.heap[w6.heap.size]? = some (.cells #[.string ⟨#[120]⟩, .string ⟨#[34]⟩, .string ⟨#[10]⟩, .string sx, .string ⟨#[127]⟩] 9 (0, 0)) := by rw [hW7]; exact heap_alloc_new _ _
   have hQ7 := HQ.out.keep HD0.out HSS.out (Near.of_below hb7) (HQ.out.dr.same hb7)
   have HOf : Hid (Calls Tryz.prog 30 #[.pointer (some ⟨R, 0, none⟩), .slice (some ⟨w6.heap.size, 0, none⟩) 5 5] W7 fun e w' => ∃ x : ByteArray, e = .returned (.string x) /\ x.size <= 10000 /\ Near R W7 w' /\ Dr w' R ao L cap (p1 + 1 + 1)) := by
    refine of_any W7 R ao L cap (p1 + 1) hQ7.dr (by omega) w6.heap.size 0 5 5 (by omega) (by omega) (by omega) fun j hj => ?_
    have hj3 : j = 0 ∨ j = 1 ∨ j = 2 ∨ j = 3 ∨ j = 4 := by omega
    rcases hj3 with rfl | rfl | rfl | rfl | rfl
    ·exact ⟨⟨#[120]⟩, by decide, by simp [World.cell?, hnew]⟩
    ·exact ⟨⟨#[34]⟩, by decide, by simp [World.cell?, hnew]⟩
    ·exact ⟨⟨#[10]⟩, by decide, by simp [World.cell?, hnew]⟩
    ·exact ⟨sx, hsx, by simp [World.cell?, hnew]⟩
    ·exact ⟨⟨#[127]⟩, by decide, by simp [World.cell?, hnew]⟩
   have HQ7 := hidF hQ7
   clear HM hb7 hnew hQ7
   go_wp2_with fail
   rw [<- hW7]
   clear hW7
   refine HOf.out.mono ?_
   rintro e w8 ⟨x, rfl, hxs, hn8, hD8⟩
   have hQ := HQ7.out.keep HD0.out HSS.out hn8 hD8
   obtain ⟨⟨y0, y1, y2, y3, y4⟩, e0, e1, e2, e3, e4⟩ := five_cells hQ.box
   obtain ⟨⟨r0, r1, r2, r3, r4⟩, f0, f1, f2, f3, f4⟩ := five_cells hQ.zero
   have HP : Hid (SpoilPostT (m + 1) S w R ao L cap p (10 * (d + 1)) (.returned (.agg #[.int .i64 s, .int .i64 nu, .string x, .slice na nl nc, .slice ka kl kc])) (put5 (w8.setCell ⟨w.heap.size, 2, none⟩ (.string x)) (w.heap.size + 1) 0 (.int .i64 s) (.int .i64 nu) (.string x) (.slice na nl nc) (.slice ka kl kc))) :=
    spt_exit (m := m + 1) (t := (⟨s, nu, x, Nd.names t, Nd.kids t⟩ : Nd (T m))) HD0.out HSL.out hQ.near hQ.dr.box (by omega) ⟨rfl, rfl, rfl, by unfold maxLen; show x.size <= _; omega, hwf, hwn, (HNm.out.keep hQ.same (fun b hb => Or.inl hb)), (HKd.out.keepT hQ.same (fun b hb => Or.inl hb))⟩ (set_below _ _ _ _) (fun b hb => Below.heap_setCell _ _ _ _ hb) (by simp)
   clear HOf hn8 hD8 hQ HQ HQ7
   go_wp2_with fail
   refine bodyPost_ret (v := .agg #[.int .i64 s, .int .i64 nu, .string x, .slice na nl nc, .slice ka kl kc]) (by simp [results, Tryz.results90, go_sem, r0, r1, r2, r3, r4]) rfl ?_
   exact HP.out
  ·have yE : (w5.alloc (.cells #[] 9)).cell? ⟨w.heap.size, 3, none⟩ = some (.slice na nl nc) := (World.cell?_of_block (Below.heap_alloc _ _ _ (by show w.heap.size < _; omega))).trans (five_cells HQ.out.box).1.2.2.2.1
   have HXN : Hid (_ /\ _ /\ _) := strs_news (w' := w5.alloc (.cells #[] 9)) HLn.out.2 HNm.out (fun b hb => (Below.heap_alloc _ _ _ (by have := HSL.out b hb; omega)).trans (HQ.out.same b hb))
   obtain ⟨is0, hi0, hy0, hy1, hyb⟩ := info_parts Tryz.info_strD
   have HIS : Hid (_ /\ _ /\ _ /\ _) := ⟨hi0, hy0, hy1, hyb⟩
   clear hi0 hy0 hy1 hyb
   go_wp2_with (at_builtin; refine wpList_copy _ rfl (.tmp 63) (.tmp 65) 24 rfl w5.heap.size 9 is0 _ 1 16 Tryz.underlying24 HIS.out.1 HIS.out.2.1 HIS.out.2.2.1 HIS.out.2.2.2 rfl (by decide) w5.heap.size rfl (heap_alloc_new w5 _) (Nat.le_refl _) na nl nc ((Nd.names t).map .string) rfl HXN.out.1 HXN.out.2.2 HXN.out.2.1 (by unfold maxLen; omega) (by omega) (w5.heap.size + 1) (by simp) ?_)
   intro g1 cap1 w6 hown1 hgrow1 hat1 hlt1
   have hz6 := hgrow1.size
   rw [World.size_alloc] at hz6
   have hG1 : ∀ b, b < w5.heap.size -> w6.heap[b]? = w5.heap[b]? := fun b hb => (hgrow1.block b (by simp; omega) (by simp; omega)).trans (Below.heap_alloc _ _ _ hb)
   have hQ6 := HQ.out.next (u' := w6) HD0.out HSS.out ⟨hgrow1.os, hgrow1.tape, hgrow1.output⟩ (by omega) (fun b hb _ => hG1 b hb) ((hG1 R (by omega)).trans HQ.out.dr.box)
   have HO1 := hidF hown1
   have HQ6 := hidF hQ6
   have HOf : Hid (∀ (cs : Array Value), cs.size = 5 -> cs.toList.all okLit = true -> Calls Tryz.prog 30 #[.pointer (some ⟨R, 0, none⟩), .slice (some ⟨w6.heap.size, 0, none⟩) 5 5] (w6.alloc (.cells cs 9)) _) := fun cs h1 h2 => of_lit w6 R ao L cap (p1 + 1) HQ6.out.dr (by omega) cs 5 h1 (by omega) (by omega) h2
   have hg1 : w5.heap.size <= g1 := by omega
   clear hown1 hgrow1 hG1 hQ6 yE HXN hat1
   go_wp2_with fail
   refine (HOf.out _ rfl rfl).mono ?_
   rintro e w8 ⟨x, rfl, hxs, hn8, hD8⟩
   have hz8 := hn8.size
   have HO8 : Hid (w8.ownsRow w5.heap.size 9 1 (.slice (some ⟨g1, 0, none⟩) nl cap1) nl ((Nd.names t).map .string)) := owns_keep HO1.out fun g hg => by
    have := owns_lt HO1.out g hg
    exact hn8.block g (by omega) (by omega)
   have HQ8 : Hid (SpB S w R ao L cap (.int .i64 s) (.int .i64 nu) (.string tx) (.slice na nl nc) (.slice ka kl kc) (p1 + 1 + 1) w8) := HQ6.out.keep HD0.out HSS.out hn8 hD8
   clear HOf HO1 HQ6 hn8 hD8
   go_wp2_with (at_builtin; refine wpList_append_lies _ rfl (.tmp 66) (.tmp 70) 24 rfl w5.heap.size 9 is0 _ 1 16 Tryz.underlying24 HIS.out.1 HIS.out.2.1 HIS.out.2.2.1 HIS.out.2.2.2 rfl (by decide) (.slice (some ⟨g1, 0, none⟩) nl cap1) nl ((Nd.names t).map .string) rfl (HO8.out.alloc _) ⟨w8.heap.size, 0, none⟩ 1 1 [.string x] rfl rfl (World.news_of_block (heap_alloc_new w8 _)) (by simp [Value.oneCell']) (by decide) (by unfold maxLen; omega) (by omega) (by simp; omega) (w8.heap.size + 1) (by simp) ?_)
   intro g2 cap2 w9 hown2 hgrow2 hat2 hlt2
   have hz9 := hgrow2.size
   rw [World.size_alloc] at hz9
   have hg2 : w5.heap.size <= g2 := by
    simp only [Value.ownBlock, Option.some.injEq] at hat2
    omega
   have hG9 : ∀ b, b < w8.heap.size -> b ≠ g1 -> w9.heap[b]? = w8.heap[b]? := fun b hb hne => (hgrow2.block b (by simp; omega) (by simp [Value.ownBlock]; omega)).trans (Below.heap_alloc _ _ _ hb)
   have hsz8 := HQ8.out.sz
   have hQ9 : SpB S w R ao L cap (.int .i64 s) (.int .i64 nu) (.string tx) (.slice na nl nc) (.slice ka kl kc) (p1 + 1 + 1) w9 := by
    have hn8 := HQ8.out.near
    have hlow : ∀ b, b < w.heap.size + 2 -> w9.heap[b]? = w8.heap[b]? := fun b hb => hG9 b (by omega) (by omega)
    have hn9 : Near R w w9 := ⟨hgrow2.os.trans hn8.os, hgrow2.tape.trans hn8.tape, hgrow2.output.trans hn8.output, by omega, fun b h1 hne => (hlow b (by omega)).trans (hn8.block b h1 hne)⟩
    exact ⟨hn9, by omega, (hlow _ (by omega)).trans HQ8.out.box, (hlow _ (by omega)).trans HQ8.out.zero, fun b hb => (hlow b (by have := HSL.out b hb; omega)).trans (HQ8.out.same b hb), HD0.out.keep hn9 ((hlow R (by omega)).trans HQ8.out.dr.box)⟩
   have hN9 : ∀ S8 : Nat -> Prop, (∀ b, w5.heap.size <= b -> b < w9.heap.size -> S8 b) -> StrsIn S8 w9 (Nd.names t ++ [x]) (.slice (some ⟨g2, 0, none⟩) (nl + 1) cap2) := fun S8 h8 => by
    refine strs_of_owns (M := w5.heap.size) (e := 9) (by simpa [HLn.out.2] using hown2) (by simp [HLn.out.2]; omega) (fun y hy => ?_) (fun g hg => ?_)
    ·rcases List.mem_append.1 hy with hy | hy
     ·exact HNs.out y hy
     ·rw [List.mem_singleton] at hy; subst hy; exact hxs
    ·have hg : g2 = g := by simpa [Value.ownBlock] using hg
     exact h8 g (by omega) (by omega)
   obtain ⟨⟨y0, y1, y2, y3, y4⟩, e0, e1, e2, e3, e4⟩ := five_cells hQ9.box
   obtain ⟨⟨r0, r1, r2, r3, r4⟩, f0, f1, f2, f3, f4⟩ := five_cells hQ9.zero
   have HP : Hid (SpoilPostT (m + 1) S w R ao L cap p (10 * (d + 1)) (.returned (.agg #[.int .i64 s, .int .i64 nu, .string tx, .slice (some ⟨g2, 0, none⟩) (nl + 1) cap2, .slice ka kl kc])) (put5 (w9.setCell ⟨w.heap.size, 3, none⟩ (.slice (some ⟨g2, 0, none⟩) (nl + 1) cap2)) (w.heap.size + 1) 0 (.int .i64 s) (.int .i64 nu) (.string tx) (.slice (some ⟨g2, 0, none⟩) (nl + 1) cap2) (.slice ka kl kc))) :=
    spt_exit (m := m + 1) (t := (⟨s, nu, tx, Nd.names t ++ [x], Nd.kids t⟩ : Nd (T m))) HD0.out HSL.out hQ9.near hQ9.dr.box (by omega) ⟨rfl, rfl, rfl, htx, hwf, hwn, hN9 _ (fun b h1 h2 => Or.inr ⟨by omega, h2⟩), (HKd.out.keepT hQ9.same (fun b hb => Or.inl hb))⟩ (set_below _ _ _ _) (fun b hb => Below.heap_setCell _ _ _ _ hb) (by simp)
   clear hown2 hgrow2 hat2 HO8 HQ8 HIS hQ9 hN9 hG9 HQ
   go_wp2_with fail
   refine bodyPost_ret (v := .agg #[.int .i64 s, .int .i64 nu, .string tx, .slice (some ⟨g2, 0, none⟩) (nl + 1) cap2, .slice ka kl kc]) (by simp [results, Tryz.results90, go_sem, r0, r1, r2, r3, r4]) rfl ?_
   exact HP.out
  ·obtain ⟨m2, rfl⟩ : ∃ m2, m = m2 + 1 := ⟨m - 1, by omega⟩
   have yK : (w5.alloc (.cells #[] 27)).cell? ⟨w.heap.size, 4, none⟩ = some (.slice ka kl kc) := (World.cell?_of_block (Below.heap_alloc _ _ _ (by show w.heap.size < _; omega))).trans (five_cells HQ.out.box).1.2.2.2.2
   obtain ⟨xs, hxl, hx1, hxn, hxk⟩ := kids_newsT HLn.out.1 HKd.out
   have HXK : Hid ((xs.length = kl * 5 /\ (∀ u ∈ xs, u.oneCell' = true) /\ (0 < kl -> ∃ ad, ka = some ad /\ ∀ j u, xs[j]? = some u -> (w5.alloc (.cells #[] 27)).cell? (ad.add j) = some u)) /\ (∀ j (h : j < (Nd.kids t).length), ∃ c0 c1 c2 c3 c4, (xs[j * 5]? = some c0 /\ xs[j * 5 + 1]? = some c1 /\ xs[j * 5 + 2]? = some c2 /\ xs[j * 5 + 3]? = some c3 /\ xs[j * 5 + 4]? = some c4) /\ TreeIn S w (m2 + 1) (Nd.kids t)[j] c0 c1 c2 c3 c4)) :=
    ⟨⟨hxl, hx1, hxn _ (fun b hb => (Below.heap_alloc _ _ _ (by have := HSL.out b hb; omega)).trans (HQ.out.same b hb))⟩, hxk⟩
   obtain ⟨ik0, hi0, hy0, hy1, hyb⟩ := info_parts Tryz.info_treeR
   have HIK : Hid (_ /\ _ /\ _ /\ _) := ⟨hi0, hy0, hy1, hyb⟩
   clear hxl hx1 hxn hxk hi0 hy0 hy1 hyb
   go_wp2_with (at_builtin; refine wpList_copy _ rfl (.tmp 75) (.tmp 77) 25 rfl w5.heap.size 27 ik0 _ 5 80 Tryz.underlying25 HIK.out.1 HIK.out.2.1 HIK.out.2.2.1 HIK.out.2.2.2 rfl (by decide) w5.heap.size rfl (heap_alloc_new w5 _) (Nat.le_refl _) ka kl kc xs rfl HXK.out.1.1 HXK.out.1.2.2 HXK.out.1.2.1 (by unfold maxLen; omega) (by omega) (w5.heap.size + 1) (by simp) ?_)
   intro k1 kap1 v6 kown1 kgrow1 kat1 klt1
   have kz6 := kgrow1.size
   rw [World.size_alloc] at kz6
   have KO1 := hidF kown1
   have KG1 : Hid ((v6.os = w5.os /\ v6.tape = w5.tape /\ v6.output = w5.output) /\ ∀ b, b < w5.heap.size -> v6.heap[b]? = w5.heap[b]?) := ⟨⟨kgrow1.os, kgrow1.tape, kgrow1.output⟩, fun b hb => (kgrow1.block b (by simp; omega) (by simp; omega)).trans (Below.heap_alloc _ _ _ hb)⟩
   have kg1 : w5.heap.size <= k1 := by omega
   clear kown1 kgrow1 yK kat1
   go_wp2_with (at_builtin; refine wpList_append_lies _ rfl (.tmp 78) (.tmp 80) 25 rfl w5.heap.size 27 ik0 _ 5 80 Tryz.underlying25 HIK.out.1 HIK.out.2.1 HIK.out.2.2.1 HIK.out.2.2.2 rfl (by decide) (.slice (some ⟨k1, 0, none⟩) kl kap1) kl xs rfl (KO1.out.alloc _) ⟨v6.heap.size, 0, none⟩ 1 1 [.int .i64 1, .int .i64 0, .string ⟨#[]⟩, .slice none 0 0, .slice none 0 0] rfl rfl (World.news_of_block (heap_alloc_new v6 _)) (by simp [Value.oneCell']) (by decide) (by unfold maxLen; omega) (by omega) (by simp; omega) (v6.heap.size + 1) (by simp) ?_)
   intro k2 kap2 v8 kown2 kgrow2 kat2 klt2
   have kz8 := kgrow2.size
   rw [World.size_alloc] at kz8
   have kfar : ∀ b, b < w5.heap.size -> v8.heap[b]? = w5.heap[b]? := fun b hb => ((kgrow2.block b (by simp; omega) (by simp [Value.ownBlock]; omega)).trans (Below.heap_alloc _ _ _ (by omega))).trans (KG1.out.2 b hb)
   have hQK := HQ.out.next (u' := v8) HD0.out HSS.out ⟨kgrow2.os.trans KG1.out.1.1, kgrow2.tape.trans KG1.out.1.2.1, kgrow2.output.trans KG1.out.1.2.2⟩ (by omega) (fun b hb _ => kfar b hb) ((kfar R (by omega)).trans HQ.out.dr.box)
   have hK8 : ∀ S8 : Nat -> Prop, (∀ b, S b -> S8 b) -> (∀ b, w5.heap.size <= b -> b < v8.heap.size -> S8 b) -> RowIn S8 v8 (TreeIn S8 v8 (m2 + 1)) (Nd.kids t ++ [numT m2]) (.slice (some ⟨k2, 0, none⟩) (kl + 1) kap2) := fun S8 h8 h9 =>
    kids_moreT (t := numT m2) HLn.out.1 HXK.out.1.1 HXK.out.2 hQK.same h8 (numT_in _ _ m2) kown2 hkl (fun g hg => by
     have hg : k2 = g := by simpa [Value.ownBlock] using hg
     simp only [Value.ownBlock, Option.some.injEq] at kat2
     exact h9 g (by omega) (by omega))
   obtain ⟨⟨y0, y1, y2, y3, y4⟩, e0, e1, e2, e3, e4⟩ := five_cells hQK.box
   obtain ⟨⟨r0, r1, r2, r3, r4⟩, f0, f1, f2, f3, f4⟩ := five_cells hQK.zero
   have HP : Hid (SpoilPostT (m2 + 1 + 1) S w R ao L cap p (10 * (d + 1)) (.returned (.agg #[.int .i64 s, .int .i64 nu, .string tx, .slice na nl nc, .slice (some ⟨k2, 0, none⟩) (kl + 1) kap2])) (put5 (v8.setCell ⟨w.heap.size, 4, none⟩ (.slice (some ⟨k2, 0, none⟩) (kl + 1) kap2)) (w.heap.size + 1) 0 (.int .i64 s) (.int .i64 nu) (.string tx) (.slice na nl nc) (.slice (some ⟨k2, 0, none⟩) (kl + 1) kap2))) :=
    spt_exit (m := m2 + 1 + 1) (t := (⟨s, nu, tx, Nd.names t, Nd.kids t ++ [numT m2]⟩ : Nd (T (m2 + 1)))) HD0.out HSL.out hQK.near hQK.dr.box (by omega) ⟨rfl, rfl, rfl, htx, hwf, hwn, (HNm.out.keep hQK.same (fun b hb => Or.inl hb)), hK8 _ (fun b hb => Or.inl hb) (fun b h1 h2 => Or.inr ⟨by omega, h2⟩)⟩ (set_below _ _ _ _) (fun b hb => Below.heap_setCell _ _ _ _ hb) (by simp)
   clear kown2 kgrow2 kat2 KO1 KG1 HIK HXK hQK hK8 kfar HQ
   go_wp2_with fail
   refine bodyPost_ret (v := .agg #[.int .i64 s, .int .i64 nu, .string tx, .slice na nl nc, .slice (some ⟨k2, 0, none⟩) (kl + 1) kap2]) (by simp [results, Tryz.results90, go_sem, r0, r1, r2, r3, r4]) rfl ?_
   exact HP.out
  ·have yE : (w5.alloc (.cells #[] 9)).cell? ⟨w.heap.size, 3, none⟩ = some (.slice na nl nc) := (World.cell?_of_block (Below.heap_alloc _ _ _ (by show w.heap.size < _; omega))).trans (five_cells HQ.out.box).1.2.2.2.1
   have HXN : Hid (_ /\ _ /\ _) := strs_news (w' := w5.alloc (.cells #[] 9)) HLn.out.2 HNm.out (fun b hb => (Below.heap_alloc _ _ _ (by have := HSL.out b hb; omega)).trans (HQ.out.same b hb))
   obtain ⟨is0, hi0, hy0, hy1, hyb⟩ := info_parts Tryz.info_strD
   have HIS : Hid (_ /\ _ /\ _ /\ _) := ⟨hi0, hy0, hy1, hyb⟩
   clear hi0 hy0 hy1 hyb
   go_wp2_with (at_builtin; refine wpList_copy _ rfl (.tmp 85) (.tmp 87) 24 rfl w5.heap.size 9 is0 _ 1 16 Tryz.underlying24 HIS.out.1 HIS.out.2.1 HIS.out.2.2.1 HIS.out.2.2.2 rfl (by decide) w5.heap.size rfl (heap_alloc_new w5 _) (Nat.le_refl _) na nl nc ((Nd.names t).map .string) rfl HXN.out.1 HXN.out.2.2 HXN.out.2.1 (by unfold maxLen; omega) (by omega) (w5.heap.size + 1) (by simp) ?_)
   intro g1 cap1 w6 hown1 hgrow1 hat1 hlt1
   have hz6 := hgrow1.size
   rw [World.size_alloc] at hz6
   have hG1 : ∀ b, b < w5.heap.size -> w6.heap[b]? = w5.heap[b]? := fun b hb => (hgrow1.block b (by simp; omega) (by simp; omega)).trans (Below.heap_alloc _ _ _ hb)
   have hQ6 := HQ.out.next (u' := w6) HD0.out HSS.out ⟨hgrow1.os, hgrow1.tape, hgrow1.output⟩ (by omega) (fun b hb _ => hG1 b hb) ((hG1 R (by omega)).trans HQ.out.dr.box)
   have HO1 := hidF hown1
   have HQ6 := hidF hQ6
   have HOf : Hid (∀ (cs : Array Value), cs.size = 3 -> cs.toList.all okLit = true -> Calls Tryz.prog 30 #[.pointer (some ⟨R, 0, none⟩), .slice (some ⟨w6.heap.size, 0, none⟩) 3 3] (w6.alloc (.cells cs 9)) _) := fun cs h1 h2 => of_lit w6 R ao L cap (p1 + 1) HQ6.out.dr (by omega) cs 3 h1 (by omega) (by omega) h2
   have hg1 : w5.heap.size <= g1 := by omega
   clear hown1 hgrow1 hG1 hQ6 yE HXN hat1
   go_wp2_with fail
   refine (HOf.out _ rfl rfl).mono ?_
   rintro e w8 ⟨x, rfl, hxs, hn8, hD8⟩
   have hz8 := hn8.size
   have HO8 : Hid (w8.ownsRow w5.heap.size 9 1 (.slice (some ⟨g1, 0, none⟩) nl cap1) nl ((Nd.names t).map .string)) := owns_keep HO1.out fun g hg => by
    have := owns_lt HO1.out g hg
    exact hn8.block g (by omega) (by omega)
   have HQ8 : Hid (SpB S w R ao L cap (.int .i64 s) (.int .i64 nu) (.string tx) (.slice na nl nc) (.slice ka kl kc) (p1 + 1 + 1) w8) := HQ6.out.keep HD0.out HSS.out hn8 hD8
   clear HOf HO1 HQ6 hn8 hD8
   go_wp2_with (at_builtin; refine wpList_append_lies _ rfl (.tmp 88) (.tmp 92) 24 rfl w5.heap.size 9 is0 _ 1 16 Tryz.underlying24 HIS.out.1 HIS.out.2.1 HIS.out.2.2.1 HIS.out.2.2.2 rfl (by decide) (.slice (some ⟨g1, 0, none⟩) nl cap1) nl ((Nd.names t).map .string) rfl (HO8.out.alloc _) ⟨w8.heap.size, 0, none⟩ 1 1 [.string x] rfl rfl (World.news_of_block (heap_alloc_new w8 _)) (by simp [Value.oneCell']) (by decide) (by unfold maxLen; omega) (by omega) (by simp; omega) (w8.heap.size + 1) (by simp) ?_)
   intro g2 cap2 w9 hown2 hgrow2 hat2 hlt2
   have hz9 := hgrow2.size
   rw [World.size_alloc] at hz9
   have hg2 : w5.heap.size <= g2 := by
    simp only [Value.ownBlock, Option.some.injEq] at hat2
    omega
   have hG9 : ∀ b, b < w8.heap.size -> b ≠ g1 -> w9.heap[b]? = w8.heap[b]? := fun b hb hne => (hgrow2.block b (by simp; omega) (by simp [Value.ownBlock]; omega)).trans (Below.heap_alloc _ _ _ hb)
   have hsz8 := HQ8.out.sz
   have hQ9 : SpB S w R ao L cap (.int .i64 s) (.int .i64 nu) (.string tx) (.slice na nl nc) (.slice ka kl kc) (p1 + 1 + 1) w9 := by
    have hn8 := HQ8.out.near
    have hlow : ∀ b, b < w.heap.size + 2 -> w9.heap[b]? = w8.heap[b]? := fun b hb => hG9 b (by omega) (by omega)
    have hn9 : Near R w w9 := ⟨hgrow2.os.trans hn8.os, hgrow2.tape.trans hn8.tape, hgrow2.output.trans hn8.output, by omega, fun b h1 hne => (hlow b (by omega)).trans (hn8.block b h1 hne)⟩
    exact ⟨hn9, by omega, (hlow _ (by omega)).trans HQ8.out.box, (hlow _ (by omega)).trans HQ8.out.zero, fun b hb => (hlow b (by have := HSL.out b hb; omega)).trans (HQ8.out.same b hb), HD0.out.keep hn9 ((hlow R (by omega)).trans HQ8.out.dr.box)⟩
   have hN9 : ∀ S8 : Nat -> Prop, (∀ b, w5.heap.size <= b -> b < w9.heap.size -> S8 b) -> StrsIn S8 w9 (Nd.names t ++ [x]) (.slice (some ⟨g2, 0, none⟩) (nl + 1) cap2) := fun S8 h8 => by
    refine strs_of_owns (M := w5.heap.size) (e := 9) (by simpa [HLn.out.2] using hown2) (by simp [HLn.out.2]; omega) (fun y hy => ?_) (fun g hg => ?_)
    ·rcases List.mem_append.1 hy with hy | hy
     ·exact HNs.out y hy
     ·rw [List.mem_singleton] at hy; subst hy; exact hxs
    ·have hg : g2 = g := by simpa [Value.ownBlock] using hg
     exact h8 g (by omega) (by omega)
   obtain ⟨⟨y0, y1, y2, y3, y4⟩, e0, e1, e2, e3, e4⟩ := five_cells hQ9.box
   obtain ⟨⟨r0, r1, r2, r3, r4⟩, f0, f1, f2, f3, f4⟩ := five_cells hQ9.zero
   obtain ⟨B9, hB9⟩ : ∃ B9, B9 = w9.setCell ⟨w.heap.size, 3, none⟩ (.slice (some ⟨g2, 0, none⟩) (nl + 1) cap2) := ⟨_, rfl⟩
   have hzB : B9.heap.size = w9.heap.size := by rw [hB9]; simp
   have HQ9 : Hid (SpB S w R ao L cap (.int .i64 s) (.int .i64 nu) (.string tx) (.slice (some ⟨g2, 0, none⟩) (nl + 1) cap2) (.slice ka kl kc) (p1 + 1 + 1) B9) := by rw [hB9]; exact hQ9.set3 HD0.out HSS.out _
   have HN9 : Hid (StrsIn (fun b => w.heap.size + 2 <= b /\ b < B9.heap.size) B9 (Nd.names t ++ [x]) (.slice (some ⟨g2, 0, none⟩) (nl + 1) cap2)) := by
    refine (hN9 (fun b => w.heap.size + 2 <= b /\ b < B9.heap.size) (fun b h1 h2 => ⟨by omega, by omega⟩)).keep (fun b hb => ?_) (fun _ h => h)
    rw [hB9]; exact Below.heap_setCell _ _ _ _ (by show b ≠ w.heap.size; omega)
   have hszB : w.heap.size + 2 <= B9.heap.size := HQ9.out.sz
   clear hown2 hgrow2 hat2 HO8 HQ8 HIS hQ9 hN9 hG9 HQ r0 r1 r2 r3 r4 f0 f1 f2 f3 f4
   obtain ⟨m2, rfl⟩ : ∃ m2, m = m2 + 1 := ⟨m - 1, by omega⟩
   have yK : (B9.alloc (.cells #[] 27)).cell? ⟨w.heap.size, 4, none⟩ = some (.slice ka kl kc) := (World.cell?_of_block (Below.heap_alloc _ _ _ (by show w.heap.size < _; omega))).trans (five_cells HQ9.out.box).1.2.2.2.2
   have yK9 : ((w9.setCell ⟨w.heap.size, 3, none⟩ (.slice (some ⟨g2, 0, none⟩) (nl + 1) cap2)).alloc (.cells #[] 27)).cell? ⟨w.heap.size, 4, none⟩ = some (.slice ka kl kc) := by rw [<- hB9]; exact yK
   obtain ⟨xs, hxl, hx1, hxn, hxk⟩ := kids_newsT HLn.out.1 HKd.out
   have HXK : Hid ((xs.length = kl * 5 /\ (∀ u ∈ xs, u.oneCell' = true) /\ (0 < kl -> ∃ ad, ka = some ad /\ ∀ j u, xs[j]? = some u -> (B9.alloc (.cells #[] 27)).cell? (ad.add j) = some u)) /\ (∀ j (h : j < (Nd.kids t).length), ∃ c0 c1 c2 c3 c4, (xs[j * 5]? = some c0 /\ xs[j * 5 + 1]? = some c1 /\ xs[j * 5 + 2]? = some c2 /\ xs[j * 5 + 3]? = some c3 /\ xs[j * 5 + 4]? = some c4) /\ TreeIn S w (m2 + 1) (Nd.kids t)[j] c0 c1 c2 c3 c4)) :=
    ⟨⟨hxl, hx1, hxn _ (fun b hb => (Below.heap_alloc _ _ _ (by have := HSL.out b hb; omega)).trans (HQ9.out.same b hb))⟩, hxk⟩
   obtain ⟨ik0, hi0, hy0, hy1, hyb⟩ := info_parts Tryz.info_treeR
   have HIK : Hid (_ /\ _ /\ _ /\ _) := ⟨hi0, hy0, hy1, hyb⟩
   clear hxl hx1 hxn hxk hi0 hy0 hy1 hyb
   go_wp2_with (at_builtin; rw [<- hB9]; (try rw [<- hzB]); refine wpList_copy _ rfl (.tmp 95) (.tmp 97) 25 rfl B9.heap.size 27 ik0 _ 5 80 Tryz.underlying25 HIK.out.1 HIK.out.2.1 HIK.out.2.2.1 HIK.out.2.2.2 rfl (by decide) B9.heap.size rfl (heap_alloc_new B9 _) (Nat.le_refl _) ka kl kc xs rfl HXK.out.1.1 HXK.out.1.2.2 HXK.out.1.2.1 (by unfold maxLen; omega) (by omega) (B9.heap.size + 1) (by simp) ?_)
   intro k1 kap1 v6 kown1 kgrow1 kat1 klt1
   rw [<- hB9, <- hzB] at kgrow1
   rw [<- hzB] at kown1 kat1
   clear hB9 hzB yK9
   have kz6 := kgrow1.size
   rw [World.size_alloc] at kz6
   have KO1 := hidF kown1
   have KG1 : Hid ((v6.os = B9.os /\ v6.tape = B9.tape /\ v6.output = B9.output) /\ ∀ b, b < B9.heap.size -> v6.heap[b]? = B9.heap[b]?) := ⟨⟨kgrow1.os, kgrow1.tape, kgrow1.output⟩, fun b hb => (kgrow1.block b (by simp; omega) (by simp; omega)).trans (Below.heap_alloc _ _ _ hb)⟩
   have kg1 : B9.heap.size <= k1 := by omega
   clear kown1 kgrow1 yK kat1
   go_wp2_with (at_builtin; refine wpList_append_lies _ rfl (.tmp 98) (.tmp 100) 25 rfl B9.heap.size 27 ik0 _ 5 80 Tryz.underlying25 HIK.out.1 HIK.out.2.1 HIK.out.2.2.1 HIK.out.2.2.2 rfl (by decide) (.slice (some ⟨k1, 0, none⟩) kl kap1) kl xs rfl (KO1.out.alloc _) ⟨v6.heap.size, 0, none⟩ 1 1 [.int .i64 1, .int .i64 0, .string ⟨#[]⟩, .slice none 0 0, .slice none 0 0] rfl rfl (World.news_of_block (heap_alloc_new v6 _)) (by simp [Value.oneCell']) (by decide) (by unfold maxLen; omega) (by omega) (by simp; omega) (v6.heap.size + 1) (by simp) ?_)
   intro k2 kap2 v8 kown2 kgrow2 kat2 klt2
   have kz8 := kgrow2.size
   rw [World.size_alloc] at kz8
   have kfar : ∀ b, b < B9.heap.size -> v8.heap[b]? = B9.heap[b]? := fun b hb => ((kgrow2.block b (by simp; omega) (by simp [Value.ownBlock]; omega)).trans (Below.heap_alloc _ _ _ (by omega))).trans (KG1.out.2 b hb)
   have hQK := HQ9.out.next (u' := v8) HD0.out HSS.out ⟨kgrow2.os.trans KG1.out.1.1, kgrow2.tape.trans KG1.out.1.2.1, kgrow2.output.trans KG1.out.1.2.2⟩ (by omega) (fun b hb _ => kfar b hb) ((kfar R (by omega)).trans HQ9.out.dr.box)
   have hK8 : ∀ S8 : Nat -> Prop, (∀ b, S b -> S8 b) -> (∀ b, B9.heap.size <= b -> b < v8.heap.size -> S8 b) -> RowIn S8 v8 (TreeIn S8 v8 (m2 + 1)) (Nd.kids t ++ [numT m2]) (.slice (some ⟨k2, 0, none⟩) (kl + 1) kap2) := fun S8 h8 h9 =>
    kids_moreT (t := numT m2) HLn.out.1 HXK.out.1.1 HXK.out.2 hQK.same h8 (numT_in _ _ m2) kown2 hkl (fun g hg => by
     have hg : k2 = g := by simpa [Value.ownBlock] using hg
     simp only [Value.ownBlock, Option.some.injEq] at kat2
     exact h9 g (by omega) (by omega))
   obtain ⟨⟨y0, y1, y2, y3, y4⟩, e0, e1, e2, e3, e4⟩ := five_cells hQK.box
   obtain ⟨⟨r0, r1, r2, r3, r4⟩, f0, f1, f2, f3, f4⟩ := five_cells hQK.zero
   have HP : Hid (SpoilPostT (m2 + 1 + 1) S w R ao L cap p (10 * (d + 1)) (.returned (.agg #[.int .i64 s, .int .i64 nu, .string tx, .slice (some ⟨g2, 0, none⟩) (nl + 1) cap2, .slice (some ⟨k2, 0, none⟩) (kl + 1) kap2])) (put5 (v8.setCell ⟨w.heap.size, 4, none⟩ (.slice (some ⟨k2, 0, none⟩) (kl + 1) kap2)) (w.heap.size + 1) 0 (.int .i64 s) (.int .i64 nu) (.string tx) (.slice (some ⟨g2, 0, none⟩) (nl + 1) cap2) (.slice (some ⟨k2, 0, none⟩) (kl + 1) kap2))) :=
    spt_exit (m := m2 + 1 + 1) (t := (⟨s, nu, tx, Nd.names t ++ [x], Nd.kids t ++ [numT m2]⟩ : Nd (T (m2 + 1)))) HD0.out HSL.out hQK.near hQK.dr.box (by omega) ⟨rfl, rfl, rfl, htx, hwf, hwn, HN9.out.keep (fun b hb => kfar b hb.2) (fun b hb => Or.inr ⟨hb.1, by omega⟩), hK8 _ (fun b hb => Or.inl hb) (fun b h1 h2 => Or.inr ⟨by omega, h2⟩)⟩ (set_below _ _ _ _) (fun b hb => Below.heap_setCell _ _ _ _ hb) (by simp)
   clear kown2 kgrow2 kat2 KO1 KG1 HIK HXK hQK hK8 kfar HQ9 HN9
   go_wp2_with fail
   refine bodyPost_ret (v := .agg #[.int .i64 s, .int .i64 nu, .string tx, .slice (some ⟨g2, 0, none⟩) (nl + 1) cap2, .slice (some ⟨k2, 0, none⟩) (kl + 1) kap2]) (by simp [results, Tryz.results90, go_sem, r0, r1, r2, r3, r4]) rfl ?_
   exact HP.out
  ·obtain ⟨m2, rfl⟩ : ∃ m2, m = m2 + 1 := ⟨m - 1, by omega⟩
   have hab : Below w5.heap.size w5 (w5.alloc (.cells #[] 27)) := (Below.refl _ _).alloc (Nat.le_refl _) _
   have hboxa := (hab.block w.heap.size (by omega)).trans HQ.out.box
   obtain ⟨⟨-, -, -, -, y4⟩, -, -, -, -, e4⟩ := five_cells hboxa
   obtain ⟨E6, hE6⟩ : ∃ E6, E6 = (w5.alloc (.cells #[] 27)).setCell ⟨w.heap.size, 4, none⟩ (.slice (some ⟨w5.heap.size, 0, none⟩) 0 0) := ⟨_, rfl⟩
   have HF0 : Hid (Fill w.heap.size w5 E6 (.int .i64 s) (.int .i64 nu) (.string tx) (.slice na nl nc) (.int .i64 1) (.int .i64 0) (.string ⟨#[]⟩) (.slice none 0 0) (.slice none 0 0) 0 (.slice (some ⟨w5.heap.size, 0, none⟩) 0 0)) := by
    rw [hE6]
    refine ⟨rfl, rfl, rfl, by simp, fun b hb hne => (Below.heap_setCell _ _ _ _ hne).trans (Below.heap_alloc _ _ _ hb), by simp [World.setCell, Array.getElem?_modify, hboxa], ?_, fun g hg => ?_⟩
    ·refine owns_keep (owns_empty (heap_alloc_new w5 _) (by omega)) fun g hg => ?_
     have : w5.heap.size = g := by simpa [Value.ownBlock] using hg
     exact Below.heap_setCell _ _ _ _ (by show g ≠ w.heap.size; omega)
    ·have : w5.heap.size = g := by simpa [Value.ownBlock] using hg
     omega
   clear hab hboxa
   go_wp2_with fail
   rw [<- hE6]
   clear hE6 y4 e4
   obtain ⟨ik0, hi0, hy0, hy1, hyb⟩ := info_parts Tryz.info_treeR
   have HIK : Hid (_ /\ _ /\ _ /\ _) := ⟨hi0, hy0, hy1, hyb⟩
   clear hi0 hy0 hy1 hyb
   go_loopw [7] (fun iv wr => ∃ (ln : Nat) (ka' : Option Addr) (kc' : Nat), ln <= 21 /\ iv = .int .i64 ln /\ Fill w.heap.size w5 wr (.int .i64 s) (.int .i64 nu) (.string tx) (.slice na nl nc) (.int .i64 1) (.int .i64 0) (.string ⟨#[]⟩) (.slice none 0 0) (.slice none 0 0) ln (.slice ka' ln kc')) (fun iv _ => 21 - (intOf iv).toNat)
   case atStart => exact ⟨0, _, _, by omega, rfl, HF0.out⟩
   case round =>
    obtain ⟨ln, ka', kc', hln, rfl, hF⟩ := hrel
    have hzr := hF.size
    have HF := hidF hF
    by_cases hlt : ln <= 20
    ·have hlti : (ln : Int) <= 20 := by omega
     have x4 := hF.cells.1.2.2.2.2
     clear hF HF0
     go_wp2_with (at_builtin; refine wpList_append_lies _ rfl (.tmp 112) (.tmp 114) 25 rfl (w.heap.size + 1) 27 ik0 _ 5 80 Tryz.underlying25 HIK.out.1 HIK.out.2.1 HIK.out.2.2.1 HIK.out.2.2.2 rfl (by decide) (.slice ka' ln kc') ln _ rfl (HF.out.row.alloc _) ⟨wr.heap.size, 0, none⟩ 1 1 [.int .i64 1, .int .i64 0, .string ⟨#[]⟩, .slice none 0 0, .slice none 0 0] rfl rfl (World.news_of_block (heap_alloc_new wr _)) (by simp [Value.oneCell']) (by decide) (by unfold maxLen; omega) (by omega) (by simp; omega) (wr.heap.size + 1) (by simp) ?_; intro g2 cap2 w9 hown2 hgrow2 hat2 hlt2; refine Hid.out ?_)
     refine Lib.hid ?_
     have hF9 := HF.out.more (by omega) hown2 hgrow2 hat2
     have hb9 := ((hgrow2.block w.heap.size (by simp; omega) (fun e => by have := HF.out.new _ e.symm; omega)).trans (Below.heap_alloc _ _ _ (by omega))).trans HF.out.box
     have x4'' : w9.cell? ⟨w.heap.size, 4, none⟩ = some (.slice ka' ln kc') := (by simp [World.cell?, hb9])
     have xf'' : w9.frozen? ⟨w.heap.size, 4, none⟩ = false := (by simp [World.frozen?, hb9])
     have HF9 := hidF hF9
     clear hF9 hown2 hgrow2 hat2 hlt2 hb9 x4
     go_wp2_with fail
     go_roundw
     case rel => exact ⟨ln + 1, some ⟨g2, 0, none⟩, cap2, by omega, by go_num, HF9.out⟩
     case measure => simp [intOf]; omega
    ·have hlti : ¬ (ln : Int) <= 20 := by omega
     obtain ⟨⟨y0, y1, y2, y3, y4⟩, -⟩ := hF.cells
     obtain ⟨⟨r0, r1, r2, r3, r4⟩, f0, f1, f2, f3, f4⟩ := five_cells ((hF.block (w.heap.size + 1) (by omega) (by omega)).trans HQ.out.zero)
     have HP : Hid (SpoilPostT (m2 + 1 + 1) S w R ao L cap p (10 * (d + 1)) (.returned (.agg #[.int .i64 s, .int .i64 nu, .string tx, .slice na nl nc, .slice ka' ln kc'])) (put5 (wr) (w.heap.size + 1) 0 (.int .i64 s) (.int .i64 nu) (.string tx) (.slice na nl nc) (.slice ka' ln kc'))) := by
      have hsame : Same S w wr := fun b hb => (hF.block b (by have := HSL.out b hb; omega) (by have := HSL.out b hb; omega)).trans (HQ.out.same b hb)
      have hn := HQ.out.near
      exact spt_exit (m := m2 + 1 + 1) (t := (⟨s, nu, tx, Nd.names t, List.replicate ln (numT m2)⟩ : Nd (T (m2 + 1)))) HD0.out HSL.out ⟨hF.os.trans hn.os, hF.tape.trans hn.tape, hF.output.trans hn.output, by omega, fun b hb hne => (hF.block b (by omega) (by omega)).trans (hn.block b hb hne)⟩ ((hF.block R (by omega) (by omega)).trans HQ.out.dr.box) (by omega) ⟨rfl, rfl, rfl, htx, hwf, hwn, HNm.out.keep hsame (fun b hb => Or.inl hb), hF.row_in (by omega) (fun b h1 h2 => Or.inr ⟨by omega, h2⟩) (numT_in _ _ m2)⟩ (Below.refl _ _) (fun _ _ => rfl) rfl
     clear hF HF HF0 HIK HQ
     go_wp2_with fail
     refine bodyPost_ret (v := .agg #[.int .i64 s, .int .i64 nu, .string tx, .slice na nl nc, .slice ka' ln kc']) (by simp [results, Tryz.results90, go_sem, r0, r1, r2, r3, r4]) rfl ?_
     exact HP.out
  ·obtain ⟨W6, hW6⟩ : ∃ W6, W6 = w5.alloc (.cells #[] 9) := ⟨_, rfl⟩
   have hb6 : Below w5.heap.size w5 W6 := by rw [hW6]; exact (Below.refl _ _).alloc (Nat.le_refl _) _
   have hQ := HQ.out.keep HD0.out HSS.out (Near.of_below hb6) (HQ.out.dr.same hb6)
   obtain ⟨⟨y0, y1, y2, y3, y4⟩, e0, e1, e2, e3, e4⟩ := five_cells hQ.box
   obtain ⟨⟨r0, r1, r2, r3, r4⟩, f0, f1, f2, f3, f4⟩ := five_cells hQ.zero
   have HP : Hid (SpoilPostT (m + 1) S w R ao L cap p (10 * (d + 1)) (.returned (.agg #[.int .i64 s, .int .i64 nu, .string tx, .slice (some ⟨w5.heap.size, 0, none⟩) 0 0, .slice ka kl kc])) (put5 (W6.setCell ⟨w.heap.size, 3, none⟩ (.slice (some ⟨w5.heap.size, 0, none⟩) 0 0)) (w.heap.size + 1) 0 (.int .i64 s) (.int .i64 nu) (.string tx) (.slice (some ⟨w5.heap.size, 0, none⟩) 0 0) (.slice ka kl kc))) :=
    spt_exit (m := m + 1) (t := (⟨s, nu, tx, [], Nd.kids t⟩ : Nd (T m))) HD0.out HSL.out hQ.near hQ.dr.box (by omega) ⟨rfl, rfl, rfl, htx, hwf, hwn, ⟨some ⟨w5.heap.size, 0, none⟩, 0, rfl, by simp [maxLen], fun s h => (by cases h), fun h => absurd rfl h⟩, (HKd.out.keepT hQ.same (fun b hb => Or.inl hb))⟩ (set_below _ _ _ _) (fun b hb => Below.heap_setCell _ _ _ _ hb) (by simp)
   clear hQ HQ hb6
   subst hW6
   go_wp2_with fail
   refine bodyPost_ret (v := .agg #[.int .i64 s, .int .i64 nu, .string tx, .slice (some ⟨w5.heap.size, 0, none⟩) 0 0, .slice ka kl kc]) (by simp [results, Tryz.results90, go_sem, r0, r1, r2, r3, r4]) rfl ?_
   exact HP.out
end Go.Proofs.YtmjhcgjhlakceaaGreatDoor
