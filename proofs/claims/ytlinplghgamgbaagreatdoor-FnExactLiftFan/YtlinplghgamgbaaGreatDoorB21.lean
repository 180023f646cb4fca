/-
  Several texts in one, in their order.
-/
import Derived.Test.YtlinplghgamgbaaGreatDoorB19
import Derived.Test.YtlinplghgamgbaaGreatDoorB1
import Derived.Test.YtlinplghgamgbaaGreatDoorKImplRead
import Derived.BigQuiet

/-
  The program takes one part off a node, whatever it is.
-/
namespace Go.Proofs.YtlinplghgamgbaaGreatDoor
open Go.RowKit

/-- What a part is taken off, and of which node. -/
structure Off (S : Nat → Prop) (w : World) (m bk rb : Nat) (n r : Nd (T m)) (q0 v3 v4 : Value) (na ka : Option Addr) (nc kc : Nat) : Prop where
  rst : Rst S w m rb r q0 v3 v4
  bnd : ∀ b, S b → b < w.heap.size ∧ b ≠ rb
  book : Book w bk
  ne : bk ≠ rb
  names : StrsIn S w n.names (.slice na n.names.length nc)
  cap : n.names.length ≤ nc
  kids : RowIn S w (NodeIn S w m) n.kids (.slice ka n.kids.length kc)
  le : r.names.length ≤ n.names.length
  txt : n.text.size ≤ 1048576
  w0 : (Lit.int .i64 n.sort).wf = true
  w1 : (Lit.int .i64 n.num).wf = true
  op : 1 ≤ n.sort ∧ n.sort ≤ 43

theorem Book.lt {w : World} {b : Nat} (h : Book w b) : b < w.heap.size := by
  have := (h 0 (by omega)).1
  exact Classical.byContradiction fun hge => by
    have h0 : w.heap[b]? = none := Array.getElem?_eq_none (by omega)
    simp [World.cell?, h0] at this

theorem Off.on {S : Nat → Prop} {w w' : World} {m bk rb : Nat} {n r : Nd (T m)} {q0 v3 v4 : Value} {na ka : Option Addr} {nc kc : Nat} (h : Off S w m bk rb n r q0 v3 v4 na ka nc kc) (hb : Below w.heap.size w w') : Off S w' m bk rb n r q0 v3 v4 na ka nc kc := by
  have hs : Same S w w' := fun b hS => hb.block b (h.bnd b hS).1
  exact ⟨h.rst.keep hs (hb.block rb h.rst.lt), fun b hS => ⟨Nat.lt_of_lt_of_le (h.bnd b hS).1 hb.size, (h.bnd b hS).2⟩, h.book.keep (hb.block bk h.book.lt), h.ne, h.names.keep hs (fun _ h => h), h.cap, h.kids.keepN hs (fun _ h => h), h.le, h.txt, h.w0, h.w1, h.op⟩

theorem near_of {rb : Nat} {w w0 w' : World} (hb : Below w.heap.size w w0) (hn : Near rb w0 w') : Near rb w w' := (Near.of_below hb).trans hn

set_option maxRecDepth 20000 in
set_option maxHeartbeats 1000000 in
theorem takesOff_V (S : Nat → Prop) (w : World) (m bk rb : Nat) (n r : Nd (T m)) (q0 v3 v4 : Value) (na ka : Option Addr) (nc kc : Nat) (p : UInt8) (hp : p = 86 ∨ p = 65) (h : Off S w m bk rb n r q0 v3 v4 na ka nc kc) :
    Calls Tryz.prog 54 #[.pointer (some ⟨bk, 0, none⟩), .pointer (some ⟨rb, 0, none⟩), .int .i32 (p.toNat : Int), .agg #[.int .i64 n.sort, .int .i64 n.num, .string n.text, .slice na n.names.length nc, .slice ka n.kids.length kc]] w (TakePost S m rb n r q0 p w) := by
  have hb0 := (Below.refl w.heap.size w).alloc (Nat.le_refl _) (.cells #[.int .i64 n.sort, .int .i64 n.num, .string n.text, .slice na n.names.length nc, .slice ka n.kids.length kc] 30)
  have h' := h.on hb0
  have HC : Hid (Calls Tryz.prog 67 _ _ _) := takesOffKid_any S m p hp rb n r q0 v3 v4 _ h'.rst h'.bnd
  have HN := hidF hb0
  have p1 : ((p.toNat : Int) == 84) = false := by rcases hp with rfl | rfl <;> rfl
  have p2 : ((p.toNat : Int) == 35) = false := by rcases hp with rfl | rfl <;> rfl
  have p3 : ((p.toNat : Int) == 75) = false := by rcases hp with rfl | rfl <;> rfl
  have p4 : ((p.toNat : Int) == 70) = false := by rcases hp with rfl | rfl <;> rfl
  have p5 : ((p.toNat : Int) == 78) = false := by rcases hp with rfl | rfl <;> rfl
  have p6 : ((p.toNat : Int) == 88) = false := by rcases hp with rfl | rfl <;> rfl
  clear h h' hb0 hp
  go_enter Tryz.func54, Tryz.ntmps54
  go_wp2_with fail
  refine HC.out.mono ?_
  rintro e w1 ⟨hn, hq⟩
  have HP : Hid (TakePost S m rb n r q0 p w e w1) := ⟨near_of HN.out hn, hq⟩
  rcases hq with ⟨r', v3', v4', -, rfl, -⟩ | ⟨-, rfl⟩
  all_goals
    clear hn HC HN
    go_wp2_with fail
    go_ret
    exact HP.out

set_option maxRecDepth 20000 in
set_option maxHeartbeats 1000000 in
theorem takesOff_N (S : Nat → Prop) (w : World) (m bk rb : Nat) (n r : Nd (T m)) (q0 v3 v4 : Value) (na ka : Option Addr) (nc kc : Nat) (p : UInt8) (hp : p = 78 ∨ p = 88) (h : Off S w m bk rb n r q0 v3 v4 na ka nc kc) :
    Calls Tryz.prog 54 #[.pointer (some ⟨bk, 0, none⟩), .pointer (some ⟨rb, 0, none⟩), .int .i32 (p.toNat : Int), .agg #[.int .i64 n.sort, .int .i64 n.num, .string n.text, .slice na n.names.length nc, .slice ka n.kids.length kc]] w (TakePost S m rb n r q0 p w) := by
  have hb0 := (Below.refl w.heap.size w).alloc (Nat.le_refl _) (.cells #[.int .i64 n.sort, .int .i64 n.num, .string n.text, .slice na n.names.length nc, .slice ka n.kids.length kc] 30)
  have h' := h.on hb0
  have HC : Hid (Calls Tryz.prog 66 _ _ _) := takesOffName_any S m p hp bk rb n r q0 v3 v4 _ _ h'.rst h'.bnd h'.book h'.ne h'.names ⟨_, _, _, rfl, h'.cap⟩ h'.le
  have HN := hidF hb0
  have p1 : ((p.toNat : Int) == 84) = false := by rcases hp with rfl | rfl <;> rfl
  have p2 : ((p.toNat : Int) == 35) = false := by rcases hp with rfl | rfl <;> rfl
  have p3 : ((p.toNat : Int) == 75) = false := by rcases hp with rfl | rfl <;> rfl
  have p4 : ((p.toNat : Int) == 70) = false := by rcases hp with rfl | rfl <;> rfl
  clear h h' hb0
  rcases hp with rfl | rfl
  all_goals
    go_enter Tryz.func54, Tryz.ntmps54
    go_wp2_with fail
    refine HC.out.mono ?_
    rintro e w1 ⟨hn, hq⟩
    have HP := hidF (show TakePost S m rb n r q0 _ w e w1 from ⟨near_of HN.out hn, hq⟩)
    rcases hq with ⟨r', v3', v4', -, rfl, -⟩ | ⟨-, rfl⟩
    all_goals
      clear hn HC HN
      go_wp2_with fail
      go_ret
      exact HP.out

end Go.Proofs.YtlinplghgamgbaaGreatDoor

/-
  The program takes one part off a node: a tree, a number, a schema, fields.
-/
namespace Go.Proofs.YtlinplghgamgbaaGreatDoor
open Go.RowKit

theorem leafT_of (S : Nat → Prop) (w : World) (x v : Int) (tx : ByteArray) (hx : (Lit.int .i64 x).wf = true) (hv : (Lit.int .i64 v).wf = true) (ht : tx.size ≤ maxLen) : TreeIn S w 1 (leafT x v tx) (.int .i64 x) (.int .i64 v) (.string tx) (.slice none 0 0) (.slice none 0 0) :=
  ⟨rfl, rfl, rfl, ht, hx, hv, ⟨none, 0, rfl, by simp [maxLen, leafT], fun s hs => by simp [leafT] at hs, fun h => absurd rfl h⟩, ⟨none, 0, rfl, by simp [maxLen, leafT], fun h => absurd rfl h⟩⟩

theorem below_draws {w w' : World} (h : Below w.drew.heap.size w.drew w') : Below w.heap.size w w' := ((Below.refl _ _).drew).trans h

theorem leaf_ok (x v : Int) (tx : ByteArray) : okT 1 (leafT x v tx) = aloneF x v tx [] 0 := by
  have h1 : goodT 1 (leafT x v tx) 1 = aloneF x v tx [] 0 := by
    show (decide ((1 : Int) ≤ 6) && aloneF x v tx [] 0 && List.all ([] : List (T 0)) _) = _
    simp
  have h2 : cntT 1 (leafT x v tx) = 1 := rfl
  unfold okT
  rw [h1, h2]; simp

set_option maxRecDepth 20000 in
set_option maxHeartbeats 1000000 in
theorem takesOff_T (S : Nat → Prop) (w : World) (m bk rb : Nat) (n r : Nd (T m)) (q0 v3 v4 : Value) (na ka : Option Addr) (nc kc : Nat) (h : Off S w m bk rb n r q0 v3 v4 na ka nc kc) :
    Calls Tryz.prog 54 #[.pointer (some ⟨bk, 0, none⟩), .pointer (some ⟨rb, 0, none⟩), .int .i32 84, .agg #[.int .i64 n.sort, .int .i64 n.num, .string n.text, .slice na n.names.length nc, .slice ka n.kids.length kc]] w (TakePost S m rb n r q0 84 w) := by
  obtain ⟨⟨g1, g2, g3, g4⟩, f1, f2, f3, f4⟩ := h.rst.cells
  have hlt := h.rst.lt
  have hne : w.heap.size ≠ rb := by omega
  obtain ⟨W, hW⟩ : ∃ W, W = ((w.setCell ⟨rb, 1, none⟩ (.int .i64 0)).setCell ⟨rb, 2, none⟩ (.string ⟨#[]⟩)).alloc (.cells #[.int .i64 n.sort, .int .i64 n.num, .string n.text, .slice na n.names.length nc, .slice ka n.kids.length kc] 30) := ⟨_, rfl⟩
  have hnear : Near rb w W := by rw [hW]; exact ((Near.set rb 1 _ _).trans (Near.set rb 2 _ _)).trans (Near.alloc _ _ _)
  have hrst : Rst S W m rb ⟨r.sort, 0, ByteArray.empty, r.names, r.kids⟩ q0 v3 v4 := by
    have hs := hnear.same h.bnd
    refine ⟨?_, h.rst.n3.keep hs (fun _ h => h), h.rst.k3, h.rst.n4.keepN hs (fun _ h => h), h.rst.k4⟩
    rw [hW]
    exact (Below.heap_alloc _ _ _ (by simpa using hlt)).trans (blk_set (blk_set h.rst.box _) _)
  have htx : n.text.size ≤ maxLen := Nat.le_trans h.txt (by decide)
  have HC1 : Hid (∀ w, Calls Tryz.prog 62 _ w _) := fun w => treeOfNode_any n.sort n.num n.text na ka n.names.length n.kids.length nc kc w
  have HC2 : Hid (∀ w, Calls Tryz.prog 61 #[.agg #[.int .i64 n.sort, .int .i64 n.num, .string n.text, .slice none 0 0, .slice none 0 0]] w fun e w' => e = .returned (.bool (aloneF n.sort n.num n.text [] 0)) ∧ Below w.heap.size w w') := by
    intro w
    have := implOk_any 1 (fun _ => False) (leafT n.sort n.num n.text) _ _ _ _ _ w (leafT_of _ w n.sort n.num n.text h.w0 h.w1 htx) (fun _ h => h.elim)
    rw [leaf_ok] at this
    exact this
  have HP : Hid (∀ W', Below W.heap.size W W' → TakePost S m rb n r q0 84 w (.returned (.bool (aloneF n.sort n.num n.text [] 0))) W') := by
    intro W' hb
    refine ⟨hnear.trans (Near.of_below hb), ?_⟩
    cases ha : aloneF n.sort n.num n.text [] 0 with
    | true => exact .inl ⟨_, v3, v4, (st_T _ n r).trans (if_pos ha), rfl, hrst.keep (fun b hS => hb.block b (Nat.lt_of_lt_of_le (h.bnd b hS).1 hnear.size)) (hb.block rb (Nat.lt_of_lt_of_le hlt hnear.size))⟩
    | false => exact .inr ⟨(st_T _ n r).trans (if_neg (by rw [ha]; decide)), rfl⟩
  have HW := hidF hW
  generalize aloneF n.sort n.num n.text [] 0 = ok at *
  clear h hrst hnear hW htx
  go_enter Tryz.func54, Tryz.ntmps54
  go_wp2_with fail
  refine (HC1.out _).mono ?_
  rintro e w1 ⟨rfl, hb1⟩
  rw [← HW.out] at hb1
  go_wp2_with fail
  refine (HC2.out _).mono ?_
  rintro e w2 ⟨rfl, hb2⟩
  have HE := hidF (HP.out w2 (hb1.trans (hb2.mono hb1.size)))
  clear hb1 hb2 HP HC1 HC2
  go_wp2_with fail
  go_ret
  exact HE.out

set_option maxRecDepth 20000 in
set_option maxHeartbeats 1000000 in
theorem takesOff_K (S : Nat → Prop) (w : World) (m bk rb : Nat) (n r : Nd (T m)) (q0 v3 v4 : Value) (na ka : Option Addr) (nc kc : Nat) (h : Off S w m bk rb n r q0 v3 v4 na ka nc kc) :
    Calls Tryz.prog 54 #[.pointer (some ⟨bk, 0, none⟩), .pointer (some ⟨rb, 0, none⟩), .int .i32 75, .agg #[.int .i64 n.sort, .int .i64 n.num, .string n.text, .slice na n.names.length nc, .slice ka n.kids.length kc]] w (TakePost S m rb n r q0 75 w) := by
  obtain ⟨⟨g1, g2, g3, g4⟩, f1, f2, f3, f4⟩ := h.rst.cells
  have hlt := h.rst.lt
  have hne : w.heap.size ≠ rb := by omega
  obtain ⟨W, hW⟩ : ∃ W, W = (w.setCell ⟨rb, 2, none⟩ (.string ⟨#[]⟩)).alloc (.cells #[.int .i64 n.sort, .int .i64 n.num, .string n.text, .slice na n.names.length nc, .slice ka n.kids.length kc] 30) := ⟨_, rfl⟩
  have hnear : Near rb w W := by rw [hW]; exact (Near.set rb 2 _ _).trans (Near.alloc _ _ _)
  have hrst : Rst S W m rb ⟨r.sort, r.num, ByteArray.empty, r.names, r.kids⟩ q0 v3 v4 := by
    have hs := hnear.same h.bnd
    refine ⟨?_, h.rst.n3.keep hs (fun _ h => h), h.rst.k3, h.rst.n4.keepN hs (fun _ h => h), h.rst.k4⟩
    rw [hW]
    exact (Below.heap_alloc _ _ _ (by simpa using hlt)).trans (blk_set h.rst.box _)
  have HC : Hid (∀ w, Calls Tryz.prog 64 #[.string n.text] w fun e w' => Below w.heap.size w w' ∧ ∃ (s : Int) (a1 a2 : Option Addr) (l1 l2 k1 k2 : Nat), e = .returned (.tuple #[.agg #[.int .i64 s, .slice a1 l1 k1, .slice a2 l2 k2], .bool (kindB n.text)])) := by
    intro w
    refine (implKRead_any n.text (n.text.size + 7) (by omega) h.txt w).mono ?_
    rintro e w' ⟨hb, c0, c1, c2, L3, L4, rfl, hin, -⟩
    refine ⟨hb, ?_⟩
    obtain ⟨s, a1, l1, k1, a2, l2, k2, rfl, rfl, rfl⟩ := hin.shape
    exact ⟨s, a1, a2, l1, l2, k1, k2, rfl⟩
  have HP : Hid (∀ W', Below W.heap.size W W' → TakePost S m rb n r q0 75 w (.returned (.bool (kindB n.text))) W') := by
    intro W' hb
    refine ⟨hnear.trans (Near.of_below hb), ?_⟩
    cases ha : kindB n.text with
    | true => exact .inl ⟨_, v3, v4, (st_K _ n r).trans (if_pos ha), rfl, hrst.keep (fun b hS => hb.block b (Nat.lt_of_lt_of_le (h.bnd b hS).1 hnear.size)) (hb.block rb (Nat.lt_of_lt_of_le hlt hnear.size))⟩
    | false => exact .inr ⟨(st_K _ n r).trans (if_neg (by rw [ha]; decide)), rfl⟩
  have HW := hidF hW
  generalize kindB n.text = ok at *
  clear h hrst hnear hW
  go_enter Tryz.func54, Tryz.ntmps54
  go_wp2_with fail
  refine (HC.out _).mono ?_
  rintro e w1 ⟨hb1, s, a1, a2, l1, l2, k1, k2, rfl⟩
  rw [← HW.out] at hb1
  have HE := hidF (HP.out _ (hb1.alloc hb1.size (.cells #[.int .i64 s, .slice a1 l1 k1, .slice a2 l2 k2] 70)))
  clear hb1 HP HC
  go_wp2_with fail
  go_ret
  exact HE.out

set_option maxRecDepth 20000 in
set_option maxHeartbeats 1000000 in
theorem takesOff_F (S : Nat → Prop) (w : World) (m bk rb : Nat) (n r : Nd (T m)) (q0 v3 v4 : Value) (na ka : Option Addr) (nc kc : Nat) (h : Off S w m bk rb n r q0 v3 v4 na ka nc kc) :
    Calls Tryz.prog 54 #[.pointer (some ⟨bk, 0, none⟩), .pointer (some ⟨rb, 0, none⟩), .int .i32 70, .agg #[.int .i64 n.sort, .int .i64 n.num, .string n.text, .slice na n.names.length nc, .slice ka n.kids.length kc]] w (TakePost S m rb n r q0 70 w) := by
  obtain ⟨⟨g1, g2, g3, g4⟩, f1, f2, f3, f4⟩ := h.rst.cells
  have hlt := h.rst.lt
  have hne : w.heap.size ≠ rb := by omega
  obtain ⟨W, hW⟩ : ∃ W, W = ((w.setCell ⟨rb, 3, none⟩ (.slice none 0 0)).setCell ⟨rb, 4, none⟩ (.slice none 0 0)).alloc (.cells #[.int .i64 n.sort, .int .i64 n.num, .string n.text, .slice na n.names.length nc, .slice ka n.kids.length kc] 30) := ⟨_, rfl⟩
  have hnear : Near rb w W := by rw [hW]; exact ((Near.set rb 3 _ _).trans (Near.set rb 4 _ _)).trans (Near.alloc _ _ _)
  have hs := hnear.same h.bnd
  have hrst : Rst S W m rb ⟨r.sort, r.num, r.text, [], []⟩ q0 (.slice none 0 0) (.slice none 0 0) := by
    refine ⟨?_, ⟨none, 0, rfl, by simp [maxLen], fun s hs => by simp at hs, fun h => absurd rfl h⟩, ⟨_, _, _, rfl, Nat.le_refl _⟩, ⟨none, 0, rfl, by simp [maxLen], fun h => absurd rfl h⟩, ⟨_, _, _, rfl, Nat.le_refl _⟩⟩
    rw [hW]
    exact (Below.heap_alloc _ _ _ (by simpa using hlt)).trans (blk_set (blk_set h.rst.box _) _)
  have HC : Hid (Calls Tryz.prog 65 _ W _) := areFields_any S m n _ _ W (h.names.keep hs (fun _ h => h)) ⟨_, _, _, rfl, h.cap⟩ (h.kids.keepN hs (fun _ h => h))
  have HP : Hid (TakePost S m rb n r q0 70 w (.returned (.bool (fieldsB (poT m) n))) W) := by
    refine ⟨hnear, ?_⟩
    cases ha : fieldsB (poT m) n with
    | true => exact .inl ⟨_, _, _, (st_F _ n r).trans (if_pos ha), rfl, hrst⟩
    | false => exact .inr ⟨(st_F _ n r).trans (if_neg (by rw [ha]; decide)), rfl⟩
  generalize fieldsB (poT m) n = ok at *
  clear h hrst hnear hs
  subst hW
  go_enter Tryz.func54, Tryz.ntmps54
  go_wp2_with fail
  refine HC.out.mono ?_
  rintro e w1 ⟨rfl, rfl⟩
  go_wp2_with fail
  go_ret
  exact HP.out

set_option maxRecDepth 20000 in
set_option maxHeartbeats 1000000 in
theorem takesOff_n (S : Nat → Prop) (w : World) (m bk rb : Nat) (n r : Nd (T m)) (q0 v3 v4 : Value) (na ka : Option Addr) (nc kc : Nat) (h : Off S w m bk rb n r q0 v3 v4 na ka nc kc) :
    Calls Tryz.prog 54 #[.pointer (some ⟨bk, 0, none⟩), .pointer (some ⟨rb, 0, none⟩), .int .i32 35, .agg #[.int .i64 n.sort, .int .i64 n.num, .string n.text, .slice na n.names.length nc, .slice ka n.kids.length kc]] w (TakePost S m rb n r q0 35 w) := by
  obtain ⟨⟨g1, g2, g3, g4⟩, f1, f2, f3, f4⟩ := h.rst.cells
  have hlt := h.rst.lt
  have hne : w.heap.size ≠ rb := by omega
  obtain ⟨W, hW⟩ : ∃ W, W = (w.setCell ⟨rb, 1, none⟩ (.int .i64 0)).alloc (.cells #[.int .i64 n.sort, .int .i64 n.num, .string n.text, .slice na n.names.length nc, .slice ka n.kids.length kc] 30) := ⟨_, rfl⟩
  have hnear : Near rb w W := by rw [hW]; exact (Near.set rb 1 _ _).trans (Near.alloc _ _ _)
  have hs := hnear.same h.bnd
  have hrst : Rst S W m rb ⟨r.sort, 0, r.text, r.names, r.kids⟩ q0 v3 v4 := by
    refine ⟨?_, h.rst.n3.keep hs (fun _ h => h), h.rst.k3, h.rst.n4.keepN hs (fun _ h => h), h.rst.k4⟩
    rw [hW]
    exact (Below.heap_alloc _ _ _ (by simpa using hlt)).trans (blk_set h.rst.box _)
  obtain ⟨k, hk⟩ : ∃ k : Nat, n.sort = (k : Int) := ⟨n.sort.toNat, by have := h.op; omega⟩
  have hk44 : k < 44 := by have := h.op; omega
  have hbook : Book W bk := h.book.keep (hnear.block bk h.book.lt h.ne)
  obtain ⟨b0, b1, b2, b3⟩ := hbook k hk44
  have HC : Hid (∀ w, Calls Tryz.prog 63 #[.agg #[.string (wrd k), .string (bs (prt k)), .int .i64 (lst k), .int .i64 (mst k)], .int .i64 n.num] w _) := fun w => isNum_any (wrd k) (bs (prt k)) (lst k) (mst k) n.num w
  have HP : Hid (∀ W', Below W.heap.size W W' → TakePost S m rb n r q0 35 w (.returned (.bool (decide (lst k ≤ n.num ∧ n.num ≤ mst k)))) W') := by
    intro W' hb
    refine ⟨hnear.trans (Near.of_below hb), ?_⟩
    have e : n.sort.toNat = k := by omega
    by_cases ha : lst k ≤ n.num ∧ n.num ≤ mst k
    · rw [decide_eq_true ha]
      exact .inl ⟨_, v3, v4, (st_n _ n r).trans (if_pos (by rw [e]; exact ha)), rfl, hrst.keep (fun b hS => hb.block b (Nat.lt_of_lt_of_le (h.bnd b hS).1 hnear.size)) (hb.block rb (Nat.lt_of_lt_of_le hlt hnear.size))⟩
    · rw [decide_eq_false ha]
      exact .inr ⟨(st_n _ n r).trans (if_neg (by rw [e]; exact ha)), rfl⟩
  rw [hk] at hW ⊢
  generalize decide (lst k ≤ n.num ∧ n.num ≤ mst k) = ok at *
  have z0 : W.cell? ⟨w.heap.size, 0, none⟩ = some (.int .i64 (k : Int)) := by rw [hW]; simp [go_sem]
  have z1 : W.cell? ⟨w.heap.size, 1, none⟩ = some (.int .i64 n.num) := by rw [hW]; simp [go_sem]
  have HW := hidF hW
  rw [hW] at b0 b1 b2 b3
  clear h hrst hnear hs hbook hW hk z0 z1
  go_enter Tryz.func54, Tryz.ntmps54
  go_wp2_with fail
  go_region_with (first | (go_at_call 63; refine (HC.out _).mono ?_; rintro e w1 ⟨rfl, hb1⟩))
  all_goals
    have hb2 : Below W.heap.size W w1 := by rw [HW.out]; exact below_draws hb1
    have HE := hidF (HP.out w1 hb2)
    clear hb1 hb2 HP HC b0 b1 b2 b3 HW
    go_wp2_with fail
    go_ret
    exact HE.out

end Go.Proofs.YtlinplghgamgbaaGreatDoor
