/-
  Several texts in one, in their order.
-/
import Derived.Test.YtmjhcgjhlakceaaGreatDoorRows
import Derived.Test.YtmjhcgjhlakceaaGreatDoorPlain
import Derived.WalkKit
import Derived.WalkSpells
import Derived.WalkLawsBesides
import Derived.Deep.OwnRows

namespace Go.Proofs.YtmjhcgjhlakceaaGreatDoor
open Go.RowKit
theorem hidF {p : Prop} (h : p) : Hid p := h
def StrsIn (S : Nat -> Prop) (w : World) (l : List ByteArray) (v : Value) : Prop :=
 ∃ (ao : Option Addr) (cap : Nat), v = .slice ao l.length cap /\ l.length <= maxLen /\ (∀ s, s ∈ l -> s.size <= maxLen) /\
  (l ≠ [] -> ∃ b off, ao = some ⟨b, off, none⟩ /\ S b /\ ∀ i (h : i < l.length), w.cell? ⟨b, off + i, none⟩ = some (.string l[i]))
def RowIn {α : Type} (S : Nat -> Prop) (w : World) (R : α -> Value -> Value -> Value -> Value -> Value -> Prop) (l : List α) (v : Value) : Prop :=
 ∃ (ao : Option Addr) (cap : Nat), v = .slice ao l.length cap /\ l.length <= maxLen /\
  (l ≠ [] -> ∃ b off, ao = some ⟨b, off, none⟩ /\ S b /\ ∀ i (h : i < l.length), ∃ c0 c1 c2 c3 c4, w.cell? ⟨b, off + i * 5, none⟩ = some c0 /\ w.cell? ⟨b, off + i * 5 + 1, none⟩ = some c1 /\
   w.cell? ⟨b, off + i * 5 + 2, none⟩ = some c2 /\ w.cell? ⟨b, off + i * 5 + 3, none⟩ = some c3 /\ w.cell? ⟨b, off + i * 5 + 4, none⟩ = some c4 /\ R l[i] c0 c1 c2 c3 c4)
def TreeIn (S : Nat -> Prop) (w : World) : (n : Nat) -> T n -> Value -> Value -> Value -> Value -> Value -> Prop
 | 0, _, _, _, _, _, _ => False
 | n + 1, t, c0, c1, c2, c3, c4 => c0 = .int .i64 (Nd.sort t) /\ c1 = .int .i64 (Nd.num t) /\ c2 = .string (Nd.text t) /\ (Nd.text t).size <= maxLen /\
   (Lit.int .i64 (Nd.sort t)).wf = true /\ (Lit.int .i64 (Nd.num t)).wf = true /\ StrsIn S w (Nd.names t) c3 /\ RowIn S w (TreeIn S w n) (Nd.kids t) c4
def Same (S : Nat -> Prop) (w w' : World) : Prop := ∀ b, S b -> w'.heap[b]? = w.heap[b]?
theorem Same.cell {S : Nat -> Prop} {w w' : World} (h : Same S w w') {p : Addr} (hp : S p.block) : w'.cell? p = w.cell? p := World.cell?_of_block (w := w) (h p.block hp)
theorem same_below {S : Nat -> Prop} {B : Nat} {w w' : World} (h : Below B w w') (hS : ∀ b, S b -> b < B) : Same S w w' := fun b hb => h.block b (hS b hb)
theorem StrsIn.keep {S S' : Nat -> Prop} {w w' : World} {l : List ByteArray} {v : Value} (h : StrsIn S w l v) (hb : Same S w w') (hS : ∀ b, S b -> S' b) : StrsIn S' w' l v := by
 obtain ⟨ao, cap, hv, hl, hs, hc⟩ := h
 refine ⟨ao, cap, hv, hl, hs, fun hne => ?_⟩
 obtain ⟨b, off, ha, hB, hcell⟩ := hc hne
 exact ⟨b, off, ha, hS b hB, fun i hi => (hb.cell (p := ⟨b, off + i, none⟩) hB).trans (hcell i hi)⟩
theorem RowIn.keep {α : Type} {S S' : Nat -> Prop} {w w' : World} {R R' : α -> Value -> Value -> Value -> Value -> Value -> Prop} {l : List α} {v : Value} (h : RowIn S w R l v) (hb : Same S w w') (hS : ∀ b, S b -> S' b)
  (hR : ∀ x c0 c1 c2 c3 c4, x ∈ l -> R x c0 c1 c2 c3 c4 -> R' x c0 c1 c2 c3 c4) : RowIn S' w' R' l v := by
 obtain ⟨ao, cap, hv, hl, hc⟩ := h
 refine ⟨ao, cap, hv, hl, fun hne => ?_⟩
 obtain ⟨b, off, ha, hB, hcell⟩ := hc hne
 refine ⟨b, off, ha, hS b hB, fun i hi => ?_⟩
 obtain ⟨c0, c1, c2, c3, c4, h0, h1, h2, h3, h4, hr⟩ := hcell i hi
 exact ⟨c0, c1, c2, c3, c4, (hb.cell (p := ⟨b, off + i * 5, none⟩) hB).trans h0, (hb.cell (p := ⟨b, off + i * 5 + 1, none⟩) hB).trans h1, (hb.cell (p := ⟨b, off + i * 5 + 2, none⟩) hB).trans h2,
  (hb.cell (p := ⟨b, off + i * 5 + 3, none⟩) hB).trans h3, (hb.cell (p := ⟨b, off + i * 5 + 4, none⟩) hB).trans h4, hR _ _ _ _ _ _ (List.getElem_mem hi) hr⟩
theorem TreeIn.keep {S S' : Nat -> Prop} {w w' : World} (hb : Same S w w') (hS : ∀ b, S b -> S' b) : ∀ {n : Nat} {t : T n} {c0 c1 c2 c3 c4 : Value}, TreeIn S w n t c0 c1 c2 c3 c4 -> TreeIn S' w' n t c0 c1 c2 c3 c4 := by
 intro n
 induction n with
 | zero => intro t c0 c1 c2 c3 c4 h; exact h.elim
 | succ n ih =>
  intro t c0 c1 c2 c3 c4 h
  obtain ⟨h0, h1, h2, hs, hw0, hw1, h3, h4⟩ := h
  exact ⟨h0, h1, h2, hs, hw0, hw1, h3.keep hb hS, h4.keep hb hS fun x _ _ _ _ _ _ hx => ih hx⟩
theorem RowIn.keepT {S S' : Nat -> Prop} {w w' : World} {n : Nat} {l : List (T n)} {v : Value} (h : RowIn S w (TreeIn S w n) l v) (hb : Same S w w') (hS : ∀ b, S b -> S' b) : RowIn S' w' (TreeIn S' w' n) l v :=
 h.keep hb hS fun _ _ _ _ _ _ _ hx => hx.keep hb hS
theorem below_step {B : Nat} {a b c : World} (h : Below B a b) (hs : B <= b.heap.size) (k : Below b.heap.size b c) : Below B a c := h.trans (k.mono hs)
theorem TreeIn.shape {S : Nat -> Prop} {w : World} : ∀ {n : Nat} {t : T n} {c0 c1 c2 c3 c4 : Value}, TreeIn S w n t c0 c1 c2 c3 c4 ->
  ∃ (s m : Int) (x : ByteArray) (a : Option Addr) (l c : Nat) (a' : Option Addr) (l' c' : Nat), c0 = .int .i64 s /\ c1 = .int .i64 m /\ c2 = .string x /\ c3 = .slice a l c /\ c4 = .slice a' l' c' := by
 intro n
 cases n with
 | zero => intro t c0 c1 c2 c3 c4 h; exact h.elim
 | succ n =>
  intro t c0 c1 c2 c3 c4 h
  obtain ⟨h0, h1, h2, hs, hw0, hw1, ⟨ao, cap, h3, -⟩, ⟨ao', cap', h4, -⟩⟩ := h
  exact ⟨_, _, _, _, _, _, _, _, _, h0, h1, h2, h3, h4⟩
def put5 (w : World) (b o : Nat) (g0 g1 g2 g3 g4 : Value) : World :=
 ((((w.setCell ⟨b, o, none⟩ g0).setCell ⟨b, o + 1, none⟩ g1).setCell ⟨b, o + 2, none⟩ g2).setCell ⟨b, o + 3, none⟩ g3).setCell ⟨b, o + 4, none⟩ g4
theorem put5_other {w : World} {b o : Nat} {g0 g1 g2 g3 g4 : Value} {k : Nat} (h : k ≠ b) : (put5 w b o g0 g1 g2 g3 g4).heap[k]? = w.heap[k]? := by
 unfold put5
 rw [Below.heap_setCell _ _ _ _ h, Below.heap_setCell _ _ _ _ h, Below.heap_setCell _ _ _ _ h, Below.heap_setCell _ _ _ _ h, Below.heap_setCell _ _ _ _ h]
theorem put5_size {w : World} {b o : Nat} {g0 g1 g2 g3 g4 : Value} : (put5 w b o g0 g1 g2 g3 g4).heap.size = w.heap.size := by
 simp [put5]
theorem put5_below {B : Nat} {a w : World} {b o : Nat} {g0 g1 g2 g3 g4 : Value} (h : Below B a w) (hb : B <= b) : Below B a (put5 w b o g0 g1 g2 g3 g4) :=
 ((((h.setCell hb g0).setCell hb g1).setCell hb g2).setCell hb g3).setCell hb g4
theorem bcell {W w1 : World} (hb : Below W.heap.size W w1) : (∀ b o, b < W.heap.size -> w1.cell? ⟨b, o, none⟩ = W.cell? ⟨b, o, none⟩) /\ (∀ b o, b < W.heap.size -> w1.frozen? ⟨b, o, none⟩ = W.frozen? ⟨b, o, none⟩) :=
 ⟨fun b o h => hb.cell (p := ⟨b, o, none⟩) h, fun b o h => hb.frozen (p := ⟨b, o, none⟩) h⟩
end Go.Proofs.YtmjhcgjhlakceaaGreatDoor

namespace Go.Proofs.YtmjhcgjhlakceaaGreatDoor
open Go.RowKit
structure Near (bb : Nat) (w w' : World) : Prop where
 os : w'.os = w.os
 tape : w'.tape = w.tape
 output : w'.output = w.output
 size : w.heap.size <= w'.heap.size
 block : ∀ k, k < w.heap.size -> k ≠ bb -> w'.heap[k]? = w.heap[k]?
theorem Near.refl (bb : Nat) (w : World) : Near bb w w := ⟨rfl, rfl, rfl, Nat.le_refl _, fun _ _ _ => rfl⟩
theorem Near.trans {bb : Nat} {a b c : World} (h : Near bb a b) (k : Near bb b c) : Near bb a c :=
 ⟨k.os.trans h.os, k.tape.trans h.tape, k.output.trans h.output, Nat.le_trans h.size k.size, fun i hi hne => (k.block i (Nat.lt_of_lt_of_le hi h.size) hne).trans (h.block i hi hne)⟩
theorem Near.of_below {bb : Nat} {a b : World} (h : Below a.heap.size a b) : Near bb a b := ⟨h.os, h.tape, h.output, h.size, fun k hk _ => h.block k hk⟩
theorem Near.set (bb o : Nat) (w : World) (v : Value) : Near bb w (w.setCell ⟨bb, o, none⟩ v) := ⟨rfl, rfl, rfl, by simp, fun k _ hne => Below.heap_setCell _ _ _ _ hne⟩
theorem Near.alloc (bb : Nat) (w : World) (o : Obj) : Near bb w (w.alloc o) := .of_below ((Below.refl _ _).alloc (Nat.le_refl _) o)
theorem Near.below {bb B : Nat} {a b : World} (h : Near bb a b) (h1 : B <= bb) (h2 : B <= a.heap.size) : Below B a b := ⟨h.os, h.tape, h.output, h.size, fun k hk => h.block k (by omega) (by omega)⟩
def Prt (w : World) (pb : Nat) (p : Int) : Prop := w.heap[pb]? = some (.cells #[.int .i64 p] 3 (0, 0))
theorem Prt.cell {w : World} {pb : Nat} {p : Int} (h : Prt w pb p) : w.cell? ⟨pb, 0, none⟩ = some (.int .i64 p) := by
 unfold Prt at h; simp [World.cell?, h]
theorem Prt.free {w : World} {pb : Nat} {p : Int} (h : Prt w pb p) : w.frozen? ⟨pb, 0, none⟩ = false := by
 unfold Prt at h; simp [World.frozen?, h]
theorem Prt.lt {w : World} {pb : Nat} {p : Int} (h : Prt w pb p) : pb < w.heap.size := by
 unfold Prt at h
 exact (Array.getElem?_eq_some_iff.1 h).1
theorem Prt.set {w : World} {pb : Nat} {p : Int} (h : Prt w pb p) (q : Int) : Prt (w.setCell ⟨pb, 0, none⟩ (.int .i64 q)) pb q := by
 unfold Prt at h ⊢; simp [World.setCell, Array.getElem?_modify, h]
theorem Prt.new (w : World) (p : Int) : Prt (w.alloc (.cells #[.int .i64 p] 3)) w.heap.size p := by
 show (w.heap.push _)[w.heap.size]? = _; simp
theorem Prt.keep {w w' : World} {pb : Nat} {p : Int} (h : Prt w pb p) (hb : Below w.heap.size w w') : Prt w' pb p := (hb.block pb h.lt).trans h
theorem Near.same {pb : Nat} {S : Nat -> Prop} {w w' : World} (h : Near pb w w') (hS : ∀ b, S b -> b < w.heap.size /\ b ≠ pb) : Same S w w' := fun b hb => h.block b (hS b hb).1 (hS b hb).2
theorem Near.drew {pb : Nat} {w w' : World} (h : Near pb w w') : Near pb w w'.drew := ⟨h.os, h.tape, h.output, h.size, h.block⟩
theorem Near.cell {pb b o : Nat} {w w' : World} {v : Value} (h : Near pb w w') (hc : w.cell? ⟨b, o, none⟩ = some v) (hne : b ≠ pb) : w'.cell? ⟨b, o, none⟩ = some v := by
 have hlt : b < w.heap.size := Classical.byContradiction fun hge => by
  have : w.heap[b]? = none := Array.getElem?_eq_none (by omega)
  simp [World.cell?, this] at hc
 exact (World.cell?_of_block (w := w) (w' := w') (a := ⟨b, o, none⟩) (h.block b hlt hne)).trans hc
theorem cell_lt0 {w : World} {b o : Nat} {v : Value} (h : w.cell? ⟨b, o, none⟩ = some v) : b < w.heap.size :=
 Classical.byContradiction fun hge => by
  have : w.heap[b]? = none := Array.getElem?_eq_none (by omega)
  simp [World.cell?, this] at h
structure Cap (w : World) (pb mb ab : Nat) (p M : Int) (F : Nat) : Prop where
 parts : Prt w pb p
 max : w.cell? ⟨mb, 0, none⟩ = some (.int .i64 M)
 acc : w.cell? ⟨ab, 0, none⟩ = some (.func (.func F) #[] #[])
 nm : mb ≠ pb
 na : ab ≠ pb
theorem Cap.keep {w w' : World} {pb mb ab : Nat} {p q M : Int} {F : Nat} (h : Cap w pb mb ab p M F) (hn : Near pb w w') (hp : Prt w' pb q) : Cap w' pb mb ab q M F :=
 ⟨hp, hn.cell h.max h.nm, hn.cell h.acc h.na, h.nm, h.na⟩
end Go.Proofs.YtmjhcgjhlakceaaGreatDoor

namespace Go.Proofs.YtmjhcgjhlakceaaGreatDoor
open Go.RowKit
def okByte (c : UInt8) : Bool := decide (32 <= (c.toNat : Int) /\ (c.toNat : Int) <= 126 /\ ¬ (c.toNat : Int) = 34)
def textB (s : ByteArray) : Bool := decide (s.size <= 60) && s.data.toList.all okByte
def nmByte (c : UInt8) : Bool := decide ((97 <= (c.toNat : Int) /\ (c.toNat : Int) <= 122) ∨ (48 <= (c.toNat : Int) /\ (c.toNat : Int) <= 57))
def upByte (c : UInt8) : Bool := decide (97 <= (c.toNat : Int) /\ (c.toNat : Int) <= 122)
def nameB (s : ByteArray) : Bool := decide (1 <= s.size /\ s.size <= 8) && upByte (s.data.toList.headD 0) && s.data.toList.all nmByte
def ltB (a b : ByteArray) : Bool := Op.bytesLess a.toList b.toList
def riseAt (l : List ByteArray) (i : Nat) : Bool := nameB (l.getD i ByteArray.empty) && (i == 0 || ltB (l.getD (i - 1) ByteArray.empty) (l.getD i ByteArray.empty))
def riseTo (l : List ByteArray) (k : Nat) : Bool := (List.range k).all (riseAt l)
def riseB (l : List ByteArray) : Bool := riseTo l l.length
theorem riseTo_succ (l : List ByteArray) (k : Nat) : riseTo l (k + 1) = (riseTo l k && riseAt l k) := by
 simp [riseTo, List.range_succ]
theorem riseTo_false (l : List ByteArray) (k : Nat) (h : k < l.length) (hf : riseAt l k = false) : riseB l = false := by
 unfold riseB riseTo
 rw [List.all_eq_false]
 exact ⟨k, List.mem_range.2 h, by simp [hf]⟩
theorem all_false_at {s : ByteArray} {p : UInt8 -> Bool} (k : Nat) (h : k < s.size) (hf : p s[k] = false) : s.data.toList.all p = false := by
 rw [List.all_eq_false]
 exact ⟨s[k], by simp [ByteArray.getElem_eq_getElem_data], by simp [hf]⟩
theorem all_take_succ {s : ByteArray} {p : UInt8 -> Bool} (k : Nat) (h : k < s.size) (ht : (s.data.toList.take k).all p = true) (hf : p s[k] = true) : (s.data.toList.take (k + 1)).all p = true := by
 rw [List.take_succ_eq_append_getElem (by simpa using h)]
 rw [List.all_append, ht]
 simpa [ByteArray.getElem_eq_getElem_data] using hf
theorem all_take_all {s : ByteArray} {p : UInt8 -> Bool} (k : Nat) (h : s.size <= k) (ht : (s.data.toList.take k).all p = true) : s.data.toList.all p = true := by
 rw [List.take_of_length_le (by simpa using h)] at ht; exact ht
def aloneF (s m : Int) (x : ByteArray) (l : List ByteArray) (kl : Nat) : Bool :=
 if s = 1 then decide (-999999999 <= m /\ m <= 999999999) && x.toList.isEmpty && ((l.length : Int) == 0) && ((kl : Int) == 0)
 else if s = 2 then (m == 0) && textB x && ((l.length : Int) == 0) && ((kl : Int) == 0)
 else if s = 3 then decide (0 <= m /\ m <= 1) && x.toList.isEmpty && ((l.length : Int) == 0) && ((kl : Int) == 0)
 else if s = 4 then (m == 0) && x.toList.isEmpty && ((l.length : Int) == 0) && decide ((kl : Int) <= 20)
 else if s = 5 then (m == 0) && x.toList.isEmpty && ((l.length : Int) == (kl : Int)) && riseB l
 else if s = 6 then (m == 0) && x.toList.isEmpty && ((l.length : Int) == 0) && decide ((kl : Int) <= 1)
 else false
def aloneB {α : Type} (t : Nd α) : Bool := aloneF t.sort t.num t.text t.names t.kids.length
def goodT : (n : Nat) -> T n -> Int -> Bool
 | 0, _, _ => false
 | n + 1, t, d => decide (d <= 6) && aloneB (show Nd (T n) from t) && (Nd.kids t).all (fun k => goodT n k (d + 1))
def okT (n : Nat) (t : T n) : Bool := goodT n t 1 && decide (cntT n t <= 120)
theorem cntT_pos : ∀ (n : Nat) (t : T n) (d : Int), goodT n t d = true -> 1 <= cntT n t := by
 intro n t d h
 cases n with
 | zero => simp [goodT] at h
 | succ n => simp only [cntT]; omega
end Go.Proofs.YtmjhcgjhlakceaaGreatDoor

namespace Go.Proofs.YtmjhcgjhlakceaaGreatDoor
open Go.RowKit
def bs (l : List UInt8) : ByteArray := ⟨l.toArray⟩
theorem bs_append (a b : List UInt8) : bs a ++ bs b = bs (a ++ b) := by
 apply ByteArray.ext
 simp [bs]
theorem bs_size (l : List UInt8) : (bs l).size = l.length := by simp [bs, ByteArray.size]
theorem bs_of (s : ByteArray) : bs s.data.toList = s := by
 apply ByteArray.ext; simp [bs]
theorem bs_toList (l : List UInt8) : (bs l).data.toList = l := by simp [bs]
def joinL : List (List UInt8) -> List UInt8
 | [] => []
 | [x] => x
 | x :: y :: r => x ++ 44 :: joinL (y :: r)
theorem joinL_snoc (l : List (List UInt8)) (x : List UInt8) (h : l ≠ []) : joinL (l ++ [x]) = joinL l ++ 44 :: x := by
 induction l with
 | nil => exact absurd rfl h
 | cons a r ih =>
  cases r with
  | nil => simp [joinL]
  | cons b r => simp only [List.cons_append, joinL] at ih ⊢; rw [ih (by simp)]; simp
def zipL : List ByteArray -> List (List UInt8) -> List (List UInt8)
 | a :: r, x :: s => (a.data.toList ++ 58 :: x) :: zipL r s
 | _, _ => []
def lenL (l : List (List UInt8)) : Nat := sumL (fun x => x.length + 10) l
theorem joinL_len (l : List (List UInt8)) : (joinL l).length <= lenL l := by
 induction l with
 | nil => simp [joinL]
 | cons a r ih =>
  cases r with
  | nil => simp [joinL, lenL, sumL]
  | cons b r => simp only [joinL, lenL, sumL, List.length_append, List.length_cons] at ih ⊢; omega
theorem zipL_len (a : List ByteArray) (l : List (List UInt8)) (h : ∀ s, s ∈ a -> s.size <= 8) : (joinL (zipL a l)).length <= lenL l := by
 have key : ∀ (a : List ByteArray) (l : List (List UInt8)), (∀ s, s ∈ a -> s.size <= 8) -> (joinL (zipL a l)).length + (if (zipL a l).isEmpty then 0 else 1) <= lenL l := by
  intro a
  induction a with
  | nil => intro l _; simp [zipL, joinL]
  | cons s r ih =>
   intro l h
   cases l with
   | nil => simp [zipL, joinL]
   | cons x t =>
    have hs : s.size <= 8 := h s (List.mem_cons_self ..)
    have hs' : s.data.toList.length <= 8 := by simpa using hs
    have := ih t (fun u hu => h u (List.mem_cons_of_mem _ hu))
    simp only [zipL, lenL, sumL] at this ⊢
    cases hz : zipL r t with
    | nil => simp [joinL]; rw [hz] at this; simp [joinL] at this; simp at hs'; omega
    | cons y z =>
     rw [hz] at this
     simp only [joinL, List.length_append, List.length_cons] at this ⊢
     simp at this ⊢
     simp at hs'
     omega
 have := key a l h
 omega
theorem sumL_le {α : Type} (f g : α -> Nat) (l : List α) (h : ∀ x, x ∈ l -> f x <= g x) : sumL f l <= sumL g l := by
 induction l with
 | nil => simp [sumL]
 | cons a r ih =>
  have h1 := h a (List.mem_cons_self ..)
  have h2 := ih (fun x hx => h x (List.mem_cons_of_mem _ hx))
  simp only [sumL]; omega
theorem sumL_map {α β : Type} (f : β -> Nat) (g : α -> β) (l : List α) : sumL f (l.map g) = sumL (fun x => f (g x)) l := by
 induction l with
 | nil => rfl
 | cons a r ih => simp only [List.map_cons, sumL, ih]
theorem sumL_mul {α : Type} (c : Nat) (f : α -> Nat) (l : List α) : sumL (fun x => c * f x) l = c * sumL f l := by
 induction l with
 | nil => simp [sumL]
 | cons a r ih => simp only [sumL, ih, Nat.mul_add]
theorem riseB_names (l : List ByteArray) (h : riseB l = true) : ∀ s, s ∈ l -> s.size <= 8 := by
 intro s hs
 obtain ⟨i, hi, rfl⟩ := List.getElem_of_mem hs
 unfold riseB riseTo at h
 have := List.all_eq_true.1 h i (List.mem_range.2 hi)
 simp only [riseAt, Bool.and_eq_true, nameB, decide_eq_true_eq] at this
 have h2 := this.1.1.1.2
 simpa [List.getD, hi] using h2
theorem joinL_take_len (l : List (List UInt8)) (k : Nat) : (joinL (l.take k)).length <= (joinL l).length := by
 induction l generalizing k with
 | nil => simp [joinL]
 | cons a r ih =>
  cases k with
  | zero => simp [joinL]
  | succ k =>
   rw [List.take_succ_cons]
   cases r with
   | nil => simp [joinL]
   | cons b r =>
    cases k with
    | zero => simp [joinL]
    | succ k =>
     have := ih (k + 1)
     rw [List.take_succ_cons] at this ⊢
     simp only [joinL, List.length_append, List.length_cons] at this ⊢
     omega
theorem joinL_take_succ (l : List (List UInt8)) (k : Nat) (h : k < l.length) : joinL (l.take (k + 1)) = (if k = 0 then [] else joinL (l.take k) ++ [44]) ++ l[k] := by
 rw [List.take_succ_eq_append_getElem h]
 by_cases hk : k = 0
 ·subst hk; simp [joinL]
 ·rw [if_neg hk, joinL_snoc _ _ (by intro e; have := congrArg List.length e; rw [List.length_take, List.length_nil] at this; omega)]; simp
theorem zipL_length (a : List ByteArray) (l : List (List UInt8)) (h : a.length = l.length) : (zipL a l).length = l.length := by
 induction a generalizing l with
 | nil => cases l with
  | nil => rfl
  | cons x r => simp at h
 | cons s r ih => cases l with
  | nil => simp at h
  | cons x t => simp only [zipL, List.length_cons] at h ⊢; rw [ih t (by omega)]
theorem zipL_get (a : List ByteArray) (l : List (List UInt8)) (k : Nat) (h1 : k < a.length) (h2 : k < l.length) (h3 : k < (zipL a l).length) : (zipL a l)[k] = a[k].data.toList ++ 58 :: l[k] := by
 induction a generalizing l k with
 | nil => simp at h1
 | cons s r ih => cases l with
  | nil => simp at h2
  | cons x t => cases k with
   | zero => rfl
   | succ k =>
    simp only [zipL, List.getElem_cons_succ]
    exact ih t k (by simpa using h1) (by simpa using h2) (by simpa [zipL] using h3)
end Go.Proofs.YtmjhcgjhlakceaaGreatDoor

namespace Go.Proofs.YtmjhcgjhlakceaaGreatDoor
open Go.RowKit
theorem takeWhile_all {p : UInt8 -> Bool} (a b : List UInt8) (h : ∀ c, c ∈ a -> p c = true) (hb : ∀ c r, b = c :: r -> p c = false) : (a ++ b).takeWhile p = a := by
 induction a with
 | nil => cases b with
  | nil => rfl
  | cons c r => simp [hb c r rfl]
 | cons x r ih =>
  rw [List.cons_append, List.takeWhile_cons, h x (List.mem_cons_self ..)]
  simp only [if_true]
  rw [ih (fun c hc => h c (List.mem_cons_of_mem _ hc))]
theorem dropWhile_all {p : UInt8 -> Bool} (a b : List UInt8) (h : ∀ c, c ∈ a -> p c = true) (hb : ∀ c r, b = c :: r -> p c = false) : (a ++ b).dropWhile p = b := by
 induction a with
 | nil => cases b with
  | nil => rfl
  | cons c r => simp [hb c r rfl]
 | cons x r ih =>
  rw [List.cons_append, List.dropWhile_cons, h x (List.mem_cons_self ..)]
  simp only [if_true]
  exact ih (fun c hc => h c (List.mem_cons_of_mem _ hc))
def untilP (c : UInt8) (s : List UInt8) : Option (List UInt8 × List UInt8) :=
 if s.contains c then some (s.takeWhile (· != c), s.dropWhile (· != c)) else none
def eatP (w s : List UInt8) : Option (List UInt8) := if w.isPrefixOf s then some (s.drop w.length) else none
theorem eatP_some {w s r : List UInt8} (h : eatP w s = some r) : s = w ++ r := by
 unfold eatP at h
 split at h
 ·next hp =>
  cases h
  obtain ⟨t, rfl⟩ := List.isPrefixOf_iff_prefix.1 hp
  simp
 ·cases h
theorem eatP_append (w r : List UInt8) : eatP w (w ++ r) = some r := by
 unfold eatP
 rw [if_pos (List.isPrefixOf_iff_prefix.2 ⟨r, rfl⟩)]
 simp
theorem eatP_one_cons (c : UInt8) (r : List UInt8) : eatP [c] (c :: r) = some r := eatP_append [c] r
theorem eatP_one_ne (c d : UInt8) (r : List UInt8) (h : d ≠ c) : eatP [c] (d :: r) = none := by
 unfold eatP
 rw [if_neg]
 simp only [List.isPrefixOf, Bool.and_true, beq_iff_eq]
 exact fun e => h e.symm
theorem untilP_some {c : UInt8} {s w r : List UInt8} (h : untilP c s = some (w, r)) : ∃ r', r = c :: r' /\ s = w ++ c :: r' /\ ∀ x, x ∈ w -> x ≠ c := by
 unfold untilP at h
 split at h
 ·next hc =>
  cases h
  induction s with
  | nil => simp at hc
  | cons x s ih =>
   by_cases hx : x = c
   ·subst hx; exact ⟨s, by simp⟩
   ·have hc' : s.contains c = true := by
     have h1 : c = x ∨ c ∈ s := by simpa using hc
     rcases h1 with h1 | h1
     ·exact absurd h1.symm hx
     ·simpa using h1
    obtain ⟨r', h1, h2, h3⟩ := ih hc'
    have hb : (x != c) = true := by simpa using hx
    refine ⟨r', ?_, ?_, ?_⟩
    ·rw [List.dropWhile_cons, hb]; simpa using h1
    ·rw [List.takeWhile_cons, hb]; simpa using h2
    ·intro y hy
     rw [List.takeWhile_cons, hb] at hy
     simp only [if_true] at hy
     rcases List.mem_cons.1 hy with rfl | hy
     ·exact hx
     ·exact h3 y hy
 ·cases h
theorem untilP_append (c : UInt8) (w r : List UInt8) (h : ∀ x, x ∈ w -> x ≠ c) : untilP c (w ++ c :: r) = some (w, c :: r) := by
 unfold untilP
 rw [if_pos (by simp)]
 have h1 : ∀ x, x ∈ w -> (x != c) = true := fun x hx => by simpa using h x hx
 have h2 : ∀ x y, (c :: r) = x :: y -> (x != c) = false := by intro x y e; cases e; simp
 rw [takeWhile_all w (c :: r) h1 h2, dropWhile_all w (c :: r) h1 h2]
def tailL (first : Bool) : List (List UInt8) -> List UInt8
 | [] => []
 | x :: r => (if first = true then x else 44 :: x) ++ tailL false r
theorem tailL_cons_false (x : List UInt8) (r : List (List UInt8)) : tailL false (x :: r) = 44 :: joinL (x :: r) := by
 induction r generalizing x with
 | nil => simp [tailL, joinL]
 | cons y r ih => rw [tailL, ih]; simp [joinL]
theorem tailL_true (l : List (List UInt8)) : tailL true l = joinL l := by
 cases l with
 | nil => rfl
 | cons x r =>
  cases r with
  | nil => simp [tailL, joinL]
  | cons y r => rw [tailL, tailL_cons_false]; simp [joinL]
theorem nameB_bytes {s : ByteArray} (h : nameB s = true) : ∀ c, c ∈ s.data.toList -> nmByte c = true := by
 simp only [nameB, Bool.and_eq_true] at h
 exact List.all_eq_true.1 h.2
theorem nm_ne {c : UInt8} (h : nmByte c = true) : c ≠ 58 /\ c ≠ 125 /\ c ≠ 44 := by
 refine ⟨?_, ?_, ?_⟩ <;> (rintro rfl; exact absurd h (by decide))
theorem riseB_name {l : List ByteArray} (h : riseB l = true) : ∀ s, s ∈ l -> nameB s = true := by
 intro s hs
 obtain ⟨i, hi, rfl⟩ := List.getElem_of_mem hs
 unfold riseB riseTo at h
 have := List.all_eq_true.1 h i (List.mem_range.2 hi)
 simp only [riseAt, Bool.and_eq_true] at this
 have h2 := this.1
 rwa [List.getD_eq_getElem?_getD, List.getElem?_eq_getElem hi] at h2
theorem untilP_at (c : UInt8) (l : List UInt8) (k : Nat) (h : ∀ x, x ∈ l.take k -> x ≠ c) (he : l.drop k = c :: l.drop (k + 1)) : untilP c l = some (l.take k, l.drop k) := by
 have e : l = l.take k ++ c :: l.drop (k + 1) := by rw [<- he]; simp
 conv => lhs; rw [e]
 rw [untilP_append c _ _ h, he]
theorem untilP_never (c : UInt8) (l : List UInt8) (h : ∀ x, x ∈ l -> x ≠ c) : untilP c l = none := by
 unfold untilP
 rw [if_neg]
 intro hc
 have : c ∈ l := by simpa using hc
 exact h c this rfl
theorem extract_toList (s : ByteArray) (i k : Nat) : (s.extract i (i + k)).toList = (s.data.toList.drop i).take k := by
 rw [ByteArray.toList_eq]
 have : (s.extract i (i + k)).data.toList = (s.data.toList.drop i).take k := by
  simp [ByteArray.data_extract, List.extract_eq_take_drop]
 exact this
theorem eatP_yes (s : ByteArray) (i : Nat) (w : ByteArray) (he : (s.extract i (i + w.size)).toList = w.toList) : eatP w.data.toList (s.data.toList.drop i) = some (s.data.toList.drop (i + w.size)) := by
 rw [extract_toList s i w.size, ByteArray.toList_eq] at he
 unfold eatP
 have hp : w.data.toList <+: s.data.toList.drop i := by rw [<- he]; exact List.take_prefix _ _
 rw [if_pos (List.isPrefixOf_iff_prefix.2 hp), List.drop_drop]
 simp
theorem eatP_no (s : ByteArray) (i : Nat) (w : ByteArray) (hi : i <= s.size) (h : ¬ (i + w.size <= s.size /\ (s.extract i (i + w.size)).toList = w.toList)) : eatP w.data.toList (s.data.toList.drop i) = none := by
 unfold eatP
 rw [if_neg]
 intro hp
 obtain ⟨t, ht⟩ := List.isPrefixOf_iff_prefix.1 hp
 apply h
 have hl := congrArg List.length ht
 simp at hl
 refine ⟨by omega, ?_⟩
 rw [extract_toList s i w.size, <- ht, ByteArray.toList_eq]
 have : w.size = w.data.toList.length := by simp
 rw [this, List.take_left]
theorem drop_at (s : ByteArray) (j : Nat) (h : j < s.size) : s.data.toList.drop j = s[j] :: s.data.toList.drop (j + 1) := by
 rw [List.drop_eq_getElem_cons (by simpa using h)]
 simp [ByteArray.getElem_eq_getElem_data]
theorem take_more (s : ByteArray) (i k : Nat) (c : UInt8) (h : i + k < s.size) (ha : ∀ x, x ∈ (s.data.toList.drop i).take k -> x ≠ c) (hc : s[i + k] ≠ c) : ∀ x, x ∈ (s.data.toList.drop i).take (k + 1) -> x ≠ c := by
 intro x hx
 have hl : k < (s.data.toList.drop i).length := by simp; omega
 rw [List.take_succ_eq_append_getElem hl] at hx
 rcases List.mem_append.1 hx with hx | hx
 ·exact ha x hx
 ·rw [List.mem_singleton] at hx
  subst hx
  simpa [ByteArray.getElem_eq_getElem_data] using hc
theorem extract_bs (s : ByteArray) (i k : Nat) : s.extract i (i + k) = bs ((s.data.toList.drop i).take k) := by
 have := extract_toList s i k
 rw [ByteArray.toList_eq] at this
 rw [<- this, bs_of]
end Go.Proofs.YtmjhcgjhlakceaaGreatDoor

namespace Go.Proofs.YtmjhcgjhlakceaaGreatDoor
open Go.RowKit
structure Kd (α : Type) where
 sort : Int
 names : List ByteArray
 kids : List α
def K : Nat -> Type
 | 0 => Empty
 | n + 1 => Kd (K n)
def szK : (n : Nat) -> K n -> Nat
 | 0, _ => 0
 | n + 1, t => szN (Kd.names t) + sumL (fun k => szK n k + 1) (Kd.kids t)
def cntK : (n : Nat) -> K n -> Nat
 | 0, _ => 0
 | n + 1, t => 1 + sumL (fun k => cntK n k) (Kd.kids t)
def aloneKF (s : Int) (l : List ByteArray) (kl : Nat) : Bool :=
 if s = 1 then ((l.length : Int) == 0) && ((kl : Int) == 0)
 else if s = 2 then ((l.length : Int) == 0) && ((kl : Int) == 0)
 else if s = 3 then ((l.length : Int) == 0) && ((kl : Int) == 0)
 else if s = 4 then ((l.length : Int) == 0) && ((kl : Int) == 1)
 else if s = 5 then ((l.length : Int) == (kl : Int)) && riseB l
 else if s = 6 then ((l.length : Int) == 0) && ((kl : Int) == 1)
 else false
def aloneK {α : Type} (t : Kd α) : Bool := aloneKF t.sort t.names t.kids.length
def goodK : (n : Nat) -> K n -> Int -> Bool
 | 0, _, _ => false
 | n + 1, t, d => decide (d <= 6) && aloneK (show Kd (K n) from t) && (Kd.kids t).all (fun k => goodK n k (d + 1))
def okK (n : Nat) (t : K n) : Bool := goodK n t 1 && decide (cntK n t <= 40)
theorem cntK_pos : ∀ (n : Nat) (t : K n) (d : Int), goodK n t d = true -> 1 <= cntK n t := by
 intro n t d h
 cases n with
 | zero => simp [goodK] at h
 | succ n => simp only [cntK]; omega
def partsK (n : Nat) (t : K n) (d : Int) : Int := if goodK n t d = true /\ cntK n t <= 40 then (cntK n t : Int) else -1
theorem partsK_no (n : Nat) (t : K (n + 1)) (d : Int) (h : (decide (d <= 6) && aloneK (show Kd (K n) from t)) = false) : partsK (n + 1) t d = -1 := by
 unfold partsK; rw [if_neg]; rintro ⟨h1, -⟩; simp only [goodK, h, Bool.false_and] at h1; cases h1
theorem partsK_kid (n : Nat) (t : K (n + 1)) (d : Int) (k : Nat) (hk : k < (Kd.kids t).length) (h : partsK n (Kd.kids t)[k] (d + 1) < 0) : partsK (n + 1) t d = -1 := by
 unfold partsK; rw [if_neg]
 rintro ⟨h1, h2⟩
 simp only [goodK, Bool.and_eq_true, List.all_eq_true] at h1
 have hg := h1.2 _ (List.getElem_mem hk)
 have hc := sumL_mono (fun k => cntK n k) (Kd.kids t) _ (List.getElem_mem hk)
 simp only [cntK] at h2
 unfold partsK at h
 rw [if_pos ⟨hg, by omega⟩] at h
 omega
theorem partsK_many (n : Nat) (t : K (n + 1)) (d : Int) (k : Nat) (h : 40 < 1 + sumL (fun k => cntK n k) ((Kd.kids t).take k)) : partsK (n + 1) t d = -1 := by
 unfold partsK; rw [if_neg]
 rintro ⟨-, h2⟩
 have := sumL_append (fun k => cntK n k) ((Kd.kids t).take k) ((Kd.kids t).drop k)
 rw [List.take_append_drop] at this
 simp only [cntK] at h2
 omega
theorem partsK_yes (n : Nat) (t : K (n + 1)) (d : Int) (h : (decide (d <= 6) && aloneK (show Kd (K n) from t)) = true) (hall : (Kd.kids t).all (fun k => goodK n k (d + 1)) = true) (hs : 1 + sumL (fun k => cntK n k) (Kd.kids t) <= 40) :
  partsK (n + 1) t d = 1 + (sumL (fun k => cntK n k) (Kd.kids t) : Int) := by
 unfold partsK; rw [if_pos]
 ·simp only [cntK]; omega
 ·exact ⟨by simp only [goodK, h, hall, Bool.and_self], by simp only [cntK]; omega⟩
theorem partsK_get (n : Nat) (t : K n) (d : Int) (h : 0 <= partsK n t d) : partsK n t d = cntK n t /\ goodK n t d = true /\ cntK n t <= 40 := by
 unfold partsK at h ⊢
 by_cases hc : goodK n t d = true /\ cntK n t <= 40
 ·rw [if_pos hc]; exact ⟨rfl, hc⟩
 ·rw [if_neg hc] at h; omega
theorem partsK_le (n : Nat) (t : K n) (d : Int) : -1 <= partsK n t d /\ partsK n t d <= 40 := by
 unfold partsK; split <;> omega
theorem okK_eq (n : Nat) (t : K n) : decide (0 < partsK n t 1) = okK n t := by
 unfold partsK okK
 by_cases hc : goodK n t 1 = true /\ cntK n t <= 40
 ·rw [if_pos hc, hc.1]
  have := cntK_pos n t 1 hc.1
  simp [hc.2]; omega
 ·rw [if_neg hc]
  cases hg : goodK n t 1 with
  | false => simp
  | true => simp [hg] at hc; simp; omega
theorem all_take_kidK {α : Type} {p : α -> Bool} {l : List α} (k : Nat) (h : k < l.length) (ht : (l.take k).all p = true) (hf : p l[k] = true) : (l.take (k + 1)).all p = true := by
 rw [List.take_succ_eq_append_getElem h, List.all_append, ht]; simpa using hf
end Go.Proofs.YtmjhcgjhlakceaaGreatDoor

namespace Go.Proofs.YtmjhcgjhlakceaaGreatDoor
open Go.RowKit
def headL {α : Type} (f : α -> List UInt8) : List α -> List UInt8
 | [] => []
 | k :: _ => f k
def txtK : (n : Nat) -> K n -> List UInt8
 | 0, _ => []
 | n + 1, t =>
  if Kd.sort t = 1 then [110, 117, 109]
  else if Kd.sort t = 2 then [116, 101, 120, 116]
  else if Kd.sort t = 3 then [102, 108, 97, 103]
  else if Kd.sort t = 4 then 91 :: headL (txtK n) (Kd.kids t) ++ [93]
  else if Kd.sort t = 6 then 63 :: headL (txtK n) (Kd.kids t)
  else 123 :: joinL (zipL (Kd.names t) ((Kd.kids t).map (txtK n))) ++ [125]
end Go.Proofs.YtmjhcgjhlakceaaGreatDoor

namespace Go.Proofs.YtmjhcgjhlakceaaGreatDoor
open Go.RowKit
def formQ {α : Type} (f : List UInt8 -> Option (α × List UInt8)) : Nat -> List ByteArray -> List α -> List UInt8 -> Option (List ByteArray × List α × List UInt8)
 | 0, _, _, _ => none
 | k + 1, ns, acc, s =>
  match eatP [125] s with
  | some r => some (ns, acc, r)
  | none =>
   match (if ns.length = 0 then some s else eatP [44] s) with
   | none => none
   | some s1 =>
    match untilP 58 s1 with
    | none => none
    | some (w, s2) =>
     match f (s2.drop 1) with
     | none => none
     | some (t, r) => formQ f k (ns ++ [bs w]) (acc ++ [t]) r
theorem formQ_sound {α : Type} (f : List UInt8 -> Option (α × List UInt8)) (txt : α -> List UInt8) (hf : ∀ s t r, f s = some (t, r) -> s = txt t ++ r)
  (fuel : Nat) (ns : List ByteArray) (acc : List α) (s : List UInt8) (nl : List ByteArray) (l : List α) (r : List UInt8) (h : formQ f fuel ns acc s = some (nl, l, r)) :
  ∃ ms ks, nl = ns ++ ms /\ l = acc ++ ks /\ ms.length = ks.length /\ s = tailL (decide (ns.length = 0)) (zipL ms (ks.map txt)) ++ 125 :: r := by
 induction fuel generalizing ns acc s with
 | zero => simp [formQ] at h
 | succ k ih =>
  rw [formQ] at h
  cases h1 : eatP [125] s with
  | some r1 =>
   rw [h1] at h
   simp only [Option.some.injEq, Prod.mk.injEq] at h
   obtain ⟨rfl, rfl, rfl⟩ := h
   exact ⟨[], [], by simp, by simp, rfl, by simpa [tailL, zipL] using eatP_some h1⟩
  | none =>
   rw [h1] at h
   simp only at h
   cases h2 : (if ns.length = 0 then some s else eatP [44] s) with
   | none => rw [h2] at h; cases h
   | some s1 =>
    rw [h2] at h
    simp only at h
    cases hu : untilP 58 s1 with
    | none => rw [hu] at h; cases h
    | some x =>
    obtain ⟨w, s2⟩ := x
    rw [hu] at h
    simp only at h
    obtain ⟨s3, u1, u2, u3⟩ := untilP_some hu
    subst u1
    simp only [List.drop_succ_cons, List.drop_zero] at h
    cases h3 : f s3 with
    | none => rw [h3] at h; cases h
    | some x =>
     obtain ⟨t, r2⟩ := x
     rw [h3] at h
     simp only at h
     have e1 := hf _ _ _ h3
     obtain ⟨ms, ks, m1, k1, ml, k2⟩ := ih _ _ _ h
     have hacc : decide ((ns ++ [bs w]).length = 0) = false := by simp
     rw [hacc] at k2
     refine ⟨bs w :: ms, t :: ks, by simpa using m1, by simpa using k1, by simp [ml], ?_⟩
     simp only [List.map_cons, zipL, tailL, List.append_assoc, bs_toList]
     by_cases h0 : ns.length = 0
     ·rw [if_pos h0] at h2; cases h2
      simp only [h0, decide_true, if_true, List.append_assoc, List.cons_append]
      rw [<- k2, <- e1]; exact u2
     ·rw [if_neg h0] at h2
      simp only [h0, decide_false, Bool.false_eq_true, if_false, List.cons_append, List.append_assoc]
      rw [<- k2, <- e1, <- u2]; exact eatP_some h2
theorem tailL_count (l : List (List UInt8)) (h : ∀ x, x ∈ l -> x ≠ []) : ∀ b, l.length <= (tailL b l).length := by
 induction l with
 | nil => intro b; simp
 | cons x r ih =>
  intro b
  have h1 := ih (fun y hy => h y (List.mem_cons_of_mem _ hy)) false
  have h2 : 1 <= x.length := by
   cases x with
   | nil => exact absurd rfl (h [] (List.mem_cons_self ..))
   | cons c y => simp
  simp only [tailL, List.length_append, List.length_cons]
  split
  ·omega
  ·simp only [List.length_cons]; omega
theorem zipL_ne (a : List ByteArray) (l : List (List UInt8)) : ∀ x, x ∈ zipL a l -> x ≠ [] := by
 induction a generalizing l with
 | nil => intro x hx; simp [zipL] at hx
 | cons s r ih =>
  intro x hx
  cases l with
  | nil => simp [zipL] at hx
  | cons y t =>
   simp only [zipL] at hx
   rcases List.mem_cons.1 hx with rfl | hx
   ·simp
   ·exact ih t x hx
end Go.Proofs.YtmjhcgjhlakceaaGreatDoor

namespace Go.Proofs.YtmjhcgjhlakceaaGreatDoor
open Go.RowKit
def RowIn3 {α : Type} (S : Nat -> Prop) (w : World) (R : α -> Value -> Value -> Value -> Prop) (l : List α) (v : Value) : Prop :=
 ∃ (ao : Option Addr) (cap : Nat), v = .slice ao l.length cap /\ l.length <= maxLen /\
  (l ≠ [] -> ∃ b off, ao = some ⟨b, off, none⟩ /\ S b /\ ∀ i (h : i < l.length), ∃ c0 c1 c2, w.cell? ⟨b, off + i * 3, none⟩ = some c0 /\ w.cell? ⟨b, off + i * 3 + 1, none⟩ = some c1 /\
   w.cell? ⟨b, off + i * 3 + 2, none⟩ = some c2 /\ R l[i] c0 c1 c2)
def KindIn (S : Nat -> Prop) (w : World) : (n : Nat) -> K n -> Value -> Value -> Value -> Prop
 | 0, _, _, _, _ => False
 | n + 1, t, c0, c1, c2 => c0 = .int .i64 (Kd.sort t) /\ (Lit.int .i64 (Kd.sort t)).wf = true /\ StrsIn S w (Kd.names t) c1 /\ RowIn3 S w (KindIn S w n) (Kd.kids t) c2
theorem RowIn3.keep {α : Type} {S S' : Nat -> Prop} {w w' : World} {R R' : α -> Value -> Value -> Value -> Prop} {l : List α} {v : Value} (h : RowIn3 S w R l v) (hb : Same S w w') (hS : ∀ b, S b -> S' b)
  (hR : ∀ x c0 c1 c2, x ∈ l -> R x c0 c1 c2 -> R' x c0 c1 c2) : RowIn3 S' w' R' l v := by
 obtain ⟨ao, cap, hv, hl, hc⟩ := h
 refine ⟨ao, cap, hv, hl, fun hne => ?_⟩
 obtain ⟨b, off, ha, hB, hcell⟩ := hc hne
 refine ⟨b, off, ha, hS b hB, fun i hi => ?_⟩
 obtain ⟨c0, c1, c2, h0, h1, h2, hr⟩ := hcell i hi
 exact ⟨c0, c1, c2, (hb.cell (p := ⟨b, off + i * 3, none⟩) hB).trans h0, (hb.cell (p := ⟨b, off + i * 3 + 1, none⟩) hB).trans h1, (hb.cell (p := ⟨b, off + i * 3 + 2, none⟩) hB).trans h2,
  hR _ _ _ _ (List.getElem_mem hi) hr⟩
theorem KindIn.keep {S S' : Nat -> Prop} {w w' : World} (hb : Same S w w') (hS : ∀ b, S b -> S' b) : ∀ {n : Nat} {t : K n} {c0 c1 c2 : Value}, KindIn S w n t c0 c1 c2 -> KindIn S' w' n t c0 c1 c2 := by
 intro n
 induction n with
 | zero => intro t c0 c1 c2 h; exact h.elim
 | succ n ih =>
  intro t c0 c1 c2 h
  obtain ⟨h0, hw0, h3, h4⟩ := h
  exact ⟨h0, hw0, h3.keep hb hS, h4.keep hb hS fun x _ _ _ _ hx => ih hx⟩
theorem RowIn3.keepK {S S' : Nat -> Prop} {w w' : World} {n : Nat} {l : List (K n)} {v : Value} (h : RowIn3 S w (KindIn S w n) l v) (hb : Same S w w') (hS : ∀ b, S b -> S' b) : RowIn3 S' w' (KindIn S' w' n) l v :=
 h.keep hb hS fun _ _ _ _ _ hx => hx.keep hb hS
theorem KindIn.shape {S : Nat -> Prop} {w : World} : ∀ {n : Nat} {t : K n} {c0 c1 c2 : Value}, KindIn S w n t c0 c1 c2 ->
  ∃ (s : Int) (a : Option Addr) (l c : Nat) (a' : Option Addr) (l' c' : Nat), c0 = .int .i64 s /\ c1 = .slice a l c /\ c2 = .slice a' l' c' := by
 intro n
 cases n with
 | zero => intro t c0 c1 c2 h; exact h.elim
 | succ n =>
  intro t c0 c1 c2 h
  obtain ⟨h0, hw0, ⟨ao, cap, h3, -⟩, ⟨ao', cap', h4, -⟩⟩ := h
  exact ⟨_, _, _, _, _, _, _, h0, h3, h4⟩
def put3 (w : World) (b o : Nat) (g0 g1 g2 : Value) : World :=
 ((w.setCell ⟨b, o, none⟩ g0).setCell ⟨b, o + 1, none⟩ g1).setCell ⟨b, o + 2, none⟩ g2
theorem put3_other {w : World} {b o : Nat} {g0 g1 g2 : Value} {k : Nat} (h : k ≠ b) : (put3 w b o g0 g1 g2).heap[k]? = w.heap[k]? := by
 unfold put3
 rw [Below.heap_setCell _ _ _ _ h, Below.heap_setCell _ _ _ _ h, Below.heap_setCell _ _ _ _ h]
theorem put3_size {w : World} {b o : Nat} {g0 g1 g2 : Value} : (put3 w b o g0 g1 g2).heap.size = w.heap.size := by
 simp [put3]
structure Box3 (w : World) (N : Nat) (a b c : Value) : Prop where
 c0 : w.cell? ⟨N, 0, none⟩ = some a
 c1 : w.cell? ⟨N, 1, none⟩ = some b
 c2 : w.cell? ⟨N, 2, none⟩ = some c
theorem Box3.keep {w w' : World} {N : Nat} {a b c : Value} (h : Box3 w N a b c) (hb : Below w.heap.size w w') : Box3 w' N a b c := by
 have hl : N < w.heap.size := by
  have h := h.c0
  exact Classical.byContradiction fun hge => by
   have : w.heap[N]? = none := Array.getElem?_eq_none (by omega)
   simp [World.cell?, this] at h
 exact ⟨(hb.cell (p := ⟨N, 0, none⟩) hl).trans h.c0, (hb.cell (p := ⟨N, 1, none⟩) hl).trans h.c1, (hb.cell (p := ⟨N, 2, none⟩) hl).trans h.c2⟩
theorem Box3.new (w : World) (a b c : Value) (t : TypeId) : Box3 (w.alloc (.cells #[a, b, c] t)) w.heap.size a b c :=
 ⟨by simp [go_sem], by simp [go_sem], by simp [go_sem]⟩
theorem KindIn.step {S : Nat -> Prop} {w w' : World} {n : Nat} {t : K n} {c0 c1 c2 : Value} (h : KindIn S w n t c0 c1 c2) (hS : ∀ b, S b -> b < w.heap.size) (hb : Below w.heap.size w w') : KindIn S w' n t c0 c1 c2 /\ (∀ b, S b -> b < w'.heap.size) :=
 ⟨h.keep (same_below hb hS) (fun _ h => h), fun b hb' => Nat.lt_of_lt_of_le (hS b hb') hb.size⟩
end Go.Proofs.YtmjhcgjhlakceaaGreatDoor

namespace Go.Proofs.YtmjhcgjhlakceaaGreatDoor
open Go.RowKit
theorem ret_int {k : IntKind} {a b : Int} (h : a = b) : Ending.returned (.int k a) = .returned (.int k b) := by rw [h]
theorem str_ret {a b : ByteArray} (h : a = b) : Ending.returned (.string a) = .returned (.string b) := by rw [h]
end Go.Proofs.YtmjhcgjhlakceaaGreatDoor

namespace Go.Proofs.YtmjhcgjhlakceaaGreatDoor
open Go.RowKit
structure Box5 (w : World) (N : Nat) (a b c d e : Value) : Prop where
 c0 : w.cell? ⟨N, 0, none⟩ = some a
 c1 : w.cell? ⟨N, 1, none⟩ = some b
 c2 : w.cell? ⟨N, 2, none⟩ = some c
 c3 : w.cell? ⟨N, 3, none⟩ = some d
 c4 : w.cell? ⟨N, 4, none⟩ = some e
theorem Box5.keep {w w' : World} {N : Nat} {a b c d e : Value} (h : Box5 w N a b c d e) (hb : Below w.heap.size w w') : Box5 w' N a b c d e := by
 have hl : N < w.heap.size := by
  have h := h.c0
  exact Classical.byContradiction fun hge => by
   have : w.heap[N]? = none := Array.getElem?_eq_none (by omega)
   simp [World.cell?, this] at h
 exact ⟨(hb.cell (p := ⟨N, 0, none⟩) hl).trans h.c0, (hb.cell (p := ⟨N, 1, none⟩) hl).trans h.c1, (hb.cell (p := ⟨N, 2, none⟩) hl).trans h.c2, (hb.cell (p := ⟨N, 3, none⟩) hl).trans h.c3, (hb.cell (p := ⟨N, 4, none⟩) hl).trans h.c4⟩
theorem Box5.new (w : World) (a b c d e : Value) (t : TypeId) : Box5 (w.alloc (.cells #[a, b, c, d, e] t)) w.heap.size a b c d e :=
 ⟨by simp [go_sem], by simp [go_sem], by simp [go_sem], by simp [go_sem], by simp [go_sem]⟩
theorem TreeIn.step {S : Nat -> Prop} {w w' : World} {n : Nat} {t : T n} {c0 c1 c2 c3 c4 : Value} (h : TreeIn S w n t c0 c1 c2 c3 c4) (hS : ∀ b, S b -> b < w.heap.size) (hb : Below w.heap.size w w') : TreeIn S w' n t c0 c1 c2 c3 c4 /\ (∀ b, S b -> b < w'.heap.size) :=
 ⟨h.keep (same_below hb hS) (fun _ h => h), fun b hb' => Nat.lt_of_lt_of_le (hS b hb') hb.size⟩
end Go.Proofs.YtmjhcgjhlakceaaGreatDoor

namespace Go.Proofs.YtmjhcgjhlakceaaGreatDoor
open Go.RowKit
theorem bool_ret {a b : Bool} (h : a = b) : Ending.returned (.bool a) = .returned (.bool b) := by rw [h]
def digB (n : Int) : Bool := decide (48 <= n /\ n <= 57)
set_option maxHeartbeats 400000 in
theorem isDigit_any (x : Int) (w : World) (_h0 : 0 <= x) (_h1 : x <= 255) : Calls Tryz.prog 56 #[.int .u8 x] w fun e w' => e = .returned (.bool (digB x)) /\ w' = w := by
 by_cases h : 48 <= x <;> by_cases h2 : x <= 57
 all_goals
  go_enter Tryz.func56, Tryz.ntmps56
  go_wp2
  go_ret
  exact ⟨bool_ret (by simp [digB, h, h2]; try omega), rfl⟩
theorem head_eq (s : ByteArray) (h : 0 < s.size) : s.data.toList.headD 0 = s[0] := by
 cases hx : s.data.toList with
 | nil => have := congrArg List.length hx; simp at this; simp [this] at h
 | cons a r => simp [ByteArray.getElem_eq_getElem_data, <- Array.getElem_toList, hx]
theorem nmByte_dig (c : UInt8) (h : nmByte c = true) : upByte c = !digB c.toNat := by
 unfold nmByte at h
 rw [decide_eq_true_eq] at h
 unfold upByte digB
 rcases h with h | h
 ·rw [decide_eq_true h, decide_eq_false (by omega)]; rfl
 ·rw [decide_eq_false (by omega), decide_eq_true h]; rfl
theorem nameB_eq (s : ByteArray) (h1 : 1 <= s.size) (h2 : s.size <= 8) : nameB s = (!digB (s[0].toNat : Int) && s.data.toList.all nmByte) := by
 unfold nameB
 rw [head_eq s (by omega)]
 cases hall : s.data.toList.all nmByte with
 | false => simp
 | true =>
  have h0 : nmByte s[0] = true := List.all_eq_true.1 hall _ (by simp [ByteArray.getElem_eq_getElem_data])
  rw [nmByte_dig _ h0]; simp [h1, h2]
set_option maxHeartbeats 400000 in
theorem isName_any (s : ByteArray) (w : World) (hs : s.size <= maxLen) : Calls Tryz.prog 26 #[.string s] w fun e w' => e = .returned (.bool (nameB s)) /\ w' = w := by
 unfold maxLen at hs
 by_cases hl : 1 <= s.size /\ s.size <= 8
 ·obtain ⟨hl1, hl2⟩ := hl
  have HN : Hid (nameB s = (!digB (s[0].toNat : Int) && s.data.toList.all nmByte)) := nameB_eq s hl1 hl2
  have hu0 : ∀ k (h : k < s.size), (s[k].toNat : Int) <= 255 := fun k h => by have := s[k].toNat_lt; omega
  have hu00 := hu0 0 (by omega)
  cases hd : digB (s[0].toNat : Int) with
  | true =>
   have HF : Hid (nameB s = false) := by show _ = _; rw [HN.out, hd]; simp
   clear hu0
   go_enter Tryz.func26, Tryz.ntmps26
   go_wp2_with fail
   refine (isDigit_any _ _ (by omega) hu00).mono ?_
   rintro e w' ⟨rfl, rfl⟩
   rw [hd]
   go_wp2_with fail
   go_ret
   exact ⟨bool_ret HF.out.symm, rfl⟩
  | false =>
   have HD := hidF hd
   have HU := hidF hu0
   clear hu0 hd
   go_enter Tryz.func26, Tryz.ntmps26
   go_wp2_with fail
   refine (isDigit_any _ _ (by omega) hu00).mono ?_
   rintro e w' ⟨rfl, rfl⟩
   rw [HD.out]
   go_wp2_with fail
   go_loop [19] (fun i => ∃ k : Nat, k <= s.size /\ i = .int .i64 k /\ (s.data.toList.take k).all nmByte = true) (fun i => s.size - (intOf i).toNat)
   case atStart => exact ⟨0, Nat.zero_le _, rfl, by simp⟩
   case round =>
    obtain ⟨k, hk, rfl, hall⟩ := hrel
    have HA := hidF hall
    clear hall
    by_cases hlt : k < s.size
    ·have huk := HU.out k hlt
     have HDig : Hid (digB (s[k].toNat : Int) = decide (48 <= (s[k].toNat : Int) /\ (s[k].toNat : Int) <= 57)) := rfl
     cases hb : nmByte s[k] with
     | true =>
      have HB : Hid (nmByte s[k] = true) := hb
      unfold nmByte at hb
      rw [decide_eq_true_eq] at hb
      rcases hb with ⟨h1, h2⟩ | ⟨h1, h2⟩
      ·have hdk : digB (s[k].toNat : Int) = false := by rw [HDig.out]; exact decide_eq_false (by omega)
       go_wp2_with (go_at_call 56; refine (isDigit_any _ _ (by omega) huk).mono ?_; rintro e w' ⟨rfl, rfl⟩; rw [hdk])
       go_round
       case rel => exact ⟨k + 1, by omega, by go_num, all_take_succ k hlt HA.out HB.out⟩
       case measure => simp [intOf]; omega
      ·have hdk : digB (s[k].toNat : Int) = true := by rw [HDig.out]; exact decide_eq_true ⟨by omega, by omega⟩
       go_wp2_with (go_at_call 56; refine (isDigit_any _ _ (by omega) huk).mono ?_; rintro e w' ⟨rfl, rfl⟩; rw [hdk])
       go_round
       case rel => exact ⟨k + 1, by omega, by go_num, all_take_succ k hlt HA.out HB.out⟩
       case measure => simp [intOf]; omega
     | false =>
      have HF : Hid (nameB s = false) := by show _ = _; rw [nameB, all_false_at k hlt hb]; simp
      unfold nmByte at hb
      rw [decide_eq_false_iff_not] at hb
      have hdk : digB (s[k].toNat : Int) = false := by rw [HDig.out]; exact decide_eq_false (by omega)
      rcases (show (s[k].toNat : Int) < 97 ∨ 122 < (s[k].toNat : Int) by omega) with h1 | h1
      all_goals
       clear hb
       go_wp2_with (go_at_call 56; refine (isDigit_any _ _ (by omega) huk).mono ?_; rintro e w' ⟨rfl, rfl⟩; rw [hdk])
       go_ret
       exact ⟨bool_ret HF.out.symm, rfl⟩
    ·have HF : Hid (nameB s = true) := by show _ = _; rw [HN.out, HD.out, all_take_all k (by omega) HA.out]; simp
     go_wp2_with fail
     go_ret
     exact ⟨bool_ret HF.out.symm, rfl⟩
 ·have HF : Hid (nameB s = false) := by show _ = _; rw [nameB, decide_eq_false hl]; simp
  rcases (show s.size < 1 ∨ 8 < s.size by omega) with h1 | h1
  all_goals
   clear hl
   go_enter Tryz.func26, Tryz.ntmps26
   go_wp2_with fail
   go_ret
   exact ⟨bool_ret HF.out.symm, rfl⟩
end Go.Proofs.YtmjhcgjhlakceaaGreatDoor

namespace Go.Proofs.YtmjhcgjhlakceaaGreatDoor
open Go.RowKit
set_option maxHeartbeats 1000000 in
theorem areFormNames_any (S : Nat -> Prop) (l : List ByteArray) (v : Value) (w : World) (hl : StrsIn S w l v) :
  Calls Tryz.prog 101 #[v] w fun e w' => e = .returned (.bool (riseB l)) /\ w' = w := by
 obtain ⟨ao, cap, rfl, hlen, hs, hc⟩ := hl
 unfold maxLen at hlen
 go_enter Tryz.func101, Tryz.ntmps101
 go_wp2_with fail
 go_loop [7] (fun i => ∃ k : Nat, k <= l.length /\ i = .int .i64 k /\ riseTo l k = true) (fun i => l.length - (intOf i).toNat)
 case atStart => exact ⟨0, Nat.zero_le _, rfl, by simp [riseTo]⟩
 case round =>
  obtain ⟨k, hk, rfl, hall⟩ := hrel
  have HA : Hid (riseTo l k = true) := hall
  clear hall
  by_cases hlt : k < l.length
  ·obtain ⟨b, off, rfl, hbB, hcell⟩ := hc (by intro h; rw [h] at hlt; simp at hlt)
   have f0 := hcell k hlt
   have hsk := hs l[k] (List.getElem_mem hlt)
   have hgk : l.getD k ByteArray.empty = l[k] := by simp [List.getD, hlt]
   cases hnm : nameB l[k] with
   | false =>
    have HF : Hid (riseB l = false) := riseTo_false l k hlt (by simp only [riseAt, hgk, hnm, Bool.false_and])
    have HC : Hid (∀ w, Calls Tryz.prog 26 #[.string l[k]] w fun e w' => e = .returned (.bool false) /\ w' = w) := fun w => by rw [<- hnm]; exact isName_any _ w hsk
    clear hc hs hcell hgk hnm
    generalize l[k] = s at *
    go_wp2_with (go_at_call 26; refine (HC.out _).mono ?_; rintro e w' ⟨rfl, rfl⟩)
    go_ret
    exact ⟨bool_ret HF.out.symm, rfl⟩
   | true =>
    have HC : Hid (∀ w, Calls Tryz.prog 26 #[.string l[k]] w fun e w' => e = .returned (.bool true) /\ w' = w) := fun w => by rw [<- hnm]; exact isName_any _ w hsk
    rcases Nat.eq_zero_or_pos k with rfl | hkp
    ·have HR : Hid (riseTo l (0 + 1) = true) := by show _ = _; rw [riseTo_succ, HA.out, riseAt, hgk, hnm]; rfl
     clear hc hs hcell hgk hnm
     rw [Nat.add_zero] at f0
     generalize l[0] = s at *
     go_wp2_with (go_at_call 26; refine (HC.out _).mono ?_; rintro e w' ⟨rfl, rfl⟩)
     go_round
     case rel => exact ⟨0 + 1, by omega, by go_num, HR.out⟩
     case measure => simp [intOf]; omega
    ·obtain ⟨j, rfl⟩ : ∃ j, k = j + 1 := ⟨k - 1, by omega⟩
     have f1 := hcell j (by omega)
     have hgj : l.getD j ByteArray.empty = l[j] := by simp [List.getD, show j < l.length by omega]
     cases hlt' : ltB l[j] l[j + 1] with
     | false =>
      have HF : Hid (riseB l = false) := riseTo_false l (j + 1) hlt (by simp only [riseAt, hgk, Nat.add_sub_cancel, hgj, hlt']; simp)
      unfold ltB at hlt'
      clear hc hs hcell hgk hgj hnm
      generalize l[j] = r at *
      generalize l[j + 1] = s at *
      go_wp2_with (go_at_call 26; refine (HC.out _).mono ?_; rintro e w' ⟨rfl, rfl⟩)
      go_ret
      exact ⟨bool_ret HF.out.symm, rfl⟩
     | true =>
      have HR : Hid (riseTo l (j + 1 + 1) = true) := by show _ = _; rw [riseTo_succ, HA.out, riseAt, hgk, hnm, Nat.add_sub_cancel, hgj, hlt']; simp
      unfold ltB at hlt'
      clear hc hs hcell hgk hgj hnm
      generalize l[j] = r at *
      generalize l[j + 1] = s at *
      go_wp2_with (go_at_call 26; refine (HC.out _).mono ?_; rintro e w' ⟨rfl, rfl⟩)
      go_round
      case rel => exact ⟨j + 1 + 1, by omega, by go_num, HR.out⟩
      case measure => simp [intOf]; omega
  ·have HF : Hid (riseB l = true) := by show _ = _; rw [riseB, show l.length = k by omega]; exact HA.out
   clear hc hs
   go_wp2_with fail
   go_ret
   exact ⟨bool_ret HF.out.symm, rfl⟩
end Go.Proofs.YtmjhcgjhlakceaaGreatDoor

namespace Go.Proofs.YtmjhcgjhlakceaaGreatDoor
open Go.RowKit
set_option maxHeartbeats 400000 in
theorem isTreeNum_any (x : Int) (w : World) : Calls Tryz.prog 99 #[.int .i64 x] w fun e w' => e = .returned (.bool (decide (-999999999 <= x /\ x <= 999999999))) /\ w' = w := by
 by_cases h : -999999999 <= x <;> by_cases h2 : x <= 999999999
 all_goals
  go_enter Tryz.func99, Tryz.ntmps99
  go_wp2
  go_ret
  exact ⟨bool_ret (by simp [h, h2]; try omega), rfl⟩
set_option maxHeartbeats 400000 in
theorem isTreeText_any (s : ByteArray) (w : World) (hs : s.size <= maxLen) : Calls Tryz.prog 100 #[.string s] w fun e w' => e = .returned (.bool (textB s)) /\ w' = w := by
 unfold maxLen at hs
 by_cases hl : s.size <= 60
 ·go_enter Tryz.func100, Tryz.ntmps100
  go_wp2
  go_loop [9] (fun i => ∃ k : Nat, k <= s.size /\ i = .int .i64 k /\ (s.data.toList.take k).all okByte = true) (fun i => s.size - (intOf i).toNat)
  case atStart => exact ⟨0, Nat.zero_le _, rfl, by simp⟩
  case round =>
   obtain ⟨k, hk, rfl, hall⟩ := hrel
   have HA := hidF hall
   clear hall
   by_cases hlt : k < s.size
   ·cases hb : okByte s[k] with
    | true =>
     have HB : Hid (okByte s[k] = true) := hb
     unfold okByte at hb
     rw [decide_eq_true_eq] at hb
     obtain ⟨h1, h2, h3⟩ := hb
     have h3' : ((s[k].toNat : Int) == 34) = false := by simpa using h3
     clear h3
     go_wp2
     go_round
     case rel => exact ⟨k + 1, by omega, by go_num, all_take_succ k hlt HA.out HB.out⟩
     case measure => simp [intOf]; omega
    | false =>
     have HF : Hid (textB s = false) := by show _ = _; rw [textB, all_false_at k hlt hb]; simp
     unfold okByte at hb
     rw [decide_eq_false_iff_not] at hb
     go_wp2
     all_goals first
      | (go_ret; exact ⟨bool_ret HF.out.symm, rfl⟩)
      | (exfalso; apply hb; simp_all)
   ·have HF : Hid (textB s = true) := by show _ = _; rw [textB, all_take_all k (by omega) HA.out]; simp [hl]
    go_wp2
    go_ret
    exact ⟨bool_ret HF.out.symm, rfl⟩
 ·go_enter Tryz.func100, Tryz.ntmps100
  go_wp2
  go_ret
  exact ⟨bool_ret (by simp [textB, hl]), rfl⟩
end Go.Proofs.YtmjhcgjhlakceaaGreatDoor

namespace Go.Proofs.YtmjhcgjhlakceaaGreatDoor
open Go.RowKit
set_option maxRecDepth 100000 in
set_option maxHeartbeats 2000000 in
theorem just_1 (m : Int) (x : ByteArray) (l : List ByteArray) (ka : Option Addr) (kl kc : Nat) (w : World) (na : Option Addr) (nc : Nat) :
  Calls Tryz.prog 58 #[.agg #[.int .i64 1, .int .i64 m, .string x, .slice na l.length nc, .slice ka kl kc]] w fun e w' => e = .returned (.bool (decide (-999999999 <= m /\ m <= 999999999) && x.toList.isEmpty && ((l.length : Int) == 0) && ((kl : Int) == 0))) /\ Below w.heap.size w w' := by
 go_enter Tryz.func58, Tryz.ntmps58
 go_wp2_with (go_at_call 99; refine (isTreeNum_any _ _).mono ?_; rintro e w' ⟨rfl, rfl⟩)
 all_goals
  go_ret
  exact ⟨bool_ret (by simp_all), (Below.refl _ _).alloc (Nat.le_refl _) _⟩
set_option maxRecDepth 100000 in
set_option maxHeartbeats 2000000 in
theorem just_2 (m : Int) (x : ByteArray) (l : List ByteArray) (ka : Option Addr) (kl kc : Nat) (w : World) (na : Option Addr) (nc : Nat) (hx : x.size <= maxLen) :
  Calls Tryz.prog 58 #[.agg #[.int .i64 2, .int .i64 m, .string x, .slice na l.length nc, .slice ka kl kc]] w fun e w' => e = .returned (.bool ((m == 0) && textB x && ((l.length : Int) == 0) && ((kl : Int) == 0))) /\ Below w.heap.size w w' := by
 go_enter Tryz.func58, Tryz.ntmps58
 go_wp2_with (go_at_call 100; refine (isTreeText_any _ _ hx).mono ?_; rintro e w' ⟨rfl, rfl⟩)
 all_goals
  go_ret
  exact ⟨bool_ret (by simp_all), (Below.refl _ _).alloc (Nat.le_refl _) _⟩
set_option maxRecDepth 100000 in
set_option maxHeartbeats 2000000 in
theorem just_3 (m : Int) (x : ByteArray) (l : List ByteArray) (ka : Option Addr) (kl kc : Nat) (w : World) (na : Option Addr) (nc : Nat) :
  Calls Tryz.prog 58 #[.agg #[.int .i64 3, .int .i64 m, .string x, .slice na l.length nc, .slice ka kl kc]] w fun e w' => e = .returned (.bool (decide (0 <= m /\ m <= 1) && x.toList.isEmpty && ((l.length : Int) == 0) && ((kl : Int) == 0))) /\ Below w.heap.size w w' := by
 by_cases h0 : m = 0
 ·subst h0
  go_enter Tryz.func58, Tryz.ntmps58
  go_wp2_with fail
  all_goals
   go_ret
   exact ⟨bool_ret (by simp_all), (Below.refl _ _).alloc (Nat.le_refl _) _⟩
 by_cases h1 : m = 1
 ·subst h1
  go_enter Tryz.func58, Tryz.ntmps58
  go_wp2_with fail
  all_goals
   go_ret
   exact ⟨bool_ret (by simp_all), (Below.refl _ _).alloc (Nat.le_refl _) _⟩
 have hd : decide (0 <= m /\ m <= 1) = false := decide_eq_false (by omega)
 have hm0 : (m == 0) = false := by simpa using h0
 have hm1 : (m == 1) = false := by simpa using h1
 rw [hd]
 clear hd h0 h1
 go_enter Tryz.func58, Tryz.ntmps58
 go_wp2_with fail
 all_goals
  go_ret
  exact ⟨bool_ret (by simp_all), (Below.refl _ _).alloc (Nat.le_refl _) _⟩
set_option maxRecDepth 100000 in
set_option maxHeartbeats 2000000 in
theorem just_4 (m : Int) (x : ByteArray) (l : List ByteArray) (ka : Option Addr) (kl kc : Nat) (w : World) (na : Option Addr) (nc : Nat) :
  Calls Tryz.prog 58 #[.agg #[.int .i64 4, .int .i64 m, .string x, .slice na l.length nc, .slice ka kl kc]] w fun e w' => e = .returned (.bool ((m == 0) && x.toList.isEmpty && ((l.length : Int) == 0) && decide ((kl : Int) <= 20))) /\ Below w.heap.size w w' := by
 go_enter Tryz.func58, Tryz.ntmps58
 go_wp2_with fail
 all_goals
  go_ret
  exact ⟨bool_ret (by simp_all), (Below.refl _ _).alloc (Nat.le_refl _) _⟩
set_option maxRecDepth 100000 in
set_option maxHeartbeats 2000000 in
theorem just_6 (m : Int) (x : ByteArray) (l : List ByteArray) (ka : Option Addr) (kl kc : Nat) (w : World) (na : Option Addr) (nc : Nat) :
  Calls Tryz.prog 58 #[.agg #[.int .i64 6, .int .i64 m, .string x, .slice na l.length nc, .slice ka kl kc]] w fun e w' => e = .returned (.bool ((m == 0) && x.toList.isEmpty && ((l.length : Int) == 0) && decide ((kl : Int) <= 1))) /\ Below w.heap.size w w' := by
 go_enter Tryz.func58, Tryz.ntmps58
 go_wp2_with fail
 all_goals
  go_ret
  exact ⟨bool_ret (by simp_all), (Below.refl _ _).alloc (Nat.le_refl _) _⟩
end Go.Proofs.YtmjhcgjhlakceaaGreatDoor

namespace Go.Proofs.YtmjhcgjhlakceaaGreatDoor
open Go.RowKit
set_option maxRecDepth 100000 in
set_option maxHeartbeats 2000000 in
theorem just_5 (m : Int) (x : ByteArray) (l : List ByteArray) (ka : Option Addr) (kl kc : Nat) (w : World) (na : Option Addr) (nc : Nat) (S : Nat -> Prop) (hl : StrsIn S w l (.slice na l.length nc)) (hB : ∀ b, S b -> b < w.heap.size) :
  Calls Tryz.prog 58 #[.agg #[.int .i64 5, .int .i64 m, .string x, .slice na l.length nc, .slice ka kl kc]] w fun e w' => e = .returned (.bool ((m == 0) && x.toList.isEmpty && ((l.length : Int) == (kl : Int)) && riseB l)) /\ Below w.heap.size w w' := by
 by_cases hm : m = 0
 ·subst hm
  cases hx : x.toList.isEmpty with
  | false =>
   go_enter Tryz.func58, Tryz.ntmps58
   go_wp2_with fail
   all_goals
    go_ret
    exact ⟨bool_ret (by simp_all), (Below.refl _ _).alloc (Nat.le_refl _) _⟩
  | true =>
   by_cases hk : l.length = kl
   ·subst hk
    have hb0 := (Below.refl w.heap.size w).alloc (Nat.le_refl _) (.cells #[.int .i64 5, .int .i64 0, .string x, .slice na l.length nc, .slice ka l.length kc] 27)
    have hl' := hl.keep (same_below hb0 hB) (fun _ h => h)
    have HC : Hid (Calls Tryz.prog 101 #[.slice na l.length nc] _ _) := areFormNames_any S l _ _ hl'
    have hk : ((l.length : Int) == (l.length : Int)) = true := by simp
    clear hl hl' hB
    cases h0 : ((l.length : Int) == 0) with
    | true =>
     go_enter Tryz.func58, Tryz.ntmps58
     go_wp2_with fail
     refine HC.out.mono ?_
     rintro e w' ⟨rfl, rfl⟩
     go_wp2_with fail
     go_ret
     exact ⟨by simp, hb0⟩
    | false =>
     go_enter Tryz.func58, Tryz.ntmps58
     go_wp2_with fail
     refine HC.out.mono ?_
     rintro e w' ⟨rfl, rfl⟩
     go_wp2_with fail
     go_ret
     exact ⟨by simp, hb0⟩
   ·have hk' : ((l.length : Int) == (kl : Int)) = false := by simp; omega
    rw [hk']
    clear hk
    cases h0 : ((l.length : Int) == 0) <;> cases h1 : ((kl : Int) == 0)
    all_goals
     go_enter Tryz.func58, Tryz.ntmps58
     go_wp2_with fail
     go_ret
     exact ⟨rfl, (Below.refl _ _).alloc (Nat.le_refl _) _⟩
 ·have hm' : (m == 0) = false := by simpa using hm
  rw [hm']
  clear hm
  go_enter Tryz.func58, Tryz.ntmps58
  go_wp2_with fail
  all_goals
   go_ret
   exact ⟨bool_ret (by simp_all), (Below.refl _ _).alloc (Nat.le_refl _) _⟩
set_option maxRecDepth 100000 in
set_option maxHeartbeats 2000000 in
theorem just_other (s m : Int) (x : ByteArray) (l : List ByteArray) (ka : Option Addr) (kl kc : Nat) (w : World) (na : Option Addr) (nc : Nat)
  (h1 : (s == 1) = false) (h2 : (s == 2) = false) (h3 : (s == 3) = false) (h4 : (s == 4) = false) (h5 : (s == 5) = false) (h6 : (s == 6) = false) :
  Calls Tryz.prog 58 #[.agg #[.int .i64 s, .int .i64 m, .string x, .slice na l.length nc, .slice ka kl kc]] w fun e w' => e = .returned (.bool false) /\ Below w.heap.size w w' := by
 go_enter Tryz.func58, Tryz.ntmps58
 go_wp2_with fail
 all_goals
  go_ret
  exact ⟨rfl, (Below.refl _ _).alloc (Nat.le_refl _) _⟩
theorem just_any (s m : Int) (x : ByteArray) (l : List ByteArray) (ka : Option Addr) (kl kc : Nat) (w : World) (na : Option Addr) (nc : Nat) (hx : x.size <= maxLen)
  (S : Nat -> Prop) (hl : StrsIn S w l (.slice na l.length nc)) (hB : ∀ b, S b -> b < w.heap.size) :
  Calls Tryz.prog 58 #[.agg #[.int .i64 s, .int .i64 m, .string x, .slice na l.length nc, .slice ka kl kc]] w fun e w' => e = .returned (.bool (aloneF s m x l kl)) /\ Below w.heap.size w w' := by
 unfold aloneF
 by_cases h1 : s = 1
 ·subst h1; rw [if_pos rfl]; exact just_1 m x l ka kl kc w na nc
 rw [if_neg h1]
 by_cases h2 : s = 2
 ·subst h2; rw [if_pos rfl]; exact just_2 m x l ka kl kc w na nc hx
 rw [if_neg h2]
 by_cases h3 : s = 3
 ·subst h3; rw [if_pos rfl]; exact just_3 m x l ka kl kc w na nc
 rw [if_neg h3]
 by_cases h4 : s = 4
 ·subst h4; rw [if_pos rfl]; exact just_4 m x l ka kl kc w na nc
 rw [if_neg h4]
 by_cases h5 : s = 5
 ·subst h5; rw [if_pos rfl]; exact just_5 m x l ka kl kc w na nc S hl hB
 rw [if_neg h5]
 by_cases h6 : s = 6
 ·subst h6; rw [if_pos rfl]; exact just_6 m x l ka kl kc w na nc
 rw [if_neg h6]
 exact just_other s m x l ka kl kc w na nc (by simp [h1]) (by simp [h2]) (by simp [h3]) (by simp [h4]) (by simp [h5]) (by simp [h6])
end Go.Proofs.YtmjhcgjhlakceaaGreatDoor

namespace Go.Proofs.YtmjhcgjhlakceaaGreatDoor
open Go.RowKit
set_option maxHeartbeats 1000000 in
theorem accT_any (S : Nat -> Prop) (s m : Int) (x : ByteArray) (hx : x.size <= maxLen) (l : List ByteArray) (na ka : Option Addr) (nc kl kc pb mb ab : Nat) (d p : Int) (w : World) (hl : StrsIn S w l (.slice na l.length nc)) (hB : ∀ b, S b -> b < w.heap.size /\ b ≠ pb)
  (hp : Cap w pb mb ab p 120 58) (hp0 : 0 <= p) (hp1 : p <= 120) :
  Calls Tryz.prog 98 #[.agg #[.int .i64 s, .int .i64 m, .string x, .slice na l.length nc, .slice ka kl kc], .int .i64 d, .pointer (some ⟨pb, 0, none⟩), .pointer (some ⟨mb, 0, none⟩), .pointer (some ⟨ab, 0, none⟩)] w
   fun e w' => e = .returned (.bool (decide (p + 1 <= 120) && decide (d <= 6) && aloneF s m x l kl)) /\ Prt w' pb (p + 1) /\ Near pb w w' := by
 have hlt := hp.parts.lt
 have hn0 : Near pb w (w.setCell ⟨pb, 0, none⟩ (.int .i64 (p + 1))) := Near.set pb 0 _ (.int .i64 (p + 1))
 have hn1 := hn0.trans (Near.alloc pb _ (.cells #[.int .i64 s, .int .i64 m, .string x, .slice na l.length nc, .slice ka kl kc] 27))
 have hp' : Prt ((w.setCell ⟨pb, 0, none⟩ (.int .i64 (p + 1))).alloc (.cells #[.int .i64 s, .int .i64 m, .string x, .slice na l.length nc, .slice ka kl kc] 27)) pb (p + 1) := (hp.parts.set (p + 1)).keep ((Below.refl _ _).alloc (Nat.le_refl _) _)
 have hl' := hl.keep (hn1.same hB) (fun _ h => h)
 have HC : Hid (Calls Tryz.prog 58 _ _ _) := just_any s m x l ka kl kc _ na nc hx S hl' (fun b hb => by have := (hB b hb).1; simp; omega)
 have c0 := hp.parts.cell
 have f0 := hp.parts.free
 have m0 := hp.max
 have a0 := hp.acc
 have nm := hp.nm
 have na' := hp.na
 have hm : mb < w.heap.size := cell_lt0 m0
 have ha : ab < w.heap.size := cell_lt0 a0
 have hne : w.heap.size ≠ pb := by omega
 clear hl hl' hp hn0 hB
 by_cases h1 : p + 1 <= 120
 ·by_cases h2 : d <= 6
  ·go_enter Tryz.func98, Tryz.ntmps98
   go_wp2_with fail
   refine HC.out.mono ?_
   rintro e w' ⟨rfl, hb1⟩
   have hp2 : Prt w' pb (p + 1) := (hb1.block pb (by simp; omega)).trans hp'
   have hn2 := hn1.trans (Near.of_below (bb := pb) hb1)
   clear hb1 HC
   go_wp2_with fail
   go_ret
   exact ⟨bool_ret (by simp [h1, h2]), hp2, hn2⟩
  ·go_enter Tryz.func98, Tryz.ntmps98
   go_wp2_with fail
   go_ret
   exact ⟨bool_ret (by rw [decide_eq_false (show ¬ d <= 6 by omega)]; simp), hp', hn1⟩
 ·go_enter Tryz.func98, Tryz.ntmps98
  go_wp2_with fail
  go_ret
  exact ⟨bool_ret (by rw [decide_eq_false (show ¬ p + 1 <= 120 by omega)]; simp), hp', hn1⟩
theorem all_take_kidT {α : Type} {p : α -> Bool} {l : List α} (k : Nat) (h : k < l.length) (ht : (l.take k).all p = true) (hf : p l[k] = true) : (l.take (k + 1)).all p = true := by
 rw [List.take_succ_eq_append_getElem h, List.all_append, ht]; simpa using hf
def WalkTPost (n : Nat) (t : T n) (d p : Int) (pb : Nat) (w : World) (e : Ending) (w' : World) : Prop :=
 Near pb w w' /\ ∃ r, e = .returned (.bool r) /\ (r = true -> goodT n t d = true /\ p + (cntT n t : Int) <= 120 /\ Prt w' pb (p + cntT n t)) /\ (r = false -> ¬ (goodT n t d = true /\ p + (cntT n t : Int) <= 120))
def clT (pb mb ab : Nat) : Value := .func (.func 98) #[] #[.pointer (some ⟨pb, 0, none⟩), .pointer (some ⟨mb, 0, none⟩), .pointer (some ⟨ab, 0, none⟩)]
def WalkTSaid (n : Nat) : Prop := ∀ (S : Nat -> Prop) (t : T n) (c0 c1 c2 c3 c4 : Value) (d p : Int) (pb mb ab : Nat) (w : World), TreeIn S w n t c0 c1 c2 c3 c4 -> (∀ b, S b -> b < w.heap.size /\ b ≠ pb) -> Cap w pb mb ab p 120 58 -> 0 <= p -> p <= 120 -> 1 <= d -> d <= 7 ->
 Calls Tryz.prog 97 #[.agg #[c0, c1, c2, c3, c4], .int .i64 d, clT pb mb ab] w (WalkTPost n t d p pb w)
set_option maxHeartbeats 1200000 in
theorem kidsT_any (a b c d e : Value) (ha : ∃ x l k, e = .slice x l k) (w : World) : Calls Tryz.prog 171 #[.agg #[a, b, c, d, e]] w fun e' w' => e' = .returned e /\ Below w.heap.size w w' := by
 obtain ⟨x, l, k, rfl⟩ := ha
 have hb0 := (Below.refl w.heap.size w).alloc (Nat.le_refl _) (.cells #[a, b, c, d, .slice x l k] 27)
 go_enter Tryz.func171, Tryz.ntmps171
 go_wp2_with fail
 go_ret
 exact ⟨rfl, hb0⟩
theorem walkT_bad {n : Nat} {t : T (n + 1)} {d p : Int} (k : Nat) (hk : k < (Nd.kids t).length)
  (h : ¬ (goodT n (Nd.kids t)[k] (d + 1) = true /\ p + 1 + (sumL (fun x => cntT n x) ((Nd.kids t).take k) : Int) + (cntT n (Nd.kids t)[k] : Int) <= 120)) : ¬ (goodT (n + 1) t d = true /\ p + (cntT (n + 1) t : Int) <= 120) := by
 rintro ⟨h1, h2⟩
 apply h
 simp only [goodT, Bool.and_eq_true, List.all_eq_true] at h1
 refine ⟨h1.2 _ (List.getElem_mem hk), ?_⟩
 have e := sumL_take_succ (fun x => cntT n x) (Nd.kids t) k hk
 have e2 := sumL_append (fun x => cntT n x) ((Nd.kids t).take (k + 1)) ((Nd.kids t).drop (k + 1))
 rw [List.take_append_drop] at e2
 simp only [cntT] at h2
 omega
set_option maxRecDepth 100000 in
set_option maxHeartbeats 1000000 in
theorem walkT_step (n : Nat) (hn : WalkTSaid n) : WalkTSaid (n + 1) := by
 intro S t c0 c1 c2 c3 c4 d p pb mb ab w ht hB hcap hp0 hp1 hd1 hd7
 obtain ⟨rfl, rfl, rfl, hsx, -, -, h3, h4⟩ := ht
 obtain ⟨na, nc, rfl, -, -, -⟩ := id h3
 obtain ⟨ka, kc, rfl, hlen, -⟩ := id h4
 unfold maxLen at hlen
 have hlt := hcap.parts.lt
 generalize hs : Nd.sort t = s at *
 have hb0 := (Below.refl w.heap.size w).alloc (Nat.le_refl _) (.cells #[.int .i64 s, .int .i64 (Nd.num t), .string (Nd.text t), .slice na (Nd.names t).length nc, .slice ka (Nd.kids t).length kc] 27)
 have hn0 : Near pb w (w.alloc (.cells #[.int .i64 s, .int .i64 (Nd.num t), .string (Nd.text t), .slice na (Nd.names t).length nc, .slice ka (Nd.kids t).length kc] 27)) := Near.of_below hb0
 have h3' := h3.keep (hn0.same hB) (fun _ h => h)
 have HC : Hid (Calls Tryz.prog 98 _ _ _) := accT_any S s (Nd.num t) (Nd.text t) hsx (Nd.names t) na ka nc (Nd.kids t).length kc pb mb ab d p _ h3' (fun b hb => by have := hB b hb; simp; omega) (hcap.keep hn0 (hcap.parts.keep hb0)) hp0 hp1
 unfold clT
 go_enter Tryz.func97, Tryz.ntmps97
 go_wp2_with fail
 refine HC.out.mono ?_
 rintro e w1 ⟨rfl, hp2, hn1⟩
 have hn2 := hn0.trans hn1
 have hcap2 := hcap.keep hn2 hp2
 have hz2 := hn2.size
 have hz1 : w.heap.size < w1.heap.size := by have := hn1.size; simp at this; omega
 have k0 : w1.cell? ⟨w.heap.size, 0, none⟩ = some (.int .i64 s) := hn1.cell (by simp [go_sem]) (by omega)
 have k1 : w1.cell? ⟨w.heap.size, 1, none⟩ = some (.int .i64 (Nd.num t)) := hn1.cell (by simp [go_sem]) (by omega)
 have k2 : w1.cell? ⟨w.heap.size, 2, none⟩ = some (.string (Nd.text t)) := hn1.cell (by simp [go_sem]) (by omega)
 have k3 : w1.cell? ⟨w.heap.size, 3, none⟩ = some (.slice na (Nd.names t).length nc) := hn1.cell (by simp [go_sem]) (by omega)
 have k4 : w1.cell? ⟨w.heap.size, 4, none⟩ = some (.slice ka (Nd.kids t).length kc) := hn1.cell (by simp [go_sem]) (by omega)
 have h4' := h4.keepT (hn2.same hB) (fun _ h => h)
 clear HC hn0 hb0 h3' hn1 h3 h4
 generalize hok : (decide (p + 1 <= 120) && decide (d <= 6) && aloneF s (Nd.num t) (Nd.text t) (Nd.names t) (Nd.kids t).length) = ok
 cases ok with
 | false =>
  have HP : Hid (WalkTPost (n + 1) t d p pb w (.returned (.bool false)) w1) := by
   refine ⟨hn2, false, rfl, fun h => (by cases h), fun _ => ?_⟩
   rintro ⟨hg, hc⟩
   simp only [goodT, Bool.and_eq_true, decide_eq_true_eq] at hg
   have ha : aloneF s (Nd.num t) (Nd.text t) (Nd.names t) (Nd.kids t).length = true := by rw [<- hs]; exact hg.1.2
   have : p + 1 <= 120 := by simp only [cntT] at hc; omega
   rw [ha, decide_eq_true hg.1.1, decide_eq_true this] at hok
   cases hok
  clear hok hs
  go_wp2_with fail
  go_ret
  exact HP.out
 | true =>
  simp only [Bool.and_eq_true, decide_eq_true_eq] at hok
  have HAL : Hid ((decide (d <= 6) && aloneB (show Nd (T n) from t)) = true) := by show (_ && aloneF (Nd.sort t) _ _ _ _) = _; rw [hs, hok.2, decide_eq_true hok.1.2]; rfl
  obtain ⟨⟨ho1, ho2⟩, -⟩ := hok
  clear hs
  go_wp2_with fail
  refine (kidsT_any _ _ _ _ _ ⟨_, _, _, rfl⟩ _).mono ?_
  rintro e w2 ⟨rfl, hb2⟩
  have hn3 : Near pb w w2 := hn2.trans (Near.of_below hb2)
  have hp3 : Prt w2 pb (p + 1) := hp2.keep hb2
  have hz3 := hb2.size
  have h5 := h4'.keepT ((Near.of_below (bb := pb) hb2).same (fun b hb => by have := hB b hb; omega)) (fun _ h => h)
  clear h4' hb2 hcap2 hn2 hp2 k0 k1 k2 k3 k4
  obtain ⟨_, _, hkv, -, hkids⟩ := h5
  cases hkv
  go_wp2_with fail
  go_loopw [18] (fun i wr => ∃ k : Nat, k <= (Nd.kids t).length /\ i = .int .i64 k /\ Near pb w2 wr /\ Prt wr pb (p + 1 + (sumL (fun x => cntT n x) ((Nd.kids t).take k) : Int)) /\
    p + 1 + (sumL (fun x => cntT n x) ((Nd.kids t).take k) : Int) <= 120 /\ ((Nd.kids t).take k).all (fun x => goodT n x (d + 1)) = true) (fun i _ => (Nd.kids t).length - (intOf i).toNat)
  case atStart => exact ⟨0, Nat.zero_le _, rfl, Near.refl _ _, by simpa [sumL] using hp3, by simpa [sumL] using ho1, by simp⟩
  case round =>
   obtain ⟨k, hk, rfl, hnr, hpr, hfew, hall⟩ := hrel
   have HALL := hidF hall
   clear hall
   have hzr := hnr.size
   have hn4 := hn3.trans hnr
   have hltr := hpr.lt
   by_cases hlt : k < (Nd.kids t).length
   ·obtain ⟨b, off, rfl, hbB, hcell⟩ := hkids (by intro h; rw [h] at hlt; simp at hlt)
    obtain ⟨x0, x1, x2, x3, x4, e0, e1, e2, e3, e4, hr⟩ := hcell k hlt
    have hbb := hB b hbB
    have f0 := hnr.cell e0 hbb.2
    have f1 := hnr.cell e1 hbb.2
    have f2 := hnr.cell e2 hbb.2
    have f3 := hnr.cell e3 hbb.2
    have f4 := hnr.cell e4 hbb.2
    have q := hr.keep (hnr.same (fun b hb => by have := hB b hb; omega)) (fun _ h => h)
    obtain ⟨y0, y1, y2, ya, yl, yc, za, zl, zc, rfl, rfl, rfl, rfl, rfl⟩ := q.shape
    clear hkids hcell e0 e1 e2 e3 e4 hr
    have hb5 := (Below.refl wr.heap.size wr).alloc (Nat.le_refl _) (.cells #[.int .i64 y0, .int .i64 y1, .string y2, .slice ya yl yc, .slice za zl zc] 27)
    have hn5 : Near pb wr (wr.alloc (.cells #[.int .i64 y0, .int .i64 y1, .string y2, .slice ya yl yc, .slice za zl zc] 27)) := Near.of_below hb5
    have q5 := q.keep (hn5.same (fun b hb => by have := hB b hb; omega)) (fun _ h => h)
    have hcap5 := hcap.keep (hn4.trans hn5) (hpr.keep hb5)
    have HC : Hid (Calls Tryz.prog 97 _ _ _) := hn S (Nd.kids t)[k] _ _ _ _ _ (d + 1) _ pb mb ab _ q5 (fun b hb => by have := hB b hb; simp; omega) hcap5 (by omega) hfew (by omega) (by omega)
    have HBad := @walkT_bad n t d p k hlt
    have HSum : Hid (sumL (fun x => cntT n x) ((Nd.kids t).take (k + 1)) = sumL (fun x => cntT n x) ((Nd.kids t).take k) + cntT n (Nd.kids t)[k]) := sumL_take_succ _ _ _ hlt
    clear q q5 hcap5 hb5
    unfold clT at HC
    go_wp2_with fail
    refine HC.out.mono ?_
    rintro e w3 ⟨hn6, r, rfl, hyes, hno⟩
    have hn7 := hnr.trans (hn5.trans hn6)
    cases r with
    | false =>
     have HP : Hid (WalkTPost (n + 1) t d p pb w (.returned (.bool false)) w3) := ⟨hn3.trans hn7, false, rfl, fun h => (by cases h), fun _ => HBad (hno rfl)⟩
     clear HBad hno hyes HSum HALL hn6 hn7 hn5 hn4
     go_wp2_with fail
     go_ret
     exact HP.out
    | true =>
     obtain ⟨hg, hc, hp6⟩ := hyes rfl
     have HR : Hid (Near pb w2 w3 /\ Prt w3 pb (p + 1 + (sumL (fun x => cntT n x) ((Nd.kids t).take (k + 1)) : Int)) /\ p + 1 + (sumL (fun x => cntT n x) ((Nd.kids t).take (k + 1)) : Int) <= 120 /\ ((Nd.kids t).take (k + 1)).all (fun x => goodT n x (d + 1)) = true) := by
      refine ⟨hn7, ?_, ?_, all_take_kidT k hlt HALL.out hg⟩
      ·rw [HSum.out, show p + 1 + ((sumL (fun x => cntT n x) ((Nd.kids t).take k) + cntT n (Nd.kids t)[k] : Nat) : Int) = p + 1 + (sumL (fun x => cntT n x) ((Nd.kids t).take k) : Int) + (cntT n (Nd.kids t)[k] : Int) by omega]
       exact hp6
      ·rw [HSum.out]; omega
     clear HBad hno hyes HSum HALL hn6 hn7 hn5 hn4 hg hc hp6 hpr hfew
     go_wp2_with fail
     go_roundw
     case rel => exact ⟨k + 1, by omega, by go_num, HR.out.1, HR.out.2.1, HR.out.2.2.1, HR.out.2.2.2⟩
     case measure => simp [intOf]; omega
   ·have hkl : k = (Nd.kids t).length := by omega
    have HP : Hid (WalkTPost (n + 1) t d p pb w (.returned (.bool true)) wr) := by
     have h1 := HALL.out
     rw [hkl, List.take_length] at h1 hpr hfew
     have e : p + 1 + (sumL (fun x => cntT n x) (Nd.kids t) : Int) = p + (cntT (n + 1) t : Int) := by simp only [cntT]; omega
     rw [e] at hpr hfew
     exact ⟨hn4, true, rfl, fun _ => ⟨by have := HAL.out; simp only [goodT, this, h1, Bool.and_self], hfew, hpr⟩, fun h => (by cases h)⟩
    clear hkl hkids HALL hn4 hpr hfew
    go_wp2_with fail
    go_ret
    exact HP.out
theorem walkT_any : ∀ n, WalkTSaid n := by
 intro n
 induction n with
 | zero => intro S t c0 c1 c2 c3 c4 d p pb mb ab w ht; exact ht.elim
 | succ n ih => exact walkT_step n ih
set_option maxRecDepth 100000 in
set_option maxHeartbeats 1000000 in
theorem isOkT_any (n : Nat) (S : Nat -> Prop) (t : T n) (c0 c1 c2 c3 c4 : Value) (w : World) (ht : TreeIn S w n t c0 c1 c2 c3 c4) (hB : ∀ b, S b -> b < w.heap.size) :
  Calls Tryz.prog 57 #[.agg #[c0, c1, c2, c3, c4], .int .i64 120, .func (.func 58) #[] #[]] w fun e w' => e = .returned (.bool (okT n t)) /\ Below w.heap.size w w' := by
 have hmf : ∀ (fn : Fn) (first cap : Array Value) (w : World), (Instr.makeFunc fn first cap).run Tryz.prog w = .ok (.func fn first cap) w := fun _ _ _ _ => rfl
 obtain ⟨x0, x1, x2, xa, xl, xc, ya, yl, yc, rfl, rfl, rfl, rfl, rfl⟩ := ht.shape
 have hb : Below w.heap.size w ((((w.alloc (.cells #[.int .i64 x0, .int .i64 x1, .string x2, .slice xa xl xc, .slice ya yl yc] 27)).alloc (.cells #[.int .i64 120] 3)).alloc (.cells #[.func (.func 58) #[] #[]] 59)).alloc (.cells #[.int .i64 0] 3)) :=
  ((((Below.refl _ _).alloc (Nat.le_refl _) _).alloc (by simp) _).alloc (by simp; omega) _).alloc (by simp; omega) _
 have ht' := ht.keep (same_below hb hB) (fun _ h => h)
 have HC : Hid (Calls Tryz.prog 97 _ _ _) := walkT_any n S t _ _ _ _ _ 1 0 (w.heap.size + 1 + 1 + 1) (w.heap.size + 1) (w.heap.size + 1 + 1) _ ht' (fun b hb => by have := hB b hb; simp; omega)
  ⟨by rw [show w.heap.size + 1 + 1 + 1 = (((w.alloc (.cells #[.int .i64 x0, .int .i64 x1, .string x2, .slice xa xl xc, .slice ya yl yc] 27)).alloc (.cells #[.int .i64 120] 3)).alloc (.cells #[.func (.func 58) #[] #[]] 59)).heap.size by simp]; exact Prt.new _ 0,
   by simp [go_sem], by simp [go_sem], by omega, by omega⟩ (by omega) (by omega) (by omega) (by omega)
 unfold clT at HC
 clear ht ht'
 go_enter Tryz.func57, Tryz.ntmps57
 go_wp2_with fail
 refine HC.out.mono ?_
 rintro e w1 ⟨hn, r, rfl, hyes, hno⟩
 have hb1 : Below w.heap.size w w1 := hb.trans (hn.below (by omega) (by simp; omega))
 have hr : r = okT n t := by
  cases r with
  | true =>
   obtain ⟨h1, h2, -⟩ := hyes rfl
   unfold okT; rw [h1, decide_eq_true (by omega)]; rfl
  | false =>
   symm
   rw [Bool.eq_false_iff]
   intro h
   simp only [okT, Bool.and_eq_true, decide_eq_true_eq] at h
   exact hno rfl ⟨h.1, by omega⟩
 clear hyes hno hn hb HC
 go_wp2_with fail
 go_ret
 exact ⟨rfl, hb1⟩
set_option maxRecDepth 100000 in
set_option maxHeartbeats 1200000 in
theorem implOk_any (n : Nat) (S : Nat -> Prop) (t : T n) (c0 c1 c2 c3 c4 : Value) (w : World) (ht : TreeIn S w n t c0 c1 c2 c3 c4) (hB : ∀ b, S b -> b < w.heap.size) :
  Calls Tryz.prog 27 #[.agg #[c0, c1, c2, c3, c4]] w fun e w' => e = .returned (.bool (okT n t)) /\ Below w.heap.size w w' := by
 obtain ⟨x0, x1, x2, xa, xl, xc, ya, yl, yc, rfl, rfl, rfl, rfl, rfl⟩ := ht.shape
 have hb0 := (Below.refl w.heap.size w).alloc (Nat.le_refl _) (.cells #[.int .i64 x0, .int .i64 x1, .string x2, .slice xa xl xc, .slice ya yl yc] 27)
 obtain ⟨ht0, hB0⟩ := ht.step hB hb0
 have HC : Hid (Calls Tryz.prog 57 _ _ _) := isOkT_any n S t _ _ _ _ _ _ ht0 hB0
 clear ht ht0
 go_enter Tryz.func27, Tryz.ntmps27
 go_wp2_with fail
 refine HC.out.mono ?_
 rintro e w1 ⟨rfl, hb1⟩
 have hb2 := below_step hb0 (by simp) hb1
 clear hb0 hb1 HC
 go_wp2_with fail
 go_ret
 exact ⟨rfl, hb2⟩
end Go.Proofs.YtmjhcgjhlakceaaGreatDoor

namespace Go.Proofs.YtmjhcgjhlakceaaGreatDoor
open Go.RowKit
theorem Tryz.yes_num (x : Value) (w : World) : (Instr.typeAssert (.iface 130 x) 110 130 true).run Tryz.prog w = .ok (.tuple #[x, .bool true]) w := by kernel_rfl
theorem Tryz.no_num_text (x : Value) (w : World) : (Instr.typeAssert (.iface 134 x) 110 130 true).run Tryz.prog w = .ok (.tuple #[.int .i64 0, .bool false]) w := by kernel_rfl
theorem Tryz.yes_text (x : Value) (w : World) : (Instr.typeAssert (.iface 134 x) 110 134 true).run Tryz.prog w = .ok (.tuple #[x, .bool true]) w := by kernel_rfl
theorem Tryz.no_num_flag (x : Value) (w : World) : (Instr.typeAssert (.iface 131 x) 110 130 true).run Tryz.prog w = .ok (.tuple #[.int .i64 0, .bool false]) w := by kernel_rfl
theorem Tryz.no_text_flag (x : Value) (w : World) : (Instr.typeAssert (.iface 131 x) 110 134 true).run Tryz.prog w = .ok (.tuple #[.string ByteArray.empty, .bool false]) w := by kernel_rfl
theorem Tryz.yes_flag (x : Value) (w : World) : (Instr.typeAssert (.iface 131 x) 110 131 true).run Tryz.prog w = .ok (.tuple #[x, .bool true]) w := by kernel_rfl
theorem Tryz.no_num_list (x : Value) (w : World) : (Instr.typeAssert (.iface 135 x) 110 130 true).run Tryz.prog w = .ok (.tuple #[.int .i64 0, .bool false]) w := by kernel_rfl
theorem Tryz.no_text_list (x : Value) (w : World) : (Instr.typeAssert (.iface 135 x) 110 134 true).run Tryz.prog w = .ok (.tuple #[.string ByteArray.empty, .bool false]) w := by kernel_rfl
theorem Tryz.no_flag_list (x : Value) (w : World) : (Instr.typeAssert (.iface 135 x) 110 131 true).run Tryz.prog w = .ok (.tuple #[.bool false, .bool false]) w := by kernel_rfl
theorem Tryz.yes_list (x : Value) (w : World) : (Instr.typeAssert (.iface 135 x) 110 135 true).run Tryz.prog w = .ok (.tuple #[x, .bool true]) w := by kernel_rfl
theorem Tryz.no_num_form (x : Value) (w : World) : (Instr.typeAssert (.iface 140 x) 110 130 true).run Tryz.prog w = .ok (.tuple #[.int .i64 0, .bool false]) w := by kernel_rfl
theorem Tryz.no_text_form (x : Value) (w : World) : (Instr.typeAssert (.iface 140 x) 110 134 true).run Tryz.prog w = .ok (.tuple #[.string ByteArray.empty, .bool false]) w := by kernel_rfl
theorem Tryz.no_flag_form (x : Value) (w : World) : (Instr.typeAssert (.iface 140 x) 110 131 true).run Tryz.prog w = .ok (.tuple #[.bool false, .bool false]) w := by kernel_rfl
theorem Tryz.no_list_form (x : Value) (w : World) : (Instr.typeAssert (.iface 140 x) 110 135 true).run Tryz.prog w = .ok (.tuple #[.slice none 0 0, .bool false]) w := by kernel_rfl
theorem Tryz.yes_form (x : Value) (w : World) : (Instr.typeAssert (.iface 140 x) 110 140 true).run Tryz.prog w = .ok (.tuple #[x, .bool true]) w := by kernel_rfl
theorem Tryz.no_num_maybe (x : Value) (w : World) : (Instr.typeAssert (.iface 133 x) 110 130 true).run Tryz.prog w = .ok (.tuple #[.int .i64 0, .bool false]) w := by kernel_rfl
theorem Tryz.no_text_maybe (x : Value) (w : World) : (Instr.typeAssert (.iface 133 x) 110 134 true).run Tryz.prog w = .ok (.tuple #[.string ByteArray.empty, .bool false]) w := by kernel_rfl
theorem Tryz.no_flag_maybe (x : Value) (w : World) : (Instr.typeAssert (.iface 133 x) 110 131 true).run Tryz.prog w = .ok (.tuple #[.bool false, .bool false]) w := by kernel_rfl
theorem Tryz.no_list_maybe (x : Value) (w : World) : (Instr.typeAssert (.iface 133 x) 110 135 true).run Tryz.prog w = .ok (.tuple #[.slice none 0 0, .bool false]) w := by kernel_rfl
theorem Tryz.no_form_maybe (x : Value) (w : World) : (Instr.typeAssert (.iface 133 x) 110 140 true).run Tryz.prog w = .ok (.tuple #[.agg #[.slice none 0 0, .slice none 0 0], .bool false]) w := by kernel_rfl
theorem Tryz.yes_maybe (x : Value) (w : World) : (Instr.typeAssert (.iface 133 x) 110 133 true).run Tryz.prog w = .ok (.tuple #[x, .bool true]) w := by kernel_rfl
end Go.Proofs.YtmjhcgjhlakceaaGreatDoor

namespace Go.Proofs.YtmjhcgjhlakceaaGreatDoor
open Go.RowKit
def b8 (i : Int) : UInt8 := UInt8.ofNat (i % 256).toNat
def shortB (x : ByteArray) : List UInt8 := b8 x.size :: x.data.toList
def num7 : Nat -> Int -> List UInt8
 | 0, n => [b8 n]
 | f + 1, n => if n < 128 then [b8 n] else b8 (n % 128 + 128) :: num7 f (n / 128)
def numB (v : Int) : List UInt8 := (if v < 0 then 1 else 0) :: num7 5 (if v < 0 then -v else v)
def partsP {α : Type} (f : α -> List UInt8) (s : Int) (ns : List ByteArray) (ks : List α) : List (List UInt8) :=
 if s = 5 then List.zipWith (fun x k => shortB x ++ f k) ns ks else ks.map f
def packT : (n : Nat) -> T n -> List UInt8
 | 0, _ => []
 | n + 1, t =>
  if Nd.sort t = 1 then b8 (Nd.sort t) :: numB (Nd.num t)
  else if Nd.sort t = 2 then b8 (Nd.sort t) :: shortB (Nd.text t)
  else if Nd.sort t = 3 then [b8 (Nd.sort t), b8 (Nd.num t)]
  else b8 (Nd.sort t) :: b8 (Nd.kids t).length :: (partsP (packT n) (Nd.sort t) (Nd.names t) (Nd.kids t)).flatten
def packE (n : Nat) (x : ByteArray) (v : Int) (t : T n) : List UInt8 := shortB x ++ b8 v :: packT n t
theorem num7_len : ∀ (f : Nat) (n : Int), 1 <= (num7 f n).length /\ (num7 f n).length <= f + 1 := by
 intro f
 induction f with
 | zero => intro n; simp [num7]
 | succ f ih =>
  intro n
  unfold num7
  by_cases h : n < 128
  ·rw [if_pos h]; simp
  ·rw [if_neg h]; have := ih (n / 128); simp; omega
theorem numB_len (v : Int) : 2 <= (numB v).length /\ (numB v).length <= 7 := by
 unfold numB; have := num7_len 5 (if v < 0 then -v else v); simp; omega
theorem shortB_len (x : ByteArray) : (shortB x).length = x.size + 1 := by simp [shortB]
theorem flat_le {l : List (List UInt8)} {β : Type} (ks : List β) (f : β -> Nat) (hl : l.length = ks.length) (h : ∀ i (h1 : i < l.length) (h2 : i < ks.length), l[i].length <= f ks[i]) : l.flatten.length <= sumL f ks := by
 induction ks generalizing l with
 | nil =>
  have : l = [] := List.eq_nil_of_length_eq_zero (by simpa using hl)
  subst this
  simp [sumL]
 | cons k ks ih =>
  cases l with
  | nil => simp at hl
  | cons a l =>
   have h0 := h 0 (by simp) (by simp)
   simp only [List.getElem_cons_zero] at h0
   have := ih (l := l) (by simpa using hl) (fun i h1 h2 => by have := h (i + 1) (by simpa using h1) (by simpa using h2); simpa using this)
   simp only [List.flatten_cons, List.length_append, sumL]
   omega
theorem sumL_mul71 {β : Type} (f : β -> Nat) : ∀ ks : List β, sumL (fun k => 71 * f k) ks = 71 * sumL f ks := by
 intro ks
 induction ks with
 | nil => rfl
 | cons k ks ih => simp only [sumL, ih]; omega
theorem packT_len : ∀ (n : Nat) (t : T n) (d : Int), goodT n t d = true -> 2 <= (packT n t).length /\ (packT n t).length + 9 <= 71 * cntT n t := by
 intro n
 induction n with
 | zero => intro t d h; exact absurd h (by simp [goodT])
 | succ n ih =>
  intro t d h
  simp only [goodT, Bool.and_eq_true, List.all_eq_true] at h
  obtain ⟨⟨-, ha⟩, hk⟩ := h
  have hc : cntT (n + 1) t = 1 + sumL (fun k => cntT n k) (Nd.kids t) := rfl
  have ha' : aloneF (Nd.sort t) (Nd.num t) (Nd.text t) (Nd.names t) (Nd.kids t).length = true := ha
  unfold aloneF at ha'
  unfold packT
  by_cases h1 : Nd.sort t = 1
  ·rw [if_pos h1]; have := numB_len (Nd.num t); simp; omega
  rw [if_neg h1]; rw [if_neg h1] at ha'
  by_cases h2 : Nd.sort t = 2
  ·rw [if_pos h2]; rw [if_pos h2] at ha'
   have ht : (Nd.text t).size <= 60 := by simp [textB] at ha'; omega
   have := shortB_len (Nd.text t); simp; omega
  rw [if_neg h2]; rw [if_neg h2] at ha'
  by_cases h3 : Nd.sort t = 3
  ·rw [if_pos h3]; simp; omega
  rw [if_neg h3]; rw [if_neg h3] at ha'
  have hfl : (partsP (packT n) (Nd.sort t) (Nd.names t) (Nd.kids t)).flatten.length <= 71 * sumL (fun k => cntT n k) (Nd.kids t) := by
   rw [<- sumL_mul71]
   by_cases h5 : Nd.sort t = 5
   ·have hx : (Nd.names t).length = (Nd.kids t).length /\ riseB (Nd.names t) = true := by
     rw [if_neg (by omega), if_pos h5] at ha'
     simp at ha'
     exact ⟨by omega, ha'.2⟩
    unfold partsP
    rw [if_pos h5]
    refine flat_le _ _ (by rw [List.length_zipWith]; omega) (fun i i1 i2 => ?_)
    rw [List.getElem_zipWith, List.length_append, shortB_len]
    have := (ih (Nd.kids t)[i] (d + 1) (hk _ (List.getElem_mem i2))).2
    have := riseB_names _ hx.2 (Nd.names t)[i] (List.getElem_mem _)
    omega
   ·unfold partsP
    rw [if_neg h5]
    refine flat_le _ _ (by rw [List.length_map]) (fun i i1 i2 => ?_)
    rw [List.getElem_map]
    have := (ih (Nd.kids t)[i] (d + 1) (hk _ (List.getElem_mem i2))).2
    omega
  simp only [List.length_cons]
  omega
end Go.Proofs.YtmjhcgjhlakceaaGreatDoor

namespace Go.Proofs.YtmjhcgjhlakceaaGreatDoor
open Go.RowKit
theorem b8_byte (b : UInt8) : b8 (b.toNat : Int) = b := by
 unfold b8
 have h : b.toNat < 256 := b.toNat_lt
 have e : ((b.toNat : Int) % 256).toNat = b.toNat := by omega
 rw [e]; simp
theorem b8_toNat {i : Nat} (h : i < 256) : (b8 (i : Int)).toNat = i := by
 unfold b8
 have e : ((i : Int) % 256).toNat = i := by omega
 rw [e]
 exact UInt8.toNat_ofNat_of_lt' (by simpa using h)
def takeS : List UInt8 -> Option (ByteArray × List UInt8)
 | [] => none
 | b :: r => if b.toNat <= r.length then some (⟨(r.take b.toNat).toArray⟩, r.drop b.toNat) else none
theorem takeS_sound {bs r : List UInt8} {x : ByteArray} (h : takeS bs = some (x, r)) : bs = shortB x ++ r /\ x.size <= 255 := by
 cases bs with
 | nil => cases h
 | cons b q =>
  have h' : (if b.toNat <= q.length then some ((⟨(q.take b.toNat).toArray⟩ : ByteArray), q.drop b.toNat) else none) = some (x, r) := h
  split at h'
  ·rename_i hb
   cases h'
   have hs : (⟨(q.take b.toNat).toArray⟩ : ByteArray).size = b.toNat := by
    show (q.take b.toNat).toArray.size = _
    rw [List.size_toArray, List.length_take]; omega
   refine ⟨?_, by rw [hs]; have := b.toNat_lt; omega⟩
   unfold shortB
   rw [hs, b8_byte]
   show b :: q = b :: ((q.take b.toNat).toArray.toList ++ q.drop b.toNat)
   rw [List.take_append_drop]
  ·rename_i hb
   cases h'
theorem takeS_complete (x : ByteArray) (r : List UInt8) (h : x.size <= 255) : takeS (shortB x ++ r) = some (x, r) := by
 unfold shortB
 show (if (b8 (x.size : Int)).toNat <= (x.data.toList ++ r).length then some ((⟨((x.data.toList ++ r).take (b8 (x.size : Int)).toNat).toArray⟩ : ByteArray), (x.data.toList ++ r).drop (b8 (x.size : Int)).toNat) else none) = _
 have hn : (b8 (x.size : Int)).toNat = x.size := b8_toNat (by omega)
 have hl : x.data.toList.length = x.size := by simp
 rw [hn, if_pos (by rw [List.length_append, hl]; omega), List.take_append_of_le_length (by omega), List.drop_append_of_le_length (by omega), List.take_of_length_le (by omega), List.drop_eq_nil_of_le (by omega)]
 simp
def dsz : Nat -> Nat -> Nat -> List UInt8 -> Option (Nat × List UInt8)
 | 0, _, _, _ => none
 | _ + 1, _, _, [] => none
 | f + 1, j, acc, b :: r =>
  if b.toNat % 128 <= 999999999 / 128 ^ j then
   if b.toNat < 128 then (if 0 < b.toNat ∨ j = 0 then some (acc + b.toNat % 128 * 128 ^ j, r) else none)
   else dsz f (j + 1) (acc + b.toNat % 128 * 128 ^ j) r
  else none
theorem dsz_cons (f j acc : Nat) (b : UInt8) (r : List UInt8) : dsz (f + 1) j acc (b :: r) = if b.toNat % 128 <= 999999999 / 128 ^ j then (if b.toNat < 128 then (if 0 < b.toNat ∨ j = 0 then some (acc + b.toNat % 128 * 128 ^ j, r) else none) else dsz f (j + 1) (acc + b.toNat % 128 * 128 ^ j) r) else none := rfl
theorem num7_small (g : Nat) (k : Nat) (h : k < 128) : num7 g (k : Int) = [b8 (k : Int)] := by
 cases g with
 | zero => rfl
 | succ g => rw [num7, if_pos (by omega)]
theorem dsz_sound : ∀ (f j acc : Nat) (bs r : List UInt8) (n : Nat), dsz f j acc bs = some (n, r) -> ∃ k, n = acc + k * 128 ^ j /\ (0 < k ∨ j = 0) /\ ∀ g, k < 128 ^ (g + 1) -> bs = num7 g (k : Int) ++ r := by
 intro f
 induction f with
 | zero => intro j acc bs r n h; cases h
 | succ f ih =>
  intro j acc bs r n h
  cases bs with
  | nil => cases h
  | cons b q =>
   rw [dsz_cons] at h
   split at h
   ·split at h
    ·rename_i hb
     split at h
     ·rename_i hz
      cases h
      refine ⟨b.toNat, by rw [Nat.mod_eq_of_lt hb], hz, fun g hg => ?_⟩
      rw [num7_small g _ hb, b8_byte]; rfl
     ·cases h
    ·rename_i hb
     obtain ⟨k, hk, hz, hg⟩ := ih _ _ _ _ _ h
     have hk0 : 0 < k := by omega
     have hlt := b.toNat_lt
     refine ⟨b.toNat % 128 + 128 * k, ?_, .inl (by omega), fun g hgk => ?_⟩
     ·rw [hk, Nat.add_mul, Nat.pow_succ]
      have : k * (128 ^ j * 128) = 128 * k * 128 ^ j := by rw [Nat.mul_comm (128 ^ j), <- Nat.mul_assoc, Nat.mul_comm k]
      omega
     ·cases g with
      | zero => simp at hgk; omega
      | succ g =>
       have hq := hg g (by
        rw [Nat.pow_succ] at hgk
        have : 128 * k < 128 ^ (g + 1) * 128 := by omega
        omega)
       rw [num7, if_neg (by omega), hq]
       have e1 : (((b.toNat % 128 + 128 * k : Nat) : Int) % 128 + 128) = (b.toNat : Int) := by omega
       have e2 : (((b.toNat % 128 + 128 * k : Nat) : Int) / 128) = (k : Int) := by omega
       rw [e1, e2, b8_byte]; rfl
   ·cases h
theorem dsz_complete : ∀ (g f j acc k : Nat) (r : List UInt8), k < 128 ^ (g + 1) -> k * 128 ^ j <= 999999999 -> (0 < k ∨ j = 0) -> (num7 g (k : Int) ++ r).length <= f -> dsz f j acc (num7 g (k : Int) ++ r) = some (acc + k * 128 ^ j, r) := by
 intro g
 induction g with
 | zero =>
  intro f j acc k r hk hm hz hf
  have hk' : k < 128 := by simpa using hk
  rw [num7_small 0 k hk'] at hf ⊢
  cases f with
  | zero => simp at hf
  | succ f =>
   show dsz (f + 1) j acc (b8 (k : Int) :: r) = _
   rw [dsz_cons, b8_toNat (by omega), Nat.mod_eq_of_lt hk', if_pos ((Nat.le_div_iff_mul_le (Nat.pow_pos (by omega))).2 hm), if_pos hk', if_pos hz]
 | succ g ih =>
  intro f j acc k r hk hm hz hf
  by_cases hk' : k < 128
  ·rw [num7_small _ k hk'] at hf ⊢
   cases f with
   | zero => simp at hf
   | succ f =>
    show dsz (f + 1) j acc (b8 (k : Int) :: r) = _
    rw [dsz_cons, b8_toNat (by omega), Nat.mod_eq_of_lt hk', if_pos ((Nat.le_div_iff_mul_le (Nat.pow_pos (by omega))).2 hm), if_pos hk', if_pos hz]
  ·have hn : num7 (g + 1) (k : Int) = b8 ((k % 128 + 128 : Nat) : Int) :: num7 g ((k / 128 : Nat) : Int) := by
    rw [num7, if_neg (by omega)]; rfl
   rw [hn] at hf ⊢
   cases f with
   | zero => simp at hf
   | succ f =>
    show dsz (f + 1) j acc (b8 ((k % 128 + 128 : Nat) : Int) :: (num7 g ((k / 128 : Nat) : Int) ++ r)) = _
    have hpj : 0 < 128 ^ j := Nat.pow_pos (by omega)
    have hdec : k % 128 * 128 ^ j + k / 128 * (128 ^ j * 128) = k * 128 ^ j := by
     have e : k / 128 * (128 ^ j * 128) = (128 * (k / 128)) * 128 ^ j := by rw [Nat.mul_comm (128 ^ j), <- Nat.mul_assoc, Nat.mul_comm (k / 128)]
     rw [e, <- Nat.add_mul, Nat.mod_add_div]
    have hm1 : k % 128 * 128 ^ j <= 999999999 := Nat.le_trans (Nat.mul_le_mul_right (128 ^ j) (Nat.mod_le k 128)) hm
    have hm2 : k % 128 <= 999999999 / 128 ^ j := (Nat.le_div_iff_mul_le hpj).2 hm1
    have hih := ih f (j + 1) (acc + k % 128 * 128 ^ j) (k / 128) r (by rw [Nat.pow_succ] at hk; omega) (by rw [Nat.pow_succ]; have := hm; omega) (.inl (by omega)) (by simpa using hf)
    rw [dsz_cons, b8_toNat (by omega), show (k % 128 + 128) % 128 = k % 128 by omega, if_pos hm2, if_neg (by omega), hih, Nat.pow_succ, Nat.add_assoc]
    have e2 : k % 128 * 128 ^ j + k / 128 * (128 ^ j * 128) = k * 128 ^ j := hdec
    rw [e2]
def decNum : List UInt8 -> Option (Int × List UInt8)
 | [] => none
 | sg :: r => match dsz r.length 0 0 r with
  | none => none
  | some (n, q) => if sg.toNat = 0 then some ((n : Int), q) else if sg.toNat = 1 /\ 0 < n then some (-(n : Int), q) else none
theorem decNum_cons (sg : UInt8) (r : List UInt8) : decNum (sg :: r) = match dsz r.length 0 0 r with
  | none => none
  | some (n, q) => if sg.toNat = 0 then some ((n : Int), q) else if sg.toNat = 1 /\ 0 < n then some (-(n : Int), q) else none := rfl
theorem decNum_sound {bs r : List UInt8} {v : Int} (h : decNum bs = some (v, r)) (hv : -999999999 <= v /\ v <= 999999999) : bs = numB v ++ r := by
 cases bs with
 | nil => cases h
 | cons sg q =>
  rw [decNum_cons] at h
  cases hd : dsz q.length 0 0 q with
  | none => rw [hd] at h; cases h
  | some p =>
   obtain ⟨n, z⟩ := p
   rw [hd] at h
   obtain ⟨k, hk, -, hg⟩ := dsz_sound _ _ _ _ _ _ hd
   have hkn : k = n := by rw [hk]; simp
   subst hkn
   have h' : (if sg.toNat = 0 then some ((k : Int), z) else if sg.toNat = 1 /\ 0 < k then some (-(k : Int), z) else none) = some (v, r) := h
   split at h'
   ·rename_i h0
    cases h'
    have := hg 5 (by simp; omega)
    unfold numB
    rw [if_neg (by omega), if_neg (by omega), this]
    have : sg = 0 := by have := b8_byte sg; rw [h0] at this; rw [<- this]; rfl
    rw [this]; rfl
   ·split at h'
    ·rename_i h1
     cases h'
     have := hg 5 (by simp; omega)
     unfold numB
     rw [if_pos (by omega), if_pos (by omega), Int.neg_neg, this]
     have : sg = 1 := by have := b8_byte sg; rw [h1.1] at this; rw [<- this]; rfl
     rw [this]; rfl
    ·cases h'
theorem decNum_complete (v : Int) (r : List UInt8) (hv : -999999999 <= v /\ v <= 999999999) : decNum (numB v ++ r) = some (v, r) := by
 unfold numB
 by_cases h : v < 0
 ·obtain ⟨k, rfl⟩ : ∃ k : Nat, v = -(k : Int) := ⟨(-v).toNat, by omega⟩
  rw [if_pos h, if_pos h, Int.neg_neg]
  rw [List.cons_append, decNum_cons, dsz_complete 5 _ 0 0 k r (by simp; omega) (by simp; omega) (.inr rfl) (Nat.le_refl _)]
  simp
  omega
 ·obtain ⟨k, rfl⟩ : ∃ k : Nat, v = (k : Int) := ⟨v.toNat, by omega⟩
  rw [if_neg h, if_neg h]
  rw [List.cons_append, decNum_cons, dsz_complete 5 _ 0 0 k r (by simp; omega) (by simp; omega) (.inr rfl) (Nat.le_refl _)]
  simp
def kidsI {α : Type} (f : List UInt8 -> Option (α × List UInt8)) (s : Int) : Nat -> List UInt8 -> Option ((List ByteArray × List α) × List UInt8)
 | 0, bs => some (([], []), bs)
 | k + 1, bs =>
  if s = 5 then
   match takeS bs with
   | none => none
   | some (x, r) => match f r with
    | none => none
    | some (t, q) => (kidsI f s k q).map fun p => ((x :: p.1.1, t :: p.1.2), p.2)
  else match f bs with
   | none => none
   | some (t, q) => (kidsI f s k q).map fun p => ((p.1.1, t :: p.1.2), p.2)
def decI : (L : Nat) -> List UInt8 -> Option (T L × List UInt8)
 | 0, _ => none
 | _ + 1, [] => none
 | L + 1, b :: r =>
  if b.toNat = 1 then (decNum r).map fun p => ((⟨1, p.1, ByteArray.empty, [], []⟩ : Nd (T L)), p.2)
  else if b.toNat = 2 then (takeS r).map fun p => ((⟨2, 0, p.1, [], []⟩ : Nd (T L)), p.2)
  else if b.toNat = 3 then (match r with | [] => none | c :: q => some ((⟨3, (c.toNat : Int), ByteArray.empty, [], []⟩ : Nd (T L)), q))
  else if b.toNat = 4 ∨ b.toNat = 5 ∨ b.toNat = 6 then (match r with | [] => none | c :: q => (kidsI (decI L) (b.toNat : Int) c.toNat q).map fun p => ((⟨(b.toNat : Int), 0, ByteArray.empty, p.1.1, p.1.2⟩ : Nd (T L)), p.2))
  else some ((⟨(b.toNat : Int), 0, ByteArray.empty, [], []⟩ : Nd (T L)), r)
theorem packT_deep {n : Nat} (t : T (n + 1)) (h1 : ¬ Nd.sort t = 1) (h2 : ¬ Nd.sort t = 2) (h3 : ¬ Nd.sort t = 3) : packT (n + 1) t = b8 (Nd.sort t) :: b8 (Nd.kids t).length :: (partsP (packT n) (Nd.sort t) (Nd.names t) (Nd.kids t)).flatten := by
 rw [packT, if_neg h1, if_neg h2, if_neg h3]
theorem kidsI_sound {α : Type} {f : List UInt8 -> Option (α × List UInt8)} {s : Int} (pk : α -> List UInt8) : ∀ (k : Nat) (bs r : List UInt8) (ns : List ByteArray) (ks : List α), kidsI f s k bs = some ((ns, ks), r) -> (∀ t, t ∈ ks -> ∀ q z, f q = some (t, z) -> q = pk t ++ z) -> ks.length = k /\ (s = 5 -> ns.length = ks.length) /\ (s ≠ 5 -> ns = []) /\ bs = (partsP pk s ns ks).flatten ++ r := by
 intro k
 induction k with
 | zero =>
  intro bs r ns ks h _
  cases h
  exact ⟨rfl, fun _ => rfl, fun _ => rfl, by unfold partsP; split <;> simp⟩
 | succ k ih =>
  intro bs r ns ks h hk
  unfold kidsI at h
  by_cases h5 : s = 5
  ·rw [if_pos h5] at h
   cases ht : takeS bs with
   | none => rw [ht] at h; cases h
   | some p =>
    obtain ⟨x, q⟩ := p
    rw [ht] at h
    cases hf : f q with
    | none => simp only [hf] at h; cases h
    | some p2 =>
     obtain ⟨t, q2⟩ := p2
     simp only [hf] at h
     cases hr : kidsI f s k q2 with
     | none => rw [hr] at h; cases h
     | some p3 =>
      obtain ⟨⟨ns', ks'⟩, r'⟩ := p3
      rw [hr] at h
      cases h
      obtain ⟨e1, e2, -, e4⟩ := ih q2 _ ns' ks' hr (fun t ht q z => hk t (List.mem_cons_of_mem _ ht) q z)
      refine ⟨by simp [e1], fun _ => by simp [e2 h5], fun h => absurd h5 h, ?_⟩
      rw [(takeS_sound ht).1, hk t (List.mem_cons_self ..) q q2 hf, e4]
      unfold partsP
      rw [if_pos h5, if_pos h5]
      simp
  ·rw [if_neg h5] at h
   cases hf : f bs with
   | none => rw [hf] at h; cases h
   | some p2 =>
    obtain ⟨t, q2⟩ := p2
    rw [hf] at h
    cases hr : kidsI f s k q2 with
    | none => simp only [hr] at h; cases h
    | some p3 =>
     obtain ⟨⟨ns', ks'⟩, r'⟩ := p3
     simp only [hr] at h
     cases h
     obtain ⟨e1, -, e3, e4⟩ := ih q2 _ ns' ks' hr (fun t ht q z => hk t (List.mem_cons_of_mem _ ht) q z)
     refine ⟨by simp [e1], fun h => absurd h h5, fun _ => e3 h5, ?_⟩
     rw [hk t (List.mem_cons_self ..) bs q2 hf, e4]
     unfold partsP
     rw [if_neg h5, if_neg h5]
     simp
theorem decI_sound : ∀ (L : Nat) (bs r : List UInt8) (t : T L) (d : Int), decI L bs = some (t, r) -> goodT L t d = true -> bs = packT L t ++ r := by
 intro L
 induction L with
 | zero => intro bs r t; exact Empty.elim (show Empty from t)
 | succ L ih =>
  intro bs r t d h hg
  cases bs with
  | nil => cases h
  | cons b q =>
   have hbt := b8_byte b
   unfold decI at h
   simp only [goodT, Bool.and_eq_true, List.all_eq_true] at hg
   obtain ⟨⟨-, ha⟩, hk⟩ := hg
   have ha' : aloneF (Nd.sort t) (Nd.num t) (Nd.text t) (Nd.names t) (Nd.kids t).length = true := ha
   by_cases h1 : b.toNat = 1
   ·rw [if_pos h1] at h
    cases hd : decNum q with
    | none => rw [hd] at h; cases h
    | some p =>
     rw [hd] at h
     cases h
     have hv : -999999999 <= p.1 /\ p.1 <= 999999999 := by
      have ha2 : aloneF 1 p.1 ByteArray.empty [] 0 = true := ha'
      unfold aloneF at ha2; simp at ha2; omega
     rw [decNum_sound (v := p.1) hd hv]
     have e : b = b8 1 := by rw [<- hbt, h1]; rfl
     rw [e]; rfl
   rw [if_neg h1] at h
   by_cases h2 : b.toNat = 2
   ·rw [if_pos h2] at h
    cases hd : takeS q with
    | none => rw [hd] at h; cases h
    | some p =>
     rw [hd] at h
     cases h
     rw [(takeS_sound (x := p.1) hd).1]
     have e : b = b8 2 := by rw [<- hbt, h2]; rfl
     rw [e]; rfl
   rw [if_neg h2] at h
   by_cases h3 : b.toNat = 3
   ·rw [if_pos h3] at h
    cases q with
    | nil => cases h
    | cons c q =>
     have h' : some ((⟨3, (c.toNat : Int), ByteArray.empty, [], []⟩ : Nd (T L)), q) = some (t, r) := h
     have h2' := Option.some.inj h'
     obtain ⟨rfl, rfl⟩ : (⟨3, (c.toNat : Int), ByteArray.empty, [], []⟩ : Nd (T L)) = t /\ q = r := ⟨congrArg Prod.fst h2', congrArg Prod.snd h2'⟩
     have e : b = b8 3 := by rw [<- hbt, h3]; rfl
     show b :: c :: q = [b8 3, b8 (c.toNat : Int)] ++ q
     rw [e, b8_byte]; rfl
   rw [if_neg h3] at h
   by_cases h4 : b.toNat = 4 ∨ b.toNat = 5 ∨ b.toNat = 6
   ·rw [if_pos h4] at h
    cases q with
    | nil => cases h
    | cons c q =>
     have h' : ((kidsI (decI L) (b.toNat : Int) c.toNat q).map fun p => ((⟨(b.toNat : Int), 0, ByteArray.empty, p.1.1, p.1.2⟩ : Nd (T L)), p.2)) = some (t, r) := h
     cases hd : kidsI (decI L) (b.toNat : Int) c.toNat q with
     | none => rw [hd] at h'; cases h'
     | some p =>
      obtain ⟨⟨ns, ks⟩, r'⟩ := p
      rw [hd] at h'
      cases h'
      obtain ⟨e1, -, -, e4⟩ := kidsI_sound (packT L) _ _ _ _ _ hd (fun t ht q z hf => ih q z t (d + 1) hf (hk t ht))
      have hp : packT (L + 1) (⟨(b.toNat : Int), 0, ByteArray.empty, ns, ks⟩ : Nd (T L)) = b8 (b.toNat : Int) :: b8 (ks.length : Int) :: (partsP (packT L) (b.toNat : Int) ns ks).flatten := by
       have s1 : ¬ ((b.toNat : Int) = 1) := by omega
       have s2 : ¬ ((b.toNat : Int) = 2) := by omega
       have s3 : ¬ ((b.toNat : Int) = 3) := by omega
       exact packT_deep (⟨(b.toNat : Int), 0, ByteArray.empty, ns, ks⟩ : Nd (T L)) s1 s2 s3
      rw [hp, e1, b8_byte, b8_byte, e4]; rfl
   ·rw [if_neg h4] at h
    cases h
    have ha2 : aloneF (b.toNat : Int) 0 ByteArray.empty [] 0 = true := ha'
    unfold aloneF at ha2
    rw [if_neg (by omega), if_neg (by omega), if_neg (by omega), if_neg (by omega), if_neg (by omega), if_neg (by omega)] at ha2
    cases ha2
theorem kidsI_complete {α : Type} {f : List UInt8 -> Option (α × List UInt8)} {s : Int} (pk : α -> List UInt8) : ∀ (ks : List α) (ns : List ByteArray) (r : List UInt8), (∀ t, t ∈ ks -> ∀ z, f (pk t ++ z) = some (t, z)) -> (s = 5 -> ns.length = ks.length) -> (s ≠ 5 -> ns = []) -> (∀ x, x ∈ ns -> x.size <= 255) -> kidsI f s ks.length ((partsP pk s ns ks).flatten ++ r) = some ((ns, ks), r) := by
 intro ks
 induction ks with
 | nil =>
  intro ns r _ h5 hn _
  have : ns = [] := by
   by_cases h : s = 5
   ·exact List.eq_nil_of_length_eq_zero (h5 h)
   ·exact hn h
  subst this
  show some _ = _
  unfold partsP; split <;> simp
 | cons t ks ih =>
  intro ns r hf h5 hn hx
  show kidsI f s (ks.length + 1) _ = _
  unfold kidsI
  by_cases h : s = 5
  ·rw [if_pos h]
   cases ns with
   | nil => have := h5 h; simp at this
   | cons x ns =>
    have e : (partsP pk s (x :: ns) (t :: ks)).flatten ++ r = shortB x ++ (pk t ++ ((partsP pk s ns ks).flatten ++ r)) := by
     unfold partsP; rw [if_pos h, if_pos h]; simp
    rw [e, takeS_complete x _ (hx x (List.mem_cons_self ..))]
    simp only []
    rw [hf t (List.mem_cons_self ..)]
    simp only []
    rw [ih ns r (fun t ht => hf t (List.mem_cons_of_mem _ ht)) (fun h => by have := h5 h; simpa using this) (fun h' => absurd h h') (fun y hy => hx y (List.mem_cons_of_mem _ hy))]
    rfl
  ·rw [if_neg h]
   have hn0 := hn h
   subst hn0
   have e : (partsP pk s [] (t :: ks)).flatten ++ r = pk t ++ ((partsP pk s [] ks).flatten ++ r) := by
    unfold partsP; rw [if_neg h, if_neg h]; simp
   rw [e, hf t (List.mem_cons_self ..)]
   simp only []
   rw [ih [] r (fun t ht => hf t (List.mem_cons_of_mem _ ht)) (fun h' => absurd h' h) (fun _ => rfl) (fun y hy => by cases hy)]
   rfl
theorem decI_complete : ∀ (L : Nat) (t : T L) (d : Int) (r : List UInt8), goodT L t d = true -> cntT L t <= 120 -> decI L (packT L t ++ r) = some (t, r) := by
 intro L
 induction L with
 | zero => intro t; exact Empty.elim (show Empty from t)
 | succ L ih =>
  intro t d r hg hc
  have hg0 := hg
  simp only [goodT, Bool.and_eq_true, List.all_eq_true] at hg
  obtain ⟨⟨-, ha⟩, hk⟩ := hg
  have ha' : aloneF (Nd.sort t) (Nd.num t) (Nd.text t) (Nd.names t) (Nd.kids t).length = true := ha
  have hcc : cntT (L + 1) t = 1 + sumL (fun k => cntT L k) (Nd.kids t) := rfl
  have hkc : ∀ k, k ∈ Nd.kids t -> cntT L k <= 120 := fun k hkm => by
   have := sumL_mono (fun x => cntT L x) (Nd.kids t) _ hkm
   omega
  obtain ⟨s, m, x, ns, ks⟩ := t
  have ha2 : aloneF s m x ns ks.length = true := ha'
  have hkl : ks.length <= 119 := by
   have h1 : ∀ (l : List (T L)), (∀ y, y ∈ l -> 1 <= cntT L y) -> l.length <= sumL (fun k => cntT L k) l := by
    intro l
    induction l with
    | nil => intro _; simp [sumL]
    | cons a l ih =>
     intro h
     have h0 := h a (List.mem_cons_self ..)
     have h2 := ih (fun x hx => h x (List.mem_cons_of_mem _ hx))
     simp only [List.length_cons, sumL]
     omega
   have := h1 ks (fun y hy => cntT_pos L y (d + 1) (hk y hy))
   have hc' : 1 + sumL (fun k => cntT L k) ks <= 120 := by rw [<- show cntT (L + 1) (⟨s, m, x, ns, ks⟩ : Nd (T L)) = 1 + sumL (fun k => cntT L k) ks from rfl]; exact hc
   omega
  unfold aloneF at ha2
  by_cases h1 : s = 1
  ·rw [if_pos h1] at ha2
   subst h1
   simp at ha2
   obtain ⟨⟨⟨hv, hx⟩, hn⟩, hks⟩ := ha2
   have hxe : x = ByteArray.empty := by
    have h : x.data.toList = [] := by rw [<- ByteArray.toList_eq]; simpa using hx
    cases x with | mk dd => simp at h; subst h; rfl
   subst hxe hn hks
   show decI (L + 1) (b8 1 :: (numB m ++ r)) = _
   unfold decI
   rw [if_pos (by rfl), decNum_complete m r (by omega)]
   rfl
  rw [if_neg h1] at ha2
  by_cases h2 : s = 2
  ·rw [if_pos h2] at ha2
   subst h2
   simp [textB] at ha2
   obtain ⟨⟨⟨hm, hx, -⟩, hn⟩, hks⟩ := ha2
   subst hm hn hks
   show decI (L + 1) (b8 2 :: (shortB x ++ r)) = _
   unfold decI
   rw [if_neg (by decide), if_pos (by rfl), takeS_complete x r (by omega)]
   rfl
  rw [if_neg h2] at ha2
  by_cases h3 : s = 3
  ·rw [if_pos h3] at ha2
   subst h3
   simp at ha2
   obtain ⟨⟨⟨hm, hx⟩, hn⟩, hks⟩ := ha2
   have hxe : x = ByteArray.empty := by
    have h : x.data.toList = [] := by rw [<- ByteArray.toList_eq]; simpa using hx
    cases x with | mk dd => simp at h; subst h; rfl
   subst hxe hn hks
   show decI (L + 1) (b8 3 :: b8 m :: r) = _
   unfold decI
   rw [if_neg (by decide), if_neg (by decide), if_pos (by rfl)]
   obtain ⟨k, rfl⟩ : ∃ k : Nat, m = (k : Int) := ⟨m.toNat, by omega⟩
   show some ((⟨3, ((b8 (k : Int)).toNat : Int), ByteArray.empty, [], []⟩ : Nd (T L)), r) = _
   rw [b8_toNat (by omega)]
   rfl
  rw [if_neg h3] at ha2
  have hs : s = 4 ∨ s = 5 ∨ s = 6 := by
   by_cases h4 : s = 4
   ·exact .inl h4
   ·rw [if_neg h4] at ha2
    by_cases h5 : s = 5
    ·exact .inr (.inl h5)
    ·rw [if_neg h5] at ha2
     by_cases h6 : s = 6
     ·exact .inr (.inr h6)
     ·rw [if_neg h6] at ha2; cases ha2
  have hfacts : m = 0 /\ x = ByteArray.empty /\ (s = 5 -> ns.length = ks.length) /\ (s ≠ 5 -> ns = []) /\ ∀ y, y ∈ ns -> y.size <= 255 := by
   have hxe : x.toList.isEmpty = true -> x = ByteArray.empty := fun hx => by
    have h : x.data.toList = [] := by rw [<- ByteArray.toList_eq]; simpa using hx
    cases x with | mk dd => simp at h; subst h; rfl
   by_cases h4 : s = 4
   ·rw [if_pos h4] at ha2
    simp only [Bool.and_eq_true, beq_iff_eq] at ha2
    have hn : ns = [] := List.eq_nil_of_length_eq_zero (by have := ha2.1.2; omega)
    exact ⟨ha2.1.1.1, hxe ha2.1.1.2, fun h => by omega, fun _ => hn, fun y hy => by rw [hn] at hy; cases hy⟩
   ·rw [if_neg h4] at ha2
    by_cases h5 : s = 5
    ·rw [if_pos h5] at ha2
     simp only [Bool.and_eq_true, beq_iff_eq] at ha2
     exact ⟨ha2.1.1.1, hxe ha2.1.1.2, fun _ => by have := ha2.1.2; omega, fun h => absurd h5 h, fun y hy => by have := riseB_names _ ha2.2 y hy; omega⟩
    ·rw [if_neg h5] at ha2
     rw [if_pos (by omega)] at ha2
     simp only [Bool.and_eq_true, beq_iff_eq] at ha2
     have hn : ns = [] := List.eq_nil_of_length_eq_zero (by have := ha2.1.2; omega)
     exact ⟨ha2.1.1.1, hxe ha2.1.1.2, fun h => by omega, fun _ => hn, fun y hy => by rw [hn] at hy; cases hy⟩
  obtain ⟨hm0, hx0, h5, hn5, hy⟩ := hfacts
  subst hm0 hx0
  have hp : packT (L + 1) (⟨s, 0, ByteArray.empty, ns, ks⟩ : Nd (T L)) = b8 s :: b8 (ks.length : Int) :: (partsP (packT L) s ns ks).flatten := by
   exact packT_deep (⟨s, 0, ByteArray.empty, ns, ks⟩ : Nd (T L)) h1 h2 h3
  have hkk := kidsI_complete (f := decI L) (s := s) (packT L) ks ns r (fun t ht z => ih t (d + 1) z (hk t ht) (hkc t ht)) h5 hn5 hy
  obtain ⟨sn, hsn⟩ : ∃ sn : Nat, s = (sn : Int) := ⟨s.toNat, by omega⟩
  subst hsn
  rw [hp]
  show decI (L + 1) (b8 (sn : Int) :: b8 (ks.length : Int) :: ((partsP (packT L) (sn : Int) ns ks).flatten ++ r)) = _
  unfold decI
  rw [b8_toNat (by omega), if_neg (by omega), if_neg (by omega), if_neg (by omega), if_pos (by omega)]
  show ((kidsI (decI L) (sn : Int) (b8 (ks.length : Int)).toNat ((partsP (packT L) (sn : Int) ns ks).flatten ++ r)).map fun p => ((⟨(sn : Int), 0, ByteArray.empty, p.1.1, p.1.2⟩ : Nd (T L)), p.2)) = _
  rw [b8_toNat (by omega), hkk]
  rfl
end Go.Proofs.YtmjhcgjhlakceaaGreatDoor
