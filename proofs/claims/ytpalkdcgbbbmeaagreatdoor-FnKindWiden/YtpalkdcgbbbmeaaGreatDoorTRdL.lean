/-
  The specification's reader of a list, for trees of any number of levels.
-/
import Derived.Test.YtpalkdcgbbbmeaaGreatDoorParse2
import Derived.Test.YtpalkdcgbbbmeaaGreatDoorText
import Derived.Test.YtpalkdcgbbbmeaaGreatDoorEat
import Derived.Lib.ItoaMem
import Derived.Test.YtpalkdcgbbbmeaaGreatDoorRd
import Derived.Test.YtpalkdcgbbbmeaaGreatDoorDec
import Derived.WalkSmall
import Derived.LoopTactic
import Derived.Test.YtpalkdcgbbbmeaaGreatDoorRet
import Derived.Test.YtpalkdcgbbbmeaaGreatDoorMany0
import Derived.Test.YtpalkdcgbbbmeaaGreatDoorManyS
import Derived.Deep.RegionLaw
namespace Go.Proofs.YtpalkdcgbbbmeaaGreatDoor
open Go.RowKit

theorem Tryz.info_treeR : (Tryz.prog.info? 29).map (fun i => (i.zero, i.size, i.bytes)) = some (some (.agg #[.int .i64 0, .int .i64 0, .string ⟨#[]⟩, .slice none 0 0, .slice none 0 0]), 5, 80) := by kernel_rfl

theorem owns_on {R X k z : Nat} {e : TypeId} {v : Value} {xs : List Value} {W w2 : World} (h : W.ownsRow (X + 1) e z v k xs) (hRX : R < X) (hn : Near R W w2) (o : Obj) : (w2.alloc o).ownsRow (X + 1) e z v k xs :=
  owns_keep h fun g hg => by
    have h1 := owns_lt h g hg
    have h2 := hn.size
    rw [Below.heap_alloc _ _ _ (by omega)]
    exact hn.block g h1.2 (by omega)

theorem box_after {R X k z : Nat} {e : TypeId} {v : Value} {xs : List Value} {W w2 w3 : World} {o : Obj} (h : W.ownsRow (X + 1) e z v k xs) (hX : X < W.heap.size) (hRX : R < X) (hn : Near R W w2) (hg : (w2.alloc o).grownBy w3 v.ownBlock) : w3.heap[X]? = W.heap[X]? := by
  have hl := hn.size
  rw [hg.block X (by simp; omega) (fun e => by have := owns_lt h X e.symm; omega), Below.heap_alloc _ _ _ (by omega)]
  exact hn.block X hX (by omega)

theorem Many.kidD {R X n : Nat} {w wr W1 W2 : World} {so : Int} {ns : List ByteArray} {ks : List (T n)} {nv kv : Value} {t : T n} {c0 c1 c2 c3 c4 : Value} {one : Obj} {g cap : Nat} (m : Nat) (h0 : Many R X n w wr so ns ks nv kv) (hRX : R < X) (hw : w.heap.size ≤ X)
    (hn : Near R (wr.drewN m) W1) (ht : TreeIn (fun b => (wr.drewN m).heap.size ≤ b ∧ b < W1.heap.size) W1 n t c0 c1 c2 c3 c4) {xs : List Value}
    (hxs : wr.ownsRow (X + 1) 29 5 kv ks.length xs) (hk : ∀ j (h : j < ks.length), ∃ c0 c1 c2 c3 c4, (xs[j * 5]? = some c0 ∧ xs[j * 5 + 1]? = some c1 ∧ xs[j * 5 + 2]? = some c2 ∧ xs[j * 5 + 3]? = some c3 ∧ xs[j * 5 + 4]? = some c4) ∧ TreeIn (Far (X + 1) nv kv wr.heap.size) wr n ks[j] c0 c1 c2 c3 c4)
    (hown : W2.ownsRow (X + 1) 29 5 (.slice (some ⟨g, 0, none⟩) (ks.length + 1) cap) (ks.length + 1) (xs ++ [c0, c1, c2, c3, c4])) (hgrow : (W1.alloc one).grownBy W2 kv.ownBlock) (hat : kv.ownBlock = some g ∨ g = W1.heap.size + 1) :
    Many R X n w (W2.setCell ⟨X, 4, none⟩ (.slice (some ⟨g, 0, none⟩) (ks.length + 1) cap)) so ns (ks ++ [t]) nv (.slice (some ⟨g, 0, none⟩) (ks.length + 1) cap) :=
  Many.kid (W := wr.drewN m) (Wa := W1.alloc one) (one := one) (h0.keep hRX ((Near.refl R wr).drewN m)) hRX hw hn ht rfl ⟨rfl, rfl, rfl⟩ hxs
    (fun j hj => by obtain ⟨d0, d1, d2, d3, d4, hd, hdt⟩ := hk j hj; exact ⟨d0, d1, d2, d3, d4, hd, TreeIn.keep (S := Far (X + 1) nv kv wr.heap.size) (w := wr) (w' := wr.drewN m) (fun _ _ => rfl) (fun _ h => h) hdt⟩) hown hgrow hat

end Go.Proofs.YtpalkdcgbbbmeaaGreatDoor
