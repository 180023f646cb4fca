import Derived.Test.YtelogmjfekhmpaaGreatDoorNL2
import Derived.Test.YtelogmjfekhmpaaGreatDoorNear
import Derived.Deep.WholeRow
namespace Go.Proofs.YtelogmjfekhmpaaGreatDoor
set_option maxRecDepth 100000
set_option maxHeartbeats 16000000
open Go.RowKit
def opL:Nat->List Value
 | 0=>[]
 | n+1=>opL n++[.string (wrd n),.string (bs (prt n)),.int .i64 (lst n),.int .i64 (mst n)]
def opC:Array Value:=(opL 44).toArray
theorem xiI:∀ n,(opL n).length=n*4:=by
 intro n
 induction n with
 | zero=>rfl
 | succ n ih=>rw[opL,List.length_append,ih];simp;omega
theorem xiJ:∀ n k,k<n->(opL n)[k*4]?=some (.string (wrd k))/\(opL n)[k*4+1]?=some (.string (bs (prt k)))/\(opL n)[k*4+2]?=some (.int .i64 (lst k))/\(opL n)[k*4+3]?=some (.int .i64 (mst k)):=by
 intro n
 induction n with
 | zero=>intro k h;exact absurd h (Nat.not_lt_zero _)
 | succ n ih=>
  intro k h
  have hl:=xiI n
  by_cases hk:k<n
  ·obtain⟨h0,h1,h2,h3⟩:=ih k hk
   rw[opL,List.getElem?_append_left (by omega),List.getElem?_append_left (by omega),List.getElem?_append_left (by omega),List.getElem?_append_left (by omega)]
   exact⟨h0,h1,h2,h3⟩
  ·have:k=n:=by omega
   subst this
   rw[opL,List.getElem?_append_right (by omega),List.getElem?_append_right (by omega),List.getElem?_append_right (by omega),List.getElem?_append_right (by omega),hl,
    show k*4 - k*4=0 by omega,show k*4+1 - k*4=1 by omega,show k*4+2 - k*4=2 by omega,show k*4+3 - k*4=3 by omega]
   exact⟨rfl,rfl,rfl,rfl⟩
def Book (w:World) (b:Nat):Prop:=∀ k,k<44->w.cell? ⟨b,k*4,none⟩=some (.string (wrd k))/\w.cell? ⟨b,k*4+1,none⟩=some (.string (bs (prt k)))/\w.cell? ⟨b,k*4+2,none⟩=some (.int .i64 (lst k))/\w.cell? ⟨b,k*4+3,none⟩=some (.int .i64 (mst k))
theorem Book.keep {w w':World} {b:Nat} (h:Book w b) (hb:w'.heap[b]?=w.heap[b]?):Book w' b:=by
 intro k hk
 obtain⟨h0,h1,h2,h3⟩:=h k hk
 exact⟨(World.cell?_of_block (w:=w) (w':=w') (a:=⟨b,k*4,none⟩) hb).trans h0,(World.cell?_of_block (w:=w) (w':=w') (a:=⟨b,k*4+1,none⟩) hb).trans h1,(World.cell?_of_block (w:=w) (w':=w') (a:=⟨b,k*4+2,none⟩) hb).trans h2,(World.cell?_of_block (w:=w) (w':=w') (a:=⟨b,k*4+3,none⟩) hb).trans h3⟩
theorem Book.of {w:World} {b:Nat} {t:TypeId} {z:Nat × Nat} (h:w.heap[b]?=some (.cells opC t z)):Book w b:=by
 intro k hk
 obtain⟨h0,h1,h2,h3⟩:=xiJ 44 k hk
 refine⟨?_,?_,?_,?_⟩
 ·simp[World.cell?,h,opC,h0]
 ·simp[World.cell?,h,opC,h1]
 ·simp[World.cell?,h,opC,h2]
 ·simp[World.cell?,h,opC,h3]
theorem qpM {P:Program} {fn:Func} {p:Tmp} {ty:TypeId} (h:fn.results=#[.cell p ty]) (tmps:Array Value) (w:World) (b:Addr) (v:Value) (ha:tmps.getD p undef=.pointer (some b)) (hl:(loadVar ty b).run P w=.ok v w) :
  (results fn tmps).run P w=.ok v w:=by
 have aA:tmps[p]?.getD undef=.pointer (some b):=by simpa using ha
 simp[results,h,aA,hl,asAddr]
theorem qpN (w:World):Calls Tryz.prog 61 #[] w fun e w'=>e=.returned (.agg opC)/\Below w.heap.size w w':=by
 have aD:opC.size=176:=by kernel_rfl
 have aB:=run_storeAt_new (P:=Tryz.prog) w 99 Tryz.zeroCells99 opC (by kernel_rfl) (by kernel_rfl) (by kernel_rfl)
 have aA:=run_storeCells_new (P:=Tryz.prog) w 99 Tryz.zeroCells99 opC (by kernel_rfl) (by kernel_rfl) (by kernel_rfl)
 have aC:Hid _:=run_loadVar_new (P:=Tryz.prog) w 99 opC 44 98 (by kernel_rfl) (by kernel_rfl)
 go_enter Tryz.func61,Tryz.ntmps61
 go_wp2_with fail
 conv=>
  pattern (Array.setIfInBounds (Array.setIfInBounds _ 174 _) 175 _)
  tactic=>refine Eq.trans (b:=opC) ?_ rfl;kernel_rfl
 conv=>
  pattern (List.set (List.set _ 174 _) 175 _)
  tactic=>refine Eq.trans (b:=opC.toList) ?_ rfl;kernel_rfl
 have HB:Hid (Below w.heap.size w (w.alloc (.cells opC 99))):=(Below.refl _ _).alloc (Nat.le_refl _) _
 rw[aA]
 clear aB aA
 go_wp2_with fail
 exact bodyPost_ret (qpM Tryz.results61 _ _ ⟨w.heap.size,0,none⟩ _ rfl aC.out) rfl ⟨rfl,HB.out⟩
end Go.Proofs.YtelogmjfekhmpaaGreatDoor
