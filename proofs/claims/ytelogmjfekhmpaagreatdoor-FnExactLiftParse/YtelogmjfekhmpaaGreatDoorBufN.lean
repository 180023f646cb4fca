import Derived.Test.YtelogmjfekhmpaaGreatDoorTextN
import Derived.Lib.AppendStr
import Derived.Lib.Hide
import Derived.Lib.OthersKept
import Derived.Laws.IdiomStrings
namespace Go.Proofs.YtelogmjfekhmpaaGreatDoor
open Go.RowKit
structure Buf (B:Nat) (w0 w:World) (v:Value) (l:List UInt8):Prop where
 own:w.ownsRow B 5 1 v l.length (Lib.byteCells l)
 below:Below B w0 w
 le:B<=w.heap.size
 kept:Lib.OthersKept 5 none w0 w
theorem Buf.nil {B:Nat} {w:World} (h:B<=w.heap.size):Buf B w w (.slice none 0 0) []:=⟨World.ownsRow_nil _ _ _ _,Below.refl _ _,h,Lib.OthersKept.refl _ _ _⟩
theorem Buf.from {B:Nat} {w0 w1 w:World} {v v0:Value} {l l0:List UInt8} (h:Buf B w1 w v l) (hb:Buf B w0 w1 v0 l0):Buf B w0 w v l:=⟨h.own,hb.below.trans h.below,h.le,hb.kept.trans h.kept⟩
theorem Buf.here {B:Nat} {w0 w:World} {v:Value} {l:List UInt8} (h:Buf B w0 w v l):Buf B w w v l:=⟨h.own,Below.refl _ _,h.le,Lib.OthersKept.refl _ _ _⟩
theorem Buf.alloc {B:Nat} {w0 w:World} {v:Value} {l:List UInt8} (h:Buf B w0 w v l) (o:Obj):Buf B w0 (w.alloc o) v l:=⟨h.own.alloc o,h.below.alloc h.le o,by have:=h.le;simp;omega,h.kept.alloc o⟩
theorem Buf.grown {B:Nat} {w0 w w':World} {v v':Value} {l l':List UInt8} (h:Buf B w0 w v l) (ho:w'.ownsRow B 5 1 v' l'.length (Lib.byteCells l')) (hg:w.grownBy w' v.ownBlock):Buf B w0 w' v' l':=
 ⟨ho,h.below.grown hg h.le (fun k hk=>(h.own.lt k hk).1),Nat.le_trans h.le hg.size,h.kept.grown hg (fun g hg'=>by
  rcases h.own.2 with ⟨rfl,h0⟩|⟨g',cap,cur,rfl,hbg,hgg,hnc,hcm,hcs,htake⟩
  ·cases hg'
  ·have:g'=g:=by simpa [Value.ownBlock] using hg'
   subst this
   exact⟨_,_,hgg⟩)⟩
theorem Buf.shape {B:Nat} {w0 w:World} {v:Value} {l:List UInt8} (h:Buf B w0 w v l):∃ a N c,v=.slice a N c:=by
 rcases h.own.2 with ⟨rfl,h0⟩|⟨g,cap,cur,rfl,aB,hg,aC,aD,aE,aA⟩
 ·exact⟨_,_,_,rfl⟩
 ·exact⟨_,_,_,rfl⟩
theorem Tryz.info_byte:(Tryz.prog.info? 5).map (fun i=>(i.zero,i.size,i.bytes))=some (some (.int .u8 0),1,1):=by kernel_rfl
theorem qaX {ops:Array Oper} {rest:List Oper} {o:Oper} {a:Act} {Q:Exit->Act->World->Prop} (hgd:o.guard=none) (s x:Operand)
  (ho:o.op=.call { callee:=.builtin .append,args:=#[s,x],argTypes:=#[90,90] })
  (B:Nat) (v:Value) (l:List UInt8) (hs:a.eval s=v) (W0 w0:World) (c:Int) (d:UInt8) (hcd:c=(d.toNat:Int)) (hb:Buf B W0 w0 v l)
  (hx:a.eval x=.slice (some ⟨w0.heap.size,0,none⟩) 1 1) (hlen:l.length<=1000000)
  (h:∀ v' w',Buf B W0 w' v' (l++[d])->wpList Tryz.prog ops Q rest (a.put o.dst v') w'):wpList Tryz.prog ops Q (o :: rest) a (w0.alloc (.cells #[.int .u8 c] 5)):=by
 subst hcd
 have aA:=hb.alloc (.cells #[.int .u8 (d.toNat:Int)] 5)
 obtain⟨i0,hi,aB,aC,aD⟩:=info_parts Tryz.info_byte
 refine wpList_append_own _ hgd s x 90 ho B 5 i0 (.int .u8 0) 1 1 Tryz.underlying90 hi aB aC aD rfl (by decide) v _ _ hs aA.own ⟨w0.heap.size,0,none⟩ 1 1 [.int .u8 (d.toNat:Int)] hx rfl ?_ ?_ (by unfold maxLen;omega) (by omega) aA.le ?_
 ·intro j u hj
  match j,hj with
  | 0,hj=>simp at hj;subst hj;simp[Addr.add]
  | (j+1),hj=>simp at hj
 ·intro u hu;simp at hu;subst hu;rfl
 ·intro v' w' aE hg _
  refine h v' w' (aA.grown ?_ hg)
  simpa [Lib.byteCells] using aE
theorem qcI {ops:Array Oper} {rest:List Oper} {o:Oper} {a:Act} {Q:Exit->Act->World->Prop} {w:World} (hgd:o.guard=none) (sl x:Operand) (u:TypeId)
  (ho:o.op=.call { callee:=.builtin .append,args:=#[sl,x],argTypes:=#[90,u] }) (hu:Tryz.prog.underlying u=some .string)
  (B:Nat) (v:Value) (l:List UInt8) (hs:a.eval sl=v) (W0:World) (hb:Buf B W0 w v l) (s:ByteArray) (hx:a.eval x=.string s) (hlen:l.length+s.size<=1000000)
  (h:∀ v' w',Buf B W0 w' v' (l++s.data.toList)->wpList Tryz.prog ops Q rest (a.put o.dst v') w'):wpList Tryz.prog ops Q (o :: rest) a w:=by
 obtain⟨i0,hi,aA,aB,aC⟩:=info_parts Tryz.info_byte
 refine Lib.wpList_append_own_string w hgd sl x 90 u ho B 5 i0 Tryz.underlying90 hu hi aA aB aC v _ _ hs hb.own s hx (by unfold maxLen;omega) (by omega) hb.le ?_
 intro v' w' aD hg _
 refine h v' w' (hb.grown ?_ hg)
 have e:(l++s.data.toList).length=l.length+s.size:=by simp
 rw[e,Lib.byteCells_append,<- Lib.strCells_eq]
 exact aD
theorem qoY (B:Nat) (w0 w:World) (v:Value) (l:List UInt8) (hb:Buf B w0 w v l) (hl:l≠[]):(convert 90 9 v).run Tryz.prog w=.ok (.string (bs l)) w:=by
 rcases hb.own.2 with ⟨rfl,h0⟩|⟨g,cap,cur,rfl,-,-,-,-,-,-⟩
 ·exact absurd (List.eq_nil_of_length_eq_zero h0) hl
 ·exact run_convert_bytes_back (P:=Tryz.prog) w 90 9 5 ⟨g,0,none⟩ cap l Tryz.underlying90 Tryz.underlying5 Tryz.underlying9 (fun j hj=>hb.own.cells (g:=g) rfl j _ (by simp[Lib.byteCells,hj]))
theorem Buf.drew {B:Nat} {w0 w:World} {v:Value} {l:List UInt8} (h:Buf B w0 w v l):Buf B w0 w.drew v l:=⟨h.own.drew,h.below.drew,h.le,h.kept.drew⟩
theorem qqP {ops:Array Oper} {o:Oper} {a:Act} {K:Act->World->Prop} {Q:Exit->Act->World->Prop} {E:Prop} {w:World} (hgd:o.guard=none) (s x:Operand)
  (ho:o.op=.call { callee:=.builtin .append,args:=#[s,x],argTypes:=#[90,90] })
  (B:Nat) (v:Value) (l:List UInt8) (hs:a.eval s=v) (W0:World) (d:UInt8) (hb:Buf B W0 w v l) (N:Nat)
  (hx:a.eval x=.slice (some ⟨N,0,none⟩) 1 1) (hcell:w.cell? ⟨N,0,none⟩=some (.int .u8 (d.toNat:Int))) (hlen:l.length<=1000000)
  (h:∀ v' w',Buf B W0 w' v' (l++[d])->K (a.put o.dst v') w'):if Region.wanted o (yielded ops a.tmps)=true then Oper.wp Tryz.prog o a w K Q else E:=by
 have hw:Region.wanted o (yielded ops a.tmps)=true:=by simp[Region.wanted,hgd]
 rw[if_pos hw]
 obtain⟨i0,hi,aA,aB,aC⟩:=info_parts Tryz.info_byte
 refine wp_append_own w s x 90 ho B 5 i0 (.int .u8 0) 1 1 Tryz.underlying90 hi aA aB aC rfl (by decide) v _ _ hs hb.own ⟨N,0,none⟩ 1 1 [.int .u8 (d.toNat:Int)] hx rfl ?_ ?_ (by unfold maxLen;omega) (by omega) hb.le ?_
 ·intro j u hj
  match j,hj with
  | 0,hj=>simp at hj;subst hj;exact hcell
  | (j+1),hj=>simp at hj
 ·intro u hu;simp at hu;subst hu;rfl
 ·intro v' w' aD hg _
  refine h v' w' (hb.grown ?_ hg)
  simpa [Lib.byteCells] using aD
end Go.Proofs.YtelogmjfekhmpaaGreatDoor
