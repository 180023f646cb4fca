import Derived.Test.YtcfojmaccikgeaaGreatDoorB2
import Derived.Laws.IdiomStrings
import Derived.Deep.QuietTactic
import Derived.BigQuiet
namespace Go.Proofs.YtcfojmaccikgeaaGreatDoor
open Go.RowKit Go.Proofs.Tryz
set_option maxRecDepth 100000
set_option maxHeartbeats 16000000
variable {w:World} {R:Nat} {s:ByteArray} {i:Int} {b:Bool}
def k9:List PanicEntry:=[{ v:=.iface 284 (.agg #[]),recovered:=false }]
theorem pq(w:World):Calls prog 240 #[.bool true] w fun e a=>e=.returned (.tuple #[])/\a=w:=by go_in;go_wp2;go_end0;exact⟨rfl,rfl⟩
theorem qI(w:World):Calls prog 240 #[.bool false] w fun e a=>e=.panicked k9/\a=w:=by go_in;go_wp2;exact⟨rfl,rfl,rfl⟩
def jb(w:World)(R:Nat)(s:ByteArray)(at_:Int)(bad:Bool):Prop:=w.heap[R]?=some (.cells #[.string s,.int .i64 at_,.bool bad] 212 (0,0))
theorem jb.cell0(h:jb w R s i b):w.cell? ⟨R,0,none⟩=some (.string s):=by unfold jb at h;simp[World.cell?,h]
theorem jb.cell1(h:jb w R s i b):w.cell? ⟨R,1,none⟩=some (.int .i64 i):=by unfold jb at h;simp[World.cell?,h]
theorem jb.cell2(h:jb w R s i b):w.cell? ⟨R,2,none⟩=some (.bool b):=by unfold jb at h;simp[World.cell?,h]
theorem jb.free(h:jb w R s i b)(o:Nat):w.frozen? ⟨R,o,none⟩=false:=by unfold jb at h;simp[World.frozen?,h]
theorem jb.lt(h:jb w R s i b):R<w.heap.size:=by unfold jb at h;exact (Array.getElem?_eq_some_iff.1 h).1
theorem jb.set1(h:jb w R s i b)(q:Int):jb (w.setCell ⟨R,1,none⟩ (.int .i64 q)) R s q b:=by unfold jb at h ⊢;simp[World.setCell,Array.getElem?_modify,h]
theorem jb.set2(h:jb w R s i b)(q:Bool):jb (w.setCell ⟨R,2,none⟩ (.bool q)) R s i q:=by unfold jb at h ⊢;simp[World.setCell,Array.getElem?_modify,h]
def fT(s:ByteArray)(i:Nat):UInt8:=(s.data.toList.drop i).headD 0
theorem s9(s:ByteArray)(i:Nat)(h:i<s.size):fT s i=s[i]:=by unfold fT;rw[List.drop_eq_getElem_cons (by simpa using h)];simp[ByteArray.getElem_eq_getElem_data]
theorem ow(s:ByteArray)(i:Nat)(h:s.size<=i):fT s i=0:=by unfold fT;rw[List.drop_of_length_le (by simpa using h)];rfl
theorem jb.drewN(h:jb w R s i b)(n:Nat):jb (w.drewN n) R s i b:=h
theorem b7.drewN{a:World}(h:b7 R a w)(n:Nat):b7 R a (w.drewN n):=⟨h.os,h.tape,h.output,h.size,h.block⟩
theorem sF (w:World) (R:Nat) (s:ByteArray) (i:Nat) (bad:Bool) (h:jb w R s i bad) :
  Calls prog 177 #[.pointer (some ⟨R,0,none⟩)] w fun e a=>e=.returned (.int .u8 ((fT s i).toNat:Int))/\∃m,a=w.drewN m:=by
 have c0:=h.cell0;have c1:=h.cell1;clear h;by_cases hi:i<s.size;·rw[s9 s i hi];go_in;go_wp2;go_quiet (fail);go_wp2;go_quiet (fail);go_wp2;go_ret;exact⟨rfl,_,World.drewN_drewN ..⟩
 ·rw[ow s i om];go_in;go_wp2;go_quiet (fail);go_wp2;go_ret;exact⟨rfl,_,rfl⟩
theorem lG (w:World) (R:Nat) (s x:ByteArray) (i:Nat) (bad:Bool) (h:jb w R s i bad) (v:s.size<=10000) (u:x.size<=100) (hi:i<=s.size) :
  Calls prog 178 #[.pointer (some ⟨R,0,none⟩),.string x] w fun e k=>e=.returned (.tuple #[])/\b7 R w k /\
   ((gA x.data.toList (s.data.toList.drop i)=some (s.data.toList.drop (i+x.size))/\i+x.size<=s.size/\jb k R s ((i+x.size:Nat):Int) bad)∨(gA x.data.toList (s.data.toList.drop i)=none/\jb k R s i true)):=by
 have c0:=h.cell0;have c1:=h.cell1;have c2:=h.cell2;have f1:=h.free 1;have f2:=h.free 2;have j:∀m,jb ((w.drewN m).setCell ⟨R,1,none⟩ (.int .i64 ((i:Int)+(x.size:Int)))) R s ((i+x.size:Nat):Int) bad:=fun m=>(h.drewN m).set1 _;have d:∀m,jb ((w.drewN m).setCell ⟨R,2,none⟩ (.bool true)) R s i true:=fun m=>(h.drewN m).set2 true;have g:∀m,b7 R w ((w.drewN m).setCell ⟨R,1,none⟩ (.int .i64 ((i:Int)+(x.size:Int)))):=fun m=>((b7.refl R w).drewN m).trans (b7.set R 1 _ _);have f:∀m,b7 R w ((w.drewN m).setCell ⟨R,2,none⟩ (.bool true)):=fun m=>((b7.refl R w).drewN m).trans (b7.set R 2 _ _);clear h;have t:IntKind.i64.wrap ((i:Int)+(x.size:Int))=(i:Int)+(x.size:Int):=by rw[IntKind.wrap_i64];omega
 have n:(i:Int)<=(s.size:Int):=om;by_cases l:i+x.size<=s.size
 ·have r:decide ((s.size:Int)<(i:Int)+(x.size:Int))=false:=by simp;omega
  have p:(i:Int)+(x.size:Int)<=(s.size:Int):=om;have q:((i:Int)+(x.size:Int)).toNat=i+x.size:=om;by_cases b:(s.extract i (i+x.size)).toList=x.toList
  ·have c:Hid (_=_):=FO s i x b;have a:Hid ((∀m,jb _ _ _ _ _)/\(∀m,b7 _ _ _)):=⟨j,g⟩;have o:((s.extract i (i+x.size)).toList==x.toList)=true:=by simp[b]
   clear j d g f b;go_in;go_wp2;go_quiet (fail);go_wp2;go_end0;exact⟨rfl,a.out.2 _,.inl ⟨c.out,l,a.out.1 _⟩⟩
  ·have c:Hid (_=_):=BJ s i x hi (fun h=>b h.2);have a:Hid ((∀m,jb _ _ _ _ _)/\(∀m,b7 _ _ _)):=⟨d,f⟩;have o:((s.extract i (i+x.size)).toList==x.toList)=false:=by simp[b]
   clear j d g f b;go_in;go_wp2;go_quiet (fail);go_wp2;refine bodyPost_ret (results_none rfl _ _ _) rfl ?_;exact⟨rfl,a.out.2 _,.inr ⟨c.out,a.out.1 _⟩⟩
 ·have c:Hid (_=_):=BJ s i x hi (fun h=>l h.1);have r:decide ((s.size:Int)<(i:Int)+(x.size:Int))=true:=zE;have a:Hid ((∀m,jb _ _ _ _ _)/\(∀m,b7 _ _ _)):=⟨d,f⟩;clear j d g f;go_in;go_wp2;go_quiet (fail);go_wp2;refine bodyPost_ret (results_none rfl _ _ _) rfl ?_;exact⟨rfl,a.out.2 _,.inr ⟨c.out,a.out.1 _⟩⟩
def atOf(w:World)(R:Nat):Nat:=match w.cell? ⟨R,1,none⟩ with|some (.int _ n)=>n.toNat|_=>0
theorem jb.atOf(h:jb w R s i b):atOf w R=i.toNat:=by unfold Go.Proofs.YtcfojmaccikgeaaGreatDoor.atOf;rw[h.cell1]
end Go.Proofs.YtcfojmaccikgeaaGreatDoor
