import Derived.Test.YtcfojmaccikgeaaGreatDoorB2
import Derived.BigQuiet
namespace Go.Proofs.YtcfojmaccikgeaaGreatDoor
open Go.RowKit Go.Proofs.Tryz
set_option maxRecDepth 100000
set_option maxHeartbeats 16000000
variable {w:World} {R:Nat} {s:ZN} {i:Int} {b:Bool}
def lc:List PanicEntry:=[{ v:=.iface 284 (.agg #[]),recovered:=false }]
theorem pw(w:World):Calls prog 240 #[.bool true] w fun e a=>e=.returned (.tuple #[])/\a=w:=by go_in;go_wp2;go_end0;exact⟨rfl,rfl⟩
theorem qG(w:World):Calls prog 240 #[.bool false] w fun e a=>e=.panicked lc/\a=w:=by go_in;go_wp2;exact⟨rfl,rfl,rfl⟩
def jm(w:World)(R:Nat)(s:ZN)(at_:Int)(bad:Bool):Prop:=w.heap[R]?=some (.cells #[.string s,.int .i64 at_,.bool bad] 212 (0,0))
theorem jm.cell0(h:jm w R s i b):w.cell? ⟨R,0,none⟩=some (.string s):=by unfold jm at h;simp[World.cell?,h]
theorem jm.cell1(h:jm w R s i b):w.cell? ⟨R,1,none⟩=some (.int .i64 i):=by unfold jm at h;simp[World.cell?,h]
theorem jm.cell2(h:jm w R s i b):w.cell? ⟨R,2,none⟩=some (.bool b):=by unfold jm at h;simp[World.cell?,h]
theorem jm.free(h:jm w R s i b)(o:Nat):w.frozen? ⟨R,o,none⟩=false:=by unfold jm at h;simp[World.frozen?,h]
theorem jm.lt(h:jm w R s i b):R<w.heap.size:=by unfold jm at h;exact (Array.getElem?_eq_some_iff.1 h).1
theorem jm.set1(h:jm w R s i b)(q:Int):jm (w.setCell ⟨R,1,none⟩ (.int .i64 q)) R s q b:=by unfold jm at h ⊢;simp[World.setCell,Array.getElem?_modify,h]
theorem jm.set2(h:jm w R s i b)(q:Bool):jm (w.setCell ⟨R,2,none⟩ (.bool q)) R s i q:=by unfold jm at h ⊢;simp[World.setCell,Array.getElem?_modify,h]
def fW(s:ZN)(i:Nat):UInt8:=(s.data.toList.drop i).headD 0
theorem tB(s:ZN)(i:Nat)(h:i<s.size):fW s i=s[i]:=by unfold fW;rw[List.drop_eq_getElem_cons (by simpa using h)];simp[ByteArray.getElem_eq_getElem_data]
theorem oS(s:ZN)(i:Nat)(h:s.size<=i):fW s i=0:=by unfold fW;rw[List.drop_of_length_le (by simpa using h)];rfl
theorem jm.drewN(h:jm w R s i b)(n:Nat):jm (w.drewN n) R s i b:=h
theorem b8.drewN{a:World}(h:b8 R a w)(n:Nat):b8 R a (w.drewN n):=⟨h.os,h.tape,h.output,h.size,h.block⟩
theorem tC (w:World) (R:Nat) (s:ZN) (i:Nat) (bad:Bool) (h:jm w R s i bad) :
  Calls prog 177 #[.pointer (some ⟨R,0,none⟩)] w fun e a=>e=.returned (.int .u8 ((fW s i).toNat:Int))/\∃m,a=w.drewN m:=by
 have c0:=h.cell0;have c1:=h.cell1;clear h;by_cases hi:i<s.size;·rw[tB s i hi];go_in;go_wp2;go_quiet (fail);go_wp2;go_quiet (fail);go_wp2;go_ret;exact⟨rfl,_,World.drewN_drewN ..⟩
 ·rw[oS s i om];go_in;go_wp2;go_quiet (fail);go_wp2;go_ret;exact⟨rfl,_,rfl⟩
theorem lJ (w:World) (R:Nat) (s x:ZN) (i:Nat) (bad:Bool) (h:jm w R s i bad) (t:s.size<=10000) (v:x.size<=100) (hi:i<=s.size) :
  Calls prog 178 #[.pointer (some ⟨R,0,none⟩),.string x] w fun e k=>e=.returned (.tuple #[])/\b8 R w k /\
   ((gy x.data.toList (s.data.toList.drop i)=some (s.data.toList.drop (i+x.size))/\i+x.size<=s.size/\jm k R s ((i+x.size:Nat):Int) bad)∨(gy x.data.toList (s.data.toList.drop i)=none/\jm k R s i true)):=by
 have c0:=h.cell0;have c1:=h.cell1;have c2:=h.cell2;have f1:=h.free 1;have f2:=h.free 2;have g:∀m,jm ((w.drewN m).setCell ⟨R,1,none⟩ (.int .i64 ((i:Int)+(x.size:Int)))) R s ((i+x.size:Nat):Int) bad:=fun m=>(h.drewN m).set1 _;have d:∀m,jm ((w.drewN m).setCell ⟨R,2,none⟩ (.bool true)) R s i true:=fun m=>(h.drewN m).set2 true;have j:∀m,b8 R w ((w.drewN m).setCell ⟨R,1,none⟩ (.int .i64 ((i:Int)+(x.size:Int)))):=fun m=>((b8.refl R w).drewN m).trans (b8.set R 1 _ _);have f:∀m,b8 R w ((w.drewN m).setCell ⟨R,2,none⟩ (.bool true)):=fun m=>((b8.refl R w).drewN m).trans (b8.set R 2 _ _);clear h;have u:IntKind.i64.wrap ((i:Int)+(x.size:Int))=(i:Int)+(x.size:Int):=by rw[IntKind.wrap_i64];omega
 have r:(i:Int)<=(s.size:Int):=om;by_cases l:i+x.size<=s.size
 ·have o:decide ((s.size:Int)<(i:Int)+(x.size:Int))=false:=by simp;omega
  have p:(i:Int)+(x.size:Int)<=(s.size:Int):=om;have q:((i:Int)+(x.size:Int)).toNat=i+x.size:=om;by_cases b:(s.extract i (i+x.size)).toList=x.toList
  ·have c:Hid (_=_):=Fx s i x b;have a:Hid ((∀m,jm _ _ _ _ _)/\(∀m,b8 _ _ _)):=⟨g,j⟩;have n:((s.extract i (i+x.size)).toList==x.toList)=true:=by simp[b]
   clear g d j f b;go_in;go_wp2;go_quiet (fail);go_wp2;go_end0;exact⟨rfl,a.out.2 _,.inl ⟨c.out,l,a.out.1 _⟩⟩
  ·have c:Hid (_=_):=BV s i x hi (fun h=>b h.2);have a:Hid ((∀m,jm _ _ _ _ _)/\(∀m,b8 _ _ _)):=⟨d,f⟩;have n:((s.extract i (i+x.size)).toList==x.toList)=false:=by simp[b]
   clear g d j f b;go_in;go_wp2;go_quiet (fail);go_wp2;refine bodyPost_ret (results_none rfl _ _ _) rfl ?_;exact⟨rfl,a.out.2 _,.inr ⟨c.out,a.out.1 _⟩⟩
 ·have c:Hid (_=_):=BV s i x hi (fun h=>l h.1);have o:decide ((s.size:Int)<(i:Int)+(x.size:Int))=true:=zE;have a:Hid ((∀m,jm _ _ _ _ _)/\(∀m,b8 _ _ _)):=⟨d,f⟩;clear g d j f;go_in;go_wp2;go_quiet (fail);go_wp2;refine bodyPost_ret (results_none rfl _ _ _) rfl ?_;exact⟨rfl,a.out.2 _,.inr ⟨c.out,a.out.1 _⟩⟩
def atOf(w:World)(R:Nat):Nat:=match w.cell? ⟨R,1,none⟩ with|some (.int _ n)=>n.toNat|_=>0
theorem jm.atOf(h:jm w R s i b):atOf w R=i.toNat:=by unfold Go.Proofs.YtcfojmaccikgeaaGreatDoor.atOf;rw[h.cell1]
end Go.Proofs.YtcfojmaccikgeaaGreatDoor
