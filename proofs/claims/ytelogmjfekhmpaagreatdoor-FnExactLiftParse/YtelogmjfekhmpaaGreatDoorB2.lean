import Derived.Test.YtelogmjfekhmpaaGreatDoorB1
import Derived.Laws.IdiomStrings
import Derived.Deep.QuietTactic
import Derived.BigQuiet
namespace Go.Proofs.YtelogmjfekhmpaaGreatDoor
open Go.RowKit Go.Proofs.Tryz
set_option maxRecDepth 100000
set_option maxHeartbeats 16000000
def RdS(w:World)(R:Nat)(s:ByteArray)(at_:Int)(bad:Bool):Prop:=w.heap[R]?=some (.cells #[.string s,.int .i64 at_,.bool bad] 72 (0,0))
theorem RdS.cell0{w:World}{R:Nat}{s:ByteArray}{i:Int}{b:Bool}(h:RdS w R s i b):w.cell? ⟨R,0,none⟩=some (.string s):=by unfold RdS at h;simp[World.cell?,h]
theorem RdS.cell1{w:World}{R:Nat}{s:ByteArray}{i:Int}{b:Bool}(h:RdS w R s i b):w.cell? ⟨R,1,none⟩=some (.int .i64 i):=by unfold RdS at h;simp[World.cell?,h]
theorem RdS.cell2{w:World}{R:Nat}{s:ByteArray}{i:Int}{b:Bool}(h:RdS w R s i b):w.cell? ⟨R,2,none⟩=some (.bool b):=by unfold RdS at h;simp[World.cell?,h]
theorem RdS.free{w:World}{R:Nat}{s:ByteArray}{i:Int}{b:Bool}(h:RdS w R s i b)(o:Nat):w.frozen? ⟨R,o,none⟩=false:=by unfold RdS at h;simp[World.frozen?,h]
theorem RdS.lt{w:World}{R:Nat}{s:ByteArray}{i:Int}{b:Bool}(h:RdS w R s i b):R<w.heap.size:=by unfold RdS at h;exact (Array.getElem?_eq_some_iff.1 h).1
theorem RdS.set1{w:World}{R:Nat}{s:ByteArray}{i:Int}{b:Bool}(h:RdS w R s i b)(q:Int):RdS (w.setCell ⟨R,1,none⟩ (.int .i64 q)) R s q b:=by unfold RdS at h ⊢;simp[World.setCell,Array.getElem?_modify,h]
theorem RdS.set2{w:World}{R:Nat}{s:ByteArray}{i:Int}{b:Bool}(h:RdS w R s i b)(q:Bool):RdS (w.setCell ⟨R,2,none⟩ (.bool q)) R s i q:=by unfold RdS at h ⊢;simp[World.setCell,Array.getElem?_modify,h]
def lookB(s:ByteArray)(i:Nat):UInt8:=(s.data.toList.drop i).headD 0
theorem qeR(s:ByteArray)(i:Nat)(h:i<s.size):lookB s i=s[i]:=by
 unfold lookB
 rw[List.drop_eq_getElem_cons (by simpa using h)]
 simp[ByteArray.getElem_eq_getElem_data]
theorem qbU(s:ByteArray)(i:Nat)(h:s.size<=i):lookB s i=0:=by
 unfold lookB
 rw[List.drop_of_length_le (by simpa using h)];rfl
theorem RdS.drewN{w:World}{R:Nat}{s:ByteArray}{i:Int}{b:Bool}(h:RdS w R s i b)(n:Nat):RdS (w.drewN n) R s i b:=h
theorem Near.drewN{R:Nat}{a w:World}(h:Near R a w)(n:Nat):Near R a (w.drewN n):=⟨h.os,h.tape,h.output,h.size,h.block⟩
theorem qeS (w:World) (R:Nat) (s:ByteArray) (i:Nat) (bad:Bool) (h:RdS w R s i bad) :
  Calls prog 56 #[.pointer (some ⟨R,0,none⟩)] w fun e w'=>e=.returned (.int .u8 ((lookB s i).toNat:Int))/\∃m,w'=w.drewN m:=by
 have c0:=h.cell0
 have c1:=h.cell1
 clear h
 by_cases hi:i<s.size
 ·rw[qeR s i hi]
  go_enter func56,ntmps56
  go_wp2
  go_quiet (fail)
  go_wp2
  go_quiet (fail)
  go_wp2
  go_ret
  exact⟨rfl,_,World.drewN_drewN ..⟩
 ·rw[qbU s i (by omega)]
  go_enter func56,ntmps56
  go_wp2
  go_quiet (fail)
  go_wp2
  go_ret
  exact⟨rfl,_,rfl⟩
theorem qcI (w:World) (R:Nat) (s x:ByteArray) (i:Nat) (bad:Bool) (h:RdS w R s i bad) (hs:s.size<=10000) (hx:x.size<=100) (hi:i<=s.size) :
  Calls prog 57 #[.pointer (some ⟨R,0,none⟩),.string x] w fun e w'=>e=.returned (.tuple #[])/\Near R w w' /\
   ((eatP x.data.toList (s.data.toList.drop i)=some (s.data.toList.drop (i+x.size))/\i+x.size<=s.size/\RdS w' R s ((i+x.size:Nat):Int) bad)∨(eatP x.data.toList (s.data.toList.drop i)=none/\RdS w' R s i true)):=by
 have c0:=h.cell0
 have c1:=h.cell1
 have c2:=h.cell2
 have f1:=h.free 1
 have p:=h.free 2
 have f:∀m,RdS ((w.drewN m).setCell ⟨R,1,none⟩ (.int .i64 ((i:Int)+(x.size:Int)))) R s ((i+x.size:Nat):Int) bad:=fun m=>(h.drewN m).set1 _
 have b:∀m,RdS ((w.drewN m).setCell ⟨R,2,none⟩ (.bool true)) R s i true:=fun m=>(h.drewN m).set2 true
 have g:∀m,Near R w ((w.drewN m).setCell ⟨R,1,none⟩ (.int .i64 ((i:Int)+(x.size:Int)))):=fun m=>((Near.refl R w).drewN m).trans (Near.set R 1 _ _)
 have c:∀m,Near R w ((w.drewN m).setCell ⟨R,2,none⟩ (.bool true)):=fun m=>((Near.refl R w).drewN m).trans (Near.set R 2 _ _)
 clear h
 have q:IntKind.i64.wrap ((i:Int)+(x.size:Int))=(i:Int)+(x.size:Int):=by rw[IntKind.wrap_i64];omega
 have j:(i:Int)<=(s.size:Int):=by omega
 by_cases h1:i+x.size<=s.size
 ·have k:decide ((s.size:Int)<(i:Int)+(x.size:Int))=false:=by simp;omega
  have l:(i:Int)+(x.size:Int)<=(s.size:Int):=by omega
  have n:((i:Int)+(x.size:Int)).toNat=i+x.size:=by omega
  by_cases h2:(s.extract i (i+x.size)).toList=x.toList
  ·have d:Hid (_=_):=xfI s i x h2
   have a:Hid ((∀m,RdS _ _ _ _ _)/\(∀m,Near _ _ _)):=⟨f,g⟩
   have o:((s.extract i (i+x.size)).toList==x.toList)=true:=by simp[h2]
   clear f b g c h2
   go_enter func57,ntmps57
   go_wp2
   go_quiet (fail)
   go_wp2
   go_end0
   exact⟨rfl,a.out.2 _,.inl ⟨d.out,h1,a.out.1 _⟩⟩
  ·have d:Hid (_=_):=xaH s i x hi (fun h=>h2 h.2)
   have a:Hid ((∀m,RdS _ _ _ _ _)/\(∀m,Near _ _ _)):=⟨b,c⟩
   have o:((s.extract i (i+x.size)).toList==x.toList)=false:=by simp[h2]
   clear f b g c h2
   go_enter func57,ntmps57
   go_wp2
   go_quiet (fail)
   go_wp2
   refine bodyPost_ret (results_none rfl _ _ _) rfl ?_
   exact⟨rfl,a.out.2 _,.inr ⟨d.out,a.out.1 _⟩⟩
 ·have d:Hid (_=_):=xaH s i x hi (fun h=>h1 h.1)
  have k:decide ((s.size:Int)<(i:Int)+(x.size:Int))=true:=by simp;omega
  have a:Hid ((∀m,RdS _ _ _ _ _)/\(∀m,Near _ _ _)):=⟨b,c⟩
  clear f b g c
  go_enter func57,ntmps57
  go_wp2
  go_quiet (fail)
  go_wp2
  refine bodyPost_ret (results_none rfl _ _ _) rfl ?_
  exact⟨rfl,a.out.2 _,.inr ⟨d.out,a.out.1 _⟩⟩
def atOf(w:World)(R:Nat):Nat:=match w.cell? ⟨R,1,none⟩ with|some (.int _ n)=>n.toNat|_=>0
theorem RdS.atOf{w:World}{R:Nat}{s:ByteArray}{i:Int}{b:Bool}(h:RdS w R s i b):atOf w R=i.toNat:=by
 unfold Go.Proofs.YtelogmjfekhmpaaGreatDoor.atOf;rw[h.cell1]
def refusal:List PanicEntry:=[{ v:=.iface 160 (.agg #[]),recovered:=false }]
theorem qbA(w:World):Calls prog 156 #[.bool true] w fun e w'=>e=.returned (.tuple #[])/\w'=w:=by
 go_enter func156,ntmps156
 go_wp2
 go_end0
 exact⟨rfl,rfl⟩
theorem qfH(w:World):Calls prog 156 #[.bool false] w fun e w'=>e=.panicked refusal/\w'=w:=by
 go_enter func156,ntmps156
 go_wp2
 exact⟨rfl,rfl,rfl⟩
end Go.Proofs.YtelogmjfekhmpaaGreatDoor
