import Derived.Test.YtelogmjfekhmpaaGreatDoorParse
import Derived.Laws.Closers25b
namespace Go.Proofs.YtelogmjfekhmpaaGreatDoor
open Go.RowKit
def begB (c:UInt8):Bool:=digC c || c==45 || c==34 || c==121 || c==110 || c==91 || c==123 || c==126 || c==63
theorem qhX (u:Nat):∃ c r,Lib.decDigits u=c :: r/\digC c=true:=by
 cases h:Lib.decDigits u with
 | nil=>exact absurd h (qfR u)
 | cons c r=>exact⟨c,r,rfl,qcJ u c (by rw[h];exact List.mem_cons_self ..)⟩
theorem qiM (m:Int):∃ c r,Lib.itoa m=c :: r/\(digC c=true∨c=45):=by
 unfold Lib.itoa
 split
 ·exact⟨45,_,rfl,.inr rfl⟩
 ·obtain⟨c,r,h1,h2⟩:=qhX m.toNat
  exact⟨c,r,h1,.inl h2⟩
theorem qrN (n:Nat) (t:T (n+1)):∃ c r,txtL (n+1) t=c :: r/\begB c=true:=by
 simp only[txtL]
 split
 ·obtain⟨c,r,h1,h2⟩:=qiM (Nd.num t)
  refine⟨c,r,h1,?_⟩
  rcases h2 with h2|h2
  ·simp[begB,h2]
  ·subst h2;decide
 split
 ·exact⟨34,_,rfl,by decide⟩
 split
 ·split
  ·exact⟨121,_,rfl,by decide⟩
  ·exact⟨110,_,rfl,by decide⟩
 split
 ·cases Nd.kids t with
  | nil=>exact⟨126,_,rfl,by decide⟩
  | cons k r=>exact⟨63,_,rfl,by decide⟩
 split
 ·exact⟨123,_,rfl,by decide⟩
 ·exact⟨91,_,rfl,by decide⟩
theorem qlR (n:Nat) (t:T n) (d:Int) (h:goodT n t d=true):∃ c r,txtL n t=c :: r/\begB c=true:=by
 cases n with
 | zero=>simp[goodT]at h
 | succ n=>exact qrN n t
theorem xhV {c:UInt8} (h:begB c=true):c≠93/\c≠125/\c≠44:=by
 refine⟨?_,?_,?_⟩ <;> (rintro rfl;exact absurd h (by decide))
theorem qhY {s:ByteArray} (h:textB s=true):∀ c,c∈s.data.toList->c≠34:=by
 simp only[textB,Bool.and_eq_true]at h
 intro c hc
 have:=List.all_eq_true.1 h.2 c hc
 rintro rfl
 exact absurd this (by decide)
theorem qiN {x:ByteArray} (h:x.toList.isEmpty=true):x=ByteArray.empty:=
 (toList_nil_iff_emptyBytes x).1 (by simpa using h)
end Go.Proofs.YtelogmjfekhmpaaGreatDoor
