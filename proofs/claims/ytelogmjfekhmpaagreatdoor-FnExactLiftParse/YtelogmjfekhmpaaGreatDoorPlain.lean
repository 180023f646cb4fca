namespace Go.Proofs.YtelogmjfekhmpaaGreatDoor
structure Nd(α:Type) where
 sort:Int
 num:Int
 text:ByteArray
 names:List ByteArray
 kids:List α
def T:Nat->Type
 | 0=>Empty
 | n+1=>Nd (T n)
def szN:List ByteArray->Nat
 | []=>0
 | s :: r=>s.size+1+szN r
def sumL{α:Type}(f:α->Nat):List α->Nat
 | []=>0
 | x :: r=>f x+sumL f r
def szT:(n:Nat)->T n->Nat
 | 0,_=>0
 | n+1,t=>Nd.text t |>.size |> (· + szN (Nd.names t)+sumL (fun k=>szT n k+1) (Nd.kids t))
def cntT:(n:Nat)->T n->Nat
 | 0,_=>0
 | n+1,t=>1+sumL (fun k=>cntT n k) (Nd.kids t)
theorem qoE(a b:List ByteArray):szN (a++b)=szN a+szN b:=by
 induction a with
 | nil=>simp[szN]
 | cons x r ih=>simp only[List.cons_append,szN,ih];omega
theorem qcP{α:Type}(f:α->Nat)(a b:List α):sumL f (a++b)=sumL f a+sumL f b:=by
 induction a with
 | nil=>simp[sumL]
 | cons x r ih=>simp only[List.cons_append,sumL,ih];omega
theorem qbB{α:Type}(f:α->Nat)(l:List α)(k:Nat)(h:k<l.length):sumL f (l.take (k+1))=sumL f (l.take k)+f l[k]:=by
 rw[List.take_succ_eq_append_getElem h,qcP];simp[sumL]
theorem qiE(l:List ByteArray)(k:Nat)(h:k<l.length):szN (l.take (k+1))=szN (l.take k)+(l[k].size+1):=by
 rw[List.take_succ_eq_append_getElem h,qoE];simp[szN]
theorem qcA{α:Type}(f:α->Nat)(l:List α)(x:α)(h:x∈l):f x<=sumL f l:=by
 induction l with
 | nil=>cases h
 | cons y r ih=>
  simp only[sumL]
  rcases List.mem_cons.1 h with rfl|h
  ·omega
  ·have:=ih h;omega
end Go.Proofs.YtelogmjfekhmpaaGreatDoor
