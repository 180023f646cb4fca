import Derived.Below
namespace Go.Proofs.YtcfojmaccikgeaaGreatDoor
open Go.RowKit
abbrev ZN:=ByteArray
abbrev ZP:=Nat->Prop
abbrev ZO:=Option Addr
variable {P:Prop}
theorem om (h:P:=by omega):P:=h
theorem zS (h:P:=by simp):P:=h
theorem zE (h:P:=by simp;omega):P:=h
theorem zK (h:P:=by kernel_rfl):P:=h
theorem zC (h:P:=by decide):P:=h
theorem ii{α:Type}(a:α):∃x,x=a:=⟨a,rfl⟩
abbrev Bw(w w':World):Prop:=Below w.heap.size w w'
abbrev Bd(S:ZP)(w:World):Prop:=∀b,S b->b<w.heap.size
end Go.Proofs.YtcfojmaccikgeaaGreatDoor
namespace Go.Proofs.YtcfojmaccikgeaaGreatDoor
variable {α:Type}
structure Nd(α:Type) where
 sort:Int
 num:Int
 text:ZN
 names:List ZN
 kids:List α
def T:Nat->Type
 | 0=>Empty
 | n+1=>Nd (T n)
def jk:List ZN->Nat
 | []=>0
 | s :: r=>s.size+1+jk r
def b4{α:Type}(f:α->Nat):List α->Nat
 | []=>0
 | x :: r=>f x+b4 f r
def jR:(n:Nat)->T n->Nat
 | 0,_=>0
 | n+1,t=>Nd.text t |>.size |> (· + jk (Nd.names t)+b4 (fun k=>jR n k+1) (Nd.kids t))
def d9:(n:Nat)->T n->Nat
 | 0,_=>0
 | n+1,t=>1+b4 (fun k=>d9 n k) (Nd.kids t)
def gi(a:Nat)(b:Int):Int:=if (a:Int)<=b then b-a else -1
theorem jK(a:Nat)(b:Int)(h:b<=1048576): -1<=gi a b/\gi a b<=1048576:=by unfold gi;split<;>omega
theorem kW(a b:Nat)(c:Int):gi b (gi a c)=gi (a+b) c:=by
 unfold gi;by_cases h:(a:Int)<=c
 ·rw[if_pos h];by_cases d:(b:Int)<=c-a;·rw[if_pos d,if_pos om];omega
  ·rw[if_neg d,if_neg om]
 ·rw[if_neg h,if_neg om,if_neg om]
theorem t8(a b:List ZN):jk (a++b)=jk a+jk b:=by
 induction a with
 | nil=>simp[jk]
 | cons x r c=>simp only[List.cons_append,jk,c];omega
theorem iq(f:α->Nat)(a b:List α):b4 f (a++b)=b4 f a+b4 f b:=by
 induction a with
 | nil=>simp[b4]
 | cons x r c=>simp only[List.cons_append,b4,c];omega
theorem fQ(f:α->Nat)(l:List α)(k:Nat)(h:k<l.length):b4 f (l.take (k+1))=b4 f (l.take k)+f l[k]:=by rw[List.take_succ_eq_append_getElem h,iq];simp[b4]
theorem ph(l:List ZN)(k:Nat)(h:k<l.length):jk (l.take (k+1))=jk (l.take k)+(l[k].size+1):=by rw[List.take_succ_eq_append_getElem h,t8];simp[jk]
theorem gK(f:α->Nat)(l:List α)(x:α)(h:x∈l):f x<=b4 f l:=by
 induction l with
 | nil=>cases h
 | cons y r a=>
  simp only[b4];rcases List.mem_cons.1 h with rfl|h;·omega
  ·have:=a h;omega
theorem ud(l:List ZN):l.length<=jk l:=by
 induction l with
 | nil=>simp[jk]
 | cons y r a=>simp only[jk,List.length_cons];omega
theorem mx(f:α->Nat)(l:List α):l.length<=b4 (fun k=>f k+1) l:=by
 induction l with
 | nil=>simp[b4]
 | cons y r a=>simp only[b4,List.length_cons];omega
end Go.Proofs.YtcfojmaccikgeaaGreatDoor
