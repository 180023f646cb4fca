import Derived.KernelRfl
import Derived.Below
namespace Go.Proofs.YtcfojmaccikgeaaGreatDoor
open Go.RowKit
variable {P:Prop}
theorem om (h:P:=by omega):P:=h
theorem zS (h:P:=by simp):P:=h
theorem zE (h:P:=by simp;omega):P:=h
theorem zK (h:P:=by kernel_rfl):P:=h
theorem zC (h:P:=by decide):P:=h
theorem iw{α:Type}(a:α):∃x,x=a:=⟨a,rfl⟩
abbrev Bw(w w':World):Prop:=Below w.heap.size w w'
abbrev Bd(S:Nat->Prop)(w:World):Prop:=∀b,S b->b<w.heap.size
end Go.Proofs.YtcfojmaccikgeaaGreatDoor
namespace Go.Proofs.YtcfojmaccikgeaaGreatDoor
variable {α:Type}
structure Nd(α:Type) where
 sort:Int
 num:Int
 text:ByteArray
 names:List ByteArray
 kids:List α
def T:Nat->Type
 | 0=>Empty
 | n+1=>Nd (T n)
def jc:List ByteArray->Nat
 | []=>0
 | s :: r=>s.size+1+jc r
def b5{α:Type}(f:α->Nat):List α->Nat
 | []=>0
 | x :: r=>f x+b5 f r
def kr:(n:Nat)->T n->Nat
 | 0,_=>0
 | n+1,t=>Nd.text t |>.size |> (· + jc (Nd.names t)+b5 (fun k=>kr n k+1) (Nd.kids t))
def fJ:(n:Nat)->T n->Nat
 | 0,_=>0
 | n+1,t=>1+b5 (fun k=>fJ n k) (Nd.kids t)
def gn(a:Nat)(b:Int):Int:=if (a:Int)<=b then b-a else -1
theorem jB(a:Nat)(b:Int)(h:b<=1048576): -1<=gn a b/\gn a b<=1048576:=by unfold gn;split<;>omega
theorem kX(a b:Nat)(c:Int):gn b (gn a c)=gn (a+b) c:=by
 unfold gn;by_cases h:(a:Int)<=c
 ·rw[if_pos h];by_cases d:(b:Int)<=c-a;·rw[if_pos d,if_pos om];omega
  ·rw[if_neg d,if_neg om]
 ·rw[if_neg h,if_neg om,if_neg om]
theorem sT(a b:List ByteArray):jc (a++b)=jc a+jc b:=by
 induction a with
 | nil=>simp[jc]
 | cons x r c=>simp only[List.cons_append,jc,c];omega
theorem im(f:α->Nat)(a b:List α):b5 f (a++b)=b5 f a+b5 f b:=by
 induction a with
 | nil=>simp[b5]
 | cons x r c=>simp only[List.cons_append,b5,c];omega
theorem fY(f:α->Nat)(l:List α)(k:Nat)(h:k<l.length):b5 f (l.take (k+1))=b5 f (l.take k)+f l[k]:=by rw[List.take_succ_eq_append_getElem h,im];simp[b5]
theorem pa(l:List ByteArray)(k:Nat)(h:k<l.length):jc (l.take (k+1))=jc (l.take k)+(l[k].size+1):=by rw[List.take_succ_eq_append_getElem h,sT];simp[jc]
theorem gX(f:α->Nat)(l:List α)(x:α)(h:x∈l):f x<=b5 f l:=by
 induction l with
 | nil=>cases h
 | cons y r a=>
  simp only[b5];rcases List.mem_cons.1 h with rfl|h;·omega
  ·have:=a h;omega
theorem ph(l:List ByteArray):l.length<=jc l:=by
 induction l with
 | nil=>simp[jc]
 | cons y r a=>simp only[jc,List.length_cons];omega
theorem mw(f:α->Nat)(l:List α):l.length<=b5 (fun k=>f k+1) l:=by
 induction l with
 | nil=>simp[b5]
 | cons y r a=>simp only[b5,List.length_cons];omega
end Go.Proofs.YtcfojmaccikgeaaGreatDoor
