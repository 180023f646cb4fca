import Derived.Shelf.SlicesE.Delete
import Derived.Shelf.SlicesE.Clone
import Derived.Shelf.Spec.SearchS
import Derived.Shelf.Spec.SlicesInsertGrow
import Derived.Test.YtcfojmaccikgeaaGreatDoorB8
namespace Go.Proofs.YtcfojmaccikgeaaGreatDoor
open Go.RowKit Go.Proofs.Tryz
open Go.Shelf
def ye:Go.Shelf.Ren:=⟨fun|41=>198|n=>n,fun|23=>9|4=>4|22=>23|n=>n,fun|n=>n⟩
theorem BR:Go.Proofs.SlLaysE0.n41 prog ye:={
 mixed:=by kernel_rfl
 f41:=⟨Tryz.f198.name,zC,func198.trans (congrArg some zK)⟩
 t4:=underlying4
 a4:=isAgg4
 z4:=sizeOf4
 v4:=zeroValue4
 t22:=underlying23
 a22:=isAgg23
 z22:=sizeOf23
 v22:=zeroValue23 }
def yd:Go.Shelf.Ren:=⟨fun|41=>199|n=>n,fun|23=>82|4=>4|22=>116|n=>n,fun|n=>n⟩
theorem BQ:Go.Proofs.SlLaysE0.n41 prog yd:={
 mixed:=by kernel_rfl
 f41:=⟨Tryz.f199.name,zC,func199.trans (congrArg some zK)⟩
 t4:=underlying4
 a4:=isAgg4
 z4:=sizeOf4
 v4:=zeroValue4
 t22:=underlying116
 a22:=isAgg116
 z22:=sizeOf116
 v22:=zeroValue116 }
def CR:Go.Shelf.Ren:=⟨fun|45=>203|n=>n,fun|0=>0|3=>3|4=>4|22=>23|23=>9|n=>n,fun|n=>n⟩
theorem JF:Go.Proofs.SlLaysE.n45 prog CR:={
 mixed:=by kernel_rfl
 f45:=⟨Tryz.f203.name,zC,func203.trans (congrArg some zK)⟩
 t0:=underlying0
 a0:=isAgg0
 z0:=sizeOf0
 v0:=zeroValue0
 t3:=underlying3
 a3:=isAgg3
 z3:=sizeOf3
 v3:=zeroValue3
 t4:=underlying4
 a4:=isAgg4
 z4:=sizeOf4
 v4:=zeroValue4
 t22:=underlying23
 a22:=isAgg23
 z22:=sizeOf23
 v22:=zeroValue23
 a23:=isAgg9
 z23:=sizeOf9 }
def CQ:Go.Shelf.Ren:=⟨fun|45=>204|n=>n,fun|0=>0|3=>3|4=>4|22=>116|23=>82|n=>n,fun|n=>n⟩
theorem JE:Go.Proofs.SlLaysE.n45 prog CQ:={
 mixed:=by kernel_rfl
 f45:=⟨Tryz.f204.name,zC,func204.trans (congrArg some zK)⟩
 t0:=underlying0
 a0:=isAgg0
 z0:=sizeOf0
 v0:=zeroValue0
 t3:=underlying3
 a3:=isAgg3
 z3:=sizeOf3
 v3:=zeroValue3
 t4:=underlying4
 a4:=isAgg4
 z4:=sizeOf4
 v4:=zeroValue4
 t22:=underlying116
 a22:=isAgg116
 z22:=sizeOf116
 v22:=zeroValue116
 a23:=isAgg82
 z23:=sizeOf82 }
def zq:Go.Shelf.Ren:=⟨fun|26=>200|33=>218|34=>219|38=>241|n=>n,fun|0=>0|3=>3|4=>4|9=>9|24=>23|40=>290|n=>n,fun|n=>n⟩
theorem Cn:Go.Proofs.Lays2.n26 prog zq:={
 mixed:=by kernel_rfl
 f26:=func200.trans (congrArg some zK)
 f33:=func218.trans (congrArg some zK)
 f34:=func219.trans (congrArg some zK)
 f38:=func241.trans (congrArg some zK)
 t0:=underlying0
 a0:=isAgg0
 z0:=sizeOf0
 v0:=zeroValue0
 t3:=underlying3
 a3:=isAgg3
 z3:=sizeOf3
 v3:=zeroValue3
 t4:=underlying4
 a4:=isAgg4
 z4:=sizeOf4
 v4:=zeroValue4
 t9:=underlying9
 a9:=isAgg9
 z9:=sizeOf9
 v9:=zeroValue9
 t24:=underlying23
 a24:=isAgg23
 z24:=sizeOf23
 v24:=zeroValue23
 t40:=underlying290
 a40:=isAgg290
 z40:=sizeOf290
 v40:=zeroValue290 }
end Go.Proofs.YtcfojmaccikgeaaGreatDoor
namespace Go.Proofs.YtcfojmaccikgeaaGreatDoor
open Go.RowKit
variable {α:Type}
theorem A5 (s:ZN) (x:α) (a:List ZN) (b:List α) (j:Nat) (g:a.length=b.length) (d:j<a.length) (f:∀ i (h:i<a.length),i<j->kN a[i] s=true) (e:a[j]=s) (k:¬ kN s s=true) :
  ix s x a b=(a,b.set j x):=by
 have c:j<b.length:=om;rw[oU s x a b j g om f,List.drop_eq_getElem_cons d,List.drop_eq_getElem_cons c,e,ix,if_neg k,if_pos rfl];refine Prod.ext ?_ ?_;·show a.take j++s :: a.drop (j+1)=a;rw[<- e,<- List.drop_eq_getElem_cons d,List.take_append_drop]
 ·show b.take j++x :: b.drop (j+1)=b.set j x;rw[List.set_eq_take_append_cons_drop,if_pos c]
theorem Gw (s:ZN) (x:α) (a:List ZN) (b:List α) (j:Nat) (g:a.length=b.length) (f:j<=a.length) (e:∀ i (h:i<a.length),i<j->kN a[i] s=true) (d:∀ (h:j<a.length),¬ kN a[j] s=true/\a[j]≠s) :
  ix s x a b=(a.take j++s :: a.drop j,b.take j++x :: b.drop j):=by
 rw[oU s x a b j g f e];by_cases h:j<a.length
 ·have c:j<b.length:=by omega
  rw[List.drop_eq_getElem_cons h,List.drop_eq_getElem_cons c,Cl s x _ _ _ _ (d h).1 (d h).2]
 ·rw[List.drop_eq_nil_of_le om,List.drop_eq_nil_of_le om];rfl
theorem vr(s:ZN):∀(b:List ZN),uv b->∃k,k<=b.length/\(∀i (h:i<b.length),i<k->kN b[i] s=true)/\∀i (h:i<b.length),k<=i->kN b[i] s=false
 | [],_=>⟨0,Nat.le_refl _,fun i h=>absurd h zS,fun i h=>absurd h zS⟩
 | a :: l,h=>by
  obtain⟨f,g⟩:=List.pairwise_cons.1 h
  cases hc:kN a s with
  | true=>
   obtain⟨k,j,d,e⟩:=vr s l g
   refine⟨k+1,zE,fun i h hi=>?_,fun i h hi=>?_⟩
   ·cases i with
    | zero=>exact hc
    | succ i=>exact d i (by simpa using h) om
   ·cases i with
    | zero=>omega
    | succ i=>exact e i (by simpa using h) om
  | false=>
   refine⟨0,Nat.zero_le _,fun i h hi=>absurd hi om,fun i h _=>?_⟩
   cases i with
   | zero=>exact hc
   | succ i=>
    rw[Bool.eq_false_iff]
    intro c
    have:=F8 (f _ (List.getElem_mem (by simpa using h))) c
    rw[hc]at this
    cases this
theorem Fl(s:ZN)(b:List ZN)(g:uv b):∃k,k<=b.length/\Lib.bsGo (fun t=>Op.bytesLess (b.getD t s).toList s.toList) b.length 0 b.length=k/\(∀i (h:i<b.length),i<k->kN b[i] s=true)/\∀(h:k<b.length),¬kN b[k] s=true:=by
 obtain⟨k,f,d,e⟩:=vr s b g;refine⟨k,f,Lib.bsGo_spec _ k (fun t c=>?_) (fun t c=>?_) _ _ _ om (Nat.zero_le _) f,d,fun h=>by rw[e k h (Nat.le_refl _)];simp⟩
 ·have a:t<b.length:=by omega
  have:=d t a c;unfold kN at this;simpa [List.getD,a] using this
 ·by_cases a:t<b.length;·have:=e t a c;unfold kN at this;simpa [List.getD,a] using this
  ·have:=tD s;unfold kN at this;simpa [List.getD,List.getElem?_eq_none (Nat.le_of_not_lt a)] using this
theorem vu(s:ZN):∀(a:List ZN)(b:List α),a.length=b.length->(∀n,n∈a->n≠s)->iK s a b=(a,b)
 | [],[],_,_=>rfl
 | [],_ :: _,hl,_=>by simp at hl
 | _ :: _,[],hl,_=>by simp at hl
 | n :: a,k :: b,hl,h=>by
  rw[iK,if_neg (h n (List.mem_cons_self ..)),vu s a b (by simpa using hl) fun m c=>h m (List.mem_cons_of_mem _ c)]
theorem BS (s:ZN):∀ (a:List ZN) (c:List α) (j:Nat),a.length=c.length->uv a->(hj:j<a.length)->a[j]=s ->
  iK s a c=(a.take j++a.drop (j+1),c.take j++c.drop (j+1))
 | [],_,_,_,_,hj,_=>absurd hj zS
 | _ :: _,[],_,hl,_,_,_=>by simp at hl
 | n :: a,k :: c,0,hl,ha,_,b=>by
  obtain⟨f,h⟩:=List.pairwise_cons.1 ha
  have b:n=s:=b
  rw[iK,if_pos b,vu s a c (by simpa using hl) fun m i e=>vF (f m i) (b.trans e.symm)]
  rfl
 | n :: a,k :: c,j+1,hl,ha,hj,b=>by
  obtain⟨f,h⟩:=List.pairwise_cons.1 ha
  have d:j<a.length:=by simpa using hj
  have b:=b
  have g:n≠s:=fun e=>vF (f _ (List.getElem_mem d)) (e.trans b.symm)
  rw[iK,if_neg g,BS s a c j (by simpa using hl) h d b]
  rfl
end Go.Proofs.YtcfojmaccikgeaaGreatDoor
