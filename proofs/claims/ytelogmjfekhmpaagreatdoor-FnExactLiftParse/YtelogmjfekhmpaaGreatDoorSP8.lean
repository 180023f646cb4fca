import Derived.Test.YtelogmjfekhmpaaGreatDoorSP7
import Derived.Deep.AppendLies
import Derived.Deep.Cut
import Derived.Deep.CutRange
import Derived.OwnWalk
namespace Go.Proofs.YtelogmjfekhmpaaGreatDoor
open Go.RowKit
theorem Tryz.info_strF:(Tryz.prog.info? 9).map (fun i=>(i.zero,i.size,i.bytes))=some (some (.string ⟨#[]⟩),1,16):=by kernel_rfl
theorem Tryz.info_nodeF:(Tryz.prog.info? 25).map (fun i=>(i.zero,i.size,i.bytes))=some (some (.agg #[.int .i64 0,.int .i64 0,.string ⟨#[]⟩,.slice none 0 0,.slice none 0 0]),5,80):=by kernel_rfl
def atP (w:World) (P:Nat):Nat:=match w.cell? ⟨P,1,none⟩ with|some (.int _ x)=>x.toNat|_=>0
def ftP (w:World) (P:Nat):Int:=match w.cell? ⟨P,3,none⟩ with|some (.int _ x)=>x|_=>0
def leftP (w:World) (P H:Nat):Nat:=if ftP w P=0 then H+1 - atP w P else 0
theorem Prs.left {w:World} {P:Nat} {wv:Value} {ws:List ByteArray} {a c:Nat} {fc fa:Int} (h:Prs w P wv ws a c fc fa) (H:Nat):leftP w P H=if fc=0 then H+1 - a else 0:=by
 obtain⟨⟨-,c1,-,c3,-⟩,-⟩:=h.cells
 have e1:atP w P=a:=by unfold atP;rw[c1];simp
 have e2:ftP w P=fc:=by unfold ftP;rw[c3]
 unfold leftP
 rw[e1,e2]
def FInv (M m:Nat) (ws:List ByteArray) (d:Int) (a c:Nat) (fc fa:Int) (ns:List ByteArray) (ks:List (T m)) (a1 c1:Nat) (fc1 fa1:Int):Prop:=
 (fc≠0->fc1=fc/\fa1=fa) /\
 (fc=0->(fc1=0->fa1=0/\a1<=ws.length/\c1<=200/\d<=24/\∃ f,ws.length+1<=a1+f/\qaT (qaI M ws m false (d+1)) ws (ws.length+1) (⟨24,0,ByteArray.empty,[],[]⟩:Nd (T m)) a c=qaT (qaI M ws m false (d+1)) ws f (⟨24,0,ByteArray.empty,ns,ks⟩:Nd (T m)) a1 c1) /\
  (fc1≠0->∃ e:Er,qaT (qaI M ws m false (d+1)) ws (ws.length+1) (⟨24,0,ByteArray.empty,[],[]⟩:Nd (T m)) a c=.error e/\fc1=e.1/\fa1=(e.2:Int))) /\
 (a1:Int)+d<=(ws.length:Int)+26/\c1<=201
theorem FInv.start {M m:Nat} {ws:List ByteArray} {d:Int} {a c:Nat} {fc fa:Int} (ha:a<=ws.length) (hd:d<=25) (hc:c<=201) (h0:fc=0->fa=0/\d<=24/\c<=200):FInv M m ws d a c fc fa [] [] a c fc fa:=
 ⟨fun _=>⟨rfl,rfl⟩,fun e=>⟨fun _=>⟨(h0 e).1,ha,(h0 e).2.2,(h0 e).2.1,ws.length+1,by omega,rfl⟩,fun h=>absurd e h⟩,by omega,hc⟩
theorem FInv.bad {M m:Nat} {ws:List ByteArray} {d:Int} {a c:Nat} {fc fa:Int} {ns:List ByteArray} {ks:List (T m)} {a1 c1:Nat} {fc1 fa1:Int} (h:FInv M m ws d a c fc fa ns ks a1 c1 fc1 fa1) (h1:fc1≠0) (t:Nd (T m)) (a2:Nat) :
  (fc=0->Got (qaT (qaI M ws m false (d+1)) ws (ws.length+1) (⟨24,0,ByteArray.empty,[],[]⟩:Nd (T m)) a c) t a2 c1 fc1 fa1)/\(fc≠0->fc1=fc/\fa1=fa):=by
 refine⟨fun h0=>?_,h.1⟩
 obtain⟨e,he,e1,e2⟩:=(h.2.1 h0).2 h1
 rw[he]
 exact⟨e1,e2,h1⟩
theorem FInv.ok {M m:Nat} {ws:List ByteArray} {d:Int} {a c:Nat} {fc fa:Int} {ns:List ByteArray} {ks:List (T m)} {a1 c1:Nat} {fa1:Int} (h:FInv M m ws d a c fc fa ns ks a1 c1 0 fa1):fc=0/\fa1=0/\a1<=ws.length/\c1<=200/\d<=24:=by
 have h0:fc=0:=by
  rcases Int.lt_trichotomy fc 0 with q|q|q
  ·have:=(h.1 (by omega)).1;omega
  ·exact q
  ·have:=(h.1 (by omega)).1;omega
 obtain⟨g1,g2,g3,g4,-⟩:=(h.2.1 h0).1 rfl
 exact⟨h0,g1,g2,g3,g4⟩
theorem FInv.done {M m:Nat} {ws:List ByteArray} {d:Int} {a c:Nat} {fc fa:Int} {ns:List ByteArray} {ks:List (T m)} {a1 c1:Nat} {fa1:Int} (h:FInv M m ws d a c fc fa ns ks a1 c1 0 fa1) (he:(wordD ws a1==bs [101,110,100])=true) :
  (fc=0->Got (qaT (qaI M ws m false (d+1)) ws (ws.length+1) (⟨24,0,ByteArray.empty,[],[]⟩:Nd (T m)) a c) ⟨24,0,ByteArray.empty,ns,ks⟩ (a1+1) c1 0 fa1)/\(fc≠0->(0:Int)=fc/\fa1=fa):=by
 refine⟨fun h0=>?_,h.1⟩
 obtain⟨rfl,g2,g3,g4,f,hf,hr⟩:=(h.2.1 h0).1 rfl
 obtain⟨f,rfl⟩:∃ q,f=q+1:=⟨f - 1,by omega⟩
 rw[hr,qaT]
 cases hw:ws[a1]? with
 | none=>rw[qbO hw]at he;exact absurd he (by decide)
 | some s=>
  rw[qdI hw]at he
  dsimp only
  rw[if_pos he]
  exact Got.okk _ _ _
theorem FInv.no {M m:Nat} {ws:List ByteArray} {d:Int} {a c:Nat} {fc fa:Int} {ns:List ByteArray} {ks:List (T m)} {a1 c1:Nat} {fa1:Int} (h:FInv M m ws d a c fc fa ns ks a1 c1 0 fa1) (he:(wordD ws a1==bs [101,110,100])=false) (hn:qcO (ns++[wordD ws a1]) ns.length=false) (t:Nd (T m)) :
  (fc=0->Got (qaT (qaI M ws m false (d+1)) ws (ws.length+1) (⟨24,0,ByteArray.empty,[],[]⟩:Nd (T m)) a c) t a1 c1 (ftC 0 2) (ftA 0 fa1 a1))/\(fc≠0->ftC 0 2=fc/\ftA 0 fa1 a1=fa):=by
 refine⟨fun h0=>?_,fun h0=>absurd h.ok.1 h0⟩
 obtain⟨-,g2,g3,g4,f,hf,hr⟩:=(h.2.1 h0).1 rfl
 obtain⟨f,rfl⟩:∃ q,f=q+1:=⟨f - 1,by omega⟩
 rw[hr,qaT]
 cases hw:ws[a1]? with
 | none=>exact⟨rfl,rfl,by decide⟩
 | some s=>
  rw[qdI hw]at he hn
  dsimp only
  rw[if_neg (by rw[he];decide),if_neg (by rw[hn];decide)]
  exact⟨rfl,rfl,by decide⟩
theorem qoV {ws:List ByteArray} {a:Nat} (h:nameB (wordD ws a)=true):a<ws.length:=by
 rcases Nat.lt_or_ge a ws.length with h1|h1
 ·exact h1
 ·rw[qbO (List.getElem?_eq_none h1),qiU]at h;cases h
theorem FInv.more {M m:Nat} {ws:List ByteArray} {d:Int} {a c:Nat} {fc fa:Int} {ns:List ByteArray} {ks:List (T m)} {a1 c1:Nat} {fa1:Int} (h:FInv M m ws d a c fc fa ns ks a1 c1 0 fa1) (he:(wordD ws a1==bs [101,110,100])=false) (hn:qcO (ns++[wordD ws a1]) ns.length=true) (hl:a1<ws.length)
  {t:T m} {a2 c2:Nat} {fc2 fa2:Int} (hg:Got (qaI M ws m false (d+1) (a1+1) c1) t a2 c2 fc2 fa2) (ha:(a2:Int)+(d+1)<=(ws.length:Int)+27) (hc:c2<=201):FInv M m ws d a c fc fa (ns++[wordD ws a1]) (ks++[t]) a2 c2 fc2 fa2:=by
 obtain⟨h0,-,-,-,hd⟩:=h.ok
 refine⟨fun q=>absurd h0 q,fun _=>?_,by omega,hc⟩
 obtain⟨-,g2,g3,g4,f,hf,hr⟩:=(h.2.1 h0).1 rfl
 obtain⟨f,rfl⟩:∃ q,f=q+1:=⟨f - 1,by omega⟩
 rw[hr,qaT]
 cases hw:ws[a1]? with
 | none=>rw[List.getElem?_eq_getElem hl]at hw;cases hw
 | some s=>
  rw[qdI hw]at he hn ⊢
  dsimp only
  rw[if_neg (by rw[he];decide),if_pos hn]
  refine⟨fun q=>?_,fun q=>?_⟩
  ·subst q
   obtain⟨aA,rfl⟩:=hg.zero
   obtain⟨-,-,-,p4,p5,p6⟩:=qbU M ws m false (d+1) (a1+1) c1 _ aA
   dsimp only at p4 p5 p6
   rw[aA]
   exact⟨rfl,p6,p4,hd,f,by omega,rfl⟩
  ·obtain⟨e,aB,e1,e2⟩:=hg.bad q
   rw[aB]
   exact⟨e,rfl,e1,e2⟩
end Go.Proofs.YtelogmjfekhmpaaGreatDoor
