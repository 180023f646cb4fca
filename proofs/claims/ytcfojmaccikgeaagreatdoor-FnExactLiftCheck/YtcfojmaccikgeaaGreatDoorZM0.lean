import Derived.Test.YtcfojmaccikgeaaGreatDoorB36
import Derived.DeepKeys3
namespace Go.Proofs.YtcfojmaccikgeaaGreatDoor
set_option maxRecDepth 100000
set_option maxHeartbeats 16000000
open Go.RowKit Go.WideMaps Go.Maps
variable {p:ByteArray×Int}
theorem Cm:Keyed Tryz.prog 146:=Keyed.of_law (deep_law (m:=2) zC zK zK zK)
def Ik(s:ByteArray)(v:Int):Value:=.agg #[.string s,.int .i64 v]
def D2(s:ByteArray)(v:Int):Lit:=.string (keyBytes [.string s.data.toList,.int .i64 v])
def nM(p:ByteArray×Int):Prop:=p.1.size<=8/\0<=p.2/\p.2<=12
theorem qh{s:ByteArray}{v:Int}(h:nM (s,v)):keyOf Tryz.prog 146 (Ik s v)=some (D2 s v):=by
 obtain⟨d,f,g⟩:=h;have b:s.size<=maxLen:=by unfold maxLen;simp only at d;omega
 have c:(Lit.int .i64 v).wf=true:=by
  have e:wrap64 v=v:=by unfold wrap64;simp only at f g;omega
  have h:=wrap64_wf v;rwa [e]at h
 obtain⟨f0,f1,a,k,l,m,n,t0,o⟩:∃ f0 f1:Field,Tryz.prog.underlying 146=some (.struct #[f0,f1])/\(f0.name != "_")=true/\(f1.name != "_")=true/\f0.offset=0/\f1.offset=1/\f0.type=9/\f1.type=3:=by have h:(Tryz.prog.fieldsOf 146).size=2:=zK;refine⟨(Tryz.prog.fieldsOf 146)[0],(Tryz.prog.fieldsOf 146)[1],zK,zK,zK,zK,zK,zK,zK⟩
 have c0:Tryz.prog.cellsOf 9=1:=zK;have c1:Tryz.prog.cellsOf 3=1:=zK;have c2:Tryz.prog.cellsOf 146=2:=zK;have j:Tryz.prog.types.size=366:=zK;have i:Tryz.prog.keyType 146=true:=zK;unfold keyOf;simp only[a];rw[if_pos (by rw[i];simp[Ik,Value.formed,a,c2]),j];unfold Program.keyLits;simp only[a,Ik,Value.cells];rw[if_pos ⟨by rw[c2];rfl,by simp[k,l]⟩];simp only[List.mapM_cons,List.mapM_nil,m,n,t0,o,c0,c1];simp[Program.keyLits,Tryz.underlying9,Tryz.underlying3,b,c,D2]
theorem Gy{q:ByteArray×Int}(c:nM p)(d:nM q)(h:D2 p.1 p.2=D2 q.1 q.2):p=q:=by have a:=qh (s:=p.1) (v:=p.2) c;have b:=qh (s:=q.1) (v:=q.2) d;rw[h]at a;have:=Cm.inj a b;simp only[Ik,Value.agg.injEq,Array.mk.injEq,List.cons.injEq,Value.string.injEq,Value.int.injEq,and_true,true_and]at this;exact Prod.ext this.1 this.2
def qU:List ((ByteArray×Int)×Nat)->DataW Unit
 | []=>.map []
 | p :: r=>(qU r).put (D2 p.1.1 p.1.2) (.lit (.int .i64 (p.2:Int)))
def qg:List ((ByteArray×Int)×Nat)->ByteArray×Int->Option Nat
 | [],_=>none
 | p :: r,x=>if p.1=x then some p.2 else qg r x
theorem Jn:∀l,IsMap (qU l):=by
 intro l;induction l with
 | nil=>exact⟨_,rfl⟩
 | cons p r a=>exact a.put _ _
theorem JP(c:nM p)(z:DataW Unit):∀l:List ((ByteArray×Int)×Nat),(∀q,q∈l->nM q.1)->(qU l).atKey (D2 p.1 p.2) z=match qg l p with|some b=>.lit (.int .i64 (b:Int))|none=>z:=by
 intro l;induction l with
 | nil=>intro _;rfl
 | cons q r f=>
  intro h;unfold qg;by_cases e:q.1=p;·rw[if_pos e,<- e];exact atKey_put_same (Jn r) (Cm.key (qh (h q (List.mem_cons_self ..)))) _ z
  ·rw[if_neg e,qU,atKey_put_other (fun a=>e (Gy c (h q (List.mem_cons_self ..)) a).symm)];exact f fun x d=>h x (List.mem_cons_of_mem _ d)
theorem zo {w:World} {d n:Nat} {l:List ((ByteArray × Int) × Nat)} (a:w.ownsMap Tryz.prog 146 oq d n (qU l)) (i:∀ q,q∈l->nM q.1) (e:nM p) :
  (Instr.lookup 111 (.map (some d)) (.agg #[.string p.1,.int .i64 p.2]) false).run Tryz.prog w=.ok (.pointer ((qg l p).map fun b=>⟨b,0,none⟩)) w:=by
 obtain⟨v,k,c,f⟩:=a.lookup Cm Tryz.underlying111 (zT w) (zd:=.lit (.int .i64 (-1))) (zp:=[]) rfl (qh (s:=p.1) (v:=p.2) e);rw[JP e _ l i]at f;have j:(Instr.lookup 111 (.map (some d)) (.agg #[.string p.1,.int .i64 p.2]) false).run Tryz.prog w=.ok v w:=c;rw[j];rcases tJ f with ⟨rfl,h⟩|⟨b,rfl,h⟩
 ·cases hs:qg l p with
  | none=>rfl
  | some b=>rw[hs]at h;have:=oR h;omega
 ·cases hs:qg l p with
  | none=>rw[hs]at h;have:=oR h;omega
  | some g=>rw[hs]at h;have:=oR h;obtain rfl:g=b:=Int.ofNat_inj.1 this;rfl
end Go.Proofs.YtcfojmaccikgeaaGreatDoor
