import Derived.Test.YtcfojmaccikgeaaGreatDoorB12
import Derived.Test.YtcfojmaccikgeaaGreatDoorB2
import Derived.Maps.Views
import Derived.Maps.OwnSet
import Derived.Test.YtcfojmaccikgeaaGreatDoorB27
import Derived.Test.YtcfojmaccikgeaaGreatDoorB6
import Derived.Deep.WholeRow
import Derived.Deep.Cut
import Derived.Deep.CutRange
import Derived.LoopTactic
import Derived.Deep.RegionWith
import Derived.Deep.RegionHeld
import Derived.BigQuiet
import Derived.Test.YtcfojmaccikgeaaGreatDoorB17
open Go.Value renaming slice→Zs,int→Zi,string→Zt,pointer→Zp
open Go.Ending renaming returned→Zr
open Option renaming none→Zn,some→Zo
open Go renaming World→Zw,Value→Zv
open Bool renaming and_eq_true→Zq
namespace Go.Proofs.YtcfojmaccikgeaaGreatDoor
set_option maxRecDepth 100000
set_option maxHeartbeats 16000000
open Go.RowKit Go.WideMaps Go.Maps Go.Proofs.Tryz
variable {S:Nat->Prop} {w:Zw} {l:List ByteArray} {v:Zv}
theorem qn(l:List ByteArray):∀k,IsMap (jq l k):=by
 intro k;induction k with
 | zero=>exact⟨_,rfl⟩
 | succ k a=>exact a.put _ _
theorem rT(s:ByteArray):WideAt.IsKeyLit (.string s.data.toList):=trivial
theorem wR{a b:ByteArray}(h:a≠b):(Lit.string a.data.toList)≠.string b.data.toList:=by intro e;apply h;exact WideShapes.bytes_inj (by injection e)
theorem zX(l:List ByteArray)(s:ByteArray):∀k,(∀i,i<k->l.getD i ByteArray.empty≠s)->has (jq l k) (.string s.data.toList)=false:=by
 intro k;induction k with
 | zero=>intro _;rfl
 | succ k a=>intro h;rw[jq,has_put_other (wR (fun e=>h k om e.symm))];exact a (fun i hi=>h i om)
theorem Dp (l:List ByteArray) (i:Nat):∀ k,i<k->(∀ j,j<k->j≠i->l.getD j ByteArray.empty≠l.getD i ByteArray.empty) ->
  has (jq l k) (.string (l.getD i ByteArray.empty).data.toList)=true/\∀z,(jq l k).atKey (.string (l.getD i ByteArray.empty).data.toList) z=.lit (.int .i64 i):=by
 intro k;induction k with
 | zero=>intro h;exact absurd h (Nat.not_lt_zero _)
 | succ k d=>
  intro hi h;by_cases b:i=k;·subst b;exact⟨has_put_same (qn l i) (rT _) _,fun z=>atKey_put_same (qn l i) (rT _) _ z⟩
  ·have a:(Lit.string (l.getD i ByteArray.empty).data.toList)≠.string (l.getD k ByteArray.empty).data.toList:=wR (fun e=>h k om (fun e=>b e.symm) e.symm);have:=d om (fun j f c=>h j om c);exact⟨by rw[jq,has_put_other a];exact this.1,fun z=>by rw[jq,atKey_put_other a];exact this.2 z⟩
theorem yr(w:Zw):(zeroValue 3).run prog w=.ok (Zi .i64 0) w:=by kernel_rfl
theorem vD{a b:Int}(h:(DataW.lit (Lit.int .i64 a):DataW Unit)=.lit (.int .i64 b)):a=b:=by cases h;rfl
theorem yL (h:jF S w l v) (r:uk l) (i:Nat) (hi:i<l.length) (s:l[i].size<=maxLen) :
  (Instr.lookup 115 v (Zt l[i]) true).run prog w=.ok (.tuple #[Zi .i64 i,.bool true]) w:=by
 obtain⟨x,rfl,-,d⟩:=h;have f:∀j (h:j<l.length),l.getD j ByteArray.empty=l[j]:=fun j h=>by simp[List.getD,h]
 obtain⟨k,m⟩:=Dp l i l.length hi (fun j n g e=>g (wQ r j i n hi (by rw[<- f j n,<- f i hi];exact e)));rw[f i hi]at k m;obtain⟨c,t,b,o⟩:=d.look_ok Tryz.skeyed underlying115 (yr w) (plainElem_int underlying3 (a:=0) zC) (keyOf_string_mk underlying9 s);obtain⟨u,rfl,q,-⟩:=plainElem_int_inv underlying3 o;rw[k]at b;have e:=congrArg Prod.fst q;rw[m]at e;have p:=vD e;subst p;exact b
theorem Ch (h:jF S w l v) (s:ByteArray) (k:s ∉ l) (j:s.size<=maxLen) :
  ∃c,(Instr.lookup 115 v (Zt s) true).run prog w=.ok (.tuple #[Zi .i64 c,.bool false]) w:=by obtain⟨o,rfl,-,d⟩:=h;have m:=zX l s l.length (fun i hi e=>k (by rw[<- e];simp[List.getD,hi]));obtain⟨c,p,b,f⟩:=d.look_ok Tryz.skeyed underlying115 (yr w) (plainElem_int underlying3 (a:=0) zC) (keyOf_string_mk underlying9 j);obtain⟨g,rfl,n,-⟩:=plainElem_int_inv underlying3 f;rw[m]at b;exact⟨g,b⟩
theorem DP (S:Nat->Prop) (w:Zw) (l:List ByteArray) (pv:Zv) (b g o len cap c i:Nat) (m:w.cell? ⟨b,2,Zn⟩=Zo pv) (a:jF S w l pv) (d:uk l) (hi:i<l.length) (j:l[i].size<=maxLen)
  (n:w.cell? ⟨b,3,Zn⟩=Zo (Zs (Zo ⟨g,o,Zn⟩) len cap)) (k:i<len) (p:w.cell? ⟨g,o+i,Zn⟩=Zo (Zp (Zo ⟨c,0,Zn⟩))) :
  Calls prog 163 #[Zp (Zo ⟨b,0,Zn⟩),Zt l[i]] w fun e h=>e=Zr (Zp (Zo ⟨c,0,Zn⟩))/\h=w:=by have f:=yL a d i hi j;obtain⟨q,rfl,-⟩:=a;clear d;generalize l[i]=s at *;go_in;go_wp2;go_ret;exact⟨rfl,rfl⟩
theorem EG (S:Nat->Prop) (w:Zw) (l:List ByteArray) (pv:Zv) (b:Nat) (s:ByteArray) (k:w.cell? ⟨b,2,Zn⟩=Zo pv) (f:jF S w l pv) (j:s ∉ l) (i:s.size<=maxLen) :
  Calls prog 163 #[Zp (Zo ⟨b,0,Zn⟩),Zt s] w fun e h=>e=Zr (Zp Zn)/\h=w:=by obtain⟨c,g⟩:=Ch f s j i;obtain⟨n,rfl,-⟩:=f;go_in;go_wp2;go_ret;exact⟨rfl,rfl⟩
end Go.Proofs.YtcfojmaccikgeaaGreatDoor
namespace Go.Proofs.YtcfojmaccikgeaaGreatDoor
open Go.RowKit Go.Proofs.Tryz
set_option maxRecDepth 100000
set_option maxHeartbeats 16000000
variable {B N m:Nat} {w V W:Zw} {a b c:Zv} {d:Int} {t:TypeId}
theorem kZ{w0:Zw}{v:Zv}{l l':List UInt8}(h:iR B w0 w v l)(e:l=l'):iR B w0 w v l':=e ▸ h
def mQ(n:Nat):Prop:=∀(B:Nat)(w0 w:Zw)(v:Zv)(l:List UInt8)(t:K n)(a:Zv)(d:Int),iR B w0 w v l->d8 (fun b=>b<B) w n t a->fK n t d=true->fP n t<=40->l.length+(d9 n t).length<=20000 ->
 Calls prog 197 #[v,a] w fun e f=>∃c,e=Zr c/\iR B w0 f c (l++d9 n t)
theorem kP {d:Zv} (h:w.heap[N]?=Zo (.cells #[a,b,c,d] t (0,0))) :
  w.cell? ⟨N,0,Zn⟩=Zo a/\w.cell? ⟨N,1,Zn⟩=Zo b/\w.cell? ⟨N,2,Zn⟩=Zo c/\w.cell? ⟨N,3,Zn⟩=Zo d:=by refine⟨?_,?_,?_,?_⟩<;>simp[World.cell?,h]
theorem k8 (w:Zw) (b g o len cap a:Nat) (d:w.cell? ⟨b,3,Zn⟩=Zo (Zs (Zo ⟨g,o,Zn⟩) (len+1) cap)) (f:w.cell? ⟨g,o,Zn⟩=Zo (Zp (Zo ⟨a,0,Zn⟩))) (_hl:len<1000) :
  Calls prog 167 #[Zp (Zo ⟨b,0,Zn⟩)] w fun e c=>e=Zr (Zp (Zo ⟨a,0,Zn⟩))/\c=w:=by go_in;go_wp2;go_ret;exact⟨rfl,rfl⟩
theorem rL (n:Nat) (hn:mQ n) (B:Nat) (w0 w:Zw) (v:Zv) (l:List UInt8) (g:List ByteArray) (nv:Zv) (f:List (K n)) (kv:Zv) (d:Int) (hN:fL (fun b=>b<B) w g nv) (ae:g.length=f.length) (ak:∀ s,s∈g->s.size<=8)
  (hb:iR B w0 w v l) (hr:lx (fun b=>b<B) w (d8 (fun b=>b<B) w n) f kv)
  (hg:f.all (fun x=>fK n x d)=true) (hc:1+b5 (fun x=>fP n x) f<=40) (hl:l.length+(fS (gq g (f.map (d9 n)))).length+2<=20000) :
  Calls prog 217 #[v,nv,kv,.func (.func 197) #[] #[]] w fun e w'=>∃v',e=Zr v' /\ iR B w0 w' v' (l++(123 :: fS (gq g (f.map (d9 n)))++[125])):=by
 obtain⟨ao,cap,rfl,aa,y⟩:=hr;obtain⟨no,ar,rfl,-,-,j⟩:=hN;unfold maxLen at aa;obtain⟨va,vn,vc,rfl⟩:=hb.shape;have av:=hb.le;have HG:Hid (∀k (h:k<f.length),fK n f[k] d=true/\fP n f[k]<=40):=fun k h=>by refine⟨List.all_eq_true.1 hg _ (List.getElem_mem h),?_⟩;have:=gX (fun x=>fP n x) f _ (List.getElem_mem h);omega
 have H:Hid (∀k,(fS ((gq g (f.map (d9 n))).take k)).length<=(fS (gq g (f.map (d9 n)))).length):=fun k=>jj _ k;have Q:Hid (g.length=f.length):=ae;have ab:=a7 hb;clear hg ae;go_in;go_wp2_with (at_builtin;refine fU rfl (.tmp 11) (.tmp 12) rfl B (Zs va vn vc) l rfl w w 123 123 rfl ab.out.here rfl om ?_;intro v1 w1 R;obtain⟨aw,au,ax,rfl⟩:=R.shape;refine Hid.out ?_);refine Lib.hid ?_;have X:Hid _:=R;clear R;go_wp2;go_loopw [0,16] (fun a i wr=>∃k:Nat,k<=f.length/\i=Zi .i64 k/\iR B w wr a (l++[123]++fS ((gq g (f.map (d9 n))).take k))) (fun _ i _=>f.length-(intOf i).toNat);case atStart=>exact⟨0,Nat.zero_le _,rfl,kZ X.out (by simp[fS])⟩
 case round=>
  obtain⟨k,hk,rfl,z⟩:=hrel;obtain⟨E,D,F,rfl⟩:=z.shape;have aA:=H.out k;clear X;by_cases q:k<f.length
  ·obtain⟨b,off,rfl,ai,U⟩:=y (by intro h;rw[h]at q;simp at q);obtain⟨c,e0,P⟩:=U k q;obtain⟨kb,rfl,-⟩:=id P.ptr;have f0:=kC z.below e0 ai;have G:=HG.out k q;have C:k<g.length:=by rw[Q.out];exact q
   obtain⟨nb,S,rfl,af,ad⟩:=j (by intro h;rw[h]at C;simp at C);have aq:=ak g[k] (List.getElem_mem C);have I:Hid (∀W,Below B w W->W.cell? ⟨nb,S+k,Zn⟩=Zo (Zt g[k])):=fun W hW=>kC hW (ad k C) af;have N:k<(gq g (f.map (d9 n))).length:=by rw[ix _ _ (by simpa using Q.out)];simpa using q
   have HS:Hid (fS ((gq g (f.map (d9 n))).take (k+1))=(if k=0 then [] else fS ((gq g (f.map (d9 n))).take k)++[44])++(g[k].data.toList++58 :: d9 n f[k])):=by show _=_;rw[iB _ _ N,pC g (f.map (d9 n)) k C (by simpa using q) N,List.getElem_map]
   have Y:Hid (∀W,Below B w W->d8 (fun b=>b<B) W n f[k] (Zp (Zo ⟨kb,0,Zn⟩))):=fun W hW=>P.keep (a6 hW (fun _ h=>h)) (fun _ h=>h);have ap:g[k].data.toList.length=g[k].size:=zS;clear y U e0 P N j ad;have p:Hid _:=z;clear z;rcases Nat.eq_zero_or_pos k with rfl|az
   ·rw[Nat.add_zero]at f0;rw[Nat.add_zero]at I;generalize g[0]=nm at *;have O:Hid _:=p.out;have q0:=I.out _ O.out.below;go_wp2_with (at_builtin;refine gO rfl (.tmp 26) (.tmp 30) 9 rfl underlying9 B (Zs E D F) _ rfl w O.out nm rfl (by simp[fS];omega) ?_;intro v5 w5 m;obtain⟨M,J,L,rfl⟩:=m.shape;refine Hid.out ?_);refine Lib.hid ?_;have A:Hid _:=m;clear m O q0 p f0;go_wp2_with (at_builtin;refine fU rfl (.tmp 32) (.tmp 33) rfl B (Zs M J L) _ rfl w w5 58 58 rfl A.out rfl (by simp[fS];omega) ?_;intro v6 w6 r;obtain⟨an,ag,al,rfl⟩:=r.shape;refine Hid.out ?_);refine Lib.hid ?_;have u:Hid _:=r;clear r A;go_wp2_with fail;refine (hn B w w6 _ _ f[0] _ d u.out (Y.out _ u.out.below) G.1 G.2 (by have h1:=H.out (0+1);rw[HS.out]at h1;simp[fS]at h1 ⊢;omega)).mono ?_;rintro e w7 ⟨v7,rfl,o⟩;obtain⟨aj,am,ah,rfl⟩:=o.shape;have HF:Hid _:=kZ o (l':=l++[123]++fS ((gq g (f.map (d9 n))).take (0+1))) (by rw[HS.out];simp[fS]);clear o u;go_wp2;go_roundw;case rel=>exact⟨0+1,om,by go_num,HF.out⟩
    case measure=>simp[intOf];omega
   ·have ay:decide ((0:Int)<(k:Int))=true:=decide_eq_true om;generalize g[k]=nm at *;go_wp2_with (at_builtin;refine fU rfl (.tmp 23) (.tmp 24) rfl B (Zs E D F) _ rfl w wr 44 44 rfl p.out rfl zE ?_;intro v3 w3 t;obtain⟨ac,T,V,rfl⟩:=t.shape;refine Hid.out ?_);refine Lib.hid ?_;have O:Hid _:=t;clear t;have q0:=I.out _ O.out.below;go_wp2_with (at_builtin;refine gO rfl (.tmp 26) (.tmp 30) 9 rfl underlying9 B (Zs ac T V) _ rfl w O.out nm rfl zE ?_;intro v5 w5 m;obtain⟨M,J,L,rfl⟩:=m.shape;refine Hid.out ?_);refine Lib.hid ?_;have A:Hid _:=m;clear m O q0 p f0;go_wp2_with (at_builtin;refine fU rfl (.tmp 32) (.tmp 33) rfl B (Zs M J L) _ rfl w w5 58 58 rfl A.out rfl zE ?_;intro v6 w6 r;obtain⟨an,ag,al,rfl⟩:=r.shape;refine Hid.out ?_);refine Lib.hid ?_;have u:Hid _:=r;clear r A;go_wp2_with fail;refine (hn B w w6 _ _ f[k] _ d u.out (Y.out _ u.out.below) G.1 G.2 (by have h1:=H.out (k+1);rw[HS.out,if_neg om]at h1;simp at h1 ⊢;omega)).mono ?_;rintro e w7 ⟨v7,rfl,o⟩;obtain⟨aj,am,ah,rfl⟩:=o.shape;have HF:Hid _:=kZ o (l':=l++[123]++fS ((gq g (f.map (d9 n))).take (k+1))) (by rw[HS.out,if_neg om];simp);clear o u;go_wp2;go_roundw;case rel=>exact⟨k+1,om,by go_num,HF.out⟩
    case measure=>simp[intOf];omega
  ·have Z:k=f.length:=by omega
   have p:Hid (iR B w wr (Zs E D F) (l++[123]++fS (gq g (f.map (d9 n))))):=kZ z (by
    have e:f.length=(gq g (f.map (d9 n))).length:=by rw[ix _ _ (by simpa using Q.out)];simp
    rw[Z,e,List.take_length])
   clear y z Z j;go_wp2_with (at_builtin;refine fU rfl (.tmp 40) (.tmp 41) rfl B (Zs E D F) _ rfl w wr 125 125 rfl p.out rfl zE ?_;intro v3 w3 t;obtain⟨ac,T,V,rfl⟩:=t.shape;refine Hid.out ?_);refine Lib.hid ?_;have HF:Hid _:=kZ (t.from ab.out) (l':=l++(123 :: fS (gq g (f.map (d9 n)))++[125])) zS;clear t p;go_wp2;go_ret;exact⟨_,rfl,HF.out⟩
theorem Gw{α:Type}(f:α->Nat)(l:List α)(x:α)(h:x∈l):f x<=b5 f l:=by
 induction l with
 | nil=>cases h
 | cons a r b=>
  simp only[b5];rcases List.mem_cons.1 h with rfl|h;·omega
  ·have:=b h;omega
theorem G3{b:K (m+1)}{k:K m}(h:fP (m+1) b<=40)(a:k∈Kd.kids b):fP m k<=40:=by have e:fP (m+1) b=1+b5 (fun k=>fP m k) (Kd.kids b):=rfl;have:=Gw (fun k=>fP m k) (Kd.kids b) k a;omega
theorem GC{b:K (m+1)}(a:fK (m+1) b d=true)(h:fP (m+1) b<=40):(Kd.kids b).length<=39:=by have e:fP (m+1) b=1+b5 (fun k=>fP m k) (Kd.kids b):=rfl;simp only[fK,Zq]at a;have:=wt (d:=d+1) (Kd.kids b) a.2;omega
theorem kh(h:Bw w V)(o:Obj):Bw w (V.alloc o):=h.alloc h.size o
theorem wj(h:Bw w V.drew)(o:Obj):Bw w (V.alloc o).drew:=by have a:Bw w V:=⟨h.os,h.tape,h.output,h.size,h.block⟩;exact (kh a o).drew
theorem gN{g0 g1 g2:Zv}(h:Below B V W)(a:B<=N):Below B V (((W.setCell ⟨N,0,Zn⟩ g0).setCell ⟨N,1,Zn⟩ g1).setCell ⟨N,2,Zn⟩ g2):=((h.setCell a _).setCell a _).setCell a _
theorem jZ(W:Zw)(N:Nat)(a b c:Zv):(((W.setCell ⟨N,0,Zn⟩ a).setCell ⟨N,1,Zn⟩ b).setCell ⟨N,2,Zn⟩ c).heap.size=W.heap.size:=by simp
theorem gi{M:Nat}(d:M≠N):(((W.setCell ⟨N,0,Zn⟩ a).setCell ⟨N,1,Zn⟩ b).setCell ⟨N,2,Zn⟩ c).heap[M]?=W.heap[M]?:=gR (w:=W) (b:=N) d
theorem fM (h:w.heap[N]?=Zo (.cells #[a,b,c] t (0,0))) :
  (w.cell? ⟨N,0,Zn⟩=Zo a/\w.cell? ⟨N,1,Zn⟩=Zo b/\w.cell? ⟨N,2,Zn⟩=Zo c)/\w.frozen? ⟨N,0,Zn⟩=false/\w.frozen? ⟨N,1,Zn⟩=false/\w.frozen? ⟨N,2,Zn⟩=false:=by refine⟨⟨?_,?_,?_⟩,?_,?_,?_⟩;all_goals simp[World.cell?,World.frozen?,h]
theorem kM{x:Array Zv}(h:w.heap[N]?=Zo (.cells x t (0,0)))(i:Nat)(v:Zv)(a:x[i]?=Zo v):w.cell? ⟨N,i,Zn⟩=Zo v:=by simp[World.cell?,h,a]
theorem kR{o:Obj}(h:Bw W V.drew):Bw W (V.alloc o).drew:=wj h o
theorem Ht{l:List ByteArray}(h:gW l=true)(i:Nat)(hi:i<l.length):l[i].size<=8:=by have:=List.all_eq_true.1 h i (List.mem_range.2 hi);simp only[iU,Zq,gh,decide_eq_true_eq]at this;have a:=this.1.1.1.2;rwa [List.getD_eq_getElem?_getD,List.getElem?_eq_getElem hi,Option.getD_some]at a
theorem xF {n:Nat} {k:K (n+1)} (b:fK (n+1) k d=true) (e:fP (n+1) k<=40) :
  (Kd.names k).length<=39/\(∀x,x∈Kd.names k->x.size<=10000)/\(Kd.kids k).length<=39/\(∀x,x∈Kd.kids k->fK n x (d+1)=true/\fP n x<=40):=by
 have c:=GC b e;have f:∀x,x∈Kd.kids k->fK n x (d+1)=true:=by simp only[fK,Zq]at b;exact List.all_eq_true.1 b.2
 refine⟨?_,fun x a=>?_,c,fun x a=>⟨f x a,G3 e a⟩⟩
 ·rcases tV b with ⟨-,h,-⟩|⟨-,h,-⟩|⟨-,h,-⟩;·rw[h];simp
  ·rw[h];simp
  ·omega
 ·rcases tV b with ⟨-,h,-⟩|⟨-,h,-⟩|⟨-,-,h⟩;·rw[h]at a;cases a
  ·rw[h]at a;cases a
  ·obtain⟨j,g,rfl⟩:=List.getElem_of_mem a;have:=Ht h j g;omega
theorem ni (B:Nat) (w0 w:Zw) (v:Zv) (l:List UInt8) (b:Nat) (s:Int) (x:List UInt8) (k:iR B w0 w v l) (t:w.cell? ⟨b,0,Zn⟩=Zo (Zi .i64 s))
  (q:(s=1/\x=[110,117,109])∨(s=2/\x=[116,101,120,116])∨(s=3/\x=[102,108,97,103])) (r:l.length<=20000) :
  Calls prog 197 #[v,Zp (Zo ⟨b,0,Zn⟩)] w fun e p=>∃o,e=Zr o/\iR B w0 p o (l++x):=by
 obtain⟨h,j,i,rfl⟩:=k.shape;have m:Hid (iR B w0 w (Zs h j i) l):=k;clear k;rcases q with ⟨rfl,rfl⟩|⟨rfl,rfl⟩|⟨rfl,rfl⟩;·go_in;go_wp2_with (at_builtin;refine gO rfl (.tmp 11) (.const (Zt ⟨#[110,117,109]⟩)) 9 rfl underlying9 B (Zs h j i) l rfl w0 m.out ⟨#[110,117,109]⟩ rfl (by show l.length+3<=_;omega) ?_;intro v5 n a;obtain⟨d,f,g,rfl⟩:=a.shape;refine Hid.out ?_);refine Lib.hid ?_;have c:Hid _:=a;clear a;go_wp2;go_ret;exact⟨_,rfl,c.out⟩
 ·go_in;go_wp2_with (at_builtin;refine gO rfl (.tmp 15) (.const (Zt ⟨#[116,101,120,116]⟩)) 9 rfl underlying9 B (Zs h j i) l rfl w0 m.out ⟨#[116,101,120,116]⟩ rfl (by show l.length+4<=_;omega) ?_;intro v5 n a;obtain⟨d,f,g,rfl⟩:=a.shape;refine Hid.out ?_);refine Lib.hid ?_;have c:Hid _:=a;clear a;go_wp2;go_ret;exact⟨_,rfl,c.out⟩
 ·go_in;go_wp2_with (at_builtin;refine gO rfl (.tmp 19) (.const (Zt ⟨#[102,108,97,103]⟩)) 9 rfl underlying9 B (Zs h j i) l rfl w0 m.out ⟨#[102,108,97,103]⟩ rfl (by show l.length+4<=_;omega) ?_;intro v5 n a;obtain⟨d,f,g,rfl⟩:=a.shape;refine Hid.out ?_);refine Lib.hid ?_;have c:Hid _:=a;clear a;go_wp2;go_ret;exact⟨_,rfl,c.out⟩
theorem xd (n:Nat) (Y:mQ n) (B:Nat) (w0 w:Zw) (v:Zv) (l:List UInt8) (b g o cap:Nat) (k:K n) (H:Zv) (d:Int) (A:iR B w0 w v l) (y:b<B) (x:g<B) (h0:w.cell? ⟨b,0,Zn⟩=Zo (Zi .i64 4))
  (J:w.cell? ⟨b,3,Zn⟩=Zo (Zs (Zo ⟨g,o,Zn⟩) (0+1) cap)) (F:w.cell? ⟨g,o,Zn⟩=Zo H) (f:d8 (fun b=>b<B) w n k H) (N:fK n k d=true) (O:fP n k<=40) (hl:l.length+(d9 n k).length+2<=20000) :
  Calls prog 197 #[v,Zp (Zo ⟨b,0,Zn⟩)] w fun e z=>∃D,e=Zr D/\iR B w0 z D (l++(91 :: d9 n k++[93])):=by obtain⟨E,I,G,rfl⟩:=A.shape;obtain⟨s,rfl,-⟩:=id f.ptr;have C:Hid (iR B w0 w (Zs E I G) l):=A;have L:Hid (∀W,Below B w W->Calls prog 167 #[Zp (Zo ⟨b,0,Zn⟩)] W fun e z=>e=Zr (Zp (Zo ⟨s,0,Zn⟩))/\z=W):=fun W p=>k8 W b g o 0 cap s (kC p J y) (kC p F x) om;have M:Hid (∀W,Below B w W->d8 (fun b=>b<B) W n k (Zp (Zo ⟨s,0,Zn⟩))):=fun W p=>f.keep (a6 p (fun _ h=>h)) (fun _ h=>h);clear A f J F;go_in;go_wp2_with (at_builtin;refine fU rfl (.tmp 23) (.tmp 24) rfl B (Zs E I G) l rfl w w 91 91 rfl C.out.here rfl om ?_;intro v1 w1 j;obtain⟨Q,P,R,rfl⟩:=j.shape;refine Hid.out ?_);refine Lib.hid ?_;have a:Hid _:=j;clear j;go_wp2_with fail;refine (L.out _ a.out.below).mono ?_;rintro e q ⟨rfl,rfl⟩;go_wp2_with fail;refine (Y B w q _ _ k _ d a.out (M.out _ a.out.below) N O zE).mono ?_;rintro e S ⟨v2,rfl,c⟩;obtain⟨r,u,t,rfl⟩:=c.shape;have m:Hid _:=c;clear c a;go_wp2_with (at_builtin;refine fU rfl (.tmp 28) (.tmp 29) rfl B (Zs r u t) _ rfl w S 93 93 rfl m.out rfl zE ?_;intro v3 Z i;obtain⟨V,T,X,rfl⟩:=i.shape;refine Hid.out ?_);refine Lib.hid ?_;have U:Hid _:=kZ (i.from C.out) (l':=l++(91 :: d9 n k++[93])) zS;clear i m;go_wp2;go_ret;exact⟨_,rfl,U.out⟩
theorem uI (n:Nat) (R:mQ n) (B:Nat) (w0 w:Zw) (v:Zv) (l:List UInt8) (b g o cap:Nat) (k:K n) (C:Zv) (d:Int) (t:iR B w0 w v l) (r:b<B) (q:g<B) (S:w.cell? ⟨b,0,Zn⟩=Zo (Zi .i64 6))
  (E:w.cell? ⟨b,3,Zn⟩=Zo (Zs (Zo ⟨g,o,Zn⟩) (0+1) cap)) (z:w.cell? ⟨g,o,Zn⟩=Zo C) (f:d8 (fun b=>b<B) w n k C) (H:fK n k d=true) (I:fP n k<=40) (V:l.length+(d9 n k).length+1<=20000) :
  Calls prog 197 #[v,Zp (Zo ⟨b,0,Zn⟩)] w fun e s=>∃x,e=Zr x/\iR B w0 s x (l++(63 :: d9 n k)):=by obtain⟨y,D,A,rfl⟩:=t.shape;obtain⟨p,rfl,-⟩:=id f.ptr;have u:Hid (iR B w0 w (Zs y D A) l):=t;have F:Hid (∀W,Below B w W->Calls prog 167 #[Zp (Zo ⟨b,0,Zn⟩)] W fun e s=>e=Zr (Zp (Zo ⟨p,0,Zn⟩))/\s=W):=fun W j=>k8 W b g o 0 cap p (kC j E r) (kC j z q) om;have G:Hid (∀W,Below B w W->d8 (fun b=>b<B) W n k (Zp (Zo ⟨p,0,Zn⟩))):=fun W j=>f.keep (a6 j (fun _ h=>h)) (fun _ h=>h);clear t f E z;go_in;go_wp2_with (at_builtin;refine fU rfl (.tmp 43) (.tmp 44) rfl B (Zs y D A) l rfl w w 63 63 rfl u.out.here rfl om ?_;intro U w1 i;obtain⟨M,J,N,rfl⟩:=i.shape;refine Hid.out ?_);refine Lib.hid ?_;have a:Hid _:=i;clear i;go_wp2_with fail;refine (F.out _ a.out.below).mono ?_;rintro e m ⟨rfl,rfl⟩;go_wp2_with fail;refine (R B w m _ _ k _ d a.out (G.out _ a.out.below) H I zE).mono ?_;rintro e T ⟨v2,rfl,c⟩;obtain⟨L,P,O,rfl⟩:=c.shape;have Q:Hid _:=kZ (c.from u.out) (l':=l++(63 :: d9 n k)) zS;clear c a;go_wp2;go_ret;exact⟨_,rfl,Q.out⟩
theorem wC (B:Nat) (w0 w:Zw) (v:Zv) (l x:List UInt8) (b:Nat) (na:Option Addr) (h j:Nat) (f:Option Addr) (i g:Nat) (k:iR B w0 w v l) (A:w.cell? ⟨b,0,Zn⟩=Zo (Zi .i64 5))
  (s:w.cell? ⟨b,1,Zn⟩=Zo (Zs na h j)) (z:w.cell? ⟨b,3,Zn⟩=Zo (Zs f i g))
  (m:Calls prog 217 #[v,Zs na h j,Zs f i g,.func (.func 197) #[] #[]] w.drew fun e d=>∃c,e=Zr c/\iR B w0 d c (l++x)) :
  Calls prog 197 #[v,Zp (Zo ⟨b,0,Zn⟩)] w fun e d=>∃c,e=Zr c/\iR B w0 d c (l++x):=by
 obtain⟨t,y,u,rfl⟩:=k.shape;have o:Hid (Calls prog 217 _ _ _):=m;clear m k;go_in;go_wp2_with fail;go_region_with (go_at_call 217;refine o.out.mono ?_;rintro e d ⟨c,rfl,a⟩;obtain⟨q,r,n,rfl⟩:=a.shape);all_goals
  have p:Hid _:=a
  clear a
  go_wp2
  go_ret
  exact⟨_,rfl,p.out⟩
theorem Dz(n:Nat)(N:mQ n):mQ (n+1):=by
 intro B w0 w v l t S d y h p G a;obtain⟨b,U,X,Q,rfl,D,z,A,-,L⟩:=h;obtain⟨r,P,-,H⟩:=kP z;simp only[fK,Zq]at p;have e:fW (Kd.sort t) (Kd.names t) (Kd.kids t).length=true:=p.1.2;have i:1+b5 (fun x=>fP n x) (Kd.kids t)<=40:=by simpa only[fP] using G
 unfold fW at e;simp only[d9]at a ⊢;by_cases K:Kd.sort t=1;·rw[if_pos K]at a ⊢;exact ni B w0 w v l b _ _ y r (.inl ⟨K,rfl⟩) om
 rw[if_neg K]at e a ⊢;by_cases J:Kd.sort t=2;·rw[if_pos J]at a ⊢;exact ni B w0 w v l b _ _ y r (.inr (.inl ⟨J,rfl⟩)) om
 rw[if_neg J]at e a ⊢;by_cases M:Kd.sort t=3;·rw[if_pos M]at a ⊢;exact ni B w0 w v l b _ _ y r (.inr (.inr ⟨M,rfl⟩)) om
 rw[if_neg M]at e a ⊢;by_cases F:Kd.sort t=5
 ·rw[if_neg om,if_pos F]at e;rw[if_neg om,if_neg om]at a ⊢;simp only[Zq,beq_iff_eq]at e;rw[F]at r;obtain⟨na,T,rfl,-⟩:=id A;obtain⟨V,R,rfl,-⟩:=id L;simp only[List.length_append,List.length_cons,List.length_nil]at a;exact wC B w0 w v l _ b _ _ _ _ _ _ y r P H (rL n N B w0 w.drew v l (Kd.names t) _ (Kd.kids t) _ (d+1) (A.keep (w':=w.drew) (fun _ _=>rfl) (fun _ h=>h)) om (jD _ e.2) y.drew
   (L.keep (w':=w.drew) (fun _ _=>rfl) (fun _ h=>h) (fun _ _ _ O=>d8.keep (w:=w) (w':=w.drew) (fun _ _=>rfl) (fun _ h=>h) O)) p.2 i om)
 have s:∀C:(Kd.kids t).length=1,∃k g o cap c,Kd.kids t=[k]/\g<B/\Q=Zs (Zo ⟨g,o,Zn⟩) (0+1) cap/\w.cell? ⟨g,o,Zn⟩=Zo c/\d8 (fun b=>b<B) w n k c:=by
  intro C;obtain⟨W,cap,rfl,-,q⟩:=L;match m:Kd.kids t,C with
  | [k],_=>rw[m]at q;obtain⟨g,o,rfl,j,q⟩:=q zS;obtain⟨c,G,f⟩:=q 0 zS;exact⟨k,g,o,cap,c,rfl,j,rfl,by simpa using G,by simpa using f⟩
 by_cases I:Kd.sort t=4;·rw[if_pos I]at e a ⊢;simp only[Zq,beq_iff_eq]at e;obtain⟨k,g,o,cap,c,m,j,rfl,u,f⟩:=s om;rw[I]at r;rw[m]at a p i ⊢;simp only[i8,List.length_append,List.length_cons,List.length_nil,b5,List.all_cons,Zq]at a p i ⊢;exact xd n N B w0 w v l b g o cap k c (d+1) y D j r H u f p.2.1 om om
 rw[if_neg I]at e a ⊢;by_cases E:Kd.sort t=6;·rw[if_neg F,if_pos E]at e;rw[if_pos E]at a ⊢;simp only[Zq,beq_iff_eq]at e;obtain⟨k,g,o,cap,c,m,j,rfl,u,f⟩:=s om;rw[E]at r;rw[m]at a p i ⊢;simp only[i8,List.length_cons,b5,List.all_cons,Zq]at a p i ⊢;exact uI n N B w0 w v l b g o cap k c (d+1) y D j r H u f p.2.1 om om
 ·rw[if_neg F,if_neg E]at e;cases e
theorem nK:∀n,mQ n:=by
 intro n;induction n with
 | zero=>intro B w0 w v l t b d c h;exact h.elim
 | succ n a=>exact Dz n a
end Go.Proofs.YtcfojmaccikgeaaGreatDoor
