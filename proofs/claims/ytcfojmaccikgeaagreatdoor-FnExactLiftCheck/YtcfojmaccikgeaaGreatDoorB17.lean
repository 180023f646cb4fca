import Derived.Test.YtcfojmaccikgeaaGreatDoorB15
import Derived.Test.YtcfojmaccikgeaaGreatDoorB5
import Derived.Test.YtcfojmaccikgeaaGreatDoorB12
import Derived.Test.YtcfojmaccikgeaaGreatDoorB4
open Go.Value renaming slice→Zs,int→Zi,string→Zt,agg→Za
open Go.IntKind renaming i64→Zk
open Go.Ending renaming returned→Zr
open Go.Obj renaming cells→Zc
open Go renaming World→Zw,Value→Zv
open Nat renaming le_refl→Zl,zero_le→ZE
open Bool renaming and_eq_true→Zq
open List renaming getElem_mem→Zg,length_append→Zx,length_cons→Zy,all_eq_true→ZC
namespace Go.Proofs.YtcfojmaccikgeaaGreatDoor
open Go.RowKit Go.Proofs.Tryz
variable {B:Nat} {w w':Zw}
theorem G4 (B:Nat) (w0 w:Zw) (v:Zv) (l:List UInt8) (i:Int) (k : -9223372036854775808<=i) (m:i<=9223372036854775807) (c:iV B w0 w v l) (h:l.length<=1000000)
  (f:Lib.TabBelow prog B w "internal/strconv.uint64pow10" .u64 Lib.pow10Tab) :
  Calls prog 231 #[v,Zi Zk i,Zi Zk 10] w fun e j=>∃g,e=Zr g/\iV B w0 j g (l++Lib.itoa i):=by refine (Tryz.strconv_AppendInt_10 B l.length i k m v (Lib.byteCells l) w c.own c.le om f).mono ?_;rintro e j ⟨g,rfl,d,a,b⟩;refine⟨g,rfl,?_,c.below.trans a,Nat.le_trans c.le a.size,c.kept.trans b⟩;rw[Zx,Lib.byteCells_append];exact d
set_option maxRecDepth 100000
set_option maxHeartbeats 16000000
theorem JG(r:Nat)(h:r<10):IntKind.u8.wrap (48+(r:Int))=((UInt8.ofNat (48+r)).toNat:Int):=by have:(UInt8.ofNat (48+r)).toNat=48+r:=zE;rw[this,IntKind.wrap_u8];omega
theorem Ft(w:Zw)(c:UInt8):(convert 156 9 (Zs (some ⟨w.heap.size,0,none⟩) 1 1)).run prog (w.alloc (Zc #[Zi .u8 (c.toNat:Int)] 5))=.ok (Zt (bs [c])) (w.alloc (Zc #[Zi .u8 (c.toNat:Int)] 5)):=
 run_convert_bytes_back (P:=prog) _ 156 9 5 ⟨w.heap.size,0,none⟩ 1 [c] underlying156 underlying5 underlying9 (fun j a=>by
  match j,a with
  | 0,_=>simp[Addr.add])
theorem Hd(W:Zw)(N:Nat)(c:UInt8)(h:W.cell? ⟨N,0,none⟩=some (Zi .u8 (c.toNat:Int))):(convert 156 9 (Zs (some ⟨N,0,none⟩) 1 1)).run prog W=.ok (Zt (bs [c])) W:=
 run_convert_bytes_back (P:=prog) W 156 9 5 ⟨N,0,none⟩ 1 [c] underlying156 underlying5 underlying9 (fun j a=>by
  match j,a with
  | 0,_=>exact h)
theorem vE(x:Int)(c:UInt8)(w:Zw)(f:0<=x)(g:x<10)(b:Hid (48+x=(c.toNat:Int))):Calls prog 98 #[Zi Zk x] w fun e d=>e=Zr (Zt (bs [c]))/\Bw w d:=by
 have a:Hid ((convert 156 9 (Zs (some ⟨w.heap.size,0,none⟩) 1 1)).run prog (w.alloc (Zc #[Zi .u8 (48+x)] 5))=.ok (Zt (bs [c])) (w.alloc (Zc #[Zi .u8 (48+x)] 5))):=by show _=_;rw[b.out];exact Ft w c
 clear b;go_in;go_wp2_with fail;rw[a.out];clear a;go_wp2;go_ret;exact⟨rfl,gx _ _⟩
theorem sZ(r:Nat)(h:r<10):(48:Int)+(r:Int)=((UInt8.ofNat (48+r)).toNat:Int):=by have:(UInt8.ofNat (48+r)).toNat=48+r:=zE;rw[this];omega
theorem qM(m:Nat):∀(x:Nat)(w:Zw),x<=m->x<=999999999->Calls prog 98 #[Zi Zk (x:Int)] w fun e f=>e=Zr (Zt (bs (Lib.decDigits x)))/\Bw w f:=by
 induction m with
 | zero=>intro x w B _;rw[Lib.decDigits_one om];exact vE x _ w om om (sZ x om)
 | succ m j=>
  intro x w B h;by_cases d:x<10;·rw[Lib.decDigits_one d];exact vE x _ w om om (sZ x d)
  have g:Hid (Lib.decDigits x=Lib.decDigits (x / 10)++[UInt8.ofNat (48+x % 10)]):=by show _=_;rw[Lib.decDigits,dif_neg d]
  have b:(Lib.decDigits (x / 10)).length<=21:=by have:=Lib.itoa_length_le ((x / 10:Nat):Int) om om;rw[Lib.itoa_nonneg]at this;omega
  obtain⟨q,r⟩:∃q:Int,q=(x:Int) / 10:=⟨_,rfl⟩;have l:Hid (∀W:Zw,Calls prog 98 #[Zi Zk ((x:Int) / 10)] W fun e f=>e=Zr (Zt (bs (Lib.decDigits (x / 10))))/\Bw W f):=fun W=>by have:=j (x / 10) W om om;rwa [show (((x / 10:Nat)):Int)=(x:Int) / 10 by omega]at this
  have p:∀(W:Zw)(N:Nat),W.cell? ⟨N,0,none⟩=some (Zi .u8 (48+(x:Int) % 10))->(convert 156 9 (Zs (some ⟨N,0,none⟩) 1 1)).run prog W=.ok (Zt (bs [UInt8.ofNat (48+x % 10)])) W:=fun W N n=>by refine Hd W N (UInt8.ofNat (48+x % 10)) ?_;rw[n,<- sZ (x % 10) om,show (((x % 10:Nat)):Int)=(x:Int) % 10 by omega]
  generalize UInt8.ofNat (48+x % 10)=c at *;generalize Lib.decDigits (x / 10)=dl at *;have t:(bs dl).size+(bs [c]).size<=9223372036854775807:=by rw[gq,gq];simp;omega
  have i:(bs dl).size<=21:=by rw[gq];exact b
  have s:(bs [c]).size=1:=by rw[gq];rfl
  have k:Hid (bs dl++bs [c]=bs (Lib.decDigits x)):=by show _=_;rw[g.out,gA]
  clear g b;have u:IntKind.i64.wrap ((x:Int) / 10)=(x:Int) / 10:=by rw[IntKind.wrap_i64];omega
  have v:IntKind.i64.wrap ((x:Int) % 10)=(x:Int) % 10:=by rw[IntKind.wrap_i64];omega
  have y:IntKind.i64.wrap (48+(x:Int) % 10)=48+(x:Int) % 10:=by rw[IntKind.wrap_i64];omega
  have z:IntKind.u8.wrap (48+(x:Int) % 10)=48+(x:Int) % 10:=by rw[IntKind.wrap_u8];omega
  have A:(x:Int).tmod 10=(x:Int) % 10:=Int.tmod_eq_emod_of_nonneg om;clear j r;go_in;go_wp2_with fail;go_region_with (go_at_call 98;refine (l.out _).mono ?_;rintro e w1 ⟨rfl,a⟩;obtain⟨o,-⟩:=rh a);all_goals
   go_wp2
   go_ret
   refine⟨jQ k.out,?_⟩
  all_goals first
   | exact (b5 ((Below.refl _ w).drew) (Zl _) a).alloc (by have:=a.size;simp at this ⊢;omega) _
   | exact b5 (((Below.refl _ w).drew).alloc zS _) zS a
   | exact b5 (((Below.refl _ w).alloc (Zl _) _).drew) zS a
theorem DE(x:Int)(w:Zw)(k : -999999999<=x)(l:x<=999999999):Calls prog 98 #[Zi Zk x] w fun e j=>e=Zr (Zt (bs (Lib.itoa x)))/\Bw w j:=by
 by_cases g:0<=x;·obtain⟨n,rfl⟩:=Int.eq_ofNat_of_zero_le g;rw[Lib.itoa_nonneg];exact qM n n w (Zl _) om
 ·obtain⟨n,i⟩:∃n:Nat,x = -(n:Int):=⟨x.natAbs,om⟩;subst i;have a:(Lib.decDigits n).length<=21:=by have:=Lib.itoa_length_le (n:Int) om om;rw[Lib.itoa_nonneg]at this;omega
  have f:=a7 (qM n n w (Zl _) om);have h:(bs (Lib.decDigits n)).size<=21:=by rw[gq];exact a
  have d:Hid (bs [45]++bs (Lib.decDigits n)=bs (Lib.itoa (-(n:Int)))):=by show _=_;rw[Lib.itoa_neg n om,gA];rfl
  generalize Lib.decDigits n=dl at *;have c:(-(n:Int))<0:=om;go_in;go_wp2_with fail;refine f.out.mono ?_;rintro e w1 ⟨rfl,b⟩;go_wp2;go_ret;exact⟨jQ d.out,b⟩
def mK(n:Nat):Prop:=∀(S:ZP)(t:T n)(c0 c1 c2 c3 c4:Zv)(d:Int)(w:Zw),gE S w n t c0 c1 c2 c3 c4->(Bd S w)->ie n t d=true->d9 n t<=120 ->
 Calls prog 96 #[Za #[c0,c1,c2,c3,c4]] w fun e a=>e=Zr (Zt (bs (gt n t)))/\Bw w a
theorem GO (m:Int) (x:ZN) (na ka:ZO) (f d kl kc:Nat) (w:Zw) (g : -999999999<=m) (h:m<=999999999) :
  Calls prog 96 #[Za #[Zi Zk 1,Zi Zk m,Zt x,Zs na f d,Zs ka kl kc]] w fun e i=>e=Zr (Zt (bs (Lib.itoa m)))/\Bw w i:=by have a:=(Below.refl w.heap.size w).alloc (Zl _) (Zc #[Zi Zk 1,Zi Zk m,Zt x,Zs na f d,Zs ka kl kc] 164);go_in;go_wp2_with fail;refine (DE m _ g h).mono ?_;rintro e w1 ⟨rfl,b⟩;have c:=b5 a zS b;clear a b;go_wp2;go_ret;exact⟨rfl,c⟩
theorem Eh (m:Int) (x:ZN) (na ka:ZO) (d c kl kc:Nat) (w:Zw) (g:x.size<=60) :
  Calls prog 96 #[Za #[Zi Zk 2,Zi Zk m,Zt x,Zs na d c,Zs ka kl kc]] w fun e f=>e=Zr (Zt (bs (34 :: x.data.toList++[34])))/\Bw w f:=by
 have a:Hid (bs [34]++x++bs [34]=bs (34 :: x.data.toList++[34])):=by show _=_;rw[<- rk x,gA,gA,jy];rfl
 have b:(bs [34]).size=1:=by rw[gq];rfl
 go_in;go_wp2;go_ret;exact⟨jQ a.out,gx _ _⟩
theorem Ed (m:Int) (x:ZN) (na ka:ZO) (d c kl kc:Nat) (w:Zw) :
  Calls prog 96 #[Za #[Zi Zk 3,Zi Zk m,Zt x,Zs na d c,Zs ka kl kc]] w fun e f=>e=Zr (Zt (bs (if m=1 then [121,101,115] else [110,111])))/\Bw w f:=by
 by_cases a:m=1;·subst a;go_in;go_wp2;go_ret;exact⟨rfl,gx _ _⟩
 ·rw[if_neg a];have b:(m==1)=false:=by simpa using a
  clear a;go_in;go_wp2;go_ret;exact⟨rfl,gx _ _⟩
theorem Bu (n:Nat) (F:mK n) (S:ZP) (q:List (T n)) (m:Int) (x:ZN) (na:ZO) (J I:Nat) (H:Zv) (d:Int) (w:Zw) (G:ik S w (gE S w n) q H) (A:Bd S w)
  (s:q.all (fun x=>ie n x d)=true) (M:1+b4 (fun x=>d9 n x) q<=120) :
  Calls prog 96 #[Za #[Zi Zk 6,Zi Zk m,Zt x,Zs na J I,H]] w fun e P=>e=Zr (Zt (bs (mc (gt n) q)))/\Bw w P:=by
 have D:=G;obtain⟨X,cap,rfl,i,f⟩:=G;cases q with
 | nil=>go_in;go_wp2;go_ret;exact⟨rfl,gx _ _⟩
 | cons k r=>
  obtain⟨b,off,rfl,C,p⟩:=f zS;obtain⟨Q,R,U,V,W,t,u,v,y,z,j⟩:=p 0 zS;simp only[Nat.zero_mul,Nat.add_zero,List.getElem_cons_zero]at t u v y z j;unfold maxLen at i;simp only[Zy]at i;have a:=(Below.refl w.heap.size w).alloc (Zl _) (Zc #[Zi Zk 6,Zi Zk m,Zt x,Zs na J I,Zs (some ⟨b,off,none⟩) (r.length+1) cap] 164);have c:=A b C;have f0:=kC a t c;have f1:=kC a u c;have f2:=kC a v c;have f3:=kC a y c;have f4:=kC a z c;have g:=j.keep (a6 a A) (fun _ h=>h);simp only[List.all_cons,Zq]at s;simp only[b4]at M;have l:=mW n k d s.1;have N:(bs (gt n k)).size<=9840:=by rw[gq];omega
  have K:Hid (bs [63]++bs (gt n k)=bs (63 :: gt n k)):=by show _=_;rw[gA];rfl
  have O:(((r.length:Nat):Int)+1==0)=false:=zE;have E:=a7 (F S k Q R U V W d _ g (fun b L=>by have:=A b L;simp;omega) s.1 om);clear f p t u v y z j g D s l F;rw[Zy];go_in;go_wp2_with fail;refine E.out.mono ?_;rintro e w1 ⟨rfl,o⟩;have B:=b5 a zS o;clear a o f0 f1 f2 f3 f4 E;go_wp2;go_ret;exact⟨jQ K.out,B⟩
def jj(parts:List (List UInt8))(k:Nat):ZN:=bs (fP (parts.take k))
theorem tW(parts:List (List UInt8))(k:Nat)(h:k<parts.length)(a:¬k=0):jj parts (k+1)=jj parts k++bs [44]++bs parts[k]:=by unfold jj;rw[iC _ _ h,if_neg a,gA,gA]
theorem rH(parts:List (List UInt8))(h:0<parts.length):jj parts (0+1)=bs []++bs parts[0]:=by unfold jj;rw[iC _ _ h,if_pos rfl,gA]
theorem Ef (n:Nat) (hn:mK n) (S:ZP) (c:List (T n)) (m:Int) (x:ZN) (na:ZO) (J I:Nat) (kv:Zv) (d:Int) (w:Zw) (hr:ik S w (gE S w n) c kv) (O:Bd S w)
  (hg:c.all (fun x=>ie n x d)=true) (hc:1+b4 (fun x=>d9 n x) c<=120) (aa:(fP (c.map (gt n))).length<=9840) :
  Calls prog 96 #[Za #[Zi Zk 4,Zi Zk m,Zt x,Zs na J I,kv]] w fun e w'=>e=Zr (Zt (bs (91 :: fP (c.map (gt n))++[93])))/\Bw w w':=by
 obtain⟨M,cap,rfl,F,o⟩:=hr;unfold maxLen at F;have B:=(Below.refl w.heap.size w).alloc (Zl _) (Zc #[Zi Zk 4,Zi Zk m,Zt x,Zs na J I,Zs M c.length cap] 164);have z:=vW.new w (Zi Zk 4) (Zi Zk m) (Zt x) (Zs na J I) (Zs M c.length cap) 164;have af:(w.alloc (Zc #[Zi Zk 4,Zi Zk m,Zt x,Zs na J I,Zs M c.length cap] 164)).heap.size=w.heap.size+1:=zS;have A:Hid (∀k,(jj (c.map (gt n)) k).size<=9840):=fun k=>by have:=jh (c.map (gt n)) k;unfold jj;rw[gq];omega
 have HG:Hid (∀k (h:k<c.length),ie n c[k] d=true/\d9 n c[k]<=120):=fun k h=>by refine⟨ZC.1 hg _ (Zg h),?_⟩;have:=gK (fun x=>d9 n x) c _ (Zg h);omega
 clear hg;go_in;go_wp2_with fail;generalize hW:w.alloc (Zc #[Zi Zk 4,Zi Zk m,Zt x,Zs na J I,Zs M c.length cap] 164)=W at *;clear hW;go_loopw [3,4] (fun a i wr=>∃k:Nat,k<=c.length/\i=Zi Zk k/\a=Zt (jj (c.map (gt n)) k)/\Bw W wr) (fun _ i _=>c.length-(intOf i).toNat);case atStart=>exact⟨0,ZE _,rfl,rfl,Below.refl _ _⟩
 case round=>
  obtain⟨k,hk,rfl,rfl,j⟩:=hrel;have R:=A.out k;obtain⟨i0,i1,i2,i3,i4⟩:=z.keep j;have H:=j.size;by_cases r:k<c.length
  ·obtain⟨b,off,rfl,Q,C⟩:=o (by intro h;rw[h]at r;simp at r);obtain⟨y0,y1,y2,y3,y4,U,V,X,Y,Z,D⟩:=C k r;have q:=O b Q;have l:=b5 B om j;have f0:=kC l U q;have f1:=kC l V q;have f2:=kC l X q;have f3:=kC l Y q;have f4:=kC l Z q;have v:=D.keep (a6 l O) (fun _ h=>h);have s:=HG.out k r;have y:=mW n c[k] d s.1;have ad:(bs (gt n c[k])).size<=9840:=by rw[gq];omega
   have L:=a7 (hn S c[k] y0 y1 y2 y3 y4 d wr v (fun b hb=>by have:=O b hb;omega) s.1 s.2);have G:=A.out (k+1);have u:k<(c.map (gt n)).length:=by simpa using r
   have t:(c.map (gt n))[k]=gt n c[k]:=zS;clear o C U V X Y Z D v s y l;rcases Nat.eq_zero_or_pos k with rfl|ac
   ·have N:Hid (jj (c.map (gt n)) (0+1)=bs []++bs (gt n c[0])):=by show _=_;rw[rH _ u,t]
    have K:Hid (jj (c.map (gt n)) 0=bs []):=rfl;clear G u t;rw[Nat.zero_mul,Nat.add_zero]at f0;rw[Nat.zero_mul,Nat.add_zero]at f1 f2 f3 f4;rw[K.out];rw[K.out]at R;generalize P:bs []=acc at *;generalize bs (gt n c[0])=tk at *;clear P;go_wp2_with fail;refine L.out.mono ?_;rintro e w1 ⟨rfl,p⟩;have g:=b5 j H p;obtain⟨j0,j1,j2,j3,j4⟩:=z.keep g;clear p L f0 f1 f2 f3 f4 i0 i1 i2 i3 i4;go_wp2;go_roundw;case rel=>exact⟨0+1,om,by go_num,by rw[N.out],g⟩
    case measure=>simp[intOf];omega
   ·have N:Hid (jj (c.map (gt n)) (k+1)=jj (c.map (gt n)) k++bs [44]++bs (gt n c[k])):=by show _=_;rw[tW _ _ u om,t]
    have ab:decide ((0:Int)<(k:Int))=true:=decide_eq_true om;clear G u t;generalize jj (c.map (gt n)) k=acc at *;generalize bs (gt n c[k])=tk at *;have ae:(acc++bs [44]).size<=9841:=by rw[ByteArray.size_append,gq];simp;omega
    go_wp2_with fail;refine L.out.mono ?_;rintro e w1 ⟨rfl,p⟩;have g:=b5 j H p;obtain⟨j0,j1,j2,j3,j4⟩:=z.keep g;clear p L f0 f1 f2 f3 f4 i0 i1 i2 i3 i4;go_wp2;go_roundw;case rel=>exact⟨k+1,om,by go_num,by rw[N.out];rfl,g⟩
    case measure=>simp[intOf];omega
  ·have E:k=c.length:=by omega
   have K:Hid (bs [91]++jj (c.map (gt n)) k++bs [93]=bs (91 :: fP (c.map (gt n))++[93])):=by show _=_;unfold jj;rw[E,<- List.length_map (f:=gt n),List.take_length,gA,gA];rfl
   have l:=b5 B om j;clear E o;generalize jj (c.map (gt n)) k=acc at *;go_wp2;go_ret;exact⟨jQ K.out,l⟩
theorem Ee (n:Nat) (hn:mK n) (S:ZP) (c:List (T n)) (l:List ZN) (m:Int) (x:ZN) (na:ZO) (E:Nat) (kv:Zv) (d:Int) (w:Zw) (hl:fL S w l (Zs na l.length E)) (L:l.length=c.length) (ab:∀ s,s∈l->s.size<=8) (hr:ik S w (gE S w n) c kv) (X:Bd S w)
  (hg:c.all (fun x=>ie n x d)=true) (hc:1+b4 (fun x=>d9 n x) c<=120) (aj:(fP (go l (c.map (gt n)))).length<=9840) :
  Calls prog 96 #[Za #[Zi Zk 5,Zi Zk m,Zt x,Zs na l.length E,kv]] w fun e w'=>e=Zr (Zt (bs (123 :: fP (go l (c.map (gt n)))++[125])))/\Bw w w':=by
 obtain⟨V,cap,rfl,K,p⟩:=hr;obtain⟨no,ah,ad,-,N,o⟩:=hl;cases ad
 unfold maxLen at K;have G:=(Below.refl w.heap.size w).alloc (Zl _) (Zc #[Zi Zk 5,Zi Zk m,Zt x,Zs na l.length E,Zs V c.length cap] 164);have D:=vW.new w (Zi Zk 5) (Zi Zk m) (Zt x) (Zs na l.length E) (Zs V c.length cap) 164;have ap:(w.alloc (Zc #[Zi Zk 5,Zi Zk m,Zt x,Zs na l.length E,Zs V c.length cap] 164)).heap.size=w.heap.size+1:=zS;have F:Hid (∀k,(jj (go l (c.map (gt n))) k).size<=9840):=fun k=>by have:=jh (go l (c.map (gt n))) k;unfold jj;rw[gq];omega
 have HG:Hid (∀k (h:k<c.length),ie n c[k] d=true/\d9 n c[k]<=120):=fun k h=>by refine⟨ZC.1 hg _ (Zg h),?_⟩;have:=gK (fun x=>d9 n x) c _ (Zg h);omega
 have B:Hid (l.length=c.length):=L;clear hg L;go_in;go_wp2_with fail;generalize hW:w.alloc (Zc #[Zi Zk 5,Zi Zk m,Zt x,Zs na l.length E,Zs V c.length cap] 164)=W at *;clear hW;go_loopw [3,4] (fun a i wr=>∃k:Nat,k<=c.length/\i=Zi Zk k/\a=Zt (jj (go l (c.map (gt n))) k)/\Bw W wr) (fun _ i _=>c.length-(intOf i).toNat);case atStart=>exact⟨0,ZE _,rfl,rfl,Below.refl _ _⟩
 case round=>
  obtain⟨k,hk,rfl,rfl,j⟩:=hrel;have ae:=F.out k;obtain⟨i0,i1,i2,i3,i4⟩:=D.keep j;have Q:=j.size;by_cases q:k<c.length
  ·obtain⟨b,off,rfl,aa,H⟩:=p (by intro h;rw[h]at q;simp at q);obtain⟨y0,y1,y2,y3,y4,e0,e1,e2,e3,e4,I⟩:=H k q;have t:=X b aa;have g:Bw w wr:=b5 G om j;have f0:=kC g e0 t;have f1:=kC g e1 t;have f2:=kC g e2 t;have f3:=kC g e3 t;have f4:=kC g e4 t;have A:=I.keep (a6 g X) (fun _ h=>h);have y:=HG.out k q;have C:=mW n c[k] d y.1;have am:(bs (gt n c[k])).size<=9840:=by rw[gq];omega
   have U:Hid (Calls prog 96 #[Za #[y0,y1,y2,y3,y4]] wr _):=hn S c[k] y0 y1 y2 y3 y4 d wr A (fun b hb=>by have:=X b hb;omega) y.1 y.2;have O:=F.out (k+1);have v:k<l.length:=by rw[B.out];exact q
   obtain⟨nb,ai,rfl,ac,M⟩:=o (by intro h;rw[h]at v;simp at v);have q0:=kC g (M k v) (X nb ac);have ag:=ab l[k] (Zg v);have u:k<(go l (c.map (gt n))).length:=by rw[iz _ _ (by simpa using B.out)];simpa using q
   have z:bs (go l (c.map (gt n)))[k]=l[k]++bs [58]++bs (gt n c[k]):=by rw[qr l (c.map (gt n)) k v (by simpa using q) u,List.getElem_map,<- rk l[k],gA,gA,jy];simp
   clear p H e0 e1 e2 e3 e4 I A y C g o M N;rcases Nat.eq_zero_or_pos k with rfl|al
   ·have Y:Hid (jj (go l (c.map (gt n))) (0+1)=bs []++(l[0]++bs [58]++bs (gt n c[0]))):=by show _=_;rw[rH _ u,z]
    have R:Hid (jj (go l (c.map (gt n))) 0=bs []):=rfl;clear O u z;rw[Nat.zero_mul,Nat.add_zero]at f0;rw[Nat.zero_mul,Nat.add_zero]at f1 f2 f3 f4;rw[R.out];rw[R.out]at ae;generalize Z:bs []=acc at *;generalize bs (gt n c[0])=tk at *;generalize l[0]=nm at *;rw[Nat.add_zero]at q0;have af:(acc++nm).size<=9900:=by rw[ByteArray.size_append];omega
    have P:(acc++nm++bs [58]).size<=9901:=by rw[ByteArray.size_append,gq];show _+1<=9901;omega
    clear Z;go_wp2_with fail;refine U.out.mono ?_;rintro e w1 ⟨rfl,r⟩;have f:=b5 j Q r;obtain⟨j0,j1,j2,j3,j4⟩:=D.keep f;clear r U f0 f1 f2 f3 f4 i0 i1 i2 i3 i4;go_wp2;go_roundw;case rel=>exact⟨0+1,om,by go_num,by rw[Y.out];exact congrArg Value.string (by rw[<- ByteArray.append_assoc,<- ByteArray.append_assoc];rfl),f⟩
    case measure=>simp[intOf];omega
   ·have Y:Hid (jj (go l (c.map (gt n))) (k+1)=jj (go l (c.map (gt n))) k++bs [44]++(l[k]++bs [58]++bs (gt n c[k]))):=by show _=_;rw[tW _ _ u om,z]
    have ak:decide ((0:Int)<(k:Int))=true:=decide_eq_true om;clear O u z;generalize jj (go l (c.map (gt n))) k=acc at *;generalize bs (gt n c[k])=tk at *;generalize l[k]=nm at *;have af:(acc++bs [44]++nm).size<=9900:=by rw[ByteArray.size_append,ByteArray.size_append,gq];show _+1+_<=9900;omega
    have P:(acc++bs [44]++nm++bs [58]).size<=9901:=by rw[ByteArray.size_append,gq];show _+1<=9901;omega
    have an:(acc++bs [44]).size<=9841:=by rw[ByteArray.size_append,gq];simp;omega
    go_wp2_with fail;refine U.out.mono ?_;rintro e w1 ⟨rfl,r⟩;have f:=b5 j Q r;obtain⟨j0,j1,j2,j3,j4⟩:=D.keep f;clear r U f0 f1 f2 f3 f4 i0 i1 i2 i3 i4;go_wp2;go_roundw;case rel=>exact⟨k+1,om,by go_num,by rw[Y.out];exact congrArg Value.string (by rw[<- ByteArray.append_assoc,<- ByteArray.append_assoc];rfl),f⟩
    case measure=>simp[intOf];omega
  ·have J:k=c.length:=by omega
   have R:Hid (bs [123]++jj (go l (c.map (gt n))) k++bs [125]=bs (123 :: fP (go l (c.map (gt n)))++[125])):=by
    show _=_;unfold jj;have e:c.length=(go l (c.map (gt n))).length:=by rw[iz _ _ (by simpa using B.out)];simp
    rw[J,e,List.take_length,gA,gA];rfl
   have g:Bw w wr:=b5 G om j;clear J p o N;generalize jj (go l (c.map (gt n))) k=acc at *;go_wp2;go_ret;exact⟨jQ R.out,g⟩
theorem Eg(n:Nat)(p:mK n):mK (n+1):=by
 intro S t c0 c1 c2 c3 c4 d w s o h r;have a:=mW (n+1) t d h;obtain⟨rfl,rfl,rfl,u,-,-,q,j⟩:=s;obtain⟨na,z,rfl,-,-,-⟩:=id q;obtain⟨v,y,g,-,-⟩:=id j;simp only[ie,Zq]at h;have b:gM (Nd.sort t) (Nd.num t) (Nd.text t) (Nd.names t) (Nd.kids t).length=true:=h.1.2;have f:1+b4 (fun x=>d9 n x) (Nd.kids t)<=120:=by simpa only[d9] using r
 unfold gM at b;simp only[gt]at a ⊢;by_cases l:Nd.sort t=1;·rw[if_pos l]at b ⊢;rw[l,g];simp only[Zq,decide_eq_true_eq]at b;exact GO _ _ _ _ _ _ _ _ w b.1.1.1.1 b.1.1.1.2
 rw[if_neg l]at b a ⊢;by_cases m:Nd.sort t=2;·rw[if_pos m]at b ⊢;rw[m,g];simp only[Zq,kB,decide_eq_true_eq]at b;exact Eh _ _ _ _ _ _ _ _ w b.1.1.2.1
 rw[if_neg m]at b a ⊢;by_cases e:Nd.sort t=3;·rw[if_pos e];rw[e,g];exact Ed _ _ _ _ _ _ _ _ w
 rw[if_neg e]at b a ⊢;by_cases k:Nd.sort t=6;·rw[if_pos k];rw[k];exact Bu n p S (Nd.kids t) _ _ _ _ _ _ (d+1) w j o h.2 f
 rw[if_neg k]at a ⊢;by_cases i:Nd.sort t=5
 ·have c:¬Nd.sort t=4:=by omega
  rw[if_neg c,if_pos i]at b;rw[if_pos i]at a ⊢;rw[i];simp only[Zq,beq_iff_eq]at b;simp only[Zx,Zy,List.length_nil]at a;exact Ee n p S (Nd.kids t) (Nd.names t) _ _ _ _ _ (d+1) w q om (jO _ b.2) j o h.2 f om
 rw[if_neg i]at a ⊢;have c:Nd.sort t=4:=by
  by_cases c:Nd.sort t=4;·exact c
  ·rw[if_neg c,if_neg i,if_neg k]at b;cases b
 rw[c];simp only[Zx,Zy,List.length_nil]at a;exact Ef n p S (Nd.kids t) _ _ _ _ _ _ (d+1) w j o h.2 f om
theorem AK:∀n,mK n:=by
 intro n;induction n with
 | zero=>intro S t c0 c1 c2 c3 c4 d w a;exact a.elim
 | succ n b=>exact Eg n b
def uh(n:Nat)(t:T n):ZN:=if Cc n t=true then bs (gt n t) else bs []
theorem H7{n:Nat}{t:T n}(h:Cc n t=true):ie n t 1=true/\d9 n t<=120:=by simpa only[Cc,Zq,decide_eq_true_eq] using h
def rM (B:Nat) (w:Zw):Prop:=Lib.TabBelow prog B w "internal/strconv.uint64pow10" .u64 Lib.pow10Tab
def oD(n:Nat):Prop:=∀(B:Nat)(w0 w:Zw)(v:Zv)(l:List UInt8)(t:T n)(a:Zv)(d:Int),iV B w0 w v l->iM (fun b=>b<B) w n t a->ie n t d=true->d9 n t<=120->l.length+(gt n t).length<=20000->rM B w ->
 Calls prog 212 #[v,a] w fun e f=>∃c,e=Zr c/\iV B w0 f c (l++gt n t)
theorem rM.on(h:rM B w)(a:Below B w w'):rM B w':=Lib.TabBelow.on h a
theorem jg{w0:Zw}{v:Zv}{l l':List UInt8}(h:iV B w0 w v l)(e:l=l'):iV B w0 w v l':=e ▸ h
theorem sO (n:Nat) (Y:oD n) (B:Nat) (w0 w:Zw) (v:Zv) (l:List UInt8) (g:List (T n)) (Z:Zv) (d:Int) (R:iV B w0 w v l) (hr:lx (fun b=>b<B) w (iM (fun b=>b<B) w n) g Z)
  (X:g.all (fun x=>ie n x d)=true) (hc:1+b4 (fun x=>d9 n x) g<=120) (hl:l.length+(fP (g.map (gt n))).length+2<=20000) (V:rM B w) :
  Calls prog 233 #[v,Z] w fun e w'=>∃v',e=Zr v' /\ iV B w0 w' v' (l++(91 :: fP (g.map (gt n))++[93])):=by
 obtain⟨ao,cap,rfl,G,p⟩:=hr;unfold maxLen at G;obtain⟨va,vn,vc,rfl⟩:=R.shape;have HG:Hid (∀k (h:k<g.length),ie n g[k] d=true/\d9 n g[k]<=120):=fun k h=>by refine⟨ZC.1 X _ (Zg h),?_⟩;have:=gK (fun x=>d9 n x) g _ (Zg h);omega
 have u:Hid (∀k,(fP ((g.map (gt n)).take k)).length<=(fP (g.map (gt n))).length):=fun k=>jh _ k;have P:=a7 R;clear X;go_in;go_wp2_with (at_builtin;refine fS rfl (.tmp 7) (.tmp 8) rfl B (Zs va vn vc) l rfl w w 91 91 rfl R.here rfl om ?_;intro v1 w1 D;obtain⟨ad,ah,af,rfl⟩:=D.shape;refine Hid.out ?_);refine Lib.hid ?_;go_wp2;go_loopw [0,12] (fun a i wr=>∃k:Nat,k<=g.length/\i=Zi Zk k/\iV B w wr a (l++[91]++fP ((g.map (gt n)).take k))) (fun _ i _=>g.length-(intOf i).toNat);case atStart=>exact⟨0,ZE _,rfl,jg D (by simp[fP])⟩
 case round=>
  obtain⟨k,hk,rfl,q⟩:=hrel;obtain⟨I,M,K,rfl⟩:=q.shape;have ac:=u.out k;by_cases r:k<g.length
  ·obtain⟨b,off,rfl,S,E⟩:=p (by intro h;rw[h]at r;simp at r);obtain⟨c,U,y⟩:=E k r;obtain⟨ku,kx,rfl⟩:=y.iface;have f0:=kC q.below U S;have t:=HG.out k r;have H:k<(g.map (gt n)).length:=by simpa using r
   have O:Hid (fP ((g.map (gt n)).take (k+1))=(if k=0 then [] else fP ((g.map (gt n)).take k)++[44])++gt n g[k]):=by show _=_;rw[iC _ _ H];simp
   have A:Hid (∀W,Below B w W->iM (fun b=>b<B) W n g[k] (.iface ku kx)):=fun W hW=>y.keep (a6 hW (fun _ h=>h)) (fun _ h=>h);clear p E U y H;have j:Hid _:=q;clear q;rcases Nat.eq_zero_or_pos k with rfl|ab
   ·rw[Nat.add_zero]at f0;go_wp2_with fail;refine (Y B w wr _ _ g[0] _ d j.out (A.out _ j.out.below) t.1 t.2 (by have C:=u.out (0+1);rw[O.out]at C;simp[fP]at C ⊢;omega) (V.on j.out.below)).mono ?_;rintro e w2 ⟨v2,rfl,m⟩;obtain⟨J,N,L,rfl⟩:=m.shape;have z:=jg m (l':=l++[91]++fP ((g.map (gt n)).take (0+1))) (by rw[O.out];simp[fP]);have Q:Hid _:=z;clear m f0 z;go_wp2;go_roundw;case rel=>exact⟨0+1,om,by go_num,Q.out⟩
    case measure=>simp[intOf];omega
   ·have aa:decide ((0:Int)<(k:Int))=true:=decide_eq_true om;go_wp2_with (at_builtin;refine fS rfl (.tmp 19) (.tmp 20) rfl B (Zs I M K) _ rfl w wr 44 44 rfl j.out rfl zE ?_;intro v3 w3 o;obtain⟨J,N,L,rfl⟩:=o.shape;refine Hid.out ?_);refine Lib.hid ?_;have s:Hid _:=o;clear o;go_wp2_with fail;refine (Y B w w3 _ _ g[k] _ d s.out (A.out _ s.out.below) t.1 t.2 (by have C:=u.out (k+1);rw[O.out,if_neg om]at C;simp at C ⊢;omega) (V.on s.out.below)).mono ?_;rintro e w2 ⟨v2,rfl,m⟩;obtain⟨ae,ai,ag,rfl⟩:=m.shape;have z:Hid _:=jg m (l':=l++[91]++fP ((g.map (gt n)).take (k+1))) (by rw[O.out,if_neg om];simp);clear m f0 s j;go_wp2;go_roundw;case rel=>exact⟨k+1,om,by go_num,z.out⟩
    case measure=>simp[intOf];omega
  ·have F:k=g.length:=by omega
   have j:=a7 (jg q (by rw[F,<- List.length_map (f:=gt n),List.take_length]));clear p q F;go_wp2_with (at_builtin;refine fS rfl (.tmp 26) (.tmp 27) rfl B (Zs I M K) _ rfl w wr 93 93 rfl j.out rfl zE ?_;intro v3 w3 o;obtain⟨J,N,L,rfl⟩:=o.shape;refine Hid.out ?_);refine Lib.hid ?_;have z:Hid _:=jg (o.from P.out) (l':=l++(91 :: fP (g.map (gt n))++[93])) zS;clear o j;go_wp2;go_ret;exact⟨_,rfl,z.out⟩
theorem rO (n:Nat) (M:oD n) (B:Nat) (w0 w:Zw) (v:Zv) (l:List UInt8) (p:List (T n)) (O:Zv) (d:Int) (m:iV B w0 w v l) (hr:lx (fun b=>b<B) w (iM (fun b=>b<B) w n) p O)
  (C:p.all (fun x=>ie n x d)=true) (K:1+b4 (fun x=>d9 n x) p<=120) (L:l.length+(mc (gt n) p).length<=20000) (J:rM B w) :
  Calls prog 235 #[v,O] w fun e G=>∃u,e=Zr u/\iV B w0 G u (l++mc (gt n) p):=by
 obtain⟨ao,cap,rfl,i,f⟩:=hr;unfold maxLen at i;obtain⟨Q,S,R,rfl⟩:=m.shape;cases p with
 | nil=>rw[List.length_nil];simp only[mc,Zy,List.length_nil]at L;go_in;go_wp2_with (at_builtin;refine fS rfl (.tmp 8) (.tmp 9) rfl B (Zs Q S R) l rfl w0 w 126 126 rfl m rfl om ?_;intro q w1 a;obtain⟨D,F,E,rfl⟩:=a.shape;refine Hid.out ?_);refine Lib.hid ?_;have z:Hid _:=a;clear a m;go_wp2;go_ret;exact⟨_,rfl,z.out⟩
 | cons k r=>
  obtain⟨b,off,rfl,s,t⟩:=f zS;obtain⟨c,I,g⟩:=t 0 zS;rw[Nat.add_zero]at I;rw[List.getElem_cons_zero]at g;obtain⟨N,P,rfl⟩:=g.iface;rw[Zy]at i ⊢;have ab:(((r.length:Nat):Int)+1==0)=false:=zE;simp only[mc,Zy]at L;simp only[List.all_cons,Zq]at C;simp only[b4]at K;have X:=m.le;have H:=a7 m.here;have y:=a7 m;have U:Hid (∀(W:Zw)(q:Zv),iV B w W q (l++[63])->Calls prog 212 #[q,.iface N P] W fun e G=>∃u,e=Zr u/\iV B w G u (l++[63]++gt n k)):=fun W q A=>M B w W q _ k _ d A (g.keep (a6 A.below (fun _ h=>h)) (fun _ h=>h)) C.1 om zE (J.on A.below);have j:Hid (∀W,Below B w W->W.cell? ⟨b,off,none⟩=some (.iface N P)):=fun W Y=>kC Y I s;clear f t g M J C K m;have Z:b<w.heap.size:=by have:b<B:=s;omega
  go_in;go_wp2_with fail;go_region_law (first
   | (refine vd rfl (.tmp 11) (.tmp 12) rfl B (Zs Q S R) l rfl w 63 (by first|exact (H.out.alloc _).drew|exact H.out.drew.alloc _) w.heap.size rfl (by simp[go_sem]) om ?_;intro q w1 a;obtain⟨D,F,E,rfl⟩:=a.shape;have aa:=j.out _ a.below)
   | (go_simp;go_at_call 212;refine (U.out _ _ (by first|assumption|exact iV.drew (by assumption))).mono ?_;rintro e w2 ⟨v2,rfl,o⟩;obtain⟨ac,ae,ad,rfl⟩:=o.shape))
  all_goals
   have V:Hid _:=jg (o.from y.out) (l':=l++mc (gt n) (k :: r)) (by simp[mc])
   clear o
   go_wp2
   go_ret
   exact⟨_,rfl,V.out⟩
theorem sN (n:Nat) (hn:oD n) (B:Nat) (w0 w:Zw) (v:Zv) (l:List UInt8) (g:List ZN) (nv:Zv) (f:List (T n)) (kv:Zv) (d:Int) (hN:fL (fun b=>b<B) w g nv) (ab:g.length=f.length) (ai:∀ s,s∈g->s.size<=8)
  (hb:iV B w0 w v l) (hr:lx (fun b=>b<B) w (iM (fun b=>b<B) w n) f kv)
  (hg:f.all (fun x=>ie n x d)=true) (hc:1+b4 (fun x=>d9 n x) f<=120) (hl:l.length+(fP (go g (f.map (gt n)))).length+2<=20000) (hT:rM B w) :
  Calls prog 234 #[v,nv,kv,.func (.func 212) #[] #[]] w fun e w'=>∃v',e=Zr v' /\ iV B w0 w' v' (l++(123 :: fP (go g (f.map (gt n)))++[125])):=by
 obtain⟨ao,cap,rfl,aa,u⟩:=hr;obtain⟨no,av,rfl,-,-,m⟩:=hN;unfold maxLen at aa;obtain⟨va,vn,vc,rfl⟩:=hb.shape;have aw:=hb.le;have HG:Hid (∀k (h:k<f.length),ie n f[k] d=true/\d9 n f[k]<=120):=fun k h=>by refine⟨ZC.1 hg _ (Zg h),?_⟩;have:=gK (fun x=>d9 n x) f _ (Zg h);omega
 have K:Hid (∀k,(fP ((go g (f.map (gt n))).take k)).length<=(fP (go g (f.map (gt n)))).length):=fun k=>jh _ k;have I:=a7 ab;have R:=a7 hb;clear hg ab;go_in;go_wp2_with (at_builtin;refine fS rfl (.tmp 11) (.tmp 12) rfl B (Zs va vn vc) l rfl w w 123 123 rfl R.out.here rfl om ?_;intro v1 w1 L;obtain⟨aA,aC,aB,rfl⟩:=L.shape;refine Hid.out ?_);refine Lib.hid ?_;have S:Hid _:=L;clear L;go_wp2;go_loopw [0,16] (fun a i wr=>∃k:Nat,k<=f.length/\i=Zi Zk k/\iV B w wr a (l++[123]++fP ((go g (f.map (gt n))).take k))) (fun _ i _=>f.length-(intOf i).toNat);case atStart=>exact⟨0,ZE _,rfl,jg S.out (by simp[fP])⟩
 case round=>
  obtain⟨k,hk,rfl,z⟩:=hrel;obtain⟨E,G,F,rfl⟩:=z.shape;have az:=K.out k;clear S;by_cases y:k<f.length
  ·obtain⟨b,off,rfl,ah,Y⟩:=u (by intro h;rw[h]at y;simp at y);obtain⟨c,e0,M⟩:=Y k y;obtain⟨ku,kx,rfl⟩:=M.iface;have f0:=kC z.below e0 ah;have D:=HG.out k y;have C:k<g.length:=by rw[I.out];exact y
   obtain⟨nb,ad,rfl,aj,ac⟩:=m (by intro h;rw[h]at C;simp at C);have ar:=ai g[k] (Zg C);have J:Hid (∀W,Below B w W->W.cell? ⟨nb,ad+k,none⟩=some (Zt g[k])):=fun W hW=>kC hW (ac k C) aj;have N:k<(go g (f.map (gt n))).length:=by rw[iz _ _ (by simpa using I.out)];simpa using y
   have HS:Hid (fP ((go g (f.map (gt n))).take (k+1))=(if k=0 then [] else fP ((go g (f.map (gt n))).take k)++[44])++(g[k].data.toList++58 :: gt n f[k])):=by show _=_;rw[iC _ _ N,qr g (f.map (gt n)) k C (by simpa using y) N,List.getElem_map]
   have V:Hid (∀W,Below B w W->iM (fun b=>b<B) W n f[k] (.iface ku kx)):=fun W hW=>M.keep (a6 hW (fun _ h=>h)) (fun _ h=>h);have au:g[k].data.toList.length=g[k].size:=zS;clear u Y e0 M N m ac;have o:Hid _:=z;clear z;rcases Nat.eq_zero_or_pos k with rfl|ay
   ·rw[Nat.add_zero]at f0;rw[Nat.add_zero]at J;generalize g[0]=nm at *;have H:Hid _:=o.out;have q0:=J.out _ H.out.below;go_wp2_with (at_builtin;refine gI rfl (.tmp 26) (.tmp 30) 9 rfl underlying9 B (Zs E G F) _ rfl w H.out nm rfl (by simp[fP];omega) ?_;intro v5 w5 q;obtain⟨O,Q,P,rfl⟩:=q.shape;refine Hid.out ?_);refine Lib.hid ?_;have A:Hid _:=q;clear q H q0 o f0;go_wp2_with (at_builtin;refine fS rfl (.tmp 32) (.tmp 33) rfl B (Zs O Q P) _ rfl w w5 58 58 rfl A.out rfl (by simp[fP];omega) ?_;intro v6 w6 r;obtain⟨ak,ap,am,rfl⟩:=r.shape;refine Hid.out ?_);refine Lib.hid ?_;have j:Hid _:=r;clear r A;go_wp2_with fail;refine (hn B w w6 _ _ f[0] _ d j.out (V.out _ j.out.below) D.1 D.2 (by have X:=K.out (0+1);rw[HS.out]at X;simp[fP]at X ⊢;omega) (hT.on j.out.below)).mono ?_;rintro e w7 ⟨v7,rfl,t⟩;obtain⟨al,aq,an,rfl⟩:=t.shape;have U:Hid _:=jg t (l':=l++[123]++fP ((go g (f.map (gt n))).take (0+1))) (by rw[HS.out];simp[fP]);clear t j;go_wp2;go_roundw;case rel=>exact⟨0+1,om,by go_num,U.out⟩
    case measure=>simp[intOf];omega
   ·have ax:decide ((0:Int)<(k:Int))=true:=decide_eq_true om;generalize g[k]=nm at *;go_wp2_with (at_builtin;refine fS rfl (.tmp 23) (.tmp 24) rfl B (Zs E G F) _ rfl w wr 44 44 rfl o.out rfl zE ?_;intro v3 w3 p;obtain⟨ae,ag,af,rfl⟩:=p.shape;refine Hid.out ?_);refine Lib.hid ?_;have H:Hid _:=p;clear p;have q0:=J.out _ H.out.below;go_wp2_with (at_builtin;refine gI rfl (.tmp 26) (.tmp 30) 9 rfl underlying9 B (Zs ae ag af) _ rfl w H.out nm rfl zE ?_;intro v5 w5 q;obtain⟨O,Q,P,rfl⟩:=q.shape;refine Hid.out ?_);refine Lib.hid ?_;have A:Hid _:=q;clear q H q0 o f0;go_wp2_with (at_builtin;refine fS rfl (.tmp 32) (.tmp 33) rfl B (Zs O Q P) _ rfl w w5 58 58 rfl A.out rfl zE ?_;intro v6 w6 r;obtain⟨ak,ap,am,rfl⟩:=r.shape;refine Hid.out ?_);refine Lib.hid ?_;have j:Hid _:=r;clear r A;go_wp2_with fail;refine (hn B w w6 _ _ f[k] _ d j.out (V.out _ j.out.below) D.1 D.2 (by have X:=K.out (k+1);rw[HS.out,if_neg om]at X;simp at X ⊢;omega) (hT.on j.out.below)).mono ?_;rintro e w7 ⟨v7,rfl,t⟩;obtain⟨al,aq,an,rfl⟩:=t.shape;have U:Hid _:=jg t (l':=l++[123]++fP ((go g (f.map (gt n))).take (k+1))) (by rw[HS.out,if_neg om];simp);clear t j;go_wp2;go_roundw;case rel=>exact⟨k+1,om,by go_num,U.out⟩
    case measure=>simp[intOf];omega
  ·have Z:k=f.length:=by omega
   have o:Hid (iV B w wr (Zs E G F) (l++[123]++fP (go g (f.map (gt n))))):=jg z (by
    have e:f.length=(go g (f.map (gt n))).length:=by rw[iz _ _ (by simpa using I.out)];simp
    rw[Z,e,List.take_length])
   clear u z Z m;go_wp2_with (at_builtin;refine fS rfl (.tmp 40) (.tmp 41) rfl B (Zs E G F) _ rfl w wr 125 125 rfl o.out rfl zE ?_;intro v3 w3 p;obtain⟨ae,ag,af,rfl⟩:=p.shape;refine Hid.out ?_);refine Lib.hid ?_;have U:Hid _:=jg (p.from R.out) (l':=l++(123 :: fP (go g (f.map (gt n)))++[125])) zS;clear p o;go_wp2;go_ret;exact⟨_,rfl,U.out⟩
theorem sQ (B:Nat) (w0 w:Zw) (v:Zv) (l:List UInt8) (x:Int) (c:iV B w0 w v l) (n : -999999999<=x) (o:x<=999999999) (p:l.length<=20000) (f:rM B w) :
  Calls prog 212 #[v,.iface 299 (Zi Zk x)] w fun e m=>∃h,e=Zr h/\iV B w0 m h (l++Lib.itoa x):=by have g:=Tryz.yes_num;obtain⟨r,t,s,rfl⟩:=c.shape;have d:=a7 (G4 B w0 w _ l x om om c om f);clear c f;go_in;go_wp2_with fail;refine d.out.mono ?_;rintro e w1 ⟨q,rfl,a⟩;obtain⟨i,k,j,rfl⟩:=a.shape;have b:Hid _:=a;clear a d;go_wp2;go_ret;exact⟨_,rfl,b.out⟩
theorem rS (B:Nat) (w0 w:Zw) (v:Zv) (l:List UInt8) (x:ZN) (h:iV B w0 w v l) (H:x.size<=60) (G:l.length<=20000) :
  Calls prog 212 #[v,.iface 301 (Zt x)] w fun e E=>∃s,e=Zr s/\iV B w0 E s (l++(34 :: x.data.toList++[34])):=by have q:=Tryz.no_num_text;have r:=Tryz.yes_text;obtain⟨u,C,z,rfl⟩:=h.shape;have t:x.data.toList.length=x.size:=zS;have p:Hid _:=h;clear h;go_in;go_wp2_with (at_builtin;refine fS rfl (.tmp 21) (.tmp 22) rfl B (Zs u C z) _ rfl w0 w 34 34 rfl p.out rfl om ?_;intro I w1 a;obtain⟨i,n,k,rfl⟩:=a.shape;refine Hid.out ?_);refine Lib.hid ?_;have d:Hid _:=a;clear a p;go_wp2_with (at_builtin;refine gI rfl (.tmp 24) (.tmp 25) 301 rfl underlying301 B (Zs i n k) _ rfl w0 d.out x rfl zE ?_;intro v2 F b;obtain⟨j,o,m,rfl⟩:=b.shape;refine Hid.out ?_);refine Lib.hid ?_;have f:Hid _:=b;clear b d;go_wp2_with (at_builtin;refine fS rfl (.tmp 27) (.tmp 28) rfl B (Zs j o m) _ rfl w0 F 34 34 rfl f.out rfl zE ?_;intro v3 J c;obtain⟨y,D,A,rfl⟩:=c.shape;refine Hid.out ?_);refine Lib.hid ?_;have g:Hid _:=jg c (l':=l++(34 :: x.data.toList++[34])) zS;clear c f;go_wp2;go_ret;exact⟨_,rfl,g.out⟩
theorem wD(x:Bool)(w:Zw):Calls prog 232 #[.bool x] w fun e a=>e=Zr (Zt (bs (if x=true then [121,101,115] else [110,111])))/\w=a:=by
 cases x
 all_goals
  go_in
  go_wp2
  go_ret
  exact⟨rfl,rfl⟩
theorem rP (B:Nat) (w0 w:Zw) (v:Zv) (l:List UInt8) (x:Bool) (d:iV B w0 w v l) (D:l.length<=20000) :
  Calls prog 212 #[v,.iface 302 (.bool x)] w fun e h=>∃n,e=Zr n/\iV B w0 h n (l++(if x=true then [121,101,115] else [110,111])):=by
 have j:=Tryz.no_num_flag;have k:=Tryz.no_text_flag;have m:=Tryz.yes_flag;obtain⟨o,q,p,rfl⟩:=d.shape;have i:Hid _:=d;have g:(if x=true then [121,101,115] else [110,111]:List UInt8).length<=3:=by split<;>simp
 have r:Hid (∀u:List UInt8,u=(if x=true then [121,101,115] else [110,111])->iV B w0 w (Zs o q p) l):=fun _ _=>d;obtain⟨a,c⟩:∃a:List UInt8,a=(if x=true then [121,101,115] else [110,111]):=⟨_,rfl⟩;rw[<- c]at g ⊢;have s:Hid (Calls prog 232 #[.bool x] w fun e h=>e=Zr (Zt (bs a))/\w=h):=by rw[c];exact wD x w
 have y:=gq a;have t:=jy a;clear d c r;go_in;go_wp2_with fail;refine s.out.mono ?_;rintro e w1 ⟨rfl,rfl⟩;go_wp2_with (at_builtin;refine gI rfl (.tmp 33) (.tmp 35) 9 rfl underlying9 B (Zs o q p) _ rfl w0 i.out (bs a) rfl om ?_;intro v2 E b;obtain⟨z,C,A,rfl⟩:=b.shape;refine Hid.out ?_);refine Lib.hid ?_;have f:Hid _:=jg b (l':=l++a) (by rw[jy]);clear b i;go_wp2;go_ret;exact⟨_,rfl,f.out⟩
theorem rR (B:Nat) (w0 w:Zw) (v:Zv) (l r:List UInt8) (ka:ZO) (kl kc:Nat) (g:iV B w0 w v l) (f:Hid (Calls prog 233 #[v,Zs ka kl kc] w fun e d=>∃ b,e=Zr b/\iV B w0 d b r)) :
  Calls prog 212 #[v,.iface 305 (Zs ka kl kc)] w fun e d=>∃b,e=Zr b/\iV B w0 d b r:=by have h:=Tryz.no_num_list;have i:=Tryz.no_text_list;have j:=Tryz.no_flag_list;have k:=Tryz.yes_list;obtain⟨q,t,s,rfl⟩:=g.shape;clear g;go_in;go_wp2_with fail;refine f.out.mono ?_;rintro e w1 ⟨p,rfl,a⟩;obtain⟨m,o,n,rfl⟩:=a.shape;have c:Hid _:=a;clear a f;go_wp2;go_ret;exact⟨_,rfl,c.out⟩
theorem rQ (B:Nat) (w0 w:Zw) (v:Zv) (l r:List UInt8) (na ka:ZO) (f d kl kc:Nat) (i:iV B w0 w v l)
  (h:Hid (Calls prog 234 #[v,Zs na f d,Zs ka kl kc,.func (.func 212) #[] #[]] (w.alloc (Zc #[Zs na f d,Zs ka kl kc] 308)) fun e g=>∃b,e=Zr b/\iV B w0 g b r)) :
  Calls prog 212 #[v,.iface 308 (Za #[Zs na f d,Zs ka kl kc])] w fun e g=>∃b,e=Zr b/\iV B w0 g b r:=by have j:=Tryz.no_num_form;have k:=Tryz.no_text_form;have m:=Tryz.no_flag_form;have n:=Tryz.no_list_form;have o:=Tryz.yes_form;obtain⟨u,y,x,rfl⟩:=i.shape;clear i;go_in;go_wp2_with fail;refine h.out.mono ?_;rintro e w1 ⟨t,rfl,a⟩;obtain⟨p,s,q,rfl⟩:=a.shape;have c:Hid _:=a;clear a h;go_wp2;go_ret;exact⟨_,rfl,c.out⟩
theorem qD (B:Nat) (w0 w:Zw) (v:Zv) (l r:List UInt8) (ka:ZO) (kl kc:Nat) (g:iV B w0 w v l) (f:Hid (Calls prog 235 #[v,Zs ka kl kc] w fun e d=>∃ b,e=Zr b/\iV B w0 d b r)) :
  Calls prog 212 #[v,.iface 310 (Zs ka kl kc)] w fun e d=>∃b,e=Zr b/\iV B w0 d b r:=by have h:=Tryz.no_num_maybe;have i:=Tryz.no_text_maybe;have j:=Tryz.no_flag_maybe;have k:=Tryz.no_list_maybe;have m:=Tryz.no_form_maybe;have n:=Tryz.yes_maybe;obtain⟨t,x,u,rfl⟩:=g.shape;clear g;go_in;go_wp2_with fail;refine f.out.mono ?_;rintro e w1 ⟨s,rfl,a⟩;obtain⟨o,q,p,rfl⟩:=a.shape;have c:Hid _:=a;clear a f;go_wp2;go_ret;exact⟨_,rfl,c.out⟩
theorem Fh(n:Nat)(o:oD n):oD (n+1):=by
 intro B w0 w v l t A d e h u s g m;have b:=u;simp only[ie,Zq]at b;have a:gM (Nd.sort t) (Nd.num t) (Nd.text t) (Nd.names t) (Nd.kids t).length=true:=b.1.2;have j:1+b4 (fun x=>d9 n x) (Nd.kids t)<=120:=by simpa only[d9] using s
 unfold gM at a;simp only[gt]at g ⊢;rcases h with ⟨c,rfl⟩|⟨c,rfl⟩|⟨c,rfl⟩|⟨c,r,rfl,i⟩|⟨c,C,r,rfl,k,i⟩|⟨c,r,rfl,i⟩;·rw[if_pos c]at a g ⊢;simp only[Zq,decide_eq_true_eq]at a;exact sQ B w0 w v l _ e a.1.1.1.1 a.1.1.1.2 om m
 ·rw[if_neg om,if_pos c]at a g ⊢;simp only[Zq,kB,decide_eq_true_eq]at a;exact rS B w0 w v l _ e a.1.1.2.1 om
 ·rw[if_neg om,if_neg om,if_pos c]at g ⊢;have:=rP B w0 w v l (Nd.num t==1) e om;simpa using this
 ·rw[if_neg om,if_neg om,if_neg om,if_neg om,if_neg om]at g ⊢;obtain⟨p,q,rfl,-⟩:=id i;simp only[Zx,Zy,List.length_nil]at g;exact rR B w0 w v l _ _ _ _ e (sO n o B w0 w v l (Nd.kids t) _ (d+1) e i b.2 j om m)
 ·rw[if_neg om,if_neg om,if_neg om,if_neg om,if_pos c]at g ⊢;rw[if_neg om,if_neg om,if_neg om,if_neg om,if_pos c]at a;simp only[Zq,beq_iff_eq]at a;obtain⟨p,q,rfl,-⟩:=id i;obtain⟨na,z,rfl,-⟩:=id k;simp only[Zx,Zy,List.length_nil]at g;have f:=(Below.refl B w).alloc e.le (Zc #[Zs na (Nd.names t).length z,Zs p (Nd.kids t).length q] 308);exact rQ B w0 w v l _ _ _ _ _ _ _ e (sN n o B w0 _ v l (Nd.names t) _ (Nd.kids t) _ (d+1) (k.keep (a6 f (fun _ h=>h)) (fun _ h=>h)) om (jO _ a.2) (e.alloc _)
   (i.keep (a6 f (fun _ h=>h)) (fun _ h=>h) (fun _ _ _ y=>y.keep (a6 f (fun _ h=>h)) (fun _ h=>h))) b.2 j om (m.on f))
 ·rw[if_neg om,if_neg om,if_neg om,if_pos c]at g ⊢;obtain⟨p,q,rfl,-⟩:=id i;exact qD B w0 w v l _ _ _ _ e (rO n o B w0 w v l (Nd.kids t) _ (d+1) e i b.2 j om m)
theorem sP:∀n,oD n:=by
 intro n;induction n with
 | zero=>intro B w0 w v l t c d b h;exact h.elim
 | succ n a=>exact Fh n a
theorem Iv:∀(n:Nat)(t:T n)(d:Int),ie n t d=true->gt n t≠[]:=by
 intro n t d h;cases n with
 | zero=>simp[ie]at h
 | succ n=>
  simp only[gt];by_cases a:Nd.sort t=1
  ·rw[if_pos a];intro e;have:(Lib.itoa (Nd.num t)).length=0:=by rw[e];rfl
   unfold Lib.itoa at this;split at this;·simp at this
   ·rw[Lib.decDigits_length]at this;unfold Lib.nDigits at this;split at this<;>omega
  rw[if_neg a];by_cases b:Nd.sort t=2;·rw[if_pos b];simp
  rw[if_neg b];by_cases c:Nd.sort t=3;·rw[if_pos c];split<;>simp
  rw[if_neg c];by_cases g:Nd.sort t=6;·rw[if_pos g];cases Nd.kids t<;>simp[mc]
  rw[if_neg g];by_cases f:Nd.sort t=5;·rw[if_pos f];simp
  rw[if_neg f];simp
def ly (w:Zw):Prop:=Lib.TabBelow prog w.heap.size w "internal/strconv.uint64pow10" .u64 Lib.pow10Tab
theorem ly.step(h:ly w)(a:Bw w w'):ly w':=fun c b=>h c (a.trans (b.mono a.size))
theorem uK (n:Nat) (S:ZP) (t:T n) (c0 c1 c2 c3 c4:Zv) (w:Zw) (u:gE S w n t c0 c1 c2 c3 c4) (s:Bd S w) (z:ly w) :
  Calls prog 187 #[Za #[c0,c1,c2,c3,c4]] w fun e B=>e=Zr (Zt (uh n t))/\Bw w B:=by
 obtain⟨C,D,E,F,H,G,I,K,J,rfl,rfl,rfl,rfl,rfl⟩:=u.shape;have c:=(Below.refl w.heap.size w).alloc (Zl _) (Zc #[Zi Zk C,Zi Zk D,Zt E,Zs F H G,Zs I K J] 164);have j:=u.keep (a6 c s) (fun _ h=>h);clear u;go_in;go_wp2_with fail;refine (uL n S t _ _ _ _ _ _ j (fun b g=>by have:=s b g;simp;omega)).mono ?_;rintro e w1 ⟨g,⟨a,v,rfl,m⟩|⟨a,rfl⟩⟩
 ·have q:=H7 a;have i:=b5 c zS g;have x:=g.size;simp at x;have f:=m.keep (fun _ _=>rfl) (fun b g=>g.elim (fun h=>by have:=s b h;omega) (fun h=>h.2));obtain⟨L,M,rfl⟩:=id f.iface;have o:=mW n t 1 q.1;have p:=Iv n t 1 q.1;have y:Hid (uh n t=bs (gt n t)):=by show _=_;rw[uh,if_pos a]
  have k:=a7 (sP n w1.heap.size w1 w1 (Zs none 0 0) [] t _ 1 (iV.nil (Zl _)) f q.1 q.2 zE (z.step i));have r:=a7 p;clear g a m f c j q p o;go_wp2_with fail;refine k.out.mono ?_;rintro e Q ⟨v2,rfl,d⟩;rw[List.nil_append]at d;have A:=kU _ _ _ _ _ d r.out;have l:=i.trans (d.below.mono i.size);obtain⟨N,P,O,rfl⟩:=d.shape;clear d i k;go_wp2;go_ret;exact⟨jQ y.out.symm,l⟩
 ·have k:Hid (uh n t=bs []/\Bw w w1):=⟨by rw[uh,if_neg (by rw[a];simp)],b5 c zS g⟩;clear g a c j;go_wp2;go_ret;exact⟨jQ k.out.1.symm,k.out.2⟩
end Go.Proofs.YtcfojmaccikgeaaGreatDoor
