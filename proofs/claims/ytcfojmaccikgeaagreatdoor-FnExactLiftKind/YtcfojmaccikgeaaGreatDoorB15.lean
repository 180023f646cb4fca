import Derived.Test.YtcfojmaccikgeaaGreatDoorB3
import Derived.Test.YtcfojmaccikgeaaGreatDoorB2
import Derived.Deep.RegionWith
import Derived.Laws.IdiomStrings
import Derived.Lib.ItoaMem
import Derived.Test.YtcfojmaccikgeaaGreatDoorB5
open Go.Value renaming slice→Zs,int→Zi,string→Zt,agg→Za
open Go.IntKind renaming i64→Zk
open Go.Ending renaming returned→Zr
open Go.Obj renaming cells→Zc
open Go renaming World→Zw
open Nat renaming le_refl→Zl
open Bool renaming and_eq_true→Zq
open List renaming getElem_mem→Zg,length_append→Zx,length_cons→Zy
namespace Go.Proofs.YtcfojmaccikgeaaGreatDoor
open Go.RowKit Go.Proofs.Tryz
set_option maxRecDepth 100000
set_option maxHeartbeats 16000000
theorem I5(r:Nat)(h:r<10):IntKind.u8.wrap (48+(r:Int))=((UInt8.ofNat (48+r)).toNat:Int):=by have:(UInt8.ofNat (48+r)).toNat=48+r:=zE;rw[this,IntKind.wrap_u8];omega
theorem Fy(w:Zw)(c:UInt8):(convert 156 9 (Zs (some ⟨w.heap.size,0,none⟩) 1 1)).run prog (w.alloc (Zc #[Zi .u8 (c.toNat:Int)] 5))=.ok (Zt (bs [c])) (w.alloc (Zc #[Zi .u8 (c.toNat:Int)] 5)):=
 run_convert_bytes_back (P:=prog) _ 156 9 5 ⟨w.heap.size,0,none⟩ 1 [c] underlying156 underlying5 underlying9 (fun j a=>by
  match j,a with
  | 0,_=>simp[Addr.add])
theorem GT(W:Zw)(N:Nat)(c:UInt8)(h:W.cell? ⟨N,0,none⟩=some (Zi .u8 (c.toNat:Int))):(convert 156 9 (Zs (some ⟨N,0,none⟩) 1 1)).run prog W=.ok (Zt (bs [c])) W:=
 run_convert_bytes_back (P:=prog) W 156 9 5 ⟨N,0,none⟩ 1 [c] underlying156 underlying5 underlying9 (fun j a=>by
  match j,a with
  | 0,_=>exact h)
theorem vh(x:Int)(c:UInt8)(w:Zw)(f:0<=x)(g:x<10)(b:Hid (48+x=(c.toNat:Int))):Calls prog 98 #[Zi Zk x] w fun e d=>e=Zr (Zt (bs [c]))/\Bw w d:=by
 have a:Hid ((convert 156 9 (Zs (some ⟨w.heap.size,0,none⟩) 1 1)).run prog (w.alloc (Zc #[Zi .u8 (48+x)] 5))=.ok (Zt (bs [c])) (w.alloc (Zc #[Zi .u8 (48+x)] 5))):=by show _=_;rw[b.out];exact Fy w c
 clear b;go_in;go_wp2_with fail;rw[a.out];clear a;go_wp2;go_ret;exact⟨rfl,gF _ _⟩
theorem sL(r:Nat)(h:r<10):(48:Int)+(r:Int)=((UInt8.ofNat (48+r)).toNat:Int):=by have:(UInt8.ofNat (48+r)).toNat=48+r:=zE;rw[this];omega
theorem qu(m:Nat):∀(x:Nat)(w:Zw),x<=m->x<=999999999->Calls prog 98 #[Zi Zk (x:Int)] w fun e f=>e=Zr (Zt (bs (Lib.decDigits x)))/\Bw w f:=by
 induction m with
 | zero=>intro x w y _;rw[Lib.decDigits_one om];exact vh x _ w om om (sL x om)
 | succ m j=>
  intro x w y i;by_cases d:x<10;·rw[Lib.decDigits_one d];exact vh x _ w om om (sL x d)
  have h:Hid (Lib.decDigits x=Lib.decDigits (x / 10)++[UInt8.ofNat (48+x % 10)]):=by show _=_;rw[Lib.decDigits,dif_neg d]
  have b:(Lib.decDigits (x / 10)).length<=21:=by have:=Lib.itoa_length_le ((x / 10:Nat):Int) om om;rw[Lib.itoa_nonneg]at this;omega
  obtain⟨q,A⟩:∃q:Int,q=(x:Int) / 10:=⟨_,rfl⟩;have l:Hid (∀W:Zw,Calls prog 98 #[Zi Zk ((x:Int) / 10)] W fun e f=>e=Zr (Zt (bs (Lib.decDigits (x / 10))))/\Bw W f):=fun W=>by have:=j (x / 10) W om om;rwa [show (((x / 10:Nat)):Int)=(x:Int) / 10 by omega]at this
  have o:∀(W:Zw)(N:Nat),W.cell? ⟨N,0,none⟩=some (Zi .u8 (48+(x:Int) % 10))->(convert 156 9 (Zs (some ⟨N,0,none⟩) 1 1)).run prog W=.ok (Zt (bs [UInt8.ofNat (48+x % 10)])) W:=fun W N z=>by refine GT W N (UInt8.ofNat (48+x % 10)) ?_;rw[z,<- sL (x % 10) om,show (((x % 10:Nat)):Int)=(x:Int) % 10 by omega]
  generalize UInt8.ofNat (48+x % 10)=c at *;generalize Lib.decDigits (x / 10)=dl at *;have p:(bs dl).size+(bs [c]).size<=9223372036854775807:=by rw[go,go];simp;omega
  have g:(bs dl).size<=21:=by rw[go];exact b
  have k:(bs [c]).size=1:=by rw[go];rfl
  have v:Hid (bs dl++bs [c]=bs (Lib.decDigits x)):=by show _=_;rw[h.out,gB]
  clear h b;have u:IntKind.i64.wrap ((x:Int) / 10)=(x:Int) / 10:=by rw[IntKind.wrap_i64];omega
  have n:IntKind.i64.wrap ((x:Int) % 10)=(x:Int) % 10:=by rw[IntKind.wrap_i64];omega
  have B:IntKind.i64.wrap (48+(x:Int) % 10)=48+(x:Int) % 10:=by rw[IntKind.wrap_i64];omega
  have t:IntKind.u8.wrap (48+(x:Int) % 10)=48+(x:Int) % 10:=by rw[IntKind.wrap_u8];omega
  have r:(x:Int).tmod 10=(x:Int) % 10:=Int.tmod_eq_emod_of_nonneg om;clear j A;go_in;go_wp2_with fail;go_region_with (go_at_call 98;refine (l.out _).mono ?_;rintro e w1 ⟨rfl,a⟩;obtain⟨s,-⟩:=ro a);all_goals
   go_wp2
   go_ret
   refine⟨jG v.out,?_⟩
  all_goals first
   | exact (b4 ((Below.refl _ w).drew) (Zl _) a).alloc (by have:=a.size;simp at this ⊢;omega) _
   | exact b4 (((Below.refl _ w).drew).alloc zS _) zS a
   | exact b4 (((Below.refl _ w).alloc (Zl _) _).drew) zS a
theorem Dt(x:Int)(w:Zw)(l : -999999999<=x)(k:x<=999999999):Calls prog 98 #[Zi Zk x] w fun e f=>e=Zr (Zt (bs (Lib.itoa x)))/\Bw w f:=by
 by_cases i:0<=x;·obtain⟨n,rfl⟩:=Int.eq_ofNat_of_zero_le i;rw[Lib.itoa_nonneg];exact qu n n w (Zl _) om
 ·obtain⟨n,h⟩:∃n:Nat,x = -(n:Int):=⟨x.natAbs,om⟩;subst h;have a:(Lib.decDigits n).length<=21:=by have:=Lib.itoa_length_le (n:Int) om om;rw[Lib.itoa_nonneg]at this;omega
  have d:Hid (Calls prog 98 #[Zi Zk (n:Int)] w _):=qu n n w (Zl _) om;have j:(bs (Lib.decDigits n)).size<=21:=by rw[go];exact a
  have g:Hid (bs [45]++bs (Lib.decDigits n)=bs (Lib.itoa (-(n:Int)))):=by show _=_;rw[Lib.itoa_neg n om,gB];rfl
  generalize Lib.decDigits n=dl at *;have c:(-(n:Int))<0:=om;go_in;go_wp2_with fail;refine d.out.mono ?_;rintro e w1 ⟨rfl,b⟩;go_wp2;go_ret;exact⟨jG g.out,b⟩
def mV(n:Nat):Prop:=∀(S:Nat->Prop)(t:T n)(c0 c1 c2 c3 c4:Value)(d:Int)(w:Zw),gJ S w n t c0 c1 c2 c3 c4->(Bd S w)->ia n t d=true->fJ n t<=120 ->
 Calls prog 96 #[Za #[c0,c1,c2,c3,c4]] w fun e a=>e=Zr (Zt (bs (gw n t)))/\Bw w a
theorem EV (m:Int) (x:ByteArray) (na d:Option Addr) (h f i g:Nat) (w:Zw) (l : -999999999<=m) (j:m<=999999999) :
  Calls prog 96 #[Za #[Zi Zk 1,Zi Zk m,Zt x,Zs na h f,Zs d i g]] w fun e k=>e=Zr (Zt (bs (Lib.itoa m)))/\Bw w k:=by have b:=(Below.refl w.heap.size w).alloc (Zl _) (Zc #[Zi Zk 1,Zi Zk m,Zt x,Zs na h f,Zs d i g] 164);go_in;go_wp2_with fail;refine (Dt m _ l j).mono ?_;rintro e w1 ⟨rfl,a⟩;have c:=b4 b zS a;clear b a;go_wp2;go_ret;exact⟨rfl,c⟩
theorem Cp (m:Int) (x:ByteArray) (na a:Option Addr) (g d h f:Nat) (w:Zw) (j:x.size<=60) :
  Calls prog 96 #[Za #[Zi Zk 2,Zi Zk m,Zt x,Zs na g d,Zs a h f]] w fun e b=>e=Zr (Zt (bs (34 :: x.data.toList++[34])))/\Bw w b:=by
 have c:Hid (bs [34]++x++bs [34]=bs (34 :: x.data.toList++[34])):=by show _=_;rw[<- ru x,gB,gB,jv];rfl
 have i:(bs [34]).size=1:=by rw[go];rfl
 go_in;go_wp2;go_ret;exact⟨jG c.out,gF _ _⟩
theorem C1 (m:Int) (x:ByteArray) (na b:Option Addr) (h f i g:Nat) (w:Zw) :
  Calls prog 96 #[Za #[Zi Zk 3,Zi Zk m,Zt x,Zs na h f,Zs b i g]] w fun e c=>e=Zr (Zt (bs (if m=1 then [121,101,115] else [110,111])))/\Bw w c:=by
 by_cases a:m=1;·subst a;go_in;go_wp2;go_ret;exact⟨rfl,gF _ _⟩
 ·rw[if_neg a];have d:(m==1)=false:=by simpa using a
  clear a;go_in;go_wp2;go_ret;exact⟨rfl,gF _ _⟩
theorem Bo (n:Nat) (O:mV n) (S:Nat->Prop) (q:List (T n)) (m:Int) (x:ByteArray) (na:Option Addr) (J H:Nat) (L:Value) (d:Int) (w:Zw) (I:ig S w (gJ S w n) q L) (z:Bd S w)
  (s:q.all (fun x=>ia n x d)=true) (Q:1+b5 (fun x=>fJ n x) q<=120) :
  Calls prog 96 #[Za #[Zi Zk 6,Zi Zk m,Zt x,Zs na J H,L]] w fun e V=>e=Zr (Zt (bs (mf (gw n) q)))/\Bw w V:=by
 have v:=I;obtain⟨X,cap,rfl,g,f⟩:=I;cases q with
 | nil=>go_in;go_wp2;go_ret;exact⟨rfl,gF _ _⟩
 | cons k r=>
  obtain⟨b,off,rfl,B,o⟩:=f zS;obtain⟨F,K,G,N,M,y,C,A,D,t,l⟩:=o 0 zS;simp only[Nat.zero_mul,Nat.add_zero,List.getElem_cons_zero]at y C A D t l;unfold maxLen at g;simp only[Zy]at g;have a:=(Below.refl w.heap.size w).alloc (Zl _) (Zc #[Zi Zk 6,Zi Zk m,Zt x,Zs na J H,Zs (some ⟨b,off,none⟩) (r.length+1) cap] 164);have c:=z b B;have f0:=kC a y c;have f1:=kC a C c;have f2:=kC a A c;have f3:=kC a D c;have f4:=kC a t c;have i:=l.keep (a6 a z) (fun _ h=>h);simp only[List.all_cons,Zq]at s;simp only[b5]at Q;have j:=mM n k d s.1;have U:(bs (gw n k)).size<=9840:=by rw[go];omega
  have R:Hid (bs [63]++bs (gw n k)=bs (63 :: gw n k)):=by show _=_;rw[gB];rfl
  have P:(((r.length:Nat):Int)+1==0)=false:=zE;have E:Hid (Calls prog 96 #[Za #[F,K,G,N,M]] _ _):=O S k F K G N M d _ i (fun b W=>by have:=z b W;simp;omega) s.1 om;clear f o y C A D t l i v s j O;rw[Zy];go_in;go_wp2_with fail;refine E.out.mono ?_;rintro e w1 ⟨rfl,p⟩;have u:=b4 a zS p;clear a p f0 f1 f2 f3 f4 E;go_wp2;go_ret;exact⟨jG R.out,u⟩
def jg(parts:List (List UInt8))(k:Nat):ByteArray:=bs (fS (parts.take k))
theorem sY(parts:List (List UInt8))(k:Nat)(h:k<parts.length)(a:¬k=0):jg parts (k+1)=jg parts k++bs [44]++bs parts[k]:=by unfold jg;rw[iB _ _ h,if_neg a,gB,gB]
theorem rx(parts:List (List UInt8))(h:0<parts.length):jg parts (0+1)=bs []++bs parts[0]:=by unfold jg;rw[iB _ _ h,if_pos rfl,gB]
theorem DF (n:Nat) (hn:mV n) (S:Nat->Prop) (c:List (T n)) (m:Int) (x:ByteArray) (na:Option Addr) (D B:Nat) (kv:Value) (d:Int) (w:Zw) (hr:ig S w (gJ S w n) c kv) (N:Bd S w)
  (hg:c.all (fun x=>ia n x d)=true) (hc:1+b5 (fun x=>fJ n x) c<=120) (aa:(fS (c.map (gw n))).length<=9840) :
  Calls prog 96 #[Za #[Zi Zk 4,Zi Zk m,Zt x,Zs na D B,kv]] w fun e w'=>e=Zr (Zt (bs (91 :: fS (c.map (gw n))++[93])))/\Bw w w':=by
 obtain⟨M,cap,rfl,I,o⟩:=hr;unfold maxLen at I;have C:=(Below.refl w.heap.size w).alloc (Zl _) (Zc #[Zi Zk 4,Zi Zk m,Zt x,Zs na D B,Zs M c.length cap] 164);have z:=vT.new w (Zi Zk 4) (Zi Zk m) (Zt x) (Zs na D B) (Zs M c.length cap) 164;have ab:(w.alloc (Zc #[Zi Zk 4,Zi Zk m,Zt x,Zs na D B,Zs M c.length cap] 164)).heap.size=w.heap.size+1:=zS;have A:Hid (∀k,(jg (c.map (gw n)) k).size<=9840):=fun k=>by have:=jj (c.map (gw n)) k;unfold jg;rw[go];omega
 have HG:Hid (∀k (h:k<c.length),ia n c[k] d=true/\fJ n c[k]<=120):=fun k h=>by refine⟨List.all_eq_true.1 hg _ (Zg h),?_⟩;have:=gX (fun x=>fJ n x) c _ (Zg h);omega
 clear hg;go_in;go_wp2_with fail;generalize hW:w.alloc (Zc #[Zi Zk 4,Zi Zk m,Zt x,Zs na D B,Zs M c.length cap] 164)=W at *;clear hW;go_loopw [3,4] (fun a i wr=>∃k:Nat,k<=c.length/\i=Zi Zk k/\a=Zt (jg (c.map (gw n)) k)/\Bw W wr) (fun _ i _=>c.length-(intOf i).toNat);case atStart=>exact⟨0,Nat.zero_le _,rfl,rfl,Below.refl _ _⟩
 case round=>
  obtain⟨k,hk,rfl,rfl,j⟩:=hrel;have Q:=A.out k;obtain⟨i0,X,i2,i3,i4⟩:=z.keep j;have J:=j.size;by_cases q:k<c.length
  ·obtain⟨b,off,rfl,P,E⟩:=o (by intro h;rw[h]at q;simp at q);obtain⟨V,y1,y2,y3,y4,Y,e1,Z,e3,U,H⟩:=E k q;have p:=N b P;have l:Bw w wr:=b4 C om j;have f0:=kC l Y p;have f1:=kC l e1 p;have f2:=kC l Z p;have f3:=kC l e3 p;have f4:=kC l U p;have v:=H.keep (a6 l N) (fun _ h=>h);have u:=HG.out k q;have y:=mM n c[k] d u.1;have af:(bs (gw n c[k])).size<=9840:=by rw[go];omega
   have K:Hid (Calls prog 96 #[Za #[V,y1,y2,y3,y4]] wr _):=hn S c[k] V y1 y2 y3 y4 d wr v (fun b hb=>by have:=N b hb;omega) u.1 u.2;have F:=A.out (k+1);have s:k<(c.map (gw n)).length:=by simpa using q
   have t:(c.map (gw n))[k]=gw n c[k]:=zS;clear o E Y e1 Z e3 U H v u y l;rcases Nat.eq_zero_or_pos k with rfl|ad
   ·have O:Hid (jg (c.map (gw n)) (0+1)=bs []++bs (gw n c[0])):=by show _=_;rw[rx _ s,t]
    have L:Hid (jg (c.map (gw n)) 0=bs []):=rfl;clear F s t;rw[Nat.zero_mul,Nat.add_zero]at f0;rw[Nat.zero_mul,Nat.add_zero]at f1 f2 f3 f4;rw[L.out];rw[L.out]at Q;generalize R:bs []=acc at *;generalize bs (gw n c[0])=tk at *;clear R;go_wp2_with fail;refine K.out.mono ?_;rintro e w1 ⟨rfl,r⟩;have g:=b4 j J r;obtain⟨j0,j1,j2,j3,j4⟩:=z.keep g;clear r K f0 f1 f2 f3 f4 i0 X i2 i3 i4;go_wp2;go_roundw;case rel=>exact⟨0+1,om,by go_num,by rw[O.out],g⟩
    case measure=>simp[intOf];omega
   ·have O:Hid (jg (c.map (gw n)) (k+1)=jg (c.map (gw n)) k++bs [44]++bs (gw n c[k])):=by show _=_;rw[sY _ _ s om,t]
    have ac:decide ((0:Int)<(k:Int))=true:=decide_eq_true om;clear F s t;generalize jg (c.map (gw n)) k=acc at *;generalize bs (gw n c[k])=tk at *;have ae:(acc++bs [44]).size<=9841:=by rw[ByteArray.size_append,go];simp;omega
    go_wp2_with fail;refine K.out.mono ?_;rintro e w1 ⟨rfl,r⟩;have g:=b4 j J r;obtain⟨j0,j1,j2,j3,j4⟩:=z.keep g;clear r K f0 f1 f2 f3 f4 i0 X i2 i3 i4;go_wp2;go_roundw;case rel=>exact⟨k+1,om,by go_num,by rw[O.out];rfl,g⟩
    case measure=>simp[intOf];omega
  ·have G:k=c.length:=by omega
   have L:Hid (bs [91]++jg (c.map (gw n)) k++bs [93]=bs (91 :: fS (c.map (gw n))++[93])):=by show _=_;unfold jg;rw[G,<- List.length_map (f:=gw n),List.take_length,gB,gB];rfl
   have l:Bw w wr:=b4 C om j;clear G o;generalize jg (c.map (gw n)) k=acc at *;go_wp2;go_ret;exact⟨jG L.out,l⟩
theorem Ej (n:Nat) (hn:mV n) (S:Nat->Prop) (c:List (T n)) (l:List ByteArray) (m:Int) (x:ByteArray) (na:Option Addr) (E:Nat) (kv:Value) (d:Int) (w:Zw) (hl:fL S w l (Zs na l.length E)) (P:l.length=c.length) (ae:∀ s,s∈l->s.size<=8) (hr:ig S w (gJ S w n) c kv) (V:Bd S w)
  (hg:c.all (fun x=>ia n x d)=true) (hc:1+b5 (fun x=>fJ n x) c<=120) (aj:(fS (gq l (c.map (gw n)))).length<=9840) :
  Calls prog 96 #[Za #[Zi Zk 5,Zi Zk m,Zt x,Zs na l.length E,kv]] w fun e w'=>e=Zr (Zt (bs (123 :: fS (gq l (c.map (gw n)))++[125])))/\Bw w w':=by
 obtain⟨X,cap,rfl,N,q⟩:=hr;obtain⟨no,ai,aa,-,K,o⟩:=hl;cases aa
 unfold maxLen at N;have H:=(Below.refl w.heap.size w).alloc (Zl _) (Zc #[Zi Zk 5,Zi Zk m,Zt x,Zs na l.length E,Zs X c.length cap] 164);have C:=vT.new w (Zi Zk 5) (Zi Zk m) (Zt x) (Zs na l.length E) (Zs X c.length cap) 164;have ak:(w.alloc (Zc #[Zi Zk 5,Zi Zk m,Zt x,Zs na l.length E,Zs X c.length cap] 164)).heap.size=w.heap.size+1:=zS;have F:Hid (∀k,(jg (gq l (c.map (gw n))) k).size<=9840):=fun k=>by have:=jj (gq l (c.map (gw n))) k;unfold jg;rw[go];omega
 have HG:Hid (∀k (h:k<c.length),ia n c[k] d=true/\fJ n c[k]<=120):=fun k h=>by refine⟨List.all_eq_true.1 hg _ (Zg h),?_⟩;have:=gX (fun x=>fJ n x) c _ (Zg h);omega
 have D:Hid (l.length=c.length):=P;clear hg P;go_in;go_wp2_with fail;generalize hW:w.alloc (Zc #[Zi Zk 5,Zi Zk m,Zt x,Zs na l.length E,Zs X c.length cap] 164)=W at *;clear hW;go_loopw [3,4] (fun a i wr=>∃k:Nat,k<=c.length/\i=Zi Zk k/\a=Zt (jg (gq l (c.map (gw n))) k)/\Bw W wr) (fun _ i _=>c.length-(intOf i).toNat);case atStart=>exact⟨0,Nat.zero_le _,rfl,rfl,Below.refl _ _⟩
 case round=>
  obtain⟨k,hk,rfl,rfl,j⟩:=hrel;have ac:=F.out k;obtain⟨i0,i1,i2,i3,i4⟩:=C.keep j;have Q:=j.size;by_cases p:k<c.length
  ·obtain⟨b,off,rfl,ab,I⟩:=q (by intro h;rw[h]at p;simp at p);obtain⟨y0,y1,y2,y3,y4,e0,e1,e2,e3,e4,M⟩:=I k p;have r:=V b ab;have g:Bw w wr:=b4 H om j;have f0:=kC g e0 r;have f1:=kC g e1 r;have f2:=kC g e2 r;have f3:=kC g e3 r;have f4:=kC g e4 r;have A:=M.keep (a6 g V) (fun _ h=>h);have z:=HG.out k p;have B:=mM n c[k] d z.1;have ap:(bs (gw n c[k])).size<=9840:=by rw[go];omega
   have R:Hid (Calls prog 96 #[Za #[y0,y1,y2,y3,y4]] wr _):=hn S c[k] y0 y1 y2 y3 y4 d wr A (fun b hb=>by have:=V b hb;omega) z.1 z.2;have J:=F.out (k+1);have u:k<l.length:=by rw[D.out];exact p
   obtain⟨nb,ag,rfl,Y,O⟩:=o (by intro h;rw[h]at u;simp at u);have q0:=kC g (O k u) (V nb Y);have ah:=ae l[k] (Zg u);have t:k<(gq l (c.map (gw n))).length:=by rw[ix _ _ (by simpa using D.out)];simpa using p
   have y:bs (gq l (c.map (gw n)))[k]=l[k]++bs [58]++bs (gw n c[k]):=by rw[pC l (c.map (gw n)) k u (by simpa using p) t,List.getElem_map,<- ru l[k],gB,gB,jv];simp
   clear q I e0 e1 e2 e3 e4 M A z B g o O K;rcases Nat.eq_zero_or_pos k with rfl|am
   ·have Z:Hid (jg (gq l (c.map (gw n))) (0+1)=bs []++(l[0]++bs [58]++bs (gw n c[0]))):=by show _=_;rw[rx _ t,y]
    have U:Hid (jg (gq l (c.map (gw n))) 0=bs []):=rfl;clear J t y;rw[Nat.zero_mul,Nat.add_zero]at f0;rw[Nat.zero_mul,Nat.add_zero]at f1 f2 f3 f4;rw[U.out];rw[U.out]at ac;generalize af:bs []=acc at *;generalize bs (gw n c[0])=tk at *;generalize l[0]=nm at *;rw[Nat.add_zero]at q0;have ad:(acc++nm).size<=9900:=by rw[ByteArray.size_append];omega
    have G:(acc++nm++bs [58]).size<=9901:=by rw[ByteArray.size_append,go];show _+1<=9901;omega
    clear af;go_wp2_with fail;refine R.out.mono ?_;rintro e w1 ⟨rfl,v⟩;have f:=b4 j Q v;obtain⟨j0,j1,j2,j3,j4⟩:=C.keep f;clear v R f0 f1 f2 f3 f4 i0 i1 i2 i3 i4;go_wp2;go_roundw;case rel=>exact⟨0+1,om,by go_num,by rw[Z.out];exact congrArg Value.string (by rw[<- ByteArray.append_assoc,<- ByteArray.append_assoc];rfl),f⟩
    case measure=>simp[intOf];omega
   ·have Z:Hid (jg (gq l (c.map (gw n))) (k+1)=jg (gq l (c.map (gw n))) k++bs [44]++(l[k]++bs [58]++bs (gw n c[k]))):=by show _=_;rw[sY _ _ t om,y]
    have al:decide ((0:Int)<(k:Int))=true:=decide_eq_true om;clear J t y;generalize jg (gq l (c.map (gw n))) k=acc at *;generalize bs (gw n c[k])=tk at *;generalize l[k]=nm at *;have ad:(acc++bs [44]++nm).size<=9900:=by rw[ByteArray.size_append,ByteArray.size_append,go];show _+1+_<=9900;omega
    have G:(acc++bs [44]++nm++bs [58]).size<=9901:=by rw[ByteArray.size_append,go];show _+1<=9901;omega
    have an:(acc++bs [44]).size<=9841:=by rw[ByteArray.size_append,go];simp;omega
    go_wp2_with fail;refine R.out.mono ?_;rintro e w1 ⟨rfl,v⟩;have f:=b4 j Q v;obtain⟨j0,j1,j2,j3,j4⟩:=C.keep f;clear v R f0 f1 f2 f3 f4 i0 i1 i2 i3 i4;go_wp2;go_roundw;case rel=>exact⟨k+1,om,by go_num,by rw[Z.out];exact congrArg Value.string (by rw[<- ByteArray.append_assoc,<- ByteArray.append_assoc];rfl),f⟩
    case measure=>simp[intOf];omega
  ·have L:k=c.length:=by omega
   have U:Hid (bs [123]++jg (gq l (c.map (gw n))) k++bs [125]=bs (123 :: fS (gq l (c.map (gw n)))++[125])):=by
    show _=_;unfold jg;have e:c.length=(gq l (c.map (gw n))).length:=by rw[ix _ _ (by simpa using D.out)];simp
    rw[L,e,List.take_length,gB,gB];rfl
   have g:Bw w wr:=b4 H om j;clear L q o K;generalize jg (gq l (c.map (gw n))) k=acc at *;go_wp2;go_ret;exact⟨jG U.out,g⟩
theorem CW(n:Nat)(p:mV n):mV (n+1):=by
 intro S t c0 c1 c2 c3 c4 d w s l h r;have a:=mM (n+1) t d h;obtain⟨rfl,rfl,rfl,z,-,-,q,j⟩:=s;obtain⟨na,v,rfl,-,-,-⟩:=id q;obtain⟨y,u,e,-,-⟩:=id j;simp only[ia,Zq]at h;have b:gS (Nd.sort t) (Nd.num t) (Nd.text t) (Nd.names t) (Nd.kids t).length=true:=h.1.2;have g:1+b5 (fun x=>fJ n x) (Nd.kids t)<=120:=by simpa only[fJ] using r
 unfold gS at b;simp only[gw]at a ⊢;by_cases o:Nd.sort t=1;·rw[if_pos o]at b ⊢;rw[o,e];simp only[Zq,decide_eq_true_eq]at b;exact EV _ _ _ _ _ _ _ _ w b.1.1.1.1 b.1.1.1.2
 rw[if_neg o]at b a ⊢;by_cases m:Nd.sort t=2;·rw[if_pos m]at b ⊢;rw[m,e];simp only[Zq,kf,decide_eq_true_eq]at b;exact Cp _ _ _ _ _ _ _ _ w b.1.1.2.1
 rw[if_neg m]at b a ⊢;by_cases f:Nd.sort t=3;·rw[if_pos f];rw[f,e];exact C1 _ _ _ _ _ _ _ _ w
 rw[if_neg f]at b a ⊢;by_cases k:Nd.sort t=6;·rw[if_pos k];rw[k];exact Bo n p S (Nd.kids t) _ _ _ _ _ _ (d+1) w j l h.2 g
 rw[if_neg k]at a ⊢;by_cases i:Nd.sort t=5
 ·have c:¬Nd.sort t=4:=by omega
  rw[if_neg c,if_pos i]at b;rw[if_pos i]at a ⊢;rw[i];simp only[Zq,beq_iff_eq]at b;simp only[Zx,Zy,List.length_nil]at a;exact Ej n p S (Nd.kids t) (Nd.names t) _ _ _ _ _ (d+1) w q om (jD _ b.2) j l h.2 g om
 rw[if_neg i]at a ⊢;have c:Nd.sort t=4:=by
  by_cases c:Nd.sort t=4;·exact c
  ·rw[if_neg c,if_neg i,if_neg k]at b;cases b
 rw[c];simp only[Zx,Zy,List.length_nil]at a;exact DF n p S (Nd.kids t) _ _ _ _ _ _ (d+1) w j l h.2 g om
theorem Aw:∀n,mV n:=by
 intro n;induction n with
 | zero=>intro S t c0 c1 c2 c3 c4 d w a;exact a.elim
 | succ n b=>exact CW n b
def su(n:Nat)(t:T n):ByteArray:=if Be n t=true then bs (gw n t) else bs []
theorem Hi{n:Nat}{t:T n}(h:Be n t=true):ia n t 1=true/\fJ n t<=120:=by simpa only[Be,Zq,decide_eq_true_eq] using h
end Go.Proofs.YtcfojmaccikgeaaGreatDoor
