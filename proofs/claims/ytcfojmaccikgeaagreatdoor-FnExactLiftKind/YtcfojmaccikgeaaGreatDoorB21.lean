import Derived.Test.YtcfojmaccikgeaaGreatDoorB3
import Derived.Test.YtcfojmaccikgeaaGreatDoorB2
import Derived.Deep.WholeRow
import Derived.Lib.Hide
import Derived.WideShapes
import Derived.Test.YtcfojmaccikgeaaGreatDoorB5
open Go.Value renaming slice→Zs,int→Zi,string→Zt,pointer→Zp
open Go.IntKind renaming i64→Zk
open Go.Ending renaming returned→Zr
open Go.Obj renaming cells→Zc
open Option renaming none→Zn,some→Zo
open Go renaming World→Zw,Value→Zv
open Bool renaming and_eq_true→Zq
open List renaming getElem_mem→Zg,all_eq_true→ZC
namespace Go.Proofs.YtcfojmaccikgeaaGreatDoor
open Go.RowKit Go.Proofs.Tryz
set_option maxRecDepth 100000
set_option maxHeartbeats 16000000
variable {w:Zw} {b k n:Nat} {s:ByteArray} {α:Type}
def Gn:Nat->List Zv
 | 0=>[]
 | n+1=>Gn n++[Zt (km n),Zt (bs (jz n)),Zi Zk (lst n),Zi Zk (tX n)]
def vg:Array Zv:=(Gn 44).toArray
theorem Hy:∀n,(Gn n).length=n*4:=by
 intro n;induction n with
 | zero=>rfl
 | succ n a=>rw[Gn,List.length_append,a];simp;omega
theorem GK:∀n k,k<n->(Gn n)[k*4]?=Zo (Zt (km k))/\(Gn n)[k*4+1]?=Zo (Zt (bs (jz k)))/\(Gn n)[k*4+2]?=Zo (Zi Zk (lst k))/\(Gn n)[k*4+3]?=Zo (Zi Zk (tX k)):=by
 intro n;induction n with
 | zero=>intro k h;exact absurd h (Nat.not_lt_zero _)
 | succ n f=>
  intro k h;have g:=Hy n;by_cases e:k<n;·obtain⟨d,b,a,c⟩:=f k e;rw[Gn,List.getElem?_append_left om,List.getElem?_append_left om,List.getElem?_append_left om,List.getElem?_append_left om];exact⟨d,b,a,c⟩
  ·have:k=n:=by omega
   subst this;rw[Gn,List.getElem?_append_right om,List.getElem?_append_right om,List.getElem?_append_right om,List.getElem?_append_right om,g,
    show k*4-k*4=0 by omega,show k*4+1-k*4=1 by omega,show k*4+2-k*4=2 by omega,show k*4+3-k*4=3 by omega]
   exact⟨rfl,rfl,rfl,rfl⟩
def kz(w:Zw)(b:Nat):Prop:=∀k,k<44->w.cell? ⟨b,k*4,Zn⟩=Zo (Zt (km k))/\w.cell? ⟨b,k*4+1,Zn⟩=Zo (Zt (bs (jz k)))/\w.cell? ⟨b,k*4+2,Zn⟩=Zo (Zi Zk (lst k))/\w.cell? ⟨b,k*4+3,Zn⟩=Zo (Zi Zk (tX k))
theorem kz.keep{w':Zw}(h:kz w b)(c:w'.heap[b]?=w.heap[b]?):kz w' b:=by intro k i;obtain⟨g,e,d,f⟩:=h k i;exact⟨(World.cell?_of_block (w:=w) (w':=w') (a:=⟨b,k*4,Zn⟩) c).trans g,(World.cell?_of_block (w:=w) (w':=w') (a:=⟨b,k*4+1,Zn⟩) c).trans e,(World.cell?_of_block (w:=w) (w':=w') (a:=⟨b,k*4+2,Zn⟩) c).trans d,(World.cell?_of_block (w:=w) (w':=w') (a:=⟨b,k*4+3,Zn⟩) c).trans f⟩
theorem kz.of{t:TypeId}{z:Nat×Nat}(h:w.heap[b]?=Zo (Zc vg t z)):kz w b:=by
 intro k f;obtain⟨e,c,a,d⟩:=GK 44 k f;refine⟨?_,?_,?_,?_⟩;·simp[World.cell?,h,vg,e]
 ·simp[World.cell?,h,vg,c]
 ·simp[World.cell?,h,vg,a]
 ·simp[World.cell?,h,vg,d]
theorem o8 {P:Program} {e:Func} {p:Tmp} {d:TypeId} (h:e.results=#[.cell p d]) (a:Array Zv) (w:Zw) (b:Addr) (v:Zv) (f:a.getD p undef=Zp (Zo b)) (g:(loadVar d b).run P w=.ok v w) :
  (results e a).run P w=.ok v w:=by
 have c:a[p]?.getD undef=Zp (Zo b):=by simpa using f
 simp[results,h,c,g,asAddr]
theorem ur(w:Zw):Calls prog 108 #[] w fun e h=>e=Zr (.agg vg)/\Bw w h:=by
 have g:vg.size=176:=zK;have d:=run_storeAt_new (P:=prog) w 175 Tryz.zeroCells175 vg zK zK zK;have a:=run_storeCells_new (P:=prog) w 175 Tryz.zeroCells175 vg zK zK zK;have c:Hid _:=run_loadVar_new (P:=prog) w 175 vg 44 174 zK zK;go_in;go_wp2_with fail;conv=>
  pattern (Array.setIfInBounds (Array.setIfInBounds _ 174 _) 175 _)
  tactic=>refine Eq.trans (b:=vg) ?_ rfl;kernel_rfl
 conv=>
  pattern (List.set (List.set _ 174 _) 175 _)
  tactic=>refine Eq.trans (b:=vg.toList) ?_ rfl;kernel_rfl
 have f:Hid (Bw w (w.alloc (Zc vg 175))):=gF _ _;rw[a];clear d a;go_wp2_with fail;exact bodyPost_ret (o8 results108 _ _ ⟨w.heap.size,0,Zn⟩ _ rfl c.out) rfl ⟨rfl,f.out⟩
theorem uj(w:Zw):Calls prog 78 #[] w fun e d=>∃b,e=Zr (Zp (Zo ⟨b,0,Zn⟩))/\w.heap.size<=b/\b<d.heap.size/\kz d b/\Bw w d:=by
 have g:vg.size=176:=zK;have h:Array.foldl (fun cs (x:Zv×Nat)=>cs.setIfInBounds x.snd x.fst) Tryz.zeroCells178 vg.zipIdx 0 176=vg:=zK;go_in;go_wp2_with fail;refine (ur w).mono ?_;rintro e w1 ⟨rfl,a⟩;have c:=a.alloc a.size (Zc vg 178);have f:Hid (∃b,Ending.returned (Zp (Zo ⟨w1.heap.size,0,Zn⟩))=Zr (Zp (Zo ⟨b,0,Zn⟩))/\w.heap.size<=b/\b<(w1.alloc (Zc vg 178)).heap.size/\kz (w1.alloc (Zc vg 178)) b/\Bw w (w1.alloc (Zc vg 178))):=
  ⟨w1.heap.size,rfl,a.size,zS,kz.of (heap_alloc_last w1 _),c⟩
 clear a c;go_wp2;go_ret;exact f.out
theorem As(a b:ByteArray):(a==b)=decide (a=b):=by
 obtain⟨x⟩:=a;obtain⟨y⟩:=b;show (x==y)=_;by_cases h:x=y;·subst h;simp
 ·have c:¬(ByteArray.mk x)=⟨y⟩:=fun e=>h (congrArg ByteArray.data e);rw[decide_eq_false c];simpa using h
theorem js(a b:ByteArray):(a.toList==b.toList)=(a==b):=by
 rw[ByteArray.toList_eq,ByteArray.toList_eq,As];by_cases h:a=b;·subst h;simp
 ·have c:¬a.data.toList=b.data.toList:=fun e=>h (Go.WideShapes.bytes_inj e);rw[decide_eq_false h];simpa using c
theorem px(a:ByteArray)(l:List UInt8):(a.toList==l)=(a==bs l):=by rw[<- js,ByteArray.toList_eq (bs l),jv]
theorem B1(h:(km k==s)=true):EO s k (n+1)=k:=by rw[EO,if_pos h]
theorem F3(h:(km k==s)=false):EO s k (n+1)=EO s (k+1) n:=by rw[EO,if_neg (by rw[h];decide)]
theorem xA (b:Nat) (s:ByteArray) (w:Zw) (g:kz w b) :
  Calls prog 244 #[Zp (Zo ⟨b,0,Zn⟩),Zt s] w fun e j=>e=Zr (Zi Zk (t8 s:Nat))/\j=w:=by
 have m:Hid (kz w b):=g;clear g;go_in;go_wp2;go_loop [5] (fun i=>∃k:Nat,5<=k/\k<=44/\i=Zi Zk (k:Int)/\Hid (EO s k (44-k)=t8 s)) (fun i=>44-(intOf i).toNat);case atStart=>exact⟨5,om,om,rfl,rfl⟩
 case round=>
  obtain⟨k,n,l,rfl,a⟩:=hrel;by_cases h:k<44
  ·obtain⟨c0,-,-,-⟩:=m.out k h;have f:(k:Int)<=43:=om;cases hq:(km k==s) with
   | true=>
    have c:Hid (Ending.returned (Zi Zk (k:Int))=Zr (Zi Zk ((t8 s:Nat):Int))):=by show _=_;rw[<- a.out,show 44-k=(43-k)+1 by omega,B1 hq]
    have d:((km k).toList==s.toList)=true:=(js _ _).trans hq;clear hq a;go_wp2;go_ret;exact⟨c.out,rfl⟩
   | false=>
    have c:Hid (EO s (k+1) (44-(k+1))=t8 s):=by show _=_;rw[<- a.out,show 44-k=(44-(k+1))+1 by omega,F3 hq]
    have d:((km k).toList==s.toList)=false:=(js _ _).trans hq;clear hq a;go_wp2;go_round;case rel=>exact⟨k+1,om,om,by go_num,c⟩
    case measure=>simp[intOf];omega
  ·have f:¬(k:Int)<=43:=by omega
   have c:Hid (Ending.returned (Zi Zk (0:Int))=Zr (Zi Zk ((t8 s:Nat):Int))):=by show _=_;rw[<- a.out,show 44-k=0 by omega];rfl
   clear a;go_wp2;go_ret;exact⟨c.out,rfl⟩
theorem rG (b:Nat) (s:ByteArray) (w:Zw) (k:s.size<=maxLen) (i:kz w b) :
  Calls prog 228 #[Zp (Zo ⟨b,0,Zn⟩),Zt s] w fun e j=>e=Zr (.bool (ii s))/\j=w:=by
 have a:Hid (Calls prog 81 _ _ _):=k6 s w k;have d:Hid (Calls prog 244 _ _ _):=xA b s w i;have c:Hid (ii s=(gh s && (t8 s==0) && !(s==bs [121,101,115]) && !(s==bs [110,111]) && !(s==bs [101,110,100]))):=rfl;have m:=px s [121,101,115];have l:=px s [110,111];have n:=px s [101,110,100];generalize (s==bs [121,101,115])=b1 at *;generalize (s==bs [110,111])=b2 at *;generalize (s==bs [101,110,100])=b3 at *;clear i;cases hn:gh s with
 | false=>rw[hn]at a c;go_in;go_wp2_with fail;refine a.out.mono ?_;rintro e w1 ⟨rfl,rfl⟩;go_wp2;go_ret;exact⟨b6 (by rw[c.out];simp),rfl⟩
 | true=>
  rw[hn]at a c;by_cases g:t8 s=0
  ·have f:(t8 s==0)=true:=by simp[g]
   rw[f]at c;rw[g]at d;cases b1<;>cases b2<;>cases b3
   all_goals
    go_in
    go_wp2_with fail
    refine a.out.mono ?_
    rintro e w1 ⟨rfl,rfl⟩
    go_wp2_with fail
    refine d.out.mono ?_
    rintro e w1 ⟨rfl,rfl⟩
    go_wp2
    go_ret
    exact⟨b6 (by rw[c.out];rfl),rfl⟩
  ·have f:(t8 s==0)=false:=by simp[g]
   have h:(((t8 s:Nat):Int)==0)=false:=zE;rw[f]at c;go_in;go_wp2_with fail;refine a.out.mono ?_;rintro e w1 ⟨rfl,rfl⟩;go_wp2_with fail;refine d.out.mono ?_;rintro e w1 ⟨rfl,rfl⟩;go_wp2;go_ret;exact⟨b6 (by rw[c.out];simp),rfl⟩
theorem ny(op:Int)(w:Zw):Calls prog 37 #[Zi Zk op] w fun e c=>e=Zr (Zi .i32 (rP op))/\c=w:=by
 by_cases b:op<1;·go_in;go_wp2;go_ret;exact⟨fO (by unfold rP;rw[if_pos (.inl b)]),rfl⟩
 by_cases a:43<op;·go_in;go_wp2;go_ret;exact⟨fO (by unfold rP;rw[if_pos (.inr a)]),rfl⟩
 by_cases d:op<36;·go_in;go_wp2;go_ret;exact⟨fO (by unfold rP;rw[if_neg om,if_pos d]),rfl⟩
 ·go_in;go_wp2;go_ret;exact⟨fO (by unfold rP;rw[if_neg om,if_neg om]),rfl⟩
theorem D5(x y:ByteArray)(a c n:Int)(w:Zw):Calls prog 182 #[.agg #[Zt x,Zt y,Zi Zk a,Zi Zk c],Zi Zk n] w fun e g=>e=Zr (.bool (decide (a<=n/\n<=c)))/\Bw w g:=by
 have b:=(Below.refl w.heap.size w).alloc (Nat.le_refl _) (Zc #[Zt x,Zt y,Zi Zk a,Zi Zk c] 174);by_cases f:a<=n<;>by_cases d:n<=c;all_goals
  go_in
  go_wp2
  go_ret
  exact⟨b6 (by simp[f,d];try omega),b⟩
theorem oh (s m:Int) (x:ByteArray) (d a2:Option Addr) (b f a c:Nat) (w:Zw):Calls prog 181 #[.agg #[Zi Zk s,Zi Zk m,Zt x,Zs d b a,Zs a2 f c]] w
  fun e g=>e=Zr (.agg #[Zi Zk s,Zi Zk m,Zt x,Zs Zn 0 0,Zs Zn 0 0])/\Bw w g:=by
 have h:Bw w ((w.alloc (Zc #[Zi Zk s,Zi Zk m,Zt x,Zs d b a,Zs a2 f c] 40)).alloc (Zc #[Zi Zk s,Zi Zk m,Zt x,Zs Zn 0 0,Zs Zn 0 0] 164)):=
  (gF _ _).alloc zS _
 go_in;go_wp2_with fail;refine bodyPost_ret (v:=.agg #[Zi Zk s,Zi Zk m,Zt x,Zs Zn 0 0,Zs Zn 0 0]) (by simp[results,results181,go_sem]) rfl ?_;exact⟨rfl,h⟩
theorem qe(k:Nat)(h:k<44):k=0∨k=1∨k=2∨k=3∨k=4∨k=5∨k=6∨k=7∨k=8∨k=9∨k=10∨k=11∨k=12∨k=13∨k=14∨k=15∨k=16∨k=17∨k=18∨k=19∨k=20∨k=21∨k=22∨k=23∨k=24∨k=25∨k=26∨k=27∨k=28∨k=29∨k=30∨k=31∨k=32∨k=33∨k=34∨k=35∨k=36∨k=37∨k=38∨k=39∨k=40∨k=41∨k=42∨k=43:=by omega
def Ig(k:Nat):List UInt8:=(lA k).map (fun v=>if v=65 then 97 else 118)
def Gq(k:Nat):Nat:=((iM k).filter (fun p=>p==78 || p==88)).length
def Ac(k:Nat):Bool:=(iM k).contains 88
theorem wV(k:Nat)(a:k<44)(w:Zw):Calls prog 142 #[Zi Zk (k:Int)] w fun e b=>e=Zr (Zi Zk (Gq k:Nat))/\b=w:=by
 rcases qe k a with rfl|rfl|rfl|rfl|rfl|rfl|rfl|rfl|rfl|rfl|rfl|rfl|rfl|rfl|rfl|rfl|rfl|rfl|rfl|rfl|rfl|rfl|rfl|rfl|rfl|rfl|rfl|rfl|rfl|rfl|rfl|rfl|rfl|rfl|rfl|rfl|rfl|rfl|rfl|rfl|rfl|rfl|rfl|rfl;all_goals
  go_in
  go_wp2
  go_ret
  exact⟨fO zC,rfl⟩
theorem vC(k:Nat)(a:k<44)(w:Zw):Calls prog 143 #[Zi Zk (k:Int)] w fun e b=>e=Zr (.bool (Ac k))/\b=w:=by
 rcases qe k a with rfl|rfl|rfl|rfl|rfl|rfl|rfl|rfl|rfl|rfl|rfl|rfl|rfl|rfl|rfl|rfl|rfl|rfl|rfl|rfl|rfl|rfl|rfl|rfl|rfl|rfl|rfl|rfl|rfl|rfl|rfl|rfl|rfl|rfl|rfl|rfl|rfl|rfl|rfl|rfl|rfl|rfl|rfl|rfl;all_goals
  go_in
  go_wp2
  go_ret
  exact⟨gd zC,rfl⟩
def Di(k:Nat):List UInt8:=if k=24 then [118,118] else Ig k
theorem rr(k:Nat)(f:k<44)(w:Zw):Calls prog 91 #[Zi Zk (k:Int)] w fun e d=>e=Zr (Zt (bs (Di k)))/\d=w:=by
 have c:Hid (∀x a b w,Calls prog 58 #[Zi Zk x,Zi Zk a,Zi Zk b] w _):=fun x a b w=>iY x a b w;rcases qe k f with rfl|rfl|rfl|rfl|rfl|rfl|rfl|rfl|rfl|rfl|rfl|rfl|rfl|rfl|rfl|rfl|rfl|rfl|rfl|rfl|rfl|rfl|rfl|rfl|rfl|rfl|rfl|rfl|rfl|rfl|rfl|rfl|rfl|rfl|rfl|rfl|rfl|rfl|rfl|rfl|rfl|rfl|rfl|rfl;all_goals
  go_in
  go_wp2_with fail
  first
   | (go_ret;exact⟨jG rfl,rfl⟩)
   | (refine (c.out _ _ _ _).mono ?_
      rintro e w1 ⟨rfl,rfl⟩
      go_wp2
      go_ret
      exact⟨jG rfl,rfl⟩)
def wH(a:Bool)(l:List ByteArray)(i:Nat):Bool:=gh (l.getD i ByteArray.empty) && (!a || ii (l.getD i ByteArray.empty)) && !(decide (0<i) && (l.getD i ByteArray.empty==l.getD 0 ByteArray.empty))
def jW(a:Bool)(l:List ByteArray)(j:Nat):Bool:=(List.range j).all (wH a l)
theorem De(a:Bool)(l:List ByteArray)(k:Nat):jW a l (k+1)=(jW a l k && wH a l k):=by simp[jW,List.range_succ]
theorem AA(a:Bool)(l:List ByteArray)(k j:Nat)(h:k<j)(b:wH a l k=false):jW a l j=false:=by unfold jW;rw[List.all_eq_false];exact⟨k,List.mem_range.2 h,by simp[b]⟩
def od{α:Type}(n:Nd α)(a:List UInt8):Bool:=
 match a with
 | [84]=>gS n.sort n.num n.text [] 0
 | [75]=>(n.num==0) && jK n.text
 | [35]=>decide (lst n.sort.toNat<=n.num/\n.num<=tX n.sort.toNat) && n.text.toList.isEmpty
 | [78,35]=>decide (lst n.sort.toNat<=n.num/\n.num<=tX n.sort.toNat) && n.text.toList.isEmpty
 | _=>(n.num==0) && n.text.toList.isEmpty
theorem Cu(a:ByteArray)(h:ii a=true):gh a=true:=by simp only[ii,Zq]at h;exact h.1.1.1.1
theorem zJ(b:Bool)(a:ByteArray):jW b [a] 1=(gh a && (!b || ii a)):=by simp[jW,wH,List.range_succ]
theorem wN(a:ByteArray):(gh a && (!true || ii a))=ii a:=by
 cases h:ii a with
 | false=>simp
 | true=>rw[Cu a h];rfl
theorem Is(a b:ByteArray):jW true [a,b] 2=(ii a && ii b && !(b==a)):=by
 have e:jW true [a,b] 2=((gh a && (!true || ii a)) && ((gh b && (!true || ii b)) && !(b==a))):=by simp[jW,wH,List.range_succ]
 rw[e,wN,wN,Bool.and_assoc]
theorem Ho(n:Nd α)(k:Nat)(h:k<44)(f:k≠24):gy n (iM k)=((n.names.length==Gq k) && jW (Ac k) n.names n.names.length && od n (iM k)):=by
 have i:∀g,jW g n.names 0=true:=fun _=>rfl;unfold Gq Ac;rcases (nh k h).resolve_left f with e|e|e|e|e|e|e|e;all_goals rw[e]
 ·cases hn:n.names with
  | nil=>simp[gy,od,hn,jW]
  | cons a q=>simp[gy,hn];omega
 ·cases hn:n.names with
  | nil=>simp[gy,od,hn,jW]
  | cons a q=>simp[gy,hn];omega
 ·cases hn:n.names with
  | nil=>simp[gy,od,hn,jW]
  | cons a q=>simp[gy,hn];omega
 ·cases hn:n.names with
  | nil=>simp[gy,od,hn,jW]
  | cons a q=>simp[gy,hn];omega
 ·match hn:n.names with
  | []=>simp[gy,hn]
  | [a]=>
   have d:jW (([88]:List UInt8).contains 88) [a] 1=ii a:=by rw[zJ];exact wN a
   simp only[gy,od,hn,List.length_singleton];rw[show (List.filter (fun p:UInt8=>p==78 || p==88) [88]).length=1 from rfl,d];simp[Bool.and_comm]
  | a :: b :: q=>simp[gy,hn]
 ·match hn:n.names with
  | []=>simp[gy,hn]
  | [a]=>
   have d:jW (([78]:List UInt8).contains 88) [a] 1=gh a:=by rw[zJ];simp
   simp only[gy,od,hn,List.length_singleton];rw[show (List.filter (fun p:UInt8=>p==78 || p==88) [78]).length=1 from rfl,d];simp[Bool.and_comm]
  | a :: b :: q=>simp[gy,hn]
 ·match hn:n.names with
  | []=>simp[gy,hn]
  | [a]=>simp[gy,hn]
  | [a,b]=>have d:jW (([88,88]:List UInt8).contains 88) [a,b] 2=(ii a && ii b && !(b==a)):=Is a b;simp only[gy,od,hn,List.length_cons,List.length_nil];rw[show (List.filter (fun p:UInt8=>p==78 || p==88) [88,88]).length=2 from rfl,d];simp[Bool.and_comm]
  | a :: b :: c :: q=>simp[gy,hn]
 ·match hn:n.names with
  | []=>simp[gy,hn]
  | [a]=>
   have d:jW (([78,35]:List UInt8).contains 88) [a] 1=gh a:=by rw[zJ];simp
   simp only[gy,od,hn,List.length_singleton];rw[show (List.filter (fun p:UInt8=>p==78 || p==88) [78,35]).length=1 from rfl,d];simp[Bool.and_comm]
  | a :: b :: q=>simp[gy,hn]
def iV{α:Type}(n:Nd α)(a:Bool):Bool:=
 decide (1<=n.sort/\n.sort<=43) && (a==decide (36<=n.sort)) &&
  (if n.sort=24 then (n.num==0) && n.text.toList.isEmpty && gW n.names && (n.names.length==n.kids.length) && !(n.names.any (fun y=>y==bs [101,110,100]))
   else (n.kids.length==(lA n.sort.toNat).length) && gy n (iM n.sort.toNat))
def io(k i:Nat):Bool:=decide (k≠24) && ((Ig k).getD i 0==97)
theorem Io(op:Int)(h:1<=op/\op<=43):rP op=if 36<=op then 65 else 86:=by
 unfold rP;rw[if_neg om];by_cases a:op<36;·rw[if_pos a,if_neg om]
 ·rw[if_neg a,if_pos om]
theorem Ax (a:α->Int) (n:Nd α) (c:Bool) :
  (iV n c && (n.kids.zipIdx.all fun x=>a x.1==(if io n.sort.toNat x.2=true then 65 else 86)))=(iu a n && (c==decide (36<=n.sort))):=by
 by_cases o:1<=n.sort/\n.sort<=43;case neg=>
  have l:iV n c=false:=by unfold iV;rw[decide_eq_false o];rfl
  have j:iu a n=false:=by unfold iu;rw[decide_eq_false o];rfl
  rw[l,j];rfl
 unfold iV;rw[decide_eq_true o,Bool.true_and];cases ha:(c==decide (36<=n.sort)) with
 | false=>simp
 | true=>
  rw[Bool.and_true,Bool.true_and];by_cases b:n.sort=24
  ·rw[if_pos b,lN a n b,b,show (24:Int).toNat=24 from rfl];have B:(n.kids.zipIdx.all fun x=>a x.1==(if io 24 x.2=true then 65 else 86))=n.kids.all (fun x=>a x==86):=by
    have:∀i,io 24 i=false:=fun i=>by simp[io]
    simp only[this];rw[Bool.eq_iff_iff,ZC,ZC];constructor;·intro h x g;obtain⟨i,hi,rfl⟩:=List.getElem_of_mem g;exact h (n.kids[i],i) (by rw[List.mem_zipIdx_iff_getElem?];simp[hi])
    ·intro h x g;have:=List.mem_zipIdx g;exact h x.1 (by rw[this.2.2];exact Zg _)
   rw[B];unfold iH;by_cases m:n.names.length=n.kids.length
   ·have f:(n.names.length==n.kids.length)=true:=by simp[m]
    rw[f];have w:iN a n n.names.length=(gW n.names && !(n.names.any (fun y=>y==bs [101,110,100])) && n.kids.all (fun x=>a x==86)):=by
     rw[Bool.eq_iff_iff];simp only[iN,gW,iQ,Zq,ZC,List.mem_range,Bool.not_eq_true',List.any_eq_false,kA];constructor
     ·intro h;refine⟨⟨fun i hi=>(h i hi).1.1,fun y A=>?_⟩,fun x g=>?_⟩;·obtain⟨i,hi,rfl⟩:=List.getElem_of_mem A;have:=(h i hi).1.2;simp only[List.getD_eq_getElem?_getD,List.getElem?_eq_getElem hi,Option.getD_some]at this;rw[this];decide
      ·obtain⟨i,hi,rfl⟩:=List.getElem_of_mem g;have:=(h i om).2;simpa [List.getD_eq_getElem?_getD,hi] using this
     ·rintro ⟨⟨l,j⟩,C⟩ i hi;have q:i<n.kids.length:=om;refine⟨⟨l i hi,?_⟩,?_⟩;·have:=j n.names[i] (Zg hi);simp only[List.getD_eq_getElem?_getD,List.getElem?_eq_getElem hi,Option.getD_some];simpa using this
      ·have:=C n.kids[i] (Zg q);simpa [List.getD_eq_getElem?_getD,q] using this
    rw[w];cases (n.num==0)<;>cases n.text.toList.isEmpty<;>cases gW n.names<;>cases (n.names.any (fun y=>y==bs [101,110,100]))<;>cases n.kids.all (fun x=>a x==86)<;>rfl
   ·have f:(n.names.length==n.kids.length)=false:=by simp[m]
    rw[f];simp
  ·rw[if_neg b,mx a n o.1 o.2 b];have u:n.sort.toNat<44:=om;have p:n.sort.toNat≠24:=om;generalize n.sort.toNat=k at *;have t:((n.kids.length==(lA k).length) && (n.kids.zipIdx.all fun x=>a x.1==(if io k x.2=true then 65 else 86)))=decide (n.kids.map a=(lA k).map (fun v=>(v.toNat:Int))):=by
    have d:∀i (h:i<(lA k).length),(if io k i=true then (65:Int) else 86)=(((lA k)[i]).toNat:Int):=by
     intro i hi;have z:=tP k _ (Zg hi);have s:(Ig k).getD i 0=if (lA k)[i]=65 then 97 else 118:=by unfold Ig;simp[List.getD_eq_getElem?_getD,hi]
     unfold io;rw[s,decide_eq_true p];rcases z with e|e<;>rw[e]<;>rfl
    rw[Bool.eq_iff_iff,decide_eq_true_eq,Zq,ZC,beq_iff_eq];constructor
    ·rintro ⟨m,h⟩;apply List.ext_getElem;·simpa using m
     ·intro i l j;simp only[List.length_map]at l j;have:=h (n.kids[i],i) (by rw[List.mem_zipIdx_iff_getElem?];simp[l]);simp only[beq_iff_eq]at this;rw[List.getElem_map,List.getElem_map,this,d i j]
    ·intro h;have m:n.kids.length=(lA k).length:=by simpa using congrArg List.length h
     refine⟨m,fun x g=>?_⟩;have s:=List.mem_zipIdx g;have hi:x.2<n.kids.length:=om;have e:(n.kids.map a)[x.2]?=((lA k).map (fun v=>(v.toNat:Int)))[x.2]?:=by rw[h]
     simp only[List.getElem?_map,List.getElem?_eq_getElem hi,List.getElem?_eq_getElem (show x.2<(lA k).length by omega),Option.map_some,Option.some.injEq]at e;have r:x.1=n.kids[x.2]:=by simpa using s.2.2
     rw[r,e,d x.2 om];simp
   rw[<- t];cases (n.kids.length==(lA k).length)<;>cases gy n (iM k)<;>simp
def kK:(m:Nat)->T m->Bool->Int->Bool
 | 0,_,_,_=>false
 | m+1,t,act,d=>decide (d<=24) && iV (show Nd (T m) from t) act && ((Nd.kids t).zipIdx.all fun x=>kK m x.1 (io (Nd.sort t).toNat x.2) (d+1))
theorem Fx:∀(m:Nat)(t:T m)(a:Bool)(d:Int),kK m t a d=(gD m t d && (a==decide (36<=pU m t))):=by
 intro m;induction m with
 | zero=>intro t a d;rfl
 | succ m o=>
  intro t a d;obtain⟨n,l⟩:∃n:Nd (T m),n=t:=⟨t,rfl⟩;have w:kK (m+1) t a d=(decide (d<=24) && iV n a && (n.kids.zipIdx.all fun x=>kK m x.1 (io n.sort.toNat x.2) (d+1))):=by rw[l];rfl
  have s:gD (m+1) t d=(decide (d<=24) && iu (jT m) n && n.kids.all (fun k=>gD m k (d+1))):=by rw[l];rfl
  have y:pU (m+1) t=n.sort:=by rw[l];rfl
  rw[w,s,y];have z:=Ax (jT m) n a;have f:(n.kids.zipIdx.all fun x=>kK m x.1 (io n.sort.toNat x.2) (d+1))=(n.kids.all (fun k=>gD m k (d+1)) && (n.kids.zipIdx.all fun x=>io n.sort.toNat x.2==decide (36<=pU m x.1))):=by
   rw[Bool.eq_iff_iff,Zq,ZC,ZC,ZC];constructor
   ·intro h;refine⟨fun k f=>?_,fun x b=>?_⟩;·obtain⟨i,hi,rfl⟩:=List.getElem_of_mem f;have:=h (n.kids[i],i) (by rw[List.mem_zipIdx_iff_getElem?];simp[hi]);rw[o,Zq]at this;exact this.1
    ·have:=h x b;rw[o,Zq]at this;exact this.2
   ·rintro ⟨q,p⟩ x b;rw[o,Zq];have:=List.mem_zipIdx b;exact⟨q x.1 (by rw[this.2.2];exact Zg _),p x b⟩
  have v:(n.kids.all (fun k=>gD m k (d+1)) && (n.kids.zipIdx.all fun x=>io n.sort.toNat x.2==decide (36<=pU m x.1)))=(n.kids.all (fun k=>gD m k (d+1)) && (n.kids.zipIdx.all fun x=>jT m x.1==(if io n.sort.toNat x.2=true then 65 else 86))):=by
   cases hg:n.kids.all (fun k=>gD m k (d+1)) with
   | false=>rfl
   | true=>
    rw[Bool.true_and,Bool.true_and,Bool.eq_iff_iff,ZC,ZC];rw[ZC]at hg;have e:∀x,x∈n.kids.zipIdx->((io n.sort.toNat x.2==decide (36<=pU m x.1))=true↔(jT m x.1==(if io n.sort.toNat x.2=true then 65 else 86))=true):=by
     intro x b;have u:=List.mem_zipIdx b;have c:=hg x.1 (by rw[u.2.2];exact Zg _);have r:1<=pU m x.1/\pU m x.1<=43:=by
      cases m with
      | zero=>simp[gD]at c
      | succ m=>simp only[gD,Zq]at c;have:=c.1.2;unfold iu at this;simp only[Zq,decide_eq_true_eq]at this;exact this.1
     have g:=Io _ r;unfold jT;rw[g];cases io n.sort.toNat x.2<;>by_cases j:36<=pU m x.1<;>simp[j]
    exact⟨fun h x b=>(e x b).1 (h x b),fun h x b=>(e x b).2 (h x b)⟩
  rw[f,v];cases decide (d<=24) with
  | false=>rfl
  | true=>rw[Bool.true_and,Bool.true_and];rw[<- Bool.and_assoc,Bool.and_comm (iV n a),Bool.and_assoc,z];cases iu (jT m) n<;>cases n.kids.all (fun k=>gD m k (d+1))<;>cases (a==decide (36<=n.sort))<;>rfl
end Go.Proofs.YtcfojmaccikgeaaGreatDoor
