import Derived.Test.YtelogmjfekhmpaaGreatDoorB6
import Derived.Test.YtelogmjfekhmpaaGreatDoorB1
import Derived.Lib.ItoaMem
import Derived.Deep.RegionWith
import Derived.Laws.IdiomStrings
import Derived.Test.YtelogmjfekhmpaaGreatDoorB7
namespace Go.Proofs.YtelogmjfekhmpaaGreatDoor
open Go.RowKit Go.Proofs.Tryz
def digC(c:UInt8):Bool:=decide (48<=(c.toNat:Int)/\(c.toNat:Int)<=57)
def qcD(l:List UInt8):Nat:=l.foldl (fun a c=>a*10+(c.toNat-48)) 0
theorem xaN(d:Nat)(h:d<10):(UInt8.ofNat (48+d)).toNat=48+d:=by
 rw[UInt8.toNat_ofNat'];omega
theorem qcH(u:Nat):∀c,c∈Lib.decDigits u->digC c=true:=by
 induction u using Nat.strongRecOn with
 | _ u ih=>
  intro c a
  rw[Lib.decDigits]at a
  split at a
  ·next h=>
   rw[List.mem_singleton]at a;subst a
   have:=xaN u h
   simp only[digC,this,decide_eq_true_eq];omega
  ·next h=>
   rcases List.mem_append.1 a with a|a
   ·exact ih (u / 10) (by omega) c a
   ·rw[List.mem_singleton]at a;subst a
    have:=xaN (u % 10) (by omega)
    simp only[digC,this,decide_eq_true_eq];omega
theorem qfP(u:Nat):Lib.decDigits u≠[]:=by
 rw[Lib.decDigits];split<;>simp
theorem qeQ(u:Nat):qcD (Lib.decDigits u)=u:=by
 induction u using Nat.strongRecOn with
 | _ u ih=>
  rw[Lib.decDigits]
  split
  ·next h=>simp[qcD];omega
  ·next h=>
   have a:=ih (u / 10) (by omega)
   unfold qcD at a ⊢
   rw[List.foldl_append,a]
   simp only[List.foldl_cons,List.foldl_nil,xaN (u % 10) (by omega)]
   omega
theorem quA:digC 45=false:=by decide
def noDig(s:List UInt8):Bool:=!(digC (s.headD 0))
def numW(s:List UInt8):List UInt8:=if s.head?=some 45 then 45 :: (s.drop 1).takeWhile digC else s.takeWhile digC
theorem qoF{s:List UInt8}(h:noDig s=true):∀c r,s=c :: r->digC c=false:=by
 intro c r e;subst e;simpa [noDig] using h
theorem xaO(m:Int)(post:List UInt8)(h:noDig post=true):numW (Lib.itoa m++post)=Lib.itoa m:=by
 unfold Lib.itoa
 split
 ·unfold numW
  rw[if_pos (by simp)]
  simp only[List.cons_append,List.drop_succ_cons,List.drop_zero]
  rw[qcR _ _ (qcH _) (qoF h)]
 ·unfold numW
  rw[if_neg,qcR _ _ (qcH _) (qoF h)]
  intro e
  cases hd:Lib.decDigits m.toNat with
  | nil=>exact qfP _ hd
  | cons c r=>
   rw[hd]at e
   have a:c=45:=by simpa using e
   have:=qcH m.toNat c (by rw[hd];exact List.mem_cons_self ..)
   rw[a,quA]at this;cases this
theorem qfY{p:UInt8->Bool}(s:List UInt8):s.takeWhile p++s.drop (s.takeWhile p).length=s:=by
 induction s with
 | nil=>rfl
 | cons c r ih=>
  rw[List.takeWhile_cons]
  split
  ·simpa using ih
  ·simp
theorem quB(s:List UInt8):numW s++s.drop (numW s).length=s:=by
 unfold numW
 split
 ·next h=>
  cases s with
  | nil=>simp at h
  | cons c r=>
   have:c=45:=by simpa using h
   subst this
   simpa using qfY (p:=digC) r
 ·exact qfY s
def valOf(w:List UInt8):Int:=if w.head?=some 45 then -(qcD (w.drop 1):Int) else (qcD w:Int)
theorem qxL(m:Int):valOf (Lib.itoa m)=m:=by
 unfold valOf Lib.itoa
 by_cases h:m<0
 ·rw[if_pos h]
  simp only[List.head?_cons,if_true,List.drop_succ_cons,List.drop_zero]
  rw[qeQ];omega
 ·rw[if_neg h]
  have a:¬(Lib.decDigits m.toNat).head?=some 45:=by
   intro e
   cases hd:Lib.decDigits m.toNat with
   | nil=>rw[hd]at e;cases e
   | cons c r=>
    rw[hd]at e
    have b:c=45:=by simpa using e
    have:=qcH m.toNat c (by rw[hd];exact List.mem_cons_self ..)
    rw[b,quA]at this
    cases this
  rw[if_neg a,qeQ];omega
def numOf(w:List UInt8):Option Int:=if (-999999999<=valOf w/\valOf w<=999999999)/\Lib.itoa (valOf w)=w then some (valOf w) else none
theorem qjU(m:Int)(h : -999999999<=m/\m<=999999999):numOf (Lib.itoa m)=some m:=by
 unfold numOf
 rw[qxL,if_pos ⟨h,rfl⟩]
theorem qdN{w:List UInt8}{m:Int}(h:numOf w=some m):(-999999999<=m/\m<=999999999)/\Lib.itoa m=w:=by
 unfold numOf at h
 split at h
 ·next hex=>cases h;exact hex
 ·cases h
set_option maxRecDepth 100000
set_option maxHeartbeats 16000000
theorem dig_byte(r:Nat)(h:r<10):IntKind.u8.wrap (48+(r:Int))=((UInt8.ofNat (48+r)).toNat:Int):=by
 have:(UInt8.ofNat (48+r)).toNat=48+r:=by simp;omega
 rw[this,IntKind.wrap_u8];omega
theorem xfR(w:World)(c:UInt8):(convert 90 9 (.slice (some ⟨w.heap.size,0,none⟩) 1 1)).run prog (w.alloc (.cells #[.int .u8 (c.toNat:Int)] 5))=.ok (.string (bs [c])) (w.alloc (.cells #[.int .u8 (c.toNat:Int)] 5)):=
 run_convert_bytes_back (P:=prog) _ 90 9 5 ⟨w.heap.size,0,none⟩ 1 [c] underlying90 underlying5 underlying9 (fun j hj=>by
  match j,hj with
  | 0,_=>simp[Addr.add])
theorem xiG(W:World)(N:Nat)(c:UInt8)(h:W.cell? ⟨N,0,none⟩=some (.int .u8 (c.toNat:Int))):(convert 90 9 (.slice (some ⟨N,0,none⟩) 1 1)).run prog W=.ok (.string (bs [c])) W:=
 run_convert_bytes_back (P:=prog) W 90 9 5 ⟨N,0,none⟩ 1 [c] underlying90 underlying5 underlying9 (fun j hj=>by
  match j,hj with
  | 0,_=>exact h)
theorem qrO(x:Int)(c:UInt8)(w:World)(h0:0<=x)(h1:x<10)(hc:Hid (48+x=(c.toNat:Int))):Calls prog 48 #[.int .i64 x] w fun e w'=>e=.returned (.string (bs [c]))/\Below w.heap.size w w':=by
 have a:Hid ((convert 90 9 (.slice (some ⟨w.heap.size,0,none⟩) 1 1)).run prog (w.alloc (.cells #[.int .u8 (48+x)] 5))=.ok (.string (bs [c])) (w.alloc (.cells #[.int .u8 (48+x)] 5))):=by
  show _=_
  rw[hc.out];exact xfR w c
 clear hc
 go_enter func48,ntmps48
 go_wp2_with fail
 rw[a.out]
 clear a
 go_wp2_with fail
 go_ret
 exact⟨rfl,(Below.refl _ _).alloc (Nat.le_refl _) _⟩
theorem qpI(r:Nat)(h:r<10):(48:Int)+(r:Int)=((UInt8.ofNat (48+r)).toNat:Int):=by
 have:(UInt8.ofNat (48+r)).toNat=48+r:=by simp;omega
 rw[this];omega
theorem qlP(m:Nat):∀(x:Nat)(w:World),x<=m->x<=999999999->Calls prog 48 #[.int .i64 (x:Int)] w fun e w'=>e=.returned (.string (bs (Lib.decDigits x)))/\Below w.heap.size w w':=by
 induction m with
 | zero=>
  intro x w t _
  rw[Lib.decDigits_one (by omega)]
  exact qrO x _ w (by omega) (by omega) (qpI x (by omega))
 | succ m ih=>
  intro x w t g
  by_cases h10:x<10
  ·rw[Lib.decDigits_one h10]
   exact qrO x _ w (by omega) (by omega) (qpI x h10)
  have d:Hid (Lib.decDigits x=Lib.decDigits (x / 10)++[UInt8.ofNat (48+x % 10)]):=by show _=_;rw[Lib.decDigits,dif_neg h10]
  have a:(Lib.decDigits (x / 10)).length<=21:=by
   have:=Lib.itoa_length_le ((x / 10:Nat):Int) (by omega) (by omega)
   rw[Lib.itoa_nonneg]at this;omega
  obtain⟨q,u⟩:∃q:Int,q=(x:Int) / 10:=⟨_,rfl⟩
  have h:Hid (∀W:World,Calls prog 48 #[.int .i64 ((x:Int) / 10)] W fun e w'=>e=.returned (.string (bs (Lib.decDigits (x / 10))))/\Below W.heap.size W w'):=fun W=>by
   have:=ih (x / 10) W (by omega) (by omega)
   rwa [show (((x / 10:Nat)):Int)=(x:Int) / 10 by omega]at this
  have i:∀(W:World)(N:Nat),W.cell? ⟨N,0,none⟩=some (.int .u8 (48+(x:Int) % 10))->(convert 90 9 (.slice (some ⟨N,0,none⟩) 1 1)).run prog W=.ok (.string (bs [UInt8.ofNat (48+x % 10)])) W:=fun W N hN=>by
   refine xiG W N (UInt8.ofNat (48+x % 10)) ?_
   rw[hN,<- qpI (x % 10) (by omega),show (((x % 10:Nat)):Int)=(x:Int) % 10 by omega]
  generalize UInt8.ofNat (48+x % 10)=c at *
  generalize Lib.decDigits (x / 10)=dl at *
  have j:(bs dl).size+(bs [c]).size<=9223372036854775807:=by rw[qaL,qaL];simp;omega
  have f:(bs dl).size<=21:=by rw[qaL];exact a
  have k:(bs [c]).size=1:=by rw[qaL];rfl
  have l:Hid (bs dl++bs [c]=bs (Lib.decDigits x)):=by show _=_;rw[d.out,qaS]
  clear d a
  have n:IntKind.i64.wrap ((x:Int) / 10)=(x:Int) / 10:=by rw[IntKind.wrap_i64];omega
  have o:IntKind.i64.wrap ((x:Int) % 10)=(x:Int) % 10:=by rw[IntKind.wrap_i64];omega
  have p:IntKind.i64.wrap (48+(x:Int) % 10)=48+(x:Int) % 10:=by rw[IntKind.wrap_i64];omega
  have r:IntKind.u8.wrap (48+(x:Int) % 10)=48+(x:Int) % 10:=by rw[IntKind.wrap_u8];omega
  have s:(x:Int).tmod 10=(x:Int) % 10:=Int.tmod_eq_emod_of_nonneg (by omega)
  clear ih u
  go_enter func48,ntmps48
  go_wp2_with fail
  go_region_with (go_at_call 48;refine (h.out _).mono ?_;rintro e y ⟨rfl,b⟩;obtain⟨v,-⟩:=bcell b)
  all_goals
   go_wp2_with fail
   go_ret
   refine⟨qdU l.out,?_⟩
  all_goals first
   | exact (qaA ((Below.refl _ w).drew) (Nat.le_refl _) b).alloc (by have:=b.size;simp at this ⊢;omega) _
   | exact qaA (((Below.refl _ w).drew).alloc (by simp) _) (by simp) b
   | exact qaA (((Below.refl _ w).alloc (Nat.le_refl _) _).drew) (by simp) b
theorem xaP(x:Int)(w:World)(h0 : -999999999<=x)(h1:x<=999999999):Calls prog 48 #[.int .i64 x] w fun e w'=>e=.returned (.string (bs (Lib.itoa x)))/\Below w.heap.size w w':=by
 by_cases hn:0<=x
 ·obtain⟨n,rfl⟩:=Int.eq_ofNat_of_zero_le hn
  rw[Lib.itoa_nonneg]
  exact qlP n n w (Nat.le_refl _) (by omega)
 ·obtain⟨n,h⟩:∃n:Nat,x = -(n:Int):=⟨x.natAbs,by omega⟩
  subst h
  have a:(Lib.decDigits n).length<=21:=by
   have:=Lib.itoa_length_le (n:Int) (by omega) (by omega)
   rw[Lib.itoa_nonneg]at this;omega
  have d:Hid (Calls prog 48 #[.int .i64 (n:Int)] w _):=qlP n n w (Nat.le_refl _) (by omega)
  have f:(bs (Lib.decDigits n)).size<=21:=by rw[qaL];exact a
  have g:Hid (bs [45]++bs (Lib.decDigits n)=bs (Lib.itoa (-(n:Int)))):=by show _=_;rw[Lib.itoa_neg n (by omega),qaS];rfl
  generalize Lib.decDigits n=dl at *
  have c:(-(n:Int))<0:=by omega
  go_enter func48,ntmps48
  go_wp2_with fail
  refine d.out.mono ?_
  rintro e i ⟨rfl,b⟩
  go_wp2_with fail
  go_ret
  exact⟨qdU g.out,b⟩
def qhJ(n:Nat):Prop:=∀(S:Nat->Prop)(t:T n)(c0 c1 c2 c3 c4:Value)(d:Int)(w:World),TreeIn S w n t c0 c1 c2 c3 c4->(∀b,S b->b<w.heap.size)->goodT n t d=true->cntT n t<=120 ->
 Calls prog 47 #[.agg #[c0,c1,c2,c3,c4]] w fun e w'=>e=.returned (.string (bs (txtL n t)))/\Below w.heap.size w w'
theorem xgE (m:Int) (x:ByteArray) (na ka:Option Addr) (nl nc kl kc:Nat) (w:World) (h0 : -999999999<=m) (h1:m<=999999999) :
  Calls prog 47 #[.agg #[.int .i64 1,.int .i64 m,.string x,.slice na nl nc,.slice ka kl kc]] w fun e w'=>e=.returned (.string (bs (Lib.itoa m)))/\Below w.heap.size w w':=by
 have a:=(Below.refl w.heap.size w).alloc (Nat.le_refl _) (.cells #[.int .i64 1,.int .i64 m,.string x,.slice na nl nc,.slice ka kl kc] 67)
 go_enter func47,ntmps47
 go_wp2_with fail
 refine (xaP m _ h0 h1).mono ?_
 rintro e d ⟨rfl,b⟩
 have c:=qaA a (by simp) b
 clear a b
 go_wp2_with fail
 go_ret
 exact⟨rfl,c⟩
theorem xbW (m:Int) (x:ByteArray) (na ka:Option Addr) (nl nc kl kc:Nat) (w:World) (hx:x.size<=60) :
  Calls prog 47 #[.agg #[.int .i64 2,.int .i64 m,.string x,.slice na nl nc,.slice ka kl kc]] w fun e w'=>e=.returned (.string (bs (34 :: x.data.toList++[34])))/\Below w.heap.size w w':=by
 have a:Hid (bs [34]++x++bs [34]=bs (34 :: x.data.toList++[34])):=by
  show _=_
  rw[<- bs_of x,qaS,qaS,qcB];rfl
 have b:(bs [34]).size=1:=by rw[qaL];rfl
 go_enter func47,ntmps47
 go_wp2_with fail
 go_ret
 exact⟨qdU a.out,(Below.refl _ _).alloc (Nat.le_refl _) _⟩
theorem xbX (m:Int) (x:ByteArray) (na ka:Option Addr) (nl nc kl kc:Nat) (w:World) :
  Calls prog 47 #[.agg #[.int .i64 3,.int .i64 m,.string x,.slice na nl nc,.slice ka kl kc]] w fun e w'=>e=.returned (.string (bs (if m=1 then [121,101,115] else [110,111])))/\Below w.heap.size w w':=by
 by_cases hm:m=1
 ·subst hm
  go_enter func47,ntmps47
  go_wp2_with fail
  go_ret
  exact⟨rfl,(Below.refl _ _).alloc (Nat.le_refl _) _⟩
 ·rw[if_neg hm]
  have a:(m==1)=false:=by simpa using hm
  clear hm
  go_enter func47,ntmps47
  go_wp2_with fail
  go_ret
  exact⟨rfl,(Below.refl _ _).alloc (Nat.le_refl _) _⟩
theorem qyB (n:Nat) (hn:qhJ n) (S:Nat->Prop) (ks:List (T n)) (m:Int) (x:ByteArray) (na:Option Addr) (nl nc:Nat) (kv:Value) (d:Int) (w:World) (hr:RowIn S w (TreeIn S w n) ks kv) (hB:∀ b,S b->b<w.heap.size)
  (hg:ks.all (fun x=>goodT n x d)=true) (hc:1+sumL (fun x=>cntT n x) ks<=120) :
  Calls prog 47 #[.agg #[.int .i64 6,.int .i64 m,.string x,.slice na nl nc,kv]] w fun e w'=>e=.returned (.string (bs (qeZ (txtL n) ks)))/\Below w.heap.size w w':=by
 have t:=hr
 obtain⟨Q,cap,rfl,j,g⟩:=hr
 cases ks with
 | nil=>
  go_enter func47,ntmps47
  go_wp2_with fail
  go_ret
  exact⟨rfl,(Below.refl _ _).alloc (Nat.le_refl _) _⟩
 | cons k r=>
  obtain⟨b,c,rfl,v,q⟩:=g (by simp)
  obtain⟨E,F,G,H,I,y,z,A,B,C,o⟩:=q 0 (by simp)
  simp only[Nat.zero_mul,Nat.add_zero,List.getElem_cons_zero]at y z A B C o
  unfold maxLen at j
  simp only[List.length_cons]at j
  have a:=(Below.refl w.heap.size w).alloc (Nat.le_refl _) (.cells #[.int .i64 6,.int .i64 m,.string x,.slice na nl nc,.slice (some ⟨b,c,none⟩) (r.length+1) cap] 67)
  have f:=hB b v
  have J:=(a.cell (p:=⟨b,c,none⟩) f).trans y
  have f1:=(a.cell (p:=⟨b,c+1,none⟩) f).trans z
  have K:=(a.cell (p:=⟨b,c+2,none⟩) f).trans A
  have L:=(a.cell (p:=⟨b,c+3,none⟩) f).trans B
  have M:=(a.cell (p:=⟨b,c+4,none⟩) f).trans C
  have i:=o.keep (qaB a hB) (fun _ h=>h)
  simp only[List.all_cons,Bool.and_eq_true]at hg
  simp only[sumL]at hc
  have l:=qhC n k d hg.1
  have N:(bs (txtL n k)).size<=9840:=by rw[qaL];omega
  have O:Hid (bs [63]++bs (txtL n k)=bs (63 :: txtL n k)):=by show _=_;rw[qaS];rfl
  have P:(((r.length:Nat):Int)+1==0)=false:=by simp;omega
  have D:Hid (Calls prog 47 #[.agg #[E,F,G,H,I]] _ _):=hn S k E F G H I d _ i (fun b hb=>by have:=hB b hb;simp;omega) hg.1 (by omega)
  clear g q y z A B C o i t hg l hn
  rw[List.length_cons]
  go_enter func47,ntmps47
  go_wp2_with fail
  refine D.out.mono ?_
  rintro e R ⟨rfl,s⟩
  have u:=qaA a (by simp) s
  clear a s J f1 K L M D
  go_wp2_with fail
  go_ret
  exact⟨qdU O.out,u⟩
def soFar(parts:List (List UInt8))(k:Nat):ByteArray:=bs (joinL (parts.take k))
theorem qoI(parts:List (List UInt8))(k:Nat)(h:k<parts.length)(hk:¬k=0):soFar parts (k+1)=soFar parts k++bs [44]++bs parts[k]:=by
 unfold soFar;rw[qcC _ _ h,if_neg hk,qaS,qaS]
theorem qlZ(parts:List (List UInt8))(h:0<parts.length):soFar parts (0+1)=bs []++bs parts[0]:=by
 unfold soFar;rw[qcC _ _ h,if_pos rfl,qaS]
theorem xbY (n:Nat) (hn:qhJ n) (S:Nat->Prop) (ks:List (T n)) (m:Int) (x:ByteArray) (na:Option Addr) (nl nc:Nat) (kv:Value) (d:Int) (w:World) (hr:RowIn S w (TreeIn S w n) ks kv) (hB:∀ b,S b->b<w.heap.size)
  (hg:ks.all (fun x=>goodT n x d)=true) (hc:1+sumL (fun x=>cntT n x) ks<=120) (hjl:(joinL (ks.map (txtL n))).length<=9840) :
  Calls prog 47 #[.agg #[.int .i64 4,.int .i64 m,.string x,.slice na nl nc,kv]] w fun e w'=>e=.returned (.string (bs (91 :: joinL (ks.map (txtL n))++[93])))/\Below w.heap.size w w':=by
 obtain⟨K,cap,rfl,F,l⟩:=hr
 unfold maxLen at F
 have A:=(Below.refl w.heap.size w).alloc (Nat.le_refl _) (.cells #[.int .i64 4,.int .i64 m,.string x,.slice na nl nc,.slice K ks.length cap] 67)
 have y:=Box5.new w (.int .i64 4) (.int .i64 m) (.string x) (.slice na nl nc) (.slice K ks.length cap) 67
 have aA:(w.alloc (.cells #[.int .i64 4,.int .i64 m,.string x,.slice na nl nc,.slice K ks.length cap] 67)).heap.size=w.heap.size+1:=by simp
 have B:Hid (∀k,(soFar (ks.map (txtL n)) k).size<=9840):=fun k=>by
  have:=qdA (ks.map (txtL n)) k
  unfold soFar;rw[qaL];omega
 have HG:Hid (∀k (h:k<ks.length),goodT n ks[k] d=true/\cntT n ks[k]<=120):=fun k h=>by
  refine⟨List.all_eq_true.1 hg _ (List.getElem_mem h),?_⟩
  have:=qcA (fun x=>cntT n x) ks _ (List.getElem_mem h)
  omega
 clear hg
 go_enter func47,ntmps47
 go_wp2_with fail
 generalize hW:w.alloc (.cells #[.int .i64 4,.int .i64 m,.string x,.slice na nl nc,.slice K ks.length cap] 67)=W at *
 clear hW
 go_loopw [3,4] (fun a i wr=>∃k:Nat,k<=ks.length/\i=.int .i64 k/\a=.string (soFar (ks.map (txtL n)) k)/\Below W.heap.size W wr) (fun _ i _=>ks.length-(intOf i).toNat)
 case atStart=>exact⟨0,Nat.zero_le _,rfl,rfl,Below.refl _ _⟩
 case round=>
  obtain⟨k,hk,rfl,rfl,g⟩:=hrel
  have L:=B.out k
  obtain⟨i0,U,i2,i3,i4⟩:=y.keep g
  have C:=g.size
  by_cases hlt:k<ks.length
  ·obtain⟨b,q,rfl,R,G⟩:=l (by intro h;rw[h]at hlt;simp at hlt)
   obtain⟨V,X,Y,Z,y4,e0,e1,e2,e3,e4,H⟩:=G k hlt
   have o:=hB b R
   have j:Below w.heap.size w wr:=qaA A (by omega) g
   have M:=(j.cell (p:=⟨b,q+k*5,none⟩) o).trans e0
   have f1:=(j.cell (p:=⟨b,q+k*5+1,none⟩) o).trans e1
   have N:=(j.cell (p:=⟨b,q+k*5+2,none⟩) o).trans e2
   have O:=(j.cell (p:=⟨b,q+k*5+3,none⟩) o).trans e3
   have P:=(j.cell (p:=⟨b,q+k*5+4,none⟩) o).trans e4
   have v:=H.keep (qaB j hB) (fun _ h=>h)
   have s:=HG.out k hlt
   have z:=qhC n ks[k] d s.1
   have aB:(bs (txtL n ks[k])).size<=9840:=by rw[qaL];omega
   have I:Hid (Calls prog 47 #[.agg #[V,X,Y,Z,y4]] wr _):=hn S ks[k] V X Y Z y4 d wr v (fun b hb=>by have:=hB b hb;omega) s.1 s.2
   have D:=B.out (k+1)
   have t:k<(ks.map (txtL n)).length:=by simpa using hlt
   have u:(ks.map (txtL n))[k]=txtL n ks[k]:=by simp
   clear l G e0 e1 e2 e3 e4 H v s z j
   rcases Nat.eq_zero_or_pos k with rfl|aE
   ·have Q:Hid (soFar (ks.map (txtL n)) (0+1)=bs []++bs (txtL n ks[0])):=by show _=_;rw[qlZ _ t,u]
    have J:Hid (soFar (ks.map (txtL n)) 0=bs []):=rfl
    clear D t u
    rw[Nat.zero_mul,Nat.add_zero]at M
    rw[Nat.zero_mul,Nat.add_zero]at f1 N O P
    rw[J.out]
    rw[J.out]at L
    generalize hac:bs []=acc at *
    generalize bs (txtL n ks[0])=tk at *
    clear hac
    go_wp2_with fail
    refine I.out.mono ?_
    rintro e w1 ⟨rfl,r⟩
    have c:=qaA g C r
    obtain⟨j0,j1,j2,j3,j4⟩:=y.keep c
    clear r I M f1 N O P i0 U i2 i3 i4
    go_wp2_with fail
    go_roundw
    case rel=>exact⟨0+1,by omega,by go_num,by rw[Q.out],c⟩
    case measure=>simp[intOf];omega
   ·have Q:Hid (soFar (ks.map (txtL n)) (k+1)=soFar (ks.map (txtL n)) k++bs [44]++bs (txtL n ks[k])):=by show _=_;rw[qoI _ _ t (by omega),u]
    have aC:decide ((0:Int)<(k:Int))=true:=decide_eq_true (by omega)
    clear D t u
    generalize soFar (ks.map (txtL n)) k=acc at *
    generalize bs (txtL n ks[k])=tk at *
    have aD:(acc++bs [44]).size<=9841:=by rw[ByteArray.size_append,qaL];simp;omega
    go_wp2_with fail
    refine I.out.mono ?_
    rintro e w1 ⟨rfl,r⟩
    have c:=qaA g C r
    obtain⟨j0,j1,j2,j3,j4⟩:=y.keep c
    clear r I M f1 N O P i0 U i2 i3 i4
    go_wp2_with fail
    go_roundw
    case rel=>exact⟨k+1,by omega,by go_num,by rw[Q.out];rfl,c⟩
    case measure=>simp[intOf];omega
  ·have E:k=ks.length:=by omega
   have J:Hid (bs [91]++soFar (ks.map (txtL n)) k++bs [93]=bs (91 :: joinL (ks.map (txtL n))++[93])):=by
    show _=_
    unfold soFar
    rw[E,<- List.length_map (f:=txtL n),List.take_length,qaS,qaS];rfl
   have j:Below w.heap.size w wr:=qaA A (by omega) g
   clear E l
   generalize soFar (ks.map (txtL n)) k=acc at *
   go_wp2_with fail
   go_ret
   exact⟨qdU J.out,j⟩
theorem xbZ (n:Nat) (hn:qhJ n) (S:Nat->Prop) (ks:List (T n)) (l:List ByteArray) (m:Int) (x:ByteArray) (na:Option Addr) (nc:Nat) (kv:Value) (d:Int) (w:World) (hl:StrsIn S w l (.slice na l.length nc)) (hll:l.length=ks.length) (hl8:∀ s,s∈l->s.size<=8) (hr:RowIn S w (TreeIn S w n) ks kv) (hB:∀ b,S b->b<w.heap.size)
  (hg:ks.all (fun x=>goodT n x d)=true) (hc:1+sumL (fun x=>cntT n x) ks<=120) (hjl:(joinL (zipL l (ks.map (txtL n)))).length<=9840) :
  Calls prog 47 #[.agg #[.int .i64 5,.int .i64 m,.string x,.slice na l.length nc,kv]] w fun e w'=>e=.returned (.string (bs (123 :: joinL (zipL l (ks.map (txtL n)))++[125])))/\Below w.heap.size w w':=by
 obtain⟨U,cap,rfl,K,o⟩:=hr
 obtain⟨no,aF,aB,-,L,j⟩:=hl
 cases aB
 unfold maxLen at K
 have E:=(Below.refl w.heap.size w).alloc (Nat.le_refl _) (.cells #[.int .i64 5,.int .i64 m,.string x,.slice na l.length nc,.slice U ks.length cap] 67)
 have B:=Box5.new w (.int .i64 5) (.int .i64 m) (.string x) (.slice na l.length nc) (.slice U ks.length cap) 67
 have aG:(w.alloc (.cells #[.int .i64 5,.int .i64 m,.string x,.slice na l.length nc,.slice U ks.length cap] 67)).heap.size=w.heap.size+1:=by simp
 have F:Hid (∀k,(soFar (zipL l (ks.map (txtL n))) k).size<=9840):=fun k=>by
  have:=qdA (zipL l (ks.map (txtL n))) k
  unfold soFar;rw[qaL];omega
 have HG:Hid (∀k (h:k<ks.length),goodT n ks[k] d=true/\cntT n ks[k]<=120):=fun k h=>by
  refine⟨List.all_eq_true.1 hg _ (List.getElem_mem h),?_⟩
  have:=qcA (fun x=>cntT n x) ks _ (List.getElem_mem h)
  omega
 have C:Hid (l.length=ks.length):=hll
 clear hg hll
 go_enter func47,ntmps47
 go_wp2_with fail
 generalize hW:w.alloc (.cells #[.int .i64 5,.int .i64 m,.string x,.slice na l.length nc,.slice U ks.length cap] 67)=W at *
 clear hW
 go_loopw [3,4] (fun a i wr=>∃k:Nat,k<=ks.length/\i=.int .i64 k/\a=.string (soFar (zipL l (ks.map (txtL n))) k)/\Below W.heap.size W wr) (fun _ i _=>ks.length-(intOf i).toNat)
 case atStart=>exact⟨0,Nat.zero_le _,rfl,rfl,Below.refl _ _⟩
 case round=>
  obtain⟨k,hk,rfl,rfl,g⟩:=hrel
  have V:=F.out k
  obtain⟨i0,i1,i2,i3,i4⟩:=B.keep g
  have G:=g.size
  by_cases hlt:k<ks.length
  ·obtain⟨b,u,rfl,aC,M⟩:=o (by intro h;rw[h]at hlt;simp at hlt)
   obtain⟨y0,y1,y2,y3,y4,e0,e1,e2,e3,e4,N⟩:=M k hlt
   have q:=hB b aC
   have f:Below w.heap.size w wr:=qaA E (by omega) g
   have X:=(f.cell (p:=⟨b,u+k*5,none⟩) q).trans e0
   have f1:=(f.cell (p:=⟨b,u+k*5+1,none⟩) q).trans e1
   have Y:=(f.cell (p:=⟨b,u+k*5+2,none⟩) q).trans e2
   have Z:=(f.cell (p:=⟨b,u+k*5+3,none⟩) q).trans e3
   have f4:=(f.cell (p:=⟨b,u+k*5+4,none⟩) q).trans e4
   have A:=N.keep (qaB f hB) (fun _ h=>h)
   have y:=HG.out k hlt
   have D:=qhC n ks[k] d y.1
   have aH:(bs (txtL n ks[k])).size<=9840:=by rw[qaL];omega
   have Q:Hid (Calls prog 47 #[.agg #[y0,y1,y2,y3,y4]] wr _):=hn S ks[k] y0 y1 y2 y3 y4 d wr A (fun b hb=>by have:=hB b hb;omega) y.1 y.2
   have H:=F.out (k+1)
   have r:k<l.length:=by rw[C.out];exact hlt
   obtain⟨nb,O,rfl,aD,P⟩:=j (by intro h;rw[h]at r;simp at r)
   have q0:=(f.cell (p:=⟨nb,O+k,none⟩) (hB nb aD)).trans (P k r)
   have aE:=hl8 l[k] (List.getElem_mem r)
   have t:k<(zipL l (ks.map (txtL n))).length:=by rw[qbN _ _ (by simpa using C.out)];simpa using hlt
   have z:bs (zipL l (ks.map (txtL n)))[k]=l[k]++bs [58]++bs (txtL n ks[k]):=by
    rw[qiG l (ks.map (txtL n)) k r (by simpa using hlt) t,List.getElem_map,<- bs_of l[k],qaS,qaS,qcB]
    simp
   clear o M e0 e1 e2 e3 e4 N A y D f j P L
   rcases Nat.eq_zero_or_pos k with rfl|aK
   ·have HS:Hid (soFar (zipL l (ks.map (txtL n))) (0+1)=bs []++(l[0]++bs [58]++bs (txtL n ks[0]))):=by show _=_;rw[qlZ _ t,z]
    have R:Hid (soFar (zipL l (ks.map (txtL n))) 0=bs []):=rfl
    clear H t z
    rw[Nat.zero_mul,Nat.add_zero]at X
    rw[Nat.zero_mul,Nat.add_zero]at f1 Y Z f4
    rw[R.out]
    rw[R.out]at V
    generalize hac:bs []=acc at *
    generalize bs (txtL n ks[0])=tk at *
    generalize l[0]=nm at *
    rw[Nat.add_zero]at q0
    have aA:(acc++nm).size<=9900:=by rw[ByteArray.size_append];omega
    have I:(acc++nm++bs [58]).size<=9901:=by rw[ByteArray.size_append,qaL];show _+1<=9901;omega
    clear hac
    go_wp2_with fail
    refine Q.out.mono ?_
    rintro e w1 ⟨rfl,v⟩
    have c:=qaA g G v
    obtain⟨j0,j1,j2,j3,j4⟩:=B.keep c
    clear v Q X f1 Y Z f4 i0 i1 i2 i3 i4
    go_wp2_with fail
    go_roundw
    case rel=>exact⟨0+1,by omega,by go_num,by rw[HS.out];exact congrArg Value.string (by rw[<- ByteArray.append_assoc,<- ByteArray.append_assoc];rfl),c⟩
    case measure=>simp[intOf];omega
   ·have HS:Hid (soFar (zipL l (ks.map (txtL n))) (k+1)=soFar (zipL l (ks.map (txtL n))) k++bs [44]++(l[k]++bs [58]++bs (txtL n ks[k]))):=by show _=_;rw[qoI _ _ t (by omega),z]
    have aI:decide ((0:Int)<(k:Int))=true:=decide_eq_true (by omega)
    clear H t z
    generalize soFar (zipL l (ks.map (txtL n))) k=acc at *
    generalize bs (txtL n ks[k])=tk at *
    generalize l[k]=nm at *
    have aA:(acc++bs [44]++nm).size<=9900:=by rw[ByteArray.size_append,ByteArray.size_append,qaL];show _+1+_<=9900;omega
    have I:(acc++bs [44]++nm++bs [58]).size<=9901:=by rw[ByteArray.size_append,qaL];show _+1<=9901;omega
    have aJ:(acc++bs [44]).size<=9841:=by rw[ByteArray.size_append,qaL];simp;omega
    go_wp2_with fail
    refine Q.out.mono ?_
    rintro e w1 ⟨rfl,v⟩
    have c:=qaA g G v
    obtain⟨j0,j1,j2,j3,j4⟩:=B.keep c
    clear v Q X f1 Y Z f4 i0 i1 i2 i3 i4
    go_wp2_with fail
    go_roundw
    case rel=>exact⟨k+1,by omega,by go_num,by rw[HS.out];exact congrArg Value.string (by rw[<- ByteArray.append_assoc,<- ByteArray.append_assoc];rfl),c⟩
    case measure=>simp[intOf];omega
  ·have J:k=ks.length:=by omega
   have R:Hid (bs [123]++soFar (zipL l (ks.map (txtL n))) k++bs [125]=bs (123 :: joinL (zipL l (ks.map (txtL n)))++[125])):=by
    show _=_
    unfold soFar
    have e:ks.length=(zipL l (ks.map (txtL n))).length:=by rw[qbN _ _ (by simpa using C.out)];simp
    rw[J,e,List.take_length,qaS,qaS];rfl
   have f:Below w.heap.size w wr:=qaA E (by omega) g
   clear J o j L
   generalize soFar (zipL l (ks.map (txtL n))) k=acc at *
   go_wp2_with fail
   go_ret
   exact⟨qdU R.out,f⟩
theorem xcA(n:Nat)(hn:qhJ n):qhJ (n+1):=by
 intro S t c0 c1 c2 c3 c4 d w k i g l
 have a:=qhC (n+1) t d g
 obtain⟨rfl,rfl,rfl,m,-,-,j,h⟩:=k
 obtain⟨na,o,rfl,-,-,-⟩:=id j
 obtain⟨p,q,f,-,-⟩:=id h
 simp only[goodT,Bool.and_eq_true]at g
 have b:qaO (Nd.sort t) (Nd.num t) (Nd.text t) (Nd.names t) (Nd.kids t).length=true:=g.1.2
 have e:1+sumL (fun x=>cntT n x) (Nd.kids t)<=120:=by simpa only[cntT] using l
 unfold qaO at b
 simp only[txtL]at a ⊢
 by_cases h1:Nd.sort t=1
 ·rw[if_pos h1]at b ⊢
  rw[h1,f]
  simp only[Bool.and_eq_true,decide_eq_true_eq]at b
  exact xgE _ _ _ _ _ _ _ _ w b.1.1.1.1 b.1.1.1.2
 rw[if_neg h1]at b a ⊢
 by_cases h2:Nd.sort t=2
 ·rw[if_pos h2]at b ⊢
  rw[h2,f]
  simp only[Bool.and_eq_true,textB,decide_eq_true_eq]at b
  exact xbW _ _ _ _ _ _ _ _ w b.1.1.2.1
 rw[if_neg h2]at b a ⊢
 by_cases h3':Nd.sort t=3
 ·rw[if_pos h3']
  rw[h3',f]
  exact xbX _ _ _ _ _ _ _ _ w
 rw[if_neg h3']at b a ⊢
 by_cases h6:Nd.sort t=6
 ·rw[if_pos h6]
  rw[h6]
  exact qyB n hn S (Nd.kids t) _ _ _ _ _ _ (d+1) w h i g.2 e
 rw[if_neg h6]at a ⊢
 by_cases h5:Nd.sort t=5
 ·have c:¬Nd.sort t=4:=by omega
  rw[if_neg c,if_pos h5]at b
  rw[if_pos h5]at a ⊢
  rw[h5]
  simp only[Bool.and_eq_true,beq_iff_eq]at b
  simp only[List.length_append,List.length_cons,List.length_nil]at a
  exact xbZ n hn S (Nd.kids t) (Nd.names t) _ _ _ _ _ (d+1) w j (by omega) (qeY _ b.2) h i g.2 e (by omega)
 rw[if_neg h5]at a ⊢
 have c:Nd.sort t=4:=by
  by_cases c:Nd.sort t=4
  ·exact c
  ·rw[if_neg c,if_neg h5,if_neg h6]at b;cases b
 rw[c]
 simp only[List.length_append,List.length_cons,List.length_nil]at a
 exact xbY n hn S (Nd.kids t) _ _ _ _ _ _ (d+1) w h i g.2 e (by omega)
theorem qoJ:∀n,qhJ n:=by
 intro n
 induction n with
 | zero=>intro S t c0 c1 c2 c3 c4 d w a;exact a.elim
 | succ n ih=>exact xcA n ih
def textF(n:Nat)(t:T n):ByteArray:=if okT n t=true then bs (txtL n t) else bs []
theorem quN{n:Nat}{t:T n}(h:okT n t=true):goodT n t 1=true/\cntT n t<=120:=by
 simpa only[okT,Bool.and_eq_true,decide_eq_true_eq] using h
end Go.Proofs.YtelogmjfekhmpaaGreatDoor
