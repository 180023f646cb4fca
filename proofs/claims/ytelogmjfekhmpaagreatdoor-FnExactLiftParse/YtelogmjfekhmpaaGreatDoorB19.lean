import Derived.Test.YtelogmjfekhmpaaGreatDoorB18
import Derived.Test.YtelogmjfekhmpaaGreatDoorB1
import Derived.Lib.AtoiAllCases
import Derived.Deep.RegionWith
namespace Go.Proofs.YtelogmjfekhmpaaGreatDoor
open Go.RowKit Go.Proofs.Tryz
set_option maxRecDepth 100000
set_option maxHeartbeats 16000000
theorem qmL:∀(D:List UInt8)(acc:Nat),(∀c,c∈D->digC c=true)->(acc+1)*10 ^ D.length<=1000000000000000000->Lib.parseUint10 acc D=.ok (D.foldl (fun a c=>a*10+(c.toNat-48)) acc):=by
 intro D
 induction D with
 | nil=>intro acc _ _;rfl
 | cons c r ih=>
  intro acc g h
  have e:=qfZ (g c (List.mem_cons_self ..))
  rw[List.length_cons,Nat.pow_succ]at h
  have i:1<=10 ^ r.length:=by have:=Nat.pow_le_pow_right (n:=10) (by decide) (Nat.zero_le r.length);simpa using this
  have b:(acc+1)*10*10 ^ r.length<=1000000000000000000:=by rw[Nat.mul_assoc,Nat.mul_comm 10];exact h
  have f:(acc+1)*10<=1000000000000000000:=Nat.le_trans (Nat.le_mul_of_pos_right _ i) b
  simp only[Lib.parseUint10,List.foldl_cons]
  rw[if_pos ⟨e.1,e.2⟩,if_neg (by omega),if_neg (by omega)]
  refine ih _ (fun d hd'=>g d (List.mem_cons_of_mem _ hd')) (Nat.le_trans (Nat.mul_le_mul_right _ ?_) b)
  omega
theorem qkR(u:Nat)(hu:u<=999999999):Lib.parseMag (Lib.decDigits u)=.ok u:=by
 unfold Lib.parseMag
 rw[if_neg (qfP u),qmL _ 0 (qcH u) ?_]
 ·exact congrArg _ (qeQ u)
 ·have a:(Lib.decDigits u).length<=9:=by rw[Lib.decDigits_length];exact qjV 8 u (by omega)
  exact Nat.le_trans (Nat.mul_le_mul_left (0+1) (Nat.pow_le_pow_right (by decide) a)) (by decide)
theorem qsP(m:Int)(h : -999999999<=m/\m<=999999999):Lib.atoiAll (Lib.itoa m)=.ok m:=by
 by_cases h0:m<0
 ·have a:Lib.itoa m=45 :: Lib.decDigits m.natAbs:=by unfold Lib.itoa;rw[if_pos h0]
  rw[a,Lib.atoiAll_minus,qkR _ (by omega)]
  simp only[Lib.signed]
  rw[if_neg (by omega)]
  congr 1;omega
 ·have a:Lib.itoa m=Lib.decDigits m.toNat:=by unfold Lib.itoa;rw[if_neg h0]
  obtain⟨c,r,e,b⟩:=qhU m.toNat
  have d:=qfZ b
  rw[a,e,Lib.atoiAll_plain c r (by omega) (by omega),<- e,qkR _ (by omega)]
  simp only[Lib.signless]
  rw[if_neg (by omega)]
  congr 1;omega
def RNPost(x:ByteArray)(w:World)(e:Ending)(w':World):Prop:=
 Below w.heap.size w w' /\ ((∃v,numOf x.data.toList=some v/\e=.returned (.tuple #[.int .i64 v,.bool true]))∨(numOf x.data.toList=none/\e=.returned (.tuple #[.int .i64 0,.bool false])))
theorem qjE{l:List UInt8}(h:∀v,Lib.atoiAll l≠.ok v):numOf l=none:=by
 cases hn:numOf l with
 | none=>rfl
 | some m=>
  obtain⟨a,b⟩:=qdN hn
  refine absurd ?_ (h m)
  rw[<- b];exact qsP m a
theorem qoR{l:List UInt8}{v:Int}(h:Lib.atoiAll l=.ok v)(hn:¬((-999999999<=v/\v<=999999999)/\Lib.itoa v=l)):numOf l=none:=by
 cases hm:numOf l with
 | none=>rfl
 | some m=>
  obtain⟨a,b⟩:=qdN hm
  rw[<- b,qsP m a]at h
  cases h
  exact absurd ⟨a,b⟩ hn
theorem qmM (B:Nat) (x:ByteArray) (w:World) (hL:LaidU B w) (hB:B<=w.heap.size) (hx:x.size<=10000) :
  Calls prog 86 #[.string x] w (RNPost x w):=by
 cases ha:Lib.atoiAll x.data.toList with
 | «syntax» =>
  obtain⟨l,p,c⟩:=hL.2.1
  have g:Hid (Calls prog 108 #[.string x] w _):=Tryz.strconv_Atoi_syntax_var x (by omega) ha l p w (c w (Below.refl _ _))
  have f:Hid (numOf x.data.toList=none):=qjE (fun v e=>by rw[ha]at e;cases e)
  clear hL ha c
  go_enter func86,ntmps86
  go_wp2_with fail
  refine g.out.mono ?_
  rintro e b ⟨N,rfl,-,-,m⟩
  go_wp2_with fail
  go_ret2
  exact⟨m,.inr ⟨f.out,rfl⟩⟩
 | range=>
  obtain⟨l,p,c⟩:=hL.2.2
  have g:Hid (Calls prog 108 #[.string x] w _):=Tryz.strconv_Atoi_range_var x (by omega) ha l p w (c w (Below.refl _ _))
  have f:Hid (numOf x.data.toList=none):=qjE (fun v e=>by rw[ha]at e;cases e)
  clear hL ha c
  go_enter func86,ntmps86
  go_wp2_with fail
  refine g.out.mono ?_
  rintro e b ⟨N,rfl,-,-,m⟩
  go_wp2_with fail
  go_ret2
  exact⟨m,.inr ⟨f.out,rfl⟩⟩
 | ok v=>
  have s:=Lib.atoiAll_bounds ha
  have g:Hid (Calls prog 108 #[.string x] w _):=Tryz.strconv_Atoi_ok x (by omega) v ha w
  have o:Hid (Lib.atoiAll x.data.toList=.ok v):=ha
  have q:Hid (∀ b,Below w.heap.size w b->Lib.TabIs prog b "internal/strconv.uint64pow10" .u64 Lib.pow10Tab):=fun b h1=>hL.1 b (h1.mono hB)
  clear hL ha
  by_cases c : -999999999<=v/\v<=999999999
  case neg=>
   have i:Hid (∀W,Calls prog 109 #[.int .i64 v] W fun e w'=>e=.returned (.bool false)/\w'=W):=fun W=>by
    have:=qgF v W
    rw[decide_eq_false c]at this
    exact this
   have f:Hid (numOf x.data.toList=none):=qoR o.out (fun h=>c h.1)
   clear c
   go_enter func86,ntmps86
   go_wp2_with fail
   refine g.out.mono ?_
   rintro e b ⟨rfl,d⟩
   have a:Below w.heap.size w b:=by
    rcases d with rfl|⟨t,rfl⟩
    ·exact Below.refl _ _
    ·exact Lib.bytesWorld_below _ _ _
   clear d g
   go_wp2_with (go_at_call 109;refine (i.out _).mono ?_;rintro e w' ⟨rfl,rfl⟩)
   go_ret2
   exact⟨a,.inr ⟨f.out,rfl⟩⟩
  case pos=>
   have i:Hid (∀W,Calls prog 109 #[.int .i64 v] W fun e w'=>e=.returned (.bool true)/\w'=W):=fun W=>by
    have:=qgF v W
    rw[decide_eq_true c]at this
    exact this
   have u:Hid (-999999999<=v/\v<=999999999):=c
   clear c
   go_enter func86,ntmps86
   go_wp2_with fail
   refine g.out.mono ?_
   rintro e b ⟨rfl,d⟩
   have a:Below w.heap.size w b:=by
    rcases d with rfl|⟨t,rfl⟩
    ·exact Below.refl _ _
    ·exact Lib.bytesWorld_below _ _ _
   have r:Hid (Calls prog 94 #[.int .i64 v] b fun e w'=>e=.returned (.string (bs (Lib.itoa v)))/\Below w.heap.size w w'):=by
    refine (Tryz.strconv_Itoa v (by omega) (by omega) b (q.out b a)).mono ?_
    rintro e w' ⟨rfl,k,os,rfl⟩
    exact⟨rfl,a.trans (Lib.below_grow _ _ a.size k os)⟩
   clear d g q a
   by_cases hq:Lib.itoa v=x.data.toList
   ·have j:((bs (Lib.itoa v)).toList==x.toList)=true:=by rw[hq,bs_of];simp
    have f:Hid (numOf x.data.toList=some v):=by show _=_;rw[<- hq];exact qjU v u.out
    clear hq
    generalize bs (Lib.itoa v)=y at *
    go_wp2_with (first|(go_at_call 109;refine (i.out _).mono ?_;rintro e w' ⟨rfl,rfl⟩)|(go_at_call 94;refine r.out.mono ?_;rintro e w2 ⟨rfl,n⟩))
    go_ret2
    exact⟨by assumption,.inl ⟨v,f.out,rfl⟩⟩
   ·have j:((bs (Lib.itoa v)).toList==x.toList)=false:=by
     rw[beq_eq_false_iff_ne]
     intro e
     apply hq
     rw[ByteArray.toList_eq,ByteArray.toList_eq,qcB]at e
     exact e
    have f:Hid (numOf x.data.toList=none):=qoR o.out (fun h=>hq h.2)
    clear hq
    generalize bs (Lib.itoa v)=y at *
    go_wp2_with (first|(go_at_call 109;refine (i.out _).mono ?_;rintro e w' ⟨rfl,rfl⟩)|(go_at_call 94;refine r.out.mono ?_;rintro e w2 ⟨rfl,n⟩))
    go_ret2
    exact⟨by assumption,.inr ⟨f.out,rfl⟩⟩
theorem xjF {l:List UInt8} {b:Bool} {k:Nat} (hb:b=decide (l.head?=some 45)) (hall:∀ c,c∈((if b=true then l.drop 1 else l).take k)->digC c=true) (hk:(if b=true then 1 else 0)+k<=l.length)
  (hend:digC (((if b=true then l.drop 1 else l).drop k).headD 0)=false):numW l=l.take ((if b=true then 1 else 0)+k):=by
 unfold numW
 by_cases h:l.head?=some 45
 ·have:b=true:=by rw[hb];exact decide_eq_true h
  subst this
  simp only[if_true]at hall hend hk ⊢
  rw[if_pos h,qfU _ _ _ hall hend]
  cases l with
  | nil=>simp at h
  | cons c r=>
   have:c=45:=by simpa using h
   subst this
   rw[Nat.add_comm,List.take_succ_cons];rfl
 ·have:b=false:=by rw[hb];exact decide_eq_false h
  subst this
  simp only[Bool.false_eq_true,if_false]at hall hend hk ⊢
  rw[if_neg h,qfU _ _ _ hall hend,Nat.zero_add]
theorem xgU (m B R:Nat) (s:ByteArray) (i:Nat) (w:World) (hL:LaidU B w) (hBR:B<=R) (h:Sc w R s i) (hi:i<s.size) (hs:s.size<=10000) (hc:digC ((s.data.toList.drop i).headD 0)=true∨(s.data.toList.drop i).headD 0=45) :
  Calls prog 127 #[.pointer (some ⟨R,0,none⟩)] w (TRPost R s i (m+1) w):=by
 have hR:=h.lt
 have HP:Hid (_/\_):=pu_num (m:=m) hc
 have C:Hid (Sc w R s i):=h
 have K:Hid (LaidU B w):=hL
 have HW:Hid (Calls prog 155 #[.pointer (some ⟨R,0,none⟩),.string ⟨#[45]⟩] w _):=qdG w R s ⟨#[45]⟩ i h hs (by decide) (by omega)
 have c1:=h.c1
 have D:s.data.toList.drop i≠[]:=by
  intro e
  have:=congrArg List.length e
  simp at this;omega
 have HH:Hid ((s.data.toList.drop i).head?=some 45↔eatP [45] (s.data.toList.drop i)≠none):=by
  cases O:s.data.toList.drop i with
  | nil=>exact absurd O D
  | cons c r=>
   refine⟨fun e=>?_,fun e=>?_⟩
   ·have:c=45:=by simpa using e
    subst this
    rw[qaE];simp
   ·by_cases hcc:c=45
    ·simp[hcc]
    ·exact absurd (qdI _ _ _ hcc) e
 clear h hL hc D
 go_enter func127,ntmps127
 go_wp2_with fail
 refine HW.out.mono ?_
 intro e w1 I
 obtain⟨b,rfl,y,hF,HB⟩:∃b:Bool,e=.returned (.bool b)/\Scan R w w1 (i+if b=true then 1 else 0)/\i+(if b=true then 1 else 0)<=s.size/\Hid (b=decide ((s.data.toList.drop i).head?=some 45)):=by
  rcases I with ⟨n,rfl,X,h3⟩|⟨n,rfl,X⟩
  ·exact⟨true,rfl,X,h3,(decide_eq_true (HH.out.2 (by rw[show ([45]:List UInt8)=(⟨#[45]⟩:ByteArray).data.toList from rfl,n];simp))).symm⟩
  ·exact⟨false,rfl,X,by simp;omega,(decide_eq_false (fun e=>HH.out.1 e n)).symm⟩
 have L:Hid (s.data.toList.drop (i+if b=true then 1 else 0)=(if b=true then (s.data.toList.drop i).drop 1 else s.data.toList.drop i)):=by
  show _=_
  cases b<;>simp
 obtain⟨F,z⟩:∃F,F=i+(if b=true then 1 else 0):=⟨_,rfl⟩
 rw[<- z]at y hF L
 have aB:i<=F:=by omega
 have E:Hid (F=i+(if b=true then 1 else 0)):=z
 clear I HW z c1
 go_wp2_with fail
 go_loopw [40] (fun _ wr=>∃k:Nat,F+k<=s.size/\Scan R w wr (F+k)/\∀c,c∈(s.data.toList.drop F).take k->digC c=true) (fun _ wr=>s.size-atS wr R)
 case atStart=>exact⟨0,by omega,y,by simp⟩
 case round=>
  obtain⟨k,hk,A,f⟩:=hrel
  have HS:Hid (Scan R w wr (F+k)):=A
  have HA:Hid (atS wr R=F+k):=A.atS
  have o:=A.sc C.out
  have d0:=o.c0
  have d1:=o.c1
  have df:=o.f1
  have t:Hid (∀q,Scan R w ((wr.drewN q).setCell ⟨R,1,none⟩ (.int .i64 ((F+k:Nat)+1:Int))) (F+k+1)):=fun q=>by
   have:=(A.drewN q).trans (Scan.set ((A.drewN q).sc C.out) (F+k+1))
   rw[show ((F+k+1:Nat):Int)=((F+k:Nat):Int)+1 by omega]at this
   exact this
  clear A y o
  generalize hj:F+k=j at *
  have hw:IntKind.i64.wrap ((j:Int)+1)=(j:Int)+1:=by rw[IntKind.wrap_i64];omega
  have d:Hid (digC ((s.data.toList.drop j).headD 0)=false->∀ q,Calls prog 86 #[.string (s.extract i j)] (wr.drewN q).drew fun e w'=>∃ b v,e=.returned (.tuple #[.int .i64 v,.bool b]) /\
    Hid ((b=true->TRPost R s i (m+1) w (.returned (.iface 166 (.int .i64 v))) w')/\(b=false->TRPost R s i (m+1) w (.panicked refusal) w'))):=fun hend q=>by
   have G:numW (s.data.toList.drop i)=(s.data.toList.drop i).take (j-i):=by
    have:=xjF (k:=k) HB.out (by rw[<- L.out];exact f) (by simp;rw[E.out]at hj;omega) (by rw[<- L.out,List.drop_drop,hj];exact hend)
    rw[this];congr 1;rw[E.out]at hj;omega
   have M:s.extract i j=bs (numW (s.data.toList.drop i)):=by
    rw[G,show j=i+(j-i) by omega,qfX,show i+(j-i)-i=j-i by omega]
   have l:(numW (s.data.toList.drop i)).length=j-i:=by rw[G];simp;omega
   have p:Near R w (wr.drewN q).drew:=((HS.out.drewN q).drewN 1).near
   have aC:=p.size
   refine (qmM B _ _ (K.out.near p hBR hR) (by omega) (by rw[M,qaL,l];omega)).mono ?_
   rintro e w' ⟨hb,⟨v,n,rfl⟩|⟨n,rfl⟩⟩
   ·rw[M,qcB]at n
    refine⟨true,v,rfl,(⟨fun _=>?_,fun e=>by cases e⟩:_/\_)⟩
    have N:numW (s.data.toList.drop i)≠[]:=by
     intro e
     rw[e]at n
     have:=(qdN n).2
     obtain⟨c,r,e2,-⟩:=qiJ v
     rw[e2]at this;cases this
    have aA:0<j-i:=by rw[<- l];exact List.length_pos_iff.2 N
    refine .inl ⟨(⟨1,v,ByteArray.empty,[],[]⟩:Nd (T m)),j,_,?_,by omega,hk,rfl,.inl ⟨rfl,rfl⟩,((HS.out.drewN q).drewN 1).below hb (Nat.lt_of_lt_of_le hR p.size)⟩
    rw[HP.out.2 v n,l,List.drop_drop,show i+(j-i)=j by omega];rfl
   ·rw[M,qcB]at n
    exact⟨false,0,rfl,(⟨fun e=>(by cases e),fun _=>.inr ⟨HP.out.1 n,rfl,p.trans (Near.of_below hb)⟩⟩:_/\_)⟩
  by_cases hlt:j<s.size
  ·have O:decide ((j:Int)<(s.size:Int))=true:=by simp;omega
   have g:(s.data.toList.drop j).headD 0=s[j]:=by rw[qjS s j hlt];rfl
   have H:(s[j].toNat:Int)<=255:=by have:=s[j].toNat_lt;omega
   have aD:(j:Int)<(s.size:Int):=by omega
   have aE:((j:Int)).toNat=j:=by omega
   cases hdg:digC s[j] with
   | true=>
    have P:Hid (∀W,Calls prog 139 #[.int .u8 (s[j].toNat:Int)] W fun e w'=>e=.returned (.bool true)/\w'=W):=fun W=>by
     have:=qdL (s[j].toNat:Int) W (by omega) H
     have Q:digB (s[j].toNat:Int)=true:=hdg
     rw[Q]at this;exact this
    have S:Hid (∀c,c∈(s.data.toList.drop F).take (k+1)->digC c=true):=qhG s F k digC (by omega) f (by simpa only[hj] using hdg)
    clear f hdg d g
    go_wp2_with fail
    go_quiet (first|(go_at_call 139;refine Calls.quiet_of_same (P.out _)))
    go_wp2_with fail
    go_roundw
    case rel=>exact⟨k+1,by omega,by rw[show F+(k+1)=j+1 by omega];exact t.out _,S.out⟩
    case measure=>rw[(t.out _).atS,HA.out];omega
   | false=>
    have P:Hid (∀W,Calls prog 139 #[.int .u8 (s[j].toNat:Int)] W fun e w'=>e=.returned (.bool false)/\w'=W):=fun W=>by
     have:=qdL (s[j].toNat:Int) W (by omega) H
     have Q:digB (s[j].toNat:Int)=false:=hdg
     rw[Q]at this;exact this
    have u:Hid (∀q,_):=d.out (by rw[g];exact hdg)
    have U:(i:Int)<=(j:Int):=by omega
    have V:(j:Int)<=(s.size:Int):=by omega
    clear f hdg d g
    go_wp2_with fail
    go_quiet (first|(go_at_call 139;refine Calls.quiet_of_same (P.out _)))
    go_wp2_with fail
    go_region_with (go_at_call 86;refine (u.out _).mono ?_;rintro e J ⟨Y,Z,rfl,a⟩)
    all_goals
     cases Y with
     | true=>
      have x:Hid (TRPost R s i (m+1) w (.returned (.iface 166 (.int .i64 Z))) J):=a.out.1 rfl
      clear a
      go_wp2_with (go_at_call 156;refine (qbA _).mono ?_;rintro e w' ⟨rfl,rfl⟩)
      go_ret
      exact x.out
     | false=>
      have x:Hid (TRPost R s i (m+1) w (.panicked refusal) J):=a.out.2 rfl
      clear a
      go_wp2_with (go_at_call 156;refine (qfH _).mono ?_;rintro e w' ⟨rfl,rfl⟩)
      exact⟨rfl,x.out⟩
  ·have O:decide ((j:Int)<(s.size:Int))=false:=by simp;omega
   have u:Hid (∀q,_):=d.out (by rw[List.drop_of_length_le (by simp;omega)];decide)
   have U:(i:Int)<=(j:Int):=by omega
   have V:(j:Int)<=(s.size:Int):=by omega
   clear f d
   go_wp2_with fail
   go_quiet (fail)
   go_wp2_with fail
   go_region_with (go_at_call 86;refine (u.out _).mono ?_;rintro e J ⟨Y,Z,rfl,a⟩)
   all_goals
    cases Y with
    | true=>
     have x:Hid (TRPost R s i (m+1) w (.returned (.iface 166 (.int .i64 Z))) J):=a.out.1 rfl
     clear a
     go_wp2_with (go_at_call 156;refine (qbA _).mono ?_;rintro e w' ⟨rfl,rfl⟩)
     go_ret
     exact x.out
    | false=>
     have x:Hid (TRPost R s i (m+1) w (.panicked refusal) J):=a.out.2 rfl
     clear a
     go_wp2_with (go_at_call 156;refine (qfH _).mono ?_;rintro e w' ⟨rfl,rfl⟩)
     exact⟨rfl,x.out⟩
end Go.Proofs.YtelogmjfekhmpaaGreatDoor
