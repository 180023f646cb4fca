import Derived.Test.YtelogmjfekhmpaaGreatDoorB10
import Derived.Laws.Closers25b
import Derived.Test.YtelogmjfekhmpaaGreatDoorB2
import Derived.WalkSmall
import Derived.LoopTactic
import Derived.Test.YtelogmjfekhmpaaGreatDoorB4
import Derived.Test.YtelogmjfekhmpaaGreatDoorB3
import Derived.Test.YtelogmjfekhmpaaGreatDoorB1
namespace Go.Proofs.YtelogmjfekhmpaaGreatDoor
open Go.RowKit Go.Proofs.Tryz
def begB(c:UInt8):Bool:=digC c || c==45 || c==34 || c==121 || c==110 || c==91 || c==123 || c==126 || c==63
theorem qhU(u:Nat):∃c r,Lib.decDigits u=c :: r/\digC c=true:=by
 cases h:Lib.decDigits u with
 | nil=>exact absurd h (qfP u)
 | cons c r=>exact⟨c,r,rfl,qcH u c (by rw[h];exact List.mem_cons_self ..)⟩
theorem qiJ(m:Int):∃c r,Lib.itoa m=c :: r/\(digC c=true∨c=45):=by
 unfold Lib.itoa
 split
 ·exact⟨45,_,rfl,.inr rfl⟩
 ·obtain⟨c,r,a,b⟩:=qhU m.toNat
  exact⟨c,r,a,.inl b⟩
theorem qrN(n:Nat)(t:T (n+1)):∃c r,txtL (n+1) t=c :: r/\begB c=true:=by
 simp only[txtL]
 split
 ·obtain⟨c,r,b,a⟩:=qiJ (Nd.num t)
  refine⟨c,r,b,?_⟩
  rcases a with a|a
  ·simp[begB,a]
  ·subst a;decide
 split
 ·exact⟨34,_,rfl,by decide⟩
 split
 ·split
  ·exact⟨121,_,rfl,by decide⟩
  ·exact⟨110,_,rfl,by decide⟩
 split
 ·cases Nd.kids t with
  | nil=>exact⟨126,_,rfl,by decide⟩
  | cons k r=>exact⟨63,_,rfl,by decide⟩
 split
 ·exact⟨123,_,rfl,by decide⟩
 ·exact⟨91,_,rfl,by decide⟩
theorem qlO(n:Nat)(t:T n)(d:Int)(h:goodT n t d=true):∃c r,txtL n t=c :: r/\begB c=true:=by
 cases n with
 | zero=>simp[goodT]at h
 | succ n=>exact qrN n t
theorem xhW{c:UInt8}(h:begB c=true):c≠93/\c≠125/\c≠44:=by
 refine⟨?_,?_,?_⟩<;>(rintro rfl;exact absurd h (by decide))
theorem qhV{s:ByteArray}(h:textB s=true):∀c,c∈s.data.toList->c≠34:=by
 simp only[textB,Bool.and_eq_true]at h
 intro c a
 have:=List.all_eq_true.1 h.2 c a
 rintro rfl
 exact absurd this (by decide)
theorem qiK{x:ByteArray}(h:x.toList.isEmpty=true):x=ByteArray.empty:=
 (toList_nil_iff_emptyBytes x).1 (by simpa using h)
set_option maxRecDepth 100000
set_option maxHeartbeats 16000000
def qvZ(w:World)(R:Nat)(s:ByteArray)(i:Nat)(bad:Bool)(e:Ending)(w':World):Prop:=
 Near R w w' /\ ((∃x r,qbQ 34 (s.data.toList.drop (i+1))=some (x,r)/\e=.returned (.string (bs x))/\RdS w' R s ((i+1+x.length+1:Nat):Int) bad/\i+1+x.length+1<=s.size) ∨
  (qbQ 34 (s.data.toList.drop (i+1))=none/\∃x,x.size<=10000/\e=.returned (.string x)/\RdS w' R s (s.size:Int) true))
theorem xfS (w:World) (R:Nat) (s:ByteArray) (i:Nat) (bad:Bool) (h:RdS w R s i bad) (hs:s.size<=10000) (hi:i<s.size) (h0:s[i]=34) :
  Calls prog 71 #[.pointer (some ⟨R,0,none⟩)] w (qvZ w R s i bad):=by
 have m:Hid (eatP [34] (s.data.toList.drop i)=some (s.data.toList.drop (i+1))):=by
  show _=_
  rw[qjS s i hi,h0];exact qaE _ _
 go_enter func71,ntmps71
 go_wp2_with fail
 refine (qcI _ R s ⟨#[34]⟩ i bad h hs (by decide) (by omega)).mono ?_
 rintro e L ⟨rfl,o,⟨-,-,d⟩|⟨g,-⟩⟩
 case inr=>exact absurd (m.out.symm.trans g) (by simp)
 have d:RdS L R s ((i+1:Nat):Int) bad:=d
 have c0:=d.cell0
 have c1:=d.cell1
 have c2:=d.cell2
 go_wp2_with fail
 go_loopw [14] (fun _ wr=>∃k:Nat,i+1+k<=s.size/\RdS wr R s ((i+1+k:Nat):Int) bad/\Near R w wr/\∀x,x∈(s.data.toList.drop (i+1)).take k->x≠34) (fun _ wr=>s.size-atOf wr R)
 case atStart=>exact⟨0,by omega,d,o,by simp⟩
 case round=>
  obtain⟨k,N,n,p,a⟩:=hrel
  have v:=n.cell0
  have y:=n.cell1
  have z:=n.cell2
  have A:=n.free 1
  have f:Hid (RdS wr R s ((i+1+k:Nat):Int) bad/\Near R w wr):=⟨n,p⟩
  clear n p c0 c1 c2 d o m h h0
  generalize hj:i+1+k=j at *
  by_cases hlt:j<s.size
  ·have D:decide ((j:Int)<(s.size:Int))=true:=by simp;omega
   have B:(j:Int)<(s.size:Int):=by omega
   have E:(0:Int)<=(j:Int):=by omega
   by_cases hq:s[j]=34
   ·have r:(((s[j]).toNat:Int)==34)=true:=by rw[hq];rfl
    have t:Hid (qbQ 34 (s.data.toList.drop (i+1))=some ((s.data.toList.drop (i+1)).take k,(s.data.toList.drop (i+1)).drop k)):=
     qrH 34 _ k a (by rw[List.drop_drop,List.drop_drop,hj,<- Nat.add_assoc,hj,qjS s j hlt,hq])
    have m:Hid (eatP [34] (s.data.toList.drop j)=some (s.data.toList.drop (j+1))):=by
     show _=_
     rw[qjS s j hlt,hq];exact qaE _ _
    have F:Hid (s.extract (i+1) j=bs ((s.data.toList.drop (i+1)).take k)):=by show _=_;rw[<- hj];exact qfX s (i+1) k
    have C:((s.data.toList.drop (i+1)).take k).length=k:=by simp;omega
    clear a
    go_wp2_with fail
    go_quiet (fail)
    go_wp2_with fail
    refine (qcI _ R s ⟨#[34]⟩ j bad (f.out.1.drewN _) hs (by decide) (by omega)).mono ?_
    rintro e w2 ⟨rfl,b,⟨-,u,l⟩|⟨g,-⟩⟩
    case inr=>exact absurd (m.out.symm.trans g) (by simp)
    have c0:=l.cell0
    have c:Hid (RdS w2 R s ((j+1:Nat):Int) bad/\Near R w w2):=⟨l,(f.out.2.drewN _).trans b⟩
    clear l b v y z A
    go_wp2_with fail
    go_ret
    exact⟨c.out.2,.inl ⟨_,_,t.out,qdU F.out,by rw[C,hj];exact c.out.1,by rw[C,hj];exact u⟩⟩
   ·have r:(((s[j]).toNat:Int)==34)=false:=by
     rw[beq_eq_false_iff_ne]
     intro h;apply hq;apply UInt8.toNat_inj.1
     have G:(34:UInt8).toNat=34:=rfl
     omega
    have H:Hid (∀x,x∈(s.data.toList.drop (i+1)).take (k+1)->x≠34):=xaI s (i+1) k 34 (by omega) a (by simpa only[hj] using hq)
    have M:IntKind.i64.wrap ((j:Int)+1)=(j:Int)+1:=by rw[IntKind.wrap_i64];omega
    clear a
    go_wp2_with fail
    go_quiet (fail)
    go_wp2_with fail
    have c:=((f.out.1.drewN nq).set1 ((j:Int)+1))
    go_roundw
    case rel=>exact⟨k+1,by omega,by rw[show ((i+1+(k+1):Nat):Int)=(j:Int)+1 by omega];exact c,(f.out.2.drewN nq).trans (Near.set R 1 _ _),H.out⟩
    case measure=>rw[c.atOf,f.out.1.atOf];omega
  ·have D:decide ((j:Int)<(s.size:Int))=false:=by simp;omega
   have I:Hid (j=s.size):=by show _=_;omega
   have t:Hid (qbQ 34 (s.data.toList.drop (i+1))=none):=qkJ 34 _ (by rw[List.take_of_length_le (by simp;omega)]at a;exact a)
   have m:Hid (eatP [34] (s.data.toList.drop j)=none):=by
    show _=_
    rw[List.drop_of_length_le (by simp;omega)];rfl
   have J:(s.extract (i+1) j).size<=10000:=by simp[ByteArray.size_extract];omega
   have K:(j:Int)<=(s.size:Int):=by omega
   clear a
   go_wp2_with fail
   go_quiet (fail)
   go_wp2_with fail
   refine (qcI _ R s ⟨#[34]⟩ j bad (f.out.1.drewN _) hs (by decide) (by omega)).mono ?_
   rintro e w2 ⟨rfl,b,⟨q,-,-⟩|⟨-,l⟩⟩
   case inl=>exact absurd (m.out.symm.trans q) (by simp)
   have c0:=l.cell0
   have c:Hid (RdS w2 R s (j:Int) true/\Near R w w2):=⟨l,(f.out.2.drewN _).trans b⟩
   clear l b v y z A
   go_wp2_with fail
   go_ret
   exact⟨c.out.2,.inr ⟨t.out,_,J,rfl,by rw[<- I.out];exact c.out.1⟩⟩
theorem quC(l:List UInt8)(c:UInt8):qcD (l++[c])=qcD l*10+(c.toNat-48):=by
 unfold qcD;rw[List.foldl_append];rfl
theorem qfZ{c:UInt8}(h:digC c=true):48<=c.toNat/\c.toNat<=57:=by
 simp only[digC,decide_eq_true_eq]at h;omega
theorem qxN(l:List UInt8)(h:∀c,c∈l->digC c=true)(a:Nat):l.foldl (fun a c=>a*10+(c.toNat-48)) a<(a+1)*10 ^ l.length:=by
 induction l generalizing a with
 | nil=>simp
 | cons c l ih=>
  have b:=ih (fun x hx=>h x (List.mem_cons_of_mem _ hx)) (a*10+(c.toNat-48))
  have e:=qfZ (h c (List.mem_cons_self ..))
  rw[List.foldl_cons,List.length_cons,Nat.pow_succ]
  refine Nat.lt_of_lt_of_le b ?_
  have d:a*10+(c.toNat-48)+1<=(a+1)*10:=by omega
  calc (a*10+(c.toNat-48)+1)*10 ^ l.length<=((a+1)*10)*10 ^ l.length:=Nat.mul_le_mul_right _ d
   _=(a+1)*(10 ^ l.length*10):=by rw[Nat.mul_assoc,Nat.mul_comm 10 (10 ^ l.length)]
theorem xaQ(l:List UInt8)(h:∀c,c∈l->digC c=true):qcD l<10 ^ l.length:=by
 have:=qxN l h 0
 unfold qcD;omega
theorem qhW(l:List UInt8)(h:∀c,c∈l->digC c=true)(hl:l.length<=10):qcD l<10000000000:=by
 have a:=xaQ l h
 have b:10 ^ l.length<=10 ^ 10:=Nat.pow_le_pow_right (by decide) hl
 omega
theorem qlQ(s:ByteArray)(j:Nat):digC (lookB s j)=true->j<s.size:=by
 intro h
 exact Classical.byContradiction fun hn=>by rw[qbU s j (by omega)]at h;exact absurd h (by decide)
def quD(w:World)(R:Nat)(s:ByteArray)(bad:Bool)(neg:Bool)(F:Nat)(e:Ending)(w':World):Prop:=
 Near R w w' /\ ∃k,k<=10/\F+k<=s.size/\(∀c,c∈(s.data.toList.drop F).take k->digC c=true)/\(k=10∨digC (lookB s (F+k))=false) /\
  e=.returned (.int .i64 (if neg=true then -(qcD ((s.data.toList.drop F).take k):Int) else (qcD ((s.data.toList.drop F).take k):Int)))/\RdS w' R s ((F+k:Nat):Int) (bad || k==0)
theorem qwB(s:ByteArray)(F k:Nat)(h:F+k<s.size):qcD ((s.data.toList.drop F).take (k+1))=qcD ((s.data.toList.drop F).take k)*10+(s[F+k].toNat-48):=by
 have a:k<(s.data.toList.drop F).length:=by simp;omega
 rw[List.take_succ_eq_append_getElem a,quC]
 simp[ByteArray.getElem_eq_getElem_data]
theorem xiH (w:World) (R:Nat) (s:ByteArray) (i:Nat) (bad:Bool) (h:RdS w R s i bad) (hs:s.size<=10000) (hi:i<s.size) (hneg:lookB s i=45) :
  Calls prog 73 #[.pointer (some ⟨R,0,none⟩)] w (quD w R s bad true (i+1)):=by
 have H:Hid (Calls prog 56 #[.pointer (some ⟨R,0,none⟩)] w fun e w'=>e=.returned (.int .u8 ((lookB s i).toNat:Int))/\∃m',w'=w.drewN m'):=qeS w R s i bad h
 rw[hneg]at H
 have T:IntKind.i64.wrap ((i:Int)+1)=(i:Int)+1:=by rw[IntKind.wrap_i64];omega
 have c0:=h.cell0
 have c1:=h.cell1
 have c2:=h.cell2
 have f1:=h.free 1
 have N:=fun m=>(h.drewN m).set1 ((i:Int)+1)
 have O:∀m,Near R w ((w.drewN m).setCell ⟨R,1,none⟩ (.int .i64 ((i:Int)+1))):=fun m=>((Near.refl R w).drewN m).trans (Near.set R 1 _ _)
 go_enter func73,ntmps73
 go_wp2_with (go_at_call 56;refine H.out.mono ?_;rintro e w' ⟨rfl,nq,rfl⟩)
 go_loopw [5] (fun v wr=>∃k:Nat,k<=10/\(i+1)+k<=s.size/\v=.int .i64 (qcD ((s.data.toList.drop (i+1)).take k):Int)/\RdS wr R s (((i+1)+k:Nat):Int) bad/\Near R w wr/\∀x,x∈(s.data.toList.drop (i+1)).take k->digC x=true) (fun _ wr=>s.size-atOf wr R)
 case atStart=>exact⟨0,by omega,by omega,rfl,by simpa using (N _),O _,by simp⟩
 case round=>
  obtain⟨k,f,C,rfl,o,D,a⟩:=hrel
  have t:((s.data.toList.drop (i+1)).take k).length<=10:=by simp;omega
  have P:=qhW _ a t
  have d0:=o.cell0
  have d1:=o.cell1
  have d2:=o.cell2
  have df:=o.free 1
  have U:=o.free 2
  have g:Hid (RdS wr R s (((i+1)+k:Nat):Int) bad/\Near R w wr):=⟨o,D⟩
  clear o D c0 c1 c2 f1 h H N O
  generalize hV:qcD ((s.data.toList.drop (i+1)).take k)=V at *
  generalize hj:(i+1)+k=j at *
  have u:Hid (∀m,Calls prog 56 #[.pointer (some ⟨R,0,none⟩)] (wr.drewN m) fun e w'=>e=.returned (.int .u8 ((lookB s j).toNat:Int))/\∃m',w'=wr.drewN m'):=fun m=>
   (qeS (wr.drewN m) R s j bad (g.out.1.drewN m)).mono fun e w' ⟨he,k,C⟩=>⟨he,m+k,by rw[C,World.drewN_drewN]⟩
  have l:Hid (Calls prog 56 #[.pointer (some ⟨R,0,none⟩)] wr fun e w'=>e=.returned (.int .u8 ((lookB s j).toNat:Int))/\∃m',w'=wr.drewN m'):=u.out 0
  have W:(0:Int)<=((lookB s j).toNat:Int):=by omega
  have X:((lookB s j).toNat:Int)<=255:=by have:=(lookB s j).toNat_lt;omega
  by_cases hgo:digC (lookB s j)=true/\k<10
  ·obtain⟨b,aD⟩:=hgo
   have y:=qlQ s j b
   have z:Hid (∀x,x∈(s.data.toList.drop (i+1)).take (k+1)->digC x=true):=qhG s (i+1) k digC (by omega) a (by rw[qeR s j y]at b;simpa only[hj] using b)
   have A:Hid (qcD ((s.data.toList.drop (i+1)).take (k+1))=V*10+((lookB s j).toNat-48)):=by
    show _=_
    rw[qwB s (i+1) k (by omega),hV,qeR s j y];simp only[hj]
   have q:=qfZ b
   have T:IntKind.i64.wrap ((j:Int)+1)=(j:Int)+1:=by rw[IntKind.wrap_i64];omega
   clear a b
   generalize (lookB s j).toNat=c at *
   have r:(48:Int)<=(c:Int):=by omega
   have Q:(c:Int)<=57:=by omega
   have B:(j:Int)<((i:Int)+1)+10:=by omega
   have I:IntKind.i64.wrap (((i:Int)+1)+10)=((i:Int)+1)+10:=by rw[IntKind.wrap_i64];omega
   have Y:IntKind.i64.wrap ((V:Int)*10)=(V:Int)*10:=by rw[IntKind.wrap_i64];omega
   have Z:IntKind.u8.wrap ((c:Int)-48)=(c:Int)-48:=by rw[IntKind.wrap_u8];omega
   have aA:IntKind.i64.wrap ((c:Int)-48)=(c:Int)-48:=by rw[IntKind.wrap_i64];omega
   have aB:IntKind.i64.wrap ((V:Int)*10+((c:Int)-48))=(V:Int)*10+((c:Int)-48):=by rw[IntKind.wrap_i64];omega
   go_wp2_with (go_at_call 56;(first|refine l.out.mono ?_|refine (u.out _).mono ?_);rintro e w' ⟨rfl,nq,rfl⟩)
   have S:=fun nq=>((g.out.1.drewN nq).set1 ((j:Int)+1))
   go_roundw
   case rel=>exact⟨k+1,by omega,by omega,by rw[A.out];congr 1;omega,by rw[show (((i+1)+(k+1):Nat):Int)=(j:Int)+1 by omega];exact S _,(g.out.2.drewN _).trans (Near.set R 1 _ _),z.out⟩
   case measure=>rw[(S _).atOf,g.out.1.atOf];omega
  ·have E:Hid (k=10∨digC (lookB s j)=false):=by
    show _∨_
    cases b:digC (lookB s j) with
    | false=>exact .inr rfl
    | true=>exact .inl (by have h9:¬k<10:=fun h=>hgo ⟨b,h⟩;omega)
   have z:=hidF a
   have d:((lookB s j).toNat:Int)<48∨57<((lookB s j).toNat:Int)∨(48<=((lookB s j).toNat:Int)/\((lookB s j).toNat:Int)<=57/\k=10):=by
    rcases E.out with h|h
    ·omega
    ·simp only[digC,decide_eq_false_iff_not]at h;omega
   have A:=hidF hV
   have n:Hid ((i+1)+k=j):=hj
   have aC:IntKind.i64.wrap (-(V:Int)) = -(V:Int):=by rw[IntKind.wrap_i64];omega
   have I:IntKind.i64.wrap (((i:Int)+1)+10)=((i:Int)+1)+10:=by rw[IntKind.wrap_i64];omega
   have J:Hid (k=0∨¬k=0):=Classical.em _
   have K:k=0->(((j:Nat):Int)==((i:Int)+1))=true:=fun h=>by simp;omega
   have L:¬k=0->(((j:Nat):Int)==((i:Int)+1))=false:=fun h=>by simp;omega
   have F:k=10->¬((j:Nat):Int)<((i:Int)+1)+10:=fun h=>by omega
   clear a hgo hV hj
   generalize (lookB s j).toNat=c at *
   rcases J.out with p|p
   ·have e:=K p
    have M:¬k=10:=by omega
    have G:Hid ((bad || k==0)=true):=by show _=_;rw[p];simp
    clear K L F p J
    rcases d with r|r|⟨r,Q,B⟩
    case inr.inr=>exact absurd B M
    all_goals
     go_wp2_with (go_at_call 56;(first|refine l.out.mono ?_|refine (u.out _).mono ?_);rintro e w' ⟨rfl,nq,rfl⟩)
     go_ret
     refine⟨((g.out.2.drewN _).trans (Near.set R 2 _ _)),k,f,by rw[n.out];exact C,z.out,by rw[n.out];exact E.out,by rw[A.out];rfl,?_⟩
     rw[G.out,n.out];exact (g.out.1.drewN _).set2 true
   ·have e:=L p
    have G:Hid ((bad || k==0)=bad):=by show _=_;simp[p]
    clear K L p J
    rcases d with r|r|⟨r,Q,B⟩
    case inr.inr=>
     have q4:=F B
     clear F B
     go_wp2_with (go_at_call 56;(first|refine l.out.mono ?_|refine (u.out _).mono ?_);rintro e w' ⟨rfl,nq,rfl⟩)
     go_ret
     refine⟨g.out.2.drewN _,k,f,by rw[n.out];exact C,z.out,by rw[n.out];exact E.out,by rw[A.out];rfl,?_⟩
     rw[G.out,n.out];exact g.out.1.drewN _
    all_goals
     clear F
     go_wp2_with (go_at_call 56;(first|refine l.out.mono ?_|refine (u.out _).mono ?_);rintro e w' ⟨rfl,nq,rfl⟩)
     go_ret
     refine⟨g.out.2.drewN _,k,f,by rw[n.out];exact C,z.out,by rw[n.out];exact E.out,by rw[A.out];rfl,?_⟩
     rw[G.out,n.out];exact g.out.1.drewN _
theorem xiI (w:World) (R:Nat) (s:ByteArray) (i:Nat) (bad:Bool) (h:RdS w R s i bad) (hs:s.size<=10000) (hi:i<=s.size) (hneg:¬ lookB s i=45) :
  Calls prog 73 #[.pointer (some ⟨R,0,none⟩)] w (quD w R s bad false i):=by
 have M:Hid (Calls prog 56 #[.pointer (some ⟨R,0,none⟩)] w fun e w'=>e=.returned (.int .u8 ((lookB s i).toNat:Int))/\∃m',w'=w.drewN m'):=qeS w R s i bad h
 have T:(((lookB s i).toNat:Int)==45)=false:=by
  rw[beq_eq_false_iff_ne]
  intro e;apply hneg;apply UInt8.toNat_inj.1
  have U:(45:UInt8).toNat=45:=rfl
  omega
 have c0:=h.cell0
 have c1:=h.cell1
 have c2:=h.cell2
 have f1:=h.free 1
 have N:=fun m=>h.drewN m
 have O:∀m,Near R w (w.drewN m):=fun m=>(Near.refl R w).drewN m
 go_enter func73,ntmps73
 go_wp2_with (go_at_call 56;refine M.out.mono ?_;rintro e w' ⟨rfl,nq,rfl⟩)
 go_loopw [5] (fun v wr=>∃k:Nat,k<=10/\i+k<=s.size/\v=.int .i64 (qcD ((s.data.toList.drop i).take k):Int)/\RdS wr R s ((i+k:Nat):Int) bad/\Near R w wr/\∀x,x∈(s.data.toList.drop i).take k->digC x=true) (fun _ wr=>s.size-atOf wr R)
 case atStart=>exact⟨0,by omega,by omega,rfl,by simpa using (N _),O _,by simp⟩
 case round=>
  obtain⟨k,f,C,rfl,o,D,a⟩:=hrel
  have t:((s.data.toList.drop i).take k).length<=10:=by simp;omega
  have P:=qhW _ a t
  have d0:=o.cell0
  have d1:=o.cell1
  have d2:=o.cell2
  have df:=o.free 1
  have W:=o.free 2
  have g:Hid (RdS wr R s ((i+k:Nat):Int) bad/\Near R w wr):=⟨o,D⟩
  clear o D c0 c1 c2 f1 h M N O
  generalize hV:qcD ((s.data.toList.drop i).take k)=V at *
  generalize hj:i+k=j at *
  have u:Hid (∀m,Calls prog 56 #[.pointer (some ⟨R,0,none⟩)] (wr.drewN m) fun e w'=>e=.returned (.int .u8 ((lookB s j).toNat:Int))/\∃m',w'=wr.drewN m'):=fun m=>
   (qeS (wr.drewN m) R s j bad (g.out.1.drewN m)).mono fun e w' ⟨he,k,C⟩=>⟨he,m+k,by rw[C,World.drewN_drewN]⟩
  have l:Hid (Calls prog 56 #[.pointer (some ⟨R,0,none⟩)] wr fun e w'=>e=.returned (.int .u8 ((lookB s j).toNat:Int))/\∃m',w'=wr.drewN m'):=u.out 0
  have X:(0:Int)<=((lookB s j).toNat:Int):=by omega
  have Y:((lookB s j).toNat:Int)<=255:=by have:=(lookB s j).toNat_lt;omega
  by_cases hgo:digC (lookB s j)=true/\k<10
  ·obtain⟨b,aE⟩:=hgo
   have y:=qlQ s j b
   have z:Hid (∀x,x∈(s.data.toList.drop i).take (k+1)->digC x=true):=qhG s i k digC (by omega) a (by rw[qeR s j y]at b;simpa only[hj] using b)
   have A:Hid (qcD ((s.data.toList.drop i).take (k+1))=V*10+((lookB s j).toNat-48)):=by
    show _=_
    rw[qwB s i k (by omega),hV,qeR s j y];simp only[hj]
   have q:=qfZ b
   have hw:IntKind.i64.wrap ((j:Int)+1)=(j:Int)+1:=by rw[IntKind.wrap_i64];omega
   clear a b
   generalize (lookB s j).toNat=c at *
   have r:(48:Int)<=(c:Int):=by omega
   have Q:(c:Int)<=57:=by omega
   have B:(j:Int)<(i:Int)+10:=by omega
   have H:IntKind.i64.wrap ((i:Int)+10)=(i:Int)+10:=by rw[IntKind.wrap_i64];omega
   have Z:IntKind.i64.wrap ((V:Int)*10)=(V:Int)*10:=by rw[IntKind.wrap_i64];omega
   have aA:IntKind.u8.wrap ((c:Int)-48)=(c:Int)-48:=by rw[IntKind.wrap_u8];omega
   have aB:IntKind.i64.wrap ((c:Int)-48)=(c:Int)-48:=by rw[IntKind.wrap_i64];omega
   have aC:IntKind.i64.wrap ((V:Int)*10+((c:Int)-48))=(V:Int)*10+((c:Int)-48):=by rw[IntKind.wrap_i64];omega
   go_wp2_with (go_at_call 56;(first|refine l.out.mono ?_|refine (u.out _).mono ?_);rintro e w' ⟨rfl,nq,rfl⟩)
   have S:=fun nq=>((g.out.1.drewN nq).set1 ((j:Int)+1))
   go_roundw
   case rel=>exact⟨k+1,by omega,by omega,by rw[A.out];congr 1;omega,by rw[show ((i+(k+1):Nat):Int)=(j:Int)+1 by omega];exact S _,(g.out.2.drewN _).trans (Near.set R 1 _ _),z.out⟩
   case measure=>rw[(S _).atOf,g.out.1.atOf];omega
  ·have E:Hid (k=10∨digC (lookB s j)=false):=by
    show _∨_
    cases b:digC (lookB s j) with
    | false=>exact .inr rfl
    | true=>exact .inl (by have h9:¬k<10:=fun h=>hgo ⟨b,h⟩;omega)
   have z:=hidF a
   have d:((lookB s j).toNat:Int)<48∨57<((lookB s j).toNat:Int)∨(48<=((lookB s j).toNat:Int)/\((lookB s j).toNat:Int)<=57/\k=10):=by
    rcases E.out with h|h
    ·omega
    ·simp only[digC,decide_eq_false_iff_not]at h;omega
   have A:=hidF hV
   have n:Hid (i+k=j):=hj
   have aD:IntKind.i64.wrap (-(V:Int)) = -(V:Int):=by rw[IntKind.wrap_i64];omega
   have H:IntKind.i64.wrap ((i:Int)+10)=(i:Int)+10:=by rw[IntKind.wrap_i64];omega
   have I:Hid (k=0∨¬k=0):=Classical.em _
   have J:k=0->(((j:Nat):Int)==(i:Int))=true:=fun h=>by simp;omega
   have K:¬k=0->(((j:Nat):Int)==(i:Int))=false:=fun h=>by simp;omega
   have F:k=10->¬((j:Nat):Int)<(i:Int)+10:=fun h=>by omega
   clear a hgo hV hj
   generalize (lookB s j).toNat=c at *
   rcases I.out with p|p
   ·have e:=J p
    have L:¬k=10:=by omega
    have G:Hid ((bad || k==0)=true):=by show _=_;rw[p];simp
    clear J K F p I
    rcases d with r|r|⟨r,Q,B⟩
    case inr.inr=>exact absurd B L
    all_goals
     go_wp2_with (go_at_call 56;(first|refine l.out.mono ?_|refine (u.out _).mono ?_);rintro e w' ⟨rfl,nq,rfl⟩)
     go_ret
     refine⟨((g.out.2.drewN _).trans (Near.set R 2 _ _)),k,f,by rw[n.out];exact C,z.out,by rw[n.out];exact E.out,by rw[A.out];rfl,?_⟩
     rw[G.out,n.out];exact (g.out.1.drewN _).set2 true
   ·have e:=K p
    have G:Hid ((bad || k==0)=bad):=by show _=_;simp[p]
    clear J K p I
    rcases d with r|r|⟨r,Q,B⟩
    case inr.inr=>
     have q4:=F B
     clear F B
     go_wp2_with (go_at_call 56;(first|refine l.out.mono ?_|refine (u.out _).mono ?_);rintro e w' ⟨rfl,nq,rfl⟩)
     go_ret
     refine⟨g.out.2.drewN _,k,f,by rw[n.out];exact C,z.out,by rw[n.out];exact E.out,by rw[A.out];rfl,?_⟩
     rw[G.out,n.out];exact g.out.1.drewN _
    all_goals
     clear F
     go_wp2_with (go_at_call 56;(first|refine l.out.mono ?_|refine (u.out _).mono ?_);rintro e w' ⟨rfl,nq,rfl⟩)
     go_ret
     refine⟨g.out.2.drewN _,k,f,by rw[n.out];exact C,z.out,by rw[n.out];exact E.out,by rw[A.out];rfl,?_⟩
     rw[G.out,n.out];exact g.out.1.drewN _
theorem qjV:∀(k u:Nat),u<10 ^ (k+1)->Lib.nDigits u<=k+1
 | 0,u,h=>by rw[Lib.nDigits_small (by simpa using h)];omega
 | k+1,u,h=>by
  by_cases hu:u<10
  ·rw[Lib.nDigits_small hu];omega
  ·rw[Lib.nDigits_big hu]
   have:=qjV k (u / 10) (by rw[Nat.pow_succ]at h;omega)
   omega
theorem quE (l D post:List UInt8) (k:Nat) (he:l=D++post) (hD:∀ c,c∈D->digC c=true) (hl:D.length<=9) (hp:noDig post=true) (hall:∀ c,c∈l.take k->digC c=true) (hk:k<=l.length)
  (hend:k=10∨digC ((l.drop k).headD 0)=false):k=D.length:=by
 subst he
 by_cases h1:k<D.length
 ·exfalso
  rcases hend with h|h
  ·omega
  ·rw[List.drop_append_of_le_length (by omega),List.drop_eq_getElem_cons h1]at h
   simp only[List.cons_append,List.headD_cons]at h
   rw[hD _ (List.getElem_mem h1)]at h
   cases h
 ·by_cases h2:D.length<k
  ·exfalso
   cases post with
   | nil=>simp at hk;omega
   | cons c r=>
    have a:digC c=false:=by simpa [noDig] using hp
    have:digC c=true:=by
     apply hall
     rw[List.take_append]
     apply List.mem_append_right
     have:k-D.length=(k-D.length-1)+1:=by omega
     rw[this,List.take_succ_cons]
     exact List.mem_cons_self ..
    rw[a]at this
    cases this
  ·omega
theorem xaR (s:ByteArray) (i k F:Nat) (neg:Bool) (m:Int) (post:List UInt8) (hm : -999999999<=m/\m<=999999999) (he:s.data.toList.drop i=Lib.itoa m++post) (hp:noDig post=true)
  (hneg:neg=decide (lookB s i=45)) (hF:F=if neg=true then i+1 else i) (hsz:F+k<=s.size)
  (hall:∀c,c∈(s.data.toList.drop F).take k->digC c=true) (hend:k=10∨digC (lookB s (F+k))=false) :
  (if neg=true then -(qcD ((s.data.toList.drop F).take k):Int) else (qcD ((s.data.toList.drop F).take k):Int))=m/\F+k=i+(Lib.itoa m).length/\¬k=0:=by
 have f:∀(u:Nat),u<=999999999->s.data.toList.drop F=Lib.decDigits u++post->qcD ((s.data.toList.drop F).take k)=u/\k=(Lib.decDigits u).length/\¬k=0:=by
  intro u t d
  have g:(Lib.decDigits u).length<=9:=by rw[Lib.decDigits_length];exact qjV 8 u (by omega)
  have l:=quE _ _ post k d (qcH u) g hp hall (by simp;omega) (by rw[List.drop_drop];exact hend)
  refine⟨?_,l,?_⟩
  ·rw[d,l,List.take_left,qeQ]
  ·have n:=qfP u
   intro e
   rw[e]at l
   exact n (List.eq_nil_of_length_eq_zero l.symm)
 have b:lookB s i=(Lib.itoa m++post).headD 0:=by unfold lookB;rw[he]
 by_cases n:m<0
 ·have h:Lib.itoa m=45 :: Lib.decDigits m.natAbs:=by unfold Lib.itoa;rw[if_pos n]
  rw[h]at he b
  have j:neg=true:=by rw[hneg,b];rfl
  rw[if_pos j]at hF
  have d:s.data.toList.drop F=Lib.decDigits m.natAbs++post:=by
   rw[hF,<- List.drop_drop,he];rfl
  obtain⟨o,p,k3⟩:=f m.natAbs (by omega) d
  refine⟨by rw[if_pos j,o];omega,?_,k3⟩
  rw[h,hF,List.length_cons,p];omega
 ·have h:Lib.itoa m=Lib.decDigits m.toNat:=by unfold Lib.itoa;rw[if_neg n]
  rw[h]at he b
  have j:neg=false:=by
   rw[hneg,b]
   obtain⟨c,r,e,q⟩:=qhU m.toNat
   rw[e]
   simp only[List.cons_append,List.headD_cons]
   refine decide_eq_false ?_
   rintro rfl
   rw[quA]at q;cases q
  rw[j]at hF
  simp only[Bool.false_eq_true,if_false]at hF
  have d:s.data.toList.drop F=Lib.decDigits m.toNat++post:=by rw[hF,he]
  obtain⟨o,p,k3⟩:=f m.toNat (by omega) d
  refine⟨by rw[j];simp only[Bool.false_eq_true,if_false];rw[o];omega,?_,k3⟩
  rw[h,hF,p]
theorem qwC {R n:Nat} {w Wb wr:World} {so:Int} {ns:List ByteArray} {ks:List (T n)} {nv kv:Value} {s:ByteArray} {i':Nat} {b:Bool} (h:Many R (w.heap.size+1) n Wb wr so ns ks nv kv) (hR:R<w.heap.size) (hwb:Near R w Wb)
  (hbs:Wb.heap.size=w.heap.size+1) (hr:RdS wr R s i' b) (hso:(Lit.int .i64 so).wf=true) (hns:ns.length<=20000) (hks:ks.length<=20000) :
  Near R w (put5 (wr.setCell ⟨R,1,none⟩ (.int .i64 ((i':Int)+1))) w.heap.size 0 (.int .i64 so) (.int .i64 0) (.string ByteArray.empty) nv kv) /\
  RdS (put5 (wr.setCell ⟨R,1,none⟩ (.int .i64 ((i':Int)+1))) w.heap.size 0 (.int .i64 so) (.int .i64 0) (.string ByteArray.empty) nv kv) R s ((i'+1:Nat):Int) b /\
  TreeIn (fun b=>w.heap.size<=b/\b<(put5 (wr.setCell ⟨R,1,none⟩ (.int .i64 ((i':Int)+1))) w.heap.size 0 (.int .i64 so) (.int .i64 0) (.string ByteArray.empty) nv kv).heap.size)
   (put5 (wr.setCell ⟨R,1,none⟩ (.int .i64 ((i':Int)+1))) w.heap.size 0 (.int .i64 so) (.int .i64 0) (.string ByteArray.empty) nv kv) (n+1) (⟨so,0,ByteArray.empty,ns,ks⟩:Nd (T n)) (.int .i64 so) (.int .i64 0) (.string ByteArray.empty) nv kv:=by
 have k:=h.lt
 have l:=h.near.size
 generalize hWf:put5 (wr.setCell ⟨R,1,none⟩ (.int .i64 ((i':Int)+1))) w.heap.size 0 (.int .i64 so) (.int .i64 0) (.string ByteArray.empty) nv kv=Wf
 have d:Wf.heap.size=wr.heap.size:=by rw[<- hWf,qbO];simp
 have q:∀b,b≠R->b≠w.heap.size->Wf.heap[b]?=wr.heap[b]?:=fun b h1 h2=>by rw[<- hWf,qaQ h2,Below.heap_setCell _ _ _ _ h1]
 have a:Below 0 wr Wf:=by
  rw[<- hWf]
  exact qaX ((Below.refl 0 wr).setCell (Nat.zero_le _) _) (Nat.zero_le _)
 obtain⟨xs,c,e⟩:=h.kids
 refine⟨⟨?_,?_,?_,by omega,fun b hb hne=>?_⟩,?_,?_⟩
 ·rw[a.os];exact h.near.os.trans hwb.os
 ·rw[a.tape];exact h.near.tape.trans hwb.tape
 ·rw[a.output];exact h.near.output.trans hwb.output
 ·rw[q b hne (by omega)]
  exact (h.near.block b (by omega) hne).trans (hwb.block b hb hne)
 ·have:=hr.set1 ((i':Int)+1)
  unfold RdS at this ⊢
  rw[<- hWf,qaQ (by omega)]
  exact this
 ·refine⟨rfl,rfl,rfl,by simp[maxLen],hso,(by rfl:(Lit.int .i64 0).wf=true),?_,?_⟩
  ·refine qcQ (qaK h.names fun g hg=>?_) hns h.short fun g hg=>?_
   ·have:=qaF h.names g hg
    exact q g (by omega) (by omega)
   ·have:=qaF h.names g hg
    exact⟨by omega,by omega⟩
  ·refine qlR (qaK c fun g hg=>?_) hks (fun g hg=>?_) fun j hj=>?_
   ·have:=qaF c g hg
    exact q g (by omega) (by omega)
   ·have:=qaF c g hg
    exact⟨by omega,by omega⟩
   ·obtain⟨c0,c1,c2,c3,c4,f,i⟩:=e j hj
    refine⟨c0,c1,c2,c3,c4,f,i.keep (fun b hb=>?_) (fun b hb=>?_)⟩
    ·have:=hb.1
     exact q b (by omega) (by omega)
    ·have:=hb.1
     have:=hb.2.1
     exact⟨by omega,by omega⟩
structure ManyN(R X Y n:Nat)(w wr:World)(so nm:Int)(tx:ByteArray)(ns:List ByteArray)(ks:List (T n))(nv kv:Value):Prop where
 near:Near R w wr
 box:wr.heap[X]?=some (.cells #[.int .i64 so,.int .i64 nm,.string tx,nv,kv] 25 (0,0))
 names:wr.ownsRow (Y+1) 9 1 nv ns.length (ns.map .string)
 short:∀s,s∈ns->s.size<=10000
 kids:∃xs,wr.ownsRow (Y+1) 25 5 kv ks.length xs/\∀j (h:j<ks.length),∃c0 c1 c2 c3 c4,(xs[j*5]?=some c0/\xs[j*5+1]?=some c1/\xs[j*5+2]?=some c2/\xs[j*5+3]?=some c3/\xs[j*5+4]?=some c4)/\NodeIn (Far (Y+1) nv kv wr.heap.size) wr n ks[j] c0 c1 c2 c3 c4
 apart:∀b,nv.ownBlock=some b->kv.ownBlock≠some b
 xy:X<=Y/\Y<wr.heap.size
theorem ManyN.lt{R X Y n:Nat}{w wr:World}{so nm:Int}{tx:ByteArray}{ns:List ByteArray}{ks:List (T n)}{nv kv:Value}(h:ManyN R X Y n w wr so nm tx ns ks nv kv):X<wr.heap.size:=(Array.getElem?_eq_some_iff.1 h.box).1
theorem ManyN.keep{R X Y n:Nat}{w wr W:World}{so nm:Int}{tx:ByteArray}{ns:List ByteArray}{ks:List (T n)}{nv kv:Value}(h:ManyN R X Y n w wr so nm tx ns ks nv kv)(hRX:R<X)(hn:Near R wr W):ManyN R X Y n w W so nm tx ns ks nv kv:=by
 have e:=h.lt
 have f:=h.xy
 have a:∀b,X<=b->b<wr.heap.size->W.heap[b]?=wr.heap[b]?:=fun b h1 h2=>hn.block b h2 (by omega)
 obtain⟨xs,d,i⟩:=h.kids
 refine⟨h.near.trans hn,by rw[a X (Nat.le_refl _) e];exact h.box,qaK h.names fun g hg=>?_,h.short,⟨xs,qaK d fun g hg=>?_,fun j hj=>?_⟩,h.apart,⟨h.xy.1,by have c:=h.xy.2;first|exact Nat.lt_of_lt_of_le c hn.size|(rw[hsz];exact c)⟩⟩
 ·have:=qaF h.names g hg
  exact a g (by omega) this.2
 ·have:=qaF d g hg
  exact a g (by omega) this.2
 ·obtain⟨c0,c1,c2,c3,c4,k,l⟩:=i j hj
  refine⟨c0,c1,c2,c3,c4,k,l.keep (fun b hb=>a b ?_ hb.2.1) (fun b hb=>⟨hb.1,Nat.lt_of_lt_of_le hb.2.1 hn.size,hb.2.2⟩)⟩
  have:=hb.1
  omega
theorem ManyN.name {R X Y n:Nat} {w W Wa W2:World} {so nm:Int} {tx:ByteArray} {ns:List ByteArray} {ks:List (T n)} {nv kv:Value} {x:ByteArray} {one:Obj} {g cap:Nat} (h:ManyN R X Y n w W so nm tx ns ks nv kv) (hw:w.heap.size<=X)
  (ha:Wa.heap=W.heap.push one) (ho:Wa.os=W.os/\Wa.tape=W.tape/\Wa.output=W.output) (hx:x.size<=10000)
  (hown:W2.ownsRow (Y+1) 9 1 (.slice (some ⟨g,0,none⟩) (ns.length+1) cap) (ns.length+1) (ns.map .string++[.string x])) (hgrow:Wa.grownBy W2 nv.ownBlock) (hat:nv.ownBlock=some g∨g=W.heap.size+1) :
  ManyN R X Y n w (W2.setCell ⟨X,3,none⟩ (.slice (some ⟨g,0,none⟩) (ns.length+1) cap)) so nm tx (ns++[x]) ks (.slice (some ⟨g,0,none⟩) (ns.length+1) cap) kv:=by
 have t:=h.lt
 have p:=h.xy
 have A:W2.heap.size ≥ W.heap.size+1:=by have:=hgrow.size;rw[ha]at this;simp at this;omega
 have i:=qaF h.names
 have u:=qaF hown g rfl
 have q:∀b,b<W.heap.size->nv.ownBlock≠some b->W2.heap[b]?=W.heap[b]?:=fun b a hne=>by
  rw[hgrow.block b (by rw[ha];simp;omega) (fun e=>hne e.symm),ha,Array.getElem?_push_lt a,Array.getElem?_eq_getElem a]
 have o:∀b,b≠X->(W2.setCell ⟨X,3,none⟩ (.slice (some ⟨g,0,none⟩) (ns.length+1) cap)).heap[b]?=W2.heap[b]?:=fun b a=>Below.heap_setCell _ _ _ _ a
 have c:(W2.setCell ⟨X,3,none⟩ (.slice (some ⟨g,0,none⟩) (ns.length+1) cap)).heap.size=W2.heap.size:=by simp
 have r:nv.ownBlock≠some X:=fun e=>by have:=i X e;omega
 have d:=(q X t r).trans h.box
 obtain⟨xs,l,v⟩:=h.kids
 have k:=qaF l
 refine⟨⟨?_,?_,?_,by rw[c];have:=h.near.size;omega,fun b a hne=>?_⟩,?_,?_,?_,⟨xs,qaK l fun g' hg'=>?_,fun j hj=>?_⟩,fun b a=>?_,⟨p.1,by first|(rw[c,p5s];omega)|(rw[c];omega)⟩⟩
 ·show W2.os=w.os
  rw[hgrow.os,ho.1];exact h.near.os
 ·show W2.tape=w.tape
  rw[hgrow.tape,ho.2.1];exact h.near.tape
 ·show W2.output=w.output
  rw[hgrow.output,ho.2.2];exact h.near.output
 ·have f:=h.near.size
  rw[o b (by omega),q b (by omega) (fun e=>by have:=i b e;omega)]
  exact h.near.block b a hne
 ·simp[World.setCell,Array.getElem?_modify,d]
 ·rw[List.length_append,List.length_singleton,List.map_append,List.map_singleton]
  exact qaK hown fun g' hg'=>o g' (by have:=qaF hown g' hg';omega)
 ·intro s f
  rcases List.mem_append.1 f with f|f
  ·exact h.short s f
  ·rw[List.mem_singleton]at f;subst f;exact hx
 ·have:=k g' hg'
  rw[o g' (by omega),q g' this.2 (fun e=>h.apart g' e hg')]
 ·obtain⟨c0,c1,c2,c3,c4,y,z⟩:=v j hj
  refine⟨c0,c1,c2,c3,c4,y,z.keep (fun b a=>?_) (fun b a=>?_)⟩
  ·rw[o b (by have:=a.1;omega),q b a.2.1 a.2.2.1]
  ·refine⟨a.1,by rw[c];have:=a.2.1;omega,?_,a.2.2.2⟩
   intro e
   have e:g=b:=by simpa [Value.ownBlock] using e
   rcases hat with m|m
   ·exact a.2.2.1 (by rw[m,e])
   ·have:=a.2.1;omega
 ·have a:g=b:=by simpa [Value.ownBlock] using a
  subst a
  rcases hat with m|m
  ·exact h.apart g m
  ·intro e;have:=k g e;omega
theorem ManyN.put {R X Y n o:Nat} {w wr:World} {so nm nm':Int} {tx tx':ByteArray} {ns:List ByteArray} {ks:List (T n)} {nv kv v:Value} (h:ManyN R X Y n w wr so nm tx ns ks nv kv) (hw:w.heap.size<=X)
  (ho:(o=1/\v=.int .i64 nm' /\ tx'=tx)∨(o=2/\v=.string tx' /\ nm'=nm)):ManyN R X Y n w (wr.setCell ⟨X,o,none⟩ v) so nm' tx' ns ks nv kv:=by
 have m:=h.lt
 have f:=h.xy
 have c:∀b,b≠X->(wr.setCell ⟨X,o,none⟩ v).heap[b]?=wr.heap[b]?:=fun b hb=>Below.heap_setCell _ _ _ _ hb
 have a:(wr.setCell ⟨X,o,none⟩ v).heap.size=wr.heap.size:=by simp
 obtain⟨xs,e,i⟩:=h.kids
 refine⟨⟨h.near.os,h.near.tape,h.near.output,by rw[a];exact h.near.size,fun b hb hne=>by rw[c b (by omega)];exact h.near.block b hb hne⟩,?_,qaK h.names fun g hg=>c g (by have:=qaF h.names g hg;omega),h.short,⟨xs,qaK e fun g hg=>c g (by have:=qaF e g hg;omega),fun j hj=>?_⟩,h.apart,⟨h.xy.1,by have d:=h.xy.2;first|exact Nat.lt_of_lt_of_le d hn.size|(rw[a];exact d)⟩⟩
 ·rcases ho with ⟨rfl,rfl,rfl⟩|⟨rfl,rfl,rfl⟩<;>simp[World.setCell,Array.getElem?_modify,h.box]
 ·obtain⟨c0,c1,c2,c3,c4,k,l⟩:=i j hj
  exact⟨c0,c1,c2,c3,c4,k,l.keep (fun b hb=>c b (by have:=hb.1;omega)) (fun b hb=>⟨hb.1,by rw[a];exact hb.2.1,hb.2.2⟩)⟩
end Go.Proofs.YtelogmjfekhmpaaGreatDoor
