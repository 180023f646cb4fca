import Derived.Test.YtelogmjfekhmpaaGreatDoorB1
import Derived.Deep.RegionWith
import Derived.Deep.QuietTactic
import Derived.BigQuiet
namespace Go.Proofs.YtelogmjfekhmpaaGreatDoor
open Go.RowKit Go.Proofs.Tryz
set_option maxRecDepth 100000
set_option maxHeartbeats 16000000
theorem qbL{a b:Bool}(h:a=b):Ending.returned (.bool a)=.returned (.bool b):=by rw[h]
theorem qcJ(x a b:Int)(w:World):Calls prog 45 #[.int .i64 x,.int .i64 a,.int .i64 b] w fun e w'=>e=.returned (.bool (decide (a<=x/\x<=b)))/\w'=w:=by
 by_cases h:a<=x<;>by_cases h2:x<=b
 all_goals
  go_enter func45,ntmps45
  go_wp2
  go_ret
  exact⟨qbL (by simp[h,h2];try omega),rfl⟩
theorem qdP(s:ByteArray)(w:World)(hs:s.size<=maxLen):Calls prog 40 #[.string s] w fun e w'=>e=.returned (.bool (nameB s))/\w'=w:=by
 unfold maxLen at hs
 by_cases hl:1<=s.size/\s.size<=8
 ·obtain⟨f,l⟩:=hl
  have g:decide ((1:Int)<=(s.size:Int)/\(s.size:Int)<=8)=true:=decide_eq_true ⟨by omega,by omega⟩
  have b:s.data.toList.headD 0=s[0]:=by
   cases hx:s.data.toList with
   | nil=>have:=congrArg List.length hx;simp at this;simp[this]at f
   | cons a r=>simp[ByteArray.getElem_eq_getElem_data,<- Array.getElem_toList,hx]
  cases hu:qlK s[0] with
  | false=>
   have d:Hid (nameB s=false):=by show _=_;rw[nameB,b,hu];simp
   unfold qlK at hu
   rw[decide_eq_false_iff_not]at hu
   clear b
   go_enter func40,ntmps40
   go_wp2_with (go_at_call 45;refine (qcJ _ _ _ _).mono ?_;rintro e w' ⟨rfl,rfl⟩;rw[g])
   all_goals
    go_ret
    exact⟨qbL d.out.symm,rfl⟩
  | true=>
   have m:Hid (s.data.toList.headD 0=s[0]/\qlK s[0]=true):=⟨b,hu⟩
   unfold qlK at hu
   rw[decide_eq_true_eq]at hu
   obtain⟨q,t⟩:=hu
   clear b
   go_enter func40,ntmps40
   go_wp2_with (go_at_call 45;refine (qcJ _ _ _ _).mono ?_;rintro e w' ⟨rfl,rfl⟩;rw[g])
   go_loop [3] (fun i=>∃k:Nat,k<=s.size/\i=.int .i64 k/\(s.data.toList.take k).all qaT=true) (fun i=>s.size-(intOf i).toNat)
   case atStart=>exact⟨0,Nat.zero_le _,rfl,by simp⟩
   case round=>
    obtain⟨k,u,rfl,c⟩:=hrel
    have n:=hidF c
    clear c
    by_cases hlt:k<s.size
    ·cases hb:qaT s[k] with
     | true=>
      have p:Hid (qaT s[k]=true):=hb
      unfold qaT at hb
      rw[decide_eq_true_eq]at hb
      rcases hb with ⟨j,o⟩|⟨j,o⟩
      all_goals
       go_wp2
       go_round
       case rel=>exact⟨k+1,by omega,by go_num,qdS k hlt n.out p.out⟩
       case measure=>simp[intOf];omega
     | false=>
      have d:Hid (nameB s=false):=by show _=_;rw[nameB,qfN k hlt hb];simp
      unfold qaT at hb
      rw[decide_eq_false_iff_not]at hb
      rcases (show (s[k].toNat:Int)<48∨(57<(s[k].toNat:Int)/\(s[k].toNat:Int)<97)∨122<(s[k].toNat:Int) by omega) with j|⟨j,o⟩|j
      all_goals
       clear hb
       go_wp2
       all_goals first
        | (go_ret;exact⟨qbL d.out.symm,rfl⟩)
        | (exfalso;rename_i h;simp at h;omega)
    ·have d:Hid (nameB s=true):=by show _=_;rw[nameB,m.out.1,m.out.2,qfO k (by omega) n.out];simp[f,l]
     go_wp2
     go_ret
     exact⟨qbL d.out.symm,rfl⟩
 ·have g:decide ((1:Int)<=(s.size:Int)/\(s.size:Int)<=8)=false:=decide_eq_false (by omega)
  have d:Hid (nameB s=false):=by show _=_;rw[nameB,decide_eq_false hl];simp
  go_enter func40,ntmps40
  go_wp2_with (go_at_call 45;refine (qcJ _ _ _ _).mono ?_;rintro e w' ⟨rfl,rfl⟩;rw[g])
  go_ret
  exact⟨qbL d.out.symm,rfl⟩
theorem qjW (S:Nat->Prop) (l:List ByteArray) (v:Value) (w:World) (hl:StrsIn S w l v) (hB:∀ b,S b->b<w.heap.size) :
  Calls prog 75 #[v] w fun e w'=>e=.returned (.bool (riseB l))/\Below w.heap.size w w':=by
 obtain⟨E,cap,rfl,u,m,n⟩:=hl
 unfold maxLen at u
 go_enter func75,ntmps75
 go_wp2_with fail
 go_loopw [3] (fun i wr=>∃k:Nat,k<=l.length/\i=.int .i64 k/\qdR l k=true/\Below w.heap.size w wr) (fun i _=>l.length-(intOf i).toNat)
 case atStart=>exact⟨0,Nat.zero_le _,rfl,by simp[qdR],Below.refl _ _⟩
 case round=>
  obtain⟨k,F,rfl,g,c⟩:=hrel
  have z:Hid (qdR l k=true):=g
  clear g
  by_cases hlt:k<l.length
  ·obtain⟨b,x,rfl,y,a⟩:=n (by intro h;rw[h]at hlt;simp at hlt)
   have B:=(c.cell (p:=⟨b,x+k,none⟩) (hB b y)).trans (a k hlt)
   have o:=m l[k] (List.getElem_mem hlt)
   have d:l.getD k ByteArray.empty=l[k]:=by simp[List.getD,hlt]
   cases hnm:nameB l[k] with
   | false=>
    have q:Hid (riseB l=false):=qfM l k hlt (by simp only[qdQ,d,hnm,Bool.false_and])
    have t:Hid (∀w,Calls prog 40 #[.string l[k]] w fun e w'=>e=.returned (.bool false)/\w'=w):=fun w=>by rw[<- hnm];exact qdP _ w o
    clear n m a d hnm
    generalize l[k]=s at *
    go_wp2_with fail
    go_quiet ((go_at_call 40;exact Calls.quiet_of_same (t.out _)))
    go_wp2_with fail
    go_ret
    exact⟨qbL q.out.symm,below_drewN c _⟩
   | true=>
    have t:Hid (∀w,Calls prog 40 #[.string l[k]] w fun e w'=>e=.returned (.bool true)/\w'=w):=fun w=>by rw[<- hnm];exact qdP _ w o
    rcases Nat.eq_zero_or_pos k with rfl|D
    ·have A:Hid (qdR l (0+1)=true):=by show _=_;rw[qgE,z.out,qdQ,d,hnm];rfl
     clear n m a d hnm
     rw[Nat.add_zero]at B
     generalize l[0]=s at *
     go_wp2_with fail
     go_quiet ((go_at_call 40;exact Calls.quiet_of_same (t.out _)))
     go_wp2_with fail
     go_roundw
     case rel=>exact⟨0+1,by omega,by go_num,A.out,below_drewN c _⟩
     case measure=>simp[intOf];omega
    ·obtain⟨j,rfl⟩:∃j,k=j+1:=⟨k-1,by omega⟩
     have f1:=(c.cell (p:=⟨b,x+j,none⟩) (hB b y)).trans (a j (by omega))
     have f:l.getD j ByteArray.empty=l[j]:=by simp[List.getD,show j<l.length by omega]
     have C:decide ((0:Int)<((j+1:Nat):Int))=true:=decide_eq_true (by omega)
     cases hlt':ltB l[j] l[j+1] with
     | false=>
      have q:Hid (riseB l=false):=qfM l (j+1) hlt (by simp only[qdQ,d,Nat.add_sub_cancel,f,hlt'];simp)
      unfold ltB at hlt'
      clear n m a d f hnm
      generalize l[j]=r at *
      generalize l[j+1]=s at *
      go_wp2_with fail
      go_quiet ((go_at_call 40;exact Calls.quiet_of_same (t.out _)))
      go_wp2_with fail
      go_ret
      exact⟨qbL q.out.symm,below_drewN c _⟩
     | true=>
      have A:Hid (qdR l (j+1+1)=true):=by show _=_;rw[qgE,z.out,qdQ,d,hnm,Nat.add_sub_cancel,f,hlt'];simp
      unfold ltB at hlt'
      clear n m a d f hnm
      generalize l[j]=r at *
      generalize l[j+1]=s at *
      go_wp2_with fail
      go_quiet ((go_at_call 40;exact Calls.quiet_of_same (t.out _)))
      go_wp2_with fail
      go_roundw
      case rel=>exact⟨j+1+1,by omega,by go_num,A.out,below_drewN c _⟩
      case measure=>simp[intOf];omega
  ·have q:Hid (riseB l=true):=by show _=_;rw[riseB,show l.length=k by omega];exact z.out
   clear n m
   go_wp2_with fail
   go_ret
   exact⟨qbL q.out.symm,c⟩
theorem qrU(s:ByteArray)(w:World)(hs:s.size<=maxLen):Calls prog 120 #[.string s] w fun e w'=>e=.returned (.bool (textB s))/\w'=w:=by
 unfold maxLen at hs
 by_cases hl:s.size<=60
 ·go_enter func120,ntmps120
  go_wp2
  go_loop [3] (fun i=>∃k:Nat,k<=s.size/\i=.int .i64 k/\(s.data.toList.take k).all qgP=true) (fun i=>s.size-(intOf i).toNat)
  case atStart=>exact⟨0,Nat.zero_le _,rfl,by simp⟩
  case round=>
   obtain⟨k,h,rfl,a⟩:=hrel
   have c:=hidF a
   clear a
   by_cases hlt:k<s.size
   ·cases hb:qgP s[k] with
    | true=>
     have f:Hid (qgP s[k]=true):=hb
     unfold qgP at hb
     rw[decide_eq_true_eq]at hb
     obtain⟨j,l,d⟩:=hb
     have g:((s[k].toNat:Int)==34)=false:=by simpa using d
     clear d
     go_wp2
     go_round
     case rel=>exact⟨k+1,by omega,by go_num,qdS k hlt c.out f.out⟩
     case measure=>simp[intOf];omega
    | false=>
     have b:Hid (textB s=false):=by show _=_;rw[textB,qfN k hlt hb];simp
     unfold qgP at hb
     rw[decide_eq_false_iff_not]at hb
     go_wp2
     all_goals first
      | (go_ret;exact⟨qbL b.out.symm,rfl⟩)
      | (exfalso;apply hb;simp_all)
   ·have b:Hid (textB s=true):=by show _=_;rw[textB,qfO k (by omega) c.out];simp[hl]
    go_wp2
    go_ret
    exact⟨qbL b.out.symm,rfl⟩
 ·go_enter func120,ntmps120
  go_wp2
  go_ret
  exact⟨qbL (by simp[textB,hl]),rfl⟩
theorem xbP (m:Int) (x:ByteArray) (l:List ByteArray) (ka:Option Addr) (kl kc:Nat) (w:World) (na:Option Addr) (nc:Nat) :
  Calls prog 96 #[.agg #[.int .i64 1,.int .i64 m,.string x,.slice na l.length nc,.slice ka kl kc]] w fun e w'=>e=.returned (.bool (decide (-999999999<=m/\m<=999999999) && x.toList.isEmpty && ((l.length:Int)==0) && ((kl:Int)==0)))/\Below w.heap.size w w':=by
 generalize hd:decide (-999999999<=m/\m<=999999999)=A
 have a:=hidF hd
 clear hd
 go_enter func96,ntmps96
 go_wp2_with (go_at_call 45;refine (qcJ _ _ _ _).mono ?_;rintro e w' ⟨rfl,rfl⟩;rw[a.out])
 all_goals
  go_ret
  exact⟨qbL (by simp_all),(Below.refl _ _).alloc (Nat.le_refl _) _⟩
theorem xbQ (m:Int) (x:ByteArray) (l:List ByteArray) (ka:Option Addr) (kl kc:Nat) (w:World) (na:Option Addr) (nc:Nat) (hx:x.size<=maxLen) :
  Calls prog 96 #[.agg #[.int .i64 2,.int .i64 m,.string x,.slice na l.length nc,.slice ka kl kc]] w fun e w'=>e=.returned (.bool ((m==0) && textB x && ((l.length:Int)==0) && ((kl:Int)==0)))/\Below w.heap.size w w':=by
 generalize hd:textB x=A
 have a:Hid (textB x=A):=hd
 clear hd
 go_enter func96,ntmps96
 go_wp2_with (go_at_call 120;refine (qrU _ _ hx).mono ?_;rintro e w' ⟨rfl,rfl⟩;rw[a.out])
 all_goals
  go_ret
  exact⟨qbL (by simp_all),(Below.refl _ _).alloc (Nat.le_refl _) _⟩
theorem xbR (m:Int) (x:ByteArray) (l:List ByteArray) (ka:Option Addr) (kl kc:Nat) (w:World) (na:Option Addr) (nc:Nat) :
  Calls prog 96 #[.agg #[.int .i64 3,.int .i64 m,.string x,.slice na l.length nc,.slice ka kl kc]] w fun e w'=>e=.returned (.bool (decide (0<=m/\m<=1) && x.toList.isEmpty && ((l.length:Int)==0) && ((kl:Int)==0)))/\Below w.heap.size w w':=by
 generalize hd:decide (0<=m/\m<=1)=A
 have a:=hidF hd
 clear hd
 go_enter func96,ntmps96
 go_wp2_with (go_at_call 45;refine (qcJ _ _ _ _).mono ?_;rintro e w' ⟨rfl,rfl⟩;rw[a.out])
 all_goals
  go_ret
  exact⟨qbL (by simp_all),(Below.refl _ _).alloc (Nat.le_refl _) _⟩
theorem xbS (m:Int) (x:ByteArray) (l:List ByteArray) (ka:Option Addr) (kl kc:Nat) (w:World) (na:Option Addr) (nc:Nat) :
  Calls prog 96 #[.agg #[.int .i64 4,.int .i64 m,.string x,.slice na l.length nc,.slice ka kl kc]] w fun e w'=>e=.returned (.bool ((m==0) && x.toList.isEmpty && ((l.length:Int)==0) && decide ((kl:Int)<=20)))/\Below w.heap.size w w':=by
 go_enter func96,ntmps96
 go_wp2_with fail
 all_goals
  go_ret
  exact⟨qbL (by simp_all),(Below.refl _ _).alloc (Nat.le_refl _) _⟩
theorem xbT (m:Int) (x:ByteArray) (l:List ByteArray) (ka:Option Addr) (kl kc:Nat) (w:World) (na:Option Addr) (nc:Nat) (S:Nat->Prop) (hl:StrsIn S w l (.slice na l.length nc)) (hB:∀ b,S b->b<w.heap.size) :
  Calls prog 96 #[.agg #[.int .i64 5,.int .i64 m,.string x,.slice na l.length nc,.slice ka kl kc]] w fun e w'=>e=.returned (.bool ((m==0) && x.toList.isEmpty && ((l.length:Int)==(kl:Int)) && riseB l))/\Below w.heap.size w w':=by
 by_cases hm:m=0
 ·subst hm
  cases hx:x.toList.isEmpty with
  | false=>
   go_enter func96,ntmps96
   go_wp2_with fail
   go_ret
   exact⟨rfl,(Below.refl _ _).alloc (Nat.le_refl _) _⟩
  | true=>
   by_cases i:l.length=kl
   ·subst i
    have a:=(Below.refl w.heap.size w).alloc (Nat.le_refl _) (.cells #[.int .i64 5,.int .i64 0,.string x,.slice na l.length nc,.slice ka l.length kc] 67)
    have c:=hl.keep (qaB a hB) (fun _ h=>h)
    have j:Hid (Calls prog 75 #[.slice na l.length nc] _ _):=qjW S l _ _ c (fun b hb=>by have:=hB b hb;simp;omega)
    have i:((l.length:Int)==(l.length:Int))=true:=by simp
    clear hl c hB
    go_enter func96,ntmps96
    go_wp2_with fail
    refine j.out.mono ?_
    rintro e w' ⟨rfl,g⟩
    go_wp2_with fail
    go_ret
    exact⟨by simp,qaA a (by simp) g⟩
   ·have d:((l.length:Int)==(kl:Int))=false:=by simp;omega
    go_enter func96,ntmps96
    go_wp2_with fail
    go_ret
    exact⟨qbL (by simp[d]),(Below.refl _ _).alloc (Nat.le_refl _) _⟩
 ·have f:(m==0)=false:=by simpa using hm
  clear hm
  go_enter func96,ntmps96
  go_wp2_with fail
  go_ret
  exact⟨qbL (by simp[f]),(Below.refl _ _).alloc (Nat.le_refl _) _⟩
theorem xbU (m:Int) (x:ByteArray) (l:List ByteArray) (ka:Option Addr) (kl kc:Nat) (w:World) (na:Option Addr) (nc:Nat) :
  Calls prog 96 #[.agg #[.int .i64 6,.int .i64 m,.string x,.slice na l.length nc,.slice ka kl kc]] w fun e w'=>e=.returned (.bool ((m==0) && x.toList.isEmpty && ((l.length:Int)==0) && decide ((kl:Int)<=1)))/\Below w.heap.size w w':=by
 go_enter func96,ntmps96
 go_wp2_with fail
 all_goals
  go_ret
  exact⟨qbL (by simp_all),(Below.refl _ _).alloc (Nat.le_refl _) _⟩
theorem qpR (s m:Int) (x:ByteArray) (l:List ByteArray) (ka:Option Addr) (kl kc:Nat) (w:World) (na:Option Addr) (nc:Nat)
  (h1:(s==1)=false) (h2:(s==2)=false) (h3:(s==3)=false) (h4:(s==4)=false) (h5:(s==5)=false) (h6:(s==6)=false) :
  Calls prog 96 #[.agg #[.int .i64 s,.int .i64 m,.string x,.slice na l.length nc,.slice ka kl kc]] w fun e w'=>e=.returned (.bool false)/\Below w.heap.size w w':=by
 have a:=(Below.refl w.heap.size w).alloc (Nat.le_refl _) (.cells #[.int .i64 s,.int .i64 m,.string x,.slice na l.length nc,.slice ka kl kc] 67)
 go_enter func96,ntmps96
 go_wp2_with fail
 go_ret
 exact⟨rfl,a⟩
theorem qlX (s m:Int) (x:ByteArray) (l:List ByteArray) (ka:Option Addr) (kl kc:Nat) (w:World) (na:Option Addr) (nc:Nat) (hx:x.size<=maxLen)
  (S:Nat->Prop) (hl:StrsIn S w l (.slice na l.length nc)) (hB:∀b,S b->b<w.heap.size) :
  Calls prog 96 #[.agg #[.int .i64 s,.int .i64 m,.string x,.slice na l.length nc,.slice ka kl kc]] w fun e w'=>e=.returned (.bool (qaO s m x l kl))/\Below w.heap.size w w':=by
 unfold qaO
 by_cases h1:s=1
 ·subst h1;rw[if_pos rfl];exact xbP m x l ka kl kc w na nc
 rw[if_neg h1]
 by_cases h2:s=2
 ·subst h2;rw[if_pos rfl];exact xbQ m x l ka kl kc w na nc hx
 rw[if_neg h2]
 by_cases h3:s=3
 ·subst h3;rw[if_pos rfl];exact xbR m x l ka kl kc w na nc
 rw[if_neg h3]
 by_cases h4:s=4
 ·subst h4;rw[if_pos rfl];exact xbS m x l ka kl kc w na nc
 rw[if_neg h4]
 by_cases h5:s=5
 ·subst h5;rw[if_pos rfl];exact xbT m x l ka kl kc w na nc S hl hB
 rw[if_neg h5]
 by_cases h6:s=6
 ·subst h6;rw[if_pos rfl];exact xbU m x l ka kl kc w na nc
 rw[if_neg h6]
 exact qpR s m x l ka kl kc w na nc (by simp[h1]) (by simp[h2]) (by simp[h3]) (by simp[h4]) (by simp[h5]) (by simp[h6])
def qbZ(n:Nat)(t:T n)(d:Int):Int:=if goodT n t d=true/\cntT n t<=120 then (cntT n t:Int) else -1
theorem qrV(n:Nat)(t:T (n+1))(d:Int)(h:(decide (d<=6) && qiF (show Nd (T n) from t))=false):qbZ (n+1) t d = -1:=by
 unfold qbZ;rw[if_neg];rintro ⟨a,-⟩;simp only[goodT,h,Bool.false_and]at a;cases a
theorem qxY(n:Nat)(t:T (n+1))(d:Int)(k:Nat)(hk:k<(Nd.kids t).length)(h:qbZ n (Nd.kids t)[k] (d+1)<0):qbZ (n+1) t d = -1:=by
 unfold qbZ;rw[if_neg]
 rintro ⟨a,c⟩
 simp only[goodT,Bool.and_eq_true,List.all_eq_true]at a
 have b:=a.2 _ (List.getElem_mem hk)
 have e:=qcA (fun k=>cntT n k) (Nd.kids t) _ (List.getElem_mem hk)
 simp only[cntT]at c
 unfold qbZ at h
 rw[if_pos ⟨b,by omega⟩]at h
 omega
theorem quL(n:Nat)(t:T (n+1))(d:Int)(k:Nat)(h:120<1+sumL (fun k=>cntT n k) ((Nd.kids t).take k)):qbZ (n+1) t d = -1:=by
 unfold qbZ;rw[if_neg]
 rintro ⟨-,a⟩
 have:=qcP (fun k=>cntT n k) ((Nd.kids t).take k) ((Nd.kids t).drop k)
 rw[List.take_append_drop]at this
 simp only[cntT]at a
 omega
theorem qxZ (n:Nat) (t:T (n+1)) (d:Int) (h:(decide (d<=6) && qiF (show Nd (T n) from t))=true) (hall:(Nd.kids t).all (fun k=>goodT n k (d+1))=true) (hs:1+sumL (fun k=>cntT n k) (Nd.kids t)<=120) :
  qbZ (n+1) t d=1+(sumL (fun k=>cntT n k) (Nd.kids t):Int):=by
 unfold qbZ;rw[if_pos]
 ·simp only[cntT];omega
 ·exact⟨by simp only[goodT,h,hall,Bool.and_self],by simp only[cntT];omega⟩
theorem qoH(n:Nat)(t:T n)(d:Int)(h:0<=qbZ n t d):qbZ n t d=cntT n t/\goodT n t d=true/\cntT n t<=120:=by
 unfold qbZ at h ⊢
 by_cases hc:goodT n t d=true/\cntT n t<=120
 ·rw[if_pos hc];exact⟨rfl,hc⟩
 ·rw[if_neg hc]at h;omega
theorem xbV(n:Nat)(t:T n)(d:Int): -1<=qbZ n t d/\qbZ n t d<=120:=by
 unfold qbZ;split<;>omega
theorem qrW{α:Type}{p:α->Bool}{l:List α}(k:Nat)(h:k<l.length)(ht:(l.take k).all p=true)(hf:p l[k]=true):(l.take (k+1)).all p=true:=by
 rw[List.take_succ_eq_append_getElem h,List.all_append,ht];simpa using hf
def qlY(n:Nat):Prop:=∀(S:Nat->Prop)(t:T n)(c0 c1 c2 c3 c4:Value)(d:Int)(w:World),TreeIn S w n t c0 c1 c2 c3 c4->(∀b,S b->b<w.heap.size)->1<=d->d<=7 ->
 Calls prog 74 #[.agg #[c0,c1,c2,c3,c4],.int .i64 d] w fun e w'=>e=.returned (.int .i64 (qbZ n t d))/\Below w.heap.size w w'
theorem qrX(n:Nat)(hn:qlY n):qlY (n+1):=by
 intro S t c0 c1 c2 c3 c4 d w ht z aC aD
 obtain⟨rfl,rfl,rfl,hs,-,-,R,U⟩:=ht
 obtain⟨na,nc,rfl,-,-,-⟩:=id R
 obtain⟨K,L,rfl,H,f⟩:=id U
 unfold maxLen at H
 have j:=(Below.refl w.heap.size w).alloc (Nat.le_refl _) (.cells #[.int .i64 (Nd.sort t),.int .i64 (Nd.num t),.string (Nd.text t),.slice na (Nd.names t).length nc,.slice K (Nd.kids t).length L] 67)
 by_cases hd6:d<=6
 case neg=>
  have A:Hid (qbZ (n+1) t d = -1):=qrV n t d (by simp[hd6])
  go_enter func74,ntmps74
  go_wp2_with fail
  go_ret
  exact⟨qaN A.out.symm,j⟩
 have B:=R.keep (qaB j z) (fun _ h=>h)
 have Y:Hid (Calls prog 96 _ _ _):=qlX (Nd.sort t) (Nd.num t) (Nd.text t) (Nd.names t) K (Nd.kids t).length L _ na nc hs S B (fun b hb=>by have:=z b hb;simp;omega)
 have hK:=U.keepT (qaB j z) (fun _ h=>h)
 have HD:Hid (d<=6):=hd6
 go_enter func74,ntmps74
 go_wp2_with fail
 refine Y.out.mono ?_
 rintro e V ⟨rfl,l⟩
 obtain⟨hc,hf⟩:=bcell l
 have M:=l.size
 simp at M
 have y:=qaA j (by simp) l
 have m4:V.cell? ⟨w.heap.size,4,none⟩=some (.slice K (Nd.kids t).length L):=by rw[hc _ _ (by simp)];simp[go_sem]
 have N:=hK.keepT (qaB l (fun b hb=>by have:=z b hb;simp;omega)) (fun _ h=>h)
 clear j B Y hK l hc hf R U f
 cases hal:qaO (Nd.sort t) (Nd.num t) (Nd.text t) (Nd.names t) (Nd.kids t).length with
 | false=>
  have A:Hid (qbZ (n+1) t d = -1):=qrV n t d (by show (_ && qaO _ _ _ _ _)=_;rw[hal];simp)
  clear hal
  go_wp2_with fail
  go_ret
  exact⟨qaN A.out.symm,y⟩
 | true=>
  have O:Hid ((decide (d<=6) && qiF (show Nd (T n) from t))=true):=by show (_ && qaO _ _ _ _ _)=_;rw[hal];simp[hd6]
  clear hal
  obtain⟨_,_,W,-,f⟩:=N
  cases W
  go_wp2_with fail
  go_loopw [5,6] (fun a i wr=>∃ k:Nat,k<=(Nd.kids t).length/\i=.int .i64 k/\a=.int .i64 (1+(sumL (fun k=>cntT n k) ((Nd.kids t).take k):Int))/\1+sumL (fun k=>cntT n k) ((Nd.kids t).take k)<=120 /\
    ((Nd.kids t).take k).all (fun k=>goodT n k (d+1))=true/\Below V.heap.size V wr) (fun _ i _=>(Nd.kids t).length-(intOf i).toNat)
  case atStart=>exact⟨0,Nat.zero_le _,rfl,by simp[sumL],by simp[sumL],by simp,Below.refl _ _⟩
  case round=>
   obtain⟨k,hk,rfl,rfl,I,x,c⟩:=hrel
   have u:=hidF x
   clear x
   have P:=c.size
   have q4:wr.cell? ⟨w.heap.size,4,none⟩=some (.slice K (Nd.kids t).length L):=(c.cell (p:=⟨w.heap.size,4,none⟩) (by show w.heap.size<_;omega)).trans m4
   have C:=hidF I
   generalize hgs:sumL (fun k=>cntT n k) ((Nd.kids t).take k)=sm at *
   have D:=hidF hgs
   clear hgs C
   by_cases hlt:k<(Nd.kids t).length
   ·obtain⟨b,m,rfl,X,o⟩:=f (by intro h;rw[h]at hlt;simp at hlt)
    obtain⟨x0,x1,x2,x3,x4,e0,e1,e2,e3,e4,hr⟩:=o k hlt
    have aA:=z b X
    have f0:=(c.cell (p:=⟨b,m+k*5,none⟩) (by show b<_;omega)).trans e0
    have f1:=(c.cell (p:=⟨b,m+k*5+1,none⟩) (by show b<_;omega)).trans e1
    have f2:=(c.cell (p:=⟨b,m+k*5+2,none⟩) (by show b<_;omega)).trans e2
    have f3:=(c.cell (p:=⟨b,m+k*5+3,none⟩) (by show b<_;omega)).trans e3
    have f4:=(c.cell (p:=⟨b,m+k*5+4,none⟩) (by show b<_;omega)).trans e4
    have q:=hr.keep (qaB c (fun b hb=>by have:=z b hb;omega)) (fun _ h=>h)
    clear f o e0 e1 e2 e3 e4 hr
    go_wp2_with fail
    refine (hn S (Nd.kids t)[k] x0 x1 x2 x3 x4 (d+1) wr q (fun b hb=>by have:=z b hb;omega) (by omega) (by omega)).mono ?_
    rintro e w2 ⟨rfl,J⟩
    have E:=qaA c P J
    have aB:=xbV n (Nd.kids t)[k] (d+1)
    have F:Hid (qbZ n (Nd.kids t)[k] (d+1)<0->qbZ (n+1) t d = -1):=fun h=>qxY n t d k hlt h
    have v:Hid (0<=qbZ n (Nd.kids t)[k] (d+1)->qbZ n (Nd.kids t)[k] (d+1)=cntT n (Nd.kids t)[k]/\goodT n (Nd.kids t)[k] (d+1)=true):=fun h=>⟨(qoH n _ _ h).1,(qoH n _ _ h).2.1⟩
    have g:Hid (sumL (fun k=>cntT n k) ((Nd.kids t).take (k+1))=sm+cntT n (Nd.kids t)[k]):=by show _=_;rw[qbB _ _ _ hlt,D.out]
    have s:=qaA y (by omega) E
    clear J q f0 f1 f2 f3 f4 c q4
    generalize qbZ n (Nd.kids t)[k] (d+1)=r at *
    by_cases hr0:r<0
    ·go_wp2_with fail
     go_ret
     exact⟨qaN (F.out hr0).symm,s⟩
    ·by_cases hmany:120<1+(sm:Int)+r
     ·go_wp2_with fail
      go_ret
      refine⟨qaN (quL n t d (k+1) ?_).symm,s⟩
      have:=v.out (by omega)
      rw[g.out];omega
     ·go_wp2_with fail
      go_roundw
      case rel=>
       have Z:=v.out (by omega)
       refine⟨k+1,by omega,by go_num,?_,?_,qrW k hlt u.out Z.2,E⟩
       ·rw[g.out,Z.1];go_num
       ·rw[g.out];omega
      case measure=>simp[intOf];omega
   ·have G:k=(Nd.kids t).length:=by omega
    have A:Hid (qbZ (n+1) t d=1+(sm:Int)):=by
     show _=_
     have h1:=u.out
     have Q:=D.out
     rw[G,List.take_length]at h1 Q
     rw[qxZ n t d O.out h1 (by rw[Q];omega),Q]
    have s:=qaA y (by omega) c
    clear G f
    go_wp2_with fail
    go_ret
    exact⟨qaN A.out.symm,s⟩
theorem quM:∀n,qlY n:=by
 intro n
 induction n with
 | zero=>intro S t c0 c1 c2 c3 c4 d w a;exact a.elim
 | succ n ih=>exact qrX n ih
theorem okT_eq(n:Nat)(t:T n):decide (0<qbZ n t 1)=okT n t:=by
 unfold qbZ okT
 by_cases hc:goodT n t 1=true/\cntT n t<=120
 ·rw[if_pos hc,hc.1]
  have:=qvT n t 1 hc.1
  simp[hc.2];omega
 ·rw[if_neg hc]
  cases hg:goodT n t 1 with
  | false=>simp
  | true=>simp[hg]at hc;simp;omega
theorem qyA (n:Nat) (S:Nat->Prop) (t:T n) (c0 c1 c2 c3 c4:Value) (w:World) (ht:TreeIn S w n t c0 c1 c2 c3 c4) (hB:∀ b,S b->b<w.heap.size) :
  Calls prog 55 #[.agg #[c0,c1,c2,c3,c4]] w fun e w'=>e=.returned (.bool (okT n t))/\Below w.heap.size w w':=by
 obtain⟨j,k,l,m,o,p,q,r,s,rfl,rfl,rfl,rfl,rfl⟩:=ht.shape
 have a:=(Below.refl w.heap.size w).alloc (Nat.le_refl _) (.cells #[.int .i64 j,.int .i64 k,.string l,.slice m o p,.slice q r s] 67)
 have c:=ht.keep (qaB a hB) (fun _ h=>h)
 have i:=okT_eq n t
 have f:Hid (decide (0<qbZ n t 1)=okT n t):=i
 clear i ht
 go_enter func55,ntmps55
 go_wp2_with fail
 refine (quM n S t _ _ _ _ _ 1 _ c (fun b hb=>by have:=hB b hb;simp;omega) (by omega) (by omega)).mono ?_
 rintro e u ⟨rfl,d⟩
 have g:=qaA a (by simp) d
 clear a d c
 go_wp2_with fail
 go_ret
 exact⟨qbL f.out,g⟩
def qkC(n:Nat):Prop:=∀(S:Nat->Prop)(t:K n)(c0 c1 c2:Value)(d:Int)(w:World),KindIn S w n t c0 c1 c2->(∀b,S b->b<w.heap.size)->1<=d->d<=7 ->
 Calls prog 59 #[.agg #[c0,c1,c2],.int .i64 d] w fun e w'=>e=.returned (.int .i64 (qbD n t d))/\Below w.heap.size w w'
theorem qqL (s:Int) (l:List ByteArray) (kl:Nat):(qbJ s l kl=true/\1<=s/\s<=6/\((s<4/\l.length=0/\kl=0)∨(s=4/\l.length=0/\kl=1)∨(s=6/\l.length=0/\kl=1)∨(s=5/\l.length=kl/\riseB l=true))) ∨
  (qbJ s l kl=false/\(¬(1<=s/\s<=6)∨(1<=s/\s<4/\0<l.length)∨(1<=s/\s<4/\l.length=0/\0<kl)∨(s=4/\0<l.length)∨(s=6/\0<l.length)∨(s=4/\l.length=0/\kl≠1)∨(s=6/\l.length=0/\kl≠1)∨(s=5/\l.length≠kl)∨(s=5/\l.length=kl/\riseB l=false))):=by
 cases h:qbJ s l kl with
 | true=>
  refine .inl ⟨rfl,?_⟩
  unfold qbJ at h
  by_cases h1:s=1
  ·subst h1;simp at h;exact⟨by omega,by omega,.inl ⟨by omega,by simp[h.1],by omega⟩⟩
  rw[if_neg h1]at h
  by_cases h2:s=2
  ·subst h2;simp at h;exact⟨by omega,by omega,.inl ⟨by omega,by simp[h.1],by omega⟩⟩
  rw[if_neg h2]at h
  by_cases h3:s=3
  ·subst h3;simp at h;exact⟨by omega,by omega,.inl ⟨by omega,by simp[h.1],by omega⟩⟩
  rw[if_neg h3]at h
  by_cases h4:s=4
  ·subst h4;simp at h;exact⟨by omega,by omega,.inr (.inl ⟨rfl,by simp[h.1],by omega⟩)⟩
  rw[if_neg h4]at h
  by_cases h5:s=5
  ·subst h5;simp at h;exact⟨by omega,by omega,.inr (.inr (.inr ⟨rfl,by omega,h.2⟩))⟩
  rw[if_neg h5]at h
  by_cases h6:s=6
  ·subst h6;simp at h;exact⟨by omega,by omega,.inr (.inr (.inl ⟨rfl,by simp[h.1],by omega⟩))⟩
  rw[if_neg h6]at h
  cases h
 | false=>
  refine .inr ⟨rfl,?_⟩
  by_cases hr:1<=s/\s<=6
  ·right
   unfold qbJ at h
   rcases (show (s=1∨s=2∨s=3)∨s=4∨s=6∨s=5 by omega) with a|a|a|a
   ·by_cases hl:l.length=0
    ·refine .inr (.inl ⟨by omega,by omega,hl,?_⟩)
     rcases a with a|a|a<;>subst a<;>simp at h<;>rcases Nat.eq_zero_or_pos kl with b|b
     all_goals first
      | exact b
      | (exfalso;apply h<;>first|(exact List.eq_nil_of_length_eq_zero hl)|omega)
    ·exact .inl ⟨by omega,by omega,by omega⟩
   ·subst a;simp at h
    by_cases hl:l.length=0
    ·exact .inr (.inr (.inr (.inr (.inl ⟨rfl,hl,fun e=>h (List.eq_nil_of_length_eq_zero hl) (by omega)⟩))))
    ·exact .inr (.inr (.inl ⟨rfl,by omega⟩))
   ·subst a;simp at h
    by_cases hl:l.length=0
    ·exact .inr (.inr (.inr (.inr (.inr (.inl ⟨rfl,hl,fun e=>h (List.eq_nil_of_length_eq_zero hl) (by omega)⟩)))))
    ·exact .inr (.inr (.inr (.inl ⟨rfl,by omega⟩)))
   ·subst a;simp at h
    by_cases hl:l.length=kl
    ·exact .inr (.inr (.inr (.inr (.inr (.inr (.inr ⟨rfl,hl,h (by omega)⟩))))))
    ·exact .inr (.inr (.inr (.inr (.inr (.inr (.inl ⟨rfl,hl⟩))))))
  ·exact .inl hr
theorem qtA(n:Nat)(hn:qkC n):qkC (n+1):=by
 intro S t c0 c1 c2 d w ht R aV aW
 obtain⟨rfl,-,h3,h4⟩:=ht
 obtain⟨na,nc,rfl,-,-,-⟩:=id h3
 obtain⟨Y,Z,rfl,aK,g⟩:=id h4
 unfold maxLen at aK
 generalize hs:Kd.sort t=s at *
 have y:=(Below.refl w.heap.size w).alloc (Nat.le_refl _) (.cells #[.int .i64 s,.slice na (Kd.names t).length nc,.slice Y (Kd.kids t).length Z] 55)
 by_cases hd6:d<=6
 case neg=>
  have F:Hid (qbD (n+1) t d = -1):=qrJ n t d (by simp[hd6])
  clear hs
  go_enter func59,ntmps59
  go_wp2_with fail
  go_ret
  exact⟨qaN F.out.symm,y⟩
 have aE:=h3.keep (qaB y R) (fun _ h=>h)
 have HC:Hid (Calls prog 75 _ _ _):=qjW S (Kd.names t) (.slice na (Kd.names t).length nc) _ aE (fun b hb=>by have:=R b hb;simp;omega)
 have hK:=h4.keepK (qaB y R) (fun _ h=>h)
 rcases qqL s (Kd.names t) (Kd.kids t).length with ⟨aA,aP,aQ,O⟩|⟨aA,O⟩
 case inr=>
  have F:Hid (qbD (n+1) t d = -1):=qrJ n t d (by show (_ && qbJ _ _ _)=_;rw[show (Kd.sort t)=s from hs,aA];simp)
  clear aA hs h3 h4 g hK aE hn
  generalize (Kd.kids t).length=kl at *
  generalize hln:(Kd.names t).length=ln at *
  have U:Hid (∀w,Calls prog 45 #[.int .i64 s,.int .i64 1,.int .i64 6] w fun e w'=>e=.returned (.bool (decide (1<=s/\s<=6)))/\w'=w):=fun w=>qcJ s 1 6 w
  rcases O with hc|⟨aR,aL,m⟩|⟨aR,aL,m,l⟩|⟨rfl,m⟩|⟨rfl,m⟩|⟨rfl,m,l⟩|⟨rfl,m,l⟩|⟨rfl,m⟩|⟨rfl,m,l⟩
  ·have hd:decide (1<=s/\s<=6)=false:=decide_eq_false hc
   clear hc
   go_enter func59,ntmps59
   go_wp2_with (go_at_call 45;refine (U.out _).mono ?_;rintro e w' ⟨rfl,rfl⟩;rw[hd])
   go_ret
   exact⟨qaN F.out.symm,y⟩
  ·have hd:decide (1<=s/\s<=6)=true:=decide_eq_true (by omega)
   have he:(s==5)=false:=by simp;omega
   have aG:(s != 5)=true:=by simp;omega
   go_enter func59,ntmps59
   go_wp2_with (go_at_call 45;refine (U.out _).mono ?_;rintro e w' ⟨rfl,rfl⟩;rw[hd])
   go_ret
   exact⟨qaN F.out.symm,y⟩
  ·have hd:decide (1<=s/\s<=6)=true:=decide_eq_true (by omega)
   have he:(s==5)=false:=by simp;omega
   have aG:(s != 5)=true:=by simp;omega
   have aM:¬0<(ln:Int):=by omega
   clear m HC
   go_enter func59,ntmps59
   go_wp2_with (go_at_call 45;refine (U.out _).mono ?_;rintro e w' ⟨rfl,rfl⟩;rw[hd])
   go_ret
   exact⟨qaN F.out.symm,y⟩
  iterate 2
   ·go_enter func59,ntmps59
    go_wp2_with (go_at_call 45;refine (U.out _).mono ?_;rintro e w' ⟨rfl,rfl⟩)
    go_ret
    exact⟨qaN F.out.symm,y⟩
  iterate 2
   ·have aM:¬0<(ln:Int):=by omega
    have aH:((kl:Int) != 1)=true:=by simp;omega
    clear m HC
    go_enter func59,ntmps59
    go_wp2_with (go_at_call 45;refine (U.out _).mono ?_;rintro e w' ⟨rfl,rfl⟩)
    go_ret
    exact⟨qaN F.out.symm,y⟩
  ·have aH:((ln:Int) != (kl:Int))=true:=by simp;omega
   go_enter func59,ntmps59
   go_wp2_with (go_at_call 45;refine (U.out _).mono ?_;rintro e w' ⟨rfl,rfl⟩)
   go_ret
   exact⟨qaN F.out.symm,y⟩
  ·subst m
   have aH:((ln:Int) != (ln:Int))=false:=by simp
   go_enter func59,ntmps59
   go_wp2_with (go_at_call 45;refine (U.out _).mono ?_;rintro e w' ⟨rfl,rfl⟩)
   refine HC.out.mono ?_
   rintro e w' ⟨rfl,aS⟩
   rw[l]
   have A:=qaA y (by simp) aS
   go_wp2_with fail
   go_ret
   exact⟨qaN F.out.symm,A⟩
 have aD:Hid ((decide (d<=6) && qrI (show Kd (K n) from t))=true):=by show (_ && qbJ _ _ _)=_;rw[show (Kd.sort t)=s from hs,aA];simp[hd6]
 have U:Hid (∀w,Calls prog 45 #[.int .i64 s,.int .i64 1,.int .i64 6] w fun e w'=>e=.returned (.bool true)/\w'=w):=fun w=>by rw[<- decide_eq_true (⟨aP,aQ⟩:1<=s/\s<=6)];exact qcJ s 1 6 w
 have G:w.heap.size<(w.alloc (.cells #[.int .i64 s,.slice na (Kd.names t).length nc,.slice Y (Kd.kids t).length Z] 55)).heap.size:=by simp
 have m2:(w.alloc (.cells #[.int .i64 s,.slice na (Kd.names t).length nc,.slice Y (Kd.kids t).length Z] 55)).cell? ⟨w.heap.size,2,none⟩=some (.slice Y (Kd.kids t).length Z):=by simp[go_sem]
 clear aA hs h3 h4 g aE
 have A:Below w.heap.size w _:=y
 rcases O with ⟨aL,m,l⟩|⟨rfl,m,l⟩|⟨rfl,m,l⟩|⟨rfl,m,l⟩
 ·generalize hw1:w.alloc (.cells #[.int .i64 s,.slice na (Kd.names t).length nc,.slice Y (Kd.kids t).length Z] 55)=V at *
  obtain⟨_,_,P,-,g⟩:=hK
  cases P
  have H:Hid ((Kd.kids t).length=0):=l
  rw[l]at m2
  rw[m,l]at hw1 ⊢
  have W:=hidF hw1
  have he:(s==5)=false:=by simp;omega
  have aG:(s != 5)=true:=by simp;omega
  have aT:(s==4)=false:=by simp;omega
  have aU:(s==6)=false:=by simp;omega
  clear m l HC y hw1
  go_enter func59,ntmps59
  go_wp2_with (go_at_call 45;refine (U.out _).mono ?_;rintro e w' ⟨rfl,rfl⟩)
  rw[W.out]
  go_loopw [6,7] (fun a i wr=>∃ k:Nat,k<=0/\i=.int .i64 k/\a=.int .i64 (1+(sumL (fun k=>cntK n k) ((Kd.kids t).take k):Int))/\1+sumL (fun k=>cntK n k) ((Kd.kids t).take k)<=40 /\
    ((Kd.kids t).take k).all (fun k=>goodK n k (d+1))=true/\Below V.heap.size V wr) (fun _ i _=>0-(intOf i).toNat)
  case atStart=>exact⟨0,Nat.zero_le _,rfl,by simp[sumL],by simp[sumL],by simp,Below.refl _ _⟩
  case round=>
   obtain⟨k,hk,rfl,rfl,aB,o,c⟩:=hrel
   have x:=hidF o
   clear o
   have Q:=c.size
   have q4:wr.cell? ⟨w.heap.size,2,none⟩=some (.slice Y 0 Z):=(c.cell (p:=⟨w.heap.size,2,none⟩) G).trans m2
   generalize hgs:sumL (fun k=>cntK n k) ((Kd.kids t).take k)=sm at *
   have E:=hidF hgs
   clear hgs
   by_cases hlt:k<0
   ·exact absurd hlt (Nat.not_lt_zero _)
   ·have B:k=(Kd.kids t).length:=by have:=H.out;omega
    have F:Hid (qbD (n+1) t d=1+(sm:Int)):=by
     show _=_
     have X:=x.out
     have N:=E.out
     rw[B,List.take_length]at X N
     rw[qhD n t d aD.out X (by rw[N];omega),N]
    have v:=qaA A (by omega) c
    clear B g
    go_wp2_with fail
    go_ret
    exact⟨qaN F.out.symm,v⟩
 ·generalize hw1:w.alloc (.cells #[.int .i64 4,.slice na (Kd.names t).length nc,.slice Y (Kd.kids t).length Z] 55)=V at *
  obtain⟨_,_,P,-,g⟩:=hK
  cases P
  have H:Hid ((Kd.kids t).length=1):=l
  rw[l]at m2
  rw[m,l]at hw1 ⊢
  have W:=hidF hw1
  clear m l HC y hw1
  go_enter func59,ntmps59
  go_wp2_with (go_at_call 45;refine (U.out _).mono ?_;rintro e w' ⟨rfl,rfl⟩)
  rw[W.out]
  go_loopw [6,7] (fun a i wr=>∃ k:Nat,k<=1/\i=.int .i64 k/\a=.int .i64 (1+(sumL (fun k=>cntK n k) ((Kd.kids t).take k):Int))/\1+sumL (fun k=>cntK n k) ((Kd.kids t).take k)<=40 /\
    ((Kd.kids t).take k).all (fun k=>goodK n k (d+1))=true/\Below V.heap.size V wr) (fun _ i _=>1-(intOf i).toNat)
  case atStart=>exact⟨0,Nat.zero_le _,rfl,by simp[sumL],by simp[sumL],by simp,Below.refl _ _⟩
  case round=>
   obtain⟨k,hk,rfl,rfl,aB,o,c⟩:=hrel
   have x:=hidF o
   clear o
   have Q:=c.size
   have q4:wr.cell? ⟨w.heap.size,2,none⟩=some (.slice Y 1 Z):=(c.cell (p:=⟨w.heap.size,2,none⟩) G).trans m2
   generalize hgs:sumL (fun k=>cntK n k) ((Kd.kids t).take k)=sm at *
   have E:=hidF hgs
   clear hgs
   by_cases hlt:k<1
   ·have f:k<(Kd.kids t).length:=by have:=H.out;omega
    obtain⟨b,D,rfl,aC,u⟩:=g (by intro h;rw[h]at f;simp at f)
    obtain⟨x0,x1,x2,e0,e1,e2,hr⟩:=u k f
    have aI:=R b aC
    have f0:=(c.cell (p:=⟨b,D+k*3,none⟩) (by show b<_;omega)).trans e0
    have f1:=(c.cell (p:=⟨b,D+k*3+1,none⟩) (by show b<_;omega)).trans e1
    have f2:=(c.cell (p:=⟨b,D+k*3+2,none⟩) (by show b<_;omega)).trans e2
    have q:=hr.keep (qaB c (fun b hb=>by have:=R b hb;omega)) (fun _ h=>h)
    clear g u e0 e1 e2 hr
    have I:Hid (Calls prog 59 _ _ _):=hn S (Kd.kids t)[k] x0 x1 x2 (d+1) wr q (fun b hb=>by have:=R b hb;omega) (by omega) (by omega)
    have aJ:=qlL n (Kd.kids t)[k] (d+1)
    have J:Hid (qbD n (Kd.kids t)[k] (d+1)<0->qbD (n+1) t d = -1):=fun h=>qjT n t d k f h
    have z:Hid (0<=qbD n (Kd.kids t)[k] (d+1)->qbD n (Kd.kids t)[k] (d+1)=cntK n (Kd.kids t)[k]/\goodK n (Kd.kids t)[k] (d+1)=true):=fun h=>⟨(qeT n _ _ h).1,(qeT n _ _ h).2.1⟩
    have j:Hid (sumL (fun k=>cntK n k) ((Kd.kids t).take (k+1))=sm+cntK n (Kd.kids t)[k]):=by show _=_;rw[qbB _ _ _ f,E.out]
    have C:Hid (goodK n (Kd.kids t)[k] (d+1)=true->((Kd.kids t).take (k+1)).all (fun k=>goodK n k (d+1))=true):=fun h=>qeP k f x.out h
    clear q
    generalize hkk:(Kd.kids t)[k]=kk at *
    clear hkk f
    go_wp2_with fail
    refine I.out.mono ?_
    rintro e w2 ⟨rfl,M⟩
    have L:=qaA c Q M
    have v:=qaA A (by omega) L
    clear M f0 f1 f2 c q4 I
    generalize hpr:qbD n kk (d+1)=r at *
    clear hpr
    by_cases hr0:r<0
    ·go_wp2_with fail
     go_ret
     exact⟨qaN (J.out hr0).symm,v⟩
    ·by_cases hmany:40<1+(sm:Int)+r
     ·go_wp2_with fail
      go_ret
      refine⟨qaN (qhS n t d (k+1) ?_).symm,v⟩
      have:=z.out (by omega)
      rw[j.out];omega
     ·go_wp2_with fail
      go_roundw
      case rel=>
       have hg:=z.out (by omega)
       refine⟨k+1,by omega,by go_num,?_,?_,C.out hg.2,L⟩
       ·rw[j.out,hg.1];go_num
       ·rw[j.out];omega
      case measure=>simp[intOf];omega
   ·have B:k=(Kd.kids t).length:=by have:=H.out;omega
    have F:Hid (qbD (n+1) t d=1+(sm:Int)):=by
     show _=_
     have X:=x.out
     have N:=E.out
     rw[B,List.take_length]at X N
     rw[qhD n t d aD.out X (by rw[N];omega),N]
    have v:=qaA A (by omega) c
    clear B g
    go_wp2_with fail
    go_ret
    exact⟨qaN F.out.symm,v⟩
 ·generalize hw1:w.alloc (.cells #[.int .i64 6,.slice na (Kd.names t).length nc,.slice Y (Kd.kids t).length Z] 55)=V at *
  obtain⟨_,_,P,-,g⟩:=hK
  cases P
  have H:Hid ((Kd.kids t).length=1):=l
  rw[l]at m2
  rw[m,l]at hw1 ⊢
  have W:=hidF hw1
  clear m l HC y hw1
  go_enter func59,ntmps59
  go_wp2_with (go_at_call 45;refine (U.out _).mono ?_;rintro e w' ⟨rfl,rfl⟩)
  rw[W.out]
  go_loopw [6,7] (fun a i wr=>∃ k:Nat,k<=1/\i=.int .i64 k/\a=.int .i64 (1+(sumL (fun k=>cntK n k) ((Kd.kids t).take k):Int))/\1+sumL (fun k=>cntK n k) ((Kd.kids t).take k)<=40 /\
    ((Kd.kids t).take k).all (fun k=>goodK n k (d+1))=true/\Below V.heap.size V wr) (fun _ i _=>1-(intOf i).toNat)
  case atStart=>exact⟨0,Nat.zero_le _,rfl,by simp[sumL],by simp[sumL],by simp,Below.refl _ _⟩
  case round=>
   obtain⟨k,hk,rfl,rfl,aB,o,c⟩:=hrel
   have x:=hidF o
   clear o
   have Q:=c.size
   have q4:wr.cell? ⟨w.heap.size,2,none⟩=some (.slice Y 1 Z):=(c.cell (p:=⟨w.heap.size,2,none⟩) G).trans m2
   generalize hgs:sumL (fun k=>cntK n k) ((Kd.kids t).take k)=sm at *
   have E:=hidF hgs
   clear hgs
   by_cases hlt:k<1
   ·have f:k<(Kd.kids t).length:=by have:=H.out;omega
    obtain⟨b,D,rfl,aC,u⟩:=g (by intro h;rw[h]at f;simp at f)
    obtain⟨x0,x1,x2,e0,e1,e2,hr⟩:=u k f
    have aI:=R b aC
    have f0:=(c.cell (p:=⟨b,D+k*3,none⟩) (by show b<_;omega)).trans e0
    have f1:=(c.cell (p:=⟨b,D+k*3+1,none⟩) (by show b<_;omega)).trans e1
    have f2:=(c.cell (p:=⟨b,D+k*3+2,none⟩) (by show b<_;omega)).trans e2
    have q:=hr.keep (qaB c (fun b hb=>by have:=R b hb;omega)) (fun _ h=>h)
    clear g u e0 e1 e2 hr
    have I:Hid (Calls prog 59 _ _ _):=hn S (Kd.kids t)[k] x0 x1 x2 (d+1) wr q (fun b hb=>by have:=R b hb;omega) (by omega) (by omega)
    have aJ:=qlL n (Kd.kids t)[k] (d+1)
    have J:Hid (qbD n (Kd.kids t)[k] (d+1)<0->qbD (n+1) t d = -1):=fun h=>qjT n t d k f h
    have z:Hid (0<=qbD n (Kd.kids t)[k] (d+1)->qbD n (Kd.kids t)[k] (d+1)=cntK n (Kd.kids t)[k]/\goodK n (Kd.kids t)[k] (d+1)=true):=fun h=>⟨(qeT n _ _ h).1,(qeT n _ _ h).2.1⟩
    have j:Hid (sumL (fun k=>cntK n k) ((Kd.kids t).take (k+1))=sm+cntK n (Kd.kids t)[k]):=by show _=_;rw[qbB _ _ _ f,E.out]
    have C:Hid (goodK n (Kd.kids t)[k] (d+1)=true->((Kd.kids t).take (k+1)).all (fun k=>goodK n k (d+1))=true):=fun h=>qeP k f x.out h
    clear q
    generalize hkk:(Kd.kids t)[k]=kk at *
    clear hkk f
    go_wp2_with fail
    refine I.out.mono ?_
    rintro e w2 ⟨rfl,M⟩
    have L:=qaA c Q M
    have v:=qaA A (by omega) L
    clear M f0 f1 f2 c q4 I
    generalize hpr:qbD n kk (d+1)=r at *
    clear hpr
    by_cases hr0:r<0
    ·go_wp2_with fail
     go_ret
     exact⟨qaN (J.out hr0).symm,v⟩
    ·by_cases hmany:40<1+(sm:Int)+r
     ·go_wp2_with fail
      go_ret
      refine⟨qaN (qhS n t d (k+1) ?_).symm,v⟩
      have:=z.out (by omega)
      rw[j.out];omega
     ·go_wp2_with fail
      go_roundw
      case rel=>
       have hg:=z.out (by omega)
       refine⟨k+1,by omega,by go_num,?_,?_,C.out hg.2,L⟩
       ·rw[j.out,hg.1];go_num
       ·rw[j.out];omega
      case measure=>simp[intOf];omega
   ·have B:k=(Kd.kids t).length:=by have:=H.out;omega
    have F:Hid (qbD (n+1) t d=1+(sm:Int)):=by
     show _=_
     have X:=x.out
     have N:=E.out
     rw[B,List.take_length]at X N
     rw[qhD n t d aD.out X (by rw[N];omega),N]
    have v:=qaA A (by omega) c
    clear B g
    go_wp2_with fail
    go_ret
    exact⟨qaN F.out.symm,v⟩
 ·have aN:(((Kd.names t).length:Int) != ((Kd.kids t).length:Int))=false:=by simp;omega
  have aF:=hidF l
  have H:Hid ((Kd.kids t).length=(Kd.kids t).length):=rfl
  clear m l y
  go_enter func59,ntmps59
  go_wp2_with (go_at_call 45;refine (U.out _).mono ?_;rintro e w' ⟨rfl,rfl⟩)
  refine HC.out.mono ?_
  rintro e V ⟨rfl,T⟩
  rw[aF.out]
  have aO:V.cell? ⟨w.heap.size,0,none⟩=some (.int .i64 5):=(T.cell (p:=⟨w.heap.size,0,none⟩) G).trans (by simp[go_sem])
  replace m2:=(T.cell (p:=⟨w.heap.size,2,none⟩) G).trans m2
  replace hK:=hK.keepK (qaB T (fun b hb=>by have:=R b hb;simp;omega)) (fun _ h=>h)
  replace A:=qaA A (by simp) T
  replace G:=Nat.lt_of_lt_of_le G T.size
  clear aN HC T
  go_wp2_with fail
  clear aO
  obtain⟨_,_,P,-,g⟩:=hK
  cases P
  go_loopw [6,7] (fun a i wr=>∃ k:Nat,k<=(Kd.kids t).length/\i=.int .i64 k/\a=.int .i64 (1+(sumL (fun k=>cntK n k) ((Kd.kids t).take k):Int))/\1+sumL (fun k=>cntK n k) ((Kd.kids t).take k)<=40 /\
    ((Kd.kids t).take k).all (fun k=>goodK n k (d+1))=true/\Below V.heap.size V wr) (fun _ i _=>(Kd.kids t).length-(intOf i).toNat)
  case atStart=>exact⟨0,Nat.zero_le _,rfl,by simp[sumL],by simp[sumL],by simp,Below.refl _ _⟩
  case round=>
   obtain⟨k,hk,rfl,rfl,aB,o,c⟩:=hrel
   have x:=hidF o
   clear o
   have Q:=c.size
   have q4:wr.cell? ⟨w.heap.size,2,none⟩=some (.slice Y (Kd.kids t).length Z):=(c.cell (p:=⟨w.heap.size,2,none⟩) G).trans m2
   generalize hgs:sumL (fun k=>cntK n k) ((Kd.kids t).take k)=sm at *
   have E:=hidF hgs
   clear hgs
   by_cases hlt:k<(Kd.kids t).length
   ·have f:k<(Kd.kids t).length:=by omega
    obtain⟨b,D,rfl,aC,u⟩:=g (by intro h;rw[h]at f;simp at f)
    obtain⟨x0,x1,x2,e0,e1,e2,hr⟩:=u k f
    have aI:=R b aC
    have f0:=(c.cell (p:=⟨b,D+k*3,none⟩) (by show b<_;omega)).trans e0
    have f1:=(c.cell (p:=⟨b,D+k*3+1,none⟩) (by show b<_;omega)).trans e1
    have f2:=(c.cell (p:=⟨b,D+k*3+2,none⟩) (by show b<_;omega)).trans e2
    have q:=hr.keep (qaB c (fun b hb=>by have:=R b hb;omega)) (fun _ h=>h)
    clear g u e0 e1 e2 hr
    have I:Hid (Calls prog 59 _ _ _):=hn S (Kd.kids t)[k] x0 x1 x2 (d+1) wr q (fun b hb=>by have:=R b hb;omega) (by omega) (by omega)
    have aJ:=qlL n (Kd.kids t)[k] (d+1)
    have J:Hid (qbD n (Kd.kids t)[k] (d+1)<0->qbD (n+1) t d = -1):=fun h=>qjT n t d k f h
    have z:Hid (0<=qbD n (Kd.kids t)[k] (d+1)->qbD n (Kd.kids t)[k] (d+1)=cntK n (Kd.kids t)[k]/\goodK n (Kd.kids t)[k] (d+1)=true):=fun h=>⟨(qeT n _ _ h).1,(qeT n _ _ h).2.1⟩
    have j:Hid (sumL (fun k=>cntK n k) ((Kd.kids t).take (k+1))=sm+cntK n (Kd.kids t)[k]):=by show _=_;rw[qbB _ _ _ f,E.out]
    have C:Hid (goodK n (Kd.kids t)[k] (d+1)=true->((Kd.kids t).take (k+1)).all (fun k=>goodK n k (d+1))=true):=fun h=>qeP k f x.out h
    clear q
    generalize hkk:(Kd.kids t)[k]=kk at *
    clear hkk f
    go_wp2_with fail
    refine I.out.mono ?_
    rintro e w2 ⟨rfl,M⟩
    have L:=qaA c Q M
    have v:=qaA A (by omega) L
    clear M f0 f1 f2 c q4 I
    generalize hpr:qbD n kk (d+1)=r at *
    clear hpr
    by_cases hr0:r<0
    ·go_wp2_with fail
     go_ret
     exact⟨qaN (J.out hr0).symm,v⟩
    ·by_cases hmany:40<1+(sm:Int)+r
     ·go_wp2_with fail
      go_ret
      refine⟨qaN (qhS n t d (k+1) ?_).symm,v⟩
      have:=z.out (by omega)
      rw[j.out];omega
     ·go_wp2_with fail
      go_roundw
      case rel=>
       have hg:=z.out (by omega)
       refine⟨k+1,by omega,by go_num,?_,?_,C.out hg.2,L⟩
       ·rw[j.out,hg.1];go_num
       ·rw[j.out];omega
      case measure=>simp[intOf];omega
   ·have B:k=(Kd.kids t).length:=by omega
    have F:Hid (qbD (n+1) t d=1+(sm:Int)):=by
     show _=_
     have X:=x.out
     have N:=E.out
     rw[B,List.take_length]at X N
     rw[qhD n t d aD.out X (by rw[N];omega),N]
    have v:=qaA A (by omega) c
    clear B g
    go_wp2_with fail
    go_ret
    exact⟨qaN F.out.symm,v⟩
theorem quZ:∀n,qkC n:=by
 intro n
 induction n with
 | zero=>intro S t c0 c1 c2 d w a;exact a.elim
 | succ n ih=>exact qtA n ih
theorem qvA (n:Nat) (S:Nat->Prop) (t:K n) (c0 c1 c2:Value) (w:World) (ht:KindIn S w n t c0 c1 c2) (hB:∀ b,S b->b<w.heap.size) :
  Calls prog 42 #[.agg #[c0,c1,c2]] w fun e w'=>e=.returned (.bool (okK n t))/\Below w.heap.size w w':=by
 obtain⟨j,k,l,m,o,p,q,rfl,rfl,rfl⟩:=ht.shape
 have a:=(Below.refl w.heap.size w).alloc (Nat.le_refl _) (.cells #[.int .i64 j,.slice k l m,.slice o p q] 55)
 have c:=ht.keep (qaB a hB) (fun _ h=>h)
 have f:Hid (decide (0<qbD n t 1)=okK n t):=okK_eq n t
 have i:Hid (Calls prog 59 _ _ _):=quZ n S t _ _ _ 1 _ c (fun b hb=>by have:=hB b hb;simp;omega) (by omega) (by omega)
 clear ht c
 go_enter func42,ntmps42
 go_wp2_with fail
 refine i.out.mono ?_
 rintro e r ⟨rfl,d⟩
 have g:=qaA a (by simp) d
 clear a d i
 go_wp2_with fail
 go_ret
 exact⟨qbL f.out,g⟩
end Go.Proofs.YtelogmjfekhmpaaGreatDoor
