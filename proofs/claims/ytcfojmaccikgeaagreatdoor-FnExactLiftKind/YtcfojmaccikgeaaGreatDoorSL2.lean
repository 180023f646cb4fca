import Derived.Test.YtcfojmaccikgeaaGreatDoorB21
import Derived.Test.YtcfojmaccikgeaaGreatDoorB22
open Go.Ending renaming returned→Zr
namespace Go.Proofs.YtcfojmaccikgeaaGreatDoor
set_option maxRecDepth 100000
set_option maxHeartbeats 16000000
open Go.RowKit Go.Proofs.Tryz
theorem rt(k:Nat)(g:k<44)(w:World):Calls prog 97 #[.int .i64 (k:Int)] w fun e d=>e=Zr (.string (km k))/\Bw w d:=by
 have c:Hid (∀x a b w,Calls prog 58 #[.int .i64 x,.int .i64 a,.int .i64 b] w _):=fun x a b w=>iY x a b w;have f:Hid (∀o:Obj,Bw w (w.alloc o)):=fun o=>gF _ o;rcases qe k g with rfl|rfl|rfl|rfl|rfl|rfl|rfl|rfl|rfl|rfl|rfl|rfl|rfl|rfl|rfl|rfl|rfl|rfl|rfl|rfl|rfl|rfl|rfl|rfl|rfl|rfl|rfl|rfl|rfl|rfl|rfl|rfl|rfl|rfl|rfl|rfl|rfl|rfl|rfl|rfl|rfl|rfl|rfl|rfl;all_goals
  go_in
  go_wp2_with fail
  refine (c.out _ _ _ _).mono ?_
  rintro e w1 ⟨rfl,rfl⟩
  go_wp2
  go_ret
  first
   | exact⟨jG rfl,Below.refl _ _⟩
   | exact⟨jG rfl,f.out _⟩
theorem Dj(s:ByteArray)(w:World):Calls prog 175 #[.string s] w fun e n=>e=Zr (.int .i64 (t8 s:Nat))/\Bw w n:=by
 go_in;go_wp2;go_loopw [3] (fun i wr=>∃k:Nat,5<=k/\k<=44/\i=.int .i64 (k:Int)/\Hid (EO s k (44-k)=t8 s)/\Bw w wr) (fun i _=>44-(intOf i).toNat);case atStart=>exact⟨5,om,om,rfl,rfl,Below.refl _ _⟩
 case round=>
  obtain⟨k,p,o,rfl,d,f⟩:=hrel;by_cases m:k<44
  ·have l:(k:Int)<=43:=by omega
   have h:Hid (Calls prog 97 _ wr _):=rt k m wr;cases hq:(km k==s) with
   | true=>
    have g:Hid (Ending.returned (.int .i64 (k:Int))=Zr (.int .i64 ((t8 s:Nat):Int))):=by show _=_;rw[<- d.out,show 44-k=(43-k)+1 by omega,B1 hq]
    have j:((km k).toList==s.toList)=true:=(js _ _).trans hq;have b:=a7 f;clear hq d f;go_wp2_with fail;refine h.out.mono ?_;rintro e w1 ⟨rfl,a⟩;have c:=a7 (b.out.trans (a.mono b.out.size));clear a h;go_wp2;go_ret;exact⟨g.out,c.out⟩
   | false=>
    have g:Hid (EO s (k+1) (44-(k+1))=t8 s):=by show _=_;rw[<- d.out,show 44-k=(44-(k+1))+1 by omega,F3 hq]
    have j:((km k).toList==s.toList)=false:=(js _ _).trans hq;have b:=a7 f;clear hq d f;go_wp2_with fail;refine h.out.mono ?_;rintro e w1 ⟨rfl,a⟩;have c:=a7 (b.out.trans (a.mono b.out.size));clear a h;go_wp2;go_roundw;case rel=>exact⟨k+1,om,om,by go_num,g,c.out⟩
    case measure=>simp[intOf];omega
  ·have l:¬(k:Int)<=43:=by omega
   have g:Hid (Ending.returned (.int .i64 (0:Int))=Zr (.int .i64 ((t8 s:Nat):Int))):=by show _=_;rw[<- d.out,show 44-k=0 by omega];rfl
   have b:=a7 f;clear d f;go_wp2;go_ret;exact⟨g.out,b.out⟩
theorem rB (s:ByteArray) (w:World) (k:s.size<=maxLen) :
  Calls prog 144 #[.string s] w fun e j=>e=Zr (.bool (ii s))/\Bw w j:=by
 have a:Hid (Calls prog 30 _ _ _):=kI s w k;have c:Hid (Calls prog 175 _ _ _):=Dj s w;have d:Hid (ii s=(gh s && (t8 s==0) && !(s==bs [121,101,115]) && !(s==bs [110,111]) && !(s==bs [101,110,100]))):=rfl;have n:=px s [121,101,115];have m:=px s [110,111];have o:=px s [101,110,100];generalize (s==bs [121,101,115])=b1 at *;generalize (s==bs [110,111])=b2 at *;generalize (s==bs [101,110,100])=b3 at *;cases hn:gh s with
 | false=>rw[hn]at a d;go_in;go_wp2_with fail;refine a.out.mono ?_;rintro e w1 ⟨rfl,rfl⟩;go_wp2;go_ret;exact⟨b6 (by rw[d.out];simp),Below.refl _ _⟩
 | true=>
  rw[hn]at a d;by_cases g:t8 s=0
  ·have f:(t8 s==0)=true:=by simp[g]
   rw[f]at d;rw[g]at c;cases b1<;>cases b2<;>cases b3
   all_goals
    go_in
    go_wp2_with fail
    refine a.out.mono ?_
    rintro e w1 ⟨rfl,rfl⟩
    go_wp2_with fail
    refine c.out.mono ?_
    rintro e l ⟨rfl,b⟩
    have h:=a7 b
    clear b a c
    go_wp2
    go_ret
    exact⟨b6 (by rw[d.out];rfl),h.out⟩
  ·have f:(t8 s==0)=false:=by simp[g]
   have i:(((t8 s:Nat):Int)==0)=false:=zE;rw[f]at d;go_in;go_wp2_with fail;refine a.out.mono ?_;rintro e w1 ⟨rfl,rfl⟩;go_wp2_with fail;refine c.out.mono ?_;rintro e l ⟨rfl,b⟩;have h:=a7 b;clear b a c;go_wp2;go_ret;exact⟨b6 (by rw[d.out];simp),h.out⟩
theorem CK (S:Nat->Prop) (l:List ByteArray) (v:Value) (x:ByteArray) (w:World) (o:fL S w l v) :
  Calls prog 141 #[v,.string x] w fun e q=>q=w/\e=Zr (.bool (l.any (fun y=>y==x))):=by
 obtain⟨t,cap,rfl,f,r,j⟩:=o;unfold maxLen at f;go_in;go_wp2;go_loop [5] (fun i=>∃k:Nat,k<=l.length/\i=.int .i64 k/\Hid ((l.take k).any (fun y=>y==x)=false)) (fun i=>l.length-(intOf i).toNat);case atStart=>exact⟨0,Nat.zero_le _,rfl,rfl⟩
 case round=>
  obtain⟨k,s,rfl,g⟩:=hrel;by_cases c:k<l.length
  ·obtain⟨b,off,rfl,-,a⟩:=j (by intro h;rw[h]at c;simp at c);have p:=a k c;cases hq:(l[k]==x) with
   | true=>
    have m:=(js l[k] x).trans hq;have d:Hid (true=l.any (fun y=>y==x)):=by show _=_;symm;rw[List.any_eq_true];exact⟨l[k],List.getElem_mem c,hq⟩
    clear j a hq g;go_wp2;go_ret;exact⟨rfl,b6 d.out⟩
   | false=>
    have m:=(js l[k] x).trans hq;have d:Hid ((l.take (k+1)).any (fun y=>y==x)=false):=by show _=_;rw[List.take_succ_eq_append_getElem c,List.any_append,g.out];simp[hq]
    clear j a hq g;go_wp2;go_round;case rel=>exact⟨k+1,om,by go_num,d⟩
    case measure=>simp[intOf];omega
  ·have d:Hid (false=l.any (fun y=>y==x)):=by show _=_;have n:=g.out;rw[List.take_of_length_le om]at n;exact n.symm
   clear j r g;go_wp2;go_ret;exact⟨rfl,b6 d.out⟩
end Go.Proofs.YtcfojmaccikgeaaGreatDoor
