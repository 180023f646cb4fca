import Derived.Test.YtcfojmaccikgeaaGreatDoorB16
open Go.Ending renaming returned→Zr
namespace Go.Proofs.YtcfojmaccikgeaaGreatDoor
set_option maxRecDepth 100000
set_option maxHeartbeats 16000000
open Go.RowKit Go.Proofs.Tryz
theorem rt(k:Nat)(f:k<44)(w:World):Calls prog 97 #[.int .i64 (k:Int)] w fun e g=>e=Zr (.string (ld k))/\Bw w g:=by
 have c:Hid (∀x a b w,Calls prog 58 #[.int .i64 x,.int .i64 a,.int .i64 b] w _):=fun x a b w=>iO x a b w;have d:Hid (∀o:Obj,Bw w (w.alloc o)):=fun o=>gx _ o;rcases pZ k f with rfl|rfl|rfl|rfl|rfl|rfl|rfl|rfl|rfl|rfl|rfl|rfl|rfl|rfl|rfl|rfl|rfl|rfl|rfl|rfl|rfl|rfl|rfl|rfl|rfl|rfl|rfl|rfl|rfl|rfl|rfl|rfl|rfl|rfl|rfl|rfl|rfl|rfl|rfl|rfl|rfl|rfl|rfl|rfl;all_goals
  go_in
  go_wp2_with fail
  refine (c.out _ _ _ _).mono ?_
  rintro e w1 ⟨rfl,rfl⟩
  go_wp2
  go_ret
  first
   | exact⟨jQ rfl,Below.refl _ _⟩
   | exact⟨jQ rfl,d.out _⟩
theorem Dw(s:ZN)(w:World):Calls prog 175 #[.string s] w fun e o=>e=Zr (.int .i64 (uX s:Nat))/\Bw w o:=by
 go_in;go_wp2;go_loopw [3] (fun i wr=>∃k:Nat,5<=k/\k<=44/\i=.int .i64 (k:Int)/\Hid (Gk s k (44-k)=uX s)/\Bw w wr) (fun i _=>44-(intOf i).toNat);case atStart=>exact⟨5,om,om,rfl,rfl,Below.refl _ _⟩
 case round=>
  obtain⟨k,p,m,rfl,d,f⟩:=hrel;by_cases n:k<44
  ·have j:(k:Int)<=43:=by omega
   have h:Hid (Calls prog 97 _ wr _):=rt k n wr;cases hq:(ld k==s) with
   | true=>
    have g:Hid (Ending.returned (.int .i64 (k:Int))=Zr (.int .i64 ((uX s:Nat):Int))):=by show _=_;rw[<- d.out,show 44-k=(43-k)+1 by omega,Ce hq]
    have l:((ld k).toList==s.toList)=true:=(jA _ _).trans hq;have b:=a7 f;clear hq d f;go_wp2_with fail;refine h.out.mono ?_;rintro e w1 ⟨rfl,a⟩;have c:=a7 (b.out.trans (a.mono b.out.size));clear a h;go_wp2;go_ret;exact⟨g.out,c.out⟩
   | false=>
    have g:Hid (Gk s (k+1) (44-(k+1))=uX s):=by show _=_;rw[<- d.out,show 44-k=(44-(k+1))+1 by omega,Gl hq]
    have l:((ld k).toList==s.toList)=false:=(jA _ _).trans hq;have b:=a7 f;clear hq d f;go_wp2_with fail;refine h.out.mono ?_;rintro e w1 ⟨rfl,a⟩;have c:=a7 (b.out.trans (a.mono b.out.size));clear a h;go_wp2;go_roundw;case rel=>exact⟨k+1,om,om,by go_num,g,c.out⟩
    case measure=>simp[intOf];omega
  ·have j:¬(k:Int)<=43:=by omega
   have g:Hid (Ending.returned (.int .i64 (0:Int))=Zr (.int .i64 ((uX s:Nat):Int))):=by show _=_;rw[<- d.out,show 44-k=0 by omega];rfl
   have b:=a7 f;clear d f;go_wp2;go_ret;exact⟨g.out,b.out⟩
theorem rV (s:ZN) (w:World) (j:s.size<=maxLen) :
  Calls prog 144 #[.string s] w fun e k=>e=Zr (.bool (il s))/\Bw w k:=by
 have a:Hid (Calls prog 30 _ _ _):=kK s w j;have b:Hid (Calls prog 175 _ _ _):=Dw s w;have d:Hid (il s=(gj s && (uX s==0) && !(s==bs [121,101,115]) && !(s==bs [110,111]) && !(s==bs [101,110,100]))):=rfl;have m:=px s [121,101,115];have n:=px s [110,111];have o:=px s [101,110,100];generalize (s==bs [121,101,115])=b1 at *;generalize (s==bs [110,111])=b2 at *;generalize (s==bs [101,110,100])=b3 at *;cases hn:gj s with
 | false=>rw[hn]at a d;go_in;go_wp2_with fail;refine a.out.mono ?_;rintro e w1 ⟨rfl,rfl⟩;go_wp2;go_ret;exact⟨b6 (by rw[d.out];simp),Below.refl _ _⟩
 | true=>
  rw[hn]at a d;by_cases h:uX s=0
  ·have f:(uX s==0)=true:=by simp[h]
   rw[f]at d;rw[h]at b;cases b1<;>cases b2<;>cases b3
   all_goals
    go_in
    go_wp2_with fail
    refine a.out.mono ?_
    rintro e w1 ⟨rfl,rfl⟩
    go_wp2_with fail
    refine b.out.mono ?_
    rintro e l ⟨rfl,c⟩
    have g:=a7 c
    clear c a b
    go_wp2
    go_ret
    exact⟨b6 (by rw[d.out];rfl),g.out⟩
  ·have f:(uX s==0)=false:=by simp[h]
   have i:(((uX s:Nat):Int)==0)=false:=zE;rw[f]at d;go_in;go_wp2_with fail;refine a.out.mono ?_;rintro e w1 ⟨rfl,rfl⟩;go_wp2_with fail;refine b.out.mono ?_;rintro e l ⟨rfl,c⟩;have g:=a7 c;clear c a b;go_wp2;go_ret;exact⟨b6 (by rw[d.out];simp),g.out⟩
theorem DF (S:ZP) (l:List ZN) (v:Value) (x:ZN) (w:World) (p:fL S w l v) :
  Calls prog 141 #[v,.string x] w fun e r=>r=w/\e=Zr (.bool (l.any (fun y=>y==x))):=by
 obtain⟨s,cap,rfl,g,q,j⟩:=p;unfold maxLen at g;go_in;go_wp2;go_loop [5] (fun i=>∃k:Nat,k<=l.length/\i=.int .i64 k/\Hid ((l.take k).any (fun y=>y==x)=false)) (fun i=>l.length-(intOf i).toNat);case atStart=>exact⟨0,Nat.zero_le _,rfl,rfl⟩
 case round=>
  obtain⟨k,t,rfl,d⟩:=hrel;by_cases c:k<l.length
  ·obtain⟨b,off,rfl,-,a⟩:=j (by intro h;rw[h]at c;simp at c);have o:=a k c;cases hq:(l[k]==x) with
   | true=>
    have m:=(jA l[k] x).trans hq;have f:Hid (true=l.any (fun y=>y==x)):=by show _=_;symm;rw[List.any_eq_true];exact⟨l[k],List.getElem_mem c,hq⟩
    clear j a hq d;go_wp2;go_ret;exact⟨rfl,b6 f.out⟩
   | false=>
    have m:=(jA l[k] x).trans hq;have f:Hid ((l.take (k+1)).any (fun y=>y==x)=false):=by show _=_;rw[List.take_succ_eq_append_getElem c,List.any_append,d.out];simp[hq]
    clear j a hq d;go_wp2;go_round;case rel=>exact⟨k+1,om,by go_num,f⟩
    case measure=>simp[intOf];omega
  ·have f:Hid (false=l.any (fun y=>y==x)):=by show _=_;have n:=d.out;rw[List.take_of_length_le om]at n;exact n.symm
   clear j q d;go_wp2;go_ret;exact⟨rfl,b6 f.out⟩
end Go.Proofs.YtcfojmaccikgeaaGreatDoor
