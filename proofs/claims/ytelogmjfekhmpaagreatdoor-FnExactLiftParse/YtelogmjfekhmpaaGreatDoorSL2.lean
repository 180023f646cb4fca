import Derived.Test.YtelogmjfekhmpaaGreatDoorB16
namespace Go.Proofs.YtelogmjfekhmpaaGreatDoor
set_option maxRecDepth 100000
set_option maxHeartbeats 16000000
open Go.RowKit Go.Proofs.Tryz
theorem qmA(k:Nat)(hk:k<44)(w:World):Calls prog 39 #[.int .i64 (k:Int)] w fun e w'=>e=.returned (.string (wrd k))/\Below w.heap.size w w':=by
 have c:Hid (∀x a b w,Calls prog 45 #[.int .i64 x,.int .i64 a,.int .i64 b] w _):=fun x a b w=>qcJ x a b w
 have d:Hid (∀o:Obj,Below w.heap.size w (w.alloc o)):=fun o=>(Below.refl _ _).alloc (Nat.le_refl _) o
 rcases qlC k hk with rfl|rfl|rfl|rfl|rfl|rfl|rfl|rfl|rfl|rfl|rfl|rfl|rfl|rfl|rfl|rfl|rfl|rfl|rfl|rfl|rfl|rfl|rfl|rfl|rfl|rfl|rfl|rfl|rfl|rfl|rfl|rfl|rfl|rfl|rfl|rfl|rfl|rfl|rfl|rfl|rfl|rfl|rfl|rfl
 all_goals
  go_enter func39,ntmps39
  go_wp2_with fail
  refine (c.out _ _ _ _).mono ?_
  rintro e f ⟨rfl,rfl⟩
  go_wp2_with fail
  go_ret
  first
   | exact⟨qdU rfl,Below.refl _ _⟩
   | exact⟨qdU rfl,d.out _⟩
theorem qmB(s:ByteArray)(w:World):Calls prog 23 #[.string s] w fun e w'=>e=.returned (.int .i64 (opW s:Nat))/\Below w.heap.size w w':=by
 go_enter func23,ntmps23
 go_wp2_with fail
 go_loopw [3] (fun i wr=>∃k:Nat,5<=k/\k<=44/\i=.int .i64 (k:Int)/\Hid (opF s k (44-k)=opW s)/\Below w.heap.size w wr) (fun i _=>44-(intOf i).toNat)
 case atStart=>exact⟨5,by omega,by omega,rfl,rfl,Below.refl _ _⟩
 case round=>
  obtain⟨k,o,m,rfl,d,f⟩:=hrel
  by_cases hk:k<44
  ·have j:(k:Int)<=43:=by omega
   have h:Hid (Calls prog 39 _ wr _):=qmA k hk wr
   cases hq:(wrd k==s) with
   | true=>
    have g:Hid (Ending.returned (.int .i64 (k:Int))=.returned (.int .i64 ((opW s:Nat):Int))):=by
     show _=_
     rw[<- d.out,show 44-k=(43-k)+1 by omega,xbB hq]
    have l:((wrd k).toList==s.toList)=true:=(qcL _ _).trans hq
    have b:=hidF f
    clear hq d f
    go_wp2_with fail
    refine h.out.mono ?_
    rintro e n ⟨rfl,a⟩
    have c:=hidF (b.out.trans (a.mono b.out.size))
    clear a h
    go_wp2_with fail
    go_ret
    exact⟨g.out,c.out⟩
   | false=>
    have g:Hid (opF s (k+1) (44-(k+1))=opW s):=by
     show _=_
     rw[<- d.out,show 44-k=(44-(k+1))+1 by omega,xhZ hq]
    have l:((wrd k).toList==s.toList)=false:=(qcL _ _).trans hq
    have b:=hidF f
    clear hq d f
    go_wp2_with fail
    refine h.out.mono ?_
    rintro e n ⟨rfl,a⟩
    have c:=hidF (b.out.trans (a.mono b.out.size))
    clear a h
    go_wp2_with fail
    go_roundw
    case rel=>exact⟨k+1,by omega,by omega,by go_num,g,c.out⟩
    case measure=>simp[intOf];omega
  ·have j:¬(k:Int)<=43:=by omega
   have g:Hid (Ending.returned (.int .i64 (0:Int))=.returned (.int .i64 ((opW s:Nat):Int))):=by
    show _=_
    rw[<- d.out,show 44-k=0 by omega];rfl
   have b:=hidF f
   clear d f
   go_wp2_with fail
   go_ret
   exact⟨g.out,b.out⟩
theorem qfF (s:ByteArray) (w:World) (hs:s.size<=maxLen) :
  Calls prog 38 #[.string s] w fun e w'=>e=.returned (.bool (freeB s))/\Below w.heap.size w w':=by
 have a:Hid (Calls prog 40 _ _ _):=qdP s w hs
 have b:Hid (Calls prog 23 _ _ _):=qmB s w
 have d:Hid (freeB s=(nameB s && (opW s==0) && !(s==bs [121,101,115]) && !(s==bs [110,111]) && !(s==bs [101,110,100]))):=rfl
 have j:=qiP s [121,101,115]
 have k:=qiP s [110,111]
 have l:=qiP s [101,110,100]
 generalize (s==bs [121,101,115])=b1 at *
 generalize (s==bs [110,111])=b2 at *
 generalize (s==bs [101,110,100])=b3 at *
 cases hn:nameB s with
 | false=>
  rw[hn]at a d
  go_enter func38,ntmps38
  go_wp2_with fail
  refine a.out.mono ?_
  rintro e i ⟨rfl,rfl⟩
  go_wp2_with fail
  go_ret
  exact⟨qaD (by rw[d.out];simp),Below.refl _ _⟩
 | true=>
  rw[hn]at a d
  by_cases h0:opW s=0
  ·have f:(opW s==0)=true:=by simp[h0]
   rw[f]at d
   rw[h0]at b
   cases b1<;>cases b2<;>cases b3
   all_goals
    go_enter func38,ntmps38
    go_wp2_with fail
    refine a.out.mono ?_
    rintro e i ⟨rfl,rfl⟩
    go_wp2_with fail
    refine b.out.mono ?_
    rintro e w2 ⟨rfl,c⟩
    have g:=hidF c
    clear c a b
    go_wp2_with fail
    go_ret
    exact⟨qaD (by rw[d.out];rfl),g.out⟩
  ·have f:(opW s==0)=false:=by simp[h0]
   have h:(((opW s:Nat):Int)==0)=false:=by simp;omega
   rw[f]at d
   go_enter func38,ntmps38
   go_wp2_with fail
   refine a.out.mono ?_
   rintro e i ⟨rfl,rfl⟩
   go_wp2_with fail
   refine b.out.mono ?_
   rintro e w2 ⟨rfl,c⟩
   have g:=hidF c
   clear c a b
   go_wp2_with fail
   go_ret
   exact⟨qaD (by rw[d.out];simp),g.out⟩
theorem xcD (S:Nat->Prop) (l:List ByteArray) (v:Value) (x:ByteArray) (w:World) (hl:StrsIn S w l v) :
  Calls prog 97 #[v,.string x] w fun e w'=>w'=w/\e=.returned (.bool (l.any (fun y=>y==x))):=by
 obtain⟨q,cap,rfl,d,o,g⟩:=hl
 unfold maxLen at d
 go_enter func97,ntmps97
 go_wp2_with fail
 go_loop [5] (fun i=>∃k:Nat,k<=l.length/\i=.int .i64 k/\Hid ((l.take k).any (fun y=>y==x)=false)) (fun i=>l.length-(intOf i).toNat)
 case atStart=>exact⟨0,Nat.zero_le _,rfl,rfl⟩
 case round=>
  obtain⟨k,r,rfl,f⟩:=hrel
  by_cases hlt:k<l.length
  ·obtain⟨b,p,rfl,-,a⟩:=g (by intro h;rw[h]at hlt;simp at hlt)
   have n:=a k hlt
   cases hq:(l[k]==x) with
   | true=>
    have j:=(qcL l[k] x).trans hq
    have c:Hid (true=l.any (fun y=>y==x)):=by
     show _=_
     symm
     rw[List.any_eq_true]
     exact⟨l[k],List.getElem_mem hlt,hq⟩
    clear g a hq f
    go_wp2_with fail
    go_ret
    exact⟨rfl,qaD c.out⟩
   | false=>
    have j:=(qcL l[k] x).trans hq
    have c:Hid ((l.take (k+1)).any (fun y=>y==x)=false):=by
     show _=_
     rw[List.take_succ_eq_append_getElem hlt,List.any_append,f.out]
     simp[hq]
    clear g a hq f
    go_wp2_with fail
    go_round
    case rel=>exact⟨k+1,by omega,by go_num,c⟩
    case measure=>simp[intOf];omega
  ·have c:Hid (false=l.any (fun y=>y==x)):=by
    show _=_
    have m:=f.out
    rw[List.take_of_length_le (by omega)]at m
    exact m.symm
   clear g o f
   go_wp2_with fail
   go_ret
   exact⟨rfl,qaD c.out⟩
end Go.Proofs.YtelogmjfekhmpaaGreatDoor
