import Derived.Test.YtelogmjfekhmpaaGreatDoorB13
import Derived.Lib.OthersKept
import Derived.WalkSmall
import Derived.Test.YtelogmjfekhmpaaGreatDoorB1
import Derived.Lib.Hide
namespace Go.Proofs.YtelogmjfekhmpaaGreatDoor
open Go.RowKit Go.Proofs.Tryz
theorem qmZ{c:Nat}(h:Utf8.valid (c:Int)=true):((c:Int)<55296∨(57343<(c:Int)/\(c:Int)<=1114111)):=by
 unfold Utf8.valid at h
 simp only[Bool.or_eq_true,Bool.and_eq_true,decide_eq_true_eq]at h
 omega
theorem qnA (s:ByteArray) (pos:Nat) (h:pos<s.size) (ha:128<=(s[pos]'h).toNat) :
  pos+(Utf8.decode s pos).2<=s.size/\(∀j (hj:j<s.size),pos<=j->j<pos+(Utf8.decode s pos).2->128<=(s[j]'hj).toNat)/\(((Utf8.decode s pos).1:Int)=65533∨(Utf8.valid ((Utf8.decode s pos).1:Int)=true/\(((Utf8.decode s pos).1:Int)<55296∨(57343<((Utf8.decode s pos).1:Int)/\((Utf8.decode s pos).1:Int)<=1114111)))):=by
 suffices H:∃r d,Utf8.decode s pos=(r,d)/\(pos+d<=s.size/\(∀j (hj:j<s.size),pos<=j->j<pos+d->128<=(s[j]'hj).toNat)/\((r:Int)=65533∨(Utf8.valid (r:Int)=true/\((r:Int)<55296∨(57343<(r:Int)/\(r:Int)<=1114111))))) by
  obtain⟨r,d,e,l⟩:=H
  rw[e];exact l
 have one:pos+1<=s.size/\(∀j (hj:j<s.size),pos<=j->j<pos+1->128<=(s[j]'hj).toNat)/\((Utf8.runeError:Int)=65533∨(Utf8.valid (Utf8.runeError:Int)=true/\((Utf8.runeError:Int)<55296∨(57343<(Utf8.runeError:Int)/\(Utf8.runeError:Int)<=1114111)))):=⟨h,fun j hj h1 h2=>by
  have:j=pos:=by omega
  subst this;exact ha,.inl rfl⟩
 have a:∀k,(decide (pos+k<s.size) && (s.get! (pos+k)).toNat / 64==2)=true->∃hk:pos+k<s.size,128<=(s[pos+k]'hk).toNat:=fun k hk=>by
  simp only[Bool.and_eq_true,decide_eq_true_eq,beq_iff_eq]at hk
  refine⟨hk.1,?_⟩
  have:=hk.2
  have g:=get_at s (pos+k) hk.1
  rw[Nat.add_zero]at g
  rw[g]at this
  omega
 have b:(s.get! (pos+0)).toNat=(s[pos]'h).toNat:=by rw[get_at s pos h]
 unfold Utf8.decode
 simp only[b]
 have c:¬(s[pos]'h).toNat<128:=by omega
 simp only[if_neg c]
 split
 ·rename_i h1
  simp only[Bool.and_eq_true]at h1
  obtain⟨i,c1⟩:=a 1 (by simpa using h1.2)
  split
  ·refine⟨_,_,rfl,by omega,fun j hj j1 j2=>?_,.inr ⟨?_,.inl ?_⟩⟩
   ·have:j=pos∨j=pos+1:=by omega
    rcases this with rfl|rfl
    ·exact ha
    ·exact c1
   ·unfold Utf8.valid
    simp only[Bool.or_eq_true,Bool.and_eq_true,decide_eq_true_eq]
    left
    have f:=h1.1
    simp only[beq_iff_eq]at f
    omega
   ·have f:=h1.1
    simp only[beq_iff_eq]at f
    omega
  ·exact⟨_,_,rfl,one⟩
 split
 ·rename_i h1
  simp only[Bool.and_eq_true]at h1
  obtain⟨i,c1⟩:=a 1 (by simpa using h1.1.2)
  obtain⟨m,c2⟩:=a 2 (by simpa using h1.2)
  split
  ·rename_i hv
   simp only[Bool.and_eq_true]at hv
   refine⟨_,_,rfl,by omega,fun j hj j1 j2=>?_,.inr ⟨hv.2,qmZ hv.2⟩⟩
   have:j=pos∨j=pos+1∨j=pos+2:=by omega
   rcases this with rfl|rfl|rfl
   ·exact ha
   ·exact c1
   ·exact c2
  ·exact⟨_,_,rfl,one⟩
 split
 ·rename_i h1
  simp only[Bool.and_eq_true]at h1
  obtain⟨i,c1⟩:=a 1 (by simpa using h1.1.1.2)
  obtain⟨m,c2⟩:=a 2 (by simpa using h1.1.2)
  obtain⟨k3,c3⟩:=a 3 (by simpa using h1.2)
  split
  ·rename_i hv
   simp only[Bool.and_eq_true]at hv
   refine⟨_,_,rfl,by omega,fun j hj j1 j2=>?_,.inr ⟨hv.2,qmZ hv.2⟩⟩
   have:j=pos∨j=pos+1∨j=pos+2∨j=pos+3:=by omega
   rcases this with rfl|rfl|rfl|rfl
   ·exact ha
   ·exact c1
   ·exact c2
   ·exact c3
  ·exact⟨_,_,rfl,one⟩
 ·exact⟨_,_,rfl,one⟩
theorem qjL{l:List UInt8}{p:UInt8->Bool}{k:Nat}(hk:k<=l.length)(h1:∀j (h:j<l.length),j<k->p l[j]=true)(h2:∀h:k<l.length,p l[k]=false):(l.takeWhile p).length=k:=by
 induction l generalizing k with
 | nil=>simp at hk;simp[hk]
 | cons c r ih=>
  cases k with
  | zero=>
   have:=h2 (by simp)
   simp only[List.getElem_cons_zero]at this
   simp[this]
  | succ k=>
   have a:=h1 0 (by simp) (by omega)
   simp only[List.getElem_cons_zero]at a
   rw[List.takeWhile_cons,a]
   simp only[if_true,List.length_cons,Nat.add_right_cancel_iff]
   refine ih (by simpa using hk) (fun j h hj=>?_) (fun h=>?_)
   ·have:=h1 (j+1) (by simpa using h) (by omega)
    simpa using this
   ·have:=h2 (by simpa using h)
    simpa using this
theorem qjM{s:ByteArray}{k:Nat}(h0:0<s.size)(hq:(s[0]'h0).toNat≠34)(hk1:1<=k)(hk:k<=s.size)(h1:∀j (h:j<s.size),j<k->qaP (s[j]'h)=false)(h2:∀h:k<s.size,qaP (s[k]'h)=true):qaU s.data.toList=k:=by
 have b:s.data.toList.length=s.size:=by simp
 have d:∀j (h:j<s.size),s.data.toList[j]'(by rw[b];exact h)=s[j]'h:=fun j h=>by simp[ByteArray.getElem_eq_getElem_data]
 cases hl:s.data.toList with
 | nil=>rw[hl]at b;simp at b;omega
 | cons c r=>
  have i:c=s[0]'h0:=by have:=d 0 h0;simpa [hl] using this
  have f:¬c=34:=fun e=>hq (by rw[<- i,e];rfl)
  have g:∀j (h:j<r.length),r[j]=s[j+1]'(by rw[<- b,hl];simpa using h):=fun j h=>by
   have:=d (j+1) (by rw[<- b,hl];simpa using h)
   simpa [hl] using this
  have l:r.length+1=s.size:=by rw[<- b,hl];rfl
  have:(r.takeWhile (fun x=>!qaP x)).length=k-1:=by
   refine qjL (by omega) (fun j h hj=>?_) (fun h=>?_)
   ·rw[g j h,h1 (j+1) (by omega) (by omega)];rfl
   ·rw[g (k-1) h]
    have:=h2 (by omega)
    simp only[show k-1+1=k by omega,this];rfl
  rw[qaU,if_neg f,this]
  omega
theorem qhR{s:ByteArray}{k:Nat}(h0:0<s.size)(hq:(s[0]'h0).toNat=34)(hk1:1<=k)(hk:k<=s.size)(h1:∀j (h:j<s.size),1<=j->j<k->(s[j]'h).toNat≠34)(h2:∀h:k<s.size,(s[k]'h).toNat=34):qaU s.data.toList=if k<s.size then k+1 else k:=by
 have b:s.data.toList.length=s.size:=by simp
 have d:∀j (h:j<s.size),s.data.toList[j]'(by rw[b];exact h)=s[j]'h:=fun j h=>by simp[ByteArray.getElem_eq_getElem_data]
 have f:∀x:UInt8,x.toNat=34↔x=34:=fun x=>⟨fun h=>UInt8.toNat_inj.1 (by rw[h];rfl),fun h=>by rw[h];rfl⟩
 cases hl:s.data.toList with
 | nil=>rw[hl]at b;simp at b;omega
 | cons c r=>
  have l:c=s[0]'h0:=by have:=d 0 h0;simpa [hl] using this
  have g:c=34:=by rw[l];exact (f _).1 hq
  have i:∀j (h:j<r.length),r[j]=s[j+1]'(by rw[<- b,hl];simpa using h):=fun j h=>by
   have:=d (j+1) (by rw[<- b,hl];simpa using h)
   simpa [hl] using this
  have m:r.length+1=s.size:=by rw[<- b,hl];rfl
  have n:(r.takeWhile (fun x=>!(x==34))).length=k-1:=by
   refine qjL (by omega) (fun j h hj=>?_) (fun h=>?_)
   ·rw[i j h]
    have:=h1 (j+1) (by omega) (by omega) (by omega)
    simp only[Bool.not_eq_true',beq_eq_false_iff_ne]
    exact fun e=>this ((f _).2 e)
   ·rw[i (k-1) h]
    have:=h2 (by omega)
    simp only[show k-1+1=k by omega,(f _).1 this];rfl
  rw[qaU,if_pos g,n]
  by_cases hks:k<s.size
  ·rw[if_pos (by omega),if_pos hks];omega
  ·rw[if_neg (by omega),if_neg hks];omega
set_option maxRecDepth 100000
set_option maxHeartbeats 16000000
structure WAt(s:ByteArray)(w wr:World)(pos:Nat):Prop where
 le:pos<=s.size
 iter:wr.heap[w.heap.size]?=some (.stringIter s pos)
 below:Below w.heap.size w wr
theorem WAt.next{s:ByteArray}{w wr:World}{pos:Nat}(h:WAt s w wr pos)(q:Nat)(hq:q<=s.size):WAt s w (wr.iterAt w.heap.size s q) q:=
 ⟨hq,Lib.iterAt_heap wr _ _ _ _ h.iter,Lib.below_iterAt h.below (Nat.le_refl _) _ _⟩
theorem WAt.on{s:ByteArray}{w wr w':World}{pos:Nat}(h:WAt s w wr pos)(hb:Below wr.heap.size wr w'):WAt s w w' pos:=
 ⟨h.le,(hb.block _ (Array.getElem?_eq_some_iff.1 h.iter).1).trans h.iter,h.below.trans (hb.mono h.below.size)⟩
theorem qnB (s:ByteArray) (w:World) (hs:s.size<=3000) (h0:0<s.size) (hq:(s[0]'h0).toNat=34) :
  Calls prog 64 #[.string s] w fun e w'=>e=.returned (.int .i64 (qaU s.data.toList:Nat))/\Below w.heap.size w w':=by
 have F:(((s[0]'h0).toNat:Int)==34)=true:=by rw[hq];rfl
 have t:=hidF hq
 have E:Hid (WAt s w (w.iter s 0) 0):=⟨Nat.zero_le _,World.iter_heap _ _ _,(Below.refl _ _).alloc (Nat.le_refl _) _⟩
 clear hq
 go_enter func64,ntmps64
 go_wp2_with fail
 go_loopw [4] (fun _ wr=>∃pos:Nat,WAt s w wr pos/\Hid (∀j (h:j<s.size),1<=j->j<pos->(s[j]'h).toNat≠34)) (fun _ wr=>s.size-wr.iterPos w.heap.size)
 case atStart=>exact⟨0,E.out,fun j _ _ h=>absurd h (Nat.not_lt_zero _)⟩
 case round=>
  obtain⟨pos,f,g⟩:=hrel
  clear E
  have a:=f.iter
  have n:Hid (wr.iterPos w.heap.size=pos):=iterPos_of a
  have y:=f.le
  have o:=Lib.hid f
  by_cases hp:pos<s.size
  ·by_cases ha:(s[pos]'hp).toNat<128
   ·obtain⟨c,l⟩:∃c,(s[pos]'hp).toNat=c:=⟨_,rfl⟩
    have p:∀ty,(Instr.next (.pointer (some ⟨w.heap.size,0,none⟩)) true ty).run prog wr=.ok (.tuple #[.bool true,.int .i64 (pos:Int),.int .i32 (c:Int)]) (wr.iterAt w.heap.size s (pos+1)):=fun ty=>by
     rw[Lib.run_next_ascii_at wr w.heap.size s pos ty a hp ha,l]
    have i:=Lib.hid (f.next (pos+1) hp)
    have b:Hid ((wr.iterAt w.heap.size s (pos+1)).iterPos w.heap.size=pos+1):=iterPos_of (i.out.iter)
    by_cases h34:c=34/\0<pos
    ·have z:((c:Int)==34)=true:=by rw[h34.1];rfl
     have G:(0:Int)<(pos:Int):=by omega
     have H:IntKind.i64.wrap ((pos:Int)+1)=(pos:Int)+1:=by rw[IntKind.wrap_i64];omega
     have A:Hid (qaU s.data.toList=pos+1):=by
      show _=_
      rw[qhR h0 t.out (k:=pos) (by omega) (by omega) g.out (fun _=>by rw[l];exact h34.1),if_pos hp]
     have B:=Lib.hid i.out.below
     clear f o a g ha l h34 i n b t y
     go_wp2_with fail
     go_ret
     exact⟨by rw[A.out];rfl,B.out⟩
    ·have u:Hid (∀ j (h:j<s.size),1<=j->j<pos+1->(s[j]'h).toNat≠34):=fun j h h1 h2=>by
      rcases Nat.lt_or_ge j pos with m|m
      ·exact g.out j h h1 m
      ·have:j=pos:=by omega
       subst this
       rw[l];intro e;exact h34 ⟨e,by omega⟩
     by_cases h5:c=34
     ·have z:((c:Int)==34)=true:=by rw[h5];rfl
      have G:¬(0:Int)<(pos:Int):=by omega
      clear f o a g ha l h34 h5
      go_wp2_with fail
      go_roundw
      case rel=>exact⟨pos+1,i.out,u.out⟩
      case measure=>rw[b.out,n.out];omega
     ·have z:((c:Int)==34)=false:=by simp;omega
      clear f o a g ha l h34 h5
      go_wp2_with fail
      go_roundw
      case rel=>exact⟨pos+1,i.out,u.out⟩
      case measure=>rw[b.out,n.out];omega
   ·obtain⟨q,v,-⟩:=qnA s pos hp (by omega)
    obtain⟨C,x⟩:=decode_high s pos hp (by omega)
    obtain⟨r,d,D⟩:∃r d,Utf8.decode s pos=(r,d):=⟨_,_,rfl⟩
    have p:∀ty,(Instr.next (.pointer (some ⟨w.heap.size,0,none⟩)) true ty).run prog wr=.ok (.tuple #[.bool true,.int .i64 (pos:Int),.int .i32 (r:Int)]) (wr.iterAt w.heap.size s (pos+d)):=fun ty=>by
     rw[Lib.run_next_any_at wr w.heap.size s pos ty a hp,D]
    rw[D]at q v C x
    dsimp only at q v C x
    have i:=Lib.hid (f.next (pos+d) q)
    have b:Hid ((wr.iterAt w.heap.size s (pos+d)).iterPos w.heap.size=pos+d):=iterPos_of (i.out.iter)
    have z:((r:Int)==34)=false:=by simp;omega
    have u:Hid (∀j (h:j<s.size),1<=j->j<pos+d->(s[j]'h).toNat≠34):=fun j h h1 h2=>by
     rcases Nat.lt_or_ge j pos with m|m
     ·exact g.out j h h1 m
     ·have:=v j h m h2;omega
    have I:Hid (1<=d/\pos+d<=s.size):=⟨x,q⟩
    clear f o a g ha q v C x D
    go_wp2_with fail
    go_roundw
    case rel=>exact⟨pos+d,i.out,u.out⟩
    case measure=>have:=I.out;rw[b.out,n.out];omega
  ·have p:=fun ty=>Lib.run_next_end_at (P:=prog) wr w.heap.size s pos ty a hp
   have A:Hid (qaU s.data.toList=s.size):=by
    show _=_
    have J:pos=s.size:=by omega
    rw[qhR h0 t.out (k:=s.size) (by omega) (Nat.le_refl _) (fun j h h1 _=>g.out j h h1 (by omega)) (fun h=>absurd h (Nat.lt_irrefl _)),if_neg (Nat.lt_irrefl _)]
   have B:=Lib.hid f.below
   clear f o a g n t
   go_wp2_with fail
   go_ret
   exact⟨by rw[A.out];rfl,B.out⟩
theorem qnY (s:ByteArray) (w:World) (hs:s.size<=3000) (h0:0<s.size) (hq:(s[0]'h0).toNat≠34) (hb0:qaP (s[0]'h0)=false) :
  Calls prog 64 #[.string s] w fun e w'=>e=.returned (.int .i64 (qaU s.data.toList:Nat))/\Below w.heap.size w w':=by
 have L:(((s[0]'h0).toNat:Int)==34)=false:=by simp;omega
 have p:Hid ((s[0]'h0).toNat≠34/\qaP (s[0]'h0)=false):=⟨hq,hb0⟩
 have K:Hid (WAt s w (w.iter s 0) 0):=⟨Nat.zero_le _,World.iter_heap _ _ _,(Below.refl _ _).alloc (Nat.le_refl _) _⟩
 clear hq hb0
 go_enter func64,ntmps64
 go_wp2_with fail
 go_loopw [4] (fun _ wr=>∃pos:Nat,WAt s w wr pos/\Hid (∀j (h:j<s.size),j<pos->qaP (s[j]'h)=false)) (fun _ wr=>s.size-wr.iterPos w.heap.size)
 case atStart=>exact⟨0,K.out,fun j _ h=>absurd h (Nat.not_lt_zero _)⟩
 case round=>
  obtain⟨pos,i,l⟩:=hrel
  clear K
  have a:=i.iter
  have y:Hid (wr.iterPos w.heap.size=pos):=iterPos_of a
  have q:=i.le
  by_cases hp:pos<s.size
  ·by_cases ha:(s[pos]'hp).toNat<128
   ·obtain⟨c,A⟩:∃c,(s[pos]'hp).toNat=c:=⟨_,rfl⟩
    have t:∀ty,(Instr.next (.pointer (some ⟨w.heap.size,0,none⟩)) true ty).run prog wr=.ok (.tuple #[.bool true,.int .i64 (pos:Int),.int .i32 (c:Int)]) (wr.iterAt w.heap.size s (pos+1)):=fun ty=>by
     rw[Lib.run_next_ascii_at wr w.heap.size s pos ty a hp ha,A]
    have m:=Lib.hid (i.next (pos+1) hp)
    have g:Hid ((wr.iterAt w.heap.size s (pos+1)).iterPos w.heap.size=pos+1):=iterPos_of (m.out.iter)
    have n:qaP (UInt8.ofNat c)=qaP (s[pos]'hp):=by rw[<- A];simp
    have f:=Lib.hid (qkX c (wr.iterAt w.heap.size s (pos+1)) (by omega))
    rw[n]at f
    cases hbk:qaP (s[pos]'hp) with
    | true=>
     rw[hbk]at f
     have E:Hid (qaU s.data.toList=pos):=by
      have F:1<=pos:=by
       rcases Nat.eq_zero_or_pos pos with e|e
       ·subst e;rw[p.out.2]at hbk;cases hbk
       ·exact e
      exact qjM h0 p.out.1 F q l.out (fun _=>hbk)
     have G:=Lib.hid m.out.below
     clear i a l ha A m y g p hbk n q
     go_wp2_with fail
     refine f.out.mono ?_
     rintro e w2 ⟨rfl,b⟩
     rw[b]
     clear b f
     go_wp2_with fail
     go_ret
     exact⟨by rw[E.out];rfl,G.out⟩
    | false=>
     rw[hbk]at f
     have H:Hid (∀j (h:j<s.size),j<pos+1->qaP (s[j]'h)=false):=fun j h h2=>by
      rcases Nat.lt_or_ge j pos with o|o
      ·exact l.out j h o
      ·have:j=pos:=by omega
       subst this;exact hbk
     clear i a l ha A hbk n
     go_wp2_with fail
     refine f.out.mono ?_
     rintro e w2 ⟨rfl,b⟩
     rw[b]
     clear b f
     go_wp2_with fail
     go_roundw
     case rel=>exact⟨pos+1,m.out,H.out⟩
     case measure=>rw[g.out,y.out];omega
   ·obtain⟨v,B,C⟩:=qnA s pos hp (by omega)
    obtain⟨I,D⟩:=decode_high s pos hp (by omega)
    obtain⟨r,d,J⟩:∃r d,Utf8.decode s pos=(r,d):=⟨_,_,rfl⟩
    have t:∀ty,(Instr.next (.pointer (some ⟨w.heap.size,0,none⟩)) true ty).run prog wr=.ok (.tuple #[.bool true,.int .i64 (pos:Int),.int .i32 (r:Int)]) (wr.iterAt w.heap.size s (pos+d)):=fun ty=>by
     rw[Lib.run_next_any_at wr w.heap.size s pos ty a hp,J]
    rw[J]at v B C I D
    dsimp only at v B C I D
    have m:=Lib.hid (i.next (pos+d) v)
    have f:=Lib.hid (qkF (r:Int) (wr.iterAt w.heap.size s (pos+d)) (by omega) C)
    have H:Hid (∀j (h:j<s.size),j<pos+d->qaP (s[j]'h)=false):=fun j h h2=>by
     rcases Nat.lt_or_ge j pos with o|o
     ·exact l.out j h o
     ·have z:=B j h o h2
      unfold qaP
      have M:¬s[j]'h=32:=fun e=>by rw[e]at z;exact absurd z (by decide)
      have N:¬s[j]'h=10:=fun e=>by rw[e]at z;exact absurd z (by decide)
      simp[M,N]
    have O:Hid (1<=d/\pos+d<=s.size):=⟨D,v⟩
    clear i a l ha v B C I D J
    go_wp2_with fail
    refine f.out.mono ?_
    rintro e w2 ⟨rfl,x⟩
    have u:=Lib.hid (m.out.on x)
    have g:Hid (w2.iterPos w.heap.size=pos+d):=iterPos_of (u.out.iter)
    clear x f m
    go_wp2_with fail
    go_roundw
    case rel=>exact⟨pos+d,u.out,H.out⟩
    case measure=>have:=O.out;rw[g.out,y.out];omega
  ·have t:=fun ty=>Lib.run_next_end_at (P:=prog) wr w.heap.size s pos ty a hp
   have E:Hid (qaU s.data.toList=s.size):=qjM h0 p.out.1 (k:=s.size) (by omega) (Nat.le_refl _) (fun j h _=>l.out j h (by omega)) (fun h=>absurd h (Nat.lt_irrefl _))
   have G:=Lib.hid i.below
   clear i a l y p
   go_wp2_with fail
   go_ret
   exact⟨by rw[E.out];rfl,G.out⟩
theorem qtL (s:ByteArray) (w:World) (hs:s.size<=3000) (h0:0<s.size) (hb0:qaP (s[0]'h0)=false) :
  Calls prog 64 #[.string s] w fun e w'=>e=.returned (.int .i64 (qaU s.data.toList:Nat))/\Below w.heap.size w w':=by
 by_cases hq:(s[0]'h0).toNat=34
 ·exact qnB s w hs h0 hq
 ·exact qnY s w hs h0 hq hb0
end Go.Proofs.YtelogmjfekhmpaaGreatDoor
