import Derived.Test.YtelogmjfekhmpaaGreatDoorB15
import Derived.Test.YtelogmjfekhmpaaGreatDoorCopyN
import Derived.Deep.AppendLies
import Derived.OwnWalk
namespace Go.Proofs.YtelogmjfekhmpaaGreatDoor
set_option maxRecDepth 100000
set_option maxHeartbeats 16000000
open Go.RowKit Go.Proofs.Tryz
def twl(p:UInt8->Bool)(l:List UInt8):Nat:=(l.takeWhile p).length
theorem xiD(p:UInt8->Bool)(l:List UInt8):twl p l<=l.length:=(List.takeWhile_prefix (l:=l) p).length_le
theorem twl_in(p:UInt8->Bool):∀(l:List UInt8)(i:Nat),i<twl p l->∃c,l[i]?=some c/\p c=true:=by
 intro l
 induction l with
 | nil=>intro i h;simp[twl]at h
 | cons c r ih=>
  intro i h
  unfold twl at h ih
  by_cases hc:p c=true
  ·rw[List.takeWhile_cons_of_pos hc,List.length_cons]at h
   cases i with
   | zero=>exact⟨c,rfl,hc⟩
   | succ i=>rw[List.getElem?_cons_succ];exact ih i (by omega)
  ·rw[List.takeWhile_cons_of_neg hc]at h;simp at h
theorem xjU(p:UInt8->Bool):∀(l:List UInt8)(c:UInt8),l[twl p l]?=some c->p c=false:=by
 intro l
 induction l with
 | nil=>intro c h;simp at h
 | cons b r ih=>
  intro c h
  unfold twl at h ih
  by_cases hc:p b=true
  ·rw[List.takeWhile_cons_of_pos hc,List.length_cons,List.getElem?_cons_succ]at h
   exact ih c h
  ·rw[List.takeWhile_cons_of_neg hc]at h
   simp at h
   subst h
   simpa using hc
theorem qxF{p:UInt8->Bool}{l:List UInt8}{k:Nat}(hk:k<=twl p l){c:UInt8}(hc:l[k]?=some c)(hp:p c=true):k<twl p l:=by
 rcases Nat.lt_or_ge k (twl p l) with h|h
 ·exact h
 ·have e:k=twl p l:=by omega
  rw[e]at hc
  rw[xjU p l c hc]at hp
  cases hp
theorem qxG{p:UInt8->Bool}{l:List UInt8}{k:Nat}(hk:k<=twl p l)(h:∀c,l[k]?=some c->p c=false):k=twl p l:=by
 rcases Nat.lt_or_ge k (twl p l) with a|a
 ·obtain⟨c,d,b⟩:=twl_in p l k a
  rw[h c d]at b;cases b
 ·omega
theorem xeQ(r:List UInt8):qaU (34 :: r)=1+twl (fun x=>!(x==34)) r+(if twl (fun x=>!(x==34)) r<r.length then 1 else 0):=by
 rw[qaU,if_pos rfl];rfl
theorem xeR(c:UInt8)(r:List UInt8)(h:c≠34):qaU (c :: r)=1+twl (fun x=>!qaP x) r:=by
 rw[qaU,if_neg h];rfl
theorem qtM(f:Nat)(b:UInt8)(r:List UInt8)(h:qaP b=true):qbI f (b :: r)=qbI f r:=by
 rw[<- qgL f (b :: r),List.dropWhile_cons_of_pos h,qgL]
theorem qvK(f:Nat)(c:UInt8)(r:List UInt8)(h:qaP c=false):qbI (f+1) (c :: r)=bs ((c :: r).take (qaU (c :: r))) :: qbI f ((c :: r).drop (qaU (c :: r))):=
 qkT (List.dropWhile_cons_of_neg (by rw[h];simp))
theorem xeS{s:ByteArray}{k i:Nat}(hi:k+i<s.size):(s.data.toList.drop k)[i]?=some s[k+i]:=by
 rw[List.getElem?_drop,List.getElem?_eq_getElem (by simpa using hi)]
 rfl
theorem qkH{c:UInt8}{v:Nat}(hv:v<256):((c.toNat:Int)==(v:Int))=(c==UInt8.ofNat v):=by
 rw[Bool.eq_iff_iff]
 simp only[beq_iff_eq]
 constructor
 ·intro h;apply UInt8.toNat_inj.1;rw[UInt8.toNat_ofNat'];omega
 ·intro h;rw[h,UInt8.toNat_ofNat'];omega
theorem qvL{w:World}{base E:Nat}{e:TypeId}{size:Nat}(hE:w.heap[E]?=some (.cells #[] e (0,0)))(hb:base<=E):w.ownsRow base e size (.slice (some ⟨E,0,none⟩) 0 0) 0 []:=
 ⟨by simp,.inr ⟨E,0,#[],rfl,hb,hE,Nat.le_refl _,Nat.zero_le _,by simp,by simp⟩⟩
structure WG(s:ByteArray)(w wr:World)(v:Value)(at' n:Nat):Prop where
 le:at'<=s.size
 row:∃pre f,qbI s.size s.data.toList=pre++qbI f (s.data.toList.drop at')/\s.size-at'<=f/\pre.length=n/\wr.ownsRow w.heap.size 9 1 v n (pre.map .string)
 few:n<=at'
 below:Below w.heap.size w wr
theorem WG.start{s:ByteArray}{w:World}:WG s w (w.alloc (.cells #[] 9)) (.slice (some ⟨w.heap.size,0,none⟩) 0 0) 0 0:=
 ⟨Nat.zero_le _,⟨[],s.size,by simp,by omega,rfl,qvL (heap_alloc_new _ _) (Nat.le_refl _)⟩,Nat.le_refl _,(Below.refl _ _).alloc (Nat.le_refl _) _⟩
theorem qjN{s:ByteArray}{i:Nat}(h:i<s.size):s.data.toList.drop i=s[i] :: s.data.toList.drop (i+1):=by
 rw[List.drop_eq_getElem_cons (by simpa using h)]
 rfl
theorem WG.blank{s:ByteArray}{w wr:World}{v:Value}{i n:Nat}(h:WG s w wr v i n)(hi:i<s.size)(hb:qaP s[i]=true):WG s w wr v (i+1) n:=by
 obtain⟨a,f,b,e,c,d⟩:=h.row
 refine⟨by omega,⟨a,f,?_,by omega,c,d⟩,by have:=h.few;omega,h.below⟩
 rw[b,qjN hi,qtM _ _ _ hb]
theorem WG.word {s:ByteArray} {w wr w3:World} {v:Value} {i n e g cap:Nat} {o:Obj} (h:WG s w wr v i n) (hi:i<s.size) (hb:qaP s[i]=false) (he:e=i+qaU (s.data.toList.drop i))
  (hown:∀xs,wr.ownsRow w.heap.size 9 1 v n xs->w3.ownsRow w.heap.size 9 1 (.slice (some ⟨g,0,none⟩) (n+1) cap) (n+1) (xs++[.string (s.extract i e)]))
  (hgrow:(wr.alloc o).grownBy w3 v.ownBlock):WG s w w3 (.slice (some ⟨g,0,none⟩) (n+1) cap) e (n+1):=by
 obtain⟨a,f,l,r,m,b⟩:=h.row
 have p:=qpB (s.data.toList.drop i)
 have c:1<=qaU (s.data.toList.drop i):=by rw[qjN hi];exact qnC _ _
 have d:(s.data.toList.drop i).length=s.size-i:=by simp
 obtain⟨f,rfl⟩:∃g,f=g+1:=⟨f-1,by omega⟩
 have j:s.extract i e=bs ((s.data.toList.drop i).take (qaU (s.data.toList.drop i))):=by
  rw[he];exact qfX s i _
 have k:=h.below.size
 refine⟨by omega,⟨a++[s.extract i e],f,?_,by omega,by simp[m],by rw[List.map_append];exact hown _ b⟩,by have:=h.few;omega,(h.below.alloc k o).grown hgrow (by simp;omega) (fun q hq=>(r1_lt b q hq).1)⟩
 rw[l,List.append_assoc]
 congr 1
 rw[j,he,<- List.drop_drop]
 generalize hq:s.data.toList.drop i=q at *
 rw[qjN hi]at hq
 subst hq
 rw[qvK _ _ _ hb]
 rfl
theorem qnD{w:World}{base size n:Nat}{e:TypeId}{v:Value}{xs ys:List Value}(h1:w.ownsRow base e size v n xs)(h2:w.ownsRow base e size v n ys):xs=ys:=by
 rcases h1.2 with ⟨rfl,rfl⟩|⟨g,cap,i,rfl,_,j,_,_,_,k⟩
 ·have d:=h1.1
  have a2:=h2.1
  rw[Nat.zero_mul]at d a2
  rw[List.eq_nil_of_length_eq_zero d,List.eq_nil_of_length_eq_zero a2]
 ·rcases h2.2 with ⟨b,-⟩|⟨l,f,h,b,_,a,_,_,_,c⟩
  ·cases b
  ·cases b
   rw[j]at a
   cases a
   rw[<- k,c]
theorem WG.done{s:ByteArray}{w wr:World}{v:Value}{i n:Nat}(h:WG s w wr v i n)(hi:¬i<s.size):wr.ownsRow w.heap.size 9 1 v (qbI s.size s.data.toList).length ((qbI s.size s.data.toList).map .string):=by
 obtain⟨b,f,a,e,c,d⟩:=h.row
 rw[List.drop_of_length_le (by simp;omega),qpA,List.append_nil]at a
 rw[a,c]
 exact d
theorem Tryz.info_strW:(prog.info? 9).map (fun i=>(i.zero,i.size,i.bytes))=some (some (.string ⟨#[]⟩),1,16):=by kernel_rfl
theorem qtN (s:ByteArray) (hs:s.size<=3000) (w:World) :
  Calls prog 10 #[.string s] w fun e w'=>∃v,e=.returned v/\Below w.heap.size w w' /\ w'.ownsRow w.heap.size 9 1 v (qbI s.size s.data.toList).length ((qbI s.size s.data.toList).map .string):=by
 obtain⟨i0,hi,aB,aC,aD⟩:=info_parts Tryz.info_strW
 have C:Hid (_/\_/\_/\_):=⟨hi,aB,aC,aD⟩
 clear hi aB aC aD
 go_enter func10,ntmps10
 go_wp2_with fail
 go_loopw [3,4] (fun v iv wr=>∃(i n:Nat)(P:Option Addr)(Q:Nat),iv=.int .i64 (i:Int)/\v=.slice P n Q/\WG s w wr v i n) (fun _ iv _=>s.size-(intOf iv).toNat)
 case atStart=>exact⟨0,0,_,_,rfl,rfl,WG.start⟩
 case round=>
  obtain⟨i,n,P,Q,rfl,rfl,hW⟩:=hrel
  have B:=Lib.hid hW
  have aS:=hW.le
  have aR:=hW.few
  have aT:=hW.below.size
  clear hW
  by_cases hlt:i<s.size
  case neg=>
   have aL:¬(i:Int)<(s.size:Int):=by omega
   have HP:Hid (_/\_):=⟨B.out.below,B.out.done hlt⟩
   clear B
   go_wp2_with fail
   go_ret
   exact⟨_,rfl,HP.out⟩
  have aL:(i:Int)<(s.size:Int):=by omega
  have aU:(0:Int)<=(i:Int):=by omega
  have aV:IntKind.i64.wrap ((i:Int)+1)=(i:Int)+1:=by rw[IntKind.wrap_i64];omega
  have R:(((s[i]).toNat:Int)==32)=(s[i]==32):=qkH (c:=s[i]) (v:=32) (by decide)
  have V:(((s[i]).toNat:Int)==10)=(s[i]==10):=qkH (c:=s[i]) (v:=10) (by decide)
  have S:(((s[i]).toNat:Int)==34)=(s[i]==34):=qkH (c:=s[i]) (v:=34) (by decide)
  by_cases hb:qaP s[i]=true
  ·have HN:=Lib.hid (B.out.blank hlt hb)
   unfold qaP at hb
   cases h32:(s[i]==32) with
   | true=>
    have aA:(((s[i]).toNat:Int)==32)=true:=R.trans h32
    clear R V S hb h32 B
    go_wp2_with fail
    go_roundw
    case rel=>exact⟨i+1,n,P,Q,by go_num,rfl,HN.out⟩
    case measure=>simp[intOf];omega
   | false=>
    have aA:(((s[i]).toNat:Int)==32)=false:=R.trans h32
    have aH:(s[i]==10)=true:=by rw[h32]at hb;simpa using hb
    have aI:(((s[i]).toNat:Int)==10)=true:=V.trans aH
    clear R V S hb h32 aH B
    go_wp2_with fail
    go_roundw
    case rel=>exact⟨i+1,n,P,Q,by go_num,rfl,HN.out⟩
    case measure=>simp[intOf];omega
  ·have T:qaP s[i]=false:=by simpa using hb
   have HB:=Lib.hid T
   unfold qaP at T
   rw[Bool.or_eq_false_iff]at T
   have aA:(((s[i]).toNat:Int)==32)=false:=R.trans T.1
   have aI:(((s[i]).toNat:Int)==10)=false:=V.trans T.2
   clear R V hb T
   have HD:=Lib.hid (qjN hlt)
   cases h34:(s[i]==34) with
   | true=>
    have aJ:(((s[i]).toNat:Int)==34)=true:=S.trans h34
    have hq:s[i]=34:=by simpa using h34
    have I:Hid (qaU (s.data.toList.drop i)=1+twl (fun x=>!(x==34)) (s.data.toList.drop (i+1))+(if twl (fun x=>!(x==34)) (s.data.toList.drop (i+1))<(s.data.toList.drop (i+1)).length then 1 else 0)):=by
     show _=_
     rw[HD.out,hq];exact xeQ _
    have HT:=Lib.hid (xiD (fun x=>!(x==34)) (s.data.toList.drop (i+1)))
    have W:(s.data.toList.drop (i+1)).length=s.size-(i+1):=by simp
    rw[W]at HT I
    clear h34 S hq W
    obtain⟨r,rfl⟩:∃r,r=wr:=⟨_,rfl⟩
    obtain⟨A,t⟩:∃A,twl (fun x=>!(x==34)) (s.data.toList.drop (i+1))=A:=⟨_,rfl⟩
    have HK:Hid (∀k,k<=A->∀(h:i+1+k<s.size),(s[i+1+k]=34->k=A)/\(s[i+1+k]≠34->k+1<=A)):=by
     intro k E h
     have X:=xeS (s:=s) (k:=i+1) (i:=k) h
     refine⟨fun e=>?_,fun e=>?_⟩
     ·rw[<- t];exact qxG (by rw[t];exact E) (fun c hc=>by rw[X]at hc;cases hc;rw[e];rfl)
     ·have:=qxF (p:=fun x=>!(x==34)) (by rw[t];exact E) X (by simpa using e)
      rw[t]at this;exact this
    rw[t]at I HT
    have aM:=HT.out
    clear t HT
    go_wp2_with fail
    go_loopw [5] (fun ev w2=>r=w2/\∃k j:Nat,ev=.int .i64 (j:Int)/\j=i+1+k/\k<=A) (fun ev _=>s.size-(intOf ev).toNat)
    case atStart=>exact⟨rfl,0,i+1,by go_num,rfl,Nat.zero_le _⟩
    case round=>
     obtain⟨aG,k,j,rfl,H,E⟩:=hrel
     subst aG
     have HJ:=Lib.hid H
     have aN:j<=i+1+A:=by omega
     have aO:i+1<=j:=by omega
     have aP:(0:Int)<=(j:Int):=by omega
     have aQ:IntKind.i64.wrap ((j:Int)+1)=(j:Int)+1:=by rw[IntKind.wrap_i64];omega
     by_cases hjs:j<s.size
     ·have aE:decide ((j:Int)<(s.size:Int))=true:=by simp;omega
      have aF:(j:Int)<(s.size:Int):=by omega
      have u:=Lib.hid (HK.out k E (by omega))
      have J:(((s[j]).toNat:Int)==34)=(s[j]==34):=qkH (c:=s[j]) (v:=34) (by decide)
      by_cases hqj:s[j]=34
      ·have y:(((s[j]).toNat:Int)==34)=true:=by rw[J,hqj];rfl
       have Y:(((s[j]).toNat:Int) != 34)=false:=by simp[bne,y]
       have z:k=A:=u.out.1 (by subst H;exact hqj)
       have K:Hid (j+1=i+qaU (s.data.toList.drop i)):=by
        show _=_
        rw[I.out,if_pos (by omega)];omega
       have L:(i:Int)<=((j:Int)+1):=by omega
       have M:((j:Int)+1)<=(s.size:Int):=by omega
       clear J hqj u HK z H HJ E
       obtain⟨l,d⟩:∃xs,r.ownsRow w.heap.size 9 1 (.slice P n Q) n xs:=by obtain⟨l,f,-,-,-,h4⟩:=B.out.row;exact⟨_,h4⟩
       have D:=Lib.hid d
       clear d
       go_wp2_with (at_builtin;refine wpList_append_lies _ rfl (.tmp 65) (.tmp 70) 22 rfl w.heap.size 9 i0 _ 1 16 underlying22 C.out.1 C.out.2.1 C.out.2.2.1 C.out.2.2.2 rfl (by decide) (.slice P n Q) n l rfl (D.out.alloc _) ⟨r.heap.size,0,none⟩ 1 1 [.string (s.extract i (j+1))] rfl rfl (World.news_of_block (heap_alloc_new r _)) (by simp[Value.oneCell']) (by decide) (by unfold maxLen;omega) (by omega) (by simp;omega) (r.heap.size+1) (by simp) ?_;intro g cap w3 b a m q;refine Hid.out ?_)
       refine Lib.hid ?_
       have N:=Lib.hid (B.out.word (o:=.cells #[.string (s.extract i (j+1))] 9) (e:=j+1) (g:=g) (cap:=cap) (w3:=w3) hlt HB.out K.out (fun xs hxs=>by rw[qnD hxs D.out];exact b) a)
       have O:=N.out.le
       clear b a m q D B HB HD I K
       go_wp2_with fail
       go_roundw
       case rel=>exact⟨j+1,n+1,_,_,by go_num,rfl,N.out⟩
       case measure=>simp[intOf];omega
      ·have y:(((s[j]).toNat:Int)==34)=false:=by rw[J];simpa using hqj
       have Y:(((s[j]).toNat:Int) != 34)=true:=by simp[bne,y]
       have z:k+1<=A:=u.out.2 (by subst H;exact hqj)
       clear J hqj u HK H E
       go_wp2_with fail
       go_roundw
       case rel=>exact⟨trivial,k+1,j+1,by go_num,by have:=HJ.out;omega,z⟩
       case measure=>simp[intOf];omega
     ·have aE:decide ((j:Int)<(s.size:Int))=false:=by simp;omega
      have aF:¬(j:Int)<(s.size:Int):=by omega
      have K:Hid (j=i+qaU (s.data.toList.drop i)):=by
       show _=_
       rw[I.out,if_neg (by omega)];omega
      have L:(i:Int)<=(j:Int):=by omega
      have M:(j:Int)<=(s.size:Int):=by omega
      clear HK H HJ E
      obtain⟨l,d⟩:∃xs,r.ownsRow w.heap.size 9 1 (.slice P n Q) n xs:=by obtain⟨l,f,-,-,-,h4⟩:=B.out.row;exact⟨_,h4⟩
      have D:=Lib.hid d
      clear d
      go_wp2_with (at_builtin;refine wpList_append_lies _ rfl (.tmp 65) (.tmp 70) 22 rfl w.heap.size 9 i0 _ 1 16 underlying22 C.out.1 C.out.2.1 C.out.2.2.1 C.out.2.2.2 rfl (by decide) (.slice P n Q) n l rfl (D.out.alloc _) ⟨r.heap.size,0,none⟩ 1 1 [.string (s.extract i (j))] rfl rfl (World.news_of_block (heap_alloc_new r _)) (by simp[Value.oneCell']) (by decide) (by unfold maxLen;omega) (by omega) (by simp;omega) (r.heap.size+1) (by simp) ?_;intro g cap w3 b a m q;refine Hid.out ?_)
      refine Lib.hid ?_
      have N:=Lib.hid (B.out.word (o:=.cells #[.string (s.extract i (j))] 9) (e:=j) (g:=g) (cap:=cap) (w3:=w3) hlt HB.out K.out (fun xs hxs=>by rw[qnD hxs D.out];exact b) a)
      have O:=N.out.le
      clear b a m q D B HB HD I K
      go_wp2_with fail
      go_roundw
      case rel=>exact⟨j,n+1,_,_,by go_num,rfl,N.out⟩
      case measure=>simp[intOf];omega
   | false=>
    have aJ:(((s[i]).toNat:Int)==34)=false:=S.trans h34
    have hq:s[i]≠34:=by simpa using h34
    have I:Hid (qaU (s.data.toList.drop i)=1+twl (fun x=>!qaP x) (s.data.toList.drop (i+1))):=by
     show _=_
     rw[HD.out];exact xeR _ _ hq
    have HT:=Lib.hid (xiD (fun x=>!qaP x) (s.data.toList.drop (i+1)))
    have W:(s.data.toList.drop (i+1)).length=s.size-(i+1):=by simp
    rw[W]at HT
    clear h34 S hq W
    obtain⟨r,rfl⟩:∃r,r=wr:=⟨_,rfl⟩
    obtain⟨A,t⟩:∃A,twl (fun x=>!qaP x) (s.data.toList.drop (i+1))=A:=⟨_,rfl⟩
    have HK:Hid (∀k,k<=A->∀(h:i+1+k<s.size),(qaP s[i+1+k]=true->k=A)/\(qaP s[i+1+k]=false->k+1<=A)):=by
     intro k E h
     have X:=xeS (s:=s) (k:=i+1) (i:=k) h
     refine⟨fun e=>?_,fun e=>?_⟩
     ·rw[<- t];exact qxG (by rw[t];exact E) (fun c hc=>by rw[X]at hc;cases hc;rw[e];rfl)
     ·have:=qxF (p:=fun x=>!qaP x) (by rw[t];exact E) X (by rw[e];rfl)
      rw[t]at this;exact this
    have HS:Hid (∀k,k<=A->¬i+1+k<s.size->k=A):=by
     intro k E h
     have:=HT.out
     omega
    rw[t]at I HT
    have aM:=HT.out
    clear t HT
    go_wp2_with fail
    go_loopw [5] (fun ev w2=>r=w2/\∃k j:Nat,ev=.int .i64 (j:Int)/\j=i+1+k/\k<=A) (fun ev _=>s.size-(intOf ev).toNat)
    case atStart=>exact⟨rfl,0,i+1,by go_num,rfl,Nat.zero_le _⟩
    case round=>
     obtain⟨aG,k,j,rfl,H,E⟩:=hrel
     subst aG
     have HJ:=Lib.hid H
     have aN:j<=i+1+A:=by omega
     have aO:i+1<=j:=by omega
     have aP:(0:Int)<=(j:Int):=by omega
     have aQ:IntKind.i64.wrap ((j:Int)+1)=(j:Int)+1:=by rw[IntKind.wrap_i64];omega
     by_cases hjs:j<s.size
     ·have aE:decide ((j:Int)<(s.size:Int))=true:=by simp;omega
      have aF:(j:Int)<(s.size:Int):=by omega
      have u:=Lib.hid (HK.out k E (by omega))
      have F:(((s[j]).toNat:Int)==32)=(s[j]==32):=qkH (c:=s[j]) (v:=32) (by decide)
      have G:(((s[j]).toNat:Int)==10)=(s[j]==10):=qkH (c:=s[j]) (v:=10) (by decide)
      have U:Hid (qaP s[j]=(s[j]==32 || s[j]==10)):=rfl
      cases hq2:(s[j]==32) with
      | true=>
       have y:(((s[j]).toNat:Int)==32)=true:=F.trans hq2
       have Y:(((s[j]).toNat:Int) != 32)=false:=by simp[bne,y]
       have z:k=A:=u.out.1 (by subst H;rw[U.out,hq2];rfl)
       have K:Hid (j=i+qaU (s.data.toList.drop i)):=by
        show _=_
        rw[I.out];omega
       have L:(i:Int)<=(j:Int):=by omega
       have M:(j:Int)<=(s.size:Int):=by omega
       clear F G hq2 u HK HS z H HJ E U
       obtain⟨l,d⟩:∃xs,r.ownsRow w.heap.size 9 1 (.slice P n Q) n xs:=by obtain⟨l,f,-,-,-,h4⟩:=B.out.row;exact⟨_,h4⟩
       have D:=Lib.hid d
       clear d
       go_wp2_with (at_builtin;refine wpList_append_lies _ rfl (.tmp 65) (.tmp 70) 22 rfl w.heap.size 9 i0 _ 1 16 underlying22 C.out.1 C.out.2.1 C.out.2.2.1 C.out.2.2.2 rfl (by decide) (.slice P n Q) n l rfl (D.out.alloc _) ⟨r.heap.size,0,none⟩ 1 1 [.string (s.extract i (j))] rfl rfl (World.news_of_block (heap_alloc_new r _)) (by simp[Value.oneCell']) (by decide) (by unfold maxLen;omega) (by omega) (by simp;omega) (r.heap.size+1) (by simp) ?_;intro g cap w3 b a m q;refine Hid.out ?_)
       refine Lib.hid ?_
       have N:=Lib.hid (B.out.word (o:=.cells #[.string (s.extract i (j))] 9) (e:=j) (g:=g) (cap:=cap) (w3:=w3) hlt HB.out K.out (fun xs hxs=>by rw[qnD hxs D.out];exact b) a)
       have O:=N.out.le
       clear b a m q D B HB HD I K
       go_wp2_with fail
       go_roundw
       case rel=>exact⟨j,n+1,_,_,by go_num,rfl,N.out⟩
       case measure=>simp[intOf];omega
      | false=>
       have y:(((s[j]).toNat:Int)==32)=false:=F.trans hq2
       have Y:(((s[j]).toNat:Int) != 32)=true:=by simp[bne,y]
       cases hq3:(s[j]==10) with
       | true=>
        have Z:(((s[j]).toNat:Int)==10)=true:=G.trans hq3
        have aK:(((s[j]).toNat:Int) != 10)=false:=by simp[bne,Z]
        have z:k=A:=u.out.1 (by subst H;rw[U.out,hq2,hq3];rfl)
        have K:Hid (j=i+qaU (s.data.toList.drop i)):=by
         show _=_
         rw[I.out];omega
        have L:(i:Int)<=(j:Int):=by omega
        have M:(j:Int)<=(s.size:Int):=by omega
        clear F G hq2 hq3 u HK HS z H HJ E U
        obtain⟨l,d⟩:∃xs,r.ownsRow w.heap.size 9 1 (.slice P n Q) n xs:=by obtain⟨l,f,-,-,-,h4⟩:=B.out.row;exact⟨_,h4⟩
        have D:=Lib.hid d
        clear d
        go_wp2_with (at_builtin;refine wpList_append_lies _ rfl (.tmp 65) (.tmp 70) 22 rfl w.heap.size 9 i0 _ 1 16 underlying22 C.out.1 C.out.2.1 C.out.2.2.1 C.out.2.2.2 rfl (by decide) (.slice P n Q) n l rfl (D.out.alloc _) ⟨r.heap.size,0,none⟩ 1 1 [.string (s.extract i (j))] rfl rfl (World.news_of_block (heap_alloc_new r _)) (by simp[Value.oneCell']) (by decide) (by unfold maxLen;omega) (by omega) (by simp;omega) (r.heap.size+1) (by simp) ?_;intro g cap w3 b a m q;refine Hid.out ?_)
        refine Lib.hid ?_
        have N:=Lib.hid (B.out.word (o:=.cells #[.string (s.extract i (j))] 9) (e:=j) (g:=g) (cap:=cap) (w3:=w3) hlt HB.out K.out (fun xs hxs=>by rw[qnD hxs D.out];exact b) a)
        have O:=N.out.le
        clear b a m q D B HB HD I K
        go_wp2_with fail
        go_roundw
        case rel=>exact⟨j,n+1,_,_,by go_num,rfl,N.out⟩
        case measure=>simp[intOf];omega
       | false=>
        have Z:(((s[j]).toNat:Int)==10)=false:=G.trans hq3
        have aK:(((s[j]).toNat:Int) != 10)=true:=by simp[bne,Z]
        have z:k+1<=A:=u.out.2 (by subst H;rw[U.out,hq2,hq3];rfl)
        clear F G hq2 hq3 u HK HS H E U
        go_wp2_with fail
        go_roundw
        case rel=>exact⟨trivial,k+1,j+1,by go_num,by have:=HJ.out;omega,z⟩
        case measure=>simp[intOf];omega
     ·have aE:decide ((j:Int)<(s.size:Int))=false:=by simp;omega
      have aF:¬(j:Int)<(s.size:Int):=by omega
      have z:k=A:=HS.out k E (by omega)
      have K:Hid (j=i+qaU (s.data.toList.drop i)):=by
       show _=_
       rw[I.out];omega
      have L:(i:Int)<=(j:Int):=by omega
      have M:(j:Int)<=(s.size:Int):=by omega
      clear HK H HJ E HS z
      obtain⟨l,d⟩:∃xs,r.ownsRow w.heap.size 9 1 (.slice P n Q) n xs:=by obtain⟨l,f,-,-,-,h4⟩:=B.out.row;exact⟨_,h4⟩
      have D:=Lib.hid d
      clear d
      go_wp2_with (at_builtin;refine wpList_append_lies _ rfl (.tmp 65) (.tmp 70) 22 rfl w.heap.size 9 i0 _ 1 16 underlying22 C.out.1 C.out.2.1 C.out.2.2.1 C.out.2.2.2 rfl (by decide) (.slice P n Q) n l rfl (D.out.alloc _) ⟨r.heap.size,0,none⟩ 1 1 [.string (s.extract i (j))] rfl rfl (World.news_of_block (heap_alloc_new r _)) (by simp[Value.oneCell']) (by decide) (by unfold maxLen;omega) (by omega) (by simp;omega) (r.heap.size+1) (by simp) ?_;intro g cap w3 b a m q;refine Hid.out ?_)
      refine Lib.hid ?_
      have N:=Lib.hid (B.out.word (o:=.cells #[.string (s.extract i (j))] 9) (e:=j) (g:=g) (cap:=cap) (w3:=w3) hlt HB.out K.out (fun xs hxs=>by rw[qnD hxs D.out];exact b) a)
      have O:=N.out.le
      clear b a m q D B HB HD I K
      go_wp2_with fail
      go_roundw
      case rel=>exact⟨j,n+1,_,_,by go_num,rfl,N.out⟩
      case measure=>simp[intOf];omega
end Go.Proofs.YtelogmjfekhmpaaGreatDoor
