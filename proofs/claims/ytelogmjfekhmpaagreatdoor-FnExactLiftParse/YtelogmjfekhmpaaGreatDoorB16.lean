import Derived.Test.YtelogmjfekhmpaaGreatDoorB6
import Derived.Test.YtelogmjfekhmpaaGreatDoorB1
import Derived.Deep.WholeRow
import Derived.Lib.Hide
import Derived.WideShapes
import Derived.Test.YtelogmjfekhmpaaGreatDoorB7
import Derived.BigQuiet
namespace Go.Proofs.YtelogmjfekhmpaaGreatDoor
open Go.RowKit Go.Proofs.Tryz
set_option maxRecDepth 100000
set_option maxHeartbeats 16000000
def opL:Nat->List Value
 | 0=>[]
 | n+1=>opL n++[.string (wrd n),.string (bs (prt n)),.int .i64 (lst n),.int .i64 (mst n)]
def opC:Array Value:=(opL 44).toArray
theorem xiJ:∀n,(opL n).length=n*4:=by
 intro n
 induction n with
 | zero=>rfl
 | succ n ih=>rw[opL,List.length_append,ih];simp;omega
theorem xiK:∀n k,k<n->(opL n)[k*4]?=some (.string (wrd k))/\(opL n)[k*4+1]?=some (.string (bs (prt k)))/\(opL n)[k*4+2]?=some (.int .i64 (lst k))/\(opL n)[k*4+3]?=some (.int .i64 (mst k)):=by
 intro n
 induction n with
 | zero=>intro k h;exact absurd h (Nat.not_lt_zero _)
 | succ n ih=>
  intro k h
  have a:=xiJ n
  by_cases hk:k<n
  ·obtain⟨b,c,d,e⟩:=ih k hk
   rw[opL,List.getElem?_append_left (by omega),List.getElem?_append_left (by omega),List.getElem?_append_left (by omega),List.getElem?_append_left (by omega)]
   exact⟨b,c,d,e⟩
  ·have:k=n:=by omega
   subst this
   rw[opL,List.getElem?_append_right (by omega),List.getElem?_append_right (by omega),List.getElem?_append_right (by omega),List.getElem?_append_right (by omega),a,
    show k*4-k*4=0 by omega,show k*4+1-k*4=1 by omega,show k*4+2-k*4=2 by omega,show k*4+3-k*4=3 by omega]
   exact⟨rfl,rfl,rfl,rfl⟩
def Book(w:World)(b:Nat):Prop:=∀k,k<44->w.cell? ⟨b,k*4,none⟩=some (.string (wrd k))/\w.cell? ⟨b,k*4+1,none⟩=some (.string (bs (prt k)))/\w.cell? ⟨b,k*4+2,none⟩=some (.int .i64 (lst k))/\w.cell? ⟨b,k*4+3,none⟩=some (.int .i64 (mst k))
theorem Book.keep{w w':World}{b:Nat}(h:Book w b)(hb:w'.heap[b]?=w.heap[b]?):Book w' b:=by
 intro k c
 obtain⟨d,e,f,g⟩:=h k c
 exact⟨(World.cell?_of_block (w:=w) (w':=w') (a:=⟨b,k*4,none⟩) hb).trans d,(World.cell?_of_block (w:=w) (w':=w') (a:=⟨b,k*4+1,none⟩) hb).trans e,(World.cell?_of_block (w:=w) (w':=w') (a:=⟨b,k*4+2,none⟩) hb).trans f,(World.cell?_of_block (w:=w) (w':=w') (a:=⟨b,k*4+3,none⟩) hb).trans g⟩
theorem Book.of{w:World}{b:Nat}{t:TypeId}{z:Nat×Nat}(h:w.heap[b]?=some (.cells opC t z)):Book w b:=by
 intro k a
 obtain⟨c,d,e,f⟩:=xiK 44 k a
 refine⟨?_,?_,?_,?_⟩
 ·simp[World.cell?,h,opC,c]
 ·simp[World.cell?,h,opC,d]
 ·simp[World.cell?,h,opC,e]
 ·simp[World.cell?,h,opC,f]
theorem qpM {P:Program} {fn:Func} {p:Tmp} {ty:TypeId} (h:fn.results=#[.cell p ty]) (tmps:Array Value) (w:World) (b:Addr) (v:Value) (ha:tmps.getD p undef=.pointer (some b)) (hl:(loadVar ty b).run P w=.ok v w) :
  (results fn tmps).run P w=.ok v w:=by
 have a:tmps[p]?.getD undef=.pointer (some b):=by simpa using ha
 simp[results,h,a,hl,asAddr]
theorem qpN(w:World):Calls prog 61 #[] w fun e w'=>e=.returned (.agg opC)/\Below w.heap.size w w':=by
 have f:opC.size=176:=by kernel_rfl
 have c:=run_storeAt_new (P:=prog) w 99 Tryz.zeroCells99 opC (by kernel_rfl) (by kernel_rfl) (by kernel_rfl)
 have a:=run_storeCells_new (P:=prog) w 99 Tryz.zeroCells99 opC (by kernel_rfl) (by kernel_rfl) (by kernel_rfl)
 have d:Hid _:=run_loadVar_new (P:=prog) w 99 opC 44 98 (by kernel_rfl) (by kernel_rfl)
 go_enter func61,ntmps61
 go_wp2_with fail
 conv=>
  pattern (Array.setIfInBounds (Array.setIfInBounds _ 174 _) 175 _)
  tactic=>refine Eq.trans (b:=opC) ?_ rfl;kernel_rfl
 conv=>
  pattern (List.set (List.set _ 174 _) 175 _)
  tactic=>refine Eq.trans (b:=opC.toList) ?_ rfl;kernel_rfl
 have g:Hid (Below w.heap.size w (w.alloc (.cells opC 99))):=(Below.refl _ _).alloc (Nat.le_refl _) _
 rw[a]
 clear c a
 go_wp2_with fail
 exact bodyPost_ret (qpM results61 _ _ ⟨w.heap.size,0,none⟩ _ rfl d.out) rfl ⟨rfl,g.out⟩
theorem qpO(w:World):Calls prog 49 #[] w fun e w'=>∃b,e=.returned (.pointer (some ⟨b,0,none⟩))/\w.heap.size<=b/\b<w'.heap.size/\Book w' b/\Below w.heap.size w w':=by
 have f:opC.size=176:=by kernel_rfl
 have h:Array.foldl (fun cs (x:Value×Nat)=>cs.setIfInBounds x.snd x.fst) Tryz.zeroCells102 opC.zipIdx 0 176=opC:=by kernel_rfl
 go_enter func49,ntmps49
 go_wp2_with fail
 refine (qpN w).mono ?_
 rintro e c ⟨rfl,a⟩
 have d:=a.alloc a.size (.cells opC 102)
 have g:Hid (∃b,Ending.returned (.pointer (some ⟨c.heap.size,0,none⟩))=.returned (.pointer (some ⟨b,0,none⟩))/\w.heap.size<=b/\b<(c.alloc (.cells opC 102)).heap.size/\Book (c.alloc (.cells opC 102)) b/\Below w.heap.size w (c.alloc (.cells opC 102))):=
  ⟨c.heap.size,rfl,a.size,by simp,Book.of (heap_alloc_last c _),d⟩
 clear a d
 go_wp2_with fail
 go_ret
 exact g.out
theorem xbA(a b:ByteArray):(a==b)=decide (a=b):=by
 obtain⟨x⟩:=a
 obtain⟨y⟩:=b
 show (x==y)=_
 by_cases h:x=y
 ·subst h;simp
 ·have c:¬(ByteArray.mk x)=⟨y⟩:=fun e=>h (congrArg ByteArray.data e)
  rw[decide_eq_false c];simpa using h
theorem qcL(a b:ByteArray):(a.toList==b.toList)=(a==b):=by
 rw[ByteArray.toList_eq,ByteArray.toList_eq,xbA]
 by_cases h:a=b
 ·subst h;simp
 ·have c:¬a.data.toList=b.data.toList:=fun e=>h (Go.WideShapes.bytes_inj e)
  rw[decide_eq_false h];simpa using c
theorem qiP(a:ByteArray)(l:List UInt8):(a.toList==l)=(a==bs l):=by
 rw[<- qcL,ByteArray.toList_eq (bs l),qcB]
theorem xbB{s:ByteArray}{k n:Nat}(h:(wrd k==s)=true):opF s k (n+1)=k:=by rw[opF,if_pos h]
theorem xhZ{s:ByteArray}{k n:Nat}(h:(wrd k==s)=false):opF s k (n+1)=opF s (k+1) n:=by rw[opF,if_neg (by rw[h];decide)]
theorem qkL (b:Nat) (s:ByteArray) (w:World) (hb:Book w b) :
  Calls prog 82 #[.pointer (some ⟨b,0,none⟩),.string s] w fun e w'=>e=.returned (.int .i64 (opW s:Nat))/\w'=w:=by
 have g:Hid (Book w b):=hb
 clear hb
 go_enter func82,ntmps82
 go_wp2_with fail
 go_loop [5] (fun i=>∃k:Nat,5<=k/\k<=44/\i=.int .i64 (k:Int)/\Hid (opF s k (44-k)=opW s)) (fun i=>44-(intOf i).toNat)
 case atStart=>exact⟨5,by omega,by omega,rfl,rfl⟩
 case round=>
  obtain⟨k,j,h,rfl,a⟩:=hrel
  by_cases hk:k<44
  ·obtain⟨c0,-,-,-⟩:=g.out k hk
   have d:(k:Int)<=43:=by omega
   cases hq:(wrd k==s) with
   | true=>
    have c:Hid (Ending.returned (.int .i64 (k:Int))=.returned (.int .i64 ((opW s:Nat):Int))):=by
     show _=_
     rw[<- a.out,show 44-k=(43-k)+1 by omega,xbB hq]
    have f:((wrd k).toList==s.toList)=true:=(qcL _ _).trans hq
    clear hq a
    go_wp2_with fail
    go_ret
    exact⟨c.out,rfl⟩
   | false=>
    have c:Hid (opF s (k+1) (44-(k+1))=opW s):=by
     show _=_
     rw[<- a.out,show 44-k=(44-(k+1))+1 by omega,xhZ hq]
    have f:((wrd k).toList==s.toList)=false:=(qcL _ _).trans hq
    clear hq a
    go_wp2_with fail
    go_round
    case rel=>exact⟨k+1,by omega,by omega,by go_num,c⟩
    case measure=>simp[intOf];omega
  ·have d:¬(k:Int)<=43:=by omega
   have c:Hid (Ending.returned (.int .i64 (0:Int))=.returned (.int .i64 ((opW s:Nat):Int))):=by
    show _=_
    rw[<- a.out,show 44-k=0 by omega];rfl
   clear a
   go_wp2_with fail
   go_ret
   exact⟨c.out,rfl⟩
theorem qgQ (b:Nat) (s:ByteArray) (w:World) (hs:s.size<=maxLen) (hb:Book w b) :
  Calls prog 84 #[.pointer (some ⟨b,0,none⟩),.string s] w fun e w'=>e=.returned (.bool (freeB s))/\w'=w:=by
 have a:Hid (Calls prog 106 _ _ _):=qgA s w hs
 have c:Hid (Calls prog 82 _ _ _):=qkL b s w hb
 have d:Hid (freeB s=(nameB s && (opW s==0) && !(s==bs [121,101,115]) && !(s==bs [110,111]) && !(s==bs [101,110,100]))):=rfl
 have i:=qiP s [121,101,115]
 have j:=qiP s [110,111]
 have k:=qiP s [101,110,100]
 generalize (s==bs [121,101,115])=b1 at *
 generalize (s==bs [110,111])=b2 at *
 generalize (s==bs [101,110,100])=b3 at *
 clear hb
 cases hn:nameB s with
 | false=>
  rw[hn]at a d
  go_enter func84,ntmps84
  go_wp2_with fail
  refine a.out.mono ?_
  rintro e g ⟨rfl,rfl⟩
  go_wp2_with fail
  go_ret
  exact⟨qaD (by rw[d.out];simp),rfl⟩
 | true=>
  rw[hn]at a d
  by_cases h0:opW s=0
  ·have f:(opW s==0)=true:=by simp[h0]
   rw[f]at d
   rw[h0]at c
   cases b1<;>cases b2<;>cases b3
   all_goals
    go_enter func84,ntmps84
    go_wp2_with fail
    refine a.out.mono ?_
    rintro e g ⟨rfl,rfl⟩
    go_wp2_with fail
    refine c.out.mono ?_
    rintro e g ⟨rfl,rfl⟩
    go_wp2_with fail
    go_ret
    exact⟨qaD (by rw[d.out];rfl),rfl⟩
  ·have f:(opW s==0)=false:=by simp[h0]
   have h:(((opW s:Nat):Int)==0)=false:=by simp;omega
   rw[f]at d
   go_enter func84,ntmps84
   go_wp2_with fail
   refine a.out.mono ?_
   rintro e g ⟨rfl,rfl⟩
   go_wp2_with fail
   refine c.out.mono ?_
   rintro e g ⟨rfl,rfl⟩
   go_wp2_with fail
   go_ret
   exact⟨qaD (by rw[d.out];simp),rfl⟩
theorem qxT(op:Int)(w:World):Calls prog 67 #[.int .i64 op] w fun e w'=>e=.returned (.int .i32 (poF op))/\w'=w:=by
 by_cases h1:op<1
 ·go_enter func67,ntmps67
  go_wp2_with fail
  go_ret
  exact⟨qaN (by unfold poF;rw[if_pos (.inl h1)]),rfl⟩
 by_cases h2:43<op
 ·go_enter func67,ntmps67
  go_wp2_with fail
  go_ret
  exact⟨qaN (by unfold poF;rw[if_pos (.inr h2)]),rfl⟩
 by_cases h3:op<36
 ·go_enter func67,ntmps67
  go_wp2_with fail
  go_ret
  exact⟨qaN (by unfold poF;rw[if_neg (by omega),if_pos h3]),rfl⟩
 ·go_enter func67,ntmps67
  go_wp2_with fail
  go_ret
  exact⟨qaN (by unfold poF;rw[if_neg (by omega),if_neg (by omega)]),rfl⟩
theorem xbC(x y:ByteArray)(a c n:Int)(w:World):Calls prog 87 #[.agg #[.string x,.string y,.int .i64 a,.int .i64 c],.int .i64 n] w fun e w'=>e=.returned (.bool (decide (a<=n/\n<=c)))/\Below w.heap.size w w':=by
 have b:=(Below.refl w.heap.size w).alloc (Nat.le_refl _) (.cells #[.string x,.string y,.int .i64 a,.int .i64 c] 98)
 by_cases h1:a<=n<;>by_cases h2:n<=c
 all_goals
  go_enter func87,ntmps87
  go_wp2_with fail
  go_ret
  exact⟨qaD (by simp[h1,h2];try omega),b⟩
theorem qnL (s m:Int) (x:ByteArray) (a1 a2:Option Addr) (n1 n2 k1 k2:Nat) (w:World):Calls prog 93 #[.agg #[.int .i64 s,.int .i64 m,.string x,.slice a1 n1 k1,.slice a2 n2 k2]] w
  fun e w'=>e=.returned (.agg #[.int .i64 s,.int .i64 m,.string x,.slice none 0 0,.slice none 0 0])/\Below w.heap.size w w':=by
 have a:Below w.heap.size w ((w.alloc (.cells #[.int .i64 s,.int .i64 m,.string x,.slice a1 n1 k1,.slice a2 n2 k2] 25)).alloc (.cells #[.int .i64 s,.int .i64 m,.string x,.slice none 0 0,.slice none 0 0] 67)):=
  ((Below.refl _ _).alloc (Nat.le_refl _) _).alloc (by simp) _
 go_enter func93,ntmps93
 go_wp2_with fail
 refine bodyPost_ret (v:=.agg #[.int .i64 s,.int .i64 m,.string x,.slice none 0 0,.slice none 0 0]) (by simp[results,results93,go_sem]) rfl ?_
 exact⟨rfl,a⟩
theorem qlC(k:Nat)(h:k<44):k=0∨k=1∨k=2∨k=3∨k=4∨k=5∨k=6∨k=7∨k=8∨k=9∨k=10∨k=11∨k=12∨k=13∨k=14∨k=15∨k=16∨k=17∨k=18∨k=19∨k=20∨k=21∨k=22∨k=23∨k=24∨k=25∨k=26∨k=27∨k=28∨k=29∨k=30∨k=31∨k=32∨k=33∨k=34∨k=35∨k=36∨k=37∨k=38∨k=39∨k=40∨k=41∨k=42∨k=43:=by omega
def kdS(k:Nat):List UInt8:=(kdV k).map (fun v=>if v=65 then 97 else 118)
def nmS(k:Nat):Nat:=((preL k).filter (fun p=>p==78 || p==88)).length
def bdS(k:Nat):Bool:=(preL k).contains 88
theorem qkM(k:Nat)(hk:k<44)(w:World):Calls prog 25 #[.int .i64 (k:Int)] w fun e w'=>e=.returned (.int .i64 (nmS k:Nat))/\w'=w:=by
 rcases qlC k hk with rfl|rfl|rfl|rfl|rfl|rfl|rfl|rfl|rfl|rfl|rfl|rfl|rfl|rfl|rfl|rfl|rfl|rfl|rfl|rfl|rfl|rfl|rfl|rfl|rfl|rfl|rfl|rfl|rfl|rfl|rfl|rfl|rfl|rfl|rfl|rfl|rfl|rfl|rfl|rfl|rfl|rfl|rfl|rfl
 all_goals
  go_enter func25,ntmps25
  go_wp2
  go_ret
  exact⟨qaN (by decide),rfl⟩
theorem qkN(k:Nat)(hk:k<44)(w:World):Calls prog 27 #[.int .i64 (k:Int)] w fun e w'=>e=.returned (.bool (bdS k))/\w'=w:=by
 rcases qlC k hk with rfl|rfl|rfl|rfl|rfl|rfl|rfl|rfl|rfl|rfl|rfl|rfl|rfl|rfl|rfl|rfl|rfl|rfl|rfl|rfl|rfl|rfl|rfl|rfl|rfl|rfl|rfl|rfl|rfl|rfl|rfl|rfl|rfl|rfl|rfl|rfl|rfl|rfl|rfl|rfl|rfl|rfl|rfl|rfl
 all_goals
  go_enter func27,ntmps27
  go_wp2
  go_ret
  exact⟨qbL (by decide),rfl⟩
def nmOk(bd:Bool)(l:List ByteArray)(i:Nat):Bool:=nameB (l.getD i ByteArray.empty) && (!bd || freeB (l.getD i ByteArray.empty)) && !(decide (0<i) && (l.getD i ByteArray.empty==l.getD 0 ByteArray.empty))
def nmTo(bd:Bool)(l:List ByteArray)(j:Nat):Bool:=(List.range j).all (nmOk bd l)
theorem xbE(bd:Bool)(l:List ByteArray)(k:Nat):nmTo bd l (k+1)=(nmTo bd l k && nmOk bd l k):=by
 simp[nmTo,List.range_succ]
theorem qxV(bd:Bool)(l:List ByteArray)(k j:Nat)(h:k<j)(hf:nmOk bd l k=false):nmTo bd l j=false:=by
 unfold nmTo
 rw[List.all_eq_false]
 exact⟨k,List.mem_range.2 h,by simp[hf]⟩
def tailP{α:Type}(n:Nd α)(pre:List UInt8):Bool:=
 match pre with
 | [84]=>qaO n.sort n.num n.text [] 0
 | [75]=>(n.num==0) && kindB n.text
 | [35]=>decide (lst n.sort.toNat<=n.num/\n.num<=mst n.sort.toNat) && n.text.toList.isEmpty
 | [78,35]=>decide (lst n.sort.toNat<=n.num/\n.num<=mst n.sort.toNat) && n.text.toList.isEmpty
 | _=>(n.num==0) && n.text.toList.isEmpty
theorem qrS(a:ByteArray)(h:freeB a=true):nameB a=true:=by
 simp only[freeB,Bool.and_eq_true]at h;exact h.1.1.1.1
theorem xbF(bd:Bool)(a:ByteArray):nmTo bd [a] 1=(nameB a && (!bd || freeB a)):=by
 simp[nmTo,nmOk,List.range_succ]
theorem quJ(a:ByteArray):(nameB a && (!true || freeB a))=freeB a:=by
 cases h:freeB a with
 | false=>simp
 | true=>rw[qrS a h];rfl
theorem nm_two(a b:ByteArray):nmTo true [a,b] 2=(freeB a && freeB b && !(b==a)):=by
 have e:nmTo true [a,b] 2=((nameB a && (!true || freeB a)) && ((nameB b && (!true || freeB b)) && !(b==a))):=by
  simp[nmTo,nmOk,List.range_succ]
 rw[e,quJ,quJ,Bool.and_assoc]
theorem xbG{α:Type}(n:Nd α)(k:Nat)(hk:k<44)(h24:k≠24):preC n (preL k)=((n.names.length==nmS k) && nmTo (bdS k) n.names n.names.length && tailP n (preL k)):=by
 have f:∀bd,nmTo bd n.names 0=true:=fun _=>rfl
 unfold nmS bdS
 rcases (qeA k hk).resolve_left h24 with e|e|e|e|e|e|e|e
 all_goals rw[e]
 ·cases hn:n.names with
  | nil=>simp[preC,tailP,hn,nmTo]
  | cons a q=>simp[preC,hn];omega
 ·cases hn:n.names with
  | nil=>simp[preC,tailP,hn,nmTo]
  | cons a q=>simp[preC,hn];omega
 ·cases hn:n.names with
  | nil=>simp[preC,tailP,hn,nmTo]
  | cons a q=>simp[preC,hn];omega
 ·cases hn:n.names with
  | nil=>simp[preC,tailP,hn,nmTo]
  | cons a q=>simp[preC,hn];omega
 ·match hn:n.names with
  | []=>simp[preC,hn]
  | [a]=>
   have d:nmTo (([88]:List UInt8).contains 88) [a] 1=freeB a:=by rw[xbF];exact quJ a
   simp only[preC,tailP,hn,List.length_singleton]
   rw[show (List.filter (fun p:UInt8=>p==78 || p==88) [88]).length=1 from rfl,d]
   simp[Bool.and_comm]
  | a :: b :: q=>simp[preC,hn]
 ·match hn:n.names with
  | []=>simp[preC,hn]
  | [a]=>
   have d:nmTo (([78]:List UInt8).contains 88) [a] 1=nameB a:=by rw[xbF];simp
   simp only[preC,tailP,hn,List.length_singleton]
   rw[show (List.filter (fun p:UInt8=>p==78 || p==88) [78]).length=1 from rfl,d]
   simp[Bool.and_comm]
  | a :: b :: q=>simp[preC,hn]
 ·match hn:n.names with
  | []=>simp[preC,hn]
  | [a]=>simp[preC,hn]
  | [a,b]=>
   have d:nmTo (([88,88]:List UInt8).contains 88) [a,b] 2=(freeB a && freeB b && !(b==a)):=nm_two a b
   simp only[preC,tailP,hn,List.length_cons,List.length_nil]
   rw[show (List.filter (fun p:UInt8=>p==78 || p==88) [88,88]).length=2 from rfl,d]
   simp[Bool.and_comm]
  | a :: b :: c :: q=>simp[preC,hn]
 ·match hn:n.names with
  | []=>simp[preC,hn]
  | [a]=>
   have d:nmTo (([78,35]:List UInt8).contains 88) [a] 1=nameB a:=by rw[xbF];simp
   simp only[preC,tailP,hn,List.length_singleton]
   rw[show (List.filter (fun p:UInt8=>p==78 || p==88) [78,35]).length=1 from rfl,d]
   simp[Bool.and_comm]
  | a :: b :: q=>simp[preC,hn]
def qcY{α:Type}(n:Nd α)(act:Bool):Bool:=
 decide (1<=n.sort/\n.sort<=43) && (act==decide (36<=n.sort)) &&
  (if n.sort=24 then (n.num==0) && n.text.toList.isEmpty && riseB n.names && (n.names.length==n.kids.length) && !(n.names.any (fun y=>y==bs [101,110,100]))
   else (n.kids.length==(kdV n.sort.toNat).length) && preC n (preL n.sort.toNat))
def actAt(k i:Nat):Bool:=decide (k≠24) && ((kdS k).getD i 0==97)
theorem xbH(op:Int)(h:1<=op/\op<=43):poF op=if 36<=op then 65 else 86:=by
 unfold poF
 rw[if_neg (by omega)]
 by_cases h2:op<36
 ·rw[if_pos h2,if_neg (by omega)]
 ·rw[if_neg h2,if_pos (by omega)]
theorem qxW {α:Type} (po:α->Int) (n:Nd α) (act:Bool) :
  (qcY n act && (n.kids.zipIdx.all fun x=>po x.1==(if actAt n.sort.toNat x.2=true then 65 else 86)))=(justB po n && (act==decide (36<=n.sort))):=by
 by_cases hr:1<=n.sort/\n.sort<=43
 case neg=>
  have g:qcY n act=false:=by unfold qcY;rw[decide_eq_false hr];rfl
  have j:justB po n=false:=by unfold justB;rw[decide_eq_false hr];rfl
  rw[g,j];rfl
 unfold qcY
 rw[decide_eq_true hr,Bool.true_and]
 cases ha:(act==decide (36<=n.sort)) with
 | false=>simp
 | true=>
  rw[Bool.and_true,Bool.true_and]
  by_cases h24:n.sort=24
  ·rw[if_pos h24,qdT po n h24,h24,show (24:Int).toNat=24 from rfl]
   have t:(n.kids.zipIdx.all fun x=>po x.1==(if actAt 24 x.2=true then 65 else 86))=n.kids.all (fun x=>po x==86):=by
    have:∀i,actAt 24 i=false:=fun i=>by simp[actAt]
    simp only[this]
    rw[Bool.eq_iff_iff,List.all_eq_true,List.all_eq_true]
    constructor
    ·intro h x f
     obtain⟨i,b,rfl⟩:=List.getElem_of_mem f
     exact h (n.kids[i],i) (by rw[List.mem_zipIdx_iff_getElem?];simp[b])
    ·intro h x f
     have:=List.mem_zipIdx f
     exact h x.1 (by rw[this.2.2];exact List.getElem_mem _)
   rw[t]
   unfold qeK
   by_cases l:n.names.length=n.kids.length
   ·have d:(n.names.length==n.kids.length)=true:=by simp[l]
    rw[d]
    have u:qdD po n n.names.length=(riseB n.names && !(n.names.any (fun y=>y==bs [101,110,100])) && n.kids.all (fun x=>po x==86)):=by
     rw[Bool.eq_iff_iff]
     simp only[qdD,riseB,qdR,Bool.and_eq_true,List.all_eq_true,List.mem_range,Bool.not_eq_true',List.any_eq_false,qcM]
     constructor
     ·intro h
      refine⟨⟨fun i b=>(h i b).1.1,fun y hy=>?_⟩,fun x f=>?_⟩
      ·obtain⟨i,b,rfl⟩:=List.getElem_of_mem hy
       have:=(h i b).1.2
       simp only[List.getD_eq_getElem?_getD,List.getElem?_eq_getElem b,Option.getD_some]at this
       rw[this];decide
      ·obtain⟨i,b,rfl⟩:=List.getElem_of_mem f
       have:=(h i (by omega)).2
       simpa [List.getD_eq_getElem?_getD,b] using this
     ·rintro ⟨⟨g,j⟩,z⟩ i b
      have m:i<n.kids.length:=by omega
      refine⟨⟨g i b,?_⟩,?_⟩
      ·have:=j n.names[i] (List.getElem_mem b)
       simp only[List.getD_eq_getElem?_getD,List.getElem?_eq_getElem b,Option.getD_some]
       simpa using this
      ·have:=z n.kids[i] (List.getElem_mem m)
       simpa [List.getD_eq_getElem?_getD,m] using this
    rw[u]
    cases (n.num==0)<;>cases n.text.toList.isEmpty<;>cases riseB n.names<;>cases (n.names.any (fun y=>y==bs [101,110,100]))<;>cases n.kids.all (fun x=>po x==86)<;>rfl
   ·have d:(n.names.length==n.kids.length)=false:=by simp[l]
    rw[d];simp
  ·rw[if_neg h24,qfA po n hr.1 hr.2 h24]
   have s:n.sort.toNat<44:=by omega
   have o:n.sort.toNat≠24:=by omega
   generalize n.sort.toNat=k at *
   have p:((n.kids.length==(kdV k).length) && (n.kids.zipIdx.all fun x=>po x.1==(if actAt k x.2=true then 65 else 86)))=decide (n.kids.map po=(kdV k).map (fun v=>(v.toNat:Int))):=by
    have c:∀i (h:i<(kdV k).length),(if actAt k i=true then (65:Int) else 86)=(((kdV k)[i]).toNat:Int):=by
     intro i b
     have w:=qiI k _ (List.getElem_mem b)
     have q:(kdS k).getD i 0=if (kdV k)[i]=65 then 97 else 118:=by
      unfold kdS;simp[List.getD_eq_getElem?_getD,b]
     unfold actAt
     rw[q,decide_eq_true o]
     rcases w with e|e<;>rw[e]<;>rfl
    rw[Bool.eq_iff_iff,decide_eq_true_eq,Bool.and_eq_true,List.all_eq_true,beq_iff_eq]
    constructor
    ·rintro ⟨l,h⟩
     apply List.ext_getElem
     ·simpa using l
     ·intro i g j
      simp only[List.length_map]at g j
      have:=h (n.kids[i],i) (by rw[List.mem_zipIdx_iff_getElem?];simp[g])
      simp only[beq_iff_eq]at this
      rw[List.getElem_map,List.getElem_map,this,c i j]
    ·intro h
     have l:n.kids.length=(kdV k).length:=by simpa using congrArg List.length h
     refine⟨l,fun x f=>?_⟩
     have q:=List.mem_zipIdx f
     have b:x.2<n.kids.length:=by omega
     have e:(n.kids.map po)[x.2]?=((kdV k).map (fun v=>(v.toNat:Int)))[x.2]?:=by rw[h]
     simp only[List.getElem?_map,List.getElem?_eq_getElem b,List.getElem?_eq_getElem (show x.2<(kdV k).length by omega),Option.map_some,Option.some.injEq]at e
     have r:x.1=n.kids[x.2]:=by simpa using q.2.2
     rw[r,e,c x.2 (by omega)];simp
   rw[<- p]
   cases (n.kids.length==(kdV k).length)<;>cases preC n (preL k)<;>simp
theorem StrsIn.tail{S:Nat->Prop}{w:World}{a:ByteArray}{q:List ByteArray}{ao:Option Addr}{n cap:Nat}(h:StrsIn S w (a :: q) (.slice ao n cap))(hc1:n<=cap):StrsIn S w q (sliced ao 1 n cap 1):=by
 obtain⟨f,e,g,j,k,l⟩:=h
 cases g
 obtain⟨b,c,rfl,m,d⟩:=l (by simp)
 simp only[List.length_cons]at j hc1 ⊢
 unfold sliced
 refine⟨if cap=1 then some ⟨b,c,none⟩ else some ((⟨b,c,none⟩:Addr).add 1),cap-1,by simp,by omega,fun s hm=>k s (List.mem_cons_of_mem _ hm),fun hne=>?_⟩
 have o:0<q.length:=List.length_pos_iff.2 hne
 refine⟨b,c+1,by rw[if_neg (by omega)];simp[Addr.add],m,fun i hi=>?_⟩
 have:=d (i+1) (by simp;omega)
 rw[show c+1+i=c+(i+1) by omega]
 simpa using this
theorem RowIn.tail{α:Type}{S:Nat->Prop}{w:World}{R:α->Value->Value->Value->Value->Value->Prop}{a:α}{q:List α}{ao:Option Addr}{n cap:Nat}(h:RowIn S w R (a :: q) (.slice ao n cap))(hc1:n<=cap):RowIn S w R q (sliced ao 1 n cap 5):=by
 obtain⟨f,e,g,j,k⟩:=h
 cases g
 obtain⟨b,c,rfl,l,d⟩:=k (by simp)
 simp only[List.length_cons]at j hc1 ⊢
 unfold sliced
 refine⟨if cap=1 then some ⟨b,c,none⟩ else some ((⟨b,c,none⟩:Addr).add 5),cap-1,by simp,by omega,fun hne=>?_⟩
 have m:0<q.length:=List.length_pos_iff.2 hne
 refine⟨b,c+5,by rw[if_neg (by omega)];simp[Addr.add],l,fun i hi=>?_⟩
 have:=d (i+1) (by simp;omega)
 rw[show c+5+i*5=c+(i+1)*5 by omega]
 simpa using this
theorem xcC (S:Nat->Prop) (l:List ByteArray) (v:Value) (x:ByteArray) (w:World) (hl:StrsIn S w l v) :
  Calls prog 146 #[v,.string x] w fun e w'=>w'=w/\∃i:Int,e=.returned (.int .i64 i)/\decide (0<=i)=l.contains x:=by
 obtain⟨q,cap,rfl,f,o,j⟩:=hl
 unfold maxLen at f
 go_enter func146,ntmps146
 go_wp2_with fail
 go_loop [8] (fun i=>∃k:Nat,k<=l.length/\i=.int .i64 k/\Hid ((l.take k).contains x=false)) (fun i=>l.length-(intOf i).toNat)
 case atStart=>exact⟨0,Nat.zero_le _,rfl,rfl⟩
 case round=>
  obtain⟨k,r,rfl,g⟩:=hrel
  by_cases hlt:k<l.length
  ·obtain⟨b,p,rfl,-,a⟩:=j (by intro h;rw[h]at hlt;simp at hlt)
   have n:=a k hlt
   cases hq:(x==l[k]) with
   | true=>
    have m:=(qcL x l[k]).trans hq
    have c:Hid (decide (0<=(k:Int))=l.contains x):=by
     show _=_
     rw[decide_eq_true (by omega)]
     have:x=l[k]:=by rw[xbA]at hq;simpa using hq
     rw[this]
     symm
     rw[List.contains_eq_any_beq,List.any_eq_true]
     exact⟨l[k],List.getElem_mem hlt,by rw[xbA];simp⟩
    clear j a hq g
    go_wp2_with fail
    go_ret
    exact⟨rfl,_,rfl,c.out⟩
   | false=>
    have m:=(qcL x l[k]).trans hq
    have c:Hid ((l.take (k+1)).contains x=false):=by
     show _=_
     have d:=g.out
     rw[List.contains_eq_any_beq]at d ⊢
     rw[List.take_succ_eq_append_getElem hlt,List.any_append,d]
     simp[hq]
    clear j a hq g
    go_wp2_with fail
    go_round
    case rel=>exact⟨k+1,by omega,by go_num,c⟩
    case measure=>simp[intOf];omega
  ·have c:Hid (decide (0<=(-1:Int))=l.contains x):=by
    show _=_
    have d:=g.out
    rw[List.take_of_length_le (by omega)]at d
    rw[d];rfl
   clear j o g
   go_wp2_with fail
   go_ret
   exact⟨rfl,_,rfl,c.out⟩
theorem qrY (S:Nat->Prop) (l:List ByteArray) (v:Value) (x:ByteArray) (w:World) (hl:StrsIn S w l v) :
  Calls prog 116 #[v,.string x] w fun e w'=>w'=w/\e=.returned (.bool (l.contains x)):=by
 obtain⟨f,cap,d,-⟩:=id hl
 subst d
 have a:Hid (Calls prog 146 _ _ _):=xcC S l _ x w hl
 go_enter func116,ntmps116
 go_wp2_with fail
 refine a.out.mono ?_
 rintro e g ⟨rfl,i,rfl,c⟩
 have b:=hidF c
 clear c a hl
 by_cases h:0<=i
 ·go_wp2_with fail
  go_ret
  exact⟨rfl,qaD (by rw[<- b.out];simp[h])⟩
 ·go_wp2_with fail
  go_ret
  exact⟨rfl,qaD b.out⟩
theorem qrZ (S:Nat->Prop) (b:Nat) (p:UInt8) (s:ByteArray) (ahead:List ByteArray) (v:Value) (w:World) (hs:s.size<=maxLen) (hb:Book w b) (hl:StrsIn S w ahead v) :
  Calls prog 90 #[.pointer (some ⟨b,0,none⟩),.int .i32 (p.toNat:Int),.string s,v] w fun e w'=>e=.returned (.bool (qaY p s ahead))/\w'=w:=by
 obtain⟨j,cap,i,-⟩:=id hl
 subst i
 have d:Hid (Calls prog 106 _ _ _):=qgA s w hs
 have a:Hid (Calls prog 84 _ _ _):=qgQ b s w hs hb
 have f:Hid (Calls prog 116 _ _ _):=qrY S ahead _ s w hl
 clear hb hl
 by_cases hp:p=78
 ·have h:((p.toNat:Int)==78)=true:=by subst hp;rfl
  have c:Hid (qaY p s ahead=nameB s):=by show _=_;unfold qaY;rw[if_pos hp]
  clear hp
  go_enter func90,ntmps90
  go_wp2_with fail
  refine d.out.mono ?_
  rintro e g ⟨rfl,rfl⟩
  go_wp2_with fail
  go_ret
  exact⟨qaD c.out.symm,rfl⟩
 ·have h:((p.toNat:Int)==78)=false:=by
   have:¬p.toNat=78:=fun e=>hp (UInt8.toNat_inj.1 e)
   simp;omega
  have c:Hid (qaY p s ahead=(freeB s && !(ahead.contains s))):=by show _=_;unfold qaY;rw[if_neg hp]
  clear hp
  cases hf:freeB s with
  | false=>
   rw[hf]at c a
   go_enter func90,ntmps90
   go_wp2_with fail
   refine a.out.mono ?_
   rintro e g ⟨rfl,rfl⟩
   go_wp2_with fail
   go_ret
   exact⟨qaD (by rw[c.out];rfl),rfl⟩
  | true=>
   rw[hf]at c a
   go_enter func90,ntmps90
   go_wp2_with fail
   refine a.out.mono ?_
   rintro e g ⟨rfl,rfl⟩
   go_wp2_with fail
   refine f.out.mono ?_
   rintro e g ⟨rfl,rfl⟩
   go_wp2_with fail
   go_ret
   exact⟨qaD (by rw[c.out];simp),rfl⟩
structure Rst(S:Nat->Prop)(w:World)(m rb:Nat)(r:Nd (T m))(c0 v3 v4:Value):Prop where
 box:w.heap[rb]?=some (.cells #[c0,.int .i64 r.num,.string r.text,v3,v4] 25 (0,0))
 n3:StrsIn S w r.names v3
 k3:CapOk v3
 n4:RowIn S w (NodeIn S w m) r.kids v4
 k4:CapOk v4
theorem Rst.cells {S:Nat->Prop} {w:World} {m rb:Nat} {r:Nd (T m)} {c0 v3 v4:Value} (h:Rst S w m rb r c0 v3 v4) :
  (w.cell? ⟨rb,1,none⟩=some (.int .i64 r.num)/\w.cell? ⟨rb,2,none⟩=some (.string r.text)/\w.cell? ⟨rb,3,none⟩=some v3/\w.cell? ⟨rb,4,none⟩=some v4) /\
  (w.frozen? ⟨rb,1,none⟩=false/\w.frozen? ⟨rb,2,none⟩=false/\w.frozen? ⟨rb,3,none⟩=false/\w.frozen? ⟨rb,4,none⟩=false):=by
 have:=h.box
 refine⟨⟨?_,?_,?_,?_⟩,?_,?_,?_,?_⟩<;>simp[World.cell?,World.frozen?,this]
theorem xiV{w:World}{b i:Nat}{cs:Array Value}{t:TypeId}{z:Nat×Nat}(h:w.heap[b]?=some (.cells cs t z))(v:Value):(w.setCell ⟨b,i,none⟩ v).heap[b]?=some (.cells (cs.setIfInBounds i v) t z):=by
 simp[World.setCell,Array.getElem?_modify,h]
theorem qoL {P:Program} (t:TypeId) (sz:Nat) (hu:P.underlying t=some (.slice (P.elem t))) (hs:∀ W,(sizeOf (P.elem t)).run P W=.ok sz W) (a:Option Addr) (n c:Nat) (h:1<=n) (W:World) :
  (Instr.slice t (.slice a n c) (some (.int .i64 1)) none none).run P W=.ok (sliced a 1 n c sz) W:=by
 rw[run_slice_l W t a n c hu .i64 1 (by omega) (by omega),hs]
 rfl
theorem qmC (S:Nat->Prop) (l:List ByteArray) (i:Nat) (hi:i<l.length) (v:Value) (w:World) (hl:StrsIn S w (l.take i) v) (hs:l[i].size<=maxLen) :
  Calls prog 115 #[.string l[i],v] w fun e w'=>e=.returned (.bool (qcM l i))/\w'=w:=by
 obtain⟨u,cap,rfl,g,-,p⟩:=hl
 have j:(l.take i).length=i:=by simp;omega
 rw[j]at g ⊢
 unfold maxLen at g
 have k:l.getD i ByteArray.empty=l[i]:=by simp[List.getD,hi]
 have h:Hid (qcM l i=(nameB l[i] && (i==0 || ltB (l.getD (i-1) ByteArray.empty) l[i]) && !(l[i]==bs [101,110,100]))):=by
  show _=_
  unfold qcM qdQ
  rw[k]
 have a:Hid (Calls prog 106 _ _ _):=qgA l[i] w hs
 have y:=qiP l[i] [101,110,100]
 have c:0<i->∃b d,u=some ⟨b,d,none⟩/\w.cell? ⟨b,d+(i-1),none⟩=some (.string (l.getD (i-1) ByteArray.empty)):=fun m=>by
  obtain⟨b,d,x,-,f⟩:=p (by intro e;have:=congrArg List.length e;rw[j]at this;simp at this;omega)
  refine⟨b,d,x,?_⟩
  have:=f (i-1) (by omega)
  rw[this]
  have q:i-1<l.length:=by omega
  simp[List.getD,q]
 clear p k
 generalize l[i]=s at *
 generalize l.getD (i-1) ByteArray.empty=z at *
 generalize (s==bs [101,110,100])=b1 at *
 clear hi
 cases hn:nameB s with
 | false=>
  rw[hn]at a h
  go_enter func115,ntmps115
  go_wp2_with fail
  refine a.out.mono ?_
  rintro e n ⟨rfl,rfl⟩
  go_wp2_with fail
  go_ret
  exact⟨qaD (by rw[h.out];rfl),rfl⟩
 | true=>
  rw[hn]at a h
  cases b1 with
  | true=>
   go_enter func115,ntmps115
   go_wp2_with fail
   refine a.out.mono ?_
   rintro e n ⟨rfl,rfl⟩
   go_wp2_with fail
   go_ret
   exact⟨qaD (by rw[h.out];simp),rfl⟩
  | false=>
   rcases Nat.eq_zero_or_pos i with m|m
   ·subst m
    go_enter func115,ntmps115
    go_wp2_with fail
    refine a.out.mono ?_
    rintro e n ⟨rfl,rfl⟩
    go_wp2_with fail
    go_ret
    exact⟨qaD (by rw[h.out];rfl),rfl⟩
   ·obtain⟨b,d,rfl,f⟩:=c m
    have A:((i:Int)==0)=false:=by simp;omega
    have o:(i==0)=false:=by simp;omega
    rw[o]at h
    have r:((i:Int)-1).toNat=i-1:=by omega
    have t:Hid (ltB z s=Op.bytesLess z.toList s.toList):=rfl
    clear o c
    generalize hzs:Op.bytesLess z.toList s.toList=lt at *
    go_enter func115,ntmps115
    go_wp2_with fail
    refine a.out.mono ?_
    rintro e n ⟨rfl,rfl⟩
    go_wp2_with fail
    go_ret
    exact⟨qaD (by rw[h.out,t.out];simp),rfl⟩
def kdT(k:Nat):List UInt8:=if k=24 then [118,118] else kdS k
theorem qiC(k:Nat)(hk:k<44)(w:World):Calls prog 30 #[.int .i64 (k:Int)] w fun e w'=>e=.returned (.string (bs (kdT k)))/\w'=w:=by
 have c:Hid (∀x a b w,Calls prog 45 #[.int .i64 x,.int .i64 a,.int .i64 b] w _):=fun x a b w=>qcJ x a b w
 rcases qlC k hk with rfl|rfl|rfl|rfl|rfl|rfl|rfl|rfl|rfl|rfl|rfl|rfl|rfl|rfl|rfl|rfl|rfl|rfl|rfl|rfl|rfl|rfl|rfl|rfl|rfl|rfl|rfl|rfl|rfl|rfl|rfl|rfl|rfl|rfl|rfl|rfl|rfl|rfl|rfl|rfl|rfl|rfl|rfl|rfl
 all_goals
  go_enter func30,ntmps30
  go_wp2_with fail
  first
   | (go_ret;exact⟨qdU rfl,rfl⟩)
   | (refine (c.out _ _ _ _).mono ?_
      rintro e d ⟨rfl,rfl⟩
      go_wp2_with fail
      go_ret
      exact⟨qdU rfl,rfl⟩)
def goodS:(m:Nat)->T m->Bool->Int->Bool
 | 0,_,_,_=>false
 | m+1,t,act,d=>decide (d<=24) && qcY (show Nd (T m) from t) act && ((Nd.kids t).zipIdx.all fun x=>goodS m x.1 (actAt (Nd.sort t).toNat x.2) (d+1))
theorem xhE:∀(m:Nat)(t:T m)(act:Bool)(d:Int),goodS m t act d=(goodN m t d && (act==decide (36<=opT m t))):=by
 intro m
 induction m with
 | zero=>intro t act d;rfl
 | succ m ih=>
  intro t act d
  obtain⟨n,g⟩:∃n:Nd (T m),n=t:=⟨t,rfl⟩
  have j:goodS (m+1) t act d=(decide (d<=24) && qcY n act && (n.kids.zipIdx.all fun x=>goodS m x.1 (actAt n.sort.toNat x.2) (d+1))):=by rw[g];rfl
  have l:goodN (m+1) t d=(decide (d<=24) && justB (poT m) n && n.kids.all (fun k=>goodN m k (d+1))):=by rw[g];rfl
  have o:opT (m+1) t=n.sort:=by rw[g];rfl
  rw[j,l,o]
  have p:=qxW (poT m) n act
  have e:(n.kids.zipIdx.all fun x=>goodS m x.1 (actAt n.sort.toNat x.2) (d+1))=(n.kids.all (fun k=>goodN m k (d+1)) && (n.kids.zipIdx.all fun x=>actAt n.sort.toNat x.2==decide (36<=opT m x.1))):=by
   rw[Bool.eq_iff_iff,Bool.and_eq_true,List.all_eq_true,List.all_eq_true,List.all_eq_true]
   constructor
   ·intro h
    refine⟨fun k e=>?_,fun x a=>?_⟩
    ·obtain⟨i,u,rfl⟩:=List.getElem_of_mem e
     have:=h (n.kids[i],i) (by rw[List.mem_zipIdx_iff_getElem?];simp[u])
     rw[ih,Bool.and_eq_true]at this
     exact this.1
    ·have:=h x a
     rw[ih,Bool.and_eq_true]at this
     exact this.2
   ·rintro ⟨v,w⟩ x a
    rw[ih,Bool.and_eq_true]
    have:=List.mem_zipIdx a
    exact⟨v x.1 (by rw[this.2.2];exact List.getElem_mem _),w x a⟩
  have q:(n.kids.all (fun k=>goodN m k (d+1)) && (n.kids.zipIdx.all fun x=>actAt n.sort.toNat x.2==decide (36<=opT m x.1)))=(n.kids.all (fun k=>goodN m k (d+1)) && (n.kids.zipIdx.all fun x=>poT m x.1==(if actAt n.sort.toNat x.2=true then 65 else 86))):=by
   cases hg:n.kids.all (fun k=>goodN m k (d+1)) with
   | false=>rfl
   | true=>
    rw[Bool.true_and,Bool.true_and,Bool.eq_iff_iff,List.all_eq_true,List.all_eq_true]
    rw[List.all_eq_true]at hg
    have c:∀x,x∈n.kids.zipIdx->((actAt n.sort.toNat x.2==decide (36<=opT m x.1))=true↔(poT m x.1==(if actAt n.sort.toNat x.2=true then 65 else 86))=true):=by
     intro x a
     have r:=List.mem_zipIdx a
     have b:=hg x.1 (by rw[r.2.2];exact List.getElem_mem _)
     have s:1<=opT m x.1/\opT m x.1<=43:=by
      cases m with
      | zero=>simp[goodN]at b
      | succ m=>
       simp only[goodN,Bool.and_eq_true]at b
       have:=b.1.2
       unfold justB at this
       simp only[Bool.and_eq_true,decide_eq_true_eq]at this
       exact this.1
     have f:=xbH _ s
     unfold poT
     rw[f]
     cases actAt n.sort.toNat x.2<;>by_cases h36:36<=opT m x.1<;>simp[h36]
    exact⟨fun h x a=>(c x a).1 (h x a),fun h x a=>(c x a).2 (h x a)⟩
  rw[e,q]
  cases decide (d<=24) with
  | false=>rfl
  | true=>
   rw[Bool.true_and,Bool.true_and]
   rw[<- Bool.and_assoc,Bool.and_comm (qcY n act),Bool.and_assoc,p]
   cases justB (poT m) n<;>cases n.kids.all (fun k=>goodN m k (d+1))<;>cases (act==decide (36<=n.sort))<;>rfl
end Go.Proofs.YtelogmjfekhmpaaGreatDoor
