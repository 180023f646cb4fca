import Derived.Test.YtelogmjfekhmpaaGreatDoorTOut1
import Derived.Test.YtelogmjfekhmpaaGreatDoorAsrt
import Derived.Deep.RegionLaw
namespace Go.Proofs.YtelogmjfekhmpaaGreatDoor
set_option maxRecDepth 100000
set_option maxHeartbeats 16000000
open Go.RowKit
theorem qmO (x:Int) (h0 : -999999999<=x) (h1:x<=999999999):(Lit.int .i64 x).wf=true:=by
 simp only[Lit.wf,Bool.and_eq_true,decide_eq_true_eq]
 have a:IntKind.i64.min = -9223372036854775808:=by rfl
 have b:IntKind.i64.max=9223372036854775807:=by rfl
 rw[a,b];omega
theorem qwS {n:Nat} {t:T (n+1)} (w:World) (o:Obj) (hs:(Lit.int .i64 (Nd.sort t)).wf=true) (hn:(Lit.int .i64 (Nd.num t)).wf=true) (ht:(Nd.text t).size<=10000) (hN:Nd.names t=[]) (hK:Nd.kids t=[]) :
  qdC (n+1) t w (.returned (.agg #[.int .i64 (Nd.sort t),.int .i64 (Nd.num t),.string (Nd.text t),.slice none 0 0,.slice none 0 0])) (w.alloc o):=by
 refine⟨(Below.refl _ _).alloc (Nat.le_refl _) _,_,_,_,_,_,[],[],rfl,⟨rfl,rfl,rfl,by unfold maxLen;omega,hs,hn,?_,?_⟩,SpN.no _,SpR.no _ _,Own.nil _,?_⟩
 ·rw[hN];exact⟨none,0,rfl,by simp[maxLen],fun s h=>(by cases h),fun h=>absurd rfl h⟩
 ·rw[hK];exact⟨none,0,rfl,by simp[maxLen],fun h=>absurd rfl h⟩
 ·simp only[spL,hN,hK];simp[sumL]
theorem qqG {n:Nat} {t:T (n+1)} {w W:World} {c3 c4:Value} {L3 L4:List Spot} (hb:Below w.heap.size w W) (hs:(Lit.int .i64 (Nd.sort t)).wf=true) (hn:(Lit.int .i64 (Nd.num t)).wf=true) (ht:(Nd.text t).size<=10000)
  (h3:StrsIn (fun b=>w.heap.size+1<=b/\b<W.heap.size) W (Nd.names t) c3) (h4:RowIn (fun b=>w.heap.size+1<=b/\b<W.heap.size) W (TreeIn (fun b=>w.heap.size+1<=b/\b<W.heap.size) W n) (Nd.kids t) c4)
  (s3:SpN W c3 L3) (s4:SpR W n c4 L4) (ho:Own (fun b=>w.heap.size+1<=b/\b<W.heap.size) (L3++L4)) (hl:(L3++L4).length=spL (n+1) t) :
  qdC (n+1) t w (.returned (.agg #[.int .i64 (Nd.sort t),.int .i64 (Nd.num t),.string (Nd.text t),c3,c4])) (put5 W w.heap.size 0 (.int .i64 (Nd.sort t)) (.int .i64 (Nd.num t)) (.string (Nd.text t)) c3 c4):=by
 have q:∀ b,w.heap.size+1<=b->(put5 W w.heap.size 0 (.int .i64 (Nd.sort t)) (.int .i64 (Nd.num t)) (.string (Nd.text t)) c3 c4).heap[b]?=W.heap[b]?:=fun b h=>qaS (by omega)
 have hS:∀ b,(w.heap.size+1<=b/\b<W.heap.size)->w.heap.size<=b/\b<(put5 W w.heap.size 0 (.int .i64 (Nd.sort t)) (.int .i64 (Nd.num t)) (.string (Nd.text t)) c3 c4).heap.size:=fun b h=>by rw[qbQ];omega
 refine⟨qaZ hb (Nat.le_refl _),_,_,_,_,_,L3,L4,rfl,⟨rfl,rfl,rfl,by unfold maxLen;omega,hs,hn,h3.keep (fun b h=>q b h.1) hS,h4.keepT (fun b h=>q b h.1) hS⟩,s3.same (fun s h=>q _ (ho.1 s (List.mem_append_left _ h)).1),s4.same (fun s h=>q _ (ho.1 s (List.mem_append_right _ h)).1),ho.mono hS,hl⟩
theorem qjK {W:World} {R:Nat} {c0 c1 c2 c3 c4:Value} {ty:TypeId} (h:W.heap[R]?=some (.cells #[c0,c1,c2,c3,c4] ty (0,0))) :
  (W.cell? ⟨R,0,none⟩=some c0/\W.cell? ⟨R,1,none⟩=some c1/\W.cell? ⟨R,2,none⟩=some c2/\W.cell? ⟨R,3,none⟩=some c3/\W.cell? ⟨R,4,none⟩=some c4) /\
  (W.frozen? ⟨R,0,none⟩=false/\W.frozen? ⟨R,1,none⟩=false/\W.frozen? ⟨R,2,none⟩=false/\W.frozen? ⟨R,3,none⟩=false/\W.frozen? ⟨R,4,none⟩=false):=by
 refine⟨⟨?_,?_,?_,?_,?_⟩,?_,?_,?_,?_,?_⟩ <;> simp[World.cell?,World.frozen?,h]
theorem xdT (n:Nat) (t:T (n+1)) (w:World) (hs:Nd.sort t=1) (hc:qeR (n+1) t):Calls Tryz.prog 104 #[.iface 166 (.int .i64 (Nd.num t))] w (qdC (n+1) t w):=by
 obtain⟨c1,-,-,-,-,-,n0,n1,t0,-⟩:=hc
 obtain⟨e1,e2,e3⟩:=c1 hs
 have aA:=Tryz.yes_num
 have HP:Hid (∀ o,qdC (n+1) t w (.returned (.agg #[.int .i64 1,.int .i64 (Nd.num t),.string ⟨#[]⟩,.slice none 0 0,.slice none 0 0])) (w.alloc o)):=fun o=>by
  have:=qwS (t:=t) w o (by rw[hs];rfl) (qmO _ n0 n1) t0 e2 e3
  rw[hs,e1]at this;exact this
 clear c1 e1 e2 e3 t0
 generalize Nd.num t=x at *
 go_enter Tryz.func104,Tryz.ntmps104
 go_wp2_with fail
 refine bodyPost_ret (v:=.agg #[.int .i64 1,.int .i64 x,.string ⟨#[]⟩,.slice none 0 0,.slice none 0 0]) (by simp[results,Tryz.results104,go_sem]) rfl ?_
 exact HP.out _
theorem qyR (n:Nat) (t:T (n+1)) (w:World) (hs:Nd.sort t=3) (hc:qeR (n+1) t):Calls Tryz.prog 104 #[.iface 168 (.bool (Nd.num t==1))] w (qdC (n+1) t w):=by
 obtain⟨-,-,c1,-,-,-,n0,n1,t0,-⟩:=hc
 obtain⟨e1,e2,e3,e4⟩:=c1 hs
 have aA:=Tryz.no_num_flag
 have aB:=Tryz.no_text_flag
 have aC:=Tryz.yes_flag
 have HP:Hid (∀ o,qdC (n+1) t w (.returned (.agg #[.int .i64 3,.int .i64 (Nd.num t),.string ⟨#[]⟩,.slice none 0 0,.slice none 0 0])) (w.alloc o)):=fun o=>by
  have:=qwS (t:=t) w o (by rw[hs];rfl) (qmO _ n0 n1) t0 e2 e3
  rw[hs,e1]at this;exact this
 clear c1 e1 e2 e3 t0
 rcases e4 with e4|e4
 ·rw[e4]at HP ⊢
  have e:((0:Int)==1)=false:=rfl
  rw[e]
  go_enter Tryz.func104,Tryz.ntmps104
  go_wp2_with fail
  refine bodyPost_ret (v:=.agg #[.int .i64 3,.int .i64 0,.string ⟨#[]⟩,.slice none 0 0,.slice none 0 0]) (by simp[results,Tryz.results104,go_sem]) rfl ?_
  exact HP.out _
 ·rw[e4]at HP ⊢
  have e:((1:Int)==1)=true:=rfl
  rw[e]
  go_enter Tryz.func104,Tryz.ntmps104
  go_wp2_with fail
  refine bodyPost_ret (v:=.agg #[.int .i64 3,.int .i64 1,.string ⟨#[]⟩,.slice none 0 0,.slice none 0 0]) (by simp[results,Tryz.results104,go_sem]) rfl ?_
  exact HP.out _
theorem qyS (n:Nat) (t:T (n+1)) (w:World) (hs:Nd.sort t=2) (hc:qeR (n+1) t):Calls Tryz.prog 104 #[.iface 167 (.string (Nd.text t))] w (qdC (n+1) t w):=by
 obtain⟨-,c1,-,-,-,-,n0,n1,t0,-⟩:=hc
 obtain⟨e1,e2,e3⟩:=c1 hs
 have aD:=Tryz.no_num_text
 have aE:=Tryz.yes_text
 have HP:Hid (∀ W,Below w.heap.size w W->qdC (n+1) t w (.returned (.agg #[.int .i64 2,.int .i64 0,.string (Nd.text t),.slice none 0 0,.slice none 0 0])) (put5 W w.heap.size 0 (.int .i64 2) (.int .i64 0) (.string (Nd.text t)) (.slice none 0 0) (.slice none 0 0))):=fun W hW=>by
  have:=qqG (t:=t) (L3:=[]) (L4:=[]) (c3:=.slice none 0 0) (c4:=.slice none 0 0) hW (by rw[hs];rfl) (qmO _ n0 n1) t0 (by rw[e2];exact⟨none,0,rfl,by simp[maxLen],fun s h=>(by cases h),fun h=>absurd rfl h⟩) (by rw[e3];exact⟨none,0,rfl,by simp[maxLen],fun h=>absurd rfl h⟩) (SpN.no _) (SpR.no _ _) (Own.nil _) (by simp only[spL,e2,e3];simp[sumL])
  rw[hs,e1]at this;exact this
 have HC:Hid (∀ W,Calls Tryz.prog 85 #[.string (Nd.text t)] W fun e w'=>e=.returned (.string (Nd.text t))/\Below W.heap.size W w'):=fun W=>qeO _ W t0
 have aB:=(Below.refl w.heap.size w).alloc (Nat.le_refl _) (.cells #[.int .i64 0,.int .i64 0,.string ⟨#[]⟩,.slice none 0 0,.slice none 0 0] 67)
 have hz:=heap_alloc_new w (.cells #[.int .i64 0,.int .i64 0,.string ⟨#[]⟩,.slice none 0 0,.slice none 0 0] 67)
 clear c1 e1 e2 e3 t0
 generalize Nd.text t=x at *
 go_enter Tryz.func104,Tryz.ntmps104
 go_wp2_with fail
 refine (HC.out _).mono ?_
 rintro e w1 ⟨rfl,aA⟩
 obtain⟨⟨r0,r1,r2,r3,r4⟩,f0,f1,f2,f3,f4⟩:=qjK ((aA.block w.heap.size (by simp)).trans hz)
 have aC:=qaA aB (by simp) aA
 have HQ:Hid _:=HP.out _ aC
 clear HC HP aB aA hz aC
 go_wp2_with fail
 refine bodyPost_ret (v:=.agg #[.int .i64 2,.int .i64 0,.string x,.slice none 0 0,.slice none 0 0]) (by simp[results,Tryz.results104,go_sem,r0,r1,r2,r3,r4]) rfl ?_
 exact HQ.out
theorem qyT (n:Nat) (hn:qiC n) (S:Nat->Prop) (t:T (n+1)) (kv:Value) (w:World) (hs:Nd.sort t=4) (hr:Row1 S w (InnerT S w n) (Nd.kids t) kv) (hB:∀ b,S b->b<w.heap.size) (hc:qeR (n+1) t) :
  Calls Tryz.prog 104 #[.iface 170 kv] w (qdC (n+1) t w):=by
 obtain⟨-,-,-,c1,-,-,n0,n1,t0,-,-,aH,aI⟩:=hc
 obtain⟨e1,e2,e3⟩:=c1 hs
 have aD:=Tryz.no_num_list
 have aE:=Tryz.no_text_list
 have aF:=Tryz.no_flag_list
 have aG:=Tryz.yes_list
 have aA:=(Below.refl w.heap.size w).alloc (Nat.le_refl _) (.cells #[.int .i64 0,.int .i64 0,.string ⟨#[]⟩,.slice none 0 0,.slice none 0 0] 67)
 have hz:=heap_alloc_new w (.cells #[.int .i64 0,.int .i64 0,.string ⟨#[]⟩,.slice none 0 0,.slice none 0 0] 67)
 have HC:Hid (Calls Tryz.prog 135 _ _ _):=qfY n hn S (Nd.kids t) kv (w.alloc (.cells #[.int .i64 0,.int .i64 0,.string ⟨#[]⟩,.slice none 0 0,.slice none 0 0] 67)) (hr.keep (qaB aA hB) (fun _ h=>h) (fun _ _ _ hx=>hx.keep (qaB aA hB) (fun _ h=>h))) (fun b hb=>by have:=hB b hb;simp;omega) aH aI
 have HP:Hid (∀ W v' L,Below w.heap.size w W->RowIn (fun b=>w.heap.size+1<=b/\b<W.heap.size) W (TreeIn (fun b=>w.heap.size+1<=b/\b<W.heap.size) W n) (Nd.kids t) v'->SpR W n v' L->Own (fun b=>w.heap.size+1<=b/\b<W.heap.size) L->L.length=sumL (fun x=>3+spL n x) (Nd.kids t) ->
   qdC (n+1) t w (.returned (.agg #[.int .i64 4,.int .i64 0,.string ⟨#[]⟩,.slice none 0 0,v'])) (put5 W w.heap.size 0 (.int .i64 4) (.int .i64 0) (.string ⟨#[]⟩) (.slice none 0 0) v')):=fun W v' L hW h1 h2 h3 h4=>by
  have:=qqG (t:=t) (L3:=[]) (L4:=L) (c3:=.slice none 0 0) (c4:=v') hW (by rw[hs];rfl) (qmO _ n0 n1) t0 (by rw[e3];exact⟨none,0,rfl,by simp[maxLen],fun s h=>(by cases h),fun h=>absurd rfl h⟩) h1 (SpN.no _) h2 h3 (by simp only[spL,e3];simp[h4])
  rw[hs,e1,e2]at this;exact this
 obtain⟨ka,kc,rfl,-⟩:=hr
 clear c1 e1 e2 e3 t0
 go_enter Tryz.func104,Tryz.ntmps104
 go_wp2_with fail
 refine HC.out.mono ?_
 rintro e w1 ⟨aB,v',L,rfl,q1,q2,q3,q4⟩
 obtain⟨va,vc,rfl,-⟩:=id q1
 obtain⟨⟨r0,r1,r2,r3,r4⟩,f0,f1,f2,f3,f4⟩:=qjK ((aB.block w.heap.size (by simp)).trans hz)
 have aC:=qaA aA (by simp) aB
 simp only[World.size_alloc]at q1 q3
 have HQ:Hid _:=HP.out _ _ L aC q1 q2 q3 q4
 clear HC HP aA aB hz aC q1 q2 q3 q4
 go_wp2_with fail
 refine bodyPost_ret (v:=.agg #[.int .i64 4,.int .i64 0,.string ⟨#[]⟩,.slice none 0 0,.slice va (Nd.kids t).length vc]) (by simp[results,Tryz.results104,go_sem,r0,r1,r2,r3,r4]) rfl ?_
 exact HQ.out
end Go.Proofs.YtelogmjfekhmpaaGreatDoor
