import Derived.Test.YtelogmjfekhmpaaGreatDoorNW2
namespace Go.Proofs.YtelogmjfekhmpaaGreatDoor
set_option maxRecDepth 100000
set_option maxHeartbeats 16000000
open Go.RowKit
theorem xeM:∀ m,NodeW m:=by
 intro m
 induction m with
 | zero=>intro B wb bk w v l t c0 c1 c2 c3 c4 d h aA;exact aA.elim
 | succ m ih=>
  intro B wb bk w v l t c0 c1 c2 c3 c4 d h aA aB aC hg hl hT
  obtain⟨rfl,rfl,rfl,hx,aD,aE,h3,h4,⟨na,nl,nc,rfl,aF⟩,⟨ka,kl,kc,rfl,aG⟩⟩:=aA
  obtain⟨_,_,hv,-⟩:=id h3
  cases hv
  obtain⟨_,_,hv,-⟩:=id h4
  cases hv
  simp only[goodN,Bool.and_eq_true]at hg
  exact xeL m ih B wb bk w v l (show Nd (T m) from t) na ka nc kc (d+1) h aD aE hx h3 aF h4 aG aB aC hg.1.2 hg.2 hl hT
theorem qxD {α:Type} (n:Nd α) (k:Nat) (h5:5<=k) (h:preC n (preL k)=true) (hk:k<44) (h24:k≠24):szN n.names+(if n.text.size=0 then 0 else n.text.size+1)<=850:=by
 have nm:∀ a,nameB a=true->a.size<=8:=fun a ha=>by
  simp only[nameB,Bool.and_eq_true,decide_eq_true_eq]at ha;exact ha.1.1.2
 have fm:∀ a,freeB a=true->a.size<=8:=fun a ha=>nm a (by
  simp only[freeB,Bool.and_eq_true]at ha;exact ha.1.1.1.1)
 rcases (qeD k hk).resolve_left h24 with e|e|e|e|e|e|e|e
 ·rw[e]at h
  simp only[preC,Bool.and_eq_true,beq_iff_eq]at h
  have hn:n.names=[]:=List.eq_nil_of_length_eq_zero (by omega)
  rw[if_pos (qaG _ h.1.2),hn];simp[szN]
 ·exact absurd e (qvY k hk h5)
 ·rw[e]at h
  simp only[preC,Bool.and_eq_true,beq_iff_eq]at h
  have hn:n.names=[]:=List.eq_nil_of_length_eq_zero (by omega)
  have hs:n.text.size<=800:=by
   have:=h.1.2
   unfold kindB at this
   obtain⟨q,hq⟩:=Option.isSome_iff_exists.1 this
   exact (qhG hq).1
  rw[hn];simp only[szN];split <;> omega
 ·rw[e]at h
  simp only[preC,Bool.and_eq_true,beq_iff_eq]at h
  have hn:n.names=[]:=List.eq_nil_of_length_eq_zero (by omega)
  rw[if_pos (qaG _ h.1.2),hn];simp[szN]
 ·rw[e]at h
  simp only[preC,Bool.and_eq_true]at h
  rw[if_pos (qaG _ h.1.2)]
  match hn:n.names,h.2 with
  | [a],h2=>have:=fm a h2;simp only[szN];omega
 ·rw[e]at h
  simp only[preC,Bool.and_eq_true]at h
  rw[if_pos (qaG _ h.1.2)]
  match hn:n.names,h.2 with
  | [a],h2=>have:=nm a h2;simp only[szN];omega
 ·rw[e]at h
  simp only[preC,Bool.and_eq_true]at h
  rw[if_pos (qaG _ h.1.2)]
  match hn:n.names,h.2 with
  | [a,b],h2=>
   simp only[Bool.and_eq_true]at h2
   have:=fm a h2.1.1;have:=fm b h2.1.2;simp only[szN];omega
 ·rw[e]at h
  simp only[preC,Bool.and_eq_true]at h
  rw[if_pos (qaG _ h.1.2)]
  match hn:n.names,h.2 with
  | [a],h2=>have:=nm a h2;simp only[szN];omega
theorem qoZ {α:Type} (po:α->Int) (n:Nd α) (h:qeN po n=true):szN n.names<=9*n.kids.length:=by
 unfold qeN at h
 simp only[Bool.and_eq_true,beq_iff_eq]at h
 have h2:=h.2
 rw[<- h.1]
 unfold qdG at h2
 rw[List.all_eq_true]at h2
 have key:∀ (l:List ByteArray),(∀ s,s∈l->s.size<=8)->szN l<=9*l.length:=by
  intro l
  induction l with
  | nil=>intro _;simp[szN]
  | cons a r ih=>
   intro hs
   have h1:=hs a (List.mem_cons_self ..)
   have h2:=ih (fun s hs2=>hs s (List.mem_cons_of_mem _ hs2))
   simp only[szN,List.length_cons];omega
 refine key _ fun s hs=>?_
 obtain⟨i,hi,rfl⟩:=List.getElem_of_mem hs
 have:=h2 i (List.mem_range.2 hi)
 simp only[Bool.and_eq_true,qcO,qdT]at this
 have h3:=this.1.1.1
 simp only[nameB,Bool.and_eq_true,decide_eq_true_eq,List.getD_eq_getElem?_getD,List.getElem?_eq_getElem hi,Option.getD_some]at h3
 exact h3.1.1.2
theorem qxE (s m:Int) (x:ByteArray) (h:qaQ s m x [] 0=true):(leafL s m x).length<=800:=by
 have hg:goodT 1 (leafT s m x) 1=true:=by
  show (decide ((1:Int)<=6) && qaQ s m x [] 0 && List.all ([]:List (T 0)) _)=_
  rw[h];rfl
 have:=qhE 1 (leafT s m x) 1 hg
 have hc:cntT 1 (leafT s m x)=1:=rfl
 rw[hc]at this
 unfold leafL
 omega
theorem xhL:∀ n:Int,0<=n->n<=99->(Lib.itoa n).length<=20:=by
 intro n h0 h1
 unfold Lib.itoa
 rw[if_neg (by omega)]
 have h2:n.toNat<100:=by omega
 generalize n.toNat=k at h2
 rw[Lib.decDigits]
 split
 ·simp
 ·rw[Lib.decDigits]
  split
  ·simp
  ·omega
theorem qvG:∀ (m:Nat) (t:T m) (d:Int),goodN m t d=true->lenN m t+100<=1000*cntT m t:=by
 intro m
 induction m with
 | zero=>intro t d h;simp[goodN]at h
 | succ m ih=>
  intro t d h
  simp only[goodN,Bool.and_eq_true,List.all_eq_true]at h
  obtain⟨⟨-,hj⟩,hk⟩:=h
  obtain⟨n,hn⟩:∃ n:Nd (T m),n=t:=⟨t,rfl⟩
  have hc:cntT (m+1) t=1+sumL (fun k=>cntT m k) n.kids:=by rw[hn];rfl
  have hl:lenN (m+1) t=lenF (lenN m) n:=by rw[hn];rfl
  have aF:∀ x,x∈n.kids->goodN m x (d+1)=true:=by rw[hn];exact hk
  have aA:justB (poT m) n=true:=by rw[hn];exact hj
  rw[hc,hl]
  have aG:sumL (fun x=>lenN m x+100) n.kids<=1000*sumL (fun x=>cntT m x) n.kids:=by
   rw[<- qlB]
   exact qpC _ _ _ (fun x hx=>ih x (d+1) (aF x hx))
  have aK:sumL (fun x=>lenN m x+1) n.kids+9*n.kids.length<=sumL (fun x=>lenN m x+100) n.kids:=by
   have:∀ l:List (T m),sumL (fun x=>lenN m x+1) l+9*l.length<=sumL (fun x=>lenN m x+100) l:=by
    intro l
    induction l with
    | nil=>simp[sumL]
    | cons a r ih2=>simp only[sumL,List.length_cons];omega
   exact this _
  obtain⟨k,aI⟩:∃ k:Nat,n.sort=(k:Int):=⟨n.sort.toNat,by
   have h:=aA
   unfold justB at h;simp only[Bool.and_eq_true,decide_eq_true_eq]at h;omega⟩
  have hr:1<=n.sort/\n.sort<=43:=by
   have h:=aA
   unfold justB at h;simp only[Bool.and_eq_true,decide_eq_true_eq]at h;exact h.1
  obtain⟨aB,aD,aE,aJ⟩:=qlL (poT m) n k aI aA
  have aC:n.sort.toNat=k:=by omega
  have hw:=qlC k aB
  unfold lenF
  by_cases h3:n.sort<=3
  ·rw[if_pos h3]
   have:=qxE _ _ _ (aD (by have:k=1∨k=2∨k=3:=by omega
                    rcases this with rfl|rfl|rfl <;> decide))
   omega
  rw[if_neg h3]
  by_cases h4:n.sort=4
  ·rw[if_pos h4]
   rw[qfC (poT m) n hr.1 hr.2 (by omega),aC,show k=4 by omega,pre_name.1]at aA
   simp only[preC,Bool.and_eq_true]at aA
   match hnn:n.names,aA.1.2 with
   | [a],h2=>
    have:a.size<=8:=by
     simp only[freeB,nameB,Bool.and_eq_true,decide_eq_true_eq]at h2;exact h2.1.1.1.1.1.1.2
    simp only[List.headD_cons];omega
  rw[if_neg h4,aC]
  have aL:=(hw.2 (by omega)).2
  by_cases h24:n.sort=24
  ·rw[qdW (poT m) n h24]at aA
   simp only[Bool.and_eq_true]at aA
   have hx:=qaG _ aA.2.2
   have hf:=qoZ (poT m) n aA.1
   rw[if_pos hx,if_neg (by omega),if_pos h24]
   omega
  ·rw[qfC (poT m) n hr.1 hr.2 h24,aC]at aA
   simp only[Bool.and_eq_true]at aA
   have hp:=qxD n k (by omega) aA.1 aB (by omega)
   have hi:(if n.sort=37∨n.sort=39 then (Lib.itoa n.num).length+1 else 0)<=21:=by
    split
    ·have aH:35∈prt k:=by
      have:k=37∨k=39:=by omega
      rcases this with rfl|rfl <;> decide
     have:=aE aH
     have:=xhL n.num this.1 this.2
     omega
    ·omega
   rw[if_neg h24]
   omega
def okN (m:Nat) (t:T m):Bool:=goodN m t 1 && decide (cntT m t<=200) && decide (lenN m t<=3000)
theorem qzM (m bk:Nat) (S:Nat->Prop) (w:World) (t:T m) (c0 c1 c2 c3 c4:Value) (d:Int) (hin:NodeIn S w m t c0 c1 c2 c3 c4) (hB:∀ b,S b->b<w.heap.size) (hbk:Book w bk) (hg:goodN m t d=true) (hc:cntT m t<=200) (hT:TensIn w) :
  Calls Tryz.prog 53 #[.pointer (some ⟨bk,0,none⟩),.agg #[c0,c1,c2,c3,c4]] w fun e w'=>Below w.heap.size w w' /\ ∃ s,e=.returned (.string s)/\s.size=lenN m t:=by
 obtain⟨x0,x1,x2,xa,xl,xc,ya,yl,yc,rfl,rfl,rfl,rfl,rfl⟩:=hin.shape
 have aI:=qvG m t d hg
 obtain⟨W,hW⟩:∃ W,W=(w.alloc (.cells #[.int .i64 x0,.int .i64 x1,.string x2,.slice xa xl xc,.slice ya yl yc] 25)).alloc (.cells #[.pointer (some ⟨bk,0,none⟩),.slice none 0 0] 109):=⟨_,rfl⟩
 have aB:Below w.heap.size w W:=by rw[hW];exact ((Below.refl _ _).alloc (Nat.le_refl _) _).alloc (by simp) _
 have hz:W.heap.size=w.heap.size+2:=by rw[hW];simp
 have aD:W.heap[w.heap.size+1]?=some (.cells #[.pointer (some ⟨bk,0,none⟩),.slice none 0 0] 109 (0,0)):=by
  have:=heap_alloc_last (w.alloc (.cells #[.int .i64 x0,.int .i64 x1,.string x2,.slice xa xl xc,.slice ya yl yc] 25)) (.cells #[.pointer (some ⟨bk,0,none⟩),.slice none 0 0] 109)
  rw[show (w.alloc (.cells #[.int .i64 x0,.int .i64 x1,.string x2,.slice xa xl xc,.slice ya yl yc] 25)).heap.size=w.heap.size+1 by simp]at this
  rw[hW];exact this
 have aE:Wrt w.heap.size (w.heap.size+1) bk W W (.slice none 0 0) []:=⟨World.ownsRow_nil _ _ _ _,Below.refl _ _,by omega,Lib.OthersKept.refl _ _ _,aD,by omega⟩
 have aF:Tens w.heap.size W:=fun w2 h2=>hT w2 (aB.trans h2)
 have HC:Hid (Calls Tryz.prog 70 _ W _):=xeM m w.heap.size (w.heap.size+1) bk W _ [] t _ _ _ _ _ d aE (hin.keep (qaB aB hB) hB) (hbk.keep (aB.block bk hbk.lt)) hbk.lt hg (by simp only[List.length_nil,wk,if_true];omega) aF
 have aH:=hidF aB
 clear hin hbk aE aF aB aD
 subst hW
 go_enter Tryz.func53,Tryz.ntmps53
 go_wp2_with fail
 refine HC.out.mono ?_
 rintro e w1 ⟨rfl,v1,l1,aA,aG⟩
 obtain⟨-,c1',-⟩:=aA.cells
 obtain⟨va,vn,vc,rfl⟩:=aA.buf.shape
 have aC:l1.length=lenN m t:=by rw[aG];rfl
 have HP:Hid (Below w.heap.size w w1):=aH.out.trans aA.below
 have HL:=hidF aC
 have aJ:(convert 90 9 (.slice va vn vc)).run Tryz.prog w1=.ok (.string (bs l1)) w1:=by
  by_cases hne:l1=[]
  ·subst hne
   rcases aA.own.2 with ⟨hv,-⟩|⟨g,cap,cur,hv,-⟩
   ·cases hv;exact run_convert_bytes_nil w1 90 5 Tryz.underlying90 Tryz.underlying5 0 0 9 Tryz.underlying9
   ·cases hv
    exact run_convert_bytes_back (P:=Tryz.prog) w1 90 9 5 ⟨g,0,none⟩ vc [] Tryz.underlying90 Tryz.underlying5 Tryz.underlying9 (fun j hj=>by simp at hj)
  ·exact qoY _ _ _ _ _ aA.buf hne
 have HE:Hid ((bs l1).size=lenN m t):=by show _=_;rw[qaJ];exact aC
 clear aA HC aG aC
 go_wp2_with fail
 go_ret
 exact⟨HP.out,_,rfl,HE.out⟩
def okA (m:Nat) (t:T m):Bool:=decide (poT m t=65) && okN m t
end Go.Proofs.YtelogmjfekhmpaaGreatDoor
