/-
  Proved: at every text the law of LiftParse answers true: LiftParse of the program answers as that of the specification, node and fault, every field, and its answer owns its memory.
  Conditions: none but the row's own (what can be read as data; the library's tables and errors as the program's text lays them, which the card ties).
-/
import Derived.Test.YtelogmjfekhmpaaGreatDoorB37
import Derived.Test.YtelogmjfekhmpaaGreatDoorQW4
import Derived.Test.YtelogmjfekhmpaaGreatDoorB36
import Derived.Test.YtelogmjfekhmpaaGreatDoorNLaidP
import Derived.Test.YtelogmjfekhmpaaGreatDoorCards
import Derived.Test.YtelogmjfekhmpaaGreatDoorTie
import Derived.Lay
import Derived.SevenTiedAt
namespace Go.Proofs.YtelogmjfekhmpaaGreatDoor
set_option maxRecDepth 100000
set_option maxHeartbeats 16000000
open Go.ChangeShapes Go.WideShapes Go.ChangeAt Go.RowKit
def ansP(r:Except Er (T 25)):T 25:=match r with|.ok t=>t|.error _=>(⟨0,0,ByteArray.empty,[],[]⟩:Nd (T 24))
def ftCP(r:Except Er (T 25)):Int:=match r with|.ok _=>0|.error e=>e.1
def ftAP(r:Except Er (T 25)):Int:=match r with|.ok _=>0|.error e=>(e.2:Int)
theorem qxJ(S:Nat->Prop)(w:World):NodeIn S w 25 (⟨0,0,ByteArray.empty,[],[]⟩:Nd (T 24)) (.int .i64 0) (.int .i64 0) (.string ⟨#[]⟩) (.slice none 0 0) (.slice none 0 0):=qqI S w 24 0 0 ByteArray.empty (by decide) (by decide) (by decide)
theorem xfH{α:Type}(po:α->Int)(n:Nd α)(h:justB po n=true):n.names.length<=2∨n.names.length=n.kids.length:=by
 have b:1<=n.sort/\n.sort<=43:=by
  unfold justB at h;simp only[Bool.and_eq_true,decide_eq_true_eq]at h;exact h.1
 by_cases h24:n.sort=24
 ·rw[qdT po n h24]at h
  simp only[Bool.and_eq_true]at h
  have a:=h.1
  unfold qeK at a
  simp only[Bool.and_eq_true,beq_iff_eq]at a
  exact .inr a.1
 ·rw[qfA po n b.1 b.2 h24]at h
  simp only[Bool.and_eq_true]at h
  have c:n.sort.toNat<44:=by omega
  have d:=h.1
  rw[xbG n n.sort.toNat c (by omega)]at d
  simp only[Bool.and_eq_true,beq_iff_eq]at d
  have:=qiD n.sort.toNat c
  exact .inl (by omega)
theorem xkA:∀(m:Nat)(t:T m)(d:Int),goodN m t d=true->spL m t+4<=6*cntT m t:=by
 intro m
 induction m with
 | zero=>intro t d h;simp[goodN]at h
 | succ m ih=>
  intro t d h
  simp only[goodN,Bool.and_eq_true,List.all_eq_true]at h
  obtain⟨⟨-,j⟩,o⟩:=h
  obtain⟨n,b⟩:∃n:Nd (T m),n=t:=⟨t,rfl⟩
  have f:cntT (m+1) t=1+sumL (fun k=>cntT m k) n.kids:=by rw[b];rfl
  have g:spL (m+1) t=n.names.length+sumL (fun k=>3+spL m k) n.kids:=by rw[b];rfl
  have c:∀x,x∈n.kids->goodN m x (d+1)=true:=by rw[b];exact o
  have e:justB (poT m) n=true:=by rw[b];exact j
  have p:=xfH (poT m) n e
  have i:∀l:List (T m),(∀x,x∈l->goodN m x (d+1)=true)->sumL (fun k=>3+spL m k) l+l.length<=6*sumL (fun k=>cntT m k) l:=by
   intro l
   induction l with
   | nil=>intro _;simp[sumL]
   | cons a r ih2=>
    intro h
    have q:=ih a (d+1) (h a (List.mem_cons_self ..))
    have s:=ih2 (fun x hx=>h x (List.mem_cons_of_mem _ hx))
    simp only[sumL,List.length_cons];omega
  have:=i n.kids c
  rw[f,g]
  omega
theorem xkB{s:ByteArray}{ws:List ByteArray}{t:T 25}(h:liftR 3000 s ws=.ok t):spL 25 t<=1000000:=by
 unfold liftR at h
 split at h
 ·unfold qgD at h
  cases hp:qaI 3000 ws 25 true 1 0 0 with
  | error e=>rw[hp]at h;cases h
  | ok r=>
   rw[hp]at h
   dsimp only at h
   split at h
   ·split at h
    ·obtain rfl:=Except.ok.inj h
     obtain⟨a,-,g3,g4,-,-⟩:=qbS 3000 ws 25 true 1 0 0 _ hp
     have:=xkA 25 r.1 1 a
     omega
    ·cases h
   ·cases h
 ·cases h
theorem qrF (s:ByteArray) (w:World) (hs:s.size<=maxLen) (hL:LaidU w.heap.size w) :
  Calls Tryz.prog 3 #[.string s] w fun e w'=>e=.returned (.bool true)/\Below w.heap.size w w':=by
 by_cases h:s.size<=1048576
 ·obtain⟨r,i⟩:∃r,r=liftR 3000 s (qbI s.size s.data.toList):=⟨_,rfl⟩
  refine qtX s (ansP r) (ftCP r) (ftAP r) (fun w=>?_) w (fun w' c=>?_) h
  ·refine (qoD 3000 (Nat.le_refl _) s h w).mono ?_
   rw[<- i]
   rintro e w' ⟨c,⟨t,c0,c1,c2,c3,c4,a,rfl,b⟩|⟨d,j,a,rfl⟩⟩
   ·rw[a];exact⟨c,c0,c1,c2,c3,c4,rfl,b⟩
   ·rw[a];exact⟨c,_,_,_,_,_,rfl,qxJ _ _⟩
  ·refine (qrA (M:=3000) (Nat.le_refl _) h (fun h3=>qvR s h3) w' (hL.step c) c.size).mono ?_
   rw[<- i]
   rintro e l ⟨f,⟨t,c0,c1,c2,c3,c4,a,rfl,b,g⟩|⟨d,j,a,rfl⟩⟩
   ·rw[a]
    obtain⟨L3,L4,m,n,o,p⟩:=g
    refine⟨f,c0,c1,c2,c3,c4,L3,L4,rfl,b,m,n,o,?_⟩
    rw[p]
    exact xkB (i.symm.trans a)
   ·rw[a]
    exact⟨f,_,_,_,_,_,[],[],rfl,qxJ _ _,SpN.no _,SpR.no _ _,⟨(fun s h=>by cases h),List.Pairwise.nil⟩,by simp⟩
 ·unfold maxLen at hs
  have k:(1048576:Int)<(s.size:Int):=by omega
  clear hL
  go_enter Tryz.func3,Tryz.ntmps3
  go_wp2_with fail
  go_ret
  exact⟨rfl,Below.refl _ _⟩
theorem Tryz.ownt:ownKnob Tryz.prog.godebug=none:=by kernel_rfl
theorem Tryz.laidOutt:laidOutB Tryz.prog=true:=by kernel_rfl
theorem qrG (os:Os) (started:os.Started) (H:Type) (enc:TypeId × Value->H) :
  ReturnsInHanded {} Tryz.checked os 3 .any (fun w args=>(Rows.fnExactLiftParseSpec.pre enc Tryz.prog Tryz.f3 [] false w args/\laidMetH Tryz.prog Rows.fnExactLiftParseRow.laid w)/\sizedMet enc Tryz.prog Tryz.f3 (OpenSpec.ofChange Rows.fnExactLiftParseSpec) false w args)
   (Rows.fnExactLiftParseSpec.post enc Tryz.prog Tryz.f3 false true false false):=by
 refine returnsInHanded_of_change_and (C:=Tryz.checked) (X:=fun w _=>laidMetH Tryz.prog Rows.fnExactLiftParseRow.laid w) (fun _ _ _ hh h=>h.of_heap hh) Tryz.ownt started (by kernel_rfl) Tryz.func3
  (ChangeSpec.witness_shaped (enc:=enc) (C:=Tryz.checked) (os:=os) (X:=fun w _=>laidMetH Tryz.prog Rows.fnExactLiftParseRow.laid w) false (World.laidAll Tryz.prog os Rows.fnExactLiftParseRow.laid) #[.string ⟨#[]⟩] 8 (World.laidAll_os _ _ _) (World.shaped_of_ZipB (by kernel_rfl) (by kernel_rfl)) (by kernel_rfl) (by kernel_rfl) (by kernel_rfl) (by rw[MakeChecks.laidMetH_plain _ _ _ (by kernel_rfl)];exact laidMet_laidAll _ (by kernel_rfl) (by kernel_rfl))) ?_
 intro W d args y F g a o _ _ z _
 have b:∀(j:Nat) t v,Tryz.f3.params[j]?=some t->args[j]?=some v->Value.okWide Tryz.prog W .any d t v:=a
 have c:=o
 obtain⟨p,q,f,A,rfl,B,D⟩:=o
 have n:DataW.TrodAll enc Tryz.prog W 0 (fun _=>true) true Tryz.f3.params.toList args.toList y p:=f
 rw[Tryz.params3]at n b
 obtain⟨v0,G,rfl,rfl,r⟩:=trodAll_one n
 obtain⟨rfl,rfl⟩:=trodVars_none A
 have i:=r
 obtain⟨u,E⟩:=r
 obtain⟨s,rfl⟩:=okWide_string Tryz.underlying9 (b 0 9 v0 rfl rfl)
 obtain⟨x,m,-,wx⟩:=DataW.trod_string Tryz.underlying9 E
 have k:x=s:=by simpa [Value.cells] using m.symm
 subst k
 clear f a
 simp only[List.append_nil]at c
 have l:∀x∈p,x.block<W.heap.size:=fun x m=>by simpa using c.lt x m
 refine (qrF x W wx (xfG z)).mono fun e W' ⟨he,hb⟩=>?_
 subst he
 refine⟨_,rfl,_,_,_,[],p,[],c,?_,?_,rfl,hb.frame _,fun h=>by cases h⟩
 ·exact trodAll_mk1 (shut_bool Tryz.underlying4 true)
 ·exact trodAll_mk1 (Below.trod Tryz.laidOutt (by kernel_rfl) (of_decide_eq_true (by kernel_rfl)) i hb l)
theorem qtY:Rows.FnExactLiftParseSaid:=
 OpenClaim.holds_of_wide 3 Tryz.f3 rfl rfl rfl rfl rfl rfl rfl ⟨rfl,rfl,rfl,rfl,rfl⟩ rfl rfl rfl rfl rfl (by kernel_rfl) Tryz.func3 (by kernel_rfl)
  (of_decide_eq_true (by kernel_rfl)) (by unfold Func.isWrapper;rw[if_neg (of_decide_eq_false (by kernel_rfl))];exact⟨rfl,rfl⟩)
  (fun os started H enc _=>qrG os started H enc)
theorem lparse_card:Rows.FnExactLiftParseCardSaid:=
 Claim7.holds_tied_plain_at .later [] [.data,.data,.data,.data,.sentinel,.sentinel,.pinned] true Rows.fnExactLiftParseCard.stood.harness true
  qtY (fun _ h=>by cases h) (by kernel_rfl) (fun _ h=>by cases h) fnExactLiftParse_row_tie rfl ⟨rfl,rfl⟩ (by kernel_rfl) rfl
  (fun f fn hf hfn=>by
   obtain rfl:f=3:=Option.some.inj ((show Tryz.prog.funcNamed Rows.fnExactLiftParseRow.func=some 3 by kernel_rfl).symm.trans hf) |>.symm
   obtain rfl:fn=Tryz.f3:=(Option.some.inj (Tryz.func3.symm.trans hfn)).symm
   exact⟨by kernel_rfl,fun j t ht=>by
    rw[Tryz.params3]at ht
    have hm:t∈[9]:=by simpa using Array.mem_of_getElem? ht
    have hall:([9].all fun u=>!Tryz.prog.wantsStandIn u)=true:=by kernel_rfl
    exact (show Tryz.prog.wantsStandIn t=false by simpa using List.all_eq_true.1 hall t hm)⟩)
  (by kernel_rfl)
end Go.Proofs.YtelogmjfekhmpaaGreatDoor
