import Derived.Test.YtelogmjfekhmpaaGreatDoorB1
import Derived.Test.YtelogmjfekhmpaaGreatDoorB7
import Derived.Deep.RegionLaw
namespace Go.Proofs.YtelogmjfekhmpaaGreatDoor
set_option maxRecDepth 100000
set_option maxHeartbeats 16000000
open Go.RowKit Go.Proofs.Tryz
def qgZ(n:Nat):Prop:=∀(S:Nat->Prop)(t:K n)(c0 c1 c2:Value)(d:Int)(w:World),KindIn S w n t c0 c1 c2->(∀b,S b->b<w.heap.size)->goodK n t d=true->cntK n t<=40 ->
 Calls prog 43 #[.agg #[c0,c1,c2]] w fun e w'=>e=.returned (.string (bs (txtK n t)))/\Below w.heap.size w w'
theorem qkD (s:Int) (x:List UInt8) (na ka:Option Addr) (nl nc kl kc:Nat) (w:World) (hs:(s=1/\x=[110,117,109])∨(s=2/\x=[116,101,120,116])∨(s=3/\x=[102,108,97,103])) :
  Calls prog 43 #[.agg #[.int .i64 s,.slice na nl nc,.slice ka kl kc]] w fun e w'=>e=.returned (.string (bs x))/\Below w.heap.size w w':=by
 rcases hs with ⟨rfl,rfl⟩|⟨rfl,rfl⟩|⟨rfl,rfl⟩
 all_goals
  go_enter func43,ntmps43
  go_wp2_with fail
  go_ret
  exact⟨rfl,(Below.refl _ _).alloc (Nat.le_refl _) _⟩
theorem qtB (n:Nat) (hn:qgZ n) (S:Nat->Prop) (s:Int) (ks:List (K n)) (na:Option Addr) (nl nc:Nat) (kv:Value) (d:Int) (w:World) (hs:s=4∨s=6) (hr:RowIn3 S w (KindIn S w n) ks kv) (hB:∀ b,S b->b<w.heap.size)
  (hk1:ks.length=1) (hg:ks.all (fun x=>goodK n x d)=true) (hc:1+sumL (fun x=>cntK n x) ks<=40) :
  Calls prog 43 #[.agg #[.int .i64 s,.slice na nl nc,kv]] w fun e w'=>e=.returned (.string (bs (if s=4 then 91 :: headL (txtK n) ks++[93] else 63 :: headL (txtK n) ks)))/\Below w.heap.size w w':=by
 obtain⟨M,cap,rfl,C,c⟩:=hr
 match ks,hk1 with
 | [k],_=>
  obtain⟨b,g,rfl,u,q⟩:=c (by simp)
  obtain⟨D,E,F,v,y,z,o⟩:=q 0 (by simp)
  simp only[Nat.zero_mul,Nat.add_zero,List.getElem_cons_zero]at v y z o
  have a:=(Below.refl w.heap.size w).alloc (Nat.le_refl _) (.cells #[.int .i64 s,.slice na nl nc,.slice (some ⟨b,g,none⟩) 1 cap] 55)
  have j:=hB b u
  have A:=(a.cell (p:=⟨b,g,none⟩) j).trans v
  have f1:=(a.cell (p:=⟨b,g+1,none⟩) j).trans y
  have B:=(a.cell (p:=⟨b,g+2,none⟩) j).trans z
  have i:=o.keep (qaB a hB) (fun _ h=>h)
  simp only[List.all_cons,Bool.and_eq_true]at hg
  simp only[sumL]at hc
  have l:=qpE n k d hg.1
  have G:(bs (txtK n k)).size<=960:=by rw[qaL];omega
  have r:Hid (Calls prog 43 #[.agg #[D,E,F]] _ _):=hn S k D E F d _ i (fun b hb=>by have:=hB b hb;simp;omega) hg.1 (by omega)
  have H:Hid (bs [91]++bs (txtK n k)++bs [93]=bs (91 :: headL (txtK n) [k]++[93])):=by show _=_;rw[qaS,qaS];rfl
  have t:Hid (bs [63]++bs (txtK n k)=bs (63 :: headL (txtK n) [k])):=by show _=_;rw[qaS];rfl
  have I:(bs [91]).size=1:=by rw[qaL];rfl
  have J:(bs [91]++bs (txtK n k)).size<=961:=by rw[ByteArray.size_append];omega
  clear c q v y z o i hg l hn
  rw[List.length_singleton]
  rcases hs with rfl|rfl
  ·rw[if_pos rfl]
   go_enter func43,ntmps43
   go_wp2_with fail
   refine r.out.mono ?_
   rintro e L ⟨rfl,f⟩
   have m:=qaA a (by simp) f
   clear a f A f1 B r
   go_wp2_with fail
   go_ret
   exact⟨qpG H.out,m⟩
  ·rw[if_neg (by decide)]
   go_enter func43,ntmps43
   go_wp2_with fail
   refine r.out.mono ?_
   rintro e L ⟨rfl,f⟩
   have m:=qaA a (by simp) f
   clear a f A f1 B r
   go_wp2_with fail
   go_ret
   exact⟨qpG t.out,m⟩
theorem qzC (n:Nat) (hn:qgZ n) (S:Nat->Prop) (ks:List (K n)) (l:List ByteArray) (na:Option Addr) (nc:Nat) (kv:Value) (d:Int) (w:World) (hl:StrsIn S w l (.slice na l.length nc)) (hll:l.length=ks.length) (hl8:∀ s,s∈l->s.size<=8) (hr:RowIn3 S w (KindIn S w n) ks kv) (hB:∀ b,S b->b<w.heap.size)
  (hg:ks.all (fun x=>goodK n x d)=true) (hc:1+sumL (fun x=>cntK n x) ks<=40) (hjl:(joinL (zipL l (ks.map (txtK n)))).length<=960) :
  Calls prog 43 #[.agg #[.int .i64 5,.slice na l.length nc,kv]] w fun e w'=>e=.returned (.string (bs (123 :: joinL (zipL l (ks.map (txtK n)))++[125])))/\Below w.heap.size w w':=by
 obtain⟨R,cap,rfl,J,m⟩:=hr
 obtain⟨no,aH,aE,-,L,f⟩:=hl
 cases aE
 unfold maxLen at J
 have F:=(Below.refl w.heap.size w).alloc (Nat.le_refl _) (.cells #[.int .i64 5,.slice na l.length nc,.slice R ks.length cap] 55)
 have T:=Box3.new w (.int .i64 5) (.slice na l.length nc) (.slice R ks.length cap) 55
 have aI:(w.alloc (.cells #[.int .i64 5,.slice na l.length nc,.slice R ks.length cap] 55)).heap.size=w.heap.size+1:=by simp
 have U:Hid (∀k,(qeM (zipL l (ks.map (txtK n))) k).size<=960):=fun k=>by
  have:=qdA (zipL l (ks.map (txtK n))) k
  unfold qeM;rw[qaL];omega
 have HG:Hid (∀k (h:k<ks.length),goodK n ks[k] d=true/\cntK n ks[k]<=40):=fun k h=>by
  refine⟨List.all_eq_true.1 hg _ (List.getElem_mem h),?_⟩
  have:=qcA (fun x=>cntK n x) ks _ (List.getElem_mem h)
  omega
 have B:Hid (l.length=ks.length):=hll
 clear hg hll
 go_enter func43,ntmps43
 go_wp2_with fail
 generalize hW:w.alloc (.cells #[.int .i64 5,.slice na l.length nc,.slice R ks.length cap] 55)=W at *
 clear hW
 go_loopw [3,4] (fun a i wr=>∃k:Nat,k<=ks.length/\i=.int .i64 k/\a=.string (qeM (zipL l (ks.map (txtK n))) k)/\Below W.heap.size W wr) (fun _ i _=>ks.length-(intOf i).toNat)
 case atStart=>exact⟨0,Nat.zero_le _,rfl,rfl,Below.refl _ _⟩
 case round=>
  obtain⟨k,hk,rfl,rfl,c⟩:=hrel
  have V:=U.out k
  obtain⟨i0,i1,i2⟩:=T.keep c
  have G:=c.size
  by_cases hlt:k<ks.length
  ·obtain⟨b,z,rfl,aF,M⟩:=m (by intro h;rw[h]at hlt;simp at hlt)
   obtain⟨y0,y1,y2,e0,e1,e2,N⟩:=M k hlt
   have C:=hB b aF
   have g:Below w.heap.size w wr:=qaA F (by omega) c
   have X:=(g.cell (p:=⟨b,z+k*3,none⟩) C).trans e0
   have f1:=(g.cell (p:=⟨b,z+k*3+1,none⟩) C).trans e1
   have Y:=(g.cell (p:=⟨b,z+k*3+2,none⟩) C).trans e2
   have A:=N.keep (w':=wr.drew) (qaB g.drew hB) (fun _ h=>h)
   have u:=HG.out k hlt
   have D:=qpE n ks[k] d u.1
   have aJ:(bs (txtK n ks[k])).size<=960:=by rw[qaL];omega
   have q:k<l.length:=by rw[B.out];exact hlt
   obtain⟨E,o,rfl,O,P⟩:=f (by intro h;rw[h]at q;simp at q)
   have q0:=(g.cell (p:=⟨E,o+k,none⟩) (hB E O)).trans (P k q)
   have aG:=hl8 l[k] (List.getElem_mem q)
   have aK:=hB E O
   have r:k<(zipL l (ks.map (txtK n))).length:=by rw[qbN _ _ (by simpa using B.out)];simpa using hlt
   have v:bs (zipL l (ks.map (txtK n)))[k]=l[k]++bs [58]++bs (txtK n ks[k]):=by
    rw[qiG l (ks.map (txtK n)) k q (by simpa using hlt) r,List.getElem_map,<- bs_of l[k],qaS,qaS,qcB]
    simp
   have Z:Hid (Calls prog 43 #[.agg #[y0,y1,y2]] wr.drew fun e w'=>e=.returned (.string (bs (txtK n ks[k])))/\Below wr.heap.size wr w' /\ w'.cell? ⟨w.heap.size,1,none⟩=some (.slice (some ⟨E,o,none⟩) l.length nc)/\w'.cell? ⟨w.heap.size,2,none⟩=some (.slice (some ⟨b,z,none⟩) ks.length cap)/\w'.cell? ⟨E,o+k,none⟩=some (.string l[k])):=by
    refine (hn S ks[k] y0 y1 y2 d wr.drew A (fun b hb=>by have:=hB b hb;simp;omega) u.1 u.2).mono ?_
    rintro e w' ⟨rfl,hb⟩
    have y:Below wr.heap.size wr w':=((Below.refl _ _).drew).trans hb
    exact⟨rfl,y,(y.cell (p:=⟨w.heap.size,1,none⟩) (by show w.heap.size<_;omega)).trans i1,(y.cell (p:=⟨w.heap.size,2,none⟩) (by show w.heap.size<_;omega)).trans i2,(y.cell (p:=⟨E,o+k,none⟩) (by show E<_;omega)).trans q0⟩
   clear m M e0 e1 e2 N A u D g f P L
   rcases Nat.eq_zero_or_pos k with rfl|aN
   ·have HS:Hid (qeM (zipL l (ks.map (txtK n))) (0+1)=bs []++(l[0]++bs [58]++bs (txtK n ks[0]))):=by show _=_;rw[qrK _ r,v]
    have Q:Hid (qeM (zipL l (ks.map (txtK n))) 0=bs []):=rfl
    clear r v
    rw[Nat.zero_mul,Nat.add_zero]at X
    rw[Nat.zero_mul,Nat.add_zero]at f1 Y
    rw[Q.out]
    rw[Q.out]at V
    generalize hac:bs []=acc at *
    generalize bs (txtK n ks[0])=tk at *
    generalize l[0]=nm at *
    rw[Nat.add_zero]at q0
    rw[Nat.add_zero]at Z
    have aA:(acc++nm).size<=968:=by rw[ByteArray.size_append];omega
    have H:(acc++nm++bs [58]).size<=969:=by rw[ByteArray.size_append,qaL];show _+1<=969;omega
    clear hac
    have aB:(9223372036854775807<acc.size+nm.size)=False:=eq_false (by omega)
    have aC:(9223372036854775807<acc.size+nm.size+1)=False:=eq_false (by omega)
    have aD:(9223372036854775807<acc.size+nm.size+1+tk.size)=False:=eq_false (by omega)
    go_wp2_with fail
    go_region_law (go_simp;go_at_call 43;refine Z.out.mono ?_;rintro e w1 ⟨rfl,t,j1,j2,p0⟩)
    all_goals
     have j:=qaA c G t
     clear t X f1 Y
     go_wp2_with fail
     go_roundw
     case rel=>exact⟨0+1,by omega,by go_num,by rw[HS.out];exact congrArg Value.string (by rw[<- ByteArray.append_assoc,<- ByteArray.append_assoc];rfl),j⟩
     case measure=>simp[intOf];omega
   ·have HS:Hid (qeM (zipL l (ks.map (txtK n))) (k+1)=qeM (zipL l (ks.map (txtK n))) k++bs [44]++(l[k]++bs [58]++bs (txtK n ks[k]))):=by show _=_;rw[qtZ _ _ r (by omega),v]
    have aL:decide ((0:Int)<(k:Int))=true:=decide_eq_true (by omega)
    clear r v
    generalize qeM (zipL l (ks.map (txtK n))) k=acc at *
    generalize bs (txtK n ks[k])=tk at *
    generalize l[k]=nm at *
    have aM:(acc++bs [44]).size<=961:=by rw[ByteArray.size_append,qaL];simp;omega
    have aA:(acc++bs [44]++nm).size<=969:=by rw[ByteArray.size_append];omega
    have H:(acc++bs [44]++nm++bs [58]).size<=970:=by rw[ByteArray.size_append,qaL];show _+1<=970;omega
    have aB:(9223372036854775807<acc.size+1+nm.size)=False:=eq_false (by omega)
    have aC:(9223372036854775807<acc.size+1+nm.size+1)=False:=eq_false (by omega)
    have aD:(9223372036854775807<acc.size+1+nm.size+1+tk.size)=False:=eq_false (by omega)
    go_wp2_with fail
    go_region_law (go_simp;go_at_call 43;refine Z.out.mono ?_;rintro e w1 ⟨rfl,t,j1,j2,p0⟩)
    all_goals
     have j:=qaA c G t
     clear t X f1 Y
     go_wp2_with fail
     go_roundw
     case rel=>exact⟨k+1,by omega,by go_num,by rw[HS.out];exact congrArg Value.string (by rw[<- ByteArray.append_assoc,<- ByteArray.append_assoc];rfl),j⟩
     case measure=>simp[intOf];omega
  ·have I:k=ks.length:=by omega
   have Q:Hid (bs [123]++qeM (zipL l (ks.map (txtK n))) k++bs [125]=bs (123 :: joinL (zipL l (ks.map (txtK n)))++[125])):=by
    show _=_
    unfold qeM
    have e:ks.length=(zipL l (ks.map (txtK n))).length:=by rw[qbN _ _ (by simpa using B.out)];simp
    rw[I,e,List.take_length,qaS,qaS];rfl
   have g:Below w.heap.size w wr:=qaA F (by omega) c
   clear I m f L
   generalize qeM (zipL l (ks.map (txtK n))) k=acc at *
   go_wp2_with fail
   go_ret
   exact⟨qpG Q.out,g⟩
theorem qzD(n:Nat)(hn:qgZ n):qgZ (n+1):=by
 intro S t c0 c1 c2 d w k h f l
 have a:=qpE (n+1) t d f
 obtain⟨rfl,-,i,g⟩:=k
 obtain⟨na,j,rfl,-,-,-⟩:=id i
 obtain⟨m,o,e,-,-⟩:=id g
 simp only[goodK,Bool.and_eq_true]at f
 have b:qbJ (Kd.sort t) (Kd.names t) (Kd.kids t).length=true:=f.1.2
 have c:1+sumL (fun x=>cntK n x) (Kd.kids t)<=40:=by simpa only[cntK] using l
 unfold qbJ at b
 simp only[txtK]at a ⊢
 by_cases h1:Kd.sort t=1
 ·rw[if_pos h1,e]
  exact qkD _ _ _ _ _ _ _ _ w (.inl ⟨h1,rfl⟩)
 rw[if_neg h1]at b a ⊢
 by_cases h2:Kd.sort t=2
 ·rw[if_pos h2,e]
  exact qkD _ _ _ _ _ _ _ _ w (.inr (.inl ⟨h2,rfl⟩))
 rw[if_neg h2]at b a ⊢
 by_cases h3':Kd.sort t=3
 ·rw[if_pos h3',e]
  exact qkD _ _ _ _ _ _ _ _ w (.inr (.inr ⟨h3',rfl⟩))
 rw[if_neg h3']at b a ⊢
 by_cases h4':Kd.sort t=4
 ·rw[if_pos h4']at b ⊢
  simp only[Bool.and_eq_true,beq_iff_eq]at b
  have:=qtB n hn S (Kd.sort t) (Kd.kids t) na (Kd.names t).length j c2 (d+1) w (.inl h4') g h (by omega) f.2 c
  rw[if_pos h4']at this
  exact this
 rw[if_neg h4']at b a ⊢
 by_cases h6:Kd.sort t=6
 ·rw[if_neg (by omega),if_pos h6]at b
  rw[if_pos h6]
  simp only[Bool.and_eq_true,beq_iff_eq]at b
  have:=qtB n hn S (Kd.sort t) (Kd.kids t) na (Kd.names t).length j c2 (d+1) w (.inr h6) g h (by omega) f.2 c
  rw[if_neg h4']at this
  exact this
 rw[if_neg h6]at a ⊢
 by_cases h5:Kd.sort t=5
 ·rw[if_pos h5]at b
  rw[h5]
  simp only[Bool.and_eq_true,beq_iff_eq]at b
  simp only[List.length_append,List.length_cons,List.length_nil]at a
  exact qzC n hn S (Kd.kids t) (Kd.names t) _ _ _ (d+1) w i (by omega) (qeY _ b.2) g h f.2 c (by omega)
 ·rw[if_neg h5,if_neg h6]at b;cases b
theorem qzE:∀n,qgZ n:=by
 intro n
 induction n with
 | zero=>intro S t c0 c1 c2 d w a;exact a.elim
 | succ n ih=>exact qzD n ih
end Go.Proofs.YtelogmjfekhmpaaGreatDoor
