import Derived.Test.YtelogmjfekhmpaaGreatDoorSP3
namespace Go.Proofs.YtelogmjfekhmpaaGreatDoor
set_option maxRecDepth 100000
set_option maxHeartbeats 16000000
open Go.RowKit
theorem qyW (s:ByteArray) (hs:s.size<=3000) (w:World) :
  Calls Tryz.prog 44 #[.string s] w fun e w'=>Below w.heap.size w w' /\ ((∃ v,numOf s.data.toList=some v/\e=.returned (.tuple #[.int .i64 v,.bool true]))∨(numOf s.data.toList=none/\∃ v,e=.returned (.tuple #[.int .i64 v,.bool false]))):=by
 have HT:Hid (Calls Tryz.prog 37 #[.string s] w (qfG (3000+1) (ansU 3000 s) (okU 3000 s) w)):=qiY s 3000 (by omega) (by omega) w
 rcases qjM 3000 s with ⟨t,hr,aD,aE,-⟩|⟨hr,aD,-⟩
 ·rw[aD,aE]at HT
  have hn:=qwK 3000 s hs
  clear aD aE
  by_cases h1:Nd.sort t=1
  ·have HN:Hid (numOf s.data.toList=some (Nd.num t)):=by
    rcases hn with ⟨t',aB,-,h⟩|⟨h,-⟩
    ·rw[hr]at aB;cases aB;exact h
    ·exact absurd h1 (h t hr)
   clear hn hr
   have H1:=Lib.hid h1
   clear h1
   go_enter Tryz.func44,Tryz.ntmps44
   go_wp2_with fail
   refine HT.out.mono ?_
   rintro e w2 ⟨aA,d0,d1,d2,d3,d4,rfl,ht⟩
   obtain⟨x0,x1,x2,xa,xl,xc,ya,yl,yc,rfl,rfl,rfl,rfl,rfl⟩:=ht.shape
   have e1:(x0==1)=true:=by rw[(Value.int.inj ht.1).2];simpa using H1.out
   have aF:Hid (x1=Nd.num t):=(Value.int.inj ht.2.1).2
   obtain⟨W,hW⟩:∃ W,W=w2.alloc (.cells #[.int .i64 x0,.int .i64 x1,.string x2,.slice xa xl xc,.slice ya yl yc] 67):=⟨_,rfl⟩
   have aC:Hid (∀ n,Below w.heap.size w (W.drewN n)):=fun n=>by
    rw[hW]
    have:=aA.alloc aA.size (.cells #[.int .i64 x0,.int .i64 x1,.string x2,.slice xa xl xc,.slice ya yl yc] 67)
    exact⟨this.os,this.tape,this.output,this.size,this.block⟩
   have b0:W.cell? ⟨w2.heap.size,0,none⟩=some (.int .i64 x0):=by rw[hW];exact (Box5.new w2 _ _ _ _ _ _).c0
   have b1:W.cell? ⟨w2.heap.size,1,none⟩=some (.int .i64 x1):=by rw[hW];exact (Box5.new w2 _ _ _ _ _ _).c1
   clear aA ht HT
   go_wp2_with fail
   rw[<- hW]
   clear hW
   go_quiet (fail)
   go_wp2_with fail
   refine bodyPost_ret (v:=.tuple #[.int .i64 x1,.bool true]) (by simp[results,Tryz.results44,go_sem]) rfl ?_
   exact⟨aC.out _,.inl ⟨x1,by rw[aF.out];exact HN.out,rfl⟩⟩
  ·have HN:Hid (numOf s.data.toList=none):=by
    rcases hn with ⟨t',aB,h',-⟩|⟨-,h⟩
    ·rw[hr]at aB;cases aB;exact absurd h' h1
    ·exact h
   have H1:=Lib.hid h1
   clear hn hr h1
   go_enter Tryz.func44,Tryz.ntmps44
   go_wp2_with fail
   refine HT.out.mono ?_
   rintro e w2 ⟨aA,d0,d1,d2,d3,d4,rfl,ht⟩
   obtain⟨x0,x1,x2,xa,xl,xc,ya,yl,yc,rfl,rfl,rfl,rfl,rfl⟩:=ht.shape
   have e1:(x0==1)=false:=by rw[(Value.int.inj ht.1).2];simpa using H1.out
   obtain⟨W,hW⟩:∃ W,W=w2.alloc (.cells #[.int .i64 x0,.int .i64 x1,.string x2,.slice xa xl xc,.slice ya yl yc] 67):=⟨_,rfl⟩
   have aC:Hid (∀ n,Below w.heap.size w (W.drewN n)):=fun n=>by
    rw[hW]
    have:=aA.alloc aA.size (.cells #[.int .i64 x0,.int .i64 x1,.string x2,.slice xa xl xc,.slice ya yl yc] 67)
    exact⟨this.os,this.tape,this.output,this.size,this.block⟩
   have b0:W.cell? ⟨w2.heap.size,0,none⟩=some (.int .i64 x0):=by rw[hW];exact (Box5.new w2 _ _ _ _ _ _).c0
   have b1:W.cell? ⟨w2.heap.size,1,none⟩=some (.int .i64 x1):=by rw[hW];exact (Box5.new w2 _ _ _ _ _ _).c1
   clear aA ht HT
   go_wp2_with fail
   rw[<- hW]
   clear hW
   go_quiet (fail)
   go_wp2_with fail
   refine bodyPost_ret (v:=.tuple #[.int .i64 x1,.bool false]) (by simp[results,Tryz.results44,go_sem]) rfl ?_
   exact⟨aC.out _,.inr ⟨HN.out,_,rfl⟩⟩
 ·rw[aD]at HT
  have HN:Hid (numOf s.data.toList=none):=by
   rcases qwK 3000 s hs with ⟨t',aB,-,-⟩|⟨-,h⟩
   ·rw[hr]at aB;cases aB
   ·exact h
  clear aD hr
  generalize ansU 3000 s=t at *
  go_enter Tryz.func44,Tryz.ntmps44
  go_wp2_with fail
  refine HT.out.mono ?_
  rintro e w2 ⟨aA,d0,d1,d2,d3,d4,rfl,ht⟩
  obtain⟨x0,x1,x2,xa,xl,xc,ya,yl,yc,rfl,rfl,rfl,rfl,rfl⟩:=ht.shape
  obtain⟨W,hW⟩:∃ W,W=w2.alloc (.cells #[.int .i64 x0,.int .i64 x1,.string x2,.slice xa xl xc,.slice ya yl yc] 67):=⟨_,rfl⟩
  have aC:Hid (∀ n,Below w.heap.size w (W.drewN n)):=fun n=>by
   rw[hW]
   have:=aA.alloc aA.size (.cells #[.int .i64 x0,.int .i64 x1,.string x2,.slice xa xl xc,.slice ya yl yc] 67)
   exact⟨this.os,this.tape,this.output,this.size,this.block⟩
  have b0:W.cell? ⟨w2.heap.size,0,none⟩=some (.int .i64 x0):=by rw[hW];exact (Box5.new w2 _ _ _ _ _ _).c0
  have b1:W.cell? ⟨w2.heap.size,1,none⟩=some (.int .i64 x1):=by rw[hW];exact (Box5.new w2 _ _ _ _ _ _).c1
  clear aA ht HT
  go_wp2_with fail
  rw[<- hW]
  clear hW
  go_quiet (fail)
  go_wp2_with fail
  refine bodyPost_ret (v:=.tuple #[.int .i64 x1,.bool false]) (by simp[results,Tryz.results44,go_sem]) rfl ?_
  exact⟨aC.out _,.inr ⟨HN.out,_,rfl⟩⟩
theorem xgW {w:World} {P:Nat} {wv:Value} {ws:List ByteArray} {a c:Nat} {fc fa:Int} (h:Prs w P wv ws a c fc fa) (ha:a<=10000) (low high:Int) :
  Calls Tryz.prog 29 #[.pointer (some ⟨P,0,none⟩),.int .i64 low,.int .i64 high] w fun e w'=>
   (∃ v,numOf (wordD ws a).data.toList=some v/\(low<=v/\v<=high)/\e=.returned (.int .i64 v)/\PPost P wv ws (a+1) c fc fa w w') ∨
   ((∀ v,numOf (wordD ws a).data.toList=some v->¬ (low<=v/\v<=high))/\e=.returned (.int .i64 0)/\PPost P wv ws a c (ftC fc 2) (ftA fc fa a) w w'):=by
 have aI:=qdQ h.short a
 have HL:=Lib.hid (qfE h)
 generalize hs:wordD ws a=s at *
 have HN:Hid (∀ w',Calls Tryz.prog 44 #[.string s] w' fun e w''=>Below w'.heap.size w' w''/\((∃ v,numOf s.data.toList=some v/\e=.returned (.tuple #[.int .i64 v,.bool true]))∨(numOf s.data.toList=none/\∃ v,e=.returned (.tuple #[.int .i64 v,.bool false])))):=fun w'=>qyW s aI w'
 have HI:Hid (∀ v w',Calls Tryz.prog 45 #[.int .i64 v,.int .i64 low,.int .i64 high] w' fun e w''=>e=.returned (.bool (decide (low<=v/\v<=high)))/\w''=w'):=fun v w'=>qcL v low high w'
 have HP:Hid (∀ w',Near P w w'->Prs w' P wv ws a c fc fa->Calls Tryz.prog 12 #[.pointer (some ⟨P,0,none⟩),.int .i64 2] w' fun e w''=>e=.returned (.tuple #[])/\PPost P wv ws a c (ftC fc 2) (ftA fc fa a) w w''):=fun w' hn hp=>by
  refine (qdE hp 2).mono ?_
  rintro e w'' ⟨rfl,h1,h2⟩
  exact⟨rfl,hn.trans h1,h2⟩
 have aC:Hid (∀ n w',Below (w.drewN n).heap.size (w.drewN n) w'->Near P w w' /\ Prs w' P wv ws a c fc fa):=fun n w' hb=>⟨(qbH (Near.refl P w) n).trans (Near.of_below hb),(h.drewN n).same hb⟩
 clear h hs
 go_enter Tryz.func29,Tryz.ntmps29
 go_wp2_with fail
 refine HL.out.mono ?_
 rintro e w1 ⟨rfl,n,rfl⟩
 go_wp2_with fail
 refine (HN.out _).mono ?_
 rintro e w2 ⟨aG,⟨v,hv,rfl⟩|⟨hv,v,rfl⟩⟩
 ·have HV:=Lib.hid hv
  have aF:=Lib.hid aG
  clear hv aG HN
  by_cases hr:low<=v/\v<=high
  ·have aD:=Lib.hid (HI.out v w2)
   rw[decide_eq_true hr]at aD
   have HR:=Lib.hid hr
   obtain⟨aB,aA⟩:=aC.out n _ aF.out
   obtain⟨⟨c0,c1,c2,c3,c4⟩,aH⟩:=aA.cells
   have f1:=aH 1
   have HE:Hid (PPost P wv ws (a+1) c fc fa w _):=⟨aB.trans (Near.set P 1 _ (.int .i64 ((a+1:Nat):Int))),aA.setAt (a+1)⟩
   clear aC HP aB aA HL aH HI hr aF
   go_wp2_with fail
   refine aD.out.mono ?_
   rintro e w3 ⟨rfl,rfl⟩
   go_wp2_with fail
   go_ret
   exact .inl ⟨v,HV.out,HR.out,rfl,HE.out⟩
  ·have aD:=Lib.hid (HI.out v w2)
   rw[decide_eq_false hr]at aD
   have HR:=Lib.hid hr
   obtain⟨aB,aA⟩:=aC.out n _ aF.out
   have aE:=Lib.hid (HP.out _ aB aA)
   clear aC HP aB aA HL HI hr aF
   go_wp2_with fail
   refine aD.out.mono ?_
   rintro e w3 ⟨rfl,rfl⟩
   go_wp2_with fail
   refine aE.out.mono ?_
   rintro e w9 ⟨rfl,aA⟩
   have HE:=Lib.hid aA
   clear aE aA
   go_wp2_with fail
   go_ret
   exact .inr ⟨fun v' hv'=>by rw[HV.out]at hv';cases hv';exact HR.out,rfl,HE.out⟩
 ·have HV:=Lib.hid hv
  obtain⟨aB,aA⟩:=aC.out n _ aG
  have aE:=Lib.hid (HP.out _ aB aA)
  clear aC HP aB aA HL HI HN aG hv
  go_wp2_with fail
  refine aE.out.mono ?_
  rintro e w9 ⟨rfl,aA⟩
  have HE:=Lib.hid aA
  clear aE aA
  go_wp2_with fail
  go_ret
  exact .inr ⟨fun v' hv'=>(by rw[HV.out]at hv';cases hv'),rfl,HE.out⟩
end Go.Proofs.YtelogmjfekhmpaaGreatDoor
