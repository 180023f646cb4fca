import Derived.Test.YtelogmjfekhmpaaGreatDoorScan
import Derived.RegionDies
namespace Go.Proofs.YtelogmjfekhmpaaGreatDoor
set_option maxRecDepth 100000
set_option maxHeartbeats 16000000
open Go.RowKit
def qjB (c:UInt8) (w:World) (R:Nat) (s:ByteArray) (i:Nat) (e:Ending) (w':World):Prop:=
 (∃ x,qbS c (s.data.toList.drop i)=some (x,s.data.toList.drop (i+x.length))/\e=.returned (.string (bs x))/\Scan R w w' (i+x.length)/\i+x.length<s.size) ∨
  (qbS c (s.data.toList.drop i)=none/\e=.panicked refusal/\Near R w w')
theorem qmH (c:UInt8) (w:World) (R:Nat) (s:ByteArray) (i:Nat) (h:Sc w R s i) (hs:s.size<=10000) (hi:i<=s.size) :
  Calls Tryz.prog 158 #[.pointer (some ⟨R,0,none⟩),.int .u8 (c.toNat:Int)] w (qjB c w R s i):=by
 have c0:=h.c0
 have c1:=h.c1
 have f1:=h.f1
 have aO:(i:Int)<=(s.size:Int):=by omega
 have aE:((c.toNat:Int)).toNat.toUInt8=c:=by
  apply UInt8.toNat_inj.1
  simp
 have HC:Hid (∀ W,Calls Tryz.prog 122 #[.string (s.extract i s.size),.int .u8 (c.toNat:Int)] W fun e w'=>e=.returned (.int .i64 (Lib.indexByte (s.data.toList.drop i) c))/\w'=W):=fun W=>by
  have:=Tryz.strings_IndexByte (s.extract i s.size) (c.toNat:Int) W
  rw[aE,qmG]at this
  exact this
 have aD:=Lib.indexByte_ge (s.data.toList.drop i) c
 have HN:Hid (∀ m,Near R w (w.drewN m)):=fun m=>((Scan.refl h).drewN m).near
 rcases Int.lt_or_le (Lib.indexByte (s.data.toList.drop i) c) 0 with aC|aB
 ·have e1:Lib.indexByte (s.data.toList.drop i) c = -1:=by omega
  have HU:Hid (qbS c (s.data.toList.drop i)=none):=by
   refine qkO c _ fun x hx e=>?_
   obtain⟨k,hk,he⟩:=List.getElem_of_mem hx
   exact Lib.indexByte_none e1 k (by rw[List.getElem?_eq_getElem hk,he,e])
  rw[e1]at HC
  clear aC aD e1 h
  go_enter Tryz.func158,Tryz.ntmps158
  go_wp2_with fail
  go_quiet (first|(go_at_call 122;refine Calls.quiet_of_same (HC.out _)))
  go_wp2_with (go_at_call 156;refine (qfJ _).mono ?_;rintro e w' ⟨rfl,rfl⟩)
  exact⟨rfl,.inr ⟨HU.out,rfl,HN.out _⟩⟩
 ·obtain⟨o,ho⟩:∃ o:Nat,Lib.indexByte (s.data.toList.drop i) c=o:=⟨_,(Int.toNat_of_nonneg aB).symm⟩
  obtain⟨g1,g2⟩:=Lib.indexByte_some ho
  have aF:i+o<s.size:=by
   have:=(List.getElem?_eq_some_iff.1 g1).1
   simp at this;omega
  have aA:((s.data.toList.drop i).take o).length=o:=by simp;omega
  have HU:Hid (qbS c (s.data.toList.drop i)=some ((s.data.toList.drop i).take o,s.data.toList.drop (i+o))):=by
   have:=qrH c (s.data.toList.drop i) o (fun x hx e=>by
    obtain⟨k,hk,he⟩:=List.getElem_of_mem hx
    have aG:k<o:=by rw[aA]at hk;exact hk
    have aH:k<(s.data.toList.drop i).length:=by simp;omega
    refine g2 k aG ?_
    rw[List.getElem?_eq_getElem aH,<- e,<- he];simp) (by
    have aI:=(List.getElem?_eq_some_iff.1 g1).1
    have:=(List.getElem?_eq_some_iff.1 g1).2
    rw[List.drop_eq_getElem_cons aI,this])
   rw[List.drop_drop]at this
   exact this
  have HX:Hid (s.extract i (i+o)=bs ((s.data.toList.drop i).take o)):=qgA s i o
  rw[ho]at HC
  have hw:IntKind.i64.wrap ((i:Int)+(o:Int))=(i:Int)+(o:Int):=by rw[IntKind.wrap_i64];omega
  have aJ:(0:Int)<=(o:Int):=by omega
  have HS:Hid (∀ m,Scan R w ((w.drewN m).setCell ⟨R,1,none⟩ (.int .i64 ((i:Int)+(o:Int)))) (i+o)):=fun m=>by
   have:=((Scan.refl h).drewN m).trans (Scan.set (((Scan.refl h).drewN m).sc h) (i+o))
   rw[show ((i+o:Nat):Int)=(i:Int)+(o:Int) by omega]at this
   exact this
  have aP:(i:Int)+(o:Int)<=(s.size:Int):=by omega
  have aK:(i:Int)<=(i:Int)+(o:Int):=by omega
  have aL:((i:Int)+(o:Int)).toNat=i+o:=by omega
  have aM:∀ m,((w.drewN m).setCell ⟨R,1,none⟩ (.int .i64 ((i:Int)+(o:Int)))).cell? ⟨R,0,none⟩=some (.string s):=fun m=>((HS.out m).cells 0 (by decide)).trans c0
  have aN:∀ m,((w.drewN m).setCell ⟨R,1,none⟩ (.int .i64 ((i:Int)+(o:Int)))).cell? ⟨R,1,none⟩=some (.int .i64 ((i:Int)+(o:Int))):=fun m=>(HS.out m).at1
  clear aB aD ho g1 g2 h
  go_enter Tryz.func158,Tryz.ntmps158
  go_wp2_with fail
  go_quiet (first|(go_at_call 122;refine Calls.quiet_of_same (HC.out _)))
  go_wp2_with (go_at_call 156;refine (qbC _).mono ?_;rintro e w' ⟨rfl,rfl⟩)
  have d0:=aM nq
  have d1:=aN nq
  go_quiet (fail)
  go_wp2_with fail
  go_ret
  refine .inl ⟨_,by rw[aA];exact HU.out,congrArg (fun x=>Ending.returned (.string x)) HX.out,?_,by rw[aA];exact aF⟩
  rw[aA]
  exact (HS.out _).drewN _
def xcM (w:World) (R:Nat) (s:ByteArray) (i:Nat) (e:Ending) (w':World):Prop:=
 (i=s.size/\e=.returned (.tuple #[])/\Scan R w w' i)∨(i≠s.size/\e=.panicked refusal/\Near R w w')
theorem qmI (w:World) (R:Nat) (s:ByteArray) (i:Nat) (h:Sc w R s i) :
  Calls Tryz.prog 134 #[.pointer (some ⟨R,0,none⟩)] w (xcM w R s i):=by
 have c0:=h.c0
 have c1:=h.c1
 have HS:Hid (∀ m,Scan R w (w.drewN m) i):=fun m=>(Scan.refl h).drewN m
 clear h
 by_cases he:i=s.size
 ·have hq:((i:Int)==(s.size:Int))=true:=by simp[he]
  have HE:Hid (i=s.size):=he
  clear he
  go_enter Tryz.func134,Tryz.ntmps134
  go_wp2_with fail
  go_quiet (first|(go_at_call 156;refine Calls.quiet_of_same (qbC _)))
  go_wp2_with fail
  go_end0
  exact .inl ⟨HE.out,rfl,HS.out _⟩
 ·have hq:((i:Int)==(s.size:Int))=false:=by simp;omega
  have HP:Hid (xcM w R s i (.panicked refusal) w.drew):=.inr ⟨he,rfl,⟨rfl,rfl,rfl,Nat.le_refl _,fun _ _ _=>rfl⟩⟩
  clear he
  go_enter Tryz.func134,Tryz.ntmps134
  go_wp2_with fail
  go_region_dies
  all_goals (go_at_call 156;refine (qfJ _).mono ?_;rintro e w' ⟨rfl,rfl⟩;exact⟨rfl,HP.out⟩)
end Go.Proofs.YtelogmjfekhmpaaGreatDoor
