import Derived.Test.YtelogmjfekhmpaaGreatDoorNP0
import Derived.Test.YtelogmjfekhmpaaGreatDoorShelf
import Derived.Test.YtelogmjfekhmpaaGreatDoorShelt
import Derived.Shelf.Strings.SlTrimAscii
import Derived.Laws.RangeString
import Derived.Laws.RangeAny
import Derived.Laws.Runes
import Derived.LoopTactic
import Derived.WalkMore
import Derived.BigQuiet
namespace Go.Proofs.YtelogmjfekhmpaaGreatDoor
set_option maxRecDepth 100000
set_option maxHeartbeats 16000000
open Go.RowKit
theorem qnX (l:List UInt8):Lib.trimLeftS l [32,10]=l.dropWhile qaR:=by
 unfold Lib.trimLeftS
 congr 1
 funext c
 simp only[qaR,List.contains_cons,List.contains_nil,Bool.or_false]
theorem qtK (s:ByteArray) (w:World):Calls Tryz.prog 63 #[.string s,.string ⟨#[32,10]⟩] w fun e w'=>e=.returned (.string (bs (s.data.toList.dropWhile qaR)))/\Below w.heap.size w w':=by
 have h:=Any.strings_TrimLeft_laid Tryz.lays161 (by kernel_rfl) s ⟨#[32,10]⟩ w (by decide) (by
  intro j b hb
  match j,hb with
  | 0, hb => have : b = 32 := by simpa using hb.symm
             subst this;decide
  | 1, hb => have : b = 10 := by simpa using hb.symm
             subst this;decide
  | j+2,hb=>simp at hb)
 refine Calls.mono (show Calls Tryz.prog 63 _ _ _ from h) ?_
 rintro e w' ⟨rfl,hb⟩
 refine⟨?_,hb⟩
 rw[<- qnX]
 rfl
theorem qvI (w:World) (s:ByteArray) (pos:Nat):Below w.heap.size w (w.iter s pos):=(Below.refl _ _).alloc (Nat.le_refl _) _
theorem qqT (r:Int) (w:World) (h:r=65533):Calls Tryz.prog 100 #[.string ⟨#[32,10]⟩,.int .i32 r] w fun e w'=>e=.returned (.int .i64 (-1))/\Below w.heap.size w w':=by
 subst h
 go_enter Tryz.func100,Tryz.ntmps100
 go_wp2_with fail
 go_loopw [5] (fun _ w'=>∃ pos:Nat,pos<=2/\w'=w.iter ⟨#[32,10]⟩ pos) (fun _ w'=>2 - w'.iterPos w.heap.size)
 case atStart=>exact⟨0,by omega,rfl⟩
 case round=>
  obtain⟨pos,hp,rfl⟩:=hrel
  have hc:pos=0∨pos=1∨pos=2:=by omega
  rcases hc with rfl|rfl|rfl
  ·have aA:∀ ty,(Instr.next (.pointer (some ⟨w.heap.size,0,none⟩)) true ty).run Tryz.prog (w.iter ⟨#[32,10]⟩ 0)=.ok (.tuple #[.bool true,.int .i64 ((0:Nat):Int),.int .i32 32]) (w.iter ⟨#[32,10]⟩ 1):=fun ty=>by
    rw[run_next_any w ⟨#[32,10]⟩ 0 ty (by decide),decode_ascii ⟨#[32,10]⟩ 0 (by decide) (by decide)];rfl
   go_wp2_with fail
   go_roundw
   case rel=>exact⟨1,by omega,rfl⟩
   case measure=>simp
  ·have aA:∀ ty,(Instr.next (.pointer (some ⟨w.heap.size,0,none⟩)) true ty).run Tryz.prog (w.iter ⟨#[32,10]⟩ 1)=.ok (.tuple #[.bool true,.int .i64 ((1:Nat):Int),.int .i32 10]) (w.iter ⟨#[32,10]⟩ 2):=fun ty=>by
    rw[run_next_any w ⟨#[32,10]⟩ 1 ty (by decide),decode_ascii ⟨#[32,10]⟩ 1 (by decide) (by decide)];rfl
   go_wp2_with fail
   go_roundw
   case rel=>exact⟨2,by omega,rfl⟩
   case measure=>simp
  ·have aA:=fun ty=>run_next_end (P:=Tryz.prog) w ⟨#[32,10]⟩ 2 ty (by decide)
   go_wp2_with fail
   go_ret
   exact⟨rfl,qvI _ _ _⟩
theorem qqU (r:Int) (w:World) (h:128<=r) (h1:r<55296∨(57343<r/\r<=1114111)):Calls Tryz.prog 123 #[.int .i32 r] w fun e w'=>e=.returned (.bool true)/\w'=w:=by
 have h0:0<=r:=by omega
 rcases h1 with h1|h1
 ·go_enter Tryz.func123,Tryz.ntmps123
  go_wp2_with fail
  go_ret
  exact⟨rfl,rfl⟩
 ·have h2:¬ r<55296:=by omega
  have h3:=h1.1
  have h4:=h1.2
  go_enter Tryz.func123,Tryz.ntmps123
  go_wp2_with fail
  go_ret
  exact⟨rfl,rfl⟩
theorem qnY (r:Int) (w:World) (h:128<=r) (hv:Utf8.valid r=true) (hne:r≠65533) (hm:r<55296∨(57343<r/\r<=1114111)):Calls Tryz.prog 100 #[.string ⟨#[32,10]⟩,.int .i32 r] w fun e w'=>e=.returned (.int .i64 (-1))/\Below w.heap.size w w':=by
 have h1:¬ r<128:=by omega
 have h2:(r==65533)=false:=by simp[hne]
 obtain⟨e1,e2,e3⟩:=encode_facts r hv h
 have HV:=Lib.hid (qqU r w h hm)
 obtain⟨en,aF⟩:∃ en,Utf8.encode r=en:=⟨_,rfl⟩
 rw[aF]at e1 e2 e3
 clear hv hne hm
 by_cases h3:3<=en.size
 ·have hw:IntKind.i64.wrap ((en.size:Int) - 1)=(en.size:Int) - 1:=by rw[IntKind.wrap_i64];omega
  have aG:¬ (en.size:Int) - 1<2:=by omega
  clear e3
  go_enter Tryz.func100,Tryz.ntmps100
  go_wp2_with fail
  refine HV.out.mono ?_
  rintro e w1 ⟨rfl,rfl⟩
  go_wp2_with fail
  go_step3
  go_wp2_with fail
  go_loopw [9] (fun i wr=>i=.int .i64 ((en.size:Int) - 1)/\wr=w1) (fun _ _=>0)
  case atStart=>exact⟨rfl,rfl⟩
  case round=>
   obtain⟨rfl,rfl⟩:=hrel
   go_wp2_with fail
   try rw[Exit.noGoto_ret]
   go_ret
   exact⟨rfl,Below.refl _ _⟩
 ·have aB:en.size=2:=by omega
  have aH:1<en.size:=by omega
  have e4:128<=(en[1]'hlt).toNat:=by
   have:=e3 (by omega)
   simpa [aB] using this
  have aA:((ByteArray.mk #[32,10])[1]'(by decide)).toNat=10:=by decide
  have aC:((((ByteArray.mk #[32,10])[1]'(by decide)).toNat:Int) != ((en[1]'hlt).toNat:Int))=true:=by rw[aA];simp;omega
  clear aA
  have aD:∀ w,Calls Tryz.prog 122 #[.string ByteArray.empty,.int .u8 ((en[1]'hlt).toNat:Int)] w fun e w'=>e=.returned (.int .i64 (-1))/\w'=w:=fun w=>Tryz.strings_IndexByte (ByteArray.mk #[]) ((en[1]'hlt).toNat:Int) w
  have aI:(ByteArray.mk #[32,10]).extract 2 2=ByteArray.empty:=by decide
  have aJ:IntKind.i64.wrap 2=2:=by decide
  clear e3 h3
  go_enter Tryz.func100,Tryz.ntmps100
  go_wp2_with fail
  refine HV.out.mono ?_
  rintro e w1 ⟨rfl,rfl⟩
  go_wp2_with fail
  go_step3
  go_wp2_with fail
  go_loopw [9] (fun i wr=>i=.int .i64 1/\wr=w1) (fun _ _=>0)
  case atStart=>exact⟨by simp,rfl⟩
  case round=>
   obtain⟨rfl,rfl⟩:=hrel
   go_wp2_with fail
   go_step3
   go_wp2_with fail
   go_quiet (fail)
   go_wp2_with fail
   obtain⟨V,hV⟩:∃ V,V=wr.drewN nq:=⟨_,rfl⟩
   have aE:Hid (∀ j,Below wr.heap.size wr (V.drewN j)):=fun j=>by rw[hV];exact⟨rfl,rfl,rfl,Nat.le_refl _,fun _ _=>rfl⟩
   rw[<- hV]
   clear hV nq
   go_quiet (first|(go_at_call 122;refine Calls.quiet_of_same (aD _)))
   go_wp2_with fail
   rw[Exit.noGoto_ret]
   simp +zetaDelta only[Exit.noGoto_ret,Exit.inBlock,Exit.then]
   go_ret
   exact⟨rfl,aE.out _⟩
theorem qkK (r:Int) (w:World) (h:128<=r) (hr:r=65533∨(Utf8.valid r=true/\(r<55296∨(57343<r/\r<=1114111)))):Calls Tryz.prog 81 #[.string ⟨#[32,10]⟩,.int .i32 r] w fun e w'=>e=.returned (.bool false)/\Below w.heap.size w w':=by
 have HC:Hid (Calls Tryz.prog 100 #[.string ⟨#[32,10]⟩,.int .i32 r] w fun e w'=>e=.returned (.int .i64 (-1))/\Below w.heap.size w w'):=by
  by_cases hb:r=65533
  ·exact qqT r w hb
  ·rcases hr with hr|hr
   ·exact absurd hr hb
   ·exact qnY r w h hr.1 hb hr.2
 clear hr
 go_enter Tryz.func81,Tryz.ntmps81
 go_wp2_with fail
 refine HC.out.mono ?_
 rintro e w1 ⟨rfl,hb⟩
 have HB:=Lib.hid hb
 clear hb HC
 go_wp2_with fail
 go_ret
 exact⟨rfl,HB.out⟩
theorem qlA (r:Nat) (w:World) (h:r<128):Calls Tryz.prog 81 #[.string ⟨#[32,10]⟩,.int .i32 (r:Int)] w fun e w'=>e=.returned (.bool (qaR (UInt8.ofNat r)))/\w'=w:=by
 refine (Tryz.strings_ContainsRune_ascii ⟨#[32,10]⟩ (r:Int) w (by omega) (by omega)).mono ?_
 rintro e w' ⟨rfl,rfl⟩
 refine⟨?_,rfl⟩
 congr 2
 have:∀ r,r<128->decide (0<=Lib.indexByte [32,10] ((r:Nat):Int).toNat.toUInt8)=qaR (UInt8.ofNat r):=by decide
 exact this r h
end Go.Proofs.YtelogmjfekhmpaaGreatDoor
