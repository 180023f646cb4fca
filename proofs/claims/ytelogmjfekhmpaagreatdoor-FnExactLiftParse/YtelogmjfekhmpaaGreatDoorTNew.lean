import Derived.Test.YtelogmjfekhmpaaGreatDoorTI0
import Derived.Deep.WholeRow
import Derived.Deep.Cut
import Derived.Deep.CutRange
import Derived.LoopTactic
namespace Go.Proofs.YtelogmjfekhmpaaGreatDoor
set_option maxRecDepth 100000
set_option maxHeartbeats 16000000
open Go.RowKit
theorem Tryz.zeroReader:Tryz.zeroCells165.toList=Value.string ⟨#[]⟩ :: Value.int .i64 0 :: List.replicate 256 Value.nilFunc:=by kernel_rfl
def newF (s:ByteArray) (j:Nat):Value:=if j=0 then .string s else if j=1 then .int .i64 0 else .nilFunc
theorem xjF (s:ByteArray) (w:World):(w.alloc (.cells ((Tryz.zeroCells165.setIfInBounds 0 (.string s)).setIfInBounds 1 (.int .i64 0)) 165)).rowIs w.heap.size 165 258 (newF s):=by
 have hz:=Tryz.zeroCells165_size
 have hl:=Tryz.zeroReader
 generalize Tryz.zeroCells165=z at *
 have aA:((z.setIfInBounds 0 (.string s)).setIfInBounds 1 (.int .i64 0)).size=258:=by simp[hz]
 have:=World.rowIs_alloc w ((z.setIfInBounds 0 (.string s)).setIfInBounds 1 (.int .i64 0)) 165 (newF s) (fun i hi=>by
  rw[aA]at hi
  unfold newF
  by_cases h0:i=0
  ·subst h0;simp[hz]
  by_cases h1:i=1
  ·subst h1;simp[hz]
  rw[if_neg h0,if_neg h1]
  have aB:z[i]?=some .nilFunc:=by
   rw[<- Array.getElem?_toList,hl]
   obtain⟨k,rfl⟩:∃ k,i=k+2:=⟨i - 2,by omega⟩
   simp only[List.getElem?_cons_succ]
   rw[List.getElem?_replicate,if_pos (by omega)]
  rw[Array.getElem?_setIfInBounds_ne (by omega),Array.getElem?_setIfInBounds_ne (by omega)]
  exact aB)
 rw[aA]at this
 exact this
def methN (R n:Nat):Value:=
 if (48<=n/\n<=57)∨n=45 then .func (.func 127) #[.pointer (some ⟨R,0,none⟩)] #[]
 else if n=34 then .func (.func 130) #[.pointer (some ⟨R,0,none⟩)] #[]
 else if n=121∨n=110 then .func (.func 128) #[.pointer (some ⟨R,0,none⟩)] #[]
 else if n=91 then .func (.func 131) #[.pointer (some ⟨R,0,none⟩)] #[]
 else if n=123 then .func (.func 132) #[.pointer (some ⟨R,0,none⟩)] #[]
 else if n=126∨n=63 then .func (.func 129) #[.pointer (some ⟨R,0,none⟩)] #[]
 else .nilFunc
theorem xdP (R:Nat) (c:UInt8):methV R c=methN R c.toNat:=by
 have e:∀ k:UInt8,(c=k)=(c.toNat=k.toNat):=fun k=>propext UInt8.toNat_inj.symm
 have d:(digC c=true)=(48<=c.toNat/\c.toNat<=57):=by
  unfold digC
  rw[decide_eq_true_eq]
  exact propext ⟨fun h=>⟨by omega,by omega⟩,fun h=>⟨by omega,by omega⟩⟩
 unfold methV methN
 simp only[e,d]
 rfl
theorem quW {w:World} {R:Nat} {t:TypeId} {F:Nat->Value} (h:w.rowIs R t 258 F) (hF:∀ n,n<256->F (2+n)=methN R n):Meth w R:=fun c=>by
 have hc:=c.toNat_lt
 rw[h.cell (by omega),hF _ (by omega),xdP]
def digF (s:ByteArray) (R k:Nat) (j:Nat):Value:=if 50<=j/\j<2+k then .func (.func 127) #[.pointer (some ⟨R,0,none⟩)] #[] else newF s j
def finW (wr:World) (R:Nat) (vn vq vf vl vo vm:Value):World:=((((((((wr.setCell ⟨R,47,none⟩ vn).setCell ⟨R,36,none⟩ vq).setCell ⟨R,123,none⟩ vf).setCell ⟨R,112,none⟩ vf).setCell ⟨R,93,none⟩ vl).setCell ⟨R,125,none⟩ vo).setCell ⟨R,128,none⟩ vm).setCell ⟨R,65,none⟩ vm)
theorem xjG {wr:World} {R:Nat} {t:TypeId} {F:Nat->Value} (h:wr.rowIs R t 258 F) (vn vq vf vl vo vm:Value):(finW wr R vn vq vf vl vo vm).rowIs R t 258 (fun j=>if j=65 then vm else if j=128 then vm else if j=125 then vo else if j=93 then vl else if j=112 then vf else if j=123 then vf else if j=36 then vq else if j=47 then vn else F j):=((((((((h.set 47 vn).set 36 vq).set 123 vf).set 112 vf).set 93 vl).set 125 vo).set 128 vm).set 65 vm)
theorem xdQ {w wr:World} (hb:Below w.heap.size w wr) (vn vq vf vl vo vm:Value):Below w.heap.size w (finW wr w.heap.size vn vq vf vl vo vm):=by
 have R:Nat:=w.heap.size
 exact ((((((((hb.setCell (Nat.le_refl _) _).setCell (Nat.le_refl _) _).setCell (Nat.le_refl _) _).setCell (Nat.le_refl _) _).setCell (Nat.le_refl _) _).setCell (Nat.le_refl _) _).setCell (Nat.le_refl _) _).setCell (Nat.le_refl _) _)
theorem fin_eq (n:Nat) (vn vq vf vl vo vm z:Value):(if 2+n=65 then vm else if 2+n=128 then vm else if 2+n=125 then vo else if 2+n=93 then vl else if 2+n=112 then vf else if 2+n=123 then vf else if 2+n=36 then vq else if 2+n=47 then vn else if 50<=2+n/\2+n<2+58 then vn else z)=(if (48<=n/\n<=57)∨n=45 then vn else if n=34 then vq else if n=121∨n=110 then vf else if n=91 then vl else if n=123 then vo else if n=126∨n=63 then vm else z):=by
 by_cases h1:n=63
 ·subst h1;rfl
 by_cases h2:n=126
 ·subst h2;rfl
 by_cases h3:n=123
 ·subst h3;rfl
 by_cases h4:n=91
 ·subst h4;rfl
 by_cases h5:n=110
 ·subst h5;rfl
 by_cases h6:n=121
 ·subst h6;rfl
 by_cases h7:n=34
 ·subst h7;rfl
 by_cases h8:n=45
 ·subst h8;rfl
 rw[if_neg (by omega),if_neg (by omega),if_neg (by omega),if_neg (by omega),if_neg (by omega),if_neg (by omega),if_neg (by omega),if_neg (by omega)]
 by_cases h9:48<=n/\n<=57
 ·rw[if_pos (by omega),if_pos (.inl h9)]
 ·rw[if_neg (by omega),if_neg (by omega),if_neg h7,if_neg (by omega),if_neg h4,if_neg h3,if_neg (by omega)]
theorem fin_ok {s:ByteArray} {w wr:World} {R:Nat} (hR:R=w.heap.size) (hb:Below w.heap.size w wr) (hr:wr.rowIs R 165 258 (digF s R 58)) :
  (fun W=>Below w.heap.size w W/\Sc W R s 0/\Meth W R) (finW wr R (.func (.func 127) #[.pointer (some ⟨R,0,none⟩)] #[]) (.func (.func 130) #[.pointer (some ⟨R,0,none⟩)] #[]) (.func (.func 128) #[.pointer (some ⟨R,0,none⟩)] #[])
   (.func (.func 131) #[.pointer (some ⟨R,0,none⟩)] #[]) (.func (.func 132) #[.pointer (some ⟨R,0,none⟩)] #[]) (.func (.func 129) #[.pointer (some ⟨R,0,none⟩)] #[])):=by
 have aA:=xjG hr (.func (.func 127) #[.pointer (some ⟨R,0,none⟩)] #[]) (.func (.func 130) #[.pointer (some ⟨R,0,none⟩)] #[]) (.func (.func 128) #[.pointer (some ⟨R,0,none⟩)] #[])
   (.func (.func 131) #[.pointer (some ⟨R,0,none⟩)] #[]) (.func (.func 132) #[.pointer (some ⟨R,0,none⟩)] #[]) (.func (.func 129) #[.pointer (some ⟨R,0,none⟩)] #[])
 refine⟨?_,⟨?_,?_,aA.frozen 1⟩,quW aA fun n hn=>?_⟩
 ·subst hR
  exact xdQ hb _ _ _ _ _ _
 ·have:=aA.cell (i:=0) (by omega)
  rw[this];rfl
 ·have:=aA.cell (i:=1) (by omega)
  rw[this];rfl
 ·have hz:newF s (2+n)=.nilFunc:=by unfold newF;rw[if_neg (by omega),if_neg (by omega)]
  show (if 2+n=65 then (.func (.func 129) #[.pointer (some ⟨R,0,none⟩)] #[]:Value) else if 2+n=128 then (.func (.func 129) #[.pointer (some ⟨R,0,none⟩)] #[]:Value) else if 2+n=125 then (.func (.func 132) #[.pointer (some ⟨R,0,none⟩)] #[]:Value) else if 2+n=93 then (.func (.func 131) #[.pointer (some ⟨R,0,none⟩)] #[]:Value) else if 2+n=112 then (.func (.func 128) #[.pointer (some ⟨R,0,none⟩)] #[]:Value) else if 2+n=123 then (.func (.func 128) #[.pointer (some ⟨R,0,none⟩)] #[]:Value) else if 2+n=36 then (.func (.func 130) #[.pointer (some ⟨R,0,none⟩)] #[]:Value) else if 2+n=47 then (.func (.func 127) #[.pointer (some ⟨R,0,none⟩)] #[]:Value) else if 50<=2+n/\2+n<2+58 then (.func (.func 127) #[.pointer (some ⟨R,0,none⟩)] #[]:Value) else newF s (2+n))=_
  rw[hz]
  exact fin_eq n _ _ _ _ _ _ _
theorem xgU {B R:Nat} {w W:World} {s:ByteArray} (h:Below B w W/\Sc W R s 0/\Meth W R):Below B w W.drew.drew/\Sc W.drew.drew R s 0/\Meth W.drew.drew R:=
 ⟨h.1.drew.drew,⟨h.2.1.c0,h.2.1.c1,h.2.1.f1⟩,fun c=>h.2.2 c⟩
theorem qkF (s:ByteArray) (w:World) :
  Calls Tryz.prog 102 #[.string s] w fun e w'=>e=.returned (.pointer (some ⟨w.heap.size,0,none⟩))/\Below w.heap.size w w' /\ Sc w' w.heap.size s 0/\Meth w' w.heap.size:=by
 have aE:∀ (fn:Fn) (first cap:Array Value) (w:World),(Instr.makeFunc fn first cap).run Tryz.prog w=.ok (.func fn first cap) w:=fun _ _ _ _=>rfl
 have aF:∀ (a:Addr) (md:Mode) (fn:Fn) (first cap:Array Value) (w:World),(store a (.func fn first cap) md).run Tryz.prog w=stored Tryz.prog w a (.func fn first cap) md:=fun a md _ _ _ w=>run_store _ w a _ md rfl
 have aB:Hid (World.rowIs _ w.heap.size 165 258 (newF s)):=xjF s w
 have aC:Hid (Below w.heap.size w (w.alloc (.cells ((Tryz.zeroCells165.setIfInBounds 0 (.string s)).setIfInBounds 1 (.int .i64 0)) 165))):=(Below.refl _ _).alloc (Nat.le_refl _) _
 go_enter Tryz.func102,Tryz.ntmps102
 go_upto_region 4 with fail
 generalize (w.alloc (.cells ((Tryz.zeroCells165.setIfInBounds 0 (.string s)).setIfInBounds 1 (.int .i64 0)) 165))=W at *
 go_loopw [7] (fun d wr=>∃ k:Nat,48<=k/\k<=58/\d=.int .i32 (k:Int)/\Below w.heap.size w wr/\wr.rowIs w.heap.size 165 258 (digF s w.heap.size k)) (fun d _=>58 - (intOf d).toNat)
 case atStart=>exact⟨48,by omega,by omega,rfl,aC.out,aB.out.congr (fun j _=>by unfold digF;rw[if_neg (by omega)])⟩
 case round=>
  obtain⟨k,aG,aH,rfl,hb,hr⟩:=hrel
  have HR:Hid (wr.rowIs w.heap.size 165 258 (digF s w.heap.size k)):=hr
  have HB:Hid (Below w.heap.size w wr):=hb
  clear aB aC
  by_cases hlt:k<=57
  ·have aD:(k:Int)<=57:=by omega
   have hw:IntKind.i32.wrap ((k:Int)+1)=(k:Int)+1:=by rw[IntKind.wrap_i32];omega
   have hc:=hr.cell (i:=2+k) (by omega)
   have hf:=hr.frozen (2+k)
   clear hr hb
   go_wp2_with fail
   go_roundw
   case rel=>
    refine⟨k+1,by omega,by omega,by go_num,HB.out.setCell (Nat.le_refl _) _,(HR.out.set (2+k) _).congr (fun j _=>?_)⟩
    unfold digF
    by_cases hj:j=2+k
    ·rw[if_pos hj,if_pos (by omega)]
    ·rw[if_neg hj]
     by_cases hj2:50<=j/\j<2+k
     ·rw[if_pos hj2,if_pos (by omega)]
     ·rw[if_neg hj2,if_neg (by omega)]
   case measure=>simp[intOf];omega
  ·have hk:k=58:=by omega
   subst hk
   have aD:¬ (58:Int)<=57:=by omega
   have hc:∀ o,o<258->∃ v,wr.cell? ⟨w.heap.size,o,none⟩=some v:=fun o ho=>⟨_,hr.cell ho⟩
   have hf:=hr.frozen
   obtain⟨v1,a1⟩:=hc 47 (by omega)
   obtain⟨v2,a2⟩:=hc 36 (by omega)
   obtain⟨v3,a3⟩:=hc 123 (by omega)
   obtain⟨v4,a4⟩:=hc 112 (by omega)
   obtain⟨v5,a5⟩:=hc 93 (by omega)
   obtain⟨v6,a6⟩:=hc 125 (by omega)
   obtain⟨v7,a7⟩:=hc 128 (by omega)
   obtain⟨v8,a8⟩:=hc 65 (by omega)
   have b1:=hf 47
   have b2:=hf 36
   have b3:=hf 123
   have b4:=hf 112
   have b5:=hf 93
   have b6:=hf 125
   have b7:=hf 128
   have b8:=hf 65
   have aA:Hid (Below w.heap.size w ((((((((wr.setCell ⟨w.heap.size,47,none⟩ (.func (.func 127) #[.pointer (some ⟨w.heap.size,0,none⟩)] #[])).setCell ⟨w.heap.size,36,none⟩ (.func (.func 130) #[.pointer (some ⟨w.heap.size,0,none⟩)] #[])).setCell ⟨w.heap.size,123,none⟩ (.func (.func 128) #[.pointer (some ⟨w.heap.size,0,none⟩)] #[])).setCell ⟨w.heap.size,112,none⟩ (.func (.func 128) #[.pointer (some ⟨w.heap.size,0,none⟩)] #[])).setCell ⟨w.heap.size,93,none⟩ (.func (.func 131) #[.pointer (some ⟨w.heap.size,0,none⟩)] #[])).setCell ⟨w.heap.size,125,none⟩ (.func (.func 132) #[.pointer (some ⟨w.heap.size,0,none⟩)] #[])).setCell ⟨w.heap.size,128,none⟩ (.func (.func 129) #[.pointer (some ⟨w.heap.size,0,none⟩)] #[])).setCell ⟨w.heap.size,65,none⟩ (.func (.func 129) #[.pointer (some ⟨w.heap.size,0,none⟩)] #[]))/\Sc ((((((((wr.setCell ⟨w.heap.size,47,none⟩ (.func (.func 127) #[.pointer (some ⟨w.heap.size,0,none⟩)] #[])).setCell ⟨w.heap.size,36,none⟩ (.func (.func 130) #[.pointer (some ⟨w.heap.size,0,none⟩)] #[])).setCell ⟨w.heap.size,123,none⟩ (.func (.func 128) #[.pointer (some ⟨w.heap.size,0,none⟩)] #[])).setCell ⟨w.heap.size,112,none⟩ (.func (.func 128) #[.pointer (some ⟨w.heap.size,0,none⟩)] #[])).setCell ⟨w.heap.size,93,none⟩ (.func (.func 131) #[.pointer (some ⟨w.heap.size,0,none⟩)] #[])).setCell ⟨w.heap.size,125,none⟩ (.func (.func 132) #[.pointer (some ⟨w.heap.size,0,none⟩)] #[])).setCell ⟨w.heap.size,128,none⟩ (.func (.func 129) #[.pointer (some ⟨w.heap.size,0,none⟩)] #[])).setCell ⟨w.heap.size,65,none⟩ (.func (.func 129) #[.pointer (some ⟨w.heap.size,0,none⟩)] #[])) w.heap.size s 0/\Meth ((((((((wr.setCell ⟨w.heap.size,47,none⟩ (.func (.func 127) #[.pointer (some ⟨w.heap.size,0,none⟩)] #[])).setCell ⟨w.heap.size,36,none⟩ (.func (.func 130) #[.pointer (some ⟨w.heap.size,0,none⟩)] #[])).setCell ⟨w.heap.size,123,none⟩ (.func (.func 128) #[.pointer (some ⟨w.heap.size,0,none⟩)] #[])).setCell ⟨w.heap.size,112,none⟩ (.func (.func 128) #[.pointer (some ⟨w.heap.size,0,none⟩)] #[])).setCell ⟨w.heap.size,93,none⟩ (.func (.func 131) #[.pointer (some ⟨w.heap.size,0,none⟩)] #[])).setCell ⟨w.heap.size,125,none⟩ (.func (.func 132) #[.pointer (some ⟨w.heap.size,0,none⟩)] #[])).setCell ⟨w.heap.size,128,none⟩ (.func (.func 129) #[.pointer (some ⟨w.heap.size,0,none⟩)] #[])).setCell ⟨w.heap.size,65,none⟩ (.func (.func 129) #[.pointer (some ⟨w.heap.size,0,none⟩)] #[])) w.heap.size):=by
    have h0:=fin_ok (s:=s) (w:=w) (wr:=wr) (R:=w.heap.size) rfl HB.out HR.out
    unfold finW at h0
    exact h0
   clear hc hf hr hb HB HR
   go_wp2_with fail
   go_region
   all_goals go_wp2_with fail
   all_goals go_region
   all_goals go_wp2_with fail
   all_goals
    go_ret
    exact⟨rfl,xgU aA.out⟩
end Go.Proofs.YtelogmjfekhmpaaGreatDoor
