import Derived.Test.YtelogmjfekhmpaaGreatDoorKWalk
import Derived.Test.YtelogmjfekhmpaaGreatDoorRow1
import Derived.Maps.Own
namespace Go.Proofs.YtelogmjfekhmpaaGreatDoor
set_option maxRecDepth 100000
set_option maxHeartbeats 16000000
open Go.RowKit Go.WideMaps Go.Maps
def qjE (l:List ByteArray):Nat->DataW Unit
 | 0=>.map []
 | k+1=>(qjE l k).put (.string (l.getD k ByteArray.empty).data.toList) (.lit (.int .i64 k))
def PlacesIn (S:Nat->Prop) (w:World) (l:List ByteArray) (v:Value):Prop:=
 ∃ mb,v=.map (some mb)/\S mb/\w.ownsMap Tryz.prog 9 (plainElem Tryz.prog 3) mb l.length (qjE l l.length)
theorem PlacesIn.keep {S S':Nat->Prop} {w w':World} {l:List ByteArray} {v:Value} (h:PlacesIn S w l v) (hb:Same S w w') (hS:∀ b,S b->S' b):PlacesIn S' w' l v:=by
 obtain⟨mb,rfl,hm,es,clock,h1,h2⟩:=h
 exact⟨mb,rfl,hS mb hm,es,clock,by rw[hb mb hm];exact h1,h2⟩
def InnerK (S:Nat->Prop) (w:World):(n:Nat)->K n->Value->Prop
 | 0,_,_=>False
 | n + 1, t, v => ∃ b nv pv kv, v = .pointer (some ⟨b, 0, none⟩) /\ S b /\ w.heap[b]? = some (.cells #[.int .i64 (Kd.sort t), nv, pv, kv] 185 (0, 0)) /\ StrsIn S w (Kd.names t) nv /\
   (Kd.sort t=5->PlacesIn S w (Kd.names t) pv)/\Row1 S w (InnerK S w n) (Kd.kids t) kv
theorem InnerK.keep {S S':Nat->Prop} {w w':World} (hb:Same S w w') (hS:∀ b,S b->S' b):∀ {n:Nat} {t:K n} {v:Value},InnerK S w n t v->InnerK S' w' n t v:=by
 intro n
 induction n with
 | zero=>intro t v h;exact h.elim
 | succ n ih=>
  intro t v h
  obtain⟨b,nv,pv,kv,hv,hs,aA,hn,hp,hk⟩:=h
  exact⟨b,nv,pv,kv,hv,hS b hs,by rw[hb b hs];exact aA,hn.keep hb hS,fun h5=>(hp h5).keep hb hS,hk.keep hb hS fun _ _ _ hx=>ih hx⟩
theorem InnerK.ptr {S:Nat->Prop} {w:World} {n:Nat} {t:K n} {v:Value} (h:InnerK S w n t v):∃ b,v=.pointer (some ⟨b,0,none⟩)/\S b:=by
 cases n with
 | zero=>exact h.elim
 | succ n=>obtain⟨b,nv,pv,kv,hv,hs,-⟩:=h;exact⟨b,hv,hs⟩
theorem Tryz.skeyed:Keyed Tryz.prog 9:=string_keyed Tryz.underlying9
theorem qsG (S:Nat->Prop) (l:List ByteArray) (v:Value) (w:World) (hl:StrsIn S w l v) (hB:∀ b,S b->b<w.heap.size) :
  Calls Tryz.prog 172 #[v] w fun e w'=>∃ v',e=.returned v' /\ PlacesIn (fun b=>w.heap.size<=b/\b<w'.heap.size) w' l v' /\ Below w.heap.size w w':=by
 obtain⟨ao,cap,rfl,aH,hs,hc⟩:=hl
 have aM:∀ (m:Int) (w:World),(Instr.makeMap 182 (some (.int .i64 m))).run Tryz.prog w=.ok (.map (some w.heap.size)) (w.alloc (.map #[] 0)):=by
  intro m w
  simp[Instr.makeMap,go_sem]
 unfold maxLen at aH
 go_enter Tryz.func172,Tryz.ntmps172
 go_wp2_with fail
 go_loopw [11] (fun i wr=>∃ k:Nat,k<=l.length/\i=.int .i64 k/\wr.ownsMap Tryz.prog 9 (plainElem Tryz.prog 3) w.heap.size k (qjE l k)/\Below w.heap.size w wr) (fun i _=>l.length - (intOf i).toNat)
 case atStart=>exact⟨0,Nat.zero_le _,rfl,World.ownsMap_made _ _ _ _,(Below.refl _ _).alloc (Nat.le_refl _) _⟩
 case round=>
  obtain⟨k,hk,rfl,aA,aC⟩:=hrel
  by_cases aF:k<l.length
  ·obtain⟨b,off,rfl,aL,aD⟩:=hc (by intro h;rw[h]at aF;simp at aF)
   have f0:=(aC.cell (p:=⟨b,off+k,none⟩) (hB b aL)).trans (aD k aF)
   have aI:=hs l[k] (List.getElem_mem aF)
   have HG:Hid (l.getD k ByteArray.empty=l[k]):=by show _=_;simp[List.getD,aF]
   have aG:keyOf Tryz.prog 9 (.string l[k])=some (.string l[k].data.toList):=keyOf_string_mk Tryz.underlying9 aI
   have aK:(Lit.int .i64 (k:Int)).wf=true:=by
    have e:wrap64 (k:Int)=(k:Int):=by unfold wrap64;omega
    have h:=wrap64_wf (k:Int)
    rwa [e]at h
   clear hc hs aD aI
   generalize l[k]=s at *
   go_wp2_with (first
    | (at_mapUpdate;refine wpList_mapUpdate_own _ rfl _ _ _ 182 rfl 9 3 Tryz.skeyed Tryz.underlying182 _ w.heap.size k _ rfl aA (by unfold maxLen;omega) _ _ _ rfl rfl aG _ [] (plainElem_int Tryz.underlying3 aK) ?_)
    | go_in)
   intro w1 aE aB
   have R1:Hid (w1.ownsMap Tryz.prog 9 (plainElem Tryz.prog 3) w.heap.size (k+1) (qjE l (k+1))):=by
    show World.ownsMap _ _ _ _ _ _ _
    rw[qjE,HG.out];exact aE
   have R2:=aC.grown aB aC.size (fun j hj=>by cases hj;exact Nat.le_refl _)
   clear aE aB aA
   go_wp2_with fail
   go_roundw
   case rel=>exact⟨k+1,by omega,by go_num,R1.out,R2⟩
   case measure=>simp[intOf];omega
  ·have aJ:k=l.length:=by omega
   have HF:Hid (PlacesIn (fun b=>w.heap.size<=b/\b<wr.heap.size) wr l (.map (some w.heap.size))):=by
    rw[aJ]at aA
    exact⟨_,rfl,⟨Nat.le_refl _,aA.lt⟩,aA⟩
   clear aJ hc hs aA
   go_wp2_with fail
   go_ret
   exact⟨_,rfl,HF.out,aC⟩
end Go.Proofs.YtelogmjfekhmpaaGreatDoor
