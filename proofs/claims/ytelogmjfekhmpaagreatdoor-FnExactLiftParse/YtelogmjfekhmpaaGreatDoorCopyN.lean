import Derived.Test.YtelogmjfekhmpaaGreatDoorB3
import Derived.Test.YtelogmjfekhmpaaGreatDoorShelf
import Derived.Lib.Hide
namespace Go.Proofs.YtelogmjfekhmpaaGreatDoor
set_option maxRecDepth 100000
set_option maxHeartbeats 16000000
open Go.RowKit Go.Proofs.Tryz
theorem Tryz.info_strO:(prog.info? 9).map (fun i=>(i.zero,i.size,i.bytes))=some (some (.string ⟨#[]⟩),1,16):=by kernel_rfl
theorem qeL(s:ByteArray)(w:World)(h:s.size<=10000):Calls prog 85 #[.string s] w fun e w'=>e=.returned (.string s)/\Below w.heap.size w w':=by
 have a:Hid (Calls prog 107 _ _ _):=Tryz.stringslite_Clone s w (by omega)
 go_enter func85,ntmps85
 go_wp2_with fail
 refine a.out.mono ?_
 rintro e c ⟨rfl,b⟩
 clear a
 go_wp2_with fail
 go_ret
 exact⟨rfl,b⟩
theorem qiY (S:Nat->Prop) (l:List ByteArray) (v:Value) (w:World) (hl:StrsIn S w l v) (hB:∀ b,S b->b<w.heap.size) (hlen:l.length<=10000) (hs:∀ s,s∈l->s.size<=10000) :
  Calls prog 136 #[v] w fun e w'=>∃v',e=.returned v' /\ w'.ownsRow w.heap.size 9 1 v' l.length (l.map .string)/\Below w.heap.size w w':=by
 obtain⟨T,cap,rfl,-,-,a⟩:=hl
 obtain⟨i0,L,n,o,r⟩:=info_parts Tryz.info_strO
 have B:Hid (_/\_/\_/\_):=⟨L,n,o,r⟩
 have N:=hidF hs
 clear L n o r hs
 go_enter func136,ntmps136
 go_wp2_with fail
 go_loopw [3,8] (fun v i wr=>∃k:Nat,k<=l.length/\i=.int .i64 k/\wr.ownsRow w.heap.size 9 1 v k ((l.take k).map .string)/\Below w.heap.size w wr) (fun _ i _=>l.length-(intOf i).toNat)
 case atStart=>exact⟨0,Nat.zero_le _,rfl,World.ownsRow_nil _ _ _ _,Below.refl _ _⟩
 case round=>
  obtain⟨k,U,rfl,f,c⟩:=hrel
  obtain⟨E,F,rfl⟩:=qhK f
  have C:=c.size
  have x:=hidF f
  clear f
  by_cases hlt:k<l.length
  ·obtain⟨b,G,rfl,H,z⟩:=a (by intro h;rw[h]at hlt;simp at hlt)
   have O:=(c.cell (p:=⟨b,G+k,none⟩) (hB b H)).trans (z k hlt)
   have I:Hid (Calls prog 85 _ _ _):=qeL l[k] wr (N.out _ (List.getElem_mem hlt))
   have P:Hid ((l.take (k+1)).map Value.string=(l.take k).map .string++[.string l[k]]):=by show _=_;rw[List.take_succ_eq_append_getElem hlt,List.map_append];rfl
   clear a z
   generalize l[k]=nm at *
   go_wp2_with fail
   refine I.out.mono ?_
   rintro e w2 ⟨rfl,m⟩
   have J:=m.size
   have t:Hid (w2.ownsRow w.heap.size 9 1 (.slice E k F) k ((l.take k).map .string)):=qbF x.out (fun g' hg'=>m.block g' (r1_lt x.out g' hg').2)
   have y:Hid (Below w.heap.size w w2):=c.trans (m.mono C)
   clear m O I
   go_wp2_with (at_builtin;refine wpList_append_lies _ rfl (.tmp 12) (.tmp 15) 22 rfl w.heap.size 9 i0 _ 1 16 underlying22 B.out.1 B.out.2.1 B.out.2.2.1 B.out.2.2.2 rfl (by decide) (.slice E k F) k ((l.take k).map .string) rfl (t.out.alloc _) ⟨w2.heap.size,0,none⟩ 1 1 [.string nm] rfl rfl (World.news_of_block (heap_alloc_new w2 _)) (by simp[Value.oneCell']) (by decide) (by unfold maxLen;omega) (by omega) (by simp;omega) (w2.heap.size+1) (by simp) ?_;intro g cap w3 j d A M;refine Hid.out ?_)
   refine Lib.hid ?_
   have Q:Hid (w3.ownsRow w.heap.size 9 1 (.slice (some ⟨g,0,none⟩) (k+1) cap) (k+1) ((l.take (k+1)).map .string)):=by
    show w3.ownsRow _ _ _ _ _ _
    rw[P.out];exact j
   have D:Hid (Below w.heap.size w w3):=(y.out.alloc (by omega) (.cells #[.string nm] 9)).grown d (by simp;omega) (fun q hq=>(r1_lt t.out q hq).1)
   clear j d A t x y
   go_wp2_with fail
   go_roundw
   case rel=>exact⟨k+1,by omega,by go_num,Q.out,D.out⟩
   case measure=>simp[intOf];omega
  ·have u:k=l.length:=by omega
   have R:Hid (wr.ownsRow w.heap.size 9 1 (.slice E k F) l.length (l.map .string)):=by
    have K:=x.out
    rw[u,List.take_length]at K
    rw[u];exact K
   clear u a x
   go_wp2_with fail
   go_ret
   exact⟨_,rfl,R.out,c⟩
theorem qsE{α:Type}(f:α->Nat)(l:List α)(x:α):sumL f (l++[x])=sumL f l+f x:=by
 induction l with
 | nil=>simp[sumL]
 | cons a r ih=>simp only[List.cons_append,sumL,ih];omega
end Go.Proofs.YtelogmjfekhmpaaGreatDoor
