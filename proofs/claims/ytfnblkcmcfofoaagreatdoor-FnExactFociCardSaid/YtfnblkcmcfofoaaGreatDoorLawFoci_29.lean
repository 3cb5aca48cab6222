/- Lemmas: CopyNames. -/
import Derived.Test.YtfnblkcmcfofoaaGreatDoorLawFoci_27
import Derived.Test.YtfnblkcmcfofoaaGreatDoorLawFoci_1

namespace Go.Proofs.YtfnblkcmcfofoaaGreatDoor
set_option maxRecDepth 100000
open Go.RowKit
def CopyStrs (w:World) (ss:List ByteArray) (e:Ending) (w':World):Prop:=∃ v,e=.returned v∧w'.ownsRow w.heap.size 9 1 v ss.length (strVals ss)∧Below w.heap.size w w'
theorem owns_keep {w w':World} {base k size:Nat} {e:TypeId} {v:Value} {xs:List Value} (h:w.ownsRow base e size v k xs) (hk:∀ g,v.ownBlock=some g→w'.heap[g]?=w.heap[g]?):w'.ownsRow base e size v k xs:=by
 refine ⟨h.1,?_⟩
 rcases h.2 with h2 | ⟨g,cap,cur,h1,h2,h3,h4⟩
 ·exact .inl h2
 ·exact .inr ⟨g,cap,cur,h1,h2,(hk g (by rw [h1];rfl)).trans h3,h4⟩
set_option maxHeartbeats 1000000 in
theorem copyNames_any (A:Option Addr) (c:Nat) (ss:List ByteArray) (w:World) (hA:StrsAt w w.heap.size A ss) (hn:ss.length≤1048576) (hs:∀ i,(h:i<ss.length)→ss[i].size≤1048576):
  Calls Tryz.prog 103 #[.slice A ss.length c] w (CopyStrs w ss):=by
 obtain ⟨i0,hi,hz0,hz1,hz2⟩:=info_parts infoString
 have HS:=Lib.hid hs
 clear hs
 go_enter Tryz.func103,Tryz.ntmps103
 go_wp2
 go_loopw [3,8] (fun v i wr=>∃ k:Nat,k≤ss.length∧i=.int .i64 k∧wr.ownsRow w.heap.size 9 1 v k (strVals (ss.take k))∧Below w.heap.size w wr) (fun _ i _=>ss.length - (intOf i).toNat)
 case atStart=>exact ⟨0,Nat.zero_le _,rfl,World.ownsRow_nil w _ _ 1,Below.refl _ _⟩
 case round=>
  obtain ⟨k,hk,rfl,hown,hb⟩:=hrel
  by_cases hlt:k<ss.length
  ·obtain ⟨b,off,rfl,hbl,hcell⟩:=(hA.below hb) k hlt
   have hcl:=Lib.hid (clone_any ss[k] wr (HS.out k hlt))
   have HO:=Lib.hid hown
   have ht1:=Lib.hid (show strVals (ss.take (k+1))=strVals (ss.take k)++[.string ss[k]] by unfold strVals;rw [List.take_succ_eq_append_getElem hlt,List.map_append];rfl)
   clear hown
   go_wp2_with fail
   refine hcl.out.mono ?_
   rintro e w1 ⟨rfl,hb1⟩
   have hb1':=hb.trans (hb1.mono hb.size)
   have hs1:=hb1'.size
   have hown1:=(owns_keep HO.out fun g hg=>hb1.block g (HO.out.lt g hg).2).alloc (.cells #[.string ss[k]] 9)
   have hx:(strVals (ss.take k)).length=k:=by simp [strVals];omega
   clear hcell
   go_wp2_with (at_builtin;refine wpList_append_cells _ rfl (.tmp 12) (.tmp 15) _ rfl w.heap.size 9 i0 (.string ⟨#[]⟩) 1 16 Tryz.underlying24 hi hz0 hz1 hz2 rfl (by decide) _ k _ rfl hown1 (some ⟨w1.heap.size,0,none⟩) 1 1 [.string ss[k]] rfl rfl (.inr ⟨_,rfl,cellNew w1 9 _⟩) (by intro u hu;simp at hu;subst hu;rfl) (by unfold maxLen;omega) (by omega) (by simp;omega) ?_;intro v2 w2 hown2 hg2)
   have hb2:=(hb1'.alloc hs1 (.cells #[.string ss[k]] 9)).grown hg2 (by simp;omega) (fun q hq=>(hown1.lt q hq).1)
   go_wp2
   go_roundw
   case rel=>exact ⟨k+1,by omega,by go_num,by rw [ht1.out];exact hown2,hb2⟩
   case measure=>simp [intOf];omega
  ·have hke:k=ss.length:=by omega
   subst hke
   rw [List.take_length] at hown
   have HO:=Lib.hid hown
   clear hown
   go_wp2
   go_ret
   exact ⟨_,rfl,HO.out,hb⟩
end Go.Proofs.YtfnblkcmcfofoaaGreatDoor
