/- Lemmas: ImplIsName. -/
import Derived.Shelf.LaysM
import Derived.Shelf.Strconv.Clone
import Derived.Test.YtfnblkcmcfofoaaGreatDoorProg
import Derived.Test.YtfnblkcmcfofoaaGreatDoorLawFoci_9
import Derived.Test.YtfnblkcmcfofoaaGreatDoorLawFoci_4
import Derived.Laws.RangeAny

namespace Go.Proofs
open Go.Shelf
def Tryz.laysClone_ren:Go.Shelf.Ren:=⟨fun | 316=>169 | n=>n,fun | 9=>9 | 3=>3 | 4=>4 | 37=>22 | 0=>0 | 127=>219 | 5=>5 | n=>n,fun | n=>n⟩
theorem Tryz.laysClone:Go.Proofs.LaysM.n316 Tryz.prog Tryz.laysClone_ren:={
 mixed:=by kernel_rfl
 f316:=Tryz.func169.trans (congrArg some (by kernel_rfl))
 t0:=Tryz.underlying0
 a0:=Tryz.isAgg0
 z0:=Tryz.sizeOf0
 v0:=Tryz.zeroValue0
 t3:=Tryz.underlying3
 a3:=Tryz.isAgg3
 z3:=Tryz.sizeOf3
 v3:=Tryz.zeroValue3
 t4:=Tryz.underlying4
 a4:=Tryz.isAgg4
 z4:=Tryz.sizeOf4
 v4:=Tryz.zeroValue4
 t9:=Tryz.underlying9
 a9:=Tryz.isAgg9
 z9:=Tryz.sizeOf9
 v9:=Tryz.zeroValue9
 t37:=Tryz.underlying22
 a37:=Tryz.isAgg22
 z37:=Tryz.sizeOf22
 v37:=Tryz.zeroValue22
 t127:=Tryz.underlying219
 a127:=Tryz.isAgg219
 z127:=Tryz.sizeOf219
 v127:=Tryz.zeroValue219
 t5:=Tryz.underlying5
 a5:=Tryz.isAgg5
 z5:=Tryz.sizeOf5
 v5:=Tryz.zeroValue5
 i0:=by kernel_rfl
 i3:=by kernel_rfl
 i4:=by kernel_rfl
 i5:=by kernel_rfl
 i9:=by kernel_rfl
 i37:=by kernel_rfl
 i127:=by kernel_rfl }
end Go.Proofs
namespace Go.Proofs.YtfnblkcmcfofoaaGreatDoor
open Go.RowKit
set_option maxHeartbeats 1000000 in
theorem slicesIndex_any (A:Option Addr) (c B:Nat) (ss:List ByteArray) (s:ByteArray) (w:World) (hA:StrsAt w B A ss) (hn:ss.length≤maxLen):
  Calls Tryz.prog 163 #[.slice A ss.length c,.string s] w fun e w'=>e=.returned (.int .i64 (idxOf ss s))∧w=w':=by
 unfold maxLen at hn
 go_enter Tryz.func163,Tryz.ntmps163
 go_wp2
 go_loop [8] (fun i=>∃ k:Nat,k≤ss.length∧i=.int .i64 k∧∀ j,(hj:j<ss.length)→j<k→ss[j].data.toList≠s.data.toList) (fun i=>ss.length - (intOf i).toNat)
 case atStart=>exact ⟨0,Nat.zero_le _,rfl,fun j _ h=>absurd h (by omega)⟩
 case round=>
  obtain ⟨k,hk,rfl,hall⟩:=hrel
  have HA:=Lib.hid hall
  clear hall
  by_cases hlt:k<ss.length
  ·have hltI:(k:Int)<(ss.length:Int):=by omega
   obtain ⟨b,off,rfl,_,hcell⟩:=hA k hlt
   by_cases he:ss[k].data.toList=s.data.toList
   ·have hd:=Lib.hid (idxOf_at ss s k hlt he HA.out)
    have hq:(s.toList == ss[k].toList)=true:=by rw [beq_iff_eq,ByteArray.toList_eq,ByteArray.toList_eq];exact he.symm
    clear he
    go_wp2
    go_ret
    exact ⟨by rw [hd.out];rfl,rfl⟩
   ·have hq:(s.toList == ss[k].toList)=false:=by rw [beq_eq_false_iff_ne,ByteArray.toList_eq,ByteArray.toList_eq];exact fun e=>he e.symm
    have HE:=Lib.hid he
    clear he
    go_wp2
    go_round
    case rel=>
     refine ⟨k+1,by omega,by go_num,fun j hj h=>?_⟩
     by_cases e:j=k
     ·subst e
      exact HE.out
     ·exact HA.out j hj (by omega)
    case measure=>simp [intOf];omega
  ·have hltI:¬ (k:Int)<(ss.length:Int):=by omega
   have hd:=Lib.hid (idxOf_none ss s (fun j hj=>HA.out j hj (by omega)))
   go_wp2
   go_ret
   exact ⟨by rw [hd.out];rfl,rfl⟩
theorem implIndexOf_any (A:Option Addr) (c B:Nat) (ss:List ByteArray) (s:ByteArray) (w:World) (hA:StrsAt w B A ss) (hn:ss.length≤maxLen):
  Calls Tryz.prog 121 #[.slice A ss.length c,.string s] w fun e w'=>e=.returned (.int .i64 (idxOf ss s))∧w=w':=by
 have hc:=Lib.hid (slicesIndex_any A c B ss s w hA hn)
 go_enter Tryz.func121,Tryz.ntmps121
 go_wp2_with fail
 refine hc.out.mono ?_
 rintro e w1 ⟨rfl,rfl⟩
 go_wp2
 go_ret
 exact ⟨rfl,rfl⟩
set_option maxHeartbeats 1000000 in
theorem implAreAscending_any (A:Option Addr) (c B:Nat) (ss:List ByteArray) (w:World) (hA:StrsAt w B A ss) (hn:ss.length<maxLen):
  Calls Tryz.prog 207 #[.slice A ss.length c] w (BoolDrew (ascB ss) w):=by
 unfold maxLen at hn
 go_enter Tryz.func207,Tryz.ntmps207
 go_wp2
 go_loopw [3] (fun i wr=>∃ k:Nat,k≤ss.length+1∧1≤k∧i=.int .i64 k∧(∀ j,(hj:j<ss.length)→1≤j→j<k→lessB (ss[j - 1]'(by omega)) ss[j]=true)∧∃ n,wr=w.drewN n) (fun i _=>ss.length - (intOf i).toNat)
 case atStart=>exact ⟨1,by omega,by omega,rfl,fun j _ h1 h2=>absurd h2 (by omega),0,rfl⟩
 case round=>
  obtain ⟨k,hk,hk1,rfl,hall,n,rfl⟩:=hrel
  have HA:=Lib.hid hall
  clear hall
  by_cases hlt:k<ss.length
  ·have hltI:(k:Int)<(ss.length:Int):=by omega
   obtain ⟨b,off,rfl,_,hcell⟩:=hA k hlt
   obtain ⟨b',off',e',_,hcell'⟩:=hA (k - 1) (by omega)
   cases e'
   cases hles:lessB (ss[k - 1]'(by omega)) ss[k]
   ·have hd:=Lib.hid (ascB_no ss k hk1 hlt hles)
    have hq:(!Op.bytesLess (ss[k - 1]'(by omega)).toList ss[k].toList)=true:=by
     rw [ByteArray.toList_eq,ByteArray.toList_eq,show Op.bytesLess _ _=false from hles]
     rfl
    clear hles
    go_wp2
    go_quiet (fail)
    go_wp2
    go_ret
    exact ⟨by rw [hd.out];rfl,_,World.drewN_drewN _ _ _⟩
   ·have hq:(!Op.bytesLess (ss[k - 1]'(by omega)).toList ss[k].toList)=false:=by
     rw [ByteArray.toList_eq,ByteArray.toList_eq,show Op.bytesLess _ _=true from hles]
     rfl
    have HE:=Lib.hid hles
    clear hles
    go_wp2
    go_quiet (fail)
    go_wp2
    go_roundw
    case rel=>
     refine ⟨k+1,by omega,by omega,by go_num,fun j hj h1 h2=>?_,_,rfl⟩
     by_cases e:j=k
     ·subst e
      exact HE.out
     ·exact HA.out j hj h1 (by omega)
    case measure=>simp [intOf];omega
  ·have hltI:¬ (k:Int)<(ss.length:Int):=by omega
   have hd:=Lib.hid (ascB_yes ss (fun j hj h1=>HA.out j hj (by omega) (by omega)))
   go_wp2
   go_ret
   exact ⟨by rw [hd.out];rfl,n,rfl⟩
theorem clone_any (s:ByteArray) (w:World) (hs:s.size≤1048576):
  Calls Tryz.prog 127 #[.string s] w fun e w'=>e=.returned (.string s)∧Below w.heap.size w w':=by
 have hc:=Lib.hid (Any.stringslite_Clone Tryz.laysClone s w (by omega))
 go_enter Tryz.func127,Tryz.ntmps127
 go_wp2_with fail
 refine hc.out.mono ?_
 rintro e w1 ⟨rfl,hb1⟩
 go_wp2
 go_ret
 exact ⟨rfl,hb1⟩
end Go.Proofs.YtfnblkcmcfofoaaGreatDoor
namespace Go.Proofs.YtfnblkcmcfofoaaGreatDoor
open Go.RowKit
theorem letter_yes (r:Int) (w:World) (h1:97≤r) (h2:r≤122):
  Calls Tryz.prog 213 #[.int .i32 r] w fun e w'=>e=.returned (.bool true)∧w=w':=by
 go_enter Tryz.func213,Tryz.ntmps213
 go_wp2
 go_ret
 exact ⟨rfl,rfl⟩
theorem letter_no (r:Int) (w:World) (h:r<97∨122<r):
  Calls Tryz.prog 213 #[.int .i32 r] w fun e w'=>e=.returned (.bool false)∧w=w':=by
 by_cases h1:97≤r
 ·have h2:¬ r≤122:=by omega
  clear h
  go_enter Tryz.func213,Tryz.ntmps213
  go_wp2
  go_ret
  exact ⟨rfl,rfl⟩
 ·clear h
  go_enter Tryz.func213,Tryz.ntmps213
  go_wp2
  go_ret
  exact ⟨rfl,rfl⟩
theorem digit_yes (r:Int) (w:World) (h1:48≤r) (h2:r≤57):
  Calls Tryz.prog 214 #[.int .i32 r] w fun e w'=>e=.returned (.bool true)∧w=w':=by
 go_enter Tryz.func214,Tryz.ntmps214
 go_wp2
 go_ret
 exact ⟨rfl,rfl⟩
theorem digit_no (r:Int) (w:World) (h:r<48∨57<r):
  Calls Tryz.prog 214 #[.int .i32 r] w fun e w'=>e=.returned (.bool false)∧w=w':=by
 by_cases h1:48≤r
 ·have h2:¬ r≤57:=by omega
  clear h
  go_enter Tryz.func214,Tryz.ntmps214
  go_wp2
  go_ret
  exact ⟨rfl,rfl⟩
 ·clear h
  go_enter Tryz.func214,Tryz.ntmps214
  go_wp2
  go_ret
  exact ⟨rfl,rfl⟩
theorem decode_cases (s:ByteArray) (k:Nat) (h:k<s.size):∃ r wd:Nat,Utf8.decode s k=(r,wd)∧1≤wd∧(r<128→wd=1∧r=s[k].toNat)∧(128≤r→128≤s[k].toNat)∧r≤2147483647:=by
 have hle:=decode_le s k
 by_cases ha:s[k].toNat<128
 ·have e:=decode_ascii s k h ha
  refine ⟨_,_,e,Nat.le_refl _,fun _=>⟨rfl,rfl⟩,fun h=>by omega,by omega⟩
 ·have h2:=decode_high s k h (by omega)
  rcases hd:Utf8.decode s k with ⟨r,wd⟩
  rw [hd] at h2 hle
  obtain ⟨h3,h4⟩:=h2
  exact ⟨_,_,rfl,h4,fun h=>by simp at h3;omega,fun _=>by omega,hle⟩
theorem nameAt_no (k:Nat) (c:UInt8) (h1:¬ (97≤c.toNat∧c.toNat≤122)) (h2:¬ 0<k∨¬ (48≤c.toNat∧c.toNat≤57)):nameAt k c=false:=by
 unfold nameAt
 rw [Bool.or_eq_false_iff]
 constructor
 ·rw [Bool.and_eq_false_iff]
  simp
  omega
 ·rw [Bool.and_eq_false_iff,Bool.and_eq_false_iff]
  simp
  omega
theorem isNameB_long (s:ByteArray) (h:4<s.size):isNameB s=false:=by
 unfold isNameB
 simp [show ¬ s.size≤4 by omega]
def BoolBelow (b:Bool) (w:World) (e:Ending) (w':World):Prop:=e=.returned (.bool b)∧Below w.heap.size w w'
theorem iter_below (w:World) (s:ByteArray) (k:Nat):Below w.heap.size w (w.iter s k):=(Below.refl _ _).alloc (Nat.le_refl _) _
set_option maxHeartbeats 1000000 in
theorem implIsName_any (s:ByteArray) (w:World) (hs:s.size≤maxLen):
  Calls Tryz.prog 206 #[.string s] w (BoolBelow (isNameB s) w):=by
 unfold maxLen at hs
 go_enter Tryz.func206,Tryz.ntmps206
 go_wp2
 go_loopw [2] (fun r2 w'=>∃ k:Nat,r2=.bool false∧w'=w.iter s k∧k≤s.size∧k≤4∧∀ j,j<k→nameAt j (s.data.getD j 0)=true) (fun _ w'=>s.size - w'.iterPos w.heap.size)
 case atStart=>exact ⟨0,rfl,rfl,Nat.zero_le _,Nat.zero_le _,fun j h=>absurd h (by omega)⟩
 case round=>
  obtain ⟨k,rfl,rfl,hk,hk4,hall⟩:=hrel
  have HA:=Lib.hid hall
  clear hall
  by_cases hp:k<s.size
  ·obtain ⟨r,wd,hd,hwd,hlo,hhi,hr⟩:=decode_cases s k hp
   have hnx:∀ ty,(Instr.next (.pointer (some ⟨w.heap.size,0,none⟩)) true ty).run Tryz.prog (w.iter s k)=.ok (.tuple #[.bool true,.int .i64 k,.int .i32 r]) (w.iter s (k+wd)):=fun ty=>by
    rw [run_next_any w s k ty hp,hd]
   have hget:s.data.getD k 0=s[k]:=by
    rw [Array.getD_eq_getD_getElem?,Array.getElem?_eq_getElem hp];rfl
   have HG:=Lib.hid hget
   have HD:=Lib.hid hd
   clear hget hd
   by_cases h4:4≤k
   ·have i4:(4:Int)≤k:=by omega
    have hno:=Lib.hid (isNameB_long s (by omega))
    go_wp2
    go_ret
    exact ⟨by rw [hno.out];rfl,iter_below _ _ _⟩
   ·have i4:¬ (4:Int)≤k:=by omega
    by_cases hlet:97≤r∧r≤122
    ·have hc:=hlo (by omega)
     have hct:=Lib.hid hc
     have i1:97≤(r:Int):=by omega
     have i2:(r:Int)≤122:=by omega
     have hR:=Lib.hid hlet
     clear hlet hc hlo hhi
     go_wp2_with fail
     refine (letter_yes r _ i1 i2).mono ?_
     rintro e w' ⟨rfl,rfl⟩
     go_wp2
     go_roundw
     case rel=>
      refine ⟨k+wd,rfl,rfl,by have:=hct.out;omega,by have:=hct.out;omega,fun j hj=>?_⟩
      have h1:=hct.out
      by_cases e:j=k
      ·subst e
       rw [HG.out]
       have:=hR.out
       simp [nameAt,show 97≤s[j].toNat by omega,show s[j].toNat≤122 by omega]
      ·exact HA.out j (by omega)
     case measure=>simp;omega
    ·have i1:(r:Int)<97∨122<(r:Int):=by omega
     by_cases hk0:k=0
     ·have hno:=Lib.hid (isNameB_no s k hp (by
       rw [HG.out]
       by_cases h128:r<128
       ·have:=hlo h128
        exact nameAt_no _ _ (by omega) (.inl (by omega))
       ·have:=hhi (by omega)
        exact nameAt_no _ _ (by omega) (.inl (by omega))))
      have i0:((k:Int) == 0)=true:=by rw [beq_iff_eq];omega
      have hR:=Lib.hid hlet
      have hk0':=Lib.hid hk0
      clear hlet hlo hhi hk0
      go_wp2_with fail
      refine (letter_no r _ i1).mono ?_
      rintro e w' ⟨rfl,rfl⟩
      clear i1
      go_wp2
      go_ret
      exact ⟨by rw [hno.out];rfl,iter_below _ _ _⟩
     ·have i0:((k:Int) == 0)=false:=by rw [beq_eq_false_iff_ne];omega
      by_cases hdig:48≤r∧r≤57
      ·have hc:=hlo (by omega)
       have hct:=Lib.hid hc
       have i3:48≤(r:Int):=by omega
       have i5:(r:Int)≤57:=by omega
       have hR:=Lib.hid hdig
       clear hlet hc hlo hhi hdig
       go_wp2_with fail
       refine (letter_no r _ i1).mono ?_
       rintro e w' ⟨rfl,rfl⟩
       clear i1
       go_wp2_with fail
       refine (digit_yes r _ i3 i5).mono ?_
       rintro e w' ⟨rfl,rfl⟩
       go_wp2
       go_roundw
       case rel=>
        refine ⟨k+wd,rfl,rfl,by have:=hct.out;omega,by have:=hct.out;omega,fun j hj=>?_⟩
        have h1:=hct.out
        by_cases e:j=k
        ·subst e
         rw [HG.out]
         have:=hR.out
         simp [nameAt,show 48≤s[j].toNat by omega,show s[j].toNat≤57 by omega,show 0<j by omega]
        ·exact HA.out j (by omega)
       case measure=>simp;omega
      ·have i3:(r:Int)<48∨57<(r:Int):=by omega
       have hno:=Lib.hid (isNameB_no s k hp (by
        rw [HG.out]
        by_cases h128:r<128
        ·have:=hlo h128
         exact nameAt_no _ _ (by omega) (.inr (by omega))
        ·have:=hhi (by omega)
         exact nameAt_no _ _ (by omega) (.inr (by omega))))
       clear hlet hlo hhi hdig
       go_wp2_with fail
       refine (letter_no r _ i1).mono ?_
       rintro e w' ⟨rfl,rfl⟩
       clear i1
       go_wp2_with fail
       refine (digit_no r _ i3).mono ?_
       rintro e w' ⟨rfl,rfl⟩
       clear i3
       go_wp2
       go_ret
       exact ⟨by rw [hno.out];rfl,iter_below _ _ _⟩
  ·have hnx:∀ ty,(Instr.next (.pointer (some ⟨w.heap.size,0,none⟩)) true ty).run Tryz.prog (w.iter s k)=_:=fun ty=>run_next_end w s k ty hp
   have hB:=Lib.hid (isNameB_all s (fun j hj=>HA.out j (by omega)))
   by_cases h0:s.size=0
   ·have he:s.toList.isEmpty=true:=by rw [ByteArray.toList_eq,List.isEmpty_iff,← List.length_eq_zero_iff,Array.length_toList];exact h0
    have H0:=Lib.hid h0
    clear h0
    go_wp2
    go_ret
    exact ⟨by rw [hB.out,H0.out];rfl,iter_below _ _ _⟩
   ·have he:s.toList.isEmpty=false:=by
     rw [ByteArray.toList_eq,Bool.eq_false_iff,Ne,List.isEmpty_iff,← List.length_eq_zero_iff,Array.length_toList];exact h0
    have H0:=Lib.hid h0
    clear h0
    go_wp2
    go_ret
    refine ⟨?_,iter_below _ _ _⟩
    have:=H0.out
    rw [hB.out]
    simp [show 1≤s.size by omega,show s.size≤4 by omega]
end Go.Proofs.YtfnblkcmcfofoaaGreatDoor
