/- Lemmas: Sz, SzTy, SzOt, SzVa, ToTy. -/
import Derived.Test.YtfnblkcmcfofoaaGreatDoorProg
import Derived.Test.YtfnblkcmcfofoaaGreatDoorLawFoci_1
import Derived.Lib.AppendStr
import Derived.Laws.BytesArg
import Derived.Laws.IdiomStrings
import Derived.Test.YtfnblkcmcfofoaaGreatDoorLawFoci_2
import Derived.Outline
import Derived.Test.YtfnblkcmcfofoaaGreatDoorLawFoci_3

section
namespace Go.Proofs.YtfnblkcmcfofoaaGreatDoor
open Go.RowKit
theorem infoString:(Tryz.prog.info? 9).map (fun i=>(i.zero,i.size,i.bytes))=some (some (.string ⟨#[]⟩),1,16):=by kernel_rfl
def NewStrs (w:World) (ss:List ByteArray) (e:Ending) (w':World):Prop:=
 ∃ g,e=.returned (.slice (some ⟨g,0,none⟩) ss.length ss.length)∧w.heap.size≤g∧Whole1 w' g 9 (strVals ss).toArray∧Below w.heap.size w w'
set_option maxHeartbeats 400000 in
theorem toStringS_any (A:Option Addr) (c:Nat) (ss:List ByteArray) (w:World) (hA:StrsAt w w.heap.size A ss) (hn:ss.length≤1048576):
  Calls Tryz.prog 79 #[.slice A ss.length c] w (NewStrs w ss):=by
 have hmk:=run_make_strs (P:=Tryz.prog) Tryz.underlying24 infoString ss.length hn
 go_enter Tryz.func79,Tryz.ntmps79
 go_wp2
 go_loopw [4] (fun i wr=>∃ k:Nat,k≤ss.length∧i=.int .i64 k∧Whole1 wr w.heap.size 9 (filled ss k)∧Below w.heap.size w wr) (fun i _=>ss.length - (intOf i).toNat)
 case atStart=>exact ⟨0,Nat.zero_le _,rfl,by rw [filled_zero];exact Whole1.new _ _ _,(Below.refl _ _).alloc (Nat.le_refl _) _⟩
 case round=>
  obtain ⟨k,hk,rfl,hwh,hb⟩:=hrel
  clear hmk
  by_cases hlt:k<ss.length
  ·obtain ⟨b,off,rfl,hbl,hcell⟩:=(hA.below hb) k hlt
   have hc1:wr.cell? ⟨w.heap.size,k,none⟩=(filled ss k)[k]?:=hwh.cell k
   obtain ⟨s0,hs0⟩:=filled_at ss k k hlt
   rw [hs0] at hc1
   have hf1:wr.frozen? ⟨w.heap.size,k,none⟩=false:=hwh.free k
   have hset:=Lib.hid (hwh.set k (.string ss[k]))
   clear hs0 hwh
   go_wp2
   go_roundw
   case rel=>exact ⟨k+1,by omega,by go_num,by rw [← filled_succ ss k hlt];exact hset.out,hb.setCell (Nat.le_refl _) _⟩
   case measure=>simp [intOf];omega
  ·go_wp2
   go_ret
   have hk':k=ss.length:=by omega
   subst hk'
   rw [filled_all] at hwh
   exact ⟨_,rfl,Nat.le_refl _,hwh,hb⟩
end Go.Proofs.YtfnblkcmcfofoaaGreatDoor
namespace Go.Proofs.YtfnblkcmcfofoaaGreatDoor
open Go.RowKit
def TrueDrew (w:World) (e:Ending) (w':World):Prop:=e=.returned (.bool true)∧∃ n,w'=w.drewN n
set_option maxHeartbeats 400000 in
theorem eqStringS_same (A A':Option Addr) (c c' B B':Nat) (ss:List ByteArray) (w:World) (hA:StrsAt w B A ss) (hA':StrsAt w B' A' ss) (hn:ss.length≤maxLen):
  Calls Tryz.prog 83 #[.slice A ss.length c,.slice A' ss.length c'] w (TrueDrew w):=by
 unfold maxLen at hn
 have hneq:((ss.length:Int) != ss.length)=false:=by simp
 go_enter Tryz.func83,Tryz.ntmps83
 go_wp2
 go_loopw [5] (fun i wr=>∃ k:Nat,k≤ss.length∧i=.int .i64 k∧∃ n,wr=w.drewN n) (fun i _=>ss.length - (intOf i).toNat)
 case atStart=>exact ⟨0,Nat.zero_le _,rfl,0,rfl⟩
 case round=>
  obtain ⟨k,hk,rfl,n,rfl⟩:=hrel
  by_cases hlt:k<ss.length
  ·obtain ⟨b,off,rfl,hbl,hcell⟩:=hA k hlt
   obtain ⟨b',off',rfl,hbl',hcell'⟩:=hA' k hlt
   go_wp2
   go_quiet (fail)
   go_wp2
   go_roundw
   case rel=>exact ⟨k+1,by omega,by go_num,_,rfl⟩
   case measure=>simp [intOf];omega
  ·go_wp2
   go_ret
   exact ⟨rfl,n,rfl⟩
end Go.Proofs.YtfnblkcmcfofoaaGreatDoor
namespace Go.Proofs.YtfnblkcmcfofoaaGreatDoor
open Go.RowKit
def cellsOf (l:List UInt8):List Value:=l.map fun b=>Value.int .u8 (b.toNat:Int)
end Go.Proofs.YtfnblkcmcfofoaaGreatDoor
namespace Go.Proofs.YtfnblkcmcfofoaaGreatDoor
open Go.RowKit
def szStrs (left:Int) (ss:List ByteArray):Int:=if left - ss.length - sumSizes ss<0 then -1 else left - ss.length - sumSizes ss
theorem ret_i64 {a b:Int} (h:a=b):Ending.returned (.int .i64 a)=.returned (.int .i64 b):=by rw [h]
set_option maxHeartbeats 400000 in
theorem szStringS_any (A:Option Addr) (c B:Nat) (ss:List ByteArray) (left:Int) (w:World) (hA:StrsAt w B A ss) (hn:ss.length≤maxLen) (hs:∀ i,(h:i<ss.length)→ss[i].size≤maxLen) (h0:0≤left) (h1:left≤1048576):
  Calls Tryz.prog 75 #[.slice A ss.length c,.int .i64 left] w fun e w'=>e=.returned (.int .i64 (szStrs left ss))∧w=w':=by
 unfold maxLen at hn hs
 by_cases hneg:left - ss.length<0
 ·go_enter Tryz.func75,Tryz.ntmps75
  go_wp2
  go_ret
  exact ⟨ret_i64 (by unfold szStrs;rw [if_pos (by omega)]),rfl⟩
 ·go_enter Tryz.func75,Tryz.ntmps75
  go_wp2
  go_loop [1,5] (fun l i=>∃ k:Nat,k≤ss.length∧i=.int .i64 k∧l=.int .i64 (left - ss.length - sumSizes (ss.take k))∧0≤left - ss.length - sumSizes (ss.take k)) (fun _ i=>ss.length - (intOf i).toNat)
  case atStart=>exact ⟨0,Nat.zero_le _,rfl,by simp [sumSizes],by simp [sumSizes];omega⟩
  case round=>
   obtain ⟨k,hk,rfl,rfl,hp⟩:=hrel
   by_cases hlt:k<ss.length
   ·obtain ⟨b,off,rfl,hb,hcell⟩:=hA k hlt
    have hsz:=hs k hlt
    have hstep:=Lib.hid (sumSizes_take_succ ss k hlt)
    have hle:=sumSizes_take_le ss (k+1)
    by_cases hnext:left - ss.length - sumSizes (ss.take k) - ss[k].size<0
    ·go_wp2
     go_ret
     exact ⟨ret_i64 (by have:=hstep.out;unfold szStrs;rw [if_pos (by omega)]),rfl⟩
    ·go_wp2
     go_round
     case rel=>exact ⟨k+1,by omega,by go_num,by rw [hstep.out];congr 1;omega,by rw [hstep.out];omega⟩
     case measure=>simp [intOf];omega
   ·go_wp2
    go_ret
    have hk':k=ss.length:=by omega
    subst hk'
    rw [List.take_length] at hp
    exact ⟨ret_i64 (by unfold szStrs;rw [List.take_length,if_neg (by omega)]),rfl⟩
end Go.Proofs.YtfnblkcmcfofoaaGreatDoor
end
namespace Go.Proofs.YtfnblkcmcfofoaaGreatDoor
section
open Go.RowKit
def leftOf (left:Int) (n:Nat):Int:=if left - n<0 then -1 else left - n
theorem leftOf_cases (left:Int) (n:Nat):leftOf left n=-1∨0≤leftOf left n:=by unfold leftOf;split<;>omega
def IntBelow (x:Int) (w:World) (e:Ending) (w':World):Prop:=e=.returned (.int .i64 x)∧Below w.heap.size w w'
def SzOne (t:Ty):Prop:=∀ (v:Value) (left:Int) (w:World),TyAt w w.heap.size v t→0≤left→left≤1048576→Calls Tryz.prog 32 #[v,.int .i64 left] w (IntBelow (leftOf left (szTy t)) w)
set_option maxHeartbeats 1000000 in
theorem szTypeS_of (A:Option Addr) (c:Nat) (ts:List Ty) (hall:∀ i,(h:i<ts.length)→SzOne ts[i]) (left:Int) (w:World) (hA:TysAt w w.heap.size A ts) (h0:0≤left) (h1:left≤1048576):
  Calls Tryz.prog 76 #[.slice A ts.length c,.int .i64 left] w (IntBelow (leftOf left (szTys ts)) w):=by
 have hm:=hA.1
 have hle:=szTys_len ts
 have HALL:=Lib.hid hall
 clear hall
 unfold maxLen at hm
 by_cases hneg:left - (ts.length:Int)<0
 ·have hr:=Lib.hid (show leftOf left (szTys ts)=-1 by unfold leftOf;rw [if_pos (by omega)])
  go_enter Tryz.func76,Tryz.ntmps76
  go_wp2
  go_ret
  exact ⟨by rw [hr.out];rfl,Below.refl _ _⟩
 ·go_enter Tryz.func76,Tryz.ntmps76
  go_wp2
  go_loopw [1,5] (fun l i wr=>∃ k:Nat,k≤ts.length∧i=.int .i64 k∧l=.int .i64 (left - ts.length - szTys (ts.take k)+k)∧0≤left - ts.length - szTys (ts.take k)+k∧Below w.heap.size w wr) (fun _ i _=>ts.length - (intOf i).toNat)
  case atStart=>exact ⟨0,Nat.zero_le _,rfl,by simp [szTys],by simp [szTys];omega,Below.refl _ _⟩
  case round=>
   obtain ⟨k,hk,rfl,rfl,hpos,hb⟩:=hrel
   by_cases hlt:k<ts.length
   ·obtain ⟨b,off,L,lc,A',ac,rfl,hbl,q0,q1,q2,hn,hz,hl,ha,ht⟩:=(hA.below hb).elem k hlt
    have hsz:=szTys_take ts k hlt
    have hle1:=szTys_le ts (k+1)
    have hle2:=szTys_len (ts.take k)
    have hkl:(ts.take k).length=k:=by rw [List.length_take];omega
    have hlm:left - ts.length - szTys (ts.take k)+k≤1048576:=by omega
    have HT:=Lib.hid (HALL.out k hlt _ _ wr (ht.more hb.size) hpos hlm)
    have hd:Hid (leftOf (left - ts.length - szTys (ts.take k)+k) (szTy ts[k])=if left - ts.length - szTys (ts.take (k+1))+(k+1)<0 then -1 else left - ts.length - szTys (ts.take (k+1))+(k+1)):=by
     apply Lib.hid
     unfold leftOf
     rw [hsz]
     congr 1
     ·apply propext
      omega
     ·omega
    have HS:=Lib.hid hsz
    have HK:=Lib.hid hkl
    clear hsz hkl ht ha
    go_wp2_with fail
    refine HT.out.mono ?_
    rintro e w1 ⟨rfl,hb1⟩
    rw [hd.out]
    have hb':=hb.trans (hb1.mono hb.size)
    by_cases hn1:left - ts.length - szTys (ts.take (k+1))+(k+1)<0
    ·rw [if_pos hn1]
     have hr:=Lib.hid (show leftOf left (szTys ts)=-1 by unfold leftOf;rw [if_pos (by omega)])
     go_wp2
     go_ret
     exact ⟨by rw [hr.out];rfl,hb'⟩
    ·rw [if_neg hn1]
     go_wp2
     go_roundw
     case rel=>exact ⟨k+1,by omega,by go_num,by go_num,by omega,hb'⟩
     case measure=>simp [intOf];omega
   ·have hke:k=ts.length:=by omega
    subst hke
    rw [List.take_length] at hpos ⊢
    have hr:=Lib.hid (show leftOf left (szTys ts)=left - ts.length - szTys ts+ts.length by unfold leftOf;rw [if_neg (by omega)];omega)
    go_wp2
    go_ret
    exact ⟨by rw [hr.out];rfl,hb⟩
theorem szTy_any (t:Ty):SzOne t:=by
 induction t using Ty.ind with
 | h k ls ts ih=>
  intro v left w hv h0 h1
  obtain ⟨L,lc,A,ac,rfl,hn,hz,hl,ha⟩:=hv.open
  simp only [Ty.kind,Ty.labels,Ty.args] at *
  have hm:=ha.1
  have hb0:Below w.heap.size w (w.alloc (.cells #[.int .i64 k,.slice L ls.length lc,.slice A ts.length ac] 57)):=(Below.refl _ _).alloc (Nat.le_refl _) _
  have HS:=Lib.hid (szStringS_any L lc _ ls left _ (hl.below hb0) hn hz h0 h1)
  have HA:=Lib.hid ((ha.below hb0).more hb0.size)
  have HI:=Lib.hid (fun left W h a b=>szTypeS_of A ac ts (fun i hi=>ih i hi) left W h a b)
  have he:=szTy_eq (.mk k ls ts)
  simp only [Ty.labels,Ty.args] at he
  have h1l:=Lib.hid (show szStrs left ls=leftOf left (ls.length+sumSizes ls) by unfold szStrs leftOf;congr 1<;>first | (apply propext;omega) | omega)
  clear ih hz
  unfold maxLen at hn hm
  go_enter Tryz.func32,Tryz.ntmps32
  go_wp2_with fail
  refine HS.out.mono ?_
  rintro e w1 ⟨rfl,rfl⟩
  rw [h1l.out]
  by_cases hneg:left - (ls.length+sumSizes ls:Nat)<0
  ·have hr:=Lib.hid (show leftOf left (szTy (.mk k ls ts))=-1 by unfold leftOf;rw [if_pos (by omega)])
   rw [show leftOf left (ls.length+sumSizes ls)=-1 by unfold leftOf;rw [if_pos hneg]]
   go_wp2
   go_ret
   exact ⟨by rw [hr.out];rfl,hb0⟩
  ·rw [show leftOf left (ls.length+sumSizes ls)=left - (ls.length+sumSizes ls:Nat) by unfold leftOf;rw [if_neg hneg]]
   have h5:0≤left - (ls.length+sumSizes ls:Nat):=by omega
   have h6:left - (ls.length+sumSizes ls:Nat)≤1048576:=by omega
   have hr:=Lib.hid (show leftOf (left - (ls.length+sumSizes ls:Nat)) (szTys ts)=leftOf left (szTy (.mk k ls ts)) by unfold leftOf;rw [he];congr 1<;>first | (apply propext;omega) | omega)
   clear he
   generalize hq:left - (ls.length+sumSizes ls:Nat)=l2 at *
   clear hq
   go_wp2_with fail
   refine (HI.out l2 _ HA.out h5 h6).mono ?_
   rintro e w1 ⟨rfl,hb1⟩
   rw [hr.out]
   have hm1:=leftOf_cases left (szTy (.mk k ls ts))
   generalize leftOf left (szTy (.mk k ls ts))=l3 at *
   have hb':=hb0.trans (hb1.mono hb0.size)
   by_cases hn3:l3<0
   ·obtain rfl:l3=-1:=by omega
    clear hm1
    go_wp2
    go_ret
    exact ⟨rfl,hb'⟩
   ·go_wp2
    go_ret
    exact ⟨rfl,hb'⟩
end
section
open Go.RowKit
def SzOOne (t:Ot):Prop:=∀ (v:Value) (left:Int) (w:World),OtAt w w.heap.size v t→0≤left→left≤1048576→Calls Tryz.prog 33 #[v,.int .i64 left] w (IntBelow (leftOf left (szOt t)) w)
set_option maxHeartbeats 1000000 in
theorem szOpticS_of (A:Option Addr) (c:Nat) (ts:List Ot) (hall:∀ i,(h:i<ts.length)→SzOOne ts[i]) (left:Int) (w:World) (hA:OtsAt w w.heap.size A ts) (h0:0≤left) (h1:left≤1048576):
  Calls Tryz.prog 77 #[.slice A ts.length c,.int .i64 left] w (IntBelow (leftOf left (szOts ts)) w):=by
 have hm:=hA.1
 have hle:=szOts_len ts
 have HALL:=Lib.hid hall
 clear hall
 unfold maxLen at hm
 by_cases hneg:left - (ts.length:Int)<0
 ·have hr:=Lib.hid (show leftOf left (szOts ts)=-1 by unfold leftOf;rw [if_pos (by omega)])
  go_enter Tryz.func77,Tryz.ntmps77
  go_wp2
  go_ret
  exact ⟨by rw [hr.out];rfl,Below.refl _ _⟩
 ·go_enter Tryz.func77,Tryz.ntmps77
  go_wp2
  go_loopw [1,5] (fun l i wr=>∃ k:Nat,k≤ts.length∧i=.int .i64 k∧l=.int .i64 (left - ts.length - szOts (ts.take k)+k)∧0≤left - ts.length - szOts (ts.take k)+k∧Below w.heap.size w wr) (fun _ i _=>ts.length - (intOf i).toNat)
  case atStart=>exact ⟨0,Nat.zero_le _,rfl,by simp [szOts],by simp [szOts];omega,Below.refl _ _⟩
  case round=>
   obtain ⟨k,hk,rfl,rfl,hpos,hb⟩:=hrel
   by_cases hlt:k<ts.length
   ·obtain ⟨b,off,A',ac,rfl,hbl,q0,q1,q2,q3,ht⟩:=(hA.below hb).elem k hlt
    have hsz:=szOts_take ts k hlt
    have hle1:=szOts_le ts (k+1)
    have hle2:=szOts_len (ts.take k)
    have hkl:(ts.take k).length=k:=by rw [List.length_take];omega
    have hlm:left - ts.length - szOts (ts.take k)+k≤1048576:=by omega
    have HT:=Lib.hid (HALL.out k hlt _ _ wr (ht.more hb.size) hpos hlm)
    have hd:Hid (leftOf (left - ts.length - szOts (ts.take k)+k) (szOt ts[k])=if left - ts.length - szOts (ts.take (k+1))+(k+1)<0 then -1 else left - ts.length - szOts (ts.take (k+1))+(k+1)):=by
     apply Lib.hid
     unfold leftOf
     rw [hsz]
     congr 1
     ·apply propext
      omega
     ·omega
    have HS:=Lib.hid hsz
    have HK:=Lib.hid hkl
    clear hsz hkl ht
    go_wp2_with fail
    refine HT.out.mono ?_
    rintro e w1 ⟨rfl,hb1⟩
    rw [hd.out]
    have hb':=hb.trans (hb1.mono hb.size)
    by_cases hn1:left - ts.length - szOts (ts.take (k+1))+(k+1)<0
    ·rw [if_pos hn1]
     have hr:=Lib.hid (show leftOf left (szOts ts)=-1 by unfold leftOf;rw [if_pos (by omega)])
     go_wp2
     go_ret
     exact ⟨by rw [hr.out];rfl,hb'⟩
    ·rw [if_neg hn1]
     go_wp2
     go_roundw
     case rel=>exact ⟨k+1,by omega,by go_num,by go_num,by omega,hb'⟩
     case measure=>simp [intOf];omega
   ·have hke:k=ts.length:=by omega
    subst hke
    rw [List.take_length] at hpos ⊢
    have hr:=Lib.hid (show leftOf left (szOts ts)=left - ts.length - szOts ts+ts.length by unfold leftOf;rw [if_neg (by omega)];omega)
    go_wp2
    go_ret
    exact ⟨by rw [hr.out];rfl,hb⟩
theorem szOt_any (t:Ot):SzOOne t:=by
 induction t using Ot.ind with
 | h k n nm ts ih=>
  intro v left w hv h0 h1
  obtain ⟨A,ac,rfl,hnm,ha⟩:=hv.open
  simp only [Ot.kind,Ot.num,Ot.name,Ot.args] at *
  have hm:=ha.1
  have hb0:Below w.heap.size w (w.alloc (.cells #[.int .i64 k,.string nm,.int .i64 n,.slice A ts.length ac] 60)):=(Below.refl _ _).alloc (Nat.le_refl _) _
  have he:=szOt_eq (.mk k n nm ts)
  simp only [Ot.name,Ot.args] at he
  by_cases hnn:left - (nm.size:Int)<0
  ·have hr:=Lib.hid (show leftOf left (szOt (.mk k n nm ts))=-1 by unfold leftOf;rw [if_pos (by omega)])
   clear ih he
   unfold maxLen at hm hnm
   go_enter Tryz.func33,Tryz.ntmps33
   go_wp2
   go_ret
   exact ⟨by rw [hr.out];rfl,hb0⟩
  ·have h2:0≤left - (nm.size:Int):=by omega
   have h3:left - (nm.size:Int)≤1048576:=by omega
   have HA:=Lib.hid ((ha.below hb0).more hb0.size)
   have HI:=Lib.hid (fun left W h a b=>szOpticS_of A ac ts (fun i hi=>ih i hi) left W h a b)
   have hr:=Lib.hid (show leftOf (left - (nm.size:Int)) (szOts ts)=leftOf left (szOt (.mk k n nm ts)) by unfold leftOf;rw [he];congr 1<;>first | (apply propext;omega) | omega)
   clear ih he
   unfold maxLen at hm hnm
   go_enter Tryz.func33,Tryz.ntmps33
   go_wp2_with fail
   refine (HI.out (left - (nm.size:Int)) _ HA.out h2 h3).mono ?_
   rintro e w1 ⟨rfl,hb1⟩
   rw [hr.out]
   have hm1:=leftOf_cases left (szOt (.mk k n nm ts))
   generalize leftOf left (szOt (.mk k n nm ts))=l3 at *
   have hb':=hb0.trans (hb1.mono hb0.size)
   by_cases hn3:l3<0
   ·obtain rfl:l3=-1:=by omega
    clear hm1
    go_wp2
    go_ret
    exact ⟨rfl,hb'⟩
   ·go_wp2
    go_ret
    exact ⟨rfl,hb'⟩
end
section
open Go.RowKit
def SzVOne (t:Va):Prop:=∀ (v:Value) (left:Int) (w:World),VaAt w w.heap.size v t→0≤left→left≤1048576→Calls Tryz.prog 34 #[v,.int .i64 left] w (IntBelow (leftOf left (szVa t)) w)
set_option maxHeartbeats 1000000 in
theorem szValueS_of (A:Option Addr) (c:Nat) (ts:List Va) (hall:∀ i,(h:i<ts.length)→SzVOne ts[i]) (left:Int) (w:World) (hA:VasAt w w.heap.size A ts) (h0:0≤left) (h1:left≤1048576):
  Calls Tryz.prog 78 #[.slice A ts.length c,.int .i64 left] w (IntBelow (leftOf left (szVas ts)) w):=by
 have hm:=hA.1
 have hle:=szVas_len ts
 have HALL:=Lib.hid hall
 clear hall
 unfold maxLen at hm
 by_cases hneg:left - (ts.length:Int)<0
 ·have hr:=Lib.hid (show leftOf left (szVas ts)=-1 by unfold leftOf;rw [if_pos (by omega)])
  go_enter Tryz.func78,Tryz.ntmps78
  go_wp2
  go_ret
  exact ⟨by rw [hr.out];rfl,Below.refl _ _⟩
 ·go_enter Tryz.func78,Tryz.ntmps78
  go_wp2
  go_loopw [1,5] (fun l i wr=>∃ k:Nat,k≤ts.length∧i=.int .i64 k∧l=.int .i64 (left - ts.length - szVas (ts.take k)+k)∧0≤left - ts.length - szVas (ts.take k)+k∧Below w.heap.size w wr) (fun _ i _=>ts.length - (intOf i).toNat)
  case atStart=>exact ⟨0,Nat.zero_le _,rfl,by simp [szVas],by simp [szVas];omega,Below.refl _ _⟩
  case round=>
   obtain ⟨k,hk,rfl,rfl,hpos,hb⟩:=hrel
   by_cases hlt:k<ts.length
   ·obtain ⟨b,off,L,lc,A',ac,rfl,hbl,q0,q1,q2,q3,q4,ht⟩:=(hA.below hb).elem k hlt
    have hsz:=szVas_take ts k hlt
    have hle1:=szVas_le ts (k+1)
    have hle2:=szVas_len (ts.take k)
    have hkl:(ts.take k).length=k:=by rw [List.length_take];omega
    have hlm:left - ts.length - szVas (ts.take k)+k≤1048576:=by omega
    have HT:=Lib.hid (HALL.out k hlt _ _ wr (ht.more hb.size) hpos hlm)
    have hd:Hid (leftOf (left - ts.length - szVas (ts.take k)+k) (szVa ts[k])=if left - ts.length - szVas (ts.take (k+1))+(k+1)<0 then -1 else left - ts.length - szVas (ts.take (k+1))+(k+1)):=by
     apply Lib.hid
     unfold leftOf
     rw [hsz]
     congr 1
     ·apply propext
      omega
     ·omega
    have HS:=Lib.hid hsz
    have HK:=Lib.hid hkl
    clear hsz hkl ht
    go_wp2_with fail
    refine HT.out.mono ?_
    rintro e w1 ⟨rfl,hb1⟩
    rw [hd.out]
    have hb':=hb.trans (hb1.mono hb.size)
    by_cases hn1:left - ts.length - szVas (ts.take (k+1))+(k+1)<0
    ·rw [if_pos hn1]
     have hr:=Lib.hid (show leftOf left (szVas ts)=-1 by unfold leftOf;rw [if_pos (by omega)])
     go_wp2
     go_ret
     exact ⟨by rw [hr.out];rfl,hb'⟩
    ·rw [if_neg hn1]
     go_wp2
     go_roundw
     case rel=>exact ⟨k+1,by omega,by go_num,by go_num,by omega,hb'⟩
     case measure=>simp [intOf];omega
   ·have hke:k=ts.length:=by omega
    subst hke
    rw [List.take_length] at hpos ⊢
    have hr:=Lib.hid (show leftOf left (szVas ts)=left - ts.length - szVas ts+ts.length by unfold leftOf;rw [if_neg (by omega)];omega)
    go_wp2
    go_ret
    exact ⟨by rw [hr.out];rfl,hb⟩
theorem szVa_any (t:Va):SzVOne t:=by
 induction t using Va.ind with
 | h k n nm ls ts ih=>
  intro v left w hv h0 h1
  obtain ⟨L,lc,A,ac,rfl,hnm,hn,hz,hl,ha⟩:=hv.open
  simp only [Va.kind,Va.num,Va.name,Va.labels,Va.args] at *
  have hm:=ha.1
  have hb0:Below w.heap.size w (w.alloc (.cells #[.int .i64 k,.int .i64 n,.string nm,.slice L ls.length lc,.slice A ts.length ac] 63)):=(Below.refl _ _).alloc (Nat.le_refl _) _
  have he:=szVa_eq (.mk k n nm ls ts)
  simp only [Va.name,Va.labels,Va.args] at he
  by_cases hnn:left - (nm.size:Int)<0
  ·have hr:=Lib.hid (show leftOf left (szVa (.mk k n nm ls ts))=-1 by unfold leftOf;rw [if_pos (by omega)])
   clear ih hz he
   unfold maxLen at hn hm hnm
   go_enter Tryz.func34,Tryz.ntmps34
   go_wp2
   go_ret
   exact ⟨by rw [hr.out];rfl,hb0⟩
  ·have h2:0≤left - (nm.size:Int):=by omega
   have h3:left - (nm.size:Int)≤1048576:=by omega
   have HS:=Lib.hid (szStringS_any L lc _ ls (left - (nm.size:Int)) _ (hl.below hb0) hn hz h2 h3)
   have HA:=Lib.hid ((ha.below hb0).more hb0.size)
   have HI:=Lib.hid (fun left W h a b=>szValueS_of A ac ts (fun i hi=>ih i hi) left W h a b)
   have h1l:=Lib.hid (show szStrs (left - (nm.size:Int)) ls=leftOf (left - (nm.size:Int)) (ls.length+sumSizes ls) by unfold szStrs leftOf;congr 1<;>first | (apply propext;omega) | omega)
   clear ih hz
   unfold maxLen at hn hm hnm
   go_enter Tryz.func34,Tryz.ntmps34
   go_wp2_with fail
   refine HS.out.mono ?_
   rintro e w1 ⟨rfl,rfl⟩
   rw [h1l.out]
   by_cases hneg:left - (nm.size:Int) - (ls.length+sumSizes ls:Nat)<0
   ·have hr:=Lib.hid (show leftOf left (szVa (.mk k n nm ls ts))=-1 by unfold leftOf;rw [if_pos (by omega)])
    rw [show leftOf (left - (nm.size:Int)) (ls.length+sumSizes ls)=-1 by unfold leftOf;rw [if_pos hneg]]
    go_wp2
    go_ret
    exact ⟨by rw [hr.out];rfl,hb0⟩
   ·rw [show leftOf (left - (nm.size:Int)) (ls.length+sumSizes ls)=left - (nm.size:Int) - (ls.length+sumSizes ls:Nat) by unfold leftOf;rw [if_neg hneg]]
    have h5:0≤left - (nm.size:Int) - (ls.length+sumSizes ls:Nat):=by omega
    have h6:left - (nm.size:Int) - (ls.length+sumSizes ls:Nat)≤1048576:=by omega
    have hr:=Lib.hid (show leftOf (left - (nm.size:Int) - (ls.length+sumSizes ls:Nat)) (szVas ts)=leftOf left (szVa (.mk k n nm ls ts)) by unfold leftOf;rw [he];congr 1<;>first | (apply propext;omega) | omega)
    clear he
    generalize hq:left - (nm.size:Int) - (ls.length+sumSizes ls:Nat)=l2 at *
    clear hq
    go_wp2_with fail
    refine (HI.out l2 _ HA.out h5 h6).mono ?_
    rintro e w1 ⟨rfl,hb1⟩
    rw [hr.out]
    have hm1:=leftOf_cases left (szVa (.mk k n nm ls ts))
    generalize leftOf left (szVa (.mk k n nm ls ts))=l3 at *
    have hb':=hb0.trans (hb1.mono hb0.size)
    by_cases hn3:l3<0
    ·obtain rfl:l3=-1:=by omega
     clear hm1
     go_wp2
     go_ret
     exact ⟨rfl,hb'⟩
    ·go_wp2
     go_ret
     exact ⟨rfl,hb'⟩
end
section
open Go.RowKit
def NewTy (w:World) (t:Ty) (e:Ending) (w':World):Prop:=∃ v,e=.returned v∧TyIn w' (Span w.heap.size w'.heap.size) v t∧Below w.heap.size w w'
def NewTys (w:World) (ts:List Ty) (e:Ending) (w':World):Prop:=∃ g c,e=.returned (.slice (some ⟨g,0,none⟩) ts.length c)∧w.heap.size≤g∧TysIn w' (Span w.heap.size w'.heap.size) (some ⟨g,0,none⟩) ts∧Below w.heap.size w w'
theorem boxes3 (w:World) (t1 t2 t3:TypeId) (a b c:Array Value):
  Below w.heap.size w (((w.alloc (.cells a t1)).alloc (.cells b t2)).alloc (.cells c t3))∧Whole1 (((w.alloc (.cells a t1)).alloc (.cells b t2)).alloc (.cells c t3)) w.heap.size t1 a∧
  Whole1 (((w.alloc (.cells a t1)).alloc (.cells b t2)).alloc (.cells c t3)) (w.heap.size+1) t2 b∧Whole1 (((w.alloc (.cells a t1)).alloc (.cells b t2)).alloc (.cells c t3)) (w.heap.size+1+1) t3 c∧
  (((w.alloc (.cells a t1)).alloc (.cells b t2)).alloc (.cells c t3)).heap.size=w.heap.size+3:=by
 refine ⟨(((Below.refl _ _).alloc (Nat.le_refl _) _).alloc (by simp) _).alloc (by simp;omega) _,?_,?_,?_,by simp⟩
 ·exact Whole1.below (B:=w.heap.size+1) (Whole1.new _ _ _) (((Below.refl _ _).alloc (by simp) _).alloc (by simp) _) (by omega)
 ·have h:=Whole1.new (w.alloc (.cells a t1)) t2 b
  exact Whole1.below (B:=w.heap.size+2) (by simpa using h) ((Below.refl _ _).alloc (by simp) _) (by omega)
 ·have h:=Whole1.new ((w.alloc (.cells a t1)).alloc (.cells b t2)) t3 c
  simpa using h
def ToOne (t:Ty):Prop:=∀ (v:Value) (w:World),TyAt w w.heap.size v t→szTy t≤1048576→Calls Tryz.prog 35 #[v] w (NewTy w t)
def ToMany (ts:List Ty):Prop:=∀ (A:Option Addr) (c:Nat) (w:World),TysAt w w.heap.size A ts→szTys ts≤1048576→Calls Tryz.prog 80 #[.slice A ts.length c] w (NewTys w ts)
set_option maxHeartbeats 1000000 in
theorem toType_of (k:Int) (ls:List ByteArray) (ts:List Ty) (h:ToMany ts):ToOne (.mk k ls ts):=by
 intro v w hv hsz
 obtain ⟨L,lc,A,ac,rfl,hn,hz,hl,ha⟩:=hv.open
 rw [szTy_eq] at hsz
 simp only [Ty.kind,Ty.labels,Ty.args] at *
 have HL:=Lib.hid (fun W h=>toStringS_any L lc ls W h (by omega))
 have HT:=Lib.hid (fun W hw=>h A ac W hw (by omega))
 have HN:=Lib.hid hz
 clear hz
 go_enter Tryz.func35,Tryz.ntmps35
 go_wp2_with fail
 obtain ⟨hb0,q0,r0,o0,hsz0⟩:=boxes3 w 57 27 27 #[.int .i64 k,.slice L ls.length lc,.slice A ts.length ac] #[.int .i64 0,.slice none 0 0,.slice none 0 0] #[.int .i64 k,.slice none 0 0,.slice none 0 0]
 generalize ((w.alloc (.cells #[.int .i64 k,.slice L ls.length lc,.slice A ts.length ac] 57)).alloc (.cells #[.int .i64 0,.slice none 0 0,.slice none 0 0] 27)).alloc (.cells #[.int .i64 k,.slice none 0 0,.slice none 0 0] 27)=w0 at *
 have HZ:=Lib.hid hsz0
 refine (HL.out w0 (hl.up' hb0)).mono ?_
 rintro e w1 ⟨g,rfl,hg,hw1,hb1⟩
 have q1:=q0.below hb1 q0.lt
 have r1:=r0.below hb1 r0.lt
 have o1:=o0.below hb1 o0.lt
 have hb1':=hb0.trans (hb1.mono hb0.size)
 have c1:w1.cell? ⟨w.heap.size,2,none⟩=some (.slice A ts.length ac):=q1.cell 2
 have c2:w1.cell? ⟨w.heap.size+1+1,1,none⟩=some (.slice none 0 0):=o1.cell 1
 have c3:w1.frozen? ⟨w.heap.size+1+1,1,none⟩=false:=o1.free 1
 have hg1:w.heap.size+3≤g:=by have:=HZ.out;omega
 have hs1:=hb1.size
 clear q0 r0 o0 hsz0
 go_wp2_with fail
 have hw2:=Whole1.set o1 1 (.slice (some ⟨g,0,none⟩) ls.length ls.length)
 have hb2:Below w.heap.size w (w1.setCell ⟨w.heap.size+1+1,1,none⟩ (.slice (some ⟨g,0,none⟩) ls.length ls.length)):=hb1'.setCell (by simp;omega) _
 have hr2:=Whole1.below (B:=w.heap.size+2) r1 ((Below.refl _ _).setCell (p:=⟨w.heap.size+1+1,1,none⟩) (by simp) (.slice (some ⟨g,0,none⟩) ls.length ls.length)) (by omega)
 have hg2:Whole1 (w1.setCell ⟨w.heap.size+1+1,1,none⟩ (.slice (some ⟨g,0,none⟩) ls.length ls.length)) g 9 (strVals ls).toArray:=(Below.heap_setCell _ _ _ _ (by simp;omega)).trans hw1
 have hs2:(w1.setCell ⟨w.heap.size+1+1,1,none⟩ (.slice (some ⟨g,0,none⟩) ls.length ls.length)).heap.size=w1.heap.size:=by simp [World.setCell]
 have HG:=Lib.hid hw1.lt
 clear hw1 r1 o1 q1 c1 c2 c3
 generalize w1.setCell ⟨w.heap.size+1+1,1,none⟩ (.slice (some ⟨g,0,none⟩) ls.length ls.length)=w2 at *
 have HZ2:=Lib.hid hs2
 clear hs2
 refine (HT.out w2 (ha.up hb2)).mono ?_
 rintro e w3 ⟨g3,c3,rfl,hg3,ht3,hb3⟩
 have hw3:=hw2.below hb3 hw2.lt
 have hr3:=hr2.below hb3 hr2.lt
 have hl3:=hg2.below hb3 hg2.lt
 have hb3':=hb2.trans (hb3.mono hb2.size)
 have hs3:=hb3.size
 have c4:w3.cell? ⟨w.heap.size+1+1,2,none⟩=some (.slice none 0 0):=hw3.cell 2
 have c6:w3.cell? ⟨w.heap.size+1+1,0,none⟩=some (.int .i64 k):=hw3.cell 0
 have c7:w3.cell? ⟨w.heap.size+1+1,1,none⟩=some (.slice (some ⟨g,0,none⟩) ls.length ls.length):=hw3.cell 1
 have c5:w3.frozen? ⟨w.heap.size+1+1,2,none⟩=false:=hw3.free 2
 obtain ⟨c8,c9,c10⟩:=hr3.c3
 obtain ⟨c11,c12,c13⟩:=hr3.f3
 clear hw2 hr2 hg2 hw3 hr3
 have hgl:=hl3.lt
 have hg1w:g<w2.heap.size:=by have:=HZ2.out;have:=HG.out;omega
 go_wp2
 refine bodyPost_ret (v:=.agg #[.int .i64 k,.slice (some ⟨g,0,none⟩) ls.length ls.length,.slice (some ⟨g3,0,none⟩) ts.length c3]) (by simp [results,Tryz.results35,go_sem,c8,c9,c10]) rfl ⟨_,rfl,?_,?_⟩
 ·have hk:∀ b,w.heap.size+3≤b→((((w3.setCell ⟨w.heap.size+1+1,2,none⟩ (.slice (some ⟨g3,0,none⟩) ts.length c3)).setCell ⟨w.heap.size+1,0,none⟩ (.int .i64 k)).setCell ⟨w.heap.size+1,1,none⟩ (.slice (some ⟨g,0,none⟩) ls.length ls.length)).setCell ⟨w.heap.size+1,2,none⟩ (.slice (some ⟨g3,0,none⟩) ts.length c3)).heap[b]?=w3.heap[b]?:=fun b h=>by
   rw [Below.heap_setCell _ _ _ _ (by simp;omega),Below.heap_setCell _ _ _ _ (by simp;omega),Below.heap_setCell _ _ _ _ (by simp;omega),Below.heap_setCell _ _ _ _ (by simp;omega)]
  have hS:((((w3.setCell ⟨w.heap.size+1+1,2,none⟩ (.slice (some ⟨g3,0,none⟩) ts.length c3)).setCell ⟨w.heap.size+1,0,none⟩ (.int .i64 k)).setCell ⟨w.heap.size+1,1,none⟩ (.slice (some ⟨g,0,none⟩) ls.length ls.length)).setCell ⟨w.heap.size+1,2,none⟩ (.slice (some ⟨g3,0,none⟩) ts.length c3)).heap.size=w3.heap.size:=by simp [World.setCell]
  rw [hS]
  have h3:w.heap.size+3≤w2.heap.size:=by have:=HZ2.out;have:=HZ.out;omega
  refine TyIn.of (t:=.mk k ls ts) (Sa:=Span w2.heap.size w3.heap.size) hn HN.out (.inr ⟨rfl,⟨by omega,hgl⟩,RowStrs.same (RowStrs.of_whole hl3) (hk _ hg1)⟩) (ht3.keep fun b hb _=>hk b (by have:=hb.1;omega)) fun b hb=>⟨⟨by have:=hb.1;omega,hb.2⟩,by have:=hb.1;omega⟩
 ·exact (((hb3'.setCell (by simp;omega) _).setCell (by simp) _).setCell (by simp) _).setCell (by simp) _
theorem run_make_elems {P:Program} {T E:TypeId} {z:Value} {sz by8:Nat} (ht:P.underlying T=some (.slice E)) (hi:(P.info? E).map (fun i=>(i.zero,i.size,i.bytes))=some (some z,sz,by8)) (n:Nat) (hb:(by8:Int) * n≤281474976710656) (hn:n≤1048576) (w:World):
  ∃ cs:Array Value,cs.size=n * sz∧(Instr.makeSlice T (.int .i64 (n:Int)) (.int .i64 (n:Int))).run P w=.ok (.slice (some ⟨w.heap.size,0,none⟩) n n) (w.alloc (.cells cs E)):=by
 obtain ⟨i,h1,h2,h3,h4⟩:=info_parts hi
 have hr:=run_make (P:=P) w T E i _ ht h1 h2 .i64 .i64 n n (by omega) (by omega) (by rw [h4];exact hb) (by omega)
 simp only [Int.toNat_natCast] at hr
 refine ⟨_,?_,hr⟩
 rw [size_madeCells,h3]
theorem infoType:(Tryz.prog.info? 27).map (fun i=>(i.zero,i.size,i.bytes))=some (some (.agg #[.int .i64 0,.slice none 0 0,.slice none 0 0]),3,56):=by kernel_rfl
theorem boxes1 (w:World) (t1:TypeId) (a:Array Value):Below w.heap.size w (w.alloc (.cells a t1))∧Whole1 (w.alloc (.cells a t1)) w.heap.size t1 a∧(w.alloc (.cells a t1)).heap.size=w.heap.size+1:=
 ⟨(Below.refl _ _).alloc (Nat.le_refl _) _,Whole1.new _ _ _,by simp⟩
def Filling (w:World) (lo g n k:Nat) (ts:List Ty):Prop:=
 ∃ (cs:Array Value) (vs:Nat→Value) (bd:Nat→Nat),Whole1 w g 27 cs∧cs.size=n * 3∧(∀ i,i<k→∀ j,j<3→(partAt (vs i) j).isSome=true∧cs[i * 3+j]?=partAt (vs i) j)∧
  lo≤g∧g<bd 0∧(∀ i,i<k→bd i≤bd (i+1))∧bd k≤w.heap.size∧∀ i,(hi:i<ts.length)→i<k→TyIn w (Span (bd i) (bd (i+1))) (vs i) ts[i]
theorem bd_mono (bd:Nat→Nat) (k:Nat) (h:∀ i,i<k→bd i≤bd (i+1)):∀ i j,i≤j→j≤k→bd i≤bd j
 | i,0,h1,_=>by
  have:i=0:=by omega
  subst this
  exact Nat.le_refl _
 | i,j+1,h1,h2=>by
  by_cases e:i=j+1
  ·rw [e]
   exact Nat.le_refl _
  ·exact Nat.le_trans (bd_mono bd k h i j (by omega) (by omega)) (h j (by omega))
theorem Filling.done {w:World} {lo g:Nat} {ts:List Ty} (h:Filling w lo g ts.length ts.length ts) (hm:ts.length≤maxLen):TysIn w (Span lo w.heap.size) (some ⟨g,0,none⟩) ts:=by
 obtain ⟨cs,vs,bd,h1,h2,h3,h4,h5,h6,h7,h8⟩:=h
 refine ⟨hm,g,vs,fun i=>Span (bd i) (bd (i+1)),.inr ⟨rfl,⟨h4,h1.lt⟩,cs,h1,h3⟩,fun i hi b hb=>?_,fun i j hi hj hne b hb hb'=>?_,fun i hi=>h8 i hi hi⟩
 ·have a:=bd_mono bd _ h6 0 i (by omega) (by omega)
  have c:=bd_mono bd _ h6 (i+1) ts.length (by omega) (Nat.le_refl _)
  have:=hb.1
  have:=hb.2
  exact ⟨⟨by omega,by omega⟩,by omega⟩
 ·have:=hb.1
  have:=hb.2
  have:=hb'.1
  have:=hb'.2
  rcases Nat.lt_or_gt_of_ne hne with hlt | hlt
  ·have a:=bd_mono bd _ h6 (i+1) j (by omega) (by omega)
   omega
  ·have a:=bd_mono bd _ h6 (j+1) i (by omega) (by omega)
   omega
theorem Filling.below {w w':World} {lo g n k:Nat} {ts:List Ty} (h:Filling w lo g n k ts) (hb:Below w.heap.size w w'):Filling w' lo g n k ts:=by
 obtain ⟨cs,vs,bd,h1,h2,h3,h4,h5,h6,h7,h8⟩:=h
 refine ⟨cs,vs,bd,h1.below hb h1.lt,h2,h3,h4,h5,h6,Nat.le_trans h7 hb.size,fun i hi hk=>(h8 i hi hk).keep fun b hB _=>hb.block b ?_⟩
 have:=bd_mono bd k h6 (i+1) k (by omega) (Nat.le_refl _)
 have:=hB.2
 omega
theorem Filling.step {w w':World} {lo g n k:Nat} {ts:List Ty} {a b c:Value} (h:Filling w lo g n k ts) (hb:Below w.heap.size w w') (hk:k<n) (hkt:k<ts.length) (hv:TyIn w' (Span w.heap.size w'.heap.size) (.agg #[a,b,c]) ts[k]):
  Filling (((w'.setCell ⟨g,k * 3,none⟩ a).setCell ⟨g,k * 3+1,none⟩ b).setCell ⟨g,k * 3+2,none⟩ c) lo g n (k+1) ts:=by
 obtain ⟨cs,vs,bd,h1,h2,h3,h4,h5,h6,h7,h8⟩:=h
 have hlt:=h1.lt
 have hw:=(((h1.below hb hlt).set (k * 3) a).set (k * 3+1) b).set (k * 3+2) c
 have hsz:=hb.size
 have hk':∀ q,q≠g→(((w'.setCell ⟨g,k * 3,none⟩ a).setCell ⟨g,k * 3+1,none⟩ b).setCell ⟨g,k * 3+2,none⟩ c).heap[q]?=w'.heap[q]?:=fun q hq=>by
  rw [Below.heap_setCell _ _ _ _ hq,Below.heap_setCell _ _ _ _ hq,Below.heap_setCell _ _ _ _ hq]
 have hS:(((w'.setCell ⟨g,k * 3,none⟩ a).setCell ⟨g,k * 3+1,none⟩ b).setCell ⟨g,k * 3+2,none⟩ c).heap.size=w'.heap.size:=by simp [World.setCell]
 generalize ((w'.setCell ⟨g,k * 3,none⟩ a).setCell ⟨g,k * 3+1,none⟩ b).setCell ⟨g,k * 3+2,none⟩ c=W at *
 have hg0:∀ i,i≤k→g<bd i:=fun i hi=>Nat.lt_of_lt_of_le h5 (bd_mono bd k h6 0 i (by omega) hi)
 refine ⟨_,fun j=>if j=k then .agg #[a,b,c] else vs j,fun j=>if j≤k then bd j else w'.heap.size,hw,by simp [h2],fun i hi j hj=>?_,h4,by simpa using h5,fun i hi=>?_,?_,fun i hi hik=>?_⟩
 ·dsimp only
  have hb3:k * 3+2<cs.size:=by omega
  by_cases e:i=k
  ·subst e
   rw [if_pos rfl]
   simp only [Array.getElem?_setIfInBounds,Array.size_setIfInBounds]
   have:j=0∨j=1∨j=2:=by omega
   rcases this with rfl | rfl | rfl
   ·simp [partAt];omega
   ·simp [partAt];omega
   ·simp [partAt];omega
  ·rw [if_neg e]
   have hh:=h3 i (by omega) j hj
   refine ⟨hh.1,?_⟩
   rw [← hh.2]
   simp only [Array.getElem?_setIfInBounds,Array.size_setIfInBounds]
   rw [if_neg (by omega),if_neg (by omega),if_neg (by omega)]
 ·dsimp only
  by_cases e:i=k
  ·subst e
   rw [if_pos (Nat.le_refl _),if_neg (by omega)]
   omega
  ·rw [if_pos (by omega),if_pos (by omega)]
   exact h6 i (by omega)
 ·dsimp only
  rw [if_neg (by omega),hS]
  exact Nat.le_refl _
 ·dsimp only
  by_cases e:i=k
  ·subst e
   rw [if_pos rfl,if_pos (Nat.le_refl _),if_neg (by omega)]
   refine (hv.wide fun q hq=>⟨by have:=hq.1;omega,hq.2⟩).keep fun q hq _=>hk' q ?_
   have:=hq.1
   have:=hg0 i (Nat.le_refl _)
   omega
  ·rw [if_neg e,if_pos (by omega),if_pos (by omega)]
   refine (h8 i hi (by omega)).keep fun q hq _=>?_
   have e1:=hq.1
   have e2:=hq.2
   have e3:=hg0 i (by omega)
   have e4:=bd_mono bd k h6 (i+1) k (by omega) (Nat.le_refl _)
   rw [hk' q (by omega)]
   exact hb.block q (by omega)
end
end Go.Proofs.YtfnblkcmcfofoaaGreatDoor
