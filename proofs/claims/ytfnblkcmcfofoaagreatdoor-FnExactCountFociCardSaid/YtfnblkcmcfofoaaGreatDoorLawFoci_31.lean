/- Lemmas: ImplKind, CopyTy. -/
import Derived.Test.YtfnblkcmcfofoaaGreatDoorLawFoci_16
import Derived.Deep.QuietTactic
import Derived.BigQuiet
import Derived.Test.YtfnblkcmcfofoaaGreatDoorLawFoci_15
import Derived.Test.YtfnblkcmcfofoaaGreatDoorLawFoci_29
import Derived.Deep.AppendLies
import Derived.Deep.RegionHeld3

namespace Go.Proofs.YtfnblkcmcfofoaaGreatDoor
section
set_option maxRecDepth 100000
open Go.RowKit
def joinCells:List Value:=[.int .i64 0,.int .i64 0,.int .i64 0,.int .i64 0,.int .i64 0,.int .i64 0,.int .i64 0,.int .i64 1,.int .i64 2,.int .i64 3,.int .i64 4,.int .i64 5,.int .i64 0,.int .i64 2,.int .i64 2,.int .i64 4,.int .i64 4,.int .i64 5,.int .i64 0,.int .i64 3,.int .i64 4,.int .i64 3,.int .i64 4,.int .i64 5,.int .i64 0,.int .i64 4,.int .i64 4,.int .i64 4,.int .i64 4,.int .i64 5,.int .i64 0,.int .i64 5,.int .i64 5,.int .i64 5,.int .i64 5,.int .i64 5]
def JoinsAt (w:World):Prop:=2<w.heap.size∧∀ i,i<36→w.cell? ⟨2,i,none⟩=joinCells[i]?
theorem JoinsAt.below {w w':World} (h:JoinsAt w) (hb:Below w.heap.size w w'):JoinsAt w':=⟨Nat.lt_of_lt_of_le h.1 hb.size,fun i hi=>(hb.cell (p:=⟨2,i,none⟩) h.1).trans (h.2 i hi)⟩
theorem joinI_out {k:Int} (h:isKindB k=false) (j:Int):joinI k j=0:=joinI_none (by rw [h];rfl)
set_option maxHeartbeats 4000000 in
theorem joinsWith_0 (w:World) (hJ:JoinsAt w):Calls Tryz.prog 210 #[.int .i64 0] w (fun e w'=>e=.returned (.agg #[.int .i64 0,.int .i64 0,.int .i64 0,.int .i64 0,.int .i64 0,.int .i64 0])∧Below w.heap.size w w'):=by
  obtain ⟨hb0,p0,hs0⟩:=boxes1 w 237 #[.int .i64 0,.int .i64 0,.int .i64 0,.int .i64 0,.int .i64 0,.int .i64 0]
  obtain ⟨hb9,p9,hs9⟩:=boxes1 w 237 #[.int .i64 0,.int .i64 0,.int .i64 0,.int .i64 0,.int .i64 0,.int .i64 0]
  have hJ0:=hJ.below hb0
  have f0:(w.alloc (.cells #[.int .i64 0,.int .i64 0,.int .i64 0,.int .i64 0,.int .i64 0,.int .i64 0] 237)).cell? ⟨2,0,none⟩=some (.int .i64 0):=hJ0.2 0 (by omega)
  have f1:(w.alloc (.cells #[.int .i64 0,.int .i64 0,.int .i64 0,.int .i64 0,.int .i64 0,.int .i64 0] 237)).cell? ⟨2,1,none⟩=some (.int .i64 0):=hJ0.2 1 (by omega)
  have f2:(w.alloc (.cells #[.int .i64 0,.int .i64 0,.int .i64 0,.int .i64 0,.int .i64 0,.int .i64 0] 237)).cell? ⟨2,2,none⟩=some (.int .i64 0):=hJ0.2 2 (by omega)
  have f3:(w.alloc (.cells #[.int .i64 0,.int .i64 0,.int .i64 0,.int .i64 0,.int .i64 0,.int .i64 0] 237)).cell? ⟨2,3,none⟩=some (.int .i64 0):=hJ0.2 3 (by omega)
  have f4:(w.alloc (.cells #[.int .i64 0,.int .i64 0,.int .i64 0,.int .i64 0,.int .i64 0,.int .i64 0] 237)).cell? ⟨2,4,none⟩=some (.int .i64 0):=hJ0.2 4 (by omega)
  have f5:(w.alloc (.cells #[.int .i64 0,.int .i64 0,.int .i64 0,.int .i64 0,.int .i64 0,.int .i64 0] 237)).cell? ⟨2,5,none⟩=some (.int .i64 0):=hJ0.2 5 (by omega)
  clear hJ hJ0 hs0 hs9 p0 p9 hb0
  go_enter Tryz.func210,Tryz.ntmps210
  go_wp2
  exact bodyPost_ret (v:=.agg #[.int .i64 0,.int .i64 0,.int .i64 0,.int .i64 0,.int .i64 0,.int .i64 0]) (by simp [results,Tryz.results210,go_sem]) rfl ⟨rfl,hb9⟩
set_option maxHeartbeats 4000000 in
theorem joinsWith_1 (w:World) (hJ:JoinsAt w):Calls Tryz.prog 210 #[.int .i64 1] w (fun e w'=>e=.returned (.agg #[.int .i64 0,.int .i64 1,.int .i64 2,.int .i64 3,.int .i64 4,.int .i64 5])∧Below w.heap.size w w'):=by
  obtain ⟨hb0,p0,hs0⟩:=boxes1 w 237 #[.int .i64 0,.int .i64 0,.int .i64 0,.int .i64 0,.int .i64 0,.int .i64 0]
  obtain ⟨hb9,p9,hs9⟩:=boxes1 w 237 #[.int .i64 0,.int .i64 1,.int .i64 2,.int .i64 3,.int .i64 4,.int .i64 5]
  have hJ0:=hJ.below hb0
  have f0:(w.alloc (.cells #[.int .i64 0,.int .i64 0,.int .i64 0,.int .i64 0,.int .i64 0,.int .i64 0] 237)).cell? ⟨2,6,none⟩=some (.int .i64 0):=hJ0.2 6 (by omega)
  have f1:(w.alloc (.cells #[.int .i64 0,.int .i64 0,.int .i64 0,.int .i64 0,.int .i64 0,.int .i64 0] 237)).cell? ⟨2,7,none⟩=some (.int .i64 1):=hJ0.2 7 (by omega)
  have f2:(w.alloc (.cells #[.int .i64 0,.int .i64 0,.int .i64 0,.int .i64 0,.int .i64 0,.int .i64 0] 237)).cell? ⟨2,8,none⟩=some (.int .i64 2):=hJ0.2 8 (by omega)
  have f3:(w.alloc (.cells #[.int .i64 0,.int .i64 0,.int .i64 0,.int .i64 0,.int .i64 0,.int .i64 0] 237)).cell? ⟨2,9,none⟩=some (.int .i64 3):=hJ0.2 9 (by omega)
  have f4:(w.alloc (.cells #[.int .i64 0,.int .i64 0,.int .i64 0,.int .i64 0,.int .i64 0,.int .i64 0] 237)).cell? ⟨2,10,none⟩=some (.int .i64 4):=hJ0.2 10 (by omega)
  have f5:(w.alloc (.cells #[.int .i64 0,.int .i64 0,.int .i64 0,.int .i64 0,.int .i64 0,.int .i64 0] 237)).cell? ⟨2,11,none⟩=some (.int .i64 5):=hJ0.2 11 (by omega)
  clear hJ hJ0 hs0 hs9 p0 p9 hb0
  go_enter Tryz.func210,Tryz.ntmps210
  go_wp2
  exact bodyPost_ret (v:=.agg #[.int .i64 0,.int .i64 1,.int .i64 2,.int .i64 3,.int .i64 4,.int .i64 5]) (by simp [results,Tryz.results210,go_sem]) rfl ⟨rfl,hb9⟩
set_option maxHeartbeats 4000000 in
theorem joinsWith_2 (w:World) (hJ:JoinsAt w):Calls Tryz.prog 210 #[.int .i64 2] w (fun e w'=>e=.returned (.agg #[.int .i64 0,.int .i64 2,.int .i64 2,.int .i64 4,.int .i64 4,.int .i64 5])∧Below w.heap.size w w'):=by
  obtain ⟨hb0,p0,hs0⟩:=boxes1 w 237 #[.int .i64 0,.int .i64 0,.int .i64 0,.int .i64 0,.int .i64 0,.int .i64 0]
  obtain ⟨hb9,p9,hs9⟩:=boxes1 w 237 #[.int .i64 0,.int .i64 2,.int .i64 2,.int .i64 4,.int .i64 4,.int .i64 5]
  have hJ0:=hJ.below hb0
  have f0:(w.alloc (.cells #[.int .i64 0,.int .i64 0,.int .i64 0,.int .i64 0,.int .i64 0,.int .i64 0] 237)).cell? ⟨2,12,none⟩=some (.int .i64 0):=hJ0.2 12 (by omega)
  have f1:(w.alloc (.cells #[.int .i64 0,.int .i64 0,.int .i64 0,.int .i64 0,.int .i64 0,.int .i64 0] 237)).cell? ⟨2,13,none⟩=some (.int .i64 2):=hJ0.2 13 (by omega)
  have f2:(w.alloc (.cells #[.int .i64 0,.int .i64 0,.int .i64 0,.int .i64 0,.int .i64 0,.int .i64 0] 237)).cell? ⟨2,14,none⟩=some (.int .i64 2):=hJ0.2 14 (by omega)
  have f3:(w.alloc (.cells #[.int .i64 0,.int .i64 0,.int .i64 0,.int .i64 0,.int .i64 0,.int .i64 0] 237)).cell? ⟨2,15,none⟩=some (.int .i64 4):=hJ0.2 15 (by omega)
  have f4:(w.alloc (.cells #[.int .i64 0,.int .i64 0,.int .i64 0,.int .i64 0,.int .i64 0,.int .i64 0] 237)).cell? ⟨2,16,none⟩=some (.int .i64 4):=hJ0.2 16 (by omega)
  have f5:(w.alloc (.cells #[.int .i64 0,.int .i64 0,.int .i64 0,.int .i64 0,.int .i64 0,.int .i64 0] 237)).cell? ⟨2,17,none⟩=some (.int .i64 5):=hJ0.2 17 (by omega)
  clear hJ hJ0 hs0 hs9 p0 p9 hb0
  go_enter Tryz.func210,Tryz.ntmps210
  go_wp2
  exact bodyPost_ret (v:=.agg #[.int .i64 0,.int .i64 2,.int .i64 2,.int .i64 4,.int .i64 4,.int .i64 5]) (by simp [results,Tryz.results210,go_sem]) rfl ⟨rfl,hb9⟩
set_option maxHeartbeats 4000000 in
theorem joinsWith_3 (w:World) (hJ:JoinsAt w):Calls Tryz.prog 210 #[.int .i64 3] w (fun e w'=>e=.returned (.agg #[.int .i64 0,.int .i64 3,.int .i64 4,.int .i64 3,.int .i64 4,.int .i64 5])∧Below w.heap.size w w'):=by
  obtain ⟨hb0,p0,hs0⟩:=boxes1 w 237 #[.int .i64 0,.int .i64 0,.int .i64 0,.int .i64 0,.int .i64 0,.int .i64 0]
  obtain ⟨hb9,p9,hs9⟩:=boxes1 w 237 #[.int .i64 0,.int .i64 3,.int .i64 4,.int .i64 3,.int .i64 4,.int .i64 5]
  have hJ0:=hJ.below hb0
  have f0:(w.alloc (.cells #[.int .i64 0,.int .i64 0,.int .i64 0,.int .i64 0,.int .i64 0,.int .i64 0] 237)).cell? ⟨2,18,none⟩=some (.int .i64 0):=hJ0.2 18 (by omega)
  have f1:(w.alloc (.cells #[.int .i64 0,.int .i64 0,.int .i64 0,.int .i64 0,.int .i64 0,.int .i64 0] 237)).cell? ⟨2,19,none⟩=some (.int .i64 3):=hJ0.2 19 (by omega)
  have f2:(w.alloc (.cells #[.int .i64 0,.int .i64 0,.int .i64 0,.int .i64 0,.int .i64 0,.int .i64 0] 237)).cell? ⟨2,20,none⟩=some (.int .i64 4):=hJ0.2 20 (by omega)
  have f3:(w.alloc (.cells #[.int .i64 0,.int .i64 0,.int .i64 0,.int .i64 0,.int .i64 0,.int .i64 0] 237)).cell? ⟨2,21,none⟩=some (.int .i64 3):=hJ0.2 21 (by omega)
  have f4:(w.alloc (.cells #[.int .i64 0,.int .i64 0,.int .i64 0,.int .i64 0,.int .i64 0,.int .i64 0] 237)).cell? ⟨2,22,none⟩=some (.int .i64 4):=hJ0.2 22 (by omega)
  have f5:(w.alloc (.cells #[.int .i64 0,.int .i64 0,.int .i64 0,.int .i64 0,.int .i64 0,.int .i64 0] 237)).cell? ⟨2,23,none⟩=some (.int .i64 5):=hJ0.2 23 (by omega)
  clear hJ hJ0 hs0 hs9 p0 p9 hb0
  go_enter Tryz.func210,Tryz.ntmps210
  go_wp2
  exact bodyPost_ret (v:=.agg #[.int .i64 0,.int .i64 3,.int .i64 4,.int .i64 3,.int .i64 4,.int .i64 5]) (by simp [results,Tryz.results210,go_sem]) rfl ⟨rfl,hb9⟩
set_option maxHeartbeats 4000000 in
theorem joinsWith_4 (w:World) (hJ:JoinsAt w):Calls Tryz.prog 210 #[.int .i64 4] w (fun e w'=>e=.returned (.agg #[.int .i64 0,.int .i64 4,.int .i64 4,.int .i64 4,.int .i64 4,.int .i64 5])∧Below w.heap.size w w'):=by
  obtain ⟨hb0,p0,hs0⟩:=boxes1 w 237 #[.int .i64 0,.int .i64 0,.int .i64 0,.int .i64 0,.int .i64 0,.int .i64 0]
  obtain ⟨hb9,p9,hs9⟩:=boxes1 w 237 #[.int .i64 0,.int .i64 4,.int .i64 4,.int .i64 4,.int .i64 4,.int .i64 5]
  have hJ0:=hJ.below hb0
  have f0:(w.alloc (.cells #[.int .i64 0,.int .i64 0,.int .i64 0,.int .i64 0,.int .i64 0,.int .i64 0] 237)).cell? ⟨2,24,none⟩=some (.int .i64 0):=hJ0.2 24 (by omega)
  have f1:(w.alloc (.cells #[.int .i64 0,.int .i64 0,.int .i64 0,.int .i64 0,.int .i64 0,.int .i64 0] 237)).cell? ⟨2,25,none⟩=some (.int .i64 4):=hJ0.2 25 (by omega)
  have f2:(w.alloc (.cells #[.int .i64 0,.int .i64 0,.int .i64 0,.int .i64 0,.int .i64 0,.int .i64 0] 237)).cell? ⟨2,26,none⟩=some (.int .i64 4):=hJ0.2 26 (by omega)
  have f3:(w.alloc (.cells #[.int .i64 0,.int .i64 0,.int .i64 0,.int .i64 0,.int .i64 0,.int .i64 0] 237)).cell? ⟨2,27,none⟩=some (.int .i64 4):=hJ0.2 27 (by omega)
  have f4:(w.alloc (.cells #[.int .i64 0,.int .i64 0,.int .i64 0,.int .i64 0,.int .i64 0,.int .i64 0] 237)).cell? ⟨2,28,none⟩=some (.int .i64 4):=hJ0.2 28 (by omega)
  have f5:(w.alloc (.cells #[.int .i64 0,.int .i64 0,.int .i64 0,.int .i64 0,.int .i64 0,.int .i64 0] 237)).cell? ⟨2,29,none⟩=some (.int .i64 5):=hJ0.2 29 (by omega)
  clear hJ hJ0 hs0 hs9 p0 p9 hb0
  go_enter Tryz.func210,Tryz.ntmps210
  go_wp2
  exact bodyPost_ret (v:=.agg #[.int .i64 0,.int .i64 4,.int .i64 4,.int .i64 4,.int .i64 4,.int .i64 5]) (by simp [results,Tryz.results210,go_sem]) rfl ⟨rfl,hb9⟩
set_option maxHeartbeats 4000000 in
theorem joinsWith_5 (w:World) (hJ:JoinsAt w):Calls Tryz.prog 210 #[.int .i64 5] w (fun e w'=>e=.returned (.agg #[.int .i64 0,.int .i64 5,.int .i64 5,.int .i64 5,.int .i64 5,.int .i64 5])∧Below w.heap.size w w'):=by
  obtain ⟨hb0,p0,hs0⟩:=boxes1 w 237 #[.int .i64 0,.int .i64 0,.int .i64 0,.int .i64 0,.int .i64 0,.int .i64 0]
  obtain ⟨hb9,p9,hs9⟩:=boxes1 w 237 #[.int .i64 0,.int .i64 5,.int .i64 5,.int .i64 5,.int .i64 5,.int .i64 5]
  have hJ0:=hJ.below hb0
  have f0:(w.alloc (.cells #[.int .i64 0,.int .i64 0,.int .i64 0,.int .i64 0,.int .i64 0,.int .i64 0] 237)).cell? ⟨2,30,none⟩=some (.int .i64 0):=hJ0.2 30 (by omega)
  have f1:(w.alloc (.cells #[.int .i64 0,.int .i64 0,.int .i64 0,.int .i64 0,.int .i64 0,.int .i64 0] 237)).cell? ⟨2,31,none⟩=some (.int .i64 5):=hJ0.2 31 (by omega)
  have f2:(w.alloc (.cells #[.int .i64 0,.int .i64 0,.int .i64 0,.int .i64 0,.int .i64 0,.int .i64 0] 237)).cell? ⟨2,32,none⟩=some (.int .i64 5):=hJ0.2 32 (by omega)
  have f3:(w.alloc (.cells #[.int .i64 0,.int .i64 0,.int .i64 0,.int .i64 0,.int .i64 0,.int .i64 0] 237)).cell? ⟨2,33,none⟩=some (.int .i64 5):=hJ0.2 33 (by omega)
  have f4:(w.alloc (.cells #[.int .i64 0,.int .i64 0,.int .i64 0,.int .i64 0,.int .i64 0,.int .i64 0] 237)).cell? ⟨2,34,none⟩=some (.int .i64 5):=hJ0.2 34 (by omega)
  have f5:(w.alloc (.cells #[.int .i64 0,.int .i64 0,.int .i64 0,.int .i64 0,.int .i64 0,.int .i64 0] 237)).cell? ⟨2,35,none⟩=some (.int .i64 5):=hJ0.2 35 (by omega)
  clear hJ hJ0 hs0 hs9 p0 p9 hb0
  go_enter Tryz.func210,Tryz.ntmps210
  go_wp2
  exact bodyPost_ret (v:=.agg #[.int .i64 0,.int .i64 5,.int .i64 5,.int .i64 5,.int .i64 5,.int .i64 5]) (by simp [results,Tryz.results210,go_sem]) rfl ⟨rfl,hb9⟩
set_option maxHeartbeats 4000000 in
theorem joinsWith_out (k:Int) (hk:k<0∨5<k) (w:World):Calls Tryz.prog 210 #[.int .i64 k] w (fun e w'=>e=.returned (.agg #[.int .i64 0,.int .i64 0,.int .i64 0,.int .i64 0,.int .i64 0,.int .i64 0])∧Below w.heap.size w w'):=by
  obtain ⟨hb9,p9,hs9⟩:=boxes1 w 237 #[.int .i64 0,.int .i64 0,.int .i64 0,.int .i64 0,.int .i64 0,.int .i64 0]
  clear p9 hs9
  by_cases h0:k<0
  · clear hk
    go_enter Tryz.func210,Tryz.ntmps210
    go_wp2
    exact bodyPost_ret (v:=.agg #[.int .i64 0,.int .i64 0,.int .i64 0,.int .i64 0,.int .i64 0,.int .i64 0]) (by simp [results,Tryz.results210,go_sem]) rfl ⟨rfl,hb9⟩
  · have h6:k≥6:=by omega
    clear hk
    go_enter Tryz.func210,Tryz.ntmps210
    go_wp2
    exact bodyPost_ret (v:=.agg #[.int .i64 0,.int .i64 0,.int .i64 0,.int .i64 0,.int .i64 0,.int .i64 0]) (by simp [results,Tryz.results210,go_sem]) rfl ⟨rfl,hb9⟩
theorem joinsWith_any (k:Int) (w:World) (hJ:JoinsAt w):Calls Tryz.prog 210 #[.int .i64 k] w (fun e w'=>e=.returned (.agg #[.int .i64 (joinI k 0),.int .i64 (joinI k 1),.int .i64 (joinI k 2),.int .i64 (joinI k 3),.int .i64 (joinI k 4),.int .i64 (joinI k 5)])∧Below w.heap.size w w'):=by
  by_cases h:0≤k∧k≤5
  · have h6:k=0∨k=1∨k=2∨k=3∨k=4∨k=5:=by omega
    rcases h6 with rfl | rfl | rfl | rfl | rfl | rfl
    · exact joinsWith_0 w hJ
    · exact joinsWith_1 w hJ
    · exact joinsWith_2 w hJ
    · exact joinsWith_3 w hJ
    · exact joinsWith_4 w hJ
    · exact joinsWith_5 w hJ
  · have hn:isKindB k=false:=decide_eq_false (by omega)
    simp only [joinI_out hn]
    exact joinsWith_out k (by omega) w
set_option maxHeartbeats 4000000 in
theorem implIsKind_any (k:Int) (w:World) (hJ:JoinsAt w):Calls Tryz.prog 209 #[.int .i64 k] w (fun e w'=>e=.returned (.bool (isKindB k))∧Below w.heap.size w w'):=by
  by_cases h:0≤k∧k≤5
  · have h6:k=0∨k=1∨k=2∨k=3∨k=4∨k=5:=by omega
    clear h
    rcases h6 with rfl | rfl | rfl | rfl | rfl | rfl
    · skip
      have q0:∀ W,(Op.equalIn 10000 237 (.agg #[.int .i64 0,.int .i64 0,.int .i64 0,.int .i64 0,.int .i64 0,.int .i64 0]) (.agg #[.int .i64 0,.int .i64 0,.int .i64 0,.int .i64 0,.int .i64 0,.int .i64 0])).run Tryz.prog W=.ok true W:=fun _=>by kernel_rfl
      have HJW:=Lib.hid (joinsWith_0 w hJ)
      clear hJ
      go_enter Tryz.func209,Tryz.ntmps209
      go_wp2_with fail
      refine HJW.out.mono ?_
      rintro e w1 ⟨rfl,hb1⟩
      go_wp2
      go_ret
      exact ⟨rfl,hb1⟩
    · skip
      have q0:∀ W,(Op.equalIn 10000 237 (.agg #[.int .i64 0,.int .i64 1,.int .i64 2,.int .i64 3,.int .i64 4,.int .i64 5]) (.agg #[.int .i64 0,.int .i64 0,.int .i64 0,.int .i64 0,.int .i64 0,.int .i64 0])).run Tryz.prog W=.ok false W:=fun _=>by kernel_rfl
      have HJW:=Lib.hid (joinsWith_1 w hJ)
      clear hJ
      go_enter Tryz.func209,Tryz.ntmps209
      go_wp2_with fail
      refine HJW.out.mono ?_
      rintro e w1 ⟨rfl,hb1⟩
      go_wp2
      go_ret
      exact ⟨rfl,hb1⟩
    · skip
      have q0:∀ W,(Op.equalIn 10000 237 (.agg #[.int .i64 0,.int .i64 2,.int .i64 2,.int .i64 4,.int .i64 4,.int .i64 5]) (.agg #[.int .i64 0,.int .i64 0,.int .i64 0,.int .i64 0,.int .i64 0,.int .i64 0])).run Tryz.prog W=.ok false W:=fun _=>by kernel_rfl
      have HJW:=Lib.hid (joinsWith_2 w hJ)
      clear hJ
      go_enter Tryz.func209,Tryz.ntmps209
      go_wp2_with fail
      refine HJW.out.mono ?_
      rintro e w1 ⟨rfl,hb1⟩
      go_wp2
      go_ret
      exact ⟨rfl,hb1⟩
    · skip
      have q0:∀ W,(Op.equalIn 10000 237 (.agg #[.int .i64 0,.int .i64 3,.int .i64 4,.int .i64 3,.int .i64 4,.int .i64 5]) (.agg #[.int .i64 0,.int .i64 0,.int .i64 0,.int .i64 0,.int .i64 0,.int .i64 0])).run Tryz.prog W=.ok false W:=fun _=>by kernel_rfl
      have HJW:=Lib.hid (joinsWith_3 w hJ)
      clear hJ
      go_enter Tryz.func209,Tryz.ntmps209
      go_wp2_with fail
      refine HJW.out.mono ?_
      rintro e w1 ⟨rfl,hb1⟩
      go_wp2
      go_ret
      exact ⟨rfl,hb1⟩
    · skip
      have q0:∀ W,(Op.equalIn 10000 237 (.agg #[.int .i64 0,.int .i64 4,.int .i64 4,.int .i64 4,.int .i64 4,.int .i64 5]) (.agg #[.int .i64 0,.int .i64 0,.int .i64 0,.int .i64 0,.int .i64 0,.int .i64 0])).run Tryz.prog W=.ok false W:=fun _=>by kernel_rfl
      have HJW:=Lib.hid (joinsWith_4 w hJ)
      clear hJ
      go_enter Tryz.func209,Tryz.ntmps209
      go_wp2_with fail
      refine HJW.out.mono ?_
      rintro e w1 ⟨rfl,hb1⟩
      go_wp2
      go_ret
      exact ⟨rfl,hb1⟩
    · skip
      have q0:∀ W,(Op.equalIn 10000 237 (.agg #[.int .i64 0,.int .i64 5,.int .i64 5,.int .i64 5,.int .i64 5,.int .i64 5]) (.agg #[.int .i64 0,.int .i64 0,.int .i64 0,.int .i64 0,.int .i64 0,.int .i64 0])).run Tryz.prog W=.ok false W:=fun _=>by kernel_rfl
      have HJW:=Lib.hid (joinsWith_5 w hJ)
      clear hJ
      go_enter Tryz.func209,Tryz.ntmps209
      go_wp2_with fail
      refine HJW.out.mono ?_
      rintro e w1 ⟨rfl,hb1⟩
      go_wp2
      go_ret
      exact ⟨rfl,hb1⟩
  · have hr:=Lib.hid (show isKindB k=false from decide_eq_false (by omega))
    have hk:k<0∨5<k:=by omega
    clear h
    have q0:∀ W,(Op.equalIn 10000 237 (.agg #[.int .i64 0,.int .i64 0,.int .i64 0,.int .i64 0,.int .i64 0,.int .i64 0]) (.agg #[.int .i64 0,.int .i64 0,.int .i64 0,.int .i64 0,.int .i64 0,.int .i64 0])).run Tryz.prog W=.ok true W:=fun _=>by kernel_rfl
    have HJW:=Lib.hid (joinsWith_out k hk w)
    clear hJ hk
    go_enter Tryz.func209,Tryz.ntmps209
    go_wp2_with fail
    refine HJW.out.mono ?_
    rintro e w1 ⟨rfl,hb1⟩
    go_wp2
    go_ret
    exact ⟨by rw [hr.out];rfl,hb1⟩
set_option maxHeartbeats 4000000 in
theorem implJoinK_any (a b:Int) (w:World) (hJ:JoinsAt w):Calls Tryz.prog 196 #[.int .i64 a,.int .i64 b] w (fun e w'=>e=.returned (.int .i64 (joinI a b))∧Below w.heap.size w w'):=by
  have HK:=Lib.hid (fun W=>implIsKind_any b W)
  have HR:=Lib.hid (fun W=>joinsWith_any a W)
  have HF:=Lib.hid hJ
  cases hb:isKindB b
  · have hr:=Lib.hid (show joinI a b=0 by rw [joinI_comm];exact joinI_out hb a)
    rw [hb] at HK
    clear HR hb hJ
    go_enter Tryz.func196,Tryz.ntmps196
    go_wp2_with fail
    refine (HK.out _ HF.out).mono ?_
    rintro e w1 ⟨rfl,hb1⟩
    go_wp2
    go_ret
    exact ⟨by rw [hr.out];rfl,hb1⟩
  · clear hJ
    rcases five hb with rfl | rfl | rfl | rfl | rfl
    · have hk5:isKindB 1=true:=rfl
      rw [hk5] at HK
      clear hb hk5
      generalize joinI a 0=x0 at *
      generalize joinI a 1=x1 at *
      generalize joinI a 2=x2 at *
      generalize joinI a 3=x3 at *
      generalize joinI a 4=x4 at *
      generalize joinI a 5=x5 at *
      have i0:∀ W,(Instr.index 237 (.agg #[.int .i64 x0,.int .i64 x1,.int .i64 x2,.int .i64 x3,.int .i64 x4,.int .i64 x5]) (.int .i64 1)).run Tryz.prog W=.ok (.int .i64 x1) W:=fun _=>by kernel_rfl
      go_enter Tryz.func196,Tryz.ntmps196
      go_wp2_with fail
      refine (HK.out _ HF.out).mono ?_
      rintro e w1 ⟨rfl,hb1⟩
      have HF1:=Lib.hid (HF.out.below hb1)
      go_wp2_with fail
      refine (HR.out _ HF1.out).mono ?_
      rintro e w2 ⟨rfl,hb2⟩
      go_wp2
      go_ret
      exact ⟨rfl,hb1.trans (hb2.mono hb1.size)⟩
    · have hk5:isKindB 2=true:=rfl
      rw [hk5] at HK
      clear hb hk5
      generalize joinI a 0=x0 at *
      generalize joinI a 1=x1 at *
      generalize joinI a 2=x2 at *
      generalize joinI a 3=x3 at *
      generalize joinI a 4=x4 at *
      generalize joinI a 5=x5 at *
      have i0:∀ W,(Instr.index 237 (.agg #[.int .i64 x0,.int .i64 x1,.int .i64 x2,.int .i64 x3,.int .i64 x4,.int .i64 x5]) (.int .i64 2)).run Tryz.prog W=.ok (.int .i64 x2) W:=fun _=>by kernel_rfl
      go_enter Tryz.func196,Tryz.ntmps196
      go_wp2_with fail
      refine (HK.out _ HF.out).mono ?_
      rintro e w1 ⟨rfl,hb1⟩
      have HF1:=Lib.hid (HF.out.below hb1)
      go_wp2_with fail
      refine (HR.out _ HF1.out).mono ?_
      rintro e w2 ⟨rfl,hb2⟩
      go_wp2
      go_ret
      exact ⟨rfl,hb1.trans (hb2.mono hb1.size)⟩
    · have hk5:isKindB 3=true:=rfl
      rw [hk5] at HK
      clear hb hk5
      generalize joinI a 0=x0 at *
      generalize joinI a 1=x1 at *
      generalize joinI a 2=x2 at *
      generalize joinI a 3=x3 at *
      generalize joinI a 4=x4 at *
      generalize joinI a 5=x5 at *
      have i0:∀ W,(Instr.index 237 (.agg #[.int .i64 x0,.int .i64 x1,.int .i64 x2,.int .i64 x3,.int .i64 x4,.int .i64 x5]) (.int .i64 3)).run Tryz.prog W=.ok (.int .i64 x3) W:=fun _=>by kernel_rfl
      go_enter Tryz.func196,Tryz.ntmps196
      go_wp2_with fail
      refine (HK.out _ HF.out).mono ?_
      rintro e w1 ⟨rfl,hb1⟩
      have HF1:=Lib.hid (HF.out.below hb1)
      go_wp2_with fail
      refine (HR.out _ HF1.out).mono ?_
      rintro e w2 ⟨rfl,hb2⟩
      go_wp2
      go_ret
      exact ⟨rfl,hb1.trans (hb2.mono hb1.size)⟩
    · have hk5:isKindB 4=true:=rfl
      rw [hk5] at HK
      clear hb hk5
      generalize joinI a 0=x0 at *
      generalize joinI a 1=x1 at *
      generalize joinI a 2=x2 at *
      generalize joinI a 3=x3 at *
      generalize joinI a 4=x4 at *
      generalize joinI a 5=x5 at *
      have i0:∀ W,(Instr.index 237 (.agg #[.int .i64 x0,.int .i64 x1,.int .i64 x2,.int .i64 x3,.int .i64 x4,.int .i64 x5]) (.int .i64 4)).run Tryz.prog W=.ok (.int .i64 x4) W:=fun _=>by kernel_rfl
      go_enter Tryz.func196,Tryz.ntmps196
      go_wp2_with fail
      refine (HK.out _ HF.out).mono ?_
      rintro e w1 ⟨rfl,hb1⟩
      have HF1:=Lib.hid (HF.out.below hb1)
      go_wp2_with fail
      refine (HR.out _ HF1.out).mono ?_
      rintro e w2 ⟨rfl,hb2⟩
      go_wp2
      go_ret
      exact ⟨rfl,hb1.trans (hb2.mono hb1.size)⟩
    · have hk5:isKindB 5=true:=rfl
      rw [hk5] at HK
      clear hb hk5
      generalize joinI a 0=x0 at *
      generalize joinI a 1=x1 at *
      generalize joinI a 2=x2 at *
      generalize joinI a 3=x3 at *
      generalize joinI a 4=x4 at *
      generalize joinI a 5=x5 at *
      have i0:∀ W,(Instr.index 237 (.agg #[.int .i64 x0,.int .i64 x1,.int .i64 x2,.int .i64 x3,.int .i64 x4,.int .i64 x5]) (.int .i64 5)).run Tryz.prog W=.ok (.int .i64 x5) W:=fun _=>by kernel_rfl
      go_enter Tryz.func196,Tryz.ntmps196
      go_wp2_with fail
      refine (HK.out _ HF.out).mono ?_
      rintro e w1 ⟨rfl,hb1⟩
      have HF1:=Lib.hid (HF.out.below hb1)
      go_wp2_with fail
      refine (HR.out _ HF1.out).mono ?_
      rintro e w2 ⟨rfl,hb2⟩
      go_wp2
      go_ret
      exact ⟨rfl,hb1.trans (hb2.mono hb1.size)⟩
theorem within_join {a b:Int} (hb:isKindB b=true):(joinI a b == b)=withinB a b:=by
  by_cases ha:isKindB a=true
  · rcases five ha with rfl | rfl | rfl | rfl | rfl<;>rcases five hb with rfl | rfl | rfl | rfl | rfl<;>rfl
  · have ha':isKindB a=false:=by simpa using ha
    rw [joinI_out ha']
    simp only [withinB,ha',Bool.false_and]
    rcases five hb with rfl | rfl | rfl | rfl | rfl<;>rfl
set_option maxHeartbeats 4000000 in
theorem implIsWithin_any (a b:Int) (w:World) (hJ:JoinsAt w):Calls Tryz.prog 197 #[.int .i64 a,.int .i64 b] w (BoolIs (withinB a b) w):=by
  have HK:=Lib.hid (fun W=>implIsKind_any b W)
  have HR:=Lib.hid (fun W=>implJoinK_any a b W)
  have HF:=Lib.hid hJ
  clear hJ
  cases hb:isKindB b
  · have hr:=Lib.hid (show withinB a b=false by simp [withinB,hb])
    rw [hb] at HK
    clear HR hb
    go_enter Tryz.func197,Tryz.ntmps197
    go_wp2_with fail
    refine (HK.out _ HF.out).mono ?_
    rintro e w1 ⟨rfl,hb1⟩
    go_wp2
    go_ret
    exact ⟨by rw [hr.out];rfl,hb1⟩
  · have hr:=Lib.hid (within_join (a:=a) hb)
    rw [hb] at HK
    clear hb
    generalize joinI a b=j at *
    go_enter Tryz.func197,Tryz.ntmps197
    go_wp2_with fail
    refine (HK.out _ HF.out).mono ?_
    rintro e w1 ⟨rfl,hb1⟩
    have HF1:=Lib.hid (HF.out.below hb1)
    go_wp2_with fail
    refine (HR.out _ HF1.out).mono ?_
    rintro e w2 ⟨rfl,hb2⟩
    go_wp2
    go_ret
    exact ⟨by rw [← hr.out];rfl,hb1.trans (hb2.mono hb1.size)⟩
end
section
set_option maxRecDepth 100000
open Go.RowKit
def CopyTwo (t:Ty):Prop:=∀ (v:Value) (w:World),TyAt w w.heap.size v t→szTy t≤1048576→Calls Tryz.prog 55 #[v] w (NewTy w t)
set_option maxHeartbeats 4000000 in
theorem copyType_of (k0:Int) (ls:List ByteArray) (ts:List Ty) (hall:∀ i,(h:i<ts.length)→CopyTwo ts[i]):CopyTwo (.mk k0 ls ts):=by
 intro v w hv hsz
 obtain ⟨L,lc,A,ac,rfl,hn,hz,hl,ha⟩:=hv.open
 rw [szTy_eq] at hsz
 simp only [Ty.kind,Ty.labels,Ty.args] at *
 have hls:∀ i,(h:i<ls.length)→ls[i].size≤1048576:=fun i h=>by have:=size_le_sumSizes ls i h;omega
 have hcp:=Lib.hid (fun W h=>copyNames_any L lc ls W h (by omega) hls)
 have hm:=ha.1
 unfold maxLen at hm
 have HALL:=Lib.hid hall
 have HN:=Lib.hid hz
 have HNN:=Lib.hid hn
 clear hall hz hv hls hn
 obtain ⟨hb0,p0,r0,hs0⟩:=boxes2 w 27 27 #[.int .i64 k0,.slice L ls.length lc,.slice A ts.length ac] #[.int .i64 0,.slice none 0 0,.slice none 0 0]
 have ha0:=ha.up hb0
 have hl0:=hl.up' hb0
 clear ha hl
 go_enter Tryz.func55,Tryz.ntmps55
 go_wp2
 generalize (w.alloc (.cells #[.int .i64 k0,.slice L ls.length lc,.slice A ts.length ac] 27)).alloc (.cells #[.int .i64 0,.slice none 0 0,.slice none 0 0] 27)=w0 at *
 have hpl:=p0.lt
 have hrl:=r0.lt
 have HZ:=Lib.hid hs0
 obtain ⟨i1,hi1,hy0,hy1,hy2⟩:=info_parts infoType
 have hle:=szTys_len ts
 clear hs0
 go_loopw [3,9] (fun v i wr=>∃ k:Nat,k≤ts.length∧i=.int .i64 k∧Gather wr w0.heap.size v k ts∧Below w0.heap.size w0 wr) (fun _ i _=>ts.length - (intOf i).toNat)
 case atStart=>exact ⟨0,Nat.zero_le _,rfl,Gather.start _ _ _,Below.refl _ _⟩
 case round=>
  obtain ⟨k,hk,rfl,hga,hb⟩:=hrel
  have hbs:=hb.size
  by_cases hlt:k<ts.length
  ·obtain ⟨b,off,M,mc,C,cc,rfl,hbl,e0,e1,e2,_,_,_,_,ht⟩:=(ha0.below hb).elem k hlt
   have hpt:=szTy_part ts k hlt
   have hbx:=(Below.refl wr.heap.size wr).alloc (Nat.le_refl _) (.cells #[.int .i64 ts[k].kind,.slice M ts[k].labels.length mc,.slice C ts[k].args.length cc] 27)
   have HT:=Lib.hid (HALL.out k hlt _ _ ((ht.more hbs).up hbx) (by omega))
   obtain ⟨xs,vs,lo,hi',hG0⟩:=hga.below hbx
   have HG:=Lib.hid hG0
   have HOWN:=Lib.hid hG0.own
   have hbx':=hb.trans (hbx.mono hbs)
   have hsx:=hbx'.size
   have HBX:=Lib.hid hbx'
   clear hga hG0 ht hbx hbx' hb
   go_wp2_with fail
   generalize wr.alloc (.cells #[.int .i64 ts[k].kind,.slice M ts[k].labels.length mc,.slice C ts[k].args.length cc] 27)=wx at *
   refine HT.out.mono ?_
   rintro e w1 ⟨v1,rfl,ht1,hb1⟩
   have HT1:=Lib.hid ht1
   obtain ⟨T1,U1,T2,U2,_,rfl,_⟩:=ht1.open
   clear ht1 e0 e1 e2
   have hs1:=hb1.size
   have hown1:=(own_keep HOWN.out fun g hg=>hb1.block g (HOWN.out.lt g hg).2).alloc (.cells #[.int .i64 ts[k].kind,.slice T1 ts[k].labels.length U1,.slice T2 ts[k].args.length U2] 27)
   have hnews:=news3 w1 27 (.int .i64 ts[k].kind) (.slice T1 ts[k].labels.length U1) (.slice T2 ts[k].args.length U2)
   have HB1:=Lib.hid hb1
   clear hb1
   go_wp2_with (at_builtin;refine wpList_append_lies _ rfl (.tmp 13) (.tmp 16) _ rfl w0.heap.size 27 i1 (.agg #[.int .i64 0,.slice none 0 0,.slice none 0 0]) 3 56 Tryz.underlying25 hi1 hy0 hy1 hy2 rfl (by decide) _ k xs rfl hown1 ⟨w1.heap.size,0,none⟩ 1 1 [.int .i64 ts[k].kind,.slice T1 ts[k].labels.length U1,.slice T2 ts[k].args.length U2] rfl rfl hnews.1 hnews.2 (by omega) (by unfold maxLen;omega) (by omega) (by simp;omega) (w1.heap.size+1) (by simp) ?_;intro g cap w3 hown3 hg3 hat3 hlt3)
   have HOWN3:=Lib.hid hown3
   have HG3:=Lib.hid hg3
   have HAT:=Lib.hid hat3
   clear hown3 hg3 hat3 hown1 hnews
   go_wp2
   go_roundw
   case rel=>
    refine ⟨k+1,by omega,by go_num,HG.out.step HB1.out (by omega) hlt HT1.out HOWN3.out HG3.out HAT.out,?_⟩
    have hvb:=fun g hg=>(HOWN.out.lt g hg).1
    exact ((HBX.out.trans (HB1.out.mono hsx)).alloc (by omega) _).grown HG3.out (by simp;omega) hvb
   case measure=>simp [intOf];omega
  ·have hke:k=ts.length:=by omega
   subst hke
   have p1:=p0.below hb hpl
   have r1:=r0.below hb hrl
   have c0:wr.cell? ⟨w.heap.size,0,none⟩=some (.int .i64 k0):=p1.cell 0
   have c1:wr.cell? ⟨w.heap.size,1,none⟩=some (.slice L ls.length lc):=p1.cell 1
   obtain ⟨A2,c2,rfl⟩:∃ A2 c2,u3=.slice A2 ts.length c2:=by
    obtain ⟨xs,vs,lo,hi',hG⟩:=hga
    rcases hG.own.2 with ⟨h1,h2⟩ | ⟨g,cap,cur,h1,_⟩
    ·exact ⟨none,0,by rw [h1,h2]⟩
    ·exact ⟨_,_,h1⟩
   have hdone:=hga.done (by unfold maxLen;omega)
   have HD:=Lib.hid hdone
   have hl1:=(hl0.below hb).more hb.size
   have ed:=(Below.refl wr.heap.size wr).drew
   have HCN:=Lib.hid (hcp.out wr.drew hl1)
   have hplr:w.heap.size<wr.heap.size:=p1.lt
   have hrlr:w.heap.size+1<wr.heap.size:=r1.lt
   have j0:=dC c0
   have j1:=dC c1
   have HB:=Lib.hid hb
   clear hga hdone hl1 p1 hcp hb
   go_upto_region 7 with fail
   go_region_held3 (fun x:World=>x.cell? ⟨w.heap.size,0,none⟩=some (.int .i64 k0)∧x.cell? ⟨w.heap.size,1,none⟩=some (.slice L ls.length lc))
    (first | (with_reducible exact ⟨j0,j1⟩) | (with_reducible exact ⟨m0,m1⟩) | (with_reducible exact ⟨s0,s1⟩))
    (first | (go_at_call 103;refine HCN.out.mono ?_;rintro e wC ⟨vn,rfl,hownC,hb1⟩;obtain ⟨A1,c1',rfl,hrow⟩:=own_form (ss:=ls) hownC rfl;have hbC:=ed.trans hb1;have m0:=(kC hbC c0 hplr);have m1:=(kC hbC c1 hplr);have rC:=r1.below hbC hrlr;obtain ⟨d0,d1,d2⟩:=rC.c3;obtain ⟨f0,f1,f2⟩:=rC.f3;have hbS:=(((Below.refl (w.heap.size+1) wC).setCell (p:=⟨w.heap.size+1,0,none⟩) (Nat.le_refl _) (.int .i64 k0)).setCell (p:=⟨w.heap.size+1,1,none⟩) (Nat.le_refl _) (.slice A1 ls.length c1')).setCell (p:=⟨w.heap.size+1,2,none⟩) (Nat.le_refl _) (.slice A2 ts.length c2);have s0:=(kC hbS m0 (Nat.lt_succ_self _));have s1:=(kC hbS m1 (Nat.lt_succ_self _))))
   have HRow:=Lib.hid hrow
   have HbC:=Lib.hid hbC
   clear hrow hownC hb1 hbS s0 s1 m0 m1 rC
   go_wp2
   refine bodyPost_ret (v:=.agg #[.int .i64 k0,.slice A1 ls.length c1',.slice A2 ts.length c2]) (by simp [results,Tryz.results55,go_sem,d0,d1,d2]) rfl ⟨_,rfl,?_,?_⟩
   ·have hS:(((wC.setCell ⟨w.heap.size+1,0,none⟩ (.int .i64 k0)).setCell ⟨w.heap.size+1,1,none⟩ (.slice A1 ls.length c1')).setCell ⟨w.heap.size+1,2,none⟩ (.slice A2 ts.length c2)).heap.size=wC.heap.size:=by simp [World.setCell]
    have hk':∀ q,q≠w.heap.size+1→(((wC.setCell ⟨w.heap.size+1,0,none⟩ (.int .i64 k0)).setCell ⟨w.heap.size+1,1,none⟩ (.slice A1 ls.length c1')).setCell ⟨w.heap.size+1,2,none⟩ (.slice A2 ts.length c2)).heap[q]?=wC.heap[q]?:=fun q hq=>by
     rw [Below.heap_setCell _ _ _ _ hq,Below.heap_setCell _ _ _ _ hq,Below.heap_setCell _ _ _ _ hq]
    rw [hS]
    have hzz:=HZ.out
    have hsC:=HbC.out.size
    have hD2:=(HD.out.keep (w':=wC) fun b hb' hbl=>HbC.out.block b hbl).keep (w':=(((wC.setCell ⟨w.heap.size+1,0,none⟩ (.int .i64 k0)).setCell ⟨w.heap.size+1,1,none⟩ (.slice A1 ls.length c1')).setCell ⟨w.heap.size+1,2,none⟩ (.slice A2 ts.length c2))) fun b hb' _=>hk' b (by have:=hb'.1;omega)
    rcases HRow.out with hl0' | ⟨g,hA1,hg0,hrg⟩
    ·exact TyIn.of (t:=.mk k0 ls ts) (gl:=0) HNN.out HN.out (.inl hl0') hD2 fun b hb'=>⟨⟨by have:=hb'.1;omega,by have:=hb'.2;omega⟩,by have:=hb'.1;omega⟩
    ·have hgl:=hrg.lt
     have hg1:wr.heap.size≤g:=hg0
     exact TyIn.of (t:=.mk k0 ls ts) (gl:=g) HNN.out HN.out (.inr ⟨hA1,⟨by omega,by omega⟩,hrg.same (hk' g (by omega))⟩) hD2 fun b hb'=>⟨⟨by have:=hb'.1;omega,by have:=hb'.2;omega⟩,by have:=hb'.2;omega⟩
   ·have hbA:=hb0.trans ((HB.out.trans (HbC.out.mono HB.out.size)).mono hb0.size)
    exact ((hbA.setCell (p:=⟨w.heap.size+1,0,none⟩) (Nat.le_succ _) _).setCell (p:=⟨w.heap.size+1,1,none⟩) (Nat.le_succ _) _).setCell (p:=⟨w.heap.size+1,2,none⟩) (Nat.le_succ _) _
theorem copyType_any (t:Ty):CopyTwo t:=by
 induction t using Ty.ind with
 | h k ls ts ih=>exact copyType_of k ls ts ih
end
end Go.Proofs.YtfnblkcmcfofoaaGreatDoor
