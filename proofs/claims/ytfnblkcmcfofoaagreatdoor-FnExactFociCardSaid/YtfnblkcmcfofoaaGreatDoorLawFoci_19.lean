/- Lemmas: SpecOTwo. -/
import Derived.Test.YtfnblkcmcfofoaaGreatDoorLawFoci_17
import Derived.Test.YtfnblkcmcfofoaaGreatDoorLawFoci_18
import Derived.Deep.CutRange
import Derived.Deep.DeepCutAuto
import Derived.StillTailTactics

namespace Go.Proofs.YtfnblkcmcfofoaaGreatDoor
set_option maxRecDepth 100000
open Go.RowKit
attribute [local go_sem ↓] Go.wp_at_zero Go.wp_at_succ
def tyO (r:Option (Ty×Int)):Ty:=match r with | none=>zeroTy | some p=>p.1
def kdO (r:Option (Ty×Int)):Int:=match r with | none=>0 | some p=>p.2
def TypePost (t:Ty) (kd:Int) (ok:Bool) (w:World) (e:Ending) (w':World):Prop:=
  ∃ v,e=.returned (.tuple #[v,.int .i64 kd,.bool ok])∧TyIn w' (Span w.heap.size w'.heap.size) v t∧Below w.heap.size w w'
def TypeOneO (o:Ot):Prop:=∀ (s:Ty) (sv ov:Value) (w:World),TyAt w w.heap.size sv s→OtAt w w.heap.size ov o→validB s=true→formOt o=true→szOt o≤1048576→
  Calls Tryz.prog 57 #[sv,ov] w (TypePost (tyO (typeO o s)) (kdO (typeO o s)) (typeO o s).isSome w)
theorem sz_tyO (o:Ot) (s:Ty):szTy (tyO (typeO o s))≤660:=by
  cases h:typeO o s with
  | none=>simp [tyO,zeroTy,szTy_eq,Ty.labels,Ty.args,sumSizes,szTys]
  | some p=>exact szTy_valid (typeO_valid (t:=p.1) (kd:=p.2) h)
theorem cellT_heap {w w':World} {b i:Nat} (h:w'.heap[b]?=w.heap[b]?):w'.cell? ⟨b,i,none⟩=w.cell? ⟨b,i,none⟩:=by
  simp only [World.cell?,h]
theorem setT_heap (W:World) (z q:Nat) (hq:q≠z) (a b c:Value):(((W.setCell ⟨z,0,none⟩ a).setCell ⟨z,1,none⟩ b).setCell ⟨z,2,none⟩ c).heap[q]?=W.heap[q]?:=by
  rw [Below.heap_setCell _ _ _ _ hq,Below.heap_setCell _ _ _ _ hq,Below.heap_setCell _ _ _ _ hq]
structure Got (b wx:World) (z:Nat) (T1 T2:Option Addr) (U1 U2:Nat) (t:Ty):Prop where
  box:Whole1 wx z 27 #[.int .i64 t.kind,.slice T1 t.labels.length U1,.slice T2 t.args.length U2]
  tree:TyIn wx (Span b.heap.size wx.heap.size) (.agg #[.int .i64 t.kind,.slice T1 t.labels.length U1,.slice T2 t.args.length U2]) t
  below:Below b.heap.size b wx
  apart:b.heap.size≤z
theorem Got.late {b w1:World} {B:Nat} {T1 T2:Option Addr} {U1 U2:Nat} {t:Ty} (hv:TyIn w1 (Span B w1.heap.size) (.agg #[.int .i64 t.kind,.slice T1 t.labels.length U1,.slice T2 t.args.length U2]) t) (hB:b.heap.size≤B) (hb:Below b.heap.size b w1):
    Got b (w1.alloc (.cells #[.int .i64 t.kind,.slice T1 t.labels.length U1,.slice T2 t.args.length U2] 27)) w1.heap.size T1 T2 U1 U2 t:=by
  have ha:=(Below.refl w1.heap.size w1).alloc (Nat.le_refl _) (.cells #[.int .i64 t.kind,.slice T1 t.labels.length U1,.slice T2 t.args.length U2] 27)
  exact ⟨Whole1.new _ _ _,(hv.keep fun q _ hq=>ha.block q hq).wide fun _ hq=>⟨Nat.le_trans hB hq.1,Nat.lt_of_lt_of_le hq.2 ha.size⟩,hb.trans (ha.mono hb.size),hb.size⟩
theorem Got.early {b w1:World} {B g:Nat} {T1 T2:Option Addr} {U1 U2:Nat} {t:Ty} {cs:Array Value} (hv:TyIn w1 (Span B w1.heap.size) (.agg #[.int .i64 t.kind,.slice T1 t.labels.length U1,.slice T2 t.args.length U2]) t) (hg:g<B) (hbg:b.heap.size≤g) (hz:Whole1 w1 g 27 cs) (h3:cs.size=3) (hb:Below b.heap.size b w1):
    Got b (((w1.setCell ⟨g,0,none⟩ (.int .i64 t.kind)).setCell ⟨g,1,none⟩ (.slice T1 t.labels.length U1)).setCell ⟨g,2,none⟩ (.slice T2 t.args.length U2)) g T1 T2 U1 U2 t:=by
  have h1:=set3_in (w:=b) hv hg hbg hb (.int .i64 t.kind) (.slice T1 t.labels.length U1) (.slice T2 t.args.length U2)
  refine ⟨?_,h1.1,h1.2,hbg⟩
  have h2:=((hz.set 0 (.int .i64 t.kind)).set 1 (.slice T1 t.labels.length U1)).set 2 (.slice T2 t.args.length U2)
  obtain ⟨⟨l⟩⟩:Nonempty {l:List Value // cs=l.toArray}:=⟨⟨cs.toList,by simp⟩⟩
  rename_i hl
  subst hl
  match l,h3 with
  | [a,b,c],_=>exact h2
theorem Got.up {b wx w':World} {z U1 U2:Nat} {T1 T2:Option Addr} {t:Ty} (h:Got b wx z T1 T2 U1 U2 t) (hb:Below wx.heap.size wx w'):Got b w' z T1 T2 U1 U2 t:=
  ⟨h.box.below hb h.box.lt,(h.tree.keep fun q _ hq=>hb.block q hq).wide fun _ hq=>⟨hq.1,Nat.lt_of_lt_of_le hq.2 hb.size⟩,h.below.trans (hb.mono h.below.size),h.apart⟩
theorem form_name {k n:Int} {nm:ByteArray} {ts:List Ot} (h:formOt (.mk k n nm ts)=true):nm.size≤1000:=by
  simp only [formOt,nodeOB,Bool.and_eq_true] at h
  have h1:=h.2.1.1
  split at h1
  · unfold isNameB at h1
    simp only [Bool.and_eq_true,decide_eq_true_eq] at h1
    omega
  · have:=of_decide_eq_true h1
    omega
theorem form_two {k n:Int} {nm:ByteArray} {ts:List Ot} (h:formOt (.mk k n nm ts)=true) (hk:k=12∨k=13):∃ a b,ts=[a,b]∧formOt a=true∧formOt b=true:=by
  simp only [formOt,nodeOB,Bool.and_eq_true,decide_eq_true_eq] at h
  have h1:=h.2.1.2
  have:ts.length=2:=by unfold arityI at h1;rw [if_neg (by omega),if_pos (by omega)] at h1;omega
  match ts,this with
  | [a,b],_=>
    have h2:=formOts_at _ h.1
    exact ⟨a,b,rfl,h2 0 (by simp),h2 1 (by simp)⟩
theorem form_one {k n:Int} {nm:ByteArray} {ts:List Ot} (h:formOt (.mk k n nm ts)=true) (hk:k=11):∃ a,ts=[a]∧formOt a=true:=by
  simp only [formOt,nodeOB,Bool.and_eq_true,decide_eq_true_eq] at h
  have h1:=h.2.1.2
  have:ts.length=1:=by unfold arityI at h1;rw [if_pos hk] at h1;omega
  match ts,this with
  | [a],_=>exact ⟨a,rfl,formOts_at _ h.1 0 (by simp)⟩
theorem oargs_at {w:World} {B' ac:Nat} {k n:Int} {nm:ByteArray} {ts:List Ot} {A:Option Addr} (h:OtAt w B' (.agg #[.int .i64 k,.string nm,.int .i64 n,.slice A ts.length ac]) (.mk k n nm ts)):OtsAt w B' A ts:=by
  obtain ⟨A',ac',h5,_,ha⟩:=h.open
  simp only [Value.agg.injEq,Array.mk.injEq,List.cons.injEq,Value.slice.injEq] at h5
  obtain ⟨_,_,_,⟨rfl,_,_⟩,_⟩:=h5
  exact ha
theorem thenO_some {f g:Ty→Option (Ty×Int)} {s a:Ty} {one:Int} (h:f s=some (a,one)):(thenO f g s=none∨thenO f g s=some (tyO (g a),joinI one (kdO (g a))))∧(thenO f g s).isSome=(g a).isSome:=by
  simp only [thenO,h]
  cases g a with
  | none=>exact ⟨Or.inl rfl,rfl⟩
  | some p=>exact ⟨Or.inr rfl,rfl⟩
theorem thenO_none {f g:Ty→Option (Ty×Int)} {s:Ty} (h:f s=none):thenO f g s=none:=by simp only [thenO,h]
theorem elseO_none {f g:Ty→Option (Ty×Int)} {s:Ty} (h:f s=none):elseO f g s=none:=by simp only [elseO,h]
theorem elseO_some {f g:Ty→Option (Ty×Int)} {s a:Ty} {one:Int} (h:f s=some (a,one)):(elseO f g s=none∨elseO f g s=some (a,4))∧(elseO f g s).isSome=((g s).isSome&&(withinB one 4&&(withinB (kdO (g s)) 4&&eqTyB a (tyO (g s))))):=by
  simp only [elseO,h]
  cases g s with
  | none=>exact ⟨Or.inl rfl,rfl⟩
  | some p=>
    obtain ⟨b,two⟩:=p
    simp only [tyO,kdO]
    cases withinB one 4<;>cases withinB two 4<;>cases eqTyB a b<;>simp
theorem two_partsO {w:World} {B:Nat} {A:Option Addr} {o0 o1:Ot} (h:OtsAt w B A [o0,o1]):∃ b off A0 c0 A1 c1,A=some ⟨b,off,none⟩∧b<B∧
    (w.cell? ⟨b,off,none⟩=some (.int .i64 o0.kind)∧w.cell? ⟨b,off+1,none⟩=some (.string o0.name)∧w.cell? ⟨b,off+2,none⟩=some (.int .i64 o0.num)∧w.cell? ⟨b,off+3,none⟩=some (.slice A0 o0.args.length c0))∧
    (w.cell? ⟨b,off+4,none⟩=some (.int .i64 o1.kind)∧w.cell? ⟨b,off+4+1,none⟩=some (.string o1.name)∧w.cell? ⟨b,off+4+2,none⟩=some (.int .i64 o1.num)∧w.cell? ⟨b,off+4+3,none⟩=some (.slice A1 o1.args.length c1))∧
    OtAt w B (.agg #[.int .i64 o0.kind,.string o0.name,.int .i64 o0.num,.slice A0 o0.args.length c0]) o0∧OtAt w B (.agg #[.int .i64 o1.kind,.string o1.name,.int .i64 o1.num,.slice A1 o1.args.length c1]) o1:=by
  obtain ⟨b,off,A0,c0,rfl,hb,x0,x2,x1,x3,h0⟩:=h.elem 0 (by simp)
  obtain ⟨b',off',A1,c1,e,_,y0,y2,y1,y3,h1⟩:=h.elem 1 (by simp)
  injection e with e
  injection e with e1 e2
  subst e1 e2
  exact ⟨b,off,A0,c0,A1,c1,rfl,hb,⟨x0,x1,x2,x3⟩,⟨y0,y1,y2,y3⟩,h0,h1⟩
set_option maxHeartbeats 4000000 in
theorem specIsWithin_same (a b:Int) (w:World):Calls Tryz.prog 138 #[.int .i64 a,.int .i64 b] w fun e w'=>e=.returned (.bool (withinB a b))∧w=w':=by
  have HA:=specIsKind_any a
  have HB:=specIsKind_any b
  cases ha:isKindB a
  · have hr:=Lib.hid (show withinB a b=false by simp [withinB,ha])
    rw [ha] at HA
    have HA':=Lib.hid HA
    clear HA HB ha
    go_enter Tryz.func138,Tryz.ntmps138
    go_wp2_with fail
    refine (HA'.out _).mono ?_
    rintro e w1 ⟨rfl,rfl⟩
    go_wp2
    go_ret
    exact ⟨by rw [hr.out];rfl,rfl⟩
  · cases hb:isKindB b
    · have hr:=Lib.hid (show withinB a b=false by simp [withinB,hb])
      rw [ha] at HA
      rw [hb] at HB
      have HA':=Lib.hid HA
      have HB':=Lib.hid HB
      clear HA HB ha hb
      go_enter Tryz.func138,Tryz.ntmps138
      go_wp2_with fail
      refine (HA'.out _).mono ?_
      rintro e w1 ⟨rfl,rfl⟩
      go_wp2_with fail
      refine (HB'.out _).mono ?_
      rintro e w1 ⟨rfl,rfl⟩
      go_wp2
      go_ret
      exact ⟨by rw [hr.out];rfl,rfl⟩
    · clear HA HB
      rcases five ha with rfl | rfl | rfl | rfl | rfl<;>rcases five hb with rfl | rfl | rfl | rfl | rfl <;>
        (clear ha hb
         go_enter Tryz.func138,Tryz.ntmps138
         go_wp2
         go_ret
         exact ⟨rfl,rfl⟩)
set_option maxHeartbeats 4000000 in
theorem specLeaf_any (k n0:Int) (nm:ByteArray) (ts:List Ot) (B:Option Addr) (bc:Nat) (s:Ty) (sv:Value) (w:World) (hv:TyAt w w.heap.size sv s) (hval:validB s=true) (hnm:nm.size≤1000) (hk:k≠11∧k≠12∧k≠13):
    Calls Tryz.prog 149 #[sv,.agg #[.int .i64 k,.string nm,.int .i64 n0,.slice B ts.length bc]] w (SomePost (leafO k nm s) w):=by
  obtain ⟨L,lc,A,ac,rfl,_⟩:=hv.open
  cases s with
  | mk sk sl sa=>
  simp only [Ty.kind,Ty.labels,Ty.args] at hv ⊢
  by_cases h1:k=1
  · subst h1;exact leaf_id sk sl sa L A B lc ac bc n0 nm ts w hv hval
  by_cases h2:k=2
  · subst h2
    by_cases h:sk=3
    · subst h;exact leaf_field sl sa L A B lc ac bc n0 nm ts w hv hval
    · have e:leafO 2 nm (.mk sk sl sa)=none:=by simp [leafO,Ty.kind,h]
      rw [e];exact leaf_no2 sk sl sa L A B lc ac bc n0 nm ts w hv hval (by simp [h])
  by_cases h3:k=3
  · subst h3
    by_cases h:sk=4
    · subst h;exact leaf_case sl sa L A B lc ac bc n0 nm ts w hv hval
    · have e:leafO 3 nm (.mk sk sl sa)=none:=by simp [leafO,Ty.kind,h]
      rw [e];exact leaf_no3 sk sl sa L A B lc ac bc n0 nm ts w hv hval (by simp [h])
  by_cases h4:k=4
  · subst h4
    by_cases h:sk=5
    · subst h
      obtain ⟨e1,rfl⟩:=list_one hval
      exact leaf_each sl e1 L A B lc ac bc n0 nm ts w hv hval
    · have e:leafO 4 nm (.mk sk sl sa)=none:=by simp [leafO,Ty.kind,h]
      rw [e];exact leaf_no4 sk sl sa L A B lc ac bc n0 nm ts w hv hval (by simp [h])
  by_cases h5:k=5
  · subst h5
    cases hu:uniformB (.mk sk sl sa)
    · have e:leafO 5 nm (.mk sk sl sa)=none:=by simp [leafO,hu]
      rw [e];exact leaf_no5 sk sl sa L A B lc ac bc n0 nm ts w hv hval hu
    · have h0:=uniform_first hu
      simp only [Ty.args] at h0
      have e:leafO 5 nm (.mk sk sl sa)=some (sa[0],5):=by simp [leafO,hu,Ty.args,h0]
      rw [e];exact leaf_all sk sl sa L A B lc ac bc n0 nm ts w hv hval hu h0
  by_cases h6:k=6
  · subst h6
    by_cases h:sk=5
    · subst h
      obtain ⟨e1,rfl⟩:=list_one hval
      exact leaf_at sl e1 L A B lc ac bc n0 nm ts w hv hval
    · have e:leafO 6 nm (.mk sk sl sa)=none:=by simp [leafO,Ty.kind,h]
      rw [e];exact leaf_no6 sk sl sa L A B lc ac bc n0 nm ts w hv hval (by simp [h])
  by_cases h7:k=7
  · subst h7
    by_cases h:sk=1
    · subst h;exact leaf_add sl sa L A B lc ac bc n0 nm ts w hv hval
    · have e:leafO 7 nm (.mk sk sl sa)=none:=by simp [leafO,Ty.kind,h]
      rw [e];exact leaf_addno sk sl sa L A B lc ac bc n0 nm ts w hv hval (by simp [h])
  by_cases h8:k=8
  · subst h8
    by_cases h:sk=2
    · subst h;exact leaf_not sl sa L A B lc ac bc n0 nm ts w hv hval
    · have e:leafO 8 nm (.mk sk sl sa)=none:=by simp [leafO,Ty.kind,h]
      rw [e];exact leaf_notno sk sl sa L A B lc ac bc n0 nm ts w hv hval (by simp [h])
  by_cases h9:k=9
  · subst h9
    by_cases h:sk=5
    · subst h;exact leaf_rev sl sa L A B lc ac bc n0 nm ts w hv hval
    · have e:leafO 9 nm (.mk sk sl sa)=none:=by simp [leafO,Ty.kind,h]
      rw [e];exact leaf_revno sk sl sa L A B lc ac bc n0 nm ts w hv hval (by simp [h])
  by_cases h10:k=10
  · subst h10
    exact leaf_wrap sk sl sa L A B lc ac bc n0 nm ts w hv hval hnm
  have e:leafO k nm (.mk sk sl sa)=none:=by simp [leafO,h1,h2,h3,h4,h5,h6,h7,h8,h9,h10]
  rw [e]
  exact leaf_none k (by simp [h1]) (by simp [h2]) (by simp [h3]) (by simp [h4]) (by simp [h5]) (by simp [h6]) (by simp [h7]) (by simp [h8]) (by simp [h9]) (by simp [h10]) sk sl sa L A B lc ac bc n0 nm ts w hv hval
set_option maxHeartbeats 16000000 in
theorem two_none (s:Ty) (o0 o1:Ot) (h0:TypeOneO o0) (_h1:TypeOneO o1) (f0:formOt o0=true) (_f1:formOt o1=true) (z0':szOt o0≤1048576) (_z1':szOt o1≤1048576) (L A B:Option Addr) (lc ac bc:Nat) (n0:Int) (nm:ByteArray) (w:World) (hv:TyAt w w.heap.size (.agg #[.int .i64 s.kind,.slice L s.labels.length lc,.slice A s.args.length ac]) s) (ho:OtsAt w w.heap.size B [o0,o1]) (hval:validB s=true) (k0:Int) (hr:typeO o0 s=none):
    Calls Tryz.prog 148 #[.agg #[.int .i64 s.kind,.slice L s.labels.length lc,.slice A s.args.length ac],.agg #[.int .i64 k0,.string nm,.int .i64 n0,.slice B 2 bc]] w (SomePost ((none:Option (Ty×Int))) w):=by
  obtain ⟨b,off,A0,c0,A1,c1,rfl,hbB,⟨x0,x1,x2,x3⟩,⟨y0,y1,y2,y3⟩,ht0,ht1⟩:=two_partsO ho
  obtain ⟨hb0,p0,q0,z0,hs0⟩:=boxes3 w 27 30 27 #[.int .i64 s.kind,.slice L s.labels.length lc,.slice A s.args.length ac] #[.int .i64 k0,.string nm,.int .i64 n0,.slice (some ⟨b,off,none⟩) 2 bc] #[.int .i64 0,.slice none 0 0,.slice none 0 0]
  have hv0:=hv.up hb0
  have hu0:=ht0.up hb0
  have hu1:=ht1.up hb0
  have hzl:=z0.lt
  have hpl:=p0.lt
  have hql:=q0.lt
  have hbl:b<(((w.alloc (.cells #[.int .i64 s.kind,.slice L s.labels.length lc,.slice A s.args.length ac] 27)).alloc (.cells #[.int .i64 k0,.string nm,.int .i64 n0,.slice (some ⟨b,off,none⟩) 2 bc] 30)).alloc (.cells #[.int .i64 0,.slice none 0 0,.slice none 0 0] 27)).heap.size:=Nat.lt_of_lt_of_le hbB hb0.size
  have HE:=Lib.hid (fun (i:Nat) (v:Value) (h:w.cell? ⟨b,i,none⟩=some v)=>(kC hb0 h hbB))
  have HX:=Lib.hid (And.intro x0 (And.intro x1 (And.intro x2 x3)))
  have HY:=Lib.hid (And.intro y0 (And.intro y1 (And.intro y2 y3)))
  clear hv ho ht0 ht1 x0 x1 x2 x3 y0 y1 y2 y3 hs0
  have HT:Hid (∀ W,Below (((w.alloc (.cells #[.int .i64 s.kind,.slice L s.labels.length lc,.slice A s.args.length ac] 27)).alloc (.cells #[.int .i64 k0,.string nm,.int .i64 n0,.slice (some ⟨b,off,none⟩) 2 bc] 30)).alloc (.cells #[.int .i64 0,.slice none 0 0,.slice none 0 0] 27)).heap.size (((w.alloc (.cells #[.int .i64 s.kind,.slice L s.labels.length lc,.slice A s.args.length ac] 27)).alloc (.cells #[.int .i64 k0,.string nm,.int .i64 n0,.slice (some ⟨b,off,none⟩) 2 bc] 30)).alloc (.cells #[.int .i64 0,.slice none 0 0,.slice none 0 0] 27)) W→Calls Tryz.prog 57 #[.agg #[.int .i64 s.kind,.slice L s.labels.length lc,.slice A s.args.length ac],.agg #[.int .i64 o0.kind,.string o0.name,.int .i64 o0.num,.slice A0 o0.args.length c0]] W (TypePost zeroTy 0 false W)):=Lib.hid (fun W (h:Below (((w.alloc (.cells #[.int .i64 s.kind,.slice L s.labels.length lc,.slice A s.args.length ac] 27)).alloc (.cells #[.int .i64 k0,.string nm,.int .i64 n0,.slice (some ⟨b,off,none⟩) 2 bc] 30)).alloc (.cells #[.int .i64 0,.slice none 0 0,.slice none 0 0] 27)).heap.size (((w.alloc (.cells #[.int .i64 s.kind,.slice L s.labels.length lc,.slice A s.args.length ac] 27)).alloc (.cells #[.int .i64 k0,.string nm,.int .i64 n0,.slice (some ⟨b,off,none⟩) 2 bc] 30)).alloc (.cells #[.int .i64 0,.slice none 0 0,.slice none 0 0] 27)) W)=>by
    have h2:=h0 s _ _ W (hv0.up h) (hu0.up h) hval f0 z0'
    rw [hr] at h2
    exact h2)
  go_enter Tryz.func148,Tryz.ntmps148
  go_upto_region 1 with fail
  generalize ((w.alloc (.cells #[.int .i64 s.kind,.slice L s.labels.length lc,.slice A s.args.length ac] 27)).alloc (.cells #[.int .i64 k0,.string nm,.int .i64 n0,.slice (some ⟨b,off,none⟩) 2 bc] 30)).alloc (.cells #[.int .i64 0,.slice none 0 0,.slice none 0 0] 27)=w0 at *
  have bA:=(Below.refl w0.heap.size w0).drew
  have bB:=((Below.refl w0.heap.size w0).alloc (Nat.le_refl _) (.cells #[.int .i64 0,.slice none 0 0,.slice none 0 0] 27)).drew
  have zB:Whole1 (w0.alloc (.cells #[.int .i64 0,.slice none 0 0,.slice none 0 0] 27)).drew w0.heap.size 27 #[.int .i64 0,.slice none 0 0,.slice none 0 0]:=Whole1.new w0 27 #[.int .i64 0,.slice none 0 0,.slice none 0 0]
  have KS:=Lib.hid (fun (x:World) (hx:Below w0.heap.size w0 x)=>(show x.cell? ⟨w.heap.size,0,none⟩=some (.int .i64 s.kind)∧x.cell? ⟨w.heap.size,1,none⟩=some (.slice L s.labels.length lc)∧x.cell? ⟨w.heap.size,2,none⟩=some (.slice A s.args.length ac)∧x.cell? ⟨w.heap.size+1,3,none⟩=some (.slice (some ⟨b,off,none⟩) 2 bc)∧x.cell? ⟨b,off,none⟩=some (.int .i64 o0.kind)∧x.cell? ⟨b,off+1,none⟩=some (.string o0.name)∧x.cell? ⟨b,off+2,none⟩=some (.int .i64 o0.num)∧x.cell? ⟨b,off+3,none⟩=some (.slice A0 o0.args.length c0) from ⟨kC hx (p0.cell 0) hpl,kC hx (p0.cell 1) hpl,kC hx (p0.cell 2) hpl,kC hx (q0.cell 3) hql,kC hx ((HE.out _ _ HX.out.1)) hbl,kC hx ((HE.out _ _ HX.out.2.1)) hbl,kC hx ((HE.out _ _ HX.out.2.2.1)) hbl,kC hx ((HE.out _ _ HX.out.2.2.2)) hbl⟩))
  go_cut [7,8,9] from 16 to 26 (fun p kd ok wx=>∃ z T1 T2 U1 U2,p=.pointer (some ⟨z,0,none⟩)∧kd=.int .i64 0∧ok=.bool false∧Got w0 wx z T1 T2 U1 U2 zeroTy)
  case first=>
    go_region_held3 (fun x:World=>x.cell? ⟨w.heap.size,0,none⟩=some (.int .i64 s.kind)∧x.cell? ⟨w.heap.size,1,none⟩=some (.slice L s.labels.length lc)∧x.cell? ⟨w.heap.size,2,none⟩=some (.slice A s.args.length ac)∧x.cell? ⟨w.heap.size+1,3,none⟩=some (.slice (some ⟨b,off,none⟩) 2 bc)∧x.cell? ⟨b,off,none⟩=some (.int .i64 o0.kind)∧x.cell? ⟨b,off+1,none⟩=some (.string o0.name)∧x.cell? ⟨b,off+2,none⟩=some (.int .i64 o0.num)∧x.cell? ⟨b,off+3,none⟩=some (.slice A0 o0.args.length c0)) (first | with_reducible exact KS.out _ bA | with_reducible exact KS.out _ bB | with_reducible exact KS.out _ hb1 | with_reducible exact KS.out _ (hb1.trans (((Below.refl _ _).alloc (Nat.le_refl _) _).mono hb1.size)) | with_reducible exact KS.out _ (((hb1.setCell (Nat.le_refl _) _).setCell (Nat.le_refl _) _).setCell (Nat.le_refl _) _) | go_keep) (first | (go_simp;go_at_call 57;(with_reducible refine (HT.out _ (by first | with_reducible exact bA | with_reducible exact bB)).mono ?_);rintro e w1 ⟨v2,rfl,hv2,hb1'⟩;have HV2:=Lib.hid hv2;obtain ⟨T1,U1,T2,U2,_,rfl,_⟩:=hv2.open;have hb1:Below w0.heap.size w0 w1:=(by first | exact bA.trans (hb1'.mono bA.size) | exact bB.trans (hb1'.mono bB.size));(try have HZ1:=Lib.hid (zB.below hb1' zB.lt));(try have zq0:w1.cell? ⟨w0.heap.size,0,none⟩=some (.int .i64 0):=HZ1.out.cell 0);(try have zr0:w1.frozen? ⟨w0.heap.size,0,none⟩=false:=HZ1.out.free 0);(try have zq1:w1.cell? ⟨w0.heap.size,1,none⟩=some (.slice none 0 0):=HZ1.out.cell 1);(try have zr1:w1.frozen? ⟨w0.heap.size,1,none⟩=false:=HZ1.out.free 1);(try have zq2:w1.cell? ⟨w0.heap.size,2,none⟩=some (.slice none 0 0):=HZ1.out.cell 2);(try have zr2:w1.frozen? ⟨w0.heap.size,2,none⟩=false:=HZ1.out.free 2);clear hb1' hv2))
    all_goals go_wp2
    all_goals go_meet
    all_goals first | exact ⟨_,T1,T2,U1,U2,rfl,rfl,rfl,Got.late HV2.out bA.size hb1⟩ | exact ⟨_,T1,T2,U1,U2,rfl,rfl,rfl,Got.late HV2.out bB.size hb1⟩ | exact ⟨_,T1,T2,U1,U2,rfl,rfl,rfl,Got.early HV2.out (by first | exact zB.lt | omega) (Nat.le_refl _) HZ1.out rfl hb1⟩
  case rest=>
    obtain ⟨z,T1,T2,U1,U2,rfl,rfl,rfl,hG⟩:=hcut
    have hcb:=hG.below
    have hcw:=hb0.trans (hcb.mono hb0.size)
    have z1:=z0.below hcb hzl
    obtain ⟨d0,d1,d2⟩:=z1.c3
    obtain ⟨f0,f1,f2⟩:=z1.f3
    have hzw:w.heap.size≤w.heap.size+1+1:=by omega
    have HF:=Lib.hid (fun x y z=>(show SomePost none w (.returned (.tuple #[.agg #[.int .i64 0,.slice none 0 0,.slice none 0 0],.int .i64 0,.bool false])) (((wc.setCell ⟨w.heap.size+1+1,0,none⟩ x).setCell ⟨w.heap.size+1+1,1,none⟩ y).setCell ⟨w.heap.size+1+1,2,none⟩ z) from ⟨_,zeroTy,0,rfl,zero_in _ _,(((hcw.setCell hzw _).setCell hzw _).setCell hzw _),by simp [zeroTy,szTy_eq,Ty.labels,Ty.args,sumSizes,szTys],Or.inl rfl⟩))
    clear hG hcb hcw z1 z0 HT
    go_wp2
    exact bodyPost_ret (v:=.tuple #[.agg #[.int .i64 0,.slice none 0 0,.slice none 0 0],.int .i64 0,.bool false]) (by simp [results,Tryz.results148,go_sem,d0,d1,d2]) rfl (HF.out _ _ _)
set_option maxHeartbeats 16000000 in
theorem two_then (s:Ty) (o0 o1:Ot) (h0:TypeOneO o0) (h1:TypeOneO o1) (f0:formOt o0=true) (f1:formOt o1=true) (z0':szOt o0≤1048576) (z1':szOt o1≤1048576) (L A B:Option Addr) (lc ac bc:Nat) (n0:Int) (nm:ByteArray) (w:World) (hv:TyAt w w.heap.size (.agg #[.int .i64 s.kind,.slice L s.labels.length lc,.slice A s.args.length ac]) s) (ho:OtsAt w w.heap.size B [o0,o1]) (hval:validB s=true) (ta:Ty) (one:Int) (hr:typeO o0 s=some (ta,one)):
    Calls Tryz.prog 148 #[.agg #[.int .i64 s.kind,.slice L s.labels.length lc,.slice A s.args.length ac],.agg #[.int .i64 12,.string nm,.int .i64 n0,.slice B 2 bc]] w (SomePost (thenO (typeO o0) (typeO o1) s) w):=by
  obtain ⟨b,off,A0,c0,A1,c1,rfl,hbB,⟨x0,x1,x2,x3⟩,⟨y0,y1,y2,y3⟩,ht0,ht1⟩:=two_partsO ho
  obtain ⟨hb0,p0,q0,z0,hs0⟩:=boxes3 w 27 30 27 #[.int .i64 s.kind,.slice L s.labels.length lc,.slice A s.args.length ac] #[.int .i64 12,.string nm,.int .i64 n0,.slice (some ⟨b,off,none⟩) 2 bc] #[.int .i64 0,.slice none 0 0,.slice none 0 0]
  have hv0:=hv.up hb0
  have hu0:=ht0.up hb0
  have hu1:=ht1.up hb0
  have hzl:=z0.lt
  have hpl:=p0.lt
  have hql:=q0.lt
  have hbl:b<(((w.alloc (.cells #[.int .i64 s.kind,.slice L s.labels.length lc,.slice A s.args.length ac] 27)).alloc (.cells #[.int .i64 12,.string nm,.int .i64 n0,.slice (some ⟨b,off,none⟩) 2 bc] 30)).alloc (.cells #[.int .i64 0,.slice none 0 0,.slice none 0 0] 27)).heap.size:=Nat.lt_of_lt_of_le hbB hb0.size
  have HE:=Lib.hid (fun (i:Nat) (v:Value) (h:w.cell? ⟨b,i,none⟩=some v)=>(kC hb0 h hbB))
  have HX:=Lib.hid (And.intro x0 (And.intro x1 (And.intro x2 x3)))
  have HY:=Lib.hid (And.intro y0 (And.intro y1 (And.intro y2 y3)))
  clear hv ho ht0 ht1 x0 x1 x2 x3 y0 y1 y2 y3 hs0
  have HT:Hid (∀ W,Below (((w.alloc (.cells #[.int .i64 s.kind,.slice L s.labels.length lc,.slice A s.args.length ac] 27)).alloc (.cells #[.int .i64 12,.string nm,.int .i64 n0,.slice (some ⟨b,off,none⟩) 2 bc] 30)).alloc (.cells #[.int .i64 0,.slice none 0 0,.slice none 0 0] 27)).heap.size (((w.alloc (.cells #[.int .i64 s.kind,.slice L s.labels.length lc,.slice A s.args.length ac] 27)).alloc (.cells #[.int .i64 12,.string nm,.int .i64 n0,.slice (some ⟨b,off,none⟩) 2 bc] 30)).alloc (.cells #[.int .i64 0,.slice none 0 0,.slice none 0 0] 27)) W→Calls Tryz.prog 57 #[.agg #[.int .i64 s.kind,.slice L s.labels.length lc,.slice A s.args.length ac],.agg #[.int .i64 o0.kind,.string o0.name,.int .i64 o0.num,.slice A0 o0.args.length c0]] W (TypePost ta one true W)):=Lib.hid (fun W (h:Below (((w.alloc (.cells #[.int .i64 s.kind,.slice L s.labels.length lc,.slice A s.args.length ac] 27)).alloc (.cells #[.int .i64 12,.string nm,.int .i64 n0,.slice (some ⟨b,off,none⟩) 2 bc] 30)).alloc (.cells #[.int .i64 0,.slice none 0 0,.slice none 0 0] 27)).heap.size (((w.alloc (.cells #[.int .i64 s.kind,.slice L s.labels.length lc,.slice A s.args.length ac] 27)).alloc (.cells #[.int .i64 12,.string nm,.int .i64 n0,.slice (some ⟨b,off,none⟩) 2 bc] 30)).alloc (.cells #[.int .i64 0,.slice none 0 0,.slice none 0 0] 27)) W)=>by
    have h2:=h0 s _ _ W (hv0.up h) (hu0.up h) hval f0 z0'
    rw [hr] at h2
    exact h2)
  go_enter Tryz.func148,Tryz.ntmps148
  go_upto_region 1 with fail
  generalize ((w.alloc (.cells #[.int .i64 s.kind,.slice L s.labels.length lc,.slice A s.args.length ac] 27)).alloc (.cells #[.int .i64 12,.string nm,.int .i64 n0,.slice (some ⟨b,off,none⟩) 2 bc] 30)).alloc (.cells #[.int .i64 0,.slice none 0 0,.slice none 0 0] 27)=w0 at *
  have bA:=(Below.refl w0.heap.size w0).drew
  have bB:=((Below.refl w0.heap.size w0).alloc (Nat.le_refl _) (.cells #[.int .i64 0,.slice none 0 0,.slice none 0 0] 27)).drew
  have zB:Whole1 (w0.alloc (.cells #[.int .i64 0,.slice none 0 0,.slice none 0 0] 27)).drew w0.heap.size 27 #[.int .i64 0,.slice none 0 0,.slice none 0 0]:=Whole1.new w0 27 #[.int .i64 0,.slice none 0 0,.slice none 0 0]
  have KS:=Lib.hid (fun (x:World) (hx:Below w0.heap.size w0 x)=>(show x.cell? ⟨w.heap.size,0,none⟩=some (.int .i64 s.kind)∧x.cell? ⟨w.heap.size,1,none⟩=some (.slice L s.labels.length lc)∧x.cell? ⟨w.heap.size,2,none⟩=some (.slice A s.args.length ac)∧x.cell? ⟨w.heap.size+1,3,none⟩=some (.slice (some ⟨b,off,none⟩) 2 bc)∧x.cell? ⟨b,off,none⟩=some (.int .i64 o0.kind)∧x.cell? ⟨b,off+1,none⟩=some (.string o0.name)∧x.cell? ⟨b,off+2,none⟩=some (.int .i64 o0.num)∧x.cell? ⟨b,off+3,none⟩=some (.slice A0 o0.args.length c0) from ⟨kC hx (p0.cell 0) hpl,kC hx (p0.cell 1) hpl,kC hx (p0.cell 2) hpl,kC hx (q0.cell 3) hql,kC hx ((HE.out _ _ HX.out.1)) hbl,kC hx ((HE.out _ _ HX.out.2.1)) hbl,kC hx ((HE.out _ _ HX.out.2.2.1)) hbl,kC hx ((HE.out _ _ HX.out.2.2.2)) hbl⟩))
  go_cut [7,8,9] from 16 to 26 (fun p kd ok wx=>∃ z T1 T2 U1 U2,p=.pointer (some ⟨z,0,none⟩)∧kd=.int .i64 one∧ok=.bool true∧Got w0 wx z T1 T2 U1 U2 ta)
  case first=>
    go_region_held3 (fun x:World=>x.cell? ⟨w.heap.size,0,none⟩=some (.int .i64 s.kind)∧x.cell? ⟨w.heap.size,1,none⟩=some (.slice L s.labels.length lc)∧x.cell? ⟨w.heap.size,2,none⟩=some (.slice A s.args.length ac)∧x.cell? ⟨w.heap.size+1,3,none⟩=some (.slice (some ⟨b,off,none⟩) 2 bc)∧x.cell? ⟨b,off,none⟩=some (.int .i64 o0.kind)∧x.cell? ⟨b,off+1,none⟩=some (.string o0.name)∧x.cell? ⟨b,off+2,none⟩=some (.int .i64 o0.num)∧x.cell? ⟨b,off+3,none⟩=some (.slice A0 o0.args.length c0)) (first | with_reducible exact KS.out _ bA | with_reducible exact KS.out _ bB | with_reducible exact KS.out _ hb1 | with_reducible exact KS.out _ (hb1.trans (((Below.refl _ _).alloc (Nat.le_refl _) _).mono hb1.size)) | with_reducible exact KS.out _ (((hb1.setCell (Nat.le_refl _) _).setCell (Nat.le_refl _) _).setCell (Nat.le_refl _) _) | go_keep) (first | (go_simp;go_at_call 57;(with_reducible refine (HT.out _ (by first | with_reducible exact bA | with_reducible exact bB)).mono ?_);rintro e w1 ⟨v2,rfl,hv2,hb1'⟩;have HV2:=Lib.hid hv2;obtain ⟨T1,U1,T2,U2,_,rfl,_⟩:=hv2.open;have hb1:Below w0.heap.size w0 w1:=(by first | exact bA.trans (hb1'.mono bA.size) | exact bB.trans (hb1'.mono bB.size));(try have HZ1:=Lib.hid (zB.below hb1' zB.lt));(try have zq0:w1.cell? ⟨w0.heap.size,0,none⟩=some (.int .i64 0):=HZ1.out.cell 0);(try have zr0:w1.frozen? ⟨w0.heap.size,0,none⟩=false:=HZ1.out.free 0);(try have zq1:w1.cell? ⟨w0.heap.size,1,none⟩=some (.slice none 0 0):=HZ1.out.cell 1);(try have zr1:w1.frozen? ⟨w0.heap.size,1,none⟩=false:=HZ1.out.free 1);(try have zq2:w1.cell? ⟨w0.heap.size,2,none⟩=some (.slice none 0 0):=HZ1.out.cell 2);(try have zr2:w1.frozen? ⟨w0.heap.size,2,none⟩=false:=HZ1.out.free 2);clear hb1' hv2))
    all_goals go_wp2
    all_goals go_meet
    all_goals first | exact ⟨_,T1,T2,U1,U2,rfl,rfl,rfl,Got.late HV2.out bA.size hb1⟩ | exact ⟨_,T1,T2,U1,U2,rfl,rfl,rfl,Got.late HV2.out bB.size hb1⟩ | exact ⟨_,T1,T2,U1,U2,rfl,rfl,rfl,Got.early HV2.out (by first | exact zB.lt | omega) (Nat.le_refl _) HZ1.out rfl hb1⟩
  case rest=>
    obtain ⟨z,T1,T2,U1,U2,rfl,rfl,rfl,hG⟩:=hcut
    have HG:=Lib.hid hG
    have hzL:=hG.box.lt
    have hcb:=hG.below
    have hqc:=q0.below hcb hql
    have hqcl:=hqc.lt
    have hbc:=Nat.lt_of_lt_of_le hbl hcb.size
    have c0:wc.cell? ⟨w.heap.size+1,0,none⟩=some (.int .i64 12):=hqc.cell 0
    have hvala:=typeO_valid hr
    have HT2:=Lib.hid (fun W (h:Below wc.heap.size wc W)=>h1 ta _ _ W (HG.out.tree.here.up h) ((hu1.up HG.out.below).up h) hvala f1 z1')
    have HR:=Lib.hid (thenO_some (g:=typeO o1) hr)
    have HS:=Lib.hid (sz_tyO o1 ta)
    generalize (typeO o1 ta).isSome=okb at *
    generalize tyO (typeO o1 ta)=tb at *
    generalize kdO (typeO o1 ta)=two at *
    clear hG hvala hr HT
    obtain ⟨wa,rfl⟩:∃ x,x=wc:=⟨_,rfl⟩
    go_upto_region 5 with fail
    have bA:=(Below.refl wa.heap.size wa).drew
    have bB:=((Below.refl wa.heap.size wa).alloc (Nat.le_refl _) (.cells #[.int .i64 0,.slice none 0 0,.slice none 0 0] 27)).drew
    have zB:Whole1 (wa.alloc (.cells #[.int .i64 0,.slice none 0 0,.slice none 0 0] 27)).drew wa.heap.size 27 #[.int .i64 0,.slice none 0 0,.slice none 0 0]:=Whole1.new wa 27 #[.int .i64 0,.slice none 0 0,.slice none 0 0]
    have KS:=Lib.hid (fun (x:World) (hx:Below wa.heap.size wa x)=>(show x.cell? ⟨z,0,none⟩=some (.int .i64 ta.kind)∧x.cell? ⟨z,1,none⟩=some (.slice T1 ta.labels.length U1)∧x.cell? ⟨z,2,none⟩=some (.slice T2 ta.args.length U2)∧x.cell? ⟨w.heap.size+1,3,none⟩=some (.slice (some ⟨b,off,none⟩) 2 bc)∧x.cell? ⟨b,off+4,none⟩=some (.int .i64 o1.kind)∧x.cell? ⟨b,off+4+1,none⟩=some (.string o1.name)∧x.cell? ⟨b,off+4+2,none⟩=some (.int .i64 o1.num)∧x.cell? ⟨b,off+4+3,none⟩=some (.slice A1 o1.args.length c1) from ⟨kC hx (HG.out.box.cell 0) hzL,kC hx (HG.out.box.cell 1) hzL,kC hx (HG.out.box.cell 2) hzL,kC hx (hqc.cell 3) hqcl,kC hx ((kC hcb (HE.out _ _ HY.out.1) hbl)) hbc,kC hx ((kC hcb (HE.out _ _ HY.out.2.1) hbl)) hbc,kC hx ((kC hcb (HE.out _ _ HY.out.2.2.1) hbl)) hbc,kC hx ((kC hcb (HE.out _ _ HY.out.2.2.2) hbl)) hbc⟩))
    go_cut [10,11,12] from 32 to 42 (fun p kd ok wx=>∃ z T1 T2 U1 U2,p=.pointer (some ⟨z,0,none⟩)∧kd=.int .i64 two∧ok=.bool okb∧Got wa wx z T1 T2 U1 U2 tb)
    case first=>
      go_region_held3 (fun x:World=>x.cell? ⟨z,0,none⟩=some (.int .i64 ta.kind)∧x.cell? ⟨z,1,none⟩=some (.slice T1 ta.labels.length U1)∧x.cell? ⟨z,2,none⟩=some (.slice T2 ta.args.length U2)∧x.cell? ⟨w.heap.size+1,3,none⟩=some (.slice (some ⟨b,off,none⟩) 2 bc)∧x.cell? ⟨b,off+4,none⟩=some (.int .i64 o1.kind)∧x.cell? ⟨b,off+4+1,none⟩=some (.string o1.name)∧x.cell? ⟨b,off+4+2,none⟩=some (.int .i64 o1.num)∧x.cell? ⟨b,off+4+3,none⟩=some (.slice A1 o1.args.length c1)) (first | with_reducible exact KS.out _ bA | with_reducible exact KS.out _ bB | with_reducible exact KS.out _ hb1 | with_reducible exact KS.out _ (hb1.trans (((Below.refl _ _).alloc (Nat.le_refl _) _).mono hb1.size)) | with_reducible exact KS.out _ (((hb1.setCell (Nat.le_refl _) _).setCell (Nat.le_refl _) _).setCell (Nat.le_refl _) _) | go_keep) (first | (go_simp;go_at_call 57;(with_reducible refine (HT2.out _ (by first | with_reducible exact bA | with_reducible exact bB)).mono ?_);rintro e w1 ⟨v2,rfl,hv2,hb1'⟩;have HV2:=Lib.hid hv2;obtain ⟨T3,U3,T4,U4,_,rfl,_⟩:=hv2.open;have hb1:Below wa.heap.size wa w1:=(by first | exact bA.trans (hb1'.mono bA.size) | exact bB.trans (hb1'.mono bB.size));(try have HZ1:=Lib.hid (zB.below hb1' zB.lt));(try have zq0:w1.cell? ⟨wa.heap.size,0,none⟩=some (.int .i64 0):=HZ1.out.cell 0);(try have zr0:w1.frozen? ⟨wa.heap.size,0,none⟩=false:=HZ1.out.free 0);(try have zq1:w1.cell? ⟨wa.heap.size,1,none⟩=some (.slice none 0 0):=HZ1.out.cell 1);(try have zr1:w1.frozen? ⟨wa.heap.size,1,none⟩=false:=HZ1.out.free 1);(try have zq2:w1.cell? ⟨wa.heap.size,2,none⟩=some (.slice none 0 0):=HZ1.out.cell 2);(try have zr2:w1.frozen? ⟨wa.heap.size,2,none⟩=false:=HZ1.out.free 2);clear hb1' hv2))
      all_goals go_wp2
      all_goals go_meet
      all_goals first | exact ⟨_,T3,T4,U3,U4,rfl,rfl,rfl,Got.late HV2.out bA.size hb1⟩ | exact ⟨_,T3,T4,U3,U4,rfl,rfl,rfl,Got.late HV2.out bB.size hb1⟩ | exact ⟨_,T3,T4,U3,U4,rfl,rfl,rfl,Got.early HV2.out (by first | exact zB.lt | omega) (Nat.le_refl _) HZ1.out rfl hb1⟩
    case rest=>
      obtain ⟨z2,T3,T4,U3,U4,rfl,rfl,rfl,hG2⟩:=hcut
      have HG2:=Lib.hid hG2
      have hcb2:=hcb.trans (hG2.below.mono hcb.size)
      have hz2:=hG2.box.lt
      have hne2:w.heap.size+1+1≠z2:=by have h:=hG2.apart;have h':=hcb.size;omega
      have HFF:=Lib.hid (fun w9 (h9:Below wc.heap.size wc w9) x y u=>(show SomePost (thenO (typeO o0) (typeO o1) s) w (.returned (.tuple #[.agg #[.int .i64 tb.kind,.slice T3 tb.labels.length U3,.slice T4 tb.args.length U4],.int .i64 (joinI one two),.bool okb])) (((w9.setCell ⟨w.heap.size+1+1,0,none⟩ x).setCell ⟨w.heap.size+1+1,1,none⟩ y).setCell ⟨w.heap.size+1+1,2,none⟩ u) from by
        have h1:=set3_in (w:=w) (g:=w.heap.size+1+1) (HG2.out.up h9).tree (Nat.lt_of_lt_of_le hzl hcb.size) (by omega) (hb0.trans ((hcb2.trans (h9.mono hcb2.size)).mono hb0.size)) x y u
        exact ⟨_,tb,joinI one two,by rw [HR.out.2],h1.1,h1.2,by have:=HS.out;omega,HR.out.1⟩))
      clear hG2
      go_upto_region 6 with fail
      have KS:=Lib.hid (fun (x:World) (hx:∀ q,q<wc.heap.size→w.heap.size+1+1≠q→x.heap[q]?=wc.heap[q]?)=>(show x.cell? ⟨z2,0,none⟩=some (.int .i64 tb.kind)∧x.cell? ⟨z2,1,none⟩=some (.slice T3 tb.labels.length U3)∧x.cell? ⟨z2,2,none⟩=some (.slice T4 tb.args.length U4) from ⟨(cellT_heap (hx _ hz2 hne2)).trans (HG2.out.box.cell 0),(cellT_heap (hx _ hz2 hne2)).trans (HG2.out.box.cell 1),(cellT_heap (hx _ hz2 hne2)).trans (HG2.out.box.cell 2)⟩))
      have hD:=(Below.refl wc.heap.size wc).drew
      go_region_held3 (fun x:World=>x.cell? ⟨z2,0,none⟩=some (.int .i64 tb.kind)∧x.cell? ⟨z2,1,none⟩=some (.slice T3 tb.labels.length U3)∧x.cell? ⟨z2,2,none⟩=some (.slice T4 tb.args.length U4)) (first | with_reducible exact KS.out _ (fun q hq _=>hD.block q hq) | with_reducible exact KS.out _ (fun q hq _=>hb9.block q hq) | with_reducible exact KS.out _ (fun q hq hne=>(setT_heap _ _ q (Ne.symm hne) _ _ _).trans (hb9.block q hq)) | go_keep) (first | (go_simp;go_at_call 183;(with_reducible refine (specJoin_any one two _).mono ?_);rintro e w9 ⟨rfl,hb9'⟩;have hb9:=hD.trans hb9';have z9:=z0.below (hcb2.trans (hb9.mono hcb2.size)) hzl;obtain ⟨d0,d1,d2⟩:=z9.c3;obtain ⟨f0,f1,f2⟩:=z9.f3;have HF:=Lib.hid (fun x y u=>HFF.out w9 hb9 x y u);clear hb9' z9))
      all_goals go_wp2
      all_goals exact bodyPost_ret (v:=.tuple #[.agg #[.int .i64 tb.kind,.slice T3 tb.labels.length U3,.slice T4 tb.args.length U4],.int .i64 (joinI one two),.bool okb]) (by simp [results,Tryz.results148,go_sem,d0,d1,d2]) rfl (HF.out _ _ _)
set_option maxHeartbeats 16000000 in
theorem two_else (s:Ty) (o0 o1:Ot) (h0:TypeOneO o0) (h1:TypeOneO o1) (f0:formOt o0=true) (f1:formOt o1=true) (z0':szOt o0≤1048576) (z1':szOt o1≤1048576) (L A B:Option Addr) (lc ac bc:Nat) (n0:Int) (nm:ByteArray) (w:World) (hv:TyAt w w.heap.size (.agg #[.int .i64 s.kind,.slice L s.labels.length lc,.slice A s.args.length ac]) s) (ho:OtsAt w w.heap.size B [o0,o1]) (hval:validB s=true) (ta:Ty) (one:Int) (hr:typeO o0 s=some (ta,one)):
    Calls Tryz.prog 148 #[.agg #[.int .i64 s.kind,.slice L s.labels.length lc,.slice A s.args.length ac],.agg #[.int .i64 13,.string nm,.int .i64 n0,.slice B 2 bc]] w (SomePost (elseO (typeO o0) (typeO o1) s) w):=by
  obtain ⟨b,off,A0,c0,A1,c1,rfl,hbB,⟨x0,x1,x2,x3⟩,⟨y0,y1,y2,y3⟩,ht0,ht1⟩:=two_partsO ho
  obtain ⟨hb0,p0,q0,z0,hs0⟩:=boxes3 w 27 30 27 #[.int .i64 s.kind,.slice L s.labels.length lc,.slice A s.args.length ac] #[.int .i64 13,.string nm,.int .i64 n0,.slice (some ⟨b,off,none⟩) 2 bc] #[.int .i64 0,.slice none 0 0,.slice none 0 0]
  have hv0:=hv.up hb0
  have hu0:=ht0.up hb0
  have hu1:=ht1.up hb0
  have hzl:=z0.lt
  have hpl:=p0.lt
  have hql:=q0.lt
  have hbl:b<(((w.alloc (.cells #[.int .i64 s.kind,.slice L s.labels.length lc,.slice A s.args.length ac] 27)).alloc (.cells #[.int .i64 13,.string nm,.int .i64 n0,.slice (some ⟨b,off,none⟩) 2 bc] 30)).alloc (.cells #[.int .i64 0,.slice none 0 0,.slice none 0 0] 27)).heap.size:=Nat.lt_of_lt_of_le hbB hb0.size
  have HE:=Lib.hid (fun (i:Nat) (v:Value) (h:w.cell? ⟨b,i,none⟩=some v)=>(kC hb0 h hbB))
  have HX:=Lib.hid (And.intro x0 (And.intro x1 (And.intro x2 x3)))
  have HY:=Lib.hid (And.intro y0 (And.intro y1 (And.intro y2 y3)))
  clear hv ho ht0 ht1 x0 x1 x2 x3 y0 y1 y2 y3 hs0
  have HT:Hid (∀ W,Below (((w.alloc (.cells #[.int .i64 s.kind,.slice L s.labels.length lc,.slice A s.args.length ac] 27)).alloc (.cells #[.int .i64 13,.string nm,.int .i64 n0,.slice (some ⟨b,off,none⟩) 2 bc] 30)).alloc (.cells #[.int .i64 0,.slice none 0 0,.slice none 0 0] 27)).heap.size (((w.alloc (.cells #[.int .i64 s.kind,.slice L s.labels.length lc,.slice A s.args.length ac] 27)).alloc (.cells #[.int .i64 13,.string nm,.int .i64 n0,.slice (some ⟨b,off,none⟩) 2 bc] 30)).alloc (.cells #[.int .i64 0,.slice none 0 0,.slice none 0 0] 27)) W→Calls Tryz.prog 57 #[.agg #[.int .i64 s.kind,.slice L s.labels.length lc,.slice A s.args.length ac],.agg #[.int .i64 o0.kind,.string o0.name,.int .i64 o0.num,.slice A0 o0.args.length c0]] W (TypePost ta one true W)):=Lib.hid (fun W (h:Below (((w.alloc (.cells #[.int .i64 s.kind,.slice L s.labels.length lc,.slice A s.args.length ac] 27)).alloc (.cells #[.int .i64 13,.string nm,.int .i64 n0,.slice (some ⟨b,off,none⟩) 2 bc] 30)).alloc (.cells #[.int .i64 0,.slice none 0 0,.slice none 0 0] 27)).heap.size (((w.alloc (.cells #[.int .i64 s.kind,.slice L s.labels.length lc,.slice A s.args.length ac] 27)).alloc (.cells #[.int .i64 13,.string nm,.int .i64 n0,.slice (some ⟨b,off,none⟩) 2 bc] 30)).alloc (.cells #[.int .i64 0,.slice none 0 0,.slice none 0 0] 27)) W)=>by
    have h2:=h0 s _ _ W (hv0.up h) (hu0.up h) hval f0 z0'
    rw [hr] at h2
    exact h2)
  go_enter Tryz.func148,Tryz.ntmps148
  go_upto_region 1 with fail
  generalize ((w.alloc (.cells #[.int .i64 s.kind,.slice L s.labels.length lc,.slice A s.args.length ac] 27)).alloc (.cells #[.int .i64 13,.string nm,.int .i64 n0,.slice (some ⟨b,off,none⟩) 2 bc] 30)).alloc (.cells #[.int .i64 0,.slice none 0 0,.slice none 0 0] 27)=w0 at *
  have bA:=(Below.refl w0.heap.size w0).drew
  have bB:=((Below.refl w0.heap.size w0).alloc (Nat.le_refl _) (.cells #[.int .i64 0,.slice none 0 0,.slice none 0 0] 27)).drew
  have zB:Whole1 (w0.alloc (.cells #[.int .i64 0,.slice none 0 0,.slice none 0 0] 27)).drew w0.heap.size 27 #[.int .i64 0,.slice none 0 0,.slice none 0 0]:=Whole1.new w0 27 #[.int .i64 0,.slice none 0 0,.slice none 0 0]
  have KS:=Lib.hid (fun (x:World) (hx:Below w0.heap.size w0 x)=>(show x.cell? ⟨w.heap.size,0,none⟩=some (.int .i64 s.kind)∧x.cell? ⟨w.heap.size,1,none⟩=some (.slice L s.labels.length lc)∧x.cell? ⟨w.heap.size,2,none⟩=some (.slice A s.args.length ac)∧x.cell? ⟨w.heap.size+1,3,none⟩=some (.slice (some ⟨b,off,none⟩) 2 bc)∧x.cell? ⟨b,off,none⟩=some (.int .i64 o0.kind)∧x.cell? ⟨b,off+1,none⟩=some (.string o0.name)∧x.cell? ⟨b,off+2,none⟩=some (.int .i64 o0.num)∧x.cell? ⟨b,off+3,none⟩=some (.slice A0 o0.args.length c0) from ⟨kC hx (p0.cell 0) hpl,kC hx (p0.cell 1) hpl,kC hx (p0.cell 2) hpl,kC hx (q0.cell 3) hql,kC hx ((HE.out _ _ HX.out.1)) hbl,kC hx ((HE.out _ _ HX.out.2.1)) hbl,kC hx ((HE.out _ _ HX.out.2.2.1)) hbl,kC hx ((HE.out _ _ HX.out.2.2.2)) hbl⟩))
  go_cut [7,8,9] from 16 to 26 (fun p kd ok wx=>∃ z T1 T2 U1 U2,p=.pointer (some ⟨z,0,none⟩)∧kd=.int .i64 one∧ok=.bool true∧Got w0 wx z T1 T2 U1 U2 ta)
  case first=>
    go_region_held3 (fun x:World=>x.cell? ⟨w.heap.size,0,none⟩=some (.int .i64 s.kind)∧x.cell? ⟨w.heap.size,1,none⟩=some (.slice L s.labels.length lc)∧x.cell? ⟨w.heap.size,2,none⟩=some (.slice A s.args.length ac)∧x.cell? ⟨w.heap.size+1,3,none⟩=some (.slice (some ⟨b,off,none⟩) 2 bc)∧x.cell? ⟨b,off,none⟩=some (.int .i64 o0.kind)∧x.cell? ⟨b,off+1,none⟩=some (.string o0.name)∧x.cell? ⟨b,off+2,none⟩=some (.int .i64 o0.num)∧x.cell? ⟨b,off+3,none⟩=some (.slice A0 o0.args.length c0)) (first | with_reducible exact KS.out _ bA | with_reducible exact KS.out _ bB | with_reducible exact KS.out _ hb1 | with_reducible exact KS.out _ (hb1.trans (((Below.refl _ _).alloc (Nat.le_refl _) _).mono hb1.size)) | with_reducible exact KS.out _ (((hb1.setCell (Nat.le_refl _) _).setCell (Nat.le_refl _) _).setCell (Nat.le_refl _) _) | go_keep) (first | (go_simp;go_at_call 57;(with_reducible refine (HT.out _ (by first | with_reducible exact bA | with_reducible exact bB)).mono ?_);rintro e w1 ⟨v2,rfl,hv2,hb1'⟩;have HV2:=Lib.hid hv2;obtain ⟨T1,U1,T2,U2,_,rfl,_⟩:=hv2.open;have hb1:Below w0.heap.size w0 w1:=(by first | exact bA.trans (hb1'.mono bA.size) | exact bB.trans (hb1'.mono bB.size));(try have HZ1:=Lib.hid (zB.below hb1' zB.lt));(try have zq0:w1.cell? ⟨w0.heap.size,0,none⟩=some (.int .i64 0):=HZ1.out.cell 0);(try have zr0:w1.frozen? ⟨w0.heap.size,0,none⟩=false:=HZ1.out.free 0);(try have zq1:w1.cell? ⟨w0.heap.size,1,none⟩=some (.slice none 0 0):=HZ1.out.cell 1);(try have zr1:w1.frozen? ⟨w0.heap.size,1,none⟩=false:=HZ1.out.free 1);(try have zq2:w1.cell? ⟨w0.heap.size,2,none⟩=some (.slice none 0 0):=HZ1.out.cell 2);(try have zr2:w1.frozen? ⟨w0.heap.size,2,none⟩=false:=HZ1.out.free 2);clear hb1' hv2))
    all_goals go_wp2
    all_goals go_meet
    all_goals first | exact ⟨_,T1,T2,U1,U2,rfl,rfl,rfl,Got.late HV2.out bA.size hb1⟩ | exact ⟨_,T1,T2,U1,U2,rfl,rfl,rfl,Got.late HV2.out bB.size hb1⟩ | exact ⟨_,T1,T2,U1,U2,rfl,rfl,rfl,Got.early HV2.out (by first | exact zB.lt | omega) (Nat.le_refl _) HZ1.out rfl hb1⟩
  case rest=>
    obtain ⟨z,T1,T2,U1,U2,rfl,rfl,rfl,hG⟩:=hcut
    have HG:=Lib.hid hG
    have hzL:=hG.box.lt
    have hzA:=hG.apart
    have hcb:=hG.below
    have hpc:=p0.below hcb hpl
    have hpcl:=hpc.lt
    have hqc:=q0.below hcb hql
    have hqcl:=hqc.lt
    have hbc:=Nat.lt_of_lt_of_le hbl hcb.size
    have c0:wc.cell? ⟨w.heap.size+1,0,none⟩=some (.int .i64 13):=hqc.cell 0
    have hvala:=typeO_valid hr
    have HT2:=Lib.hid (fun W (h:Below wc.heap.size wc W)=>h1 s _ _ W ((hv0.up HG.out.below).up h) ((hu1.up HG.out.below).up h) hval f1 z1')
    have HR:=Lib.hid (elseO_some (g:=typeO o1) hr)
    have HS:=Lib.hid (szTy_valid hvala)
    have HEQ:=Lib.hid (specEqual_any ta)
    generalize (typeO o1 s).isSome=okb at *
    generalize tyO (typeO o1 s)=tb at *
    generalize kdO (typeO o1 s)=two at *
    clear hG hvala hr HT
    obtain ⟨wa,rfl⟩:∃ x,x=wc:=⟨_,rfl⟩
    go_upto_region 7 with fail
    have bA:=(Below.refl wa.heap.size wa).drew
    have bB:=((Below.refl wa.heap.size wa).alloc (Nat.le_refl _) (.cells #[.int .i64 0,.slice none 0 0,.slice none 0 0] 27)).drew
    have zB:Whole1 (wa.alloc (.cells #[.int .i64 0,.slice none 0 0,.slice none 0 0] 27)).drew wa.heap.size 27 #[.int .i64 0,.slice none 0 0,.slice none 0 0]:=Whole1.new wa 27 #[.int .i64 0,.slice none 0 0,.slice none 0 0]
    have KS:=Lib.hid (fun (x:World) (hx:Below wa.heap.size wa x)=>(show x.cell? ⟨w.heap.size,0,none⟩=some (.int .i64 s.kind)∧x.cell? ⟨w.heap.size,1,none⟩=some (.slice L s.labels.length lc)∧x.cell? ⟨w.heap.size,2,none⟩=some (.slice A s.args.length ac)∧x.cell? ⟨w.heap.size+1,3,none⟩=some (.slice (some ⟨b,off,none⟩) 2 bc)∧x.cell? ⟨b,off+4,none⟩=some (.int .i64 o1.kind)∧x.cell? ⟨b,off+4+1,none⟩=some (.string o1.name)∧x.cell? ⟨b,off+4+2,none⟩=some (.int .i64 o1.num)∧x.cell? ⟨b,off+4+3,none⟩=some (.slice A1 o1.args.length c1) from ⟨kC hx (hpc.cell 0) hpcl,kC hx (hpc.cell 1) hpcl,kC hx (hpc.cell 2) hpcl,kC hx (hqc.cell 3) hqcl,kC hx ((kC hcb (HE.out _ _ HY.out.1) hbl)) hbc,kC hx ((kC hcb (HE.out _ _ HY.out.2.1) hbl)) hbc,kC hx ((kC hcb (HE.out _ _ HY.out.2.2.1) hbl)) hbc,kC hx ((kC hcb (HE.out _ _ HY.out.2.2.2) hbl)) hbc⟩))
    go_cut [13,14,15] from 47 to 56 (fun p kd ok wx=>∃ z T1 T2 U1 U2,p=.pointer (some ⟨z,0,none⟩)∧kd=.int .i64 two∧ok=.bool okb∧Got wa wx z T1 T2 U1 U2 tb)
    case first=>
      go_region_held3 (fun x:World=>x.cell? ⟨w.heap.size,0,none⟩=some (.int .i64 s.kind)∧x.cell? ⟨w.heap.size,1,none⟩=some (.slice L s.labels.length lc)∧x.cell? ⟨w.heap.size,2,none⟩=some (.slice A s.args.length ac)∧x.cell? ⟨w.heap.size+1,3,none⟩=some (.slice (some ⟨b,off,none⟩) 2 bc)∧x.cell? ⟨b,off+4,none⟩=some (.int .i64 o1.kind)∧x.cell? ⟨b,off+4+1,none⟩=some (.string o1.name)∧x.cell? ⟨b,off+4+2,none⟩=some (.int .i64 o1.num)∧x.cell? ⟨b,off+4+3,none⟩=some (.slice A1 o1.args.length c1)) (first | with_reducible exact KS.out _ bA | with_reducible exact KS.out _ bB | with_reducible exact KS.out _ hb1 | with_reducible exact KS.out _ (hb1.trans (((Below.refl _ _).alloc (Nat.le_refl _) _).mono hb1.size)) | with_reducible exact KS.out _ (((hb1.setCell (Nat.le_refl _) _).setCell (Nat.le_refl _) _).setCell (Nat.le_refl _) _) | go_keep) (first | (go_simp;go_at_call 57;(with_reducible refine (HT2.out _ (by first | with_reducible exact bA | with_reducible exact bB)).mono ?_);rintro e w1 ⟨v2,rfl,hv2,hb1'⟩;have HV2:=Lib.hid hv2;obtain ⟨T3,U3,T4,U4,_,rfl,_⟩:=hv2.open;have hb1:Below wa.heap.size wa w1:=(by first | exact bA.trans (hb1'.mono bA.size) | exact bB.trans (hb1'.mono bB.size));(try have HZ1:=Lib.hid (zB.below hb1' zB.lt));(try have zq0:w1.cell? ⟨wa.heap.size,0,none⟩=some (.int .i64 0):=HZ1.out.cell 0);(try have zr0:w1.frozen? ⟨wa.heap.size,0,none⟩=false:=HZ1.out.free 0);(try have zq1:w1.cell? ⟨wa.heap.size,1,none⟩=some (.slice none 0 0):=HZ1.out.cell 1);(try have zr1:w1.frozen? ⟨wa.heap.size,1,none⟩=false:=HZ1.out.free 1);(try have zq2:w1.cell? ⟨wa.heap.size,2,none⟩=some (.slice none 0 0):=HZ1.out.cell 2);(try have zr2:w1.frozen? ⟨wa.heap.size,2,none⟩=false:=HZ1.out.free 2);clear hb1' hv2))
      all_goals go_wp2
      all_goals go_meet
      all_goals first | exact ⟨_,T3,T4,U3,U4,rfl,rfl,rfl,Got.late HV2.out bA.size hb1⟩ | exact ⟨_,T3,T4,U3,U4,rfl,rfl,rfl,Got.late HV2.out bB.size hb1⟩ | exact ⟨_,T3,T4,U3,U4,rfl,rfl,rfl,Got.early HV2.out (by first | exact zB.lt | omega) (Nat.le_refl _) HZ1.out rfl hb1⟩
    case rest=>
      obtain ⟨z2,T3,T4,U3,U4,rfl,rfl,rfl,hG2⟩:=hcut
      have HG2:=Lib.hid hG2
      have hcb2:=hcb.trans (hG2.below.mono hcb.size)
      have hz2:=hG2.box.lt
      have hbz:=(HG.out.up hG2.below)
      have hzl2:=hbz.box.lt
      have hne2:w.heap.size+1+1≠z2:=by have h:=hG2.apart;have h':=hcb.size;omega
      have hne1:w.heap.size+1+1≠z:=by omega
      have HFF:=Lib.hid (fun w9 (h9:Below wc.heap.size wc w9) (okk:Bool) (hok:(okb&&(withinB one 4&&(withinB two 4&&eqTyB ta tb)))=okk) x y u=>(show SomePost (elseO (typeO o0) (typeO o1) s) w (.returned (.tuple #[.agg #[.int .i64 ta.kind,.slice T1 ta.labels.length U1,.slice T2 ta.args.length U2],.int .i64 4,.bool okk])) (((w9.setCell ⟨w.heap.size+1+1,0,none⟩ x).setCell ⟨w.heap.size+1+1,1,none⟩ y).setCell ⟨w.heap.size+1+1,2,none⟩ u) from by
        have h1:=set3_in (w:=w) (g:=w.heap.size+1+1) (hbz.up h9).tree hzl (by omega) (hb0.trans ((hcb2.trans (h9.mono hcb2.size)).mono hb0.size)) x y u
        exact ⟨_,ta,4,by rw [HR.out.2,hok],h1.1,h1.2,by have:=HS.out;omega,HR.out.1⟩))
      have HEQ2:=Lib.hid (fun W (h:Below wc.heap.size wc W)=>HEQ.out tb _ _ W (hbz.tree.here.up h) (HG2.out.tree.here.up h))
      clear hG2
      cases okb
      · skip
        have hdd:=(Below.refl wc.heap.size wc).drew
        go_upto_region 8 with fail
        have a0:wc.cell? ⟨z,0,none⟩=some (.int .i64 ta.kind):=(hbz.box.cell 0)
        have m0:wc.drew.cell? ⟨z,0,none⟩=some (.int .i64 ta.kind):=(hbz.box.cell 0)
        have a1:wc.cell? ⟨z,1,none⟩=some (.slice T1 ta.labels.length U1):=(hbz.box.cell 1)
        have m1:wc.drew.cell? ⟨z,1,none⟩=some (.slice T1 ta.labels.length U1):=(hbz.box.cell 1)
        have a2:wc.cell? ⟨z,2,none⟩=some (.slice T2 ta.args.length U2):=(hbz.box.cell 2)
        have m2:wc.drew.cell? ⟨z,2,none⟩=some (.slice T2 ta.args.length U2):=(hbz.box.cell 2)
        have z1:=z0.below hcb2 hzl
        have d0:wc.cell? ⟨w.heap.size+1+1,0,none⟩=some (.int .i64 0):=z1.cell 0
        have d1:wc.cell? ⟨w.heap.size+1+1,1,none⟩=some (.slice none 0 0):=z1.cell 1
        have d2:wc.cell? ⟨w.heap.size+1+1,2,none⟩=some (.slice none 0 0):=z1.cell 2
        have dd0:wc.drew.cell? ⟨w.heap.size+1+1,0,none⟩=some (.int .i64 0):=z1.cell 0
        have dd1:wc.drew.cell? ⟨w.heap.size+1+1,1,none⟩=some (.slice none 0 0):=z1.cell 1
        have dd2:wc.drew.cell? ⟨w.heap.size+1+1,2,none⟩=some (.slice none 0 0):=z1.cell 2
        have f0:wc.frozen? ⟨w.heap.size+1+1,0,none⟩=false:=z1.free 0
        have f1:wc.frozen? ⟨w.heap.size+1+1,1,none⟩=false:=z1.free 1
        have f2:wc.frozen? ⟨w.heap.size+1+1,2,none⟩=false:=z1.free 2
        have ff0:wc.drew.frozen? ⟨w.heap.size+1+1,0,none⟩=false:=z1.free 0
        have ff1:wc.drew.frozen? ⟨w.heap.size+1+1,1,none⟩=false:=z1.free 1
        have ff2:wc.drew.frozen? ⟨w.heap.size+1+1,2,none⟩=false:=z1.free 2
        have HF:=Lib.hid (fun x y u=>HFF.out wc.drew hdd false rfl x y u)
        clear hdd
        go_region
        all_goals go_wp2
        all_goals exact bodyPost_ret (v:=.tuple #[.agg #[.int .i64 ta.kind,.slice T1 ta.labels.length U1,.slice T2 ta.args.length U2],.int .i64 4,.bool false]) (by simp [results,Tryz.results148,go_sem,d0,d1,d2]) rfl (HF.out _ _ _)
      · have HW1:=Lib.hid (fun W=>specIsWithin_same one 4 W)
        have HW2:=Lib.hid (fun W=>specIsWithin_same two 4 W)
        cases hw1:withinB one 4
        · rw [hw1] at HW1 HFF
          clear hw1
          have hdd:=(Below.refl wc.heap.size wc).drew
          go_upto_region 8 with fail
          have a0:wc.cell? ⟨z,0,none⟩=some (.int .i64 ta.kind):=(hbz.box.cell 0)
          have m0:wc.drew.cell? ⟨z,0,none⟩=some (.int .i64 ta.kind):=(hbz.box.cell 0)
          have a1:wc.cell? ⟨z,1,none⟩=some (.slice T1 ta.labels.length U1):=(hbz.box.cell 1)
          have m1:wc.drew.cell? ⟨z,1,none⟩=some (.slice T1 ta.labels.length U1):=(hbz.box.cell 1)
          have a2:wc.cell? ⟨z,2,none⟩=some (.slice T2 ta.args.length U2):=(hbz.box.cell 2)
          have m2:wc.drew.cell? ⟨z,2,none⟩=some (.slice T2 ta.args.length U2):=(hbz.box.cell 2)
          have z1:=z0.below hcb2 hzl
          have d0:wc.cell? ⟨w.heap.size+1+1,0,none⟩=some (.int .i64 0):=z1.cell 0
          have d1:wc.cell? ⟨w.heap.size+1+1,1,none⟩=some (.slice none 0 0):=z1.cell 1
          have d2:wc.cell? ⟨w.heap.size+1+1,2,none⟩=some (.slice none 0 0):=z1.cell 2
          have dd0:wc.drew.cell? ⟨w.heap.size+1+1,0,none⟩=some (.int .i64 0):=z1.cell 0
          have dd1:wc.drew.cell? ⟨w.heap.size+1+1,1,none⟩=some (.slice none 0 0):=z1.cell 1
          have dd2:wc.drew.cell? ⟨w.heap.size+1+1,2,none⟩=some (.slice none 0 0):=z1.cell 2
          have f0:wc.frozen? ⟨w.heap.size+1+1,0,none⟩=false:=z1.free 0
          have f1:wc.frozen? ⟨w.heap.size+1+1,1,none⟩=false:=z1.free 1
          have f2:wc.frozen? ⟨w.heap.size+1+1,2,none⟩=false:=z1.free 2
          have ff0:wc.drew.frozen? ⟨w.heap.size+1+1,0,none⟩=false:=z1.free 0
          have ff1:wc.drew.frozen? ⟨w.heap.size+1+1,1,none⟩=false:=z1.free 1
          have ff2:wc.drew.frozen? ⟨w.heap.size+1+1,2,none⟩=false:=z1.free 2
          have HF:=Lib.hid (fun x y u=>HFF.out wc.drew hdd false rfl x y u)
          clear hdd
          (first | go_region_with (first | (go_simp;go_at_call 138;(with_reducible refine (HW1.out _).mono ?_);rintro e w9 ⟨rfl,rfl⟩)) | fail)
          all_goals go_wp2
          all_goals exact bodyPost_ret (v:=.tuple #[.agg #[.int .i64 ta.kind,.slice T1 ta.labels.length U1,.slice T2 ta.args.length U2],.int .i64 4,.bool false]) (by simp [results,Tryz.results148,go_sem,d0,d1,d2]) rfl (HF.out _ _ _)
        · rw [hw1] at HW1 HFF
          clear hw1
          cases hw2:withinB two 4
          · rw [hw2] at HW2 HFF
            clear hw2
            have hdd:=(Below.refl wc.heap.size wc).drew
            go_upto_region 8 with fail
            have a0:wc.cell? ⟨z,0,none⟩=some (.int .i64 ta.kind):=(hbz.box.cell 0)
            have m0:wc.drew.cell? ⟨z,0,none⟩=some (.int .i64 ta.kind):=(hbz.box.cell 0)
            have a1:wc.cell? ⟨z,1,none⟩=some (.slice T1 ta.labels.length U1):=(hbz.box.cell 1)
            have m1:wc.drew.cell? ⟨z,1,none⟩=some (.slice T1 ta.labels.length U1):=(hbz.box.cell 1)
            have a2:wc.cell? ⟨z,2,none⟩=some (.slice T2 ta.args.length U2):=(hbz.box.cell 2)
            have m2:wc.drew.cell? ⟨z,2,none⟩=some (.slice T2 ta.args.length U2):=(hbz.box.cell 2)
            have z1:=z0.below hcb2 hzl
            have d0:wc.cell? ⟨w.heap.size+1+1,0,none⟩=some (.int .i64 0):=z1.cell 0
            have d1:wc.cell? ⟨w.heap.size+1+1,1,none⟩=some (.slice none 0 0):=z1.cell 1
            have d2:wc.cell? ⟨w.heap.size+1+1,2,none⟩=some (.slice none 0 0):=z1.cell 2
            have dd0:wc.drew.cell? ⟨w.heap.size+1+1,0,none⟩=some (.int .i64 0):=z1.cell 0
            have dd1:wc.drew.cell? ⟨w.heap.size+1+1,1,none⟩=some (.slice none 0 0):=z1.cell 1
            have dd2:wc.drew.cell? ⟨w.heap.size+1+1,2,none⟩=some (.slice none 0 0):=z1.cell 2
            have f0:wc.frozen? ⟨w.heap.size+1+1,0,none⟩=false:=z1.free 0
            have f1:wc.frozen? ⟨w.heap.size+1+1,1,none⟩=false:=z1.free 1
            have f2:wc.frozen? ⟨w.heap.size+1+1,2,none⟩=false:=z1.free 2
            have ff0:wc.drew.frozen? ⟨w.heap.size+1+1,0,none⟩=false:=z1.free 0
            have ff1:wc.drew.frozen? ⟨w.heap.size+1+1,1,none⟩=false:=z1.free 1
            have ff2:wc.drew.frozen? ⟨w.heap.size+1+1,2,none⟩=false:=z1.free 2
            have HF:=Lib.hid (fun x y u=>HFF.out wc.drew hdd false rfl x y u)
            clear hdd
            (first | go_region_with (first | (go_simp;go_at_call 138;(with_reducible refine (HW1.out _).mono ?_);rintro e w9 ⟨rfl,rfl⟩) | (go_simp;go_at_call 138;(with_reducible refine (HW2.out _).mono ?_);rintro e w9 ⟨rfl,rfl⟩)) | fail)
            all_goals go_wp2
            all_goals exact bodyPost_ret (v:=.tuple #[.agg #[.int .i64 ta.kind,.slice T1 ta.labels.length U1,.slice T2 ta.args.length U2],.int .i64 4,.bool false]) (by simp [results,Tryz.results148,go_sem,d0,d1,d2]) rfl (HF.out _ _ _)
          · rw [hw2] at HW2 HFF
            clear hw2
            have hdd:=(Below.refl wc.heap.size wc).drew
            generalize eqTyB ta tb=eqq at *
            go_upto_region 8 with fail
            have a0:wc.drew.cell? ⟨z,0,none⟩=some (.int .i64 ta.kind):=(hbz.box.cell 0)
            have a1:wc.drew.cell? ⟨z,1,none⟩=some (.slice T1 ta.labels.length U1):=(hbz.box.cell 1)
            have a2:wc.drew.cell? ⟨z,2,none⟩=some (.slice T2 ta.args.length U2):=(hbz.box.cell 2)
            have a3:wc.drew.cell? ⟨z2,0,none⟩=some (.int .i64 tb.kind):=(HG2.out.box.cell 0)
            have a4:wc.drew.cell? ⟨z2,1,none⟩=some (.slice T3 tb.labels.length U3):=(HG2.out.box.cell 1)
            have a5:wc.drew.cell? ⟨z2,2,none⟩=some (.slice T4 tb.args.length U4):=(HG2.out.box.cell 2)
            go_region_held3 (fun x':World=>x'.cell? ⟨z,0,none⟩=some (.int .i64 ta.kind)∧x'.cell? ⟨z,1,none⟩=some (.slice T1 ta.labels.length U1)∧x'.cell? ⟨z,2,none⟩=some (.slice T2 ta.args.length U2)∧x'.cell? ⟨z2,0,none⟩=some (.int .i64 tb.kind)∧x'.cell? ⟨z2,1,none⟩=some (.slice T3 tb.labels.length U3)∧x'.cell? ⟨z2,2,none⟩=some (.slice T4 tb.args.length U4)) (first | with_reducible exact ⟨a0,a1,a2,a3,a4,a5⟩ | with_reducible exact ⟨k0,k1,k2,k3,k4,k5⟩ | with_reducible exact ⟨l0,l1,l2,l3,l4,l5⟩ | go_keep) (first | (go_simp;go_at_call 138;(with_reducible refine (HW1.out _).mono ?_);rintro e w9 ⟨rfl,rfl⟩) | (go_simp;go_at_call 138;(with_reducible refine (HW2.out _).mono ?_);rintro e w9 ⟨rfl,rfl⟩) | (go_simp;go_at_call 13;(with_reducible refine (HEQ2.out _ hdd).mono ?_);rintro e w9 ⟨rfl,hb9'⟩;have hb9:=hdd.trans hb9';have k0:w9.cell? ⟨z,0,none⟩=some (.int .i64 ta.kind):=(kC hb9 (hbz.box.cell 0) hzl2);have l0:(((w9.setCell ⟨w.heap.size+1+1,0,none⟩ (.int .i64 ta.kind)).setCell ⟨w.heap.size+1+1,1,none⟩ (.slice T1 ta.labels.length U1)).setCell ⟨w.heap.size+1+1,2,none⟩ (.slice T2 ta.args.length U2)).cell? ⟨z,0,none⟩=some (.int .i64 ta.kind):=set3_far _ _ _ _ k0 hne1;have k1:w9.cell? ⟨z,1,none⟩=some (.slice T1 ta.labels.length U1):=(kC hb9 (hbz.box.cell 1) hzl2);have l1:(((w9.setCell ⟨w.heap.size+1+1,0,none⟩ (.int .i64 ta.kind)).setCell ⟨w.heap.size+1+1,1,none⟩ (.slice T1 ta.labels.length U1)).setCell ⟨w.heap.size+1+1,2,none⟩ (.slice T2 ta.args.length U2)).cell? ⟨z,1,none⟩=some (.slice T1 ta.labels.length U1):=set3_far _ _ _ _ k1 hne1;have k2:w9.cell? ⟨z,2,none⟩=some (.slice T2 ta.args.length U2):=(kC hb9 (hbz.box.cell 2) hzl2);have l2:(((w9.setCell ⟨w.heap.size+1+1,0,none⟩ (.int .i64 ta.kind)).setCell ⟨w.heap.size+1+1,1,none⟩ (.slice T1 ta.labels.length U1)).setCell ⟨w.heap.size+1+1,2,none⟩ (.slice T2 ta.args.length U2)).cell? ⟨z,2,none⟩=some (.slice T2 ta.args.length U2):=set3_far _ _ _ _ k2 hne1;have k3:w9.cell? ⟨z2,0,none⟩=some (.int .i64 tb.kind):=(kC hb9 (HG2.out.box.cell 0) hz2);have l3:(((w9.setCell ⟨w.heap.size+1+1,0,none⟩ (.int .i64 ta.kind)).setCell ⟨w.heap.size+1+1,1,none⟩ (.slice T1 ta.labels.length U1)).setCell ⟨w.heap.size+1+1,2,none⟩ (.slice T2 ta.args.length U2)).cell? ⟨z2,0,none⟩=some (.int .i64 tb.kind):=set3_far _ _ _ _ k3 hne2;have k4:w9.cell? ⟨z2,1,none⟩=some (.slice T3 tb.labels.length U3):=(kC hb9 (HG2.out.box.cell 1) hz2);have l4:(((w9.setCell ⟨w.heap.size+1+1,0,none⟩ (.int .i64 ta.kind)).setCell ⟨w.heap.size+1+1,1,none⟩ (.slice T1 ta.labels.length U1)).setCell ⟨w.heap.size+1+1,2,none⟩ (.slice T2 ta.args.length U2)).cell? ⟨z2,1,none⟩=some (.slice T3 tb.labels.length U3):=set3_far _ _ _ _ k4 hne2;have k5:w9.cell? ⟨z2,2,none⟩=some (.slice T4 tb.args.length U4):=(kC hb9 (HG2.out.box.cell 2) hz2);have l5:(((w9.setCell ⟨w.heap.size+1+1,0,none⟩ (.int .i64 ta.kind)).setCell ⟨w.heap.size+1+1,1,none⟩ (.slice T1 ta.labels.length U1)).setCell ⟨w.heap.size+1+1,2,none⟩ (.slice T2 ta.args.length U2)).cell? ⟨z2,2,none⟩=some (.slice T4 tb.args.length U4):=set3_far _ _ _ _ k5 hne2;have z9:=z0.below (hcb2.trans (hb9.mono hcb2.size)) hzl;obtain ⟨d0,d1,d2⟩:=z9.c3;obtain ⟨f0,f1,f2⟩:=z9.f3;have HF:=Lib.hid (fun x y u=>HFF.out w9 hb9 eqq rfl x y u);clear hb9' hb9 z9))
            all_goals go_wp2
            all_goals exact bodyPost_ret (v:=.tuple #[.agg #[.int .i64 ta.kind,.slice T1 ta.labels.length U1,.slice T2 ta.args.length U2],.int .i64 4,.bool eqq]) (by simp [results,Tryz.results148,go_sem,d0,d1,d2]) rfl (HF.out _ _ _)
end Go.Proofs.YtfnblkcmcfofoaaGreatDoor
