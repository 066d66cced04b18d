/- InOrder, 4 -/
import Derived.BigRegion
import Derived.Deep.RegionHeld3
import Derived.Deep.CutRange
import Derived.ProofKit
import Derived.Deep.Slices
import Derived.SizedLaws
import Derived.OpenShut
import Derived.Test.YthmdjhlhodpbhaaGreatDoorI00
import Derived.Test.YthmdjhlhodpbhaaGreatDoorI03
set_option maxHeartbeats 16000000
set_option maxRecDepth 8000
namespace Go.Proofs.YthmdjhlhodpbhaaGreatDoor
open Go.RowKit
def cfgN(g:Cfg):Cfg:=⟨1+aM g.c0 8,8+aM g.c1 60,8+aM g.c2 (8+aM g.c1 60-8+1),1+aM g.c3 8,1+aM g.c4 8,aM g.c5 9,1+aM g.c6 1000,1+aM g.c7 1000,aM g.c8 5000,aM g.c9 4294967296⟩
structure CfgRaw(g:Cfg):Prop where
 c0:-9223372036854775808<=g.c0/\g.c0<=9223372036854775807
 c1:-9223372036854775808<=g.c1/\g.c1<=9223372036854775807
 c2:-9223372036854775808<=g.c2/\g.c2<=9223372036854775807
 c3:-9223372036854775808<=g.c3/\g.c3<=9223372036854775807
 c4:-9223372036854775808<=g.c4/\g.c4<=9223372036854775807
 c5:-9223372036854775808<=g.c5/\g.c5<=9223372036854775807
 c6:-9223372036854775808<=g.c6/\g.c6<=9223372036854775807
 c7:-9223372036854775808<=g.c7/\g.c7<=9223372036854775807
 c8:-9223372036854775808<=g.c8/\g.c8<=9223372036854775807
 c9:-9223372036854775808<=g.c9/\g.c9<=9223372036854775807
def cfgC(g:Cfg):Array Value:=#[.int .i64 g.c0,.int .i64 g.c1,.int .i64 g.c2,.int .i64 g.c3,.int .i64 g.c4,.int .i64 g.c5,.int .i64 g.c6,.int .i64 g.c7,.int .i64 g.c8,.int .i64 g.c9]
theorem ten_set{w:World}{b:Nat}{T:TypeId}(h:w.heap[b]? =some (.cells #[.int .i64 0,.int .i64 0,.int .i64 0,.int .i64 0,.int .i64 0,.int .i64 0,.int .i64 0,.int .i64 0,.int .i64 0,.int .i64 0] T (0,0)))(v0 v1 v2 v3 v4 v5 v6 v7 v8 v9:Value):((((((((((w.setCell ⟨b,0,none⟩ v0).setCell ⟨b,1,none⟩ v1).setCell ⟨b,2,none⟩ v2).setCell ⟨b,3,none⟩ v3).setCell ⟨b,4,none⟩ v4).setCell ⟨b,5,none⟩ v5).setCell ⟨b,6,none⟩ v6).setCell ⟨b,7,none⟩ v7).setCell ⟨b,8,none⟩ v8).setCell ⟨b,9,none⟩ v9).heap[b]? =some (.cells #[v0,v1,v2,v3,v4,v5,v6,v7,v8,v9] T (0,0)):=by
 have:=(ak (ak (ak (ak (ak (ak (ak (ak (ak (ak h 0 v0) 1 v1) 2 v2) 3 v3) 4 v4) 5 v5) 6 v6) 7 v7) 8 v8) 9 v9)
 simpa using this
theorem kconfig_any(g:Cfg)(w:World)(hg:CfgRaw g):Calls Tryz.prog 25 #[.agg (cfgC g)] w fun e w'=>e=.returned (.agg (cfgC (cfgN g)))/\Below w.heap.size w w':=by
 have hb1:=af w (.cells (cfgC g) 26)
 have hb2:=ag hb1 (af (w.alloc (.cells (cfgC g) 26)) (.cells #[.int .i64 0,.int .i64 0,.int .i64 0,.int .i64 0,.int .i64 0,.int .i64 0,.int .i64 0,.int .i64 0,.int .i64 0,.int .i64 0] 26))
 have HP:Hid (∀(c n:Int) (W:World),-9223372036854775808<=c/\c<=9223372036854775807->0<n/\n<=1000000000000->Calls Tryz.prog 19 #[.int .i64 c,.int .i64 n] W fun e w'=>e=.returned (.int .i64 (aM c n))/\W=w'):=fun c n W h1 h2=>kpick_any c n W h1 h2
 have r0:=aS g.c0 (n:=8) (by decide)
 have r1:=aS g.c1 (n:=60) (by decide)
 have r2:=aS g.c2 (n:=8+aM g.c1 60-8+1) (by omega)
 have r3:=aS g.c3 (n:=8) (by decide)
 have r4:=aS g.c4 (n:=8) (by decide)
 have r6:=aS g.c6 (n:=1000) (by decide)
 have r7:=aS g.c7 (n:=1000) (by decide)
 have HG:=ab hg
 unfold cfgN
 obtain⟨g0,g1,g2,g3,g4,g5,g6,g7,g8,g9⟩:=g
 unfold cfgC at *
 simp only at *
 have HB2:=ab hb2
 obtain⟨r0a,r0b⟩:=r0
 obtain⟨r1a,r1b⟩:=r1
 obtain⟨r2a,r2b⟩:=r2
 obtain⟨r3a,r3b⟩:=r3
 obtain⟨r4a,r4b⟩:=r4
 obtain⟨r6a,r6b⟩:=r6
 obtain⟨r7a,r7b⟩:=r7
 clear hg hb1 hb2
 go_enter Tryz.func25,Tryz.ntmps25
 go_wp2_with fail
 have xr:((w.alloc (.cells #[.int .i64 g0,.int .i64 g1,.int .i64 g2,.int .i64 g3,.int .i64 g4,.int .i64 g5,.int .i64 g6,.int .i64 g7,.int .i64 g8,.int .i64 g9] 26)).alloc (.cells #[.int .i64 0,.int .i64 0,.int .i64 0,.int .i64 0,.int .i64 0,.int .i64 0,.int .i64 0,.int .i64 0,.int .i64 0,.int .i64 0] 26)).heap[w.heap.size]? =some (.cells #[.int .i64 g0,.int .i64 g1,.int .i64 g2,.int .i64 g3,.int .i64 g4,.int .i64 g5,.int .i64 g6,.int .i64 g7,.int .i64 g8,.int .i64 g9] 26 (0,0)):=by
  rw[Below.heap_alloc _ _ _ (by simp)]
  exact heap_alloc_new w _
 have xz:((w.alloc (.cells #[.int .i64 g0,.int .i64 g1,.int .i64 g2,.int .i64 g3,.int .i64 g4,.int .i64 g5,.int .i64 g6,.int .i64 g7,.int .i64 g8,.int .i64 g9] 26)).alloc (.cells #[.int .i64 0,.int .i64 0,.int .i64 0,.int .i64 0,.int .i64 0,.int .i64 0,.int .i64 0,.int .i64 0,.int .i64 0,.int .i64 0] 26)).heap[w.heap.size+1]? =some (.cells #[.int .i64 0,.int .i64 0,.int .i64 0,.int .i64 0,.int .i64 0,.int .i64 0,.int .i64 0,.int .i64 0,.int .i64 0,.int .i64 0] 26 (0,0)):=by
  have:=heap_alloc_new (w.alloc (.cells #[.int .i64 g0,.int .i64 g1,.int .i64 g2,.int .i64 g3,.int .i64 g4,.int .i64 g5,.int .i64 g6,.int .i64 g7,.int .i64 g8,.int .i64 g9] 26)) (.cells #[.int .i64 0,.int .i64 0,.int .i64 0,.int .i64 0,.int .i64 0,.int .i64 0,.int .i64 0,.int .i64 0,.int .i64 0,.int .i64 0] 26)
  simpa using this
 have hsz:((w.alloc (.cells #[.int .i64 g0,.int .i64 g1,.int .i64 g2,.int .i64 g3,.int .i64 g4,.int .i64 g5,.int .i64 g6,.int .i64 g7,.int .i64 g8,.int .i64 g9] 26)).alloc (.cells #[.int .i64 0,.int .i64 0,.int .i64 0,.int .i64 0,.int .i64 0,.int .i64 0,.int .i64 0,.int .i64 0,.int .i64 0,.int .i64 0] 26)).heap.size=w.heap.size+2:=by simp
 generalize hW:(w.alloc (.cells #[.int .i64 g0,.int .i64 g1,.int .i64 g2,.int .i64 g3,.int .i64 g4,.int .i64 g5,.int .i64 g6,.int .i64 g7,.int .i64 g8,.int .i64 g9] 26)).alloc (.cells #[.int .i64 0,.int .i64 0,.int .i64 0,.int .i64 0,.int .i64 0,.int .i64 0,.int .i64 0,.int .i64 0,.int .i64 0,.int .i64 0] 26)=w1 at *
 have k0:w1.cell? ⟨w.heap.size,0,none⟩= some (.int .i64 g0):=by simp only[World.cell?,xr];rfl
 have k1:w1.cell? ⟨w.heap.size,1,none⟩= some (.int .i64 g1):=by simp only[World.cell?,xr];rfl
 have k3:w1.cell? ⟨w.heap.size,3,none⟩= some (.int .i64 g3):=by simp only[World.cell?,xr];rfl
 have k4:w1.cell? ⟨w.heap.size,4,none⟩= some (.int .i64 g4):=by simp only[World.cell?,xr];rfl
 have HXr:=ab xr
 have HXz:=ab xz
 have HSz:=ab hsz
 clear xr xz hW hsz
 have d0:w1.drew.cell? ⟨w.heap.size,0,none⟩= some (.int .i64 g0):=k0
 have d1:w1.drew.cell? ⟨w.heap.size,1,none⟩= some (.int .i64 g1):=k1
 have d3:w1.drew.cell? ⟨w.heap.size,3,none⟩= some (.int .i64 g3):=k3
 have d4:w1.drew.cell? ⟨w.heap.size,4,none⟩= some (.int .i64 g4):=k4
 go_cut [3] from 4 to 20 (fun s3 wx=>s3=.pointer (some ⟨w.heap.size+2,0,none⟩)/\Below w1.heap.size w1 wx/\wx.heap[w.heap.size+2]? =some (.cells #[.int .i64 (1+aM g0 8),.int .i64 (8+aM g1 60),.int .i64 0,.int .i64 (1+aM g3 8),.int .i64 (1+aM g4 8),.int .i64 0,.int .i64 0,.int .i64 0,.int .i64 0,.int .i64 0] 26 (0,0)))
 case first=>
  have hS:=And.intro d0 (And.intro d1 (And.intro d3 d4))
  go_region_held3 (fun w'=>w'.cell? ⟨w.heap.size,0,none⟩= some (.int .i64 g0)/\w'.cell? ⟨w.heap.size,1,none⟩= some (.int .i64 g1)/\w'.cell? ⟨w.heap.size,3,none⟩= some (.int .i64 g3)/\w'.cell? ⟨w.heap.size,4,none⟩= some (.int .i64 g4)) (first|with_reducible assumption|go_keep) (first
   |(go_at_call 19;refine(HP.out _ _ _ (by first|exact HG.out.c0|exact HG.out.c1|exact HG.out.c3|exact HG.out.c4) (by decide)).mono ?_;rintro e w2 ⟨rfl,rfl⟩))
  all_goals
   go_wp2_with fail
   go_meet
   have e0:IntKind.i64.wrap (1+aM g0 8)=1+aM g0 8:=by rw[IntKind.wrap_i64];omega
   have e1:IntKind.i64.wrap (8+aM g1 60)=8+aM g1 60:=by rw[IntKind.wrap_i64];omega
   have e3:IntKind.i64.wrap (1+aM g3 8)=1+aM g3 8:=by rw[IntKind.wrap_i64];omega
   have e4:IntKind.i64.wrap (1+aM g4 8)=1+aM g4 8:=by rw[IntKind.wrap_i64];omega
   rw[e0,e1,e3,e4]
   refine⟨by rw[HSz.out],aj (af w1 _) 1,?_⟩
   rw[heap_drew,<-HSz.out]
   exact heap_alloc_new w1 _
 case rest=>
  obtain⟨rfl,hbw,hbx⟩:=hcut
  have xr:=(hbw.block _ (Array.getElem?_eq_some_iff.1 HXr.out).1).trans HXr.out
  have xz:=(hbw.block _ (Array.getElem?_eq_some_iff.1 HXz.out).1).trans HXz.out
  have HB:=ab (ag HB2.out hbw)
  have HXz':=ab xz
  have HXb:=ab hbx
  clear k0 k1 k3 k4 d0 d1 d3 d4 hbw HXr HXz HB2
  have a2:wc.cell? ⟨w.heap.size,2,none⟩= some (.int .i64 g2):=by simp only[World.cell?,xr];rfl
  have a5:wc.cell? ⟨w.heap.size,5,none⟩= some (.int .i64 g5):=by simp only[World.cell?,xr];rfl
  have a6:wc.cell? ⟨w.heap.size,6,none⟩= some (.int .i64 g6):=by simp only[World.cell?,xr];rfl
  have a7:wc.cell? ⟨w.heap.size,7,none⟩= some (.int .i64 g7):=by simp only[World.cell?,xr];rfl
  have a8:wc.cell? ⟨w.heap.size,8,none⟩= some (.int .i64 g8):=by simp only[World.cell?,xr];rfl
  have a9:wc.cell? ⟨w.heap.size,9,none⟩= some (.int .i64 g9):=by simp only[World.cell?,xr];rfl
  have b0:wc.cell? ⟨w.heap.size+2,0,none⟩= some (.int .i64 (1+aM g0 8)):=by simp only[World.cell?,hbx];rfl
  have b1:wc.cell? ⟨w.heap.size+2,1,none⟩= some (.int .i64 (8+aM g1 60)):=by simp only[World.cell?,hbx];rfl
  have b2:wc.cell? ⟨w.heap.size+2,2,none⟩= some (.int .i64 0):=by simp only[World.cell?,hbx];rfl
  have b3:wc.cell? ⟨w.heap.size+2,3,none⟩= some (.int .i64 (1+aM g3 8)):=by simp only[World.cell?,hbx];rfl
  have b4:wc.cell? ⟨w.heap.size+2,4,none⟩= some (.int .i64 (1+aM g4 8)):=by simp only[World.cell?,hbx];rfl
  have b5:wc.cell? ⟨w.heap.size+2,5,none⟩= some (.int .i64 0):=by simp only[World.cell?,hbx];rfl
  have b6:wc.cell? ⟨w.heap.size+2,6,none⟩= some (.int .i64 0):=by simp only[World.cell?,hbx];rfl
  have b7:wc.cell? ⟨w.heap.size+2,7,none⟩= some (.int .i64 0):=by simp only[World.cell?,hbx];rfl
  have b8:wc.cell? ⟨w.heap.size+2,8,none⟩= some (.int .i64 0):=by simp only[World.cell?,hbx];rfl
  have b9:wc.cell? ⟨w.heap.size+2,9,none⟩= some (.int .i64 0):=by simp only[World.cell?,hbx];rfl
  have z0:wc.cell? ⟨w.heap.size+1,0,none⟩= some (.int .i64 0):=by simp only[World.cell?,xz];rfl
  have z1:wc.cell? ⟨w.heap.size+1,1,none⟩= some (.int .i64 0):=by simp only[World.cell?,xz];rfl
  have z2:wc.cell? ⟨w.heap.size+1,2,none⟩= some (.int .i64 0):=by simp only[World.cell?,xz];rfl
  have z3:wc.cell? ⟨w.heap.size+1,3,none⟩= some (.int .i64 0):=by simp only[World.cell?,xz];rfl
  have z4:wc.cell? ⟨w.heap.size+1,4,none⟩= some (.int .i64 0):=by simp only[World.cell?,xz];rfl
  have z5:wc.cell? ⟨w.heap.size+1,5,none⟩= some (.int .i64 0):=by simp only[World.cell?,xz];rfl
  have z6:wc.cell? ⟨w.heap.size+1,6,none⟩= some (.int .i64 0):=by simp only[World.cell?,xz];rfl
  have z7:wc.cell? ⟨w.heap.size+1,7,none⟩= some (.int .i64 0):=by simp only[World.cell?,xz];rfl
  have z8:wc.cell? ⟨w.heap.size+1,8,none⟩= some (.int .i64 0):=by simp only[World.cell?,xz];rfl
  have z9:wc.cell? ⟨w.heap.size+1,9,none⟩= some (.int .i64 0):=by simp only[World.cell?,xz];rfl
  have f2:wc.frozen? ⟨w.heap.size+2,2,none⟩= false:=frozen_of_row _ _ _ _ _ hbx
  have f5:wc.frozen? ⟨w.heap.size+2,5,none⟩= false:=frozen_of_row _ _ _ _ _ hbx
  have f6:wc.frozen? ⟨w.heap.size+2,6,none⟩= false:=frozen_of_row _ _ _ _ _ hbx
  have f7:wc.frozen? ⟨w.heap.size+2,7,none⟩= false:=frozen_of_row _ _ _ _ _ hbx
  have f8:wc.frozen? ⟨w.heap.size+2,8,none⟩= false:=frozen_of_row _ _ _ _ _ hbx
  have f9:wc.frozen? ⟨w.heap.size+2,9,none⟩= false:=frozen_of_row _ _ _ _ _ hbx
  have y0:wc.frozen? ⟨w.heap.size+1,0,none⟩= false:=frozen_of_row _ _ _ _ _ xz
  have y1:wc.frozen? ⟨w.heap.size+1,1,none⟩= false:=frozen_of_row _ _ _ _ _ xz
  have y2:wc.frozen? ⟨w.heap.size+1,2,none⟩= false:=frozen_of_row _ _ _ _ _ xz
  have y3:wc.frozen? ⟨w.heap.size+1,3,none⟩= false:=frozen_of_row _ _ _ _ _ xz
  have y4:wc.frozen? ⟨w.heap.size+1,4,none⟩= false:=frozen_of_row _ _ _ _ _ xz
  have y5:wc.frozen? ⟨w.heap.size+1,5,none⟩= false:=frozen_of_row _ _ _ _ _ xz
  have y6:wc.frozen? ⟨w.heap.size+1,6,none⟩= false:=frozen_of_row _ _ _ _ _ xz
  have y7:wc.frozen? ⟨w.heap.size+1,7,none⟩= false:=frozen_of_row _ _ _ _ _ xz
  have y8:wc.frozen? ⟨w.heap.size+1,8,none⟩= false:=frozen_of_row _ _ _ _ _ xz
  have y9:wc.frozen? ⟨w.heap.size+1,9,none⟩= false:=frozen_of_row _ _ _ _ _ xz
  clear xr xz hbx
  go_wp2_with (first
   |(go_at_call 19;refine(HP.out _ _ _ (by first|exact HG.out.c2|exact HG.out.c5|exact HG.out.c6|exact HG.out.c7|exact HG.out.c8|exact HG.out.c9) (by omega)).mono ?_;rintro e w2 ⟨rfl,rfl⟩))
  refine bodyPost_ret (results_cell_row (P:=Tryz.prog) Tryz.results25 _ _ (w.heap.size+1) 26 #[.int .i64 (1+aM g0 8),.int .i64 (8+aM g1 60),.int .i64 (8+aM g2 (8+aM g1 60-8+1)),.int .i64 (1+aM g3 8),.int .i64 (1+aM g4 8),.int .i64 (aM g5 9),.int .i64 (1+aM g6 1000),.int .i64 (1+aM g7 1000),.int .i64 (aM g8 5000),.int .i64 (aM g9 4294967296)] (0,0) _ (by kernel_rfl) (ten_set ?_ _ _ _ _ _ _ _ _ _ _) Tryz.underlying26 rfl (by kernel_rfl)) rfl ?_
  ·refine(heap_setCell_other _ _ _ _ (by simp)).trans ?_
   refine(heap_setCell_other _ _ _ _ (by simp)).trans ?_
   refine(heap_setCell_other _ _ _ _ (by simp)).trans ?_
   refine(heap_setCell_other _ _ _ _ (by simp)).trans ?_
   refine(heap_setCell_other _ _ _ _ (by simp)).trans ?_
   refine(heap_setCell_other _ _ _ _ (by simp)).trans ?_
   exact HXz'.out
  ·exact⟨rfl,((((((((((((((((HB.out.setCell (Nat.le_add_right _ _) _).setCell (Nat.le_add_right _ _) _).setCell (Nat.le_add_right _ _) _).setCell (Nat.le_add_right _ _) _).setCell (Nat.le_add_right _ _) _).setCell (Nat.le_add_right _ _) _).setCell (Nat.le_add_right _ _) _).setCell (Nat.le_add_right _ _) _).setCell (Nat.le_add_right _ _) _).setCell (Nat.le_add_right _ _) _).setCell (Nat.le_add_right _ _) _).setCell (Nat.le_add_right _ _) _).setCell (Nat.le_add_right _ _) _).setCell (Nat.le_add_right _ _) _).setCell (Nat.le_add_right _ _) _).setCell (Nat.le_add_right _ _) _)⟩
end Go.Proofs.YthmdjhlhodpbhaaGreatDoor
namespace Go.Proofs.YthmdjhlhodpbhaaGreatDoor
open Go.RowKit Go.Deep Go.ChangeShapes Go.WideShapes Go.ChangeAt
theorem cw:Tryz.prog.cellsOf 3=1:=by kernel_rfl
theorem kcells_cfg:Tryz.prog.cellsOf 26=10:=by kernel_rfl
theorem klen10{α:Type}{l:List α}(h:l.length=10):∃x0 x1 x2 x3 x4 x5 x6 x7 x8 x9:α,l=[x0,x1,x2,x3,x4,x5,x6,x7,x8,x9]:=by
 match l,h with
 |[x0,x1,x2,x3,x4,x5,x6,x7,x8,x9],_=>exact⟨x0,x1,x2,x3,x4,x5,x6,x7,x8,x9,rfl⟩
section
variable {H : Type} {enc : TypeId × Value -> H} {w : World} {spare : Nat -> Bool} {held : Bool}
theorem cI{n:Nat}{x:Value}{xs:List (DataW H×List MemPlace)}{i:Nat}(hi:i<xs.length)(h:DataW.trod enc Tryz.prog w 0 spare held n 3 [x]=xs[i]?):∃c,x=.int .i64 c/\-9223372036854775808<=c/\c<=9223372036854775807:=by
 rw[List.getElem?_eq_getElem hi]at h
 obtain⟨c,e,_,hwf⟩:=DataW.trod_int Tryz.underlying3 h
 simp only[List.cons.injEq,and_true]at e
 exact⟨c,e,bounds_i64 hwf⟩
theorem kcfg_of_trod{n:Nat}{cs:List Value}{x:DataW H×List MemPlace}(h:DataW.trod enc Tryz.prog w 0 spare held n 26 cs=some x):∃g:Cfg,cs=(cfgC g).toList/\CfgRaw g:=by
 obtain⟨xs,m,_,_,hl,hlen,hf⟩:=DataW.trod_struct Tryz.underlying26 h
 have hlen':xs.length=10:=hlen
 rw[kcells_cfg]at hl
 obtain⟨x0,x1,x2,x3,x4,x5,x6,x7,x8,x9,rfl⟩:=klen10 hl
 have g0:DataW.trod enc Tryz.prog w 0 spare held m 3 ((List.drop 0 [x0,x1,x2,x3,x4,x5,x6,x7,x8,x9]).take (Tryz.prog.cellsOf 3))=xs[0]?:=hf 0 _ rfl
 rw[cw]at g0
 obtain⟨c0,rfl,r0⟩:=cI (xs:=xs) (i:=0) (by omega) (by simpa using g0)
 have g1:DataW.trod enc Tryz.prog w 0 spare held m 3 ((List.drop 1 [.int .i64 c0,x1,x2,x3,x4,x5,x6,x7,x8,x9]).take (Tryz.prog.cellsOf 3))=xs[1]?:=hf 1 _ rfl
 rw[cw]at g1
 obtain⟨c1,rfl,r1⟩:=cI (xs:=xs) (i:=1) (by omega) (by simpa using g1)
 have g2:DataW.trod enc Tryz.prog w 0 spare held m 3 ((List.drop 2 [.int .i64 c0,.int .i64 c1,x2,x3,x4,x5,x6,x7,x8,x9]).take (Tryz.prog.cellsOf 3))=xs[2]?:=hf 2 _ rfl
 rw[cw]at g2
 obtain⟨c2,rfl,r2⟩:=cI (xs:=xs) (i:=2) (by omega) (by simpa using g2)
 have g3:DataW.trod enc Tryz.prog w 0 spare held m 3 ((List.drop 3 [.int .i64 c0,.int .i64 c1,.int .i64 c2,x3,x4,x5,x6,x7,x8,x9]).take (Tryz.prog.cellsOf 3))=xs[3]?:=hf 3 _ rfl
 rw[cw]at g3
 obtain⟨c3,rfl,r3⟩:=cI (xs:=xs) (i:=3) (by omega) (by simpa using g3)
 have g4:DataW.trod enc Tryz.prog w 0 spare held m 3 ((List.drop 4 [.int .i64 c0,.int .i64 c1,.int .i64 c2,.int .i64 c3,x4,x5,x6,x7,x8,x9]).take (Tryz.prog.cellsOf 3))=xs[4]?:=hf 4 _ rfl
 rw[cw]at g4
 obtain⟨c4,rfl,r4⟩:=cI (xs:=xs) (i:=4) (by omega) (by simpa using g4)
 have g5:DataW.trod enc Tryz.prog w 0 spare held m 3 ((List.drop 5 [.int .i64 c0,.int .i64 c1,.int .i64 c2,.int .i64 c3,.int .i64 c4,x5,x6,x7,x8,x9]).take (Tryz.prog.cellsOf 3))=xs[5]?:=hf 5 _ rfl
 rw[cw]at g5
 obtain⟨c5,rfl,r5⟩:=cI (xs:=xs) (i:=5) (by omega) (by simpa using g5)
 have g6:DataW.trod enc Tryz.prog w 0 spare held m 3 ((List.drop 6 [.int .i64 c0,.int .i64 c1,.int .i64 c2,.int .i64 c3,.int .i64 c4,.int .i64 c5,x6,x7,x8,x9]).take (Tryz.prog.cellsOf 3))=xs[6]?:=hf 6 _ rfl
 rw[cw]at g6
 obtain⟨c6,rfl,r6⟩:=cI (xs:=xs) (i:=6) (by omega) (by simpa using g6)
 have g7:DataW.trod enc Tryz.prog w 0 spare held m 3 ((List.drop 7 [.int .i64 c0,.int .i64 c1,.int .i64 c2,.int .i64 c3,.int .i64 c4,.int .i64 c5,.int .i64 c6,x7,x8,x9]).take (Tryz.prog.cellsOf 3))=xs[7]?:=hf 7 _ rfl
 rw[cw]at g7
 obtain⟨c7,rfl,r7⟩:=cI (xs:=xs) (i:=7) (by omega) (by simpa using g7)
 have g8:DataW.trod enc Tryz.prog w 0 spare held m 3 ((List.drop 8 [.int .i64 c0,.int .i64 c1,.int .i64 c2,.int .i64 c3,.int .i64 c4,.int .i64 c5,.int .i64 c6,.int .i64 c7,x8,x9]).take (Tryz.prog.cellsOf 3))=xs[8]?:=hf 8 _ rfl
 rw[cw]at g8
 obtain⟨c8,rfl,r8⟩:=cI (xs:=xs) (i:=8) (by omega) (by simpa using g8)
 have g9:DataW.trod enc Tryz.prog w 0 spare held m 3 ((List.drop 9 [.int .i64 c0,.int .i64 c1,.int .i64 c2,.int .i64 c3,.int .i64 c4,.int .i64 c5,.int .i64 c6,.int .i64 c7,.int .i64 c8,x9]).take (Tryz.prog.cellsOf 3))=xs[9]?:=hf 9 _ rfl
 rw[cw]at g9
 obtain⟨c9,rfl,r9⟩:=cI (xs:=xs) (i:=9) (by omega) (by simpa using g9)
 exact⟨⟨c0,c1,c2,c3,c4,c5,c6,c7,c8,c9⟩,rfl,⟨r0,r1,r2,r3,r4,r5,r6,r7,r8,r9⟩⟩
end
end Go.Proofs.YthmdjhlhodpbhaaGreatDoor
namespace Go.Proofs.YthmdjhlhodpbhaaGreatDoor
abbrev aL:=Int×List Int
def dx:List aL->Int->Option Int
 |[],_=>none
 |r::t,p=>if r.1<=p/\p<r.1+r.2.length then r.2[(p-r.1).toNat]? else dx t p
def cW:List aL->Prop
 |[]=>True
 |r::t=>0<r.2.length/\(∀q∈t,r.1+r.2.length<q.1)/\cW t
def valL(base:Int)(l:List Int)(p:Int):Option Int:=
 if base<=p then(match l[(p-base).toNat]? with|some x=>if 0<=x then some x else none|none=>none) else none
def eJ(base:Int)(x:Int):List aL->List aL
 |[]=>[(base,[x])]
 |r::t=>if r.1=base+1 then(base,x::r.2)::t else(base,[x])::r::t
def aU(base:Int):List Int->List aL
 |[]=>[]
 |x::l=>if 0<=x then eJ base x (aU (base+1) l) else aU (base+1) l
theorem runsWf_mem{l:List aL}(h:cW l){r:aL}(hr:r∈l):0<r.2.length:=by
 induction l with
 |nil=>cases hr
 |cons a t ih=>
  rcases List.mem_cons.1 hr with rfl|hr
  ·exact h.1
  ·exact ih h.2.2 hr
theorem fF{l:List aL}{p:Int}(h:∀q∈l,p<q.1):dx l p=none:=by
 induction l with
 |nil=>rfl
 |cons r t ih=>
  have h1:=h r (by simp)
  unfold dx
  rw[if_neg (by omega)]
  exact ih (fun q hq=>h q (by simp[hq]))
theorem pvAt_some{l:List aL}{p x:Int}(h:dx l p=some x):∃r∈l,r.1<=p/\p<r.1+r.2.length:=by
 induction l with
 |nil=>cases h
 |cons r t ih=>
  unfold dx at h
  split at h
  ·rename_i hc
   exact⟨r,by simp,hc⟩
  ·obtain⟨q,hq,hc⟩:=ih h
   exact⟨q,by simp[hq],hc⟩
theorem eK{r:aL}{t:List aL}{p:Int}(h:r.1<=p/\p<r.1+r.2.length):dx (r::t) p=r.2[(p-r.1).toNat]?:=by
 unfold dx
 rw[if_pos h]
theorem dE{r:aL}{t:List aL}{p:Int}(h:¬(r.1<=p/\p<r.1+r.2.length)):dx (r::t) p=dx t p:=by
 conv=>lhs;unfold dx
 rw[if_neg h]
theorem eX{r:aL}{t:List aL}{p:Int}(h:r.1<=p/\p<r.1+r.2.length):∃x,dx (r::t) p=some x:=by
 rw[eK h]
 exact⟨_,List.getElem?_eq_getElem (by omega)⟩
theorem runs_ext:∀{a b:List aL},cW a->cW b->(∀p,dx a p=dx b p)->a=b
 |[],[],_,_,_=>rfl
 |[],r::t,_,hb,h=>by
  have:=h r.1
  obtain⟨x,hx⟩:=eX (r:=r) (t:=t) (p:=r.1) ⟨by omega,by have:=hb.1;omega⟩
  rw[hx]at this
  cases this
 |r::t,[],ha,_,h=>by
  have:=h r.1
  obtain⟨x,hx⟩:=eX (r:=r) (t:=t) (p:=r.1) ⟨by omega,by have:=ha.1;omega⟩
  rw[hx]at this
  cases this
 |r::t,s::u,ha,hb,h=>by
  have hr:=ha.1
  have hs:=hb.1
  have e1:r.1=s.1:=by
   rcases Int.lt_trichotomy r.1 s.1 with h1|h1|h1
   ·have h2:=h r.1
    rw[fF (l:=s::u) (fun q hq=>by
     rcases List.mem_cons.1 hq with rfl|hq
     ·exact h1
     ·have:=hb.2.1 q hq;omega)]at h2
    obtain⟨x,hx⟩:=eX (r:=r) (t:=t) (p:=r.1) ⟨by omega,by omega⟩
    rw[hx]at h2
    cases h2
   ·exact h1
   ·have h2:=h s.1
    rw[fF (l:=r::t) (fun q hq=>by
     rcases List.mem_cons.1 hq with rfl|hq
     ·exact h1
     ·have:=ha.2.1 q hq;omega)]at h2
    obtain⟨x,hx⟩:=eX (r:=s) (t:=u) (p:=s.1) ⟨by omega,by omega⟩
    rw[hx]at h2
    cases h2
  have endsAt:∀{r s:aL} {t u:List aL},cW (r::t)->0<s.2.length->r.1=s.1->r.2.length<s.2.length->(∀p,dx (r::t) p=dx (s::u) p)->False:=by
   intro r s t u ha hs e1 hlt h
   have h2:=h (r.1+r.2.length)
   rw[dE (by omega),fF (fun q hq=>by have:=ha.2.1 q hq;omega)]at h2
   obtain⟨x,hx⟩:=eX (r:=s) (t:=u) (p:=r.1+r.2.length) ⟨by omega,by omega⟩
   rw[hx]at h2
   cases h2
  have e2:r.2.length=s.2.length:=by
   rcases Nat.lt_trichotomy r.2.length s.2.length with h1|h1|h1
   ·exact(endsAt ha hs e1 h1 h).elim
   ·exact h1
   ·exact(endsAt hb hr e1.symm h1 (fun p=>(h p).symm)).elim
  have e3:r.2=s.2:=by
   apply List.ext_getElem?
   intro i
   rcases Nat.lt_or_ge i r.2.length with hi|hi
   ·have h2:=h (r.1+i)
    rw[eK ⟨by omega,by omega⟩,eK ⟨by omega,by omega⟩]at h2
    have e4:(r.1+(i:Int)-r.1).toNat=i:=by omega
    have e5:(r.1+(i:Int)-s.1).toNat=i:=by omega
    rw[e4,e5]at h2
    exact h2
   ·rw[List.getElem?_eq_none hi,List.getElem?_eq_none (by omega)]
  have e4:r=s:=Prod.ext e1 e3
  subst e4
  congr 1
  refine runs_ext ha.2.2 hb.2.2 fun p=>?_
  by_cases hc:r.1<=p/\p<r.1+r.2.length
  ·rw[fF (fun q hq=>by have:=ha.2.1 q hq;omega),fF (fun q hq=>by have:=hb.2.1 q hq;omega)]
  ·have h2:=h p
   rw[dE hc,dE hc]at h2
   exact h2
theorem runsOf_from(l:List Int):∀(base:Int),∀q∈aU base l,base<=q.1:=by
 induction l with
 |nil=>intro base q hq;simp[aU]at hq
 |cons x l ih=>
  intro base q hq
  unfold aU at hq
  split at hq
  ·unfold eJ at hq
   split at hq
   ·simp at hq;subst hq;simp
   ·rename_i r t he
    have h1:∀q∈r::t,base+1<=q.1:=fun q hq=>ih (base+1) q (by rw[he];exact hq)
    split at hq
    ·rcases List.mem_cons.1 hq with rfl|hq
     ·simp
     ·have:=h1 q (by simp[hq]);omega
    ·rcases List.mem_cons.1 hq with rfl|hq
     ·simp
     ·have:=h1 q hq;omega
  ·have:=ih (base+1) q hq;omega
theorem runsOf_wf(l:List Int):∀(base:Int),cW (aU base l):=by
 induction l with
 |nil=>intro base;exact trivial
 |cons x l ih=>
  intro base
  have h0:=ih (base+1)
  have h1:=runsOf_from l (base+1)
  unfold aU
  split
  ·unfold eJ
   split
   ·exact⟨by simp,by simp,trivial⟩
   ·rename_i r t he
    rw[he]at h0 h1
    split
    ·rename_i e
     exact⟨by simp,fun q hq=>by have:=h0.2.1 q hq;simp only[List.length_cons];omega,h0.2.2⟩
    ·rename_i e
     refine⟨by simp,fun q hq=>?_,h0⟩
     have h2:=h1 r (by simp)
     rcases List.mem_cons.1 hq with rfl|hq
     ·simp;omega
     ·have:=h0.2.1 q hq;have:=h0.1;simp;omega
  ·exact h0
theorem valL_cons(base x:Int)(l:List Int)(p:Int):valL base (x::l) p=if p=base then(if 0<=x then some x else none) else valL (base+1) l p:=by
 unfold valL
 by_cases h:p=base
 ·subst h
  simp
 ·rw[if_neg h]
  by_cases h1:base<=p
  ·rw[if_pos h1,if_pos (by omega)]
   have e:(p-base).toNat=(p-(base+1)).toNat+1:=by omega
   rw[e,List.getElem?_cons_succ]
  ·rw[if_neg h1,if_neg (by omega)]
theorem pvAt_consRun{base x:Int}{rs:List aL}(h1:∀q∈rs,base+1<=q.1)(p:Int):dx (eJ base x rs) p=if p=base then some x else dx rs p:=by
 by_cases hp:p=base
 ·subst hp
  rw[if_pos rfl]
  unfold eJ
  split
  ·rw[eK ⟨by simp,by simp;omega⟩];simp
  ·split
   ·rw[eK ⟨by simp,by simp only[List.length_cons];omega⟩];simp
   ·rw[eK ⟨by simp,by simp;omega⟩];simp
 ·rw[if_neg hp]
  unfold eJ
  split
  ·rw[dE (by simp;omega)]
  ·rename_i r t
   split
   ·rename_i e
    by_cases hc:r.1<=p/\p<r.1+r.2.length
    ·rw[eK hc,eK (by simp only[List.length_cons];omega)]
     have e4:(p-base).toNat=(p-r.1).toNat+1:=by omega
     rw[e4,List.getElem?_cons_succ]
    ·rw[dE hc,dE (by simp only[List.length_cons];omega)]
   ·rw[dE (by simp;omega)]
theorem pvAt_runsOf(l:List Int):∀(base p:Int),dx (aU base l) p=valL base l p:=by
 induction l with
 |nil=>intro base p;unfold valL aU dx;simp
 |cons x l ih=>
  intro base p
  have h1:=runsOf_from l (base+1)
  rw[valL_cons,<-ih]
  conv=>lhs;unfold aU
  by_cases hx:0<=x
  ·rw[if_pos hx,if_pos hx,pvAt_consRun h1]
  ·rw[if_neg hx,if_neg hx]
   by_cases hp:p=base
   ·subst hp
    rw[if_pos rfl]
    exact fF (fun q hq=>by have:=h1 q hq;omega)
   ·rw[if_neg hp]
def aq(r:aL):Int:=r.1+r.2.length
def cz(l:List Int)(k:Nat)(it:List Int):List Int:=l.take k++it++l.drop (k+it.length)
def loR(r:aL)(M:List aL):Int:=M.foldl (fun m q=>min m q.1) r.1
def hiR(r:aL)(M:List aL):Int:=M.foldl (fun m q=>max m (aq q)) (aq r)
def layR(lo:Int)(L:List Int)(M:List aL):List Int:=M.foldl (fun L q=>cz L (q.1-lo).toNat q.2) L
def eh(r:aL)(M:List aL):aL:=
 (loR r M,layR (loR r M) (cz (List.replicate (hiR r M-loR r M).toNat 0) (r.1-loR r M).toNat r.2) M)
def dV(rl:List aL)(r:aL):Nat:=(rl.takeWhile fun q=>decide (aq q<r.1)).length
def toR(rl:List aL)(r:aL):Nat:=dV rl r+((rl.drop (dV rl r)).takeWhile fun q=>decide (q.1<=aq r)).length
def dI(rl:List aL)(first:Int)(items:List Int):List aL:=
 if items=[] then rl else rl.take (dV rl (first,items))++eh (first,items) ((rl.drop (dV rl (first,items))).take (toR rl (first,items)-dV rl (first,items)))::rl.drop (toR rl (first,items))
theorem pvAt_append(a b:List aL)(p:Int):dx (a++b) p=(dx a p).or (dx b p):=by
 induction a with
 |nil=>simp[dx]
 |cons r t ih=>
  rw[List.cons_append]
  by_cases hc:r.1<=p/\p<r.1+r.2.length
  ·rw[eK hc,eK hc,List.getElem?_eq_getElem (by omega)]
   rfl
  ·rw[dE hc,dE hc,ih]
theorem fx{a b:List aL}:cW (a++b)↔cW a/\cW b/\∀r∈a,∀q∈b,aq r<q.1:=by
 induction a with
 |nil=>simp[cW]
 |cons r t ih=>
  rw[List.cons_append]
  simp only[cW,ih,List.mem_append,List.mem_cons,aq]
  constructor
  ·rintro⟨h1,h2,h3,h4,h5⟩
   refine⟨⟨h1,fun q hq=>h2 q (.inl hq),h3⟩,h4,?_⟩
   rintro x (rfl|hx) q hq
   ·exact h2 q (.inr hq)
   ·exact h5 x hx q hq
  ·rintro⟨⟨h1,h2,h3⟩,h4,h5⟩
   refine⟨h1,?_,h3,h4,fun x hx q hq=>h5 x (.inr hx) q hq⟩
   rintro q (hq|hq)
   ·exact h2 q hq
   ·exact h5 r (.inl rfl) q hq
theorem dO{l:List Int}{k:Nat}{it:List Int}(h:k+it.length<=l.length):(cz l k it).length=l.length:=by
 unfold cz
 simp only[List.length_append,List.length_take,List.length_drop]
 omega
theorem overlay_get{l:List Int}{k:Nat}{it:List Int}(h:k+it.length<=l.length)(i:Nat):(cz l k it)[i]? =if k<=i/\i<k+it.length then it[i-k]? else l[i]?:=by
 unfold cz
 rw[List.append_assoc]
 rcases Nat.lt_or_ge i k with h1|h1
 ·rw[if_neg (by omega),List.getElem?_append_left (by simp;omega),List.getElem?_take_of_lt h1]
 ·rw[List.getElem?_append_right (by simp;omega),List.length_take,Nat.min_eq_left (by omega)]
  rcases Nat.lt_or_ge (i-k) it.length with h2|h2
  ·rw[if_pos (by omega),List.getElem?_append_left h2]
  ·rw[if_neg (by omega),List.getElem?_append_right h2,List.getElem?_drop]
   congr 1
   omega
theorem layR_length{lo:Int}{M:List aL}:∀{L:List Int},(∀q∈M,(q.1-lo).toNat+q.2.length<=L.length)->(layR lo L M).length=L.length:=by
 induction M with
 |nil=>intro L _;rfl
 |cons r t ih=>
  intro L h
  have h0:=h r (by simp)
  have e:=dO h0
  unfold layR
  rw[List.foldl_cons]
  have:=ih (L:=cz L (r.1-lo).toNat r.2) (fun q hq=>by rw[e];exact h q (by simp[hq]))
  unfold layR at this
  rw[this,e]
theorem layR_get{lo:Int}{M:List aL}:∀{L:List Int},cW M->(∀q∈M,lo<=q.1/\aq q<=lo+L.length)->∀i:Nat,(layR lo L M)[i]? =(dx M (lo+i)).or L[i]?:=by
 induction M with
 |nil=>intro L _ _ i;rfl
 |cons r t ih=>
  intro L hw h i
  have h0:=h r (by simp)
  unfold aq at h0
  have e:=dO (l:=L) (k:=(r.1-lo).toNat) (it:=r.2) (by omega)
  have h1:=ih (L:=cz L (r.1-lo).toNat r.2) hw.2.2 (fun q hq=>by rw[e];exact h q (by simp[hq])) i
  unfold layR at h1⊢
  rw[List.foldl_cons,h1,overlay_get (by omega)]
  by_cases hc:r.1<=lo+i/\lo+i<r.1+r.2.length
  ·rw[eK hc,fF (fun q hq=>by have:=hw.2.1 q hq;omega),if_pos (by omega)]
   have e2:i-(r.1-lo).toNat=(lo+i-r.1).toNat:=by omega
   rw[e2,List.getElem?_eq_getElem (by omega)]
   rfl
  ·rw[dE hc,if_neg (by omega)]
theorem loR_le{M:List aL}:∀(r:aL),loR r M<=r.1/\∀q∈M,loR r M<=q.1:=by
 have key:∀(M:List aL) (m:Int),M.foldl (fun m q=>min m q.1) m<=m/\∀q∈M,M.foldl (fun m q=>min m q.1) m<=q.1:=by
  intro M
  induction M with
  |nil=>intro m;simp
  |cons a t ih=>
   intro m
   rw[List.foldl_cons]
   have h:=ih (min m a.1)
   refine⟨by omega,fun q hq=>?_⟩
   rcases List.mem_cons.1 hq with rfl|hq
   ·omega
   ·exact h.2 q hq
 exact fun r=>key M r.1
theorem loR_is{M:List aL}:∀(r:aL),loR r M=r.1\/∃q∈M,loR r M=q.1:=by
 have key:∀(M:List aL) (m:Int),M.foldl (fun m q=>min m q.1) m=m\/∃q∈M,M.foldl (fun m q=>min m q.1) m=q.1:=by
  intro M
  induction M with
  |nil=>intro m;simp
  |cons a t ih=>
   intro m
   rw[List.foldl_cons]
   rcases ih (min m a.1) with h|⟨q,hq,h⟩
   ·rcases Int.le_total m a.1 with h1|h1
    ·left;omega
    ·right;exact⟨a,by simp,by omega⟩
   ·exact .inr ⟨q,by simp[hq],h⟩
 exact fun r=>key M r.1
theorem hiR_ge{M:List aL}:∀(r:aL),aq r<=hiR r M/\∀q∈M,aq q<=hiR r M:=by
 have key:∀(M:List aL) (m:Int),m<=M.foldl (fun m q=>max m (aq q)) m/\∀q∈M,aq q<=M.foldl (fun m q=>max m (aq q)) m:=by
  intro M
  induction M with
  |nil=>intro m;simp
  |cons a t ih=>
   intro m
   rw[List.foldl_cons]
   have h:=ih (max m (aq a))
   refine⟨by omega,fun q hq=>?_⟩
   rcases List.mem_cons.1 hq with rfl|hq
   ·omega
   ·exact h.2 q hq
 exact fun r=>key M (aq r)
theorem hiR_is{M:List aL}:∀(r:aL),hiR r M=aq r\/∃q∈M,hiR r M=aq q:=by
 have key:∀(M:List aL) (m:Int),M.foldl (fun m q=>max m (aq q)) m=m\/∃q∈M,M.foldl (fun m q=>max m (aq q)) m=aq q:=by
  intro M
  induction M with
  |nil=>intro m;simp
  |cons a t ih=>
   intro m
   rw[List.foldl_cons]
   rcases ih (max m (aq a)) with h|⟨q,hq,h⟩
   ·rcases Int.le_total (aq a) m with h1|h1
    ·left;omega
    ·right;exact⟨a,by simp,by omega⟩
   ·exact .inr ⟨q,by simp[hq],h⟩
 exact fun r=>key M (aq r)
structure Touch(rl:List aL)(r:aL)(A M B:List aL):Prop where
 split:rl=A++M++B
 from_:dV rl r=A.length
 to_:toR rl r=A.length+M.length
 low:∀q∈A,aq q<r.1
 mid:∀q∈M,r.1<=aq q/\q.1<=aq r
 high:∀q∈B,aq r<q.1
theorem takeWhile_split{α:Type}(p:α->Bool):∀l:List α,l=l.takeWhile p++l.dropWhile p:=fun l=>(List.takeWhile_append_dropWhile (p:=p) (l:=l)).symm
theorem fY{α:Type}{p:α->Bool}:∀{l:List α} {a:α} {t:List α},l.dropWhile p=a::t->p a=false
 |[],a,t,h=>by simp at h
 |x::l,a,t,h=>by
  rw[List.dropWhile_cons]at h
  split at h
  ·exact fY h
  ·rename_i hx
   cases h
   simpa using hx
theorem takeWhile_all{α:Type}{p:α->Bool}:∀{l:List α} {a:α},a∈l.takeWhile p->p a=true
 |x::l,a,h=>by
  rw[List.takeWhile_cons]at h
  split at h
  ·rename_i hx
   rcases List.mem_cons.1 h with rfl|h
   ·exact hx
   ·exact takeWhile_all h
  ·cases h
theorem touch_is{rl:List aL}(hw:cW rl)(r:aL):∃A M B,Touch rl r A M B:=by
 have s1:=takeWhile_split (fun q=>decide (aq q<r.1)) rl
 generalize hA:rl.takeWhile (fun q=>decide (aq q<r.1))=A at s1
 generalize hR:rl.dropWhile (fun q=>decide (aq q<r.1))=R at s1
 have s2:=takeWhile_split (fun q=>decide (q.1<=aq r)) R
 generalize hM:R.takeWhile (fun q=>decide (q.1<=aq r))=M at s2
 generalize hB:R.dropWhile (fun q=>decide (q.1<=aq r))=B at s2
 have f1:dV rl r=A.length:=by unfold dV;rw[hA]
 have d1:rl.drop A.length=R:=by rw[s1];simp
 have t1:toR rl r=A.length+M.length:=by unfold toR;rw[f1,d1,hM]
 have hwR:cW R:=(fx.1 (s1▸hw)).2.1
 have hwB:cW B:=(fx.1 (s2▸hwR)).2.1
 have upR:∀q∈R,r.1<=aq q:=by
  cases R with
  |nil=>simp
  |cons a t=>
   have ha:r.1<=aq a:=by have:=fY hR;simpa using this
   intro q hq
   rcases List.mem_cons.1 hq with rfl|hq
   ·exact ha
   ·have:=hwR.2.1 q hq
    have:=runsWf_mem hwR.2.2 hq
    unfold aq at ha⊢
    omega
 refine⟨A,M,B,⟨by rw[List.append_assoc,<-s2];exact s1,f1,t1,fun q hq=>?_,fun q hq=>⟨upR q (by rw[s2];simp[hq]),?_⟩,?_⟩⟩
 ·rw[<-hA]at hq
  simpa using takeWhile_all hq
 ·rw[<-hM]at hq
  simpa using takeWhile_all hq
 ·cases B with
  |nil=>simp
  |cons a t=>
   have ha:aq r<a.1:=by have:=fY hB;simpa using this
   intro q hq
   rcases List.mem_cons.1 hq with rfl|hq
   ·exact ha
   ·have:=hwB.2.1 q hq
    omega
def Agree(rl:List aL)(first:Int)(items:List Int):Prop:=∀p x,first<=p->p<first+items.length->dx rl p=some x->items[(p-first).toNat]? =some x
theorem joinR_val{r:aL}{M:List aL}(hr:0<r.2.length)(hw:cW M)(hm:∀q∈M,r.1<=aq q/\q.1<=aq r)(hag:Agree M r.1 r.2):
  aq (eh r M)=hiR r M/\(eh r M).1=loR r M/\loR r M<hiR r M/\
  ∀p,loR r M<=p->p<hiR r M->(eh r M).2[(p-loR r M).toNat]? =if r.1<=p/\p<aq r then r.2[(p-r.1).toNat]? else dx M p:=by
 have h1:=loR_le (M:=M) r
 have h2:=hiR_ge (M:=M) r
 have hb:aq r=r.1+r.2.length:=rfl
 have hlen:(List.replicate (hiR r M-loR r M).toNat (0:Int)).length=(hiR r M-loR r M).toNat:=List.length_replicate
 have hk:(r.1-loR r M).toNat+r.2.length<=(List.replicate (hiR r M-loR r M).toNat (0:Int)).length:=by rw[hlen];omega
 have e0:=dO hk
 have hin:∀q∈M,loR r M<=q.1/\aq q<=loR r M+((cz (List.replicate (hiR r M-loR r M).toNat 0) (r.1-loR r M).toNat r.2).length:Nat):=fun q hq=>by
  have a1:=h1.2 q hq
  have a2:=h2.2 q hq
  rw[e0,hlen]
  omega
 have e1:=layR_length (lo:=loR r M) (M:=M) (L:=cz (List.replicate (hiR r M-loR r M).toNat 0) (r.1-loR r M).toNat r.2) (fun q hq=>by
  have:=hin q hq
  unfold aq at this
  omega)
 have hfst:(eh r M).1=loR r M:=rfl
 have hlt:loR r M<hiR r M:=by omega
 refine⟨?_,hfst,hlt,fun p hp1 hp2=>?_⟩
 ·unfold aq
  rw[hfst]
  unfold eh
  simp only
  rw[e1,e0,hlen]
  omega
 ·have hg:=layR_get (lo:=loR r M) (M:=M) (L:=cz (List.replicate (hiR r M-loR r M).toNat 0) (r.1-loR r M).toNat r.2) hw hin (p-loR r M).toNat
  have ep:loR r M+((p-loR r M).toNat:Int)=p:=by omega
  rw[ep,overlay_get hk]at hg
  show(layR _ _ _)[_]? =_
  rw[hg]
  by_cases hc:r.1<=p/\p<aq r
  ·rw[if_pos hc,if_pos (by omega)]
   have e2:(p-loR r M).toNat-(r.1-loR r M).toNat=(p-r.1).toNat:=by omega
   rw[e2]
   cases hv:dx M p with
   |none=>rfl
   |some x=>rw[hag p x hc.1 (by rw[<-hb];exact hc.2) hv];rfl
  ·rw[if_neg hc]
   have:∃x,dx M p=some x:=by
    have cov:∀q∈M,q.1<=p->p<aq q->∃x,dx M p=some x:=by
     intro q hq a1 a2
     clear hm hag hin e1 hg h1 h2 hlen hk e0 hlt hp1 hp2 ep hc hfst
     induction M with
     |nil=>cases hq
     |cons a t ih=>
      by_cases hc:a.1<=p/\p<a.1+a.2.length
      ·exact eX hc
      ·rw[dE hc]
       rcases List.mem_cons.1 hq with rfl|hq
       ·exact(hc ⟨a1,a2⟩).elim
       ·exact ih hw.2.2 hq
    rcases(by omega:p<r.1\/r.1<=p) with h3|h3
    ·rcases loR_is (M:=M) r with h4|⟨q,hq,h4⟩
     ·omega
     ·exact cov q hq (by omega) (by have:=(hm q hq).1;omega)
    ·rcases hiR_is (M:=M) r with h4|⟨q,hq,h4⟩
     ·omega
     ·exact cov q hq (by have:=(hm q hq).2;omega) (by omega)
   obtain⟨x,hx⟩:=this
   rw[hx]
   rfl
theorem fillR_touch{rl:List aL}{first:Int}{items:List Int}{A M B:List aL}(hi:items≠[])(ht:Touch rl (first,items) A M B):dI rl first items=A++eh (first,items) M::B:=by
 unfold dI
 rw[if_neg hi,ht.from_,ht.to_,ht.split]
 congr 1
 ·simp
 ·congr 1
  ·congr 1
   rw[List.append_assoc,List.drop_append_of_le_length (Nat.le_refl _),List.drop_length,List.nil_append]
   simp
  ·simp[List.drop_append]
theorem fillR_val{rl:List aL}(hw:cW rl){first:Int}{items:List Int}(hag:Agree rl first items):
  cW (dI rl first items)/\∀p,dx (dI rl first items) p=if first<=p/\p<first+items.length then items[(p-first).toNat]? else dx rl p:=by
 by_cases hi:items=[]
 ·unfold dI
  rw[if_pos hi]
  refine⟨hw,fun p=>?_⟩
  rw[if_neg (by rw[hi];simp)]
 ·have hpos:0<items.length:=List.length_pos_iff.2 hi
  obtain⟨A,M,B,ht⟩:=touch_is hw (first,items)
  rw[fillR_touch hi ht]
  have hw':=ht.split▸hw
  obtain⟨hwAM,hwB,hAMB⟩:=fx.1 hw'
  obtain⟨hwA,hwM,hAM⟩:=fx.1 hwAM
  have hv:∀p,dx rl p=((dx A p).or (dx M p)).or (dx B p):=fun p=>by rw[ht.split,pvAt_append,pvAt_append]
  have inRun:∀{l:List aL} {p:Int},(∀q∈l,¬(q.1<=p/\p<aq q))->dx l p=none:=by
   intro l p h
   cases e:dx l p with
   |none=>rfl
   |some x=>
    obtain⟨q,hq,hc⟩:=pvAt_some e
    exact(h q hq hc).elim
  have hagM:Agree M first items:=fun p x h1 h2 h3=>by
   refine hag p x h1 h2 ?_
   have:dx A p=none:=inRun (fun q hq hc=>by have:=ht.low q hq;simp only at this;omega)
   rw[hv,this,h3]
   rfl
  obtain⟨j1,j2,j3,j4⟩:=joinR_val (r:=(first,items)) hpos hwM ht.mid hagM
  simp only at j4
  have hlo:=loR_le (M:=M) (first,items)
  have hhi:=hiR_ge (M:=M) (first,items)
  have hA:∀q∈A,aq q<loR (first,items) M:=fun q hq=>by
   rcases loR_is (M:=M) (first,items) with h|⟨x,hx,h⟩
   ·rw[h];exact ht.low q hq
   ·rw[h];exact hAM q hq x hx
  have hB:∀q∈B,hiR (first,items) M<q.1:=fun q hq=>by
   rcases hiR_is (M:=M) (first,items) with h|⟨x,hx,h⟩
   ·rw[h];exact ht.high q hq
   ·rw[h];exact hAMB x (by simp[hx]) q hq
  have hbr:aq (first,items)=first+items.length:=rfl
  generalize hJ:eh (first,items) M=J at j1 j2 j4⊢
  have hJ1:aq J=J.1+J.2.length:=rfl
  generalize hlo':loR (first,items) M=lo at j2 j3 j4 hlo hA
  generalize hhi':hiR (first,items) M=hi2 at j1 j3 j4 hhi hB
  constructor
  ·rw[fx]
   refine⟨hwA,⟨by omega,fun q hq=>?_,hwB⟩,fun a ha q hq=>?_⟩
   ·have:=hB q hq;omega
   ·rcases List.mem_cons.1 hq with rfl|hq
    ·have:=hA a ha;omega
    ·exact hAMB a (by simp[ha]) q hq
  ·intro p
   rw[pvAt_append]
   by_cases hc:lo<=p/\p<hi2
   ·have eA:dx A p=none:=inRun (fun q hq hx=>by have:=hA q hq;omega)
    have eB:dx B p=none:=inRun (fun q hq hx=>by have:=hB q hq;omega)
    rw[eA,eK (by omega),j2,j4 p hc.1 hc.2,hv,eA,eB,hbr]
    simp
   ·have eM:dx M p=none:=inRun (fun q hq hx=>by
     have a1:=hlo.2 q hq
     have a2:=hhi.2 q hq
     omega)
    have h3:=hlo.1
    have h4:=hhi.1
    simp only at h3
    rw[dE (by omega),if_neg (by omega),hv,eM]
    simp
end Go.Proofs.YthmdjhlhodpbhaaGreatDoor
