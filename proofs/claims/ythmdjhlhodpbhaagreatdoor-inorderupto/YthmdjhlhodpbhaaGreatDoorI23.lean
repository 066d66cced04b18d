/- InOrder, 23 -/
import Derived.Lib.EndianBits
import Derived.LaidEqlPtr
import Derived.Test.YthmdjhlhodpbhaaGreatDoorI16
import Derived.Test.YthmdjhlhodpbhaaGreatDoorI22
set_option maxHeartbeats 16000000
set_option maxRecDepth 8000
namespace Go.Proofs.YthmdjhlhodpbhaaGreatDoor
open Go.RowKit
theorem mapIs_at{α:Type}{C:MCode α}{P:Program}{K:TypeId}{w:World}{b:Nat}(h:w.heap[b]? =some (.map #[] 0)):MapIs C P K w b 0 []:=by
 have hlt:b<w.heap.size:=(Array.getElem?_eq_some_iff.1 h).1
 have h1:=mapIs_made (C:=C) (P:=P) (K:=K) {w with heap:=w.heap.extract 0 b}
 have hsz:({w with heap:=w.heap.extract 0 b}:World).heap.size=b:=by simp;omega
 rw[hsz]at h1
 refine h1.same ?_
 have h2:=heap_alloc_new {w with heap:=w.heap.extract 0 b} (.map #[] 0)
 rw[hsz]at h2
 rw[h,h2]
def bn(g:Cfg)(cid addr:Int)(ok:Bool):au:={fo cid addr ok 0 0 g.c1 with streams:=growS g.c2 [] g.c3.toNat}
def bQ(sm dm:Nat):aH:=⟨.slice none 0 0,sm,dm,[],[],fun _=>.slice none 0 0,fun _=>False⟩
theorem conFresh_streams(g:Cfg)(cid addr:Int)(ok:Bool):(bn g cid addr ok).streams=List.replicate g.c3.toNat (aX g.c2):=by simp[bn,growS]
theorem conFresh_at{w:World}{cb sm dm:Nat}{g:Cfg}{cid addr:Int}{ok:Bool}(hb:ConBlk w cb g (bn g cid addr ok) (.slice none 0 0) sm dm 0)(h1:w.heap[sm]? =some (.map #[] 0))(h2:w.heap[dm]? =some (.map #[] 0))(hne:sm≠dm):ConAt 0 w cb g (bn g cid addr ok) (bQ sm dm):=by
 have hst:=conFresh_streams g cid addr ok
 have hmem:∀(i:Nat) x,(bn g cid addr ok).streams[i]? =some x->x=aX g.c2:=by
  intro i x hx
  rw[hst]at hx
  exact(List.mem_replicate.1 (List.mem_of_getElem? hx)).2
 have hps:bk (bn g cid addr ok).streams=0:=by
  rw[hst]
  unfold bk
  rw[List.filter_eq_nil_iff.2 (fun x hx=>by rw[(List.mem_replicate.1 hx).2];simp[aX])]
  rfl
 refine⟨by rw[hps];exact hb,⟨[],⟨⟨rfl,Or.inl ⟨rfl,rfl⟩⟩,⟨rfl,fun i v r hv=>(by simp at hv)⟩⟩⟩,⟨0,Nat.le_refl _,mapIs_at h1⟩,⟨0,Nat.le_refl _,mapIs_at h2⟩,⟨by simp[bQ],fun p hp=>(by simp[bQ]at hp),fun i x hx _ _=>hmem i x hx⟩,fun p hp=>(by simp[bQ]at hp),fun id=>?_,hne,fun p hp=>(by simp[bQ]at hp),fun k hk=>hk.elim⟩
 simp only[bQ]
 unfold fh
 split
 ·cases hx:(bn g cid addr ok).streams[id.toNat]? with
  |none=>rfl
  |some x=>rw[hmem _ x hx];rfl
 ·rfl
structure CNewOut(w:World)(g:Cfg)(cid addr:Int)(ok:Bool)(e:Ending)(w':World):Prop where
 ex:∃cb sm dm,e=.returned (.pointer (some ⟨cb,0,none⟩))/\ConAt 0 w' cb g (bn g cid addr ok) (bQ sm dm)/\w.heap.size<=cb/\w.heap.size<=sm/\w.heap.size<=dm
 bel:Below w.heap.size w w'
def cfgVal(g:Cfg):Value:=.agg #[.int .i64 g.c0,.int .i64 g.c1,.int .i64 g.c2,.int .i64 g.c3,.int .i64 g.c4,.int .i64 g.c5,.int .i64 g.c6,.int .i64 g.c7,.int .i64 g.c8,.int .i64 g.c9]
theorem fresh_cells{g:Cfg}(hg:1<=g.c3)(cid addr:Int)(ok:Bool)(sm dm:Nat):conC g (bn g cid addr ok) (.slice none 0 0) sm dm 0=#[.int .i64 g.c0,.int .i64 g.c1,.int .i64 g.c2,.int .i64 g.c3,.int .i64 g.c4,.int .i64 g.c5,.int .i64 g.c6,.int .i64 g.c7,.int .i64 g.c8,.int .i64 g.c9,.int .i64 cid,.int .i64 addr,.bool ok,.int .i64 0,.int .i64 0,.int .i64 0,.int .i64 0,.slice none 0 0,.int .i64 g.c1,.int .i64 g.c1,.int .i64 g.c3,.map (some sm),.map (some dm),.int .i64 0]:=by
 have hl:((bn g cid addr ok).streams.length:Int)=g.c3:=by
  rw[conFresh_streams]
  simp
  omega
 unfold conC
 rw[hl]
 rfl
theorem new_close{w W:World}{g:Cfg}{cid addr:Int}{ok:Bool}{sm dm:Nat}(hg:1<=g.c3)(hW:Below w.heap.size w W)(h1:W.heap[sm]? =some (.map #[] 0))(h2:W.heap[dm]? =some (.map #[] 0))(hne:sm≠dm)(hs:w.heap.size<=sm)(hd:w.heap.size<=dm):
  CNewOut w g cid addr ok (.returned (.pointer (some ⟨W.heap.size,0,none⟩))) (W.alloc (.cells #[.int .i64 g.c0,.int .i64 g.c1,.int .i64 g.c2,.int .i64 g.c3,.int .i64 g.c4,.int .i64 g.c5,.int .i64 g.c6,.int .i64 g.c7,.int .i64 g.c8,.int .i64 g.c9,.int .i64 cid,.int .i64 addr,.bool ok,.int .i64 0,.int .i64 0,.int .i64 0,.int .i64 0,.slice none 0 0,.int .i64 g.c1,.int .i64 g.c1,.int .i64 g.c3,.map (some sm),.map (some dm),.int .i64 0] 137)):=by
 have hb:=af W (.cells #[.int .i64 g.c0,.int .i64 g.c1,.int .i64 g.c2,.int .i64 g.c3,.int .i64 g.c4,.int .i64 g.c5,.int .i64 g.c6,.int .i64 g.c7,.int .i64 g.c8,.int .i64 g.c9,.int .i64 cid,.int .i64 addr,.bool ok,.int .i64 0,.int .i64 0,.int .i64 0,.int .i64 0,.slice none 0 0,.int .i64 g.c1,.int .i64 g.c1,.int .i64 g.c3,.map (some sm),.map (some dm),.int .i64 0] 137)
 refine⟨⟨W.heap.size,sm,dm,rfl,conFresh_at ?_ ?_ ?_ hne,hW.size,hs,hd⟩,ag hW hb⟩
 ·unfold ConBlk
  rw[fresh_cells hg]
  exact heap_alloc_new W _
 ·rw[hb.block sm (Array.getElem?_eq_some_iff.1 h1).1];exact h1
 ·rw[hb.block dm (Array.getElem?_eq_some_iff.1 h2).1];exact h2
theorem cNew_any(g:Cfg)(cid addr:Int)(ok:Bool)(w:World)(hg:1<=g.c3):
  Calls Tryz.prog 145 #[cfgVal g,.int .i64 cid,.int .i64 addr,.bool ok] w fun e w'=>CNewOut w g cid addr ok e w':=by
 have HK:=ab (fun W=>kNew_any g.c1 W)
 have HA:Hid (∀W W':World,Below W.heap.size W W'->(W.cell? ⟨w.heap.size,0,none⟩= some (.int .i64 g.c0)/\W.cell? ⟨w.heap.size,1,none⟩= some (.int .i64 g.c1)/\W.cell? ⟨w.heap.size,2,none⟩= some (.int .i64 g.c2)/\W.cell? ⟨w.heap.size,3,none⟩= some (.int .i64 g.c3)/\W.cell? ⟨w.heap.size,4,none⟩= some (.int .i64 g.c4)/\W.cell? ⟨w.heap.size,5,none⟩= some (.int .i64 g.c5)/\W.cell? ⟨w.heap.size,6,none⟩= some (.int .i64 g.c6)/\W.cell? ⟨w.heap.size,7,none⟩= some (.int .i64 g.c7)/\W.cell? ⟨w.heap.size,8,none⟩= some (.int .i64 g.c8)/\W.cell? ⟨w.heap.size,9,none⟩= some (.int .i64 g.c9))->(W'.cell? ⟨w.heap.size,0,none⟩= some (.int .i64 g.c0)/\W'.cell? ⟨w.heap.size,1,none⟩= some (.int .i64 g.c1)/\W'.cell? ⟨w.heap.size,2,none⟩= some (.int .i64 g.c2)/\W'.cell? ⟨w.heap.size,3,none⟩= some (.int .i64 g.c3)/\W'.cell? ⟨w.heap.size,4,none⟩= some (.int .i64 g.c4)/\W'.cell? ⟨w.heap.size,5,none⟩= some (.int .i64 g.c5)/\W'.cell? ⟨w.heap.size,6,none⟩= some (.int .i64 g.c6)/\W'.cell? ⟨w.heap.size,7,none⟩= some (.int .i64 g.c7)/\W'.cell? ⟨w.heap.size,8,none⟩= some (.int .i64 g.c8)/\W'.cell? ⟨w.heap.size,9,none⟩= some (.int .i64 g.c9))):=fun W W' hb h=>⟨ae h.1 hb,ae h.2.1 hb,ae h.2.2.1 hb,ae h.2.2.2.1 hb,ae h.2.2.2.2.1 hb,ae h.2.2.2.2.2.1 hb,ae h.2.2.2.2.2.2.1 hb,ae h.2.2.2.2.2.2.2.1 hb,ae h.2.2.2.2.2.2.2.2.1 hb,ae h.2.2.2.2.2.2.2.2.2 hb⟩
 have HFa:Hid (∀w1:World,Below (w.alloc (.cells #[.int .i64 g.c0,.int .i64 g.c1,.int .i64 g.c2,.int .i64 g.c3,.int .i64 g.c4,.int .i64 g.c5,.int .i64 g.c6,.int .i64 g.c7,.int .i64 g.c8,.int .i64 g.c9] 26)).heap.size (w.alloc (.cells #[.int .i64 g.c0,.int .i64 g.c1,.int .i64 g.c2,.int .i64 g.c3,.int .i64 g.c4,.int .i64 g.c5,.int .i64 g.c6,.int .i64 g.c7,.int .i64 g.c8,.int .i64 g.c9] 26)) w1->CNewOut w g cid addr ok (.returned (.pointer (some ⟨w1.heap.size+1+1,0,none⟩))) (((w1.alloc (.map #[] 0)).alloc (.map #[] 0)).alloc (.cells #[.int .i64 g.c0,.int .i64 g.c1,.int .i64 g.c2,.int .i64 g.c3,.int .i64 g.c4,.int .i64 g.c5,.int .i64 g.c6,.int .i64 g.c7,.int .i64 g.c8,.int .i64 g.c9,.int .i64 cid,.int .i64 addr,.bool ok,.int .i64 0,.int .i64 0,.int .i64 0,.int .i64 0,.slice none 0 0,.int .i64 g.c1,.int .i64 g.c1,.int .i64 g.c3,.map (some w1.heap.size),.map (some (w1.heap.size+1)),.int .i64 0] 137))/\CNewOut w g cid addr ok (.returned (.pointer (some ⟨w1.heap.size+1+1,0,none⟩))) (((w1.alloc (.map #[] 0)).alloc (.map #[] 0)).alloc (.cells #[.int .i64 g.c0,.int .i64 g.c1,.int .i64 g.c2,.int .i64 g.c3,.int .i64 g.c4,.int .i64 g.c5,.int .i64 g.c6,.int .i64 g.c7,.int .i64 g.c8,.int .i64 g.c9,.int .i64 cid,.int .i64 addr,.bool ok,.int .i64 0,.int .i64 0,.int .i64 0,.int .i64 0,.slice none 0 0,.int .i64 g.c1,.int .i64 g.c1,.int .i64 g.c3,.map (some (w1.heap.size+1)),.map (some w1.heap.size),.int .i64 0] 137))):=by
  intro w1 hb
  have hw1:=ag (af w (.cells #[.int .i64 g.c0,.int .i64 g.c1,.int .i64 g.c2,.int .i64 g.c3,.int .i64 g.c4,.int .i64 g.c5,.int .i64 g.c6,.int .i64 g.c7,.int .i64 g.c8,.int .i64 g.c9] 26)) hb
  have hW:=ag hw1 ((af w1 (.map #[] 0)).alloc (by simp) (.map #[] 0))
  have hz:((w1.alloc (.map #[] 0)).alloc (.map #[] 0)).heap.size=w1.heap.size+1+1:=by simp
  have e1:=heap_alloc2_old w1 (.map #[] 0) (.map #[] 0)
  have e2:=heap_alloc2_new w1 (.map #[] 0) (.map #[] 0)
  have n1:=new_close (cid:=cid) (addr:=addr) (ok:=ok) hg hW e1 e2 (by omega) hw1.size (Nat.le_succ_of_le hw1.size)
  have n2:=new_close (cid:=cid) (addr:=addr) (ok:=ok) hg hW e2 e1 (by omega) (Nat.le_succ_of_le hw1.size) hw1.size
  rw[hz]at n1 n2
  exact⟨n1,n2⟩
 have HFb:Hid (∀w1:World,Below ((w.alloc (.cells #[.int .i64 g.c0,.int .i64 g.c1,.int .i64 g.c2,.int .i64 g.c3,.int .i64 g.c4,.int .i64 g.c5,.int .i64 g.c6,.int .i64 g.c7,.int .i64 g.c8,.int .i64 g.c9] 26)).alloc (.map #[] 0)).heap.size ((w.alloc (.cells #[.int .i64 g.c0,.int .i64 g.c1,.int .i64 g.c2,.int .i64 g.c3,.int .i64 g.c4,.int .i64 g.c5,.int .i64 g.c6,.int .i64 g.c7,.int .i64 g.c8,.int .i64 g.c9] 26)).alloc (.map #[] 0)) w1->CNewOut w g cid addr ok (.returned (.pointer (some ⟨w1.heap.size+1,0,none⟩))) ((w1.alloc (.map #[] 0)).alloc (.cells #[.int .i64 g.c0,.int .i64 g.c1,.int .i64 g.c2,.int .i64 g.c3,.int .i64 g.c4,.int .i64 g.c5,.int .i64 g.c6,.int .i64 g.c7,.int .i64 g.c8,.int .i64 g.c9,.int .i64 cid,.int .i64 addr,.bool ok,.int .i64 0,.int .i64 0,.int .i64 0,.int .i64 0,.slice none 0 0,.int .i64 g.c1,.int .i64 g.c1,.int .i64 g.c3,.map (some (w.heap.size+1)),.map (some w1.heap.size),.int .i64 0] 137))/\CNewOut w g cid addr ok (.returned (.pointer (some ⟨w1.heap.size+1,0,none⟩))) ((w1.alloc (.map #[] 0)).alloc (.cells #[.int .i64 g.c0,.int .i64 g.c1,.int .i64 g.c2,.int .i64 g.c3,.int .i64 g.c4,.int .i64 g.c5,.int .i64 g.c6,.int .i64 g.c7,.int .i64 g.c8,.int .i64 g.c9,.int .i64 cid,.int .i64 addr,.bool ok,.int .i64 0,.int .i64 0,.int .i64 0,.int .i64 0,.slice none 0 0,.int .i64 g.c1,.int .i64 g.c1,.int .i64 g.c3,.map (some w1.heap.size),.map (some (w.heap.size+1)),.int .i64 0] 137))):=by
  intro w1 hb
  have hw1:=ag ((af w (.cells #[.int .i64 g.c0,.int .i64 g.c1,.int .i64 g.c2,.int .i64 g.c3,.int .i64 g.c4,.int .i64 g.c5,.int .i64 g.c6,.int .i64 g.c7,.int .i64 g.c8,.int .i64 g.c9] 26)).alloc (by simp) (.map #[] 0)) hb
  have hW:=ag hw1 (af w1 (.map #[] 0))
  have hz:(w1.alloc (.map #[] 0)).heap.size=w1.heap.size+1:=by simp
  have hs1:w.heap.size+1<w1.heap.size:=by have:=hb.size;simp at this;omega
  have e1:(w1.alloc (.map #[] 0)).heap[w.heap.size+1]? =some (.map #[] 0):=by
   rw[Below.heap_alloc _ _ _ hs1,hb.block _ (by simp)]
   exact heap_alloc2_new w (.cells #[.int .i64 g.c0,.int .i64 g.c1,.int .i64 g.c2,.int .i64 g.c3,.int .i64 g.c4,.int .i64 g.c5,.int .i64 g.c6,.int .i64 g.c7,.int .i64 g.c8,.int .i64 g.c9] 26) (.map #[] 0)
  have e2:=heap_alloc_new w1 (.map #[] 0)
  have n1:=new_close (cid:=cid) (addr:=addr) (ok:=ok) hg hW e1 e2 (by omega) (by omega) (by omega)
  have n2:=new_close (cid:=cid) (addr:=addr) (ok:=ok) hg hW e2 e1 (by omega) (by omega) (by omega)
  rw[hz]at n1 n2
  exact⟨n1,n2⟩
 have HFc:Hid (∀w1:World,Below (((w.alloc (.cells #[.int .i64 g.c0,.int .i64 g.c1,.int .i64 g.c2,.int .i64 g.c3,.int .i64 g.c4,.int .i64 g.c5,.int .i64 g.c6,.int .i64 g.c7,.int .i64 g.c8,.int .i64 g.c9] 26)).alloc (.map #[] 0)).alloc (.map #[] 0)).heap.size (((w.alloc (.cells #[.int .i64 g.c0,.int .i64 g.c1,.int .i64 g.c2,.int .i64 g.c3,.int .i64 g.c4,.int .i64 g.c5,.int .i64 g.c6,.int .i64 g.c7,.int .i64 g.c8,.int .i64 g.c9] 26)).alloc (.map #[] 0)).alloc (.map #[] 0)) w1->CNewOut w g cid addr ok (.returned (.pointer (some ⟨w1.heap.size,0,none⟩))) (w1.alloc (.cells #[.int .i64 g.c0,.int .i64 g.c1,.int .i64 g.c2,.int .i64 g.c3,.int .i64 g.c4,.int .i64 g.c5,.int .i64 g.c6,.int .i64 g.c7,.int .i64 g.c8,.int .i64 g.c9,.int .i64 cid,.int .i64 addr,.bool ok,.int .i64 0,.int .i64 0,.int .i64 0,.int .i64 0,.slice none 0 0,.int .i64 g.c1,.int .i64 g.c1,.int .i64 g.c3,.map (some (w.heap.size+1)),.map (some (w.heap.size+1+1)),.int .i64 0] 137))/\CNewOut w g cid addr ok (.returned (.pointer (some ⟨w1.heap.size,0,none⟩))) (w1.alloc (.cells #[.int .i64 g.c0,.int .i64 g.c1,.int .i64 g.c2,.int .i64 g.c3,.int .i64 g.c4,.int .i64 g.c5,.int .i64 g.c6,.int .i64 g.c7,.int .i64 g.c8,.int .i64 g.c9,.int .i64 cid,.int .i64 addr,.bool ok,.int .i64 0,.int .i64 0,.int .i64 0,.int .i64 0,.slice none 0 0,.int .i64 g.c1,.int .i64 g.c1,.int .i64 g.c3,.map (some (w.heap.size+1+1)),.map (some (w.heap.size+1)),.int .i64 0] 137))):=by
  intro w1 hb
  have hW:=ag (((af w (.cells #[.int .i64 g.c0,.int .i64 g.c1,.int .i64 g.c2,.int .i64 g.c3,.int .i64 g.c4,.int .i64 g.c5,.int .i64 g.c6,.int .i64 g.c7,.int .i64 g.c8,.int .i64 g.c9] 26)).alloc (by simp) (.map #[] 0)).alloc (by simp<;>omega) (.map #[] 0)) hb
  have e1:w1.heap[w.heap.size+1]? =some (.map #[] 0):=by
   rw[hb.block _ (by simp<;>omega),Below.heap_alloc _ _ _ (by simp)]
   exact heap_alloc2_new w (.cells #[.int .i64 g.c0,.int .i64 g.c1,.int .i64 g.c2,.int .i64 g.c3,.int .i64 g.c4,.int .i64 g.c5,.int .i64 g.c6,.int .i64 g.c7,.int .i64 g.c8,.int .i64 g.c9] 26) (.map #[] 0)
  have e2:w1.heap[w.heap.size+1+1]? =some (.map #[] 0):=by
   rw[hb.block _ (by simp)]
   have:=heap_alloc2_new (w.alloc (.cells #[.int .i64 g.c0,.int .i64 g.c1,.int .i64 g.c2,.int .i64 g.c3,.int .i64 g.c4,.int .i64 g.c5,.int .i64 g.c6,.int .i64 g.c7,.int .i64 g.c8,.int .i64 g.c9] 26)) (.map #[] 0) (.map #[] 0)
   simpa using this
  have hs1:=hb.size
  simp at hs1
  exact⟨new_close hg hW e1 e2 (by omega) (by omega) (by omega),new_close hg hW e2 e1 (by omega) (by omega) (by omega)⟩
 have hmk1:∀W:World,(Instr.makeMap 134 none).run Tryz.prog W=.ok (.map (some W.heap.size)) (W.alloc (.map #[] 0)):=fun W=>by simp[Instr.makeMap]
 have hmk2:∀W:World,(Instr.makeMap 135 none).run Tryz.prog W=.ok (.map (some W.heap.size)) (W.alloc (.map #[] 0)):=fun W=>by simp[Instr.makeMap]
 unfold cfgVal
 go_enter Tryz.func145,Tryz.ntmps145
 go_wp2_with fail
 go_region_held3 (fun w'=>w'.cell? ⟨w.heap.size,0,none⟩= some (.int .i64 g.c0)/\w'.cell? ⟨w.heap.size,1,none⟩= some (.int .i64 g.c1)/\w'.cell? ⟨w.heap.size,2,none⟩= some (.int .i64 g.c2)/\w'.cell? ⟨w.heap.size,3,none⟩= some (.int .i64 g.c3)/\w'.cell? ⟨w.heap.size,4,none⟩= some (.int .i64 g.c4)/\w'.cell? ⟨w.heap.size,5,none⟩= some (.int .i64 g.c5)/\w'.cell? ⟨w.heap.size,6,none⟩= some (.int .i64 g.c6)/\w'.cell? ⟨w.heap.size,7,none⟩= some (.int .i64 g.c7)/\w'.cell? ⟨w.heap.size,8,none⟩= some (.int .i64 g.c8)/\w'.cell? ⟨w.heap.size,9,none⟩= some (.int .i64 g.c9)) (first|assumption|exact HA.out _ _ (af _ _) (by assumption)|go_keep) (first
  |(go_at_call 165;refine(HK.out _).mono ?_;rintro e w1 ⟨rfl,hb1⟩;have hSq:=HA.out _ _ hb1 (by assumption)))
 ·have HE:=ab (HFa.out w1 (al hb1)).1
  clear hb1 HFa HFb HFc HK HA hmk1 hmk2
  go_wp2_with fail
  go_ret
  exact HE.out
 ·have HE:=ab (HFa.out w1 (al hb1)).2
  clear hb1 HFa HFb HFc HK HA hmk1 hmk2
  go_wp2_with fail
  go_ret
  exact HE.out
 ·have HE:=ab (HFb.out w1 (al hb1)).1
  clear hb1 HFa HFb HFc HK HA hmk1 hmk2
  go_wp2_with fail
  go_ret
  exact HE.out
 ·have HE:=ab (HFc.out w1 (al hb1)).1
  clear hb1 HFa HFb HFc HK HA hmk1 hmk2
  go_wp2_with fail
  go_ret
  exact HE.out
 ·have HE:=ab (HFb.out w1 (al hb1)).2
  clear hb1 HFa HFb HFc HK HA hmk1 hmk2
  go_wp2_with fail
  go_ret
  exact HE.out
 ·have HE:=ab (HFc.out w1 (al hb1)).2
  clear hb1 HFa HFb HFc HK HA hmk1 hmk2
  go_wp2_with fail
  go_ret
  exact HE.out
theorem wreadFour_any(t0 t1 t2 t3:Int)(b off n cap:Nat)(w:World)(hn:4<=n)(h0:w.cell? ⟨b,off,none⟩= some (.int .u8 t0))(h1:w.cell? ⟨b,off+1,none⟩= some (.int .u8 t1))(h2:w.cell? ⟨b,off+2,none⟩= some (.int .u8 t2))(h3:w.cell? ⟨b,off+3,none⟩= some (.int .u8 t3))
  (r0:0<=t0/\t0<256) (r1:0<=t1/\t1<256) (r2:0<=t2/\t2<256) (r3:0<=t3/\t3<256):
  Calls Tryz.prog 143 #[.slice (some ⟨b,off,none⟩) n cap] w fun e w'=>e=.returned (.int .u32 (t0+256*t1+65536*t2+16777216*t3))/\∃q,w'=w.drewN q:=by
 have a0:IntKind.u32.wrap t0=t0:=u32_wrap_id t0 r0.1 (by omega)
 have a1:IntKind.u32.wrap t1=t1:=u32_wrap_id t1 r1.1 (by omega)
 have a2:IntKind.u32.wrap t2=t2:=u32_wrap_id t2 r2.1 (by omega)
 have a3:IntKind.u32.wrap t3=t3:=u32_wrap_id t3 r3.1 (by omega)
 have s1:IntKind.u32.wrap (t1*256)=t1*256:=u32_wrap_id _ (by omega) (by omega)
 have s2:IntKind.u32.wrap (t2*65536)=t2*65536:=u32_wrap_id _ (by omega) (by omega)
 have s3:IntKind.u32.wrap (t3*16777216)=t3*16777216:=u32_wrap_id _ (by omega) (by omega)
 have o1:bits .or .u32 t0 (t1*256)=t0+t1*256:=u32_or8 t0 _ r0.1 r0.2 (by omega) (by omega) (by omega)
 have o2:bits .or .u32 (t0+t1*256) (t2*65536)=t0+t1*256+t2*65536:=u32_or16 _ _ (by omega) (by omega) (by omega) (by omega) (by omega)
 have o3:bits .or .u32 (t0+t1*256+t2*65536) (t3*16777216)=t0+t1*256+t2*65536+t3*16777216:=u32_or24 _ _ (by omega) (by omega) (by omega) (by omega) (by omega)
 have b1:(1:Int)<(n:Int):=by omega
 have b2:(2:Int)<(n:Int):=by omega
 have b3:(3:Int)<(n:Int):=by omega
 have b0:(0:Int)<(n:Int):=by omega
 have HF:Hid (t0+256*t1+65536*t2+16777216*t3=t0+t1*256+t2*65536+t3*16777216):=by show _=_;omega
 rw[HF.out]
 go_enter Tryz.func143,Tryz.ntmps143
 go_wp2_with fail
 go_quiet (fail)
 go_wp2_with fail
 go_ret
 exact⟨rfl,_,rfl⟩
theorem bytesEq_any(l r:List Int)(lv rv:Value)(w:World)(hl:RdB w lv l)(hr:RdB w rv r)(hl0:0<l.length)(hr0:0<r.length):
  Calls Tryz.prog 144 #[lv,rv] w fun e w'=>e=.returned (.bool (decide (l=r)))/\w=w':=by
 obtain⟨hbl,_,la,lc,rfl,_,_,_,hlp⟩:=id hl
 obtain⟨hbr,_,ra,rc,rfl,_,_,_,hrp⟩:=id hr
 obtain⟨lb,lo,_,_,rfl,_,_⟩:=hlp hl0
 obtain⟨rb,ro,_,_,rfl,_,_⟩:=hrp hr0
 have v1:=run_convert_bytes_arg w 44 5 Tryz.underlying44 Tryz.underlying5 lb lo l.length lc l rfl (fun i hi=>hl.cell i hi) 9 Tryz.underlying9
 have v2:=run_convert_bytes_arg w 44 5 Tryz.underlying44 Tryz.underlying5 rb ro r.length rc r rfl (fun i hi=>hr.cell i hi) 9 Tryz.underlying9
 have HGd:Hid (decide (l=r)=decide (strOfNums l=strOfNums r)):=by
  show _=_
  exact decide_eq_decide.2 ⟨fun h=>by rw[h],fun h=>strOfNums_inj hbl hbr h⟩
 generalize strOfNums l=sa at v1 HGd
 generalize strOfNums r=sb at v2 HGd
 obtain⟨ll,hll⟩:∃ll,l.length=ll:=⟨_,rfl⟩
 obtain⟨rl,hrl⟩:∃rl,r.length=rl:=⟨_,rfl⟩
 rw[hll]at v1⊢
 rw[hrl]at v2⊢
 rw[HGd.out]
 clear hl hr hll hrl hl0 hr0 hlp hrp hbl hbr
 by_cases hse:sa=sb
 ·have HD:decide (sa=sb)=true:=by simpa using hse
  subst hse
  go_enter Tryz.func144,Tryz.ntmps144
  go_wp2_with fail
  go_ret
  exact⟨by simp,rfl⟩
 ·have HD:decide (sa=sb)=false:=by simpa using hse
  have HE:¬sa.toList=sb.toList:=fun h=>hse (by
   rw[ByteArray.toList_eq,ByteArray.toList_eq]at h
   exact ByteArray.ext (Array.toList_inj.mp h))
  rw[HD]
  go_enter Tryz.func144,Tryz.ntmps144
  go_wp2_with fail
  go_ret
  exact⟨by simp[HE],rfl⟩
theorem RdB.of_own{w:World}{base:Nat}{v:Value}{n:Nat}{l:List Int}(h:w.ownsRow base 5 1 v n (U8 l))(hb:Bytes l)(hm:l.length<=140737488355328):RdB w v l:=by
 have hn:n=l.length:=by have:=h.1;rw[bP]at this;omega
 subst hn
 obtain⟨hl,⟨rfl,h0⟩|⟨g,cap,cur,rfl,_,hg,hc1,hc2,_,ht⟩⟩:=h
 ·have hn:l=[]:=List.length_eq_zero_iff.1 h0
  subst hn
  exact RdB.nil w
 ·refine⟨hb,hm,_,cap,rfl,hc1,by unfold maxLen at hc2;omega,fun h=>(by simp at h),fun hp=>⟨g,0,cur,_,rfl,hg,fun j hj=>?_⟩⟩
  have h2:cur[0+j]? =(U8 l)[j]?:=by
   rw[Nat.zero_add,<-ht,List.getElem?_take,if_pos (by simp only[Nat.mul_one]at *;omega)]
   simp
  rw[h2]
  simp[U8,List.getElem?_eq_getElem hj,List.getD]
theorem wTokenHolds_any(c:Cfg)(now addr:Int)(t:List Int)(tv:Value)(w:World)(ht:RdB w tv t)(ha:0<=addr/\addr<256)(hk:0<=c.c9/\c.c9<4294967296):
  Calls Tryz.prog 90 #[.int .i64 c.c9,.int .i64 addr,.int .i64 now,tv] w fun e w'=>e=.returned (.bool (goodS c now addr t))/\Below w.heap.size w w':=by
 obtain⟨hbt,_,ba,bc,rfl,hbc,_,_,hp⟩:=id ht
 by_cases h9:t.length=9
 ·obtain⟨tv1,htv1,⟨a1,c1,rfl⟩,hrun⟩:=ht.drop (k:=1) (by omega)
  have hl1:(t.drop 1).length=8:=by simp;omega
  obtain⟨_,_,a2,c2,e2,_,_,_,hp2⟩:=id htv1
  obtain⟨b2,o2,_,_,rfl,_,_⟩:=hp2 (by omega)
  simp only[Value.slice.injEq]at e2
  obtain⟨rfl,_,rfl⟩:=e2
  have hcl:∀j,j<8->w.cell? ⟨b2,o2+j,none⟩= some (.int .u8 (t.getD (j+1) 0)):=by
   intro j hj
   have h1:RdB w (.slice (some ⟨b2,o2,none⟩) (t.drop 1).length c1) (t.drop 1):=by rw[hl1];rw[h9]at htv1;exact htv1
   have h2:=h1.cell j (by omega)
   rw[h2]
   congr 2
   simp[List.getD]
  have k0:=hcl 0 (by omega)
  have k1:=hcl 1 (by omega)
  have k2:=hcl 2 (by omega)
  have k3:=hcl 3 (by omega)
  rw[Nat.add_zero]at k0
  have r1:=cQ hbt 1
  have r2:=cQ hbt 2
  have r3:=cQ hbt 3
  have r4:=cQ hbt 4
  have HRf:=ab (wreadFour_any (t.getD 1 0) (t.getD 2 0) (t.getD 3 0) (t.getD 4 0) b2 o2 8 c1 w (by omega) k0 k1 k2 k3 r1 r2 r3 r4)
  have HG:Hid (goodS c now addr t=(decide (bD c.c9 addr (timeL t)=t)&&decide (now<=timeL t))):=by
   show _=_
   simp[goodS,h9]
  have htm:0<=timeL t/\timeL t<4294967296:=by unfold timeL;omega
  have e3:t.getD 1 0+256*t.getD 2 0+65536*t.getD 3 0+16777216*t.getD 4 0=timeL t:=rfl
  rw[e3]at HRf
  obtain⟨tm,htm2⟩:∃tm,timeL t=tm:=⟨_,rfl⟩
  rw[htm2]at HRf HG htm
  obtain⟨htm0,htm1⟩:=htm
  have hwt:IntKind.i64.wrap tm=tm:=by rw[IntKind.wrap_i64];omega
  have HTk:=ab (fun W=>wToken_any c.c9 addr tm W hk.1 hk.2 ha.1 ha.2 htm0 htm1)
  have HTb:=ab (eY c.c9 addr tm ha.1 ha.2)
  have HTR:=ab ht
  rw[h9]at hrun⊢
  replace HTR:Hid (RdB w (.slice ba 9 bc) t):=by rw[h9]at HTR;exact HTR
  have H9:=ab h9
  have e8:(9-1:Nat)=8:=rfl
  simp only[e8]at hrun
  rw[HG.out]
  clear ht htv1 hp hp2 hcl k0 k1 k2 k3 r1 r2 r3 r4 h9 hl1 htm2 e3 e8
  simp only[Int.natCast_one]at hrun
  by_cases hge:now<=tm
  ·have hd:decide (now<=tm)=true:=decide_eq_true hge
   rw[hd,Bool.and_true]
   obtain⟨B,hB⟩:∃B,decide (bD c.c9 addr tm=t)=B:=⟨_,rfl⟩
   have HBB:=ab hB
   rw[hB]
   clear hB
   go_enter Tryz.func90,Tryz.ntmps90
   go_wp2_with fail
   refine HRf.out.mono ?_
   rintro e w1 ⟨rfl,q,rfl⟩
   clear HRf
   go_wp2_with fail
   refine(HTk.out _).mono ?_
   rintro e w2 ⟨v,rfl,hown,hb2⟩
   have hb3:Below w.heap.size w w2:=⟨hb2.os,hb2.tape,hb2.output,hb2.size,hb2.block⟩
   have hl9:(bD c.c9 addr tm).length=9:=by have:=hown.1;rw[bP]at this;omega
   have HEq:=ab (bytesEq_any t (bD c.c9 addr tm) (.slice ba 9 bc) v w2 (HTR.out.below hb3) (RdB.of_own hown HTb.out (by rw[hl9];decide)) (by rw[H9.out];decide) (by rw[hl9];decide))
   obtain⟨va,vc,rfl⟩:=aF hown
   have HB3:=ab hb3
   have HDc:Hid (decide (t=bD c.c9 addr tm)=B):=by
    show _=_
    rw[<-HBB.out]
    exact decide_eq_decide.2 eq_comm
   clear hown hb2 hb3 HTk hl9
   go_wp2_with fail
   refine HEq.out.mono ?_
   rintro e w3 ⟨rfl,rfl⟩
   rw[HDc.out]
   clear HEq HDc HBB HG
   go_wp2_with fail
   go_ret
   exact⟨by simp,HB3.out⟩
  ·have hd:decide (now<=tm)=false:=decide_eq_false hge
   rw[hd,Bool.and_false]
   go_enter Tryz.func90,Tryz.ntmps90
   go_wp2_with fail
   refine HRf.out.mono ?_
   rintro e w1 ⟨rfl,q,rfl⟩
   clear HRf
   go_wp2_with fail
   go_ret
   exact⟨rfl,aj (Below.refl _ _) q⟩
 ·have HG:Hid (goodS c now addr t=false):=by
   show _=_
   simp[goodS,h9]
  rw[HG.out]
  have hb9:((t.length:Int)==9)=false:=beq_eq_false_iff_ne.2 (by omega)
  clear ht hp
  go_enter Tryz.func90,Tryz.ntmps90
  go_wp2_with fail
  go_ret
  exact⟨rfl,Below.refl _ _⟩
theorem wRetry_any(cid:Int)(tk:List Int)(tv:Value)(w:World)(hc:0<=cid/\cid<=1073741823)(ht:RdB w tv tk)(h9:tk.length=9):
  Calls Tryz.prog 147 #[.int .i64 cid,tv] w fun e w'=>∃v,e=.returned v/\w'.ownsRow w.heap.size 5 1 v ([3]++aw cid++aw 9++tk).length (U8 ([3]++aw cid++aw 9++tk))/\Below w.heap.size w w':=by
 obtain⟨i0,hi,hz0,hz1,hz2⟩:=info_parts fW
 have hpl:=dP cid
 obtain⟨hbt,_,ba,bc,rfl,hbc,_,_,hp⟩:=id ht
 obtain⟨tb,to_,_,_,rfl,_,_⟩:=hp (by omega)
 have HTR:=ab ht
 have hp9:aw 9=[9]:=rfl
 have HL:Hid (U8 [3]++U8 (aw cid)++U8 [9]++U8 tk=U8 ([3]++aw cid++aw 9++tk)/\([3]++aw cid++aw 9++tk).length=1+(aw cid).length+1+9):=by
  refine⟨by rw[hp9];simp[U8],by rw[hp9];simp[h9];omega⟩
 obtain⟨L,hL⟩:∃L,[3]++aw cid++aw 9++tk=L:=⟨_,rfl⟩
 rw[hL]at HL⊢
 clear hL
 have HUl:Hid ((U8 tk).length=9):=by show _=_;rw[bP,h9]
 have H9:=ab h9
 rw[h9]
 clear ht hp h9
 go_enter Tryz.func147,Tryz.ntmps147
 go_wp2_with fail
 refine(dD cid hc.1 hc.2 w.heap.size _ 1 (U8 [3]) _ (own_lit w 5 (U8 [3]) (by simp[U8,maxLen])) (by simp) (by decide)).mono ?_
 rintro e w1 ⟨v1,rfl,hown1,hg1⟩
 have b1:Below w.heap.size w w1:=(af w _).grown hg1 (by simp) (fun g hg=>by simp[Value.ownBlock]at hg;omega)
 obtain⟨a1,c1,rfl⟩:=aF hown1
 have HO1:=ab hown1
 have HB1:=ab b1
 clear hown1 hg1 b1
 go_wp2_with fail
 refine(dD 9 (by decide) (by decide) w.heap.size _ _ _ w1 HO1.out HB1.out.size (by omega)).mono ?_
 rintro e w2 ⟨v2,rfl,hown2,hg2⟩
 have b2:Below w.heap.size w w2:=HB1.out.grown hg2 HB1.out.size (fun g hg=>(HO1.out.lt g hg).1)
 rw[hp9]at hown2
 obtain⟨a2,c2,rfl⟩:=aF hown2
 have HTR2:=ab (HTR.out.below b2)
 have hcells:∀(j:Nat) u,(U8 tk)[j]? =some u->w2.cell? ((⟨tb,to_,none⟩:Addr).add j)=some u:=by
  intro j u hj
  have hjl:=(List.getElem?_eq_some_iff.1 hj).1
  rw[bP]at hjl
  have h1:=HTR2.out.cell j hjl
  simp only[U8,List.getElem?_map,List.getElem?_eq_getElem hjl,Option.map_some,Option.some.injEq]at hj
  rw[<-hj]
  rw[Addr.add_lit,h1]
  simp[List.getD,List.getElem?_eq_getElem hjl]
 have HCs:=ab hcells
 have HO2:=ab hown2
 have HB2:=ab b2
 clear hown2 hg2 b2 HO1 HB1 hcells
 have hz:=HB2.out.size
 go_wp2_with (at_builtin;refine wpList_append_own _ rfl _ _ 44 rfl w.heap.size 5 i0 (.int .u8 0) 1 1 Tryz.underlying44 hi hz0 hz1 hz2 rfl (by decide) _ _ _ rfl HO2.out ⟨tb,to_,none⟩ 9 bc (U8 tk) rfl (by rw[HUl.out]) HCs.out (u8_one _) (by unfold maxLen;simp;omega) (by simp;omega) hz ?_;intro v3 w3 hown3 hg3 _)
 have b3:Below w.heap.size w w3:=HB2.out.grown hg3 HB2.out.size (fun g hg=>(HO2.out.lt g hg).1)
 go_ret
 refine⟨_,rfl,?_,b3⟩
 rw[HL.out.2,<-HL.out.1]
 exact hown3
def IsBlk(w:World)(b:Nat):Prop:=∃cs t,w.heap[b]? =some (.cells cs t (0,0))
theorem eql_con{w:World}{p q:Nat}(hp:IsBlk w p)(hq:IsBlk w q):(binOp .eql 97 (.pointer (some ⟨p,0,none⟩)) (.pointer (some ⟨q,0,none⟩))).run Tryz.prog w=.ok (.bool (decide (p=q))) w:=by
 obtain⟨j,hj,hz⟩:∃j,Tryz.prog.info? 137=some j/\j.size≠0:=by
  have h:(Tryz.prog.info? 137).map (fun i=>i.size)=some 24:=by kernel_rfl
  cases hi:Tryz.prog.info? 137 with
  |none=>rw[hi]at h;cases h
  |some j=>rw[hi]at h;simp at h;exact⟨j,rfl,by omega⟩
 by_cases h:p=q
 ·subst h
  rw[decide_eq_true rfl]
  exact run_eql_ptr_same w ⟨p,0,none⟩ Tryz.underlying97 hj
 ·rw[decide_eq_false h]
  obtain⟨c1,t1,h1⟩:=hp
  obtain⟨c2,t2,h2⟩:=hq
  exact run_eql_ptr_other w Tryz.underlying97 hj hz (fun e=>h (by injection e)) h1 h2
theorem swnm1_any(p q pb:Nat)(w:World)(hp:IsBlk w p)(hq:IsBlk w q)(hc:w.cell? ⟨pb,0,none⟩= some (.pointer (some ⟨q,0,none⟩))):
  Calls Tryz.prog 100 #[.pointer (some ⟨p,0,none⟩),.pointer (some ⟨pb,0,none⟩)] w fun e w'=>e=.returned (.bool (decide (p=q)))/\w=w':=by
 have he:=eql_con hp hq
 clear hp hq
 generalize decide (p=q)=B at he⊢
 go_enter Tryz.func100,Tryz.ntmps100
 go_wp2_with fail
 go_ret
 exact⟨rfl,rfl⟩
def idxP(l:List Nat)(q:Nat):Int:=match l.findIdx? fun b=>b==q with
 |some k=>k
 |none=>-1
theorem IdxFuncC_any(ws:List Nat)(lv:Value)(q pb:Nat)(w:World)(hown:w.ownsRow 0 97 1 lv ws.length (fs ws))(hn:ws.length<=1000)(hb:∀b∈ws,IsBlk w b)(hq:IsBlk w q)(hc:w.cell? ⟨pb,0,none⟩= some (.pointer (some ⟨q,0,none⟩))):
  Calls Tryz.prog 153 #[lv,.func (.func 100) #[] #[.pointer (some ⟨pb,0,none⟩)]] w fun e w'=>e=.returned (.int .i64 (idxP ws q))/\w=w':=by
 obtain⟨ao,cap,rfl⟩:=aY hown
 have HO:=ab hown
 have HS:=ab (fun p hp=>swnm1_any p q pb w (hb p hp) hq hc)
 clear hown hb hq hc
 go_enter Tryz.func153,Tryz.ntmps153
 go_wp2_with fail
 go_loop [8] (fun i=>∃k:Nat,k<=ws.length/\i=.int .i64 k/\Hid (∀(j:Nat) b,j<k->ws[j]? =some b->b≠q)) (fun i=>ws.length-(intOf i).toNat)
 case atStart=>exact⟨0,Nat.zero_le _,rfl,fun j b hj=>by omega⟩
 case round=>
  obtain⟨k,hk,rfl,hno⟩:=hrel
  by_cases hlt:k<ws.length
  ·obtain⟨p,hp⟩:∃p,ws[k]? =some p:=⟨_,List.getElem?_eq_getElem hlt⟩
   rcases HO.out.2 with⟨_,h0⟩|⟨g,cap',cur,e3,_,hg,hnc,hcm,hcs,htk⟩
   ·omega
   simp only[Value.slice.injEq]at e3
   obtain⟨rfl,_,rfl⟩:=e3
   have c1:w.cell? ⟨g,k,none⟩= some (.pointer (some ⟨p,0,none⟩)):=by
    rw[HO.out.cellAt k (by omega)]
    simp[fs,hp,ptrV]
   have HC:=ab (HS.out p (List.mem_of_getElem? hp))
   have HP:=ab hp
   have HN:=ab hno
   clear hg htk hcs hcm hp hno
   go_wp2_with fail
   refine HC.out.mono ?_
   rintro e w1 ⟨rfl,rfl⟩
   clear HC c1
   by_cases hpq:p=q
   ·rw[decide_eq_true hpq]
    go_wp2_with fail
    go_ret
    refine⟨?_,rfl⟩
    have hf:ws.findIdx? (fun b=>b==q)=some k:=by
     rw[List.findIdx?_eq_some_iff_getElem]
     refine⟨hlt,?_,fun j hj=>?_⟩
     ·have:=HP.out
      rw[List.getElem?_eq_getElem hlt]at this
      simp only[Option.some.injEq]at this
      simp[this,hpq]
     ·have:=HN.out j _ hj (List.getElem?_eq_getElem (Nat.lt_trans hj hlt))
      simpa using this
    unfold idxP
    rw[hf]
    rfl
   ·rw[decide_eq_false hpq]
    go_wp2_with fail
    go_round
    case rel=>
     refine⟨k+1,by omega,by go_num,fun j b hj hb=>?_⟩
     rcases Nat.lt_or_ge j k with h3|h3
     ·exact HN.out j b h3 hb
     ·obtain rfl:j=k:=by omega
      obtain rfl:=Option.some.inj (HP.out.symm.trans hb)
      exact hpq
    case measure=>simp[intOf];omega
  ·obtain rfl:k=ws.length:=by omega
   have HN:=ab hno
   clear hno
   go_wp2_with fail
   go_ret
   refine⟨?_,rfl⟩
   have hf:ws.findIdx? (fun b=>b==q)=none:=by
    rw[List.findIdx?_eq_none_iff]
    intro b hb
    obtain⟨j,hj,rfl⟩:=List.getElem_of_mem hb
    have:=HN.out j _ hj (List.getElem?_eq_getElem hj)
    simpa using this
   unfold idxP
   rw[hf]
   rfl
end Go.Proofs.YthmdjhlhodpbhaaGreatDoor
