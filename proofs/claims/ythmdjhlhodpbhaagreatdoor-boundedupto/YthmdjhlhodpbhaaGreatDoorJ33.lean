/- Bounded, 33 -/
import Derived.Test.YthmdjhlhodpbhaaGreatDoorJ03
import Derived.Test.YthmdjhlhodpbhaaGreatDoorJ04
import Derived.Test.YthmdjhlhodpbhaaGreatDoorJ07
import Derived.Test.YthmdjhlhodpbhaaGreatDoorJ21
import Derived.Test.YthmdjhlhodpbhaaGreatDoorJ23
import Derived.Test.YthmdjhlhodpbhaaGreatDoorJ28
import Derived.Test.YthmdjhlhodpbhaaGreatDoorJ29
import Derived.Test.YthmdjhlhodpbhaaGreatDoorJ30
import Derived.Test.YthmdjhlhodpbhaaGreatDoorJ32
set_option maxHeartbeats 16000000
set_option maxRecDepth 8000
namespace Go.Proofs.YthmdjhlhodpbhaaGreatDoor
open Go.RowKit
theorem PSrv.lookI{N:Nat}{w:World}{sb:Nat}{s:ay}{cm:Nat}{wv:Value}{cbs:List Nat}{xs:List aD}{ws:List Nat}(h:PSrv N w sb s cm wv cbs xs ws){cid:Int}(hc:-9223372036854775808<=cid/\cid<=9223372036854775807)(hno:cid∉s.conns.map (·.cid)):(Instr.lookup 98 (.map (some cm)) (.int .i64 cid) false).run Tryz.prog w=.ok (.pointer none) w:=by
 obtain⟨n,_,hm⟩:=h.map
 have h1:=run_look (C:=cK) (e:=97) Tryz.underlying3 Tryz.underlying98 (fun W=>by kernel_rfl) hm (gV (k:=cid) hc)
 have h2:atK ((s.conns.map (·.cid)).zip cbs) cid=none:=by
  refine iM.2 ?_
  rw[List.map_fst_zip (by simp[h.len1])]
  exact hno
 unfold eH at h1
 rw[h2]at h1
 exact h1
theorem sLook_any(N:Nat)(sb:Nat)(s:ay)(cm:Nat)(wv:Value)(cbs:List Nat)(xs:List aD)(ws:List Nat)(cid:Int)(w:World)(h:PSrv N w sb s cm wv cbs xs ws){M L:Int}(hI:SrvInv M L s)(hc:-9223372036854775808<=cid/\cid<=9223372036854775807):
  Calls Tryz.prog 16 #[.pointer (some ⟨sb,0,none⟩),.int .i64 cid] w fun e w'=>e=.returned (.tuple #[.agg (lookS s cid).1,.int .i64 (lookS s cid).2])/\Below w.heap.size w w':=by
 have hb0:Below w.heap.size w (w.alloc (.cells #[.bool false,.int .i64 0,.int .i64 0,.int .i64 0,.int .i64 0,.int .i64 0] 34)):=ag w _
 have k11:(w.alloc (.cells #[.bool false,.int .i64 0,.int .i64 0,.int .i64 0,.int .i64 0,.int .i64 0] 34)).cell? ⟨sb,11,none⟩= some (.map (some cm)):=(h.blk.below hb0).cell 11
 rcases ea (l:=s.conns) (cid:=cid) with⟨hf,hno⟩|⟨k,c,hf,hk,hkc⟩
 ·have hlk:=(h.below hb0).lookI hc hno
  have hls:lookS s cid=(zeroLook,3):=by unfold lookS;rw[hf]
  rw[hls]
  unfold zeroLook
  clear h hI hf hno hls
  go_enter Tryz.func16,Tryz.ntmps16
  go_wp2_with fail
  refine bodyPost_ret (bu (P:=Tryz.prog) Tryz.results16 _ _ w.heap.size 34 #[.bool false,.int .i64 0,.int .i64 0,.int .i64 0,.int .i64 0,.int .i64 0] (0,0) _ (.int .i64 3) (by kernel_rfl) (by kernel_rfl) (heap_alloc_new w _) Tryz.underlying34 rfl (by kernel_rfl)) rfl ?_
  exact⟨rfl,hb0⟩
 ·obtain⟨cb,a,hcb,ha,hat⟩:=h.found hI.nd hk
  have hmem:=List.mem_of_getElem? hk
  have hcr:=(hI.ok c hmem).cid
  have hlk:=(h.below hb0).lookS (cid:=c.cid) (by omega) hat
  rw[hkc]at hlk
  have hls:lookS s cid=(lookC c,0):=by unfold lookS;rw[hf];simp only;rw[hk]
  rw[hls]
  have HC:=ae (cLook_any N cb s.c c a (w.alloc (.cells #[.bool false,.int .i64 0,.int .i64 0,.int .i64 0,.int .i64 0,.int .i64 0] 34)) ((h.con k c cb a hk hcb ha).below hb0) (hI.inv c hmem) (hI.ok c hmem) hI.cfg)
  have HB0:=ae hb0
  have HX:Hid ((w.alloc (.cells #[.bool false,.int .i64 0,.int .i64 0,.int .i64 0,.int .i64 0,.int .i64 0] 34)).heap[w.heap.size]? =some (.cells #[.bool false,.int .i64 0,.int .i64 0,.int .i64 0,.int .i64 0,.int .i64 0] 34 (0,0))):=heap_alloc_new w _
  have HZ:Hid (w.heap.size<(w.alloc (.cells #[.bool false,.int .i64 0,.int .i64 0,.int .i64 0,.int .i64 0,.int .i64 0] 34)).heap.size):=by show _<_;simp
  unfold lookC at HC⊢
  generalize bufS c.streams=B at HC⊢
  clear h hI hf hk hcb ha hat hmem hcr hls hb0
  go_enter Tryz.func16,Tryz.ntmps16
  go_wp2_with fail
  refine HC.out.mono ?_
  rintro e w1 ⟨rfl,hb1⟩
  have x0:=(hb1.block w.heap.size HZ.out).trans HX.out
  have q0:w1.cell? ⟨w.heap.size,0,none⟩= some (.bool false):=by simp only[World.cell?,x0];rfl
  have z0:w1.frozen? ⟨w.heap.size,0,none⟩= false:=frozen_of_row _ _ _ _ _ x0
  have q1:w1.cell? ⟨w.heap.size,1,none⟩= some (.int .i64 0):=by simp only[World.cell?,x0];rfl
  have z1:w1.frozen? ⟨w.heap.size,1,none⟩= false:=frozen_of_row _ _ _ _ _ x0
  have q2:w1.cell? ⟨w.heap.size,2,none⟩= some (.int .i64 0):=by simp only[World.cell?,x0];rfl
  have z2:w1.frozen? ⟨w.heap.size,2,none⟩= false:=frozen_of_row _ _ _ _ _ x0
  have q3:w1.cell? ⟨w.heap.size,3,none⟩= some (.int .i64 0):=by simp only[World.cell?,x0];rfl
  have z3:w1.frozen? ⟨w.heap.size,3,none⟩= false:=frozen_of_row _ _ _ _ _ x0
  have q4:w1.cell? ⟨w.heap.size,4,none⟩= some (.int .i64 0):=by simp only[World.cell?,x0];rfl
  have z4:w1.frozen? ⟨w.heap.size,4,none⟩= false:=frozen_of_row _ _ _ _ _ x0
  have q5:w1.cell? ⟨w.heap.size,5,none⟩= some (.int .i64 0):=by simp only[World.cell?,x0];rfl
  have z5:w1.frozen? ⟨w.heap.size,5,none⟩= false:=frozen_of_row _ _ _ _ _ x0
  have x1:=ak x0 0 (.bool c.proven)
  have x2:=ak x1 1 (.int .i64 c.got)
  have x3:=ak x2 2 (.int .i64 c.sent)
  have x4:=ak x3 3 (.int .i64 c.credit)
  have x5:=ak x4 4 (.int .i64 (c.streams.length:Int))
  have x6:=ak x5 5 (.int .i64 B)
  have hlt:w.heap.size<w1.heap.size:=Nat.lt_of_lt_of_le HZ.out hb1.size
  have HB1:=ae (ai HB0.out hb1)
  have HX6:=ae x6
  clear hb1 x0 x1 x2 x3 x4 x5 x6 HC HX HZ hlk k11
  go_wp2_with fail
  refine bodyPost_ret (bu (P:=Tryz.prog) Tryz.results16 _ _ w.heap.size 34 #[.bool c.proven,.int .i64 c.got,.int .i64 c.sent,.int .i64 c.credit,.int .i64 (c.streams.length:Int),.int .i64 B] (0,0) _ (.int .i64 0) (by kernel_rfl) (by kernel_rfl) HX6.out Tryz.underlying34 rfl (by kernel_rfl)) rfl ?_
  exact⟨rfl,((((((HB1.out.setCell (Nat.le_refl _) _).setCell (Nat.le_refl _) _).setCell (Nat.le_refl _) _).setCell (Nat.le_refl _) _).setCell (Nat.le_refl _) _).setCell (Nat.le_refl _) _)⟩
theorem PSrv.otherT{F:Nat->Prop}{T:TypeId}(hT:T≠101/\T≠97/\T≠137/\T≠279/\T≠204/\T≠259/\T≠5){N:Nat}{w w':World}{sb:Nat}{s:ay}{cm:Nat}{wv:Value}{cbs:List Nat}{xs:List aD}{ws:List Nat}(h:PSrv N w sb s cm wv cbs xs ws)(hc:Chg F w w')(hF:∀k,F k->∃cur fr,w.heap[k]? =some (.cells cur T fr)):PSrv N w' sb s cm wv cbs xs ws:=by
 obtain⟨n,hn,hm⟩:=h.map
 obtain⟨t1,t2,t3,t4,t5,t6,t7⟩:=hT
 refine⟨h.blk.chg hc (fun hf=>?_),⟨n,hn,hm.same (hc.block cm hm.lt (fun hf=>?_))⟩,h.len1,h.len2,fun i c cb a h1 h2 h3=>?_,bX h.row hc (fun k hk hf=>?_),h.wait,h.apart,h.mne⟩
 ·obtain⟨cur,fr,e⟩:=hF _ hf
  have h3:w.heap[sb]? =some (.cells (gF s.c s.now cm wv) 101 (0,0)):=h.blk
  rw[h3]at e
  simp only[Option.some.injEq,Obj.cells.injEq]at e
  exact t1 e.2.1.symm
 ·obtain⟨cur,fr,e⟩:=hF _ hf
  obtain⟨es,ck,hb⟩:=hm.is_map
  rw[hb]at e
  cases e
 ·have hC:=h.con i c cb a h1 h2 h3
  refine hC.chg hc (fun k hk hf=>?_) (fun k cur fr hk hf=>?_)
  ·obtain⟨cur,fr,e⟩:=hF _ hf
   exact cf hC e t3 t4 t5 t6 hk
  ·obtain⟨cur',fr',e⟩:=hF _ hf
   rw[hk]at e
   simp only[Option.some.injEq,Obj.cells.injEq]at e
   exact t7 e.2.1.symm
 ·obtain⟨cur,fr,e⟩:=hF _ hf
  exact au h.row e (fun e=>t2 e.symm) hk
structure SReadOut(N:Nat)(w:World)(sb cm:Nat)(wv:Value)(cbs:List Nat)(xs:List aD)(r:Int×gr×ay×List (Int×List Int))(e:Ending)(w':World):Prop where
 ex:∃tv v xs' ws',e=.returned (.tuple #[.agg #[tv,.bool r.2.1.fin,.bool r.2.1.rst],v,.int .i64 r.1])/\(∃ao l c,v=.slice ao l c)/\w'.ownsRow w.heap.size 5 1 tv r.2.1.bytes.length (U8 r.2.1.bytes)/\OutsU (fun k=>fG xs' k\/tv.ownBlock=some k) w' w.heap.size v r.2.2.2/\(∀k,tv.ownBlock=some k->¬fG xs' k)/\PSrv (N+2) w' sb r.2.2.1 cm wv cbs xs' ws'/\(∀k,cA sb cm wv cbs xs' k->cA sb cm wv cbs xs k\/w.heap.size<=k)/\∀k,fG xs' k->fG xs k\/w.heap.size<=k
 chg:Chg (cA sb cm wv cbs xs) w w'
theorem read_ok{s:ay}{cid id most:Int}{k:Nat}{c:aq}{x:aO}(hf:fC s.conns cid=some k)(hk:s.conns[k]? =some c)(hp:c.proven=true)(h0:0<=id)(hm:0<=most)(hx:c.streams[id.toNat]? =some x):
  cI s cid id most=(0,(aH x most).1,{s with conns:=s.conns.set k (ej s.c c id.toNat x most).1},(ej s.c c id.toNat x most).2):=by
 have hl:=(List.getElem?_eq_some_iff.1 hx).1
 unfold cI
 rw[hf]
 simp only
 rw[hk]
 simp only
 rw[hp,if_neg (by decide),if_neg (by omega),hx]
theorem sRead_any(N:Nat)(sb:Nat)(s:ay)(cm:Nat)(wv:Value)(cbs:List Nat)(xs:List aD)(ws:List Nat)(cid id most:Int)(w:World)(h:PSrv N w sb s cm wv cbs xs ws){M L:Int}(hI:SrvInv M L s)(hM:M<=1125899906842000)(hN:N+2<1125899906842624)(hc:-9223372036854775808<=cid/\cid<=9223372036854775807)(hm:-9223372036854775808<=most/\most<=9223372036854775807):
  Calls Tryz.prog 17 #[.pointer (some ⟨sb,0,none⟩),.int .i64 cid,.int .i64 id,.int .i64 most] w fun e w'=>SReadOut N w sb cm wv cbs xs (cI s cid id most) e w':=by
 have hb0:Below w.heap.size w (w.alloc (.cells #[.slice none 0 0,.bool false,.bool false] 46)):=ag w _
 have k11:(w.alloc (.cells #[.slice none 0 0,.bool false,.bool false] 46)).cell? ⟨sb,11,none⟩= some (.map (some cm)):=(h.blk.below hb0).cell 11
 have HX:Hid ((w.alloc (.cells #[.slice none 0 0,.bool false,.bool false] 46)).heap[w.heap.size]? =some (.cells #[.slice none 0 0,.bool false,.bool false] 46 (0,0))):=heap_alloc_new w _
 have HN:Hid (∀(W:World) (q:Int),Below w.heap.size w W->SReadOut N w sb cm wv cbs xs (q,gw,s,[]) (.returned (.tuple #[.agg #[.slice none 0 0,.bool false,.bool false],.slice none 0 0,.int .i64 q])) W):=fun W q hW=>
  ⟨⟨_,_,xs,ws,rfl,⟨_,_,_,rfl⟩,World.ownsRow_nil _ _ _ _,OutsU.none (OutsAt.nil _ _) rfl,fun k hk=>(by simp[Value.ownBlock]at hk),(h.below hW).mono (by omega),fun k hk=>Or.inl hk,fun k hk=>Or.inl hk⟩,Chg.of_below hW⟩
 rcases ea (l:=s.conns) (cid:=cid) with⟨hf,hno⟩|⟨k,c,hf,hk,hkc⟩
 ·have hlk:=(h.below hb0).lookI hc hno
  have hrs:cI s cid id most=(3,gw,s,[]):=by unfold cI;rw[hf]
  rw[hrs]
  have E0:∀W:World,(binOp .eql 97 (.pointer none) (.pointer none)).run Tryz.prog W=.ok (.bool true) W:=fun W=>by kernel_rfl
  have HB0:=ae hb0
  clear h hI hf hno hrs hb0
  go_enter Tryz.func17,Tryz.ntmps17
  go_wp2_with fail
  refine bodyPost_ret (bB (P:=Tryz.prog) Tryz.results17 _ _ w.heap.size 46 #[.slice none 0 0,.bool false,.bool false] (0,0) _ (.slice none 0 0) (.int .i64 3) (by kernel_rfl) (by kernel_rfl) (by kernel_rfl) HX.out Tryz.underlying46 rfl (by kernel_rfl)) rfl ?_
  exact HN.out _ 3 HB0.out
 ·obtain⟨cb,a,hcb,ha,hat⟩:=h.found hI.nd hk
  have hmem:=List.mem_of_getElem? hk
  have hok:=hI.ok c hmem
  have hcr:=hok.cid
  have hlk:=(h.below hb0).lookS (cid:=c.cid) (by omega) hat
  rw[hkc]at hlk
  have hC:=(h.below hb0).con k c cb a hk hcb ha
  have E0:∀W:World,(binOp .eql 97 (.pointer (some ⟨cb,0,none⟩)) (.pointer none)).run Tryz.prog W=.ok (.bool false) W:=fun W=>by kernel_rfl
  have HPr:=ae (gZ cb s.c c a.plv a.sm a.dm _ _ hC.blk)
  have HB0:=ae hb0
  cases hp:c.proven with
  |false=>
   have hrs:cI s cid id most=(3,gw,s,[]):=by unfold cI;rw[hf];simp only;rw[hk];simp only;rw[hp,if_pos rfl]
   rw[hrs]
   rw[hp]at HPr
   clear h hI hf hk hcb ha hat hmem hok hcr hC hrs hb0
   go_enter Tryz.func17,Tryz.ntmps17
   go_wp2_with fail
   refine HPr.out.mono ?_
   rintro e w1 ⟨rfl,rfl⟩
   clear HPr
   go_wp2_with fail
   refine bodyPost_ret (bB (P:=Tryz.prog) Tryz.results17 _ _ w.heap.size 46 #[.slice none 0 0,.bool false,.bool false] (0,0) _ (.slice none 0 0) (.int .i64 3) (by kernel_rfl) (by kernel_rfl) (by kernel_rfl) HX.out Tryz.underlying46 rfl (by kernel_rfl)) rfl ?_
   exact HN.out _ 3 HB0.out
  |true=>
   have HHa:=ae (cHas_any cb s.c c a.plv a.sm a.dm _ id _ hC.blk)
   rw[hp]at HPr
   by_cases hid:0<=id/\id<(c.streams.length:Int)
   ·have hha:(decide (0<=id)&&decide (id<(c.streams.length:Int)))=true:=by simp[hid]
    rw[hha]at HHa
    by_cases hm0:0<=most
    ·obtain⟨x,hx⟩:∃x,c.streams[id.toNat]? =some x:=⟨_,List.getElem?_eq_getElem (show id.toNat<c.streams.length by omega)⟩
     rw[read_ok hf hk hp hid.1 hm0 hx]
     have hsl:=hok.slen
     have HRd:=ae (cRead_any N cb s.c c a id most x _ hC (hI.inv c hmem) hI.cfg hok hM hN hx (by omega) (by omega))
     have HEnd:Hid (∀(e:Ending) (W1:World),fw N (w.alloc (.cells #[.slice none 0 0,.bool false,.bool false] 46)) cb s.c a (aH x most).1 (ej s.c c id.toNat x most) e W1->∃tv v,e=.returned (.tuple #[.agg #[tv,.bool (aH x most).1.fin,.bool (aH x most).1.rst],v])/\(∃ao l c,tv=.slice ao l c)/\(∃ao l c,v=.slice ao l c)/\
       (W1.alloc (.cells #[tv,.bool (aH x most).1.fin,.bool (aH x most).1.rst] 46)).heap[w.heap.size]? =some (.cells #[.slice none 0 0,.bool false,.bool false] 46 (0,0))/\
       ∀W3,Chg (· = w.heap.size) (W1.alloc (.cells #[tv,.bool (aH x most).1.fin,.bool (aH x most).1.rst] 46)) W3->SReadOut N w sb cm wv cbs xs (0,(aH x most).1,{s with conns:=s.conns.set k (ej s.c c id.toNat x most).1},(ej s.c c id.toNat x most).2) (.returned (.tuple #[.agg #[tv,.bool (aH x most).1.fin,.bool (aH x most).1.rst],v,.int .i64 0])) W3):=by
      intro e W1 hR
      obtain⟨tv,v,a',rfl,hvf,hby,hou,hsep,hA,hin,hu⟩:=hR.ex
      obtain⟨ta,tc,htv⟩:=aS hby
      obtain⟨_,_,hS,_⟩:=kS most (hI.inv c hmem) hok hx hI.cfg
      have hs0:w.heap.size<(w.alloc (.cells #[.slice none 0 0,.bool false,.bool false] 46)).heap.size:=by simp
      have hbx:=(h.below HB0.out)
      have hP1:=hbx.step (N':=N+2) (by omega) hk hcb ha hR.chg hA hin hS.cid hS.waits
      have hb2:Below W1.heap.size W1 (W1.alloc (.cells #[tv,.bool (aH x most).1.fin,.bool (aH x most).1.rst] 46)):=ag W1 _
      have r1:W1.heap[w.heap.size]? =some (.cells #[.slice none 0 0,.bool false,.bool false] 46 (0,0)):=by
       refine(hR.chg.block _ hs0 (cf hC HX.out (by decide) (by decide) (by decide) (by decide))).trans HX.out
      have r2:=(hb2.block _ (Array.getElem?_eq_some_iff.1 r1).1).trans r1
      refine⟨tv,v,rfl,⟨_,_,_,htv⟩,hvf,r2,fun W3 hc3=>?_⟩
      have hne:∀q cur t fr,(W1.alloc (.cells #[tv,.bool (aH x most).1.fin,.bool (aH x most).1.rst] 46)).heap[q]? =some (.cells cur t fr)->t≠46->¬q=w.heap.size:=by
       intro q cur t fr hq ht e
       rw[e,r2]at hq
       simp only[Option.some.injEq,Obj.cells.injEq]at hq
       exact ht hq.2.1.symm
      have hUk:∀q,fG (xs.set k a') q->a'.u q\/q<w.heap.size:=by
       rintro q ⟨d,hd,hq⟩
       rcases List.mem_or_eq_of_mem_set hd with hd|rfl
       ·exact Or.inr (SrvU_lt h ⟨d,hd,hq⟩)
       ·exact Or.inl hq
      have hF1:=jH (sb:=sb) (cm:=cm) (wv:=wv) hcb ha hin
      have hU1:=jI ha hu
      have hP3:=(hP1.below hb2).otherT (T:=46) (by decide) hc3 (fun q e=>⟨_,_,(congrArg (fun j=>(W1.alloc (.cells #[tv,.bool (aH x most).1.fin,.bool (aH x most).1.rst] 46)).heap[j]?) e).trans r2⟩)
      refine⟨⟨tv,v,_,_,rfl,hvf,?_,?_,fun q hq hU=>?_,hP3,fun q hq=>?_,fun q hq=>?_⟩,?_⟩
      ·exact dM (aP (bY hby (by omega)) hb2) hc3 fun q cur fr hq=>hne _ _ _ _ hq (by decide)
      ·have h1:=(hou.chg (F:=fun _=>False) (Chg.of_below hb2) (fun _ _ _ _ h=>h) (fun _ _ _ _ h=>h)).chg hc3 (fun q cur fr hq=>hne _ _ _ _ hq (by decide)) (fun q cur fr hq=>hne _ _ _ _ hq (by decide))
       obtain⟨out,o1,o2,o3⟩:=h1
       refine⟨out,bY o1 (by omega),o2.mono (by omega),fun i p q hp hq hA=>?_⟩
       rcases hA with hA|hA
       ·rcases hUk q hA with hA|hA
        ·exact o3 i p q hp hq (Or.inl hA)
        ·have:=(o2.ge hp hq).1
         omega
       ·exact o3 i p q hp hq (Or.inr hA)
      ·rcases hUk q hU with hA|hA
       ·exact hsep q hq hA
       ·have:=(hby.lt q hq).1
        omega
      ·rcases hF1 q hq with e|e
       ·exact Or.inl e
       ·exact Or.inr (by omega)
      ·rcases hU1 q hq with e|e
       ·exact Or.inl e
       ·exact Or.inr (by omega)
      ·refine dG (dG (dG (Chg.of_below HB0.out) hR.chg fun q _ e=>eP hcb ha e) (Chg.of_below (F:=fun _=>False) hb2) fun q _ e=>e.elim) hc3 fun q hq e=>?_
       omega
     clear h hI hf hk hcb ha hat hmem hok hcr hC hb0 hsl hx HN
     generalize (aH x most).1=gx at *
     generalize ej s.c c id.toNat x most=rc at *
     go_enter Tryz.func17,Tryz.ntmps17
     go_wp2_with fail
     refine HPr.out.mono ?_
     rintro e w1 ⟨rfl,rfl⟩
     clear HPr
     go_wp2_with fail
     refine HHa.out.mono ?_
     rintro e w1 ⟨rfl,rfl⟩
     clear HHa
     go_wp2_with fail
     refine HRd.out.mono ?_
     intro e w1 hR
     obtain⟨tv,v,rfl,⟨t1,t2,t3,rfl⟩,⟨v1,v2,v3,rfl⟩,hres,hfin⟩:=HEnd.out e w1 hR
     have HFin:=ae hfin
     have HRes:=ae hres
     have f0:(w1.alloc (.cells #[.slice t1 t2 t3,.bool gx.fin,.bool gx.rst] 46)).cell? ⟨w.heap.size,0,none⟩= some (.slice none 0 0):=ax hres 0
     have f1:(w1.alloc (.cells #[.slice t1 t2 t3,.bool gx.fin,.bool gx.rst] 46)).cell? ⟨w.heap.size,1,none⟩= some (.bool false):=ax hres 1
     have f2:(w1.alloc (.cells #[.slice t1 t2 t3,.bool gx.fin,.bool gx.rst] 46)).cell? ⟨w.heap.size,2,none⟩= some (.bool false):=ax hres 2
     have z0:(w1.alloc (.cells #[.slice t1 t2 t3,.bool gx.fin,.bool gx.rst] 46)).frozen? ⟨w.heap.size,0,none⟩= false:=frozen_of_row _ _ 0 _ _ hres
     have z1:(w1.alloc (.cells #[.slice t1 t2 t3,.bool gx.fin,.bool gx.rst] 46)).frozen? ⟨w.heap.size,1,none⟩= false:=frozen_of_row _ _ 1 _ _ hres
     have z2:(w1.alloc (.cells #[.slice t1 t2 t3,.bool gx.fin,.bool gx.rst] 46)).frozen? ⟨w.heap.size,2,none⟩= false:=frozen_of_row _ _ 2 _ _ hres
     clear hR hfin hres HRd HEnd hlk k11 HX
     go_wp2_with fail
     refine bodyPost_ret (bB (P:=Tryz.prog) Tryz.results17 _ _ w.heap.size 46 #[.slice t1 t2 t3,.bool gx.fin,.bool gx.rst] (0,0) _ (.slice v1 v2 v3) (.int .i64 0) (by kernel_rfl) (by kernel_rfl) (by kernel_rfl) (got_set _ _ _ HRes.out) Tryz.underlying46 rfl (by kernel_rfl)) rfl ?_
     exact HFin.out _ (got_chg _ _ _ _ _)
    ·have hrs:cI s cid id most=(2,gw,s,[]):=by unfold cI;rw[hf];simp only;rw[hk];simp only;rw[hp,if_neg (by decide),if_pos (by omega)]
     rw[hrs]
     clear h hI hf hk hcb ha hat hmem hok hcr hC hrs hb0
     go_enter Tryz.func17,Tryz.ntmps17
     go_wp2_with fail
     refine HPr.out.mono ?_
     rintro e w1 ⟨rfl,rfl⟩
     clear HPr
     go_wp2_with fail
     refine HHa.out.mono ?_
     rintro e w1 ⟨rfl,rfl⟩
     clear HHa
     go_wp2_with fail
     refine bodyPost_ret (bB (P:=Tryz.prog) Tryz.results17 _ _ w.heap.size 46 #[.slice none 0 0,.bool false,.bool false] (0,0) _ (.slice none 0 0) (.int .i64 2) (by kernel_rfl) (by kernel_rfl) (by kernel_rfl) HX.out Tryz.underlying46 rfl (by kernel_rfl)) rfl ?_
     exact HN.out _ 2 HB0.out
   ·have hha:(decide (0<=id)&&decide (id<(c.streams.length:Int)))=false:=by
     simp only[Bool.and_eq_false_iff,decide_eq_false_iff_not]
     omega
    rw[hha]at HHa
    have hrs:cI s cid id most=(2,gw,s,[]):=by unfold cI;rw[hf];simp only;rw[hk];simp only;rw[hp,if_neg (by decide),if_pos (by omega)]
    rw[hrs]
    clear h hI hf hk hcb ha hat hmem hok hcr hC hrs hb0
    go_enter Tryz.func17,Tryz.ntmps17
    go_wp2_with fail
    refine HPr.out.mono ?_
    rintro e w1 ⟨rfl,rfl⟩
    clear HPr
    go_wp2_with fail
    refine HHa.out.mono ?_
    rintro e w1 ⟨rfl,rfl⟩
    clear HHa
    go_wp2_with fail
    refine bodyPost_ret (bB (P:=Tryz.prog) Tryz.results17 _ _ w.heap.size 46 #[.slice none 0 0,.bool false,.bool false] (0,0) _ (.slice none 0 0) (.int .i64 2) (by kernel_rfl) (by kernel_rfl) (by kernel_rfl) HX.out Tryz.underlying46 rfl (by kernel_rfl)) rfl ?_
    exact HN.out _ 2 HB0.out
def iA(cid:Int)(tok fr:List Int):List Int:=[1]++aT cid++aT tok.length++tok++fr
def jA(cid num:Int)(fr:List Int):List Int:=[2]++aT cid++aT num++fr
theorem helloL_bytes{cid:Int}{tok fr:List Int}(hc:0<=cid/\cid<=1073741823)(ht:Bytes tok)(hf:Bytes fr)(hl:tok.length<=1000000):Bytes (iA cid tok fr):=
 ((((Bytes.cons (by decide) Bytes.nil).append (ei _ hc.1 hc.2)).append (ei _ (by omega) (by omega))).append ht).append hf
theorem dataL_bytes{cid num:Int}{fr:List Int}(hc:0<=cid/\cid<=1073741823)(hn:0<=num/\num<=1073741823)(hf:Bytes fr):Bytes (jA cid num fr):=
 (((Bytes.cons (by decide) Bytes.nil).append (ei _ hc.1 hc.2)).append (ei _ hn.1 hn.2)).append hf
theorem RdB.lit [LoM] (w:World)(l:List Int)(hb:Bytes l)(h0:0<l.length)(hl:l.length<=1000):RdB (w.alloc (.cells (U8 l).toArray 5)) (.slice (some ⟨w.heap.size,0,none⟩) l.length l.length) l:=by
 refine⟨hb,by omega,_,_,rfl,Nat.le_refl _,by omega,fun h=>(by cases h),fun _=>⟨w.heap.size,0,_,_,_,rfl,heap_alloc_new w _,Or.inl rfl,fun j hj=>?_⟩⟩
 have hj':j<(U8 l).length:=by simpa[U8] using hj
 simp[U8,List.getD,List.getElem?_eq_getElem hj]
theorem khello_any [LoM] (cid:Int)(tok fr:List Int)(tv fv:Value)(w:World)(hc:0<=cid/\cid<=1073741823)(ht:RdB w tv tok)(hf:RdB w fv fr)(h1:tok.length<=1000000)(h2:fr.length<=1000000):
  Calls Tryz.prog 30 #[.int .i64 cid,tv,fv] w fun e w'=>∃v,e=.returned v/\w'.ownsRow w.heap.size 5 1 v (iA cid tok fr).length (U8 (iA cid tok fr))/\Below w.heap.size w w':=by
 have hb0:Below w.heap.size w (w.alloc (.cells #[.int .u8 1] 5)):=ag w _
 have HL:=ae (RdB.lit w [1] (fun x hx=>by rw[List.mem_singleton.1 hx];decide) (by decide) (by decide))
 have HN1:=ae (ik cid (w.alloc (.cells #[.int .u8 1] 5)) hc)
 have HN2:=ae (fun W=>ik (tok.length:Int) W (by omega))
 have HT:=ae ht
 have HF:=ae hf
 have HB0:=ae hb0
 obtain⟨_,_,ta,tc,hte,_⟩:=id ht
 obtain⟨_,_,fa,fc,hfe,_⟩:=id hf
 have HJ:Hid (∀(W:World) (v1 v2:Value) (base1 base2:Nat),Below w.heap.size w W->RdB W (.slice (some ⟨w.heap.size,0,none⟩) 1 1) [1]->W.ownsRow base1 5 1 v1 (aT cid).length (U8 (aT cid))->W.ownsRow base2 5 1 v2 (aT (tok.length:Int)).length (U8 (aT (tok.length:Int)))->
   Calls Tryz.prog 32 #[.slice (some ⟨W.heap.size,0,none⟩) 5 5] (W.alloc (.cells #[.slice (some ⟨w.heap.size,0,none⟩) 1 1,v1,v2,tv,fv] 44)) fun e w'=>∃v,e=.returned v/\w'.ownsRow w.heap.size 5 1 v (iA cid tok fr).length (U8 (iA cid tok fr))/\Below w.heap.size w w'):=by
  intro W v1 v2 base1 base2 hW hA hv1 hv2
  have hb:=ag W (.cells #[.slice (some ⟨w.heap.size,0,none⟩) 1 1,v1,v2,tv,fv] 44)
  have e:eT [(.slice (some ⟨w.heap.size,0,none⟩) 1 1,[1]),(v1,aT cid),(v2,aT (tok.length:Int)),(tv,tok),(fv,fr)]=iA cid tok fr:=by simp[eT,iA]
  have k1:=iq cid
  have k2:=iq (tok.length:Int)
  have h9:=kjoined_any [(.slice (some ⟨w.heap.size,0,none⟩) 1 1,[1]),(v1,aT cid),(v2,aT (tok.length:Int)),(tv,tok),(fv,fr)] W.heap.size 5 (W.alloc (.cells #[.slice (some ⟨w.heap.size,0,none⟩) 1 1,v1,v2,tv,fv] 44)) (fun j p hj=>?_) (fun p hp=>?_) (by simp) (by rw[e];simp only[iA,List.length_append,List.length_cons,List.length_nil];omega)
  ·rw[e]at h9
   refine h9.mono ?_
   rintro e' w' ⟨v,rfl,ho,hbl⟩
   exact⟨v,rfl,bY ho (Nat.le_trans hW.size hb.size),ai (ai hW hb) hbl⟩
  ·match j with
   |0=>simp only[List.getElem?_cons_zero,Option.some.injEq]at hj;subst hj;simp
   |1=>simp only[List.getElem?_cons_succ,List.getElem?_cons_zero,Option.some.injEq]at hj;subst hj;simp
   |2=>simp only[List.getElem?_cons_succ,List.getElem?_cons_zero,Option.some.injEq]at hj;subst hj;simp
   |3=>simp only[List.getElem?_cons_succ,List.getElem?_cons_zero,Option.some.injEq]at hj;subst hj;simp
   |4=>simp only[List.getElem?_cons_succ,List.getElem?_cons_zero,Option.some.injEq]at hj;subst hj;simp
   |j+5=>simp at hj
  ·simp only[List.mem_cons,List.not_mem_nil,or_false]at hp
   rcases hp with rfl|rfl|rfl|rfl|rfl
   ·exact hA.below hb
   ·exact(RdB.of_own hv1 (ei _ hc.1 hc.2) (by omega)).below hb
   ·exact(RdB.of_own hv2 (ei _ (by omega) (by omega)) (by omega)).below hb
   ·exact(HT.out.below hW).below hb
   ·exact(HF.out.below hW).below hb
 subst hte hfe
 clear ht hf hb0
 go_enter Tryz.func30,Tryz.ntmps30
 go_wp2_with fail
 refine HN1.out.mono ?_
 rintro e w1 ⟨v1,rfl,ho1,hb1⟩
 obtain⟨a1,c1,rfl⟩:=be ho1
 have HO1:=ae ho1
 have HB1:=ae hb1
 clear ho1 hb1 HN1
 go_wp2_with fail
 refine(HN2.out w1).mono ?_
 rintro e w2 ⟨v2,rfl,ho2,hb2⟩
 obtain⟨a2,c2,rfl⟩:=be ho2
 have HJ2:=ae (HJ.out w2 _ _ _ _ (ai (ai HB0.out HB1.out) hb2) ((HL.out.below HB1.out).below hb2) (aP HO1.out hb2) ho2)
 clear ho2 hb2 HN2 HJ
 go_wp2_with fail
 refine HJ2.out.mono ?_
 rintro e w3 ⟨v3,rfl,ho3,hb3⟩
 obtain⟨a3,c3,rfl⟩:=be ho3
 have HO3:=ae (And.intro ho3 hb3)
 clear ho3 hb3 HJ2
 go_wp2_with fail
 go_ret
 exact⟨_,rfl,HO3.out.1,HO3.out.2⟩
theorem kdata_any [LoM] (cid num:Int)(fr:List Int)(fv:Value)(w:World)(hc:0<=cid/\cid<=1073741823)(hn:0<=num/\num<=1073741823)(hf:RdB w fv fr)(h2:fr.length<=1000000):
  Calls Tryz.prog 22 #[.int .i64 cid,.int .i64 num,fv] w fun e w'=>∃v,e=.returned v/\w'.ownsRow w.heap.size 5 1 v (jA cid num fr).length (U8 (jA cid num fr))/\Below w.heap.size w w':=by
 have hb0:Below w.heap.size w (w.alloc (.cells #[.int .u8 2] 5)):=ag w _
 have HL:=ae (RdB.lit w [2] (fun x hx=>by rw[List.mem_singleton.1 hx];decide) (by decide) (by decide))
 have HN1:=ae (ik cid (w.alloc (.cells #[.int .u8 2] 5)) hc)
 have HN2:=ae (fun W=>ik num W hn)
 have HF:=ae hf
 have HB0:=ae hb0
 obtain⟨_,_,fa,fc,hfe,_⟩:=id hf
 have HJ:Hid (∀(W:World) (v1 v2:Value) (base1 base2:Nat),Below w.heap.size w W->RdB W (.slice (some ⟨w.heap.size,0,none⟩) 1 1) [2]->W.ownsRow base1 5 1 v1 (aT cid).length (U8 (aT cid))->W.ownsRow base2 5 1 v2 (aT num).length (U8 (aT num))->
   Calls Tryz.prog 32 #[.slice (some ⟨W.heap.size,0,none⟩) 4 4] (W.alloc (.cells #[.slice (some ⟨w.heap.size,0,none⟩) 1 1,v1,v2,fv] 44)) fun e w'=>∃v,e=.returned v/\w'.ownsRow w.heap.size 5 1 v (jA cid num fr).length (U8 (jA cid num fr))/\Below w.heap.size w w'):=by
  intro W v1 v2 base1 base2 hW hA hv1 hv2
  have hb:=ag W (.cells #[.slice (some ⟨w.heap.size,0,none⟩) 1 1,v1,v2,fv] 44)
  have e:eT [(.slice (some ⟨w.heap.size,0,none⟩) 1 1,[2]),(v1,aT cid),(v2,aT num),(fv,fr)]=jA cid num fr:=by simp[eT,jA]
  have k1:=iq cid
  have k2:=iq num
  have h9:=kjoined_any [(.slice (some ⟨w.heap.size,0,none⟩) 1 1,[2]),(v1,aT cid),(v2,aT num),(fv,fr)] W.heap.size 4 (W.alloc (.cells #[.slice (some ⟨w.heap.size,0,none⟩) 1 1,v1,v2,fv] 44)) (fun j p hj=>?_) (fun p hp=>?_) (by simp) (by rw[e];simp only[jA,List.length_append,List.length_cons,List.length_nil];omega)
  ·rw[e]at h9
   refine h9.mono ?_
   rintro e' w' ⟨v,rfl,ho,hbl⟩
   exact⟨v,rfl,bY ho (Nat.le_trans hW.size hb.size),ai (ai hW hb) hbl⟩
  ·match j with
   |0=>simp only[List.getElem?_cons_zero,Option.some.injEq]at hj;subst hj;simp
   |1=>simp only[List.getElem?_cons_succ,List.getElem?_cons_zero,Option.some.injEq]at hj;subst hj;simp
   |2=>simp only[List.getElem?_cons_succ,List.getElem?_cons_zero,Option.some.injEq]at hj;subst hj;simp
   |3=>simp only[List.getElem?_cons_succ,List.getElem?_cons_zero,Option.some.injEq]at hj;subst hj;simp
   |j+4=>simp at hj
  ·simp only[List.mem_cons,List.not_mem_nil,or_false]at hp
   rcases hp with rfl|rfl|rfl|rfl
   ·exact hA.below hb
   ·exact(RdB.of_own hv1 (ei _ hc.1 hc.2) (by omega)).below hb
   ·exact(RdB.of_own hv2 (ei _ hn.1 hn.2) (by omega)).below hb
   ·exact(HF.out.below hW).below hb
 subst hfe
 clear hf hb0
 go_enter Tryz.func22,Tryz.ntmps22
 go_wp2_with fail
 refine HN1.out.mono ?_
 rintro e w1 ⟨v1,rfl,ho1,hb1⟩
 obtain⟨a1,c1,rfl⟩:=be ho1
 have HO1:=ae ho1
 have HB1:=ae hb1
 clear ho1 hb1 HN1
 go_wp2_with fail
 refine(HN2.out w1).mono ?_
 rintro e w2 ⟨v2,rfl,ho2,hb2⟩
 obtain⟨a2,c2,rfl⟩:=be ho2
 have HJ2:=ae (HJ.out w2 _ _ _ _ (ai (ai HB0.out HB1.out) hb2) ((HL.out.below HB1.out).below hb2) (aP HO1.out hb2) ho2)
 clear ho2 hb2 HN2 HJ
 go_wp2_with fail
 refine HJ2.out.mono ?_
 rintro e w3 ⟨v3,rfl,ho3,hb3⟩
 obtain⟨a3,c3,rfl⟩:=be ho3
 have HO3:=ae (And.intro ho3 hb3)
 clear ho3 hb3 HJ2
 go_wp2_with fail
 go_ret
 exact⟨_,rfl,HO3.out.1,HO3.out.2⟩
def eQ(e:TypeId):Prop:=e=101\/e=97\/e=137\/e=279\/e=204\/e=259
def SF(w0 w:World)(k:Nat):Prop:=w0.heap.size<=k/\((∃es ck,w.heap[k]? =some (.map es ck))\/∃cur e fr,w.heap[k]? =some (.cells cur e fr)/\eQ e)
theorem SF.not{w0 w:World}{k:Nat}{cur:Array Value}{e:TypeId}{fr:Nat×Nat}(hk:w.heap[k]? =some (.cells cur e fr))(he:¬eQ e):¬SF w0 w k:=by
 rintro⟨_,⟨es,ck,h⟩|⟨cur',e',fr',h,h2⟩⟩
 ·rw[hk]at h
  cases h
 ·rw[hk]at h
  simp only[Option.some.injEq,Obj.cells.injEq]at h
  exact he (by rw[h.2.1];exact h2)
theorem ConF_SF{N:Nat}{w:World}{cb:Nat}{g:Cfg}{c:aq}{a:aD}(h:ConAt N w cb g c a){k:Nat}(hk:aU cb a k):(∃es ck,w.heap[k]? =some (.map es ck))\/∃cur e fr,w.heap[k]? =some (.cells cur e fr)/\eQ e:=by
 rcases hk with e|e|e|e|⟨p,hp,e⟩
 ·subst e
  exact Or.inr ⟨_,_,_,h.blk,by simp[eQ]⟩
 ·obtain⟨vs,hvs⟩:=h.pk
  obtain⟨c1,e1⟩:=aJ hvs.own e
  exact Or.inr ⟨_,_,_,e1,by simp[eQ]⟩
 ·obtain⟨n,_,hm⟩:=h.smap
  obtain⟨es,ck,e1⟩:=hm.is_map
  exact Or.inl ⟨es,ck,by rw[e];exact e1⟩
 ·obtain⟨n,_,hm⟩:=h.dmap
  obtain⟨es,ck,e1⟩:=hm.is_map
  exact Or.inl ⟨es,ck,by rw[e];exact e1⟩
 ·obtain⟨_,x,hx,_⟩:=h.mp.str p hp
  have hs:=h.str p hp x hx
  rcases e with e|e
  ·exact Or.inr ⟨_,_,_,by rw[e];exact hs.blk,by simp[eQ]⟩
  ·obtain⟨vs,ho⟩:=hs.own
   obtain⟨c1,e1⟩:=aJ ho e
   exact Or.inr ⟨_,_,_,e1,by simp[eQ]⟩
theorem SrvF_SF{N:Nat}{w:World}{sb:Nat}{s:ay}{cm:Nat}{wv:Value}{cbs:List Nat}{xs:List aD}{ws:List Nat}(h:PSrv N w sb s cm wv cbs xs ws){k:Nat}(hk:cA sb cm wv cbs xs k):(∃es ck,w.heap[k]? =some (.map es ck))\/∃cur e fr,w.heap[k]? =some (.cells cur e fr)/\eQ e:=by
 rcases hk with e|e|e|⟨i,cb,a,h1,h2,e⟩
 ·subst e
  exact Or.inr ⟨_,_,_,h.blk,by simp[eQ]⟩
 ·obtain⟨n,_,hm⟩:=h.map
  obtain⟨es,ck,e1⟩:=hm.is_map
  exact Or.inl ⟨es,ck,by rw[e];exact e1⟩
 ·obtain⟨c1,e1⟩:=aJ h.row e
  exact Or.inr ⟨_,_,_,e1,by simp[eQ]⟩
 ·have hi:i<s.conns.length:=by
   rw[<-h.len1]
   exact(List.getElem?_eq_some_iff.1 h1).1
  exact ConF_SF (h.con i _ cb a (List.getElem?_eq_getElem hi) h1 h2) e
structure Live(w0:World)(N:Nat)(M L:Int)(w:World)(sb:Nat)(s:ay):Prop where
 bel:Below w0.heap.size w0 w
 srv:∃cm wv cbs xs ws,PSrv N w sb s cm wv cbs xs ws/\∀k,cA sb cm wv cbs xs k->w0.heap.size<=k
 inv:SrvInv M L s
theorem Live.below{w0:World}{N:Nat}{M L:Int}{w w':World}{sb:Nat}{s:ay}(h:Live w0 N M L w sb s)(hb:Below w.heap.size w w'):Live w0 N M L w' sb s:=by
 obtain⟨cm,wv,cbs,xs,ws,hP,hF⟩:=h.srv
 exact⟨ai h.bel hb,⟨cm,wv,cbs,xs,ws,hP.below hb,hF⟩,h.inv⟩
theorem Live.mono{w0:World}{N N':Nat}{M M' L L':Int}{w:World}{sb:Nat}{s:ay}(h:Live w0 N M L w sb s)(hN:N<=N')(hM:M<=M')(hL:L<=L'):Live w0 N' M' L' w sb s:=by
 obtain⟨cm,wv,cbs,xs,ws,hP,hF⟩:=h.srv
 exact⟨h.bel,⟨cm,wv,cbs,xs,ws,hP.mono hN,hF⟩,h.inv.mono hM hL⟩
theorem Live.other{F:Nat->Prop}{T:TypeId}(hT:¬eQ T/\T≠5){w0:World}{N:Nat}{M L:Int}{w w':World}{sb:Nat}{s:ay}(h:Live w0 N M L w sb s)(hc:Chg F w w')(hF:∀k,F k->w0.heap.size<=k/\∃cur fr,w.heap[k]? =some (.cells cur T fr)):Live w0 N M L w' sb s:=by
 obtain⟨cm,wv,cbs,xs,ws,hP,hG⟩:=h.srv
 unfold eQ at hT
 refine⟨⟨hc.os.trans h.bel.os,hc.tape.trans h.bel.tape,hc.output.trans h.bel.output,Nat.le_trans h.bel.size hc.size,fun k hk=>?_⟩,⟨cm,wv,cbs,xs,ws,hP.otherT (T:=T) (by simp only[not_or]at hT;exact⟨hT.1.1,hT.1.2.1,hT.1.2.2.1,hT.1.2.2.2.1,hT.1.2.2.2.2.1,hT.1.2.2.2.2.2,hT.2⟩) hc (fun k hk=>(hF k hk).2),hG⟩,h.inv⟩
 rw[hc.block k (Nat.lt_of_lt_of_le hk h.bel.size) (fun e=>by have:=(hF k e).1;omega),h.bel.block k hk]
theorem j7{w0:World}{N:Nat}{w w':World}{sb:Nat}{s:ay}{cm:Nat}{wv:Value}{cbs:List Nat}{xs:List aD}{ws:List Nat}(hb:Below w0.heap.size w0 w)(h:PSrv N w sb s cm wv cbs xs ws)(hF:∀k,cA sb cm wv cbs xs k->w0.heap.size<=k)(hc:Chg (cA sb cm wv cbs xs) w w'):Chg (SF w0 w) w w'/\Below w0.heap.size w0 w':=by
 refine⟨hc.mono fun k _ e=>⟨hF k e,SrvF_SF h e⟩,⟨hc.os.trans hb.os,hc.tape.trans hb.tape,hc.output.trans hb.output,Nat.le_trans hb.size hc.size,fun k hk=>?_⟩⟩
 rw[hc.block k (Nat.lt_of_lt_of_le hk hb.size) (fun e=>by have:=hF k e;omega),hb.block k hk]
theorem Live.receive [LoM] {w0:World}{N:Nat}{M L:Int}{w:World}{sb:Nat}{s:ay}(h:Live w0 N M L w sb s)(hE:Env w0)(addr:Int){b:List Int}{bv:Value}(hbv:RdB w bv b)(hl:b.length<=1073741823)(hM0:0<=M)(hM:M+b.length+100<=1125899906842624)(hN:N+1+b.length<1125899906842624):
  Calls Tryz.prog 20 #[.pointer (some ⟨sb,0,none⟩),.int .i64 addr,bv] w fun e w'=>(∃v,e=.returned v/\OutsAt w' w.heap.size v (bt s addr b).2)/\Live w0 (N+1+b.length) (M+b.length+100) (L+2) w' sb (bt s addr b).1/\Chg (SF w0 w) w w':=by
 obtain⟨cm,wv,cbs,xs,ws,hP,hF⟩:=h.srv
 refine(sReceive_any N sb s cm wv cbs xs ws addr b bv w hP h.inv hbv hl hM0 hM hN (fun W hW=>hE.below (j7 h.bel hP hF hW).2)).mono ?_
 intro e w' ho
 obtain⟨q1,q2⟩:=j7 h.bel hP hF ho.chg
 obtain⟨v,wv',cbs',xs',ws',rfl,hO,hP',hin,_⟩:=ho.ex
 have hs:=h.bel.size
 refine⟨⟨v,rfl,hO.at⟩,⟨q2,⟨cm,wv',cbs',xs',ws',hP',fun k hk=>?_⟩,receive_inv h.inv hM0 hbv.1⟩,q1⟩
 rcases hin k hk with e|e
 ·exact hF k e
 ·omega
theorem Live.read{w0:World}{N:Nat}{M L:Int}{w:World}{sb:Nat}{s:ay}(h:Live w0 N M L w sb s)(cid id most:Int)(hM:M<=1125899906842000)(hN:N+2<1125899906842624)(hc:-9223372036854775808<=cid/\cid<=9223372036854775807)(hm:-9223372036854775808<=most/\most<=9223372036854775807):
  Calls Tryz.prog 17 #[.pointer (some ⟨sb,0,none⟩),.int .i64 cid,.int .i64 id,.int .i64 most] w fun e w'=>(∃tv v,e=.returned (.tuple #[.agg #[tv,.bool (cI s cid id most).2.1.fin,.bool (cI s cid id most).2.1.rst],v,.int .i64 (cI s cid id most).1])/\w'.ownsRow w.heap.size 5 1 tv (cI s cid id most).2.1.bytes.length (U8 (cI s cid id most).2.1.bytes)/\OutsAt w' w.heap.size v (cI s cid id most).2.2.2)/\Live w0 (N+2) (M+60) L w' sb (cI s cid id most).2.2.1/\Chg (SF w0 w) w w':=by
 obtain⟨cm,wv,cbs,xs,ws,hP,hF⟩:=h.srv
 refine(sRead_any N sb s cm wv cbs xs ws cid id most w hP h.inv hM hN hc hm).mono ?_
 intro e w' ho
 obtain⟨q1,q2⟩:=j7 h.bel hP hF ho.chg
 obtain⟨tv,v,xs',ws',rfl,_,hby,hO,_,hP',hin,_⟩:=ho.ex
 have hs:=h.bel.size
 refine⟨⟨tv,v,rfl,hby,hO.at⟩,⟨q2,⟨cm,wv,cbs,xs',ws',hP',fun k hk=>?_⟩,read_inv h.inv⟩,q1⟩
 rcases hin k hk with e|e
 ·exact hF k e
 ·omega
theorem Live.accept{w0:World}{N:Nat}{M L:Int}{w:World}{sb:Nat}{s:ay}(h:Live w0 N M L w sb s):
  Calls Tryz.prog 21 #[.pointer (some ⟨sb,0,none⟩)] w fun e w'=>e=.returned (.tuple #[.int .i64 (bg s).1,.int .i64 (bg s).2.1])/\Live w0 N M L w' sb (bg s).2.2/\Chg (SF w0 w) w w':=by
 obtain⟨cm,wv,cbs,xs,ws,hP,hF⟩:=h.srv
 refine(sAccept_any N sb s cm wv cbs xs ws w hP h.inv).mono ?_
 intro e w' ho
 obtain⟨q1,q2⟩:=j7 h.bel hP hF ho.chg
 obtain⟨wv',cbs',xs',ws',hP',hin,_⟩:=ho.ex
 have hs:=h.bel.size
 refine⟨ho.ret,⟨q2,⟨cm,wv',cbs',xs',ws',hP',fun k hk=>?_⟩,accept_inv h.inv⟩,q1⟩
 rcases hin k hk with e|e
 ·exact hF k e
 ·omega
theorem Live.clock{w0:World}{N:Nat}{M L:Int}{w:World}{sb:Nat}{s:ay}(h:Live w0 N M L w sb s)(now:Int)(h1:s.now<=now)(h2:now<=1000000000):
  Calls Tryz.prog 27 #[.pointer (some ⟨sb,0,none⟩),.int .i64 now] w fun e w'=>e=.returned (.int .i64 0)/\Live w0 N M L w' sb (jM s now)/\Chg (SF w0 w) w w':=by
 obtain⟨cm,wv,cbs,xs,ws,hP,hF⟩:=h.srv
 refine(sClock_any N sb s cm wv cbs xs ws now w hP h.inv h1 h2).mono ?_
 intro e w' ho
 obtain⟨q1,q2⟩:=j7 h.bel hP hF ho.chg
 obtain⟨wv',cbs',xs',ws',hP',hin,_⟩:=ho.ex
 have hs:=h.bel.size
 have hn:=h.inv.now
 refine⟨ho.ret,⟨q2,⟨cm,wv',cbs',xs',ws',hP',fun k hk=>?_⟩,clock_inv h.inv (by omega)⟩,q1⟩
 rcases hin k hk with e|e
 ·exact hF k e
 ·omega
theorem Live.look{w0:World}{N:Nat}{M L:Int}{w:World}{sb:Nat}{s:ay}(h:Live w0 N M L w sb s)(cid:Int)(hc:-9223372036854775808<=cid/\cid<=9223372036854775807):
  Calls Tryz.prog 16 #[.pointer (some ⟨sb,0,none⟩),.int .i64 cid] w fun e w'=>e=.returned (.tuple #[.agg (lookS s cid).1,.int .i64 (lookS s cid).2])/\Below w.heap.size w w':=by
 obtain⟨cm,wv,cbs,xs,ws,hP,hF⟩:=h.srv
 exact sLook_any N sb s cm wv cbs xs ws cid w hP h.inv hc
theorem Live.memory{w0:World}{N:Nat}{M L:Int}{w:World}{sb:Nat}{s:ay}(h:Live w0 N M L w sb s):
  Calls Tryz.prog 28 #[.pointer (some ⟨sb,0,none⟩)] w fun e w'=>e=.returned (.int .i64 (iB s))/\Below w.heap.size w w':=by
 obtain⟨cm,wv,cbs,xs,ws,hP,hF⟩:=h.srv
 obtain⟨n,_,hm⟩:=hP.map
 have k1:=h.inv.cfg.c1
 have k3:=h.inv.cfg.c3
 have k0:=h.inv.cfg.c0
 have hf:=h.inv.few
 have hl:((s.conns.map (·.cid)).zip cbs).length=s.conns.length:=by simp[hP.len1]
 refine(kh sb s.c s.now cm wv n _ w hP.blk hm (by omega) (by omega) (by omega)).mono ?_
 rintro e w' ⟨rfl,q,rfl⟩
 rw[hl]
 exact⟨rfl,aj (Below.refl _ _) q⟩
theorem right_cfgOk{g:Cfg}(h:g.right=true):cO g:=by
 unfold Cfg.right fh rightA rightC dw at h
 simp only[Bool.and_eq_true,decide_eq_true_eq]at h
 obtain⟨⟨h0,h1,h2,h3⟩,⟨h4,h5,h6,h7⟩,h8,h9⟩:=h
 exact⟨by omega,by omega,by omega,by omega,by omega,by omega,by omega,by omega,by omega,by omega⟩
theorem live_new(w0:World)(g:Cfg)(hg:g.right=true)(w:World)(hb:Below w0.heap.size w0 w):
  Calls Tryz.prog 26 #[.agg #[.int .i64 g.c0,.int .i64 g.c1,.int .i64 g.c2,.int .i64 g.c3,.int .i64 g.c4,.int .i64 g.c5,.int .i64 g.c6,.int .i64 g.c7,.int .i64 g.c8,.int .i64 g.c9]] w fun e w'=>(∃sb,e=.returned (.tuple #[.pointer (some ⟨sb,0,none⟩),.int .i64 0])/\Live w0 0 0 0 w' sb (dk g))/\Below w.heap.size w w':=by
 refine(sNew_any g w).mono ?_
 intro e w' ho
 unfold SNewOut at ho
 rw[if_pos hg]at ho
 obtain⟨sb,cm,rfl,hP,h1,h2,hbl⟩:=ho
 have hs:=hb.size
 refine⟨⟨sb,rfl,⟨ai hb hbl,⟨cm,_,[],[],[],hP,fun k hk=>?_⟩,new_inv (right_cfgOk hg)⟩⟩,hbl⟩
 rcases hk with e|e|e|⟨i,cb,a,e,_⟩
 ·omega
 ·omega
 ·simp[Value.ownBlock]at e
 ·simp at e
theorem chg_setc(w:World)(g i:Nat)(u:Value):Chg (· = g) w (w.setCell ⟨g,i,none⟩ u):=aF (Below.refl _ w) i u
section
variable {P : Program}
end
end Go.Proofs.YthmdjhlhodpbhaaGreatDoor
namespace Go.Proofs.YthmdjhlhodpbhaaGreatDoor
def keepC(raw:Cfg):Cfg:={cfgN raw with c8:=100000}
theorem keepC_ok(raw:Cfg):cO (keepC raw):=by
 have r0:=aY raw.c0 (n:=8) (by decide)
 have r1:=aY raw.c1 (n:=60) (by decide)
 have r2:=aY raw.c2 (n:=8+br raw.c1 60-8+1) (by omega)
 have r3:=aY raw.c3 (n:=8) (by decide)
 have r4:=aY raw.c4 (n:=8) (by decide)
 have r5:=aY raw.c5 (n:=9) (by decide)
 have r6:=aY raw.c6 (n:=1000) (by decide)
 have r7:=aY raw.c7 (n:=1000) (by decide)
 have r9:=aY raw.c9 (n:=4294967296) (by decide)
 unfold keepC cfgN
 refine⟨?_,?_,?_,?_,?_,?_,?_,?_,?_,?_⟩<;>simp only<;>omega
end Go.Proofs.YthmdjhlhodpbhaaGreatDoor
