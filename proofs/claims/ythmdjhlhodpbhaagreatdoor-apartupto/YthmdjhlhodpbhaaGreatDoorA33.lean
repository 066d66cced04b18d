/- Apart, 33 -/
import Derived.Test.YthmdjhlhodpbhaaGreatDoorA03
import Derived.Test.YthmdjhlhodpbhaaGreatDoorA07
import Derived.Test.YthmdjhlhodpbhaaGreatDoorA23
import Derived.Test.YthmdjhlhodpbhaaGreatDoorA28
import Derived.Test.YthmdjhlhodpbhaaGreatDoorA29
import Derived.Test.YthmdjhlhodpbhaaGreatDoorA32
set_option maxHeartbeats 16000000
set_option maxRecDepth 8000
namespace Go.Proofs.YthmdjhlhodpbhaaGreatDoor
open Go.RowKit
theorem PSrv.otherT{F:Nat->Prop}{T:TypeId}(hT:T≠101/\T≠97/\T≠137/\T≠279/\T≠204/\T≠259/\T≠5){N:Nat}{w w':World}{sb:Nat}{s:ay}{cm:Nat}{wv:Value}{cbs:List Nat}{xs:List aJ}{ws:List Nat}(h:PSrv N w sb s cm wv cbs xs ws)(hc:Chg F w w')(hF:∀k,F k->∃cur fr,w.heap[k]? =some (.cells cur T fr)):PSrv N w' sb s cm wv cbs xs ws:=by
 obtain⟨n,hn,hm⟩:=h.map
 obtain⟨t1,t2,t3,t4,t5,t6,t7⟩:=hT
 refine⟨h.blk.chg hc (fun hf=>?_),⟨n,hn,hm.same (hc.block cm hm.lt (fun hf=>?_))⟩,h.len1,h.len2,fun i c cb a h1 h2 h3=>?_,bX h.row hc (fun k hk hf=>?_),h.wait,h.apart,h.mne⟩
 ·obtain⟨cur,fr,e⟩:=hF _ hf
  have h3:w.heap[sb]? =some (.cells (jE s.c s.now cm wv) 101 (0,0)):=h.blk
  rw[h3]at e
  simp only[Option.some.injEq,Obj.cells.injEq]at e
  exact t1 e.2.1.symm
 ·obtain⟨cur,fr,e⟩:=hF _ hf
  obtain⟨es,ck,hb⟩:=hm.is_map
  rw[hb]at e
  cases e
 ·have hC:=h.con i c cb a h1 h2 h3
  refine hC.chg hc (fun k hk hf=>?_) (fun k cur fr hk hf=>?_)
  ·obtain⟨cur,fr,e⟩:=hF _ hf
   exact cF hC e t3 t4 t5 t6 hk
  ·obtain⟨cur',fr',e⟩:=hF _ hf
   rw[hk]at e
   simp only[Option.some.injEq,Obj.cells.injEq]at e
   exact t7 e.2.1.symm
 ·obtain⟨cur,fr,e⟩:=hF _ hf
  exact ax h.row e (fun e=>t2 e.symm) hk
structure oX(N:Nat)(w:World)(sb cm:Nat)(wv:Value)(cbs:List Nat)(xs:List aJ)(r:Int×ir×ay×List (Int×List Int))(e:Ending)(w':World):Prop where
 ex:∃tv v xs' ws',e=.returned (.tuple #[.agg #[tv,.bool r.2.1.fin,.bool r.2.1.rst],v,.int .i64 r.1])/\(∃ao l c,v=.slice ao l c)/\w'.ownsRow w.heap.size 5 1 tv r.2.1.bytes.length (U8 r.2.1.bytes)/\OutsU (fun k=>gR xs' k\/tv.ownBlock=some k) w' w.heap.size v r.2.2.2/\(∀k,tv.ownBlock=some k->¬gR xs' k)/\PSrv (N+2) w' sb r.2.2.1 cm wv cbs xs' ws'/\(∀k,cj sb cm wv cbs xs' k->cj sb cm wv cbs xs k\/w.heap.size<=k)/\∀k,gR xs' k->gR xs k\/w.heap.size<=k
 chg:Chg (cj sb cm wv cbs xs) w w'
theorem read_ok{s:ay}{cid id most:Int}{k:Nat}{c:aw}{x:aR}(hf:ei s.conns cid=some k)(hk:s.conns[k]? =some c)(hp:c.proven=true)(h0:0<=id)(hm:0<=most)(hx:c.streams[id.toNat]? =some x):
  cR s cid id most=(0,(aM x most).1,{s with conns:=s.conns.set k (fD s.c c id.toNat x most).1},(fD s.c c id.toNat x most).2):=by
 have hl:=(lLt hx)
 unfold cR
 rw[hf]
 simp only
 rw[hk]
 simp only
 rw[hp,if_neg (by decide),if_neg (by omega),hx]
theorem sn(N:Nat)(sb:Nat)(s:ay)(cm:Nat)(wv:Value)(cbs:List Nat)(xs:List aJ)(ws:List Nat)(cid id most:Int)(w:World)(h:PSrv N w sb s cm wv cbs xs ws){M L:Int}(hI:SrvInv M L s)(hM:M<=1125899906842000)(hN:N+2<1125899906842624)(hc:-9223372036854775808<=cid/\cid<=9223372036854775807)(hm:-9223372036854775808<=most/\most<=9223372036854775807):
  Calls Tryz.prog 17 #[.pointer (some ⟨sb,0,none⟩),.int .i64 cid,.int .i64 id,.int .i64 most] w fun e w'=>oX N w sb cm wv cbs xs (cR s cid id most) e w':=by
 have hb0:Below w.heap.size w (w.alloc (.cells #[.slice none 0 0,.bool false,.bool false] 46)):=ag w _
 have k11:(w.alloc (.cells #[.slice none 0 0,.bool false,.bool false] 46)).cell? ⟨sb,11,none⟩= some (.map (some cm)):=(h.blk.below hb0).cell 11
 have HX:Hid ((w.alloc (.cells #[.slice none 0 0,.bool false,.bool false] 46)).heap[w.heap.size]? =some (.cells #[.slice none 0 0,.bool false,.bool false] 46 (0,0))):=heap_alloc_new w _
 have HN:Hid (∀(W:World) (q:Int),Below w.heap.size w W->oX N w sb cm wv cbs xs (q,jg,s,[]) (.returned (.tuple #[.agg #[.slice none 0 0,.bool false,.bool false],.slice none 0 0,.int .i64 q])) W):=fun W q hW=>
  ⟨⟨_,_,xs,ws,rfl,⟨_,_,_,rfl⟩,World.ownsRow_nil _ _ _ _,OutsU.none (OutsAt.nil _ _) rfl,fun k hk=>(by simp[Value.ownBlock]at hk),(h.below hW).mono (by omega),fun k hk=>Or.inl hk,fun k hk=>Or.inl hk⟩,Chg.of_below hW⟩
 rcases jw (l:=s.conns) (cid:=cid) with⟨hf,hno⟩|⟨k,c,hf,hk,hkc⟩
 ·have hlk:=(h.below hb0).lookI hc hno
  have hrs:cR s cid id most=(3,jg,s,[]):=by unfold cR;rw[hf]
  rw[hrs]
  have E0:∀W:World,(binOp .eql 97 (.pointer none) (.pointer none)).run Tryz.prog W=.ok (.bool true) W:=fun W=>by kernel_rfl
  have HB0:=ab hb0
  clear h hI hf hno hrs hb0
  go_enter Tryz.func17,Tryz.ntmps17
  go_wp2_with fail
  refine bodyPost_ret (bL (P:=Tryz.prog) Tryz.results17 _ _ w.heap.size 46 #[.slice none 0 0,.bool false,.bool false] (0,0) _ (.slice none 0 0) (.int .i64 3) (by kernel_rfl) (by kernel_rfl) (by kernel_rfl) HX.out Tryz.underlying46 rfl (by kernel_rfl)) rfl ?_
  exact HN.out _ 3 HB0.out
 ·obtain⟨cb,a,hcb,ha,hat⟩:=h.found hI.nd hk
  have hmem:=lMm hk
  have hok:=hI.ok c hmem
  have hcr:=hok.cid
  have hlk:=(h.below hb0).lookS (cid:=c.cid) (by omega) hat
  rw[hkc]at hlk
  have hC:=(h.below hb0).con k c cb a hk hcb ha
  have E0:∀W:World,(binOp .eql 97 (.pointer (some ⟨cb,0,none⟩)) (.pointer none)).run Tryz.prog W=.ok (.bool false) W:=fun W=>by kernel_rfl
  have HPr:=ab (iN cb s.c c a.plv a.sm a.dm _ _ hC.blk)
  have HB0:=ab hb0
  cases hp:c.proven with
  |false=>
   have hrs:cR s cid id most=(3,jg,s,[]):=by unfold cR;rw[hf];simp only;rw[hk];simp only;rw[hp,if_pos rfl]
   rw[hrs]
   rw[hp]at HPr
   clear h hI hf hk hcb ha hat hmem hok hcr hC hrs hb0
   go_enter Tryz.func17,Tryz.ntmps17
   go_wp2_with fail
   refine HPr.out.mono ?_
   rintro e w1 ⟨rfl,rfl⟩
   clear HPr
   go_wp2_with fail
   refine bodyPost_ret (bL (P:=Tryz.prog) Tryz.results17 _ _ w.heap.size 46 #[.slice none 0 0,.bool false,.bool false] (0,0) _ (.slice none 0 0) (.int .i64 3) (by kernel_rfl) (by kernel_rfl) (by kernel_rfl) HX.out Tryz.underlying46 rfl (by kernel_rfl)) rfl ?_
   exact HN.out _ 3 HB0.out
  |true=>
   have HHa:=ab (uw cb s.c c a.plv a.sm a.dm _ id _ hC.blk)
   rw[hp]at HPr
   by_cases hid:0<=id/\id<(c.streams.length:Int)
   ·have hha:(decide (0<=id)&&decide (id<(c.streams.length:Int)))=true:=by simp[hid]
    rw[hha]at HHa
    by_cases hm0:0<=most
    ·obtain⟨x,hx⟩:∃x,c.streams[id.toNat]? =some x:=⟨_,lGe (show id.toNat<c.streams.length by omega)⟩
     rw[read_ok hf hk hp hid.1 hm0 hx]
     have hsl:=hok.slen
     have HRd:=ab (cRead_any N cb s.c c a id most x _ hC (hI.inv c hmem) hI.cfg hok hM hN hx (by omega) (by omega))
     have HEnd:Hid (∀(e:Ending) (W1:World),fZ N (w.alloc (.cells #[.slice none 0 0,.bool false,.bool false] 46)) cb s.c a (aM x most).1 (fD s.c c id.toNat x most) e W1->∃tv v,e=.returned (.tuple #[.agg #[tv,.bool (aM x most).1.fin,.bool (aM x most).1.rst],v])/\(∃ao l c,tv=.slice ao l c)/\(∃ao l c,v=.slice ao l c)/\
       (W1.alloc (.cells #[tv,.bool (aM x most).1.fin,.bool (aM x most).1.rst] 46)).heap[w.heap.size]? =some (.cells #[.slice none 0 0,.bool false,.bool false] 46 (0,0))/\
       ∀W3,Chg (· = w.heap.size) (W1.alloc (.cells #[tv,.bool (aM x most).1.fin,.bool (aM x most).1.rst] 46)) W3->oX N w sb cm wv cbs xs (0,(aM x most).1,{s with conns:=s.conns.set k (fD s.c c id.toNat x most).1},(fD s.c c id.toNat x most).2) (.returned (.tuple #[.agg #[tv,.bool (aM x most).1.fin,.bool (aM x most).1.rst],v,.int .i64 0])) W3):=by
      intro e W1 hR
      obtain⟨tv,v,a',rfl,hvf,hby,hou,hsep,hA,hin,hu⟩:=hR.ex
      obtain⟨ta,tc,htv⟩:=bd hby
      obtain⟨_,_,hS,_⟩:=pQ most (hI.inv c hmem) hok hx hI.cfg
      have hs0:w.heap.size<(w.alloc (.cells #[.slice none 0 0,.bool false,.bool false] 46)).heap.size:=by simp
      have hbx:=(h.below HB0.out)
      have hP1:=hbx.step (N':=N+2) (by omega) hk hcb ha hR.chg hA hin hS.cid hS.waits
      have hb2:Below W1.heap.size W1 (W1.alloc (.cells #[tv,.bool (aM x most).1.fin,.bool (aM x most).1.rst] 46)):=ag W1 _
      have r1:W1.heap[w.heap.size]? =some (.cells #[.slice none 0 0,.bool false,.bool false] 46 (0,0)):=by
       refine(hR.chg.block _ hs0 (cF hC HX.out (by decide) (by decide) (by decide) (by decide))).trans HX.out
      have r2:=(hb2.block _ (aLt r1)).trans r1
      refine⟨tv,v,rfl,⟨_,_,_,htv⟩,hvf,r2,fun W3 hc3=>?_⟩
      have hne:∀q cur t fr,(W1.alloc (.cells #[tv,.bool (aM x most).1.fin,.bool (aM x most).1.rst] 46)).heap[q]? =some (.cells cur t fr)->t≠46->¬q=w.heap.size:=by
       intro q cur t fr hq ht e
       rw[e,r2]at hq
       simp only[Option.some.injEq,Obj.cells.injEq]at hq
       exact ht hq.2.1.symm
      have hUk:∀q,gR (xs.set k a') q->a'.u q\/q<w.heap.size:=by
       rintro q ⟨d,hd,hq⟩
       rcases List.mem_or_eq_of_mem_set hd with hd|rfl
       ·exact Or.inr (sJ h ⟨d,hd,hq⟩)
       ·exact Or.inl hq
      have hF1:=kq (sb:=sb) (cm:=cm) (wv:=wv) hcb ha hin
      have hU1:=kr ha hu
      have hP3:=(hP1.below hb2).otherT (T:=46) (by decide) hc3 (fun q e=>⟨_,_,(congrArg (fun j=>(W1.alloc (.cells #[tv,.bool (aM x most).1.fin,.bool (aM x most).1.rst] 46)).heap[j]?) e).trans r2⟩)
      refine⟨⟨tv,v,_,_,rfl,hvf,?_,?_,fun q hq hU=>?_,hP3,fun q hq=>?_,fun q hq=>?_⟩,?_⟩
      ·exact eI (aF (ch hby (by omega)) hb2) hc3 fun q cur fr hq=>hne _ _ _ _ hq (by decide)
      ·have h1:=(hou.chg (F:=fun _=>False) (Chg.of_below hb2) (fun _ _ _ _ h=>h) (fun _ _ _ _ h=>h)).chg hc3 (fun q cur fr hq=>hne _ _ _ _ hq (by decide)) (fun q cur fr hq=>hne _ _ _ _ hq (by decide))
       obtain⟨out,o1,o2,o3⟩:=h1
       refine⟨out,ch o1 (by omega),o2.mono (by omega),fun i p q hp hq hA=>?_⟩
       rcases hA with hA|hA
       ·rcases hUk q hA with hA|hA
        ·exact o3 i p q hp hq (Or.inl hA)
        ·have:=(o2.ge hp hq).1
         omega
       ·exact o3 i p q hp hq (Or.inr hA)
      ·rcases hUk q hU with hA|hA
       ·exact hsep q hq hA
       ·have:=(hby.lt q hq).1
        omega
      ·rcases hF1 q hq with e|e
       ·exact Or.inl e
       ·exact Or.inr (by omega)
      ·rcases hU1 q hq with e|e
       ·exact Or.inl e
       ·exact Or.inr (by omega)
      ·refine eT (eT (eT (Chg.of_below HB0.out) hR.chg fun q _ e=>fx hcb ha e) (Chg.of_below (F:=fun _=>False) hb2) fun q _ e=>e.elim) hc3 fun q hq e=>?_
       omega
     clear h hI hf hk hcb ha hat hmem hok hcr hC hb0 hsl hx HN
     generalize (aM x most).1=gx at *
     generalize fD s.c c id.toNat x most=rc at *
     go_enter Tryz.func17,Tryz.ntmps17
     go_wp2_with fail
     refine HPr.out.mono ?_
     rintro e w1 ⟨rfl,rfl⟩
     clear HPr
     go_wp2_with fail
     refine HHa.out.mono ?_
     rintro e w1 ⟨rfl,rfl⟩
     clear HHa
     go_wp2_with fail
     refine HRd.out.mono ?_
     intro e w1 hR
     obtain⟨tv,v,rfl,⟨t1,t2,t3,rfl⟩,⟨v1,v2,v3,rfl⟩,hres,hfin⟩:=HEnd.out e w1 hR
     have HFin:=ab hfin
     have HRes:=ab hres
     have f0:(w1.alloc (.cells #[.slice t1 t2 t3,.bool gx.fin,.bool gx.rst] 46)).cell? ⟨w.heap.size,0,none⟩= some (.slice none 0 0):=aj hres 0
     have f1:(w1.alloc (.cells #[.slice t1 t2 t3,.bool gx.fin,.bool gx.rst] 46)).cell? ⟨w.heap.size,1,none⟩= some (.bool false):=aj hres 1
     have f2:(w1.alloc (.cells #[.slice t1 t2 t3,.bool gx.fin,.bool gx.rst] 46)).cell? ⟨w.heap.size,2,none⟩= some (.bool false):=aj hres 2
     have z0:(w1.alloc (.cells #[.slice t1 t2 t3,.bool gx.fin,.bool gx.rst] 46)).frozen? ⟨w.heap.size,0,none⟩= false:=frozen_of_row _ _ 0 _ _ hres
     have z1:(w1.alloc (.cells #[.slice t1 t2 t3,.bool gx.fin,.bool gx.rst] 46)).frozen? ⟨w.heap.size,1,none⟩= false:=frozen_of_row _ _ 1 _ _ hres
     have z2:(w1.alloc (.cells #[.slice t1 t2 t3,.bool gx.fin,.bool gx.rst] 46)).frozen? ⟨w.heap.size,2,none⟩= false:=frozen_of_row _ _ 2 _ _ hres
     clear hR hfin hres HRd HEnd hlk k11 HX
     go_wp2_with fail
     refine bodyPost_ret (bL (P:=Tryz.prog) Tryz.results17 _ _ w.heap.size 46 #[.slice t1 t2 t3,.bool gx.fin,.bool gx.rst] (0,0) _ (.slice v1 v2 v3) (.int .i64 0) (by kernel_rfl) (by kernel_rfl) (by kernel_rfl) (mB _ _ _ HRes.out) Tryz.underlying46 rfl (by kernel_rfl)) rfl ?_
     exact HFin.out _ (mz _ _ _ _ _)
    ·have hrs:cR s cid id most=(2,jg,s,[]):=by unfold cR;rw[hf];simp only;rw[hk];simp only;rw[hp,if_neg (by decide),if_pos (by omega)]
     rw[hrs]
     clear h hI hf hk hcb ha hat hmem hok hcr hC hrs hb0
     go_enter Tryz.func17,Tryz.ntmps17
     go_wp2_with fail
     refine HPr.out.mono ?_
     rintro e w1 ⟨rfl,rfl⟩
     clear HPr
     go_wp2_with fail
     refine HHa.out.mono ?_
     rintro e w1 ⟨rfl,rfl⟩
     clear HHa
     go_wp2_with fail
     refine bodyPost_ret (bL (P:=Tryz.prog) Tryz.results17 _ _ w.heap.size 46 #[.slice none 0 0,.bool false,.bool false] (0,0) _ (.slice none 0 0) (.int .i64 2) (by kernel_rfl) (by kernel_rfl) (by kernel_rfl) HX.out Tryz.underlying46 rfl (by kernel_rfl)) rfl ?_
     exact HN.out _ 2 HB0.out
   ·have hha:(decide (0<=id)&&decide (id<(c.streams.length:Int)))=false:=by
     simp only[Bool.and_eq_false_iff,decide_eq_false_iff_not]
     omega
    rw[hha]at HHa
    have hrs:cR s cid id most=(2,jg,s,[]):=by unfold cR;rw[hf];simp only;rw[hk];simp only;rw[hp,if_neg (by decide),if_pos (by omega)]
    rw[hrs]
    clear h hI hf hk hcb ha hat hmem hok hcr hC hrs hb0
    go_enter Tryz.func17,Tryz.ntmps17
    go_wp2_with fail
    refine HPr.out.mono ?_
    rintro e w1 ⟨rfl,rfl⟩
    clear HPr
    go_wp2_with fail
    refine HHa.out.mono ?_
    rintro e w1 ⟨rfl,rfl⟩
    clear HHa
    go_wp2_with fail
    refine bodyPost_ret (bL (P:=Tryz.prog) Tryz.results17 _ _ w.heap.size 46 #[.slice none 0 0,.bool false,.bool false] (0,0) _ (.slice none 0 0) (.int .i64 2) (by kernel_rfl) (by kernel_rfl) (by kernel_rfl) HX.out Tryz.underlying46 rfl (by kernel_rfl)) rfl ?_
    exact HN.out _ 2 HB0.out
def dA(cid:Int)(tok fr:List Int):List Int:=[1]++az cid++az tok.length++tok++fr
def bK(cid num:Int)(fr:List Int):List Int:=[2]++az cid++az num++fr
theorem mC{cid:Int}{tok fr:List Int}(hc:0<=cid/\cid<=1073741823)(ht:Bytes tok)(hf:Bytes fr)(hl:tok.length<=1000000):Bytes (dA cid tok fr):=
 ((((Bytes.cons (by decide) Bytes.nil).append (bw _ hc.1 hc.2)).append (bw _ (by omega) (by omega))).append ht).append hf
theorem kF{cid num:Int}{fr:List Int}(hc:0<=cid/\cid<=1073741823)(hn:0<=num/\num<=1073741823)(hf:Bytes fr):Bytes (bK cid num fr):=
 (((Bytes.cons (by decide) Bytes.nil).append (bw _ hc.1 hc.2)).append (bw _ hn.1 hn.2)).append hf
theorem RdB.lit [LoM] (w:World)(l:List Int)(hb:Bytes l)(h0:0<l.length)(hl:l.length<=1000):RdB (w.alloc (.cells (U8 l).toArray 5)) (.slice (some ⟨w.heap.size,0,none⟩) l.length l.length) l:=by
 refine⟨hb,by omega,_,_,rfl,Nat.le_refl _,by omega,fun h=>(by cases h),fun _=>⟨w.heap.size,0,_,_,_,rfl,heap_alloc_new w _,Or.inl rfl,fun j hj=>?_⟩⟩
 have hj':j<(U8 l).length:=by simpa[U8] using hj
 simp[U8,List.getD,lGe hj]
theorem pA [LoM] (cid:Int)(tok fr:List Int)(tv fv:Value)(w:World)(hc:0<=cid/\cid<=1073741823)(ht:RdB w tv tok)(hf:RdB w fv fr)(h1:tok.length<=1000000)(h2:fr.length<=1000000):
  Calls Tryz.prog 30 #[.int .i64 cid,tv,fv] w fun e w'=>∃v,e=.returned v/\w'.ownsRow w.heap.size 5 1 v (dA cid tok fr).length (U8 (dA cid tok fr))/\Below w.heap.size w w':=by
 have hb0:Below w.heap.size w (w.alloc (.cells #[.int .u8 1] 5)):=ag w _
 have HL:=ab (RdB.lit w [1] (fun x hx=>by rw[List.mem_singleton.1 hx];decide) (by decide) (by decide))
 have HN1:=ab (dY cid (w.alloc (.cells #[.int .u8 1] 5)) hc)
 have HN2:=ab (fun W=>dY (tok.length:Int) W (by omega))
 have HT:=ab ht
 have HF:=ab hf
 have HB0:=ab hb0
 obtain⟨_,_,ta,tc,hte,_⟩:=id ht
 obtain⟨_,_,fa,fc,hfe,_⟩:=id hf
 have HJ:Hid (∀(W:World) (v1 v2:Value) (base1 base2:Nat),Below w.heap.size w W->RdB W (.slice (some ⟨w.heap.size,0,none⟩) 1 1) [1]->W.ownsRow base1 5 1 v1 (az cid).length (U8 (az cid))->W.ownsRow base2 5 1 v2 (az (tok.length:Int)).length (U8 (az (tok.length:Int)))->
   Calls Tryz.prog 32 #[.slice (some ⟨W.heap.size,0,none⟩) 5 5] (W.alloc (.cells #[.slice (some ⟨w.heap.size,0,none⟩) 1 1,v1,v2,tv,fv] 44)) fun e w'=>∃v,e=.returned v/\w'.ownsRow w.heap.size 5 1 v (dA cid tok fr).length (U8 (dA cid tok fr))/\Below w.heap.size w w'):=by
  intro W v1 v2 base1 base2 hW hA hv1 hv2
  have hb:=ag W (.cells #[.slice (some ⟨w.heap.size,0,none⟩) 1 1,v1,v2,tv,fv] 44)
  have e:ej [(.slice (some ⟨w.heap.size,0,none⟩) 1 1,[1]),(v1,az cid),(v2,az (tok.length:Int)),(tv,tok),(fv,fr)]=dA cid tok fr:=by simp[ej,dA]
  have k1:=aZ cid
  have k2:=aZ (tok.length:Int)
  have h9:=iT [(.slice (some ⟨w.heap.size,0,none⟩) 1 1,[1]),(v1,az cid),(v2,az (tok.length:Int)),(tv,tok),(fv,fr)] W.heap.size 5 (W.alloc (.cells #[.slice (some ⟨w.heap.size,0,none⟩) 1 1,v1,v2,tv,fv] 44)) (fun j p hj=>?_) (fun p hp=>?_) (by simp) (by rw[e];simp only[dA,List.length_append,List.length_cons,List.length_nil];omega)
  ·rw[e]at h9
   refine h9.mono ?_
   rintro e' w' ⟨v,rfl,ho,hbl⟩
   exact⟨v,rfl,ch ho (Nat.le_trans hW.size hb.size),ai (ai hW hb) hbl⟩
  ·match j with
   |0=>simp only[List.getElem?_cons_zero,Option.some.injEq]at hj;subst hj;simp
   |1=>simp only[List.getElem?_cons_succ,List.getElem?_cons_zero,Option.some.injEq]at hj;subst hj;simp
   |2=>simp only[List.getElem?_cons_succ,List.getElem?_cons_zero,Option.some.injEq]at hj;subst hj;simp
   |3=>simp only[List.getElem?_cons_succ,List.getElem?_cons_zero,Option.some.injEq]at hj;subst hj;simp
   |4=>simp only[List.getElem?_cons_succ,List.getElem?_cons_zero,Option.some.injEq]at hj;subst hj;simp
   |j+5=>simp at hj
  ·simp only[List.mem_cons,List.not_mem_nil,or_false]at hp
   rcases hp with rfl|rfl|rfl|rfl|rfl
   ·exact hA.below hb
   ·exact(RdB.of_own hv1 (bw _ hc.1 hc.2) (by omega)).below hb
   ·exact(RdB.of_own hv2 (bw _ (by omega) (by omega)) (by omega)).below hb
   ·exact(HT.out.below hW).below hb
   ·exact(HF.out.below hW).below hb
 subst hte hfe
 clear ht hf hb0
 go_enter Tryz.func30,Tryz.ntmps30
 go_wp2_with fail
 refine HN1.out.mono ?_
 rintro e w1 ⟨v1,rfl,ho1,hb1⟩
 obtain⟨a1,c1,rfl⟩:=aH ho1
 have HO1:=ab ho1
 have HB1:=ab hb1
 clear ho1 hb1 HN1
 go_wp2_with fail
 refine(HN2.out w1).mono ?_
 rintro e w2 ⟨v2,rfl,ho2,hb2⟩
 obtain⟨a2,c2,rfl⟩:=aH ho2
 have HJ2:=ab (HJ.out w2 _ _ _ _ (ai (ai HB0.out HB1.out) hb2) ((HL.out.below HB1.out).below hb2) (aF HO1.out hb2) ho2)
 clear ho2 hb2 HN2 HJ
 go_wp2_with fail
 refine HJ2.out.mono ?_
 rintro e w3 ⟨v3,rfl,ho3,hb3⟩
 obtain⟨a3,c3,rfl⟩:=aH ho3
 have HO3:=ab (And.intro ho3 hb3)
 clear ho3 hb3 HJ2
 go_wp2_with fail
 go_ret
 exact⟨_,rfl,HO3.out.1,HO3.out.2⟩
theorem nC [LoM] (cid num:Int)(fr:List Int)(fv:Value)(w:World)(hc:0<=cid/\cid<=1073741823)(hn:0<=num/\num<=1073741823)(hf:RdB w fv fr)(h2:fr.length<=1000000):
  Calls Tryz.prog 22 #[.int .i64 cid,.int .i64 num,fv] w fun e w'=>∃v,e=.returned v/\w'.ownsRow w.heap.size 5 1 v (bK cid num fr).length (U8 (bK cid num fr))/\Below w.heap.size w w':=by
 have hb0:Below w.heap.size w (w.alloc (.cells #[.int .u8 2] 5)):=ag w _
 have HL:=ab (RdB.lit w [2] (fun x hx=>by rw[List.mem_singleton.1 hx];decide) (by decide) (by decide))
 have HN1:=ab (dY cid (w.alloc (.cells #[.int .u8 2] 5)) hc)
 have HN2:=ab (fun W=>dY num W hn)
 have HF:=ab hf
 have HB0:=ab hb0
 obtain⟨_,_,fa,fc,hfe,_⟩:=id hf
 have HJ:Hid (∀(W:World) (v1 v2:Value) (base1 base2:Nat),Below w.heap.size w W->RdB W (.slice (some ⟨w.heap.size,0,none⟩) 1 1) [2]->W.ownsRow base1 5 1 v1 (az cid).length (U8 (az cid))->W.ownsRow base2 5 1 v2 (az num).length (U8 (az num))->
   Calls Tryz.prog 32 #[.slice (some ⟨W.heap.size,0,none⟩) 4 4] (W.alloc (.cells #[.slice (some ⟨w.heap.size,0,none⟩) 1 1,v1,v2,fv] 44)) fun e w'=>∃v,e=.returned v/\w'.ownsRow w.heap.size 5 1 v (bK cid num fr).length (U8 (bK cid num fr))/\Below w.heap.size w w'):=by
  intro W v1 v2 base1 base2 hW hA hv1 hv2
  have hb:=ag W (.cells #[.slice (some ⟨w.heap.size,0,none⟩) 1 1,v1,v2,fv] 44)
  have e:ej [(.slice (some ⟨w.heap.size,0,none⟩) 1 1,[2]),(v1,az cid),(v2,az num),(fv,fr)]=bK cid num fr:=by simp[ej,bK]
  have k1:=aZ cid
  have k2:=aZ num
  have h9:=iT [(.slice (some ⟨w.heap.size,0,none⟩) 1 1,[2]),(v1,az cid),(v2,az num),(fv,fr)] W.heap.size 4 (W.alloc (.cells #[.slice (some ⟨w.heap.size,0,none⟩) 1 1,v1,v2,fv] 44)) (fun j p hj=>?_) (fun p hp=>?_) (by simp) (by rw[e];simp only[bK,List.length_append,List.length_cons,List.length_nil];omega)
  ·rw[e]at h9
   refine h9.mono ?_
   rintro e' w' ⟨v,rfl,ho,hbl⟩
   exact⟨v,rfl,ch ho (Nat.le_trans hW.size hb.size),ai (ai hW hb) hbl⟩
  ·match j with
   |0=>simp only[List.getElem?_cons_zero,Option.some.injEq]at hj;subst hj;simp
   |1=>simp only[List.getElem?_cons_succ,List.getElem?_cons_zero,Option.some.injEq]at hj;subst hj;simp
   |2=>simp only[List.getElem?_cons_succ,List.getElem?_cons_zero,Option.some.injEq]at hj;subst hj;simp
   |3=>simp only[List.getElem?_cons_succ,List.getElem?_cons_zero,Option.some.injEq]at hj;subst hj;simp
   |j+4=>simp at hj
  ·simp only[List.mem_cons,List.not_mem_nil,or_false]at hp
   rcases hp with rfl|rfl|rfl|rfl
   ·exact hA.below hb
   ·exact(RdB.of_own hv1 (bw _ hc.1 hc.2) (by omega)).below hb
   ·exact(RdB.of_own hv2 (bw _ hn.1 hn.2) (by omega)).below hb
   ·exact(HF.out.below hW).below hb
 subst hfe
 clear hf hb0
 go_enter Tryz.func22,Tryz.ntmps22
 go_wp2_with fail
 refine HN1.out.mono ?_
 rintro e w1 ⟨v1,rfl,ho1,hb1⟩
 obtain⟨a1,c1,rfl⟩:=aH ho1
 have HO1:=ab ho1
 have HB1:=ab hb1
 clear ho1 hb1 HN1
 go_wp2_with fail
 refine(HN2.out w1).mono ?_
 rintro e w2 ⟨v2,rfl,ho2,hb2⟩
 obtain⟨a2,c2,rfl⟩:=aH ho2
 have HJ2:=ab (HJ.out w2 _ _ _ _ (ai (ai HB0.out HB1.out) hb2) ((HL.out.below HB1.out).below hb2) (aF HO1.out hb2) ho2)
 clear ho2 hb2 HN2 HJ
 go_wp2_with fail
 refine HJ2.out.mono ?_
 rintro e w3 ⟨v3,rfl,ho3,hb3⟩
 obtain⟨a3,c3,rfl⟩:=aH ho3
 have HO3:=ab (And.intro ho3 hb3)
 clear ho3 hb3 HJ2
 go_wp2_with fail
 go_ret
 exact⟨_,rfl,HO3.out.1,HO3.out.2⟩
def aV(st fr:Int)(n:Nat):List Int:=(List.range n).map fun(i:Nat)=>dO st (fr+(i:Int))
theorem qE(st fr:Int)(n:Nat):aV st fr (n+1)=aV st fr n++[dO st (fr+(n:Int))]:=by
 simp[aV,List.range_succ]
theorem cz(st fr:Int)(n:Nat):(aV st fr n).length=n:=by simp[aV]
theorem jY{st p:Int}:0<=dO st p/\dO st p<256:=by unfold dO;omega
def cQ(kind st fr tt:Int):List Int:=[kind]++az st++az fr++az (tt-fr)++aV st fr (tt-fr).toNat
def gf(e:TypeId):Prop:=e=101\/e=97\/e=137\/e=279\/e=204\/e=259
def SF(w0 w:World)(k:Nat):Prop:=w0.heap.size<=k/\((∃es ck,w.heap[k]? =some (.map es ck))\/∃cur e fr,w.heap[k]? =some (.cells cur e fr)/\gf e)
theorem SF.not{w0 w:World}{k:Nat}{cur:Array Value}{e:TypeId}{fr:Nat×Nat}(hk:w.heap[k]? =some (.cells cur e fr))(he:¬gf e):¬SF w0 w k:=by
 rintro⟨_,⟨es,ck,h⟩|⟨cur',e',fr',h,h2⟩⟩
 ·rw[hk]at h
  cases h
 ·rw[hk]at h
  simp only[Option.some.injEq,Obj.cells.injEq]at h
  exact he (by rw[h.2.1];exact h2)
theorem ConF_SF{N:Nat}{w:World}{cb:Nat}{g:Cfg}{c:aw}{a:aJ}(h:ConAt N w cb g c a){k:Nat}(hk:bh cb a k):(∃es ck,w.heap[k]? =some (.map es ck))\/∃cur e fr,w.heap[k]? =some (.cells cur e fr)/\gf e:=by
 rcases hk with e|e|e|e|⟨p,hp,e⟩
 ·subst e
  exact Or.inr ⟨_,_,_,h.blk,by simp[gf]⟩
 ·obtain⟨vs,hvs⟩:=h.pk
  obtain⟨c1,e1⟩:=aQ hvs.own e
  exact Or.inr ⟨_,_,_,e1,by simp[gf]⟩
 ·obtain⟨n,_,hm⟩:=h.smap
  obtain⟨es,ck,e1⟩:=hm.is_map
  exact Or.inl ⟨es,ck,by rw[e];exact e1⟩
 ·obtain⟨n,_,hm⟩:=h.dmap
  obtain⟨es,ck,e1⟩:=hm.is_map
  exact Or.inl ⟨es,ck,by rw[e];exact e1⟩
 ·obtain⟨_,x,hx,_⟩:=h.mp.str p hp
  have hs:=h.str p hp x hx
  rcases e with e|e
  ·exact Or.inr ⟨_,_,_,by rw[e];exact hs.blk,by simp[gf]⟩
  ·obtain⟨vs,ho⟩:=hs.own
   obtain⟨c1,e1⟩:=aQ ho e
   exact Or.inr ⟨_,_,_,e1,by simp[gf]⟩
theorem lg{N:Nat}{w:World}{sb:Nat}{s:ay}{cm:Nat}{wv:Value}{cbs:List Nat}{xs:List aJ}{ws:List Nat}(h:PSrv N w sb s cm wv cbs xs ws){k:Nat}(hk:cj sb cm wv cbs xs k):(∃es ck,w.heap[k]? =some (.map es ck))\/∃cur e fr,w.heap[k]? =some (.cells cur e fr)/\gf e:=by
 rcases hk with e|e|e|⟨i,cb,a,h1,h2,e⟩
 ·subst e
  exact Or.inr ⟨_,_,_,h.blk,by simp[gf]⟩
 ·obtain⟨n,_,hm⟩:=h.map
  obtain⟨es,ck,e1⟩:=hm.is_map
  exact Or.inl ⟨es,ck,by rw[e];exact e1⟩
 ·obtain⟨c1,e1⟩:=aQ h.row e
  exact Or.inr ⟨_,_,_,e1,by simp[gf]⟩
 ·have hi:i<s.conns.length:=by
   rw[<-h.len1]
   exact(lLt h1)
  exact ConF_SF (h.con i _ cb a (lGe hi) h1 h2) e
structure Live(w0:World)(N:Nat)(M L:Int)(w:World)(sb:Nat)(s:ay):Prop where
 bel:Below w0.heap.size w0 w
 srv:∃cm wv cbs xs ws,PSrv N w sb s cm wv cbs xs ws/\∀k,cj sb cm wv cbs xs k->w0.heap.size<=k
 inv:SrvInv M L s
theorem Live.below{w0:World}{N:Nat}{M L:Int}{w w':World}{sb:Nat}{s:ay}(h:Live w0 N M L w sb s)(hb:Below w.heap.size w w'):Live w0 N M L w' sb s:=by
 obtain⟨cm,wv,cbs,xs,ws,hP,hF⟩:=h.srv
 exact⟨ai h.bel hb,⟨cm,wv,cbs,xs,ws,hP.below hb,hF⟩,h.inv⟩
theorem Live.mono{w0:World}{N N':Nat}{M M' L L':Int}{w:World}{sb:Nat}{s:ay}(h:Live w0 N M L w sb s)(hN:N<=N')(hM:M<=M')(hL:L<=L'):Live w0 N' M' L' w sb s:=by
 obtain⟨cm,wv,cbs,xs,ws,hP,hF⟩:=h.srv
 exact⟨h.bel,⟨cm,wv,cbs,xs,ws,hP.mono hN,hF⟩,h.inv.mono hM hL⟩
theorem Live.other{F:Nat->Prop}{T:TypeId}(hT:¬gf T/\T≠5){w0:World}{N:Nat}{M L:Int}{w w':World}{sb:Nat}{s:ay}(h:Live w0 N M L w sb s)(hc:Chg F w w')(hF:∀k,F k->w0.heap.size<=k/\∃cur fr,w.heap[k]? =some (.cells cur T fr)):Live w0 N M L w' sb s:=by
 obtain⟨cm,wv,cbs,xs,ws,hP,hG⟩:=h.srv
 unfold gf at hT
 refine⟨⟨hc.os.trans h.bel.os,hc.tape.trans h.bel.tape,hc.output.trans h.bel.output,Nat.le_trans h.bel.size hc.size,fun k hk=>?_⟩,⟨cm,wv,cbs,xs,ws,hP.otherT (T:=T) (by simp only[not_or]at hT;exact⟨hT.1.1,hT.1.2.1,hT.1.2.2.1,hT.1.2.2.2.1,hT.1.2.2.2.2.1,hT.1.2.2.2.2.2,hT.2⟩) hc (fun k hk=>(hF k hk).2),hG⟩,h.inv⟩
 rw[hc.block k (Nat.lt_of_lt_of_le hk h.bel.size) (fun e=>by have:=(hF k e).1;omega),h.bel.block k hk]
theorem mJ{w0:World}{N:Nat}{w w':World}{sb:Nat}{s:ay}{cm:Nat}{wv:Value}{cbs:List Nat}{xs:List aJ}{ws:List Nat}(hb:Below w0.heap.size w0 w)(h:PSrv N w sb s cm wv cbs xs ws)(hF:∀k,cj sb cm wv cbs xs k->w0.heap.size<=k)(hc:Chg (cj sb cm wv cbs xs) w w'):Chg (SF w0 w) w w'/\Below w0.heap.size w0 w':=by
 refine⟨hc.mono fun k _ e=>⟨hF k e,lg h e⟩,⟨hc.os.trans hb.os,hc.tape.trans hb.tape,hc.output.trans hb.output,Nat.le_trans hb.size hc.size,fun k hk=>?_⟩⟩
 rw[hc.block k (Nat.lt_of_lt_of_le hk hb.size) (fun e=>by have:=hF k e;omega),hb.block k hk]
theorem Live.receive [LoM] {w0:World}{N:Nat}{M L:Int}{w:World}{sb:Nat}{s:ay}(h:Live w0 N M L w sb s)(hE:Env w0)(addr:Int){b:List Int}{bv:Value}(hbv:RdB w bv b)(hl:b.length<=1073741823)(hM0:0<=M)(hM:M+b.length+100<=1125899906842624)(hN:N+1+b.length<1125899906842624):
  Calls Tryz.prog 20 #[.pointer (some ⟨sb,0,none⟩),.int .i64 addr,bv] w fun e w'=>(∃v,e=.returned v/\OutsAt w' w.heap.size v (bg s addr b).2)/\Live w0 (N+1+b.length) (M+b.length+100) (L+2) w' sb (bg s addr b).1/\Chg (SF w0 w) w w':=by
 obtain⟨cm,wv,cbs,xs,ws,hP,hF⟩:=h.srv
 refine(mV N sb s cm wv cbs xs ws addr b bv w hP h.inv hbv hl hM0 hM hN (fun W hW=>hE.below (mJ h.bel hP hF hW).2)).mono ?_
 intro e w' ho
 obtain⟨q1,q2⟩:=mJ h.bel hP hF ho.chg
 obtain⟨v,wv',cbs',xs',ws',rfl,hO,hP',hin,_⟩:=ho.ex
 have hs:=h.bel.size
 refine⟨⟨v,rfl,hO.at⟩,⟨q2,⟨cm,wv',cbs',xs',ws',hP',fun k hk=>?_⟩,oj h.inv hM0 hbv.1⟩,q1⟩
 rcases hin k hk with e|e
 ·exact hF k e
 ·omega
theorem Live.read{w0:World}{N:Nat}{M L:Int}{w:World}{sb:Nat}{s:ay}(h:Live w0 N M L w sb s)(cid id most:Int)(hM:M<=1125899906842000)(hN:N+2<1125899906842624)(hc:-9223372036854775808<=cid/\cid<=9223372036854775807)(hm:-9223372036854775808<=most/\most<=9223372036854775807):
  Calls Tryz.prog 17 #[.pointer (some ⟨sb,0,none⟩),.int .i64 cid,.int .i64 id,.int .i64 most] w fun e w'=>(∃tv v,e=.returned (.tuple #[.agg #[tv,.bool (cR s cid id most).2.1.fin,.bool (cR s cid id most).2.1.rst],v,.int .i64 (cR s cid id most).1])/\w'.ownsRow w.heap.size 5 1 tv (cR s cid id most).2.1.bytes.length (U8 (cR s cid id most).2.1.bytes)/\OutsAt w' w.heap.size v (cR s cid id most).2.2.2)/\Live w0 (N+2) (M+60) L w' sb (cR s cid id most).2.2.1/\Chg (SF w0 w) w w':=by
 obtain⟨cm,wv,cbs,xs,ws,hP,hF⟩:=h.srv
 refine(sn N sb s cm wv cbs xs ws cid id most w hP h.inv hM hN hc hm).mono ?_
 intro e w' ho
 obtain⟨q1,q2⟩:=mJ h.bel hP hF ho.chg
 obtain⟨tv,v,xs',ws',rfl,_,hby,hO,_,hP',hin,_⟩:=ho.ex
 have hs:=h.bel.size
 refine⟨⟨tv,v,rfl,hby,hO.at⟩,⟨q2,⟨cm,wv,cbs,xs',ws',hP',fun k hk=>?_⟩,vz h.inv⟩,q1⟩
 rcases hin k hk with e|e
 ·exact hF k e
 ·omega
theorem Live.accept{w0:World}{N:Nat}{M L:Int}{w:World}{sb:Nat}{s:ay}(h:Live w0 N M L w sb s):
  Calls Tryz.prog 21 #[.pointer (some ⟨sb,0,none⟩)] w fun e w'=>e=.returned (.tuple #[.int .i64 (bW s).1,.int .i64 (bW s).2.1])/\Live w0 N M L w' sb (bW s).2.2/\Chg (SF w0 w) w w':=by
 obtain⟨cm,wv,cbs,xs,ws,hP,hF⟩:=h.srv
 refine(oq N sb s cm wv cbs xs ws w hP h.inv).mono ?_
 intro e w' ho
 obtain⟨q1,q2⟩:=mJ h.bel hP hF ho.chg
 obtain⟨wv',cbs',xs',ws',hP',hin,_⟩:=ho.ex
 have hs:=h.bel.size
 refine⟨ho.ret,⟨q2,⟨cm,wv',cbs',xs',ws',hP',fun k hk=>?_⟩,oY h.inv⟩,q1⟩
 rcases hin k hk with e|e
 ·exact hF k e
 ·omega
theorem Live.look{w0:World}{N:Nat}{M L:Int}{w:World}{sb:Nat}{s:ay}(h:Live w0 N M L w sb s)(cid:Int)(hc:-9223372036854775808<=cid/\cid<=9223372036854775807):
  Calls Tryz.prog 16 #[.pointer (some ⟨sb,0,none⟩),.int .i64 cid] w fun e w'=>e=.returned (.tuple #[.agg (lookS s cid).1,.int .i64 (lookS s cid).2])/\Below w.heap.size w w':=by
 obtain⟨cm,wv,cbs,xs,ws,hP,hF⟩:=h.srv
 exact sLook_any N sb s cm wv cbs xs ws cid w hP h.inv hc
theorem vE{g:Cfg}(h:g.right=true):bM g:=by
 unfold Cfg.right gT pU pV eL at h
 simp only[Bool.and_eq_true,decide_eq_true_eq]at h
 obtain⟨⟨h0,h1,h2,h3⟩,⟨h4,h5,h6,h7⟩,h8,h9⟩:=h
 exact⟨by omega,by omega,by omega,by omega,by omega,by omega,by omega,by omega,by omega,by omega⟩
theorem vf(w0:World)(g:Cfg)(hg:g.right=true)(w:World)(hb:Below w0.heap.size w0 w):
  Calls Tryz.prog 26 #[.agg #[.int .i64 g.c0,.int .i64 g.c1,.int .i64 g.c2,.int .i64 g.c3,.int .i64 g.c4,.int .i64 g.c5,.int .i64 g.c6,.int .i64 g.c7,.int .i64 g.c8,.int .i64 g.c9]] w fun e w'=>(∃sb,e=.returned (.tuple #[.pointer (some ⟨sb,0,none⟩),.int .i64 0])/\Live w0 0 0 0 w' sb (cK g))/\Below w.heap.size w w':=by
 refine(sNew_any g w).mono ?_
 intro e w' ho
 unfold oK at ho
 rw[if_pos hg]at ho
 obtain⟨sb,cm,rfl,hP,h1,h2,hbl⟩:=ho
 have hs:=hb.size
 refine⟨⟨sb,rfl,⟨ai hb hbl,⟨cm,_,[],[],[],hP,fun k hk=>?_⟩,new_inv (vE hg)⟩⟩,hbl⟩
 rcases hk with e|e|e|⟨i,cb,a,e,_⟩
 ·omega
 ·omega
 ·simp[Value.ownBlock]at e
 ·simp at e
def fJ(l:List Int):List Value:=l.map fun x=>.int .i64 x
theorem I64L_len(l:List Int):(fJ l).length=l.length:=by simp[fJ]
theorem mj(l:List Int)(i:Nat)(x:Int):fJ (l.set i x)=(fJ l).set i (.int .i64 x):=by simp[fJ,List.map_set]
theorem own_set{w:World}{base:Nat}{e:TypeId}{g n cap:Nat}{xs:List Value}(h:w.ownsRow base e 1 (.slice (some ⟨g,0,none⟩) n cap) n xs)(i:Nat)(u:Value):(w.setCell ⟨g,i,none⟩ u).ownsRow base e 1 (.slice (some ⟨g,0,none⟩) n cap) n (xs.set i u):=by
 obtain⟨hl,⟨e1,_⟩|⟨g',cap',cur,e1,hb,hg,h1,h2,h3,h4⟩⟩:=h
 ·cases e1
 ·simp only[Value.slice.injEq,Option.some.injEq,Addr.mk.injEq,and_true,true_and]at e1
  obtain⟨rfl,rfl⟩:=e1
  refine⟨by rw[List.length_set];exact hl,Or.inr ⟨g,cap,cur.setIfInBounds i u,rfl,hb,al hg i u,h1,h2,by rw[Array.size_setIfInBounds];exact h3,?_⟩⟩
  rw[Array.toList_setIfInBounds,List.take_set,h4]
theorem eS(w:World)(g i:Nat)(u:Value):Chg (· = g) w (w.setCell ⟨g,i,none⟩ u):=aI (Below.refl _ w) i u
def Nigh(w:World)(v u:Value):Prop:=u.ownBlock=v.ownBlock\/∀g,u.ownBlock=some g->w.heap.size<=g
section
variable {P : Program}
theorem cL{w:World}{ops:Array Oper}{rest:List Oper}{o:Oper}{a:Act}{Q:Exit->Act->World->Prop}(hgd:o.guard=none)(s x:Operand)(t:TypeId)
  (ho:o.op=.call {callee:=.builtin .append,args:=#[s,x],argTypes:=#[t,t]})
  (base:Nat) (e:TypeId) (i:TypeInfo) (z:Value) (size bytes:Nat) (ht:P.underlying t=some (.slice e)) (hi:P.info? e=some i) (hz:i.zero=some z)
  (hsize:i.size=size) (hby:i.bytes=bytes) (hzs:z.cells.size=size) (hsz:0<size) (v:Value) (n:Nat) (xs:List Value) (hs:a.eval s=v) (hown:w.ownsRow base e size v n xs)
  (ad:Addr) (m c:Nat) (news:List Value) (hx:a.eval x=.slice (some ad) m c) (hl:news.length=m*size) (hnews:∀j u,news[j]? =some u->w.cell? (ad.add j)=some u) (h1:∀u∈news,u.oneCell'=true)
  (h63:n+m<=maxLen) (hbytes:(n+m)*bytes<=140737488355328) (hbase:base<=w.heap.size)
  (h:∀v' w',w'.ownsRow base e size v' (n+m) (xs++news)->w.grownBy w' v.ownBlock->Nigh w v v'->wpList P ops Q rest (a.put o.dst v') w'):wpList P ops Q (o::rest) a w:=by
 refine wpList_plain hgd fun K hK=>?_
 obtain⟨v',w',hrun,h2,h3,h4⟩:=eJ (P:=P) w base t o.type e i z size bytes ht hi hz hsize hby hzs hsz v n xs hown ad m c news hl hnews h1 h63 hbytes hbase
 unfold Oper.wp
 simp[execOp,ho,resolve,invoke,builtin,hs,hx,hrun,Result.andThen]
 exact hK _ _ (h v' w' h2 h3 h4)
end
theorem grown_chg{w w':World}{r:Option Nat}(h:w.grownBy w' r):Chg (fun q=>r=some q) w w':=⟨h.os,h.tape,h.output,h.size,fun q hq hn=>h.block q hq (fun e=>hn e.symm)⟩
theorem own_ltS{w:World}{base:Nat}{e:TypeId}{sz:Nat}{v:Value}{n:Nat}{xs:List Value}(h:w.ownsRow base e sz v n xs){g:Nat}(hg:v.ownBlock=some g):g<w.heap.size/\base<=g:=by
 obtain⟨_,⟨rfl,_⟩|⟨g',cap,cur,rfl,hb,hh,_⟩⟩:=h
 ·cases hg
 ·obtain rfl:g'=g:=by simpa[Value.ownBlock] using hg
  exact⟨(aLt hh),hb⟩
theorem own_int{w:World}{base g n cap:Nat}{l:List Int}(h:w.ownsRow base 3 1 (.slice (some ⟨g,0,none⟩) n cap) n (fJ l))(j:Nat)(hj:j<l.length):w.cell? ⟨g,j,none⟩= some (.int .i64 (l.getD j 0)):=by
 have hl:l.length=n:=by have:=h.1;simpa[fJ] using this
 rw[h.cellAt j (by omega)]
 simp[fJ,List.getD,lGe hj]
theorem pL{w:World}{base:Nat}{e:TypeId}{g n cap:Nat}{xs:List Value}(h:w.ownsRow base e 1 (.slice (some ⟨g,0,none⟩) n cap) n xs)(q:Nat):w.frozen? ⟨g,q,none⟩= false:=by
 obtain⟨cur,e1⟩:=im h (g:=g) rfl
 exact frozen_of_row w g q _ _ e1
end Go.Proofs.YthmdjhlhodpbhaaGreatDoor
namespace Go.Proofs.YthmdjhlhodpbhaaGreatDoor
theorem gH{n:Int}(h:0<=n/\n<=1073741823)(r:List Int):gsz (az n++r)=(az n).length/\ec (az n++r)=n:=by
 have hs:gsz (az n++r)=(az n).length:=by
  unfold az
  split
  ·simp[gsz,eD]
   omega
  ·split
   ·simp[gsz,eD]
    omega
   ·simp[gsz,eD]
    omega
 refine⟨hs,?_⟩
 have h0:=(aZ n).2
 unfold ec
 rw[if_neg (by rw[hs];omega),hs,Int.toNat_natCast]
 unfold az
 split
 ·simp[dL]
  omega
 ·split
  ·simp[dL]
   omega
  ·simp[dL]
   omega
theorem mQ{n:Int}(h:0<=n/\n<=1073741823)(r:List Int):(az n++r).drop (gsz (az n++r)).toNat=r:=by
 rw[(gH h r).1,Int.toNat_natCast]
 simp
theorem jF{n:Int}(h:0<=n/\n<=1073741823)(r:List Int):¬gsz (az n++r)=0:=by
 have h0:=(aZ n).2
 rw[(gH h r).1]
 omega
theorem uG{cid:Int}{tok fr:List Int}(hc:0<=cid/\cid<=1073741823)(ht:tok.length<=1000000):fK (dA cid tok fr)=some ⟨1,cid,tok,0,fr⟩:=by
 have e:dA cid tok fr=1::(az cid++(az tok.length++(tok++fr))):=by simp[dA]
 have hl:0<=(tok.length:Int)/\(tok.length:Int)<=1073741823:=by omega
 rw[e]
 unfold fK
 simp only[List.drop_succ_cons,List.drop_zero,List.getD_cons_zero,if_true,reduceCtorEq,if_false]
 rw[if_neg (jF hc _),mQ hc,if_neg (jF hl _),mQ hl,(gH hc _).2,(gH hl _).2]
 simp
 omega
theorem pj{cid num:Int}{fr:List Int}(hc:0<=cid/\cid<=1073741823)(hn:0<=num/\num<=1073741823):fK (bK cid num fr)=some ⟨2,cid,[],num,fr⟩:=by
 have e:bK cid num fr=2::(az cid++(az num++fr)):=by simp[bK]
 rw[e]
 unfold fK
 simp only[List.drop_succ_cons,List.drop_zero,List.getD_cons_zero,if_true,reduceCtorEq,if_false]
 rw[if_neg (jF hc _),mQ hc,if_neg (jF hn _),mQ hn,(gH hc _).2,(gH hn _).2]
 simp
theorem pI(t:Int)(ns r:List Int)(h:∀n∈ns,0<=n/\n<=1073741823):∀k,k<=ns.length->bI (t::((ns.map az).flatten++r)) k=some (ns.take k,1+((ns.take k).map az).flatten.length)
 |0,_=>by simp[bI]
 |k+1,hk=>by
  have ih:=pI t ns r h k (by omega)
  have hn:ns[k]? =some (ns[k]'(by omega)):=lGe (by omega)
  have hm:0<=ns[k]'(by omega)/\ns[k]'(by omega)<=1073741823:=h _ (List.getElem_mem _)
  have e:ns=ns.take k++(ns[k]'(by omega)::ns.drop (k+1)):=by
   rw[<-List.drop_eq_getElem_cons (by omega),List.take_append_drop]
  have e2:(ns.map az).flatten++r=((ns.take k).map az).flatten++(az (ns[k]'(by omega))++(((ns.drop (k+1)).map az).flatten++r)):=by
   have q:=congrArg (fun l=>(List.map az l).flatten++r) e
   simp only[List.map_append,List.map_cons,List.flatten_append,List.flatten_cons,List.append_assoc]at q
   exact q
  have hd:(t::((ns.map az).flatten++r)).drop (1+((ns.take k).map az).flatten.length)=az (ns[k]'(by omega))++(((ns.drop (k+1)).map az).flatten++r):=by
   rw[Nat.add_comm,List.drop_succ_cons,e2,List.drop_left]
  have ht:ns.take (k+1)=ns.take k++[ns[k]'(by omega)]:=List.take_succ_eq_append_getElem (by omega)
  rw[bI,ih]
  simp only
  rw[hd,if_neg (jF hm _),(gH hm _).2,(gH hm _).1,Int.toNat_natCast,ht]
  simp only[List.map_append,List.map_cons,List.map_nil,List.flatten_append,List.flatten_cons,List.flatten_nil,List.append_nil,List.length_append,Nat.add_assoc]
theorem uR{k id ofs:Int}{bs r:List Int}(hk:k=3\/k=4)(hi:0<=id/\id<=1073741823)(ho:0<=ofs/\ofs<=1073741823)(hb:bs.length<=1073741823):
  bR ([k]++az id++az ofs++az bs.length++bs++r)=some (⟨k,id,ofs,0,bs⟩,([k]++az id++az ofs++az bs.length++bs).length):=by
 have e:[k]++az id++az ofs++az bs.length++bs++r=k::(([id,ofs,(bs.length:Int)].map az).flatten++(bs++r)):=by simp
 have h:=pI k [id,ofs,(bs.length:Int)] (bs++r) (by
  intro n hn
  simp only[List.mem_cons,List.not_mem_nil,or_false]at hn
  rcases hn with rfl|rfl|rfl<;>omega) 3 (by simp)
 have hc:dj k=some 3:=by
  unfold dj
  rcases hk with rfl|rfl<;>simp
 have hl:([id,ofs,(bs.length:Int)].map az).flatten.length=(az id).length+(az ofs).length+(az (bs.length:Int)).length:=by simp[Nat.add_assoc]
 have hd:(k::(([id,ofs,(bs.length:Int)].map az).flatten++(bs++r))).drop (1+([id,ofs,(bs.length:Int)].map az).flatten.length)=bs++r:=by
  rw[Nat.add_comm,List.drop_succ_cons,List.drop_left]
 rw[e]
 unfold bR
 simp only[List.getD_cons_zero,hc]
 rw[h]
 simp only[List.take_succ_cons,List.take_zero,List.getD_cons_zero,List.getD_cons_succ]
 rw[if_neg (by simp only[List.length_cons,List.length_append,hl];omega),hd]
 simp only[Int.toNat_natCast,List.take_left,Option.some.injEq,Prod.mk.injEq,true_and,hl,List.length_append,List.length_cons,List.length_nil]
 omega
end Go.Proofs.YthmdjhlhodpbhaaGreatDoor
