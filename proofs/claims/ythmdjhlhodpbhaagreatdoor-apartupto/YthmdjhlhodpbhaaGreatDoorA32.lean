/- Apart, 32 -/
import Derived.Test.YthmdjhlhodpbhaaGreatDoorA29
import Derived.Test.YthmdjhlhodpbhaaGreatDoorA31
set_option maxHeartbeats 16000000
set_option maxRecDepth 8000
namespace Go.Proofs.YthmdjhlhodpbhaaGreatDoor
open Go.RowKit
theorem aj{w:World}{gb:Nat}{cs:Array Value}{t:TypeId}{fr:Nat×Nat}(h:w.heap[gb]? =some (.cells cs t fr))(i:Nat):w.cell? ⟨gb,i,none⟩= cs[i]?:=by
 simp only[World.cell?,h]
 rfl
theorem mB{w:World}{b:Nat}(v:Value)(p q:Bool)(h:w.heap[b]? =some (.cells #[.slice none 0 0,.bool false,.bool false] 46 (0,0))):(((w.setCell ⟨b,0,none⟩ v).setCell ⟨b,1,none⟩ (.bool p)).setCell ⟨b,2,none⟩ (.bool q)).heap[b]? =some (.cells #[v,.bool p,.bool q] 46 (0,0)):=by
 have:=al (al (al h 0 v) 1 (.bool p)) 2 (.bool q)
 simpa using this
theorem mz(w:World)(b:Nat)(v p q:Value):Chg (· = b) w (((w.setCell ⟨b,0,none⟩ v).setCell ⟨b,1,none⟩ p).setCell ⟨b,2,none⟩ q):=
 ((aI (Below.refl _ _) 0 _).trans (aI (Below.refl _ _) 1 _)).trans (aI (Below.refl _ _) 2 _)
theorem wH(N cb:Nat)(g:Cfg)(c:aw)(a:aJ)(id most:Int)(x:aR)(w:World)(h:ConAt N w cb g c a)(hi:ConInv g c)(hg:bM g){M:Int}(hok:ConOk M c)(hM:M<=1125899906842000)(hN:N+2<1125899906842624)(hx:c.streams[id.toNat]? =some x)(hid:0<=id/\id<=1073741823)(hd:x.done=false)(hm:0<=most/\most<=9223372036854775807):
  Calls Tryz.prog 44 #[.pointer (some ⟨cb,0,none⟩),.int .i64 id,.int .i64 most] w fun e w'=>fZ N w cb g a (aM x most).1 (fD g c id.toNat x most) e w':=by
 have hxm:=lMm hx
 have hxi:=hi.str x hxm
 have hlen:id.toNat<c.streams.length:=(lLt hx)
 have k1:=hg.c1
 have k2:=hg.c2
 have k4:=hg.c4
 have hwf:(Lit.int .i64 id).wf=true:=jk (by omega)
 obtain⟨n2,hn2,hm2⟩:=h.dmap
 obtain⟨n1,hn1,hm1⟩:=h.smap
 have hb1:Below w.heap.size w (w.alloc (.cells #[.slice none 0 0,.bool false,.bool false] 46)):=ag w _
 have hb2:Below w.heap.size w ((w.alloc (.cells #[.slice none 0 0,.bool false,.bool false] 46)).alloc (.cells #[.int .i64 0,.bool false] 142)):=ai hb1 (ag _ _)
 have hres:((w.alloc (.cells #[.slice none 0 0,.bool false,.bool false] 46)).alloc (.cells #[.int .i64 0,.bool false] 142)).heap[w.heap.size]? =some (.cells #[.slice none 0 0,.bool false,.bool false] 46 (0,0)):=by
  rw[Below.heap_alloc _ _ _ (by simp)]
  exact heap_alloc_new w _
 have hdon:=h.don id
 have hda:fp c.streams id=none:=by
  unfold fp
  rw[if_pos hid.1,hx]
  simp[hd]
 rw[hda]at hdon
 have hv:fk iS a.dl id=.agg #[.int .i64 0,.bool false]:=by unfold fk;rw[hdon];rfl
 have d22:(w.alloc (.cells #[.slice none 0 0,.bool false,.bool false] 46)).cell? ⟨cb,22,none⟩= some (.map (some a.dm)):=(h.blk.below hb1).cell 22
 have hl1:(Instr.lookup 135 (.map (some a.dm)) (.int .i64 id) true).run Tryz.prog (w.alloc (.cells #[.slice none 0 0,.bool false,.bool false] 46))=.ok (.tuple #[.agg #[.int .i64 0,.bool false],.bool false]) (w.alloc (.cells #[.slice none 0 0,.bool false,.bool false] 46)):=by
  have q:=kW (C:=iS) (e:=142) Tryz.underlying3 Tryz.underlying135 (fun W=>by kernel_rfl) (hm2.same (hb1.block a.dm hm2.lt)) hwf
  rw[hv,hdon]at q
  exact q
 have HSt:=ab (nX N cb g c a id x _ (h.below hb2) (by omega) hid hx hd)
 have HRd:Hid (∀(W4:World) (b:Nat) (a1:aJ),ConAt (N+1) W4 cb g c a1->(id,b)∈a1.sl->Calls Tryz.prog 74 #[.pointer (some ⟨b,0,none⟩),.int .i64 most] W4 fun e w'=>jo a1.u W4 b (a1.lv id) g.c2 x most e w'):=
  fun W4 b a1 hA hmem=>tRead_at a1.u b (a1.lv id) g.c2 x most g.c4 W4 (hA.str (id,b) hmem x hx) hxi (by omega) hm
 have HStart:Hid (∀(W4 W5:World) (b:Nat) (a1:aJ) (e4 e5:Ending),gq N ((w.alloc (.cells #[.slice none 0 0,.bool false,.bool false] 46)).alloc (.cells #[.int .i64 0,.bool false] 142)) cb g c a id e4 W4 b a1->jo a1.u W4 b (a1.lv id) g.c2 x most e5 W5->
   ∃tv a2,e5=.returned (.agg #[tv,.bool (aM x most).1.fin,.bool (aM x most).1.rst])/\(∃ao l c,tv=.slice ao l c)/\(id,b)∈a2.sl/\a2.lv id=a2.lv id/\
   RdC (N+1) w cb g a W5.heap.size tv (aM x most).1 a2 ({c with streams:=c.streams.set id.toNat (fm x most)},[]) (.slice none 0 0) (W5.alloc (.cells #[tv,.bool (aM x most).1.fin,.bool (aM x most).1.rst] 46))):=
  fun W4 W5 b a1 e4 e5 hso htr=>RdC.start hb2 hres hm1.lt hx hd hso htr
 have hyI:=sg hxi most
 have hyh:=lG x most
 have hydn:(aM x most).2.done=((aM x most).1.fin ||(aM x most).1.rst):=rfl
 have hrst:(aM x most).2.reset=(aM x most).1.rst:=rfl
 have hreadY:∀q,fm x most = {(aM x most).2 with done:=q}->True:=fun _ _=>trivial
 have HFin:Hid (∀(W6:World) (gb b:Nat) (tv:Value) (a2:aJ),(id,b)∈a2.sl->RdC (N+1) w cb g a gb tv (aM x most).1 a2 ({c with streams:=c.streams.set id.toNat (fm x most)},[]) (.slice none 0 0) W6->(aM x most).2.done=true->
   Calls Tryz.prog 76 #[.pointer (some ⟨b,0,none⟩)] W6 fun e w'=>e=.returned (.agg #[.int .i64 (aM x most).2.final,.bool (aM x most).2.reset])/\Calls Tryz.prog 75 #[.pointer (some ⟨cb,0,none⟩),.int .i64 id,.agg #[.int .i64 (aM x most).2.final,.bool (aM x most).2.reset]] w' fun e w''=>e=.returned (.tuple #[])/\PA N w cb g a gb tv (aM x most).1 c id b (aM x most).2 w''):=by
  intro W6 gb b tv a2 hmem hR hdn
  have hfin:=(hyI.dn hdn).2.1
  have hfok:=hyI.ok.final
  have hgy:({c with streams:=c.streams.set id.toNat (fm x most)}:aw).streams[id.toNat]? =some (fm x most):=by
   simp only
   rw[List.getElem?_set_self hlen]
  have hS:=hR.con.str (id,b) hmem _ hgy
  refine(tDone_any b (a2.lv id) g.c2 (fm x most) W6 hS).mono ?_
  rintro e w' ⟨rfl,hbl⟩
  have hmx:max (fm x most).final 0=(aM x most).2.final:=by
   show max (aM x most).2.final 0=_
   omega
  refine⟨by rw[hmx];rfl,?_⟩
  have hR':=hR.below hbl
  obtain⟨m1,hn1',hm1'⟩:=hR'.con.smap
  obtain⟨m2,hn2',hm2'⟩:=hR'.con.dmap
  have hI2:=hi.i.set hx (y:=fm x most) ⟨hyI.read,hyI.ent,hyI.len,hyI.fin,hyI.fin0,hyI.rst,fun h=>(by cases h),hyI.gaps,hyI.cred⟩ hyh
  have hpr:=mR hI2.str
  have hps:0<=bm (c.streams.set id.toNat (fm x most))/\bm (c.streams.set id.toNat (fm x most))<=1152921504606846976:=by
   have q1:=j9 hI2.str
   have q2:=lT hI2.str hR'.con.mp
   have q3:0<=bE (atS (·.read) (c.streams.set id.toNat (fm x most))) a2.sl:=dZ fun p hp=>by
    obtain⟨_,z,hz,_⟩:=hR'.con.mp.str p hp
    have e:atS (·.read) (c.streams.set id.toNat (fm x most)) p.1=z.read:=by simp only at hz;simp[atS,hz]
    rw[e]
    exact(hI2.str z (lMm hz)).read
   have q4:=hI2.high
   have q5:=hok.credit
   simp only at q2 q4 hpr
   exact⟨q1,by omega⟩
  have hat:atK a2.sl id=some b:=iL hR'.con.mp.nd hmem
  have hno:atK a2.dl id=none:=by
   rw[hR'.con.don id]
   unfold fp
   rw[if_pos hid.1,hgy]
   rfl
  refine(uy cb g _ a2.plv a2.sm a2.dm _ id (aM x most).2.final (aM x most).2.reset m1 m2 b a2.sl a2.dl w' hR'.con.blk hm1' hm2' hR'.con.ne hid hat hno hps (by omega) (by omega)).mono ?_
  intro e w'' hf
  refine⟨hf.ret,?_⟩
  obtain⟨a',q1,q2,q3⟩:=hR'.finish (y:=fm x most) hmem hgy rfl hn1' hn2' hf
  have e1:({fm x most with done:=true}:aR)=(aM x most).2:=by
   unfold fm
   generalize (aM x most).2=z at hdn⊢
   cases z
   simp only at hdn
   subst hdn
   rfl
  simp only[e1,List.set_set]at q1
  exact⟨a',a2.lv id,q1,by rw[q2];exact q3.undone rfl rfl rfl rfl rfl rfl,fun h=>by rw[hdn]at h;cases h⟩
 have HLive:Hid (∀(W6:World) (gb b:Nat) (tv:Value) (a2:aJ),(id,b)∈a2.sl->RdC (N+1) w cb g a gb tv (aM x most).1 a2 ({c with streams:=c.streams.set id.toNat (fm x most)},[]) (.slice none 0 0) W6->(aM x most).2.done=false->PA N w cb g a gb tv (aM x most).1 c id b (aM x most).2 W6):=by
  intro W6 gb b tv a2 hmem hR hdn
  have e1:fm x most=(aM x most).2:=by
   unfold fm
   generalize (aM x most).2=z at hdn⊢
   cases z
   simp only at hdn
   subst hdn
   rfl
  rw[e1]at hR
  refine⟨a2,a2.lv id,hR.mono (by omega),hR.con.str (id,b) hmem _ ?_,fun _=>⟨hmem,rfl⟩⟩
  simp only
  rw[List.getElem?_set_self hlen]
 obtain⟨p1,p2,p3,p4,p5,p6⟩:=pN hi.i hok hx hyI hyh (by omega)
 obtain⟨q1,q2,q3,q4,q5⟩:=rD p1 p2 (by omega)
 have HRaise:=ab (fun(w':World) (gb b:Nat) (tv:Value) (hp:PA N w cb g a gb tv (aM x most).1 c id b (aM x most).2 w')=>hp.raise hyI hg hlen)
 have HPe:=ab (pieceC_eq g c id.toNat (aM x most).2)
 have hmc:0<=(eP g (aM x most).2).credit/\(eP g (aM x most).2).credit<=1073741823:=by
  have h1:=hyI.cred
  have h2:=hyI.ok.credit
  unfold eP
  split
  ·exact lS hyI.read (by omega)
  ·omega
 have hmi:StrInv g.c4 (eP g (aM x most).2):=by
  unfold eP
  split
  ·next h=>exact rZ hyI (by omega) (by unfold fX at h;simp at h;exact h.1.2)
  ·exact hyI
 have HT17:Hid (∀(W:World) (gb:Nat) (tv:Value) (a':aJ),RdC (N+2) w cb g a gb tv (aM x most).1 a' ({c with streams:=c.streams.set id.toNat (eP g (aM x most).2)},[]) (.slice none 0 0) W->
   Calls Tryz.prog 78 #[.pointer (some ⟨cb,0,none⟩),.int .u8 17,.slice (some ⟨W.heap.size,0,none⟩) 2 2] (W.alloc (.cells #[.int .i64 id,.int .i64 (eP g (aM x most).2).credit] 3)) fun e w2=>nk (N+2) w cb g a gb tv (aM x most).1 a' (bt {c with streams:=c.streams.set id.toNat (eP g (aM x most).2)} ([17]++az (id.toNat:Int)++az (eP g (aM x most).2).credit),ca {c with streams:=c.streams.set id.toNat (eP g (aM x most).2)} ([17]++az (id.toNat:Int)++az (eP g (aM x most).2).credit) []) (.slice none 0 0) e w2):=by
  intro W gb tv a' hR
  rw[Int.toNat_of_nonneg hid.1]
  exact hR.tell2 17 id _ (hok.set hmi) (by omega) hid hmc (by simp)
 clear hreadY
 generalize hY:(aM x most).2=y at *
 generalize hX:(aM x most).1=gx at *
 have HReadC:Hid (fD g c id.toNat x most=eW g y.done (iA g (fu g c id.toNat y))):=by
  show _=_
  unfold fD
  rw[hX,hY,hd,hydn]
  rfl
 generalize hr1:fu g c id.toNat y=r1 at *
 have HDe:=ab (dataC_eq g r1)
 have HBr:Hid (∀(W W':World) (gb:Nat) (tv v:Value),PB N w cb g a gb tv gx r1 v W->Below W.heap.size W W'->Calls Tryz.prog 81 #[.pointer (some ⟨cb,0,none⟩)] W' fun e w'=>e=.returned (.int .i64 (readAll r1.1.streams))/\Below W'.heap.size W' w'):=by
  intro W W' gb tv v hB hW
  obtain⟨_,a',hR⟩:=hB
  have hA:=hR.con.below hW
  refine cread_any (N+2) cb g r1.1 a' W' hA p1.str p2 ?_
  have e1:=j9 p1.str
  have e2:=lT p1.str hA.mp
  have e3:0<=bE (atS (·.read) r1.1.streams) a'.sl:=dZ fun p hp=>by
   obtain⟨_,z,hz,_⟩:=hA.mp.str p hp
   have e:atS (·.read) r1.1.streams p.1=z.read:=by simp[atS,hz]
   rw[e]
   exact(p1.str z (lMm hz)).read
  have e4:=p1.read p2
  exact⟨e1,by omega⟩
 have HFo:Hid (∀(W:World) (gb:Nat) (tv v:Value),PB N w cb g a gb tv gx r1 v W->Calls Tryz.prog 80 #[.pointer (some ⟨cb,18,none⟩),.int .i64 (readAll r1.1.streams)] W fun e w'=>e=.returned (.bool (lC g r1))/\PB N w cb g a gb tv gx (fy g r1.1,r1.2) v w'):=
  fun W gb tv v hB=>hB.follow hg p1 p2
 have hdo:ConOk (M+20) (fy g r1.1):=by
  unfold fy
  split
  ·exact⟨p2.cid,p2.addr,p2.got,p2.sent,p2.heard,p2.runs,lS (p1.read p2).1 (by omega),p2.slen,p2.str⟩
  ·exact p2
 have HT16:Hid (∀(W:World) (gb:Nat) (tv v:Value) (a':aJ),RdC (N+2) w cb g a gb tv gx a' (fy g r1.1,r1.2) v W->
   Calls Tryz.prog 78 #[.pointer (some ⟨cb,0,none⟩),.int .u8 16,.slice (some ⟨W.heap.size,0,none⟩) 1 1] (W.alloc (.cells #[.int .i64 (fy g r1.1).credit] 3)) fun e w2=>nk (N+2) w cb g a gb tv gx a' (bt (fy g r1.1) ([16]++az (fy g r1.1).credit),ca (fy g r1.1) ([16]++az (fy g r1.1).credit) r1.2) v e w2):=
  fun W gb tv v a' hR=>hR.tell1 16 _ hdo (by omega) hdo.credit (by show r1.2.length<=100;omega)
 have HKb:=ab (fun W=>iC (fy g r1.1).credit g.c1 W)
 generalize hr2:iA g r1=r2 at *
 have HLim:Hid (eW g true r2=if r2.1.streams.length<1073741823 then(bt {r2.1 with streams:=r2.1.streams++[aU g.c2]} ([18]++az ((r2.1.streams.length+1:Nat):Int)),ca {r2.1 with streams:=r2.1.streams++[aU g.c2]} ([18]++az ((r2.1.streams.length+1:Nat):Int)) r2.2) else r2):=by
  show _=_
  unfold eW
  simp only[Bool.true_and,lq,decide_eq_true_eq]
  have e:(r2.1.streams++[aU g.c2]).length=r2.1.streams.length+1:=by simp
  rw[e]
 have HCr:Hid (∀(W:World) (gb:Nat) (tv v:Value) (a':aJ),RdC (N+2) w cb g a gb tv gx a' r2 v W->Calls Tryz.prog 82 #[.pointer (some ⟨cb,0,none⟩)] W fun e w'=>e=.returned (.bool (decide (r2.1.streams.length<1073741823)))/\(r2.1.streams.length<1073741823->RdC (N+2) w cb g a gb tv gx a' ({r2.1 with streams:=r2.1.streams++[aU g.c2]},r2.2) v w')/\(¬r2.1.streams.length<1073741823->RdC (N+2) w cb g a gb tv gx a' r2 v w')):=by
  intro W gb tv v a' hR
  refine(wT cb g r2.1 a'.plv a'.sm a'.dm _ W hR.con.blk q2.slen.2).mono ?_
  rintro e w' ⟨rfl,hw'⟩
  refine⟨rfl,fun hl=>?_,fun hl=>?_⟩
  ·rw[if_pos hl]at hw'
   subst hw'
   exact RdC.blk (o:=r2.2) hR (aI (Below.refl _ _) 20 _) hR.con.grown
  ·rw[if_neg hl]at hw'
   subst hw'
   exact hR
 have HT18:Hid (∀(W:World) (gb:Nat) (tv v:Value) (a':aJ),r2.1.streams.length<1073741823->RdC (N+2) w cb g a gb tv gx a' ({r2.1 with streams:=r2.1.streams++[aU g.c2]},r2.2) v W->
   Calls Tryz.prog 78 #[.pointer (some ⟨cb,0,none⟩),.int .u8 18,.slice (some ⟨W.heap.size,0,none⟩) 1 1] (W.alloc (.cells #[.int .i64 ((r2.1.streams.length+1:Nat):Int)] 3)) fun e w2=>nk (N+2) w cb g a gb tv gx a' (bt {r2.1 with streams:=r2.1.streams++[aU g.c2]} ([18]++az ((r2.1.streams.length+1:Nat):Int)),ca {r2.1 with streams:=r2.1.streams++[aU g.c2]} ([18]++az ((r2.1.streams.length+1:Nat):Int)) r2.2) v e w2):=by
  intro W gb tv v a' hl hR
  refine hR.tell1 18 _ (M:=M+20+20) ⟨q2.cid,q2.addr,q2.got,q2.sent,q2.heard,q2.runs,q2.credit,?_,fun z hz=>?_⟩ (by omega) (by omega) (by show r2.2.length<=100;omega)
  ·simp only[List.length_append,List.length_cons,List.length_nil];omega
  ·rcases List.mem_append.1 hz with hz|hz
   ·exact q2.str z hz
   ·rw[List.mem_singleton.1 hz];exact sr (by omega)
 have HYd:=ab hydn
 obtain⟨_,hlast⟩:∃z:Nat,z=0:=⟨0,rfl⟩
 clear h hi hg hok hx hid hd hm hxm hxi k1 k2 k4 hwf hm2 hm1 hb1 hb2 hres hdon hda hv hyI hyh hrst p1 p2 p3 p4 p5 p6 q1 q2 q3 q4 q5 hmc hmi hdo hlen hn1 hn2 hN hM hY hX hr1 hr2 hydn hlast
 rw[HReadC.out]
 go_enter Tryz.func44,Tryz.ntmps44
 go_wp2_with fail
 refine HSt.out.mono ?_
 rintro e w4 ⟨b,a1,hso⟩
 have hret:=hso.ret
 subst hret
 have HSo:=ab hso
 clear hso HSt d22 hl1
 go_wp2_with fail
 refine(HRd.out w4 b a1 HSo.out.con HSo.out.mem).mono ?_
 intro e w5 htr
 obtain⟨tv,a2,rfl,⟨t1,t2,t3,rfl⟩,hmem,_,hR⟩:=HStart.out w4 w5 b a1 _ e HSo.out htr
 have HR:=ab hR
 have HMem:=ab hmem
 have b1:(w5.alloc (.cells #[.slice t1 t2 t3,.bool gx.fin,.bool gx.rst] 46)).cell? ⟨w5.heap.size,1,none⟩= some (.bool gx.fin):=aj hR.box 1
 have b2:(w5.alloc (.cells #[.slice t1 t2 t3,.bool gx.fin,.bool gx.rst] 46)).cell? ⟨w5.heap.size,2,none⟩= some (.bool gx.rst):=aj hR.box 2
 clear htr hR hmem HRd HStart HSo
 go_upto_region 6 with fail
 go_cut [12] from 31 to 37 (fun s12 wx=>s12=.bool y.done/\RdC (N+1) w cb g a w5.heap.size (.slice t1 t2 t3) gx a2 ({c with streams:=c.streams.set id.toNat (fm x most)},[]) (.slice none 0 0) wx)
 case first=>
  cases hfi:gx.fin with
  |true=>
   rw[hfi]at b1 b2
   go_wp2_with fail
   go_meet
   refine⟨by rw[HYd.out,hfi];rfl,?_⟩
   have:=HR.out
   rw[hfi]at this
   exact this
  |false=>
   rw[hfi]at b1 b2
   go_wp2_with fail
   go_meet
   refine⟨by rw[HYd.out,hfi];rfl,?_⟩
   have:=HR.out
   rw[hfi]at this
   exact this
 case rest=>
  obtain⟨rfl,hR⟩:=hcut
  clear HR
  have HR:=ab hR
  generalize w5.heap.size=gb at *
  clear hR b1 b2
  go_upto_if 38 with fail
  go_cut [12] from 38 to 43 (fun s12 wx=>s12=.bool y.done/\PA N w cb g a gb (.slice t1 t2 t3) gx c id b y wx)
  case first=>
   cases hdn:y.done with
   |true=>
    have HF:=ab (HFin.out wc gb b (.slice t1 t2 t3) a2 HMem.out HR.out hdn)
    clear HFin HLive
    go_wp2_with fail
    refine HF.out.mono ?_
    rintro e w7 ⟨rfl,hf⟩
    have HF2:=ab hf
    clear hf HF
    go_wp2_with fail
    refine HF2.out.mono ?_
    rintro e w8 ⟨rfl,hp⟩
    have HP:=ab hp
    clear hp HF2
    go_wp2_with fail
    go_meet
    exact⟨by rw[hdn],HP.out⟩
   |false=>
    go_wp2_with fail
    go_meet
    exact⟨by rw[hdn],HLive.out _ _ _ _ _ HMem.out HR.out hdn⟩
  case rest=>
   obtain⟨rfl,hPA⟩:=hcut
   have HPA:=ab hPA
   clear hPA HR HFin HLive HMem
   go_wp2_with fail
   refine(HRaise.out _ _ b _ HPA.out).mono ?_
   rintro e w7 ⟨rfl,⟨a3,hR3⟩,c3,c4⟩
   have HR3:=ab hR3
   clear hR3 HPA HRaise
   go_upto_if 45 with fail
   go_cut [13] from 45 to 53 (fun s13 wx=>PB N w cb g a gb (.slice t1 t2 t3) gx r1 s13 wx)
   case first=>
    cases hmo:fX g y with
    |true=>
     have HCd:=ab (vS b (eP g y).credit g.c2 w7 c3 c4)
     clear c3 c4
     go_wp2_with fail
     refine HCd.out.mono ?_
     rintro e w8 ⟨rfl,hb8⟩
     have HT:=ab (HT17.out w8 _ _ a3 (HR3.out.below hb8))
     clear HCd hb8 HT17 HR3
     go_wp2_with fail
     refine HT.out.mono ?_
     rintro e w9 ⟨v2,rfl,⟨z1,z2,z3,rfl⟩,happ⟩
     obtain⟨v',w10,hrun,⟨y1,y2,y3,rfl⟩,hR10⟩:=happ 47
     have HRun:=ab hrun
     have HR10:=ab hR10
     clear hrun hR10 happ HT
     go_wp2_with (first
      |(at_builtin;refine aS rfl _ _ 47 47 rfl _ _ rfl rfl HRun.out ?_;refine Hid.out ?_))
     refine ab ?_
     go_wp2_with fail
     go_meet
     refine⟨⟨_,_,_,rfl⟩,a3,?_⟩
     rw[HPe.out,hmo,if_pos rfl]
     exact HR10.out
    |false=>
     go_wp2_with fail
     go_meet
     refine⟨⟨_,_,_,rfl⟩,a3,?_⟩
     rw[HPe.out,hmo]
     exact HR3.out
   case rest=>
    have HPB:=ab hcut
    obtain⟨⟨v1,v2,v3,rfl⟩,_⟩:=hcut
    clear HR3 HT17 c3 c4 HPe
    go_upto_region 12 with fail
    go_cut [59] from 54 to 58 (fun s59 wx=>s59=.bool (lC g r1)/\PB N w cb g a gb (.slice t1 t2 t3) gx (fy g r1.1,r1.2) (.slice v1 v2 v3) wx)
    case first=>
     go_region_with (first
      |(go_at_call 81;refine(HBr.out wc _ _ _ _ HPB.out (ak (Below.refl _ wc) 1)).mono ?_;rintro e w8 ⟨rfl,hb8⟩;have HB8:=ab (HPB.out.below (aq hb8));clear hb8)
      |(go_at_call 80;refine(HFo.out w8 _ _ _ HB8.out).mono ?_;rintro e w9 ⟨rfl,hB9⟩))
     all_goals
      have HB9:=ab hB9
      clear hB9
      go_wp2_with fail
      go_meet
      exact⟨rfl,HB9.out⟩
    case rest=>
     obtain⟨rfl,hB⟩:=hcut
     obtain⟨_,a5,hR5⟩:=hB
     have e18:wc.cell? ⟨cb,18,none⟩= some (.int .i64 (fy g r1.1).credit):=hR5.con.blk.cell 18
     have e19:wc.cell? ⟨cb,19,none⟩= some (.int .i64 g.c1):=hR5.con.blk.cell 19
     have HR5:=ab hR5
     clear hR5 HPB HBr HFo
     go_upto_if 59 with fail
     go_cut [13] from 59 to 69 (fun s13 wx=>PB N w cb g a gb (.slice t1 t2 t3) gx r2 s13 wx)
     case first=>
      cases hmo:lC g r1 with
      |true=>
       go_wp2_with fail
       refine(HKb.out _).mono ?_
       rintro e w8 ⟨rfl,hb8⟩
       have HT:=ab (HT16.out w8 _ _ _ a5 (HR5.out.below hb8))
       clear hb8 HT16 HR5 e18 e19 HKb
       go_wp2_with fail
       refine HT.out.mono ?_
       rintro e w9 ⟨v2,rfl,⟨z1,z2,z3,rfl⟩,happ⟩
       obtain⟨v',w10,hrun,⟨y1,y2,y3,rfl⟩,hR10⟩:=happ 47
       have HRun:=ab hrun
       have HR10:=ab hR10
       clear hrun hR10 happ HT
       go_wp2_with (first
        |(at_builtin;refine aS rfl _ _ 47 47 rfl _ _ rfl rfl HRun.out ?_;refine Hid.out ?_))
       refine ab ?_
       go_wp2_with fail
       go_meet
       refine⟨⟨_,_,_,rfl⟩,a5,?_⟩
       rw[HDe.out,hmo,if_pos rfl]
       exact HR10.out
      |false=>
       go_wp2_with fail
       go_meet
       refine⟨⟨_,_,_,rfl⟩,a5,?_⟩
       rw[HDe.out,hmo]
       exact HR5.out
     case rest=>
      obtain⟨⟨v4,v5,v6,rfl⟩,a6,hR6⟩:=hcut
      have HR6:=ab hR6
      clear hR6 HR5 e18 e19 HDe HT16 HKb
      cases hdn:y.done with
      |true=>
       by_cases hl:r2.1.streams.length<1073741823
       ·have HC:=ab (HCr.out wc gb (.slice t1 t2 t3) _ a6 HR6.out)
        rw[decide_eq_true hl]at HC
        clear HR6 HCr
        go_wp2_with fail
        refine HC.out.mono ?_
        rintro e w8 ⟨rfl,hy8,_⟩
        have hR8:=hy8 hl
        have e20:w8.cell? ⟨cb,20,none⟩= some (.int .i64 ((r2.1.streams.length+1:Nat):Int)):=by
         have:=hR8.con.blk.cell 20
         simpa[kp] using this
        have HT:=ab (HT18.out w8 gb (.slice t1 t2 t3) _ a6 hl hR8)
        clear hy8 hR8 HT18 HC
        go_wp2_with fail
        refine HT.out.mono ?_
        rintro e w9 ⟨v2,rfl,⟨z1,z2,z3,rfl⟩,happ⟩
        obtain⟨v',w10,hrun,⟨y1,y2,y3,rfl⟩,hR10⟩:=happ 47
        have HRun:=ab hrun
        have HR10:=ab hR10
        have g0:w10.cell? ⟨gb,0,none⟩= some (.slice t1 t2 t3):=aj hR10.box 0
        have g1:w10.cell? ⟨gb,1,none⟩= some (.bool gx.fin):=aj hR10.box 1
        have g2:w10.cell? ⟨gb,2,none⟩= some (.bool gx.rst):=aj hR10.box 2
        have f0:w10.cell? ⟨w.heap.size,0,none⟩= some (.slice none 0 0):=aj hR10.res 0
        have f1:w10.cell? ⟨w.heap.size,1,none⟩= some (.bool false):=aj hR10.res 1
        have f2:w10.cell? ⟨w.heap.size,2,none⟩= some (.bool false):=aj hR10.res 2
        have z0:w10.frozen? ⟨w.heap.size,0,none⟩= false:=frozen_of_row _ _ 0 _ _ hR10.res
        have z1:w10.frozen? ⟨w.heap.size,1,none⟩= false:=frozen_of_row _ _ 1 _ _ hR10.res
        have z2:w10.frozen? ⟨w.heap.size,2,none⟩= false:=frozen_of_row _ _ 2 _ _ hR10.res
        clear hrun hR10 happ HT e20
        go_wp2_with (first
         |(at_builtin;refine aS rfl _ _ 47 47 rfl _ _ rfl rfl HRun.out ?_;refine Hid.out ?_))
        refine ab ?_
        go_wp2_with fail
        refine bodyPost_ret (bD (P:=Tryz.prog) Tryz.results44 _ _ w.heap.size 46 #[.slice t1 t2 t3,.bool gx.fin,.bool gx.rst] (0,0) _ (.slice y1 y2 y3) (by kernel_rfl) (by kernel_rfl) (mB _ _ _ HR10.out.res) Tryz.underlying46 rfl (by kernel_rfl)) rfl ?_
        show fZ N w cb g a gx (eW g y.done r2) _ _
        rw[hdn,HLim.out,if_pos hl]
        exact HR10.out.fin (mz _ _ _ _ _)
       ·have HC:=ab (HCr.out wc gb (.slice t1 t2 t3) _ a6 HR6.out)
        rw[decide_eq_false hl]at HC
        clear HR6 HCr
        go_wp2_with fail
        refine HC.out.mono ?_
        rintro e w8 ⟨rfl,_,hy8⟩
        have hR8:=hy8 hl
        have HR8:=ab hR8
        have g0:w8.cell? ⟨gb,0,none⟩= some (.slice t1 t2 t3):=aj hR8.box 0
        have g1:w8.cell? ⟨gb,1,none⟩= some (.bool gx.fin):=aj hR8.box 1
        have g2:w8.cell? ⟨gb,2,none⟩= some (.bool gx.rst):=aj hR8.box 2
        have f0:w8.cell? ⟨w.heap.size,0,none⟩= some (.slice none 0 0):=aj hR8.res 0
        have f1:w8.cell? ⟨w.heap.size,1,none⟩= some (.bool false):=aj hR8.res 1
        have f2:w8.cell? ⟨w.heap.size,2,none⟩= some (.bool false):=aj hR8.res 2
        have z0:w8.frozen? ⟨w.heap.size,0,none⟩= false:=frozen_of_row _ _ 0 _ _ hR8.res
        have z1:w8.frozen? ⟨w.heap.size,1,none⟩= false:=frozen_of_row _ _ 1 _ _ hR8.res
        have z2:w8.frozen? ⟨w.heap.size,2,none⟩= false:=frozen_of_row _ _ 2 _ _ hR8.res
        clear hy8 hR8 HT18 HC
        go_wp2_with fail
        refine bodyPost_ret (bD (P:=Tryz.prog) Tryz.results44 _ _ w.heap.size 46 #[.slice t1 t2 t3,.bool gx.fin,.bool gx.rst] (0,0) _ (.slice v4 v5 v6) (by kernel_rfl) (by kernel_rfl) (mB _ _ _ HR8.out.res) Tryz.underlying46 rfl (by kernel_rfl)) rfl ?_
        show fZ N w cb g a gx (eW g y.done r2) _ _
        rw[hdn,HLim.out,if_neg hl]
        exact HR8.out.fin (mz _ _ _ _ _)
      |false=>
       have hR8:=HR6.out
       have g0:wc.cell? ⟨gb,0,none⟩= some (.slice t1 t2 t3):=aj hR8.box 0
       have g1:wc.cell? ⟨gb,1,none⟩= some (.bool gx.fin):=aj hR8.box 1
       have g2:wc.cell? ⟨gb,2,none⟩= some (.bool gx.rst):=aj hR8.box 2
       have f0:wc.cell? ⟨w.heap.size,0,none⟩= some (.slice none 0 0):=aj hR8.res 0
       have f1:wc.cell? ⟨w.heap.size,1,none⟩= some (.bool false):=aj hR8.res 1
       have f2:wc.cell? ⟨w.heap.size,2,none⟩= some (.bool false):=aj hR8.res 2
       have z0:wc.frozen? ⟨w.heap.size,0,none⟩= false:=frozen_of_row _ _ 0 _ _ hR8.res
       have z1:wc.frozen? ⟨w.heap.size,1,none⟩= false:=frozen_of_row _ _ 1 _ _ hR8.res
       have z2:wc.frozen? ⟨w.heap.size,2,none⟩= false:=frozen_of_row _ _ 2 _ _ hR8.res
       clear hR8 HT18 HCr
       go_wp2_with fail
       refine bodyPost_ret (bD (P:=Tryz.prog) Tryz.results44 _ _ w.heap.size 46 #[.slice t1 t2 t3,.bool gx.fin,.bool gx.rst] (0,0) _ (.slice v4 v5 v6) (by kernel_rfl) (by kernel_rfl) (mB _ _ _ HR6.out.res) Tryz.underlying46 rfl (by kernel_rfl)) rfl ?_
       show fZ N w cb g a gx (eW g y.done r2) _ _
       rw[hdn,show eW g false r2=r2 by simp[eW]]
       exact HR6.out.fin (mz _ _ _ _ _)
theorem wG(N cb:Nat)(g:Cfg)(c:aw)(a:aJ)(id most:Int)(x:aR)(w:World)(h:ConAt N w cb g c a)(hx:c.streams[id.toNat]? =some x)(hid:0<=id/\id<=1073741823)(hd:x.done=true):
  Calls Tryz.prog 44 #[.pointer (some ⟨cb,0,none⟩),.int .i64 id,.int .i64 most] w fun e w'=>fZ N w cb g a ⟨[],!x.reset,x.reset⟩ (c,[]) e w':=by
 have hwf:(Lit.int .i64 id).wf=true:=jk (by omega)
 obtain⟨n2,hn2,hm2⟩:=h.dmap
 have hb1:Below w.heap.size w (w.alloc (.cells #[.slice none 0 0,.bool false,.bool false] 46)):=ag w _
 have hb2:Below w.heap.size w ((w.alloc (.cells #[.slice none 0 0,.bool false,.bool false] 46)).alloc (.cells #[.int .i64 x.final,.bool x.reset] 142)):=ai hb1 (ag _ _)
 have hres:((w.alloc (.cells #[.slice none 0 0,.bool false,.bool false] 46)).alloc (.cells #[.int .i64 x.final,.bool x.reset] 142)).heap[w.heap.size]? =some (.cells #[.slice none 0 0,.bool false,.bool false] 46 (0,0)):=by
  rw[Below.heap_alloc _ _ _ (by simp)]
  exact heap_alloc_new w _
 have hdon:=h.don id
 have hda:fp c.streams id=some (x.final,x.reset):=by
  unfold fp
  rw[if_pos hid.1,hx]
  simp[hd]
 rw[hda]at hdon
 have hv:fk iS a.dl id=.agg #[.int .i64 x.final,.bool x.reset]:=by unfold fk;rw[hdon];rfl
 have d22:(w.alloc (.cells #[.slice none 0 0,.bool false,.bool false] 46)).cell? ⟨cb,22,none⟩= some (.map (some a.dm)):=(h.blk.below hb1).cell 22
 have hl1:(Instr.lookup 135 (.map (some a.dm)) (.int .i64 id) true).run Tryz.prog (w.alloc (.cells #[.slice none 0 0,.bool false,.bool false] 46))=.ok (.tuple #[.agg #[.int .i64 x.final,.bool x.reset],.bool true]) (w.alloc (.cells #[.slice none 0 0,.bool false,.bool false] 46)):=by
  have q:=kW (C:=iS) (e:=142) Tryz.underlying3 Tryz.underlying135 (fun W=>by kernel_rfl) (hm2.same (hb1.block a.dm hm2.lt)) hwf
  rw[hv,hdon]at q
  exact q
 have HDr:=ab (fun W=>dRead_any x.final x.reset W)
 have HE:Hid (∀W,Below w.heap.size w W->fZ N w cb g a ⟨[],!x.reset,x.reset⟩ (c,[]) (.returned (.tuple #[.agg #[.slice none 0 0,.bool (!x.reset),.bool x.reset],.slice none 0 0])) W):=fun W hW=>
  ⟨⟨_,_,a,rfl,⟨_,_,_,rfl⟩,World.ownsRow_nil _ _ _ _,OutsU.none (OutsAt.nil _ _) rfl,fun k hk=>(by simp[Value.ownBlock]at hk),(h.below hW).mono (by omega),fun k hk=>Or.inl hk,fun k hk=>Or.inl hk⟩,Chg.of_below hW⟩
 have HRes:=ab hres
 have HB2:=ab hb2
 clear h hm2 hdon hda hv hb1 hb2 hres
 go_enter Tryz.func44,Tryz.ntmps44
 go_wp2_with fail
 refine(HDr.out _).mono ?_
 rintro e w3 ⟨rfl,hb3⟩
 have hB3:=ai HB2.out hb3
 have hr3:w3.heap[w.heap.size]? =some (.cells #[.slice none 0 0,.bool false,.bool false] 46 (0,0)):=(hb3.block _ (aLt HRes.out)).trans HRes.out
 have HB3:=ab hB3
 have HR3:=ab hr3
 have c0:w3.cell? ⟨w.heap.size,0,none⟩= some (.slice none 0 0):=aj hr3 0
 have c1:w3.cell? ⟨w.heap.size,1,none⟩= some (.bool false):=aj hr3 1
 have c2:w3.cell? ⟨w.heap.size,2,none⟩= some (.bool false):=aj hr3 2
 have z0:w3.frozen? ⟨w.heap.size,0,none⟩= false:=frozen_of_row _ _ 0 _ _ hr3
 have z1:w3.frozen? ⟨w.heap.size,1,none⟩= false:=frozen_of_row _ _ 1 _ _ hr3
 have z2:w3.frozen? ⟨w.heap.size,2,none⟩= false:=frozen_of_row _ _ 2 _ _ hr3
 clear hb3 hB3 hr3 HDr HB2 HRes d22 hl1
 go_wp2_with fail
 refine bodyPost_ret (bD (P:=Tryz.prog) Tryz.results44 _ _ w.heap.size 46 #[.slice none 0 0,.bool (!x.reset),.bool x.reset] (0,0) _ (.slice none 0 0) (by kernel_rfl) (by kernel_rfl) (mB _ _ _ HR3.out) Tryz.underlying46 rfl (by kernel_rfl)) rfl ?_
 exact HE.out _ (cw HB3.out (mz _ _ _ _ _) (Nat.le_refl _))
theorem cRead_any(N cb:Nat)(g:Cfg)(c:aw)(a:aJ)(id most:Int)(x:aR)(w:World)(h:ConAt N w cb g c a)(hi:ConInv g c)(hg:bM g){M:Int}(hok:ConOk M c)(hM:M<=1125899906842000)(hN:N+2<1125899906842624)(hx:c.streams[id.toNat]? =some x)(hid:0<=id/\id<=1073741823)(hm:0<=most/\most<=9223372036854775807):
  Calls Tryz.prog 44 #[.pointer (some ⟨cb,0,none⟩),.int .i64 id,.int .i64 most] w fun e w'=>fZ N w cb g a (aM x most).1 (fD g c id.toNat x most) e w':=by
 cases hd:x.done with
 |false=>exact wH N cb g c a id most x w h hi hg hok hM hN hx hid hd hm
 |true=>
  rw[readC_done most hi hx hd,pR (hi.str x (lMm hx)) hd]
  exact wG N cb g c a id most x w h hx hid hd
theorem PSrv.lookI{N:Nat}{w:World}{sb:Nat}{s:ay}{cm:Nat}{wv:Value}{cbs:List Nat}{xs:List aJ}{ws:List Nat}(h:PSrv N w sb s cm wv cbs xs ws){cid:Int}(hc:-9223372036854775808<=cid/\cid<=9223372036854775807)(hno:cid∉s.conns.map (·.cid)):(Instr.lookup 98 (.map (some cm)) (.int .i64 cid) false).run Tryz.prog w=.ok (.pointer none) w:=by
 obtain⟨n,_,hm⟩:=h.map
 have h1:=mT (C:=ez) (e:=97) Tryz.underlying3 Tryz.underlying98 (fun W=>by kernel_rfl) hm (jk (k:=cid) hc)
 have h2:atK ((s.conns.map (·.cid)).zip cbs) cid=none:=by
  refine kx.2 ?_
  rw[List.map_fst_zip (by simp[h.len1])]
  exact hno
 unfold fk at h1
 rw[h2]at h1
 exact h1
theorem sLook_any(N:Nat)(sb:Nat)(s:ay)(cm:Nat)(wv:Value)(cbs:List Nat)(xs:List aJ)(ws:List Nat)(cid:Int)(w:World)(h:PSrv N w sb s cm wv cbs xs ws){M L:Int}(hI:SrvInv M L s)(hc:-9223372036854775808<=cid/\cid<=9223372036854775807):
  Calls Tryz.prog 16 #[.pointer (some ⟨sb,0,none⟩),.int .i64 cid] w fun e w'=>e=.returned (.tuple #[.agg (lookS s cid).1,.int .i64 (lookS s cid).2])/\Below w.heap.size w w':=by
 have hb0:Below w.heap.size w (w.alloc (.cells #[.bool false,.int .i64 0,.int .i64 0,.int .i64 0,.int .i64 0,.int .i64 0] 34)):=ag w _
 have k11:(w.alloc (.cells #[.bool false,.int .i64 0,.int .i64 0,.int .i64 0,.int .i64 0,.int .i64 0] 34)).cell? ⟨sb,11,none⟩= some (.map (some cm)):=(h.blk.below hb0).cell 11
 rcases jw (l:=s.conns) (cid:=cid) with⟨hf,hno⟩|⟨k,c,hf,hk,hkc⟩
 ·have hlk:=(h.below hb0).lookI hc hno
  have hls:lookS s cid=(nj,3):=by unfold lookS;rw[hf]
  rw[hls]
  unfold nj
  clear h hI hf hno hls
  go_enter Tryz.func16,Tryz.ntmps16
  go_wp2_with fail
  refine bodyPost_ret (bD (P:=Tryz.prog) Tryz.results16 _ _ w.heap.size 34 #[.bool false,.int .i64 0,.int .i64 0,.int .i64 0,.int .i64 0,.int .i64 0] (0,0) _ (.int .i64 3) (by kernel_rfl) (by kernel_rfl) (heap_alloc_new w _) Tryz.underlying34 rfl (by kernel_rfl)) rfl ?_
  exact⟨rfl,hb0⟩
 ·obtain⟨cb,a,hcb,ha,hat⟩:=h.found hI.nd hk
  have hmem:=lMm hk
  have hcr:=(hI.ok c hmem).cid
  have hlk:=(h.below hb0).lookS (cid:=c.cid) (by omega) hat
  rw[hkc]at hlk
  have hls:lookS s cid=(pF c,0):=by unfold lookS;rw[hf];simp only;rw[hk]
  rw[hls]
  have HC:=ab (cLook_any N cb s.c c a (w.alloc (.cells #[.bool false,.int .i64 0,.int .i64 0,.int .i64 0,.int .i64 0,.int .i64 0] 34)) ((h.con k c cb a hk hcb ha).below hb0) (hI.inv c hmem) (hI.ok c hmem) hI.cfg)
  have HB0:=ab hb0
  have HX:Hid ((w.alloc (.cells #[.bool false,.int .i64 0,.int .i64 0,.int .i64 0,.int .i64 0,.int .i64 0] 34)).heap[w.heap.size]? =some (.cells #[.bool false,.int .i64 0,.int .i64 0,.int .i64 0,.int .i64 0,.int .i64 0] 34 (0,0))):=heap_alloc_new w _
  have HZ:Hid (w.heap.size<(w.alloc (.cells #[.bool false,.int .i64 0,.int .i64 0,.int .i64 0,.int .i64 0,.int .i64 0] 34)).heap.size):=by show _<_;simp
  unfold pF at HC⊢
  generalize lx c.streams=B at HC⊢
  clear h hI hf hk hcb ha hat hmem hcr hls hb0
  go_enter Tryz.func16,Tryz.ntmps16
  go_wp2_with fail
  refine HC.out.mono ?_
  rintro e w1 ⟨rfl,hb1⟩
  have x0:=(hb1.block w.heap.size HZ.out).trans HX.out
  have q0:w1.cell? ⟨w.heap.size,0,none⟩= some (.bool false):=by simp only[World.cell?,x0];rfl
  have z0:w1.frozen? ⟨w.heap.size,0,none⟩= false:=frozen_of_row _ _ _ _ _ x0
  have q1:w1.cell? ⟨w.heap.size,1,none⟩= some (.int .i64 0):=by simp only[World.cell?,x0];rfl
  have z1:w1.frozen? ⟨w.heap.size,1,none⟩= false:=frozen_of_row _ _ _ _ _ x0
  have q2:w1.cell? ⟨w.heap.size,2,none⟩= some (.int .i64 0):=by simp only[World.cell?,x0];rfl
  have z2:w1.frozen? ⟨w.heap.size,2,none⟩= false:=frozen_of_row _ _ _ _ _ x0
  have q3:w1.cell? ⟨w.heap.size,3,none⟩= some (.int .i64 0):=by simp only[World.cell?,x0];rfl
  have z3:w1.frozen? ⟨w.heap.size,3,none⟩= false:=frozen_of_row _ _ _ _ _ x0
  have q4:w1.cell? ⟨w.heap.size,4,none⟩= some (.int .i64 0):=by simp only[World.cell?,x0];rfl
  have z4:w1.frozen? ⟨w.heap.size,4,none⟩= false:=frozen_of_row _ _ _ _ _ x0
  have q5:w1.cell? ⟨w.heap.size,5,none⟩= some (.int .i64 0):=by simp only[World.cell?,x0];rfl
  have z5:w1.frozen? ⟨w.heap.size,5,none⟩= false:=frozen_of_row _ _ _ _ _ x0
  have x1:=al x0 0 (.bool c.proven)
  have x2:=al x1 1 (.int .i64 c.got)
  have x3:=al x2 2 (.int .i64 c.sent)
  have x4:=al x3 3 (.int .i64 c.credit)
  have x5:=al x4 4 (.int .i64 (c.streams.length:Int))
  have x6:=al x5 5 (.int .i64 B)
  have hlt:w.heap.size<w1.heap.size:=Nat.lt_of_lt_of_le HZ.out hb1.size
  have HB1:=ab (ai HB0.out hb1)
  have HX6:=ab x6
  clear hb1 x0 x1 x2 x3 x4 x5 x6 HC HX HZ hlk k11
  go_wp2_with fail
  refine bodyPost_ret (bD (P:=Tryz.prog) Tryz.results16 _ _ w.heap.size 34 #[.bool c.proven,.int .i64 c.got,.int .i64 c.sent,.int .i64 c.credit,.int .i64 (c.streams.length:Int),.int .i64 B] (0,0) _ (.int .i64 0) (by kernel_rfl) (by kernel_rfl) HX6.out Tryz.underlying34 rfl (by kernel_rfl)) rfl ?_
  exact⟨rfl,((((((HB1.out.setCell (Nat.le_refl _) _).setCell (Nat.le_refl _) _).setCell (Nat.le_refl _) _).setCell (Nat.le_refl _) _).setCell (Nat.le_refl _) _).setCell (Nat.le_refl _) _)⟩
end Go.Proofs.YthmdjhlhodpbhaaGreatDoor
