/- Apart, 37 -/
import Derived.Test.YthmdjhlhodpbhaaGreatDoorA02
import Derived.Test.YthmdjhlhodpbhaaGreatDoorA36
set_option maxHeartbeats 16000000
set_option maxRecDepth 8000
namespace Go.Proofs.YthmdjhlhodpbhaaGreatDoor
open Go.RowKit
theorem uY:(Tryz.prog.info? 44).map (fun i=>(i.zero,i.size,i.bytes))=some (some (.slice none 0 0),1,24):=by kernel_rfl
theorem ClG.scal{B:Nat}{w:World}{F:Nat->Prop}{W:World}{xb sb:Nat}{g:Cfg}{ok ok':Bool}{credit lim packet credit' lim' packet':Int}{v0 v1 v2 v3 v4 v5 v6:Value}{ts:List (TypeId×List Value)}(h:ClG B w F W xb sb g ok credit lim packet v0 v1 v2 v3 v4 v5 v6 ts)(q:Nat)(u:Value)(he:(qx sb g ok credit lim packet v0 v1 v2 v3 v4 v5 v6).setIfInBounds q u=qx sb g ok' credit' lim' packet' v0 v1 v2 v3 v4 v5 v6):ClG B w F (W.setCell ⟨xb,q,none⟩ u) xb sb g ok' credit' lim' packet' v0 v1 v2 v3 v4 v5 v6 ts:=by
 have hsz:=h.chg.size
 refine⟨h.cl.scal q u he,⟨h.chg.os,h.chg.tape,h.chg.output,by rw[World.size_setCell];exact hsz,fun k hk hF=>?_⟩,h.inn⟩
 have n1:k≠xb:=fun e=>(h.inn xb (Or.inl rfl)).elim (fun h1=>hF (by rw[e];exact h1)) (fun h1=>by omega)
 rw[Below.heap_setCell _ _ _ _ n1,h.chg.block k hk hF]
theorem ClB.put{B:Nat}{w:World}{xb sb:Nat}{g:Cfg}{ok:Bool}{credit lim packet:Int}{v0 v1 v2 v3 v4 v5 v6:Value}{ts:List (TypeId×List Value)}(h:ClB B w xb sb g ok credit lim packet v0 v1 v2 v3 v4 v5 v6 ts){i gb n cap:Nat}{t:TypeId×List Value}(hv:[v0,v1,v2,v3,v4,v5,v6][i]? =some (.slice (some ⟨gb,0,none⟩) n cap))(ht:ts[i]? =some t)(q:Nat)(u:Value):ClB B (w.setCell ⟨gb,q,none⟩ u) xb sb g ok credit lim packet v0 v1 v2 v3 v4 v5 v6 (ts.set i (t.1,t.2.set q u)):=by
 have hne:gb≠xb:=fun e=>h.xb_not (lMm hv) (by rw[<-e];rfl)
 refine⟨?_,h.rows.put hv ht q u,fun t' ht'=>?_,h.low⟩
 ·rw[(eS w gb q u).block xb (aLt h.blk) (Ne.symm hne)]
  exact h.blk
 ·rcases List.mem_or_eq_of_mem_set ht' with h1|rfl
  ·exact h.ty t' h1
  ·exact h.ty t (lMm ht)
theorem ClG.put{B:Nat}{w:World}{F:Nat->Prop}{W:World}{xb sb:Nat}{g:Cfg}{ok:Bool}{credit lim packet:Int}{v0 v1 v2 v3 v4 v5 v6:Value}{ts:List (TypeId×List Value)}(h:ClG B w F W xb sb g ok credit lim packet v0 v1 v2 v3 v4 v5 v6 ts){i gb n cap:Nat}{t:TypeId×List Value}(hv:[v0,v1,v2,v3,v4,v5,v6][i]? =some (.slice (some ⟨gb,0,none⟩) n cap))(ht:ts[i]? =some t)(q:Nat)(u:Value):ClG B w F (W.setCell ⟨gb,q,none⟩ u) xb sb g ok credit lim packet v0 v1 v2 v3 v4 v5 v6 (ts.set i (t.1,t.2.set q u)):=by
 have hsz:=h.chg.size
 refine⟨h.cl.put hv ht q u,⟨h.chg.os,h.chg.tape,h.chg.output,by rw[World.size_setCell];exact hsz,fun k hk hF=>?_⟩,h.inn⟩
 have n1:k≠gb:=fun e=>(h.inn k (Or.inr ⟨_,lMm hv,by rw[e];rfl⟩)).elim hF (fun h1=>by omega)
 rw[Below.heap_setCell _ _ _ _ n1,h.chg.block k hk hF]
theorem jR{B:Nat}{w:World}{xb sb:Nat}{g:Cfg}{ok:Bool}{credit lim packet:Int}{v0 v1 v2 v3 v4 v5 v6:Value}{ts:List (TypeId×List Value)}(h:ClB B w xb sb g ok credit lim packet v0 v1 v2 v3 v4 v5 v6 ts){k:Nat}(hk:bO xb v0 v1 v2 v3 v4 v5 v6 k):¬SFT w k/\∀cur fr,w.heap[k]?≠some (.cells cur 5 fr):=by
 obtain⟨_,_,cur,e,h1,h2⟩:=h.types hk
 have he:¬gf e/\e≠5:=by
  rcases h2 with rfl|h2
  ·simp[gf]
  ·unfold je at h2
   rcases h2 with rfl|rfl|rfl<;>simp[gf]
 refine⟨fun hs=>hs.not h1 he.1,fun cur' fr' h3=>?_⟩
 rw[h1]at h3
 simp only[Option.some.injEq,Obj.cells.injEq]at h3
 exact he.2 h3.2.1
theorem LiveF.cli{w0:World}{F:Nat->Prop}{N:Nat}{M L:Int}{w w':World}{sb sb':Nat}{s:ay}(h:LiveF w0 F N M L w sb s){B:Nat}{xb:Nat}{g:Cfg}{ok:Bool}{credit lim packet:Int}{v0 v1 v2 v3 v4 v5 v6:Value}{ts:List (TypeId×List Value)}(hC:ClB B w xb sb' g ok credit lim packet v0 v1 v2 v3 v4 v5 v6 ts)(hc:Chg (bO xb v0 v1 v2 v3 v4 v5 v6) w w')(hB:w0.heap.size<=B):LiveF w0 F N M L w' sb s:=
 h.chg hc (fun _ hk e=>(jR hC e).1 (h.ty _ hk)) (fun _ cur fr hk e=>(jR hC e).2 cur fr hk) (fun _ e=>Nat.le_trans hB (hC.types e).1)
theorem ClB.srv{B:Nat}{w w':World}{xb sb:Nat}{g:Cfg}{ok:Bool}{credit lim packet:Int}{v0 v1 v2 v3 v4 v5 v6:Value}{ts:List (TypeId×List Value)}(hC:ClB B w xb sb g ok credit lim packet v0 v1 v2 v3 v4 v5 v6 ts){w0:World}{F:Nat->Prop}{N:Nat}{M L:Int}{sb':Nat}{s:ay}(h:LiveF w0 F N M L w sb' s)(hc:Chg F w w'):ClB B w' xb sb g ok credit lim packet v0 v1 v2 v3 v4 v5 v6 ts:=
 hC.chg hc (fun _ hk e=>(jR hC hk).1 (h.ty _ e))
theorem RdT.srv{w w':World}{v:Value}{l:List Int}(hR:RdT w v l){w0:World}{F:Nat->Prop}{N:Nat}{M L:Int}{sb':Nat}{s:ay}(h:LiveF w0 F N M L w sb' s)(hc:Chg F w w'):RdT w' v l:=
 hR.chg hc (fun k cur fr hk e=>(h.ty k e).not (cur:=cur) (fr:=fr) hk (by simp[gf]))
theorem RdT.cli{w w':World}{v:Value}{l:List Int}(hR:RdT w v l){B:Nat}{xb sb:Nat}{g:Cfg}{ok:Bool}{credit lim packet:Int}{v0 v1 v2 v3 v4 v5 v6:Value}{ts:List (TypeId×List Value)}(hC:ClB B w xb sb g ok credit lim packet v0 v1 v2 v3 v4 v5 v6 ts)(hc:Chg (bO xb v0 v1 v2 v3 v4 v5 v6) w w'):RdT w' v l:=
 hR.chg hc (fun _ cur fr hk e=>(jR hC e).2 cur fr hk)
structure DuoOut(w0:World)(B:Nat)(xb sb:Nat)(g:Cfg)(H:Nat->Prop)(w w':World)(c':aY)(N:Nat)(M L:Int)(s':ay):Prop where
 ex:∃v0 v1 v2 v3 v4 v5 v6 F,ClAt B w' xb sb g c' v0 v1 v2 v3 v4 v5 v6/\LiveF w0 F N M L w' sb s'/\∀k,F k\/bO xb v0 v1 v2 v3 v4 v5 v6 k->H k\/w.heap.size<=k
 chg:Chg H w w'
structure SendOut(w0:World)(B:Nat)(xb sb:Nat)(g:Cfg)(F:Nat->Prop)(v0 v1 v2 v3 v4 v5 v6:Value)(w w':World)(c':aY)(N:Nat)(M L:Int)(s':ay):Prop where
 ex:∃u6 F',ClAt B w' xb sb g c' v0 v1 v2 v3 v4 v5 u6/\LiveF w0 F' N M L w' sb s'/\∀k,F' k\/bO xb v0 v1 v2 v3 v4 v5 u6 k->(F k\/bO xb v0 v1 v2 v3 v4 v5 v6 k)\/w.heap.size<=k
 chg:Chg (fun k=>F k\/bO xb v0 v1 v2 v3 v4 v5 v6 k) w w'
theorem SendOut.duo{w0:World}{B:Nat}{xb sb:Nat}{g:Cfg}{F:Nat->Prop}{v0 v1 v2 v3 v4 v5 v6:Value}{w w':World}{c':aY}{N:Nat}{M L:Int}{s':ay}(h:SendOut w0 B xb sb g F v0 v1 v2 v3 v4 v5 v6 w w' c' N M L s'):DuoOut w0 B xb sb g (fun k=>F k\/bO xb v0 v1 v2 v3 v4 v5 v6 k) w w' c' N M L s':=by
 obtain⟨u6,F',h1,h2,h3⟩:=h.ex
 exact⟨⟨v0,v1,v2,v3,v4,v5,u6,F',h1,h2,h3⟩,h.chg⟩
theorem pC [LoM] {w0:World}{F:Nat->Prop}{N:Nat}{M L:Int}{B:Nat}{w:World}{xb sb:Nat}{g:Cfg}{c:aY}{v0 v1 v2 v3 v4 v5 v6:Value}{s:ay}(hE:Env w0)(hCl:ClAt B w xb sb g c v0 v1 v2 v3 v4 v5 v6)(hLv:LiveF w0 F N M L w sb s)(hB0:w0.heap.size<=B)(hB:B<=w.heap.size){fr:List Int}{fa:Option Addr}{fl fc:Nat}(hfv:RdB w (.slice fa fl fc) fr)(hfr:fr.length<=1000)(hp:c.old.length<=1000000000)(hrec:(bg s 1 (bK 300 c.old.length fr)).2=[])(hM0:0<=M)(hM:M<=100000000000000)(hN:N<=100000000000000):
  Calls Tryz.prog 39 #[.pointer (some ⟨xb,0,none⟩),.slice fa fl fc] w fun e w'=>e=.returned (.tuple #[])/\SendOut w0 B xb sb g F v0 v1 v2 v3 v4 v5 v6 w w' {c with old:=c.old++[fr]} (N+1200) (M+1200) (L+2) (bg s 1 (bK 300 c.old.length fr)).1:=by
 obtain⟨i0,hi,hz0,hz1,hz2⟩:=info_parts uY
 obtain⟨os,hC,hos,hold⟩:=hCl.ex
 have HDa:=ab (nC 300 c.old.length fr (.slice fa fl fc) w (by decide) (by omega) hfv (by omega))
 have hdl:(bK 300 c.old.length fr).length<=1020:=by
  have k1:=aZ 300
  have k2:=aZ (c.old.length:Int)
  simp only[bK,List.length_append,List.length_cons,List.length_nil]
  omega
 have hdb:Bytes (bK 300 c.old.length fr):=kF (by decide) (by omega) hfv.1
 have x20:w.cell? ⟨xb,20,none⟩= some (.int .i64 (c.old.length:Int)):=aj hC.blk 20
 obtain⟨oa,ocp,e6⟩:∃a cp,v6=.slice a c.old.length cp:=by
  rw[<-hos]
  exact aH (hC.rows.own 6 v6 (44,os) rfl rfl)
 subst e6
 have HC:=ab hC
 have HL:=ab hLv
 have HOld:=ab hold
 have HOs:=ab hos
 have HE:=ab hE
 have HRec:=ab hrec
 have HDb:=ab hdb
 clear hC hCl hLv hold hos hE hrec hfv hdb
 go_enter Tryz.func39,Tryz.ntmps39
 go_wp2_with fail
 refine HDa.out.mono ?_
 rintro e w1 ⟨dv,rfl,hdo,hb1⟩
 obtain⟨da,dc,rfl⟩:=aH hdo
 have HR1:=ab (RdT.of_own hdo HDb.out (by omega))
 have HC1:=ab ((HC.out.below hb1).g)
 have HL1:=ab (HL.out.below hb1)
 have HB1:=ab hb1
 have x20:w1.cell? ⟨xb,20,none⟩= some (.int .i64 (c.old.length:Int)):=aj HC1.out.cl.blk 20
 have z20:∀q,w1.frozen? ⟨xb,q,none⟩= false:=eU HC1.out.cl
 clear hdo hb1 HDa
 generalize hd:bK 300 c.old.length fr=d at *
 obtain⟨dl,hdl2⟩:∃dl,d.length=dl:=⟨_,rfl⟩
 have HD:=ab (And.intro hd hdl2)
 rw[hdl2]at HR1 hdl⊢
 clear hd hdl2
 generalize hpn:c.old.length=p at *
 have HPn:=ab hpn
 clear hpn
 go_upto_region 2 with fail
 have HC2:=ab (HC1.out.scal (ok':=true) (credit':=c.credit) (lim':=c.strs.length) (packet':=(p:Int)+1) 20 (.int .i64 ((p:Int)+1)) rfl)
 clear x20 z20
 generalize w1.setCell ⟨xb,20,none⟩ (.int .i64 ((p:Int)+1))=w2 at HC2⊢
 have x21:w2.cell? ⟨xb,21,none⟩= some (.slice oa p ocp):=aj HC2.out.cl.blk 21
 have HLt:=ab (cJ w2 44 [.slice da dl dc] (by simp[maxLen]))
 have HO:=ab (aF (HC2.out.own 6 (v:=.slice oa p ocp) (l:=os) rfl rfl HOs.out) (ag w2 (.cells #[.slice da dl dc] 44)))
 have hs2:B<=(w2.alloc (.cells #[.slice da dl dc] 44)).heap.size:=by have:=HC2.out.chg.size;have:=HB1.out.size;simp;omega
 go_upto_region 3 with(first
  |(at_builtin;refine cL rfl _ _ 40 rfl B 44 i0 (.slice none 0 0) 1 24 Tryz.underlying40 hi hz0 hz1 hz2 rfl (by decide) (.slice oa p ocp) p os rfl HO.out ⟨w2.heap.size,0,none⟩ 1 1 [.slice da dl dc] rfl rfl HLt.out (by simp[Value.oneCell']) (by unfold maxLen;omega) (by omega) hs2 ?_;intro y6 w3 hown hgrow hnear;obtain⟨d6,e6,rfl⟩:=aH hown;have hblk:=HC2.out.cl.grew (lMm (i:=6) rfl) (ag w2 _) hgrow;have xq:w3.cell? ⟨xb,21,none⟩= some (.slice oa p ocp):=aj hblk 21;have zq:w3.frozen? ⟨xb,21,none⟩= false:=frozen_of_row w3 xb 21 _ _ hblk))
 have HC3:=ab (HC2.out.push 6 21 (u:=.slice da dl dc) (l:=os) (u0:=v0) (u1:=v1) (u2:=v2) (u3:=v3) (u4:=v4) (u5:=v5) (u6:=.slice d6 (p+1) e6) (packet':=(p:Int)+1) rfl (ag w2 _) hgrow hnear hown HOs.out (by simp[je]) rfl rfl)
 clear hown hgrow hnear hblk xq zq x21 HLt HO hs2 HC2
 generalize w3.setCell ⟨xb,21,none⟩ (.slice d6 (p+1) e6)=w4 at HC3⊢
 have HL4:=ab (HL1.out.cli (HC1.out.cl) HC3.out.chg hB0)
 have HR4:=ab (HR1.out.cli HC1.out.cl HC3.out.chg)
 have HO4:Hid (∀(q:Nat) (v:Value) (f:List Int),os[q]? =some v->c.old[q]? =some f->RdT w4 v (bK 300 q f)):=fun q v f h1 h2=>((HOld.out q v f h1 h2).1.below HB1.out).cli HC1.out.cl HC3.out.chg
 have x0:w4.cell? ⟨xb,0,none⟩= some (.pointer (some ⟨sb,0,none⟩)):=aj HC3.out.cl.blk 0
 have HRc:=ab (HL4.out.receive HE.out 1 HR4.out.rdb (by rw[HD.out.2];omega) hM0 (by rw[HD.out.2];omega) (by rw[HD.out.2];omega))
 rw[HRec.out]at HRc
 have HOl:Hid (∀(q:Nat) (v:Value) (f:List Int),os[q]? =some v->c.old[q]? =some f->f.length<=1000):=fun q v f h1 h2=>(HOld.out q v f h1 h2).2
 clear HC1 HL1 HR1 HOld HRec
 go_wp2_with fail
 refine HRc.out.mono ?_
 rintro e w5 ⟨⟨v,rfl,ho⟩,hmo⟩
 obtain⟨ra,rc,rfl⟩:=ho.form
 have HC5:=ab (HC3.out.cl.srv HL4.out hmo.chg)
 have HR5:=ab (HR4.out.srv HL4.out hmo.chg)
 have HO5:Hid (∀(q:Nat) (v:Value) (f:List Int),os[q]? =some v->c.old[q]? =some f->RdT w5 v (bK 300 q f)):=fun q v f h1 h2=>(HO4.out q v f h1 h2).srv HL4.out hmo.chg
 have HMo:=ab hmo
 have x11:w5.cell? ⟨xb,11,none⟩= some (.bool true):=aj HC5.out.blk 11
 have z11:∀q,w5.frozen? ⟨xb,q,none⟩= false:=eU HC5.out
 clear ho hmo HRc x0 HO4
 go_wp2_with fail
 go_end0
 refine⟨rfl,?_⟩
 obtain⟨F',hF',hin⟩:=HMo.out.ex
 have hdl3:=HD.out.2
 have hd3:=HD.out.1
 have hp3:=HPn.out
 have hos:=HOs.out
 have hC6:=HC5.out.scal (ok':=true) (credit':=c.credit) (lim':=c.strs.length) (packet':=(p:Int)+1) 11 (.bool true) rfl
 have hc6:Chg (bO xb v0 v1 v2 v3 v4 v5 (.slice d6 (p+1) e6)) w5 (w5.setCell ⟨xb,11,none⟩ (.bool true)):=(eS w5 xb 11 _).mono (fun k _ e=>Or.inl e)
 have hL6:=(hF'.mono (N':=N+1200) (M':=M+1200) (L':=L+2) (by omega) (by omega) (by omega)).cli HC5.out hc6 hB0
 have s1:=HB1.out.size
 have s4:=HC3.out.chg.size
 refine⟨⟨.slice d6 (p+1) e6,F',⟨os++[.slice da dl dc],?_,by simp[hos,hp3],fun q v f h1 h2=>?_⟩,?_,fun k hk=>?_⟩,⟨?_,?_,?_,?_,fun k hk hn=>?_⟩⟩
 ·have e:(((c.old++[fr]).length:Nat):Int)=(p:Int)+1:=by simp[hp3]
  rw[e]
  exact hC6
 ·rcases Nat.lt_or_ge q os.length with hq|hq
  ·rw[List.getElem?_append_left hq]at h1
   rw[List.getElem?_append_left (by omega)]at h2
   exact⟨(HO5.out q v f h1 h2).cli HC5.out hc6,HOl.out q v f h1 h2⟩
  ·have hq2:q=p:=by
    have:=(lLt h1)
    simp at this
    omega
   rw[List.getElem?_append_right hq]at h1
   rw[List.getElem?_append_right (by omega)]at h2
   rw[show q-os.length=0 by omega]at h1
   rw[show q-c.old.length=0 by omega]at h2
   simp only[List.getElem?_cons_zero,Option.some.injEq]at h1 h2
   subst h1 h2
   rw[hq2,hd3]
   exact⟨HR5.out.cli HC5.out hc6,hfr⟩
 ·rw[hp3,hd3]
  exact hL6
 ·rcases hk with hk|hk
  ·rcases hin k hk with h1|h1
   ·exact Or.inl (Or.inl h1)
   ·exact Or.inr (by omega)
  ·rcases HC3.out.inn k hk with h1|h1
   ·exact Or.inl (Or.inr (by rw[hp3];exact h1))
   ·exact Or.inr (by omega)
 ·exact HMo.out.chg.os.trans (HC3.out.chg.os.trans HB1.out.os)
 ·exact HMo.out.chg.tape.trans (HC3.out.chg.tape.trans HB1.out.tape)
 ·exact HMo.out.chg.output.trans (HC3.out.chg.output.trans HB1.out.output)
 ·rw[World.size_setCell]
  have:=HMo.out.chg.size
  omega
 ·rw[hp3]at hn
  rw[Below.heap_setCell _ _ _ _ (fun e=>hn (Or.inr (Or.inl e))),HMo.out.chg.block k (by omega) (fun e=>hn (Or.inl e)),HC3.out.chg.block k (by omega) (fun e=>hn (Or.inr e)),HB1.out.block k hk]
theorem ksends_any [LoM] {w0:World}{F:Nat->Prop}{N:Nat}{M L:Int}{B:Nat}{w:World}{xb sb:Nat}{g:Cfg}{c:aY}{v0 v1 v2 v3 v4 v5 v6:Value}{s:ay}(hE:Env w0)(hCl:ClAt B w xb sb g c v0 v1 v2 v3 v4 v5 v6)(hLv:LiveF w0 F N M L w sb s)(hB0:w0.heap.size<=B)(hB:B<=w.heap.size){fr:List Int}{fa:Option Addr}{fl fc:Nat}(hfv:RdB w (.slice fa fl fc) fr)(hfr:fr.length<=1000)(hp:c.old.length<=1000000000)(hrec:(bg s 1 (bK 300 c.old.length fr)).2=[])(hM0:0<=M)(hM:M<=100000000000000)(hN:N<=100000000000000):
  Calls Tryz.prog 39 #[.pointer (some ⟨xb,0,none⟩),.slice fa fl fc] w fun e w'=>e=.returned (.tuple #[])/\DuoOut w0 B xb sb g (fun k=>F k\/bO xb v0 v1 v2 v3 v4 v5 v6 k) w w' {c with old:=c.old++[fr]} (N+1200) (M+1200) (L+2) (bg s 1 (bK 300 c.old.length fr)).1:=by
 refine(pC hE hCl hLv hB0 hB hfv hfr hp hrec hM0 hM hN).mono ?_
 rintro e w' ⟨rfl,h⟩
 exact⟨rfl,h.duo⟩
theorem qJ(l:List (Int×Value)):∀(k:Nat) (x:Int×Value),l[k]? =some x->(bU l)[2*k]? =some (.int .i64 x.1)/\(bU l)[2*k+1]? =some x.2:=by
 induction l with
 |nil=>intro k x h;simp at h
 |cons a t ih=>
  intro k x h
  have e:bU (a::t)=.int .i64 a.1::a.2::bU t:=by simp[bU]
  rw[e]
  cases k with
  |zero=>
   simp only[List.getElem?_cons_zero,Option.some.injEq]at h
   subst h
   simp
  |succ k=>
   simp only[List.getElem?_cons_succ]at h
   obtain⟨h1,h2⟩:=ih k x h
   rw[show 2*(k+1)=2*k+1+1 by omega,show 2*k+1+1+1=(2*k+1)+1+1 by omega]
   simp only[List.getElem?_cons_succ]
   exact⟨h1,h2⟩
theorem tp{w:World}{base:Nat}{ao:Option Addr}{n cap:Nat}{outs:List (Int×List Int)}(h:OutsAt w base (.slice ao n cap) outs){k:Nat}{a:Int}{B:List Int}(hk:outs[k]? =some (a,B)):∃ga bv,ao=some ⟨ga,0,none⟩/\w.cell? ⟨ga,k*2,none⟩= some (.int .i64 a)/\w.cell? ⟨ga,k*2+1,none⟩= some bv/\w.ownsRow base 5 1 bv B.length (U8 B):=by
 obtain⟨out,h1,h2⟩:=h
 have hlt:k<out.length:=by rw[h2.1];exact(lLt hk)
 obtain⟨e1,e2⟩:=h2.2.1 k _ _ (lGe hlt) hk
 obtain⟨q1,q2⟩:=qJ out k _ (lGe hlt)
 rw[Nat.mul_comm]at q1 q2
 have hl2:=jH out
 obtain⟨_,⟨_,h0⟩|⟨g,cap',cur,e,_,hg,_,_,_,ht⟩⟩:=h1
 ·omega
 ·simp only[Value.slice.injEq]at e
  obtain⟨rfl,_,rfl⟩:=e
  refine⟨g,out[k].2,rfl,?_,?_,e2⟩
  ·have q:=q1
   rw[<-ht,List.getElem?_take,if_pos (by omega),Array.getElem?_toList]at q
   simp only[World.cell?,hg]
   rw[e1]at q
   simpa using q
  ·have q:=q2
   rw[<-ht,List.getElem?_take,if_pos (by omega),Array.getElem?_toList]at q
   simp only[World.cell?,hg]
   simpa using q
theorem reads_from{w:World}{base bb n cap:Nat}{l:List Int}(h:w.ownsRow base 5 1 (.slice (some ⟨bb,0,none⟩) n cap) n (U8 l))(hl:l.length=n)(hb:Bytes l)(hn:n<=1000000)(k:Nat)(hk:k<n):Reads w (.slice (some ⟨bb,k,none⟩) (n-k) (cap-k)) (l.drop k):=by
 have hc:n<=cap:=by
  obtain⟨g,cap',e,_,_,hc⟩:=dp h (by omega)
  simp only[Value.slice.injEq]at e
  omega
 have hd:(l.drop k).length=n-k:=by rw[List.length_drop,hl]
 refine⟨hb.drop k,by omega,Or.inr ⟨by omega,bb,k,cap-k,by rw[hd],by omega,fun j hj=>?_⟩⟩
 have e:=dQ h (k+j) (by omega)
 rw[Nat.zero_add]at e
 rw[e]
 simp[List.getD_eq_getElem?_getD,List.getElem?_drop]
theorem get_at [LoM] {W:World}(hE:Env W){base bb n cap:Nat}{l:List Int}(h:W.ownsRow base 5 1 (.slice (some ⟨bb,0,none⟩) n cap) n (U8 l))(hl:l.length=n)(hb:Bytes l)(hn:n<=1000000)(k:Nat)(hk:k<n){x:Int}{r:List Int}(hd:l.drop k=az x++r)(hx:0<=x/\x<=1073741823):Calls Tryz.prog 56 #[.slice (some ⟨bb,k,none⟩) (n-k) (cap-k)] W fun e w'=>e=.returned (.tuple #[.int .i64 x,.int .i64 ((az x).length:Int),.int .i64 0])/\Below W.heap.size W w':=by
 have hr:=reads_from h hl hb hn k hk
 have hg:=qs _ _ W hE hr
 rw[hd]at hg
 have e1:=(gH hx r).2
 have e2:=(gH hx r).1
 have e3:sX (az x++r)=0:=by
  unfold sX
  rw[if_neg (jF hx r)]
 rw[e1,e2,e3]at hg
 exact hg
theorem ClG.then{B:Nat}{w:World}{F:Nat->Prop}{W W':World}{xb sb:Nat}{g:Cfg}{ok ok':Bool}{credit lim packet credit' lim' packet':Int}{v0 v1 v2 v3 v4 v5 v6 u0 u1 u2 u3 u4 u5 u6:Value}{ts ts':List (TypeId×List Value)}(h:ClG B w F W xb sb g ok credit lim packet v0 v1 v2 v3 v4 v5 v6 ts)(k:ClG B W (bO xb v0 v1 v2 v3 v4 v5 v6) W' xb sb g ok' credit' lim' packet' u0 u1 u2 u3 u4 u5 u6 ts'):ClG B w F W' xb sb g ok' credit' lim' packet' u0 u1 u2 u3 u4 u5 u6 ts':=by
 have hs:=h.chg.size
 refine⟨k.cl,⟨k.chg.os.trans h.chg.os,k.chg.tape.trans h.chg.tape,k.chg.output.trans h.chg.output,Nat.le_trans hs k.chg.size,fun q hq hF=>?_⟩,fun q hq=>?_⟩
 ·rw[k.chg.block q (by omega) (fun e=>(h.inn q e).elim hF (fun h1=>by omega)),h.chg.block q hq hF]
 ·rcases k.inn q hq with h1|h1
  ·exact h.inn q h1
  ·exact Or.inr (by omega)
theorem OutsAt.cli{w w':World}{b:Nat}{v:Value}{o:List (Int×List Int)}(ho:OutsAt w b v o){B:Nat}{xb sb:Nat}{g:Cfg}{ok:Bool}{credit lim packet:Int}{v0 v1 v2 v3 v4 v5 v6:Value}{ts:List (TypeId×List Value)}(hC:ClB B w xb sb g ok credit lim packet v0 v1 v2 v3 v4 v5 v6 ts)(hc:Chg (bO xb v0 v1 v2 v3 v4 v5 v6) w w'):OutsAt w' b v o:=by
 refine ho.chg hc (fun k cur fr hk e=>?_) (fun _ cur fr hk e=>(jR hC e).2 cur fr hk)
 obtain⟨_,_,cur',e',h1,h2⟩:=hC.types e
 rw[hk]at h1
 simp only[Option.some.injEq,Obj.cells.injEq]at h1
 rw[<-h1.2.1]at h2
 simp[je]at h2
theorem news300(f:List Int):cg 300 f=4::65::44::f:=by simp[cg,az]
theorem okEs_at{g:Cfg}:∀(l:List Ev) {c:aY} (k:Nat) (e:Ev),oB g c l->l[k]? =some e->okE g ((l.take k).foldl (bk g) c) e
 |[],_,k,e,_,h=>by simp at h
 |a::r,c,0,e,ho,h=>by
  simp only[List.getElem?_cons_zero,Option.some.injEq]at h
  subst h
  exact ho.1
 |a::r,c,k+1,e,ho,h=>by
  simp only[List.getElem?_cons_succ]at h
  exact okEs_at r k e ho.2 h
theorem xe(g:Cfg)(l:List Ev)(c:aY)(k:Nat)(e:Ev)(h:l[k]? =some e):(l.take (k+1)).foldl (bk g) c=bk g ((l.take k).foldl (bk g) c) e:=by
 obtain⟨hlt,he⟩:=List.getElem?_eq_some_iff.1 h
 rw[List.take_succ_eq_append_getElem hlt,List.foldl_append,he]
 rfl
theorem ClB.lim_eq{B:Nat}{w:World}{xb sb:Nat}{g:Cfg}{ok:Bool}{credit lim lim' packet:Int}{v0 v1 v2 v3 v4 v5 v6:Value}{ts:List (TypeId×List Value)}(h:ClB B w xb sb g ok credit lim packet v0 v1 v2 v3 v4 v5 v6 ts)(e:lim=lim'):ClB B w xb sb g ok credit lim' packet v0 v1 v2 v3 v4 v5 v6 ts:=by
 subst e
 exact h
theorem bH{l:List KS}{i:Nat}{k k':KS}(f:KS->Int)(hk:l[i]? =some k)(h:f k'=f k):(l.set i k').map f=l.map f:=by
 rw[List.map_set,h]
 exact e7 (by rw[List.getElem?_map,hk];rfl)
theorem cZ{l:List KS}{i:Nat}{k k':KS}(f:KS->Bool)(hk:l[i]? =some k)(h:f k'=f k):(l.set i k').map f=l.map f:=by
 rw[List.map_set,h]
 exact e7 (by rw[List.getElem?_map,hk];rfl)
theorem vF{l:List KS}{i:Nat}{k:KS}{os:List Value}{m:Int}(hk:l[i]? =some k):(bJ l os).set 0 ((KI (l.map (·.piece))).1,(KI (l.map (·.piece))).2.set i (.int .i64 m))=bJ (l.set i {k with piece:=m}) os:=by
 unfold bJ
 rw[bH (k':={k with piece:=m}) (·.high) hk rfl,bH (k':={k with piece:=m}) (·.fin) hk rfl,cZ (k':={k with piece:=m}) (fun _=>false) hk rfl,bH (k':={k with piece:=m}) (·.read) hk rfl,cZ (k':={k with piece:=m}) (·.done) hk rfl]
 simp only[List.set_cons_zero,KI,List.map_set,mj]
theorem khears_any [LoM] {w0:World}{B:Nat}{w:World}{xb sb:Nat}{g:Cfg}{c:aY}{v0 v1 v2 v3 v4 v5 v6:Value}{os:List Value}(hE:Env w0)(hw0:Below w0.heap.size w0 w)(hC:ClB B w xb sb g true c.credit c.strs.length c.old.length v0 v1 v2 v3 v4 v5 v6 (bJ c.strs os))(hB0:w0.heap.size<=B)(hB:B<=w.heap.size){evs:List Ev}(hok:oB g c evs)(hel:evs.length<=3)(hsl:c.strs.length<=500000000){b:Nat}{la:Option Addr}{ln lc:Nat}(ho:OutsAt w b (.slice la ln lc) (ey evs)):
  Calls Tryz.prog 40 #[.pointer (some ⟨xb,0,none⟩),.slice la ln lc] w fun e w'=>e=.returned (.tuple #[])/\∃u0 u1 u2 u3 u4 u5,ClG B w (bO xb v0 v1 v2 v3 v4 v5 v6) w' xb sb g true (evs.foldl (bk g) c).credit (evs.foldl (bk g) c).strs.length c.old.length u0 u1 u2 u3 u4 u5 v6 (bJ (evs.foldl (bk g) c).strs os):=by
 have hln:ln=evs.length:=by
  obtain⟨_,_,e⟩:=ho.form
  simp only[Value.slice.injEq]at e
  rw[e.2.1]
  simp[ey]
 subst hln
 have HC:=ab hC.g
 have HO:=ab ho
 have HOk:=ab hok
 have HE:=ab (And.intro hE hw0)
 have hlen:∀k:Nat,((evs.take k).foldl (bk g) c).strs.length<=c.strs.length+k:=by
  intro k
  have:∀(l:List Ev) (c:aY),(l.foldl (bk g) c).strs.length<=c.strs.length+l.length:=by
   intro l
   induction l with
   |nil=>intro c;simp
   |cons e r ih=>
    intro c
    have h1:=ih (bk g c e)
    have h2:(bk g c e).strs.length<=c.strs.length+1:=by
     cases e using evCas with
     |piece i m=>simp only[bk];split<;>simp
     |data m=>simp[bk]
     |streams m=>simp[bk]
    simp only[List.foldl_cons,List.length_cons]
    omega
  have h:=this (evs.take k) c
  have:(evs.take k).length<=k:=by simp;omega
  omega
 have HLn:=ab hlen
 clear hC ho hok hlen hE hw0
 go_enter Tryz.func40,Tryz.ntmps40
 go_wp2_with fail
 go_loopg [4] evs.length (fun gk i wr=>∃k:Nat,i=.int .i64 k/\k<=evs.length/\gk=evs.length-k/\Hid (∃u0 u1 u2 u3 u4 u5,ClG B w (bO xb v0 v1 v2 v3 v4 v5 v6) wr xb sb g true ((evs.take k).foldl (bk g) c).credit ((evs.take k).foldl (bk g) c).strs.length c.old.length u0 u1 u2 u3 u4 u5 v6 (bJ ((evs.take k).foldl (bk g) c).strs os)))
 case atStart=>exact⟨0,rfl,Nat.zero_le _,rfl,⟨v0,v1,v2,v3,v4,v5,HC.out⟩⟩
 case round=>
  obtain⟨k,rfl,hk,rfl,HU⟩:=hrel
  by_cases hlt:k<evs.length
  ·obtain⟨e,he⟩:∃e,evs[k]? =some e:=⟨_,lGe hlt⟩
   have hlt':(k:Int)<(evs.length:Int):=by omega
   have hoe:=okEs_at evs k e HOk.out he
   have HNx:=ab (xe g evs c k e he)
   obtain⟨u0,u1,u2,u3,u4,u5,hG⟩:=HU.out
   have hout:=HO.out.cli HC.out.cl hG.chg
   obtain⟨ga,bv,rfl,q0,q1,hbv⟩:=tp hout (k:=k) (a:=1) (B:=cg 300 (evL e)) (by simp[ey,he])
   have hcl:=HLn.out k
   have HG:=ab hG
   have hcw:Below w0.heap.size w0 wr:=by
    have hb:=HE.out.2
    have hc:=hG.chg
    exact⟨hc.os.trans hb.os,hc.tape.trans hb.tape,hc.output.trans hb.output,Nat.le_trans hb.size hc.size,fun q hq=>by rw[hc.block q (Nat.lt_of_lt_of_le hq hb.size) (fun e=>by have:=(HC.out.cl.types e).1;omega),hb.block q hq]⟩
   have HEw:=ab (HE.out.1.below hcw)
   have hsw:=hG.chg.size
   clear HU hG hout HOk hcw
   generalize (evs.take k).foldl (bk g) c=ck at *
   have x11:wr.cell? ⟨xb,11,none⟩= some (.bool true):=aj HG.out.cl.blk 11
   have x12:wr.cell? ⟨xb,12,none⟩= some (.int .i64 ck.credit):=aj HG.out.cl.blk 12
   rw[news300]at hbv
   cases e using evCas with
   |data m=>
    obtain⟨h1,h2,h3,h4⟩:=hoe
    have hpl:=aZ m
    have hBy:Bytes (4::65::44::evL (Sum.inr (Sum.inl m))):=Bytes.cons (by decide) (Bytes.cons (by decide) (Bytes.cons (by decide) (Bytes.cons (by decide) (bw _ (by omega) (by omega)))))
    have hlen:(4::65::44::evL (Sum.inr (Sum.inl m))).length=4+(az m).length:=by simp[evL];omega
    rw[hlen]at hbv
    obtain⟨nb,hnb⟩:∃nb,4+(az m).length=nb:=⟨_,rfl⟩
    rw[hnb]at hbv hlen
    obtain⟨bb,bc,rfl,_,_,hbc⟩:=dp hbv (by omega)
    have m0:wr.cell? ⟨bb,0,none⟩= some (.int .u8 4):=dQ hbv 0 (by simp)
    have m3:wr.cell? ⟨bb,3,none⟩= some (.int .u8 16):=dQ hbv 3 (by simp[evL])
    have HGn:=ab (get_at HEw.out hbv hlen hBy (by omega) 4 (by omega) (x:=m) (r:=[]) (by simp[evL]) (by omega))
    have hnb5:5<=nb:=by omega
    have hnb9:nb<=8:=by omega
    clear hbv hlen hBy hpl hnb
    go_wp2_with fail
    refine HGn.out.mono ?_
    rintro e w1 ⟨rfl,hb1⟩
    have HG1:=ab (HG.out.below hb1)
    have x11:w1.cell? ⟨xb,11,none⟩= some (.bool true):=aj HG1.out.cl.blk 11
    have x12:w1.cell? ⟨xb,12,none⟩= some (.int .i64 ck.credit):=aj HG1.out.cl.blk 12
    have z1:∀q,w1.frozen? ⟨xb,q,none⟩= false:=eU HG1.out.cl
    clear hb1 HGn HG m0 m3 q0 q1
    go_wp2_with fail
    go_roundg (evs.length-(k+1))
    case measure=>omega
    case rel=>
     refine⟨k+1,by go_num,by omega,rfl,⟨u0,u1,u2,u3,u4,u5,?_⟩⟩
     rw[HNx.out]
     exact(HG1.out.scal (ok':=true) (credit':=ck.credit) (lim':=ck.strs.length) (packet':=c.old.length) 11 (.bool true) rfl).scal (ok':=true) (credit':=m) (lim':=ck.strs.length) (packet':=c.old.length) 12 (.int .i64 m) rfl
   |piece i m=>
    obtain⟨ks,hks,h1,h2,h3,h4⟩:=hoe
    have hilt:=(lLt hks)
    have hpl:=aZ m
    have hpi:=aZ i
    have hBy:Bytes (4::65::44::evL (Sum.inl (i,m))):=Bytes.cons (by decide) (Bytes.cons (by decide) (Bytes.cons (by decide) ((Bytes.cons (by decide) (bw _ (by omega) (by omega))).append (bw _ (by omega) (by omega)))))
    have hlen:(4::65::44::evL (Sum.inl (i,m))).length=4+(az i).length+(az m).length:=by simp[evL];omega
    rw[hlen]at hbv
    obtain⟨pi,hpi2⟩:∃pi,(az (i:Int)).length=pi:=⟨_,rfl⟩
    rw[hpi2]at hbv hlen hpi
    obtain⟨nb,hnb⟩:∃nb,4+pi+(az m).length=nb:=⟨_,rfl⟩
    rw[hnb]at hbv hlen
    obtain⟨bb,bc,rfl,_,_,hbc⟩:=dp hbv (by omega)
    have m0:wr.cell? ⟨bb,0,none⟩= some (.int .u8 4):=dQ hbv 0 (by simp)
    have m3:wr.cell? ⟨bb,3,none⟩= some (.int .u8 17):=dQ hbv 3 (by simp[evL])
    have HGn:=ab (get_at HEw.out hbv hlen hBy (by omega) 4 (by omega) (x:=i) (r:=az m) (by simp[evL]) (by omega))
    rw[hpi2]at HGn
    have HG2:=ab (fun W (hW:Below wr.heap.size wr W)=>get_at (HEw.out.below hW) (aF hbv hW) hlen hBy (by omega) (4+pi) (by omega) (x:=m) (r:=[]) (by rw[show evL (Sum.inl (i,m))=[17]++az i++az m from rfl,<-hpi2];simp[Nat.add_comm 4]) (by omega))
    have hnb5:4+pi<nb:=by omega
    have hnb9:nb<=12:=by omega
    have hpi0:1<=pi:=by omega
    clear hbv hlen hBy hpl hnb hpi hpi2
    go_wp2_with fail
    refine HGn.out.mono ?_
    rintro e w1 ⟨rfl,hb1⟩
    have HB1:=ab hb1
    clear hb1 HGn
    go_wp2_with fail
    refine(HG2.out w1 HB1.out).mono ?_
    rintro e w2 ⟨rfl,hb2⟩
    have HGa:=ab ((HG.out.below HB1.out).below hb2)
    obtain⟨pb,pc,rfl,p0,z0⟩:=HGa.out.cl.at hks 0 (v:=u0) (f:=(·.piece)) rfl rfl
    have x13:w2.cell? ⟨xb,13,none⟩= some (.slice (some ⟨pb,0,none⟩) ck.strs.length pc):=aj HGa.out.cl.blk 13
    have x14:w2.cell? ⟨xb,14,none⟩= some (.int .i64 (ck.strs.length:Int)):=aj HGa.out.cl.blk 14
    have hi':(i:Int)<(ck.strs.length:Int):=by omega
    have HKs:=ab hks
    clear hb2 HB1 HG2 HG m0 m3 q0 q1 x11 x12 hks
    generalize ks.piece=pp at p0 h1 h4
    go_wp2_with fail
    go_roundg (evs.length-(k+1))
    case measure=>omega
    case rel=>
     refine⟨k+1,by go_num,by omega,rfl,⟨.slice (some ⟨pb,0,none⟩) ck.strs.length pc,u1,u2,u3,u4,u5,?_⟩⟩
     rw[HNx.out,jX HKs.out]
     have hq:=HGa.out.put (i:=0) (t:=KI (ck.strs.map (·.piece))) rfl rfl i (.int .i64 m)
     have e1:(bJ ck.strs os).set 0 ((KI (ck.strs.map (·.piece))).1,(KI (ck.strs.map (·.piece))).2.set i (.int .i64 m))=bJ (ck.strs.set i {ks with piece:=m}) os:=vF HKs.out
     rw[e1]at hq
     simp only[List.length_set]
     exact hq
   |streams m=>
    obtain⟨h1,h3⟩:=hoe
    have hpl:=aZ m
    have hBy:Bytes (4::65::44::evL (Sum.inr (Sum.inr m))):=Bytes.cons (by decide) (Bytes.cons (by decide) (Bytes.cons (by decide) (Bytes.cons (by decide) (bw _ (by omega) (by omega)))))
    have hlen:(4::65::44::evL (Sum.inr (Sum.inr m))).length=4+(az m).length:=by simp[evL];omega
    rw[hlen]at hbv
    obtain⟨nb,hnb⟩:∃nb,4+(az m).length=nb:=⟨_,rfl⟩
    rw[hnb]at hbv hlen
    obtain⟨bb,bc,rfl,_,_,hbc⟩:=dp hbv (by omega)
    have m0:wr.cell? ⟨bb,0,none⟩= some (.int .u8 4):=dQ hbv 0 (by simp)
    have m3:wr.cell? ⟨bb,3,none⟩= some (.int .u8 18):=dQ hbv 3 (by simp[evL])
    have HGn:=ab (get_at HEw.out hbv hlen hBy (by omega) 4 (by omega) (x:=m) (r:=[]) (by simp[evL]) (by omega))
    have hnb5:5<=nb:=by omega
    have hnb9:nb<=8:=by omega
    have HM:Hid (m=((ck.strs.length+1:Nat):Int)):=ab (by omega)
    have hmb:(m==(ck.strs.length:Int)+1)=true:=by simp[h1]
    have hm0:0<=m:=by omega
    clear hbv hlen hBy hpl hnb h1
    go_wp2_with fail
    refine HGn.out.mono ?_
    rintro e w1 ⟨rfl,hb1⟩
    have HG1:=ab (HG.out.below hb1)
    have x11:w1.cell? ⟨xb,11,none⟩= some (.bool true):=aj HG1.out.cl.blk 11
    have x14:w1.cell? ⟨xb,14,none⟩= some (.int .i64 (ck.strs.length:Int)):=aj HG1.out.cl.blk 14
    have z1:∀q,w1.frozen? ⟨xb,q,none⟩= false:=eU HG1.out.cl
    have HG2:=ab ((HG1.out.scal (ok':=true) (credit':=ck.credit) (lim':=ck.strs.length) (packet':=c.old.length) 11 (.bool true) rfl).scal (ok':=true) (credit':=ck.credit) (lim':=m) (packet':=c.old.length) 14 (.int .i64 m) rfl)
    have hsz1:=HG1.out.chg.size
    have HKs:=ab (mF (lim:=ck.strs.length+1) (HG2.out.cl.lim_eq HM.out) (by omega) (by omega) (by simp only[World.size_setCell];omega))
    clear hb1 HGn HG m0 m3 q0 q1
    go_wp2_with fail
    refine HKs.out.mono ?_
    rintro e w2 ⟨rfl,y0,y1,y2,y3,y4,y5,hcl2,hch2,hin2⟩
    have HG3:=ab (HG2.out.then ⟨hcl2,hch2,hin2⟩)
    clear hcl2 hch2 hin2 HKs HG2 HG1 x11 x14 z1
    go_wp2_with fail
    go_roundg (evs.length-(k+1))
    case measure=>omega
    case rel=>
     refine⟨k+1,by go_num,by omega,rfl,⟨y0,y1,y2,y3,y4,y5,?_⟩⟩
     rw[HNx.out]
     have e1:ck.strs++List.replicate (ck.strs.length+1-ck.strs.length) (dk g.c2)=ck.strs++[dk g.c2]:=by
      rw[show ck.strs.length+1-ck.strs.length=1 by omega]
      rfl
     have h9:=HG3.out
     rw[e1]at h9
     simp only[bk,List.length_append,List.length_singleton]
     exact h9
  ·obtain rfl:k=evs.length:=by omega
   have hlt':¬(evs.length:Int)<(evs.length:Int):=by omega
   obtain⟨u0,u1,u2,u3,u4,u5,hG⟩:=HU.out
   rw[List.take_length]at hG
   have HG:=ab hG
   clear hG HU
   go_wp2_with fail
   go_end0
   exact⟨rfl,u0,u1,u2,u3,u4,u5,HG.out⟩
end Go.Proofs.YthmdjhlhodpbhaaGreatDoor
