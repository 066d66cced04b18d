/- Bounded, 29 -/
import Derived.Test.YthmdjhlhodpbhaaGreatDoorJ27
import Derived.Test.YthmdjhlhodpbhaaGreatDoorJ28
set_option maxHeartbeats 16000000
set_option maxRecDepth 8000
namespace Go.Proofs.YthmdjhlhodpbhaaGreatDoor
open Go.RowKit
section
variable {α : Type} {C : jz α} {P : Program} {K : TypeId}
theorem RangeIs.nd{w:World}{b r n:Nat}{l rs:List (Int×α)}{cnt:Nat}(h:RangeIs C P K w b r n l rs cnt):(rs.map (·.1)).Nodup:=by
 obtain⟨D,left,_,ok,rfl,_⟩:=h
 exact(List.filter_sublist.map _).nodup ok.nd
theorem step_mdel_range{ops:Array Oper}{o:Oper}{a:Act}{w:World}{J:Act->World->Prop}{Q:Exit->Act->World->Prop}{E:Prop}
  (hg:o.guard=none) (m x:Operand) (t:TypeId) (hop:o.op=Op.call {callee:=Callee.builtin Builtin.delete,args:=#[m,x],argTypes:=#[t,K]}) (e:TypeId) (hK:P.underlying K=some (.int .i64)) (ht:P.underlying t=some (.map K e))
  (b r n:Nat) (l rs:List (Int×α)) (cnt:Nat) (hm:a.eval m=.map (some b)) (h:RangeIs C P K w b r n l rs cnt) (k:Int) (y:α) (hx:a.eval x=.int .i64 k) (hk:(Lit.int .i64 k).wf=true) (hy:atK l k=some y) (hno:∀e∈rs,e.1≠k)
  (hGo:∀w' cnt',RangeIs C P K w' b r n (fA l k) rs cnt'->cnt'<=cnt->w.grownBy w' (some b)->w'.heap.size=w.heap.size->J (a.put o.dst (.tuple #[])) w'):
  if Region.wanted o (yielded ops a.tmps)=true then Oper.wp P o a w J Q else E:=by
 have hw:Region.wanted o (yielded ops a.tmps)=true:=by simp[Region.wanted,hg]
 rw[if_pos hw]
 obtain⟨D,left,hr,ok,rfl,hl⟩:=h
 obtain⟨w',cnt',hrun,h1,h2,h3⟩:=hr.drop (Maps.int_keyed hK) ht (Maps.keyOf_int_mk hK hk) o.type
 have hsz:w'.heap.size=w.heap.size:=by
  obtain⟨es,clock,es',clock',hb,rfl⟩:=h3
  simp[ChangeMaps.setBlock]
 unfold Oper.wp
 simp[execOp,hop,resolve,invoke,builtin,hm,hx,hrun,Result.andThen]
 refine hGo w' cnt' ⟨_,_,h1,ok.del (hr.owns.tidy (Maps.int_keyed hK)) hy,?_,?_⟩ h2 h3.grown hsz
 ·unfold fA
  rw[List.filter_filter]
  refine List.filter_congr fun e he=>?_
  by_cases h4:e.1=k
  ·subst h4
   have:left (.int .i64 e.1)=false:=by
    rw[<-Bool.not_eq_true]
    intro h5
    exact hno e (List.mem_filter.2 ⟨he,h5⟩) rfl
   simp[this]
  ·simp[Lit.sameKey,h4]
 ·intro k' hk'
  simp[Lit.sameKey]at hk'
  rw[atK_delK,if_neg hk'.2]
  exact hl k' hk'.1
end
set_option maxRecDepth 4000 in
theorem sdropR_any(N sb:Nat)(s:ay)(cm:Nat)(wv:Value)(cbs:List Nat)(xs:List aD)(ws:List Nat)(i cb:Nat)(cid:Int)(w:World)(h:PBut N w sb s cm wv cbs xs ws i cb cid)(hnd:(s.conns.map (·.cid)).Nodup)(hn:ws.length<=1000)(hcid:-9223372036854775808<=cid/\cid<=9223372036854775807)
  {r n cnt:Nat} {rest:List (Int×Nat)} (hnN:n<=N) (hr:RangeIs cK Tryz.prog 3 w cm r n ((s.conns.map (·.cid)).zip cbs) rest cnt) (hno:∀e∈rest,e.1≠cid):
  Calls Tryz.prog 54 #[.pointer (some ⟨sb,0,none⟩),.pointer (some ⟨cb,0,none⟩)] w fun e w'=>DropOut N w sb {s with conns:=s.conns.eraseIdx i} cm wv (cbs.eraseIdx i) (xs.eraseIdx i) (ws.filter fun b=>b != cb) e w'/\∃cnt',RangeIs cK Tryz.prog 3 w' cm r n (((s.conns.eraseIdx i).map (·.cid)).zip (cbs.eraseIdx i)) rest cnt'/\cnt'<=cnt:=by
 have hm:=hr.map
 obtain⟨c1,plv,sm,dm,past,hone,hoc⟩:=h.one
 obtain⟨c,hi,hcc⟩:=h.at2
 have HCid:=ae (fun W (hW:W.heap=w.heap)=>cCid_any cb s.c c1 plv sm dm past W (by unfold ConBlk at hone⊢;rw[hW];exact hone))
 rw[hoc]at HCid
 have d11:w.cell? ⟨sb,11,none⟩= some (.map (some cm)):=h.blk.cell 11
 have hat:atK ((s.conns.map (·.cid)).zip cbs) cid=some cb:=by
  refine fQ (by rw[List.map_fst_zip (by simp[h.len1])];exact hnd) (List.mem_of_getElem? (i:=i) ?_)
  rw[List.getElem?_zip_eq_some]
  exact⟨by simp[hi,hcc],h.at1⟩
 have HM:Hid (∀W:World,W.heap=w.heap->RangeIs cK Tryz.prog 3 W cm r n ((s.conns.map (·.cid)).zip cbs) rest cnt):=fun W hW=>hr.kept (by rw[hW]) (by rw[hW])
 have HWf:=ae (gV hcid)
 have HAt:=ae hat
 have HNo:=ae hno
 have hisb:=h.isb
 have hmne:cm≠sb:=fun e=>by
  obtain⟨es,ck,hb⟩:=hm.is_map
  have h2:w.heap[sb]? =some (.cells (gF s.c s.now cm wv) 101 (0,0)):=h.blk
  rw[<-e,hb]at h2
  cases h2
 have hmrow:wv.ownBlock≠some cm:=fun e=>by
  obtain⟨es,ck,hb⟩:=hm.is_map
  obtain⟨c2,e2⟩:=aJ h.row e
  rw[hb]at e2
  cases e2
 obtain⟨hrl,x1,x2,x3,x4,hri⟩:=hr.iter
 have hrne:r≠sb:=fun e=>by
  have h2:w.heap[sb]? =some (.cells (gF s.c s.now cm wv) 101 (0,0)):=h.blk
  rw[<-e,hri]at h2
  cases h2
 have hrrow:wv.ownBlock≠some r:=fun e=>by
  obtain⟨c2,e2⟩:=aJ h.row e
  rw[hri]at e2
  cases e2
 have hze:((s.conns.eraseIdx i).map (·.cid)).zip (cbs.eraseIdx i)=fA ((s.conns.map (·.cid)).zip cbs) cid:=by
  rw[map_erase]
  exact zip_erase _ _ i cid hnd (by simp[h.len1]) (by simp[hi,hcc])
 have HEnd:Hid (∀(w1:World) (cnt':Nat),RangeIs cK Tryz.prog 3 w1 cm r n (fA ((s.conns.map (·.cid)).zip cbs) cid) rest cnt'->cnt'<=cnt->Chg (fun k=>k=cm) w w1->Calls Tryz.prog 50 #[.pointer (some ⟨sb,0,none⟩),.pointer (some ⟨cb,0,none⟩)] w1 fun e w'=>DropOut N w sb {s with conns:=s.conns.eraseIdx i} cm wv (cbs.eraseIdx i) (xs.eraseIdx i) (ws.filter fun b=>b != cb) e w'/\∃cnt',RangeIs cK Tryz.prog 3 w' cm r n (((s.conns.eraseIdx i).map (·.cid)).zip (cbs.eraseIdx i)) rest cnt'/\cnt'<=cnt):=by
  intro w1 cnt' hr1 hle hc1
  have hm1:=hr1.map
  have hcb:∀b,IsConB w b->IsConB w1 b:=by
   rintro b ⟨cs,hb⟩
   refine⟨cs,?_⟩
   rw[hc1.block b (Array.getElem?_eq_some_iff.1 hb).1 (fun e=>?_)]
   ·exact hb
   ·obtain⟨es,ck,h2⟩:=hm.is_map
    rw[e,h2]at hb
    cases hb
  refine(gB sb s.c s.now cm wv ws cb w1 (h.blk.chg hc1 (fun e=>hmne e.symm)) (bX h.row hc1 (fun k hk e=>hmrow (e▸hk))) hn (fun b hb=>hcb b (hisb.2 b hb)) (hcb cb hisb.1)).mono ?_
  rintro e w2 ⟨rfl,⟨wv',hS2,ho2,hat2⟩,hc2⟩
  have hc3:Chg (fun k=>k=sb\/k=cm\/wv.ownBlock=some k) w w2:=(hc1.mono fun k _ e=>Or.inr (Or.inl e)).trans (hc2.mono fun k _ e=>e.elim Or.inl (fun e=>Or.inr (Or.inr e)))
  have hcmb:=hc2.block cm hm1.lt (by
   rintro(e|e)
   ·exact hmne e
   ·exact hmrow e)
  refine⟨⟨rfl,⟨wv',h.gone hnd hc3 hS2 hnN (hm1.same hcmb) ho2,?_⟩,hc3⟩,cnt',?_,hle⟩
  ·rcases hat2 with e|e
   ·exact Or.inl e
   ·exact Or.inr fun k hk=>Nat.le_trans hc1.size (e k hk)
  ·rw[hze]
   refine hr1.kept hcmb (hc2.block r (Nat.lt_of_lt_of_le hrl hc1.size) ?_)
   rintro(e|e)
   ·exact hrne e
   ·exact hrrow e
 have HChg:Hid (∀w1:World,w.drew.grownBy w1 (some cm)->Chg (fun k=>k=cm) w w1/\w1.cell? ⟨sb,11,none⟩= some (.map (some cm))):=by
  intro w1 hg
  have hc:Chg (fun k=>k=cm) w w1:=⟨hg.os,hg.tape,hg.output,hg.size,fun k hk hne=>hg.block k hk (fun e=>hne (Option.some.inj e))⟩
  exact⟨hc,(h.blk.chg hc (fun e=>hmne e.symm)).cell 11⟩
 generalize ({s with conns:=s.conns.eraseIdx i}:ay)=s' at HEnd⊢
 generalize ((s.conns.eraseIdx i).map (·.cid)).zip (cbs.eraseIdx i)=L' at HEnd⊢
 generalize cbs.eraseIdx i=cbs' at HEnd⊢
 generalize xs.eraseIdx i=xs' at HEnd⊢
 generalize ws.filter (fun b=>b != cb)=ws' at HEnd⊢
 generalize (s.conns.map (·.cid)).zip cbs=L at HEnd HM HAt
 clear h hm hone hoc hi hcc hat hisb hmne hmrow hnd hn hcid hnN hr hno hri hrne hrrow hze hrl
 go_enter Tryz.func54,Tryz.ntmps54
 go_wp2_with fail
 go_region_held3 (fun w'=>w'.cell? ⟨sb,11,none⟩= some (.map (some cm))) (first|assumption|go_keep) (first
  |(go_at_call 51;refine(HCid.out w.drew rfl).mono ?_;rintro e w1 ⟨rfl,rfl⟩)
  |(refine step_mdel_range (C:=cK) rfl (.tmp 7) (.tmp 9) 98 rfl 97 Tryz.underlying3 Tryz.underlying98 cm r n L rest cnt (by kernel_rfl) (HM.out w.drew rfl) cid cb (by kernel_rfl) HWf.out HAt.out HNo.out ?_;intro w1 cnt1 hm1 hle1 hg1 _;have hk1:=(HChg.out w1 hg1).2))
 have HC1:=HEnd.out w1 cnt1 hm1 hle1 (HChg.out w1 hg1).1
 replace HC1:=ae HC1
 clear hm1 hg1 hk1 HChg HEnd HM HAt HWf HCid d11 hle1
 go_wp2_with fail
 refine HC1.out.mono ?_
 intro e w2 h2
 have h3:=h2.1.ret
 subst h3
 replace h2:=ae h2
 clear HC1
 go_wp2_with fail
 go_end0
 exact h2.out
theorem PSrv.clock{N:Nat}{w:World}{sb:Nat}{s:ay}{cm:Nat}{wv:Value}{cbs:List Nat}{xs:List aD}{ws:List Nat}(h:PSrv N w sb s cm wv cbs xs ws)(now:Int):PSrv N (w.setCell ⟨sb,10,none⟩ (.int .i64 now)) sb {s with now:=now} cm wv cbs xs ws/\Chg (OwnF sb cm wv) w (w.setCell ⟨sb,10,none⟩ (.int .i64 now)):=by
 have hc1:Chg (· = sb) w (w.setCell ⟨sb,10,none⟩ (.int .i64 now)):=aF (Below.refl _ _) 10 _
 have hc:Chg (OwnF sb cm wv) w (w.setCell ⟨sb,10,none⟩ (.int .i64 now)):=hc1.mono fun k _ e=>Or.inl e
 obtain⟨n,hn,hm⟩:=h.map
 refine⟨⟨ak h.blk 10 _,⟨n,hn,hm.same (hc1.block cm hm.lt (fun e=>?_))⟩,h.len1,h.len2,fun i c cb a h1 h2 h3=>h.cons hc h1 h2 h3,bX h.row hc1 (fun k hk e=>?_),h.wait,h.apart,h.mne⟩,hc⟩
 ·obtain⟨es,ck,hb⟩:=hm.is_map
  have h2:w.heap[sb]? =some (.cells (gF s.c s.now cm wv) 101 (0,0)):=h.blk
  rw[<-e,hb]at h2
  cases h2
 ·subst e
  exact au h.row h.blk (by decide) hk
def cF(g:aq->Bool)(ks:List Int)(c:aq):Bool:=decide (c.cid∈ks) || g c
theorem keepK_all(g:aq->Bool)(l:List aq):l.filter (cF g (l.map (·.cid)))=l:=by
 rw[List.filter_eq_self]
 intro c hc
 simp only[cF,Bool.or_eq_true,decide_eq_true_eq]
 exact Or.inl (List.mem_map.2 ⟨c,hc,rfl⟩)
theorem keepK_nil(g:aq->Bool)(l:List aq):l.filter (cF g [])=l.filter g:=by
 refine List.filter_congr fun c _=>?_
 simp[cF]
theorem nodup_cid{l:List aq}(h:(l.map (·.cid)).Nodup){c d:aq}(hc:c∈l)(hd:d∈l)(e:c.cid=d.cid):c=d:=by
 induction l with
 |nil=>cases hc
 |cons x l ih=>
  simp only[List.map_cons,List.nodup_cons]at h
  rcases List.mem_cons.1 hc with h1|h1
  ·rcases List.mem_cons.1 hd with h2|h2
   ·rw[h1,h2]
   ·exact(h.1 (List.mem_map.2 ⟨d,h2,by rw[<-e,h1]⟩)).elim
  ·rcases List.mem_cons.1 hd with h2|h2
   ·exact(h.1 (List.mem_map.2 ⟨c,h1,by rw[e,h2]⟩)).elim
   ·exact ih h.2 h1 h2
theorem keepK_stay{g:aq->Bool}{l:List aq}(h:(l.map (·.cid)).Nodup){k1 k2:List Int}{c:aq}(hc:c∈l)(hg:g c=true):l.filter (cF g (k1++c.cid::k2))=l.filter (cF g (k1++k2)):=by
 refine List.filter_congr fun d hd=>?_
 by_cases e:d.cid=c.cid
 ·rw[nodup_cid h hd hc e]
  simp[cF,hg]
 ·simp[cF,e]
theorem erase_filter:∀{l:List aq} {i:Nat} {c:aq},(l.map (·.cid)).Nodup->l[i]? =some c->l.eraseIdx i=l.filter fun d=>d.cid != c.cid
 |[],_,_,_,h=>by simp at h
 |x::l,0,c,hn,h=>by
  simp only[List.getElem?_cons_zero,Option.some.injEq]at h
  subst h
  simp only[List.map_cons,List.nodup_cons]at hn
  rw[List.eraseIdx_zero,List.tail_cons,List.filter_cons,if_neg (by simp)]
  symm
  rw[List.filter_eq_self]
  intro d hd
  simp only[bne_iff_ne,ne_eq]
  exact fun e=>hn.1 (List.mem_map.2 ⟨d,hd,e⟩)
 |x::l,i+1,c,hn,h=>by
  simp only[List.getElem?_cons_succ]at h
  simp only[List.map_cons,List.nodup_cons]at hn
  have ih:=erase_filter hn.2 h
  have hx:x.cid≠c.cid:=fun e=>hn.1 (List.mem_map.2 ⟨c,List.mem_of_getElem? h,e.symm⟩)
  rw[List.eraseIdx_cons_succ,List.filter_cons,if_pos (by simp[hx]),ih]
theorem keepK_drop{g:aq->Bool}{l:List aq}(h:(l.map (·.cid)).Nodup){k1 k2:List Int}{c:aq}{i:Nat}(hi:(l.filter (cF g (k1++c.cid::k2)))[i]? =some c)(hg:g c=false)(hk:c.cid∉k1++k2):(l.filter (cF g (k1++c.cid::k2))).eraseIdx i=l.filter (cF g (k1++k2)):=by
 have hc:c∈l:=(List.mem_filter.1 (List.mem_of_getElem? hi)).1
 rw[erase_filter ((List.filter_sublist.map _).nodup h) hi,List.filter_filter]
 refine List.filter_congr fun d hd=>?_
 by_cases e:d.cid=c.cid
 ·rw[nodup_cid h hd hc e]
  simp only[List.mem_append]at hk
  simp[cF,hg,hk]
 ·simp[cF,e]
structure SAns(N:Nat)(w:World)(sb cm:Nat)(wv:Value)(cbs:List Nat)(xs:List aD)(s':ay)(v:Value)(e:Ending)(w':World):Prop where
 ret:e=.returned v
 ex:∃wv' cbs' xs' ws',PSrv N w' sb s' cm wv' cbs' xs' ws'/\(∀k,cA sb cm wv' cbs' xs' k->cA sb cm wv cbs xs k\/w.heap.size<=k)/\∀k,fG xs' k->fG xs k
 chg:Chg (cA sb cm wv cbs xs) w w'
theorem PSrv.chg{F:Nat->Prop}{N:Nat}{w w':World}{sb:Nat}{s:ay}{cm:Nat}{wv:Value}{cbs:List Nat}{xs:List aD}{ws:List Nat}(h:PSrv N w sb s cm wv cbs xs ws)(hc:Chg F w w')(hF:∀k,cA sb cm wv cbs xs k->¬F k)(h8:∀k cur fr,w.heap[k]? =some (.cells cur 5 fr)->¬F k):PSrv N w' sb s cm wv cbs xs ws:=by
 obtain⟨n,hn,hm⟩:=h.map
 exact⟨h.blk.chg hc (hF sb (Or.inl rfl)),⟨n,hn,hm.same (hc.block cm hm.lt (hF cm (Or.inr (Or.inl rfl))))⟩,h.len1,h.len2,fun i c cb a h1 h2 h3=>(h.con i c cb a h1 h2 h3).chg hc (fun k hk=>hF k (eP h2 h3 hk)) h8,bX h.row hc (fun k hk e=>hF k (Or.inr (Or.inr (Or.inl hk))) e),h.wait,h.apart,h.mne⟩
structure ClkA(N:Nat)(w:World)(sb:Nat)(s:ay)(now:Int)(g:aq->Bool)(cm:Nat)(wv:Value)(cbs:List Nat)(xs:List aD)(R:Nat)(ks:List Int)(wr:World)(wv':Value)(cbs':List Nat)(xs':List aD)(ws':List Nat):Prop where
 srv:PSrv N wr sb {s with now:=now,conns:=s.conns.filter (cF g ks)} cm wv' cbs' xs' ws'
 inn:∀k,cA sb cm wv' cbs' xs' k->cA sb cm wv cbs xs k\/R<k
 chg:Chg (cA sb cm wv cbs xs) w wr
 lt:R<wr.heap.size
 uu:∀k,fG xs' k->fG xs k
theorem ClkA.step{N:Nat}{w:World}{sb:Nat}{s:ay}{now:Int}{g:aq->Bool}{cm:Nat}{wv:Value}{cbs:List Nat}{xs:List aD}{ws:List Nat}{R:Nat}{ks:List Int}{wr w1:World}{wv':Value}{cbs':List Nat}{xs':List aD}{ws':List Nat}(h:ClkA N w sb s now g cm wv cbs xs R ks wr wv' cbs' xs' ws')(hP:PSrv N w sb s cm wv cbs xs ws)(hR:w.heap.size<=R)(hi:∃x y z u,wr.heap[R]? =some (.mapIter x y z u))(hg:wr.grownBy w1 (some R)):ClkA N w sb s now g cm wv cbs xs R ks w1 wv' cbs' xs' ws':=by
 have hc:Chg (· = R) wr w1:=⟨hg.os,hg.tape,hg.output,hg.size,fun k hk hne=>hg.block k hk (fun e=>hne (Option.some.inj e))⟩
 refine⟨h.srv.chg hc (fun k hk e=>?_) (fun k cur fr hk e=>?_),h.inn,dL h.chg hc (fun x e=>Or.inr (by subst e;exact hR)),Nat.lt_of_lt_of_le h.lt hg.size,h.uu⟩
 ·subst e
  rcases h.inn _ hk with h1|h1
  ·have:=SrvF_lt hP h1
   omega
  ·omega
 ·obtain⟨x,y,z,u,e2⟩:=hi
  rw[e,e2]at hk
  cases hk
theorem ClkA.below{N:Nat}{w:World}{sb:Nat}{s:ay}{now:Int}{g:aq->Bool}{cm:Nat}{wv:Value}{cbs:List Nat}{xs:List aD}{R:Nat}{ks:List Int}{wr w1:World}{wv':Value}{cbs':List Nat}{xs':List aD}{ws':List Nat}(h:ClkA N w sb s now g cm wv cbs xs R ks wr wv' cbs' xs' ws')(hb:Below wr.heap.size wr w1):ClkA N w sb s now g cm wv cbs xs R ks w1 wv' cbs' xs' ws':=
 ⟨h.srv.below hb,h.inn,h.chg.trans (Chg.of_below hb),Nat.lt_of_lt_of_le h.lt hb.size,h.uu⟩
theorem ClkA.stay{N:Nat}{w:World}{sb:Nat}{s:ay}{now:Int}{g:aq->Bool}{cm:Nat}{wv:Value}{cbs:List Nat}{xs:List aD}{R:Nat}{k1 k2:List Int}{wr:World}{wv':Value}{cbs':List Nat}{xs':List aD}{ws':List Nat}{c:aq}(h:ClkA N w sb s now g cm wv cbs xs R (k1++c.cid::k2) wr wv' cbs' xs' ws')(hnd:(s.conns.map (·.cid)).Nodup)(hc:c∈s.conns)(hg:g c=true):ClkA N w sb s now g cm wv cbs xs R (k1++k2) wr wv' cbs' xs' ws'/\s.conns.filter (cF g (k1++c.cid::k2))=s.conns.filter (cF g (k1++k2)):=by
 have e:=keepK_stay hnd (k1:=k1) (k2:=k2) hc hg
 exact⟨⟨by rw[<-e];exact h.srv,h.inn,h.chg,h.lt,h.uu⟩,e⟩
theorem ClkA.gone{N:Nat}{w:World}{sb:Nat}{s:ay}{now:Int}{g:aq->Bool}{cm:Nat}{wv:Value}{cbs:List Nat}{xs:List aD}{R:Nat}{k1 k2:List Int}{wr w2:World}{wv':Value}{cbs':List Nat}{xs':List aD}{ws':List Nat}{c:aq}{i cb:Nat}{e:Ending}(h:ClkA N w sb s now g cm wv cbs xs R (k1++c.cid::k2) wr wv' cbs' xs' ws')(hR:w.heap.size<=R)(hnd:(s.conns.map (·.cid)).Nodup)(hi:(s.conns.filter (cF g (k1++c.cid::k2)))[i]? =some c)(hg:g c=false)(hk:c.cid∉k1++k2)
  (hD:DropOut N wr sb {({s with now:=now,conns:=s.conns.filter (cF g (k1++c.cid::k2))}:ay) with conns:=(s.conns.filter (cF g (k1++c.cid::k2))).eraseIdx i} cm wv' (cbs'.eraseIdx i) (xs'.eraseIdx i) (ws'.filter fun b=>b != cb) e w2):
  ∃wv2,ClkA N w sb s now g cm wv cbs xs R (k1++k2) w2 wv2 (cbs'.eraseIdx i) (xs'.eraseIdx i) (ws'.filter fun b=>b != cb)/\(s.conns.filter (cF g (k1++c.cid::k2))).eraseIdx i=s.conns.filter (cF g (k1++k2)):=by
 have ee:=keepK_drop hnd hi hg hk
 obtain⟨_,⟨wv2,hP,hat⟩,hc⟩:=hD
 refine⟨wv2,⟨by rw[<-ee];exact hP,fun k hk=>?_,dL h.chg hc (fun k hk=>?_),Nat.lt_of_lt_of_le h.lt hc.size,fun k hk=>h.uu k (SrvU_erase k hk)⟩,ee⟩
 ·rcases SrvF_erase (B:=R+1) (hat.imp id fun h2 k hk=>Nat.le_trans h.lt (h2 k hk)) k hk with h1|h1
  ·exact h.inn k h1
  ·exact Or.inr h1
 ·rcases h.inn k (iK hk) with h1|h1
  ·exact Or.inl h1
  ·exact Or.inr (by omega)
theorem sClock_any(N:Nat)(sb:Nat)(s:ay)(cm:Nat)(wv:Value)(cbs:List Nat)(xs:List aD)(ws:List Nat)(now:Int)(w:World)(h:PSrv N w sb s cm wv cbs xs ws){M L:Int}(hI:SrvInv M L s)(hb1:s.now<=now)(hb2:now<=1000000000):
  Calls Tryz.prog 27 #[.pointer (some ⟨sb,0,none⟩),.int .i64 now] w fun e w'=>SAns N w sb cm wv cbs xs (jM s now) (.int .i64 0) e w':=by
 have hn0:=hI.now
 have d10:w.cell? ⟨sb,10,none⟩= some (.int .i64 s.now):=h.blk.cell 10
 have z10:=h.blk.free 10
 obtain⟨hP1,hc1⟩:=h.clock now
 have d11:(w.setCell ⟨sb,10,none⟩ (.int .i64 now)).cell? ⟨sb,11,none⟩= some (.map (some cm)):=hP1.blk.cell 11
 obtain⟨n,hnN,hm⟩:=hP1.map
 have HM:=ae hm
 obtain⟨gg,hgg⟩:∃g:aq->Bool,g=fun c=>decide (now-c.heard<s.c.c6):=⟨_,rfl⟩
 have hids:(s.conns.filter (cF gg (s.conns.map (·.cid))))=s.conns:=keepK_all gg s.conns
 have HStart:Hid (∀w0,(w.setCell ⟨sb,10,none⟩ (.int .i64 now)).grownBy w0 none->w0.heap.size=w.heap.size+1->ClkA N w sb s now gg cm wv cbs xs w.heap.size (s.conns.map (·.cid)) w0 wv cbs xs ws):=by
  intro w0 hg0 hs0
  have hb0:=ec hg0
  have hw0:(w.setCell ⟨sb,10,none⟩ (.int .i64 now)).heap.size=w.heap.size:=by simp
  refine⟨?_,fun k hk=>Or.inl hk,((hc1.mono fun k _ hk=>iK hk).trans (Chg.of_below hb0)),by omega,fun k hk=>hk⟩
  rw[hids]
  exact hP1.below hb0
 have HEnd:Hid (∀(wr:World) wv' cbs' xs' ws',ClkA N w sb s now gg cm wv cbs xs w.heap.size [] wr wv' cbs' xs' ws'->SAns N w sb cm wv cbs xs (jM s now) (.int .i64 0) (.returned (.int .i64 0)) wr):=by
  intro wr wv' cbs' xs' ws' hA
  refine⟨rfl,⟨wv',cbs',xs',ws',?_,fun k hk=>(hA.inn k hk).imp id Nat.le_of_lt,hA.uu⟩,hA.chg⟩
  have h1:=hA.srv
  rw[keepK_nil,hgg]at h1
  exact h1
 have HId:Hid (∀(W:World) wv' cbs' xs' ws' ks (i:Nat) c cb a,ClkA N w sb s now gg cm wv cbs xs w.heap.size ks W wv' cbs' xs' ws'->(s.conns.filter (cF gg ks))[i]? =some c->cbs'[i]? =some cb->xs'[i]? =some a->Calls Tryz.prog 53 #[.pointer (some ⟨cb,0,none⟩),.int .i64 now] W fun e w'=>e=.returned (.bool (!gg c))/\∃q,w'=W.drewN q):=by
  intro W wv' cbs' xs' ws' ks i c cb a hA h1 h2 h3
  have hmem:c∈s.conns:=(List.mem_filter.1 (List.mem_of_getElem? h1)).1
  have hC:=hA.srv.con i c cb a h1 h2 h3
  refine(cIdle_any cb s.c c _ _ _ _ now W hC.blk (by omega) (hI.ok c hmem).heard).mono ?_
  rintro e w' ⟨rfl,hq⟩
  refine⟨?_,hq⟩
  have h5:decide (s.c.c6<=now-c.heard) = !decide (now-c.heard<s.c.c6):=by
   by_cases h4:s.c.c6<=now-c.heard
   ·rw[decide_eq_true h4,decide_eq_false (by omega)];rfl
   ·rw[decide_eq_false h4,decide_eq_true (by omega)];rfl
  rw[h5,hgg]
 have HDr:Hid (∀(W:World) wv' cbs' xs' ws' (k1 k2:List Int) (i:Nat) c cb a (cnt:Nat) (rest:List (Int×Nat)),ClkA N w sb s now gg cm wv cbs xs w.heap.size (k1++c.cid::k2) W wv' cbs' xs' ws'->(s.conns.filter (cF gg (k1++c.cid::k2)))[i]? =some c->cbs'[i]? =some cb->xs'[i]? =some a->gg c=false->c.cid∉k1++k2->rest.map (·.1)=k1++k2->RangeIs cK Tryz.prog 3 W cm w.heap.size n (((s.conns.filter (cF gg (k1++c.cid::k2))).map (·.cid)).zip cbs') rest cnt->
   Calls Tryz.prog 54 #[.pointer (some ⟨sb,0,none⟩),.pointer (some ⟨cb,0,none⟩)] W fun e w'=>e=.returned (.tuple #[])/\∃wv2 cbs2 xs2 ws2 cnt2,ClkA N w sb s now gg cm wv cbs xs w.heap.size (k1++k2) w' wv2 cbs2 xs2 ws2/\RangeIs cK Tryz.prog 3 w' cm w.heap.size n (((s.conns.filter (cF gg (k1++k2))).map (·.cid)).zip cbs2) rest cnt2/\cnt2<=cnt):=by
  intro W wv' cbs' xs' ws' k1 k2 i c cb a cnt rest hA h1 h2 h3 hgc hk hrk hrg
  have hmem:c∈s.conns:=(List.mem_filter.1 (List.mem_of_getElem? h1)).1
  have hC:=hA.srv.con i c cb a h1 h2 h3
  have hsub:(s.conns.filter (cF gg (k1++c.cid::k2))).Sublist s.conns:=List.filter_sublist
  have hB:=hA.srv.but (Nat.le_refl N) h1 h2 h3 (Chg.refl _ _) ⟨c,_,_,_,_,hC.blk,rfl⟩
  have hwl:ws'.length<=1000:=by
   have e1:=hA.srv.wlen
   have e2:=hI.few
   have e3:=hI.cfg.c0
   have e4:=hsub.length_le
   simp only at e1
   omega
  refine(sdropR_any N sb _ cm wv' cbs' xs' ws' i cb c.cid W hB ((hsub.map _).nodup hI.nd) hwl (by have:=(hI.ok c hmem).cid;omega) hnN hrg (fun e he hec=>hk (by rw[<-hrk,<-hec];exact List.mem_map.2 ⟨e,he,rfl⟩))).mono ?_
  rintro e w' ⟨hD,cnt2,hrg2,hle⟩
  have hret:=hD.ret
  obtain⟨wv2,hA2,ee⟩:=hA.gone (Nat.le_refl _) hI.nd h1 hgc hk hD
  exact⟨hret,wv2,_,_,_,cnt2,hA2,by rw[<-ee];exact hrg2,hle⟩
 have HSt:Hid (∀(wr w1:World) wv' cbs' xs' ws' ks,ClkA N w sb s now gg cm wv cbs xs w.heap.size ks wr wv' cbs' xs' ws'->(∃x y z u,wr.heap[w.heap.size]? =some (.mapIter x y z u))->wr.grownBy w1 (some w.heap.size)->ClkA N w sb s now gg cm wv cbs xs w.heap.size ks w1 wv' cbs' xs' ws'):=fun wr w1 wv' cbs' xs' ws' ks hA hi hg=>hA.step h (Nat.le_refl _) hi hg
 have HNd:=ae hI.nd
 have HLk:Hid (∀(W:World) wv' cbs' xs' ws' ks (k:Int) (y:Nat),ClkA N w sb s now gg cm wv cbs xs w.heap.size ks W wv' cbs' xs' ws'->atK (((s.conns.filter (cF gg ks)).map (·.cid)).zip cbs') k=some y->∃(i:Nat) (c:aq) (a:aD),(s.conns.filter (cF gg ks))[i]? =some c/\c.cid=k/\cbs'[i]? =some y/\xs'[i]? =some a):=by
  intro W wv' cbs' xs' ws' ks k y hA hat
  rcases hA.srv.look ((List.filter_sublist.map _).nodup hI.nd) k with⟨_,e⟩|⟨i,c,cb,a,h1,h2,h3,h4,e⟩
  ·rw[hat]at e;cases e
  ·rw[hat]at e
   cases e
   exact⟨i,c,a,h1,h2,h3,h4⟩
 have HL0:Hid ((s.conns.map (·.cid)).zip cbs=((s.conns.filter (cF gg (s.conns.map (·.cid)))).map (·.cid)).zip cbs):=by show _=_;rw[hids]
 have HK0:Hid (((s.conns.map (·.cid)).zip cbs).map (·.1)=s.conns.map (·.cid)):=by show _=_;rw[List.map_fst_zip (by simp[h.len1])]
 clear h hI hP1 hc1 hm hids hgg
 go_enter Tryz.func27,Tryz.ntmps27
 go_wp2_with (first
  |(at_range;refine eX _ rfl _ 98 rfl 97 Tryz.underlying3 Tryz.underlying98 cm n _ rfl HM.out ?_;intro w0 hrg0 hg0 hs0))
 have hw0:(w.setCell ⟨sb,10,none⟩ (.int .i64 now)).heap.size=w.heap.size:=by simp
 rw[hw0]at hrg0 hs0
 have H0:Hid (∃(ks:List Int) (cbs':List Nat) (rest:List (Int×Nat)) (cnt:Nat),RangeIs cK Tryz.prog 3 w0 cm w.heap.size n (((s.conns.filter (cF gg ks)).map (·.cid)).zip cbs') rest cnt/\rest.map (·.1)=ks/\∃wv' xs' ws',ClkA N w sb s now gg cm wv cbs xs w.heap.size ks w0 wv' cbs' xs' ws'):=
  ⟨_,cbs,_,_,by rw[<-HL0.out];exact hrg0,HK0.out,wv,xs,ws,HStart.out w0 hg0 hs0⟩
 clear hrg0 hg0 hs0 d11 d10 z10 HStart HL0 HK0 HM
 clear hw0
 try go_frame
 go_loopw [6] (fun _ wr=>∃(ks:List Int) (cbs':List Nat) (rest:List (Int×Nat)) (cnt:Nat),RangeIs cK Tryz.prog 3 wr cm w.heap.size n (((s.conns.filter (cF gg ks)).map (·.cid)).zip cbs') rest cnt/\Hid (rest.map (·.1)=ks/\∃wv' xs' ws',ClkA N w sb s now gg cm wv cbs xs w.heap.size ks wr wv' cbs' xs' ws')) (fun _ wr=>wr.rangeLeft cm w.heap.size)
 case atStart=>
  obtain⟨ks,cbs',rest,cnt,h1,h2⟩:=H0.out
  exact⟨ks,cbs',rest,cnt,h1,h2⟩
 case round=>
  obtain⟨ks,cbs',rest,cnt,hrg,hA⟩:=hrel
  have HRg:=ae hrg
  clear H0
  go_wp2_with (first
   |(at_next;refine fD _ rfl _ rfl Tryz.underlying3 cm w.heap.size n _ rest cnt rfl hrg ?_ ?_))
  ·intro hnil
   obtain⟨hks,wv',xs',ws',hB⟩:=hA.out
   subst hnil
   have hk0:ks=[]:=by simpa using hks.symm
   subst hk0
   have HE:=ae (HEnd.out wr wv' cbs' xs' ws' hB)
   clear hA hB
   go_wp2_with fail
   go_ret
   exact HE.out
  ·intro k y r1 r2 w1 cnt1 hre hwk hat hrg1 hlt hg1 hs1 hen
   obtain⟨hks,wv',xs',ws',hB⟩:=hA.out
   have hA1:=HSt.out wr w1 wv' cbs' xs' ws' ks hB HRg.out.iter.2 hg1
   obtain⟨i,c,a,h1,h2,h3,h4⟩:=HLk.out w1 wv' cbs' xs' ws' ks k y hA1 hat
   have hke:ks=r1.map (·.1)++c.cid::r2.map (·.1):=by rw[<-hks,hre,h2];simp
   have hnd:=HRg.out.nd
   have HI1:=ae (HId.out w1 wv' cbs' xs' ws' ks i c y a hA1 h1 h3 h4)
   have hlft:=HRg.out.left_eq
   cases hgc:gg c with
   |true=>
    rw[hgc]at HI1
    have HR:Hid (∀q,RangeIs cK Tryz.prog 3 (w1.drewN q) cm w.heap.size n (((s.conns.filter (cF gg (r1.map (·.1)++r2.map (·.1)))).map (·.cid)).zip cbs') (r1++r2) cnt1/\ClkA N w sb s now gg cm wv cbs xs w.heap.size (r1.map (·.1)++r2.map (·.1)) (w1.drewN q) wv' cbs' xs' ws'):=by
     intro q
     subst hke
     have hmem:c∈s.conns:=(List.mem_filter.1 (List.mem_of_getElem? h1)).1
     obtain⟨hA2,ee⟩:=(hA1.below (aj (Below.refl _ _) q)).stay HNd.out hmem hgc
     rw[<-ee]
     refine⟨hrg1.kept ?_ ?_,by rw[ee]at *;exact hA2⟩<;>simp[World.drewN]
    clear hA hB hA1 h1 h2 h3 h4 hke hnd hrg1 hg1 hs1 hat hre hks hrg
    go_wp2_with fail
    refine HI1.out.mono ?_
    rintro e w2 ⟨rfl,q,rfl⟩
    clear HI1
    go_wp2_with fail
    go_roundw
    case rel=>exact⟨_,cbs',r1++r2,cnt1,(HR.out q).1,by simp,wv',xs',ws',(HR.out q).2⟩
    case measure=>
     have e1:=(HR.out q).1.left_eq
     rw[e1,hlft]
     exact hlt
   |false=>
    rw[hgc]at HI1
    have hkn:c.cid∉r1.map (·.1)++r2.map (·.1):=by
     have e1:(r1.map (·.1)++c.cid::r2.map (·.1)).Nodup:=by rw[<-hke,<-hks];exact hnd
     intro hm
     rw[List.nodup_append,List.nodup_cons]at e1
     obtain⟨_,⟨q1,_⟩,q2⟩:=e1
     rcases List.mem_append.1 hm with hm|hm
     ·exact q2 _ hm _ (List.mem_cons_self) rfl
     ·exact q1 hm
    have HD:Hid (∀q,Calls Tryz.prog 54 #[.pointer (some ⟨sb,0,none⟩),.pointer (some ⟨y,0,none⟩)] (w1.drewN q) fun e w'=>e=.returned (.tuple #[])/\∃wv2 cbs2 xs2 ws2 cnt2,ClkA N w sb s now gg cm wv cbs xs w.heap.size (r1.map (·.1)++r2.map (·.1)) w' wv2 cbs2 xs2 ws2/\RangeIs cK Tryz.prog 3 w' cm w.heap.size n (((s.conns.filter (cF gg (r1.map (·.1)++r2.map (·.1)))).map (·.cid)).zip cbs2) (r1++r2) cnt2/\cnt2<=cnt1):=by
     intro q
     subst hke
     exact HDr.out (w1.drewN q) wv' cbs' xs' ws' _ _ i c y a cnt1 (r1++r2) (hA1.below (aj (Below.refl _ _) q)) h1 h3 h4 hgc hkn (by simp) (hrg1.kept (by simp[World.drewN]) (by simp[World.drewN]))
    clear hA hB hA1 h1 h2 h3 h4 hke hnd hrg1 hg1 hs1 hat hre hks hrg hkn
    go_wp2_with fail
    refine HI1.out.mono ?_
    rintro e w2 ⟨rfl,q,rfl⟩
    clear HI1
    go_wp2_with fail
    refine(HD.out q).mono ?_
    rintro e w3 ⟨rfl,wv2,cbs2,xs2,ws2,cnt2,hA3,hrg3,hle⟩
    have H3:=ae (And.intro hA3 hrg3)
    clear hA3 hrg3 HD
    go_wp2_with fail
    go_roundw
    case rel=>exact⟨_,cbs2,r1++r2,cnt2,H3.out.2,by simp,wv2,xs2,ws2,H3.out.1⟩
    case measure=>
     have e1:=H3.out.2.left_eq
     rw[e1,hlft]
     omega
theorem filter_first{b:Nat}:∀{l:List Nat},b∉l->(b::l).filter (fun x=>x != b)=l:=by
 intro l h
 rw[List.filter_cons,if_neg (by simp),List.filter_eq_self]
 intro x hx
 simp only[bne_iff_ne,ne_eq]
 exact fun e=>h (e▸hx)
theorem PSrv.first{N:Nat}{w:World}{sb:Nat}{s:ay}{cm:Nat}{wv:Value}{cbs:List Nat}{xs:List aD}{b:Nat}{wt:List Nat}(h:PSrv N w sb s cm wv cbs xs (b::wt))(hnd:(s.conns.map (·.cid)).Nodup):
  ∃(j:Nat) (c:aq) (a:aD),s.conns[j]? =some c/\cbs[j]? =some b/\xs[j]? =some a/\bg s=(c.cid,0,{s with conns:=s.conns.set j {c with waits:=0}})/\b∉wt/\
   ∃ct,WaitIs (s.conns.set j {c with waits:=0}) ct/\wt.length=ct.length/\∀(l:Nat) b',wt[l]? =some b'->∃(i:Nat) (c':aq),(s.conns.set j {c with waits:=0})[i]? =some c'/\cbs[i]? =some b'/\ct[l]? =some c'.cid:=by
 obtain⟨cs,hw1,hw2,hw3⟩:=h.wait
 cases cs with
 |nil=>simp at hw2
 |cons x ct=>
  obtain⟨j,c,hj,hcx,_,hac,hwt⟩:=accept_some hw1
  have hinj:∀(j l:Nat) b,cbs[j]? =some b->cbs[l]? =some b->j=l:=by
   intro j l b e1 e2
   by_cases hjl:j=l
   ·exact hjl
   ·have h1:j<xs.length:=by rw[h.len2,<-h.len1];exact(List.getElem?_eq_some_iff.1 e1).1
    have h2:l<xs.length:=by rw[h.len2,<-h.len1];exact(List.getElem?_eq_some_iff.1 e2).1
    exact absurd (Or.inl rfl) (h.apart j l b _ b _ hjl e1 (List.getElem?_eq_getElem h1) e2 (List.getElem?_eq_getElem h2) b (Or.inl rfl))
  obtain⟨i0,c0,e1,e2,e3⟩:=hw3 0 b rfl
  simp only[List.getElem?_cons_zero,Option.some.injEq]at e3
  have hc0:c0=c:=nodup_cid hnd (List.mem_of_getElem? e1) (List.mem_of_getElem? hj) (by rw[hcx,e3])
  subst hc0
  have hij:i0=j:=by
   have q1:(s.conns.map (·.cid))[i0]? =some c0.cid:=by simp[e1]
   have q2:(s.conns.map (·.cid))[j]? =some c0.cid:=by simp[hj]
   exact(List.getElem?_inj (List.getElem?_eq_some_iff.1 q1).1 hnd).1 (q1.trans q2.symm)
  subst hij
  have hcn:=hw1.nodup hnd
  rw[List.nodup_cons]at hcn
  have hnot:b∉wt:=by
   intro hb
   obtain⟨l,hl,e⟩:=List.getElem_of_mem hb
   obtain⟨i1,c1,f1,f2,f3⟩:=hw3 (l+1) b (by simp[List.getElem?_eq_getElem hl,e])
   have:=hinj i1 i0 b f2 e2
   subst this
   rw[e1]at f1
   cases f1
   simp only[List.getElem?_cons_succ]at f3
   exact hcn.1 (by rw[e3];exact List.mem_of_getElem? f3)
  obtain⟨a,ha⟩:∃a,xs[i0]? =some a:=⟨_,List.getElem?_eq_getElem (by rw[h.len2];exact(List.getElem?_eq_some_iff.1 e1).1)⟩
  refine⟨i0,c0,a,hj,e2,ha,hac.trans (by rw[hcx]),hnot,ct,hwt,by simpa using hw2,fun l b' hl=>?_⟩
  obtain⟨i1,c1,f1,f2,f3⟩:=hw3 (l+1) b' (by simpa using hl)
  have hne:i1≠i0:=by
   intro e
   subst e
   rw[e2]at f2
   cases f2
   exact hnot (List.mem_of_getElem? hl)
  refine⟨i1,c1,by rw[aA hne];exact f1,f2,by simpa using f3⟩
theorem PSrv.taken{N:Nat}{w w':World}{sb:Nat}{s:ay}{cm:Nat}{wv wv':Value}{cbs:List Nat}{xs:List aD}{b:Nat}{wt:List Nat}(h:PSrv N w sb s cm wv cbs xs (b::wt)){j:Nat}{c:aq}(hj:s.conns[j]? =some c)
  (hw:∃ct,WaitIs (s.conns.set j {c with waits:=0}) ct/\wt.length=ct.length/\∀(l:Nat) b',wt[l]? =some b'->∃(i:Nat) (c':aq),(s.conns.set j {c with waits:=0})[i]? =some c'/\cbs[i]? =some b'/\ct[l]? =some c'.cid)
  (hS:SBlk w' sb s.c s.now cm wv') (ho:w'.ownsRow 0 97 1 wv' wt.length (eU wt)) (hc:Chg (fun k=>k=sb\/wv.ownBlock=some k) w w'):PSrv N w' sb {s with conns:=s.conns.set j {c with waits:=0}} cm wv' cbs xs wt:=by
 obtain⟨n,hn,hm⟩:=h.map
 have hcO:Chg (OwnF sb cm wv) w w':=hc.mono fun k _ e=>e.elim Or.inl (fun e=>Or.inr (Or.inr e))
 have hmb:w'.heap[cm]? =w.heap[cm]?:=by
  refine hc.block cm hm.lt ?_
  obtain⟨es,ck,hb⟩:=hm.is_map
  rintro(e|e)
  ·have h2:w.heap[sb]? =some (.cells (gF s.c s.now cm wv) 101 (0,0)):=h.blk
   rw[<-e,hb]at h2
   cases h2
  ·obtain⟨c1,e1⟩:=aJ h.row e
   rw[hb]at e1
   cases e1
 refine⟨hS,⟨n,hn,?_⟩,by simp[h.len1],by simp[h.len2],fun i d db x h1 h2 h3=>?_,ho,hw,h.apart,h.mne⟩
 ·have e:({s with conns:=s.conns.set j {c with waits:=0}}:ay).conns.map (·.cid)=s.conns.map (·.cid):=gh hj rfl
  rw[e]
  exact hm.same hmb
 ·by_cases hij:i=j
  ·subst hij
   rw[aC hj]at h1
   cases h1
   exact(h.cons hcO hj h2 h3).waits 0
  ·rw[aA hij]at h1
   exact h.cons hcO h1 h2 h3
theorem sAccept_any(N:Nat)(sb:Nat)(s:ay)(cm:Nat)(wv:Value)(cbs:List Nat)(xs:List aD)(ws:List Nat)(w:World)(h:PSrv N w sb s cm wv cbs xs ws){M L:Int}(hI:SrvInv M L s):
  Calls Tryz.prog 21 #[.pointer (some ⟨sb,0,none⟩)] w fun e w'=>SAns N w sb cm wv cbs xs (bg s).2.2 (.tuple #[.int .i64 (bg s).1,.int .i64 (bg s).2.1]) e w':=by
 have d12:w.cell? ⟨sb,12,none⟩= some wv:=h.blk.cell 12
 cases ws with
 |nil=>
  have hac:bg s=(0,4,s):=by
   obtain⟨cs,hw1,hw2,_⟩:=h.wait
   cases cs with
   |nil=>exact accept_none hw1
   |cons x ct=>simp at hw2
  rw[hac]
  obtain⟨va,vc,rfl⟩:=aS h.row
  have HE:Hid (SAns N w sb cm (.slice va 0 vc) cbs xs s (.tuple #[.int .i64 0,.int .i64 4]) (.returned (.tuple #[.int .i64 0,.int .i64 4])) w):=⟨rfl,⟨_,cbs,xs,[],h,fun k hk=>Or.inl hk,fun k hk=>hk⟩,Chg.refl _ _⟩
  simp only[List.length_nil]at d12⊢
  clear h hI hac
  go_enter Tryz.func21,Tryz.ntmps21
  go_wp2_with fail
  go_ret2
  exact HE.out
 |cons b wt=>
  obtain⟨j,c,a,hj,hcb,ha,hac,hnot,hw⟩:=h.first hI.nd
  rw[hac]
  have hwl:(b::wt).length<=1000:=by
   have e1:=h.wlen
   have e2:=hI.few
   have e3:=hI.cfg.c0
   omega
  have hC:=h.con j c b a hj hcb ha
  have hisb:=(h.but (Nat.le_refl N) hj hcb ha (Chg.refl _ _) ⟨c,_,_,_,_,hC.blk,rfl⟩).isb
  have hrow:=h.row
  obtain⟨g,cap,e1,_,_,_⟩:=gQ hrow (by simp)
  subst e1
  have c0:w.cell? ⟨g,0,none⟩= some (.pointer (some ⟨b,0,none⟩)):=by
   rw[hrow.cellAt 0 (by simp)]
   simp[eU,ptrV]
  have HWn:=ae (gB sb s.c s.now cm _ (b::wt) b w h.blk hrow hwl hisb.2 hisb.1)
  rw[filter_first hnot]at HWn
  have HEnd:Hid (∀w1 e,WaitOut w sb s.c s.now cm (.slice (some ⟨g,0,none⟩) (b::wt).length cap) wt e w1->(Calls Tryz.prog 51 #[.pointer (some ⟨b,0,none⟩)] w1 fun e w'=>e=.returned (.int .i64 c.cid)/\w1=w')/\SAns N w sb cm (.slice (some ⟨g,0,none⟩) (b::wt).length cap) cbs xs {s with conns:=s.conns.set j {c with waits:=0}} (.tuple #[.int .i64 c.cid,.int .i64 0]) (.returned (.tuple #[.int .i64 c.cid,.int .i64 0])) w1):=by
   rintro w1 e ⟨rfl,⟨wv',hS,ho,hat⟩,hc⟩
   have hP:=h.taken hj hw hS ho hc
   have hcO:Chg (OwnF sb cm (.slice (some ⟨g,0,none⟩) (b::wt).length cap)) w w1:=hc.mono fun k _ e=>e.elim Or.inl (fun e=>Or.inr (Or.inr e))
   exact⟨cCid_any b s.c c _ _ _ _ w1 (h.cons hcO hj hcb ha).blk,rfl,⟨wv',cbs,xs,wt,hP,SrvF_wv hat,fun k hk=>hk⟩,hcO.mono fun k _ hk=>iK hk⟩
  have hpos:((b::wt).length:Int)≠0:=by simp;omega
  have hgt:0<(b::wt).length:=by simp
  have hnb:(((b::wt).length:Int)==0)=false:=beq_eq_false_iff_ne.2 hpos
  generalize (b::wt).length=wl at *
  clear h hI hj hcb ha hac hnot hw hwl hC hisb hrow
  go_enter Tryz.func21,Tryz.ntmps21
  go_wp2_with fail
  refine HWn.out.mono ?_
  intro e w1 ho
  obtain⟨h1,h2⟩:=HEnd.out w1 e ho
  have hr:=ho.ret
  subst hr
  have H1:=ae h1
  have H2:=ae h2
  clear h1 h2 ho HEnd HWn c0 d12
  go_wp2_with fail
  refine H1.out.mono ?_
  rintro e w2 ⟨rfl,rfl⟩
  clear H1
  go_wp2_with fail
  go_ret2
  exact H2.out
def SNewOut(w:World)(g:Cfg)(e:Ending)(w':World):Prop:=
 if g.right then ∃sb cm,e=.returned (.tuple #[.pointer (some ⟨sb,0,none⟩),.int .i64 0])/\PSrv 0 w' sb (dk g) cm (.slice none 0 0) [] [] []/\w.heap.size<=sb/\w.heap.size<=cm/\Below w.heap.size w w'
 else e=.returned (.tuple #[.pointer none,.int .i64 1])/\Below w.heap.size w w'
theorem snew_close{w W:World}{g:Cfg}{cm:Nat}(hW:Below w.heap.size w W)(h1:W.heap[cm]? =some (.map #[] 0)):PSrv 0 (W.alloc (.cells #[.int .i64 g.c0,.int .i64 g.c1,.int .i64 g.c2,.int .i64 g.c3,.int .i64 g.c4,.int .i64 g.c5,.int .i64 g.c6,.int .i64 g.c7,.int .i64 g.c8,.int .i64 g.c9,.int .i64 0,.map (some cm),.slice none 0 0] 101)) W.heap.size (dk g) cm (.slice none 0 0) [] [] []/\Below w.heap.size w (W.alloc (.cells #[.int .i64 g.c0,.int .i64 g.c1,.int .i64 g.c2,.int .i64 g.c3,.int .i64 g.c4,.int .i64 g.c5,.int .i64 g.c6,.int .i64 g.c7,.int .i64 g.c8,.int .i64 g.c9,.int .i64 0,.map (some cm),.slice none 0 0] 101)):=by
 have hb:=ag W (.cells #[.int .i64 g.c0,.int .i64 g.c1,.int .i64 g.c2,.int .i64 g.c3,.int .i64 g.c4,.int .i64 g.c5,.int .i64 g.c6,.int .i64 g.c7,.int .i64 g.c8,.int .i64 g.c9,.int .i64 0,.map (some cm),.slice none 0 0] 101)
 refine⟨⟨heap_alloc_new W _,⟨0,Nat.le_refl _,?_⟩,rfl,rfl,fun i c cb a h1=>(by simp[dk]at h1),World.ownsRow_nil _ _ _ _,⟨[],WaitIs.nil,rfl,fun j b hb=>(by simp at hb)⟩,fun i j cb a cb' a' _ h1=>(by simp at h1),fun i cb a h1=>(by simp at h1)⟩,ai hW hb⟩
 refine(MapIs.same (w:=W) ?_ (hb.block cm (Array.getElem?_eq_some_iff.1 h1).1))
 exact⟨.map [],⟨#[],0,h1,by
  obtain⟨es,ck,q1,q2⟩:=World.ownsMap_made W Tryz.prog 3 cK.R
  rw[heap_alloc_new]at q1
  cases q1
  exact q2⟩,⟨fun k=>rfl,fun k a h=>(by simp[atK]at h),rfl,List.nodup_nil⟩⟩
theorem sNew_any(g:Cfg)(w:World):
  Calls Tryz.prog 26 #[.agg #[.int .i64 g.c0,.int .i64 g.c1,.int .i64 g.c2,.int .i64 g.c3,.int .i64 g.c4,.int .i64 g.c5,.int .i64 g.c6,.int .i64 g.c7,.int .i64 g.c8,.int .i64 g.c9]] w fun e w'=>SNewOut w g e w':=by
 have HB:Hid (∀W:World,W=w.alloc (.cells #[.int .i64 g.c0,.int .i64 g.c1,.int .i64 g.c2,.int .i64 g.c3,.int .i64 g.c4,.int .i64 g.c5,.int .i64 g.c6,.int .i64 g.c7,.int .i64 g.c8,.int .i64 g.c9] 26)->Below w.heap.size w W/\W.heap[w.heap.size]? =some (.cells #[.int .i64 g.c0,.int .i64 g.c1,.int .i64 g.c2,.int .i64 g.c3,.int .i64 g.c4,.int .i64 g.c5,.int .i64 g.c6,.int .i64 g.c7,.int .i64 g.c8,.int .i64 g.c9] 26 (0,0))):=by
  rintro W rfl
  exact⟨ag w _,heap_alloc_new w _⟩
 obtain⟨r,hr⟩:∃r,fh g.c0 g.c1 g.c2 g.c3 g.c4 g.c5 g.c6 g.c7 g.c8 g.c9=r:=⟨_,rfl⟩
 have HR:Hid (∀W,Calls Tryz.prog 52 #[.agg #[.int .i64 g.c0,.int .i64 g.c1,.int .i64 g.c2,.int .i64 g.c3,.int .i64 g.c4,.int .i64 g.c5,.int .i64 g.c6,.int .i64 g.c7,.int .i64 g.c8,.int .i64 g.c9]] W fun e w'=>e=.returned (.int .i64 (if r then 0 else 1))/\Below W.heap.size W w'):=by
  intro W
  have:=fZ g.c0 g.c1 g.c2 g.c3 g.c4 g.c5 g.c6 g.c7 g.c8 g.c9 W
  unfold jK at this
  rw[hr]at this
  exact this
 have HE:Hid (g.right=r):=hr
 have HCl:Hid (∀W:World,Below w.heap.size w W->PSrv 0 ((W.alloc (.map #[] 0)).alloc (.cells #[.int .i64 g.c0,.int .i64 g.c1,.int .i64 g.c2,.int .i64 g.c3,.int .i64 g.c4,.int .i64 g.c5,.int .i64 g.c6,.int .i64 g.c7,.int .i64 g.c8,.int .i64 g.c9,.int .i64 0,.map (some W.heap.size),.slice none 0 0] 101)) (W.alloc (.map #[] 0)).heap.size (dk g) W.heap.size (.slice none 0 0) [] [] []/\Below w.heap.size w ((W.alloc (.map #[] 0)).alloc (.cells #[.int .i64 g.c0,.int .i64 g.c1,.int .i64 g.c2,.int .i64 g.c3,.int .i64 g.c4,.int .i64 g.c5,.int .i64 g.c6,.int .i64 g.c7,.int .i64 g.c8,.int .i64 g.c9,.int .i64 0,.map (some W.heap.size),.slice none 0 0] 101))):=fun W hW=>snew_close (ai hW (ag W _)) (heap_alloc_new W _)
 clear hr
 go_enter Tryz.func26,Tryz.ntmps26
 go_wp2_with fail
 obtain⟨hb0,hc0⟩:=HB.out _ rfl
 clear HB
 generalize w.alloc (.cells #[.int .i64 g.c0,.int .i64 g.c1,.int .i64 g.c2,.int .i64 g.c3,.int .i64 g.c4,.int .i64 g.c5,.int .i64 g.c6,.int .i64 g.c7,.int .i64 g.c8,.int .i64 g.c9] 26)=w0 at hb0 hc0⊢
 refine(HR.out w0).mono ?_
 rintro e w1 ⟨rfl,hb1⟩
 clear HR
 have hc1:=(hb1.block _ (Array.getElem?_eq_some_iff.1 hc0).1).trans hc0
 have hB1:=ai hb0 hb1
 clear hb0 hb1 hc0
 have m0:w1.cell? ⟨w.heap.size,0,none⟩= some (.int .i64 g.c0):=by simp[World.cell?,hc1]
 have m1:w1.cell? ⟨w.heap.size,1,none⟩= some (.int .i64 g.c1):=by simp[World.cell?,hc1]
 have m2:w1.cell? ⟨w.heap.size,2,none⟩= some (.int .i64 g.c2):=by simp[World.cell?,hc1]
 have m3:w1.cell? ⟨w.heap.size,3,none⟩= some (.int .i64 g.c3):=by simp[World.cell?,hc1]
 have m4:w1.cell? ⟨w.heap.size,4,none⟩= some (.int .i64 g.c4):=by simp[World.cell?,hc1]
 have m5:w1.cell? ⟨w.heap.size,5,none⟩= some (.int .i64 g.c5):=by simp[World.cell?,hc1]
 have m6:w1.cell? ⟨w.heap.size,6,none⟩= some (.int .i64 g.c6):=by simp[World.cell?,hc1]
 have m7:w1.cell? ⟨w.heap.size,7,none⟩= some (.int .i64 g.c7):=by simp[World.cell?,hc1]
 have m8:w1.cell? ⟨w.heap.size,8,none⟩= some (.int .i64 g.c8):=by simp[World.cell?,hc1]
 have m9:w1.cell? ⟨w.heap.size,9,none⟩= some (.int .i64 g.c9):=by simp[World.cell?,hc1]
 have HB1:=ae hB1
 have hsz:=hB1.size
 clear hc1 hB1
 cases r
 ·simp only[Bool.false_eq_true,if_false]
  go_wp2_with fail
  go_ret2
  unfold SNewOut
  rw[HE.out,if_neg (by decide)]
  exact⟨rfl,HB1.out⟩
 ·simp only[if_true]
  have HF:=ae (HCl.out w1 HB1.out)
  have hsz1:(w1.alloc (.map #[] 0)).heap.size=w1.heap.size+1:=by simp
  rw[hsz1]at HF
  clear HCl hsz1
  have hmk:∀W:World,(Instr.makeMap 98 none).run Tryz.prog W=.ok (.map (some W.heap.size)) (W.alloc (.map #[] 0)):=fun W=>by simp[Instr.makeMap]
  go_wp2_with fail
  go_ret2
  unfold SNewOut
  rw[HE.out,if_pos rfl]
  exact⟨_,_,rfl,HF.out.1,by omega,hsz,HF.out.2⟩
end Go.Proofs.YthmdjhlhodpbhaaGreatDoor
