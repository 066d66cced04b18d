/- Bounded, 38 -/
import Derived.BigRegion
import Derived.Deep.RegionHeld3
import Derived.Deep.CutRange
import Derived.Deep.CutBlock
import Derived.Deep.LoopGhost
import Derived.BigQuiet
import Derived.StillTailTactics
import Derived.Test.YthmdjhlhodpbhaaGreatDoorJ36
set_option maxHeartbeats 16000000
set_option maxRecDepth 8000
namespace Go.Proofs.YthmdjhlhodpbhaaGreatDoor
open Go.RowKit
theorem cfgN_ok(raw:Cfg):cO (cfgN raw):=by
 have h:=keepC_ok raw
 have r8:=aY raw.c8 (n:=5000) (by decide)
 exact⟨h.c0,h.c1,h.c2,h.c3,h.c4,h.c5,h.c6,h.c7,by simp only[cfgN];omega,h.c9⟩
theorem cfgN_right(raw:Cfg):(cfgN raw).right=true:=by
 have h:=cfgN_ok raw
 have h0:=h.c0
 have h1:=h.c1
 have h2:=h.c2
 have h3:=h.c3
 have h4:=h.c4
 have h5:=h.c5
 have h6:=h.c6
 have h7:=h.c7
 have h8:=h.c8
 have h9:=h.c9
 generalize cfgN raw=g at *
 simp[Cfg.right,fh,rightA,rightC,dw]
 omega
theorem bd_start{wi w2 w4:World}{sb:Nat}{g:Cfg}(hb2:Below wi.heap.size wi w2)(hg:cO g)(hb4:Below (w2.alloc (.cells (ez g) 26)).heap.size (w2.alloc (.cells (ez g) 26)) w4)(hL:Live (w2.alloc (.cells (ez g) 26)) 0 0 0 w4 sb (dk g)):
  Bd ⟨wi,w2.alloc (.cells (ez g) 26),w2.heap.size,w4.heap.size,w4.heap.size+1,w4.heap.size+1+1,sb,g⟩ 0 0 0 (dk g) (fun _=>0) (fun _=>0) (fun _=>false) (((w4.alloc (.cells Tryz.zeroCells70 70)).alloc (.cells Tryz.zeroCells70 70)).alloc (.cells Tryz.zeroCells71 71)):=by
 have e1:Tryz.zeroCells70=(List.replicate 256 (Value.int .i64 0)).toArray:=by kernel_rfl
 have e2:Tryz.zeroCells71=(List.replicate 256 (Value.bool false)).toArray:=by kernel_rfl
 have hx:(w2.alloc (.cells (ez g) 26)).heap[w2.heap.size]? =some (.cells (ez g) 26 (0,0)):=heap_alloc_new w2 _
 have hbc:Below w2.heap.size w2 (w2.alloc (.cells (ez g) 26)):=ag w2 _
 have hsc:(w2.alloc (.cells (ez g) 26)).heap.size=w2.heap.size+1:=Array.size_push _
 generalize w2.alloc (.cells (ez g) 26)=w3 at *
 have a1:ArrAt 70 (w4.alloc (.cells Tryz.zeroCells70 70)) w4.heap.size (fun _=>.int .i64 0):=⟨_,heap_alloc_new w4 _,fun p hp=>by rw[e1,List.getElem?_toArray,List.getElem?_replicate,if_pos hp]⟩
 have b1:Below w4.heap.size w4 (w4.alloc (.cells Tryz.zeroCells70 70)):=ag w4 _
 have s1:(w4.alloc (.cells Tryz.zeroCells70 70)).heap.size=w4.heap.size+1:=Array.size_push _
 generalize w4.alloc (.cells Tryz.zeroCells70 70)=w5 at *
 have a2:ArrAt 70 (w5.alloc (.cells Tryz.zeroCells70 70)) w5.heap.size (fun _=>.int .i64 0):=⟨_,heap_alloc_new w5 _,fun p hp=>by rw[e1,List.getElem?_toArray,List.getElem?_replicate,if_pos hp]⟩
 have b2:Below w5.heap.size w5 (w5.alloc (.cells Tryz.zeroCells70 70)):=ag w5 _
 have s2:(w5.alloc (.cells Tryz.zeroCells70 70)).heap.size=w5.heap.size+1:=Array.size_push _
 generalize w5.alloc (.cells Tryz.zeroCells70 70)=w6 at *
 have a3:ArrAt 71 (w6.alloc (.cells Tryz.zeroCells71 71)) w6.heap.size (fun _=>.bool false):=⟨_,heap_alloc_new w6 _,fun p hp=>by rw[e2,List.getElem?_toArray,List.getElem?_replicate,if_pos hp]⟩
 have b3:Below w6.heap.size w6 (w6.alloc (.cells Tryz.zeroCells71 71)):=ag w6 _
 generalize w6.alloc (.cells Tryz.zeroCells71 71)=w7 at *
 have hs4:=hb4.size
 have hs2:=hb2.size
 have b17:=ai (ai b1 b2) b3
 rw[s1]at s2 a2
 rw[s2]at a3
 exact⟨hL.below b17,FairS.new hg,rfl,dq (dq hx hb4) b17,(a1.below b2).below b3,a2.below b3,a3,ai (ai (ai hb2 hbc) hb4) b17,by simp only;omega⟩
structure BdAt(p:BdP)(k:Nat)(now:Int)(w:World):Prop where
 ex:∃s came went pv,Bd p (1100000*k) (1100000*(k:Int)) (2*(k:Int)) s came went pv w/\Acc s came went pv/\s.now=now/\(∀i,0<=came i/\came i<=1048576*(k:Int))/\∀i,0<=went i/\went i<=200*(k:Int)
def GBox(hb:Nat)(addr tick cid str:Int)(bv:Value)(w:World):Prop:=w.heap[hb]? =some (.cells #[.int .i64 addr,.int .i64 tick,.int .i64 cid,.int .i64 str,bv] 55 (0,0))
theorem GBox.sf{hb:Nat}{addr tick cid str:Int}{bv:Value}{w0 w w':World}(h:GBox hb addr tick cid str bv w)(hc:Chg (SF w0 w) w w'):GBox hb addr tick cid str bv w':=box_sf h (by simp[eQ]) hc
theorem GBox.below{hb:Nat}{addr tick cid str:Int}{bv:Value}{w w':World}(h:GBox hb addr tick cid str bv w)(hb':Below w.heap.size w w'):GBox hb addr tick cid str bv w':=dq h hb'
structure BdC(p:BdP)(k:Nat)(now:Int)(came went:Nat->Int)(pv:Nat->Bool)(hb:Nat)(addr tick cid str:Int)(bv:Value)(w:World):Prop where
 ex:∃s,Bd p (1100000*k) (1100000*(k:Int)) (2*(k:Int)) s came went pv w/\Acc s came went pv/\s.now=now
 box:GBox hb addr tick cid str bv w
def PvNext(g:Cfg)(a:Nat)(b:List Int)(pv pv':Nat->Bool):Prop:=(∀k,k≠a->pv' k=pv k)/\(pv' a=false->pv a=false/\¬kC g a b)
structure OutsOk(x:List (Int×List Int))(K:Int):Prop where
 dst:∀o∈x,0<=o.1/\o.1<=255/\o.2≠[]
 len:lens x<=K
theorem OutsOk.count{K:Int}:∀{x:List (Int×List Int)},OutsOk x K->(x.length:Int)<=lens x
 |[],_=>by simp[lens]
 |o::x,h=>by
  have h1:=(h.dst o List.mem_cons_self).2.2
  have h2:(x.length:Int)<=lens x:=OutsOk.count (K:=K) ⟨fun q hq=>h.dst q (List.mem_cons_of_mem _ hq),by
   have:=h.len
   simp only[lens,List.map_cons,List.sum_cons]at this⊢
   omega⟩
  have h3:0<o.2.length:=List.length_pos_iff.2 h1
  simp only[lens,List.map_cons,List.sum_cons,List.length_cons]at h2⊢
  omega
structure BdR(p:BdP)(N:Nat)(M L:Int)(now:Int)(a:Nat)(b:List Int)(came cm went:Nat->Int)(pv:Nat->Bool)(hb:Nat)(addr tick cid str:Int)(bv lv:Value)(w:World):Prop where
 ex:∃s x bo,Bd p N M L s cm went pv w/\(∀pv',PvNext p.g a b pv pv'->Acc s (fun i=>came i+if i=a then(b.length:Int) else 0) (fun i=>went i+bG i x) pv')/\s.now=now/\OutsAt w bo lv x/\(p.wc.heap.size<=bo/\bo<=w.heap.size)/\OutsOk x 100
 box:GBox hb addr tick cid str bv w
theorem kN(n:Nat){s:ay}{i:Nat}{c:aq}(b:List Int)(outs:List (Int×List Int))(hi:s.conns[i]? =some c):(bU s i b outs n).1.now=s.now:=by
 rw[dC n b outs hi]
 rfl
theorem receive_now(s:ay)(a:Int)(b:List Int):(bt s a b).1.now=s.now:=by
 unfold bt
 split
 ·rfl
 ·split
  ·rfl
  ·next d hd=>
   split
   ·unfold dO
    split
    ·split
     ·unfold dN
      split
      ·rfl
      ·simp only
       split<;>rfl
     ·rfl
    ·split
     ·split
      ·split
       ·rfl
       ·unfold j9
        simp only
        rw[kN _ _ _ (c:=iY (s.last+1) (aZ (aM s d.cid a b.length true) (aI s.c (aM s d.cid a b.length true)))) (by unfold jE;simp only;rw[bm,bm,cB])]
        rfl
      ·rfl
     ·split
      ·rfl
      ·split
       ·rfl
       ·unfold ka
        simp only
        rw[kN _ _ _ (c:=aZ (aM s d.cid a b.length false) (aI s.c (aM s d.cid a b.length false))) (by simp only;rw[bm,cB])]
   ·unfold eR
    split
    ·rfl
    ·split
     ·rfl
     ·next c hc=>
      split
      ·rfl
      ·split
       ·rfl
       ·rw[kN _ _ _ (aC hc)]
theorem bd_recv [LoM] {p:BdP}{k:Nat}{now:Int}{came went:Nat->Int}{pv:Nat->Bool}{hb:Nat}{addr tick cid str:Int}{ba:Option Addr}{bl bc:Nat}{bs:List Int}{w:World}(hE:Env p.wc)(h:BdC p k now came went pv hb addr tick cid str (.slice ba bl bc) w)(hrd:RdB p.wi (.slice ba bl bc) bs)(hbl:bs.length=bl)(hl:bl<=1048576)(hk:k<=1048576)(a:Nat)(ha:a<256):
  Calls Tryz.prog 20 #[.pointer (some ⟨p.sb,0,none⟩),.int .i64 a,.slice ba bl bc] w fun e w'=>∃la ln lc,e=.returned (.slice la ln lc)/\Hid (BdR p (1100000*k+1+bl) (1100000*(k:Int)+bl+100) (2*(k:Int)+2) now a bs came came went pv hb addr tick cid str (.slice ba bl bc) (.slice la ln lc) w'):=by
 obtain⟨s,hbd,hacc,hnw⟩:=h.ex
 subst hbl
 have hby:=hrd.1
 refine(hbd.live.receive hE (a:Int) (hrd.below hbd.bel) (by omega) (by omega) (by omega) (by omega)).mono ?_
 rintro e w' ⟨⟨v,rfl,hO⟩,hL,hc⟩
 obtain⟨la,lc,rfl⟩:=hO.form
 have hm:=receive_moved (a:=(a:Int)) hbd.live.inv hbd.fair (by omega) hby
 have hs:=hc.size
 refine⟨la,_,lc,rfl,⟨⟨_,_,w.heap.size,hbd.srv hL hc hm.fair hm.cfg,fun pv' hp=>?_,(receive_now _ _ _).trans hnw,hO,⟨hbd.live.bel.size,hs⟩,⟨fun o ho=>?_,receive_lens _ _ _⟩⟩,h.box.sf hc⟩⟩
 ·exact hacc.recv hm (fun _=>rfl) (fun _=>rfl) hp.1 (fun hq=>by rw[hbd.cfg];exact hp.2 hq)
 ·have:=hm.dst o ho
  exact⟨by omega,by omega,this.2⟩
theorem bd_none{p:BdP}{k:Nat}{now:Int}{came went:Nat->Int}{pv:Nat->Bool}{hb:Nat}{addr tick cid str:Int}{bv:Value}{w:World}{bs:List Int}(h:BdC p k now came went pv hb addr tick cid str bv w){bl:Nat}(hz:bl=0)(hbl:bs.length=bl)(a:Nat):
  BdR p (1100000*k+1+bl) (1100000*(k:Int)+bl+100) (2*(k:Int)+2) now a bs came (fun i=>came i+if i=a then(bs.length:Int) else 0) went pv hb addr tick cid str bv (.slice none 0 0) w:=by
 obtain⟨s,hbd,hacc,hnw⟩:=h.ex
 have hz:(fun i=>came i+if i=a then(bs.length:Int) else 0)=came:=by
  funext i
  rw[hbl,hz]
  split<;>simp
 rw[hz]
 refine⟨⟨s,[],w.heap.size,hbd.mono (by omega) (by omega) (by omega),fun pv' hp=>?_,hnw,OutsAt.nil _ _,⟨hbd.live.bel.size,Nat.le_refl _⟩,⟨fun o ho=>(by cases ho),by simp[lens]⟩⟩,h.box⟩
 exact hacc.recv (a:=a) (P:=kC p.g a bs) (Moved.stay hbd.fair (n:=(bs.length:Int)) (by omega)) (fun _=>rfl) (fun _=>rfl) hp.1 hp.2
theorem BdR.note{p:BdP}{N:Nat}{M L:Int}{now:Int}{a:Nat}{b:List Int}{came cm cm' went:Nat->Int}{pv:Nat->Bool}{hb:Nat}{addr tick cid str:Int}{bv lv:Value}{w:World}(h:BdR p N M L now a b came cm went pv hb addr tick cid str bv lv w)(q:Nat)(v:Int)(hf:∀i,cm' i=if i=q then v else cm i):
  BdR p N M L now a b came cm' went pv hb addr tick cid str bv lv (w.setCell ⟨p.ab,q,none⟩ (.int .i64 v)).drew:=by
 obtain⟨s,x,bo,hbd,hacc,hnw,hO,hbo,hx⟩:=h.ex
 obtain⟨ca,hca,_⟩:=id hbd.ca
 have hc:=jL w p.ab q (.int .i64 v)
 have hd:Below (w.setCell ⟨p.ab,q,none⟩ (.int .i64 v)).heap.size (w.setCell ⟨p.ab,q,none⟩ (.int .i64 v)) (w.setCell ⟨p.ab,q,none⟩ (.int .i64 v)).drew:=aj (Below.refl _ _) 1
 have hs:=hc.size
 refine⟨⟨s,x,bo,(hbd.came q v hf).below hd,hacc,hnw,(hO.chg hc (fun k cur fr hk e=>eK hk (e▸hca) (by decide) rfl) (fun k cur fr hk e=>eK hk (e▸hca) (by decide) rfl)).below hd,⟨hbo.1,Nat.le_trans hbo.2 hs⟩,hx⟩,?_⟩
 have hbx:=h.box
 unfold GBox at hbx⊢
 refine dq ?_ hd
 rw[hc.block hb (Array.getElem?_eq_some_iff.1 hbx).1 (eK hbx hca (by decide))]
 exact hbx
theorem read_now(s:ay)(cid id most:Int):(cI s cid id most).2.2.1.now=s.now:=by
 unfold cI
 split
 ·rfl
 ·split
  ·rfl
  ·split
   ·rfl
   ·split
    ·rfl
    ·split<;>rfl
theorem Bd.other{p:BdP}{N:Nat}{M L:Int}{s:ay}{came went:Nat->Int}{pv:Nat->Bool}{w w':World}(h:Bd p N M L s came went pv w){F:Nat->Prop}{T:TypeId}(hT:(¬eQ T/\T≠5)/\T≠26/\T≠70/\T≠71)(hc:Chg F w w')(hF:∀k,F k->p.wc.heap.size<=k/\∃cur fr,w.heap[k]? =some (.cells cur T fr)):Bd p N M L s came went pv w':=by
 have hlay:=h.lay
 have hne:∀{k:Nat} {cur:Array Value} {e:TypeId} {fr:Nat×Nat},w.heap[k]? =some (.cells cur e fr)->T≠e->¬F k:=fun hk he hf=>by
  obtain⟨_,_,_,h2⟩:=hF _ hf
  exact eK h2 hk he rfl
 obtain⟨ca,hca,_⟩:=id h.ca
 obtain⟨wa,hwa,_⟩:=id h.wa
 obtain⟨pa,hpa,_⟩:=id h.pa
 refine⟨h.live.other hT.1 hc hF,h.fair,h.cfg,?_,h.ca.chg hc (hne hca hT.2.2.1),h.wa.chg hc (hne hwa hT.2.2.1),h.pa.chg hc (hne hpa hT.2.2.2),⟨hc.os.trans h.bel.os,hc.tape.trans h.bel.tape,hc.output.trans h.bel.output,Nat.le_trans h.bel.size hc.size,fun k hk=>?_⟩,h.lay⟩
 ·rw[hc.block p.cb (Array.getElem?_eq_some_iff.1 h.cfgB).1 (hne h.cfgB hT.2.1)]
  exact h.cfgB
 ·rw[hc.block k (Nat.lt_of_lt_of_le hk h.bel.size) (fun e=>by have:=(hF k e).1;omega),h.bel.block k hk]
structure BdE(p:BdP)(N:Nat)(M L:Int)(now:Int)(a:Nat)(b:List Int)(came cm went:Nat->Int)(pv:Nat->Bool)(hb:Nat)(addr tick cid str:Int)(bv lv mv:Value)(tn:Nat)(w:World):Prop where
 ex:∃s x y bo W0 F,Bd p N M L s cm went pv w/\(∀pv',PvNext p.g a b pv pv'->Acc s (fun i=>came i+if i=a then(b.length:Int) else 0) (fun i=>went i+bG i (x++y)) pv')/\s.now=now/\OutsAt W0 bo lv x/\(p.wc.heap.size<=bo/\bo<=W0.heap.size)/\Chg F W0 w/\(∀k cur fr,W0.heap[k]? =some (.cells cur 60 fr)->¬F k)/\(∀k cur fr,W0.heap[k]? =some (.cells cur 5 fr)->¬F k)/\OutsAt w W0.heap.size mv y/\OutsOk (x++y) 200
 box:GBox hb addr tick cid str bv w
 few:(tn:Int)<=p.g.c1
theorem bd_read{p:BdP}{N:Nat}{M L:Int}{now:Int}{a:Nat}{b:List Int}{came cm went:Nat->Int}{pv:Nat->Bool}{hb:Nat}{addr tick cid str:Int}{bv lv:Value}{w:World}(h:BdR p N M L now a b came cm went pv hb addr tick cid str bv lv w)(hM:M<=1125899906842000)(hN:N+2<1125899906842624)(c i:Int)(hc:-9223372036854775808<=c/\c<=9223372036854775807)(W:World)(hW:Below w.heap.size w W):
  Calls Tryz.prog 17 #[.pointer (some ⟨p.sb,0,none⟩),.int .i64 c,.int .i64 i,.int .i64 50] W fun e w'=>∃ta tn tc f r va vn vc er,e=.returned (.tuple #[.agg #[.slice ta tn tc,.bool f,.bool r],.slice va vn vc,.int .i64 er])/\Hid (BdE p (N+2) (M+60) L now a b came cm went pv hb addr tick cid str bv lv (.slice va vn vc) tn w')/\Hid (Chg (SF p.wc W) W w'):=by
 obtain⟨s,x,bo,hbd,hacc,hnw,hO,hbo,hx⟩:=h.ex
 have hbd2:=hbd.below hW
 refine(hbd2.live.read c i 50 hM hN hc (by decide)).mono ?_
 rintro e w' ⟨⟨tv,v,rfl,htv,hO2⟩,hL,hch⟩
 obtain⟨ta,tc,rfl⟩:=be htv
 obtain⟨va,vc,rfl⟩:=hO2.form
 have hm:=read_moved (cid:=c) (id:=i) (most:=50) hbd2.live.inv hbd2.fair
 have had:∀d∈s.conns,0<=d.addr/\d.addr<256:=fun d hd=>(hbd2.live.inv.ok d hd).addr
 have hl1:=hx.len
 have hl2:=read_lens s c i 50
 refine⟨ta,_,tc,_,_,va,_,vc,_,rfl,⟨⟨_,x,_,bo,W,SF p.wc W,hbd2.srv hL hch hm.fair hm.cfg,fun pv' hp=>?_,(read_now _ _ _ _).trans hnw,hO.below hW,⟨hbo.1,Nat.le_trans hbo.2 hW.size⟩,hch,fun k cur fr hk=>SF.not hk (by simp[eQ]),fun k cur fr hk=>SF.not hk (by simp[eQ]),hO2,⟨fun o ho=>?_,by rw[j6];omega⟩⟩,(h.box.below hW).sf hch,?_⟩,hch⟩
 ·exact(hacc pv' hp).read hm (fun d hd=>(had d hd).1) (fun k=>by rw[iH];omega)
 ·rcases List.mem_append.1 ho with ho|ho
  ·exact hx.dst o ho
  ·rcases hm.same with⟨_,e2⟩|⟨j,d,d',hd,_,_,_,_,ht⟩
   ·rw[e2]at ho
    cases ho
   ·have h1:=ht o ho
    have h2:=had d (List.mem_of_getElem? hd)
    exact⟨by omega,by omega,h1.2⟩
 ·have:=hm.few
  rw[hbd.cfg]at this
  exact this
theorem BdE.chg{p:BdP}{N:Nat}{M L:Int}{now:Int}{a:Nat}{b:List Int}{came cm went:Nat->Int}{pv:Nat->Bool}{hb:Nat}{addr tick cid str:Int}{bv lv mv:Value}{tn:Nat}{w w':World}(h:BdE p N M L now a b came cm went pv hb addr tick cid str bv lv mv tn w){F:Nat->Prop}(hc:Chg F w w')(hF:∀k,F k->p.wc.heap.size<=k/\∃cur fr,w.heap[k]? =some (.cells cur 46 fr)):BdE p N M L now a b came cm went pv hb addr tick cid str bv lv mv tn w':=by
 obtain⟨s,x,y,bo,W0,F0,hbd,hacc,hnw,hO,hbo,hch,hf1,hf2,hO2,hx⟩:=h.ex
 have hne:∀{k:Nat} {cur:Array Value} {e:TypeId} {fr:Nat×Nat},w.heap[k]? =some (.cells cur e fr)->46≠e->¬F k:=fun hk he hf=>by
  obtain⟨_,_,_,h2⟩:=hF _ hf
  exact eK h2 hk he rfl
 refine⟨⟨s,x,y,bo,W0,fun k=>F0 k\/F k,hbd.other (T:=46) (by simp[eQ]) hc hF,hacc,hnw,hO,hbo,dG (hch.mono fun k _ e=>Or.inl e) hc (fun k _ e=>Or.inr e),fun k cur fr hk e=>?_,fun k cur fr hk e=>?_,hO2.chg hc (fun k cur fr hk=>hne hk (by decide)) (fun k cur fr hk=>hne hk (by decide)),hx⟩,?_,h.few⟩
 ·rcases e with e|e
  ·exact hf1 k cur fr hk e
  ·have h1:=(hch.block k (Array.getElem?_eq_some_iff.1 hk).1 (hf1 k cur fr hk)).trans hk
   exact hne h1 (by decide) e
 ·rcases e with e|e
  ·exact hf2 k cur fr hk e
  ·have h1:=(hch.block k (Array.getElem?_eq_some_iff.1 hk).1 (hf2 k cur fr hk)).trans hk
   exact hne h1 (by decide) e
 ·have hbx:=h.box
  unfold GBox at hbx⊢
  rw[hc.block hb (Array.getElem?_eq_some_iff.1 hbx).1 (hne hbx (by decide))]
  exact hbx
theorem BdE.below{p:BdP}{N:Nat}{M L:Int}{now:Int}{a:Nat}{b:List Int}{came cm went:Nat->Int}{pv:Nat->Bool}{hb:Nat}{addr tick cid str:Int}{bv lv mv:Value}{tn:Nat}{w w':World}(h:BdE p N M L now a b came cm went pv hb addr tick cid str bv lv mv tn w)(hb':Below w.heap.size w w'):BdE p N M L now a b came cm went pv hb addr tick cid str bv lv mv tn w':=
 h.chg (F:=fun _=>False) (Chg.of_below hb') (fun _ e=>e.elim)
structure BdF(p:BdP)(N:Nat)(M L:Int)(now:Int)(a:Nat)(b:List Int)(came cm went:Nat->Int)(pv:Nat->Bool)(hb:Nat)(addr tick cid str:Int)(bv lv:Value)(w:World):Prop where
 ex:∃s x bo,Bd p N M L s cm went pv w/\(∀pv',PvNext p.g a b pv pv'->Acc s (fun i=>came i+if i=a then(b.length:Int) else 0) (fun i=>went i+bG i x) pv')/\s.now=now/\OutsAt w bo lv x/\(p.wc.heap.size<=bo/\bo<=w.heap.size)/\OutsOk x 200
 box:GBox hb addr tick cid str bv w
theorem bd_app{p:BdP}{N:Nat}{M L:Int}{now:Int}{a:Nat}{b:List Int}{came cm went:Nat->Int}{pv:Nat->Bool}{hb:Nat}{addr tick cid str:Int}{bv lv mv:Value}{tn:Nat}{w:World}(h:BdE p N M L now a b came cm went pv hb addr tick cid str bv lv mv tn w)(ty:TypeId):
  ∃(la:Option Addr) (ln lc:Nat) (w':World),(Builtin.append_ #[47,47] ty #[lv,mv]).run Tryz.prog w=.ok (.slice la ln lc) w'/\BdF p N M L now a b came cm went pv hb addr tick cid str bv (.slice la ln lc) w'/\∀(k:Nat) (cur:Array Value) (fr:Nat×Nat),w.heap[k]? =some (Obj.cells cur 46 fr)->w'.heap[k]? =some (.cells cur 46 fr):=by
 obtain⟨s,x,y,bo,W0,F0,hbd,hacc,hnw,hO,hbo,hch,hf1,hf2,hO2,hx⟩:=h.ex
 have hcnt:=hx.count
 have hlen:=hx.len
 rw[List.length_append]at hcnt
 obtain⟨v',w9,hrun,ho9,hg9⟩:=outs_append (A:=fun _=>False) W0 w bo lv mv x y hO hch hf1 hf2 (OutsU.of hO2 fun _ _ e=>e) (fun _ _ _ e=>e) (by omega) hbo.2 ty
 have hc9:Chg (fun k=>lv.ownBlock=some k) w w9:=⟨hg9.os,hg9.tape,hg9.output,hg9.size,fun k hk hn=>hg9.block k hk (fun e=>hn e.symm)⟩
 obtain⟨out,how,_⟩:=id (hO.chg hch hf1 hf2)
 have hF:∀k,lv.ownBlock=some k->p.wc.heap.size<=k/\∃cur fr,w.heap[k]? =some (.cells cur 60 fr):=fun k hk=>by
  obtain⟨cs,e1⟩:=aJ how hk
  have:=(how.lt k hk).1
  exact⟨by omega,cs,(0,0),e1⟩
 have hne:∀{k:Nat} {cur:Array Value} {e:TypeId} {fr:Nat×Nat},w.heap[k]? =some (.cells cur e fr)->60≠e->¬lv.ownBlock=some k:=fun hk he hf=>by
  obtain⟨_,_,_,h2⟩:=hF _ hf
  exact eK h2 hk he rfl
 obtain⟨la,lc,rfl⟩:=ho9.at.form
 have hs9:=hc9.size
 have hs0:=hch.size
 refine⟨la,_,lc,w9,hrun,⟨⟨s,x++y,bo,hbd.other (T:=60) (by simp[eQ]) hc9 hF,hacc,hnw,ho9.at,⟨hbo.1,by omega⟩,hx⟩,?_⟩,fun k cur fr hk=>?_⟩
 ·have hbx:=h.box
  unfold GBox at hbx⊢
  rw[hc9.block hb (Array.getElem?_eq_some_iff.1 hbx).1 (hne hbx (by decide))]
  exact hbx
 ·rw[hc9.block k (Array.getElem?_eq_some_iff.1 hk).1 (hne hk (by decide))]
  exact hk
structure BdS(p:BdP)(N:Nat)(M L:Int)(now:Int)(a:Nat)(b:List Int)(came went wt:Nat->Int)(pv:Nat->Bool)(hb:Nat)(addr tick cid str:Int)(bv lv:Value)(s:ay)(x:List (Int×List Int))(bo:Nat)(w:World):Prop where
 bd:Bd p N M L s (fun i=>came i+if i=a then(b.length:Int) else 0) wt pv w
 acc:∀pv',PvNext p.g a b pv pv'->Acc s (fun i=>came i+if i=a then(b.length:Int) else 0) (fun i=>went i+bG i x) pv'
 now:s.now=now
 outs:OutsAt w bo lv x
 bos:p.wc.heap.size<=bo/\bo<=w.heap.size
 ok:OutsOk x 200
 box:GBox hb addr tick cid str bv w
theorem BdF.named{p:BdP}{N:Nat}{M L:Int}{now:Int}{a:Nat}{b:List Int}{came went:Nat->Int}{pv:Nat->Bool}{hb:Nat}{addr tick cid str:Int}{bv lv:Value}{w:World}(h:BdF p N M L now a b came (fun i=>came i+if i=a then(b.length:Int) else 0) went pv hb addr tick cid str bv lv w):∃s x bo,BdS p N M L now a b came went went pv hb addr tick cid str bv lv s x bo w:=by
 obtain⟨s,x,bo,h1,h2,h3,h4,h5,h6⟩:=h.ex
 exact⟨s,x,bo,h1,h2,h3,h4,h5,h6,h.box⟩
section
variable {p : BdP} {N : Nat} {M L : Int} {now : Int} {a : Nat} {b : List Int} {came went wt : Nat -> Int} {pv : Nat -> Bool} {hb : Nat} {addr tick cid str : Int} {bv lv : Value} {s : ay} {x : List (Int × List Int)} {bo : Nat} {w : World}
theorem BdS.below{w':World}(h:BdS p N M L now a b came went wt pv hb addr tick cid str bv lv s x bo w)(hb':Below w.heap.size w w'):BdS p N M L now a b came went wt pv hb addr tick cid str bv lv s x bo w':=
 ⟨h.bd.below hb',h.acc,h.now,h.outs.below hb',⟨h.bos.1,Nat.le_trans h.bos.2 hb'.size⟩,h.ok,h.box.below hb'⟩
def LookYes(sb:Nat)(n:Int)(w:World):Prop:=Calls Tryz.prog 16 #[.pointer (some ⟨sb,0,none⟩),.int .i64 n] w fun e w'=>∃l1 l2 l3 l4 l5,e=.returned (.tuple #[.agg #[.bool true,.int .i64 l1,.int .i64 l2,.int .i64 l3,.int .i64 l4,.int .i64 l5],.int .i64 0])/\Below w.heap.size w w'
theorem bd_accept(h:BdS p N M L now a b came went wt pv hb addr tick cid str bv lv s x bo w):
  Calls Tryz.prog 21 #[.pointer (some ⟨p.sb,0,none⟩)] w fun e w'=>∃n f,e=.returned (.tuple #[.int .i64 n,.int .i64 f])/\(f=0\/f=4)/\Hid (BdS p N M L now a b came went wt pv hb addr tick cid str bv lv (bg s).2.2 x bo w')/\Hid (f=0->LookYes p.sb n w')/\Hid (Chg (SF p.wc w) w w'):=by
 refine h.bd.live.accept.mono ?_
 rintro e w' ⟨rfl,hL,hc⟩
 obtain⟨k1,k2,k3,k4,k5,k6⟩:=accept_is h.bd.live.inv h.bd.fair
 have hs:=hc.size
 refine⟨_,_,rfl,k4,⟨h.bd.srv hL hc k1 k5,fun pv' hp=>k2 (h.acc pv' hp),?_,h.outs.sf hc,⟨h.bos.1,Nat.le_trans h.bos.2 hs⟩,h.ok,h.box.sf hc⟩,fun hf=>?_,hc⟩
 ·rw[<-h.now]
  unfold bg
  split
  ·rfl
  ·split<;>rfl
 ·obtain⟨k,c,f1,f2,f3⟩:=k6 hf
  refine(hL.look (bg s).1 (by omega)).mono ?_
  rintro e w'' ⟨rfl,hb'⟩
  have hl:lookS (bg s).2.2 (bg s).1=(lookC c,0):=by
   unfold lookS
   rw[f1]
   simp only
   rw[f2]
  rw[hl]
  unfold lookC
  rw[f3]
  exact⟨_,_,_,_,_,rfl,hb'⟩
theorem bd_look(h:BdS p N M L now a b came went wt pv hb addr tick cid str bv lv s x bo w)(hM:M<=1125899906842624)(q:Nat)(hq:q<=64):
  Calls Tryz.prog 16 #[.pointer (some ⟨p.sb,0,none⟩),.int .i64 (q:Int)] w fun e w'=>∃(z:Bool) (l1 l2 l3 l4 l5 f:Int),e=.returned (.tuple #[.agg #[.bool z,.int .i64 l1,.int .i64 l2,.int .i64 l3,.int .i64 l4,.int .i64 l5],.int .i64 f])/\Hid (Below w.heap.size w w')/\
   (f=3/\gf s (q+1)=gf s q\/f=0/\gf s (q+1)=gf s q+1/\(0<=l5/\l5<=p.g.c1)/\(z=false->l2<=3*l1)/\p.g.c3<=l4/\p.g.c1<=l3/\(0<=l1/\l1<=1125899906842624)):=by
 refine(h.bd.live.look (q:Int) (by omega)).mono ?_
 rintro e w' ⟨rfl,hb'⟩
 unfold lookS
 rcases ea (l:=s.conns) (cid:=(q:Int)) with⟨e,_⟩|⟨k,c,e,hk,hc⟩
 ·rw[e]
  exact⟨_,_,_,_,_,_,_,rfl,hb',Or.inl ⟨rfl,by simp[gf,e]⟩⟩
 ·rw[e]
  simp only
  rw[hk]
  have hm:=List.mem_of_getElem? hk
  have hF:=h.bd.fair.con c hm
  have hI:=h.bd.live.inv.inv c hm
  have hO:=h.bd.live.inv.ok c hm
  have hbuf:=hF.buf hI
  have hg:=hO.got
  rw[h.bd.cfg]at hF hbuf
  exact⟨_,_,_,_,_,_,_,rfl,hb',Or.inr ⟨rfl,by simp[gf,e],hbuf,hF.few,hF.lim,hF.cre,by omega⟩⟩
theorem bd_memory(h:BdS p N M L now a b came went wt pv hb addr tick cid str bv lv s x bo w):
  Calls Tryz.prog 28 #[.pointer (some ⟨p.sb,0,none⟩)] w fun e w'=>∃m:Nat,e=.returned (.int .i64 ((m:Int)*cJ p.g))/\(m:Int)<=p.g.c0/\(m:Int)*cJ p.g<=p.g.c8/\(gf s 64<=m)/\Hid (Below w.heap.size w w'):=by
 refine h.bd.live.memory.mono ?_
 rintro e w' ⟨rfl,hb'⟩
 have h1:=h.bd.fair.mem
 have h2:=h.bd.live.inv.few
 rw[h.bd.cfg]at h2
 unfold iB at h1⊢
 rw[h.bd.cfg]at h1⊢
 exact⟨s.conns.length,rfl,h2,h1,cntTo_len s 64,hb'⟩
theorem BdS.pay(h:BdS p N M L now a b came went wt pv hb addr tick cid str bv lv s x bo w)(q:Nat)(v:Int){wt':Nat->Int}(hf:∀i,wt' i=if i=q then v else wt i):BdS p N M L now a b came went wt' pv hb addr tick cid str bv lv s x bo (w.setCell ⟨p.eb,q,none⟩ (.int .i64 v)).drew:=by
 obtain⟨wa,hwa,_⟩:=id h.bd.wa
 have hc:=jL w p.eb q (.int .i64 v)
 have hd:Below (w.setCell ⟨p.eb,q,none⟩ (.int .i64 v)).heap.size (w.setCell ⟨p.eb,q,none⟩ (.int .i64 v)) (w.setCell ⟨p.eb,q,none⟩ (.int .i64 v)).drew:=aj (Below.refl _ _) 1
 have hs:=hc.size
 refine⟨(h.bd.went q v hf).below hd,h.acc,h.now,(h.outs.chg hc (fun k cur fr hk e=>eK hk (e▸hwa) (by decide) rfl) (fun k cur fr hk e=>eK hk (e▸hwa) (by decide) rfl)).below hd,⟨h.bos.1,Nat.le_trans h.bos.2 hs⟩,h.ok,?_⟩
 have hbx:=h.box
 unfold GBox at hbx⊢
 refine dq ?_ hd
 rw[hc.block hb (Array.getElem?_eq_some_iff.1 hbx).1 (eK hbx hwa (by decide))]
 exact hbx
theorem bd_next(h:BdS p N M L now a b came went wt pv hb addr tick cid str bv lv s x bo w)(hw:∀i,wt i=went i+bG i x)(v:Bool)(hv:v=false->pv a=false/\¬kC p.g a b){k:Nat}(hN:N<=1100000*(k+1))(hM:M<=1100000*((k+1:Nat):Int))(hL:L<=2*((k+1:Nat):Int))(hl:b.length<=1048576)
  (hcr:∀i,0<=came i/\came i<=1048576*(k:Int)) (hwr:∀i,0<=went i/\went i<=200*(k:Int)) {W:World} (hW:W=(w.setCell ⟨p.pb,a,none⟩ (.bool v))\/W=(w.setCell ⟨p.pb,a,none⟩ (.bool v)).drew):BdAt p (k+1) now W/\Acc s (fun i=>came i+if i=a then(b.length:Int) else 0) wt (fun i=>if i=a then v else pv i)/\Bd p N M L s (fun i=>came i+if i=a then(b.length:Int) else 0) wt (fun i=>if i=a then v else pv i) W:=by
 have hacc:Acc s (fun i=>came i+if i=a then(b.length:Int) else 0) wt (fun i=>if i=a then v else pv i):=by
  have h1:=h.acc (fun i=>if i=a then v else pv i) ⟨fun k hk=>by simp[hk],fun e=>hv (by simpa using e)⟩
  have e:wt=fun i=>went i+bG i x:=funext hw
  rw[e]
  exact h1
 have hbd0:=h.bd.pv (pv':=fun i=>if i=a then v else pv i) a v (fun _=>rfl)
 have hbd:Bd p N M L s (fun i=>came i+if i=a then(b.length:Int) else 0) wt (fun i=>if i=a then v else pv i) W:=by
  rcases hW with rfl|rfl
  ·exact hbd0
  ·exact hbd0.below (aj (Below.refl _ _) 1)
 refine⟨⟨s,_,_,_,hbd.mono hN hM hL,hacc,h.now,fun i=>?_,fun i=>?_⟩,hacc,hbd⟩
 ·have:=hcr i
  split<;>omega
 ·have h1:=hwr i
  have h2:=jb i x
  have h3:=h.ok.len
  rw[hw i]
  omega
end
def fK:Code->Option Code
 |.loop c=>some c
 |.seq a b=>match fK a with
  |some c=>some c
  |none=>fK b
 |.block _ c=>fK c
 |.scope c=>fK c
 |.cond _ a b=>match fK a with
  |some c=>some c
  |none=>fK b
 |_=>none
def blockIn:Code->Code
 |.seq _ (.seq (.block _ c) _)=>c
 |c=>c
def dW(f:Func):Code:=blockIn ((f.body.bind fK).getD .skip)
def spine:Nat->Code->Code
 |0,c=>c
 |n+1,.seq _ b=>spine n b
 |_,c=>c
def cutAt:Nat->Code->Code->Code
 |0,_,t=>t
 |n+1,.seq a b,t=>.seq a (cutAt n b t)
 |_,c,_=>c
structure BdH [LoM] (w wn:World)(G:Cfg)(n k an:Nat)(cid str:Int)(ba:Option Addr)(bl bc:Nat)(bs:List Int)(came went:Nat->Int):Prop where
 hk:k<n
 hn:n<=1048576
 an:an<256
 rd:RdB w (.slice ba bl bc) bs
 len:bs.length=bl
 bl:bl<=1048576
 rc:kH cid
 rs:kH str
 cr:∀i,0<=came i/\came i<=1048576*(k:Int)
 wr:∀i,0<=went i/\went i<=200*(k:Int)
 en:Env wn
 rt:G.right=true
 ok:cO G
theorem BdAt.below{p:BdP}{k:Nat}{now:Int}{w w':World}(h:BdAt p k now w)(hb:Below w.heap.size w w'):BdAt p k now w':=by
 obtain⟨s,came,went,pv,h1,h2,h3,h4,h5⟩:=h.ex
 exact⟨s,came,went,pv,h1.below hb,h2,h3,h4,h5⟩
theorem sent_take{x:List (Int×List Int)}{q:Nat}{o:Int×List Int}(h:x[q]? =some o)(i:Nat):bG i (x.take (q+1))=bG i (x.take q)+if o.1=(i:Int) then(o.2.length:Int) else 0:=by
 rw[List.take_add_one,h,iH]
 simp[bG]
theorem sent_take_le(x:List (Int×List Int))(q i:Nat):0<=bG i (x.take q)/\bG i (x.take q)<=lens x:=by
 have h1:=(jb i (x.take q)).1
 have h2:=(jb i (x.drop q)).1
 have h3:=jb i x
 have h4:bG i x=bG i (x.take q)+bG i (x.drop q):=by rw[<-iH,List.take_append_drop]
 omega
theorem bds_a [LoM] {c0 c2 c3 c5 c8 c33 c34 c35 c36 c37 c38 c39 c40 c41 c42 c43 c44 c45 c46 c47 c48 c49 c50:Value}{ga:Option Addr}{gcap:Nat}{w wn:World}{cb ab eb pb sb:Nat}{G:Cfg}{n k:Nat}{gs:List GrmE}{now:Int}{v4 v14 v15 v16 v17 v18 v19 v20 v21 v22 v23 v24 v25 v26 v27 v28 v29 v30 v31 v32 v51 v52 v53 v54 v55 v56 v57 v58 v59 v60 v61 v62 v63 v64 v65 v66 v67 v68 v69 v70 v71 v72 v73 v74 v75 v76 v77 v78 v79 v80 v81 v82 v83 v84 v85 v86 v87 v88 v89 v90 v91 v92 v93 v94 v95 v96 v97 v98 v99 v100 v101 v102 v103 v104 v105 v106 v107 v108 v109 v110 v111 v112 v113 v114 v115 v116 v117 v118 v119 v120 v121 v122 v123 v124 v125 v126 v127 v128 v129 v130 v131 v132 v133 v134 v135 v136 v137 v138 v139 v140 v141 v142 v143 v144 v145 v146 v147 v148 v149 v150 v151 v152 v153 v154 v155 v156 v157 v158 v159 v160 v161 v162 v163 v164 v165 v166 v167 v168 v169 v170 v171 v172 v173 v174 v175 v176 v177 v178 v179 v180 v181 v182 v183 v184 v185 v186 v187 v188 v189 v190 v191 v192 v193 v194 v195 v196 v197 v198 v199 v200 v201 v202 v203 v204 v205 v206 v207 v208 v209 v210 v211 v212 v213 v214 v215 v216 v217 v218 v219 v220 v221 v222 v223 v224 v225 v226 v227 v228 v229 v230 v231 v232 v233 v234 v235 v236 v237 v238 v239 v240 v241 v242 v243 v244 v245 v246 v247 v248 v249 v250 v251 v252 v253 v254 v255 v256 v257 v258 v259 v260 v261 v262 v263 v264 v265 v266 v267 v268 v269 v270 v271 v272 v273 v274 v275 v276 v277 v278 v279 v280 v281 v282 v283 v284 v285 v286 v287 v288 v289 v290 v291 v292 v293 v294 v295 v296 v297 v298 v299 v300:Value}{Q:Exit->Act->World->Prop}{T:Code}
  (hT:∀(u4 u16 u17 u18 u19 u20 u21 u22 u23 u24 u25 u26 u27 u28 u29 u30 u31 u32 u51 u52 u53 u54 u55 u56 u57 u58 u59 u60 u61 u62 u63 u64 u65 u66 u67 u68 u69 u70 u71 u72 u73 u74 u75 u76 u77 u78 u79 u80 u81 u82 u83 u84 u85 u86 u87 u88 u89 u90 u91 u92 u93 u94 u95 u96 u97 u98 u99 u100 u101 u102 u103 u104 u105 u106 u107 u108 u109 u110 u111 u112 u113 u114 u115 u116 u117 u118 u119 u120 u121 u122 u123 u124 u125 u126 u127 u128 u129 u130 u131 u132 u133 u134 u135 u136 u137 u138 u139 u140 u141 u142 u143 u144 u145 u146 u147 u148 u149 u150 u151 u152 u153 u154 u155 u156 u157 u158 u159 u160 u161 u162 u163 u164 u165 u166 u167 u168 u169 u170 u171 u172 u173 u174 u175 u176 u177 u178 u179 u180 u181 u182 u183 u184 u185 u186 u187 u188 u189 u190 u191 u192 u193 u194 u195 u196 u197 u198 u199 u200 u201 u202 u203 u204 u205 u206 u207 u208 u209 u210 u211 u212 u213 u214 u215 u216 u217 u218 u219 u220 u221 u222 u223 u224 u225 u226 u227 u228 u229 u230 u231 u232 u233 u234 u235 u236 u237 u238 u239 u240 u241 u242 u243 u244 u245 u246 u247 u248 u249 u250 u251 u252 u253 u254 u255 u256 u257 u258 u259 u260 u261 u262 u263 u264 u265 u266 u267 u268 u269 u270 u271 u272 u273 u274 u275 u276 u277 u278 u279 u280 u281 u282 u283 u284 u285 u286 u287 u288 u289 u290 u291 u292 u293 u294 u295 u296 u297 u298 u299 u300:Value) (now':Int) (an hb:Nat) (addr tick cid str:Int) (ba:Option Addr) (bl bc:Nat) (bs:List Int) (came went:Nat->Int) (pv:Nat->Bool) (wz:World),Hid (BdH w wn G n k an cid str ba bl bc bs came went)->(0<=now'/\now'<=1000020)->Hid (BdC ⟨w,wn,cb,ab,eb,pb,sb,G⟩ k now' came went pv hb addr tick cid str (.slice ba bl bc) wz)->Code.wp Tryz.prog T Q ⟨(c0::.slice ga n gcap::c2::c3::u4::c5::.pointer (some ⟨cb,0,none⟩)::.pointer (some ⟨sb,0,none⟩)::c8::.pointer (some ⟨ab,0,none⟩)::.pointer (some ⟨eb,0,none⟩)::.pointer (some ⟨pb,0,none⟩)::.int .i64 now'::.int .i64 (k:Int)::.pointer (some ⟨hb,0,none⟩)::.int .i64 (an:Int)::u16::u17::u18::u19::u20::u21::u22::u23::u24::u25::u26::u27::u28::u29::u30::u31::u32::c33::c34::c35::c36::c37::c38::c39::c40::c41::c42::c43::c44::c45::c46::c47::c48::c49::c50::u51::u52::u53::u54::u55::u56::u57::u58::u59::u60::u61::u62::u63::u64::u65::u66::u67::u68::u69::u70::u71::u72::u73::u74::u75::u76::u77::u78::u79::u80::u81::u82::u83::u84::u85::u86::u87::u88::u89::u90::u91::u92::u93::u94::u95::u96::u97::u98::u99::u100::u101::u102::u103::u104::u105::u106::u107::u108::u109::u110::u111::u112::u113::u114::u115::u116::u117::u118::u119::u120::u121::u122::u123::u124::u125::u126::u127::u128::u129::u130::u131::u132::u133::u134::u135::u136::u137::u138::u139::u140::u141::u142::u143::u144::u145::u146::u147::u148::u149::u150::u151::u152::u153::u154::u155::u156::u157::u158::u159::u160::u161::u162::u163::u164::u165::u166::u167::u168::u169::u170::u171::u172::u173::u174::u175::u176::u177::u178::u179::u180::u181::u182::u183::u184::u185::u186::u187::u188::u189::u190::u191::u192::u193::u194::u195::u196::u197::u198::u199::u200::u201::u202::u203::u204::u205::u206::u207::u208::u209::u210::u211::u212::u213::u214::u215::u216::u217::u218::u219::u220::u221::u222::u223::u224::u225::u226::u227::u228::u229::u230::u231::u232::u233::u234::u235::u236::u237::u238::u239::u240::u241::u242::u243::u244::u245::u246::u247::u248::u249::u250::u251::u252::u253::u254::u255::u256::u257::u258::u259::u260::u261::u262::u263::u264::u265::u266::u267::u268::u269::u270::u271::u272::u273::u274::u275::u276::u277::u278::u279::u280::u281::u282::u283::u284::u285::u286::u287::u288::u289::u290::u291::u292::u293::u294::u295::u296::u297::u298::u299::u300::[]).toArray,[]⟩ wz)
  {wr:World} (HG:Hid (GramsAt w ga gs)) (HN:Hid (gs.length=n)) (hlt:k<n) (hn:n<=1048576) (hnow:0<=now/\now<=1000020) (HU:Hid (BdAt ⟨w,wn,cb,ab,eb,pb,sb,G⟩ k now wr)) (HEn:Hid (Env wn)) (HRt:Hid (G.right=true)) (HOk:Hid (cO G)):
  Code.wp Tryz.prog (cutAt 3 (spine 0 (dW Tryz.f9)) T) Q ⟨(c0::.slice ga n gcap::c2::c3::v4::c5::.pointer (some ⟨cb,0,none⟩)::.pointer (some ⟨sb,0,none⟩)::c8::.pointer (some ⟨ab,0,none⟩)::.pointer (some ⟨eb,0,none⟩)::.pointer (some ⟨pb,0,none⟩)::.int .i64 now::.int .i64 (k:Int)::v14::v15::v16::v17::v18::v19::v20::v21::v22::v23::v24::v25::v26::v27::v28::v29::v30::v31::v32::c33::c34::c35::c36::c37::c38::c39::c40::c41::c42::c43::c44::c45::c46::c47::c48::c49::c50::v51::v52::v53::v54::v55::v56::v57::v58::v59::v60::v61::v62::v63::v64::v65::v66::v67::v68::v69::v70::v71::v72::v73::v74::v75::v76::v77::v78::v79::v80::v81::v82::v83::v84::v85::v86::v87::v88::v89::v90::v91::v92::v93::v94::v95::v96::v97::v98::v99::v100::v101::v102::v103::v104::v105::v106::v107::v108::v109::v110::v111::v112::v113::v114::v115::v116::v117::v118::v119::v120::v121::v122::v123::v124::v125::v126::v127::v128::v129::v130::v131::v132::v133::v134::v135::v136::v137::v138::v139::v140::v141::v142::v143::v144::v145::v146::v147::v148::v149::v150::v151::v152::v153::v154::v155::v156::v157::v158::v159::v160::v161::v162::v163::v164::v165::v166::v167::v168::v169::v170::v171::v172::v173::v174::v175::v176::v177::v178::v179::v180::v181::v182::v183::v184::v185::v186::v187::v188::v189::v190::v191::v192::v193::v194::v195::v196::v197::v198::v199::v200::v201::v202::v203::v204::v205::v206::v207::v208::v209::v210::v211::v212::v213::v214::v215::v216::v217::v218::v219::v220::v221::v222::v223::v224::v225::v226::v227::v228::v229::v230::v231::v232::v233::v234::v235::v236::v237::v238::v239::v240::v241::v242::v243::v244::v245::v246::v247::v248::v249::v250::v251::v252::v253::v254::v255::v256::v257::v258::v259::v260::v261::v262::v263::v264::v265::v266::v267::v268::v269::v270::v271::v272::v273::v274::v275::v276::v277::v278::v279::v280::v281::v282::v283::v284::v285::v286::v287::v288::v289::v290::v291::v292::v293::v294::v295::v296::v297::v298::v299::v300::[]).toArray,[]⟩ wr:=by
 show Code.wp Tryz.prog (Code.seq _ (Code.seq _ (Code.seq _ T))) Q _ _
 have HT:=ae hT
 clear hT
 obtain⟨s,came,went,pv,hbd,hacc,hnw,hcr,hwr⟩:=HU.out.ex
 obtain⟨o,ho⟩:∃o,gs[k]? =some o:=⟨_,List.getElem?_eq_getElem (by rw[HN.out];exact hlt)⟩
 obtain⟨gb,off,rfl,q0,q1,q2,q3,q4,hrd⟩:=HG.out.at_ k o ho
 obtain⟨ra,rt,rc,rs,hbl⟩:=HG.out.rng o (List.mem_of_getElem? ho)
 obtain⟨addr,tick,cid,str,bv,bs⟩:=o
 simp only at q0 q1 q2 q3 q4 hrd ra rt rc rs hbl
 obtain⟨_,_,ba,bc,rfl,_⟩:=id hrd
 obtain⟨bl,hbl2⟩:∃bl,bs.length=bl:=⟨_,rfl⟩
 rw[hbl2]at hbl q4 hrd
 have p0:=af q0 hbd.bel
 have p1:=af q1 hbd.bel
 have p2:=af q2 hbd.bel
 have p3:=af q3 hbd.bel
 have p4:=af q4 hbd.bel
 have HPa:=ae (fun W=>kpick_q addr 256 W ra (by decide))
 have HPt:=ae (fun W=>kpick_q tick 20 W rt (by decide))
 have ha:=aY addr (n:=256) (by decide)
 have ht:=aY tick (n:=20) (by decide)
 have hbb:Below wr.heap.size wr (wr.alloc (.cells #[.int .i64 addr,.int .i64 tick,.int .i64 cid,.int .i64 str,.slice ba bl bc] 55)):=ag wr _
 have HC:Hid (BdC ⟨w,wn,cb,ab,eb,pb,sb,G⟩ k now came went pv wr.heap.size addr tick cid str (.slice ba bl bc) (wr.alloc (.cells #[.int .i64 addr,.int .i64 tick,.int .i64 cid,.int .i64 str,.slice ba bl bc] 55))):=⟨⟨s,hbd.below hbb,hacc,hnw⟩,heap_alloc_new wr _⟩
 obtain⟨an,hane⟩:∃an:Nat,br addr 256=(an:Int):=⟨_,(Int.toNat_of_nonneg ha.1).symm⟩
 rw[hane]at HPa ha
 have HH:Hid (BdH w wn G n k an cid str ba bl bc bs came went):=⟨hlt,hn,by omega,hrd,hbl2,hbl,rc,rs,hcr,hwr,HEn.out,HRt.out,HOk.out⟩
 clear q0 q1 q2 q3 q4 hrd ra rt rc rs hbl2 hbb hbd hacc hnw hcr hwr ho HU hane HG HN hn
 have hlt':(k:Int)<(n:Int):=by omega
 obtain⟨tk,htke⟩:∃tk,br tick 20=tk:=⟨_,rfl⟩
 rw[htke]at HPt ht
 clear htke
 go_wp2_with fail
 refine(HPa.out _).mono ?_
 rintro e w5 ⟨rfl,rfl⟩
 clear HPa p0 p1 p2 p3 p4
 generalize wr.alloc (.cells #[.int .i64 addr,.int .i64 tick,.int .i64 cid,.int .i64 str,.slice ba bl bc] 55)=w5 at *
 generalize wr.heap.size=hb at *
 by_cases hnl:now<1000000
 ·have g1:w5.cell? ⟨hb,1,none⟩= some (.int .i64 tick):=ax HC.out.box 1
  have HClk:Hid (Calls Tryz.prog 27 #[.pointer (some ⟨sb,0,none⟩),.int .i64 (now+tk)] w5 fun e w'=>e=.returned (.int .i64 0)/\Hid (BdC ⟨w,wn,cb,ab,eb,pb,sb,G⟩ k (now+tk) came went pv hb addr tick cid str (.slice ba bl bc) w')):=by
   obtain⟨s,hbd,hacc,hnw⟩:=HC.out.ex
   refine(hbd.live.clock (now+tk) (by omega) (by omega)).mono ?_
   rintro e w' ⟨rfl,hl,hc⟩
   exact⟨rfl,⟨⟨jM s (now+tk),hbd.srv hl hc (clock_fair (by rw[hbd.cfg];exact HOk.out) hbd.fair) rfl,hacc.clock hbd.fair _,rfl⟩,HC.out.box.sf hc⟩⟩
  clear HC
  go_wp2_with fail
  refine(HPt.out _).mono ?_
  rintro e w6 ⟨rfl,rfl⟩
  clear g1 HPt
  go_wp2_with fail
  refine HClk.out.mono ?_
  rintro e w7 ⟨rfl,HC7⟩
  clear HClk
  go_wp2_with fail
  exact HT.out _ _ _ _ _ _ _ _ _ _ _ _ _ _ _ _ _ _ _ _ _ _ _ _ _ _ _ _ _ _ _ _ _ _ _ _ _ _ _ _ _ _ _ _ _ _ _ _ _ _ _ _ _ _ _ _ _ _ _ _ _ _ _ _ _ _ _ _ _ _ _ _ _ _ _ _ _ _ _ _ _ _ _ _ _ _ _ _ _ _ _ _ _ _ _ _ _ _ _ _ _ _ _ _ _ _ _ _ _ _ _ _ _ _ _ _ _ _ _ _ _ _ _ _ _ _ _ _ _ _ _ _ _ _ _ _ _ _ _ _ _ _ _ _ _ _ _ _ _ _ _ _ _ _ _ _ _ _ _ _ _ _ _ _ _ _ _ _ _ _ _ _ _ _ _ _ _ _ _ _ _ _ _ _ _ _ _ _ _ _ _ _ _ _ _ _ _ _ _ _ _ _ _ _ _ _ _ _ _ _ _ _ _ _ _ _ _ _ _ _ _ _ _ _ _ _ _ _ _ _ _ _ _ _ _ _ _ _ _ _ _ _ _ _ _ _ _ _ _ _ _ _ _ _ _ _ _ _ _ _ _ _ _ _ _ _ _ _ _ _ _ _ _ _ _ _ _ _ _ _ _ _ _ HH (by omega) HC7
 ·go_wp2_with fail
  exact HT.out _ _ _ _ _ _ _ _ _ _ _ _ _ _ _ _ _ _ _ _ _ _ _ _ _ _ _ _ _ _ _ _ _ _ _ _ _ _ _ _ _ _ _ _ _ _ _ _ _ _ _ _ _ _ _ _ _ _ _ _ _ _ _ _ _ _ _ _ _ _ _ _ _ _ _ _ _ _ _ _ _ _ _ _ _ _ _ _ _ _ _ _ _ _ _ _ _ _ _ _ _ _ _ _ _ _ _ _ _ _ _ _ _ _ _ _ _ _ _ _ _ _ _ _ _ _ _ _ _ _ _ _ _ _ _ _ _ _ _ _ _ _ _ _ _ _ _ _ _ _ _ _ _ _ _ _ _ _ _ _ _ _ _ _ _ _ _ _ _ _ _ _ _ _ _ _ _ _ _ _ _ _ _ _ _ _ _ _ _ _ _ _ _ _ _ _ _ _ _ _ _ _ _ _ _ _ _ _ _ _ _ _ _ _ _ _ _ _ _ _ _ _ _ _ _ _ _ _ _ _ _ _ _ _ _ _ _ _ _ _ _ _ _ _ _ _ _ _ _ _ _ _ _ _ _ _ _ _ _ _ _ _ _ _ _ _ _ _ _ _ _ _ _ _ _ _ _ _ _ _ _ _ _ HH hnow HC
end Go.Proofs.YthmdjhlhodpbhaaGreatDoor
