/- Apart, 12 -/
import Derived.Test.YthmdjhlhodpbhaaGreatDoorA07
import Derived.Test.YthmdjhlhodpbhaaGreatDoorA10
import Derived.Test.YthmdjhlhodpbhaaGreatDoorA11
set_option maxHeartbeats 16000000
set_option maxRecDepth 8000
namespace Go.Proofs.YthmdjhlhodpbhaaGreatDoor
open Go.RowKit
theorem x_FillOut.same{w w':World}{rb off:Nat}{cs:Array Value}{t:TypeId}{lv:Value}{vs:List bn}{rl:List aO}(h:x_RunsAt w lv vs rl)(hblk:w.heap[rb]? =some (.cells cs t (0,0)))(hcell:cs[off]? =some lv)(hb:Below w.heap.size w w'):x_FillOut w rb off cs t lv vs rl w' lv vs:=by
 refine⟨?_,h.below hb,Chg.of_below hb,Or.inl rfl,fun v hv=>Or.inl hv⟩
 rw[hb.block rb (aLt hblk),hblk]
 congr 2
 obtain⟨hlt,he⟩:=Array.getElem?_eq_some_iff.1 hcell
 apply Array.ext
 ·simp
 ·intro i h1 h2
  rw[Array.getElem_setIfInBounds]
  split
  ·rename_i e;subst e;exact he
  ·rfl
theorem wh(first most:Int)(lv:Value)(vs:List bn)(rl:List aO)(rb off:Nat)(cs:Array Value)(t:TypeId)(w:World)(hblk:w.heap[rb]? =some (.cells cs t (0,0)))(hcell:cs[off]? =some lv)(h:x_RunsAt w lv vs rl)(hf:RunsFit rl)(hfar:0<=first/\first<=1099511627776)(hno:most=0\/bu rl first (first+1)=false):
  Calls Tryz.prog 131 #[.pointer (some ⟨rb,off,none⟩),.int .i64 first,.int .i64 most] w fun e w'=>e=.returned (.slice none 0 0)/\x_FillOut w rb off cs t lv vs rl w' lv vs:=by
 have hc0:w.cell? ⟨rb,off,none⟩= some lv:=by simp only[World.cell?,hblk];exact hcell
 have hfew:vs.length<=100:=by rw[h.sh.1];exact hf.few
 have HC:=ab (ke vs rl lv first (first+1) rb off w hc0 h.own h.sh hf.wide (by omega))
 have HS:Hid (∀w',Below w.heap.size w w'->x_FillOut w rb off cs t lv vs rl w' lv vs):=fun w' hb=>x_FillOut.same h hblk hcell hb
 clear h hf
 have hw1:IntKind.i64.wrap (first+1)=first+1:=by rw[IntKind.wrap_i64];omega
 by_cases hm:most=0
 ·have hd:(most==0)=true:=by simpa using hm
  go_enter Tryz.func131,Tryz.ntmps131
  go_wp2_with fail
  go_ret
  exact⟨rfl,HS.out _ (Below.refl _ _)⟩
 ·have hd:(most==0)=false:=by simpa using hm
  have hcv:bu rl first (first+1)=false:=by
   rcases hno with h|h
   ·exact absurd h hm
   ·exact h
  rw[hcv]at HC
  clear hno hcv
  go_enter Tryz.func131,Tryz.ntmps131
  go_wp2_with fail
  refine HC.out.mono ?_
  rintro e w1 ⟨rfl,hb1⟩
  have HH:=ab (HS.out w1 hb1)
  clear hb1 HC HS
  go_wp2_with fail
  go_ret
  exact⟨rfl,HH.out⟩
theorem lH{P:Program}(W:World){t e:TypeId}{size:Nat}{ao:Option Addr}{len cap i:Nat}(ht:P.underlying t=some (.slice e))(hs:(Go.sizeOf e).run P W=.ok size W)(hi:i<=len):
  (Instr.slice t (.slice ao len cap) (some (.int .i64 (i:Int))) none none).run P W=.ok (.slice (if cap=i then ao else ao.map (·.add (i*size))) (len-i) (cap-i)) W:=by
 simp[Instr.slice,Instr.sliceBounds,Instr.sliceBound,asIntOf,run_underlying ht,hs,hi]
theorem sp(w:World):(Go.sizeOf 5).run Tryz.prog w=.ok 1 w:=by kernel_rfl
theorem x_close{w w2 w3:World}{rb off:Nat}{cs:Array Value}{t:TypeId}{lv lv':Value}{vs vs':List bn}{rl rl':List aO}(h:x_RunsAt w lv vs rl)(hblk:w.heap[rb]? =some (.cells cs t (0,0)))(ht1:t≠259)(ht2:t≠5)(hb2:Below w.heap.size w w2)(hsh:Shape vs' rl')
  (hro:∀(i:Nat) v r,vs'[i]? =some v->rl'[i]? =some r->Ro w2 5 v.2 r.2.length (U8 r.2)) (hown:w3.ownsRow 0 259 2 lv' vs'.length (aC vs')) (hg:w2.grownBy w3 lv.ownBlock) (hat:lv'.ownBlock=lv.ownBlock) (hit:∀v∈vs',v∈vs\/(kg v.2/\∀g,v.2.ownBlock=some g->w.heap.size<=g)):
  w3.heap[rb]? =some (.cells cs t (0,0))/\x_FillOut w rb off cs t lv vs rl' (w3.setCell ⟨rb,off,none⟩ lv') lv' vs':=by
 have hrl:rb<w.heap.size:=(aLt hblk)
 have hnb:lv.ownBlock≠some rb:=ax h.own hblk (fun e=>ht1 e.symm)
 have hrb3:w3.heap[rb]? =some (.cells cs t (0,0)):=by rw[hg.block rb (Nat.lt_of_lt_of_le hrl hb2.size) (Ne.symm hnb),hb2.block rb hrl];exact hblk
 refine⟨hrb3,?_⟩
 have hc2:Chg (fun k=>k=rb\/lv.ownBlock=some k) w2 (w3.setCell ⟨rb,off,none⟩ lv'):=by
  refine⟨hg.os,hg.tape,hg.output,by rw[World.size_setCell];exact hg.size,fun k hk hn=>?_⟩
  rw[heap_setCell_other _ _ _ _ (show k≠rb from fun e=>hn (Or.inl e)),hg.block k hk (fun e=>hn (Or.inr e.symm))]
 have hch:Chg (fun k=>k=rb\/lv.ownBlock=some k) w (w3.setCell ⟨rb,off,none⟩ lv'):=by
  refine⟨hg.os.trans hb2.os,hg.tape.trans hb2.tape,hg.output.trans hb2.output,Nat.le_trans hb2.size hc2.size,fun k hk hn=>?_⟩
  rw[hc2.block k (Nat.lt_of_lt_of_le hk hb2.size) hn,hb2.block k hk]
 refine⟨(al hrb3 off lv').trans rfl,⟨?_,hsh,fun k v q hv hq=>(hro k v q hv hq).chg hc2 fun k cur fr hk hF=>?_⟩,hch,Or.inl hat,hit⟩
 ·exact ownsRow_setCell_other hown (ax hown hrb3 (fun e=>ht1 e.symm)) _
 ·rcases hF with rfl|hF
  ·rw[hb2.block k hrl,hblk]at hk
   simp only[Option.some.injEq,Obj.cells.injEq]at hk
   exact ht2 hk.2.1
  ·exact ax (aF h.own hb2) hk (by decide) hF
theorem x_RunsAt.old{w:World}{lv:Value}{vs:List bn}{rl:List aO}(h:x_RunsAt w lv vs rl)(hw:cY rl):∀v∈vs,∀g,v.2.ownBlock=some g->g<w.heap.size:=by
 intro v hv g hg
 obtain⟨i,hi,rfl⟩:=List.getElem_of_mem hv
 have hir:i<rl.length:=by rw[<-h.sh.1];exact hi
 have hro:=h.ro i vs[i] rl[i] (lGe hi) (lGe hir)
 have hpos:=iJ hw (List.getElem_mem hir)
 obtain⟨ao,cap,e,hp,_⟩:=hro
 obtain⟨b,o,cur,fr,rfl,hb,_⟩:=hp hpos
 rw[e]at hg
 simp only[Value.ownBlock,Option.some.injEq]at hg
 subst hg
 exact(aLt hb)
theorem wi(first most:Int)(its:List Int)(rest:List aO)(lv:Value)(vs:List bn)(rb off:Nat)(cs:Array Value)(t:TypeId)(w:World)(hblk:w.heap[rb]? =some (.cells cs t (0,0)))(hcell:cs[off]? =some lv)(ht1:t≠259)(ht2:t≠5)(h:x_RunsAt w lv vs ((first,its)::rest))(hf:RunsFit ((first,its)::rest))(hm:0<most)(hmm:most<=9223372036854775807):
  Calls Tryz.prog 131 #[.pointer (some ⟨rb,off,none⟩),.int .i64 first,.int .i64 most] w fun e w'=>∃tv lv' vs',e=.returned tv/\w'.ownsRow w.heap.size 5 1 tv (its.take most.toNat).length (U8 (its.take most.toNat))/\
   x_FillOut w rb off cs t lv vs (if its.drop most.toNat=[] then rest else(first+min most its.length,its.drop most.toNat)::rest) w' lv' vs'/\∀v∈vs',v.2.ownBlock=none\/v.2.ownBlock≠tv.ownBlock:=by
 have hc0:w.cell? ⟨rb,off,none⟩= some lv:=by simp only[World.cell?,hblk];exact hcell
 have hfar:=hf.far (first,its) (by simp)
 have hpos:0<its.length:=hf.wf.1
 have hb0:au (first,its)=first+its.length:=rfl
 have hvl:vs.length=rest.length+1:=by rw[h.sh.1];rfl
 have hfew:=hf.few
 obtain⟨v0,vt,rfl⟩:∃v0 vt,vs=v0::vt:=by
  cases vs with
  |nil=>simp at hvl
  |cons a b=>exact⟨a,b,rfl⟩
 obtain⟨e1,ia,ic,e2,hic⟩:=h.sh.2 0 v0 (first,its) rfl rfl
 have hRo:=h.ro 0 v0 (first,its) rfl rfl
 obtain⟨f0,iv0⟩:=v0
 simp only at e1 e2 hRo hic
 replace e1:=e1.symm
 subst e1 e2
 obtain⟨b,o,e3,hitc⟩:=p7 hRo hpos
 subst e3
 rcases h.own.2 with⟨_,h0⟩|⟨g,cap,cur,e4,_,hg,hnc,hcm,hcs,htk⟩
 ·simp at h0
 subst e4
 have hcov:bu ((first,its)::rest) first (first+1)=true:=by
  unfold bu
  simp[au]
  omega
 have HC:=ab (ke _ _ _ first (first+1) rb off w hc0 h.own h.sh hf.wide (by simp at hfew hvl⊢;omega))
 rw[hcov]at HC
 have hw1:IntKind.i64.wrap (first+1)=first+1:=by rw[IntKind.wrap_i64];omega
 have hd:(most==0)=false:=beq_eq_false_iff_ne.2 (by omega)
 obtain⟨sz,hsz⟩:∃sz:Nat,min most (its.length:Int)=sz:=⟨(min most (its.length:Int)).toNat,by omega⟩
 have hsz1:1<=sz/\sz<=its.length:=by omega
 have htk2:its.take most.toNat=its.take sz:=by
  rcases Int.lt_or_le most its.length with h1|h1
  ·congr 1;omega
  ·rw[List.take_of_length_le (by omega),List.take_of_length_le (by omega)]
 have hdr2:its.drop most.toNat=its.drop sz:=by
  rcases Int.lt_or_le most its.length with h1|h1
  ·congr 1;omega
  ·rw[List.drop_eq_nil_of_le (by omega),List.drop_eq_nil_of_le (by omega)]
 have hlt:(its.take sz).length=sz:=by simp;omega
 have hld:(its.drop sz).length=its.length-sz:=by simp
 rw[htk2,hdr2,hsz,hlt]
 have hrl:rb<w.heap.size:=cS hc0
 have hnb:(Value.slice (some ⟨g,0,none⟩) (((first,Value.slice (some ⟨b,o,none⟩) its.length ic)::vt:List bn).length) cap).ownBlock≠some rb:=ax h.own hblk (fun e=>ht1 e.symm)
 obtain⟨vl,hvl2⟩:∃vl,vl=((first,Value.slice (some ⟨b,o,none⟩) its.length ic)::vt:List bn).length:=⟨_,rfl⟩
 have HH:=ab h
 have HB:=ab hblk
 have HG:=ab hg
 have HCur:=ab (And.intro hnc (And.intro hcs htk))
 have hl0:0<vl:=by rw[hvl2];simp
 have c1:∀W:World,Below w.heap.size w W->W.cell? ⟨rb,off,none⟩= some (.slice (some ⟨g,0,none⟩) vl cap)/\W.cell? ⟨g,0,none⟩= some (.int .i64 first)/\W.cell? ⟨g,1,none⟩= some (.slice (some ⟨b,o,none⟩) its.length ic):=by
  intro W hW
  have ho:=aF HH.out.own hW
  have q:=eH (l:=(first,Value.slice (some ⟨b,o,none⟩) its.length ic)::vt) (k:=0) rfl
  rw[hvl2]
  refine⟨ae hc0 hW,?_,?_⟩
  ·rw[ho.cellAt 0 (by simp)];exact q.1
  ·rw[ho.cellAt 1 (by simp;omega)];exact q.2
 replace c1:=ab c1
 have HCl1:Hid (∀W:World,Below w.heap.size w W->Calls Tryz.prog 167 #[.slice (some ⟨b,o,none⟩) sz ic] W fun e w'=>∃v,e=.returned v/\w'.ownsRow W.heap.size 5 1 v sz (U8 (its.take sz))/\Below W.heap.size W w'):=by
  intro W hW
  have h9:=oS (its.take sz) b o ic W (by rw[hlt];omega) (fun j u hj=>?_) (by rw[hlt];omega)
  ·rw[hlt]at h9;exact h9
  ·have hj':=(lLt hj)
   rw[bP,hlt]at hj'
   refine ae (hitc j u ?_) hW
   simp only[U8,List.getElem?_map]at hj⊢
   rwa [List.getElem?_take_of_lt hj']at hj
 have HHC:=ab hvl2
 clear h hblk hg hnc hcs htk hvl hcov hc0 hRo hvl2
 have hbi1:(its.length:Int)<=(ic:Int):=by omega
 have u1:=run_underlying Tryz.underlying44
 by_cases hall:(its.length:Int)<=most
 ·obtain rfl:sz=its.length:=by omega
  have hdn:its.drop its.length=[]:=List.drop_length
  rw[hdn,if_pos rfl]
  have HDel:Hid (∀w2:World,Below w.heap.size w w2->Calls Tryz.prog 168 #[.slice (some ⟨g,0,none⟩) vl cap,.int .i64 0,.int .i64 1] w2 fun e w'=>∃lv' m,e=.returned lv'/\Hid (m=vt.length)/\w'.ownsRow 0 259 2 lv' m (aC vt)/\w2.grownBy w' (Value.slice (some ⟨g,0,none⟩) vl cap).ownBlock/\lv'.ownBlock=(Value.slice (some ⟨g,0,none⟩) vl cap).ownBlock):=by
   intro w2 hw2
   rw[HHC.out]
   exact(tU _ vt _ w2 (aF HH.out.own hw2) (by have:=HH.out.sh.1;simp at this hfew⊢;omega) HH.out.sh.one).mono (fun e w' ⟨lv',h1,h2,h3,h4⟩=>⟨lv',_,h1,rfl,h2,h3,h4⟩)
  have HEnd:Hid (∀(w2 w3:World) (lv':Value) (m:Nat),Below w.heap.size w w2->Hid (m=vt.length)->w3.ownsRow 0 259 2 lv' m (aC vt)->w2.grownBy w3 (Value.slice (some ⟨g,0,none⟩) vl cap).ownBlock->lv'.ownBlock=(Value.slice (some ⟨g,0,none⟩) vl cap).ownBlock->
    w3.heap[rb]? =some (.cells cs t (0,0))/\x_FillOut w rb off cs t (.slice (some ⟨g,0,none⟩) vl cap) ((first,.slice (some ⟨b,o,none⟩) its.length ic)::vt) rest (w3.setCell ⟨rb,off,none⟩ lv') lv' vt):=by
   intro w2 w3 lv' m hw2 hm ho hg ha
   rw[hm.out]at ho
   have hsh:=HH.out.sh
   rw[<-HHC.out]at HH
   refine x_close HH.out HB.out ht1 ht2 hw2 ⟨by have:=hsh.1;simpa using this,fun i v r hv hr=>hsh.2 (i+1) v r hv hr⟩ (fun i v r hv hr=>(HH.out.ro (i+1) v r hv hr).below hw2) ho hg ha (fun v hv=>Or.inl (by simp[hv]))
  have HOld:Hid (∀v∈vt,∀q,v.2.ownBlock=some q->q<w.heap.size):=fun v hv=>HH.out.old hf.wf v (by simp[hv])
  have HOwn:Hid (w.ownsRow 0 259 2 (.slice (some ⟨g,0,none⟩) vl cap) vl (aC ((first,.slice (some ⟨b,o,none⟩) its.length ic)::vt))):=by show World.ownsRow _ _ _ _ _ _ _;rw[HHC.out];exact HH.out.own
  have hcell':cs[off]? =some (.slice (some ⟨g,0,none⟩) vl cap):=by rw[HHC.out];exact hcell
  clear HH hfew hf hcell
  rw[<-HHC.out]
  go_enter Tryz.func131,Tryz.ntmps131
  go_wp2_with fail
  refine HC.out.mono ?_
  rintro e w1 ⟨rfl,hb1⟩
  obtain⟨d0,d1,d2⟩:=c1.out w1 hb1
  have HB1:=ab hb1
  have HBw:Hid (Below w.heap.size w w1.drew):=ak hb1 1
  clear hb1 HC
  obtain⟨la,lc,hsl⟩:∃la lc,∀W:World,(Instr.slice 44 (.slice (some ⟨b,o,none⟩) its.length ic) (some (.int .i64 (its.length:Int))) none none).run Tryz.prog W=.ok (.slice la 0 lc) W:=
   ⟨_,_,fun W=>by rw[lH W Tryz.underlying44 (sp W) (Nat.le_refl _),Nat.sub_self]⟩
  rcases Int.lt_or_eq_of_le hall with hmn|hmn
  ·go_wp2_with fail
   go_region_with (first
    |(go_at_call 167;refine(HCl1.out _ HBw.out).mono ?_;rintro e w2 ⟨tv,rfl,hot,hb2⟩;obtain⟨ta,tc,rfl⟩:=aH hot))
   have hbw2:=ai HBw.out hb2
   have d0':=(c1.out w2 hbw2).1
   have HT:=ab (ch hot HBw.out.size)
   have HB2:=ab hbw2
   clear hot hb2 hbw2 d0 d1 d2 HCl1 hsl HBw
   go_wp2_with fail
   refine(HDel.out w2 HB2.out).mono ?_
   rintro e w3 ⟨lv',m,rfl,hmv,ho,hgr,hat⟩
   obtain⟨hrb3,hfo⟩:=HEnd.out w2 w3 lv' m HB2.out hmv ho hgr hat
   obtain⟨la',lc',rfl⟩:=bd ho
   have d3:w3.cell? ⟨rb,off,none⟩= some (.slice (some ⟨g,0,none⟩) vl cap):=(by simp only[World.cell?,hrb3];exact hcell')
   have z3:w3.frozen? ⟨rb,off,none⟩= false:=frozen_of_row w3 rb off _ _ hrb3
   have HFo:=ab hfo
   have HTk:=ab (HT.out.kept hgr (pK HT.out (aF HOwn.out HB2.out) (by decide)))
   have HRb:=ab hrb3
   clear hrb3 hfo ho hgr hat HDel HEnd
   go_wp2_with fail
   go_ret
   refine⟨_,_,vt,rfl,?_,HFo.out,fun v hv=>?_⟩
   ·exact ownsRow_setCell_other HTk.out (ax HTk.out HRb.out (fun e=>ht2 e.symm)) _
   ·cases hq:v.2.ownBlock with
    |none=>exact Or.inl rfl
    |some q=>
     refine Or.inr fun e=>?_
     have h1:=HOld.out v hv q hq
     have h2:=(HT.out.lt q e.symm).1
     omega
  ·subst hmn
   go_wp2_with fail
   go_region_with (first
    |(go_at_call 167;refine(HCl1.out _ HBw.out).mono ?_;rintro e w2 ⟨tv,rfl,hot,hb2⟩;obtain⟨ta,tc,rfl⟩:=aH hot))
   have hbw2:=ai HBw.out hb2
   have d0':=(c1.out w2 hbw2).1
   have HT:=ab (ch hot HBw.out.size)
   have HB2:=ab hbw2
   clear hot hb2 hbw2 d0 d1 d2 HCl1 hsl HBw
   go_wp2_with fail
   refine(HDel.out w2 HB2.out).mono ?_
   rintro e w3 ⟨lv',m,rfl,hmv,ho,hgr,hat⟩
   obtain⟨hrb3,hfo⟩:=HEnd.out w2 w3 lv' m HB2.out hmv ho hgr hat
   obtain⟨la',lc',rfl⟩:=bd ho
   have d3:w3.cell? ⟨rb,off,none⟩= some (.slice (some ⟨g,0,none⟩) vl cap):=(by simp only[World.cell?,hrb3];exact hcell')
   have z3:w3.frozen? ⟨rb,off,none⟩= false:=frozen_of_row w3 rb off _ _ hrb3
   have HFo:=ab hfo
   have HTk:=ab (HT.out.kept hgr (pK HT.out (aF HOwn.out HB2.out) (by decide)))
   have HRb:=ab hrb3
   clear hrb3 hfo ho hgr hat HDel HEnd
   go_wp2_with fail
   go_ret
   refine⟨_,_,vt,rfl,?_,HFo.out,fun v hv=>?_⟩
   ·exact ownsRow_setCell_other HTk.out (ax HTk.out HRb.out (fun e=>ht2 e.symm)) _
   ·cases hq:v.2.ownBlock with
    |none=>exact Or.inl rfl
    |some q=>
     refine Or.inr fun e=>?_
     have h1:=HOld.out v hv q hq
     have h2:=(HT.out.lt q e.symm).1
     omega
 ·obtain rfl:most=(sz:Int):=by omega
  have hszl:sz<its.length:=by omega
  have hdn:¬its.drop sz=[]:=by
   intro e
   have:=congrArg List.length e
   rw[hld]at this
   simp at this
   omega
  rw[if_neg hdn]
  have hbi2:(sz:Int)<=(its.length:Int):=by omega
  have hbi3:(sz:Int)<=(ic:Int):=by omega
  have hbi4:¬(ic=sz):=by omega
  have hbi5:(((its.length-sz:Nat):Int)==0)=false:=beq_eq_false_iff_ne.2 (by omega)
  have hbi6:¬((its.length:Int)<(sz:Int)):=by omega
  have hw2:IntKind.i64.wrap (first+(sz:Int))=first+(sz:Int):=by rw[IntKind.wrap_i64];omega
  have hcell':cs[off]? =some (.slice (some ⟨g,0,none⟩) vl cap):=by rw[HHC.out];exact hcell
  have hrg:rb≠g:=fun e=>hnb (by simp[Value.ownBlock,e])
  have HCl2:Hid (∀W:World,Below w.heap.size w W->Calls Tryz.prog 167 #[.slice (some ⟨b,o+sz,none⟩) (its.length-sz) (ic-sz)] W fun e w'=>∃v,e=.returned v/\w'.ownsRow W.heap.size 5 1 v (its.length-sz) (U8 (its.drop sz))/\Below W.heap.size W w'):=by
   intro W hW
   have h9:=oS (its.drop sz) b (o+sz) (ic-sz) W (by rw[hld];omega) (fun j u hj=>?_) (by rw[hld];omega)
   ·rw[hld]at h9;exact h9
   ·rw[Nat.add_assoc]
    refine ae (hitc (sz+j) u ?_) hW
    simp only[U8,List.getElem?_map]at hj⊢
    rwa [List.getElem?_drop]at hj
  have HFz:Hid (∀W:World,Below w.heap.size w W->W.frozen? ⟨g,0,none⟩= false/\W.frozen? ⟨g,1,none⟩= false):=by
   intro W hW
   have hgW:W.heap[g]? =some (.cells cur 259 (0,0)):=by rw[hW.block g (aLt HG.out)];exact HG.out
   exact⟨frozen_of_row W g _ _ _ hgW,frozen_of_row W g _ _ _ hgW⟩
  have HEnd:Hid (∀(w3:World) (lf:Value),Below w.heap.size w w3->w3.ownsRow w.heap.size 5 1 lf (its.length-sz) (U8 (its.drop sz))->
    x_FillOut w rb off cs t (.slice (some ⟨g,0,none⟩) vl cap) ((first,.slice (some ⟨b,o,none⟩) its.length ic)::vt) ((first+sz,its.drop sz)::rest) ((w3.setCell ⟨g,0,none⟩ (.int .i64 (first+sz))).setCell ⟨g,1,none⟩ lf) (.slice (some ⟨g,0,none⟩) vl cap) ((first+sz,lf)::vt)):=by
   intro w3 lf hw3 hlf
   have hsh:=HH.out.sh
   have hgl:g<w.heap.size:=(aLt HG.out)
   have ho3:=aF HH.out.own hw3
   have hs1:=ho3.stored 0 (.int .i64 (first+sz))
   have hs2:=hs1.1.stored 1 lf
   have hch:Chg (fun k=>k=rb\/(Value.slice (some ⟨g,0,none⟩) vl cap).ownBlock=some k) w ((w3.setCell ⟨g,0,none⟩ (.int .i64 (first+sz))).setCell ⟨g,1,none⟩ lf):=by
    refine⟨hw3.os,hw3.tape,hw3.output,by rw[World.size_setCell,World.size_setCell];exact hw3.size,fun k hk hn=>?_⟩
    have hkg:k≠g:=fun e=>hn (Or.inr (by simp[Value.ownBlock,e]))
    rw[heap_setCell_other _ _ _ _ hkg,heap_setCell_other _ _ _ _ hkg,hw3.block k hk]
   have hro:∀v n l,Ro w3 5 v n l->Ro ((w3.setCell ⟨g,0,none⟩ (.int .i64 (first+sz))).setCell ⟨g,1,none⟩ lf) 5 v n l:=by
    intro v n l hv
    have hc:Chg (fun k=>k=g) w3 ((w3.setCell ⟨g,0,none⟩ (.int .i64 (first+sz))).setCell ⟨g,1,none⟩ lf):=by
     refine⟨rfl,rfl,rfl,by rw[World.size_setCell,World.size_setCell];exact Nat.le_refl _,fun k hk hn=>?_⟩
     rw[heap_setCell_other _ _ _ _ hn,heap_setCell_other _ _ _ _ hn]
    refine hv.chg hc fun k cu fr hk hF=>?_
    subst hF
    rw[hw3.block _ hgl,HG.out]at hk
    simp only[Option.some.injEq,Obj.cells.injEq]at hk
    exact absurd hk.2.1 (by decide)
   obtain⟨lfa,lfc,e9⟩:=aH hlf
   have hlfc:its.length-sz<=lfc:=by
    rcases hlf.2 with⟨e,h0⟩|⟨g',c',cu,e,_,_,h5,_⟩
    ·omega
    ·rw[e9]at e;simp only[Value.slice.injEq]at e;omega
   refine⟨?_,⟨?_,?_,?_⟩,hch,Or.inl rfl,?_⟩
   ·rw[heap_setCell_other _ _ _ _ hrg,heap_setCell_other _ _ _ _ hrg,hw3.block rb hrl,HB.out]
    congr 2
    obtain⟨hlt',he⟩:=Array.getElem?_eq_some_iff.1 hcell'
    apply Array.ext
    ·simp
    ·intro i h1 h2
     rw[Array.getElem_setIfInBounds]
     split
     ·rename_i e;subst e;exact he
     ·rfl
   ·rw[HHC.out]
    exact hs2.1
   ·refine⟨by have:=hsh.1;simpa using this,fun i v r hv hr=>?_⟩
    cases i with
    |zero=>
     simp only[List.getElem?_cons_zero,Option.some.injEq]at hv hr
     subst hv hr
     exact⟨rfl,lfa,lfc,by rw[e9,hld],by rw[hld];exact hlfc⟩
    |succ i=>exact hsh.2 (i+1) v r hv hr
   ·intro i v r hv hr
    cases i with
    |zero=>
     simp only[List.getElem?_cons_zero,Option.some.injEq]at hv hr
     subst hv hr
     refine hro _ _ _ ?_
     simp only
     rw[hld]
     exact Ro.of_own hlf
    |succ i=>exact hro _ _ _ ((HH.out.ro (i+1) v r hv hr).below hw3)
   ·intro v hv
    rcases List.mem_cons.1 hv with rfl|hv
    ·exact Or.inr ⟨rA hlf,fun q hq=>(hlf.lt q hq).1⟩
    ·exact Or.inl (by simp[hv])
  have HOld:Hid (∀v∈vt,∀q,v.2.ownBlock=some q->q<w.heap.size):=fun v hv=>HH.out.old hf.wf v (by simp[hv])
  have HKp:Hid (∀(W:World) (a c:Value),W.cell? ⟨rb,off,none⟩= some (.slice (some ⟨g,0,none⟩) vl cap)->((W.setCell ⟨g,0,none⟩ a).setCell ⟨g,1,none⟩ c).cell? ⟨rb,off,none⟩= some (.slice (some ⟨g,0,none⟩) vl cap)):=by
   intro W a c hW
   rw[World.cell?_of_block (w:=W) (a:=⟨rb,off,none⟩) (by rw[heap_setCell_other _ _ _ _ hrg,heap_setCell_other _ _ _ _ hrg])]
   exact hW
  clear HH hfew hf hcell
  rw[<-HHC.out]
  go_enter Tryz.func131,Tryz.ntmps131
  go_wp2_with fail
  refine HC.out.mono ?_
  rintro e w1 ⟨rfl,hb1⟩
  obtain⟨d0,d1,d2⟩:=c1.out w1 hb1
  have HB1:=ab hb1
  have HBw:Hid (Below w.heap.size w w1.drew):=ak hb1 1
  clear hb1 HC
  go_wp2_with fail
  go_region_with (first
   |(go_at_call 167;refine(HCl1.out _ HBw.out).mono ?_;rintro e w2 ⟨tv,rfl,hot,hb2⟩;obtain⟨ta,tc,rfl⟩:=aH hot))
  have hbw2:=ai HBw.out hb2
  have d0':=(c1.out w2 hbw2).1
  have HT:=ab (ch hot HBw.out.size)
  have HB2:=ab hbw2
  have HB2d:Hid (Below w.heap.size w w2.drew):=ak hbw2 1
  clear hot hb2 hbw2 d0 d1 d2 HCl1 HBw
  go_wp2_with fail
  go_region_held3 (fun w'=>w'.cell? ⟨rb,off,none⟩= some (.slice (some ⟨g,0,none⟩) vl cap)) (first|assumption|exact HKp.out _ _ _ (by assumption)|go_keep) (first
   |(go_at_call 167;refine(HCl2.out _ HB2d.out).mono ?_;rintro e w3 ⟨lf,rfl,hof,hb3⟩;obtain⟨fa,fc,rfl⟩:=aH hof;have hbw3:=ai HB2d.out hb3;obtain⟨d3,d4,d5⟩:=c1.out w3 hbw3;obtain⟨z4,z5⟩:=HFz.out w3 hbw3))
  have HFo:=ab (HEnd.out w3 _ hbw3 (ch hof HB2d.out.size))
  have HTk:=ab (aF HT.out (aq hb3))
  have HGg:Hid (w3.heap[g]? =some (.cells cur 259 (0,0))):=by show _=_;rw[hbw3.block g (aLt HG.out)];exact HG.out
  have HNew:Hid (∀q,(Value.slice fa (its.length-sz) fc).ownBlock=some q->w2.heap.size<=q):=fun q hq=>(hof.lt q hq).1
  clear HEnd HCl2 hof hb3 hbw3 d3 d4 d5 z4 z5
  go_wp2_with fail
  go_ret
  refine⟨_,_,_,rfl,?_,HFo.out,fun v hv=>?_⟩
  ·have hne:=ax HTk.out HGg.out (by decide)
   have h1:=ownsRow_setCell_other (a:=⟨g,0,none⟩) HTk.out hne (.int .i64 (first+sz))
   have h2:=ax h1 (g:=g) ((al HGg.out 0 _).trans rfl) (by decide)
   exact ownsRow_setCell_other h1 h2 _
  ·rcases List.mem_cons.1 hv with rfl|hv
   ·cases hq:(Value.slice fa (its.length-sz) fc).ownBlock with
    |none=>exact Or.inl rfl
    |some q=>
     refine Or.inr fun e=>?_
     have h1:=HNew.out q hq
     have h2:=(HT.out.lt q e.symm).2
     omega
   ·cases hq:v.2.ownBlock with
    |none=>exact Or.inl rfl
    |some q=>
     refine Or.inr fun e=>?_
     have h1:=HOld.out v hv q hq
     have h2:=(HT.out.lt q e.symm).1
     omega
theorem x_Fill_nil(first:Int)(ia:Option Addr)(ic:Nat)(rb off:Nat)(w:World):
  Calls Tryz.prog 235 #[.pointer (some ⟨rb,off,none⟩),.int .i64 first,.slice ia 0 ic] w fun e w'=>e=.returned (.tuple #[])/\w'=w:=by
 go_enter Tryz.func235,Tryz.ntmps235
 go_wp2_with fail
 refine bodyPost_ret (results_none rfl _ _ _) rfl ?_
 exact⟨rfl,rfl⟩
theorem tJ(b:Nat)(cs:Array Value)(lv:Value)(vs:List bn)(rl:List aO)(rd:Int)(rs:Bool)(ty sid ofs:Int)(bv:Value)(en pf gaps:Int)(items:List Int)(w:World)
  (hblk:w.heap[b]? =some (.cells cs 204 (0,0))) (h0:cs[0]? =some lv) (h1:cs[1]? =some (.int .i64 rd)) (h7:cs[7]? =some (.bool rs)) (h:x_RunsAt w lv vs rl) (hf:RunsFit rl) (hcap:∀v∈vs,kg v.2)
  (hbv:Rx w bv items.length (U8 items)) (hbc:∀ao cap,bv=.slice ao items.length cap->items.length<=cap/\cap<=9223372036854775807) (hrd:0<=rd/\rd<=1073741823) (ho:0<=ofs/\ofs<=1073741823) (hl:items.length<=1073741823):
  Calls Tryz.prog 229 #[.pointer (some ⟨b,0,none⟩),gN ty sid ofs bv en pf,.int .i64 gaps] w fun e w'=>∃r,r=lU rs rl (ofs+fe rd ofs items) (items.drop (fe rd ofs items)) gaps/\e=.returned (.int .i64 r.1)/\∃lv' vs',x_FillOut w b 0 cs 204 lv vs r.2 w' lv' vs':=by
 obtain⟨ba,bc,rfl,hbp,hbn⟩:=id hbv
 obtain⟨hbl,hbx⟩:=hbc _ _ rfl
 have hblt:b<w.heap.size:=(aLt hblk)
 have c0:w.cell? ⟨b,0,none⟩= some lv:=by simp only[World.cell?,hblk];exact h0
 have c1:w.cell? ⟨b,1,none⟩= some (.int .i64 rd):=by simp only[World.cell?,hblk];exact h1
 have c7:w.cell? ⟨b,7,none⟩= some (.bool rs):=by simp only[World.cell?,hblk];exact h7
 have hba:Below w.heap.size w (w.alloc (.cells #[.int .i64 ty,.int .i64 sid,.int .i64 ofs,.slice ba items.length bc,.int .i64 en,.int .i64 pf] 286)):=ag w _
 have q1:=ae c1 hba
 have q7:=ae c7 hba
 unfold gN
 cases rs with
 |true=>
  have HE:=ab (x_FillOut.same h hblk h0 hba)
  clear hbv hbp hbn hbc hblk h h0 h1 h7 hf hcap c0 c1 c7
  go_enter Tryz.func229,Tryz.ntmps229
  go_wp2_with fail
  go_ret
  exact⟨_,rfl,rfl,lv,vs,HE.out⟩
 |false=>
  obtain⟨k,hk⟩:∃k,fe rd ofs items=k:=⟨_,rfl⟩
  have hkv:(k:Int)=min (max (rd-ofs) 0) items.length:=by rw[<-hk];unfold fe;omega
  have hkl:k<=items.length:=by omega
  rw[hk]
  have hwd:IntKind.i64.wrap (rd-ofs)=rd-ofs:=by rw[IntKind.wrap_i64];omega
  have hwk:IntKind.i64.wrap (ofs+(k:Int))=ofs+k:=by rw[IntKind.wrap_i64];omega
  obtain⟨tv,htv,htc,hrun⟩:∃tv,Rx w tv (items.drop k).length (U8 (items.drop k))/\(∃ao cap,tv=.slice ao (items.drop k).length cap/\(items.drop k).length<=cap/\cap<=9223372036854775807)/\∀W:World,(Instr.slice 44 (.slice ba items.length bc) (some (.int .i64 (k:Int))) none none).run Tryz.prog W=.ok tv W:=by
   have hdl:(items.drop k).length=items.length-k:=by simp
   refine⟨.slice (if bc=k then ba else ba.map (·.add (k*1))) (items.length-k) (bc-k),?_,⟨_,_,by rw[hdl],by omega,by omega⟩,fun W=>lH W Tryz.underlying44 (sp W) hkl⟩
   refine⟨_,_,by rw[hdl],fun hp=>?_,fun hn=>?_⟩
   ·obtain⟨bb,off,cur,t,fr,rfl,hbb,hcc⟩:=hbp (by omega)
    refine⟨bb,off+k,cur,t,fr,?_,hbb,fun j hj=>?_⟩
    ·rw[if_neg (by omega)]
     simp[Addr.add_lit]
    ·rw[bP]at hj
     rw[Nat.add_assoc,hcc (k+j) (by rw[bP];omega)]
     simp[U8,List.getElem?_drop]
   ·by_cases hck:bc=k
    ·omega
    ·rw[if_neg hck]at hn
     cases ba with
     |none=>have:=hbn rfl;omega
     |some a=>simp at hn
  have hfar:0<=ofs+(k:Int)/\ofs+(k:Int)+(items.drop k).length<=1099511627776:=by simp;omega
  have HAg:Hid (∀W:World,Below w.heap.size w W->Calls Tryz.prog 234 #[.pointer (some ⟨b,0,none⟩),.int .i64 (ofs+k),tv] W fun e w'=>e=.returned (.bool (eb rl (ofs+k) (items.drop k)))/\Below W.heap.size W w'):=by
   intro W hW
   obtain⟨ao,cap,e,hc1,hc2⟩:=htc
   refine tT (ofs+k) (items.drop k) tv lv vs rl b 0 W (ae c0 hW) (h.below hW) hf (htv.below hW) (fun ao' cap' e'=>?_) (fun v hv=>hcap v hv) hfar
   rw[e]at e'
   simp only[Value.slice.injEq]at e'
   omega
  have hW0:∀W:World,Below w.heap.size w W->W.heap[b]? =some (.cells cs 204 (0,0)):=fun W hW=>by rw[hW.block b hblt];exact hblk
  have HFill:Hid (∀W:World,Below w.heap.size w W->Calls Tryz.prog 235 #[.pointer (some ⟨b,0,none⟩),.int .i64 (ofs+k),tv] W fun e w'=>e=.returned (.tuple #[])/\∃lv' vs',x_FillOut w b 0 cs 204 lv vs (dI rl (ofs+k) (items.drop k)) w' lv' vs'):=by
   intro W hW
   by_cases hn:items.drop k=[]
   ·obtain⟨ao,cap,e,hc1,hc2⟩:=htc
    rw[hn,rG]
    rw[hn]at e
    rw[e]
    refine(x_Fill_nil _ ao cap b 0 W).mono ?_
    rintro e w' ⟨rfl,rfl⟩
    exact⟨rfl,lv,vs,x_FillOut.same h hblk h0 hW⟩
   ·refine(x_Fill_any (ofs+k) (items.drop k) tv lv vs rl b 0 cs 204 W (hW0 W hW) h0 (by decide) (by decide) (h.below hW) hf (htv.below hW) hn hfar).mono ?_
    rintro e w' ⟨rfl,lv',vs',ho⟩
    refine⟨rfl,lv',vs',ho.blk,ho.runs,?_,?_,fun v hv=>?_⟩
    ·exact⟨ho.chg.os.trans hW.os,ho.chg.tape.trans hW.tape,ho.chg.output.trans hW.output,Nat.le_trans hW.size ho.chg.size,fun q hq hn=>by rw[ho.chg.block q (Nat.lt_of_lt_of_le hq hW.size) hn,hW.block q hq]⟩
    ·rcases ho.at_ with e|e
     ·exact Or.inl e
     ·exact Or.inr fun g hg=>Nat.le_trans hW.size (e g hg)
    ·rcases ho.items v hv with e|e
     ·exact Or.inl e
     ·exact Or.inr ⟨e.1,fun g hg=>Nat.le_trans hW.size (e.2 g hg)⟩
  have HSame:Hid (∀W:World,Below w.heap.size w W->x_FillOut w b 0 cs 204 lv vs rl W lv vs):=fun W hW=>x_FillOut.same h hblk h0 hW
  have HLen:Hid ((b<cs.size\/True)/\0<cs.size):=⟨Or.inr trivial,(aLt h0)⟩
  have HRec:Hid (lU false rl (ofs+k) (items.drop k) gaps=if eb rl (ofs+k) (items.drop k)=false then(9,rl) else(if gaps<(dI rl (ofs+k) (items.drop k)).length then 8 else 0,dI rl (ofs+k) (items.drop k))):=by
   show _=_
   unfold lU
   rw[if_neg (by decide)]
  obtain⟨tl,htl⟩:∃tl,(items.drop k).length=tl:=⟨_,rfl⟩
  rw[htl]at htc
  clear htl htv
  obtain⟨ta,tc,rfl,_,_⟩:=htc
  have HBa:=ab hba
  generalize hfr:items.drop k=fresh at *
  clear hbv hbp hbn hbc hblk h h0 h1 h7 hf hcap c0 c1 c7 hfar hW0 hba hfr hk
  have HKv:=ab hkv
  clear hkv
  go_enter Tryz.func229,Tryz.ntmps229
  go_upto_region 3 with fail
  go_cut [7] from 14 to 25 (fun s7 wx=>s7=.int .i64 (k:Int)/\Below w.heap.size w wx/\wx.cell? ⟨w.heap.size,2,none⟩= some (.int .i64 ofs)/\wx.cell? ⟨w.heap.size,3,none⟩= some (.slice ba items.length bc))
  case first=>
   go_region
   go_wp2_with fail
   all_goals
    go_meet
    refine⟨?_,?_,by simp,by simp⟩
    ·have:=HKv.out
     congr 1
     omega
    ·first|exact HBa.out|exact ak HBa.out 1
  case rest=>
   obtain⟨rfl,hbw,p2,p3⟩:=hcut
   go_wp2_with fail
   go_quiet (fail)
   have hbw1:=ak hbw nq
   clear p2 p3 hbw
   generalize wc.drewN nq=W1 at hbw1⊢
   have HAg1:=ab (HAg.out W1 hbw1)
   have HW1:=ab hbw1
   clear hbw1 HAg hrun
   go_wp2_with fail
   refine HAg1.out.mono ?_
   rintro e w1 ⟨rfl,hb1⟩
   have HW2:=ab (ai HW1.out hb1)
   clear hb1 HAg1 HW1
   cases hag:eb rl (ofs+k) fresh with
   |false=>
    have HR1:Hid (lU false rl (ofs+k) fresh gaps=(9,rl)):=by
     show _=_
     rw[HRec.out,if_pos hag]
    go_wp2_with fail
    go_ret
    refine⟨(9,rl),HR1.out.symm,rfl,lv,vs,HSame.out _ HW2.out⟩
   |true=>
    have HR1:Hid (lU false rl (ofs+k) fresh gaps=(if gaps<(dI rl (ofs+k) fresh).length then 8 else 0,dI rl (ofs+k) fresh)):=by
     show _=_
     rw[HRec.out,if_neg (by rw[hag];decide)]
    have HF1:=ab (HFill.out w1 HW2.out)
    clear HFill HSame HRec hag
    go_wp2_with fail
    refine HF1.out.mono ?_
    rintro e w2 ⟨rfl,lv',vs',hfo⟩
    have HFo:=ab hfo
    obtain⟨la,lc,rfl⟩:=bd hfo.runs.own
    have hcell:w2.cell? ⟨b,0,none⟩= some (.slice la vs'.length lc):=(by
     simp only[World.cell?,hfo.blk]
     have:=HLen.out.2
     simp[this])
    have HCt:=ab (wg vs' la lc b 0 w2 hcell)
    have hlen:vs'.length=(dI rl (ofs+k) fresh).length:=hfo.runs.sh.1
    have HLn:=ab hlen
    clear hfo hcell hlen HF1
    go_wp2_with fail
    refine HCt.out.mono ?_
    rintro e w3 ⟨rfl,rfl⟩
    clear HCt
    by_cases hg:gaps<(vs'.length:Int)
    ·go_wp2_with fail
     go_ret
     refine⟨(8,dI rl (ofs+k) fresh),?_,rfl,_,vs',HFo.out⟩
     rw[HR1.out,<-HLn.out,if_pos hg]
    ·go_wp2_with fail
     go_ret
     refine⟨(0,dI rl (ofs+k) fresh),?_,rfl,_,vs',HFo.out⟩
     rw[HR1.out,<-HLn.out,if_neg (by omega)]
def orI(x y:Int):Int:=if x≠0 then x else y
theorem wL(x y:Int)(b:Nat)(w:World)(hx:w.cell? ⟨b,0,none⟩= some (.int .i64 x))(hy:w.cell? ⟨b,1,none⟩= some (.int .i64 y)):
  Calls Tryz.prog 226 #[.slice (some ⟨b,0,none⟩) 2 2] w fun e w'=>e=.returned (.int .i64 (orI x y))/\w=w':=by
 unfold orI
 by_cases h0:x=0
 ·subst h0
  rw[if_neg (by simp)]
  by_cases h1:y=0
  ·subst h1
   go_enter Tryz.func226,Tryz.ntmps226
   go_wp2
   refine wp_loop_rounds 3 ?_
   rw[rounds_succ]
   go_wp2
   rw[rounds_succ]
   go_wp2
   rw[rounds_succ]
   go_wp2
   go_ret
   exact⟨rfl,rfl⟩
  ·go_enter Tryz.func226,Tryz.ntmps226
   go_wp2
   refine wp_loop_rounds 2 ?_
   rw[rounds_succ]
   go_wp2
   rw[rounds_succ]
   go_wp2
   go_ret
   exact⟨rfl,rfl⟩
 ·rw[if_pos h0]
  go_enter Tryz.func226,Tryz.ntmps226
  go_wp2
  refine wp_loop_rounds 1 ?_
  rw[rounds_succ]
  go_wp2
  go_ret
  exact⟨rfl,rfl⟩
theorem x_FillOut.pre{w W w':World}{rb off:Nat}{cs:Array Value}{t:TypeId}{lv lv':Value}{vs vs':List bn}{rl:List aO}(hW:Below w.heap.size w W)(ho:x_FillOut W rb off cs t lv vs rl w' lv' vs'):x_FillOut w rb off cs t lv vs rl w' lv' vs':=by
 refine⟨ho.blk,ho.runs,?_,?_,fun v hv=>?_⟩
 ·exact⟨ho.chg.os.trans hW.os,ho.chg.tape.trans hW.tape,ho.chg.output.trans hW.output,Nat.le_trans hW.size ho.chg.size,fun q hq hn=>by rw[ho.chg.block q (Nat.lt_of_lt_of_le hq hW.size) hn,hW.block q hq]⟩
 ·rcases ho.at_ with e|e
  ·exact Or.inl e
  ·exact Or.inr fun g hg=>Nat.le_trans hW.size (e g hg)
 ·rcases ho.items v hv with e|e
  ·exact Or.inl e
  ·exact Or.inr ⟨e.1,fun g hg=>Nat.le_trans hW.size (e.2 g hg)⟩
structure TkS(U:Nat->Prop)(w:World)(b:Nat)(lv:Value)(bx:Nat)(fc cs:Array Value)(lv':Value)(vs':List bn)(rl':List aO)(wx:World):Prop where
 blk:wx.heap[b]? =some (.cells cs 204 (0,0))
 box:wx.heap[bx]? =some (.cells fc 286 (0,0))
 runs:x_RunsAt wx lv' vs' rl'
 caps:∀v∈vs',kg v.2/\∀g,v.2.ownBlock=some g->U g\/w.heap.size<=g
 chg:Chg (fun k=>k=b\/lv.ownBlock=some k) w wx
 at_:lv'.ownBlock=lv.ownBlock\/∀g,lv'.ownBlock=some g->w.heap.size<=g
theorem TkS.below{U:Nat->Prop}{w:World}{b:Nat}{lv:Value}{bx:Nat}{fc cs:Array Value}{lv':Value}{vs':List bn}{rl':List aO}{wx wy:World}(h:TkS U w b lv bx fc cs lv' vs' rl' wx)(hb:Below wx.heap.size wx wy):TkS U w b lv bx fc cs lv' vs' rl' wy where
 blk:=by rw[hb.block b (aLt h.blk)];exact h.blk
 box:=by rw[hb.block bx (aLt h.box)];exact h.box
 runs:=h.runs.below hb
 caps:=h.caps
 chg:=h.chg.trans (Chg.of_below hb)
 at_:=h.at_
theorem x_RunsAt.setB{w:World}{b:Nat}{cs:Array Value}{lv:Value}{vs:List bn}{rl:List aO}(h:x_RunsAt w lv vs rl)(hb:w.heap[b]? =some (.cells cs 204 (0,0)))(i:Nat)(v:Value):x_RunsAt (w.setCell ⟨b,i,none⟩ v) lv vs rl:=by
 have hc:Chg (fun k=>k=b) w (w.setCell ⟨b,i,none⟩ v):=aI (Below.refl _ w) i v
 refine⟨bX h.own hc fun g hg e=>?_,h.sh,fun k u r hu hr=>(h.ro k u r hu hr).chg hc fun q cur fr hq e=>?_⟩
 ·subst e
  exact ax h.own hb (by decide) hg
 ·subst e
  rw[hb]at hq
  simp only[Option.some.injEq,Obj.cells.injEq]at hq
  exact absurd hq.2.1 (by decide)
theorem TkS.setB{U:Nat->Prop}{w:World}{b:Nat}{lv:Value}{bx:Nat}{fc cs:Array Value}{lv':Value}{vs':List bn}{rl':List aO}{wx:World}(h:TkS U w b lv bx fc cs lv' vs' rl' wx)(i:Nat)(v:Value):TkS U w b lv bx fc (cs.setIfInBounds i v) lv' vs' rl' (wx.setCell ⟨b,i,none⟩ v) where
 blk:=al h.blk i v
 box:=by
  have hne:bx≠b:=by
   intro e
   subst e
   have h1:=h.box
   rw[h.blk]at h1
   simp only[Option.some.injEq,Obj.cells.injEq]at h1
   exact absurd h1.2.1 (by decide)
  rw[heap_setCell_other _ _ _ _ hne]
  exact h.box
 runs:=h.runs.setB h.blk i v
 caps:=h.caps
 chg:=h.chg.trans ((aI (Below.refl _ wx) i v).mono fun k _ e=>Or.inl e)
 at_:=h.at_
theorem TkS.cell{U:Nat->Prop}{w:World}{b:Nat}{lv:Value}{bx:Nat}{fc cs:Array Value}{lv':Value}{vs':List bn}{rl':List aO}{wx:World}(h:TkS U w b lv bx fc cs lv' vs' rl' wx)(i:Nat):wx.cell? ⟨b,i,none⟩= cs[i]?:=by
 simp only[World.cell?,h.blk]
 rfl
theorem TkS.bcell{U:Nat->Prop}{w:World}{b:Nat}{lv:Value}{bx:Nat}{fc cs:Array Value}{lv':Value}{vs':List bn}{rl':List aO}{wx:World}(h:TkS U w b lv bx fc cs lv' vs' rl' wx)(i:Nat):wx.cell? ⟨bx,i,none⟩= fc[i]?:=by
 simp only[World.cell?,h.box]
 rfl
theorem TkS.free{U:Nat->Prop}{w:World}{b:Nat}{lv:Value}{bx:Nat}{fc cs:Array Value}{lv':Value}{vs':List bn}{rl':List aO}{wx:World}(h:TkS U w b lv bx fc cs lv' vs' rl' wx)(i:Nat):wx.frozen? ⟨b,i,none⟩= false:=frozen_of_row wx b i _ _ h.blk
theorem TkS.clear{U:Nat->Prop}{w:World}{b:Nat}{lv:Value}{bx:Nat}{fc cs:Array Value}{lv':Value}{vs':List bn}{rl':List aO}{wx:World}(h:TkS U w b lv bx fc cs lv' vs' rl' wx):TkS U w b lv bx fc (cs.setIfInBounds 0 (.slice none 0 0)) (.slice none 0 0) [] [] (wx.setCell ⟨b,0,none⟩ (.slice none 0 0)):=by
 have h1:=h.setB 0 (.slice none 0 0)
 refine⟨h1.blk,h1.box,⟨⟨rfl,Or.inl ⟨rfl,rfl⟩⟩,⟨rfl,fun i v r hv=>(by simp at hv)⟩,fun i v r hv=>(by simp at hv)⟩,fun v hv=>(by cases hv),h1.chg,Or.inr fun g hg=>(by simp[Value.ownBlock]at hg)⟩
theorem vV{U:Nat->Prop}(b:Nat)(lv0:Value)(bx:Nat)(fc:Array Value)(rd hi cr ah fi:Int)(kn rs:Bool)(lv:Value)(vs:List bn)(rl:List aO)(w0 w:World)
  (h:TkS U w0 b lv0 bx fc #[lv,.int .i64 rd,.int .i64 hi,.int .i64 cr,.int .i64 ah,.int .i64 fi,.bool kn,.bool rs] lv vs rl w) (hf:RunsFit rl):
  Calls Tryz.prog 231 #[.pointer (some ⟨b,0,none⟩)] w fun e w'=>e=.returned (.tuple #[])/\∃lv' vs',
   TkS U w0 b lv0 bx fc #[lv',.int .i64 rd,.int .i64 hi,.int .i64 cr,.int .i64 ah,.int .i64 fi,.bool kn,.bool (if bu rl rd fi then rs else true)] lv' vs' (if bu rl rd fi then rl else []) w':=by
 have HC:=ab (fun W (hW:Below w.heap.size w W)=>ke vs rl lv rd fi b 0 W (ae (h.cell 0) hW) (aF h.runs.own hW) h.runs.sh hf.wide (by have:=hf.few;have:=h.runs.sh.1;omega))
 have c1:w.cell? ⟨b,1,none⟩= some (.int .i64 rd):=h.cell 1
 have c5:w.cell? ⟨b,5,none⟩= some (.int .i64 fi):=h.cell 5
 have HH:=ab h
 clear h
 cases hcv:bu rl rd fi with
 |true=>
  rw[hcv]at HC
  simp only[if_true]
  go_enter Tryz.func231,Tryz.ntmps231
  go_wp2_with fail
  go_region_held3 (fun w'=>w'.cell? ⟨b,1,none⟩= some (.int .i64 rd)/\w'.cell? ⟨b,5,none⟩= some (.int .i64 fi)) (first|assumption|go_keep) (first
   |(go_at_call 166;refine(HC.out _ (ak (Below.refl _ w) 1)).mono ?_;rintro e w1 ⟨rfl,hb1⟩;have hk1:=ae c1 (aq hb1);have hk5:=ae c5 (aq hb1)))
  have HB:=ab (aq hb1)
  clear hb1 HC hk1 hk5
  go_wp2_with fail
  refine bodyPost_ret (results_none rfl _ _ _) rfl ?_
  exact⟨rfl,lv,vs,HH.out.below HB.out⟩
 |false=>
  rw[hcv]at HC
  simp only[Bool.false_eq_true,if_false]
  go_enter Tryz.func231,Tryz.ntmps231
  go_wp2_with fail
  go_region_held3 (fun w'=>w'.cell? ⟨b,1,none⟩= some (.int .i64 rd)/\w'.cell? ⟨b,5,none⟩= some (.int .i64 fi)) (first|assumption|go_keep) (first
   |(go_at_call 166;refine(HC.out _ (ak (Below.refl _ w) 1)).mono ?_;rintro e w1 ⟨rfl,hb1⟩;have hk1:=ae c1 (aq hb1);have hk5:=ae c5 (aq hb1)))
  have HB:=ab (aq hb1)
  clear hb1 HC hk1 hk5
  have H1:=ab (HH.out.below HB.out)
  have H2:=ab (H1.out.setB 7 (.bool true))
  have z7:=H1.out.free 7
  have z0:=H2.out.free 0
  have d7:w1.cell? ⟨b,7,none⟩= some (.bool rs):=H1.out.cell 7
  have d0:(w1.setCell ⟨b,7,none⟩ (.bool true)).cell? ⟨b,0,none⟩= some lv:=H2.out.cell 0
  have H3:=ab H2.out.clear
  clear HH H1 H2 c1 c5
  go_wp2_with fail
  go_end0
  exact⟨rfl,_,[],H3.out⟩
end Go.Proofs.YthmdjhlhodpbhaaGreatDoor
