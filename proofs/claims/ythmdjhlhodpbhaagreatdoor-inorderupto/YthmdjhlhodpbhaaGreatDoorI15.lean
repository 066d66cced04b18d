/- InOrder, 15 -/
import Derived.Deep.CutBlock
import Derived.Test.YthmdjhlhodpbhaaGreatDoorI07
import Derived.Test.YthmdjhlhodpbhaaGreatDoorI14
set_option maxHeartbeats 16000000
set_option maxRecDepth 8000
namespace Go.Proofs.YthmdjhlhodpbhaaGreatDoor
open Go.RowKit
theorem heap_drew(w:World):w.drew.heap=w.heap:=rfl
theorem results_cell_row3{P:Program}{fn:Func}{p u v:Tmp}{ty:TypeId}(h:fn.results=#[.cell p ty,.tmp u,.tmp v])(tmps:Array Value)(w:World)(g:Nat)(t:TypeId)(cs:Array Value)(fr:Nat×Nat)(d:TypeDesc)
  (hp:tmps.getD p undef=.pointer (some ⟨g,0,none⟩)) (hg:w.heap[g]? =some (.cells cs t fr))
  (hu:P.underlying ty=some d) (hd:(match d with|.struct _|.array _ _=>true|_=>false)=true) (hi:(P.info? ty).map (·.size)=some cs.size):
  (results fn tmps).run P w=.ok (.tuple #[.agg cs,tmps.getD u undef,tmps.getD v undef]) w:=by
 have hp':tmps[p]?.getD undef=.pointer (some ⟨g,0,none⟩):=by simpa using hp
 simp[results,h,hp',asAddr,run_loadVar_row w g t ty cs fr d hg hu hd hi]
theorem bM{P:Program}{fn:Func}{p u v:Tmp}{ty:TypeId}(h:fn.results=#[.cell p ty,.tmp u,.tmp v])(tmps:Array Value)(w:World)(g:Nat)(t:TypeId)(cs:Array Value)(fr:Nat×Nat)(d:TypeDesc)(vu vv:Value)
  (hp:tmps.getD p undef=.pointer (some ⟨g,0,none⟩)) (hvu:tmps.getD u undef=vu) (hvv:tmps.getD v undef=vv) (hg:w.heap[g]? =some (.cells cs t fr))
  (hu:P.underlying ty=some d) (hd:(match d with|.struct _|.array _ _=>true|_=>false)=true) (hi:(P.info? ty).map (·.size)=some cs.size):
  (results fn tmps).run P w=.ok (.tuple #[.agg cs,vu,vv]) w:=by
 rw[<-hvu,<-hvv]
 exact results_cell_row3 h tmps w g t cs fr d hp hg hu hd hi
theorem bB{P:Program}{fn:Func}{p u:Tmp}{ty:TypeId}(h:fn.results=#[.cell p ty,.tmp u])(tmps:Array Value)(w:World)(g:Nat)(t:TypeId)(cs:Array Value)(fr:Nat×Nat)(d:TypeDesc)(vu:Value)
  (hp:tmps.getD p undef=.pointer (some ⟨g,0,none⟩)) (hvu:tmps.getD u undef=vu) (hg:w.heap[g]? =some (.cells cs t fr))
  (hu:P.underlying ty=some d) (hd:(match d with|.struct _|.array _ _=>true|_=>false)=true) (hi:(P.info? ty).map (·.size)=some cs.size):
  (results fn tmps).run P w=.ok (.tuple #[.agg cs,vu]) w:=by
 have hp':tmps[p]?.getD undef=.pointer (some ⟨g,0,none⟩):=by simpa using hp
 rw[<-hvu]
 simp[results,h,hp',asAddr,run_loadVar_row w g t ty cs fr d hg hu hd hi]
structure FrAt(T:TypeId)(zc:Array Value)(w:World)(fb:Nat)(r:Rd)(fc:Array Value)(W:World):Prop where
 bel:Below w.heap.size w W
 res:W.heap[w.heap.size]? =some (.cells zc T (0,0))
 rd:∃rv ev,RdAt W (w.heap.size+1) rv ev r
 frm:W.heap[fb]? =some (.cells fc T (0,0))
 ne:w.heap.size+1<fb
theorem cn{w W W':World}{rb:Nat}(hb:Below w.heap.size w W)(hc:Chg (· = rb) W W')(h:w.heap.size<=rb):Below w.heap.size w W':=
 ⟨hc.os.trans hb.os,hc.tape.trans hb.tape,hc.output.trans hb.output,Nat.le_trans hb.size hc.size,fun k hk=>by rw[hc.block k (Nat.lt_of_lt_of_le hk hb.size) (show k≠rb from by omega),hb.block k hk]⟩
theorem FrAt.step{T:TypeId}{zc:Array Value}{w:World}{fb:Nat}{r r':Rd}{fc:Array Value}{W W':World}(h:FrAt T zc w fb r fc W)(ho:RdOut W (w.heap.size+1) r' W'):FrAt T zc w fb r' fc W':=by
 obtain⟨rv,ev,h1,hc⟩:=ho
 have hne:=h.ne
 refine⟨cn h.bel hc (by omega),?_,⟨rv,ev,h1⟩,?_,hne⟩
 ·rw[hc.block _ (Array.getElem?_eq_some_iff.1 h.res).1 (show w.heap.size≠w.heap.size+1 from by omega)];exact h.res
 ·rw[hc.block _ (Array.getElem?_eq_some_iff.1 h.frm).1 (show fb≠w.heap.size+1 from by omega)];exact h.frm
theorem FrAt.setF{T:TypeId}{zc:Array Value}{w:World}{fb:Nat}{r:Rd}{fc:Array Value}{W:World}(hT2:T≠5)(hT3:T≠157)(h:FrAt T zc w fb r fc W)(i:Nat)(v:Value):FrAt T zc w fb r (fc.setIfInBounds i v) (W.setCell ⟨fb,i,none⟩ v):=by
 have hne:=h.ne
 obtain⟨rv,ev,h1⟩:=h.rd
 have hc:Chg (· = fb) W (W.setCell ⟨fb,i,none⟩ v):=aG (Below.refl _ W) i v
 have hT:∀k cur fr e,W.heap[k]? =some (.cells cur e fr)->T≠e->¬k=fb:=by
  intro k cur fr e hk he e2
  subst e2
  rw[h.frm]at hk
  simp only[Option.some.injEq,Obj.cells.injEq]at hk
  exact he hk.2.1
 refine⟨cn h.bel hc (by omega),?_,⟨rv,ev,?_,h1.rd.chg hc fun k cur fr hk=>hT k cur fr _ hk hT2,h1.ok,fun hb=>?_⟩,ak h.frm i v,hne⟩
 ·rw[hc.block _ (Array.getElem?_eq_some_iff.1 h.res).1 (show w.heap.size≠fb from by omega)];exact h.res
 ·rw[hc.block _ (Array.getElem?_eq_some_iff.1 h1.blk).1 (show w.heap.size+1≠fb from by omega)];exact h1.blk
 ·obtain⟨k,hk,hn⟩:=h1.no hb
  exact⟨k,hk,hn.chg hc fun k cur fr hk=>hT k cur fr _ hk hT3⟩
theorem FrAt.cell{T:TypeId}{zc:Array Value}{w:World}{fb:Nat}{r:Rd}{fc:Array Value}{W:World}(h:FrAt T zc w fb r fc W)(i:Nat):W.cell? ⟨fb,i,none⟩= fc[i]?:=by simp only[World.cell?,h.frm];rfl
theorem FrAt.free{T:TypeId}{zc:Array Value}{w:World}{fb:Nat}{r:Rd}{fc:Array Value}{W:World}(h:FrAt T zc w fb r fc W)(i:Nat):W.frozen? ⟨fb,i,none⟩= false:=frozen_of_row W fb i _ _ h.frm
def frmC(p:FrmP)(bv:Value):Array Value:=#[.int .i64 p.type,.int .i64 p.id,.int .i64 p.ofs,bv,.int .i64 p.en,.int .i64 p.proof]
def cj:Array Value:=#[.int .i64 0,.int .i64 0,.int .i64 0,.slice none 0 0,.int .i64 0,.int .i64 0]
structure FrmOut(w:World)(b:List Int)(x:FrmP×Rd)(e:Ending)(w':World):Prop where
 bel:Below w.heap.size w w'
 bad:x.2.bad=true->∃k c,e=.returned (.tuple #[.agg cj,.int .i64 0,c])/\(k=2\/k=3)/\NErr w' k c
 ok:x.2.bad=false->∃bv,e=.returned (.tuple #[.agg (frmC x.1 bv),.int .i64 ((b.length:Int)-x.2.rest.length),.nilIface])/\RdB w' bv x.1.bytes
theorem FrmOut.drew{w:World}{b:List Int}{x:FrmP×Rd}{e:Ending}{W:World}(h:FrmOut w b x e W):FrmOut w b x e W.drew where
 bel:=aj h.bel 1
 bad:=fun hb=>by obtain⟨k,c,e1,hk,hn⟩:=h.bad hb;exact⟨k,c,e1,hk,hn.below (aj (Below.refl _ W) 1)⟩
 ok:=fun hb=>by obtain⟨bv,e1,h1⟩:=h.ok hb;exact⟨bv,e1,h1.below (aj (Below.refl _ W) 1)⟩
theorem num_range{r:Rd}(h:Bytes r.rest):0<=r.num.1/\r.num.1<=1073741823:=by
 have:=gval_range h
 show 0<=ea r.rest/\ea r.rest<=1073741823
 omega
def frameT(t:Int)(r0:Rd):FrmP×Rd:=
 if t=0\/t=1 then(⟨t,0,0,[],0,0⟩,r0)
 else if t=3\/t=4 then(⟨t,r0.num.1,r0.num.2.num.1,(r0.num.2.num.2.num.2.byt r0.num.2.num.2.num.1).1,r0.num.2.num.1+(r0.num.2.num.2.num.2.byt r0.num.2.num.2.num.1).1.length,0⟩,(r0.num.2.num.2.num.2.byt r0.num.2.num.2.num.1).2)
 else if t=5 then(⟨t,r0.num.1,0,[],r0.num.2.num.1,0⟩,r0.num.2.num.2)
 else if t=6 then(⟨t,0,0,[],0,0⟩,r0.num.2)
 else if t=7 then(⟨t,0,0,[],0,r0.num.1⟩,r0.num.2)
 else(⟨t,0,0,[],0,0⟩,r0.fail)
theorem frameR_T{b:List Int}(hp:0<b.length):frameR b=frameT (b.getD 0 0) ⟨b.drop 1,false⟩:=by
 unfold frameR frameT
 rw[kind_some hp]
theorem num_rest{r:Rd}(h:Bytes r.rest):Bytes r.num.2.rest:=h.drop _
theorem wReadFrame_any(b:List Int)(bv:Value)(w:World)(he:Env w)(h:RdB w bv b)(hp:0<b.length):
  Calls Tryz.prog 181 #[bv] w fun e w'=>FrmOut w b (frameR b) e w':=by
 obtain⟨_,_,ao,cap,rfl,_⟩:=id h
 obtain⟨bl,hbl⟩:∃bl,b.length=bl:=⟨_,rfl⟩
 have HBl:=ab hbl
 have hEn:∀W:World,Below w.heap.size w W->Env W:=fun W hW=>he.below hW
 have hb2:Below w.heap.size w ((w.alloc (.cells cj 286)).alloc (.cells #[.slice ao b.length cap,.nilIface] 151)):=(af w _).alloc (by simp) _
 have HK:=ab (wkind_any (w.heap.size+1) (.slice ao b.length cap) .nilIface ⟨b,false⟩ ⟨#[116,121,112,101]⟩ _ (hEn _ hb2) ⟨heap_alloc2_new w _ _,h.below hb2,fun _=>rfl,fun h=>(by cases h)⟩)
 rw[kind_some hp]at HK
 have HE:=ab hEn
 have hty:=cQ h.1 0
 have HNum:Hid (∀(W:World) (fb:Nat) (r:Rd) (fc:Array Value) (s:ByteArray),FrAt 286 cj w fb r fc W->Calls Tryz.prog 84 #[.pointer (some ⟨w.heap.size+1,0,none⟩),.string s] W fun e w'=>e=.returned (.int .i64 r.num.1)/\FrAt 286 cj w fb r.num.2 fc w'):=by
  intro W fb r fc s hW
  obtain⟨rv,ev,h1⟩:=hW.rd
  refine(wnumber_any _ rv ev r s W (hEn W hW.bel) h1).mono ?_
  rintro e w' ⟨rfl,ho⟩
  exact⟨rfl,hW.step ho⟩
 have HByt:Hid (∀(W:World) (fb:Nat) (r:Rd) (fc:Array Value) (s:ByteArray) (c:Int),FrAt 286 cj w fb r fc W->0<=c/\c<=1073741823->Calls Tryz.prog 85 #[.pointer (some ⟨w.heap.size+1,0,none⟩),.string s,.int .i64 c] W fun e w'=>(∃bv,e=.returned bv/\RdB w' bv (r.byt c).1)/\FrAt 286 cj w fb (r.byt c).2 fc w'):=by
  intro W fb r fc s c hW hc
  obtain⟨rv,ev,h1⟩:=hW.rd
  refine(wbytes_any _ rv ev r s c W (hEn W hW.bel) h1 hc.1 hc.2).mono ?_
  rintro e w' ⟨h2,ho⟩
  exact⟨h2,hW.step ho⟩
 have HUnk:Hid (∀(W:World) (fb:Nat) (r:Rd) (fc:Array Value) (s:ByteArray) (c:Int),FrAt 286 cj w fb r fc W->0<=c/\c<=1073741823->Calls Tryz.prog 86 #[.pointer (some ⟨w.heap.size+1,0,none⟩),.string s,.int .i64 c] W fun e w'=>e=.returned (.tuple #[])/\FrAt 286 cj w fb r.fail fc w'):=by
  intro W fb r fc s c hW hc
  obtain⟨rv,ev,h1⟩:=hW.rd
  refine(wunknown_any _ rv ev r s c W (hEn W hW.bel) h1 hc.1 (by omega)).mono ?_
  rintro e w' ⟨rfl,ho⟩
  exact⟨rfl,hW.step ho⟩
 have HBd:Hid (Bytes b):=h.1
 have HFT:=ab (frameR_T hp)
 have hR0:((w.alloc (.cells cj 286)).alloc (.cells #[.slice ao b.length cap,.nilIface] 151)).heap[w.heap.size]? =some (.cells cj 286 (0,0)):=heap_alloc2_old w _ _
 have HR0:=ab hR0
 have HB2:=ab hb2
 rw[hbl]at HK HR0 HB2⊢
 obtain⟨x,hx⟩:∃x,frameR b=x:=⟨_,rfl⟩
 rw[hx]at HFT⊢
 clear hx
 clear h he hb2 hR0 hbl hp hEn
 unfold cj at HK HR0 HB2
 go_enter Tryz.func181,Tryz.ntmps181
 go_wp2_with fail
 refine HK.out.mono ?_
 rintro e w1 ⟨rfl,rv1,ev1,h1,hc1⟩
 have HS1:Hid (∀t:Int,FrAt 286 cj w w1.heap.size ⟨b.drop 1,false⟩ #[.int .i64 t,.int .i64 0,.int .i64 0,.slice none 0 0,.int .i64 0,.int .i64 0] (w1.alloc (.cells #[.int .i64 t,.int .i64 0,.int .i64 0,.slice none 0 0,.int .i64 0,.int .i64 0] 286))):=by
  intro t
  have hsz:w.heap.size+1<w1.heap.size:=by have:=hc1.size;simp at this;omega
  refine⟨ag (cn HB2.out hc1 (by omega)) (af _ _),?_,⟨rv1,ev1,h1.below (af _ _)⟩,heap_alloc_new w1 _,hsz⟩
  rw[Below.heap_alloc _ _ _ (by omega),hc1.block _ (by simp;omega) (show w.heap.size≠w.heap.size+1 from by omega)]
  exact HR0.out
 clear h1 hc1 HK HR0 HB2
 obtain⟨t,ht⟩:∃t,b.getD 0 0=t:=⟨_,rfl⟩
 have HTy:=ab ht
 rw[ht]at hty HFT⊢
 clear ht
 have HS2:=ab (HS1.out t)
 clear HS1
 have hb0:Bytes (Rd.mk (b.drop 1) false).rest:=HBd.out.drop 1
 generalize Rd.mk (b.drop 1) false=r0 at HS2 HFT hb0
 have hb1:=num_rest hb0
 have hb2:=num_rest hb1
 have g1:=num_range hb0
 have g2:=num_range hb1
 have g3:=num_range hb2
 have HG:=ab (And.intro g1 (And.intro g2 g3))
 clear g1 g2 g3 hb0 hb1 hb2
 go_upto_block 0 with fail
 go_cut [6] from 11 to 48 (fun s6 wx=>s6=.pointer (some ⟨w1.heap.size,0,none⟩)/\∃bv,FrAt 286 cj w w1.heap.size x.2 (frmC x.1 bv) wx/\RdB wx bv x.1.bytes)
 case first=>
  by_cases t0:t=0
  ·subst t0
   go_wp2_with fail
   go_meet
   refine⟨rfl,.slice none 0 0,?_,?_⟩
   ·rw[HFT.out];exact HS2.out
   ·rw[HFT.out];exact RdB.nil _
  by_cases t1:t=1
  ·subst t1
   go_wp2_with fail
   go_meet
   refine⟨rfl,.slice none 0 0,?_,?_⟩
   ·rw[HFT.out];exact HS2.out
   ·rw[HFT.out];exact RdB.nil _
  by_cases t3:t=3
  ·subst t3
   go_wp2_with fail
   refine(HNum.out _ _ _ _ _ HS2.out).mono ?_
   rintro e w2 ⟨rfl,h2⟩
   have x2:w2.cell? ⟨w1.heap.size,1,none⟩= some (.int .i64 0):=h2.cell 1
   have z2:=h2.free 1
   have H2:=ab (h2.setF (by decide) (by decide) 1 (.int .i64 r0.num.1))
   clear h2
   go_wp2_with fail
   refine(HNum.out _ _ _ _ _ H2.out).mono ?_
   rintro e w3 ⟨rfl,h3⟩
   have x3:w3.cell? ⟨w1.heap.size,2,none⟩= some (.int .i64 0):=h3.cell 2
   have z3:=h3.free 2
   have H3:=ab (h3.setF (by decide) (by decide) 2 (.int .i64 r0.num.2.num.1))
   clear h3
   go_wp2_with fail
   refine(HNum.out _ _ _ _ _ H3.out).mono ?_
   rintro e w4 ⟨rfl,h4⟩
   have H4:=ab h4
   clear h4
   go_wp2_with fail
   refine(HByt.out _ _ _ _ _ _ H4.out HG.out.2.2).mono ?_
   rintro e w5 ⟨⟨pv,rfl,hpv⟩,h5⟩
   have x5:w5.cell? ⟨w1.heap.size,3,none⟩= some (.slice none 0 0):=h5.cell 3
   have z5:=h5.free 3
   obtain⟨_,hpl,pa,pc,rfl,_⟩:=id hpv
   have H5:=ab (h5.setF (by decide) (by decide) 3 (.slice pa (r0.num.2.num.2.num.2.byt r0.num.2.num.2.num.1).1.length pc))
   have HPv:=ab (hpv.chg (aG (cb:=w1.heap.size) (Below.refl _ w5) 3 (.slice pa (r0.num.2.num.2.num.2.byt r0.num.2.num.2.num.1).1.length pc)) fun k cur fr hk e=>by subst e;rw[h5.frm]at hk;simp only[Option.some.injEq,Obj.cells.injEq]at hk;exact absurd hk.2.1 (by decide))
   have y2:(w5.setCell ⟨w1.heap.size,3,none⟩ (.slice pa (r0.num.2.num.2.num.2.byt r0.num.2.num.2.num.1).1.length pc)).cell? ⟨w1.heap.size,2,none⟩= some (.int .i64 r0.num.2.num.1):=H5.out.cell 2
   have y3:(w5.setCell ⟨w1.heap.size,3,none⟩ (.slice pa (r0.num.2.num.2.num.2.byt r0.num.2.num.2.num.1).1.length pc)).cell? ⟨w1.heap.size,3,none⟩= some (.slice pa (r0.num.2.num.2.num.2.byt r0.num.2.num.2.num.1).1.length pc):=H5.out.cell 3
   have y4:(w5.setCell ⟨w1.heap.size,3,none⟩ (.slice pa (r0.num.2.num.2.num.2.byt r0.num.2.num.2.num.1).1.length pc)).cell? ⟨w1.heap.size,4,none⟩= some (.int .i64 0):=H5.out.cell 4
   have v4:=H5.out.free 4
   clear hpv h5
   have hg2:=HG.out.2.1
   obtain⟨pl,hpl2⟩:∃pl,(r0.num.2.num.2.num.2.byt r0.num.2.num.2.num.1).1.length=pl:=⟨_,rfl⟩
   have HPl:=ab hpl2
   rw[hpl2]at hpl y3 y2 y4 v4 H5 HPv⊢
   have hwp:IntKind.i64.wrap (r0.num.2.num.1+(pl:Int))=r0.num.2.num.1+pl:=by rw[IntKind.wrap_i64];omega
   have H5':=ab (H5.out.setF (by decide) (by decide) 4 (.int .i64 (r0.num.2.num.1+pl)))
   clear hpl hpl2 hg2
   go_wp2_with fail
   go_meet
   refine⟨rfl,.slice pa pl pc,?_,?_⟩
   ·rw[HFT.out]
    unfold frameT frmC
    rw[if_neg (by decide),if_pos (by decide)]
    simp only
    rw[HPl.out]
    exact H5'.out
   ·rw[HFT.out]
    unfold frameT
    rw[if_neg (by decide),if_pos (by decide)]
    refine HPv.out.chg (aG (cb:=w1.heap.size) (Below.refl _ _) 4 _) fun k cur fr hk e=>?_
    subst e
    rw[H5.out.frm]at hk
    simp only[Option.some.injEq,Obj.cells.injEq]at hk
    exact absurd hk.2.1 (by decide)
  by_cases t4:t=4
  ·subst t4
   go_wp2_with fail
   refine(HNum.out _ _ _ _ _ HS2.out).mono ?_
   rintro e w2 ⟨rfl,h2⟩
   have x2:w2.cell? ⟨w1.heap.size,1,none⟩= some (.int .i64 0):=h2.cell 1
   have z2:=h2.free 1
   have H2:=ab (h2.setF (by decide) (by decide) 1 (.int .i64 r0.num.1))
   clear h2
   go_wp2_with fail
   refine(HNum.out _ _ _ _ _ H2.out).mono ?_
   rintro e w3 ⟨rfl,h3⟩
   have x3:w3.cell? ⟨w1.heap.size,2,none⟩= some (.int .i64 0):=h3.cell 2
   have z3:=h3.free 2
   have H3:=ab (h3.setF (by decide) (by decide) 2 (.int .i64 r0.num.2.num.1))
   clear h3
   go_wp2_with fail
   refine(HNum.out _ _ _ _ _ H3.out).mono ?_
   rintro e w4 ⟨rfl,h4⟩
   have H4:=ab h4
   clear h4
   go_wp2_with fail
   refine(HByt.out _ _ _ _ _ _ H4.out HG.out.2.2).mono ?_
   rintro e w5 ⟨⟨pv,rfl,hpv⟩,h5⟩
   have x5:w5.cell? ⟨w1.heap.size,3,none⟩= some (.slice none 0 0):=h5.cell 3
   have z5:=h5.free 3
   obtain⟨_,hpl,pa,pc,rfl,_⟩:=id hpv
   have H5:=ab (h5.setF (by decide) (by decide) 3 (.slice pa (r0.num.2.num.2.num.2.byt r0.num.2.num.2.num.1).1.length pc))
   have HPv:=ab (hpv.chg (aG (cb:=w1.heap.size) (Below.refl _ w5) 3 (.slice pa (r0.num.2.num.2.num.2.byt r0.num.2.num.2.num.1).1.length pc)) fun k cur fr hk e=>by subst e;rw[h5.frm]at hk;simp only[Option.some.injEq,Obj.cells.injEq]at hk;exact absurd hk.2.1 (by decide))
   have y2:(w5.setCell ⟨w1.heap.size,3,none⟩ (.slice pa (r0.num.2.num.2.num.2.byt r0.num.2.num.2.num.1).1.length pc)).cell? ⟨w1.heap.size,2,none⟩= some (.int .i64 r0.num.2.num.1):=H5.out.cell 2
   have y3:(w5.setCell ⟨w1.heap.size,3,none⟩ (.slice pa (r0.num.2.num.2.num.2.byt r0.num.2.num.2.num.1).1.length pc)).cell? ⟨w1.heap.size,3,none⟩= some (.slice pa (r0.num.2.num.2.num.2.byt r0.num.2.num.2.num.1).1.length pc):=H5.out.cell 3
   have y4:(w5.setCell ⟨w1.heap.size,3,none⟩ (.slice pa (r0.num.2.num.2.num.2.byt r0.num.2.num.2.num.1).1.length pc)).cell? ⟨w1.heap.size,4,none⟩= some (.int .i64 0):=H5.out.cell 4
   have v4:=H5.out.free 4
   clear hpv h5
   have hg2:=HG.out.2.1
   obtain⟨pl,hpl2⟩:∃pl,(r0.num.2.num.2.num.2.byt r0.num.2.num.2.num.1).1.length=pl:=⟨_,rfl⟩
   have HPl:=ab hpl2
   rw[hpl2]at hpl y3 y2 y4 v4 H5 HPv⊢
   have hwp:IntKind.i64.wrap (r0.num.2.num.1+(pl:Int))=r0.num.2.num.1+pl:=by rw[IntKind.wrap_i64];omega
   have H5':=ab (H5.out.setF (by decide) (by decide) 4 (.int .i64 (r0.num.2.num.1+pl)))
   clear hpl hpl2 hg2
   go_wp2_with fail
   go_meet
   refine⟨rfl,.slice pa pl pc,?_,?_⟩
   ·rw[HFT.out]
    unfold frameT frmC
    rw[if_neg (by decide),if_pos (by decide)]
    simp only
    rw[HPl.out]
    exact H5'.out
   ·rw[HFT.out]
    unfold frameT
    rw[if_neg (by decide),if_pos (by decide)]
    refine HPv.out.chg (aG (cb:=w1.heap.size) (Below.refl _ _) 4 _) fun k cur fr hk e=>?_
    subst e
    rw[H5.out.frm]at hk
    simp only[Option.some.injEq,Obj.cells.injEq]at hk
    exact absurd hk.2.1 (by decide)
  by_cases t5:t=5
  ·subst t5
   go_wp2_with fail
   refine(HNum.out _ _ _ _ _ HS2.out).mono ?_
   rintro e w2 ⟨rfl,h2⟩
   have x2:w2.cell? ⟨w1.heap.size,1,none⟩= some (.int .i64 0):=h2.cell 1
   have z2:=h2.free 1
   have H2:=ab (h2.setF (by decide) (by decide) 1 (.int .i64 r0.num.1))
   clear h2
   go_wp2_with fail
   refine(HNum.out _ _ _ _ _ H2.out).mono ?_
   rintro e w3 ⟨rfl,h3⟩
   have x3:w3.cell? ⟨w1.heap.size,4,none⟩= some (.int .i64 0):=h3.cell 4
   have z3:=h3.free 4
   have H3:=ab (h3.setF (by decide) (by decide) 4 (.int .i64 r0.num.2.num.1))
   clear h3
   go_wp2_with fail
   go_meet
   refine⟨rfl,.slice none 0 0,?_,?_⟩
   ·rw[HFT.out];exact H3.out
   ·rw[HFT.out];exact RdB.nil _
  by_cases t6:t=6
  ·subst t6
   go_wp2_with fail
   refine(HNum.out _ _ _ _ _ HS2.out).mono ?_
   rintro e w2 ⟨rfl,h2⟩
   have H2:=ab h2
   clear h2
   go_wp2_with fail
   go_meet
   refine⟨rfl,.slice none 0 0,?_,?_⟩
   ·rw[HFT.out];exact H2.out
   ·rw[HFT.out];exact RdB.nil _
  by_cases t7:t=7
  ·subst t7
   go_wp2_with fail
   refine(HNum.out _ _ _ _ _ HS2.out).mono ?_
   rintro e w2 ⟨rfl,h2⟩
   have x2:w2.cell? ⟨w1.heap.size,5,none⟩= some (.int .i64 0):=h2.cell 5
   have z2:=h2.free 5
   have H2:=ab (h2.setF (by decide) (by decide) 5 (.int .i64 r0.num.1))
   clear h2
   go_wp2_with fail
   go_meet
   refine⟨rfl,.slice none 0 0,?_,?_⟩
   ·rw[HFT.out];exact H2.out
   ·rw[HFT.out];exact RdB.nil _
  have HT8:Hid (frameT t r0=(⟨t,0,0,[],0,0⟩,r0.fail)):=by
   show _=_
   unfold frameT
   rw[if_neg (by omega),if_neg (by omega),if_neg t5,if_neg t6,if_neg t7]
  have b0:(t==0)=false:=beq_eq_false_iff_ne.2 t0
  have b1:(t==1)=false:=beq_eq_false_iff_ne.2 t1
  have b3:(t==3)=false:=beq_eq_false_iff_ne.2 t3
  have b4:(t==4)=false:=beq_eq_false_iff_ne.2 t4
  have b5:(t==5)=false:=beq_eq_false_iff_ne.2 t5
  have b6:(t==6)=false:=beq_eq_false_iff_ne.2 t6
  have b7:(t==7)=false:=beq_eq_false_iff_ne.2 t7
  clear t0 t1 t3 t4 t5 t6 t7
  go_wp2_with fail
  refine(HUnk.out _ _ _ _ _ _ HS2.out (by omega)).mono ?_
  rintro e w2 ⟨rfl,h2⟩
  have H2:=ab h2
  clear h2
  go_wp2_with fail
  go_meet
  refine⟨rfl,.slice none 0 0,?_,?_⟩
  ·rw[HFT.out,HT8.out];exact H2.out
  ·rw[HFT.out,HT8.out];exact RdB.nil _
 case rest=>
  obtain⟨rfl,pv,hfr,hpv⟩:=hcut
  obtain⟨rv2,ev2,hrd⟩:=hfr.rd
  have k0:wc.cell? ⟨w.heap.size,0,none⟩= some (.int .i64 0):=(by simp only[World.cell?,hfr.res];rfl)
  have j0:wc.frozen? ⟨w.heap.size,0,none⟩= false:=frozen_of_row wc _ _ _ _ hfr.res
  have k1:wc.cell? ⟨w.heap.size,1,none⟩= some (.int .i64 0):=(by simp only[World.cell?,hfr.res];rfl)
  have j1:wc.frozen? ⟨w.heap.size,1,none⟩= false:=frozen_of_row wc _ _ _ _ hfr.res
  have k2:wc.cell? ⟨w.heap.size,2,none⟩= some (.int .i64 0):=(by simp only[World.cell?,hfr.res];rfl)
  have j2:wc.frozen? ⟨w.heap.size,2,none⟩= false:=frozen_of_row wc _ _ _ _ hfr.res
  have k3:wc.cell? ⟨w.heap.size,3,none⟩= some (.slice none 0 0):=(by simp only[World.cell?,hfr.res];rfl)
  have j3:wc.frozen? ⟨w.heap.size,3,none⟩= false:=frozen_of_row wc _ _ _ _ hfr.res
  have k4:wc.cell? ⟨w.heap.size,4,none⟩= some (.int .i64 0):=(by simp only[World.cell?,hfr.res];rfl)
  have j4:wc.frozen? ⟨w.heap.size,4,none⟩= false:=frozen_of_row wc _ _ _ _ hfr.res
  have k5:wc.cell? ⟨w.heap.size,5,none⟩= some (.int .i64 0):=(by simp only[World.cell?,hfr.res];rfl)
  have j5:wc.frozen? ⟨w.heap.size,5,none⟩= false:=frozen_of_row wc _ _ _ _ hfr.res
  have m0:wc.cell? ⟨w1.heap.size,0,none⟩= some (.int .i64 x.1.type):=hfr.cell 0
  have m1:wc.cell? ⟨w1.heap.size,1,none⟩= some (.int .i64 x.1.id):=hfr.cell 1
  have m2:wc.cell? ⟨w1.heap.size,2,none⟩= some (.int .i64 x.1.ofs):=hfr.cell 2
  have m3:wc.cell? ⟨w1.heap.size,3,none⟩= some (pv):=hfr.cell 3
  have m4:wc.cell? ⟨w1.heap.size,4,none⟩= some (.int .i64 x.1.en):=hfr.cell 4
  have m5:wc.cell? ⟨w1.heap.size,5,none⟩= some (.int .i64 x.1.proof):=hfr.cell 5
  have hsz:w.heap.size+1<wc.heap.size:=Nat.lt_trans hfr.ne (Array.getElem?_eq_some_iff.1 hfr.frm).1
  have hn1:w.heap.size≠wc.heap.size:=by omega
  have hn2:w.heap.size+1≠wc.heap.size:=by omega
  have hn3:=hfr.ne
  have HFr:=ab hfr
  have HPv:=ab hpv
  have HRd:=ab hrd
  have y1:=hrd.c1
  have y0:=hrd.c0
  clear hfr hpv hrd
  clear HNum HByt HUnk HS2 HFT HG
  cases hb:x.2.bad with
  |true=>
   obtain⟨a2,rfl⟩:=HRd.out.errForm hb
   have HB:=ab hb
   clear hb
   have ka0:=fun(o:Obj)=>ae k0 (af wc o)
   have ja0:∀o:Obj,(wc.alloc o).frozen? ⟨w.heap.size,0,none⟩= false:=fun o=>by rw[World.frozen?_alloc_old _ _ ⟨w.heap.size,0,none⟩ hn1];exact j0
   have ka1:=fun(o:Obj)=>ae k1 (af wc o)
   have ja1:∀o:Obj,(wc.alloc o).frozen? ⟨w.heap.size,1,none⟩= false:=fun o=>by rw[World.frozen?_alloc_old _ _ ⟨w.heap.size,1,none⟩ hn1];exact j1
   have ka2:=fun(o:Obj)=>ae k2 (af wc o)
   have ja2:∀o:Obj,(wc.alloc o).frozen? ⟨w.heap.size,2,none⟩= false:=fun o=>by rw[World.frozen?_alloc_old _ _ ⟨w.heap.size,2,none⟩ hn1];exact j2
   have ka3:=fun(o:Obj)=>ae k3 (af wc o)
   have ja3:∀o:Obj,(wc.alloc o).frozen? ⟨w.heap.size,3,none⟩= false:=fun o=>by rw[World.frozen?_alloc_old _ _ ⟨w.heap.size,3,none⟩ hn1];exact j3
   have ka4:=fun(o:Obj)=>ae k4 (af wc o)
   have ja4:∀o:Obj,(wc.alloc o).frozen? ⟨w.heap.size,4,none⟩= false:=fun o=>by rw[World.frozen?_alloc_old _ _ ⟨w.heap.size,4,none⟩ hn1];exact j4
   have ka5:=fun(o:Obj)=>ae k5 (af wc o)
   have ja5:∀o:Obj,(wc.alloc o).frozen? ⟨w.heap.size,5,none⟩= false:=fun o=>by rw[World.frozen?_alloc_old _ _ ⟨w.heap.size,5,none⟩ hn1];exact j5
   have HAl0:Below wc.heap.size wc (wc.alloc (.cells #[.string ⟨#[102,114,97,109,101]⟩,.iface 155 (.pointer (some ⟨a2,0,none⟩))] 157)):=af wc _
   have HR1:(wc.alloc (.cells #[.string ⟨#[102,114,97,109,101]⟩,.iface 155 (.pointer (some ⟨a2,0,none⟩))] 157)).heap[w.heap.size]? =some (.cells #[.int .i64 0,.int .i64 0,.int .i64 0,.slice none 0 0,.int .i64 0,.int .i64 0] 286 (0,0)):=by
    rw[HAl0.block _ (by omega)]
    exact HFr.out.res
   have HRs:Hid ((((((((wc.alloc (.cells #[.string ⟨#[102,114,97,109,101]⟩,.iface 155 (.pointer (some ⟨a2,0,none⟩))] 157)).setCell ⟨w.heap.size,0,none⟩ (.int .i64 0)).setCell ⟨w.heap.size,1,none⟩ (.int .i64 0)).setCell ⟨w.heap.size,2,none⟩ (.int .i64 0)).setCell ⟨w.heap.size,3,none⟩ (.slice none 0 0)).setCell ⟨w.heap.size,4,none⟩ (.int .i64 0)).setCell ⟨w.heap.size,5,none⟩ (.int .i64 0)).heap[w.heap.size]? =some (.cells cj 286 (0,0))):=(ak (ak (ak (ak (ak (ak HR1 0 (.int .i64 0)) 1 (.int .i64 0)) 2 (.int .i64 0)) 3 (.slice none 0 0)) 4 (.int .i64 0)) 5 (.int .i64 0))
   have HCs:Hid (Chg (· = w.heap.size) (wc.alloc (.cells #[.string ⟨#[102,114,97,109,101]⟩,.iface 155 (.pointer (some ⟨a2,0,none⟩))] 157)) (((((((wc.alloc (.cells #[.string ⟨#[102,114,97,109,101]⟩,.iface 155 (.pointer (some ⟨a2,0,none⟩))] 157)).setCell ⟨w.heap.size,0,none⟩ (.int .i64 0)).setCell ⟨w.heap.size,1,none⟩ (.int .i64 0)).setCell ⟨w.heap.size,2,none⟩ (.int .i64 0)).setCell ⟨w.heap.size,3,none⟩ (.slice none 0 0)).setCell ⟨w.heap.size,4,none⟩ (.int .i64 0)).setCell ⟨w.heap.size,5,none⟩ (.int .i64 0))):=((((((aG (cb:=w.heap.size) (Below.refl _ _) 0 (.int .i64 0)).trans (aG (cb:=w.heap.size) (Below.refl _ _) 1 (.int .i64 0))).trans (aG (cb:=w.heap.size) (Below.refl _ _) 2 (.int .i64 0))).trans (aG (cb:=w.heap.size) (Below.refl _ _) 3 (.slice none 0 0))).trans (aG (cb:=w.heap.size) (Below.refl _ _) 4 (.int .i64 0))).trans (aG (cb:=w.heap.size) (Below.refl _ _) 5 (.int .i64 0)))
   have HAl:Hid (Below wc.heap.size wc (wc.alloc (.cells #[.string ⟨#[102,114,97,109,101]⟩,.iface 155 (.pointer (some ⟨a2,0,none⟩))] 157))):=af wc _
   clear HAl0 HR1
   have HNw:Hid ((wc.alloc (.cells #[.string ⟨#[102,114,97,109,101]⟩,.iface 155 (.pointer (some ⟨a2,0,none⟩))] 157)).heap[wc.heap.size]? =some (.cells #[.string ⟨#[102,114,97,109,101]⟩,.iface 155 (.pointer (some ⟨a2,0,none⟩))] 157 (0,0))):=heap_alloc_new wc _
   have HRy0:wc.heap[w.heap.size]? =some (.cells #[.int .i64 0,.int .i64 0,.int .i64 0,.slice none 0 0,.int .i64 0,.int .i64 0] 286 (0,0)):=HFr.out.res
   have HRy:Hid (((((((wc.setCell ⟨w.heap.size,0,none⟩ (.int .i64 0)).setCell ⟨w.heap.size,1,none⟩ (.int .i64 0)).setCell ⟨w.heap.size,2,none⟩ (.int .i64 0)).setCell ⟨w.heap.size,3,none⟩ (.slice none 0 0)).setCell ⟨w.heap.size,4,none⟩ (.int .i64 0)).setCell ⟨w.heap.size,5,none⟩ (.int .i64 0)).heap[w.heap.size]? =some (.cells cj 286 (0,0))):=(ak (ak (ak (ak (ak (ak HRy0 0 (.int .i64 0)) 1 (.int .i64 0)) 2 (.int .i64 0)) 3 (.slice none 0 0)) 4 (.int .i64 0)) 5 (.int .i64 0))
   have HCy:Hid (Chg (· = w.heap.size) wc ((((((wc.setCell ⟨w.heap.size,0,none⟩ (.int .i64 0)).setCell ⟨w.heap.size,1,none⟩ (.int .i64 0)).setCell ⟨w.heap.size,2,none⟩ (.int .i64 0)).setCell ⟨w.heap.size,3,none⟩ (.slice none 0 0)).setCell ⟨w.heap.size,4,none⟩ (.int .i64 0)).setCell ⟨w.heap.size,5,none⟩ (.int .i64 0))):=((((((aG (cb:=w.heap.size) (Below.refl _ _) 0 (.int .i64 0)).trans (aG (cb:=w.heap.size) (Below.refl _ _) 1 (.int .i64 0))).trans (aG (cb:=w.heap.size) (Below.refl _ _) 2 (.int .i64 0))).trans (aG (cb:=w.heap.size) (Below.refl _ _) 3 (.slice none 0 0))).trans (aG (cb:=w.heap.size) (Below.refl _ _) 4 (.int .i64 0))).trans (aG (cb:=w.heap.size) (Below.refl _ _) 5 (.int .i64 0)))
   have HYs:Hid (((((((wc.setCell ⟨w.heap.size,0,none⟩ (.int .i64 0)).setCell ⟨w.heap.size,1,none⟩ (.int .i64 0)).setCell ⟨w.heap.size,2,none⟩ (.int .i64 0)).setCell ⟨w.heap.size,3,none⟩ (.slice none 0 0)).setCell ⟨w.heap.size,4,none⟩ (.int .i64 0)).setCell ⟨w.heap.size,5,none⟩ (.int .i64 0)).heap.size=wc.heap.size):=by
    show _=_
    simp only[World.size_setCell]
   have HYw:Hid ((((((((wc.setCell ⟨w.heap.size,0,none⟩ (.int .i64 0)).setCell ⟨w.heap.size,1,none⟩ (.int .i64 0)).setCell ⟨w.heap.size,2,none⟩ (.int .i64 0)).setCell ⟨w.heap.size,3,none⟩ (.slice none 0 0)).setCell ⟨w.heap.size,4,none⟩ (.int .i64 0)).setCell ⟨w.heap.size,5,none⟩ (.int .i64 0)).alloc (.cells #[.string ⟨#[102,114,97,109,101]⟩,.iface 155 (.pointer (some ⟨a2,0,none⟩))] 157)).heap[wc.heap.size]? =some (.cells #[.string ⟨#[102,114,97,109,101]⟩,.iface 155 (.pointer (some ⟨a2,0,none⟩))] 157 (0,0))):=by
    show _=_
    have:=heap_alloc_new ((((((wc.setCell ⟨w.heap.size,0,none⟩ (.int .i64 0)).setCell ⟨w.heap.size,1,none⟩ (.int .i64 0)).setCell ⟨w.heap.size,2,none⟩ (.int .i64 0)).setCell ⟨w.heap.size,3,none⟩ (.slice none 0 0)).setCell ⟨w.heap.size,4,none⟩ (.int .i64 0)).setCell ⟨w.heap.size,5,none⟩ (.int .i64 0)) (.cells #[.string ⟨#[102,114,97,109,101]⟩,.iface 155 (.pointer (some ⟨a2,0,none⟩))] 157)
    rw[HYs.out]at this
    exact this
   have HYr:Hid ((((((((wc.setCell ⟨w.heap.size,0,none⟩ (.int .i64 0)).setCell ⟨w.heap.size,1,none⟩ (.int .i64 0)).setCell ⟨w.heap.size,2,none⟩ (.int .i64 0)).setCell ⟨w.heap.size,3,none⟩ (.slice none 0 0)).setCell ⟨w.heap.size,4,none⟩ (.int .i64 0)).setCell ⟨w.heap.size,5,none⟩ (.int .i64 0)).alloc (.cells #[.string ⟨#[102,114,97,109,101]⟩,.iface 155 (.pointer (some ⟨a2,0,none⟩))] 157)).heap[w.heap.size]? =some (.cells cj 286 (0,0))):=by
    show _=_
    rw[Below.heap_alloc _ _ _ (by rw[HYs.out];omega)]
    exact HRy.out
   clear HRy0
   clear m0 m1 m2 m3 m4 m5 y0
   go_wp2_with fail
   go_region
   all_goals go_wp2_with fail
   ·refine bodyPost_ret (v:=(.tuple #[.agg cj,.int .i64 0,.iface 155 (.pointer (some ⟨wc.heap.size,0,none⟩))])) ?g1 rfl ?g3
    case g1=>
     refine bM (P:=Tryz.prog) Tryz.results181 _ _ w.heap.size 286 _ (0,0) _ _ _ (by kernel_rfl) (by kernel_rfl) (by kernel_rfl) ?gd Tryz.underlying286 rfl (by kernel_rfl)
     rw[heap_drew]
     exact HRs.out
    obtain⟨k,hk,hn⟩:=HRd.out.no HB.out
    refine FrmOut.drew ⟨cn (ag HFr.out.bel HAl.out) HCs.out (Nat.le_refl _),fun _=>⟨k+1,_,rfl,by omega,?_⟩,fun h=>by rw[HB.out]at h;cases h⟩
    have hF:∀q cur fr,(wc.alloc (.cells #[.string ⟨#[102,114,97,109,101]⟩,.iface 155 (.pointer (some ⟨a2,0,none⟩))] 157)).heap[q]? =some (.cells cur 157 fr)->¬q=w.heap.size:=by
     intro q cur fr hq e
     subst e
     rw[HAl.out.block _ (by omega),HFr.out.res]at hq
     simp only[Option.some.injEq,Obj.cells.injEq]at hq
     exact absurd hq.2.1 (by decide)
    exact NErr.chg HCs.out hF (k:=k+1) ⟨wc.heap.size,_,_,rfl,HNw.out,hn.below HAl.out⟩
   ·refine bodyPost_ret (v:=(.tuple #[.agg cj,.int .i64 0,.iface 155 (.pointer (some ⟨wc.heap.size,0,none⟩))])) ?q1 rfl ?q3
    case q1=>
     refine bM (P:=Tryz.prog) Tryz.results181 _ _ w.heap.size 286 _ (0,0) _ _ _ (by kernel_rfl) (by kernel_rfl) (by kernel_rfl) ?qd Tryz.underlying286 rfl (by kernel_rfl)
     rw[heap_drew]
     exact HYr.out
    obtain⟨k,hk,hn⟩:=HRd.out.no HB.out
    refine FrmOut.drew ⟨ag (cn HFr.out.bel HCy.out (Nat.le_refl _)) (af _ _),fun _=>⟨k+1,_,rfl,by omega,?_⟩,fun h=>by rw[HB.out]at h;cases h⟩
    refine⟨wc.heap.size,_,_,rfl,HYw.out,(hn.chg HCy.out fun q cur fr hq e=>?_).below (af _ _)⟩
    subst e
    rw[HFr.out.res]at hq
    simp only[Option.some.injEq,Obj.cells.injEq]at hq
    exact absurd hq.2.1 (by decide)
  |false=>
   have hev:=HRd.out.ok hb
   subst hev
   have HB:=ab hb
   clear hb
   obtain⟨_,hrl,ra,rc,rfl,_⟩:=id HRd.out.rd
   have hw1:IntKind.i64.wrap ((bl:Int)-(x.2.rest.length:Int))=(bl:Int)-(x.2.rest.length:Int):=by
    have:=HBl.out
    rw[IntKind.wrap_i64]
    omega
   obtain⟨_,_,pa,pc,rfl,_⟩:=id HPv.out
   have HRs:Hid (((((((wc.setCell ⟨w.heap.size,0,none⟩ (.int .i64 x.1.type)).setCell ⟨w.heap.size,1,none⟩ (.int .i64 x.1.id)).setCell ⟨w.heap.size,2,none⟩ (.int .i64 x.1.ofs)).setCell ⟨w.heap.size,3,none⟩ (.slice pa x.1.bytes.length pc)).setCell ⟨w.heap.size,4,none⟩ (.int .i64 x.1.en)).setCell ⟨w.heap.size,5,none⟩ (.int .i64 x.1.proof)).heap[w.heap.size]? =some (.cells (frmC x.1 (.slice pa x.1.bytes.length pc)) 286 (0,0))):=(ak (ak (ak (ak (ak (ak HFr.out.res 0 (.int .i64 x.1.type)) 1 (.int .i64 x.1.id)) 2 (.int .i64 x.1.ofs)) 3 (.slice pa x.1.bytes.length pc)) 4 (.int .i64 x.1.en)) 5 (.int .i64 x.1.proof))
   have HCs:Hid (Chg (· = w.heap.size) wc ((((((wc.setCell ⟨w.heap.size,0,none⟩ (.int .i64 x.1.type)).setCell ⟨w.heap.size,1,none⟩ (.int .i64 x.1.id)).setCell ⟨w.heap.size,2,none⟩ (.int .i64 x.1.ofs)).setCell ⟨w.heap.size,3,none⟩ (.slice pa x.1.bytes.length pc)).setCell ⟨w.heap.size,4,none⟩ (.int .i64 x.1.en)).setCell ⟨w.heap.size,5,none⟩ (.int .i64 x.1.proof))):=((((((aG (cb:=w.heap.size) (Below.refl _ _) 0 (.int .i64 x.1.type)).trans (aG (cb:=w.heap.size) (Below.refl _ _) 1 (.int .i64 x.1.id))).trans (aG (cb:=w.heap.size) (Below.refl _ _) 2 (.int .i64 x.1.ofs))).trans (aG (cb:=w.heap.size) (Below.refl _ _) 3 (.slice pa x.1.bytes.length pc))).trans (aG (cb:=w.heap.size) (Below.refl _ _) 4 (.int .i64 x.1.en))).trans (aG (cb:=w.heap.size) (Below.refl _ _) 5 (.int .i64 x.1.proof)))
   go_wp2_with fail
   go_region
   go_wp2_with fail
   refine bodyPost_ret (v:=(.tuple #[.agg (frmC x.1 (.slice pa x.1.bytes.length pc)),.int .i64 ((bl:Int)-(x.2.rest.length:Int)),.nilIface])) ?h1 rfl ?h3
   case h1=>
    refine bM (P:=Tryz.prog) Tryz.results181 _ _ w.heap.size 286 _ (0,0) _ _ _ (by kernel_rfl) (by kernel_rfl) (by kernel_rfl) ?d Tryz.underlying286 rfl (by kernel_rfl)
    rw[heap_drew]
    exact HRs.out
   refine FrmOut.drew ⟨cn HFr.out.bel HCs.out (Nat.le_refl _),fun h=>(by rw[HB.out]at h;cases h),fun _=>⟨_,by rw[HBl.out],?_⟩⟩
   refine HPv.out.chg HCs.out fun q cur fr hq e=>?_
   subst e
   rw[HFr.out.res]at hq
   simp only[Option.some.injEq,Obj.cells.injEq]at hq
   exact absurd hq.2.1 (by decide)
end Go.Proofs.YthmdjhlhodpbhaaGreatDoor
