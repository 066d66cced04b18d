/- Apart, 16 -/
import Derived.Laws.BytesArg
import Derived.LaidEql
import Derived.Deep.RegionLaw
import Derived.Test.YthmdjhlhodpbhaaGreatDoorA03
import Derived.Test.YthmdjhlhodpbhaaGreatDoorA07
import Derived.Test.YthmdjhlhodpbhaaGreatDoorA15
set_option maxHeartbeats 16000000
set_option maxRecDepth 8000
namespace Go.Proofs.YthmdjhlhodpbhaaGreatDoor
open Go.RowKit
def dgC(d:DgS)(size:Int)(tv fv:Value):Array Value:=#[.int .i64 d.kind,.int .i64 size,.int .i64 d.cid,tv,.int .i64 d.num,fv]
def dD:Array Value:=#[.int .i64 0,.int .i64 0,.int .i64 0,.slice none 0 0,.int .i64 0,.slice none 0 0]
structure DgOut [LoM] (w:World)(b:List Int)(x:DgS×Rd)(e:Ending)(w':World):Prop where
 bel:Below w.heap.size w w'
 bad:x.2.bad=true->∃k c,e=.returned (.tuple #[.agg dD,c])/\(k=2\/k=3)/\NErr w' k c
 ok:x.2.bad=false->∃tv fv,e=.returned (.tuple #[.agg (dgC x.1 b.length tv fv),.nilIface])/\RdB w' tv x.1.tok/\RdB w' fv x.1.frames
theorem DgOut.drew [LoM] {w:World}{b:List Int}{x:DgS×Rd}{e:Ending}{W:World}(h:DgOut w b x e W):DgOut w b x e W.drew where
 bel:=ak h.bel 1
 bad:=fun hb=>by obtain⟨k,c,e1,hk,hn⟩:=h.bad hb;exact⟨k,c,e1,hk,hn.below (ak (Below.refl _ W) 1)⟩
 ok:=fun hb=>by obtain⟨tv,fv,e1,h1,h2⟩:=h.ok hb;exact⟨tv,fv,e1,h1.below (ak (Below.refl _ W) 1),h2.below (ak (Below.refl _ W) 1)⟩
def nw(t:Int)(r0:Rd):DgS×Rd:=
 if t=1 then(⟨t,r0.num.1,(r0.num.2.num.2.byt r0.num.2.num.1).1,0,(r0.num.2.num.2.byt r0.num.2.num.1).2.rest⟩,(r0.num.2.num.2.byt r0.num.2.num.1).2)
 else if t=2 then(⟨t,r0.num.1,[],r0.num.2.num.1,r0.num.2.num.2.rest⟩,r0.num.2.num.2)
 else(⟨t,0,[],0,r0.rest⟩,r0.fail)
theorem uE(b:List Int):jf b=nw (Rd.kind ⟨b,false⟩).1 (Rd.kind ⟨b,false⟩).2:=rfl
theorem uF(t:Int)(r0:Rd):(nw t r0).2.rest=(nw t r0).1.frames:=by
 unfold nw
 split
 ·rfl
 ·split<;>rfl
theorem kind_range{b:List Int}(hb:Bytes b):(0<=(Rd.kind ⟨b,false⟩).1/\(Rd.kind ⟨b,false⟩).1<256)/\Bytes (Rd.kind ⟨b,false⟩).2.rest:=by
 by_cases hp:0<b.length
 ·rw[jz hp]
  exact⟨cU hb 0,hb.drop 1⟩
 ·have h0:b=[]:=List.length_eq_zero_iff.1 (by omega)
  subst h0
  have hk:Rd.kind ⟨[],false⟩=(0,⟨[],true⟩):=by simp[Rd.kind,Rd.byt]
  rw[hk]
  exact⟨by simp,hb⟩
theorem nh [LoM] (b:List Int)(bv:Value)(w:World)(he:Env w)(h:RdB w bv b):
  Calls Tryz.prog 45 #[bv] w fun e w'=>DgOut w b (jf b) e w':=by
 obtain⟨_,_,ao,cap,rfl,_⟩:=id h
 obtain⟨bl,hbl⟩:∃bl,b.length=bl:=⟨_,rfl⟩
 have HBl:=ab hbl
 have HLo:=ab he.lo
 have hEn:∀W:World,Below w.heap.size w W->Env W:=fun W hW=>he.below hW
 have hb2:Below w.heap.size w ((w.alloc (.cells dD 107)).alloc (.cells #[.slice ao b.length cap,.nilIface] 151)):=(ag w _).alloc (by simp) _
 have HK:=ab (sB (w.heap.size+1) (.slice ao b.length cap) .nilIface ⟨b,false⟩ ⟨#[107,105,110,100]⟩ _ (hEn _ hb2) ⟨heap_alloc2_new w _ _,h.below hb2,(by have:=he.lo;omega),fun _=>rfl,fun h=>(by cases h)⟩)
 obtain⟨hty,hb0⟩:=kind_range h.1
 have HNum:Hid (∀(W:World) (fb:Nat) (r:Rd) (fc:Array Value) (s:ByteArray),FrAt 107 dD w fb r fc W->Calls Tryz.prog 84 #[.pointer (some ⟨w.heap.size+1,0,none⟩),.string s] W fun e w'=>e=.returned (.int .i64 r.num.1)/\FrAt 107 dD w fb r.num.2 fc w'):=by
  intro W fb r fc s hW
  obtain⟨rv,ev,h1⟩:=hW.rd
  refine(oy _ rv ev r s W (hEn W hW.bel) h1).mono ?_
  rintro e w' ⟨rfl,ho⟩
  exact⟨rfl,hW.step ho⟩
 have HByt:Hid (∀(W:World) (fb:Nat) (r:Rd) (fc:Array Value) (s:ByteArray) (c:Int),FrAt 107 dD w fb r fc W->0<=c/\c<=1073741823->Calls Tryz.prog 85 #[.pointer (some ⟨w.heap.size+1,0,none⟩),.string s,.int .i64 c] W fun e w'=>(∃bv,e=.returned bv/\RdB w' bv (r.byt c).1)/\FrAt 107 dD w fb (r.byt c).2 fc w'):=by
  intro W fb r fc s c hW hc
  obtain⟨rv,ev,h1⟩:=hW.rd
  refine(mc _ rv ev r s c W (hEn W hW.bel) h1 hc.1 hc.2).mono ?_
  rintro e w' ⟨h2,ho⟩
  exact⟨h2,hW.step ho⟩
 have HUnk:Hid (∀(W:World) (fb:Nat) (r:Rd) (fc:Array Value) (s:ByteArray) (c:Int),FrAt 107 dD w fb r fc W->0<=c/\c<=1073741823->Calls Tryz.prog 86 #[.pointer (some ⟨w.heap.size+1,0,none⟩),.string s,.int .i64 c] W fun e w'=>e=.returned (.tuple #[])/\FrAt 107 dD w fb r.fail fc w'):=by
  intro W fb r fc s c hW hc
  obtain⟨rv,ev,h1⟩:=hW.rd
  refine(ni _ rv ev r s c W (hEn W hW.bel) h1 hc.1 (by omega)).mono ?_
  rintro e w' ⟨rfl,ho⟩
  exact⟨rfl,hW.step ho⟩
 have HFT:=ab (uE b)
 have HRs0:Hid ((jf b).2.rest=(jf b).1.frames):=by
  show _=_
  rw[uE]
  exact uF _ _
 have HR0:Hid (((w.alloc (.cells dD 107)).alloc (.cells #[.slice ao b.length cap,.nilIface] 151)).heap[w.heap.size]? =some (.cells dD 107 (0,0))):=heap_alloc2_old w _ _
 have HB2:=ab hb2
 rw[hbl]at HK HR0 HB2⊢
 obtain⟨x,hx⟩:∃x,jf b=x:=⟨_,rfl⟩
 rw[hx]at HFT HRs0⊢
 clear h he hb2 hbl hx hEn
 generalize (Rd.kind ⟨b,false⟩).1=t at HK HFT hty
 generalize (Rd.kind ⟨b,false⟩).2=r0 at HK HFT hb0
 have hb1:=pH hb0
 have g1:=jB hb0
 have g2:=jB hb1
 have HG:=ab (And.intro g1 g2)
 clear g1 g2 hb0 hb1
 unfold dD at HK HR0 HB2
 go_enter Tryz.func45,Tryz.ntmps45
 go_wp2_with fail
 refine HK.out.mono ?_
 rintro e w1 ⟨rfl,rv1,ev1,h1,hc1⟩
 have HS2:Hid (FrAt 107 dD w w1.heap.size r0 #[.int .i64 t,.int .i64 bl,.int .i64 0,.slice none 0 0,.int .i64 0,.slice none 0 0] (w1.alloc (.cells #[.int .i64 t,.int .i64 bl,.int .i64 0,.slice none 0 0,.int .i64 0,.slice none 0 0] 107))):=by
  have hsz:w.heap.size+1<w1.heap.size:=by have:=hc1.size;simp at this;omega
  refine⟨ai (cw HB2.out hc1 (by omega)) (ag _ _),?_,⟨rv1,ev1,h1.below (ag _ _)⟩,heap_alloc_new w1 _,hsz⟩
  rw[Below.heap_alloc _ _ _ (by omega),hc1.block _ (by simp;omega) (show w.heap.size≠w.heap.size+1 from by omega)]
  exact HR0.out
 clear h1 hc1 HK HR0 HB2
 go_upto_block 0 with fail
 go_cut [5] from 12 to 29 (fun s5 wx=>s5=.pointer (some ⟨w1.heap.size,0,none⟩)/\∃tv,FrAt 107 dD w w1.heap.size x.2 (dgC x.1 bl tv (.slice none 0 0)) wx/\RdB wx tv x.1.tok)
 case first=>
  by_cases t1:t=1
  ·subst t1
   go_wp2_with fail
   refine(HNum.out _ _ _ _ _ HS2.out).mono ?_
   rintro e w2 ⟨rfl,h2⟩
   have x2:w2.cell? ⟨w1.heap.size,2,none⟩= some (.int .i64 0):=h2.cell 2
   have z2:=h2.free 2
   have H2:=ab (h2.setF (by decide) (by decide) 2 (.int .i64 r0.num.1))
   clear h2
   go_wp2_with fail
   refine(HNum.out _ _ _ _ _ H2.out).mono ?_
   rintro e w3 ⟨rfl,h3⟩
   have H3:=ab h3
   clear h3
   go_wp2_with fail
   refine(HByt.out _ _ _ _ _ _ H3.out HG.out.2).mono ?_
   rintro e w4 ⟨⟨pv,rfl,hpv⟩,h4⟩
   have x4:w4.cell? ⟨w1.heap.size,3,none⟩= some (.slice none 0 0):=h4.cell 3
   have z4:=h4.free 3
   obtain⟨_,hpl,pa,pc,rfl,_⟩:=id hpv
   have H4:=ab (h4.setF (by decide) (by decide) 3 (.slice pa (r0.num.2.num.2.byt r0.num.2.num.1).1.length pc))
   have HPv:=ab (hpv.chg (aI (cb:=w1.heap.size) (Below.refl _ w4) 3 (.slice pa (r0.num.2.num.2.byt r0.num.2.num.1).1.length pc)) (fun k cur fr hk e=>by subst e;rw[h4.frm]at hk;simp only[Option.some.injEq,Obj.cells.injEq]at hk;exact absurd hk.2.1 (by decide)) (fun k e=>by have:=h4.ne;have:=HLo.out;omega))
   clear hpv h4
   go_wp2_with fail
   go_meet
   refine⟨rfl,.slice pa (r0.num.2.num.2.byt r0.num.2.num.1).1.length pc,?_,?_⟩
   ·rw[HFT.out];exact H4.out
   ·rw[HFT.out];exact HPv.out
  by_cases t2:t=2
  ·subst t2
   go_wp2_with fail
   refine(HNum.out _ _ _ _ _ HS2.out).mono ?_
   rintro e w2 ⟨rfl,h2⟩
   have x2:w2.cell? ⟨w1.heap.size,2,none⟩= some (.int .i64 0):=h2.cell 2
   have z2:=h2.free 2
   have H2:=ab (h2.setF (by decide) (by decide) 2 (.int .i64 r0.num.1))
   clear h2
   go_wp2_with fail
   refine(HNum.out _ _ _ _ _ H2.out).mono ?_
   rintro e w3 ⟨rfl,h3⟩
   have x3:w3.cell? ⟨w1.heap.size,4,none⟩= some (.int .i64 0):=h3.cell 4
   have z3:=h3.free 4
   have H3:=ab (h3.setF (by decide) (by decide) 4 (.int .i64 r0.num.2.num.1))
   clear h3
   go_wp2_with fail
   go_meet
   refine⟨rfl,.slice none 0 0,?_,?_⟩
   ·rw[HFT.out];exact H3.out
   ·rw[HFT.out];exact RdB.nil _
  have HT8:Hid (nw t r0=(⟨t,0,[],0,r0.rest⟩,r0.fail)):=by
   show _=_
   unfold nw
   rw[if_neg t1,if_neg t2]
  have b1:(t==1)=false:=beq_eq_false_iff_ne.2 t1
  have b2:(t==2)=false:=beq_eq_false_iff_ne.2 t2
  clear t1 t2
  go_wp2_with fail
  refine(HUnk.out _ _ _ _ _ _ HS2.out (by omega)).mono ?_
  rintro e w2 ⟨rfl,h2⟩
  have H2:=ab h2
  clear h2
  go_wp2_with fail
  go_meet
  refine⟨rfl,.slice none 0 0,?_,?_⟩
  ·rw[HFT.out,HT8.out];exact H2.out
  ·rw[HFT.out,HT8.out];exact RdB.nil _
 case rest=>
  obtain⟨rfl,tv,hfr,hpv⟩:=hcut
  obtain⟨rv2,ev2,hrd⟩:=hfr.rd
  have k0:wc.cell? ⟨w.heap.size,0,none⟩= some (.int .i64 0):=(by simp only[World.cell?,hfr.res];rfl)
  have j0:wc.frozen? ⟨w.heap.size,0,none⟩= false:=frozen_of_row wc _ _ _ _ hfr.res
  have k1:wc.cell? ⟨w.heap.size,1,none⟩= some (.int .i64 0):=(by simp only[World.cell?,hfr.res];rfl)
  have j1:wc.frozen? ⟨w.heap.size,1,none⟩= false:=frozen_of_row wc _ _ _ _ hfr.res
  have k2:wc.cell? ⟨w.heap.size,2,none⟩= some (.int .i64 0):=(by simp only[World.cell?,hfr.res];rfl)
  have j2:wc.frozen? ⟨w.heap.size,2,none⟩= false:=frozen_of_row wc _ _ _ _ hfr.res
  have k3:wc.cell? ⟨w.heap.size,3,none⟩= some (.slice none 0 0):=(by simp only[World.cell?,hfr.res];rfl)
  have j3:wc.frozen? ⟨w.heap.size,3,none⟩= false:=frozen_of_row wc _ _ _ _ hfr.res
  have k4:wc.cell? ⟨w.heap.size,4,none⟩= some (.int .i64 0):=(by simp only[World.cell?,hfr.res];rfl)
  have j4:wc.frozen? ⟨w.heap.size,4,none⟩= false:=frozen_of_row wc _ _ _ _ hfr.res
  have k5:wc.cell? ⟨w.heap.size,5,none⟩= some (.slice none 0 0):=(by simp only[World.cell?,hfr.res];rfl)
  have j5:wc.frozen? ⟨w.heap.size,5,none⟩= false:=frozen_of_row wc _ _ _ _ hfr.res
  have hsz:w.heap.size+1<wc.heap.size:=Nat.lt_trans hfr.ne (aLt hfr.frm)
  have hn1:w.heap.size≠wc.heap.size:=by omega
  have hn2:w.heap.size+1≠wc.heap.size:=by omega
  have hn3:=hfr.ne
  have HFr:=ab hfr
  have HPv:=ab hpv
  have HRd:=ab hrd
  have y1:=hrd.c1
  have y0:=hrd.c0
  clear hfr hpv hrd
  clear HNum HByt HUnk HS2 HFT HG
  cases hb:x.2.bad with
  |true=>
   obtain⟨a2,rfl⟩:=HRd.out.errForm hb
   have HB:=ab hb
   clear hb
   have ka0:=fun(o:Obj)=>ae k0 (ag wc o)
   have ja0:∀o:Obj,(wc.alloc o).frozen? ⟨w.heap.size,0,none⟩= false:=fun o=>by rw[World.frozen?_alloc_old _ _ ⟨w.heap.size,0,none⟩ hn1];exact j0
   have ka1:=fun(o:Obj)=>ae k1 (ag wc o)
   have ja1:∀o:Obj,(wc.alloc o).frozen? ⟨w.heap.size,1,none⟩= false:=fun o=>by rw[World.frozen?_alloc_old _ _ ⟨w.heap.size,1,none⟩ hn1];exact j1
   have ka2:=fun(o:Obj)=>ae k2 (ag wc o)
   have ja2:∀o:Obj,(wc.alloc o).frozen? ⟨w.heap.size,2,none⟩= false:=fun o=>by rw[World.frozen?_alloc_old _ _ ⟨w.heap.size,2,none⟩ hn1];exact j2
   have ka3:=fun(o:Obj)=>ae k3 (ag wc o)
   have ja3:∀o:Obj,(wc.alloc o).frozen? ⟨w.heap.size,3,none⟩= false:=fun o=>by rw[World.frozen?_alloc_old _ _ ⟨w.heap.size,3,none⟩ hn1];exact j3
   have ka4:=fun(o:Obj)=>ae k4 (ag wc o)
   have ja4:∀o:Obj,(wc.alloc o).frozen? ⟨w.heap.size,4,none⟩= false:=fun o=>by rw[World.frozen?_alloc_old _ _ ⟨w.heap.size,4,none⟩ hn1];exact j4
   have ka5:=fun(o:Obj)=>ae k5 (ag wc o)
   have ja5:∀o:Obj,(wc.alloc o).frozen? ⟨w.heap.size,5,none⟩= false:=fun o=>by rw[World.frozen?_alloc_old _ _ ⟨w.heap.size,5,none⟩ hn1];exact j5
   have HAl0:Below wc.heap.size wc (wc.alloc (.cells #[.string ⟨#[100,97,116,97,103,114,97,109]⟩,.iface 155 (.pointer (some ⟨a2,0,none⟩))] 157)):=ag wc _
   have HR1:(wc.alloc (.cells #[.string ⟨#[100,97,116,97,103,114,97,109]⟩,.iface 155 (.pointer (some ⟨a2,0,none⟩))] 157)).heap[w.heap.size]? =some (.cells #[.int .i64 0,.int .i64 0,.int .i64 0,.slice none 0 0,.int .i64 0,.slice none 0 0] 107 (0,0)):=by
    rw[HAl0.block _ (by omega)]
    exact HFr.out.res
   have HRs:Hid ((((((((wc.alloc (.cells #[.string ⟨#[100,97,116,97,103,114,97,109]⟩,.iface 155 (.pointer (some ⟨a2,0,none⟩))] 157)).setCell ⟨w.heap.size,0,none⟩ (.int .i64 0)).setCell ⟨w.heap.size,1,none⟩ (.int .i64 0)).setCell ⟨w.heap.size,2,none⟩ (.int .i64 0)).setCell ⟨w.heap.size,3,none⟩ (.slice none 0 0)).setCell ⟨w.heap.size,4,none⟩ (.int .i64 0)).setCell ⟨w.heap.size,5,none⟩ (.slice none 0 0)).heap[w.heap.size]? =some (.cells dD 107 (0,0))):=(al (al (al (al (al (al HR1 0 (.int .i64 0)) 1 (.int .i64 0)) 2 (.int .i64 0)) 3 (.slice none 0 0)) 4 (.int .i64 0)) 5 (.slice none 0 0))
   have HCs:Hid (Chg (· = w.heap.size) (wc.alloc (.cells #[.string ⟨#[100,97,116,97,103,114,97,109]⟩,.iface 155 (.pointer (some ⟨a2,0,none⟩))] 157)) (((((((wc.alloc (.cells #[.string ⟨#[100,97,116,97,103,114,97,109]⟩,.iface 155 (.pointer (some ⟨a2,0,none⟩))] 157)).setCell ⟨w.heap.size,0,none⟩ (.int .i64 0)).setCell ⟨w.heap.size,1,none⟩ (.int .i64 0)).setCell ⟨w.heap.size,2,none⟩ (.int .i64 0)).setCell ⟨w.heap.size,3,none⟩ (.slice none 0 0)).setCell ⟨w.heap.size,4,none⟩ (.int .i64 0)).setCell ⟨w.heap.size,5,none⟩ (.slice none 0 0))):=((((((aI (cb:=w.heap.size) (Below.refl _ _) 0 (.int .i64 0)).trans (aI (cb:=w.heap.size) (Below.refl _ _) 1 (.int .i64 0))).trans (aI (cb:=w.heap.size) (Below.refl _ _) 2 (.int .i64 0))).trans (aI (cb:=w.heap.size) (Below.refl _ _) 3 (.slice none 0 0))).trans (aI (cb:=w.heap.size) (Below.refl _ _) 4 (.int .i64 0))).trans (aI (cb:=w.heap.size) (Below.refl _ _) 5 (.slice none 0 0)))
   have HAl:Hid (Below wc.heap.size wc (wc.alloc (.cells #[.string ⟨#[100,97,116,97,103,114,97,109]⟩,.iface 155 (.pointer (some ⟨a2,0,none⟩))] 157))):=ag wc _
   clear HAl0 HR1
   have HNw:Hid ((wc.alloc (.cells #[.string ⟨#[100,97,116,97,103,114,97,109]⟩,.iface 155 (.pointer (some ⟨a2,0,none⟩))] 157)).heap[wc.heap.size]? =some (.cells #[.string ⟨#[100,97,116,97,103,114,97,109]⟩,.iface 155 (.pointer (some ⟨a2,0,none⟩))] 157 (0,0))):=heap_alloc_new wc _
   have HRy0:wc.heap[w.heap.size]? =some (.cells #[.int .i64 0,.int .i64 0,.int .i64 0,.slice none 0 0,.int .i64 0,.slice none 0 0] 107 (0,0)):=HFr.out.res
   have HRy:Hid (((((((wc.setCell ⟨w.heap.size,0,none⟩ (.int .i64 0)).setCell ⟨w.heap.size,1,none⟩ (.int .i64 0)).setCell ⟨w.heap.size,2,none⟩ (.int .i64 0)).setCell ⟨w.heap.size,3,none⟩ (.slice none 0 0)).setCell ⟨w.heap.size,4,none⟩ (.int .i64 0)).setCell ⟨w.heap.size,5,none⟩ (.slice none 0 0)).heap[w.heap.size]? =some (.cells dD 107 (0,0))):=(al (al (al (al (al (al HRy0 0 (.int .i64 0)) 1 (.int .i64 0)) 2 (.int .i64 0)) 3 (.slice none 0 0)) 4 (.int .i64 0)) 5 (.slice none 0 0))
   have HCy:Hid (Chg (· = w.heap.size) wc ((((((wc.setCell ⟨w.heap.size,0,none⟩ (.int .i64 0)).setCell ⟨w.heap.size,1,none⟩ (.int .i64 0)).setCell ⟨w.heap.size,2,none⟩ (.int .i64 0)).setCell ⟨w.heap.size,3,none⟩ (.slice none 0 0)).setCell ⟨w.heap.size,4,none⟩ (.int .i64 0)).setCell ⟨w.heap.size,5,none⟩ (.slice none 0 0))):=((((((aI (cb:=w.heap.size) (Below.refl _ _) 0 (.int .i64 0)).trans (aI (cb:=w.heap.size) (Below.refl _ _) 1 (.int .i64 0))).trans (aI (cb:=w.heap.size) (Below.refl _ _) 2 (.int .i64 0))).trans (aI (cb:=w.heap.size) (Below.refl _ _) 3 (.slice none 0 0))).trans (aI (cb:=w.heap.size) (Below.refl _ _) 4 (.int .i64 0))).trans (aI (cb:=w.heap.size) (Below.refl _ _) 5 (.slice none 0 0)))
   have HYs:Hid (((((((wc.setCell ⟨w.heap.size,0,none⟩ (.int .i64 0)).setCell ⟨w.heap.size,1,none⟩ (.int .i64 0)).setCell ⟨w.heap.size,2,none⟩ (.int .i64 0)).setCell ⟨w.heap.size,3,none⟩ (.slice none 0 0)).setCell ⟨w.heap.size,4,none⟩ (.int .i64 0)).setCell ⟨w.heap.size,5,none⟩ (.slice none 0 0)).heap.size=wc.heap.size):=by
    show _=_
    simp only[World.size_setCell]
   have HYw:Hid ((((((((wc.setCell ⟨w.heap.size,0,none⟩ (.int .i64 0)).setCell ⟨w.heap.size,1,none⟩ (.int .i64 0)).setCell ⟨w.heap.size,2,none⟩ (.int .i64 0)).setCell ⟨w.heap.size,3,none⟩ (.slice none 0 0)).setCell ⟨w.heap.size,4,none⟩ (.int .i64 0)).setCell ⟨w.heap.size,5,none⟩ (.slice none 0 0)).alloc (.cells #[.string ⟨#[100,97,116,97,103,114,97,109]⟩,.iface 155 (.pointer (some ⟨a2,0,none⟩))] 157)).heap[wc.heap.size]? =some (.cells #[.string ⟨#[100,97,116,97,103,114,97,109]⟩,.iface 155 (.pointer (some ⟨a2,0,none⟩))] 157 (0,0))):=by
    show _=_
    have:=heap_alloc_new ((((((wc.setCell ⟨w.heap.size,0,none⟩ (.int .i64 0)).setCell ⟨w.heap.size,1,none⟩ (.int .i64 0)).setCell ⟨w.heap.size,2,none⟩ (.int .i64 0)).setCell ⟨w.heap.size,3,none⟩ (.slice none 0 0)).setCell ⟨w.heap.size,4,none⟩ (.int .i64 0)).setCell ⟨w.heap.size,5,none⟩ (.slice none 0 0)) (.cells #[.string ⟨#[100,97,116,97,103,114,97,109]⟩,.iface 155 (.pointer (some ⟨a2,0,none⟩))] 157)
    rw[HYs.out]at this
    exact this
   have HYr:Hid ((((((((wc.setCell ⟨w.heap.size,0,none⟩ (.int .i64 0)).setCell ⟨w.heap.size,1,none⟩ (.int .i64 0)).setCell ⟨w.heap.size,2,none⟩ (.int .i64 0)).setCell ⟨w.heap.size,3,none⟩ (.slice none 0 0)).setCell ⟨w.heap.size,4,none⟩ (.int .i64 0)).setCell ⟨w.heap.size,5,none⟩ (.slice none 0 0)).alloc (.cells #[.string ⟨#[100,97,116,97,103,114,97,109]⟩,.iface 155 (.pointer (some ⟨a2,0,none⟩))] 157)).heap[w.heap.size]? =some (.cells dD 107 (0,0))):=by
    show _=_
    rw[Below.heap_alloc _ _ _ (by rw[HYs.out];omega)]
    exact HRy.out
   clear HRy0 y0
   go_wp2_with fail
   go_region
   all_goals go_wp2_with fail
   ·refine bodyPost_ret (v:=(.tuple #[.agg dD,.iface 155 (.pointer (some ⟨wc.heap.size,0,none⟩))])) ?g1 rfl ?g3
    case g1=>
     refine bD (P:=Tryz.prog) Tryz.results45 _ _ w.heap.size 107 _ (0,0) _ _ (by kernel_rfl) (by kernel_rfl) ?gd Tryz.underlying107 rfl (by kernel_rfl)
     rw[heap_drew]
     exact HRs.out
    obtain⟨k,hk,hn⟩:=HRd.out.no HB.out
    refine DgOut.drew ⟨cw (ai HFr.out.bel HAl.out) HCs.out (Nat.le_refl _),fun _=>⟨k+1,_,rfl,by omega,?_⟩,fun h=>by rw[HB.out]at h;cases h⟩
    have hF:∀q cur fr,(wc.alloc (.cells #[.string ⟨#[100,97,116,97,103,114,97,109]⟩,.iface 155 (.pointer (some ⟨a2,0,none⟩))] 157)).heap[q]? =some (.cells cur 157 fr)->¬q=w.heap.size:=by
     intro q cur fr hq e
     subst e
     rw[HAl.out.block _ (by omega),HFr.out.res]at hq
     simp only[Option.some.injEq,Obj.cells.injEq]at hq
     exact absurd hq.2.1 (by decide)
    exact NErr.chg HCs.out hF (k:=k+1) ⟨wc.heap.size,_,_,rfl,HNw.out,hn.below HAl.out⟩
   ·refine bodyPost_ret (v:=(.tuple #[.agg dD,.iface 155 (.pointer (some ⟨wc.heap.size,0,none⟩))])) ?q1 rfl ?q3
    case q1=>
     refine bD (P:=Tryz.prog) Tryz.results45 _ _ w.heap.size 107 _ (0,0) _ _ (by kernel_rfl) (by kernel_rfl) ?qd Tryz.underlying107 rfl (by kernel_rfl)
     rw[heap_drew]
     exact HYr.out
    obtain⟨k,hk,hn⟩:=HRd.out.no HB.out
    refine DgOut.drew ⟨ai (cw HFr.out.bel HCy.out (Nat.le_refl _)) (ag _ _),fun _=>⟨k+1,_,rfl,by omega,?_⟩,fun h=>by rw[HB.out]at h;cases h⟩
    refine⟨wc.heap.size,_,_,rfl,HYw.out,(hn.chg HCy.out fun q cur fr hq e=>?_).below (ag _ _)⟩
    subst e
    rw[HFr.out.res]at hq
    simp only[Option.some.injEq,Obj.cells.injEq]at hq
    exact absurd hq.2.1 (by decide)
  |false=>
   have hev:=HRd.out.ok hb
   subst hev
   have HB:=ab hb
   clear hb k0 k1 k2 k3 k4 k5 j0 j1 j2 j3 j4 j5
   obtain⟨_,_,ra,rc,rfl,_⟩:=id HRd.out.rd
   obtain⟨_,_,pa,pc,rfl,_⟩:=id HPv.out
   obtain⟨rl,hrl⟩:∃rl,x.2.rest.length=rl:=⟨_,rfl⟩
   obtain⟨pl,hpl⟩:∃pl,x.1.tok.length=pl:=⟨_,rfl⟩
   rw[hrl]at y0 HRd
   rw[hpl]at HFr HPv
   have HRd2:=ab HRd.out.rd
   have n5:wc.cell? ⟨w1.heap.size,5,none⟩= some (.slice none 0 0):=HFr.out.cell 5
   have v5:=HFr.out.free 5
   have HF5:=ab (HFr.out.setF (by decide) (by decide) 5 (.slice ra rl rc))
   have hkp:∀u l,RdB wc u l->RdB (wc.setCell ⟨w1.heap.size,5,none⟩ (.slice ra rl rc)) u l:=by
    intro u l hu
    refine hu.chg (aI (cb:=w1.heap.size) (Below.refl _ wc) 5 (.slice ra rl rc)) (fun k cur fr hk e=>?_) (fun k e=>by have:=HFr.out.ne;have:=HRd.out.low;omega)
    subst e
    rw[HFr.out.frm]at hk
    simp only[Option.some.injEq,Obj.cells.injEq]at hk
    exact absurd hk.2.1 (by decide)
   have HP5:=ab (hkp _ _ HPv.out)
   have HR5:=ab (hkp _ _ HRd2.out)
   clear hkp hrl hpl
   generalize hW5:wc.setCell ⟨w1.heap.size,5,none⟩ (.slice ra rl rc)=W5 at HF5 HP5 HR5
   have hW5s:=ab hW5
   have m0:W5.cell? ⟨w1.heap.size,0,none⟩= some (.int .i64 x.1.kind):=HF5.out.cell 0
   have m1:W5.cell? ⟨w1.heap.size,1,none⟩= some (.int .i64 bl):=HF5.out.cell 1
   have m2:W5.cell? ⟨w1.heap.size,2,none⟩= some (.int .i64 x.1.cid):=HF5.out.cell 2
   have m3:W5.cell? ⟨w1.heap.size,3,none⟩= some (.slice pa pl pc):=HF5.out.cell 3
   have m4:W5.cell? ⟨w1.heap.size,4,none⟩= some (.int .i64 x.1.num):=HF5.out.cell 4
   have m5:W5.cell? ⟨w1.heap.size,5,none⟩= some (.slice ra rl rc):=HF5.out.cell 5
   have k0:W5.cell? ⟨w.heap.size,0,none⟩= some (.int .i64 0):=(by simp only[World.cell?,HF5.out.res];rfl)
   have j0:W5.frozen? ⟨w.heap.size,0,none⟩= false:=frozen_of_row W5 _ _ _ _ HF5.out.res
   have k1:W5.cell? ⟨w.heap.size,1,none⟩= some (.int .i64 0):=(by simp only[World.cell?,HF5.out.res];rfl)
   have j1:W5.frozen? ⟨w.heap.size,1,none⟩= false:=frozen_of_row W5 _ _ _ _ HF5.out.res
   have k2:W5.cell? ⟨w.heap.size,2,none⟩= some (.int .i64 0):=(by simp only[World.cell?,HF5.out.res];rfl)
   have j2:W5.frozen? ⟨w.heap.size,2,none⟩= false:=frozen_of_row W5 _ _ _ _ HF5.out.res
   have k3:W5.cell? ⟨w.heap.size,3,none⟩= some (.slice none 0 0):=(by simp only[World.cell?,HF5.out.res];rfl)
   have j3:W5.frozen? ⟨w.heap.size,3,none⟩= false:=frozen_of_row W5 _ _ _ _ HF5.out.res
   have k4:W5.cell? ⟨w.heap.size,4,none⟩= some (.int .i64 0):=(by simp only[World.cell?,HF5.out.res];rfl)
   have j4:W5.frozen? ⟨w.heap.size,4,none⟩= false:=frozen_of_row W5 _ _ _ _ HF5.out.res
   have k5:W5.cell? ⟨w.heap.size,5,none⟩= some (.slice none 0 0):=(by simp only[World.cell?,HF5.out.res];rfl)
   have j5:W5.frozen? ⟨w.heap.size,5,none⟩= false:=frozen_of_row W5 _ _ _ _ HF5.out.res
   have HRs:Hid (((((((W5.setCell ⟨w.heap.size,0,none⟩ (.int .i64 x.1.kind)).setCell ⟨w.heap.size,1,none⟩ (.int .i64 bl)).setCell ⟨w.heap.size,2,none⟩ (.int .i64 x.1.cid)).setCell ⟨w.heap.size,3,none⟩ (.slice pa pl pc)).setCell ⟨w.heap.size,4,none⟩ (.int .i64 x.1.num)).setCell ⟨w.heap.size,5,none⟩ (.slice ra rl rc)).heap[w.heap.size]? =some (.cells (dgC x.1 bl (.slice pa pl pc) (.slice ra rl rc)) 107 (0,0))):=(al (al (al (al (al (al HF5.out.res 0 (.int .i64 x.1.kind)) 1 (.int .i64 bl)) 2 (.int .i64 x.1.cid)) 3 (.slice pa pl pc)) 4 (.int .i64 x.1.num)) 5 (.slice ra rl rc))
   have HCs:Hid (Chg (· = w.heap.size) W5 ((((((W5.setCell ⟨w.heap.size,0,none⟩ (.int .i64 x.1.kind)).setCell ⟨w.heap.size,1,none⟩ (.int .i64 bl)).setCell ⟨w.heap.size,2,none⟩ (.int .i64 x.1.cid)).setCell ⟨w.heap.size,3,none⟩ (.slice pa pl pc)).setCell ⟨w.heap.size,4,none⟩ (.int .i64 x.1.num)).setCell ⟨w.heap.size,5,none⟩ (.slice ra rl rc))):=((((((aI (cb:=w.heap.size) (Below.refl _ _) 0 (.int .i64 x.1.kind)).trans (aI (cb:=w.heap.size) (Below.refl _ _) 1 (.int .i64 bl))).trans (aI (cb:=w.heap.size) (Below.refl _ _) 2 (.int .i64 x.1.cid))).trans (aI (cb:=w.heap.size) (Below.refl _ _) 3 (.slice pa pl pc))).trans (aI (cb:=w.heap.size) (Below.refl _ _) 4 (.int .i64 x.1.num))).trans (aI (cb:=w.heap.size) (Below.refl _ _) 5 (.slice ra rl rc)))
   go_wp2_with fail
   refine bodyPost_ret (v:=(.tuple #[.agg (dgC x.1 bl (.slice pa pl pc) (.slice ra rl rc)),.nilIface])) ?h1 rfl ?h3
   case h1=>
    refine bD (P:=Tryz.prog) Tryz.results45 _ _ w.heap.size 107 _ (0,0) _ _ (by kernel_rfl) (by kernel_rfl) ?d Tryz.underlying107 rfl (by kernel_rfl)
    exact HRs.out
   have hF:∀q cur fr,W5.heap[q]? =some (.cells cur 5 fr)->¬q=w.heap.size:=by
    intro q cur fr hq e
    subst e
    rw[HF5.out.res]at hq
    simp only[Option.some.injEq,Obj.cells.injEq]at hq
    exact absurd hq.2.1 (by decide)
   refine⟨cw HF5.out.bel HCs.out (Nat.le_refl _),fun h=>(by rw[HB.out]at h;cases h),fun _=>⟨_,_,by rw[HBl.out],HP5.out.chg HCs.out hF (fun k e=>by have:=HLo.out;omega),?_⟩⟩
   rw[<-HRs0.out]
   exact HR5.out.chg HCs.out hF (fun k e=>by have:=HLo.out;omega)
def bY(ns:List Int):List Int:=(ns.map az).flatten
theorem putsL_snoc(ns:List Int)(n:Int):bY (ns++[n])=bY ns++az n:=by simp[bY]
theorem rX(ns:List Int):(bY ns).length<=4*ns.length:=by
 induction ns with
 |nil=>simp[bY]
 |cons a t ih=>
  have:=dR a
  simp only[bY,List.map_cons,List.flatten_cons,List.length_append,List.length_cons]at ih⊢
  omega
theorem wNews_any(cid kind:Int)(ns:List Int)(nb nc:Nat)(w:World)(hc:0<=cid/\cid<=1073741823)(hn:∀n∈ns,0<=n/\n<=1073741823)(hl:ns.length<=8)(hcell:∀j n,ns[j]? =some n->w.cell? ⟨nb,j,none⟩= some (.int .i64 n)):
  Calls Tryz.prog 133 #[.int .i64 cid,.int .u8 kind,.slice (some ⟨nb,0,none⟩) ns.length nc] w fun e w'=>∃v,e=.returned v/\w'.ownsRow w.heap.size 5 1 v (cg cid ([kind]++bY ns)).length (U8 (cg cid ([kind]++bY ns)))/\Below w.heap.size w w':=by
 obtain⟨i0,hi,hz0,hz1,hz2⟩:=info_parts gn
 have HC:=ab hcell
 have HN:=ab hn
 clear hcell hn
 have hpl:=dR cid
 go_enter Tryz.func133,Tryz.ntmps133
 go_wp2_with fail
 refine(dM cid hc.1 hc.2 w.heap.size _ 1 (U8 [4]) _ (oP w 5 (U8 [4]) (by simp[U8,maxLen])) (by simp) (by decide)).mono ?_
 rintro e w1 ⟨v1,rfl,hown1,hg1⟩
 have b1:Below w.heap.size w w1:=(ag w _).grown hg1 (by simp) (fun g hg=>by simp[Value.ownBlock]at hg;omega)
 have hz:=b1.size
 go_wp2_with (at_builtin;refine wpList_append_own _ rfl _ _ 44 rfl w.heap.size 5 i0 (.int .u8 0) 1 1 Tryz.underlying44 hi hz0 hz1 hz2 rfl (by decide) v1 (1+(az cid).length) (U8 [4]++U8 (az cid)) rfl (hown1.alloc _) ⟨w1.heap.size,0,none⟩ 1 1 (U8 [kind]) rfl rfl (cJ w1 5 (U8 [kind]) (by simp[U8,maxLen])) (gW _) (by unfold maxLen;omega) (by omega) (by simp;omega) ?_;intro v2 w2 hown2 hg2 _)
 have b2:Below w.heap.size w w2:=(b1.alloc hz _).grown hg2 (by simp;omega) (fun g hg=>(hown1.lt g hg).1)
 have h0:w2.ownsRow w.heap.size 5 1 v2 (cg cid ([kind]++bY (ns.take 0))).length (U8 (cg cid ([kind]++bY (ns.take 0)))):=by
  have e1:U8 (cg cid ([kind]++bY (ns.take 0)))=U8 [4]++U8 (az cid)++U8 [kind]:=by simp[cg,bY,U8]
  have e2:(cg cid ([kind]++bY (ns.take 0))).length=1+(az cid).length+1:=by simp[cg,bY];omega
  rw[e1,e2]
  exact hown2
 have H0:=ab (And.intro h0 b2)
 clear hown1 hown2 hg1 hg2 b1 h0 b2 hz
 go_loopw [7,18] (fun v i wr=>∃k:Nat,k<=ns.length/\i=.int .i64 k/\wr.ownsRow w.heap.size 5 1 v (cg cid ([kind]++bY (ns.take k))).length (U8 (cg cid ([kind]++bY (ns.take k))))/\Below w.heap.size w wr) (fun _ i _=>ns.length-(intOf i).toNat)
 case atStart=>exact⟨0,Nat.zero_le _,rfl,H0.out⟩
 case round=>
  obtain⟨k,hk,rfl,ho,hb⟩:=hrel
  by_cases hlt:k<ns.length
  ·obtain⟨n,hnk⟩:∃n,ns[k]? =some n:=⟨_,lGe hlt⟩
   have hnr:=HN.out n (lMm hnk)
   have hcl:=ae (HC.out k n hnk) hb
   have htk:ns.take (k+1)=ns.take k++[n]:=by rw[List.take_add_one,hnk];rfl
   have hlen:(cg cid ([kind]++bY (ns.take k))).length<=70368744177664:=by
    have:=rX (ns.take k)
    simp[cg]at this⊢
    omega
   have HS:=ab (dM n hnr.1 hnr.2 w.heap.size _ _ _ _ ho hb.size hlen)
   have HB:=ab (And.intro ho hb)
   have HT:=ab htk
   clear ho hb htk hlen hnr hnk
   go_wp2_with fail
   refine HS.out.mono ?_
   rintro e w3 ⟨v3,rfl,ho3,hg3⟩
   have H3:=ab (And.intro ho3 hg3)
   clear HS ho3 hg3
   go_wp2_with fail
   go_roundw
   case rel=>
    refine⟨k+1,by omega,by go_num,?_,?_⟩
    ·have e1:cg cid ([kind]++bY (ns.take (k+1)))=cg cid ([kind]++bY (ns.take k))++az n:=by
      rw[HT.out,putsL_snoc]
      simp[cg]
     rw[e1,lj,List.length_append]
     exact H3.out.1
    ·exact HB.out.2.grown H3.out.2 HB.out.2.size (fun g hg=>(HB.out.1.lt g hg).1)
   case measure=>simp[intOf];omega
  ·obtain rfl:k=ns.length:=by omega
   rw[List.take_length]at ho
   have HO:=ab (And.intro ho hb)
   clear ho hb
   go_wp2_with fail
   go_ret
   exact⟨_,rfl,HO.out.1,HO.out.2⟩
theorem qN:∀{a b:List Int},Bytes a->Bytes b->strOfNums a=strOfNums b->a=b:=by
 intro a b ha hb h
 have h1:a.map (fun n=>UInt8.ofNat n.toNat)=b.map (fun n=>UInt8.ofNat n.toNat):=by
  have:=congrArg (fun s=>s.data.toList) h
  simpa[strOfNums_data] using this
 clear h
 induction a generalizing b with
 |nil=>cases b with
  |nil=>rfl
  |cons y r=>simp at h1
 |cons x q ih=>cases b with
  |nil=>simp at h1
  |cons y r=>
   simp only[List.map_cons,List.cons.injEq]at h1
   have hx:=ha x (by simp)
   have hy:=hb y (by simp)
   have h2:=congrArg UInt8.toNat h1.1
   simp only[UInt8.toNat_ofNat']at h2
   rw[ih (fun z hz=>ha z (by simp[hz])) (fun z hz=>hb z (by simp[hz])) h1.2]
   congr 1
   omega
theorem fg(k a t:Int)(a0:0<=a)(a1:a<256):Bytes (bF k a t):=by
 intro x hx
 rcases List.mem_append.1 hx with h|h
 ·rcases List.mem_cons.1 h with rfl|h
  ·exact⟨a0,a1⟩
  ·exact fT _ x h
 ·exact fT _ x h
def ptrV(b:Nat):Value:=.pointer (some ⟨b,0,none⟩)
def fC(l:List Nat):List Value:=l.map ptrV
theorem og(l:List Nat):(fC l).length=l.length:=by simp[fC]
def bU(l:List (Int×Value)):List Value:=l.flatMap fun x=>[.int .i64 x.1,x.2]
theorem jH(l:List (Int×Value)):(bU l).length=l.length*2:=by
 induction l with
 |nil=>rfl
 |cons a r ih=>simp only[bU,List.flatMap_cons,List.length_append]at ih⊢;rw[ih];simp;omega
theorem nM(a b:List (Int×Value)):bU (a++b)=bU a++bU b:=by simp[bU]
theorem info_sent:(Tryz.prog.info? 60).map (fun i=>(i.zero,i.size,i.bytes))=some (some (.agg #[.int .i64 0,.slice none 0 0]),2,32):=by kernel_rfl
def OutBy(w:World)(ob:Nat)(out:List (Int×Value))(outs:List (Int×List Int)):Prop:=
 out.length=outs.length/\∀(i:Nat) x y,out[i]? =some x->outs[i]? =some y->x.1=y.1/\w.ownsRow ob 5 1 x.2 y.2.length (U8 y.2)
end Go.Proofs.YthmdjhlhodpbhaaGreatDoor
