/- Apart, 43 -/
import Derived.Laws.StructEq
import Derived.Test.YthmdjhlhodpbhaaGreatDoorA04
import Derived.Test.YthmdjhlhodpbhaaGreatDoorA41
import Derived.Test.YthmdjhlhodpbhaaGreatDoorA42
import Derived.Test.YthmdjhlhodpbhaaGreatDoorRows
set_option maxHeartbeats 16000000
set_option maxRecDepth 8000
namespace Go.Proofs.YthmdjhlhodpbhaaGreatDoor
open Go.RowKit
structure ue where
 addr:Int
 bv:Value
 bs:List Int
structure GramsIn [LoM] (w:World)(ao:Option Addr)(l:List ue):Prop where
 at_:∀(k:Nat) (o:ue),l[k]? =some o->∃b off,ao=some ⟨b,off,none⟩/\w.cell? ⟨b,off+k*5,none⟩= some (.int .i64 o.addr)/\w.cell? ⟨b,off+k*5+4,none⟩= some o.bv/\RdB w o.bv o.bs
 rng:∀o∈l,(-9223372036854775808<=o.addr/\o.addr<=9223372036854775807)/\o.bs.length<=1048576
theorem GramsIn.below [LoM] {w w':World}{ao:Option Addr}{l:List ue}(h:GramsIn w ao l)(hb:Below w.heap.size w w'):GramsIn w' ao l:=⟨fun k o hk=>by
 obtain⟨b,off,h1,h2,h3,h4⟩:=h.at_ k o hk
 exact⟨b,off,h1,ae h2 hb,ae h3 hb,h4.below hb⟩,h.rng⟩
theorem LiveF.rebase{w0 w1:World}{F:Nat->Prop}{N:Nat}{M L:Int}{w:World}{sb:Nat}{s:ay}(h:LiveF w1 F N M L w sb s)(hb:Below w0.heap.size w0 w1):LiveF w0 F N M L w sb s:=by
 have hs:=hb.size
 exact⟨ai hb h.bel,h.srv,fun k hk=>⟨Nat.le_trans hs (h.up k hk).1,(h.up k hk).2⟩,h.ty,h.inv⟩
theorem conn_same{g:Cfg}{got sent got' sent':Int}{l:List aR}(h:l0 g (lL g got sent [] l)=l0 g (lL g got' sent' [] l)):got=got'/\sent=sent':=by
 simp only[l0,lL,ay.mk.injEq,List.cons.injEq,aw.mk.injEq]at h
 exact⟨h.2.2.1.1.2.2.2.1,h.2.2.1.1.2.2.2.2.1⟩
theorem look_neq(a b c d e:Int)(W:World):(binOp .neq 34 (.agg #[.bool true,.int .i64 a,.int .i64 b,.int .i64 c,.int .i64 d,.int .i64 e]) (.agg #[.bool true,.int .i64 a,.int .i64 b,.int .i64 c,.int .i64 d,.int .i64 e])).run Tryz.prog W=.ok (.bool false) W:=by
 go_simp
theorem vk{w:World}{b:Nat}{ao:Option Addr}{n cap:Nat}{outs:List (Int×List Int)}(h:OutsAt w b (.slice ao n cap) outs):n<=9223372036854775807:=by
 obtain⟨out,h1,h2⟩:=h
 obtain⟨hl,⟨e,h0⟩|⟨g,cap',cur,e,_,hg,hc1,hc2,_,ht⟩⟩:=h1
 ·simp only[Value.slice.injEq]at e
  omega
 ·simp only[Value.slice.injEq]at e
  unfold maxLen at hc2
  omega
theorem pair_start [LoM] {wa w1 w2 w3 w4:World}{xb sb yb tb:Nat}{g:Cfg}(hg:bM g){got sent:Int}(hb1:Below wa.heap.size wa w1)(hb2:Below w1.heap.size w1 w2)(hx:w1.heap[xb]? =some (.cells (iQ sb g) 42 (0,0)))(hxa:wa.heap.size<=xb)(hy:w2.heap[yb]? =some (.cells (iQ tb g) 42 (0,0)))(hya:w1.heap.size<=yb)
  (hLx:Live wa 100 1000 100 w1 sb (l0 g (lL g got sent [] (List.replicate g.c3.toNat (aU g.c2))))) (hLy:Live w1 100 1000 100 w2 tb (l0 g (lL g got sent [] (List.replicate g.c3.toNat (aU g.c2)))))
  {u0 u1 u2 u3 u4 u5:Value} (hcx:ClAt wa.heap.size w3 xb sb g (iu g) u0 u1 u2 u3 u4 u5 (.slice none 0 0)) (hc3:Chg (fun k=>k=xb) w2 w3) (hin3:∀k,bO xb u0 u1 u2 u3 u4 u5 (.slice none 0 0) k->k=xb\/w2.heap.size<=k)
  {t0 t1 t2 t3 t4 t5:Value} (hcy:ClAt wa.heap.size w4 yb tb g (iu g) t0 t1 t2 t3 t4 t5 (.slice none 0 0)) (hc4:Chg (fun k=>k=yb) w3 w4) (hin4:∀k,bO yb t0 t1 t2 t3 t4 t5 (.slice none 0 0) k->k=yb\/w3.heap.size<=k):
  PairK wa wa.heap.size w4 xb sb yb tb g ⟨100,1000,100,0,iu g,got,sent⟩ ⟨100,1000,100,0,iu g,got,sent⟩:=by
 obtain⟨Fx,hFx⟩:=hLx.f
 obtain⟨Fy,hFy⟩:=hLy.f
 have s1:=hb1.size
 have s2:=hb2.size
 have s3:=hc3.size
 have s4:=hc4.size
 have hx1:=(aLt hx)
 have hy2:=(aLt hy)
 have hx2:=dh hx hb2
 have hlx:LiveF wa Fx 100 1000 100 w3 sb (l0 g (lL g got sent [] (List.replicate g.c3.toNat (aU g.c2)))):=(hFx.below hb2).cli (o7 hg wa.heap.size hxa hx2) (hc3.mono (fun _ _ h=>Or.inl h)) (Nat.le_refl _)
 have hOx:OneAt wa wa.heap.size (fun k=>Fx k\/bO xb u0 u1 u2 u3 u4 u5 (.slice none 0 0) k) w3 xb sb g 100 1000 100 0 (iu g) got sent 1:=⟨⟨u0,u1,u2,u3,u4,u5,_,Fx,_,hcx,hlx,at0 g got sent,rfl,fun _=>Iff.rfl⟩,inv0 hg⟩
 have hy3:w3.heap[yb]? =some (.cells (iQ tb g) 42 (0,0)):=by
  rw[hc3.block yb hy2 (by omega)]
  exact hy
 have hOx4:=hOx.other hc4 (fun k hk e=>by
  rcases hk with hk|hk
  ·have:=(hFx.up k hk).2
   omega
  ·rcases hin3 k hk with h|h<;>omega) (fun k cur fr hk e=>by
  rw[e,hy3]at hk
  simp at hk) (fun k e=>by omega)
 have hly3:LiveF wa Fy 100 1000 100 w3 tb (l0 g (lL g got sent [] (List.replicate g.c3.toNat (aU g.c2)))):=(hFy.rebase hb1).chg hc3 (fun k hk e=>by
  have:=(hFy.up k hk).1
  omega) (fun k cur fr hk e=>by
  rw[e,hx2]at hk
  simp at hk) (fun k e=>by omega)
 have hly:LiveF wa Fy 100 1000 100 w4 tb (l0 g (lL g got sent [] (List.replicate g.c3.toNat (aU g.c2)))):=hly3.cli (o7 hg wa.heap.size (by omega) hy3) (hc4.mono (fun _ _ h=>Or.inl h)) (Nat.le_refl _)
 have hOy:OneAt wa wa.heap.size (fun k=>Fy k\/bO yb t0 t1 t2 t3 t4 t5 (.slice none 0 0) k) w4 yb tb g 100 1000 100 0 (iu g) got sent 1:=⟨⟨t0,t1,t2,t3,t4,t5,_,Fy,_,hcy,hly,at0 g got sent,rfl,fun _=>Iff.rfl⟩,inv0 hg⟩
 refine⟨_,_,1,1,hOx4,hOy,fun k hk hk2=>?_⟩
 have h3:k<w3.heap.size:=(hOx.lies (Nat.le_refl _) hk).2.1
 rcases hk2 with hk2|hk2
 ·have q1:=(hFy.up k hk2).1
  have q2:=(hFy.up k hk2).2
  rcases hk with hk|hk
  ·have:=(hFx.up k hk).2
   omega
  ·rcases hin3 k hk with h|h<;>omega
 ·rcases hin4 k hk2 with q|q
  ·rcases hk with hk|hk
   ·have:=(hFx.up k hk).2
    omega
   ·rcases hin3 k hk with h|h<;>omega
  ·omega
theorem kapart_any [LoM] (raw:Cfg)(ops:List uh)(sa:Option Addr)(cap:Nat)(gs:List ue)(ga:Option Addr)(gcap:Nat)(w:World)(hE:Env w)(hraw:sD raw)(hS:StepsIn w sa ops)(hn:ops.length<=1048576)(hG:GramsIn w ga gs):
  Calls Tryz.prog 7 #[.agg (jQ raw),.slice sa ops.length cap,.slice ga gs.length gcap] w fun e w'=>e=.returned (.bool true)/\Below w.heap.size w w':=by
 have hb0:Below w.heap.size w (w.alloc (.cells (jQ raw) 26)):=ag w _
 have hbx:(w.alloc (.cells (jQ raw) 26)).heap[w.heap.size]? =some (.cells (jQ raw) 26 (0,0)):=heap_alloc_new w _
 have HCn:=ab (kL raw (w.alloc (.cells (jQ raw) 26)) (hE.below hb0) hraw)
 have HCm:=ab (fun W (hW:Env W)=>kL raw W hW hraw)
 have E0:∀(xb:Nat) (W:World),(binOp .eql 28 (.pointer (some ⟨xb,0,none⟩)) (.pointer none)).run Tryz.prog W=.ok (.bool false) W:=fun xb W=>by kernel_rfl
 have hok:=pz raw
 have HE:=ab (hE.below hb0)
 have HS:=ab (hS.below hb0)
 have HGr:=ab (hG.below hb0)
 have HB0:=ab hb0
 have HX:=ab hbx
 have HOk:=ab hok
 clear hE hb0 hraw hS hok hG hbx
 unfold jQ at HCn HCm HE HB0 HS HGr HX⊢
 go_enter Tryz.func7,Tryz.ntmps7
 go_wp2_with fail
 generalize w.alloc (.cells #[.int .i64 raw.c0,.int .i64 raw.c1,.int .i64 raw.c2,.int .i64 raw.c3,.int .i64 raw.c4,.int .i64 raw.c5,.int .i64 raw.c6,.int .i64 raw.c7,.int .i64 raw.c8,.int .i64 raw.c9] 26)=wa at *
 refine HCn.out.mono ?_
 intro e w1 hC
 obtain⟨sb,xb,got,sent,rfl,hL,hx,hxb,hst⟩:=hC.ex
 have HX1:=ab (dh HX.out hC.bel)
 have d0:w1.cell? ⟨w.heap.size,0,none⟩= some (.int .i64 raw.c0):=aj HX1.out 0
 have d1:w1.cell? ⟨w.heap.size,1,none⟩= some (.int .i64 raw.c1):=aj HX1.out 1
 have d2:w1.cell? ⟨w.heap.size,2,none⟩= some (.int .i64 raw.c2):=aj HX1.out 2
 have d3:w1.cell? ⟨w.heap.size,3,none⟩= some (.int .i64 raw.c3):=aj HX1.out 3
 have d4:w1.cell? ⟨w.heap.size,4,none⟩= some (.int .i64 raw.c4):=aj HX1.out 4
 have d5:w1.cell? ⟨w.heap.size,5,none⟩= some (.int .i64 raw.c5):=aj HX1.out 5
 have d6:w1.cell? ⟨w.heap.size,6,none⟩= some (.int .i64 raw.c6):=aj HX1.out 6
 have d7:w1.cell? ⟨w.heap.size,7,none⟩= some (.int .i64 raw.c7):=aj HX1.out 7
 have d8:w1.cell? ⟨w.heap.size,8,none⟩= some (.int .i64 raw.c8):=aj HX1.out 8
 have d9:w1.cell? ⟨w.heap.size,9,none⟩= some (.int .i64 raw.c9):=aj HX1.out 9
 have HCm1:=ab (HCm.out w1 (HE.out.below hC.bel))
 have H1:=ab (And.intro hL (And.intro hx (And.intro hxb (And.intro hst hC.bel))))
 clear hC hL hx hxb hst HCn HCm HX1
 go_wp2_with fail
 refine HCm1.out.mono ?_
 intro e w2 hC
 obtain⟨tb,yb,got',sent',rfl,hL2,hy,hyb,hst2⟩:=hC.ex
 obtain⟨hL,hx,hxb,hst,hb1⟩:=H1.out
 obtain⟨rfl,rfl⟩:=conn_same (hst.trans hst2.symm)
 have hsz1:wa.heap.size<=w1.heap.size:=hb1.size
 have hsz2:w1.heap.size<=w2.heap.size:=hC.bel.size
 have HSx:=ab (pD HOk.out wa.heap.size hxb (Nat.le_trans hsz1 hsz2) (dh hx hC.bel))
 have H2:=ab (And.intro hL2 (And.intro hy (And.intro hyb hC.bel)))
 have HSy:Hid (∀W,Chg (fun k=>k=xb) w2 W->Calls Tryz.prog 14 #[.pointer (some ⟨yb,0,none⟩)] W fun e w'=>e=.returned (.tuple #[])/\∃u0 u1 u2 u3 u4 u5,ClAt wa.heap.size w' yb tb (br raw) (iu (br raw)) u0 u1 u2 u3 u4 u5 (.slice none 0 0)/\Chg (fun k=>k=yb) W w'/\∀k,bO yb u0 u1 u2 u3 u4 u5 (.slice none 0 0) k->k=yb\/W.heap.size<=k):=by
  intro W hW
  have hs:=hW.size
  have hx1:=(aLt hx)
  have hy2:=(aLt hy)
  exact pD HOk.out wa.heap.size (by omega) (by omega) (by rw[hW.block yb hy2 (by omega)];exact hy)
 have HPs:=ab (fun w3 w4 u0 u1 u2 u3 u4 u5 t0 t1 t2 t3 t4 t5=>pair_start (w3:=w3) (w4:=w4) (u0:=u0) (u1:=u1) (u2:=u2) (u3:=u3) (u4:=u4) (u5:=u5) (t0:=t0) (t1:=t1) (t2:=t2) (t3:=t3) (t4:=t4) (t5:=t5) HOk.out hb1 hC.bel hx hxb hy hyb hL hL2)
 clear hC hL hx hxb hst hst2 hL2 hy hyb hb1 H1 H2 HCm1 d0 d1 d2 d3 d4 d5 d6 d7 d8 d9 hsz1 hsz2 HX
 generalize br raw=G at *
 go_wp2_with fail
 refine HSx.out.mono ?_
 rintro e w3 ⟨rfl,u0,u1,u2,u3,u4,u5,hcx,hc3,hin3⟩
 have HSy3:=ab (HSy.out w3 hc3)
 have H3:=ab (And.intro hcx (And.intro hc3 hin3))
 clear hcx hc3 hin3 HSx HSy
 go_wp2_with fail
 refine HSy3.out.mono ?_
 rintro e w4 ⟨rfl,t0,t1,t2,t3,t4,t5,hcy,hc4,hin4⟩
 have HP:=ab (HPs.out w3 w4 u0 u1 u2 u3 u4 u5 t0 t1 t2 t3 t4 t5 H3.out.1 H3.out.2.1 H3.out.2.2 hcy hc4 hin4)
 clear hcy hc4 hin4 HPs H3 HSy3
 go_wp2_with fail
 go_loopg [9] ops.length (fun gk iv wr=>∃k:Nat,iv=.int .i64 k/\k<=ops.length/\gk=ops.length-k/\Hid (∃c got sent,PairK wa wa.heap.size wr xb sb yb tb G ⟨100+1060000*k,1000+1060000*(k:Int),100+6*(k:Int),11*(k:Int),c,got,sent⟩ ⟨100+1060000*k,1000+1060000*(k:Int),100+6*(k:Int),11*(k:Int),c,got,sent⟩/\(0<c.strs.length/\c.strs.length<=8+k)/\c.old.length<=k))
 case atStart=>
  have g3:=HOk.out.c3
  exact⟨0,rfl,by omega,rfl,⟨iu G,got,sent,HP.out,by simp[iu];omega,by simp[iu]⟩⟩
 case round=>
  obtain⟨k,rfl,hk,rfl,HU⟩:=hrel
  obtain⟨c,gt,st,hp,hlen,hold⟩:=HU.out
  have HQ:=ab hp
  clear HU hp HP
  by_cases hlt:k<ops.length
  ·have hlt':(k:Int)<(ops.length:Int):=by omega
   obtain⟨o,ho⟩:∃o,ops[k]? =some o:=⟨_,lGe hlt⟩
   have HO:=ab ho
   have HPo:Hid (KSt.Ok ⟨100+1060000*k,1000+1060000*(k:Int),100+6*(k:Int),11*(k:Int),c,gt,st⟩):=ab ⟨by simp only;omega,⟨by simp only;omega,by simp only;omega⟩,by simp only;omega,⟨by simp only;omega,by simp only;omega⟩,by simp only;omega⟩
   have HPo1:Hid (KSt.Ok ⟨100+1060000*k+1050000,1000+1060000*(k:Int)+1050000,100+6*(k:Int)+2,11*(k:Int),c,gt,st⟩):=ab ⟨by simp only;omega,⟨by simp only;omega,by simp only;omega⟩,by simp only;omega,⟨by simp only;omega,by simp only;omega⟩,by simp only;omega⟩
   clear ho
   go_upto_if 40 with fail
   go_cut [9] from 40 to 77 (fun s9 wx=>s9=.int .i64 k/\Hid (PairK wa wa.heap.size wx xb sb yb tb G ⟨100+1060000*k+1050000,1000+1060000*(k:Int)+1050000,100+6*(k:Int)+2,11*(k:Int),c,gt,st⟩ ⟨100+1060000*k,1000+1060000*(k:Int),100+6*(k:Int),11*(k:Int),c,gt,st⟩))
   case first=>
    by_cases hg:k<gs.length
    ·have hg':(k:Int)<(gs.length:Int):=by omega
     obtain⟨⟨addr,bv,bs⟩,ho2⟩:∃o2,gs[k]? =some o2:=⟨_,lGe hg⟩
     obtain⟨gb,off,rfl,q0,q4a,hrd⟩:=HGr.out.at_ k _ ho2
     obtain⟨r1,hbl⟩:=HGr.out.rng _ (lMm ho2)
     simp only at q0 q4a hrd r1 hbl
     obtain⟨_,_,ba,bc,rfl,_⟩:=id hrd
     have HQ4:=ab q4a
     have HRd:=ab hrd
     have hr:=aT addr (n:=256) (by decide)
     have HPk:=ab (fun W=>gG addr 256 W r1 (by decide))
     have q0r:=ae q0 HQ.out.bel
     clear q0 q4a hrd r1 ho2
     generalize aP addr 256=a0 at *
     obtain⟨bl,hbl2⟩:∃bl,bs.length=bl:=⟨_,rfl⟩
     rw[hbl2]at HQ4 HRd hbl
     have HBl:=ab hbl2
     clear hbl2
     go_wp2_with fail
     refine(HPk.out _).mono ?_
     rintro e w5 ⟨rfl,rfl⟩
     clear HPk q0r
     by_cases ha1:a0=1
     ·subst ha1
      have HRc:Hid (∀W:World,Below w5.heap.size w5 W->Calls Tryz.prog 20 #[.pointer (some ⟨sb,0,none⟩),.int .i64 2,.slice ba bl bc] W fun e w'=>∃va vn vc,e=.returned (.slice va vn vc)/\Hid (∃outs bo,OutsAt w' bo (.slice va vn vc) outs/\(∀o∈outs,o.1=2)/\PairK wa wa.heap.size w' xb sb yb tb G ⟨100+1060000*k+1050000,1000+1060000*(k:Int)+1050000,100+6*(k:Int)+2,11*(k:Int),c,gt,st⟩ ⟨100+1060000*k,1000+1060000*(k:Int),100+6*(k:Int),11*(k:Int),c,gt,st⟩)/\w'.cell? ⟨xb,0,none⟩= some (.pointer (some ⟨sb,0,none⟩))/\w'.cell? ⟨gb,off+k*5+4,none⟩= some (.slice ba bl bc)):=by
       intro W hW
       refine((HQ.out.below hW).recv HE.out (Nat.le_refl _) HPo.out (a:=2) (by omega) (HRd.out.below (ai HQ.out.bel hW)) (by have:=HBl.out;omega)).mono ?_
       rintro e w' ⟨⟨va,vn,vc,outs,rfl,⟨bo,hO⟩,hto⟩,hp⟩
       refine⟨va,vn,vc,rfl,⟨outs,bo,hO,hto,hp.mono ⟨?_,?_,?_,?_⟩ ⟨rfl,rfl,rfl⟩ ⟨Nat.le_refl _,Int.le_refl _,Int.le_refl _,Int.le_refl _⟩ ⟨rfl,rfl,rfl⟩⟩,hp.cells.1,ae HQ4.out hp.bel⟩<;>(simp only[KSt.recv];have:=HBl.out;omega)
      have x0:=HQ.out.cells.1
      have q4:=ae HQ4.out HQ.out.bel
      have d0:w5.drew.cell? ⟨xb,0,none⟩= some (.pointer (some ⟨sb,0,none⟩)):=x0
      have d4:w5.drew.cell? ⟨gb,off+k*5+4,none⟩= some (.slice ba bl bc):=q4
      go_wp2_with fail
      go_region_held3 (fun w'=>w'.cell? ⟨xb,0,none⟩= some (.pointer (some ⟨sb,0,none⟩))/\w'.cell? ⟨gb,off+k*5+4,none⟩= some (.slice ba bl bc)) (first|with_reducible assumption|go_keep) (first
       |(go_at_call 20;refine(HRc.out _ (ak (Below.refl _ w5) 1)).mono ?_;rintro e W5 ⟨va,vn,vc,rfl,HO5,k50,k54⟩))
      obtain⟨outs,bo,hO,hto,hp5⟩:=HO5.out
      have hvn:vn=outs.length:=by
       obtain⟨_,_,e⟩:=hO.form
       simp only[Value.slice.injEq]at e
       exact e.2.1
      have hvm:=vk hO
      have HAc:=ab (hp5.accept (Nat.le_refl _) hO)
      have HTo:=ab hto
      clear HRc d0 d4 x0 q4 k54 HO5 hO hto hp5
      go_wp2_with fail
      refine HAc.out.mono ?_
      rintro e w6 ⟨⟨an,af,rfl⟩,hO6,hp6⟩
      have HO6:=ab hO6
      have HP6:=ab hp6
      clear hO6 hp6 HAc k50
      go_wp2_with fail
      go_loopg [12] vn (fun gk iv wx=>∃q:Nat,iv=.int .i64 q/\q<=vn/\gk=vn-q/\w6=wx)
      case atStart=>exact⟨0,rfl,by omega,rfl,rfl⟩
      case round=>
       obtain⟨q,rfl,hqn,rfl,rfl⟩:=hrel
       by_cases hql:q<vn
       ·have hql':(q:Int)<(vn:Int):=by omega
        obtain⟨⟨a9,B9⟩,ho9⟩:∃x,outs[q]? =some x:=⟨_,lGe (by omega)⟩
        have e9:a9=2:=HTo.out _ (lMm ho9)
        obtain⟨oa,ov,rfl,o0,_,_⟩:=tp HO6.out ho9
        rw[e9]at o0
        clear e9
        have hne:(2 != 2)=false:=by simp
        go_wp2_with fail
        go_roundg (vn-(q+1))
        case measure=>omega
        case rel=>exact⟨q+1,by go_num,Nat.succ_le_of_lt hql,rfl,rfl⟩
       ·have hql':¬(q:Int)<(vn:Int):=by omega
        go_wp2_with fail
        go_meet
        exact⟨rfl,HP6⟩
     ·have ha1':(a0==1)=false:=by simpa using ha1
      have HRc:Hid (∀W:World,Below w5.heap.size w5 W->Calls Tryz.prog 20 #[.pointer (some ⟨sb,0,none⟩),.int .i64 a0,.slice ba bl bc] W fun e w'=>∃va vn vc,e=.returned (.slice va vn vc)/\Hid (∃outs bo,OutsAt w' bo (.slice va vn vc) outs/\(∀o∈outs,o.1=a0)/\PairK wa wa.heap.size w' xb sb yb tb G ⟨100+1060000*k+1050000,1000+1060000*(k:Int)+1050000,100+6*(k:Int)+2,11*(k:Int),c,gt,st⟩ ⟨100+1060000*k,1000+1060000*(k:Int),100+6*(k:Int),11*(k:Int),c,gt,st⟩)/\w'.cell? ⟨xb,0,none⟩= some (.pointer (some ⟨sb,0,none⟩))/\w'.cell? ⟨gb,off+k*5+4,none⟩= some (.slice ba bl bc)):=by
       intro W hW
       refine((HQ.out.below hW).recv HE.out (Nat.le_refl _) HPo.out (a:=a0) (by omega) (HRd.out.below (ai HQ.out.bel hW)) (by have:=HBl.out;omega)).mono ?_
       rintro e w' ⟨⟨va,vn,vc,outs,rfl,⟨bo,hO⟩,hto⟩,hp⟩
       refine⟨va,vn,vc,rfl,⟨outs,bo,hO,hto,hp.mono ⟨?_,?_,?_,?_⟩ ⟨rfl,rfl,rfl⟩ ⟨Nat.le_refl _,Int.le_refl _,Int.le_refl _,Int.le_refl _⟩ ⟨rfl,rfl,rfl⟩⟩,hp.cells.1,ae HQ4.out hp.bel⟩<;>(simp only[KSt.recv];have:=HBl.out;omega)
      have x0:=HQ.out.cells.1
      have q4:=ae HQ4.out HQ.out.bel
      have d0:w5.drew.cell? ⟨xb,0,none⟩= some (.pointer (some ⟨sb,0,none⟩)):=x0
      have d4:w5.drew.cell? ⟨gb,off+k*5+4,none⟩= some (.slice ba bl bc):=q4
      go_wp2_with fail
      go_region_held3 (fun w'=>w'.cell? ⟨xb,0,none⟩= some (.pointer (some ⟨sb,0,none⟩))/\w'.cell? ⟨gb,off+k*5+4,none⟩= some (.slice ba bl bc)) (first|with_reducible assumption|go_keep) (first
       |(go_at_call 20;refine(HRc.out _ (ak (Below.refl _ w5) 1)).mono ?_;rintro e W5 ⟨va,vn,vc,rfl,HO5,k50,k54⟩))
      obtain⟨outs,bo,hO,hto,hp5⟩:=HO5.out
      have hvn:vn=outs.length:=by
       obtain⟨_,_,e⟩:=hO.form
       simp only[Value.slice.injEq]at e
       exact e.2.1
      have hvm:=vk hO
      have HAc:=ab (hp5.accept (Nat.le_refl _) hO)
      have HTo:=ab hto
      clear HRc d0 d4 x0 q4 k54 HO5 hO hto hp5
      go_wp2_with fail
      refine HAc.out.mono ?_
      rintro e w6 ⟨⟨an,af,rfl⟩,hO6,hp6⟩
      have HO6:=ab hO6
      have HP6:=ab hp6
      clear hO6 hp6 HAc k50
      go_wp2_with fail
      go_loopg [12] vn (fun gk iv wx=>∃q:Nat,iv=.int .i64 q/\q<=vn/\gk=vn-q/\w6=wx)
      case atStart=>exact⟨0,rfl,by omega,rfl,rfl⟩
      case round=>
       obtain⟨q,rfl,hqn,rfl,rfl⟩:=hrel
       by_cases hql:q<vn
       ·have hql':(q:Int)<(vn:Int):=by omega
        obtain⟨⟨a9,B9⟩,ho9⟩:∃x,outs[q]? =some x:=⟨_,lGe (by omega)⟩
        have e9:a9=a0:=HTo.out _ (lMm ho9)
        obtain⟨oa,ov,rfl,o0,_,_⟩:=tp HO6.out ho9
        rw[e9]at o0
        clear e9
        have hne:(a0 != a0)=false:=by simp
        go_wp2_with fail
        go_roundg (vn-(q+1))
        case measure=>omega
        case rel=>exact⟨q+1,by go_num,Nat.succ_le_of_lt hql,rfl,rfl⟩
       ·have hql':¬(q:Int)<(vn:Int):=by omega
        go_wp2_with fail
        go_meet
        exact⟨rfl,HP6⟩
    ·have hg':¬(k:Int)<(gs.length:Int):=by omega
     go_wp2_with fail
     go_meet
     exact⟨rfl,HQ.out.mono ⟨by simp only;omega,by simp only;omega,by simp only;omega,Int.le_refl _⟩ ⟨rfl,rfl,rfl⟩ ⟨Nat.le_refl _,Int.le_refl _,Int.le_refl _,Int.le_refl _⟩ ⟨rfl,rfl,rfl⟩⟩
   case rest=>
    obtain⟨rfl,HQ2⟩:=hcut
    obtain⟨ob,off,rfl,p0,p1,p2,p3⟩:=HS.out.at_ k o HO.out
    obtain⟨r1,r2,r3⟩:=HS.out.rng o (lMm HO.out)
    obtain⟨kd,aa,bb,cc⟩:=o
    simp only at p0 p1 p2 p3 r1 r2 r3
    have HPc:=ab (And.intro p0 (And.intro p1 (And.intro p2 p3)))
    have s0:=ae p0 HQ2.out.bel
    have s1:=ae p1 HQ2.out.bel
    have s2:=ae p2 HQ2.out.bel
    have s3:=ae p3 HQ2.out.bel
    have HSx:=ab (HQ2.out.step HE.out (Nat.le_refl _) HOk.out HPo1.out kd aa bb cc r1 r2 r3)
    have HSy:=ab (fun W (hW:PairK wa wa.heap.size W yb tb xb sb G ⟨100+1060000*k,1000+1060000*(k:Int),100+6*(k:Int),11*(k:Int),c,gt,st⟩ (KSt.step G kd aa bb cc ⟨100+1060000*k+1050000,1000+1060000*(k:Int)+1050000,100+6*(k:Int)+2,11*(k:Int),c,gt,st⟩))=>hW.step HE.out (Nat.le_refl _) HOk.out HPo.out kd aa bb cc r1 r2 r3)
    have HIv:=ab (vM (Z:=11*(k:Int)) (c:=c) HOk.out HQ2.out.ok (by omega) (by omega) kd aa bb cc)
    clear p0 p1 p2 p3 r1 r2 r3 HQ
    go_wp2_with fail
    refine HSx.out.mono ?_
    rintro e w7 ⟨rfl,hq7⟩
    have s0:=ae HPc.out.1 hq7.bel
    have s1:=ae HPc.out.2.1 hq7.bel
    have s2:=ae HPc.out.2.2.1 hq7.bel
    have s3:=ae HPc.out.2.2.2 hq7.bel
    have HSy7:=ab (HSy.out w7 hq7.swap)
    clear hq7 HSx HSy HQ2
    go_wp2_with fail
    refine HSy7.out.mono ?_
    rintro e w8 ⟨rfl,hq8⟩
    have HQ8:Hid (∃c8 g8 s8,PairK wa wa.heap.size w8 xb sb yb tb G ⟨100+1060000*(k+1),1000+1060000*((k+1:Nat):Int),100+6*((k+1:Nat):Int),11*((k+1:Nat):Int),c8,g8,s8⟩ ⟨100+1060000*(k+1),1000+1060000*((k+1:Nat):Int),100+6*((k+1:Nat):Int),11*((k+1:Nat):Int),c8,g8,s8⟩/\(0<c8.strs.length/\c8.strs.length<=8+(k+1))/\c8.old.length<=k+1):=by
     obtain⟨_,i2,i3,i4⟩:=HIv.out
     exact⟨eE G c kd aa bb cc,gt+gQ c (eE G c kd aa bb cc)+eK c kd bb,st+gy G c kd aa bb,hq8.swap.mono ⟨by simp only[KSt.step];omega,by simp only[KSt.step];omega,by simp only[KSt.step];omega,by simp only[KSt.step];omega⟩ ⟨rfl,rfl,rfl⟩ ⟨by simp only[KSt.step];omega,by simp only[KSt.step];omega,by simp only[KSt.step];omega,by simp only[KSt.step];omega⟩ ⟨rfl,rfl,rfl⟩,by omega,by omega⟩
    obtain⟨c8,g8,s8,hq9,hl8,ho8⟩:=HQ8.out
    have HQ9:=ab hq9
    have HLx:=ab hq9.look
    obtain⟨x0,x11,y0,y11⟩:=hq9.cells
    clear hq8 hq9 HSy7 s0 s1 s2 s3 HQ8 HIv x11 y0 y11 HPo HPo1 HPc
    simp only at HLx
    go_wp2_with fail
    refine HLx.out.mono ?_
    rintro e w9 ⟨rfl,hb9⟩
    have hbg:=ag w9 (.cells #[.bool true,.int .i64 g8,.int .i64 s8,.int .i64 c8.credit,.int .i64 (c8.strs.length:Int),.int .i64 (lx (cX c8.strs))] 34)
    have hbx:(w9.alloc (.cells #[.bool true,.int .i64 g8,.int .i64 s8,.int .i64 c8.credit,.int .i64 (c8.strs.length:Int),.int .i64 (lx (cX c8.strs))] 34)).heap[w9.heap.size]? =some (.cells #[.bool true,.int .i64 g8,.int .i64 s8,.int .i64 c8.credit,.int .i64 (c8.strs.length:Int),.int .i64 (lx (cX c8.strs))] 34 (0,0)):=heap_alloc_new w9 _
    have HQa:=ab (HQ9.out.below (ai hb9 hbg))
    have HXa:=ab hbx
    obtain⟨x0,x11,y0,y11⟩:=HQa.out.cells
    have HLy:=ab HQa.out.swap.look
    simp only at HLy
    clear hb9 hbg hbx HLx HQ9 x0 x11 y11
    go_wp2_with fail
    generalize w9.alloc (.cells #[.bool true,.int .i64 g8,.int .i64 s8,.int .i64 c8.credit,.int .i64 (c8.strs.length:Int),.int .i64 (lx (cX c8.strs))] 34)=wA at *
    refine HLy.out.mono ?_
    rintro e wB ⟨rfl,hbB⟩
    have hbg:=ag wB (.cells #[.bool true,.int .i64 g8,.int .i64 s8,.int .i64 c8.credit,.int .i64 (c8.strs.length:Int),.int .i64 (lx (cX c8.strs))] 34)
    have hbx:(wB.alloc (.cells #[.bool true,.int .i64 g8,.int .i64 s8,.int .i64 c8.credit,.int .i64 (c8.strs.length:Int),.int .i64 (lx (cX c8.strs))] 34)).heap[wB.heap.size]? =some (.cells #[.bool true,.int .i64 g8,.int .i64 s8,.int .i64 c8.credit,.int .i64 (c8.strs.length:Int),.int .i64 (lx (cX c8.strs))] 34 (0,0)):=heap_alloc_new wB _
    have HQb:=ab (HQa.out.below (ai hbB hbg))
    have hxa:=dh HXa.out (ai hbB hbg)
    obtain⟨x0,x11,y0,y11⟩:=HQb.out.cells
    have a0:=aj hxa 0
    have a1:=aj hxa 1
    have a2:=aj hxa 2
    have a3:=aj hxa 3
    have a4:=aj hxa 4
    have a5:=aj hxa 5
    have b0:=aj hbx 0
    have b1:=aj hbx 1
    have b2:=aj hbx 2
    have b3:=aj hbx 3
    have b4:=aj hbx 4
    have b5:=aj hbx 5
    simp only[List.getElem?_toArray,List.getElem?_cons_zero,List.getElem?_cons_succ]at a0 a1 a2 a3 a4 a5 b0 b1 b2 b3 b4 b5
    have ENq:=look_neq g8 s8 c8.credit (c8.strs.length:Int) (lx (cX c8.strs))
    clear hbB hbg hbx hxa HLy HXa HQa
    go_wp2_with fail
    go_roundg (ops.length-(k+1))
    case measure=>omega
    case rel=>exact⟨k+1,by go_num,by omega,rfl,⟨c8,g8,s8,HQb.out,hl8,ho8⟩⟩
  ·have hlt':¬(k:Int)<(ops.length:Int):=by omega
   go_wp2_with fail
   go_ret
   exact⟨rfl,ai HB0.out HQ.out.bel⟩
end Go.Proofs.YthmdjhlhodpbhaaGreatDoor
namespace Go.Proofs.YthmdjhlhodpbhaaGreatDoor
open Go.RowKit Go.Deep Go.ChangeShapes Go.WideShapes Go.ChangeAt
abbrev jZ(w:World):LoM:=⟨⟨w.heap.size,fun k=>w.heap[k]?⟩⟩
theorem kcells_u8:Tryz.prog.cellsOf 5=1:=by kernel_rfl
theorem te:Tryz.prog.cellsOf 44=1:=by kernel_rfl
theorem px:Tryz.prog.cellsOf 55=5:=by kernel_rfl
theorem klen5{l:List Value}(h:l.length=5):∃a b c d e,l=[a,b,c,d,e]:=by
 match l,h with
 |[a,b,c,d,e],_=>exact⟨a,b,c,d,e,rfl⟩
theorem wI{w:World}{b off:Nat}{v:Value}(h:w.cell? ⟨b,off,none⟩= some v):∃cur e fr,w.heap[b]? =some (.cells cur e fr)/\∀j,w.cell? ⟨b,j,none⟩= cur[j]?:=by
 cases hb:w.heap[b]? with
 |none=>simp[World.cell?,hb]at h
 |some o=>
  cases o with
  |cells cur e fr=>exact⟨cur,e,fr,rfl,fun j=>by simp[World.cell?,hb]⟩
  |_=>simp[World.cell?,hb]at h
section
variable {H : Type} {enc : TypeId × Value -> H} {w : World} {spare : Nat -> Bool} {held : Bool}
theorem pw{n:Nat}{v:Value}{y:DataW H×List MemPlace}(h:DataW.trod enc Tryz.prog w 0 spare held n 44 [v]=some y)(hw:Rows.uptoBulk y.1<=1048576):∃bs:List Int,@RdB (jZ w) w v bs/\bs.length<=1048576:=by
 rcases open_ints Tryz.underlying44 Tryz.underlying5 kcells_u8 h with⟨hcs,_⟩|⟨a,len,cap,zs,hcs,_,hl,hmx,hz,hx,hcell,hwz⟩
 ·simp only[List.cons.injEq,and_true]at hcs
  subst hcs
  exact⟨[],@RdB.nil (jZ w) w,by simp⟩
 ·simp only[List.cons.injEq,and_true]at hcs
  subst hcs
  have hlz:len<=zs.length:=by rw[hz];split<;>omega
  have hlen:(zs.take len).length=len:=by rw[List.length_take];omega
  have hle:len<=1048576:=by
   rw[hx]at hw
   simp only[Rows.uptoBulk]at hw
   have:=nA (lits (H:=H) .u8 (zs.take len))
   simp only[lits,List.length_map,hlen]at this hw
   omega
  refine⟨zs.take len,⟨fun x hx'=>?_,by rw[hlen];omega,some a,cap,by rw[hlen],by rw[hlen];exact hl,by unfold maxLen at hmx;omega,fun h=>(by cases h),fun hp=>?_⟩,by rw[hlen];exact hle⟩
  ·have:=bounds_u8 (hwz x (List.mem_of_mem_take hx'))
   omega
  ·rw[hlen]at hp
   obtain⟨b,off,rfl,hc⟩:=ints_at hcell (by omega)
   obtain⟨cur,e,fr,hb,hall⟩:=wI (hc 0 (by omega))
   refine⟨b,off,cur,e,fr,rfl,hb,Or.inr (aLt hb),fun j hj=>?_⟩
   rw[hlen]at hj
   rw[<-hall,hc j (by omega)]
   simp[List.getD,hj]
theorem uV{n:Nat}{cs:List Value}{x:DataW H×List MemPlace}(h:DataW.trod enc Tryz.prog w 0 spare held n 55 cs=some x)(hw:Rows.uptoBulk x.1<=1048576):
  ∃(o:ue) (y1 y2 y3:Value),cs=[.int .i64 o.addr,y1,y2,y3,o.bv]/\@RdB (jZ w) w o.bv o.bs/\(-9223372036854775808<=o.addr/\o.addr<=9223372036854775807)/\o.bs.length<=1048576:=by
 obtain⟨xs,m,_,rfl,hl,hlen,hf⟩:=DataW.trod_struct Tryz.underlying55 h
 have hlen':xs.length=5:=hlen
 rw[px]at hl
 obtain⟨x0,x1,x2,x3,x4,rfl⟩:=klen5 hl
 have g0:DataW.trod enc Tryz.prog w 0 spare held m 3 ((List.drop 0 [x0,x1,x2,x3,x4]).take (Tryz.prog.cellsOf 3))=xs[0]?:=hf 0 _ rfl
 rw[cf]at g0
 obtain⟨c0,rfl,r0⟩:=fA (xs:=xs) (i:=0) (by omega) (by simpa using g0)
 have g4:DataW.trod enc Tryz.prog w 0 spare held m 44 ((List.drop 4 [.int .i64 c0,x1,x2,x3,x4]).take (Tryz.prog.cellsOf 44))=xs[4]?:=hf 4 _ rfl
 rw[te,lGe (by omega)]at g4
 have g4':DataW.trod enc Tryz.prog w 0 spare held m 44 [x4]=some xs[4]:=by simpa using g4
 obtain⟨bs,hb,hbl⟩:=pw g4' (Nat.le_trans (nB (List.mem_map.2 ⟨xs[4],List.getElem_mem _,rfl⟩)) (by
  simp only[Rows.uptoBulk]at hw
  exact Nat.le_of_succ_le hw))
 exact⟨⟨c0,x4,bs⟩,x1,x2,x3,rfl,hb,r0,hbl⟩
theorem qC{n:Nat}{v:Value}{x:DataW H×List MemPlace}(h:DataW.trod enc Tryz.prog w 0 spare held n 52 [v]=some x)(hw:Rows.uptoBulk x.1<=1048576):
  ∃(ao:Option Addr) (cap:Nat) (l:List ue),v=.slice ao l.length cap/\@GramsIn (jZ w) w ao l:=by
 letI:LoM:=jZ w
 rcases open_slice Tryz.underlying52 h with⟨hcs,_⟩|⟨a,len,cap,m,n',D,Pl,hcs,_,hl,_,hm,hx,hel⟩
 ·simp only[List.cons.injEq,and_true]at hcs
  subst hcs
  exact⟨none,0,[],rfl,⟨fun k o hk=>by simp at hk,fun o ho=>by cases ho⟩⟩
 ·simp only[List.cons.injEq,and_true]at hcs
  subst hcs
  have hlm:len<=m:=by rw[hm];split<;>omega
  rw[hx]at hw
  simp only[Rows.uptoBulk]at hw
  have hdw:∀i,i<len->Rows.uptoBulk (D i)<=1048576:=by
   intro i hi
   have:=nB (d:=D i) (l:=(List.range len).map D) (List.mem_map.2 ⟨i,List.mem_range.2 hi,rfl⟩)
   omega
  rw[px]at hel
  have hops:∀i,i<len->∃o:ue,(∃y1 y2 y3,w.cells? 0 (a.add (i*5)) 5=some [.int .i64 o.addr,y1,y2,y3,o.bv])/\@RdB (jZ w) w o.bv o.bs/\(-9223372036854775808<=o.addr/\o.addr<=9223372036854775807)/\o.bs.length<=1048576:=by
   intro i hi
   obtain⟨cs,h1,h2⟩:=hel i (by omega)
   obtain⟨o,y1,y2,y3,rfl,ho⟩:=uV h2 (hdw i hi)
   exact⟨o,⟨y1,y2,y3,h1⟩,ho⟩
  haveI:Inhabited ue:=⟨⟨0,.slice none 0 0,[]⟩⟩
  obtain⟨f,hf⟩:=kchoose hops
  have hol:((List.range len).map f).length=len:=by simp
  refine⟨some a,cap,(List.range len).map f,by rw[hol],⟨fun k o hk=>?_,fun o ho=>?_⟩⟩
  ·have hkl:k<len:=by
    have:=(lLt hk)
    rw[hol]at this
    exact this
   have ho:o=f k:=by
    simp only[List.getElem?_map,List.getElem?_range hkl,Option.map_some,Option.some.injEq]at hk
    exact hk.symm
   subst ho
   obtain⟨⟨y1,y2,y3,hcs⟩,hrd,_⟩:=hf k hkl
   obtain⟨_,_,hr⟩:=World.cells?_some hcs
   have c0:=hr 0 (by decide)
   have c4:=hr 4 (by decide)
   obtain⟨⟨_,_,_,hzs⟩,_⟩:=hf 0 (by omega)
   have z0:=(World.cells?_some hzs).2.2 0 (by decide)
   obtain⟨b,off,spot⟩:=a
   have hspot:spot=none:=by simpa[Addr.add] using World.cell?_spot z0
   subst hspot
   rw[add_plain,add_plain]at c0 c4
   exact⟨b,off,rfl,by simpa using c0,by simpa using c4,hrd⟩
  ·obtain⟨i,hi,rfl⟩:=List.mem_map.1 ho
   exact(hf i (List.mem_range.1 hi)).2.2
end
end Go.Proofs.YthmdjhlhodpbhaaGreatDoor
