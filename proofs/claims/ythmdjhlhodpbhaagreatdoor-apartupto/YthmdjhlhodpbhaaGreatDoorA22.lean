/- Apart, 22 -/
import Derived.WalkMore
import Derived.Test.YthmdjhlhodpbhaaGreatDoorA20
import Derived.Test.YthmdjhlhodpbhaaGreatDoorA21
set_option maxHeartbeats 16000000
set_option maxRecDepth 8000
namespace Go.Proofs.YthmdjhlhodpbhaaGreatDoor
open Go.RowKit
structure DealF(w:World)(cb:Nat)(g:Cfg)(c:aw)(a:aJ)(r:sE)(K:Nat)(e:Ending)(w':World):Prop where
 ret:∃sv,e=.returned (.tuple #[sv,.bool r.gone])/\OutsAt w' w.heap.size sv (dG r [])
 chg:Chg (bh cb a) w w'
 con:r.gone=false->∃a',ConAt K w' cb g r.con a'/\(∀k,bh cb a' k->bh cb a k\/w.heap.size<=k)/\UIn w.heap.size a a'
 blk:∃c2 plv sm dm past,ConBlk w' cb g c2 plv sm dm past/\c2.cid=c.cid
theorem chg_in2{w w1 w2:World}{cb:Nat}{a a1:aJ}(h:Chg (bh cb a) w w1)(hs:∀k,bh cb a1 k->bh cb a k\/w.heap.size<=k)(h2:Chg (bh cb a1) w1 w2):Chg (bh cb a) w w2:=
 ⟨h2.os.trans h.os,h2.tape.trans h.tape,h2.output.trans h.output,Nat.le_trans h.size h2.size,fun k hk hn=>by
  rw[h2.block k (Nat.lt_of_lt_of_le hk h.size) (fun h3=>(hs k h3).elim hn (fun h4=>by omega)),h.block k hk hn]⟩
theorem qz{g:Cfg}{lw:Int}{c:aw}{l:List Int}{n:Nat}(hl:l≠[])(h:bR l=none):aL g lw c l (n+1) =⟨c,some 7,true⟩:=by
 unfold aL
 rw[if_neg hl,h]
theorem oz{g:Cfg}{lw:Int}{c:aw}{l:List Int}{n size:Nat}{f:dx}(hl:l≠[])(h:bR l=some (f,size))(h6:f.type=6):aL g lw c l (n+1) =⟨c,none,true⟩:=by
 unfold aL
 rw[if_neg hl,h]
 simp only
 rw[if_pos h6]
theorem nu{g:Cfg}{lw:Int}{c:aw}{l:List Int}{n size:Nat}{f:dx}(hl:l≠[])(h:bR l=some (f,size))(h6:f.type≠6)(hz:(be g lw c f).1≠0):aL g lw c l (n+1) =⟨c,some (be g lw c f).1,true⟩:=by
 unfold aL
 rw[if_neg hl,h]
 simp only
 rw[if_neg h6,if_pos hz]
theorem o9{g:Cfg}{lw:Int}{c:aw}{l:List Int}{n size:Nat}{f:dx}(hl:l≠[])(h:bR l=some (f,size))(h6:f.type≠6)(hz:(be g lw c f).1=0):aL g lw c l (n+1)=aL g lw (be g lw c f).2 (l.drop size) n:=by
 conv=>lhs;unfold aL
 rw[if_neg hl,h]
 simp only
 rw[if_neg h6,if_neg (by rw[hz];simp)]
theorem qA(g:Cfg)(lw:Int)(c:aw)(f:dx):0<=(be g lw c f).1/\(be g lw c f).1<=10:=by
 unfold be
 split
 ·simp
 ·split
  ·split
   ·simp
   ·split<;>simp
  ·exact qy
theorem uQ{l:List Int}{f:dx}{size:Nat}(h:bR l=some (f,size)):f.type=l.getD 0 0:=by
 unfold bR at h
 split at h
 ·cases h
 ·split at h
  ·cases h
  ·simp only[Option.some.injEq,Prod.mk.injEq]at h;rw[<-h.1]
  ·simp only[Option.some.injEq,Prod.mk.injEq]at h;rw[<-h.1]
  ·simp only[Option.some.injEq,Prod.mk.injEq]at h;rw[<-h.1]
  ·split at h
   ·cases h
   ·simp only[Option.some.injEq,Prod.mk.injEq]at h;rw[<-h.1]
theorem uP{l:List Int}{f:dx}{size:Nat}(h:bR l=some (f,size))(h5:f.type=5):f.bytes=[]:=by
 have ht:=uQ h
 rw[h5]at ht
 unfold bR at h
 have hc:dj (l.getD 0 0)=some 2:=by rw[<-ht];rfl
 rw[hc]at h
 simp only at h
 cases hn:bI l 2 with
 |none=>rw[hn]at h;cases h
 |some x=>
  obtain⟨ns,a⟩:=x
  rw[hn]at h
  simp only[Option.some.injEq,Prod.mk.injEq]at h
  rw[<-h.1]
theorem nm{N:Nat}{w:World}{cb:Nat}{g:Cfg}{c:aw}{a:aJ}(h:ConAt N w cb g c a){k:Nat}{cur:Array Value}{fr:Nat×Nat}(hk:w.heap[k]? =some (.cells cur 5 fr)):¬bh cb a k:=by
 obtain⟨vs,hvs⟩:=h.pk
 obtain⟨n1,_,hm1⟩:=h.smap
 obtain⟨n2,_,hm2⟩:=h.dmap
 rintro(rfl|e|rfl|rfl|⟨p,hp,e⟩)
 ·have h1:=h.blk
  unfold ConBlk at h1
  rw[h1]at hk
  simp only[Option.some.injEq,Obj.cells.injEq]at hk
  exact absurd hk.2.1 (by decide)
 ·exact ax hvs.own hk (by decide) e
 ·obtain⟨es,ck,hb⟩:=hm1.is_map
  rw[hb]at hk
  cases hk
 ·obtain⟨es,ck,hb⟩:=hm2.is_map
  rw[hb]at hk
  cases hk
 ·obtain⟨_,x,hx,_⟩:=h.mp.str p hp
  have hs:=h.str p hp x hx
  rcases e with rfl|e
  ·rw[hs.blk]at hk
   simp only[Option.some.injEq,Obj.cells.injEq]at hk
   exact absurd hk.2.1 (by decide)
  ·obtain⟨vs1,ho1⟩:=hs.own
   exact ax ho1 hk (by decide) e
theorem frmP_type{f:dx}(h:oT f):(ly f).type=f.type:=by
 unfold ly
 have:=h.type
 by_cases h7:f.type=7
 ·rw[if_pos h7,h7]
 ·rw[if_neg h7]
  by_cases h6:f.type=6
  ·rw[if_pos h6,h6]
  ·rw[if_neg h6]
   by_cases h5:f.type=5
   ·rw[if_pos h5,h5]
   ·rw[if_neg h5]
    split<;>rfl
theorem DealF.closed{w w2 w3:World}{cb:Nat}{g:Cfg}{c c':aw}{a:aJ}{plv:Value}{sm dm:Nat}{past k:Int}{R:sE}{K:Nat}{sv:Value}(hR:R =⟨c',some k,true⟩)(hc:Chg (bh cb a) w w2)(ht:TellOut w2 cb g c' plv sm dm past ([19]++az k) (.returned sv) w3)(hcid:c'.cid=c.cid):
  DealF w cb g c a R K (.returned (.tuple #[sv,.bool true])) w3:=by
 subst hR
 obtain⟨v,e,ho⟩:=ht.ret
 injection e with e
 subst e
 refine⟨⟨_,rfl,ho.mono hc.size⟩,hc.trans (ht.chg.mono fun k _ e=>Or.inl e),fun h=>(by cases h),⟨_,_,_,_,_,ht.blk,(gA c' _).1.trans hcid⟩⟩
theorem cDeal_any [LoM] (N cb:Nat)(g:Cfg)(c:aw)(a:aJ)(lw:Int)(b:List Int)(n:Nat)(bv:Value)(w:World)(h:ConAt N w cb g c a)(hi:ConInv g c)(hg:bM g){M:Int}(hok:ConOk M c)(hM:M<=1125899906842624)(hbv:RdB w bv b)(hl:b.length<=1073741823)(hn:b.length<=n)(hN:N+b.length<1125899906842624)(hE:∀W,Chg (bh cb a) w W->Env W):
  Calls Tryz.prog 152 #[.pointer (some ⟨cb,0,none⟩),bv] w fun e w'=>DealF w cb g c a (aL g lw c b n) (N+b.length) e w':=by
 have H0:Hid (∃(l:List Int) (c':aw) (a':aJ) (N' n':Nat),l.length<=n'/\aL g lw c' l n'=aL g lw c b n/\RdB w bv l/\ConAt N' w cb g c' a'/\ConKeep M g lw c c'/\N'+l.length<=N+b.length/\l.length<=b.length/\Chg (bh cb a) w w/\(∀k,bh cb a' k->bh cb a k\/w.heap.size<=k)/\UIn w.heap.size a a'):=
  ⟨b,c,a,N,n,hn,rfl,hbv,h,ConKeep.refl hok hi,Nat.le_refl _,Nat.le_refl _,Chg.refl _ _,fun k hk=>Or.inl hk,fun k hk=>Or.inl hk⟩
 obtain⟨_,_,ba,bc,rfl,_⟩:=id hbv
 have HEn:=ab hE
 have HG:=ab hg
 clear h hi hg hok hbv hE
 obtain⟨R,hR⟩:∃R,aL g lw c b n=R:=⟨_,rfl⟩
 rw[hR]at H0⊢
 clear hR
 go_enter Tryz.func152,Tryz.ntmps152
 go_wp2_with fail
 go_step3
 go_wp2_with fail
 go_step3
 go_wp2_with fail
 go_loopw [1,4,5] (fun v sv gv wr=>sv=.slice none 0 0/\gv=.bool false/\Hid (∃(l:List Int) (c':aw) (a':aJ) (N' n':Nat),l.length<=n'/\aL g lw c' l n'=R/\RdB wr v l/\ConAt N' wr cb g c' a'/\ConKeep M g lw c c'/\N'+l.length<=N+b.length/\l.length<=b.length/\Chg (bh cb a) w wr/\(∀k,bh cb a' k->bh cb a k\/w.heap.size<=k)/\UIn w.heap.size a a')) (fun v _ _ _=>vL v)
 case atStart=>exact⟨rfl,rfl,H0.out⟩
 case round=>
  obtain⟨rfl,rfl,HI⟩:=hrel
  obtain⟨l,c',a',N',n',hln,hfr,hrd,hcon,hkeep,hNl,hlb,hch,hin,hun⟩:=HI.out
  clear HI H0
  obtain⟨_,hl47,ao,cap,rfl,hcap,hcap2,_⟩:=id hrd
  have HR:=ab hrd
  have HC:=ab hcon
  have HK:=ab hkeep
  have HCh:=ab hch
  have HIn:=ab hin
  have HUn:=ab hun
  have HFr:=ab hfr
  clear hrd hcon hkeep hch hin hfr hun
  by_cases hl0:l.length=0
  ·have HE1:Hid (DealF w cb g c a R (N+b.length) (.returned (.tuple #[.slice none 0 0,.bool false])) wr):=by
    obtain rfl:l=[]:=List.length_eq_zero_iff.1 hl0
    have hF:aL g lw c' [] n' =⟨c',none,false⟩:=by cases n'<;>simp[aL]
    rw[<-HFr.out,hF]
    refine⟨⟨_,rfl,OutsAt.nil _ _⟩,HCh.out,fun _=>⟨a',HC.out.mono (by omega),HIn.out,HUn.out⟩,⟨_,_,_,_,_,HC.out.blk,HK.out.cid⟩⟩
   go_wp2_with fail
   go_ret2
   exact HE1.out
  ·have hp:0<l.length:=by omega
   have hlne:l≠[]:=fun e=>hl0 (by rw[e];rfl)
   obtain⟨m,rfl⟩:∃m,n'=m+1:=⟨n'-1,by omega⟩
   have HRF:=ab (ql l _ wr (HEn.out wr HCh.out) HR.out hp)
   have hgot:=HK.out.ok.got
   have hsent:=HK.out.ok.sent
   have hcid:=HK.out.ok.cid
   have HTell:Hid (∀(W:World) (k:Int),0<=k/\k<=1073741823->ConBlk W cb g c' a'.plv a'.sm a'.dm (bm c'.streams)->Calls Tryz.prog 163 #[.pointer (some ⟨cb,0,none⟩),.int .i64 k] W fun e w'=>TellOut W cb g c' a'.plv a'.sm a'.dm (bm c'.streams) ([19]++az k) e w'):=
    fun W k hk hb=>uu cb g c' a'.plv a'.sm a'.dm (bm c'.streams) k W hb hcid ⟨hgot.1,by omega⟩ ⟨hsent.1,by omega⟩ hk
   rcases frameR_is HR.out.1 hp with⟨hnone,hbad⟩|⟨f,size,hsome,hfr2,hty⟩
   ·have HRR:Hid (R =⟨c',some 7,true⟩):=by
     show _=_
     rw[<-HFr.out,qz hlne hnone]
    obtain⟨tv,htv,⟨ta,tc,rfl⟩,hrun⟩:=HR.out.drop (k:=0) (Nat.zero_le _)
    simp only[Int.natCast_zero,Nat.sub_zero]at hrun
    obtain⟨ll,hll⟩:∃ll,l.length=ll:=⟨_,rfl⟩
    rw[hll]at hrun HRF hp hl47 hcap⊢
    have hgt:decide ((0:Int)<(ll:Int))=true:=decide_eq_true (by omega)
    clear htv hll hlne hnone hl0
    go_wp2_with fail
    refine HRF.out.mono ?_
    intro e w1 hfo
    obtain⟨k,cv,rfl,hk,hne⟩:=hfo.bad hbad
    obtain⟨t1,a1,rfl⟩:=hne.form01
    have hb1:=ai hfo.bel (ag w1 (.cells cD 286))
    have hch1:Chg (bh cb a) w (w1.alloc (.cells cD 286)):=HCh.out.trans (Chg.of_below hb1)
    have HIs:=ab (oV k _ (w1.alloc (.cells cD 286)) (HEn.out _ hch1) (by omega) (hne.below (ag _ _)))
    have HB1:=ab hb1
    unfold cD at HIs HB1
    clear hfo hb1 hch1 HRF hne
    unfold cD
    go_wp2_with fail
    refine HIs.out.mono ?_
    rintro e w2 ⟨rfl,hb2⟩
    have HB2:=ab (ai HB1.out hb2)
    have HT:=ab (HTell.out w2 7 (by omega) (HC.out.blk.below HB2.out))
    clear hb2 HB1 HIs HTell
    go_wp2_with fail
    refine HT.out.mono ?_
    intro e w3 ho
    obtain⟨sv,rfl,hsv⟩:=ho.ret
    obtain⟨sa,sc,rfl⟩:=hsv.form
    have HE:=ab (DealF.closed (K:=N+b.length) HRR.out (HCh.out.trans (Chg.of_below HB2.out)) ho HK.out.cid)
    clear ho hsv HT
    go_wp2_with fail
    go_ret2
    exact HE.out
   ·obtain⟨hfo,hs0,hsl,hfl⟩:=rJ HR.out.1 hp hsome
    have hft:=frmP_type hfo
    have h5:=uP hsome
    have hbf:=mw HR.out.1 hsome
    have hok2:(kH l).2.bad=false:=by rw[hfr2]
    have hsz:((l.length:Int)-(l.drop size).length)=size:=by simp;omega
    obtain⟨tv,htv,⟨ta,tc,rfl⟩,hrun⟩:=HR.out.drop (k:=size) hsl
    have HTv:=ab htv
    have HOne:Hid (f.type≠6->∀(W:World) (pv:Value),Below wr.heap.size wr W->RdB W pv (ly f).bytes->Calls Tryz.prog 182 #[.pointer (some ⟨cb,0,none⟩),.agg (nx (ly f) pv)] W fun e w'=>OneC N' wr cb g c' a' (be g lw c' f) e w'):=by
     intro h6 W pv hW hpv
     exact(sO N' cb g c' a' f lw pv W (HC.out.below hW) HK.out.inv HG.out HK.out.ok (by omega) hfo h6 h5 (by omega) hpv).mono fun e w' ho=>ho.pre hW
    have hkst:=qA g lw c' f
    have HKs:Hid (ConKeep M g lw c (be g lw c' f).2):=HK.out.trans (mv HK.out.ok HK.out.inv hfo hbf (by have:=HG.out.c4;omega))
    have HCl:Hid (f.type=6->R =⟨c',none,true⟩):=fun h6=>by rw[<-HFr.out,oz hlne hsome h6]
    have HBr:Hid (f.type≠6->(be g lw c' f).1≠0->R =⟨c',some (be g lw c' f).1,true⟩):=fun h6 hz=>by rw[<-HFr.out,nu hlne hsome h6 hz]
    have HNx:Hid (f.type≠6->(be g lw c' f).1=0->aL g lw (be g lw c' f).2 (l.drop size) m=R):=fun h6 hz=>by rw[<-HFr.out,o9 hlne hsome h6 hz]
    have hdl:(l.drop size).length=l.length-size:=by simp
    have HNum:Hid ((l.drop size).length<=m/\N'+1+(l.drop size).length<=N+b.length/\(l.drop size).length<=b.length/\(l.drop size).length<l.length):=by
     refine⟨?_,?_,?_,?_⟩<;>omega
    obtain⟨S,hS⟩:∃S,be g lw c' f=S:=⟨_,rfl⟩
    rw[hS]at HOne hkst HKs HBr HNx
    rw[hfr2]at HRF
    have hFok:=fun(e:Ending) (W:World) (ho:FrmOut wr l (ly f,⟨l.drop size,false⟩) e W)=>ho.ok rfl
    simp only[hsz]at hFok
    have HFok:=ab hFok
    generalize ly f=p at HRF HFok HOne hft
    generalize l.drop size=rest at HRF HFok HTv HNx HNum hdl
    obtain⟨ll,hll⟩:∃ll,l.length=ll:=⟨_,rfl⟩
    obtain⟨rl,hrl⟩:∃rl,l.length-size=rl:=⟨_,rfl⟩
    rw[hrl]at hrun HTv
    rw[hll]at hrun HRF hp hl47 hcap hsl⊢
    have HLl:=ab hll
    have HRl:=ab hrl
    have HDl:=ab hdl
    have hgt:decide ((0:Int)<(ll:Int))=true:=decide_eq_true (by omega)
    have hsz1:(size:Int)<=(ll:Int):=by omega
    have HFt:=ab hft
    clear htv hll hrl hlne hsome hl0 hfr2 hok2 hFok hdl hsz h5 hbf hfl hfo hS hty hft
    go_wp2_with fail
    refine HRF.out.mono ?_
    intro e w1 hfo
    obtain⟨pv,rfl,hpv⟩:=HFok.out e w1 hfo
    obtain⟨_,_,pa,pc,rfl,_⟩:=id hpv
    obtain⟨pl,hpl⟩:∃pl,p.bytes.length=pl:=⟨_,rfl⟩
    have HPl:=ab hpl
    rw[hpl]at hpv⊢
    unfold nx
    have hb1:=ai hfo.bel (ag w1 (.cells #[.int .i64 p.type,.int .i64 p.id,.int .i64 p.ofs,.slice pa pl pc,.int .i64 p.en,.int .i64 p.proof] 286))
    have HPv:=ab (hpv.below (ag w1 (.cells #[.int .i64 p.type,.int .i64 p.id,.int .i64 p.ofs,.slice pa pl pc,.int .i64 p.en,.int .i64 p.proof] 286)))
    have HB1:=ab hb1
    have HXw:Hid ((w1.alloc (.cells #[.int .i64 p.type,.int .i64 p.id,.int .i64 p.ofs,.slice pa pl pc,.int .i64 p.en,.int .i64 p.proof] 286)).heap[w1.heap.size]? =some (.cells #[.int .i64 p.type,.int .i64 p.id,.int .i64 p.ofs,.slice pa pl pc,.int .i64 p.en,.int .i64 p.proof] 286 (0,0))):=heap_alloc_new w1 _
    clear hfo hb1 HRF hpv HFok hpl
    go_wp2_with fail
    refine(jK _).mono ?_
    rintro e w2 ⟨rfl,hb2⟩
    have HB2:=ab (ai HB1.out hb2)
    have HPv2:=ab (HPv.out.below hb2)
    have HX2:Hid (w2.heap[w1.heap.size]? =some (.cells #[.int .i64 p.type,.int .i64 p.id,.int .i64 p.ofs,.slice pa pl pc,.int .i64 p.en,.int .i64 p.proof] 286 (0,0))):=by
     show _=_
     rw[hb2.block _ (by simp)]
     exact HXw.out
    have y0:w2.cell? ⟨w1.heap.size,0,none⟩= some (.int .i64 p.type):=by simp only[World.cell?,HX2.out];rfl
    have y1:w2.cell? ⟨w1.heap.size,1,none⟩= some (.int .i64 p.id):=by simp only[World.cell?,HX2.out];rfl
    have y2:w2.cell? ⟨w1.heap.size,2,none⟩= some (.int .i64 p.ofs):=by simp only[World.cell?,HX2.out];rfl
    have y3:w2.cell? ⟨w1.heap.size,3,none⟩= some (.slice pa pl pc):=by simp only[World.cell?,HX2.out];rfl
    have y4:w2.cell? ⟨w1.heap.size,4,none⟩= some (.int .i64 p.en):=by simp only[World.cell?,HX2.out];rfl
    have y5:w2.cell? ⟨w1.heap.size,5,none⟩= some (.int .i64 p.proof):=by simp only[World.cell?,HX2.out];rfl
    clear hb2 HB1 HPv HXw HX2
    by_cases h6:p.type=6
    ·have hb6:(p.type==6)=true:=by rw[h6];rfl
     have HE:Hid (DealF w cb g c a R (N+b.length) (.returned (.tuple #[.slice none 0 0,.bool true])) w2):=by
      rw[HCl.out (HFt.out.symm.trans h6)]
      exact⟨⟨_,rfl,OutsAt.nil _ _⟩,HCh.out.trans (Chg.of_below HB2.out),fun h=>(by cases h),⟨_,_,_,_,_,HC.out.blk.below HB2.out,HK.out.cid⟩⟩
     clear h6
     go_wp2_with fail
     go_ret2
     exact HE.out
    ·have hb6:(p.type==6)=false:=beq_eq_false_iff_ne.2 h6
     have h6':f.type≠6:=fun e=>h6 (HFt.out.trans e)
     have HO:=ab (HOne.out h6' w2 (.slice pa pl pc) HB2.out (by rw[<-HPl.out]at HPv2⊢;exact HPv2.out))
     unfold nx at HO
     clear HOne
     go_wp2_with fail
     refine HO.out.mono ?_
     intro e w3 ho
     have hret:=ho.ret
     subst hret
     have HO3:=ab ho
     clear ho HO y0 y1 y2 y3 y4 y5
     by_cases hz:S.1=0
     ·have hzb:(S.1==0)=true:=by rw[hz];rfl
      obtain⟨a2,hA2,hin2,hun2⟩:=HO3.out.con hz
      have HRel:Hid (∃(l:List Int) (c':aw) (a':aJ) (N' n':Nat),l.length<=n'/\aL g lw c' l n'=R/\RdB w3 (.slice ta rl tc) l/\ConAt N' w3 cb g c' a'/\ConKeep M g lw c c'/\N'+l.length<=N+b.length/\l.length<=b.length/\Chg (bh cb a) w w3/\(∀k,bh cb a' k->bh cb a k\/w.heap.size<=k)/\UIn w.heap.size a a'):=by
       refine⟨rest,S.2,a2,N'+1,m,HNum.out.1,HNx.out h6' hz,?_,hA2,HKs.out,HNum.out.2.1,HNum.out.2.2.1,chg_in2 HCh.out HIn.out HO3.out.chg,fun k hk=>?_,fun k hk=>(hun2 k hk).elim (fun h1=>HUn.out k h1) (fun h1=>Or.inr (Nat.le_trans HCh.out.size h1))⟩
       ·refine HTv.out.chg HO3.out.chg (fun k cur fr hk hF=>?_) (fun k hk=>?_)
        ·exact nm HC.out hk hF
        ·rcases HIn.out k hk with h1|h1
         ·exact pq HEn.out h1
         ·have:=(HEn.out w (Chg.refl _ _)).lo
          omega
       ·rcases hin2 k hk with h1|h1
        ·exact HIn.out k h1
        ·exact Or.inr (Nat.le_trans HCh.out.size h1)
      clear HO3 hA2 hin2 hun2
      go_wp2_with fail
      go_roundw
      case rel=>exact⟨rfl,rfl,HRel.out⟩
      case measure=>
       have:=HNum.out.2.2.2
       have:=HDl.out
       have:=HRl.out
       have:=HLl.out
       simp[vL]
       omega
     ·have hzb:(S.1==0)=false:=beq_eq_false_iff_ne.2 hz
      have HT:=ab (HTell.out w3 S.1 (by omega) (HO3.out.blk hz))
      have HRR:=ab (HBr.out h6' hz)
      clear HTell
      go_wp2_with fail
      refine HT.out.mono ?_
      intro e w4 ho
      obtain⟨sv,rfl,hsv⟩:=ho.ret
      obtain⟨sa,sc,rfl⟩:=hsv.form
      have HE:=ab (DealF.closed (K:=N+b.length) HRR.out (chg_in2 HCh.out HIn.out HO3.out.chg) ho HK.out.cid)
      clear ho hsv HT
      go_wp2_with fail
      go_ret2
      exact HE.out
theorem u_close{w w2 w3:World}{rb off:Nat}{cs:Array Value}{t:TypeId}{lv lv':Value}{vs vs':List bn}{rl rl':List aO}(h:u_RunsAt w lv vs rl)(hblk:w.heap[rb]? =some (.cells cs t (0,0)))(ht1:t≠279)(hb2:Below w.heap.size w w2)(hsh:Shape vs' rl')
  (hown:w3.ownsRow 0 279 2 lv' vs'.length (aC vs')) (hg:w2.grownBy w3 lv.ownBlock) (hat:lv'.ownBlock=lv.ownBlock):
  w3.heap[rb]? =some (.cells cs t (0,0))/\dV w rb off cs t lv vs rl' (w3.setCell ⟨rb,off,none⟩ lv') lv' vs':=by
 have hrl:rb<w.heap.size:=(aLt hblk)
 have hnb:lv.ownBlock≠some rb:=ax h.own hblk (fun e=>ht1 e.symm)
 have hrb3:w3.heap[rb]? =some (.cells cs t (0,0)):=by rw[hg.block rb (Nat.lt_of_lt_of_le hrl hb2.size) (Ne.symm hnb),hb2.block rb hrl];exact hblk
 refine⟨hrb3,?_⟩
 have hch:Chg (fun k=>k=rb\/lv.ownBlock=some k) w (w3.setCell ⟨rb,off,none⟩ lv'):=by
  refine⟨hg.os.trans hb2.os,hg.tape.trans hb2.tape,hg.output.trans hb2.output,by rw[World.size_setCell];exact Nat.le_trans hb2.size hg.size,fun k hk hn=>?_⟩
  rw[heap_setCell_other _ _ _ _ (show k≠rb from fun e=>hn (Or.inl e)),hg.block k (Nat.lt_of_lt_of_le hk hb2.size) (fun e=>hn (Or.inr e.symm)),hb2.block k hk]
 refine⟨(al hrb3 off lv').trans rfl,⟨?_,hsh⟩,hch,Or.inl hat⟩
 exact ownsRow_setCell_other hown (ax hown hrb3 (fun e=>ht1 e.symm)) _
theorem nQ(r:aO)(rest:List aO)(lv:Value)(vs:List bn)(rb off:Nat)(cs:Array Value)(t:TypeId)(w:World)(hblk:w.heap[rb]? =some (.cells cs t (0,0)))(hcell:cs[off]? =some lv)(ht1:t≠279)(h:u_RunsAt w lv vs (r::rest))(hf:RunsFit (r::rest)):
  Calls Tryz.prog 151 #[.pointer (some ⟨rb,off,none⟩)] w fun e w'=>e=.returned (.int .i64 (au r))/\∃lv' vs',dV w rb off cs t lv vs rest w' lv' vs':=by
 have hc0:w.cell? ⟨rb,off,none⟩= some lv:=by simp only[World.cell?,hblk];exact hcell
 have hfar:=hf.far r (by simp)
 have hb0:au r=r.1+r.2.length:=rfl
 have hvl:vs.length=rest.length+1:=by rw[h.sh.1];rfl
 have hfew:=hf.few
 obtain⟨v0,vt,rfl⟩:∃v0 vt,vs=v0::vt:=by
  cases vs with
  |nil=>simp at hvl
  |cons a b=>exact⟨a,b,rfl⟩
 obtain⟨e1,ia,ic,e2,hic⟩:=h.sh.2 0 v0 r rfl rfl
 obtain⟨f0,iv0⟩:=v0
 simp only at e1 e2 hic
 subst e1 e2
 rcases h.own.2 with⟨_,h0⟩|⟨g,cap,cur,e4,_,hg,hnc,hcm,hcs,htk⟩
 ·simp at h0
 subst e4
 obtain⟨vl,hvl2⟩:∃vl,vl=((r.1,Value.slice ia r.2.length ic)::vt:List bn).length:=⟨_,rfl⟩
 have q:=eH (l:=(r.1,Value.slice ia r.2.length ic)::vt) (k:=0) rfl
 have d1:w.cell? ⟨g,0,none⟩= some (.int .i64 r.1):=by rw[h.own.cellAt 0 (by simp)];exact q.1
 have d2:w.cell? ⟨g,1,none⟩= some (.slice ia r.2.length ic):=by rw[h.own.cellAt 1 (by simp;omega)];exact q.2
 have hl0:0<vl:=by rw[hvl2];simp
 have HX:Hid (∀W,Calls Tryz.prog 176 #[.agg #[.int .i64 r.1,.slice ia r.2.length ic]] W fun e w'=>e=.returned (.int .i64 (r.1+r.2.length))/\Below W.heap.size W w'):=fun W=>fh r.1 r.2.length ic ia W (by omega) (by omega)
 have HDel:Hid (∀w2:World,Below w.heap.size w w2->Calls Tryz.prog 180 #[.slice (some ⟨g,0,none⟩) vl cap,.int .i64 0,.int .i64 1] w2 fun e w'=>∃lv' m,e=.returned lv'/\Hid (m=vt.length)/\w'.ownsRow 0 279 2 lv' m (aC vt)/\w2.grownBy w' (Value.slice (some ⟨g,0,none⟩) vl cap).ownBlock/\lv'.ownBlock=(Value.slice (some ⟨g,0,none⟩) vl cap).ownBlock):=by
  intro w2 hw2
  rw[hvl2]
  exact(tL _ vt _ w2 (aF h.own hw2) (by simp at hvl hfew⊢;omega) h.sh.one).mono (fun e w' ⟨lv',h1,h2,h3,h4⟩=>⟨lv',_,h1,rfl,h2,h3,h4⟩)
 have HEnd:Hid (∀(w2 w3:World) (lv':Value) (m:Nat),Below w.heap.size w w2->Hid (m=vt.length)->w3.ownsRow 0 279 2 lv' m (aC vt)->w2.grownBy w3 (Value.slice (some ⟨g,0,none⟩) vl cap).ownBlock->lv'.ownBlock=(Value.slice (some ⟨g,0,none⟩) vl cap).ownBlock->
   w3.heap[rb]? =some (.cells cs t (0,0))/\dV w rb off cs t (.slice (some ⟨g,0,none⟩) vl cap) ((r.1,.slice ia r.2.length ic)::vt) rest (w3.setCell ⟨rb,off,none⟩ lv') lv' vt):=by
  intro w2 w3 lv' m hw2 hm ho hg ha
  rw[hm.out]at ho
  have hsh:=h.sh
  rw[<-hvl2]at h
  exact u_close h hblk ht1 hw2 ⟨by have:=hsh.1;simpa using this,fun i v q hv hq=>hsh.2 (i+1) v q hv hq⟩ ho hg ha
 have hcell':cs[off]? =some (.slice (some ⟨g,0,none⟩) vl cap):=by rw[hvl2];exact hcell
 rw[<-hvl2]at hc0⊢
 have HHC:=ab hvl2
 clear h hblk hg hnc hcs htk hvl hvl2 q hf hcell
 go_enter Tryz.func151,Tryz.ntmps151
 go_wp2_with fail
 refine(HX.out w).mono ?_
 rintro e w1 ⟨rfl,hb1⟩
 have c:=ae hc0 hb1
 go_wp2_with fail
 refine(HDel.out w1 hb1).mono ?_
 rintro e w3 ⟨lv',m,rfl,hmv,ho,hgr,hat⟩
 obtain⟨hrb3,hfo⟩:=HEnd.out w1 w3 lv' m hb1 hmv ho hgr hat
 obtain⟨la',lc',rfl⟩:=bd ho
 have d3:w3.cell? ⟨rb,off,none⟩= some (.slice (some ⟨g,0,none⟩) vl cap):=(by simp only[World.cell?,hrb3];exact hcell')
 have z3:w3.frozen? ⟨rb,off,none⟩= false:=frozen_of_row w3 rb off _ _ hrb3
 replace hfo:=ab hfo
 clear hrb3 ho hgr hat HDel HEnd c hc0 hb1
 go_wp2_with fail
 go_ret
 exact⟨rfl,_,vt,hfo.out⟩
theorem ur(cb:Nat)(g:Cfg)(c:aw)(plv:Value)(sm dm:Nat)(past:Int)(w:World)(h:ConBlk w cb g c plv sm dm past):
  Calls Tryz.prog 51 #[.pointer (some ⟨cb,0,none⟩)] w fun e w'=>e=.returned (.int .i64 c.cid)/\w=w':=by
 have d:w.cell? ⟨cb,10,none⟩= some (.int .i64 c.cid):=h.cell 10
 go_enter Tryz.func51,Tryz.ntmps51
 go_wp2_with fail
 go_ret
 exact⟨rfl,rfl⟩
theorem mq(cb:Nat)(g:Cfg)(c:aw)(plv:Value)(sm dm:Nat)(past:Int)(w:World)(h:ConBlk w cb g c plv sm dm past):
  Calls Tryz.prog 94 #[.pointer (some ⟨cb,0,none⟩)] w fun e w'=>e=.returned (.int .i64 c.addr)/\w=w':=by
 have d:w.cell? ⟨cb,11,none⟩= some (.int .i64 c.addr):=h.cell 11
 go_enter Tryz.func94,Tryz.ntmps94
 go_wp2_with fail
 go_ret
 exact⟨rfl,rfl⟩
theorem iN(cb:Nat)(g:Cfg)(c:aw)(plv:Value)(sm dm:Nat)(past:Int)(w:World)(h:ConBlk w cb g c plv sm dm past):
  Calls Tryz.prog 42 #[.pointer (some ⟨cb,0,none⟩)] w fun e w'=>e=.returned (.bool c.proven)/\w=w':=by
 have d:w.cell? ⟨cb,12,none⟩= some (.bool c.proven):=h.cell 12
 go_enter Tryz.func42,Tryz.ntmps42
 go_wp2_with fail
 go_ret
 exact⟨rfl,rfl⟩
theorem o5(cb:Nat)(g:Cfg)(c:aw)(plv:Value)(sm dm:Nat)(past size:Int)(w:World)(h:ConBlk w cb g c plv sm dm past)(hg:0<=c.got/\c.got<=1125899906842624)(hs:0<=size/\size<=1125899906842624):
  Calls Tryz.prog 95 #[.pointer (some ⟨cb,0,none⟩),.int .i64 size] w fun e w'=>e=.returned (.tuple #[])/\ConBlk w' cb g {c with got:=c.got+size} plv sm dm past/\Chg (· = cb) w w':=by
 have d:w.cell? ⟨cb,13,none⟩= some (.int .i64 c.got):=h.cell 13
 have z:=h.free 13
 have hw:IntKind.i64.wrap (c.got+size)=c.got+size:=by rw[IntKind.wrap_i64];omega
 have HH:=ab h
 clear h
 go_enter Tryz.func95,Tryz.ntmps95
 go_wp2_with fail
 go_end0
 exact⟨rfl,al HH.out 13 _,aI (Below.refl _ _) 13 _⟩
theorem nr(cb:Nat)(g:Cfg)(c:aw)(plv:Value)(sm dm:Nat)(past now:Int)(w:World)(h:ConBlk w cb g c plv sm dm past):
  Calls Tryz.prog 97 #[.pointer (some ⟨cb,0,none⟩),.int .i64 now] w fun e w'=>e=.returned (.tuple #[])/\ConBlk w' cb g {c with heard:=now} plv sm dm past/\Chg (· = cb) w w':=by
 have d:w.cell? ⟨cb,15,none⟩= some (.int .i64 c.heard):=h.cell 15
 have z:=h.free 15
 have HH:=ab h
 clear h
 go_enter Tryz.func97,Tryz.ntmps97
 go_wp2_with fail
 go_end0
 exact⟨rfl,al HH.out 15 _,aI (Below.refl _ _) 15 _⟩
theorem ConAt.repack{N:Nat}{w w':World}{cb:Nat}{g:Cfg}{c c':aw}{a:aJ}{plv':Value}(h:ConAt N w cb g c a)(hc:Chg (fun k=>k=cb\/a.plv.ownBlock=some k) w w')(hb:ConBlk w' cb g c' plv' a.sm a.dm (bm c.streams))(hr:∃vs,u_RunsAt w' plv' vs (cW c'.runs))(hs:c'.streams=c.streams)(hat:plv'.ownBlock=a.plv.ownBlock\/∀k,plv'.ownBlock=some k->w.heap.size<=k):
  ConAt N w' cb g c' {a with plv:=plv'}/\∀k,bh cb {a with plv:=plv'} k->bh cb a k\/w.heap.size<=k:=by
 obtain⟨vs,hvs⟩:=h.pk
 have hne:∀k cur e fr,w.heap[k]? =some (.cells cur e fr)->e≠137->e≠279->¬(k=cb\/a.plv.ownBlock=some k):=by
  rintro k cur e fr hk h1 h3 (e1|e1)
  ·have h2:=h.blk
   unfold ConBlk at h2
   rw[<-e1,hk]at h2
   simp only[Option.some.injEq,Obj.cells.injEq]at h2
   exact h1 h2.2.1
  ·exact ax hvs.own hk (fun e=>h3 e.symm) e1
 have hnm:∀k es ck,w.heap[k]? =some (.map es ck)->¬(k=cb\/a.plv.ownBlock=some k):=by
  rintro k es ck hk (e1|e1)
  ·have h2:=h.blk
   unfold ConBlk at h2
   rw[<-e1,hk]at h2
   cases h2
  ·obtain⟨c1,e2⟩:=aQ hvs.own e1
   rw[hk]at e2
   cases e2
 obtain⟨n1,hn1,hm1⟩:=h.smap
 obtain⟨n2,hn2,hm2⟩:=h.dmap
 obtain⟨es1,ck1,hb1⟩:=hm1.is_map
 obtain⟨es2,ck2,hb2⟩:=hm2.is_map
 refine⟨⟨by rw[hs];exact hb,hr,⟨n1,hn1,hm1.same (hc.block _ hm1.lt (hnm _ _ _ hb1))⟩,⟨n2,hn2,hm2.same (hc.block _ hm2.lt (hnm _ _ _ hb2))⟩,by rw[hs];exact h.mp,fun p hp x hx=>?_,fun id=>by rw[hs];exact h.don id,h.ne,h.apart,fun k hk=>Nat.lt_of_lt_of_le (h.ul k hk) hc.size⟩,?_⟩
 ·rw[hs]at hx
  have hsx:=h.str p hp x hx
  obtain⟨vs1,ho1⟩:=hsx.own
  refine hsx.chg hc (hne _ _ _ _ hsx.blk (by decide) (by decide)) (fun k hk e=>?_) (fun k cur fr hk=>hne k cur _ fr hk (by decide) (by decide))
  obtain⟨c1,e1⟩:=aQ ho1 hk
  exact hne _ _ _ _ e1 (by decide) (by decide) e
 ·rintro k (e|e|e|e|e)
  ·exact Or.inl (Or.inl e)
  ·rcases hat with h1|h1
   ·rw[show plv'.ownBlock=some k from e]at h1
    exact Or.inl (Or.inr (Or.inl h1.symm))
   ·exact Or.inr (h1 k e)
  ·exact Or.inl (Or.inr (Or.inr (Or.inl e)))
  ·exact Or.inl (Or.inr (Or.inr (Or.inr (Or.inl e))))
  ·exact Or.inl (Or.inr (Or.inr (Or.inr (Or.inr e))))
theorem rW{rs:List (Int×Int)}(hw:PWf rs)(hl:rs.length<=100)(hr:∀r∈rs,0<=r.1/\r.1<=r.2/\r.2<=1073741823):RunsFit (cW rs) where
 wf:=pP hw
 few:=by simp[cW];exact hl
 far:=fun r hr'=>by
  simp only[cW,List.mem_map]at hr'
  obtain⟨q,hq,rfl⟩:=hr'
  have:=hr q hq
  rw[iV (by omega)]
  simp only
  omega
structure np(N:Nat)(w:World)(cb:Nat)(g:Cfg)(c:aw)(a:aJ)(r:Option aw)(e:Ending)(w':World):Prop where
 ret:e=.returned (.bool r.isSome)
 chg:Chg (bh cb a) w w'
 con:∃a',ConAt N w' cb g (r.getD c) a'/\(∀k,bh cb a' k->bh cb a k\/w.heap.size<=k)/\UIn w.heap.size a a'
theorem wN{c:aw}{n:Int}(h:n<c.mark):dy c n=none:=by
 unfold dy jT
 rw[if_pos h]
 rfl
theorem comesC_in{g:Cfg}{c:aw}{n:Int}(hi:ConInv g c)(hn:InR c.runs n):dy c n=none:=by
 unfold dy jT
 split
 ·rfl
 ·rw[(jU hi.runs n).1 hn]
  rfl
theorem wO{g:Cfg}{c:aw}{n:Int}(hi:ConInv g c)(hm:¬n<c.mark)(hn:¬InR c.runs n):∃rs',PWf rs'/\dI (cW c.runs) n [0]=cW rs'/\0<rs'.length/\rs'.length<=c.runs.length+1/\(∀p,InR rs' p↔p=n\/InR c.runs p)/\
  dy c n=some (if 4<rs'.length then {c with mark:=(rs'.getD 0 (0,0)).2+1,runs:=rs'.drop 1} else {c with runs:=rs'}):=by
 obtain⟨st,rs',e1,e2,h1,h2,h3,h4,h5⟩:=(jU hi.runs n).2 hn
 refine⟨rs',h1,h2,h3,h4,h5,?_⟩
 unfold dy jT
 rw[if_neg hm,e1]
 simp only[Option.map_some,e2]
 split<;>rfl
theorem chg_pk{w w1 w2:World}{cb:Nat}{p p1:Value}(h:Chg (fun k=>k=cb\/p.ownBlock=some k) w w1)(hp:p1.ownBlock=p.ownBlock\/∀k,p1.ownBlock=some k->w.heap.size<=k)(h2:Chg (fun k=>k=cb\/p1.ownBlock=some k) w1 w2):Chg (fun k=>k=cb\/p.ownBlock=some k) w w2:=
 ⟨h2.os.trans h.os,h2.tape.trans h.tape,h2.output.trans h.output,Nat.le_trans h.size h2.size,fun k hk hn=>by
  rw[h2.block k (Nat.lt_of_lt_of_le hk h.size) (fun h3=>?_),h.block k hk hn]
  rcases h3 with h3|h3
  ·exact hn (Or.inl h3)
  ·rcases hp with h4|h4
   ·exact hn (Or.inr (h4▸h3))
   ·have:=h4 k h3;omega⟩
theorem ux(N cb:Nat)(g:Cfg)(c:aw)(a:aJ)(num:Int)(w:World)(h:ConAt N w cb g c a)(hi:ConInv g c){M:Int}(hok:ConOk M c)(hn:0<=num/\num<=1073741823):
  Calls Tryz.prog 96 #[.pointer (some ⟨cb,0,none⟩),.int .i64 num] w fun e w'=>np N w cb g c a (dy c num) e w':=by
 have c16:w.cell? ⟨cb,16,none⟩= some (.int .i64 c.mark):=h.blk.cell 16
 have c17:w.cell? ⟨cb,17,none⟩= some a.plv:=h.blk.cell 17
 by_cases hlt:num<c.mark
 ·rw[wN hlt]
  have HE:Hid (np N w cb g c a none (.returned (.bool false)) w):=⟨rfl,Chg.refl _ _,a,h,fun k hk=>Or.inl hk,fun k hk=>Or.inl hk⟩
  clear h hi hok c17
  go_enter Tryz.func96,Tryz.ntmps96
  go_wp2_with fail
  go_ret
  exact HE.out
 ·obtain⟨vs,hvs⟩:=h.pk
  have hrl:=hok.runs
  have hfit:=rW hi.runs (by omega) hrl.2
  have hvl:vs.length<=1000:=by rw[hvs.sh.1];simp[cW];omega
  have HCv:=ab (tK vs (cW c.runs) a.plv num (num+1) cb 17 w c17 hvs.own hvs.sh hfit.wide hvl)
  have hw:IntKind.i64.wrap (num+1)=num+1:=by rw[IntKind.wrap_i64];omega
  have hcov:=sR hi.runs num
  by_cases hin:InR c.runs num
  ·rw[hcov.2 hin]at HCv
   rw[comesC_in hi hin]
   have HE:Hid (∀W,Below w.heap.size w W->np N w cb g c a none (.returned (.bool false)) W):=fun W hW=>⟨rfl,Chg.of_below hW,a,h.below hW,fun k hk=>Or.inl hk,fun k hk=>Or.inl hk⟩
   clear h hi hok hvs hrl hfit hcov hin c17
   go_enter Tryz.func96,Tryz.ntmps96
   go_wp2_with fail
   refine HCv.out.mono ?_
   rintro e w1 ⟨rfl,hb1⟩
   have HB:=ab hb1
   clear hb1 HCv
   go_wp2_with fail
   go_ret
   exact HE.out _ HB.out
  ·have hcf:bu (cW c.runs) num (num+1)=false:=by
    cases hc:bu (cW c.runs) num (num+1) with
    |true=>exact absurd (hcov.1 hc) hin
    |false=>rfl
   rw[hcf]at HCv
   obtain⟨rs',hpw,hfill,hpos,hlen,hinr,hcom⟩:=wO hi hlt hin
   obtain⟨R,hRR⟩:∃R,dy c num=R:=⟨_,rfl⟩
   rw[hRR]at hcom⊢
   have HCom:=ab hcom
   have hrg:∀r∈rs',0<=r.1/\r.1<=r.2/\r.2<=1073741823:=by
    intro r hr
    have hr0:=ka hpw hr
    have hb:∀p,InR rs' p->0<=p/\p<=1073741823:=by
     intro p hp
     rcases(hinr p).1 hp with rfl|⟨q,hq,h1,h2⟩
     ·exact hn
     ·have:=hrl.2 q hq;omega
    have h1:=hb r.1 ⟨r,hr,Int.le_refl _,hr0⟩
    have h2:=hb r.2 ⟨r,hr,hr0,Int.le_refl _⟩
    omega
   have hfit':=rW hpw (by omega) hrg
   have HFl:Hid (∀(W:World) (B:Nat),Below w.heap.size w W->Calls Tryz.prog 149 #[.pointer (some ⟨cb,17,none⟩),.int .i64 num,.slice (some ⟨B,0,none⟩) 1 1] W fun e w'=>e=.returned (.tuple #[])/\∃lv' vs',dV W cb 17 (kp g c a.plv a.sm a.dm (bm c.streams)) 137 a.plv vs (cW rs') w' lv' vs'):=by
    intro W B hW
    have h9:=u_Fill_any num [0] (.slice (some ⟨B,0,none⟩) 1 1) a.plv vs (cW c.runs) cb 17 _ 137 W (h.blk.below hW) rfl (by decide) (hvs.below hW) hfit ⟨_,_,rfl⟩ (by simp) (by simp;omega)
    rw[hfill]at h9
    exact h9
   have HDr:Hid (∀(W:World) (lv':Value) (vs':List bn),4<rs'.length->ConBlk W cb g c lv' a.sm a.dm (bm c.streams)->u_RunsAt W lv' vs' (cW rs')->Calls Tryz.prog 151 #[.pointer (some ⟨cb,17,none⟩)] W fun e w'=>e=.returned (.int .i64 ((rs'.getD 0 (0,0)).2+1))/\∃lv2 vs2,dV W cb 17 (kp g c lv' a.sm a.dm (bm c.streams)) 137 lv' vs' (cW (rs'.drop 1)) w' lv2 vs2):=by
    intro W lv' vs' h4 hb hr
    cases rs' with
    |nil=>simp at h4
    |cons r0 rt=>
     have hr0:=ka hpw (List.mem_cons_self (a:=r0) (l:=rt))
     have h9:=nQ (r0.1,List.replicate (r0.2-r0.1+1).toNat 0) (cW rt) lv' vs' cb 17 _ 137 W hb rfl (by decide) hr hfit'
     rw[iV hr0]at h9
     exact h9
   have HAt:=ab h
   have HN1:=ab hlen
   have HCnt:Hid (∀(W:World) (lv':Value) (vs':List bn),u_RunsAt W lv' vs' (cW rs')->vs'.length=rs'.length):=fun W lv' vs' hr=>by rw[hr.sh.1];simp[cW]
   have HEnd:Hid (∀(W w3:World) (lv':Value) (vs':List bn),Below w.heap.size w W->dV W cb 17 (kp g c a.plv a.sm a.dm (bm c.streams)) 137 a.plv vs (cW rs') w3 lv' vs'->np N w cb g c a (some {c with runs:=rs'}) (.returned (.bool true)) w3):=by
    intro W w3 lv' vs' hW ho
    have hc1:Chg (fun k=>k=cb\/a.plv.ownBlock=some k) w w3:=(Chg.of_below hW).trans ho.chg
    have hat:lv'.ownBlock=a.plv.ownBlock\/∀k,lv'.ownBlock=some k->w.heap.size<=k:=ho.at_.elim Or.inl (fun h1=>Or.inr fun k hk=>Nat.le_trans hW.size (h1 k hk))
    obtain⟨q1,q2⟩:=h.repack (c':={c with runs:=rs'}) hc1 ho.blk ⟨vs',ho.runs⟩ rfl hat
    exact⟨rfl,hc1.mono fun k _ hk=>hk.elim Or.inl (fun h1=>Or.inr (Or.inl h1)),_,q1,q2,fun k hk=>Or.inl hk⟩
   have HEnd2:Hid (∀(W w3 w4:World) (lv' lv2:Value) (vs' vs2:List bn),Below w.heap.size w W->dV W cb 17 (kp g c a.plv a.sm a.dm (bm c.streams)) 137 a.plv vs (cW rs') w3 lv' vs'->dV w3 cb 17 (kp g c lv' a.sm a.dm (bm c.streams)) 137 lv' vs' (cW (rs'.drop 1)) w4 lv2 vs2->np N w cb g c a (some {c with mark:=(rs'.getD 0 (0,0)).2+1,runs:=rs'.drop 1}) (.returned (.bool true)) (w4.setCell ⟨cb,16,none⟩ (.int .i64 ((rs'.getD 0 (0,0)).2+1)))):=by
    intro W w3 w4 lv' lv2 vs' vs2 hW ho ho2
    have hc1:Chg (fun k=>k=cb\/a.plv.ownBlock=some k) w w3:=(Chg.of_below hW).trans ho.chg
    have hat:lv'.ownBlock=a.plv.ownBlock\/∀k,lv'.ownBlock=some k->w.heap.size<=k:=ho.at_.elim Or.inl (fun h1=>Or.inr fun k hk=>Nat.le_trans hW.size (h1 k hk))
    have hc2:=chg_pk hc1 hat ho2.chg
    have hc3:Chg (fun k=>k=cb\/a.plv.ownBlock=some k) w (w4.setCell ⟨cb,16,none⟩ (.int .i64 ((rs'.getD 0 (0,0)).2+1))):=hc2.trans ((aI (Below.refl _ _) 16 _).mono fun k _ e=>Or.inl e)
    have hat2:lv2.ownBlock=a.plv.ownBlock\/∀k,lv2.ownBlock=some k->w.heap.size<=k:=by
     rcases ho2.at_ with h1|h1
     ·rw[h1];exact hat
     ·exact Or.inr fun k hk=>Nat.le_trans hc1.size (h1 k hk)
    have hrun:u_RunsAt (w4.setCell ⟨cb,16,none⟩ (.int .i64 ((rs'.getD 0 (0,0)).2+1))) lv2 vs2 (cW (rs'.drop 1)):=
     ⟨bX ho2.runs.own (aI (Below.refl _ _) 16 _) (fun k hk e=>by subst e;exact ax ho2.runs.own ho2.blk (by decide) hk),ho2.runs.sh⟩
    obtain⟨q1,q2⟩:=h.repack (c':={c with mark:=(rs'.getD 0 (0,0)).2+1,runs:=rs'.drop 1}) hc3 (al ho2.blk 16 _) ⟨vs2,hrun⟩ rfl hat2
    exact⟨rfl,hc3.mono fun k _ hk=>hk.elim Or.inl (fun h1=>Or.inr (Or.inl h1)),_,q1,q2,fun k hk=>Or.inl hk⟩
   clear h hi hok hvs hrl hfit hcov hin hcf hcom hRR hfill hpw hrg hfit' hinr c17
   go_enter Tryz.func96,Tryz.ntmps96
   go_wp2_with fail
   refine HCv.out.mono ?_
   rintro e w1 ⟨rfl,hb1⟩
   have HB:=ab hb1
   clear hb1 HCv
   go_wp2_with fail
   refine(HFl.out _ _ (ai HB.out (ag _ _))).mono ?_
   rintro e w3 ⟨rfl,lv',vs',ho⟩
   have hblk3:ConBlk w3 cb g c lv' a.sm a.dm (bm c.streams):=ho.blk
   obtain⟨la,lc,rfl⟩:=bd ho.runs.own
   have hcell:w3.cell? ⟨cb,17,none⟩= some (.slice la vs'.length lc):=hblk3.cell 17
   have HCt:=ab (vW vs' la lc cb 17 w3 hcell)
   have hcnt:=HCnt.out w3 _ vs' ho.runs
   have HO3:=ab (HEnd.out _ w3 _ vs' (ai HB.out (ag _ _)) ho)
   have HO4:=ab (fun w4 lv2 vs2 h2=>HEnd2.out _ w3 w4 _ lv2 vs' vs2 (ai HB.out (ag _ _)) ho h2)
   have HD3:=ab (fun h4=>HDr.out w3 _ vs' h4 hblk3 ho.runs)
   have HBk3:=ab hblk3
   have HCn:=ab hcnt
   clear ho hblk3 hcell hcnt HFl HEnd HEnd2 HDr HCnt
   go_wp2_with fail
   refine HCt.out.mono ?_
   rintro e w3' ⟨rfl,rfl⟩
   clear HCt
   by_cases h4:4<rs'.length
   ·have hgt:(4:Int)<(vs'.length:Int):=by have:=HCn.out;omega
    have HR4:Hid (R=some {c with mark:=(rs'.getD 0 (0,0)).2+1,runs:=rs'.drop 1}):=by
     show _=_
     rw[HCom.out,if_pos h4]
    have HD4:=ab (HD3.out h4)
    clear HD3 HO3
    generalize (rs'.getD 0 (0,0)).2+1=mk at HD4 HO4 HR4
    go_wp2_with fail
    refine HD4.out.mono ?_
    rintro e w4 ⟨rfl,lv2,vs2,ho2⟩
    have hb4:ConBlk w4 cb g c lv2 a.sm a.dm (bm c.streams):=ho2.blk
    have d16:w4.cell? ⟨cb,16,none⟩= some (.int .i64 c.mark):=hb4.cell 16
    have z16:=hb4.free 16
    have HE:=ab (HO4.out w4 lv2 vs2 ho2)
    clear ho2 hb4 HD4 HO4
    go_wp2_with fail
    go_ret
    rw[HR4.out]
    exact HE.out
   ·have hle:(vs'.length:Int)<=4:=by have:=HCn.out;omega
    have HR4:Hid (R=some {c with runs:=rs'}):=by
     show _=_
     rw[HCom.out,if_neg h4]
    go_wp2_with fail
    go_ret
    rw[HR4.out]
    exact HO3.out
end Go.Proofs.YthmdjhlhodpbhaaGreatDoor
