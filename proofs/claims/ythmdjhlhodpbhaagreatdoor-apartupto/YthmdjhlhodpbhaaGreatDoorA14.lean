/- Apart, 14 -/
import Derived.Test.YthmdjhlhodpbhaaGreatDoorA03
set_option maxHeartbeats 16000000
set_option maxRecDepth 8000
namespace Go.Proofs.YthmdjhlhodpbhaaGreatDoor
open Go.RowKit
structure RdAt [LoM] (w:World)(rb:Nat)(rv ev:Value)(r:Rd):Prop where
 blk:w.heap[rb]? =some (.cells #[rv,ev] 151 (0,0))
 rd:RdB w rv r.rest
 low:LoM.lo<=rb
 ok:r.bad=false->ev=.nilIface
 no:r.bad=true->∃k,(k=1\/k=2)/\NErr w k ev
def ug [LoM] (w:World)(rb:Nat)(r:Rd)(w':World):Prop:=∃rv ev,RdAt w' rb rv ev r/\Chg (· = rb) w w'
theorem RdAt.c0 [LoM] {w:World}{rb:Nat}{rv ev:Value}{r:Rd}(h:RdAt w rb rv ev r):w.cell? ⟨rb,0,none⟩= some rv:=by simp only[World.cell?,h.blk];rfl
theorem RdAt.c1 [LoM] {w:World}{rb:Nat}{rv ev:Value}{r:Rd}(h:RdAt w rb rv ev r):w.cell? ⟨rb,1,none⟩= some ev:=by simp only[World.cell?,h.blk];rfl
theorem RdAt.free [LoM] {w:World}{rb:Nat}{rv ev:Value}{r:Rd}(h:RdAt w rb rv ev r)(i:Nat):w.frozen? ⟨rb,i,none⟩= false:=frozen_of_row w rb i _ _ h.blk
theorem RdAt.below [LoM] {w w':World}{rb:Nat}{rv ev:Value}{r:Rd}(h:RdAt w rb rv ev r)(hb:Below w.heap.size w w'):RdAt w' rb rv ev r:=
 ⟨by rw[hb.block rb (aLt h.blk)];exact h.blk,h.rd.below hb,h.low,h.ok,fun hb'=>by obtain⟨k,hk,hn⟩:=h.no hb';exact⟨k,hk,hn.below hb⟩⟩
theorem RdAt.keepR [LoM] {w:World}{rb:Nat}{rv ev:Value}{r:Rd}(h:RdAt w rb rv ev r)(i:Nat)(v:Value){u:Value}{l:List Int}(hu:RdB w u l):RdB (w.setCell ⟨rb,i,none⟩ v) u l:=by
 refine hu.chg (aI (Below.refl _ w) i v) (fun k cur fr hk e=>?_) (fun k e=>by rw[e];exact h.low)
 subst e
 rw[h.blk]at hk
 simp only[Option.some.injEq,Obj.cells.injEq]at hk
 exact absurd hk.2.1 (by decide)
theorem RdAt.keepE [LoM] {w:World}{rb:Nat}{rv ev:Value}{r:Rd}(h:RdAt w rb rv ev r)(i:Nat)(v:Value){k:Nat}{u:Value}(hu:NErr w k u):NErr (w.setCell ⟨rb,i,none⟩ v) k u:=by
 refine hu.chg (aI (Below.refl _ w) i v) fun k cur fr hk e=>?_
 subst e
 rw[h.blk]at hk
 simp only[Option.some.injEq,Obj.cells.injEq]at hk
 exact absurd hk.2.1 (by decide)
theorem RdAt.setRest [LoM] {w:World}{rb:Nat}{rv ev:Value}{r:Rd}(h:RdAt w rb rv ev r){tv:Value}{l:List Int}(ht:RdB w tv l):RdAt (w.setCell ⟨rb,0,none⟩ tv) rb tv ev ⟨l,r.bad⟩:=
 ⟨al h.blk 0 tv,h.keepR 0 tv ht,h.low,h.ok,fun hb=>by obtain⟨k,hk,hn⟩:=h.no hb;exact⟨k,hk,h.keepE 0 tv hn⟩⟩
theorem RdAt.setErr [LoM] {w:World}{rb:Nat}{rv ev:Value}{r:Rd}(h:RdAt w rb rv ev r){tv:Value}{k:Nat}(hk:k=1\/k=2)(ht:NErr w k tv):RdAt (w.setCell ⟨rb,1,none⟩ tv) rb rv tv ⟨r.rest,true⟩:=
 ⟨al h.blk 1 tv,h.keepR 1 tv h.rd,h.low,fun hb=>(by cases hb),fun _=>⟨k,hk,h.keepE 1 tv ht⟩⟩
theorem RdAt.errForm [LoM] {w:World}{rb:Nat}{rv ev:Value}{r:Rd}(h:RdAt w rb rv ev r)(hb:r.bad=true):∃a:Nat,ev=.iface 155 (.pointer (some ⟨a,0,none⟩)):=by
 obtain⟨k,hk,hn⟩:=h.no hb
 rcases hk with rfl|rfl
 ·obtain⟨a,_,_,rfl,_⟩:=hn;exact⟨a,rfl⟩
 ·obtain⟨a,_,_,rfl,_⟩:=hn;exact⟨a,rfl⟩
theorem NErr.form01{w:World}{k:Nat}{v:Value}(h:NErr w k v):∃t a,v=.iface t (.pointer (some ⟨a,0,none⟩)):=by
 cases k with
 |zero=>obtain⟨e,rfl⟩:=h;exact⟨_,e,rfl⟩
 |succ k=>obtain⟨a,s,c,rfl,_⟩:=h;exact⟨_,a,rfl⟩
theorem nR [LoM] (rb:Nat)(rv ev:Value)(r:Rd)(s:ByteArray)(cause:Value)(k:Nat)(w:World)(h:RdAt w rb rv ev r)(hc:NErr w k cause)(hk:k=0\/k=1):
  Calls Tryz.prog 135 #[.pointer (some ⟨rb,0,none⟩),.string s,cause] w fun e w'=>e=.returned (.tuple #[])/\∃ev',RdAt w' rb rv ev' ⟨r.rest,true⟩/\Chg (· = rb) w w':=by
 have c1:=h.c1
 obtain⟨t,a,rfl⟩:=hc.form01
 have HH:=ab h
 have HC:=ab hc
 clear h hc
 cases hb:r.bad with
 |true=>
  obtain⟨a1,rfl⟩:=HH.out.errForm hb
  have HB:=ab hb
  clear hb
  go_enter Tryz.func135,Tryz.ntmps135
  go_wp2_with fail
  go_end0
  have h:=HH.out
  exact⟨rfl,_,RdAt.mk (r:=⟨r.rest,true⟩) h.blk h.rd h.low (fun h=>(by cases h)) (fun _=>h.no HB.out),Chg.refl _ _⟩
 |false=>
  have hev:=HH.out.ok hb
  subst hev
  have z1:=(HH.out.below (ag w (.cells #[.string s,.iface t (.pointer (some ⟨a,0,none⟩))] 157))).free 1
  have d1:=ae c1 (ag w (.cells #[.string s,.iface t (.pointer (some ⟨a,0,none⟩))] 157))
  clear hb
  go_enter Tryz.func135,Tryz.ntmps135
  go_wp2_with fail
  go_end0
  have hba:=ag w (.cells #[.string s,.iface t (.pointer (some ⟨a,0,none⟩))] 157)
  refine⟨rfl,_,(HH.out.below hba).setErr (k:=k+1) (by omega) ⟨w.heap.size,_,_,rfl,heap_alloc_new w _,HC.out.below hba⟩,aI hba 1 _⟩
theorem qv [LoM] (l:List Int)(v:Value)(w:World)(he:Env w)(h:RdB w v l)(hz:gsz l=0):
  Calls Tryz.prog 102 #[v] w fun e w'=>∃c,e=.returned (.tuple #[.int .i64 0,.int .i64 0,c])/\NErr w' 1 c/\Below w.heap.size w w':=by
 have HN:Hid (Calls Tryz.prog 154 #[v] w fun e w'=>∃g,e=.returned (.tuple #[.int .i64 0,.iface 158 (.pointer (some ⟨g,0,none⟩))])/\Below w.heap.size w w'):=by
  obtain⟨hl,hm,h|h⟩:=h.reads
  ·obtain⟨rfl,ao,cap,rfl⟩:=h
   exact kP ao cap w
  ·obtain⟨hp,b,off,cap,rfl,hcap,hc⟩:=h
   have h0:=hc 0 hp
   rw[Nat.add_zero]at h0
   exact kk l hl hp b off cap w he hm h0 hz
 obtain⟨_,_,ao,cap,rfl,_⟩:=h
 clear he hz
 go_enter Tryz.func102,Tryz.ntmps102
 go_wp2_with fail
 refine HN.out.mono ?_
 rintro e w1 ⟨g,rfl,hb⟩
 have HB:=ab hb
 clear hb HN
 go_wp2_with fail
 go_ret3
 exact⟨_,rfl,⟨w1.heap.size,_,_,rfl,heap_alloc_new w1 _,g,rfl⟩,ai HB.out (ag _ _)⟩
theorem qw [LoM] (l:List Int)(v:Value)(w:World)(h:RdB w v l)(hz:¬gsz l=0):
  Calls Tryz.prog 102 #[v] w fun e w'=>e=.returned (.tuple #[.int .i64 (ec l),.int .i64 (gsz l),.nilIface])/\w=w':=by
 obtain⟨hl,hm,h|h⟩:=h.reads
 ·obtain⟨rfl,ao,cap,rfl⟩:=h
  exact absurd rfl hz
 ·obtain⟨hp,b,off,cap,rfl,hcap,hc⟩:=h
  exact rr l hl hp b off cap w hcap hm hc hz
theorem oy [LoM] (rb:Nat)(rv ev:Value)(r:Rd)(s:ByteArray)(w:World)(he:Env w)(h:RdAt w rb rv ev r):
  Calls Tryz.prog 84 #[.pointer (some ⟨rb,0,none⟩),.string s] w fun e w'=>e=.returned (.int .i64 r.num.1)/\ug w rb r.num.2 w':=by
 have c0:=h.c0
 obtain⟨_,_,ao,cap,rfl,_⟩:=id h.rd
 have HH:=ab h
 by_cases hz:gsz r.rest=0
 ·have hv:r.num.1=0:=(g_none hz).1
  have HN2:Hid (r.num.2 =⟨r.rest.drop 0,true⟩):=by
   show _=_
   unfold Rd.num
   simp[hz]
  rw[hv]
  have HR:=ab (qv r.rest _ w he h.rd hz)
  obtain⟨tv,htv,⟨ta,tc,rfl⟩,hrun⟩:=h.rd.drop (k:=0) (Nat.zero_le _)
  have HT:=ab htv
  clear h he hz htv hv
  simp only[Int.natCast_zero,Nat.sub_zero]at hrun HT
  obtain⟨rl,hrl⟩:∃rl,r.rest.length=rl:=⟨_,rfl⟩
  rw[hrl]at HR hrun c0 HT
  replace HH:Hid (RdAt w rb (.slice ao rl cap) ev r):=by rw[hrl]at HH;exact HH
  clear hrl
  go_enter Tryz.func84,Tryz.ntmps84
  go_wp2_with fail
  refine HR.out.mono ?_
  rintro e w1 ⟨c,rfl,hn,hb⟩
  have H1:=ab (HH.out.below hb)
  have HF:=ab (nR rb _ ev r s c 1 w1 H1.out hn (Or.inr rfl))
  obtain⟨t1,a1,rfl⟩:=hn.form01
  have HB:=ab hb
  have HT1:=ab (HT.out.below hb)
  clear hb hn HR c0
  go_wp2_with fail
  refine HF.out.mono ?_
  rintro e w2 ⟨rfl,ev',h2,hc2⟩
  have c2:=h2.c0
  have z2:=h2.free 0
  have H2:=ab h2
  have HC2:=ab hc2
  clear h2 hc2 HF
  go_wp2_with fail
  go_ret
  refine⟨rfl,?_⟩
  rw[HN2.out]
  refine⟨_,_,H2.out.setRest (l:=r.rest.drop 0) (HT1.out.chg HC2.out (fun k cur fr hk e=>?_) (fun k e=>by rw[e];exact H1.out.low)),?_⟩
  ·subst e
   have:=H1.out.blk
   rw[this]at hk
   simp only[Option.some.injEq,Obj.cells.injEq]at hk
   exact absurd hk.2.1 (by decide)
  ·exact((Chg.of_below HB.out).trans HC2.out).trans (aI (Below.refl _ _) 0 _)
 ·have hg:=ny r.rest
  obtain⟨S,hS⟩:∃S:Nat,gsz r.rest=S:=⟨(gsz r.rest).toNat,by omega⟩
  have hv:r.num.1=ec r.rest:=rfl
  have HN2:Hid (r.num.2 =⟨r.rest.drop S,r.bad⟩):=by
   show _=_
   unfold Rd.num
   simp[hz]
   rw[hS]
   simp
  rw[hv]
  have HR:=ab (qw r.rest _ w h.rd hz)
  rw[hS]at HR hg
  have hSl:S<=r.rest.length:=by omega
  obtain⟨tv,htv,⟨ta,tc,rfl⟩,hrun⟩:=h.rd.drop hSl
  have HT:=ab htv
  have z0:=h.free 0
  clear h he hz htv hv hg hS hSl
  generalize ec r.rest=gv at HR⊢
  obtain⟨rl,hrl⟩:∃rl,r.rest.length=rl:=⟨_,rfl⟩
  obtain⟨tl,htl⟩:∃tl,r.rest.length-S=tl:=⟨_,rfl⟩
  rw[htl]at hrun HT
  rw[hrl]at HR hrun c0
  replace HH:Hid (RdAt w rb (.slice ao rl cap) ev r):=by rw[hrl]at HH;exact HH
  clear hrl htl
  go_enter Tryz.func84,Tryz.ntmps84
  go_wp2_with fail
  refine HR.out.mono ?_
  rintro e w1 ⟨rfl,rfl⟩
  clear HR
  go_wp2_with fail
  go_ret
  refine⟨rfl,?_⟩
  rw[HN2.out]
  exact⟨_,_,HH.out.setRest HT.out,aI (Below.refl _ _) 0 _⟩
theorem wF{r:Rd}{c:Int}(h:r.bad=true\/(r.rest.length:Int)<c):r.byt c=([],⟨r.rest,true⟩):=if_pos h
theorem byt_yes{r:Rd}{c:Int}(h:r.bad=false)(h2:c<=(r.rest.length:Int)):r.byt c=(r.rest.take c.toNat,⟨r.rest.drop c.toNat,false⟩):=if_neg (by rw[h];simp;omega)
structure BytOut [LoM] (w:World)(rb:Nat)(x:List Int×Rd)(e:Ending)(w':World):Prop where
 ret:∃bv,e=.returned bv/\RdB w' bv x.1
 out:ug w rb x.2 w'
theorem mc [LoM] (rb:Nat)(rv ev:Value)(r:Rd)(s:ByteArray)(c:Int)(w:World)(he:Env w)(h:RdAt w rb rv ev r)(hc0:0<=c)(hc1:c<=1073741823):
  Calls Tryz.prog 85 #[.pointer (some ⟨rb,0,none⟩),.string s,.int .i64 c] w fun e w'=>BytOut w rb (r.byt c) e w':=by
 have c0:=h.c0
 have d1:=h.c1
 have hlm:=h.rd.2.1
 obtain⟨_,_,ao,cap,rfl,hlc,_⟩:=id h.rd
 have HH:=ab h
 obtain⟨rl,hrl⟩:∃rl,r.rest.length=rl:=⟨_,rfl⟩
 by_cases hlt:(r.rest.length:Int)<c
 ·have HN2:=ab (wF (r:=r) (c:=c) (Or.inr hlt))
  have HTF:=ab (qh (r.rest.length:Int) c (by omega) (by omega) hc0 (by omega) w he)
  rw[hrl]at c0 hlt HTF
  replace HH:Hid (RdAt w rb (.slice ao rl cap) ev r):=by rw[hrl]at HH;exact HH
  clear h he hlm hrl hlc
  go_enter Tryz.func85,Tryz.ntmps85
  go_wp2_with fail
  refine HTF.out.mono ?_
  rintro e w1 ⟨g,rfl,hb⟩
  have HF:=ab (nR rb _ ev r s (.iface 158 (.pointer (some ⟨g,0,none⟩))) 0 w1 (HH.out.below hb) ⟨g,rfl⟩ (Or.inl rfl))
  have HB:=ab hb
  clear hb HTF c0 d1
  go_wp2_with fail
  refine HF.out.mono ?_
  rintro e w2 ⟨rfl,ev',h2,hc2⟩
  have c2:=h2.c1
  obtain⟨a2,rfl⟩:=h2.errForm rfl
  have H2:=ab h2
  have HC2:=ab hc2
  clear h2 hc2 HF
  go_wp2_with fail
  go_ret
  rw[HN2.out]
  exact⟨⟨_,rfl,RdB.nil _⟩,_,_,H2.out,(Chg.of_below HB.out).trans HC2.out⟩
 ·cases hb:r.bad with
  |true=>
   have HN2:=ab (wF (r:=r) (c:=c) (Or.inl hb))
   obtain⟨a1,rfl⟩:=h.errForm hb
   rw[hrl]at c0 hlt
   replace HH:Hid (RdAt w rb (.slice ao rl cap) (.iface 155 (.pointer (some ⟨a1,0,none⟩))) r):=by rw[hrl]at HH;exact HH
   have HB:=ab hb
   clear h he hlm hrl hlc hb
   go_enter Tryz.func85,Tryz.ntmps85
   go_wp2_with fail
   go_ret
   rw[HN2.out]
   have h1:=HH.out
   exact⟨⟨_,rfl,RdB.nil _⟩,_,_,RdAt.mk (r:=⟨r.rest,true⟩) h1.blk h1.rd h1.low (fun h=>(by cases h)) (fun _=>h1.no HB.out),Chg.refl _ _⟩
  |false=>
   have hev:=h.ok hb
   subst hev
   obtain⟨k,rfl⟩:∃k:Nat,c=k:=⟨c.toNat,by omega⟩
   have HN2:=ab (byt_yes (r:=r) (c:=(k:Int)) hb (by omega))
   have hkl:k<=r.rest.length:=by omega
   obtain⟨tv,htv,⟨ta,tc,rfl⟩,hrun⟩:=h.rd.drop hkl
   obtain⟨uv,huv,⟨ua,uc,rfl,_⟩,hrun2⟩:=h.rd.take hkl
   have HT:=ab htv
   have HU:=ab huv
   have z0:=h.free 0
   obtain⟨tl,htl⟩:∃tl,r.rest.length-k=tl:=⟨_,rfl⟩
   rw[htl]at hrun HT
   rw[hrl]at c0 hlt hrun hrun2
   replace HH:Hid (RdAt w rb (.slice ao rl cap) .nilIface r):=by rw[hrl]at HH;exact HH
   have HB:=ab hb
   clear h he hlm hrl hlc hb htv huv htl hkl
   go_enter Tryz.func85,Tryz.ntmps85
   go_wp2_with fail
   go_ret
   rw[HN2.out]
   have h2:=HH.out.setRest HT.out
   rw[HB.out]at h2
   refine⟨⟨_,rfl,HH.out.keepR 0 _ HU.out⟩,_,_,h2,aI (Below.refl _ _) 0 _⟩
theorem sB [LoM] (rb:Nat)(rv ev:Value)(r:Rd)(s:ByteArray)(w:World)(he:Env w)(h:RdAt w rb rv ev r):
  Calls Tryz.prog 83 #[.pointer (some ⟨rb,0,none⟩),.string s] w fun e w'=>e=.returned (.int .i64 r.kind.1)/\ug w rb r.kind.2 w':=by
 have HB:=ab (mc rb rv ev r s 1 w he h (by decide) (by decide))
 clear he h
 go_enter Tryz.func83,Tryz.ntmps83
 go_wp2_with fail
 refine HB.out.mono ?_
 rintro e w1 ⟨⟨bv,rfl,hbv⟩,rv1,ev1,h1,hc1⟩
 have d1:=h1.c1
 cases hb:(r.byt 1).2.bad with
 |true=>
  have HK:Hid (r.kind=(0,(r.byt 1).2)):=by
   show _=_
   unfold Rd.kind
   rw[if_pos hb]
  obtain⟨a1,rfl⟩:=h1.errForm hb
  obtain⟨_,_,ba,bc,rfl,_⟩:=hbv
  have H1:=ab h1
  have HC:=ab hc1
  clear h1 hc1 hb HB
  go_wp2_with fail
  go_ret
  rw[HK.out]
  exact⟨rfl,_,_,H1.out,HC.out⟩
 |false=>
  have HK:Hid (r.kind=((r.byt 1).1.getD 0 0,(r.byt 1).2)):=by
   show _=_
   unfold Rd.kind
   rw[if_neg (by rw[hb];decide)]
  have hev:=h1.ok hb
  subst hev
  have hl1:(r.byt 1).1.length=1:=by
   by_cases hn:r.bad=true\/(r.rest.length:Int)<1
   ·rw[wF hn]at hb;cases hb
   ·have h3:r.bad=false:=by
     cases hrb:r.bad with
     |true=>exact absurd (Or.inl hrb) hn
     |false=>rfl
    have h4:(1:Int)<=(r.rest.length:Int):=by omega
    rw[byt_yes h3 h4]
    simp
    omega
  have hrange:=cU hbv.1 0
  obtain⟨_,_,ba,bc,e1,hbc,_,_,hp⟩:=id hbv
  obtain⟨bb,off,cur,t,fr,e2,_⟩:=hp (by omega)
  subst e2
  subst e1
  have hcell:=hbv.cell 0 (by omega)
  rw[Nat.add_zero]at hcell
  rw[hl1]
  obtain⟨x,hx⟩:∃x,(r.byt 1).1.getD 0 0=x:=⟨_,rfl⟩
  rw[hx]at hcell hrange HK
  obtain⟨hx0,hx1⟩:=hrange
  have hwx:IntKind.i64.wrap x=x:=by rw[IntKind.wrap_i64];omega
  have H1:=ab h1
  have HC:=ab hc1
  clear h1 hc1 hb HB hbv hp hl1 hx
  go_wp2_with fail
  go_ret
  rw[HK.out]
  exact⟨rfl,_,_,H1.out,HC.out⟩
theorem ni [LoM] (rb:Nat)(rv ev:Value)(r:Rd)(s:ByteArray)(k:Int)(w:World)(he:Env w)(h:RdAt w rb rv ev r)(h0:0<=k)(h1:k<=9223372036854775807):
  Calls Tryz.prog 86 #[.pointer (some ⟨rb,0,none⟩),.string s,.int .i64 k] w fun e w'=>e=.returned (.tuple #[])/\ug w rb r.fail w':=by
 have HI:=ab (mD k h0 h1 w he)
 have HH:=ab h
 clear h he
 go_enter Tryz.func86,Tryz.ntmps86
 go_wp2_with fail
 refine HI.out.mono ?_
 rintro e w1 ⟨t,rfl,ht,hb⟩
 have HB:=ab hb
 have HF:=ab (fun(W:World) (hW:Below w.heap.size w W) (g:Nat)=>nR rb _ ev r s (.iface 158 (.pointer (some ⟨g,0,none⟩))) 0 W (HH.out.below hW) ⟨g,rfl⟩ (Or.inl rfl))
 clear hb HI
 go_wp2_with fail
 refine(HF.out _ (ai HB.out (ag _ _)) _).mono ?_
 rintro e w2 ⟨rfl,ev',h2,hc2⟩
 have H2:=ab h2
 have HC2:=ab hc2
 clear h2 hc2 HF
 go_wp2_with fail
 go_end0
 exact⟨rfl,_,_,H2.out,(Chg.of_below (ai HB.out (ag _ _))).trans HC2.out⟩
end Go.Proofs.YthmdjhlhodpbhaaGreatDoor
