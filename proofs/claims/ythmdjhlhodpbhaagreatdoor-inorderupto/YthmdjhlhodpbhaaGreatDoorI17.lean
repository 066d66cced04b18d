/- InOrder, 17 -/
import Derived.WalkKit
import Derived.Maps.OwnSet
import Derived.Maps.OwnOps
import Derived.Maps.RangeWalk
import Derived.Test.YthmdjhlhodpbhaaGreatDoorI16
set_option maxHeartbeats 16000000
set_option maxRecDepth 8000
namespace Go.Proofs.YthmdjhlhodpbhaaGreatDoor
open Go.RowKit
def conC(g:Cfg)(c:au)(plv:Value)(sm dm:Nat)(past:Int):Array Value:=
 #[.int .i64 g.c0,.int .i64 g.c1,.int .i64 g.c2,.int .i64 g.c3,.int .i64 g.c4,.int .i64 g.c5,.int .i64 g.c6,.int .i64 g.c7,.int .i64 g.c8,.int .i64 g.c9,.int .i64 c.cid,.int .i64 c.addr,.bool c.proven,.int .i64 c.got,.int .i64 c.sent,.int .i64 c.heard,.int .i64 c.mark,plv,.int .i64 c.credit,.int .i64 g.c1,.int .i64 c.streams.length,.map (some sm),.map (some dm),.int .i64 past]
def ConBlk(w:World)(cb:Nat)(g:Cfg)(c:au)(plv:Value)(sm dm:Nat)(past:Int):Prop:=w.heap[cb]? =some (.cells (conC g c plv sm dm past) 137 (0,0))
theorem ConBlk.cell{w:World}{cb:Nat}{g:Cfg}{c:au}{plv:Value}{sm dm:Nat}{past:Int}(h:ConBlk w cb g c plv sm dm past)(i:Nat):w.cell? ⟨cb,i,none⟩=(conC g c plv sm dm past)[i]?:=by
 unfold ConBlk at h
 simp only[World.cell?,h]
 rfl
theorem ConBlk.free{w:World}{cb:Nat}{g:Cfg}{c:au}{plv:Value}{sm dm:Nat}{past:Int}(h:ConBlk w cb g c plv sm dm past)(i:Nat):w.frozen? ⟨cb,i,none⟩= false:=frozen_of_row w cb i _ _ h
theorem ConBlk.lt{w:World}{cb:Nat}{g:Cfg}{c:au}{plv:Value}{sm dm:Nat}{past:Int}(h:ConBlk w cb g c plv sm dm past):cb<w.heap.size:=(Array.getElem?_eq_some_iff.1 h).1
theorem ConBlk.below{w w':World}{cb:Nat}{g:Cfg}{c:au}{plv:Value}{sm dm:Nat}{past:Int}(h:ConBlk w cb g c plv sm dm past)(hb:Below w.heap.size w w'):ConBlk w' cb g c plv sm dm past:=by
 unfold ConBlk
 rw[hb.block cb h.lt]
 exact h
theorem ConBlk.chg{F:Nat->Prop}{w w':World}{cb:Nat}{g:Cfg}{c:au}{plv:Value}{sm dm:Nat}{past:Int}(h:ConBlk w cb g c plv sm dm past)(hc:Chg F w w')(hF:¬F cb):ConBlk w' cb g c plv sm dm past:=by
 unfold ConBlk
 rw[hc.block cb h.lt hF]
 exact h
theorem cHas_any(cb:Nat)(g:Cfg)(c:au)(plv:Value)(sm dm:Nat)(past:Int)(sid:Int)(w:World)(h:ConBlk w cb g c plv sm dm past):
  Calls Tryz.prog 43 #[.pointer (some ⟨cb,0,none⟩),.int .i64 sid] w fun e w'=>e=.returned (.bool (decide (0<=sid)&&decide (sid<(c.streams.length:Int))))/\w=w':=by
 have c20:w.cell? ⟨cb,20,none⟩= some (.int .i64 c.streams.length):=h.cell 20
 clear h
 by_cases h0:0<=sid
 ·have hd:decide (0<=sid)=true:=decide_eq_true h0
  rw[hd]
  go_enter Tryz.func43,Tryz.ntmps43
  go_wp2_with fail
  go_ret
  exact⟨by simp,rfl⟩
 ·have hd:decide (0<=sid)=false:=decide_eq_false h0
  rw[hd]
  go_enter Tryz.func43,Tryz.ntmps43
  go_wp2_with fail
  go_ret
  exact⟨by simp,rfl⟩
theorem cproof_any(cb:Nat)(g:Cfg)(c:au)(plv:Value)(sm dm:Nat)(past:Int)(w:World)(h:ConBlk w cb g c plv sm dm past)(hk:0<=g.c9/\g.c9<4294967296)(ha:0<=c.addr/\c.addr<256)(hc:0<=c.cid/\c.cid<=1073741823):
  Calls Tryz.prog 173 #[.pointer (some ⟨cb,0,none⟩)] w fun e w'=>e=.returned (.int .i64 (dX g.c9 c.addr c.cid))/\Below w.heap.size w w':=by
 have c9:w.cell? ⟨cb,9,none⟩= some (.int .i64 g.c9):=h.cell 9
 have c10:w.cell? ⟨cb,10,none⟩= some (.int .i64 c.cid):=h.cell 10
 have c11:w.cell? ⟨cb,11,none⟩= some (.int .i64 c.addr):=h.cell 11
 have HP:=ab (fun W=>wProof_any g.c9 c.addr c.cid W hk.1 hk.2 ha.1 ha.2 hc.1 (by omega))
 clear h hk ha hc
 generalize dX g.c9 c.addr c.cid=pf at HP⊢
 go_enter Tryz.func173,Tryz.ntmps173
 go_wp2_with fail
 go_region_held3 (fun w'=>w'.cell? ⟨cb,9,none⟩= some (.int .i64 g.c9)/\w'.cell? ⟨cb,10,none⟩= some (.int .i64 c.cid)/\w'.cell? ⟨cb,11,none⟩= some (.int .i64 c.addr)) (first|assumption|go_keep) (first
  |(go_at_call 104;refine(HP.out _).mono ?_;rintro e w1 ⟨rfl,hb1⟩;have k9:=ae c9 (al hb1);have k10:=ae c10 (al hb1);have k11:=ae c11 (al hb1)))
 have HB:=ab (al hb1)
 clear hb1 HP k9 k10 k11
 go_wp2_with fail
 go_ret
 exact⟨rfl,HB.out⟩
def ProveOut(w:World)(cb:Nat)(g:Cfg)(c:au)(plv:Value)(sm dm:Nat)(past:Int)(p pf:Int)(e:Ending)(w':World):Prop:=
 Chg (· = cb) w w'/\((p≠pf/\e=.returned (.int .i64 10)/\ConBlk w' cb g c plv sm dm past)\/(p=pf/\e=.returned (.int .i64 0)/\ConBlk w' cb g {c with proven:=true} plv sm dm past))
theorem cprove_any(cb:Nat)(g:Cfg)(c:au)(plv:Value)(sm dm:Nat)(past:Int)(p:Int)(w:World)(h:ConBlk w cb g c plv sm dm past)(hk:0<=g.c9/\g.c9<4294967296)(ha:0<=c.addr/\c.addr<256)(hc:0<=c.cid/\c.cid<=1073741823):
  Calls Tryz.prog 204 #[.pointer (some ⟨cb,0,none⟩),.int .i64 p] w fun e w'=>ProveOut w cb g c plv sm dm past p (dX g.c9 c.addr c.cid) e w':=by
 have HP:=ab (cproof_any cb g c plv sm dm past w h hk ha hc)
 have HH:=ab h
 clear h hk ha hc
 generalize dX g.c9 c.addr c.cid=pf at HP⊢
 by_cases hp:p=pf
 ·subst hp
  go_enter Tryz.func204,Tryz.ntmps204
  go_wp2_with fail
  refine HP.out.mono ?_
  rintro e w1 ⟨rfl,hb1⟩
  have H1:=ab (HH.out.below hb1)
  have HB:=ab hb1
  have d12:w1.cell? ⟨cb,12,none⟩= some (.bool c.proven):=H1.out.cell 12
  have z12:=H1.out.free 12
  clear hb1 HP
  go_wp2_with fail
  go_ret
  exact⟨aG HB.out 12 _,Or.inr ⟨rfl,rfl,ak H1.out 12 _⟩⟩
 ·have hpb:(p==pf)=false:=beq_eq_false_iff_ne.2 hp
  go_enter Tryz.func204,Tryz.ntmps204
  go_wp2_with fail
  refine HP.out.mono ?_
  rintro e w1 ⟨rfl,hb1⟩
  have HB:=ab hb1
  clear hb1 HP
  go_wp2_with fail
  go_ret
  exact⟨Chg.of_below HB.out,Or.inl ⟨hp,rfl,HH.out.below HB.out⟩⟩
def OutOw(w:World)(base:Nat)(out:List (Int×Value))(outs:List (Int×List Int)):Prop:=
 out.length=outs.length/\(∀(i:Nat) x y,out[i]? =some x->outs[i]? =some y->x.1=y.1/\w.ownsRow base 5 1 x.2 y.2.length (U8 y.2))/\∀(i j:Nat) x y k,i≠j->out[i]? =some x->out[j]? =some y->x.2.ownBlock=some k->y.2.ownBlock≠some k
theorem OutOw.by{w:World}{base:Nat}{out:List (Int×Value)}{outs:List (Int×List Int)}(h:OutOw w base out outs):OutBy w base out outs:=⟨h.1,h.2.1⟩
theorem OutOw.nil(w:World)(base:Nat):OutOw w base [] []:=⟨rfl,fun i x y hx=>(by simp at hx),fun i j x y k _ hx=>(by simp at hx)⟩
theorem OutOw.one{w:World}{base:Nat}{a:Int}{v:Value}{l:List Int}(hv:w.ownsRow base 5 1 v l.length (U8 l)):OutOw w base [(a,v)] [(a,l)]:=by
 refine⟨rfl,fun i x y hx hy=>?_,fun i j x y k hij hx hy=>?_⟩
 ·cases i with
  |zero=>
   simp only[List.getElem?_cons_zero,Option.some.injEq]at hx hy
   subst hx hy
   exact⟨rfl,hv⟩
  |succ i=>simp at hx
 ·cases i with
  |zero=>
   cases j with
   |zero=>exact absurd rfl hij
   |succ j=>simp at hy
  |succ i=>simp at hx
theorem OutOw.chg{F:Nat->Prop}{w w':World}{base:Nat}{out:List (Int×Value)}{outs:List (Int×List Int)}(h:OutOw w base out outs)(hc:Chg F w w')(hF:∀k cur fr,w.heap[k]? =some (.cells cur 5 fr)->¬F k):OutOw w' base out outs:=
 ⟨h.1,fun i x y hx hy=>⟨(h.2.1 i x y hx hy).1,ey (h.2.1 i x y hx hy).2 hc hF⟩,h.2.2⟩
theorem OutOw.mono{w:World}{b b':Nat}{out:List (Int×Value)}{outs:List (Int×List Int)}(h:OutOw w b out outs)(hb:b'<=b):OutOw w b' out outs:=
 ⟨h.1,fun i x y hx hy=>⟨(h.2.1 i x y hx hy).1,ca (h.2.1 i x y hx hy).2 hb⟩,h.2.2⟩
def OutsAt(w:World)(base:Nat)(v:Value)(outs:List (Int×List Int)):Prop:=∃out,w.ownsRow base 60 2 v out.length (bU out)/\OutOw w base out outs
theorem own_lit2(w:World)(base:Nat)(a:Int)(v:Value)(hb:base<=w.heap.size):(w.alloc (.cells #[.int .i64 a,v] 60)).ownsRow base 60 2 (.slice (some ⟨w.heap.size,0,none⟩) 1 1) 1 (bU [(a,v)]):=by
 have:=World.ownsRow_lit (base:=base) (e:=60) (size:=2) w #[.int .i64 a,v] 1 hb (by decide) (by simp)
 simpa[bU] using this
theorem OutsAt.nil(w:World)(base:Nat):OutsAt w base (.slice none 0 0) []:=⟨[],World.ownsRow_nil _ _ _ _,OutOw.nil w base⟩
structure TellOut(w:World)(cb:Nat)(g:Cfg)(c:au)(plv:Value)(sm dm:Nat)(past:Int)(f:List Int)(e:Ending)(w':World):Prop where
 ret:∃v,e=.returned v/\OutsAt w' w.heap.size v (cf c f [])
 blk:ConBlk w' cb g (bu c f) plv sm dm past
 chg:Chg (· = cb) w w'
theorem ctell_any(cb:Nat)(g:Cfg)(c:au)(plv:Value)(sm dm:Nat)(past:Int)(kind:Int)(ns:List Int)(nb nc:Nat)(w:World)(h:ConBlk w cb g c plv sm dm past)(hc:0<=c.cid/\c.cid<=1073741823)(hg:0<=c.got/\c.got<=1125899906842624)(hs:0<=c.sent/\c.sent<=1125899906842624)(hn:∀n∈ns,0<=n/\n<=1073741823)(hl:ns.length<=8)(hcell:∀j n,ns[j]? =some n->w.cell? ⟨nb,j,none⟩= some (.int .i64 n)):
  Calls Tryz.prog 78 #[.pointer (some ⟨cb,0,none⟩),.int .u8 kind,.slice (some ⟨nb,0,none⟩) ns.length nc] w fun e w'=>TellOut w cb g c plv sm dm past ([kind]++bV ns) e w':=by
 have c10:w.cell? ⟨cb,10,none⟩= some (.int .i64 c.cid):=h.cell 10
 have HN:=ab (wNews_any c.cid kind ns nb nc w hc hn hl hcell)
 have hlen:(cd c.cid ([kind]++bV ns)).length<=100:=by
  have h1:=putsL_len ns
  have h2:=dP c.cid
  simp[cd]at h1 h2⊢
  omega
 have hpos:0<(cd c.cid ([kind]++bV ns)).length:=by simp[cd]
 have HNC:Hid (bu c ([kind]++bV ns)=if fD c (cd c.cid ([kind]++bV ns)).length then {c with sent:=c.sent+(cd c.cid ([kind]++bV ns)).length} else c):=rfl
 have HNO:Hid (cf c ([kind]++bV ns) []=if fD c (cd c.cid ([kind]++bV ns)).length then [(c.addr,cd c.cid ([kind]++bV ns))] else []):=rfl
 have HH:=ab h
 generalize cd c.cid ([kind]++bV ns)=L at HN hlen hpos HNC HNO
 generalize [kind]++bV ns=f at HNC HNO⊢
 obtain⟨N,hN⟩:∃N,L.length=N:=⟨_,rfl⟩
 rw[hN]at HN hlen hpos HNC HNO
 have HNl:=ab hN
 clear h hn hl hcell hN
 have hw1:IntKind.i64.wrap (c.sent+(N:Int))=c.sent+N:=by rw[IntKind.wrap_i64];omega
 have hw2:IntKind.i64.wrap (3*c.got)=3*c.got:=by rw[IntKind.wrap_i64];omega
 go_enter Tryz.func78,Tryz.ntmps78
 go_wp2_with fail
 refine HN.out.mono ?_
 rintro e w1 ⟨v,rfl,ho,hb⟩
 have H1:=ab (HH.out.below hb)
 have HO:=ab ho
 have HB:=ab hb
 obtain⟨va,vc,rfl⟩:=aF ho
 have d11:w1.cell? ⟨cb,11,none⟩= some (.int .i64 c.addr):=H1.out.cell 11
 have d12:w1.cell? ⟨cb,12,none⟩= some (.bool c.proven):=H1.out.cell 12
 have d13:w1.cell? ⟨cb,13,none⟩= some (.int .i64 c.got):=H1.out.cell 13
 have d14:w1.cell? ⟨cb,14,none⟩= some (.int .i64 c.sent):=H1.out.cell 14
 clear ho hb HN c10
 have hmay:fD c (N:Int)=true\/(c.proven=false/\3*c.got<c.sent+N/\fD c (N:Int)=false):=by
  unfold fD
  cases c.proven with
  |true=>left;rfl
  |false=>
   by_cases h3:c.sent+(N:Int)<=3*c.got
   ·left;simp[h3]
   ·right;simp[h3];omega
 rcases hmay with hm|⟨hp,hgt,hm⟩
 ·have HC1:Hid (bu c f = {c with sent:=c.sent+N}):=by
   show _=_
   rw[HNC.out,if_pos hm]
  have HO1:Hid (cf c f []=[(c.addr,L)]):=by
   show _=_
   rw[HNO.out,if_pos hm]
  have hcut:c.proven=true\/(c.proven=false/\c.sent+(N:Int)<=3*c.got):=by
   unfold fD at hm
   cases hq:c.proven with
   |true=>left;rfl
   |false=>rw[hq]at hm;right;simpa using hm
  clear hm HNC HNO
  have HEnd:Hid (∀W:World,Below w1.heap.size w1 W->TellOut w cb g c plv sm dm past f (.returned (.slice (some ⟨W.heap.size,0,none⟩) 1 1)) ((W.setCell ⟨cb,14,none⟩ (.int .i64 (c.sent+N))).alloc (.cells #[.int .i64 c.addr,.slice va N vc] 60))):=by
   intro W hW
   have hcW:Chg (· = cb) W (W.setCell ⟨cb,14,none⟩ (.int .i64 (c.sent+N))):=aG (Below.refl _ W) 14 _
   have hblk:=H1.out.below hW
   have hne:∀k cur fr e,W.heap[k]? =some (.cells cur e fr)->137≠e->¬k=cb:=by
    intro k cur fr e hk he e2
    subst e2
    unfold ConBlk at hblk
    rw[hblk]at hk
    simp only[Option.some.injEq,Obj.cells.injEq]at hk
    exact he hk.2.1
   have hbs:Below (W.setCell ⟨cb,14,none⟩ (.int .i64 (c.sent+N))).heap.size (W.setCell ⟨cb,14,none⟩ (.int .i64 (c.sent+N))) _:=af _ (.cells #[.int .i64 c.addr,.slice va N vc] 60)
   refine⟨⟨_,rfl,[(c.addr,.slice va N vc)],?_,?_⟩,?_,?_⟩
   ·have:=own_lit2 (W.setCell ⟨cb,14,none⟩ (.int .i64 (c.sent+N))) w.heap.size (c.addr) (.slice va N vc) (by rw[World.size_setCell];exact Nat.le_trans HB.out.size hW.size)
    rw[World.size_setCell]at this
    exact this
   ·rw[HO1.out]
    have hro:=aD HO.out hW
    have hro2:=aD (ey hro hcW fun k cur fr hk=>hne k cur fr _ hk (by decide)) hbs
    rw[<-HNl.out]at hro2⊢
    exact OutOw.one hro2
   ·rw[HC1.out]
    exact ConBlk.below (ak hblk 14 _) hbs
   ·exact((Chg.of_below (ag HB.out hW)).trans hcW).trans (Chg.of_below hbs)
  rcases hcut with hp|⟨hp,hle⟩
  ·rw[hp]at d12
   go_wp2_with fail
   go_quiet (fail)
   have hq:=aj (Below.refl w1.heap.size w1) nq
   clear d11 d12 d13 d14
   generalize w1.drewN nq=W at hq⊢
   have HW:=ab (H1.out.below hq)
   have HQ:=ab hq
   have e11:W.cell? ⟨cb,11,none⟩= some (.int .i64 c.addr):=HW.out.cell 11
   have e14:W.cell? ⟨cb,14,none⟩= some (.int .i64 c.sent):=HW.out.cell 14
   have z14:=HW.out.free 14
   have e11b:(W.setCell ⟨cb,14,none⟩ (.int .i64 (c.sent+N))).cell? ⟨cb,11,none⟩= some (.int .i64 c.addr):=ConBlk.cell (c:={c with sent:=c.sent+N}) (ak HW.out 14 _) 11
   clear hq
   go_wp2_with fail
   go_ret
   exact HEnd.out W HQ.out
  ·rw[hp]at d12
   go_wp2_with fail
   go_quiet (fail)
   have hq:=aj (Below.refl w1.heap.size w1) nq
   clear d11 d12 d13 d14
   generalize w1.drewN nq=W at hq⊢
   have HW:=ab (H1.out.below hq)
   have HQ:=ab hq
   have e11:W.cell? ⟨cb,11,none⟩= some (.int .i64 c.addr):=HW.out.cell 11
   have e14:W.cell? ⟨cb,14,none⟩= some (.int .i64 c.sent):=HW.out.cell 14
   have z14:=HW.out.free 14
   have e11b:(W.setCell ⟨cb,14,none⟩ (.int .i64 (c.sent+N))).cell? ⟨cb,11,none⟩= some (.int .i64 c.addr):=ConBlk.cell (c:={c with sent:=c.sent+N}) (ak HW.out 14 _) 11
   clear hq
   go_wp2_with fail
   go_ret
   exact HEnd.out W HQ.out
 ·rw[hp]at d12
  have HC1:Hid (bu c f=c):=by
   show _=_
   rw[HNC.out,if_neg (by rw[hm];decide)]
  have HO1:Hid (cf c f []=[]):=by
   show _=_
   rw[HNO.out,if_neg (by rw[hm];decide)]
  clear hm HNC HNO
  go_wp2_with fail
  go_quiet (fail)
  have hq:=aj (Below.refl w1.heap.size w1) nq
  clear d11 d12 d13 d14
  generalize w1.drewN nq=W at hq⊢
  have HW:=ab (H1.out.below hq)
  have HQ:=ab hq
  clear hq
  go_wp2_with fail
  go_ret
  refine⟨⟨_,rfl,?_⟩,?_,Chg.of_below (ag HB.out HQ.out)⟩
  ·rw[HO1.out];exact OutsAt.nil _ _
  ·rw[HC1.out];exact HW.out
theorem putsL4(k a b c d:Int):[k]++bV [a,b,c,d]=[k]++aw a++aw b++aw c++aw d:=by simp[bV]
theorem OutsAt.mono{w:World}{b b':Nat}{v:Value}{outs:List (Int×List Int)}(h:OutsAt w b v outs)(hb:b'<=b):OutsAt w b' v outs:=by
 obtain⟨out,h1,h2⟩:=h
 exact⟨out,ca h1 hb,h2.mono hb⟩
theorem TellOut.pre{w W:World}{cb:Nat}{g:Cfg}{c:au}{plv:Value}{sm dm:Nat}{past:Int}{f:List Int}{e:Ending}{w':World}(hW:Below w.heap.size w W)(h:TellOut W cb g c plv sm dm past f e w'):TellOut w cb g c plv sm dm past f e w':=by
 obtain⟨v,e1,ho⟩:=h.ret
 exact⟨⟨v,e1,ho.mono hW.size⟩,h.blk,(Chg.of_below hW).trans h.chg⟩
theorem OutsAt.form{w:World}{b:Nat}{v:Value}{outs:List (Int×List Int)}(h:OutsAt w b v outs):∃ao cap,v=.slice ao outs.length cap:=by
 obtain⟨out,h1,h2⟩:=h
 obtain⟨ao,cap,e⟩:=aY h1
 exact⟨ao,cap,by rw[e,h2.1]⟩
theorem cClosed_any(cb:Nat)(g:Cfg)(c:au)(plv:Value)(sm dm:Nat)(past:Int)(code:Int)(w:World)(h:ConBlk w cb g c plv sm dm past)(hc:0<=c.cid/\c.cid<=1073741823)(hg:0<=c.got/\c.got<=1125899906842624)(hs:0<=c.sent/\c.sent<=1125899906842624)(hk:0<=code/\code<=1073741823):
  Calls Tryz.prog 163 #[.pointer (some ⟨cb,0,none⟩),.int .i64 code] w fun e w'=>TellOut w cb g c plv sm dm past ([19]++aw code) e w':=by
 have hb:Below w.heap.size w (w.alloc (.cells #[.int .i64 code] 3)):=af w _
 have HT:=ab (ctell_any cb g c plv sm dm past 19 [code] w.heap.size 1 _ (h.below hb) hc hg hs (fun n hn=>by rw[List.mem_singleton.1 hn];exact hk) (by simp) (fun j n hj=>by
  cases j with
  |zero=>simp only[List.getElem?_cons_zero,Option.some.injEq]at hj;subst hj;simp
  |succ j=>simp at hj))
 rw[show([code]:List Int).length=1 from rfl]at HT
 have HP:Hid ([19]++bV [code]=[19]++aw code):=by show _=_;simp[bV]
 have HB:=ab hb
 clear h hc hg hs hk hb
 go_enter Tryz.func163,Tryz.ntmps163
 go_wp2_with fail
 refine HT.out.mono ?_
 intro e w1 ho
 rw[HP.out]at ho
 obtain⟨v,rfl,hv⟩:=ho.ret
 obtain⟨va,vc,rfl⟩:=hv.form
 have HO:=ab (ho.pre HB.out)
 clear ho hv HT
 go_wp2_with fail
 go_ret
 exact HO.out
theorem cWelcome_any(cb:Nat)(g:Cfg)(c:au)(plv:Value)(sm dm:Nat)(past:Int)(w:World)(h:ConBlk w cb g c plv sm dm past)(hcf:bN g)(ha:0<=c.addr/\c.addr<256)(hc:0<=c.cid/\c.cid<=1073741823)(hg:0<=c.got/\c.got<=1125899906842624)(hs:0<=c.sent/\c.sent<=1125899906842624):
  Calls Tryz.prog 142 #[.pointer (some ⟨cb,0,none⟩)] w fun e w'=>TellOut w cb g c plv sm dm past (bh g c) e w':=by
 have hpr:0<=dX g.c9 c.addr c.cid/\dX g.c9 c.addr c.cid<=1073741823:=by unfold dX;omega
 have k1:=hcf.c1
 have k2:=hcf.c2
 have k3:=hcf.c3
 have HPr:=ab (fun W (hW:Below w.heap.size w W)=>cproof_any cb g c plv sm dm past W (h.below hW) hcf.c9 ha hc)
 have HWl:Hid ([20]++bV [dX g.c9 c.addr c.cid,g.c1,g.c2,g.c3]=bh g c):=putsL4 _ _ _ _ _
 generalize dX g.c9 c.addr c.cid=pf at HPr HWl hpr
 have HT:Hid (∀W:World,Below w.heap.size w W->Calls Tryz.prog 78 #[.pointer (some ⟨cb,0,none⟩),.int .u8 20,.slice (some ⟨W.heap.size,0,none⟩) 4 4] (W.alloc (.cells #[.int .i64 pf,.int .i64 g.c1,.int .i64 g.c2,.int .i64 g.c3] 3)) fun e w'=>TellOut w cb g c plv sm dm past (bh g c) e w'):=by
  intro W hW
  have hb:=ag hW (af W (.cells #[.int .i64 pf,.int .i64 g.c1,.int .i64 g.c2,.int .i64 g.c3] 3))
  have h9:=ctell_any cb g c plv sm dm past 20 [pf,g.c1,g.c2,g.c3] W.heap.size 4 _ (h.below hb) hc hg hs (fun n hn=>?_) (by simp) (fun j n hj=>?_)
  rw[show([pf,g.c1,g.c2,g.c3]:List Int).length=4 from rfl]at h9
  refine h9.mono ?_
  ·intro e w' ho
   rw[HWl.out]at ho
   exact ho.pre hb
  ·simp only[List.mem_cons,List.not_mem_nil,or_false]at hn
   rcases hn with rfl|rfl|rfl|rfl<;>omega
  ·match j with
   |0=>simp only[List.getElem?_cons_zero,Option.some.injEq]at hj;subst hj;simp
   |1=>simp only[List.getElem?_cons_succ,List.getElem?_cons_zero,Option.some.injEq]at hj;subst hj;simp
   |2=>simp only[List.getElem?_cons_succ,List.getElem?_cons_zero,Option.some.injEq]at hj;subst hj;simp
   |3=>simp only[List.getElem?_cons_succ,List.getElem?_cons_zero,Option.some.injEq]at hj;subst hj;simp
   |j+4=>simp at hj
 have c1:w.cell? ⟨cb,1,none⟩= some (.int .i64 g.c1):=h.cell 1
 have c2:w.cell? ⟨cb,2,none⟩= some (.int .i64 g.c2):=h.cell 2
 have c3:w.cell? ⟨cb,3,none⟩= some (.int .i64 g.c3):=h.cell 3
 clear h hcf ha hc hg hs hpr k1 k2 k3
 go_enter Tryz.func142,Tryz.ntmps142
 go_wp2_with fail
 go_region_held3 (fun w'=>w'.cell? ⟨cb,1,none⟩= some (.int .i64 g.c1)/\w'.cell? ⟨cb,2,none⟩= some (.int .i64 g.c2)/\w'.cell? ⟨cb,3,none⟩= some (.int .i64 g.c3)) (first|assumption |(refine⟨ae k1 (af _ _),ae k2 (af _ _),ae k3 (af _ _)⟩)|go_keep) (first
  |(go_at_call 173;refine(HPr.out _ (aj (Below.refl _ w) 1)).mono ?_;rintro e w1 ⟨rfl,hb1⟩;have k1:=ae c1 (al hb1);have k2:=ae c2 (al hb1);have k3:=ae c3 (al hb1))
  |(go_at_call 78;refine(HT.out w1 (al hb1)).mono ?_;intro e w2 ho;obtain⟨v,rfl,hv⟩:=ho.ret;obtain⟨va,vc,rfl⟩:=hv.form;have l1:w2.cell? ⟨cb,1,none⟩= some (.int .i64 g.c1):=ho.blk.cell 1;have l2:w2.cell? ⟨cb,2,none⟩= some (.int .i64 g.c2):=ho.blk.cell 2;have l3:w2.cell? ⟨cb,3,none⟩= some (.int .i64 g.c3):=ho.blk.cell 3;have hS2:=And.intro l1 (And.intro l2 l3)))
 have HO:=ab ho
 clear ho hv HT HPr hb1
 go_wp2_with fail
 go_ret
 exact HO.out
end Go.Proofs.YthmdjhlhodpbhaaGreatDoor
namespace Go.Proofs.YthmdjhlhodpbhaaGreatDoor
open Go.Maps (Keyed)
structure MCode(α:Type) where
 V:α->Value
 z:Value
 zc:Int
 enc:α->Int
 R:Value->Option (DataW Unit×List MemPlace)
 val:∀a,R (V a)=some (.lit (.int .i64 (enc a)),[])
 zer:R z=some (.lit (.int .i64 zc),[])
 inv:∀{v c ps},R v=some (.lit (.int .i64 c),ps)->(∀a,enc a=c->v=V a)/\(c=zc->v=z)
def ptrR:Value->Option (DataW Unit×List MemPlace)
 |.pointer none=>some (.lit (.int .i64 (-1)),[])
 |.pointer (some ⟨b,0,none⟩)=>some (.lit (.int .i64 b),[])
 |_=>none
def ej:MCode Nat where
 V b:=.pointer (some ⟨b,0,none⟩)
 z:=.pointer none
 zc:=-1
 enc b:=b
 R:=ptrR
 val a:=rfl
 zer:=rfl
 inv:=by
  intro v c ps h
  unfold ptrR at h
  split at h
  ·simp at h
   exact⟨fun a ha=>by omega,fun _=>rfl⟩
  ·simp at h
   refine⟨fun a ha=>?_,fun hc=>by omega⟩
   obtain⟨h1,_⟩:=h
   have:a=_:=Int.ofNat.inj (ha.trans h1.symm)
   rw[this]
  ·cases h
def doneR:Value->Option (DataW Unit×List MemPlace)
 |.agg cs=>match cs.toList with
  |[.int .i64 f,.bool r]=>some (.lit (.int .i64 (2*f+if r then 1 else 0)),[])
  |_=>none
 |_=>none
def doneC:MCode (Int×Bool) where
 V d:=.agg #[.int .i64 d.1,.bool d.2]
 z:=.agg #[.int .i64 0,.bool false]
 zc:=0
 enc d:=2*d.1+if d.2 then 1 else 0
 R:=doneR
 val a:=rfl
 zer:=rfl
 inv:=by
  intro v c ps h
  unfold doneR at h
  split at h
  ·rename_i cs
   split at h
   ·rename_i f r he
    have hcs:cs=#[.int .i64 f,.bool r]:=by rw[<-Array.toArray_toList (xs:=cs),he]
    subst hcs
    simp at h
    obtain⟨h1,_⟩:=h
    have key:∀a:Int×Bool,(2*a.1+if a.2 then 1 else 0)=c->a=(f,r):=by
     rintro⟨f',r'⟩ ha
     cases r<;>cases r'<;>simp at h1 ha<;>first |(exact(Prod.ext (by simp only;omega) rfl))|omega
    refine⟨fun a ha=>by rw[key a ha],fun hc=>?_⟩
    have:=key (0,false) (by simp[hc])
    cases this
    rfl
   ·cases h
  ·cases h
def atK{α:Type}(l:List (Int×α))(k:Int):Option α:=(l.find? fun e=>e.1==k).map (·.2)
def delK{α:Type}(l:List (Int×α))(k:Int):List (Int×α):=l.filter fun e=>!(e.1==k)
theorem atK_mem{α:Type}{l:List (Int×α)}(hn:(l.map (·.1)).Nodup){k:Int}{a:α}(h:(k,a)∈l):atK l k=some a:=by
 unfold atK
 induction l with
 |nil=>cases h
 |cons e t ih=>
  rw[List.find?_cons]
  rcases List.mem_cons.1 h with rfl|h
  ·simp
  ·have:e.1≠k:=fun he=>by
    simp only[List.map_cons,List.nodup_cons]at hn
    exact hn.1 (List.mem_map.2 ⟨(k,a),h,he.symm⟩)
   simp only[beq_eq_false_iff_ne.2 this]
   simp only[List.map_cons,List.nodup_cons]at hn
   exact ih hn.2 h
theorem mem_atK{α:Type}{l:List (Int×α)}{k:Int}{a:α}(h:atK l k=some a):(k,a)∈l:=by
 unfold atK at h
 cases hf:l.find? (fun e=>e.1==k) with
 |none=>rw[hf]at h;cases h
 |some e=>
  rw[hf]at h
  simp at h
  have h1:=List.mem_of_find?_eq_some hf
  have h2:=List.find?_some hf
  simp at h2
  subst h h2
  exact h1
theorem atK_none{α:Type}{l:List (Int×α)}{k:Int}:atK l k=none↔k∉l.map (·.1):=by
 unfold atK
 simp only[Option.map_eq_none_iff,List.find?_eq_none,List.mem_map,not_exists,not_and,beq_iff_eq]
theorem atK_snoc{α:Type}(l:List (Int×α))(k:Int)(a:α)(hk:atK l k=none)(k':Int):atK (l++[(k,a)]) k'=if k'=k then some a else atK l k':=by
 by_cases h:k'=k
 ·subst h
  rw[if_pos rfl]
  unfold atK at hk⊢
  rw[List.find?_append]
  simp only[Option.map_eq_none_iff]at hk
  rw[hk]
  simp
 ·rw[if_neg h]
  unfold atK
  rw[List.find?_append]
  have:(k==k')=false:=by simpa using fun e:k=k'=>h e.symm
  simp[this]
theorem atK_delK{α:Type}(l:List (Int×α))(k k':Int):atK (delK l k) k'=if k'=k then none else atK l k':=by
 unfold atK delK
 by_cases h:k'=k
 ·subst h
  rw[if_pos rfl]
  simp[List.find?_eq_none]
 ·rw[if_neg h,List.find?_filter]
  congr 2
  funext e
  by_cases h1:e.1=k'
  ·simp[h1,h]
  ·simp[h1]
theorem delK_nodup{α:Type}{l:List (Int×α)}(hn:(l.map (·.1)).Nodup)(k:Int):((delK l k).map (·.1)).Nodup:=
 (List.filter_sublist.map _).nodup hn
theorem delK_length{α:Type}{l:List (Int×α)}(hn:(l.map (·.1)).Nodup){k:Int}{a:α}(h:atK l k=some a):(delK l k).length+1=l.length:=by
 induction l with
 |nil=>cases h
 |cons e t ih=>
  simp only[List.map_cons,List.nodup_cons]at hn
  unfold delK
  by_cases he:e.1=k
  ·subst he
   have:t.filter (fun x=>!(x.1==e.1))=t:=List.filter_eq_self.2 fun x hx=>by
    have:x.1≠e.1:=fun h1=>hn.1 (List.mem_map.2 ⟨x,hx,h1⟩)
    simpa using this
   simp[this]
  ·have h2:atK t k=some a:=by
    unfold atK at h⊢
    rw[List.find?_cons]at h
    simpa[beq_eq_false_iff_ne.2 he] using h
   have h1:=ih hn.2 h2
   unfold delK at h1
   simp[he]
   omega
section
variable {α : Type} (C : MCode α) (P : Program) (K : TypeId)
structure MapOk(D:DataW Unit)(l:List (Int×α)):Prop where
 has:∀k,Maps.has D (.int .i64 k)=(atK l k).isSome
 at_:∀k a,atK l k=some a->∀z,D.atKey (.int .i64 k) z=.lit (.int .i64 (C.enc a))
 size:Maps.size D=l.length
 nd:(l.map (·.1)).Nodup
def MapIs(w:World)(b n:Nat)(l:List (Int×α)):Prop:=∃D,w.ownsMap P K C.R b n D/\MapOk C D l
def RangeIs(w:World)(b r n:Nat)(l rest:List (Int×α))(cnt:Nat):Prop:=
 ∃D left,w.ranges P K C.R b r n D left cnt/\MapOk C D l/\rest=l.filter (fun e=>left (.int .i64 e.1))/\∀k,left (.int .i64 k)=true->(atK l k).isSome
variable {C P K}
theorem MapIs.lt{w:World}{b n:Nat}{l:List (Int×α)}(h:MapIs C P K w b n l):b<w.heap.size:=by obtain⟨D,h,_⟩:=h;exact h.lt
theorem MapIs.le{w:World}{b n:Nat}{l:List (Int×α)}(h:MapIs C P K w b n l):l.length<=n:=by obtain⟨D,h,k⟩:=h;rw[<-k.size];exact h.size_le
theorem MapIs.is_map{w:World}{b n:Nat}{l:List (Int×α)}(h:MapIs C P K w b n l):∃es clock,w.heap[b]? =some (.map es clock):=by
 obtain⟨D,⟨es,clock,hb,_⟩,_⟩:=h
 exact⟨es,clock,hb⟩
theorem MapIs.same{w w':World}{b n:Nat}{l:List (Int×α)}(h:MapIs C P K w b n l)(hb:w'.heap[b]? =w.heap[b]?):MapIs C P K w' b n l:=by
 obtain⟨D,⟨es,clock,h1,h2⟩,k⟩:=h
 exact⟨D,⟨es,clock,hb.trans h1,h2⟩,k⟩
theorem mapIs_made(w:World):MapIs C P K (w.alloc (.map #[] 0)) w.heap.size 0 []:=
 ⟨.map [],World.ownsMap_made w P K C.R,⟨fun k=>rfl,fun k a h=>(by simp[atK]at h),rfl,List.nodup_nil⟩⟩
theorem MapOk.put{D:DataW Unit}{l:List (Int×α)}(h:MapOk C D l)(ht:Maps.Tidy D){k:Int}(a:α)(hk:atK l k=none):MapOk C (D.put (.int .i64 k) (.lit (.int .i64 (C.enc a)))) (l++[(k,a)]) where
 has k':=by
  rw[atK_snoc l k a hk]
  by_cases e:k'=k
  ·subst e
   rw[if_pos rfl,Maps.has_put_same ht.isMap (k:=.int .i64 k') trivial]
   rfl
  ·rw[if_neg e,Maps.has_put_other (by simpa using e),h.has]
 at_ k' a' h' z:=by
  rw[atK_snoc l k a hk]at h'
  by_cases e:k'=k
  ·subst e
   rw[if_pos rfl]at h'
   cases h'
   rw[Maps.atKey_put_same ht.isMap (k:=.int .i64 k') trivial]
  ·rw[if_neg e]at h'
   rw[Maps.atKey_put_other (by simpa using e)]
   exact h.at_ k' a' h' z
 size:=by
  rw[Maps.size_put ht,h.has,hk,h.size]
  simp
 nd:=by
  rw[List.map_append,List.nodup_append]
  refine⟨h.nd,by simp,fun x hx y hy=>?_⟩
  simp at hy
  subst hy
  exact fun e=>(atK_none.1 hk) (e▸hx)
theorem MapOk.del{D:DataW Unit}{l:List (Int×α)}(h:MapOk C D l)(ht:Maps.Tidy D){k:Int}{a:α}(hk:atK l k=some a):MapOk C (D.del (.int .i64 k)) (delK l k) where
 has k':=by
  rw[atK_delK]
  by_cases e:k'=k
  ·subst e
   rw[if_pos rfl,Maps.has_del_same]
   rfl
  ·rw[if_neg e,Maps.has_del_other (by simpa using e),h.has]
 at_ k' a' h' z:=by
  rw[atK_delK]at h'
  by_cases e:k'=k
  ·rw[if_pos e]at h';cases h'
  ·rw[if_neg e]at h'
   rw[Maps.atKey_del_other (by simpa using e)]
   exact h.at_ k' a' h' z
 size:=by
  have h1:=Maps.size_del (k:=.int .i64 k) ht
  rw[h.has,hk,h.size]at h1
  have h2:=delK_length h.nd hk
  simp at h1
  omega
 nd:=delK_nodup h.nd k
section
variable (w : World) {ops : Array Oper} {rest : List Oper} {o : Oper} {a : Act} {Q : Exit -> Act -> World -> Prop}
theorem wf_key{k:Int}(h:-9223372036854775808<=k/\k<=9223372036854775807):(Lit.int .i64 k).wf=true:=WalkArith.wf_i64 h
theorem wpList_mlen(hg:o.guard=none)(m:Operand)(t:TypeId)(hop:o.op=Op.call {callee:=Callee.builtin Builtin.len,args:=#[m],argTypes:=#[t]})
  (e:TypeId) (ht:P.underlying t=some (.map K e)) (b n:Nat) (l:List (Int×α)) (hm:a.eval m=.map (some b)) (hown:MapIs C P K w b n l)
  (hGo:wpList P ops Q rest (a.put o.dst (.int .i64 l.length)) w):
  wpList P ops Q (o::rest) a w:=by
 obtain⟨D,hown,ok⟩:=hown
 exact wpList_len_own w hg m t hop K e ht C.R b n D hm hown (by rw[ok.size];exact hGo)
theorem wpList_mput(hg:o.guard=none)(m x v:Operand)(t:TypeId)(hop:o.op=Op.mapUpdate t m x v)(e:TypeId)(hK:P.underlying K=some (.int .i64))(ht:P.underlying t=some (.map K e))
  (b n:Nat) (l:List (Int×α)) (hm:a.eval m=.map (some b)) (hown:MapIs C P K w b n l) (hn:n<maxLen) (k:Int) (y:α) (hx:a.eval x=.int .i64 k) (hv:a.eval v=C.V y) (hk:(Lit.int .i64 k).wf=true) (hno:atK l k=none)
  (hGo:∀w',MapIs C P K w' b (n+1) (l++[(k,y)])->w.grownBy w' (some b)->w'.heap.size=w.heap.size->wpList P ops Q rest (a.put o.dst undef) w'):
  wpList P ops Q (o::rest) a w:=by
 obtain⟨D,hown,ok⟩:=hown
 refine wpList_mapUpdate_in w hg m x v t hop K e (Maps.int_keyed hK) ht C.R b n D hm hown hn _ _ _ hx hv (Maps.keyOf_int_mk hK hk) _ _ (C.val y) fun w' h1 h2=>?_
 refine hGo w' ⟨_,h1,ok.put (hown.tidy (Maps.int_keyed hK)) y hno⟩ h2.grown ?_
 obtain⟨es,clock,es',clock',hb,rfl⟩:=h2
 simp[ChangeMaps.setBlock]
theorem wpList_mdel(hg:o.guard=none)(m x:Operand)(t:TypeId)(hop:o.op=Op.call {callee:=Callee.builtin Builtin.delete,args:=#[m,x],argTypes:=#[t,K]})(e:TypeId)(hK:P.underlying K=some (.int .i64))(ht:P.underlying t=some (.map K e))
  (b n:Nat) (l:List (Int×α)) (hm:a.eval m=.map (some b)) (hown:MapIs C P K w b n l) (k:Int) (y:α) (hx:a.eval x=.int .i64 k) (hk:(Lit.int .i64 k).wf=true) (hy:atK l k=some y)
  (hGo:∀w',MapIs C P K w' b n (delK l k)->w.grownBy w' (some b)->w'.heap.size=w.heap.size->wpList P ops Q rest (a.put o.dst (.tuple #[])) w'):
  wpList P ops Q (o::rest) a w:=by
 obtain⟨D,hown,ok⟩:=hown
 refine wpList_delete_own w hg m x t K hop e (Maps.int_keyed hK) ht C.R b n D hm hown _ _ hx (Maps.keyOf_int_mk hK hk) fun w' h1 h2=>?_
 refine hGo w' ⟨_,h1,ok.del (hown.tidy (Maps.int_keyed hK)) hy⟩ h2.grown ?_
 obtain⟨es,clock,es',clock',hb,rfl⟩:=h2
 simp[ChangeMaps.setBlock]
theorem RangeIs.map{w:World}{b r n:Nat}{l rs:List (Int×α)}{cnt:Nat}(h:RangeIs C P K w b r n l rs cnt):MapIs C P K w b n l:=by
 obtain⟨D,left,h1,h2,_⟩:=h
 exact⟨D,h1.owns,h2⟩
theorem RangeIs.left_eq{w:World}{b r n:Nat}{l rs:List (Int×α)}{cnt:Nat}(h:RangeIs C P K w b r n l rs cnt):w.rangeLeft b r=cnt:=by
 obtain⟨D,left,h1,_⟩:=h
 exact h1.left_eq
theorem RangeIs.kept{w w':World}{b r n:Nat}{l rs:List (Int×α)}{cnt:Nat}(h:RangeIs C P K w b r n l rs cnt)(hb:w'.heap[b]? =w.heap[b]?)(hr:w'.heap[r]? =w.heap[r]?):RangeIs C P K w' b r n l rs cnt:=by
 obtain⟨D,left,⟨es,clock,since,seen,c0,h1,h2,h3,h4,h5,h6⟩,k⟩:=h
 exact⟨D,left,⟨es,clock,since,seen,c0,hb.trans h1,h2,h3,h4,hr.trans h5,h6⟩,k⟩
theorem RangeIs.iter{w:World}{b r n:Nat}{l rs:List (Int×α)}{cnt:Nat}(h:RangeIs C P K w b r n l rs cnt):r<w.heap.size/\∃x y z u,w.heap[r]? =some (.mapIter x y z u):=by
 obtain⟨D,left,h1,_⟩:=h
 refine⟨h1.lt,?_⟩
 obtain⟨es,clock,since,seen,c0,_,_,_,_,h5,_⟩:=h1
 exact⟨_,_,_,_,h5⟩
theorem wpList_mrange(hg:o.guard=none)(m:Operand)(t:TypeId)(hop:o.op=Op.range t m)(e:TypeId)(hK:P.underlying K=some (.int .i64))(ht:P.underlying t=some (.map K e))
  (b n:Nat) (l:List (Int×α)) (hm:a.eval m=.map (some b)) (hown:MapIs C P K w b n l)
  (hGo:∀w',RangeIs C P K w' b w.heap.size n l l l.length->w.grownBy w' none->w'.heap.size=w.heap.size+1->wpList P ops Q rest (a.put o.dst (.pointer (some ⟨w.heap.size,0,none⟩))) w'):
  wpList P ops Q (o::rest) a w:=by
 obtain⟨D,hown,ok⟩:=hown
 refine wpList_range_own w hg m t hop K e (Maps.int_keyed hK) ht C.R b n D hm hown fun w' h1 h2 h3=>hGo w' ?_ h2 h3
 refine⟨D,Maps.has D,by rw[<-ok.size];exact h1,ok,?_,fun k hk=>by rw[<-ok.has];exact hk⟩
 symm
 rw[List.filter_eq_self]
 intro e he
 rw[ok.has,atK_mem ok.nd (show(e.1,e.2)∈l from he)]
 rfl
theorem wpList_mnext(hg:o.guard=none)(it:Operand)(hop:o.op=Op.next it false)(hK:P.underlying K=some (.int .i64))
  (b r n:Nat) (l rs:List (Int×α)) (cnt:Nat) (hit:a.eval it=.pointer (some ⟨r,0,none⟩)) (h:RangeIs C P K w b r n l rs cnt)
  (hDone:rs=[]->wpList P ops Q rest (a.put o.dst (.tuple #[.bool false])) w)
  (hMore:∀(k:Int) (y:α) (r1 r2:List (Int×α)) (w':World) (cnt':Nat),rs=r1++(k,y)::r2->(Lit.int .i64 k).wf=true->atK l k=some y->RangeIs C P K w' b r n l (r1++r2) cnt'->cnt'<cnt->
   w.grownBy w' (some r)->w'.heap.size=w.heap.size->(Instr.entry (.pointer (some ⟨r,0,none⟩))).run P w'=.ok (.tuple #[.int .i64 k,C.V y]) w'->wpList P ops Q rest (a.put o.dst (.tuple #[.bool true,.int .i64 k,C.V y])) w'):
  wpList P ops Q (o::rest) a w:=by
 obtain⟨D,left,hr,ok,rfl,hl⟩:=h
 refine wpList_plain hg fun K' hK'=>?_
 unfold Oper.wp
 rcases hr.next (Maps.int_keyed hK) o.type with⟨h0,hl0,hrun⟩|⟨key,v,kl,y,w',cnt',hkey,hlk,hv,hat,hrun,hrg,hlt,hgr,hsz,hen⟩
 ·simp[execOp,hop,hit,hrun,Result.andThen]
  refine hK' _ _ (hDone ?_)
  rw[List.filter_eq_nil_iff]
  intro e _
  rw[hl0]
  simp
 ·obtain⟨x,rfl,rfl,hwx⟩:=Maps.keyOf_int_inv hK hkey
  cases ha:atK l x with
  |none=>have:=hl x hlk;rw[ha]at this;cases this
  |some c=>
   have hv2:v=C.V c:=by
    have h1:=ok.at_ x c ha (.lit (.int .i64 0))
    rw[hat]at h1
    obtain⟨y1,y2⟩:=y
    simp only at h1
    subst h1
    exact(C.inv hv).1 c rfl
   subst hv2
   simp[execOp,hop,hit,hrun,Result.andThen]
   have hmem:=mem_atK ha
   obtain⟨l1,l2,hl12⟩:=List.append_of_mem hmem
   have hnd:=ok.nd
   rw[hl12,List.map_append,List.map_cons,List.nodup_append]at hnd
   obtain⟨n1,n2,n3⟩:=hnd
   rw[List.nodup_cons]at n2
   refine hK' _ _ (hMore x c (l1.filter fun e=>left (.int .i64 e.1)) (l2.filter fun e=>left (.int .i64 e.1)) w' cnt' ?_ hwx ha ⟨D,_,hrg,ok,?_,?_⟩ hlt hgr hsz hen)
   ·rw[hl12,List.filter_append,List.filter_cons]
    simp only[hlk,if_true]
   ·rw[hl12,List.filter_append,List.filter_cons]
    have e0:(left (.int .i64 x) && !(Lit.int .i64 x).sameKey (.int .i64 x))=false:=by simp[Lit.sameKey]
    have e0':¬((left (.int .i64 x) && !(Lit.int .i64 x).sameKey (.int .i64 x))=true):=by simp[e0]
    rw[if_neg e0']
    congr 1
    ·refine List.filter_congr fun e he=>?_
     have:e.1≠x:=fun h1=>n3 e.1 (List.mem_map.2 ⟨e,he,rfl⟩) x (by simp) h1
     simp[Lit.sameKey,this]
    ·refine List.filter_congr fun e he=>?_
     have:e.1≠x:=fun h1=>n2.1 (List.mem_map.2 ⟨e,he,h1⟩)
     simp[Lit.sameKey,this]
   ·intro k hk
    simp at hk
    exact hl k hk.1
end
end
end Go.Proofs.YthmdjhlhodpbhaaGreatDoor
