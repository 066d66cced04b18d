/- Comes, part 12 -/
import Derived.WalkMore
import Derived.Test.YthmdjhlhodpbhaaGreatDoorM06
import Derived.Test.YthmdjhlhodpbhaaGreatDoorM10
import Derived.Test.YthmdjhlhodpbhaaGreatDoorM11
set_option maxHeartbeats 16000000
set_option maxRecDepth 8000
namespace Go.Proofs.YthmdjhlhodpbhaaGreatDoor
open Go.RowKit
open _root_.Or renaming inr → aV, inl → a_
open _root_.Array renaming getElem?_eq_some_iff → aO
open _root_.Nat renaming le_trans → cw, lt_of_lt_of_le → cq, le_refl → ay, le_succ → dP
open _root_.List renaming getElem?_cons_zero → cz, mem_singleton → bP, mem_of_getElem? → bT, mem_append → bR, map_cons → bD, getElem?_cons_succ → cB, mem_map → cZ, getElem?_eq_some_iff → bm, sum_cons → dN, map_append → bS
open Go.IntKind renaming wrap_i64 → di
open _root_.And renaming intro → ce
open Go.Instr renaming lookup → dM, makeMap → dQ
open Go.Value renaming ownBlock → ax
open Go.World renaming cell? → aX
open Go.Maps renaming atKey_of_not_has → dO
open _root_.Go.Proofs.Tryz
open _root_.Go.Proofs.Tryz renaming prog → ae
open Go.Value renaming int → af, slice → aj, pointer → ai
open Go.IntKind renaming i64 → ag
variable {w w' w2 W w1:World}{g:jG}{c c':gZ}{cb sm dm N b n size base b' i:Nat}{f:lL}{k_ v:Value}{jQ iI k M lw mv gM high gL addr:Int}{l:List Int}{x y:jf}{gN:List (Int×List Int)}{F:Nat->Prop}{out:List (Int×Value)}{P:Program}{K t:TypeId}{e:Ending}{ok:Bool}
def lM(ns:List Int):List Int:=(ns.map jn).flatten
theorem Mv(ns:List Int)(n:Int):lM (ns++[n])=lM ns++jn n:=by simp[lM]
theorem FE(ns:List Int):(lM ns).length<=4*ns.length:=by
 induction ns with
 |nil=>simp[lM]
 |cons a t ih=>
  have:=qk a;simp only[lM,bD,List.flatten_cons,List.length_append,List.length_cons]at ih⊢;omega
theorem QB(gL kind:Int)(ns:List Int)(nb nc:Nat)(w:World)(hc:0<=gL/\gL<=1073741823)(hn:∀n∈ns,0<=n/\n<=1073741823)(hl:ns.length<=8)(jk:∀j n,ns[j]? =some n->w.cell? ⟨nb,j,none⟩= some (af ag n)):
  Calls ae 133 #[af ag gL,.int .u8 kind,aj (some ⟨nb,0,none⟩) ns.length nc] w fun e w'=>∃v,e=.returned v/\w'.ownsRow w.heap.size 5 1 v (kK gL ([kind]++lM ns)).length (U8 (kK gL ([kind]++lM ns)))/\Below w.heap.size w w':=by
 obtain⟨i0,hi,mB,kS,ln⟩:=info_parts o4;have HC:=gE jk;have HN:=gE hn;clear jk hn;have xt:=qk gL;go_enter func133,ntmps133;go_wp2_with fail;refine(ni gL hc.1 hc.2 w.heap.size _ 1 (U8 [4]) _ (o5 w 5 (U8 [4]) (by simp[U8,maxLen])) (by simp) (by decide)).mono ?_;rintro e w1 ⟨v1,rfl,kJ,pr⟩;have b1:Below w.heap.size w w1:=(gH w _).grown pr (by simp) (fun g hg=>by simp[ax]at hg;omega);have hz:=b1.size;go_wp2_with (at_builtin;refine wpList_append_own _ rfl _ _ 44 rfl w.heap.size 5 i0 (.int .u8 0) 1 1 underlying44 hi mB kS ln rfl (by decide) v1 (1+(jn gL).length) (U8 [4]++U8 (jn gL)) rfl (kJ.alloc _) ⟨w1.heap.size,0,none⟩ 1 1 (U8 [kind]) rfl rfl (iZ w1 5 (U8 [kind]) (by simp[U8,maxLen])) (pm _) (by unfold maxLen;omega) (by omega) (by simp;omega) ?_;intro v2 w2 je mZ _);have b2:Below w.heap.size w w2:=(b1.alloc hz _).grown mZ (by simp;omega) (fun g hg=>(kJ.lt g hg).1)
 have h0:w2.ownsRow w.heap.size 5 1 v2 (kK gL ([kind]++lM (ns.take 0))).length (U8 (kK gL ([kind]++lM (ns.take 0)))):=by
  have e1:U8 (kK gL ([kind]++lM (ns.take 0)))=U8 [4]++U8 (jn gL)++U8 [kind]:=by simp[kK,lM,U8]
  have e2:(kK gL ([kind]++lM (ns.take 0))).length=1+(jn gL).length+1:=by simp[kK,lM];omega
  rw[e1,e2];exact je
 have H0:=gE (ce h0 b2);clear kJ je pr mZ b1 h0 b2 hz
 go_loopw [7,18] (fun v i wr=>∃k:Nat,k<=ns.length/\i=af ag k/\wr.ownsRow w.heap.size 5 1 v (kK gL ([kind]++lM (ns.take k))).length (U8 (kK gL ([kind]++lM (ns.take k))))/\Below w.heap.size w wr) (fun _ i _=>ns.length-(intOf i).toNat)
 case atStart=>exact⟨0,Nat.zero_le _,rfl,H0.out⟩
 case round=>
  obtain⟨k,hk,rfl,ho,hb⟩:=hrel;by_cases jp:k<ns.length
  ·obtain⟨n,Z0⟩:∃n,ns[k]? =some n:=⟨_,List.getElem?_eq_getElem jp⟩;have Pr:=HN.out n (bT Z0);have mx:=gF (HC.out k n Z0) hb;have pd:ns.take (k+1)=ns.take k++[n]:=by rw[List.take_add_one,Z0];rfl
   have i8:(kK gL ([kind]++lM (ns.take k))).length<=70368744177664:=by
    have:=FE (ns.take k);simp[kK]at this⊢;omega
   have HS:=gE (ni n Pr.1 Pr.2 w.heap.size _ _ _ _ ho hb.size i8);have HB:=gE (ce ho hb);have HT:=gE pd;clear ho hb pd i8 Pr Z0;go_wp2_with fail;refine HS.out.mono ?_;rintro e w3 ⟨v3,rfl,Eg,qa⟩;have H3:=gE (ce Eg qa);clear HS Eg qa;go_wp2_with fail
   go_roundw
   case rel=>
    refine⟨k+1,by omega,by go_num,?_,?_⟩
    ·have e1:kK gL ([kind]++lM (ns.take (k+1)))=kK gL ([kind]++lM (ns.take k))++jn n:=by
      rw[HT.out,Mv];simp[kK]
     rw[e1,qA,List.length_append];exact H3.out.1
    ·exact HB.out.2.grown H3.out.2 HB.out.2.size (fun g hg=>(HB.out.1.lt g hg).1)
   case measure=>simp[intOf];omega
  ·obtain rfl:k=ns.length:=by omega
   rw[List.take_length]at ho;have HO:=gE (ce ho hb);clear ho hb;go_wp2_with fail;go_ret;exact⟨_,rfl,HO.out.1,HO.out.2⟩
def D8(g:jG)(c:gZ)(k_:Value)(sm dm:Nat)(jQ:Int):Array Value:=
 #[af ag g.c0,af ag g.c1,af ag g.c2,af ag g.c3,af ag g.c4,af ag g.c5,af ag g.c6,af ag g.c7,af ag g.c8,af ag g.c9,af ag c.gL,af ag c.addr,.bool c.gT,af ag c.jc,af ag c.jb,af ag c.heard,af ag c.mark,k_,af ag c.gM,af ag g.c1,af ag c.gJ.length,.map (some sm),.map (some dm),af ag jQ]
def iG(w:World)(cb:Nat)(g:jG)(c:gZ)(k_:Value)(sm dm:Nat)(jQ:Int):Prop:=w.heap[cb]? =some (.cells (D8 g c k_ sm dm jQ) 137 (0,0))
theorem iG.cell(h:iG w cb g c k_ sm dm jQ)(i:Nat):w.cell? ⟨cb,i,none⟩=(D8 g c k_ sm dm jQ)[i]?:=by
 unfold iG at h;simp only[aX,h]
 rfl
theorem iG.free(h:iG w cb g c k_ sm dm jQ)(i:Nat):w.frozen? ⟨cb,i,none⟩= false:=frozen_of_row w cb i _ _ h
theorem iG.lt(h:iG w cb g c k_ sm dm jQ):cb<w.heap.size:=(aO.1 h).1
theorem iG.below(h:iG w cb g c k_ sm dm jQ)(hb:Below w.heap.size w w'):iG w' cb g c k_ sm dm jQ:=by
 unfold iG;rw[hb.block cb h.lt];exact h
theorem iG.iO(h:iG w cb g c k_ sm dm jQ)(hc:ip F w w')(hF:¬F cb):iG w' cb g c k_ sm dm jQ:=by
 unfold iG;rw[hc.block cb h.lt hF];exact h
theorem Ru(cb:Nat)(g:jG)(c:gZ)(k_:Value)(sm dm:Nat)(jQ:Int)(mv:Int)(w:World)(h:iG w cb g c k_ sm dm jQ):
  Calls ae 43 #[ai (some ⟨cb,0,none⟩),af ag mv] w fun e w'=>e=.returned (.bool (decide (0<=mv)&&decide (mv<(c.gJ.length:Int))))/\w=w':=by
 have c20:w.cell? ⟨cb,20,none⟩= some (af ag c.gJ.length):=h.cell 20;clear h;by_cases h0:0<=mv
 ·have hd:decide (0<=mv)=true:=decide_eq_true h0;rw[hd];go_enter func43,ntmps43;go_wp2_with fail;go_ret;exact⟨by simp,rfl⟩
 ·have hd:decide (0<=mv)=false:=decide_eq_false h0;rw[hd];go_enter func43,ntmps43;go_wp2_with fail;go_ret;exact⟨by simp,rfl⟩
theorem CO(cb:Nat)(g:jG)(c:gZ)(k_:Value)(sm dm:Nat)(jQ:Int)(w:World)(h:iG w cb g c k_ sm dm jQ)(hk:0<=g.c9/\g.c9<4294967296)(ha:0<=c.addr/\c.addr<256)(hc:0<=c.gL/\c.gL<=1073741823):
  Calls ae 173 #[ai (some ⟨cb,0,none⟩)] w fun e w'=>e=.returned (af ag (kc g.c9 c.addr c.gL))/\Below w.heap.size w w':=by
 have c9:w.cell? ⟨cb,9,none⟩= some (af ag g.c9):=h.cell 9;have XE:w.cell? ⟨cb,10,none⟩= some (af ag c.gL):=h.cell 10;have ZH:w.cell? ⟨cb,11,none⟩= some (af ag c.addr):=h.cell 11;have HP:=gE (fun W=>DK g.c9 c.addr c.gL W hk.1 hk.2 ha.1 ha.2 hc.1 (by omega));clear h hk ha hc;generalize kc g.c9 c.addr c.gL=pf at HP⊢;go_enter func173,ntmps173;go_wp2_with fail
 go_region_held3 (fun w'=>w'.cell? ⟨cb,9,none⟩= some (af ag g.c9)/\w'.cell? ⟨cb,10,none⟩= some (af ag c.gL)/\w'.cell? ⟨cb,11,none⟩= some (af ag c.addr)) (first|assumption|go_keep) (first
  |(go_at_call 104;refine(HP.out _).mono ?_;rintro e w1 ⟨rfl,im⟩;have k9:=gF c9 (ib im);have yZ:=gF XE (ib im);have tS:=gF ZH (ib im)))
 have HB:=gE (ib im);clear im HP k9 yZ tS;go_wp2_with fail;go_ret;exact⟨rfl,HB.out⟩
def Iy(w:World)(cb:Nat)(g:jG)(c:gZ)(k_:Value)(sm dm:Nat)(jQ:Int)(p pf:Int)(e:Ending)(w':World):Prop:=
 ip (· = cb) w w'/\((p≠pf/\e=.returned (af ag 10)/\iG w' cb g c k_ sm dm jQ)\/(p=pf/\e=.returned (af ag 0)/\iG w' cb g {c with gT:=true} k_ sm dm jQ))
theorem Lr(cb:Nat)(g:jG)(c:gZ)(k_:Value)(sm dm:Nat)(jQ:Int)(p:Int)(w:World)(h:iG w cb g c k_ sm dm jQ)(hk:0<=g.c9/\g.c9<4294967296)(ha:0<=c.addr/\c.addr<256)(hc:0<=c.gL/\c.gL<=1073741823):
  Calls ae 204 #[ai (some ⟨cb,0,none⟩),af ag p] w fun e w'=>Iy w cb g c k_ sm dm jQ p (kc g.c9 c.addr c.gL) e w':=by
 have HP:=gE (CO cb g c k_ sm dm jQ w h hk ha hc);have HH:=gE h;clear h hk ha hc;generalize kc g.c9 c.addr c.gL=pf at HP⊢;by_cases hp:p=pf
 ·subst hp;go_enter func204,ntmps204;go_wp2_with fail;refine HP.out.mono ?_;rintro e w1 ⟨rfl,im⟩;have H1:=gE (HH.out.below im);have HB:=gE im;have Nz:w1.cell? ⟨cb,12,none⟩= some (.bool c.gT):=H1.out.cell 12;have z12:=H1.out.free 12;clear im HP;go_wp2_with fail;go_ret;exact⟨iu HB.out 12 _,aV ⟨rfl,rfl,gQ H1.out 12 _⟩⟩
 ·have Yz:(p==pf)=false:=beq_eq_false_iff_ne.2 hp;go_enter func204,ntmps204;go_wp2_with fail;refine HP.out.mono ?_;rintro e w1 ⟨rfl,im⟩;have HB:=gE im;clear im HP;go_wp2_with fail;go_ret;exact⟨ip.gS HB.out,a_ ⟨hp,rfl,HH.out.below HB.out⟩⟩
def mV(w:World)(base:Nat)(out:List (Int×Value))(gN:List (Int×List Int)):Prop:=
 out.length=gN.length/\(∀(i:Nat) x y,out[i]? =some x->gN[i]? =some y->x.1=y.1/\w.ownsRow base 5 1 x.2 y.2.length (U8 y.2))/\∀(i j:Nat) x y k,i≠j->out[i]? =some x->out[j]? =some y->x.2.ownBlock=some k->y.2.ownBlock≠some k
theorem mV.by(h:mV w base out gN):qZ w base out gN:=⟨h.1,h.2.1⟩
theorem mV.nil(w:World)(base:Nat):mV w base [] []:=⟨rfl,fun i x y hx=>(by simp at hx),fun i j x y k _ hx=>(by simp at hx)⟩
theorem mV.one{a:Int}(hv:w.ownsRow base 5 1 v l.length (U8 l)):mV w base [(a,v)] [(a,l)]:=by
 refine⟨rfl,fun i x y hx hy=>?_,fun i j x y k xU hx hy=>?_⟩
 ·cases i with
  |zero=>
   simp only[cz,Option.some.injEq]at hx hy;subst hx hy;exact⟨rfl,hv⟩
  |succ i=>simp at hx
 ·cases i with
  |zero=>
   cases j with
   |zero=>exact absurd rfl xU
   |succ j=>simp at hy
  |succ i=>simp at hx
theorem mV.iO(h:mV w base out gN)(hc:ip F w w')(hF:∀k cur fr,w.heap[k]? =some (.cells cur 5 fr)->¬F k):mV w' base out gN:=
 ⟨h.1,fun i x y hx hy=>⟨(h.2.1 i x y hx hy).1,jy (h.2.1 i x y hx hy).2 hc hF⟩,h.2.2⟩
theorem mV.mono(h:mV w b out gN)(hb:b'<=b):mV w b' out gN:=
 ⟨h.1,fun i x y hx hy=>⟨(h.2.1 i x y hx hy).1,iE (h.2.1 i x y hx hy).2 hb⟩,h.2.2⟩
def jW(w:World)(base:Nat)(v:Value)(gN:List (Int×List Int)):Prop:=∃out,w.ownsRow base 60 2 v out.length (g_ out)/\mV w base out gN
theorem J3(w:World)(base:Nat)(a:Int)(v:Value)(hb:base<=w.heap.size):(w.alloc (.cells #[af ag a,v] 60)).ownsRow base 60 2 (aj (some ⟨w.heap.size,0,none⟩) 1 1) 1 (g_ [(a,v)]):=by
 have:=World.ownsRow_lit (base:=base) (e:=60) (size:=2) w #[af ag a,v] 1 hb (by decide) (by simp);simpa[g_] using this
theorem jW.nil(w:World)(base:Nat):jW w base (aj none 0 0) []:=⟨[],World.ownsRow_nil _ _ _ _,mV.nil w base⟩
structure qP(w:World)(cb:Nat)(g:jG)(c:gZ)(k_:Value)(sm dm:Nat)(jQ:Int)(f:List Int)(e:Ending)(w':World):Prop where
 ret:∃v,e=.returned v/\jW w' w.heap.size v (kB c f [])
 i_:iG w' cb g (jK c f) k_ sm dm jQ
 iO:ip (· = cb) w w'
theorem E9(cb:Nat)(g:jG)(c:gZ)(k_:Value)(sm dm:Nat)(jQ:Int)(kind:Int)(ns:List Int)(nb nc:Nat)(w:World)(h:iG w cb g c k_ sm dm jQ)(hc:0<=c.gL/\c.gL<=1073741823)(hg:0<=c.jc/\c.jc<=1125899906842624)(hs:0<=c.jb/\c.jb<=1125899906842624)(hn:∀n∈ns,0<=n/\n<=1073741823)(hl:ns.length<=8)(jk:∀j n,ns[j]? =some n->w.cell? ⟨nb,j,none⟩= some (af ag n)):
  Calls ae 78 #[ai (some ⟨cb,0,none⟩),.int .u8 kind,aj (some ⟨nb,0,none⟩) ns.length nc] w fun e w'=>qP w cb g c k_ sm dm jQ ([kind]++lM ns) e w':=by
 have XE:w.cell? ⟨cb,10,none⟩= some (af ag c.gL):=h.cell 10;have HN:=gE (QB c.gL kind ns nb nc w hc hn hl jk)
 have i8:(kK c.gL ([kind]++lM ns)).length<=100:=by
  have h1:=FE ns;have h2:=qk c.gL;simp[kK]at h1 h2⊢;omega
 have pA:0<(kK c.gL ([kind]++lM ns)).length:=by simp[kK]
 have Xp:Hid (jK c ([kind]++lM ns)=if oA c (kK c.gL ([kind]++lM ns)).length then {c with jb:=c.jb+(kK c.gL ([kind]++lM ns)).length} else c):=rfl;have Xq:Hid (kB c ([kind]++lM ns) []=if oA c (kK c.gL ([kind]++lM ns)).length then [(c.addr,kK c.gL ([kind]++lM ns))] else []):=rfl;have HH:=gE h;generalize kK c.gL ([kind]++lM ns)=L at HN i8 pA Xp Xq;generalize [kind]++lM ns=f at Xp Xq⊢;obtain⟨N,hN⟩:∃N,L.length=N:=⟨_,rfl⟩;rw[hN]at HN i8 pA Xp Xq;have HNl:=gE hN;clear h hn hl jk hN;have sk:IntKind.i64.wrap (c.jb+(N:Int))=c.jb+N:=by rw[di];omega
 have uf:IntKind.i64.wrap (3*c.jc)=3*c.jc:=by rw[di];omega
 go_enter func78,ntmps78;go_wp2_with fail;refine HN.out.mono ?_;rintro e w1 ⟨v,rfl,ho,hb⟩;have H1:=gE (HH.out.below hb);have HO:=gE ho;have HB:=gE hb;obtain⟨va,vc,rfl⟩:=i7 ho;have QM:w1.cell? ⟨cb,11,none⟩= some (af ag c.addr):=H1.out.cell 11;have Nz:w1.cell? ⟨cb,12,none⟩= some (.bool c.gT):=H1.out.cell 12;have d13:w1.cell? ⟨cb,13,none⟩= some (af ag c.jc):=H1.out.cell 13;have d14:w1.cell? ⟨cb,14,none⟩= some (af ag c.jb):=H1.out.cell 14;clear ho hb HN XE
 have acS:oA c (N:Int)=true\/(c.gT=false/\3*c.jc<c.jb+N/\oA c (N:Int)=false):=by
  unfold oA
  cases c.gT with
  |true=>left;rfl
  |false=>
   by_cases h3:c.jb+(N:Int)<=3*c.jc
   ·left;simp[h3]
   ·right;simp[h3];omega
 rcases acS with hm|⟨hp,T2,hm⟩
 ·have Ac:Hid (jK c f = {c with jb:=c.jb+N}):=by
   show _=_;rw[Xp.out,if_pos hm]
  have Uv:Hid (kB c f []=[(c.addr,L)]):=by
   show _=_;rw[Xq.out,if_pos hm]
  have hcut:c.gT=true\/(c.gT=false/\c.jb+(N:Int)<=3*c.jc):=by
   unfold oA at hm
   cases hq:c.gT with
   |true=>left;rfl
   |false=>rw[hq]at hm;right;simpa using hm
  clear hm Xp Xq
  have oE:Hid (∀W:World,Below w1.heap.size w1 W->qP w cb g c k_ sm dm jQ f (.returned (aj (some ⟨W.heap.size,0,none⟩) 1 1)) ((W.setCell ⟨cb,14,none⟩ (af ag (c.jb+N))).alloc (.cells #[af ag c.addr,.slice va N vc] 60))):=by
   intro W hW;have hcW:ip (· = cb) W (W.setCell ⟨cb,14,none⟩ (af ag (c.jb+N))):=iu (Below.refl _ W) 14 _;have kA:=H1.out.below hW
   have js:∀k cur fr e,W.heap[k]? =some (.cells cur e fr)->137≠e->¬k=cb:=by
    intro k cur fr e hk he e2;subst e2;unfold iG at kA;rw[kA]at hk;simp only[Option.some.injEq,Obj.cells.injEq]at hk;exact he hk.2.1
   have hbs:Below (W.setCell ⟨cb,14,none⟩ (af ag (c.jb+N))).heap.size (W.setCell ⟨cb,14,none⟩ (af ag (c.jb+N))) _:=gH _ (.cells #[af ag c.addr,.slice va N vc] 60);refine⟨⟨_,rfl,[(c.addr,.slice va N vc)],?_,?_⟩,?_,?_⟩
   ·have:=J3 (W.setCell ⟨cb,14,none⟩ (af ag (c.jb+N))) w.heap.size (c.addr) (.slice va N vc) (by rw[World.size_setCell];exact cw HB.out.size hW.size);rw[World.size_setCell]at this;exact this
   ·rw[Uv.out];have L1:=iB HO.out hW;have abv:=iB (jy L1 hcW fun k cur fr hk=>js k cur fr _ hk (by decide)) hbs;rw[<-HNl.out]at abv⊢;exact mV.one abv
   ·rw[Ac.out];exact iG.below (gQ kA 14 _) hbs
   ·exact((ip.gS (gI HB.out hW)).trans hcW).trans (ip.gS hbs)
  rcases hcut with hp|⟨hp,uV⟩
  ·rw[hp]at Nz;go_wp2_with fail
   go_quiet (fail)
   have hq:=gK (Below.refl w1.heap.size w1) nq;clear QM Nz d13 d14;generalize w1.drewN nq=W at hq⊢;have HW:=gE (H1.out.below hq);have HQ:=gE hq;have e11:W.cell? ⟨cb,11,none⟩= some (af ag c.addr):=HW.out.cell 11;have e14:W.cell? ⟨cb,14,none⟩= some (af ag c.jb):=HW.out.cell 14;have z14:=HW.out.free 14;have ach:(W.setCell ⟨cb,14,none⟩ (af ag (c.jb+N))).cell? ⟨cb,11,none⟩= some (af ag c.addr):=iG.cell (c:={c with jb:=c.jb+N}) (gQ HW.out 14 _) 11;clear hq;go_wp2_with fail;go_ret;exact oE.out W HQ.out
  ·rw[hp]at Nz;go_wp2_with fail
   go_quiet (fail)
   have hq:=gK (Below.refl w1.heap.size w1) nq;clear QM Nz d13 d14;generalize w1.drewN nq=W at hq⊢;have HW:=gE (H1.out.below hq);have HQ:=gE hq;have e11:W.cell? ⟨cb,11,none⟩= some (af ag c.addr):=HW.out.cell 11;have e14:W.cell? ⟨cb,14,none⟩= some (af ag c.jb):=HW.out.cell 14;have z14:=HW.out.free 14;have ach:(W.setCell ⟨cb,14,none⟩ (af ag (c.jb+N))).cell? ⟨cb,11,none⟩= some (af ag c.addr):=iG.cell (c:={c with jb:=c.jb+N}) (gQ HW.out 14 _) 11;clear hq;go_wp2_with fail;go_ret;exact oE.out W HQ.out
 ·rw[hp]at Nz
  have Ac:Hid (jK c f=c):=by
   show _=_;rw[Xp.out,if_neg (by rw[hm];decide)]
  have Uv:Hid (kB c f []=[]):=by
   show _=_;rw[Xq.out,if_neg (by rw[hm];decide)]
  clear hm Xp Xq;go_wp2_with fail
  go_quiet (fail)
  have hq:=gK (Below.refl w1.heap.size w1) nq;clear QM Nz d13 d14;generalize w1.drewN nq=W at hq⊢;have HW:=gE (H1.out.below hq);have HQ:=gE hq;clear hq;go_wp2_with fail;go_ret;refine⟨⟨_,rfl,?_⟩,?_,ip.gS (gI HB.out HQ.out)⟩
  ·rw[Uv.out];exact jW.nil _ _
  ·rw[Ac.out];exact HW.out
theorem Zd(k a b c d:Int):[k]++lM [a,b,c,d]=[k]++jn a++jn b++jn c++jn d:=by simp[lM]
theorem jW.mono(h:jW w b v gN)(hb:b'<=b):jW w b' v gN:=by
 obtain⟨out,h1,h2⟩:=h;exact⟨out,iE h1 hb,h2.mono hb⟩
theorem qP.pre{f:List Int}(hW:Below w.heap.size w W)(h:qP W cb g c k_ sm dm jQ f e w'):qP w cb g c k_ sm dm jQ f e w':=by
 obtain⟨v,e1,ho⟩:=h.ret;exact⟨⟨v,e1,ho.mono hW.size⟩,h.i_,(ip.gS hW).trans h.iO⟩
theorem jW.form(h:jW w b v gN):∃ao cap,v=.slice ao gN.length cap:=by
 obtain⟨out,h1,h2⟩:=h;obtain⟨ao,cap,e⟩:=iA h1;exact⟨ao,cap,by rw[e,h2.1]⟩
theorem II(cb:Nat)(g:jG)(c:gZ)(k_:Value)(sm dm:Nat)(jQ:Int)(code:Int)(w:World)(h:iG w cb g c k_ sm dm jQ)(hc:0<=c.gL/\c.gL<=1073741823)(hg:0<=c.jc/\c.jc<=1125899906842624)(hs:0<=c.jb/\c.jb<=1125899906842624)(hk:0<=code/\code<=1073741823):
  Calls ae 163 #[ai (some ⟨cb,0,none⟩),af ag code] w fun e w'=>qP w cb g c k_ sm dm jQ ([19]++jn code) e w':=by
 have hb:Below w.heap.size w (w.alloc (.cells #[af ag code] 3)):=gH w _
 have HT:=gE (E9 cb g c k_ sm dm jQ 19 [code] w.heap.size 1 _ (h.below hb) hc hg hs (fun n hn=>by rw[bP.1 hn];exact hk) (by simp) (fun j n hj=>by
  cases j with
  |zero=>simp only[cz,Option.some.injEq]at hj;subst hj;simp
  |succ j=>simp at hj))
 rw[show([code]:List Int).length=1 from rfl]at HT;have HP:Hid ([19]++lM [code]=[19]++jn code):=by show _=_;simp[lM]
 have HB:=gE hb;clear h hc hg hs hk hb;go_enter func163,ntmps163;go_wp2_with fail;refine HT.out.mono ?_;intro e w1 ho;rw[HP.out]at ho;obtain⟨v,rfl,hv⟩:=ho.ret;obtain⟨va,vc,rfl⟩:=hv.form;have HO:=gE (ho.pre HB.out);clear ho hv HT;go_wp2_with fail;go_ret;exact HO.out
theorem zi(cb:Nat)(g:jG)(c:gZ)(k_:Value)(sm dm:Nat)(jQ:Int)(w:World)(h:iG w cb g c k_ sm dm jQ)(Fl:nx g)(ha:0<=c.addr/\c.addr<256)(hc:0<=c.gL/\c.gL<=1073741823)(hg:0<=c.jc/\c.jc<=1125899906842624)(hs:0<=c.jb/\c.jb<=1125899906842624):
  Calls ae 142 #[ai (some ⟨cb,0,none⟩)] w fun e w'=>qP w cb g c k_ sm dm jQ (ir g c) e w':=by
 have JA:0<=kc g.c9 c.addr c.gL/\kc g.c9 c.addr c.gL<=1073741823:=by unfold kc;omega
 have k1:=Fl.c1;have k2:=Fl.c2;have k3:=Fl.c3;have Zz:=gE (fun W (hW:Below w.heap.size w W)=>CO cb g c k_ sm dm jQ W (h.below hW) Fl.c9 ha hc);have QJ:Hid ([20]++lM [kc g.c9 c.addr c.gL,g.c1,g.c2,g.c3]=ir g c):=Zd _ _ _ _ _;generalize kc g.c9 c.addr c.gL=pf at Zz QJ JA
 have HT:Hid (∀W:World,Below w.heap.size w W->Calls ae 78 #[ai (some ⟨cb,0,none⟩),.int .u8 20,aj (some ⟨W.heap.size,0,none⟩) 4 4] (W.alloc (.cells #[af ag pf,af ag g.c1,af ag g.c2,af ag g.c3] 3)) fun e w'=>qP w cb g c k_ sm dm jQ (ir g c) e w'):=by
  intro W hW;have hb:=gI hW (gH W (.cells #[af ag pf,af ag g.c1,af ag g.c2,af ag g.c3] 3));have h9:=E9 cb g c k_ sm dm jQ 20 [pf,g.c1,g.c2,g.c3] W.heap.size 4 _ (h.below hb) hc hg hs (fun n hn=>?_) (by simp) (fun j n hj=>?_);rw[show([pf,g.c1,g.c2,g.c3]:List Int).length=4 from rfl]at h9;refine h9.mono ?_
  ·intro e w' ho;rw[QJ.out]at ho;exact ho.pre hb
  ·simp only[List.mem_cons,List.not_mem_nil,or_false]at hn;rcases hn with rfl|rfl|rfl|rfl<;>omega
  ·match j with
   |0=>simp only[cz,Option.some.injEq]at hj;subst hj;simp
   |1=>simp only[cB,cz,Option.some.injEq]at hj;subst hj;simp
   |2=>simp only[cB,cz,Option.some.injEq]at hj;subst hj;simp
   |3=>simp only[cB,cz,Option.some.injEq]at hj;subst hj;simp
   |j+4=>simp at hj
 have c1:w.cell? ⟨cb,1,none⟩= some (af ag g.c1):=h.cell 1;have c2:w.cell? ⟨cb,2,none⟩= some (af ag g.c2):=h.cell 2;have c3:w.cell? ⟨cb,3,none⟩= some (af ag g.c3):=h.cell 3;clear h Fl ha hc hg hs JA k1 k2 k3;go_enter func142,ntmps142;go_wp2_with fail
 go_region_held3 (fun w'=>w'.cell? ⟨cb,1,none⟩= some (af ag g.c1)/\w'.cell? ⟨cb,2,none⟩= some (af ag g.c2)/\w'.cell? ⟨cb,3,none⟩= some (af ag g.c3)) (first|assumption |(refine⟨gF k1 (gH _ _),gF k2 (gH _ _),gF k3 (gH _ _)⟩)|go_keep) (first
  |(go_at_call 173;refine(Zz.out _ (gK (Below.refl _ w) 1)).mono ?_;rintro e w1 ⟨rfl,im⟩;have k1:=gF c1 (ib im);have k2:=gF c2 (ib im);have k3:=gF c3 (ib im))
  |(go_at_call 78;refine(HT.out w1 (ib im)).mono ?_;intro e w2 ho;obtain⟨v,rfl,hv⟩:=ho.ret;obtain⟨va,vc,rfl⟩:=hv.form;have l1:w2.cell? ⟨cb,1,none⟩= some (af ag g.c1):=ho.i_.cell 1;have l2:w2.cell? ⟨cb,2,none⟩= some (af ag g.c2):=ho.i_.cell 2;have l3:w2.cell? ⟨cb,3,none⟩= some (af ag g.c3):=ho.i_.cell 3;have sI:=ce l1 (ce l2 l3)))
 have HO:=gE ho;clear ho hv HT Zz im;go_wp2_with fail;go_ret;exact HO.out
theorem tF{α:Type}{f:Int->Int}{l:List (Int×α)}(h:∀p∈l,0<=f p.1):0<=lP f l:=by
 induction l with
 |nil=>simp[lP]
 |cons a t ih=>
  have h1:=h a (by simp);have h2:=ih fun p hp=>h p (by simp[hp])
  simp only[lP,bD,dN]at h2⊢;omega
theorem Hl{α:Type}{f:Int->Int}{l:List (Int×α)}{B:Int}(h:∀p∈l,f p.1<=B):lP f l<=l.length*B:=by
 induction l with
 |nil=>simp[lP]
 |cons a t ih=>
  have h1:=h a (by simp);have h2:=ih fun p hp=>h p (by simp[hp])
  simp only[lP,bD,dN,List.length_cons]at h2⊢;have:((t.length+1:Nat):Int)*B=t.length*B+B:=by rw[Int.natCast_add,Int.add_mul];simp
  omega
theorem Kt{α:Type}{f:Int->Int}(r1 r2:List (Int×α))(k:Int)(y:α):lP f (r1++(k,y)::r2)=lP f (r1++r2)+f k:=by
 simp only[lP,bS,bD,List.sum_append,dN];omega
theorem OR(cb sm n:Nat)(sl:List (Int×Nat))(hi:Int->Int)(w:World)(hc:w.cell? ⟨cb,21,none⟩= some (.map (some sm)))(hm:kG nv ae 3 w sm n sl)(hs:∀p∈sl,w.cell? ⟨p.2,2,none⟩= some (af ag (hi p.1)))(hr:∀p∈sl,0<=hi p.1/\hi p.1<=1073741823)(hl:sl.length<=1073741823):
  Calls ae 70 #[ai (some ⟨cb,0,none⟩),.func (.func 225) #[] #[]] w fun e w'=>e=.returned (af ag (lP hi sl))/\Below w.heap.size w w':=by
 have hS:lP hi sl<=1152921504606846976:=by
  have:=Hl (B:=1073741823) fun p hp=>(hr p hp).2
  omega
 have HM:=gE hm;have HS:=gE hs;have HR:=gE hr;clear hm hs hr;go_enter func70,ntmps70
 go_wp2_with (first
  |(at_range;refine qV _ rfl _ 134 rfl 140 underlying3 underlying134 sm n sl rfl HM.out ?_;intro w0 BH Fo yX))
 have kf:Below w.heap.size w w0:=oK Fo;have H0:=gE (ce BH kf);clear BH Fo yX kf hc
 go_frame
 go_loopw [5] (fun s wr=>∃(rest:List (Int×Nat)) (rN:Nat),jX nv ae 3 wr sm w.heap.size n sl rest rN/\s=af ag (lP hi sl-lP hi rest)/\Hid (∀p∈rest,p∈sl)/\Hid (lP hi rest<=lP hi sl)/\Below w.heap.size w wr) (fun _ wr=>wr.rangeLeft sm w.heap.size)
 case atStart=>exact⟨sl,_,H0.out.1,by rw[Int.sub_self],fun p hp=>hp,gE (Int.le_refl _),H0.out.2⟩
 case round=>
  obtain⟨rest,rN,zE,rfl,vj,WM,lS⟩:=hrel;have DQ:=gE lS;have TM:=gE zE;clear lS
  go_wp2_with (first
   |(at_next;refine sf _ rfl _ rfl underlying3 sm w.heap.size n sl rest rN rfl zE ?_ ?_))
  ·intro Ef;subst Ef;go_wp2_with fail;go_ret;exact⟨by simp[lP],DQ.out⟩
  ·intro k y r1 r2 w1 zj BG Vs kP zF jp pr uD Jl;have Sl:(k,y)∈sl:=vj.out _ (by rw[BG];simp);have im:Below w.heap.size w w1:=DQ.out.grown pr DQ.out.size (fun g hg=>by cases hg;exact ay _);have jk:w1.cell? ⟨y,2,none⟩= some (af ag (hi k)):=gF (HS.out (k,y) Sl) im;have qF:=Kt (f:=hi) r1 r2 k y;rw[<-BG]at qF;have rQ:0<=lP hi (r1++r2):=tF fun p hp=>(HR.out p (vj.out p (by rw[BG];simp at hp⊢;rcases hp with h|h<;>simp[h]))).1
   have xF:Hid (∀p∈r1++r2,p∈sl):=fun p hp=>vj.out p (by rw[BG];simp at hp⊢;rcases hp with h|h<;>simp[h])
   have hk:0<=hi k/\hi k<=1073741823:=HR.out (k,y) Sl;obtain⟨hk0,pJ⟩:=hk;have uC:=WM.out
   have hw:IntKind.i64.wrap (lP hi sl-lP hi rest+hi k)=lP hi sl-lP hi (r1++r2):=by
    rw[di];omega
   have Zy:=gE qF;have HE:=gE (Ho y (hi k) w1 jk);have H1:=gE (ce zF (ce im (ce jp xF)));have HN:=gE (show lP hi (r1++r2)<=lP hi sl from by omega);generalize lP hi rest=Sr at hw Zy⊢;clear qF rQ im jk Sl zF jp xF uC pr uD kP;go_wp2_with fail;refine HE.out.mono ?_;rintro e w2 ⟨rfl,rfl⟩;clear HE;go_wp2_with fail
   go_roundw
   case rel=>exact⟨r1++r2,zj,H1.out.1,rfl,H1.out.2.2.2,HN,H1.out.2.1⟩
   case measure=>
    have h1:=H1.out.1.left_eq;have h2:=TM.out.left_eq;have h3:=H1.out.2.2.1;rw[h1,h2];exact h3
theorem Gf(cb sm n:Nat)(sl:List (Int×Nat))(hi:Int->Int)(jQ:Int)(w:World)(hc:w.cell? ⟨cb,21,none⟩= some (.map (some sm)))(hp:w.cell? ⟨cb,23,none⟩= some (af ag jQ))(hm:kG nv ae 3 w sm n sl)(hs:∀p∈sl,w.cell? ⟨p.2,2,none⟩= some (af ag (hi p.1)))(hr:∀p∈sl,0<=hi p.1/\hi p.1<=1073741823)(hl:sl.length<=1073741823)(JA:0<=jQ/\jQ<=1152921504606846976):
  Calls ae 216 #[ai (some ⟨cb,0,none⟩)] w fun e w'=>e=.returned (af ag (jQ+lP hi sl))/\Below w.heap.size w w':=by
 have h1:0<=lP hi sl:=tF fun p hp=>(hr p hp).1
 have h2:lP hi sl<=1152921504606846976:=by
  have:=Hl (B:=1073741823) fun p hp=>(hr p hp).2
  omega
 have HS:=gE (fun W (hW:Below w.heap.size w W)=>OR cb sm n sl hi W (gF hc hW) (hm.same (hW.block sm hm.lt)) (fun p hp=>gF (hs p hp) hW) hr hl);have hw:IntKind.i64.wrap (jQ+lP hi sl)=jQ+lP hi sl:=by rw[di];omega
 generalize lP hi sl=S at HS hw⊢;clear hc hm hs hr hl JA h1 h2;go_enter func216,ntmps216;go_wp2_with fail
 go_region_held3 (fun w'=>w'.cell? ⟨cb,23,none⟩= some (af ag jQ)) (first|assumption|go_keep) (first
  |(go_at_call 70;refine(HS.out _ (gK (Below.refl _ w) 1)).mono ?_;rintro e w1 ⟨rfl,im⟩;have k23:=gF hp (ib im)))
 have HB:=gE (ib im);clear im HS k23;go_wp2_with fail;go_ret;exact⟨rfl,HB.out⟩
theorem Tw(ahead:Int)(w:World):
  Calls ae 130 #[af ag ahead] w fun e w'=>∃b,w.heap.size<=b/\e=.returned (ai (some ⟨b,0,none⟩))/\(∀U,n9 U w' b (aj none 0 0) ahead (jI ahead))/\Below w.heap.size w w':=by
 have HK:=gE (JN ahead w);go_enter func130,ntmps130;go_wp2_with fail;refine HK.out.mono ?_;rintro e w1 ⟨rfl,im⟩;have HB:=gE im;clear im HK;go_wp2_with fail;go_ret;refine⟨w1.heap.size,HB.out.size,rfl,fun U=>⟨?_,[],?_,fun v hv=>(by cases hv)⟩,gI HB.out (gH _ _)⟩
 ·exact heap_alloc_new w1 _
 ·exact⟨⟨rfl,a_ ⟨rfl,rfl⟩⟩,⟨rfl,fun i v r hv=>(by simp at hv)⟩,fun i v r hv=>(by simp at hv)⟩
theorem OT(fi:Int)(rs:Bool)(ty mv iC:Int)(bv:Value)(en pf:Int)(w:World):
  Calls ae 215 #[.agg #[af ag fi,.bool rs],rx ty mv iC bv en pf] w fun e w'=>e=.returned (af ag (pe ty en fi))/\Below w.heap.size w w':=by
 have HF:Hid (∀W,Calls ae 224 #[.agg #[af ag ty,af ag mv,af ag iC,bv,af ag en,af ag pf],af ag fi] W fun e w'=>e=.returned (af ag (pe ty en fi))/\Below W.heap.size W w'):=fun W=>vU ty mv iC bv en pf fi W
 unfold rx;go_enter func215,ntmps215;go_wp2_with fail;refine(HF.out _).mono ?_;rintro e w1 ⟨rfl,im⟩;have HB:=gE (gI (gI (gH w _) (gH _ _)) im);clear im HF;go_wp2_with fail;go_ret;exact⟨rfl,HB.out⟩
def qv{α:Type}(C:vH α)(l:List (Int×α))(k:Int):Value:=match rV l k with
 |some y=>C.V y
 |none=>C.z
theorem Kk{α:Type}{C:vH α}{e:TypeId}(hK:P.underlying K=some (.int .i64))(ht:P.underlying t=some (.map K e))(hz:∀W,(zeroValue e).run P W=.ok C.z W){l:List (Int×α)}(h:kG C P K w b n l)(hk:(Lit.int .i64 k).wf=true):
  (dM t (.map (some b)) (af ag k) true).run P w=.ok (.tuple #[qv C l k,.bool (rV l k).isSome]) w:=by
 obtain⟨D,gY,ok⟩:=h;obtain⟨v,ps,kk,hv⟩:=gY.look_ok (Maps.int_keyed hK) ht (hz w) C.zer (Maps.keyOf_int_mk hK hk);rw[ok.has k]at kk
 have:v=qv C l k:=by
  unfold qv
  cases hy:rV l k with
  |some y=>rw[ok.at_ k y hy]at hv;exact(C.inv hv).1 y rfl
  |none=>
   have h2:=ok.has k;rw[hy]at h2;rw[dO (by simpa using h2)]at hv;exact(C.inv hv).2 rfl
 rw[<-this];exact kk
theorem zT{α:Type}{C:vH α}{e:TypeId}(hK:P.underlying K=some (.int .i64))(ht:P.underlying t=some (.map K e))(hz:∀W,(zeroValue e).run P W=.ok C.z W){l:List (Int×α)}(h:kG C P K w b n l)(hk:(Lit.int .i64 k).wf=true):
  (dM t (.map (some b)) (af ag k) false).run P w=.ok (qv C l k) w:=by
 obtain⟨D,gY,ok⟩:=h;obtain⟨v,ps,kk,hv⟩:=gY.lookup (Maps.int_keyed hK) ht (hz w) C.zer (Maps.keyOf_int_mk hK hk)
 have:v=qv C l k:=by
  unfold qv
  cases hy:rV l k with
  |some y=>rw[ok.at_ k y hy]at hv;exact(C.inv hv).1 y rfl
  |none=>
   have h2:=ok.has k;rw[hy]at h2;rw[dO (by simpa using h2)]at hv;exact(C.inv hv).2 rfl
 rw[<-this];exact kk
structure iP where
 k_:Value
 sm:Nat
 dm:Nat
 sl:List (Int×Nat)
 dl:List (Int×(Int×Bool))
 lv:Int->Value
 u:Nat->Prop
def yh(l:List jf)(id:Int):Option (Int×Bool):=if 0<=id then(l[id.toNat]?).bind fun x=>if x.done then some (x.final,x.reset) else none else none
structure jE(N:Nat)(w:World)(cb:Nat)(g:jG)(c:gZ)(a:iP):Prop where
 i_:iG w cb g c a.k_ a.sm a.dm (kU c.gJ)
 pk:∃vs,mF w a.k_ vs (lU c.runs)
 zW:∃n,n<=N/\kG nv ae 3 w a.sm n a.sl
 Bz:∃n,n<=N/\kG I2 ae 3 w a.dm n a.dl
 mp:Om g.c2 c.gJ a.sl
 str:∀p∈a.sl,∀x,c.gJ[p.1.toNat]? =some x->n9 a.u w p.2 (a.lv p.1) g.c2 x
 UO:∀id,rV a.dl id=yh c.gJ id
 ne:a.sm≠a.dm
 apart:∀p∈a.sl,∀q∈a.sl,p.1≠q.1->p.2≠q.2/\∀k,(a.lv p.1).ownBlock=some k->(a.lv q.1).ownBlock≠some k
 ul:∀k,a.u k->k<w.heap.size
def Ou(B:Nat)(a a':iP):Prop:=∀k,a'.u k->a.u k\/B<=k
def jH(cb:Nat)(a:iP)(k:Nat):Prop:=k=cb\/a.k_.ownBlock=some k\/k=a.sm\/k=a.dm\/∃p∈a.sl,k=p.2\/(a.lv p.1).ownBlock=some k
theorem jE.iO{a:iP}(h:jE N w cb g c a)(hc:ip F w w')(hF:∀k,jH cb a k->¬F k)(h8:∀k cur fr,w.heap[k]? =some (.cells cur 5 fr)->¬F k):jE N w' cb g c a:=by
 obtain⟨vs,sW⟩:=h.pk;obtain⟨n1,rQ,qq⟩:=h.zW;obtain⟨n2,uC,tx⟩:=h.Bz;refine⟨h.i_.iO hc (hF _ (a_ rfl)),⟨vs,?_⟩,⟨n1,rQ,qq.same (hc.block _ qq.lt (hF _ (aV (aV (a_ rfl)))))⟩,⟨n2,uC,tx.same (hc.block _ tx.lt (hF _ (aV (aV (aV (a_ rfl))))))⟩,h.mp,fun p hp x hx=>?_,h.UO,h.ne,h.apart,fun k hk=>cq (h.ul k hk) hc.size⟩
 ·exact⟨jg sW.own hc (fun k hk=>hF k (aV (a_ hk))),sW.sh⟩
 ·exact(h.str p hp x hx).iO hc (hF _ (aV (aV (aV (aV ⟨p,hp,a_ rfl⟩))))) (fun k hk=>hF k (aV (aV (aV (aV ⟨p,hp,aV hk⟩))))) h8
theorem jE.below{a:iP}(h:jE N w cb g c a)(hb:Below w.heap.size w w'):jE N w' cb g c a:=
 h.iO (F:=fun _=>False) (ip.gS hb) (fun _ _ h=>h) (fun _ _ _ _ h=>h)
theorem jE.mono{N':Nat}{a:iP}(h:jE N w cb g c a)(hn:N<=N'):jE N' w cb g c a:=by
 obtain⟨n1,rQ,qq⟩:=h.zW;obtain⟨n2,uC,tx⟩:=h.Bz;exact⟨h.i_,h.pk,⟨n1,cw rQ hn,qq⟩,⟨n2,cw uC hn,tx⟩,h.mp,h.str,h.UO,h.ne,h.apart,h.ul⟩
theorem UF{α:Type}{l:List (Int×α)}(h:rV l k=none):k∉l.map (·.1):=un.1 h
structure uk(N:Nat)(w:World)(cb:Nat)(g:jG)(c:gZ)(a:iP)(mv:Int)(e:Ending)(w':World)(b:Nat)(a':iP):Prop where
 ret:e=.returned (ai (some ⟨b,0,none⟩))
 kH:jE (N+1) w' cb g c a'
 mem:(mv,b)∈a'.sl
 iO:ip (fun k=>k=a.sm) w w'
 xH:∀k,jH cb a' k->jH cb a k\/w.heap.size<=k
 sub:∀k,jH cb a k->jH cb a' k
 u:a'.u=a.u
theorem jE.made{a:iP}(h:jE N w cb g c a)(h0:0<=mv)(hx:c.gJ[mv.toNat]? =some x)(hd:x.done=false)(ka:rV a.sl mv=none)(hb:w.heap.size<=b)(im:Below w.heap.size w w1)(uD:n9 a.u w1 b (aj none 0 0) g.c2 (jI g.c2))(hn:n<=N)(tx:kG nv ae 3 w2 a.sm (n+1) (a.sl++[(mv,b)]))(mZ:w1.grownBy w2 (some a.sm)):
  uk N w cb g c a mv (.returned (ai (some ⟨b,0,none⟩))) w2 b {a with sl:=a.sl++[(mv,b)],lv:=fun k=>if k=mv then aj none 0 0 else a.lv k}:=by
 obtain⟨n1,rQ,qq⟩:=h.zW;have WM:=qq.lt;obtain⟨es,ck,xF⟩:=qq.kY;have XY:ip (fun k=>k=a.sm) w1 w2:=⟨mZ.os,mZ.tape,mZ.output,mZ.size,fun k hk js=>mZ.block k hk (fun e=>by injection e with e;exact js e)⟩;have kq:ip (fun k=>k=a.sm) w w2:=(ip.gS im).trans XY
 have GF:∀k cur e fr,w.heap[k]? =some (.cells cur e fr)->¬k=a.sm:=by
  intro k cur e fr hk e1;subst e1;rw[xF]at hk
  cases hk
 have zC:=UF ka;have hxn:x=jI g.c2:=h.mp.non mv.toNat x hx hd (by rw[Int.toNat_of_nonneg h0];exact zC);have SH:w1.heap[a.sm]? =some (.map es ck):=by rw[im.block _ WM];exact xF
 have js:∀p∈a.sl,p.1≠mv:=fun p hp e=>zC (cZ.2 ⟨p,hp,e⟩)
 obtain⟨n2,uC,Yo⟩:=h.Bz;obtain⟨es2,ck2,zz⟩:=Yo.kY;obtain⟨vs,sW⟩:=h.pk;refine⟨rfl,⟨h.i_.iO kq (GF _ _ _ _ h.i_),⟨vs,jg sW.own kq (fun k hk e=>?_),sW.sh⟩,⟨n+1,by omega,tx⟩,⟨n2,by omega,?_⟩,?_,?_,h.UO,h.ne,?_,fun k hk=>cq (h.ul k hk) kq.size⟩,by simp,kq,?_,?_,rfl⟩
 ·subst e;obtain⟨c1,e1⟩:=ii sW.own hk;rw[xF]at e1
  cases e1
 ·exact Yo.same (kq.block _ Yo.lt fun e=>h.ne e.symm)
 ·refine⟨?_,fun p hp=>?_,fun i y hy WU hk=>?_⟩
  ·simp only[bS,bD,List.map_nil];rw[List.nodup_append];refine⟨h.mp.nd,by simp,fun k hk q hq e=>zC ?_⟩;rw[<-bP.1 hq,<-e];exact hk
  ·rcases bR.1 hp with hp|hp
   ·exact h.mp.str p hp
   ·rw[bP.1 hp];exact⟨h0,x,hx,hd⟩
  ·refine h.mp.non i y hy WU fun hm=>hk ?_
   simp only[bS,bR];exact a_ hm
 ·intro p hp y hy;rcases bR.1 hp with hp|hp
  ·have h1:=(h.str p hp y hy).below im;simp only[if_neg (js p hp)];refine h1.iO XY (fun e=>?_) (fun k hk e=>?_) (fun k cur fr hk e=>?_)
   ·have:=h1.i_;rw[e,SH]at this;cases this
   ·obtain⟨Uc,tP⟩:=h1.own;subst e;obtain⟨c1,e1⟩:=ii tP hk;rw[SH]at e1
    cases e1
   ·subst e;rw[SH]at hk;cases hk
  ·rw[bP.1 hp]at hy⊢;simp only at hy⊢;rw[hx]at hy;simp only[Option.some.injEq]at hy;subst hy;simp only[if_true];rw[hxn];refine uD.iO XY (fun e=>?_) (fun k hk e=>?_) (fun k cur fr hk e=>?_)
   ·have:=uD.i_;rw[e,SH]at this;cases this
   ·simp[ax]at hk
   ·subst e;rw[SH]at hk;cases hk
 ·intro p hp q hq Ei;rcases bR.1 hp with hp|hp<;>rcases bR.1 hq with hq|hq
  ·simp only[if_neg (js p hp),if_neg (js q hq)];exact h.apart p hp q hq Ei
  ·rw[bP.1 hq];obtain⟨we,y,hy,_⟩:=h.mp.str p hp;have:=(h.str p hp y hy).lt;refine⟨by simp only;omega,fun k hk=>?_⟩;simp[ax]
  ·rw[bP.1 hp];obtain⟨we,y,hy,_⟩:=h.mp.str q hq;have:=(h.str q hq y hy).lt;refine⟨by simp only;omega,fun k hk=>?_⟩;simp[ax]at hk
  ·rw[bP.1 hp,bP.1 hq]at Ei;exact absurd rfl Ei
 ·rintro k (e|e|e|e|⟨p,hp,e⟩)
  ·exact a_ (a_ e)
  ·exact a_ (aV (a_ e))
  ·exact a_ (aV (aV (a_ e)))
  ·exact a_ (aV (aV (aV (a_ e))))
  ·rcases bR.1 hp with hp|hp
   ·simp only[if_neg (js p hp)]at e;exact a_ (aV (aV (aV (aV ⟨p,hp,e⟩))))
   ·rw[bP.1 hp]at e;simp only[if_true]at e;rcases e with e|e
    ·exact aV (by rw[e];exact hb)
    ·simp[ax]at e
 ·rintro k (e|e|e|e|⟨p,hp,e⟩)
  ·exact a_ e
  ·exact aV (a_ e)
  ·exact aV (aV (a_ e))
  ·exact aV (aV (aV (a_ e)))
  ·refine aV (aV (aV (aV ⟨p,by simp[hp],?_⟩)));simp only[if_neg (js p hp)];exact e
theorem IX(N cb:Nat)(g:jG)(c:gZ)(a:iP)(mv:Int)(x:jf)(w:World)(h:jE N w cb g c a)(hN:N<1125899906842624)(h0:0<=mv/\mv<=1073741823)(hx:c.gJ[mv.toNat]? =some x)(hd:x.done=false):
  Calls ae 73 #[ai (some ⟨cb,0,none⟩),af ag mv] w fun e w'=>∃b a',uk N w cb g c a mv e w' b a':=by
 obtain⟨n,hn,hm⟩:=h.zW;have YS:(Lit.int .i64 mv).wf=true:=xi (by omega);have NO:=zT (C:=nv) (e:=140) underlying3 underlying134 (fun W=>by kernel_rfl) hm YS;have c21:w.cell? ⟨cb,21,none⟩= some (.map (some a.sm)):=h.i_.cell 21;have c2:w.cell? ⟨cb,2,none⟩= some (af ag g.c2):=h.i_.cell 2
 cases hy:rV a.sl mv with
 |some b=>
  have hv:qv nv a.sl mv=ai (some ⟨b,0,none⟩):=by unfold qv;rw[hy];rfl
  rw[hv]at NO;have HE:Hid (uk N w cb g c a mv (.returned (ai (some ⟨b,0,none⟩))) w b a):=⟨rfl,h.mono (dP _),N1 hy,ip.refl _ _,fun k hk=>a_ hk,fun k hk=>hk,rfl⟩;clear h hm hv hy hx hd;go_enter func73,ntmps73;go_wp2_with fail;go_ret;exact⟨b,a,HE.out⟩
 |none=>
  have hv:qv nv a.sl mv=ai none:=by unfold qv;rw[hy];rfl
  rw[hv]at NO;have HT:=gE (Tw g.c2 w);have HM:=gE hm;have HH:=gE h;have HY:=gE hy;have HX:=gE hx;clear h hm hv hy hx;go_enter func73,ntmps73;go_wp2_with fail;refine HT.out.mono ?_;rintro e w1 ⟨b,hb,rfl,uD,im⟩;have d21:=gF c21 im;have K0:=gE uD;have nB:=gE im;clear uD im HT c21 c2 NO
  go_wp2_with (first
   |(at_mapUpdate;refine KD (C:=nv) _ rfl _ _ _ 134 rfl 140 underlying3 underlying134 a.sm n a.sl rfl (HM.out.same (nB.out.block a.sm HM.out.lt)) (by unfold maxLen;omega) mv b rfl rfl YS HY.out ?_;intro w2 tx mZ Cd))
  have HE:=gE (HH.out.made h0.1 HX.out hd HY.out hb nB.out (K0.out _) hn tx mZ);clear tx mZ;go_ret;exact⟨b,_,HE.out⟩
theorem PY{l:List jf}:∀{i:Nat} {x y:jf},l[i]? =some x->x.done=false->y.done=false->kU (l.set i y)=kU l:=by
 induction l with
 |nil=>intro i x y h;simp at h
 |cons a t ih=>
  intro i x y h h1 h2
  cases i with
  |zero=>
   simp only[cz,Option.some.injEq]at h;subst h;simp[kU,h1,h2]
  |succ i=>
   have:=ih (i:=i) (x:=x) (y:=y) (by simpa using h) h1 h2;simp only[kU,List.set_cons_succ,List.filter_cons]at this⊢
   split<;>simp[this]
theorem Lz{l:List jf}(h:l[i]? =some x)(h1:x.done=false)(h2:y.done=false)(id:Int):yh (l.set i y) id=yh l id:=by
 unfold yh
 split
 ·by_cases e:id.toNat=i
  ·subst e;rw[getElem?_set_at h,h];simp[h1,h2]
  ·rw[getElem?_set_other e]
 ·rfl
theorem iG.gJ(h:iG w cb g c k_ sm dm jQ)(l:List jf)(hl:l.length=c.gJ.length):iG w cb g {c with gJ:=l} k_ sm dm jQ:=by
 unfold iG D8 at h⊢;simp only;rw[hl];exact h
theorem jE.adE{a:iP}{iX:Value}(h:jE N w cb g c a)(hm:(mv,b)∈a.sl)(hx:c.gJ[mv.toNat]? =some x)(hd:x.done=false)(WU:y.done=false)
  (hc:ip (fun k=>k=b\/(a.lv mv).ownBlock=some k) w w') (hy:n9 (fun k=>a.u k\/(w.heap.size<=k/\k<w'.heap.size)) w' b iX g.c2 y) (kP:iX.ownBlock=(a.lv mv).ownBlock\/∀k,iX.ownBlock=some k->w.heap.size<=k):
  jE N w' cb g {c with gJ:=c.gJ.set mv.toNat y} {a with lv:=fun k=>if k=mv then iX else a.lv k,u:=fun k=>a.u k\/(w.heap.size<=k/\k<w'.heap.size)}/\∀k,jH cb {a with lv:=fun k=>if k=mv then iX else a.lv k,u:=fun k=>a.u k\/(w.heap.size<=k/\k<w'.heap.size)} k->jH cb a k\/w.heap.size<=k:=by
 have Iq:=h.str (mv,b) hm x hx;have kA:=Iq.i_;obtain⟨vs0,ho0⟩:=Iq.own
 have hF:∀k cur e fr,w.heap[k]? =some (.cells cur e fr)->e≠204->e≠259->¬(k=b\/(a.lv mv).ownBlock=some k):=by
  rintro k cur e fr hk h1 h2 (e1|e1)
  ·subst e1;simp only at kA;rw[kA]at hk;simp only[Option.some.injEq,Obj.cells.injEq]at hk;exact h1 hk.2.1.symm
  ·exact gO ho0 hk (fun e=>h2 e.symm) e1
 have hFm:∀k es ck,w.heap[k]? =some (.map es ck)->¬(k=b\/(a.lv mv).ownBlock=some k):=by
  rintro k es ck hk (e1|e1)
  ·subst e1;simp only at kA;rw[kA]at hk
   cases hk
  ·obtain⟨c1,e2⟩:=ii ho0 e1;rw[hk]at e2
   cases e2
 obtain⟨n1,rQ,qq⟩:=h.zW;obtain⟨n2,uC,tx⟩:=h.Bz;obtain⟨es1,ck1,im⟩:=qq.kY;obtain⟨es2,ck2,iT⟩:=tx.kY;obtain⟨vs,sW⟩:=h.pk;have h0:=(h.mp.str (mv,b) hm).1
 have SG:∀p∈a.sl,p.1=mv->p.2=b:=by
  intro p hp e;have h1:=u9 h.mp.nd (show(p.1,p.2)∈a.sl from hp);have h2:=u9 h.mp.nd hm;rw[e,h2]at h1;simp only[Option.some.injEq]at h1;exact h1.symm
 constructor
 ·refine⟨?_,⟨vs,jg sW.own hc (fun k hk e=>?_),sW.sh⟩,⟨n1,rQ,qq.same (hc.block _ qq.lt (hFm _ _ _ im))⟩,⟨n2,uC,tx.same (hc.block _ tx.lt (hFm _ _ _ iT))⟩,?_,?_,?_,h.ne,?_,fun k hk=>hk.elim (fun h1=>cq (h.ul k h1) hc.size) (fun h1=>h1.2)⟩
  ·have h1:=(h.i_.iO hc (hF _ _ _ _ h.i_ (by decide) (by decide))).gJ (c.gJ.set mv.toNat y) (by simp);simp only[PY hx hd WU];exact h1
  ·obtain⟨c1,e1⟩:=ii sW.own hk;exact hF _ _ _ _ e1 (by decide) (by decide) e
  ·refine⟨h.mp.nd,fun p hp=>?_,fun i z hz hzd hk=>?_⟩
   ·obtain⟨p0,z,hz,hzd⟩:=h.mp.str p hp;refine⟨p0,?_⟩;by_cases e:p.1.toNat=mv.toNat
    ·rw[e];exact⟨y,getElem?_set_at hx,WU⟩
    ·exact⟨z,by simp only;rw[getElem?_set_other e];exact hz,hzd⟩
   ·have hi:i≠mv.toNat:=by
     intro e;refine hk (cZ.2 ⟨(mv,b),hm,?_⟩);simp only;rw[e];omega
    simp only at hz;rw[getElem?_set_other hi]at hz;exact h.mp.non i z hz hzd hk
  ·intro p hp z hz;by_cases e:p.1=mv
   ·simp only[if_pos e];rw[SG p hp e];simp only at hz;rw[e,getElem?_set_at hx]at hz;simp only[Option.some.injEq]at hz;subst hz;exact hy
   ·simp only[if_neg e];have we:=(h.mp.str p hp).1;have e2:p.1.toNat≠mv.toNat:=by omega
    simp only at hz;rw[getElem?_set_other e2]at hz;have Wi:=h.apart p hp (mv,b) hm e;refine((h.str p hp z hz).iO hc ?_ ?_ (fun k cur fr hk=>hF k cur _ fr hk (by decide) (by decide))).mono (fun k hk=>a_ hk)
    ·rintro(e3|e3)
     ·exact Wi.1 e3
     ·have TZ:=(h.str p hp z hz).i_;exact gO ho0 TZ (by decide) e3
    ·rintro k hk (e3|e3)
     ·obtain⟨Uc,tP⟩:=(h.str p hp z hz).own;subst e3;exact gO tP kA (by decide) hk
     ·exact Wi.2 k hk e3
  ·intro id;rw[h.UO id];exact(Lz hx hd WU id).symm
  ·intro p hp q hq Ei;by_cases e1:p.1=mv
   ·have e2:q.1≠mv:=fun e=>Ei (e1.trans e.symm)
    have Wi:=h.apart p hp q hq Ei;refine⟨Wi.1,fun k hk=>?_⟩;simp only[if_pos e1]at hk;simp only[if_neg e2];rcases kP with e3|e3
    ·rw[e3,<-e1]at hk;exact Wi.2 k hk
    ·intro rp;obtain⟨q0,z,hz,_⟩:=h.mp.str q hq;obtain⟨Uc,tP⟩:=(h.str q hq z hz).own;have h1:=(tP.lt k rp).2;have h2:=e3 k hk;omega
   ·by_cases e2:q.1=mv
    ·have Wi:=h.apart p hp q hq Ei;refine⟨Wi.1,fun k hk=>?_⟩;simp only[if_neg e1]at hk;simp only[if_pos e2];rcases kP with e3|e3
     ·rw[e3,<-e2];exact Wi.2 k hk
     ·intro rp;obtain⟨p0,z,hz,_⟩:=h.mp.str p hp;obtain⟨Uc,tP⟩:=(h.str p hp z hz).own;have h1:=(tP.lt k hk).2;have h2:=e3 k rp;omega
    ·simp only[if_neg e1,if_neg e2];exact h.apart p hp q hq Ei
 ·rintro k (e|e|e|e|⟨p,hp,e⟩)
  ·exact a_ (a_ e)
  ·exact a_ (aV (a_ e))
  ·exact a_ (aV (aV (a_ e)))
  ·exact a_ (aV (aV (aV (a_ e))))
  ·by_cases e1:p.1=mv
   ·simp only[if_pos e1]at e;rcases e with e|e
    ·exact a_ (aV (aV (aV (aV ⟨p,hp,a_ e⟩))))
    ·rcases kP with e3|e3
     ·rw[e3,<-e1]at e;exact a_ (aV (aV (aV (aV ⟨p,hp,aV e⟩))))
     ·exact aV (e3 k e)
   ·simp only[if_neg e1]at e;exact a_ (aV (aV (aV (aV ⟨p,hp,e⟩))))
structure Nt(N:Nat)(w:World)(cb:Nat)(g:jG)(c:gZ)(a:iP)(r:Int×gZ)(e:Ending)(w':World):Prop where
 ret:e=.returned (af ag r.1)
 iO:ip (jH cb a) w w'
 i_:iG w' cb g c a.k_ a.sm a.dm (kU c.gJ)
 kH:r.1=0->∃a',jE (N+1) w' cb g r.2 a'/\(∀k,jH cb a' k->jH cb a k\/w.heap.size<=k)/\Ou w.heap.size a a'
theorem Gk(h:c.gJ[f.id.toNat]? =none):iN iI f c=(4,c):=by
 unfold iN;rw[h]
theorem zk(h:c.gJ[f.id.toNat]? =some x):iN iI f c=((iw iI c.gM (jO c.gJ) f x).1,{c with gJ:=c.gJ.set f.id.toNat (iw iI c.gM (jO c.gJ) f x).2}):=by
 unfold iN;rw[h]
theorem Hi(hx:np iI x)(hd:x.done=true)(BJ:f.type=3\/f.type=4\/f.type=5):iw iI gM high f x=(pe f.type (f.iC+f.bytes.length) x.final,x):=by
 have h0:=(hx.dn hd).2.1;unfold iw;simp only
 have hb:vY x (f.iC+f.bytes.length) (decide (f.type≠3))=decide (pe f.type (f.iC+f.bytes.length) x.final=6):=by
  unfold vY pe;rw[hd,yL BJ];by_cases h1:x.final<f.iC+f.bytes.length
  ·simp[h0,h1]
  ·by_cases h2:f.type=3
   ·simp[h1,h2]
   ·by_cases h3:f.iC+(f.bytes.length:Int)=x.final
    ·simp[h3]
    ·simp[h0,h1,h2,h3]
 rw[hb];by_cases h6:pe f.type (f.iC+f.bytes.length) x.final=6
 ·rw[if_pos (by simp[h6]),h6]
 ·have:pe f.type (f.iC+f.bytes.length) x.final=0:=by
   unfold pe at h6⊢
   split
   ·next h=>rw[if_pos h]at h6;exact absurd rfl h6
   ·rfl
  rw[if_neg (by simp[h6]),if_pos hd,this]
theorem BT(hd:x.done=false):(iw iI gM high f x).2.done=false:=by
 have hp:∀r:jf,r.done=false->(lp f x r).done=false:=by
  intro r hr;unfold lp;simp only
  split<;>split<;>exact hr
 have hr:(jD iI x f.iC f.bytes).2.done=false:=by
  unfold jD
  split
  ·exact hd
  ·split<;>exact hd
 unfold iw;simp only
 repeat' split
 all_goals first|exact hd|exact hp _ hr|exact hp _ hd
theorem Om.len{α:Type}{jm:Int}{l:List jf}{sl:List (Int×α)}(h:Om jm l sl):sl.length<=l.length:=by
 have QS:∀m:List (Int×α),(m.map (·.1)).Nodup->(∀p∈m,0<=p.1)->(m.map fun p=>p.1.toNat).Nodup:=by
  intro m
  induction m with
  |nil=>intro _ _;simp
  |cons b t ih=>
   intro hn h0;simp only[bD,List.nodup_cons]at hn⊢;refine⟨fun hm=>?_,ih hn.2 (fun p hp=>h0 p (by simp[hp]))⟩;obtain⟨q,hq,e⟩:=cZ.1 hm;have h1:=h0 b (by simp);have h2:=h0 q (by simp[hq]);exact hn.1 (cZ.2 ⟨q,hq,by omega⟩)
 have hn:=QS sl h.nd (fun p hp=>(h.str p hp).1)
 have hp:((List.range l.length).filter fun i=>decide (i∈sl.map fun p=>p.1.toNat)).Perm (sl.map fun p=>p.1.toNat):=by
  rw[List.perm_ext_iff_of_nodup (List.nodup_range.filter _) hn];intro b;simp only[List.mem_filter,List.mem_range,decide_eq_true_eq];refine⟨fun h=>h.2,fun hb=>⟨?_,hb⟩⟩;obtain⟨p,hp,rfl⟩:=cZ.1 hb;obtain⟨_,x,hx,_⟩:=h.str p hp;exact(bm.1 hx).1
 have h1:=hp.length_eq;have h2:=List.length_filter_le (fun i=>decide (i∈sl.map fun p=>p.1.toNat)) (List.range l.length);simp only[List.length_map,List.length_range]at h1 h2;omega
theorem GW{l:List jf}(h:∀x∈l,np iI x):0<=kU l:=by
 unfold kU
 have:∀m:List jf,(∀x∈m,np iI x/\x.done=true)->0<=(m.map fun x=>x.final).sum:=by
  intro m
  induction m with
  |nil=>intro _;simp
  |cons b t ih=>
   intro hm;have h1:=(hm b (by simp)).1.dn (hm b (by simp)).2;have h2:=ih fun x hx=>hm x (by simp[hx])
   simp only[bD,dN];omega
 refine this _ fun x hx=>?_
 rw[List.mem_filter]at hx;exact⟨h x hx.1,hx.2⟩
theorem OS(N cb:Nat)(g:jG)(c:gZ)(a:iP)(f:lL)(bv:Value)(pf:Int)(w:World)(h:jE N w cb g c a)(hi:lr g c)(hg:nx g)(jR:ke M c)(hN:N<1125899906842624)(BJ:f.type=3\/f.type=4\/f.type=5)(h5:f.type=5->f.bytes=[])(si:y9 f)(hl:f.bytes.length<=1073741823)(kI:me w bv f.bytes):
  Calls ae 205 #[ai (some ⟨cb,0,none⟩),rx f.type f.id (if f.type=5 then 0 else f.iC) bv (f.iC+f.bytes.length) pf] w fun e w'=>Nt N w cb g c a (iN g.c4 f c) e w':=by
 obtain⟨po,Ps⟩:∃po,(if f.type=5 then 0 else f.iC)=po:=⟨_,rfl⟩;obtain⟨en,Jl⟩:∃en,f.iC+(f.bytes.length:Int)=en:=⟨_,rfl⟩;obtain⟨_,_,ba,bc,rfl,_⟩:=id kI;obtain⟨bl,qQ⟩:∃bl,f.bytes.length=bl:=⟨_,rfl⟩;have HPo:=gE Ps;have Zt:=gE Jl;have VQ:=gE qQ;rw[Ps,Jl,qQ];rw[qQ]at kI;have T4:=si.id;have ny:Below w.heap.size w (w.alloc (.cells #[af ag f.type,af ag f.id,af ag po,.slice ba bl bc,af ag en,af ag pf] 286)):=gH w _;have Zr:Hid ((w.alloc (.cells #[af ag f.type,af ag f.id,af ag po,.slice ba bl bc,af ag en,af ag pf] 286)).heap[w.heap.size]? =some (.cells #[af ag f.type,af ag f.id,af ag po,.slice ba bl bc,af ag en,af ag pf] 286 (0,0))):=heap_alloc_new w _;have F5:=gE (Ru cb g c a.k_ a.sm a.dm (kU c.gJ) f.id (w.alloc (.cells #[af ag f.type,af ag f.id,af ag po,.slice ba bl bc,af ag en,af ag pf] 286)) (h.i_.below ny));have hd0:decide (0<=f.id)=true:=decide_eq_true T4.1;rw[hd0,Bool.true_and]at F5;have HH:=gE h
 cases hx:c.gJ[f.id.toNat]? with
 |none=>
  have i8:¬(f.id<(c.gJ.length:Int)):=by
   have:=List.getElem?_eq_none_iff.1 hx;omega
  rw[decide_eq_false i8]at F5;rw[Gk hx];have HE:Hid (Nt N w cb g c a (4,c) (.returned (af ag 4)) (w.alloc (.cells #[af ag f.type,af ag f.id,af ag po,.slice ba bl bc,af ag en,af ag pf] 286))):=⟨rfl,ip.gS ny,h.i_.below ny,fun h=>absurd (show(4:Int)=0 from h) (by decide)⟩;clear h hi hg jR si kI ny Zr HH hx;unfold rx;go_enter func205,ntmps205;go_wp2_with fail;refine F5.out.mono ?_;rintro e w1 ⟨rfl,rfl⟩;clear F5;go_wp2_with fail;go_ret;exact HE.out
 |some x=>
  have i8:f.id<(c.gJ.length:Int):=by
   have:=(bm.1 hx).1;omega
  rw[decide_eq_true i8]at F5;have hxm:=bT hx;have hxi:=hi.str x hxm;have YS:(Lit.int .i64 f.id).wf=true:=xi (by omega);obtain⟨n2,uC,tx⟩:=h.Bz;have LV:∀W:World,Below w.heap.size w W->(dM 135 (.map (some a.dm)) (af ag f.id) true).run ae W=.ok (.tuple #[qv I2 a.dl f.id,.bool (rV a.dl f.id).isSome]) W:=fun W hW=>Kk (C:=I2) (e:=142) underlying3 underlying135 (fun W=>by kernel_rfl) (tx.same (hW.block a.dm tx.lt)) YS
  have CZ:=h.UO f.id
  have hda:yh c.gJ f.id=if x.done then some (x.final,x.reset) else none:=by
   unfold yh;rw[if_pos T4.1,hx]
   rfl
  rw[hda]at CZ;have d22:(w.alloc (.cells #[af ag f.type,af ag f.id,af ag po,.slice ba bl bc,af ag en,af ag pf] 286)).cell? ⟨cb,22,none⟩= some (.map (some a.dm)):=(h.i_.below ny).cell 22;have Z1:Below w.heap.size w ((w.alloc (.cells #[af ag f.type,af ag f.id,af ag po,.slice ba bl bc,af ag en,af ag pf] 286)).alloc (.cells #[af ag 0,.bool false] 142)):=gI ny (gH _ _);have e22:=gF d22 (gH (w.alloc (.cells #[af ag f.type,af ag f.id,af ag po,.slice ba bl bc,af ag en,af ag pf] 286)) (.cells #[af ag 0,.bool false] 142))
  cases hd:x.done with
  |true=>
   rw[hd]at CZ;simp only[if_true]at CZ;have hv:qv I2 a.dl f.id=.agg #[af ag x.final,.bool x.reset]:=by unfold qv;rw[CZ];rfl
   simp only[hv,CZ,Option.isSome_some]at LV;have sj:(dM 135 (.map (some a.dm)) (af ag f.id) true).run ae (w.alloc (.cells #[af ag f.type,af ag f.id,af ag po,.slice ba bl bc,af ag en,af ag pf] 286)).drew=.ok (.tuple #[.agg #[af ag x.final,.bool x.reset],.bool true]) (w.alloc (.cells #[af ag f.type,af ag f.id,af ag po,.slice ba bl bc,af ag en,af ag pf] 286)).drew:=LV _ (gK ny 1);have rC:(dM 135 (.map (some a.dm)) (af ag f.id) true).run ae ((w.alloc (.cells #[af ag f.type,af ag f.id,af ag po,.slice ba bl bc,af ag en,af ag pf] 286)).alloc (.cells #[af ag 0,.bool false] 142)).drew=.ok (.tuple #[.agg #[af ag x.final,.bool x.reset],.bool true]) ((w.alloc (.cells #[af ag f.type,af ag f.id,af ag po,.slice ba bl bc,af ag en,af ag pf] 286)).alloc (.cells #[af ag 0,.bool false] 142)).drew:=LV _ (gK Z1 1);have HDT:=gE (fun W=>OT x.final x.reset f.type f.id po (.slice ba bl bc) en pf W);have hsd:=Hi (iI:=g.c4) (gM:=c.gM) (high:=jO c.gJ) (f:=f) hxi hd BJ;rw[Jl]at hsd
   have xB:Hid (iN g.c4 f c=(pe f.type en x.final,c)):=by
    show _=_;rw[zk hx,hsd];simp only;rw[jw hx]
   have HE:Hid (∀W:World,Below w.heap.size w W->Nt N w cb g c a (pe f.type en x.final,c) (.returned (af ag (pe f.type en x.final))) W):=fun W hW=>⟨rfl,ip.gS hW,h.i_.below hW,fun _=>⟨a,(h.below hW).mono (dP _),fun k hk=>a_ hk,fun k hk=>a_ hk⟩⟩
   clear h hi hg jR si kI HH hx LV tx hxi CZ hda hsd;rw[xB.out];unfold rx at HDT⊢;go_enter func205,ntmps205;go_wp2_with fail;refine F5.out.mono ?_;rintro e w1 ⟨rfl,rfl⟩;clear F5;go_wp2_with fail
   go_region
   all_goals
    have mc:=gE (gK (gI ny (gH (w.alloc (.cells #[af ag f.type,af ag f.id,af ag po,.slice ba bl bc,af ag en,af ag pf] 286)) (.cells #[af ag x.final,.bool x.reset] 142))) 1);go_wp2_with fail;refine(HDT.out _).mono ?_;rintro e w2 ⟨rfl,iT⟩;have ya:=gE (gI mc.out iT);clear iT mc;go_wp2_with fail;go_ret;exact HE.out _ ya.out
  |false=>
   rw[hd]at CZ;simp only[Bool.false_eq_true,if_false]at CZ;have hv:qv I2 a.dl f.id=.agg #[af ag 0,.bool false]:=by unfold qv;rw[CZ];rfl
   simp only[hv,CZ,Option.isSome_none]at LV;have sj:(dM 135 (.map (some a.dm)) (af ag f.id) true).run ae (w.alloc (.cells #[af ag f.type,af ag f.id,af ag po,.slice ba bl bc,af ag en,af ag pf] 286)).drew=.ok (.tuple #[.agg #[af ag 0,.bool false],.bool false]) (w.alloc (.cells #[af ag f.type,af ag f.id,af ag po,.slice ba bl bc,af ag en,af ag pf] 286)).drew:=LV _ (gK ny 1);have rC:(dM 135 (.map (some a.dm)) (af ag f.id) true).run ae ((w.alloc (.cells #[af ag f.type,af ag f.id,af ag po,.slice ba bl bc,af ag en,af ag pf] 286)).alloc (.cells #[af ag 0,.bool false] 142)).drew=.ok (.tuple #[.agg #[af ag 0,.bool false],.bool false]) ((w.alloc (.cells #[af ag f.type,af ag f.id,af ag po,.slice ba bl bc,af ag en,af ag pf] 286)).alloc (.cells #[af ag 0,.bool false] 142)).drew:=LV _ (gK Z1 1);have kq:=hi.high;have mH:=jR.gM;have ud:=hg.c4;have SI:=LU (iI:=g.c4) hi.str h.mp;have Z5:=GW hi.str;obtain⟨n1,rQ,qq⟩:=h.zW
   have kP:∀p∈a.sl,∃y,c.gJ[p.1.toNat]? =some y/\IF (·.gR) c.gJ p.1=y.gR/\np g.c4 y:=by
    intro p hp;obtain⟨_,y,hy,_⟩:=h.mp.str p hp;exact⟨y,hy,by unfold IF;rw[hy];rfl,hi.str y (bT hy)⟩
   have YE:∀p∈a.sl,0<=IF (·.gR) c.gJ p.1/\IF (·.gR) c.gJ p.1<=1073741823:=by
    intro p hp;obtain⟨y,hy,e,hyi⟩:=kP p hp;rw[e];have:=hyi.Ls;have:=hyi.len;have:=hyi.read;omega
   have JF:=tF (f:=IF (·.gR) c.gJ) (l:=a.sl) fun p hp=>(YE p hp).1
   have abz:=h.mp.len;have yY:=jR.p_
   have Nn:Hid (∀W:World,Below w.heap.size w W->Calls ae 216 #[ai (some ⟨cb,0,none⟩)] W fun e w'=>e=.returned (af ag (jO c.gJ))/\Below W.heap.size W w'):=by
    intro W hW;rw[SI];refine Gf cb a.sm n1 a.sl (IF (·.gR) c.gJ) (kU c.gJ) W ((h.i_.below hW).cell 21) ((h.i_.below hW).cell 23) (qq.same (hW.block a.sm qq.lt)) (fun p hp=>?_) YE (by omega) (by omega);obtain⟨y,hy,e,_⟩:=kP p hp;rw[e];exact((h.str p hp y hy).below hW).cell 2
   have Is:Hid (∀W:World,Below w.heap.size w W->Calls ae 73 #[ai (some ⟨cb,0,none⟩),af ag f.id] W fun e w'=>∃b a',uk N W cb g c a f.id e w' b a'):=
    fun W hW=>IX N cb g c a f.id x W (h.below hW) hN (by omega) hx hd
   have Rp:Hid (∀(W:World) (b:Nat) (a':iP),jE (N+1) W cb g c a'->(f.id,b)∈a'.sl->me W (.slice ba bl bc) f.bytes->Calls ae 217 #[ai (some ⟨b,0,none⟩),.agg #[af ag f.type,af ag f.id,af ag po,.slice ba bl bc,af ag en,af ag pf],af ag (c.gM-jO c.gJ),af ag g.c4] W fun e w'=>FZ a'.u (fun k=>k=b\/(a'.lv f.id).ownBlock=some k) W b (a'.lv f.id) g.c2 (iw g.c4 c.gM (jO c.gJ) f x) e w'):=by
    intro W b a' hA kx hR;have h9:=Tx b (a'.lv f.id) g.c2 g.c4 c.gM (jO c.gJ) f x (.slice ba bl bc) pf W (hA.str (f.id,b) kx x hx) hxi hd kq (by omega) BJ h5 si.iC hl hR;rw[Ps,Jl]at h9;exact h9
   have act:w.heap.size≠a.sm:=by have:=qq.lt;omega
   have H8:Hid (∀W W':World,ip (fun k=>k=a.sm) W W'->W.heap[a.sm]? =w.heap[a.sm]?->me W (.slice ba bl bc) f.bytes->me W' (.slice ba bl bc) f.bytes):=by
    intro W W' hc hs hR;refine hR.iO hc fun k cur fr hk e=>?_
    subst e;obtain⟨es,ck,xF⟩:=qq.kY;rw[hs,xF]at hk
    cases hk
   have nZ:Hid (∀(W3 W4 W5:World) (b:Nat) (a':iP) (e:Ending) (e4:Ending),Below w.heap.size w W3->uk N W3 cb g c a f.id e4 W4 b a'->FZ a'.u (fun k=>k=b\/(a'.lv f.id).ownBlock=some k) W4 b (a'.lv f.id) g.c2 (iw g.c4 c.gM (jO c.gJ) f x) e W5->Nt N w cb g c a (iN g.c4 f c) (.returned (af ag (iw g.c4 c.gM (jO c.gJ) f x).1)) W5):=by
    intro W3 W4 W5 b a' e e4 zt Af O';have Iq:=Af.kH.str (f.id,b) Af.mem x hx;have hF':∀k,(k=b\/(a'.lv f.id).ownBlock=some k)->jH cb a' k:=fun k hk=>aV (aV (aV (aV ⟨(f.id,b),Af.mem,hk⟩)))
    have hFF:∀k,k<w.heap.size->jH cb a' k->jH cb a k:=by
     intro k hk hF;rcases Af.xH k hF with h1|h1
     ·exact h1
     ·have:=zt.size;omega
    have yr:ip (jH cb a) w W5:=by
     have c1:ip (jH cb a) w W3:=ip.gS zt;refine⟨O'.iO.os.trans (Af.iO.os.trans c1.os),O'.iO.tape.trans (Af.iO.tape.trans c1.tape),O'.iO.output.trans (Af.iO.output.trans c1.output),cw (cw c1.size Af.iO.size) O'.iO.size,fun k hk hn=>?_⟩;have h1:k<W3.heap.size:=cq hk c1.size;rw[O'.iO.block k (cq h1 Af.iO.size) (fun h2=>hn (hFF k hk (hF' k h2))),Af.iO.block k h1 (fun h2=>hn (aV (aV (a_ h2)))),c1.block k hk hn]
    have aaS:∀{cc:gZ} {p1:Value} {s1 d1:Nat} {q1:Int},iG W4 cb g cc p1 s1 d1 q1->iG W5 cb g cc p1 s1 d1 q1:=by
     intro cc p1 s1 d1 q1 hb;refine hb.iO O'.iO ?_;rintro(e1|e1)
     ·have h1:=Iq.i_;simp only at h1;rw[<-e1]at h1;unfold iG at hb;rw[hb]at h1;simp only[Option.some.injEq,Obj.cells.injEq]at h1;exact absurd h1.2.1 (by decide)
     ·obtain⟨Uc,tP⟩:=Iq.own;exact gO tP hb (by decide) e1
    rw[zk hx];refine⟨rfl,yr,?_,fun h0=>?_⟩
    ·have mw:=h.i_.below zt;refine aaS (mw.iO Af.iO fun e1=>?_);have DW:=qq.same (zt.block a.sm qq.lt);obtain⟨es,ck,xF⟩:=DW.kY;unfold iG at mw;rw[e1,xF]at mw
     cases mw
    ·obtain⟨iX,YF,acm⟩:=O'.str h0;have Ax:(iw g.c4 c.gM (jO c.gJ) f x).2.done=false:=BT hd;obtain⟨q1,q2⟩:=Af.kH.adE Af.mem hx hd Ax O'.iO YF acm;refine⟨_,q1,fun k hk=>?_,fun k hk=>hk.elim (fun h1=>a_ (by rw[<-Af.u];exact h1)) (fun h1=>aV (cw (cw zt.size Af.iO.size) h1.1))⟩;rcases q2 k hk with h1|h1
     ·rcases Af.xH k h1 with h2|h2
      ·exact a_ h2
      ·exact aV (cw zt.size h2)
     ·exact aV (cw (cw zt.size Af.iO.size) h1)
   have ZB:Hid (∀(W W':World) (b:Nat) (a':iP),jE (N+1) W cb g c a'->(f.id,b)∈a'.sl->ip (fun k=>k=b\/(a'.lv f.id).ownBlock=some k) W W'->W.heap[w.heap.size]? =some (.cells #[af ag f.type,af ag f.id,af ag po,.slice ba bl bc,af ag en,af ag pf] 286 (0,0))->W'.heap[w.heap.size]? =some (.cells #[af ag f.type,af ag f.id,af ag po,.slice ba bl bc,af ag en,af ag pf] 286 (0,0))/\W'.cell? ⟨cb,4,none⟩= some (af ag g.c4)):=by
    intro W W' b a' hA kx hc hW;have Iq:=hA.str (f.id,b) kx x hx;obtain⟨Uc,tP⟩:=Iq.own
    have js:∀k cur e fr,W.heap[k]? =some (.cells cur e fr)->e≠204->e≠259->¬(k=b\/(a'.lv f.id).ownBlock=some k):=by
     rintro k cur e fr hk h1 h2 (e1|e1)
     ·have h3:=Iq.i_;simp only at h3;rw[<-e1,hk]at h3;simp only[Option.some.injEq,Obj.cells.injEq]at h3;exact h1 h3.2.1
     ·exact gO tP hk (fun e=>h2 e.symm) e1
    refine⟨?_,(hA.i_.iO hc (js _ _ _ _ hA.i_ (by decide) (by decide))).cell 4⟩;rw[hc.block _ (aO.1 hW).1 (js _ _ _ _ hW (by decide) (by decide))];exact hW
   have HBv:=gE kI;have Um:=gE h.i_;have sk:IntKind.i64.wrap (c.gM-jO c.gJ)=c.gM-jO c.gJ:=by rw[di];omega
   have HK1:=gE (fun W=>yx c.gM g.c1 W);have adK:=Zr;have U3:=h.i_.lt;have adl:Hid (∀W:World,Below w.heap.size w W->W.heap[a.sm]? =w.heap[a.sm]?):=fun W hW=>hW.block a.sm qq.lt
   have HHb:=gE ny;clear h hi hg jR si kI hx LV tx qq kP YE JF abz yY SI Z5 hxi kq mH ud CZ hda Ps Jl qQ hxm hv HH;unfold rx;go_enter func205,ntmps205;go_wp2_with fail;refine F5.out.mono ?_;rintro e w1 ⟨rfl,rfl⟩;clear F5
   go_upto_region 3 with fail
   go_cut [5,6] from 13 to 22 (fun s5 s6 wx=>s5=ai (some ⟨w.heap.size+1,0,none⟩)/\s6=.bool false/\Below w.heap.size w wx/\wx.heap[w.heap.size]? =some (.cells #[af ag f.type,af ag f.id,af ag po,.slice ba bl bc,af ag en,af ag pf] 286 (0,0)))
   case first=>
    go_region
    all_goals
     go_wp2_with fail
     go_meet
     refine⟨rfl,rfl,gK (gI HHb.out (gH (w.alloc (.cells #[af ag f.type,af ag f.id,af ag po,.slice ba bl bc,af ag en,af ag pf] 286)) (.cells #[af ag 0,.bool false] 142))) 1,?_⟩;rw[heap_drew,Below.heap_alloc _ _ _ (by simp)];exact Zr.out
   case rest=>
    obtain⟨rfl,rfl,lS,sY⟩:=hcut;have pQ:=gE lS;have HX0:=gE sY;have e18:wc.cell? ⟨cb,18,none⟩= some (af ag c.gM):=(Um.out.below lS).cell 18;have e19:wc.cell? ⟨cb,19,none⟩= some (af ag g.c1):=(Um.out.below lS).cell 19;clear lS sY d22 e22 sj rC Z1 ny;go_wp2_with fail;refine(HK1.out _).mono ?_;rintro e w2 ⟨rfl,iT⟩;have mc:=gE (gI pQ.out iT)
    have Iw:Hid (w2.heap[w.heap.size]? =some (.cells #[af ag f.type,af ag f.id,af ag po,.slice ba bl bc,af ag en,af ag pf] 286 (0,0))):=by
     show _=_;rw[iT.block _ (aO.1 HX0.out).1];exact HX0.out
    clear iT e18 e19 HX0 pQ;go_wp2_with fail;refine(Nn.out w2 mc.out).mono ?_;rintro e w3 ⟨rfl,mw⟩;have ya:=gE (gI mc.out mw)
    have HX3:Hid (w3.heap[w.heap.size]? =some (.cells #[af ag f.type,af ag f.id,af ag po,.slice ba bl bc,af ag en,af ag pf] 286 (0,0))):=by
     show _=_;rw[mw.block _ (aO.1 Iw.out).1];exact Iw.out
    clear mw Iw mc Nn;have Q9:Hid (Below w.heap.size w w3.drew):=gK ya.out 1;have XC:Hid (w3.drew.heap[w.heap.size]? =some (.cells #[af ag f.type,af ag f.id,af ag po,.slice ba bl bc,af ag en,af ag pf] 286 (0,0))):=HX3.out
    have Uz:Hid (∀W:World,W.heap[w.heap.size]? =some (.cells #[af ag f.type,af ag f.id,af ag po,.slice ba bl bc,af ag en,af ag pf] 286 (0,0))->W.cell? ⟨cb,4,none⟩= some (af ag g.c4)->(W.cell? ⟨w.heap.size,0,none⟩= some (af ag f.type)/\W.cell? ⟨w.heap.size,1,none⟩= some (af ag f.id)/\W.cell? ⟨w.heap.size,2,none⟩= some (af ag po)/\W.cell? ⟨w.heap.size,3,none⟩= some (.slice ba bl bc)/\W.cell? ⟨w.heap.size,4,none⟩= some (af ag en)/\W.cell? ⟨w.heap.size,5,none⟩= some (af ag pf)/\W.cell? ⟨cb,4,none⟩= some (af ag g.c4))):=by
     intro W hW h4;refine⟨?_,?_,?_,?_,?_,?_,h4⟩<;>simp only[aX,hW]<;>rfl
    have S0:=Uz.out w3.drew XC.out ((Um.out.below Q9.out).cell 4);obtain⟨s0,s1,s2,s3,s4,s5,s6⟩:=id S0;go_wp2_with fail
    go_region_held3 (fun w'=>w'.cell? ⟨w.heap.size,0,none⟩= some (af ag f.type)/\w'.cell? ⟨w.heap.size,1,none⟩= some (af ag f.id)/\w'.cell? ⟨w.heap.size,2,none⟩= some (af ag po)/\w'.cell? ⟨w.heap.size,3,none⟩= some (.slice ba bl bc)/\w'.cell? ⟨w.heap.size,4,none⟩= some (af ag en)/\w'.cell? ⟨w.heap.size,5,none⟩= some (af ag pf)/\w'.cell? ⟨cb,4,none⟩= some (af ag g.c4)) (first|assumption|go_keep) (first
     |(go_at_call 73;refine(Is.out _ Q9.out).mono ?_;rintro e w4 ⟨b,a',Af⟩;have GH:=Af.ret;subst GH;have Z9:w4.heap[w.heap.size]? =some (.cells #[af ag f.type,af ag f.id,af ag po,.slice ba bl bc,af ag en,af ag pf] 286 (0,0)):=((Af.iO.block _ (aO.1 XC.out).1 act).trans XC.out);have RT:=Uz.out w4 Z9 (Af.kH.i_.cell 4))
     |(go_at_call 217;refine(Rp.out w4 b a' Af.kH Af.mem (H8.out _ _ Af.iO (adl.out _ Q9.out) (HBv.out.below Q9.out))).mono ?_;intro e w5 O';have abs:=O'.ret;subst abs;have Z_:=ZB.out w4 w5 b a' Af.kH Af.mem O'.iO Z9;have Ea:=Uz.out w5 Z_.1 Z_.2))
    have HE:=gE (nZ.out w3.drew w4 w5 b a' (.returned (af ag (iw g.c4 c.gM (jO c.gJ) f x).1)) _ Q9.out Af O');clear Af O' RT Ea Z9 Z_ Rp Is ZB nZ H8;go_wp2_with fail;go_ret;exact HE.out
theorem jE.Kd{a:iP}(h:jE N w cb g c a)(hc:ip (· = cb) w w')(hb:iG w' cb g c' a.k_ a.sm a.dm (kU c.gJ))(hs:c'.gJ=c.gJ)(hr:c'.runs=c.runs):jE N w' cb g c' a:=by
 have js:∀k cur e fr,w.heap[k]? =some (.cells cur e fr)->e≠137->¬k=cb:=by
  intro k cur e fr hk h1 e1;have h2:=h.i_;unfold iG at h2;rw[<-e1,hk]at h2;simp only[Option.some.injEq,Obj.cells.injEq]at h2;exact h1 h2.2.1
 have hnm:∀k es ck,w.heap[k]? =some (.map es ck)->¬k=cb:=by
  intro k es ck hk e1;have h2:=h.i_;unfold iG at h2;rw[<-e1,hk]at h2
  cases h2
 obtain⟨n1,rQ,qq⟩:=h.zW;obtain⟨n2,uC,tx⟩:=h.Bz;obtain⟨es1,ck1,im⟩:=qq.kY;obtain⟨es2,ck2,iT⟩:=tx.kY;obtain⟨vs,sW⟩:=h.pk;refine⟨by rw[hs];exact hb,⟨vs,jg sW.own hc (fun k hk e=>?_),by rw[hr];exact sW.sh⟩,⟨n1,rQ,qq.same (hc.block _ qq.lt (hnm _ _ _ im))⟩,⟨n2,uC,tx.same (hc.block _ tx.lt (hnm _ _ _ iT))⟩,by rw[hs];exact h.mp,fun p hp x hx=>?_,fun id=>by rw[hs];exact h.UO id,h.ne,h.apart,fun k hk=>cq (h.ul k hk) hc.size⟩
 ·obtain⟨c1,e1⟩:=ii sW.own hk;exact js _ _ _ _ e1 (by decide) e
 ·rw[hs]at hx;have Iq:=h.str p hp x hx;obtain⟨Uc,tP⟩:=Iq.own;refine Iq.iO hc (js _ _ _ _ Iq.i_ (by decide)) (fun k hk e=>?_) (fun k cur fr hk=>js k cur _ fr hk (by decide));obtain⟨c1,e1⟩:=ii tP hk;exact js _ _ _ _ e1 (by decide) e
structure D1(N:Nat)(w:World)(cb:Nat)(g:jG)(c:gZ)(a:iP)(r:Int×gZ)(e:Ending)(w':World):Prop where
 ret:e=.returned (af ag r.1)
 iO:ip (jH cb a) w w'
 i_:r.1≠0->iG w' cb g c a.k_ a.sm a.dm (kU c.gJ)
 kH:r.1=0->∃a',jE (N+1) w' cb g r.2 a'/\(∀k,jH cb a' k->jH cb a k\/w.heap.size<=k)/\Ou w.heap.size a a'
theorem D1.pre{a:iP}{r:Int×gZ}(hW:Below w.heap.size w W)(h:D1 N W cb g c a r e w'):D1 N w cb g c a r e w' where
 ret:=h.ret
 iO:=(ip.gS hW).trans h.iO
 i_:=h.i_
 kH:=fun h0=>by
  obtain⟨a',h1,h2,h4⟩:=h.kH h0;exact⟨a',h1,fun k hk=>(h2 k hk).elim a_ (fun h3=>aV (cw hW.size h3)),fun k hk=>(h4 k hk).elim a_ (fun h3=>aV (cw hW.size h3))⟩
theorem Ge(N cb:Nat)(g:jG)(c:gZ)(a:iP)(f:lL)(lw:Int)(bv:Value)(w:World)(h:jE N w cb g c a)(hi:lr g c)(hg:nx g)(jR:ke M c)(hN:N<1125899906842624)(si:y9 f)(h6:f.type≠6)(h5:f.type=5->f.bytes=[])(hl:f.bytes.length<=1073741823)(kI:me w bv (xC f).bytes):
  Calls ae 182 #[ai (some ⟨cb,0,none⟩),.agg (As (xC f) bv)] w fun e w'=>D1 N w cb g c a (jx g lw c f) e w':=by
 by_cases QN:f.type=0\/f.type=1
 ·have lF:jx g lw c f=(0,c):=by unfold jx;rw[if_pos QN]
  have hp:xC f =⟨f.type,0,0,[],0,0⟩:=by unfold xC;rw[if_neg (by omega),if_neg (by omega),if_neg (by omega),if_neg (by omega)]
  rw[lF,hp];rw[hp]at kI;obtain⟨_,_,ba,bc,rfl,_⟩:=id kI;have HE:Hid (∀W:World,Below w.heap.size w W->D1 N w cb g c a (0,c) (.returned (af ag 0)) W):=fun W hW=>⟨rfl,ip.gS hW,fun h=>absurd rfl h,fun _=>⟨a,(h.below hW).mono (dP _),fun k hk=>a_ hk,fun k hk=>a_ hk⟩⟩
  clear h hi hg jR si kI lF hp;have b7:(f.type==7)=false:=beq_eq_false_iff_ne.2 (by omega);have b3:(f.type==3)=false:=beq_eq_false_iff_ne.2 (by omega);have b4:(f.type==4)=false:=beq_eq_false_iff_ne.2 (by omega);have b5:(f.type==5)=false:=beq_eq_false_iff_ne.2 (by omega);clear QN h6;unfold As;go_enter func182,ntmps182;go_wp2_with fail;go_ret;exact HE.out _ (gH _ _)
 ·by_cases h7:f.type=7
  ·have hp:xC f =⟨7,0,0,[],0,f.code⟩:=by unfold xC;rw[if_pos h7]
   have lF:jx g lw c f=if f.code≠kc g.c9 c.addr c.gL then(10,c) else if c.gT then(0,c) else(0,{c with gT:=true,waits:=lw}):=by unfold jx;rw[if_neg QN,if_pos h7]
   rw[hp];rw[hp]at kI;obtain⟨_,_,ba,bc,rfl,_⟩:=id kI;have ny:Below w.heap.size w (w.alloc (.cells #[af ag 7,af ag 0,af ag 0,.slice ba 0 bc,af ag 0,af ag f.code] 286)):=gH w _;have HP:=gE (Lr cb g c a.k_ a.sm a.dm (kU c.gJ) f.code _ (h.i_.below ny) hg.c9 jR.addr jR.gL)
   have HE:Hid (∀(e:Ending) (W:World),Iy (w.alloc (.cells #[af ag 7,af ag 0,af ag 0,.slice ba 0 bc,af ag 0,af ag f.code] 286)) cb g c a.k_ a.sm a.dm (kU c.gJ) f.code (kc g.c9 c.addr c.gL) e W->D1 N w cb g c a (jx g lw c f) e W):=by
    rw[lF];rintro e W ⟨hc,⟨js,rfl,hb⟩|⟨heq,rfl,hb⟩⟩
    ·rw[if_pos js];exact⟨rfl,(ip.gS ny).trans (hc.mono fun k _ e=>a_ e),fun _=>hb,fun h0=>absurd (show(10:Int)=0 from h0) (by decide)⟩
    ·rw[if_neg (fun hn=>hn heq)];have hA:=h.below ny
     have h1:∀c2:gZ,iG W cb g c2 a.k_ a.sm a.dm (kU c.gJ)->c2.gJ=c.gJ->c2.runs=c.runs->D1 N w cb g c a (0,c2) (.returned (af ag 0)) W:=by
      intro c2 iT Cd vi;exact⟨rfl,(ip.gS ny).trans (hc.mono fun k _ e=>a_ e),fun h=>absurd rfl h,fun _=>⟨a,(hA.Kd hc iT Cd vi).mono (dP _),fun k hk=>a_ hk,fun k hk=>a_ hk⟩⟩
     cases JA:c.gT with
     |true=>
      simp only[if_true];refine h1 c ?_ rfl rfl;have:({c with gT:=true}:gZ)=c:=by cases c;simp only at JA⊢;rw[JA]
      rw[this]at hb;exact hb
     |false=>
      simp only[Bool.false_eq_true,if_false];exact h1 {c with gT:=true,waits:=lw} hb rfl rfl
   clear h hi hg jR si kI lF hp;generalize jx g lw c f=R at HE⊢;clear QN h6 h7;unfold As;go_enter func182,ntmps182;go_wp2_with fail;refine HP.out.mono ?_;intro e w2 ho;have HO:=gE (HE.out e w2 ho);have GH:=HO.out.ret;subst GH;clear ho HP HE;go_wp2_with fail;go_ret;exact HO.out
  ·have BJ:f.type=3\/f.type=4\/f.type=5:=by
    have:=si.type;omega
   have hp:xC f =⟨f.type,f.id,if f.type=5 then 0 else f.iC,f.bytes,f.iC+f.bytes.length,0⟩:=by
    unfold xC;rw[if_neg h7,if_neg h6];by_cases TU:f.type=5
    ·rw[if_pos TU,TU,h5 TU];simp
    ·rw[if_neg TU,if_pos (by omega),if_neg TU]
   have lF:jx g lw c f=iN g.c4 f c:=by unfold jx;rw[if_neg QN,if_neg h7]
   rw[lF,hp];rw[hp]at kI;simp only at kI;obtain⟨_,_,ba,bc,rfl,_⟩:=id kI;obtain⟨po,Ps⟩:∃po,(if f.type=5 then 0 else f.iC)=po:=⟨_,rfl⟩;obtain⟨en,Jl⟩:∃en,f.iC+(f.bytes.length:Int)=en:=⟨_,rfl⟩
   have HT:Hid (∀W:World,Below w.heap.size w W->Calls ae 205 #[ai (some ⟨cb,0,none⟩),.agg #[af ag f.type,af ag f.id,af ag po,.slice ba f.bytes.length bc,af ag en,af ag 0]] W fun e w'=>D1 N w cb g c a (iN g.c4 f c) e w'):=by
    intro W hW;have h9:=OS N cb g c a f (.slice ba f.bytes.length bc) 0 W (h.below hW) hi hg jR hN BJ h5 si hl (kI.below hW);rw[Ps,Jl]at h9;refine h9.mono ?_;intro e w' ho;exact D1.pre hW ⟨ho.ret,ho.iO,fun _=>ho.i_,ho.kH⟩
   rw[Ps,Jl];obtain⟨bl,qQ⟩:∃bl,f.bytes.length=bl:=⟨_,rfl⟩;rw[qQ]at HT⊢;obtain⟨R,hR⟩:∃R,iN g.c4 f c=R:=⟨_,rfl⟩;rw[hR]at HT⊢;have b7:(f.type==7)=false:=beq_eq_false_iff_ne.2 h7;have HTy:=gE BJ;clear h hi hg jR si kI lF hp QN h6 h7 h5 hR qQ Ps Jl hl;obtain⟨t,ht⟩:∃t,f.type=t:=⟨_,rfl⟩;rw[ht]at HT HTy b7 BJ;unfold As;simp only[ht];clear ht;rcases BJ with rfl|rfl|rfl
   all_goals
    go_enter func182,ntmps182;go_wp2_with fail;refine(HT.out _ (gH _ _)).mono ?_;intro e w2 ho;have HO:=gE ho;have GH:=ho.ret;subst GH;clear ho HT;go_wp2_with fail;go_ret;exact HO.out
structure Cn(w:World)(cb:Nat)(g:jG)(c:gZ)(a:iP)(r:FY)(K:Nat)(e:Ending)(w':World):Prop where
 ret:∃sv,e=.returned (.tuple #[sv,.bool r.gone])/\jW w' w.heap.size sv (mX r [])
 iO:ip (jH cb a) w w'
 kH:r.gone=false->∃a',jE K w' cb g r.kH a'/\(∀k,jH cb a' k->jH cb a k\/w.heap.size<=k)/\Ou w.heap.size a a'
 i_:∃c2 k_ sm dm jQ,iG w' cb g c2 k_ sm dm jQ/\c2.gL=c.gL
theorem Nx{a a1:iP}(h:ip (jH cb a) w w1)(hs:∀k,jH cb a1 k->jH cb a k\/w.heap.size<=k)(h2:ip (jH cb a1) w1 w2):ip (jH cb a) w w2:=
 ⟨h2.os.trans h.os,h2.tape.trans h.tape,h2.output.trans h.output,cw h.size h2.size,fun k hk hn=>by
  rw[h2.block k (cq hk h.size) (fun h3=>(hs k h3).elim hn (fun h4=>by omega)),h.block k hk hn]⟩
theorem D9(hl:l≠[])(h:iV l=none):iR g lw c l (n+1) =⟨c,some 7,true⟩:=by
 unfold iR;rw[if_neg hl,h]
theorem Bw(hl:l≠[])(h:iV l=some (f,size))(h6:f.type=6):iR g lw c l (n+1) =⟨c,none,true⟩:=by
 unfold iR;rw[if_neg hl,h];simp only;rw[if_pos h6]
theorem Ap(hl:l≠[])(h:iV l=some (f,size))(h6:f.type≠6)(hz:(jx g lw c f).1≠0):iR g lw c l (n+1) =⟨c,some (jx g lw c f).1,true⟩:=by
 unfold iR;rw[if_neg hl,h];simp only;rw[if_neg h6,if_pos hz]
theorem CM(hl:l≠[])(h:iV l=some (f,size))(h6:f.type≠6)(hz:(jx g lw c f).1=0):iR g lw c l (n+1)=iR g lw (jx g lw c f).2 (l.drop size) n:=by
 conv=>lhs;unfold iR
 rw[if_neg hl,h];simp only;rw[if_neg h6,if_neg (by rw[hz];simp)]
theorem D'(g:jG)(lw:Int)(c:gZ)(f:lL):0<=(jx g lw c f).1/\(jx g lw c f).1<=10:=by
 unfold jx
 split
 ·simp
 ·split
  ·split
   ·simp
   ·split<;>simp
  ·exact xP
theorem I'(h:iV l=some (f,size)):f.type=l.getD 0 0:=by
 unfold iV at h
 split at h
 ·cases h
 ·split at h
  ·cases h
  ·simp only[Option.some.injEq,Prod.mk.injEq]at h;rw[<-h.1]
  ·simp only[Option.some.injEq,Prod.mk.injEq]at h;rw[<-h.1]
  ·simp only[Option.some.injEq,Prod.mk.injEq]at h;rw[<-h.1]
  ·split at h
   ·cases h
   ·simp only[Option.some.injEq,Prod.mk.injEq]at h;rw[<-h.1]
theorem I9(h:iV l=some (f,size))(h5:f.type=5):f.bytes=[]:=by
 have ht:=I' h;rw[h5]at ht;unfold iV at h;have hc:kO (l.getD 0 0)=some 2:=by rw[<-ht];rfl
 rw[hc]at h;simp only at h
 cases hn:jF l 2 with
 |none=>rw[hn]at h;cases h
 |some x=>
  obtain⟨ns,a⟩:=x;rw[hn]at h;simp only[Option.some.injEq,Prod.mk.injEq]at h;rw[<-h.1]
theorem Ah{a:iP}(h:jE N w cb g c a){k:Nat}{cur:Array Value}{fr:Nat×Nat}(hk:w.heap[k]? =some (.cells cur 5 fr)):¬jH cb a k:=by
 obtain⟨vs,sW⟩:=h.pk;obtain⟨n1,_,qq⟩:=h.zW;obtain⟨n2,_,tx⟩:=h.Bz;rintro(rfl|e|rfl|rfl|⟨p,hp,e⟩)
 ·have h1:=h.i_;unfold iG at h1;rw[h1]at hk;simp only[Option.some.injEq,Obj.cells.injEq]at hk;exact absurd hk.2.1 (by decide)
 ·exact gO sW.own hk (by decide) e
 ·obtain⟨es,ck,hb⟩:=qq.kY;rw[hb]at hk
  cases hk
 ·obtain⟨es,ck,hb⟩:=tx.kY;rw[hb]at hk
  cases hk
 ·obtain⟨_,x,hx,_⟩:=h.mp.str p hp;have hs:=h.str p hp x hx;rcases e with rfl|e
  ·rw[hs.i_]at hk;simp only[Option.some.injEq,Obj.cells.injEq]at hk;exact absurd hk.2.1 (by decide)
  ·obtain⟨Uc,tP⟩:=hs.own;exact gO tP hk (by decide) e
theorem OZ(h:y9 f):(xC f).type=f.type:=by
 unfold xC;have:=h.type;by_cases h7:f.type=7
 ·rw[if_pos h7,h7]
 ·rw[if_neg h7];by_cases h6:f.type=6
  ·rw[if_pos h6,h6]
  ·rw[if_neg h6];by_cases h5:f.type=5
   ·rw[if_pos h5,h5]
   ·rw[if_neg h5]
    split<;>rfl
theorem Cn.closed{w3:World}{a:iP}{R:FY}{K:Nat}{sv:Value}(hR:R =⟨c',some k,true⟩)(hc:ip (jH cb a) w w2)(ht:qP w2 cb g c' k_ sm dm jQ ([19]++jn k) (.returned sv) w3)(kb:c'.gL=c.gL):
  Cn w cb g c a R K (.returned (.tuple #[sv,.bool true])) w3:=by
 subst hR;obtain⟨v,e,ho⟩:=ht.ret
 injection e with e
 subst e;refine⟨⟨_,rfl,ho.mono hc.size⟩,hc.trans (ht.iO.mono fun k _ e=>a_ e),fun h=>(by cases h),⟨_,_,_,_,_,ht.i_,(qH c' _).1.trans kb⟩⟩
theorem OA(N cb:Nat)(g:jG)(c:gZ)(a:iP)(lw:Int)(b:List Int)(n:Nat)(bv:Value)(w:World)(h:jE N w cb g c a)(hi:lr g c)(hg:nx g)(jR:ke M c)(hM:M<=1125899906842624)(kI:me w bv b)(hl:b.length<=1073741823)(hn:b.length<=n)(hN:N+b.length<1125899906842624)(hE:∀W,ip (jH cb a) w W->Env W):
  Calls ae 152 #[ai (some ⟨cb,0,none⟩),bv] w fun e w'=>Cn w cb g c a (iR g lw c b n) (N+b.length) e w':=by
 have H0:Hid (∃(l:List Int) (c':gZ) (a':iP) (N' n':Nat),l.length<=n'/\iR g lw c' l n'=iR g lw c b n/\me w bv l/\jE N' w cb g c' a'/\lG M g lw c c'/\N'+l.length<=N+b.length/\l.length<=b.length/\ip (jH cb a) w w/\(∀k,jH cb a' k->jH cb a k\/w.heap.size<=k)/\Ou w.heap.size a a'):=
  ⟨b,c,a,N,n,hn,rfl,kI,h,lG.refl jR hi,ay _,ay _,ip.refl _ _,fun k hk=>a_ hk,fun k hk=>a_ hk⟩
 obtain⟨_,_,ba,bc,rfl,_⟩:=id kI;have Zt:=gE hE;have HG:=gE hg;clear h hi hg jR kI hE;obtain⟨R,hR⟩:∃R,iR g lw c b n=R:=⟨_,rfl⟩;rw[hR]at H0⊢;clear hR;go_enter func152,ntmps152;go_wp2_with fail
 go_step3
 go_wp2_with fail
 go_step3
 go_wp2_with fail
 go_loopw [1,4,5] (fun v sv gv wr=>sv=aj none 0 0/\gv=.bool false/\Hid (∃(l:List Int) (c':gZ) (a':iP) (N' n':Nat),l.length<=n'/\iR g lw c' l n'=R/\me wr v l/\jE N' wr cb g c' a'/\lG M g lw c c'/\N'+l.length<=N+b.length/\l.length<=b.length/\ip (jH cb a) w wr/\(∀k,jH cb a' k->jH cb a k\/w.heap.size<=k)/\Ou w.heap.size a a')) (fun v _ _ _=>rA v)
 case atStart=>exact⟨rfl,rfl,H0.out⟩
 case round=>
  obtain⟨rfl,rfl,HI⟩:=hrel;obtain⟨l,c',a',N',n',T7,oM,Ip,sZ,Jr,hNl,T6,kq,nz,Ir⟩:=HI.out;clear HI H0;obtain⟨_,abg,ao,cap,rfl,nH,Jh,_⟩:=id Ip;have HR:=gE Ip;have HC:=gE sZ;have HK:=gE Jr;have E1:=gE kq;have BZ:=gE nz;have F7:=gE Ir;have sg:=gE oM;clear Ip sZ Jr kq nz oM Ir;by_cases C3:l.length=0
  ·have HE1:Hid (Cn w cb g c a R (N+b.length) (.returned (.tuple #[aj none 0 0,.bool false])) wr):=by
    obtain rfl:l=[]:=List.length_eq_zero_iff.1 C3;have hF:iR g lw c' [] n' =⟨c',none,false⟩:=by cases n'<;>simp[iR]
    rw[<-sg.out,hF];refine⟨⟨_,rfl,jW.nil _ _⟩,E1.out,fun _=>⟨a',HC.out.mono (by omega),BZ.out,F7.out⟩,⟨_,_,_,_,_,HC.out.i_,HK.out.gL⟩⟩
   go_wp2_with fail
   go_ret2
   exact HE1.out
  ·have hp:0<l.length:=by omega
   have Pj:l≠[]:=fun e=>C3 (by rw[e];rfl)
   obtain⟨m,rfl⟩:∃m,n'=m+1:=⟨n'-1,by omega⟩;have B0:=gE (DL l _ wr (Zt.out wr E1.out) HR.out hp);have zB:=HK.out.ok.jc;have C8:=HK.out.ok.jb;have kb:=HK.out.ok.gL
   have Np:Hid (∀(W:World) (k:Int),0<=k/\k<=1073741823->iG W cb g c' a'.k_ a'.sm a'.dm (kU c'.gJ)->Calls ae 163 #[ai (some ⟨cb,0,none⟩),af ag k] W fun e w'=>qP W cb g c' a'.k_ a'.sm a'.dm (kU c'.gJ) ([19]++jn k) e w'):=
    fun W k hk hb=>II cb g c' a'.k_ a'.sm a'.dm (kU c'.gJ) k W hb kb ⟨zB.1,by omega⟩ ⟨C8.1,by omega⟩ hk
   rcases OY HR.out.1 hp with⟨vL,qE⟩|⟨f,size,qu,X9,BJ⟩
   ·have HRR:Hid (R =⟨c',some 7,true⟩):=by
     show _=_;rw[<-sg.out,D9 Pj vL]
    obtain⟨tv,qR,⟨ta,tc,rfl⟩,kk⟩:=HR.out.drop (k:=0) (Nat.zero_le _);simp only[Int.natCast_zero,Nat.sub_zero]at kk;obtain⟨ll,Vi⟩:∃ll,l.length=ll:=⟨_,rfl⟩;rw[Vi]at kk B0 hp abg nH⊢;have T2:decide ((0:Int)<(ll:Int))=true:=decide_eq_true (by omega);clear qR Vi Pj vL C3;go_wp2_with fail;refine B0.out.mono ?_;intro e w1 si;obtain⟨k,cv,rfl,hk,js⟩:=si.bad qE;obtain⟨t1,a1,rfl⟩:=js.Gp;have im:=gI si.ze (gH w1 (.cells lg 286));have U5:ip (jH cb a) w (w1.alloc (.cells lg 286)):=E1.out.trans (ip.gS im);have Xj:=gE (Cs k _ (w1.alloc (.cells lg 286)) (Zt.out _ U5) (by omega) (js.below (gH _ _)));have nB:=gE im;unfold lg at Xj nB;clear si im U5 B0 js;unfold lg;go_wp2_with fail;refine Xj.out.mono ?_;rintro e w2 ⟨rfl,iT⟩;have mc:=gE (gI nB.out iT);have HT:=gE (Np.out w2 7 (by omega) (HC.out.i_.below mc.out));clear iT nB Xj Np;go_wp2_with fail;refine HT.out.mono ?_;intro e w3 ho;obtain⟨sv,rfl,SK⟩:=ho.ret;obtain⟨sa,sc,rfl⟩:=SK.form;have HE:=gE (Cn.closed (K:=N+b.length) HRR.out (E1.out.trans (ip.gS mc.out)) ho HK.out.gL);clear ho SK HT;go_wp2_with fail
    go_ret2
    exact HE.out
   ·obtain⟨si,yX,yY,BF⟩:=Ar HR.out.1 hp qu;have KO:=OZ si;have h5:=I9 qu;have ZQ:=zq HR.out.1 qu;have ac0:(wD l).2.bad=false:=by rw[X9]
    have ku:((l.length:Int)-(l.drop size).length)=size:=by simp;omega
    obtain⟨tv,qR,⟨ta,tc,rfl⟩,kk⟩:=HR.out.drop (k:=size) yY;have XA:=gE qR
    have KZ:Hid (f.type≠6->∀(W:World) (pv:Value),Below wr.heap.size wr W->me W pv (xC f).bytes->Calls ae 182 #[ai (some ⟨cb,0,none⟩),.agg (As (xC f) pv)] W fun e w'=>D1 N' wr cb g c' a' (jx g lw c' f) e w'):=by
     intro h6 W pv hW tA;exact(Ge N' cb g c' a' f lw pv W (HC.out.below hW) HK.out.inv HG.out HK.out.ok (by omega) si h6 h5 (by omega) tA).mono fun e w' ho=>ho.pre hW
    have acO:=D' g lw c' f;have VY:Hid (lG M g lw c (jx g lw c' f).2):=HK.out.trans (zm HK.out.ok HK.out.inv si ZQ (by have:=HG.out.c4;omega));have TL:Hid (f.type=6->R =⟨c',none,true⟩):=fun h6=>by rw[<-sg.out,Bw Pj qu h6]
    have Nj:Hid (f.type≠6->(jx g lw c' f).1≠0->R =⟨c',some (jx g lw c' f).1,true⟩):=fun h6 hz=>by rw[<-sg.out,Ap Pj qu h6 hz]
    have Rg:Hid (f.type≠6->(jx g lw c' f).1=0->iR g lw (jx g lw c' f).2 (l.drop size) m=R):=fun h6 hz=>by rw[<-sg.out,CM Pj qu h6 hz]
    have rX:(l.drop size).length=l.length-size:=by simp
    have nm:Hid ((l.drop size).length<=m/\N'+1+(l.drop size).length<=N+b.length/\(l.drop size).length<=b.length/\(l.drop size).length<l.length):=by
     refine⟨?_,?_,?_,?_⟩<;>omega
    obtain⟨S,hS⟩:∃S,jx g lw c' f=S:=⟨_,rfl⟩;rw[hS]at KZ acO VY Nj Rg;rw[X9]at B0;have XL:=fun(e:Ending) (W:World) (ho:wh wr l (xC f,⟨l.drop size,false⟩) e W)=>ho.ok rfl
    simp only[ku]at XL;have Up:=gE XL;generalize xC f=p at B0 Up KZ KO;generalize l.drop size=rest at B0 Up XA Rg nm rX;obtain⟨ll,Vi⟩:∃ll,l.length=ll:=⟨_,rfl⟩;obtain⟨rl,pZ⟩:∃rl,l.length-size=rl:=⟨_,rfl⟩;rw[pZ]at kk XA;rw[Vi]at kk B0 hp abg nH yY⊢;have HLl:=gE Vi;have HRl:=gE pZ;have Rb:=gE rX;have T2:decide ((0:Int)<(ll:Int))=true:=decide_eq_true (by omega);have JG:(size:Int)<=(ll:Int):=by omega
    have HFt:=gE KO;clear qR Vi pZ Pj qu C3 X9 ac0 XL rX ku h5 ZQ BF si hS BJ KO;go_wp2_with fail;refine B0.out.mono ?_;intro e w1 si;obtain⟨pv,rfl,tA⟩:=Up.out e w1 si;obtain⟨_,_,pa,pc,rfl,_⟩:=id tA;obtain⟨pl,xt⟩:∃pl,p.bytes.length=pl:=⟨_,rfl⟩;have HPl:=gE xt;rw[xt]at tA⊢;unfold As;have im:=gI si.ze (gH w1 (.cells #[af ag p.type,af ag p.id,af ag p.iC,.slice pa pl pc,af ag p.en,af ag p.proof] 286));have E2:=gE (tA.below (gH w1 (.cells #[af ag p.type,af ag p.id,af ag p.iC,.slice pa pl pc,af ag p.en,af ag p.proof] 286)));have nB:=gE im;have HXw:Hid ((w1.alloc (.cells #[af ag p.type,af ag p.id,af ag p.iC,.slice pa pl pc,af ag p.en,af ag p.proof] 286)).heap[w1.heap.size]? =some (.cells #[af ag p.type,af ag p.id,af ag p.iC,.slice pa pl pc,af ag p.en,af ag p.proof] 286 (0,0))):=heap_alloc_new w1 _;clear si im B0 tA Up xt;go_wp2_with fail;refine(uX _).mono ?_;rintro e w2 ⟨rfl,iT⟩;have mc:=gE (gI nB.out iT);have aaq:=gE (E2.out.below iT)
    have Iw:Hid (w2.heap[w1.heap.size]? =some (.cells #[af ag p.type,af ag p.id,af ag p.iC,.slice pa pl pc,af ag p.en,af ag p.proof] 286 (0,0))):=by
     show _=_;rw[iT.block _ (by simp)];exact HXw.out
    have y0:w2.cell? ⟨w1.heap.size,0,none⟩= some (af ag p.type):=by simp only[aX,Iw.out];rfl
    have y1:w2.cell? ⟨w1.heap.size,1,none⟩= some (af ag p.id):=by simp only[aX,Iw.out];rfl
    have y2:w2.cell? ⟨w1.heap.size,2,none⟩= some (af ag p.iC):=by simp only[aX,Iw.out];rfl
    have y3:w2.cell? ⟨w1.heap.size,3,none⟩= some (.slice pa pl pc):=by simp only[aX,Iw.out];rfl
    have y4:w2.cell? ⟨w1.heap.size,4,none⟩= some (af ag p.en):=by simp only[aX,Iw.out];rfl
    have y5:w2.cell? ⟨w1.heap.size,5,none⟩= some (af ag p.proof):=by simp only[aX,Iw.out];rfl
    clear iT nB E2 HXw Iw;by_cases h6:p.type=6
    ·have wb:(p.type==6)=true:=by rw[h6];rfl
     have HE:Hid (Cn w cb g c a R (N+b.length) (.returned (.tuple #[aj none 0 0,.bool true])) w2):=by
      rw[TL.out (HFt.out.symm.trans h6)];exact⟨⟨_,rfl,jW.nil _ _⟩,E1.out.trans (ip.gS mc.out),fun h=>(by cases h),⟨_,_,_,_,_,HC.out.i_.below mc.out,HK.out.gL⟩⟩
     clear h6;go_wp2_with fail
     go_ret2
     exact HE.out
    ·have wb:(p.type==6)=false:=beq_eq_false_iff_ne.2 h6;have h6':f.type≠6:=fun e=>h6 (HFt.out.trans e)
     have HO:=gE (KZ.out h6' w2 (.slice pa pl pc) mc.out (by rw[<-HPl.out]at aaq⊢;exact aaq.out));unfold As at HO;clear KZ;go_wp2_with fail;refine HO.out.mono ?_;intro e w3 ho;have GH:=ho.ret;subst GH;have Ol:=gE ho;clear ho HO y0 y1 y2 y3 y4 y5;by_cases hz:S.1=0
     ·have hzb:(S.1==0)=true:=by rw[hz];rfl
      obtain⟨a2,KL,Vd,abD⟩:=Ol.out.kH hz
      have ab':Hid (∃(l:List Int) (c':gZ) (a':iP) (N' n':Nat),l.length<=n'/\iR g lw c' l n'=R/\me w3 (.slice ta rl tc) l/\jE N' w3 cb g c' a'/\lG M g lw c c'/\N'+l.length<=N+b.length/\l.length<=b.length/\ip (jH cb a) w w3/\(∀k,jH cb a' k->jH cb a k\/w.heap.size<=k)/\Ou w.heap.size a a'):=by
       refine⟨rest,S.2,a2,N'+1,m,nm.out.1,Rg.out h6' hz,?_,KL,VY.out,nm.out.2.1,nm.out.2.2.1,Nx E1.out BZ.out Ol.out.iO,fun k hk=>?_,fun k hk=>(abD k hk).elim (fun h1=>F7.out k h1) (fun h1=>aV (cw E1.out.size h1))⟩
       ·refine XA.out.iO Ol.out.iO fun k cur fr hk hF=>?_
        exact Ah HC.out hk hF
       ·rcases Vd k hk with h1|h1
        ·exact BZ.out k h1
        ·exact aV (cw E1.out.size h1)
      clear Ol KL Vd abD;go_wp2_with fail
      go_roundw
      case rel=>exact⟨rfl,rfl,ab'.out⟩
      case measure=>
       have:=nm.out.2.2.2;have:=Rb.out;have:=HRl.out;have:=HLl.out;simp[rA];omega
     ·have hzb:(S.1==0)=false:=beq_eq_false_iff_ne.2 hz;have HT:=gE (Np.out w3 S.1 (by omega) (Ol.out.i_ hz));have HRR:=gE (Nj.out h6' hz);clear Np;go_wp2_with fail;refine HT.out.mono ?_;intro e w4 ho;obtain⟨sv,rfl,SK⟩:=ho.ret;obtain⟨sa,sc,rfl⟩:=SK.form;have HE:=gE (Cn.closed (K:=N+b.length) HRR.out (Nx E1.out BZ.out Ol.out.iO) ho HK.out.gL);clear ho SK HT;go_wp2_with fail
      go_ret2
      exact HE.out
theorem CC(cb:Nat)(g:jG)(c:gZ)(k_:Value)(sm dm:Nat)(jQ:Int)(w:World)(h:iG w cb g c k_ sm dm jQ):
  Calls ae 51 #[ai (some ⟨cb,0,none⟩)] w fun e w'=>e=.returned (af ag c.gL)/\w=w':=by
 have d:w.cell? ⟨cb,10,none⟩= some (af ag c.gL):=h.cell 10;go_enter func51,ntmps51;go_wp2_with fail;go_ret;exact⟨rfl,rfl⟩
theorem zh(cb:Nat)(g:jG)(c:gZ)(k_:Value)(sm dm:Nat)(jQ:Int)(w:World)(h:iG w cb g c k_ sm dm jQ):
  Calls ae 94 #[ai (some ⟨cb,0,none⟩)] w fun e w'=>e=.returned (af ag c.addr)/\w=w':=by
 have d:w.cell? ⟨cb,11,none⟩= some (af ag c.addr):=h.cell 11;go_enter func94,ntmps94;go_wp2_with fail;go_ret;exact⟨rfl,rfl⟩
theorem wn(cb:Nat)(g:jG)(c:gZ)(k_:Value)(sm dm:Nat)(jQ:Int)(w:World)(h:iG w cb g c k_ sm dm jQ):
  Calls ae 42 #[ai (some ⟨cb,0,none⟩)] w fun e w'=>e=.returned (.bool c.gT)/\w=w':=by
 have d:w.cell? ⟨cb,12,none⟩= some (.bool c.gT):=h.cell 12;go_enter func42,ntmps42;go_wp2_with fail;go_ret;exact⟨rfl,rfl⟩
theorem CD(cb:Nat)(g:jG)(c:gZ)(k_:Value)(sm dm:Nat)(jQ size:Int)(w:World)(h:iG w cb g c k_ sm dm jQ)(hg:0<=c.jc/\c.jc<=1125899906842624)(hs:0<=size/\size<=1125899906842624):
  Calls ae 95 #[ai (some ⟨cb,0,none⟩),af ag size] w fun e w'=>e=.returned (.tuple #[])/\iG w' cb g {c with jc:=c.jc+size} k_ sm dm jQ/\ip (· = cb) w w':=by
 have d:w.cell? ⟨cb,13,none⟩= some (af ag c.jc):=h.cell 13;have z:=h.free 13;have hw:IntKind.i64.wrap (c.jc+size)=c.jc+size:=by rw[di];omega
 have HH:=gE h;clear h;go_enter func95,ntmps95;go_wp2_with fail
 go_end0
 exact⟨rfl,gQ HH.out 13 _,iu (Below.refl _ _) 13 _⟩
theorem An(cb:Nat)(g:jG)(c:gZ)(k_:Value)(sm dm:Nat)(jQ now:Int)(w:World)(h:iG w cb g c k_ sm dm jQ):
  Calls ae 97 #[ai (some ⟨cb,0,none⟩),af ag now] w fun e w'=>e=.returned (.tuple #[])/\iG w' cb g {c with heard:=now} k_ sm dm jQ/\ip (· = cb) w w':=by
 have d:w.cell? ⟨cb,15,none⟩= some (af ag c.heard):=h.cell 15;have z:=h.free 15;have HH:=gE h;clear h;go_enter func97,ntmps97;go_wp2_with fail
 go_end0
 exact⟨rfl,gQ HH.out 15 _,iu (Below.refl _ _) 15 _⟩
theorem OB(cb:Nat)(g:jG)(c:gZ)(k_:Value)(sm dm:Nat)(jQ now:Int)(w:World)(h:iG w cb g c k_ sm dm jQ)(hn:0<=now/\now<=1000000000)(hh:0<=c.heard/\c.heard<=1000000000):
  Calls ae 53 #[ai (some ⟨cb,0,none⟩),af ag now] w fun e w'=>e=.returned (.bool (decide (g.c6<=now-c.heard)))/\∃q,w'=w.drewN q:=by
 have d:w.cell? ⟨cb,15,none⟩= some (af ag c.heard):=h.cell 15;have d6:w.cell? ⟨cb,6,none⟩= some (af ag g.c6):=h.cell 6;have hw:IntKind.i64.wrap (now-c.heard)=now-c.heard:=by rw[di];omega
 clear h;go_enter func53,ntmps53;go_wp2_with fail
 go_quiet (fail)
 go_wp2_with fail;go_ret;exact⟨rfl,_,rfl⟩
theorem jE.Tm{a:iP}{Mt:Value}(h:jE N w cb g c a)(hc:ip (fun k=>k=cb\/a.k_.ownBlock=some k) w w')(hb:iG w' cb g c' Mt a.sm a.dm (kU c.gJ))(hr:∃vs,mF w' Mt vs (lU c'.runs))(hs:c'.gJ=c.gJ)(kP:Mt.ownBlock=a.k_.ownBlock\/∀k,Mt.ownBlock=some k->w.heap.size<=k):
  jE N w' cb g c' {a with k_:=Mt}/\∀k,jH cb {a with k_:=Mt} k->jH cb a k\/w.heap.size<=k:=by
 obtain⟨vs,sW⟩:=h.pk
 have js:∀k cur e fr,w.heap[k]? =some (.cells cur e fr)->e≠137->e≠279->¬(k=cb\/a.k_.ownBlock=some k):=by
  rintro k cur e fr hk h1 h3 (e1|e1)
  ·have h2:=h.i_;unfold iG at h2;rw[<-e1,hk]at h2;simp only[Option.some.injEq,Obj.cells.injEq]at h2;exact h1 h2.2.1
  ·exact gO sW.own hk (fun e=>h3 e.symm) e1
 have hnm:∀k es ck,w.heap[k]? =some (.map es ck)->¬(k=cb\/a.k_.ownBlock=some k):=by
  rintro k es ck hk (e1|e1)
  ·have h2:=h.i_;unfold iG at h2;rw[<-e1,hk]at h2
   cases h2
  ·obtain⟨c1,e2⟩:=ii sW.own e1;rw[hk]at e2
   cases e2
 obtain⟨n1,rQ,qq⟩:=h.zW;obtain⟨n2,uC,tx⟩:=h.Bz;obtain⟨es1,ck1,im⟩:=qq.kY;obtain⟨es2,ck2,iT⟩:=tx.kY;refine⟨⟨by rw[hs];exact hb,hr,⟨n1,rQ,qq.same (hc.block _ qq.lt (hnm _ _ _ im))⟩,⟨n2,uC,tx.same (hc.block _ tx.lt (hnm _ _ _ iT))⟩,by rw[hs];exact h.mp,fun p hp x hx=>?_,fun id=>by rw[hs];exact h.UO id,h.ne,h.apart,fun k hk=>cq (h.ul k hk) hc.size⟩,?_⟩
 ·rw[hs]at hx;have Iq:=h.str p hp x hx;obtain⟨Uc,tP⟩:=Iq.own;refine Iq.iO hc (js _ _ _ _ Iq.i_ (by decide) (by decide)) (fun k hk e=>?_) (fun k cur fr hk=>js k cur _ fr hk (by decide) (by decide));obtain⟨c1,e1⟩:=ii tP hk;exact js _ _ _ _ e1 (by decide) (by decide) e
 ·rintro k (e|e|e|e|e)
  ·exact a_ (a_ e)
  ·rcases kP with h1|h1
   ·rw[show Mt.ownBlock=some k from e]at h1;exact a_ (aV (a_ h1.symm))
   ·exact aV (h1 k e)
  ·exact a_ (aV (aV (a_ e)))
  ·exact a_ (aV (aV (aV (a_ e))))
  ·exact a_ (aV (aV (aV (aV e))))
theorem FD{rs:List (Int×Int)}(hw:Ii rs)(hl:rs.length<=100)(hr:∀r∈rs,0<=r.1/\r.1<=r.2/\r.2<=1073741823):nT (lU rs) where
 wf:=Dj hw
 BA:=by simp[lU];exact hl
 UR:=fun r oq=>by
  simp only[lU,cZ]at oq;obtain⟨q,hq,rfl⟩:=oq;have:=hr q hq;rw[tD (by omega)];simp only;omega
structure Al(N:Nat)(w:World)(cb:Nat)(g:jG)(c:gZ)(a:iP)(r:Option gZ)(e:Ending)(w':World):Prop where
 ret:e=.returned (.bool r.isSome)
 iO:ip (jH cb a) w w'
 kH:∃a',jE N w' cb g (r.getD c) a'/\(∀k,jH cb a' k->jH cb a k\/w.heap.size<=k)/\Ou w.heap.size a a'
theorem Lo{n:Int}(h:n<c.mark):mL c n=none:=by
 unfold mL qf;rw[if_pos h]
 rfl
theorem OK{n:Int}(hi:lr g c)(hn:B5 c.runs n):mL c n=none:=by
 unfold mL qf
 split
 ·rfl
 ·rw[(ve hi.runs n).1 hn]
  rfl
theorem Lp{n:Int}(hi:lr g c)(hm:¬n<c.mark)(hn:¬B5 c.runs n):∃qr,Ii qr/\mY (lU c.runs) n [0]=lU qr/\0<qr.length/\qr.length<=c.runs.length+1/\(∀p,B5 qr p↔p=n\/B5 c.runs p)/\
  mL c n=some (if 4<qr.length then {c with mark:=(qr.getD 0 (0,0)).2+1,runs:=qr.drop 1} else {c with runs:=qr}):=by
 obtain⟨st,qr,e1,e2,h1,h2,h3,h4,h5⟩:=(ve hi.runs n).2 hn;refine⟨qr,h1,h2,h3,h4,h5,?_⟩;unfold mL qf;rw[if_neg hm,e1];simp only[Option.map_some,e2]
 split<;>rfl
theorem XH{p p1:Value}(h:ip (fun k=>k=cb\/p.ownBlock=some k) w w1)(hp:p1.ownBlock=p.ownBlock\/∀k,p1.ownBlock=some k->w.heap.size<=k)(h2:ip (fun k=>k=cb\/p1.ownBlock=some k) w1 w2):ip (fun k=>k=cb\/p.ownBlock=some k) w w2:=
 ⟨h2.os.trans h.os,h2.tape.trans h.tape,h2.output.trans h.output,cw h.size h2.size,fun k hk hn=>by
  rw[h2.block k (cq hk h.size) (fun h3=>?_),h.block k hk hn];rcases h3 with h3|h3
  ·exact hn (a_ h3)
  ·rcases hp with h4|h4
   ·exact hn (aV (h4▸h3))
   ·have:=h4 k h3;omega⟩
theorem IJ(N cb:Nat)(g:jG)(c:gZ)(a:iP)(num:Int)(w:World)(h:jE N w cb g c a)(hi:lr g c)(jR:ke M c)(hn:0<=num/\num<=1073741823):
  Calls ae 96 #[ai (some ⟨cb,0,none⟩),af ag num] w fun e w'=>Al N w cb g c a (mL c num) e w':=by
 have c16:w.cell? ⟨cb,16,none⟩= some (af ag c.mark):=h.i_.cell 16;have c17:w.cell? ⟨cb,17,none⟩= some a.k_:=h.i_.cell 17;by_cases jp:num<c.mark
 ·rw[Lo jp];have HE:Hid (Al N w cb g c a none (.returned (.bool false)) w):=⟨rfl,ip.refl _ _,a,h,fun k hk=>a_ hk,fun k hk=>a_ hk⟩;clear h hi jR c17;go_enter func96,ntmps96;go_wp2_with fail;go_ret;exact HE.out
 ·obtain⟨vs,sW⟩:=h.pk;have pZ:=jR.runs;have xD:=FD hi.runs (by omega) pZ.2;have Ft:vs.length<=1000:=by rw[sW.sh.1];simp[lU];omega
  have VR:=gE (Hq vs (lU c.runs) a.k_ num (num+1) cb 17 w c17 sW.own sW.sh xD.wide Ft);have hw:IntKind.i64.wrap (num+1)=num+1:=by rw[di];omega
  have LM:=Gl hi.runs num;by_cases nz:B5 c.runs num
  ·rw[LM.2 nz]at VR;rw[OK hi nz];have HE:Hid (∀W,Below w.heap.size w W->Al N w cb g c a none (.returned (.bool false)) W):=fun W hW=>⟨rfl,ip.gS hW,a,h.below hW,fun k hk=>a_ hk,fun k hk=>a_ hk⟩
   clear h hi jR sW pZ xD LM nz c17;go_enter func96,ntmps96;go_wp2_with fail;refine VR.out.mono ?_;rintro e w1 ⟨rfl,im⟩;have HB:=gE im;clear im VR;go_wp2_with fail;go_ret;exact HE.out _ HB.out
  ·have Fl:kh (lU c.runs) num (num+1)=false:=by
    cases hc:kh (lU c.runs) num (num+1) with
    |true=>exact absurd (LM.1 hc) nz
    |false=>rfl
   rw[Fl]at VR;obtain⟨qr,Sz,Wr,pA,i8,abe,X3⟩:=Lp hi jp nz;obtain⟨R,hRR⟩:∃R,mL c num=R:=⟨_,rfl⟩;rw[hRR]at X3⊢;have aai:=gE X3
   have zE:∀r∈qr,0<=r.1/\r.1<=r.2/\r.2<=1073741823:=by
    intro r hr;have rG:=vC Sz hr
    have hb:∀p,B5 qr p->0<=p/\p<=1073741823:=by
     intro p hp;rcases(abe p).1 hp with rfl|⟨q,hq,h1,h2⟩
     ·exact hn
     ·have:=pZ.2 q hq;omega
    have h1:=hb r.1 ⟨r,hr,Int.le_refl _,rG⟩;have h2:=hb r.2 ⟨r,hr,rG,Int.le_refl _⟩;omega
   have Ws:=FD Sz (by omega) zE
   have HFl:Hid (∀(W:World) (B:Nat),Below w.heap.size w W->Calls ae 149 #[ai (some ⟨cb,17,none⟩),af ag num,aj (some ⟨B,0,none⟩) 1 1] W fun e w'=>e=.returned (.tuple #[])/\∃iX lm,nM W cb 17 (D8 g c a.k_ a.sm a.dm (kU c.gJ)) 137 a.k_ vs (lU qr) w' iX lm):=by
    intro W B hW;have h9:=M5 num [0] (aj (some ⟨B,0,none⟩) 1 1) a.k_ vs (lU c.runs) cb 17 _ 137 W (h.i_.below hW) rfl (by decide) (sW.below hW) xD ⟨_,_,rfl⟩ (by simp) (by simp;omega);rw[Wr]at h9;exact h9
   have VS:Hid (∀(W:World) (iX:Value) (lm:List jT),4<qr.length->iG W cb g c iX a.sm a.dm (kU c.gJ)->mF W iX lm (lU qr)->Calls ae 151 #[ai (some ⟨cb,17,none⟩)] W fun e w'=>e=.returned (af ag ((qr.getD 0 (0,0)).2+1))/\∃NZ Q4,nM W cb 17 (D8 g c iX a.sm a.dm (kU c.gJ)) 137 iX lm (lU (qr.drop 1)) w' NZ Q4):=by
    intro W iX lm h4 hb hr
    cases qr with
    |nil=>simp at h4
    |cons r0 rt=>
     have rG:=vC Sz (List.mem_cons_self (a:=r0) (l:=rt));have h9:=A2 (r0.1,List.replicate (r0.2-r0.1+1).toNat 0) (lU rt) iX lm cb 17 _ 137 W hb rfl (by decide) hr Ws;rw[tD rG]at h9;exact h9
   have QG:=gE h;have HN1:=gE i8;have aah:Hid (∀(W:World) (iX:Value) (lm:List jT),mF W iX lm (lU qr)->lm.length=qr.length):=fun W iX lm hr=>by rw[hr.sh.1];simp[lU]
   have oE:Hid (∀(W w3:World) (iX:Value) (lm:List jT),Below w.heap.size w W->nM W cb 17 (D8 g c a.k_ a.sm a.dm (kU c.gJ)) 137 a.k_ vs (lU qr) w3 iX lm->Al N w cb g c a (some {c with runs:=qr}) (.returned (.bool true)) w3):=by
    intro W w3 iX lm hW ho;have km:ip (fun k=>k=cb\/a.k_.ownBlock=some k) w w3:=(ip.gS hW).trans ho.iO;have kP:iX.ownBlock=a.k_.ownBlock\/∀k,iX.ownBlock=some k->w.heap.size<=k:=ho.at_.elim a_ (fun h1=>aV fun k hk=>cw hW.size (h1 k hk));obtain⟨q1,q2⟩:=h.Tm (c':={c with runs:=qr}) km ho.i_ ⟨lm,ho.runs⟩ rfl kP;exact⟨rfl,km.mono fun k _ hk=>hk.elim a_ (fun h1=>aV (a_ h1)),_,q1,q2,fun k hk=>a_ hk⟩
   have VT:Hid (∀(W w3 w4:World) (iX NZ:Value) (lm Q4:List jT),Below w.heap.size w W->nM W cb 17 (D8 g c a.k_ a.sm a.dm (kU c.gJ)) 137 a.k_ vs (lU qr) w3 iX lm->nM w3 cb 17 (D8 g c iX a.sm a.dm (kU c.gJ)) 137 iX lm (lU (qr.drop 1)) w4 NZ Q4->Al N w cb g c a (some {c with mark:=(qr.getD 0 (0,0)).2+1,runs:=qr.drop 1}) (.returned (.bool true)) (w4.setCell ⟨cb,16,none⟩ (af ag ((qr.getD 0 (0,0)).2+1)))):=by
    intro W w3 w4 iX NZ lm Q4 hW ho yW;have km:ip (fun k=>k=cb\/a.k_.ownBlock=some k) w w3:=(ip.gS hW).trans ho.iO;have kP:iX.ownBlock=a.k_.ownBlock\/∀k,iX.ownBlock=some k->w.heap.size<=k:=ho.at_.elim a_ (fun h1=>aV fun k hk=>cw hW.size (h1 k hk));have nr:=XH km kP yW.iO;have rE:ip (fun k=>k=cb\/a.k_.ownBlock=some k) w (w4.setCell ⟨cb,16,none⟩ (af ag ((qr.getD 0 (0,0)).2+1))):=nr.trans ((iu (Below.refl _ _) 16 _).mono fun k _ e=>a_ e)
    have RX:NZ.ownBlock=a.k_.ownBlock\/∀k,NZ.ownBlock=some k->w.heap.size<=k:=by
     rcases yW.at_ with h1|h1
     ·rw[h1];exact kP
     ·exact aV fun k hk=>cw km.size (h1 k hk)
    have kk:mF (w4.setCell ⟨cb,16,none⟩ (af ag ((qr.getD 0 (0,0)).2+1))) NZ Q4 (lU (qr.drop 1)):=
     ⟨jg yW.runs.own (iu (Below.refl _ _) 16 _) (fun k hk e=>by subst e;exact gO yW.runs.own yW.i_ (by decide) hk),yW.runs.sh⟩
    obtain⟨q1,q2⟩:=h.Tm (c':={c with mark:=(qr.getD 0 (0,0)).2+1,runs:=qr.drop 1}) rE (gQ yW.i_ 16 _) ⟨Q4,kk⟩ rfl RX;exact⟨rfl,rE.mono fun k _ hk=>hk.elim a_ (fun h1=>aV (a_ h1)),_,q1,q2,fun k hk=>a_ hk⟩
   clear h hi jR sW pZ xD LM nz Fl X3 hRR Wr Sz zE Ws abe c17;go_enter func96,ntmps96;go_wp2_with fail;refine VR.out.mono ?_;rintro e w1 ⟨rfl,im⟩;have HB:=gE im;clear im VR;go_wp2_with fail;refine(HFl.out _ _ (gI HB.out (gH _ _))).mono ?_;rintro e w3 ⟨rfl,iX,lm,ho⟩;have CU:iG w3 cb g c iX a.sm a.dm (kU c.gJ):=ho.i_;obtain⟨la,lc,rfl⟩:=iA ho.runs.own;have jk:w3.cell? ⟨cb,17,none⟩= some (.slice la lm.length lc):=CU.cell 17;have HCt:=gE (Ky lm la lc cb 17 w3 jk);have U6:=aah.out w3 _ lm ho.runs;have Ol:=gE (oE.out _ w3 _ lm (gI HB.out (gH _ _)) ho);have HO4:=gE (fun w4 NZ Q4 h2=>VT.out _ w3 w4 _ NZ lm Q4 (gI HB.out (gH _ _)) ho h2);have HD3:=gE (fun h4=>VS.out w3 _ lm h4 CU ho.runs);have adL:=gE CU;have HCn:=gE U6;clear ho CU jk U6 HFl oE VT VS aah;go_wp2_with fail;refine HCt.out.mono ?_;rintro e w3' ⟨rfl,rfl⟩;clear HCt;by_cases h4:4<qr.length
   ·have T2:(4:Int)<(lm.length:Int):=by have:=HCn.out;omega
    have HR4:Hid (R=some {c with mark:=(qr.getD 0 (0,0)).2+1,runs:=qr.drop 1}):=by
     show _=_;rw[aai.out,if_pos h4]
    have Zs:=gE (HD3.out h4);clear HD3 Ol;generalize (qr.getD 0 (0,0)).2+1=mk at Zs HO4 HR4;go_wp2_with fail;refine Zs.out.mono ?_;rintro e w4 ⟨rfl,NZ,Q4,yW⟩;have vK:iG w4 cb g c NZ a.sm a.dm (kU c.gJ):=yW.i_;have d16:w4.cell? ⟨cb,16,none⟩= some (af ag c.mark):=vK.cell 16;have z16:=vK.free 16;have HE:=gE (HO4.out w4 NZ Q4 yW);clear yW vK Zs HO4;go_wp2_with fail;go_ret;rw[HR4.out];exact HE.out
   ·have uV:(lm.length:Int)<=4:=by have:=HCn.out;omega
    have HR4:Hid (R=some {c with runs:=qr}):=by
     show _=_;rw[aai.out,if_neg h4]
    go_wp2_with fail;go_ret;rw[HR4.out];exact Ol.out
theorem JQ{α:Type}{C:vH α}(h:w.heap[b]? =some (.map #[] 0)):kG C P K w b 0 []:=by
 have jp:b<w.heap.size:=(aO.1 h).1;have h1:=Mi (C:=C) (P:=P) (K:=K) {w with heap:=w.heap.extract 0 b};have ku:({w with heap:=w.heap.extract 0 b}:World).heap.size=b:=by simp;omega
 rw[ku]at h1;refine h1.same ?_;have h2:=heap_alloc_new {w with heap:=w.heap.extract 0 b} (.map #[] 0);rw[ku]at h2;rw[h,h2]
def jN(g:jG)(gL addr:Int)(ok:Bool):gZ:={my gL addr ok 0 0 g.c1 with gJ:=rk g.c2 [] g.c3.toNat}
def kp(sm dm:Nat):iP:=⟨aj none 0 0,sm,dm,[],[],fun _=>aj none 0 0,fun _=>False⟩
theorem ux(g:jG)(gL addr:Int)(ok:Bool):(jN g gL addr ok).gJ=List.replicate g.c3.toNat (jI g.c2):=by simp[jN,rk]
theorem IU(hb:iG w cb g (jN g gL addr ok) (aj none 0 0) sm dm 0)(h1:w.heap[sm]? =some (.map #[] 0))(h2:w.heap[dm]? =some (.map #[] 0))(js:sm≠dm):jE 0 w cb g (jN g gL addr ok) (kp sm dm):=by
 have xG:=ux g gL addr ok
 have kx:∀(i:Nat) x,(jN g gL addr ok).gJ[i]? =some x->x=jI g.c2:=by
  intro i x hx;rw[xG]at hx;exact(List.mem_replicate.1 (bT hx)).2
 have hps:kU (jN g gL addr ok).gJ=0:=by
  rw[xG];unfold kU;rw[List.filter_eq_nil_iff.2 (fun x hx=>by rw[(List.mem_replicate.1 hx).2];simp[jI])]
  rfl
 refine⟨by rw[hps];exact hb,⟨[],⟨⟨rfl,a_ ⟨rfl,rfl⟩⟩,⟨rfl,fun i v r hv=>(by simp at hv)⟩⟩⟩,⟨0,ay _,JQ h1⟩,⟨0,ay _,JQ h2⟩,⟨by simp[kp],fun p hp=>(by simp[kp]at hp),fun i x hx _ _=>kx i x hx⟩,fun p hp=>(by simp[kp]at hp),fun id=>?_,js,fun p hp=>(by simp[kp]at hp),fun k hk=>hk.elim⟩;simp only[kp];unfold yh
 split
 ·cases hx:(jN g gL addr ok).gJ[id.toNat]? with
  |none=>rfl
  |some x=>rw[kx _ x hx];rfl
 ·rfl
structure te(w:World)(g:jG)(gL addr:Int)(ok:Bool)(e:Ending)(w':World):Prop where
 ex:∃cb sm dm,e=.returned (ai (some ⟨cb,0,none⟩))/\jE 0 w' cb g (jN g gL addr ok) (kp sm dm)/\w.heap.size<=cb/\w.heap.size<=sm/\w.heap.size<=dm
 ze:Below w.heap.size w w'
def Ll(g:jG):Value:=.agg #[af ag g.c0,af ag g.c1,af ag g.c2,af ag g.c3,af ag g.c4,af ag g.c5,af ag g.c6,af ag g.c7,af ag g.c8,af ag g.c9]
theorem Ja(hg:1<=g.c3)(gL addr:Int)(ok:Bool)(sm dm:Nat):D8 g (jN g gL addr ok) (aj none 0 0) sm dm 0=#[af ag g.c0,af ag g.c1,af ag g.c2,af ag g.c3,af ag g.c4,af ag g.c5,af ag g.c6,af ag g.c7,af ag g.c8,af ag g.c9,af ag gL,af ag addr,.bool ok,af ag 0,af ag 0,af ag 0,af ag 0,aj none 0 0,af ag g.c1,af ag g.c1,af ag g.c3,.map (some sm),.map (some dm),af ag 0]:=by
 have hl:((jN g gL addr ok).gJ.length:Int)=g.c3:=by
  rw[ux];simp;omega
 unfold D8;rw[hl]
 rfl
theorem sq(hg:1<=g.c3)(hW:Below w.heap.size w W)(h1:W.heap[sm]? =some (.map #[] 0))(h2:W.heap[dm]? =some (.map #[] 0))(js:sm≠dm)(hs:w.heap.size<=sm)(hd:w.heap.size<=dm):
  te w g gL addr ok (.returned (ai (some ⟨W.heap.size,0,none⟩))) (W.alloc (.cells #[af ag g.c0,af ag g.c1,af ag g.c2,af ag g.c3,af ag g.c4,af ag g.c5,af ag g.c6,af ag g.c7,af ag g.c8,af ag g.c9,af ag gL,af ag addr,.bool ok,af ag 0,af ag 0,af ag 0,af ag 0,aj none 0 0,af ag g.c1,af ag g.c1,af ag g.c3,.map (some sm),.map (some dm),af ag 0] 137)):=by
 have hb:=gH W (.cells #[af ag g.c0,af ag g.c1,af ag g.c2,af ag g.c3,af ag g.c4,af ag g.c5,af ag g.c6,af ag g.c7,af ag g.c8,af ag g.c9,af ag gL,af ag addr,.bool ok,af ag 0,af ag 0,af ag 0,af ag 0,aj none 0 0,af ag g.c1,af ag g.c1,af ag g.c3,.map (some sm),.map (some dm),af ag 0] 137);refine⟨⟨W.heap.size,sm,dm,rfl,IU ?_ ?_ ?_ js,hW.size,hs,hd⟩,gI hW hb⟩
 ·unfold iG;rw[Ja hg];exact heap_alloc_new W _
 ·rw[hb.block sm (aO.1 h1).1];exact h1
 ·rw[hb.block dm (aO.1 h2).1];exact h2
theorem Rv(g:jG)(gL addr:Int)(ok:Bool)(w:World)(hg:1<=g.c3):
  Calls ae 145 #[Ll g,af ag gL,af ag addr,.bool ok] w fun e w'=>te w g gL addr ok e w':=by
 have HK:=gE (fun W=>JN g.c1 W);have HA:Hid (∀W W':World,Below W.heap.size W W'->(W.cell? ⟨w.heap.size,0,none⟩= some (af ag g.c0)/\W.cell? ⟨w.heap.size,1,none⟩= some (af ag g.c1)/\W.cell? ⟨w.heap.size,2,none⟩= some (af ag g.c2)/\W.cell? ⟨w.heap.size,3,none⟩= some (af ag g.c3)/\W.cell? ⟨w.heap.size,4,none⟩= some (af ag g.c4)/\W.cell? ⟨w.heap.size,5,none⟩= some (af ag g.c5)/\W.cell? ⟨w.heap.size,6,none⟩= some (af ag g.c6)/\W.cell? ⟨w.heap.size,7,none⟩= some (af ag g.c7)/\W.cell? ⟨w.heap.size,8,none⟩= some (af ag g.c8)/\W.cell? ⟨w.heap.size,9,none⟩= some (af ag g.c9))->(W'.cell? ⟨w.heap.size,0,none⟩= some (af ag g.c0)/\W'.cell? ⟨w.heap.size,1,none⟩= some (af ag g.c1)/\W'.cell? ⟨w.heap.size,2,none⟩= some (af ag g.c2)/\W'.cell? ⟨w.heap.size,3,none⟩= some (af ag g.c3)/\W'.cell? ⟨w.heap.size,4,none⟩= some (af ag g.c4)/\W'.cell? ⟨w.heap.size,5,none⟩= some (af ag g.c5)/\W'.cell? ⟨w.heap.size,6,none⟩= some (af ag g.c6)/\W'.cell? ⟨w.heap.size,7,none⟩= some (af ag g.c7)/\W'.cell? ⟨w.heap.size,8,none⟩= some (af ag g.c8)/\W'.cell? ⟨w.heap.size,9,none⟩= some (af ag g.c9))):=fun W W' hb h=>⟨gF h.1 hb,gF h.2.1 hb,gF h.2.2.1 hb,gF h.2.2.2.1 hb,gF h.2.2.2.2.1 hb,gF h.2.2.2.2.2.1 hb,gF h.2.2.2.2.2.2.1 hb,gF h.2.2.2.2.2.2.2.1 hb,gF h.2.2.2.2.2.2.2.2.1 hb,gF h.2.2.2.2.2.2.2.2.2 hb⟩
 have yR:Hid (∀w1:World,Below (w.alloc (.cells #[af ag g.c0,af ag g.c1,af ag g.c2,af ag g.c3,af ag g.c4,af ag g.c5,af ag g.c6,af ag g.c7,af ag g.c8,af ag g.c9] 26)).heap.size (w.alloc (.cells #[af ag g.c0,af ag g.c1,af ag g.c2,af ag g.c3,af ag g.c4,af ag g.c5,af ag g.c6,af ag g.c7,af ag g.c8,af ag g.c9] 26)) w1->te w g gL addr ok (.returned (ai (some ⟨w1.heap.size+1+1,0,none⟩))) (((w1.alloc (.map #[] 0)).alloc (.map #[] 0)).alloc (.cells #[af ag g.c0,af ag g.c1,af ag g.c2,af ag g.c3,af ag g.c4,af ag g.c5,af ag g.c6,af ag g.c7,af ag g.c8,af ag g.c9,af ag gL,af ag addr,.bool ok,af ag 0,af ag 0,af ag 0,af ag 0,aj none 0 0,af ag g.c1,af ag g.c1,af ag g.c3,.map (some w1.heap.size),.map (some (w1.heap.size+1)),af ag 0] 137))/\te w g gL addr ok (.returned (ai (some ⟨w1.heap.size+1+1,0,none⟩))) (((w1.alloc (.map #[] 0)).alloc (.map #[] 0)).alloc (.cells #[af ag g.c0,af ag g.c1,af ag g.c2,af ag g.c3,af ag g.c4,af ag g.c5,af ag g.c6,af ag g.c7,af ag g.c8,af ag g.c9,af ag gL,af ag addr,.bool ok,af ag 0,af ag 0,af ag 0,af ag 0,aj none 0 0,af ag g.c1,af ag g.c1,af ag g.c3,.map (some (w1.heap.size+1)),.map (some w1.heap.size),af ag 0] 137))):=by
  intro w1 hb;have sk:=gI (gH w (.cells #[af ag g.c0,af ag g.c1,af ag g.c2,af ag g.c3,af ag g.c4,af ag g.c5,af ag g.c6,af ag g.c7,af ag g.c8,af ag g.c9] 26)) hb;have hW:=gI sk ((gH w1 (.map #[] 0)).alloc (by simp) (.map #[] 0));have hz:((w1.alloc (.map #[] 0)).alloc (.map #[] 0)).heap.size=w1.heap.size+1+1:=by simp
  have e1:=heap_alloc2_old w1 (.map #[] 0) (.map #[] 0);have e2:=heap_alloc2_new w1 (.map #[] 0) (.map #[] 0);have n1:=sq (gL:=gL) (addr:=addr) (ok:=ok) hg hW e1 e2 (by omega) sk.size (Nat.le_succ_of_le sk.size);have n2:=sq (gL:=gL) (addr:=addr) (ok:=ok) hg hW e2 e1 (by omega) (Nat.le_succ_of_le sk.size) sk.size;rw[hz]at n1 n2;exact⟨n1,n2⟩
 have Ih:Hid (∀w1:World,Below ((w.alloc (.cells #[af ag g.c0,af ag g.c1,af ag g.c2,af ag g.c3,af ag g.c4,af ag g.c5,af ag g.c6,af ag g.c7,af ag g.c8,af ag g.c9] 26)).alloc (.map #[] 0)).heap.size ((w.alloc (.cells #[af ag g.c0,af ag g.c1,af ag g.c2,af ag g.c3,af ag g.c4,af ag g.c5,af ag g.c6,af ag g.c7,af ag g.c8,af ag g.c9] 26)).alloc (.map #[] 0)) w1->te w g gL addr ok (.returned (ai (some ⟨w1.heap.size+1,0,none⟩))) ((w1.alloc (.map #[] 0)).alloc (.cells #[af ag g.c0,af ag g.c1,af ag g.c2,af ag g.c3,af ag g.c4,af ag g.c5,af ag g.c6,af ag g.c7,af ag g.c8,af ag g.c9,af ag gL,af ag addr,.bool ok,af ag 0,af ag 0,af ag 0,af ag 0,aj none 0 0,af ag g.c1,af ag g.c1,af ag g.c3,.map (some (w.heap.size+1)),.map (some w1.heap.size),af ag 0] 137))/\te w g gL addr ok (.returned (ai (some ⟨w1.heap.size+1,0,none⟩))) ((w1.alloc (.map #[] 0)).alloc (.cells #[af ag g.c0,af ag g.c1,af ag g.c2,af ag g.c3,af ag g.c4,af ag g.c5,af ag g.c6,af ag g.c7,af ag g.c8,af ag g.c9,af ag gL,af ag addr,.bool ok,af ag 0,af ag 0,af ag 0,af ag 0,aj none 0 0,af ag g.c1,af ag g.c1,af ag g.c3,.map (some w1.heap.size),.map (some (w.heap.size+1)),af ag 0] 137))):=by
  intro w1 hb;have sk:=gI ((gH w (.cells #[af ag g.c0,af ag g.c1,af ag g.c2,af ag g.c3,af ag g.c4,af ag g.c5,af ag g.c6,af ag g.c7,af ag g.c8,af ag g.c9] 26)).alloc (by simp) (.map #[] 0)) hb;have hW:=gI sk (gH w1 (.map #[] 0));have hz:(w1.alloc (.map #[] 0)).heap.size=w1.heap.size+1:=by simp
  have uD:w.heap.size+1<w1.heap.size:=by have:=hb.size;simp at this;omega
  have e1:(w1.alloc (.map #[] 0)).heap[w.heap.size+1]? =some (.map #[] 0):=by
   rw[Below.heap_alloc _ _ _ uD,hb.block _ (by simp)];exact heap_alloc2_new w (.cells #[af ag g.c0,af ag g.c1,af ag g.c2,af ag g.c3,af ag g.c4,af ag g.c5,af ag g.c6,af ag g.c7,af ag g.c8,af ag g.c9] 26) (.map #[] 0)
  have e2:=heap_alloc_new w1 (.map #[] 0);have n1:=sq (gL:=gL) (addr:=addr) (ok:=ok) hg hW e1 e2 (by omega) (by omega) (by omega);have n2:=sq (gL:=gL) (addr:=addr) (ok:=ok) hg hW e2 e1 (by omega) (by omega) (by omega);rw[hz]at n1 n2;exact⟨n1,n2⟩
 have VV:Hid (∀w1:World,Below (((w.alloc (.cells #[af ag g.c0,af ag g.c1,af ag g.c2,af ag g.c3,af ag g.c4,af ag g.c5,af ag g.c6,af ag g.c7,af ag g.c8,af ag g.c9] 26)).alloc (.map #[] 0)).alloc (.map #[] 0)).heap.size (((w.alloc (.cells #[af ag g.c0,af ag g.c1,af ag g.c2,af ag g.c3,af ag g.c4,af ag g.c5,af ag g.c6,af ag g.c7,af ag g.c8,af ag g.c9] 26)).alloc (.map #[] 0)).alloc (.map #[] 0)) w1->te w g gL addr ok (.returned (ai (some ⟨w1.heap.size,0,none⟩))) (w1.alloc (.cells #[af ag g.c0,af ag g.c1,af ag g.c2,af ag g.c3,af ag g.c4,af ag g.c5,af ag g.c6,af ag g.c7,af ag g.c8,af ag g.c9,af ag gL,af ag addr,.bool ok,af ag 0,af ag 0,af ag 0,af ag 0,aj none 0 0,af ag g.c1,af ag g.c1,af ag g.c3,.map (some (w.heap.size+1)),.map (some (w.heap.size+1+1)),af ag 0] 137))/\te w g gL addr ok (.returned (ai (some ⟨w1.heap.size,0,none⟩))) (w1.alloc (.cells #[af ag g.c0,af ag g.c1,af ag g.c2,af ag g.c3,af ag g.c4,af ag g.c5,af ag g.c6,af ag g.c7,af ag g.c8,af ag g.c9,af ag gL,af ag addr,.bool ok,af ag 0,af ag 0,af ag 0,af ag 0,aj none 0 0,af ag g.c1,af ag g.c1,af ag g.c3,.map (some (w.heap.size+1+1)),.map (some (w.heap.size+1)),af ag 0] 137))):=by
  intro w1 hb;have hW:=gI (((gH w (.cells #[af ag g.c0,af ag g.c1,af ag g.c2,af ag g.c3,af ag g.c4,af ag g.c5,af ag g.c6,af ag g.c7,af ag g.c8,af ag g.c9] 26)).alloc (by simp) (.map #[] 0)).alloc (by simp<;>omega) (.map #[] 0)) hb
  have e1:w1.heap[w.heap.size+1]? =some (.map #[] 0):=by
   rw[hb.block _ (by simp<;>omega),Below.heap_alloc _ _ _ (by simp)];exact heap_alloc2_new w (.cells #[af ag g.c0,af ag g.c1,af ag g.c2,af ag g.c3,af ag g.c4,af ag g.c5,af ag g.c6,af ag g.c7,af ag g.c8,af ag g.c9] 26) (.map #[] 0)
  have e2:w1.heap[w.heap.size+1+1]? =some (.map #[] 0):=by
   rw[hb.block _ (by simp)];have:=heap_alloc2_new (w.alloc (.cells #[af ag g.c0,af ag g.c1,af ag g.c2,af ag g.c3,af ag g.c4,af ag g.c5,af ag g.c6,af ag g.c7,af ag g.c8,af ag g.c9] 26)) (.map #[] 0) (.map #[] 0);simpa using this
  have uD:=hb.size;simp at uD;exact⟨sq hg hW e1 e2 (by omega) (by omega) (by omega),sq hg hW e2 e1 (by omega) (by omega) (by omega)⟩
 have Pk:∀W:World,(dQ 134 none).run ae W=.ok (.map (some W.heap.size)) (W.alloc (.map #[] 0)):=fun W=>by simp[dQ]
 have Pm:∀W:World,(dQ 135 none).run ae W=.ok (.map (some W.heap.size)) (W.alloc (.map #[] 0)):=fun W=>by simp[dQ]
 unfold Ll;go_enter func145,ntmps145;go_wp2_with fail
 go_region_held3 (fun w'=>w'.cell? ⟨w.heap.size,0,none⟩= some (af ag g.c0)/\w'.cell? ⟨w.heap.size,1,none⟩= some (af ag g.c1)/\w'.cell? ⟨w.heap.size,2,none⟩= some (af ag g.c2)/\w'.cell? ⟨w.heap.size,3,none⟩= some (af ag g.c3)/\w'.cell? ⟨w.heap.size,4,none⟩= some (af ag g.c4)/\w'.cell? ⟨w.heap.size,5,none⟩= some (af ag g.c5)/\w'.cell? ⟨w.heap.size,6,none⟩= some (af ag g.c6)/\w'.cell? ⟨w.heap.size,7,none⟩= some (af ag g.c7)/\w'.cell? ⟨w.heap.size,8,none⟩= some (af ag g.c8)/\w'.cell? ⟨w.heap.size,9,none⟩= some (af ag g.c9)) (first|assumption|exact HA.out _ _ (gH _ _) (by assumption)|go_keep) (first
  |(go_at_call 165;refine(HK.out _).mono ?_;rintro e w1 ⟨rfl,im⟩;have yU:=HA.out _ _ im (by assumption)))
 ·have HE:=gE (yR.out w1 (ib im)).1;clear im yR Ih VV HK HA Pk Pm;go_wp2_with fail;go_ret;exact HE.out
 ·have HE:=gE (yR.out w1 (ib im)).2;clear im yR Ih VV HK HA Pk Pm;go_wp2_with fail;go_ret;exact HE.out
 ·have HE:=gE (Ih.out w1 (ib im)).1;clear im yR Ih VV HK HA Pk Pm;go_wp2_with fail;go_ret;exact HE.out
 ·have HE:=gE (VV.out w1 (ib im)).1;clear im yR Ih VV HK HA Pk Pm;go_wp2_with fail;go_ret;exact HE.out
 ·have HE:=gE (Ih.out w1 (ib im)).2;clear im yR Ih VV HK HA Pk Pm;go_wp2_with fail;go_ret;exact HE.out
 ·have HE:=gE (VV.out w1 (ib im)).2;clear im yR Ih VV HK HA Pk Pm;go_wp2_with fail;go_ret;exact HE.out
end Go.Proofs.YthmdjhlhodpbhaaGreatDoor
