/- Comes, part 5 -/
import Derived.Test.YthmdjhlhodpbhaaGreatDoorM03
import Derived.Test.YthmdjhlhodpbhaaGreatDoorM04
set_option maxHeartbeats 16000000
set_option maxRecDepth 8000
namespace Go.Proofs.YthmdjhlhodpbhaaGreatDoor
open Go.RowKit
open Go.World renaming cell? → aX
open _root_.Array renaming getElem?_eq_some_iff → aO
open _root_.List renaming getElem?_eq_getElem → am, mem_of_getElem? → bT, getElem?_eq_some_iff → bm, getElem?_map → cR, getElem?_eq_none → bj, length_append → aT, getElem?_append_right → aF, mem_iff_getElem? → cC, set_set → cT, mem_append → bR, findIdx?_eq_none_iff → cU, getElem?_append_left → aw, eraseIdx_sublist → cV, map_map → cW
open _root_.Nat renaming le_of_eq → cn, le_refl → ay, zero_le → aI, add_zero → bd, le_trans → cw
open _root_.Int renaming lt_or_le → bM, mul_le_mul_of_nonneg_right → cS
open Go.Calls renaming quiet_of_same → cQ
open _root_.Or renaming inr → aV, inl → a_
open Go.Value renaming ownBlock → ax, slice → cX
open _root_.Option renaming map_eq_some_iff → b9
open _root_.Prod renaming fst → cY, snd → ci
open _root_.Go.Proofs.Tryz
open _root_.Go.Proofs.Tryz renaming prog → ae
open Go.Value renaming int → af, slice → aj, pointer → ai
open Go.IntKind renaming i64 → ag
variable {c c':gZ}{s:ik}{gP iJ:List Nat}{ob i sb cb sr:Nat}{f:lL}{w w':World}{cv ov v Hm ou:Value}{iI M gM high:Int}{out:List (Int×Value)}{gN:List (Int×List Int)}{Z:Nat->Prop}{x:jf}{l:List gZ}{b:List Int}
theorem yl{ns:List Int}(h:∀n∈ns,0<=n/\n<1073741824)(k:Nat):0<=ns.getD k 0/\ns.getD k 0<=1073741823:=by
 rcases Nat.lt_or_ge k ns.length with h1|h1
 ·have:=h _ (List.getElem_mem h1);simp only[List.getD,am h1,Option.getD_some];omega
 ·simp[List.getD,bj h1]
theorem IV{t:Int}{c:Nat}(h:kO t=some c):(t=0\/t=1\/t=3\/t=4\/t=5\/t=6\/t=7):=by
 unfold kO at h
 repeat' split at h
 all_goals first|omega |(simp at h)
theorem Ar(hb:iF b)(hp:0<b.length){size:Nat}(h:iV b=some (f,size)):y9 f/\0<size/\size<=b.length/\f.bytes.length<=b.length:=by
 unfold iV at h
 cases hc:kO (b.getD 0 0) with
 |none=>rw[hc]at h;cases h
 |some c=>
  rw[hc]at h;simp only at h;have ht:=IV hc
  cases hn:jF b c with
  |none=>rw[hn]at h;cases c<;>simp at h
  |some x=>
   obtain⟨ns,a⟩:=x;obtain⟨h1,h2,h3,h4⟩:=nf hb hp c hn;rw[hn]at h;have g0:=yl h4 0;have g1:=yl h4 1;have g2:=yl h4 2
   match c,h with
   |0,h=>
    simp only[Option.some.injEq,Prod.mk.injEq]at h;obtain⟨rfl,rfl⟩:=h;exact⟨⟨ht,by simp,by simp⟩,by omega,h3,by simp⟩
   |1,h=>
    simp only[Option.some.injEq,Prod.mk.injEq]at h;obtain⟨rfl,rfl⟩:=h;exact⟨⟨ht,by simp,by simp⟩,by omega,h3,by simp⟩
   |2,h=>
    simp only[Option.some.injEq,Prod.mk.injEq]at h;obtain⟨rfl,rfl⟩:=h;exact⟨⟨ht,g0,g1⟩,by omega,h3,by simp⟩
   |k+3,h=>
    simp only at h
    split at h
    ·cases h
    ·simp only[Option.some.injEq,Prod.mk.injEq]at h;obtain⟨rfl,rfl⟩:=h;refine⟨⟨ht,g0,g1⟩,by omega,by omega,?_⟩;simp only[List.length_take,List.length_drop];omega
theorem Tl{iC:Int}(hx:xN x)(h0:0<=iC)(h1:iC+b.length<=1073741823):xN (jD iI x iC b).2:=by
 unfold jD
 split
 ·exact hx
 ·next l hl=>
  split
  ·exact hx
  ·have:=vD hl;have h2:=hx.bytes;have h3:=hx.read;exact⟨by simp only;omega,hx.read,hx.gR,hx.gM,hx.final⟩
theorem M2(hf:y9 f)(hx:xN x):xN (iw iI gM high f x).2:=by
 have hp:∀r:jf,xN r->f.iC+(f.bytes.length:Int)<=x.gM->xN (lp f x r):=by
  intro r hr he;have h1:=hx.gM;have h2:=hx.gR;have h3:=hf.iC;have hm:0<=x.gR+kT x (f.iC+f.bytes.length)/\x.gR+kT x (f.iC+f.bytes.length)<=1073741823:=by unfold kT;split<;>omega
  have BE:-1<=(if f.type≠3 then f.iC+(f.bytes.length:Int) else r.final)/\(if f.type≠3 then f.iC+(f.bytes.length:Int) else r.final)<=1073741823:=by
   have:=hr.final
   split<;>omega
  have hy:∀y:jf,xN y->xN (if f.type=5/\Bv y=false then {y with reset:=true,bytes:=[]} else y):=by
   intro y hy
   split
   ·exact⟨by simp,hy.read,hy.gR,hy.gM,hy.final⟩
   ·exact hy
  exact hy _ ⟨hr.bytes,hr.read,hm,hr.gM,BE⟩
 unfold iw;simp only
 split
 ·exact hx
 ·split
  ·exact hx
  ·split
   ·exact hx
   ·next Cb=>
    have Vm:¬x.gM<f.iC+(f.bytes.length:Int):=by
     intro h
     apply Cb
     unfold mC;rw[decide_eq_true h]
     rfl
    have h1:=hx.gM
    split
    ·split
     ·exact hx
     ·exact hp _ (Tl hx hf.iC.1 (by omega)) (by omega)
    ·exact hp _ hx (by omega)
theorem Hh(h:(iw iI gM high f x).1≠0):(iw iI gM high f x).2=x:=by
 unfold iw at h⊢;simp only at h⊢
 repeat' split at h
 all_goals first|rfl |(simp at h)|skip
 all_goals (repeat' split)
 all_goals first|rfl|contradiction|skip
theorem Ez:0<=(iw iI gM high f x).1/\(iw iI gM high f x).1<=10:=by
 have h1:0<=(jD iI x f.iC f.bytes).1/\(jD iI x f.iC f.bytes).1<=10:=by
  unfold jD
  split
  ·simp
  ·split<;>simp
 unfold iw;simp only
 repeat' split
 all_goals first |(simp;done)|exact h1
theorem wk.refl(hi:s.gG[i]? =some c)(hc:ke M c):wk M s c i s c:=⟨hi,rfl,rfl,rfl,rfl,hc,by omega,fun h=>⟨rfl,h⟩,fun h=>⟨rfl,h⟩⟩
theorem wk.trans{s' s'':ik}{c'':gZ}(h:wk M s c i s' c')(k:wk M s' c' i s'' c''):wk M s c i s'' c'':=by
 refine⟨k.at_,k.cfg.trans h.cfg,k.now.trans h.now,k.RD.trans h.RD,k.gL.trans h.gL,k.ok,?_,fun e=>?_,fun e=>?_⟩
 ·have h1:=h.last;have h2:=k.last
  cases hp:c'.gT
  ·have:=(h.Zb hp).1;omega
  ·have:=(k.stay hp).1;omega
 ·have h2:=k.Zb e;have h1:=h.Zb h2.2;exact⟨h2.1.trans h1.1,h1.2⟩
 ·have h1:=h.stay e;have h2:=k.stay h1.2;exact⟨h2.1.trans h1.1,h2.2⟩
theorem CL(hf:y9 f)(hc:ke M c):ke M (iN iI f c).2/\(iN iI f c).2.gL=c.gL/\(iN iI f c).2.gT=c.gT:=by
 unfold iN
 split
 ·exact⟨hc,rfl,rfl⟩
 ·next x hx=>
  refine⟨⟨hc.gL,hc.addr,hc.jc,hc.jb,hc.heard,hc.runs,hc.gM,by simpa using hc.p_,fun y hy=>?_⟩,rfl,rfl⟩;simp only at hy;rcases List.mem_or_eq_of_mem_set hy with h1|h1
  ·exact hc.str y h1
  ·rw[h1];exact M2 hf (hc.str x (bT hx))
theorem Gj(h:(iN iI f c).1≠0):(iN iI f c).2=c:=by
 unfold iN at h⊢
 split
 ·rfl
 ·next x hx=>
  rw[hx]at h;simp only at h⊢;rw[Hh h,jw hx]
theorem xP:0<=(iN iI f c).1/\(iN iI f c).1<=10:=by
 unfold iN
 split
 ·simp
 ·exact Ez
theorem mn(h:l[i]? =some c)(hc:c'.gL=c.gL):(l.set i c').map (·.gL)=l.map (·.gL):=by
 rw[List.map_set,hc];exact jw (by rw[cR,h];rfl)
theorem Lw(hi:s.gG[i]? =some c)(hf:y9 f)(hc:ke M c)(hg:(j6 s i c f).gone=false):∃c',wk M s c i (j6 s i c f).lf c':=by
 unfold j6 at hg⊢
 split
 ·exact⟨c,hi,rfl,rfl,rfl,rfl,hc,by simp only;omega,fun h=>⟨rfl,h⟩,fun h=>⟨rfl,h⟩⟩
 ·split
  ·next h1 h2=>rw[if_neg h1,if_pos h2]at hg;cases hg
  ·split
   ·unfold pi
    split
    ·exact⟨c,hi,rfl,rfl,rfl,rfl,hc,by simp only;omega,fun h=>⟨rfl,h⟩,fun h=>⟨rfl,h⟩⟩
    ·split
     ·exact⟨c,hi,rfl,rfl,rfl,rfl,hc,by simp only;omega,fun h=>⟨rfl,h⟩,fun h=>⟨rfl,h⟩⟩
     ·next tA=>
      exact⟨_,getElem?_set_at hi,rfl,rfl,mn hi rfl,rfl,⟨hc.gL,hc.addr,hc.jc,hc.jb,hc.heard,hc.runs,hc.gM,hc.p_,hc.str⟩,by simp only;omega,fun h=>by simp at h,fun h=>absurd h tA⟩
   ·obtain⟨h1,h2,h3⟩:=CL (iI:=s.c.c4) hf hc;exact⟨_,getElem?_set_at hi,rfl,rfl,mn hi h2,h2,h1,by simp only;omega,fun h=>⟨rfl,by rw[<-h3];exact h⟩,fun h=>⟨rfl,by rw[h3];exact h⟩⟩
theorem Lv(hi:s.gG[i]? =some c)(h:(j6 s i c f).code≠0):(j6 s i c f).lf=s/\(j6 s i c f).gone=false:=by
 unfold j6 at h⊢
 split
 ·next h1=>rw[if_pos h1]at h;simp at h
 ·next h1=>
  rw[if_neg h1]at h
  split
  ·next h2=>rw[if_pos h2]at h;simp at h
  ·next h2=>
   rw[if_neg h2]at h
   split
   ·next h3=>
    rw[if_pos h3]at h;simp only at h⊢;unfold pi at h⊢
    split
    ·exact⟨rfl,trivial⟩
    ·next h4=>
     rw[if_neg h4]at h
     split at h<;>simp at h
   ·next h3=>
    rw[if_neg h3]at h;simp only at h⊢;rw[Gj h,jw hi];exact⟨rfl,trivial⟩
theorem IY:0<=(j6 s i c f).code/\(j6 s i c f).code<=10:=by
 unfold j6
 split
 ·simp
 ·split
  ·simp
  ·split
   ·unfold pi
    split
    ·simp
    ·split<;>simp
   ·exact xP
def lQ(W:World)(fb:Nat)(f:lL)(bv:Value):Prop:=W.heap[fb]? =some (.cells #[af ag f.type,af ag f.id,af ag f.iC,af ag f.code,bv] 296 (0,0))
theorem Kc(s:ik)(i:Nat)(c:gZ)(f:lL)(sb cb sr ob:Nat)(bv:Value)(gP iJ:List Nat)(cv ov:Value)(out:List (Int×Value))(gN:List (Int×List Int))(w:World)(h:iS w s sb gP iJ cv ov ob out gN)(hi:s.gG[i]? =some c)(jJ:gP[i]? =some cb)(lj:iJ[i]? =some sr)
  {M:Int} (jR:ke M c) (hf:kv w bv f.bytes) (BF:f.bytes.length<=1073741823) (T4:0<=f.id/\f.id<=1073741823) (Vl:0<=f.iC/\f.iC<=1073741823) (ht:f.type=3):
  Calls ae 190 #[ai (some ⟨sb,0,none⟩),ai (some ⟨cb,0,none⟩),.agg #[af ag f.type,af ag f.id,af ag f.iC,af ag f.code,bv]] w fun e w'=>e=.returned (af ag (iN s.c.c4 f c).1)/\Leaves w sb gP iJ cv cb sr ob {s with gG:=s.gG.set i (iN s.c.c4 f c).2} gN w':=by
 have hC:=h.kH i c cb sr hi jJ lj;obtain⟨rv,kN,nk,qF⟩:=hC.WW;obtain⟨id,wM⟩:∃id:Nat,f.id=id:=⟨f.id.toNat,by omega⟩;obtain⟨fo,fc,rfl⟩:=hf.form;have Jp:f.id.toNat=id:=by omega
 have lD:Hid (∀W,Below w.heap.size w W->Leaves w sb gP iJ cv cb sr ob {s with gG:=s.gG.set i c} gN W):=by
  intro W hB;rw[jw hi];exact⟨cv,ov,out,h.below hB,ip.gS hB,cn h.ur.1,oY.refl _ _⟩
 have yR:Hid (∀V,Below w.heap.size w V->lQ V w.heap.size f (.slice fo f.bytes.length fc)->V.cell? ⟨w.heap.size,0,none⟩= some (af ag 3)/\V.cell? ⟨w.heap.size,1,none⟩= some (af ag id)/\V.cell? ⟨w.heap.size,2,none⟩= some (af ag f.iC)/\V.cell? ⟨w.heap.size,3,none⟩= some (af ag f.code)/\V.cell? ⟨w.heap.size,4,none⟩= some (.slice fo f.bytes.length fc)/\
   V.cell? ⟨cb,8,none⟩= some (af ag c.gM)/\V.cell? ⟨cb,9,none⟩= some (aj (some ⟨sr,0,none⟩) c.gJ.length kN)):=by
  intro V hB hF;have hm:=qF.below hB;unfold lQ at hF;refine⟨?_,?_,?_,?_,?_,?_,?_⟩
  ·simp[aX,hF,ht]
  ·simp[aX,hF,wM]
  ·simp[aX,hF]
  ·simp[aX,hF]
  ·simp[aX,hF]
  ·simp[aX,hm.cell,il]
  ·simp[aX,hm.cell,il]
 have HW:Hid (∀W:World,W=w.alloc (.cells #[af ag 3,af ag id,af ag f.iC,af ag f.code,.slice fo f.bytes.length fc] 296)->Below w.heap.size w W/\lQ W w.heap.size f (.slice fo f.bytes.length fc)):=by
  rintro W rfl;refine⟨gH w _,?_⟩;unfold lQ;rw[ht,wM];exact heap_alloc_new w _
 have yY:=jR.p_;have HM:=gE qF;have HH:=gE h;have HK:=gE jR;have HR:=gE hf;have HT:=gE ht;have HI:=gE Jp;have BZ:=gE wM;rw[ht,wM];clear h qF hC hf ht Jp wM T4 jR;by_cases jp:id<c.gJ.length
 ·obtain⟨x,hx⟩:∃x,c.gJ[id]? =some x:=⟨_,am jp⟩;obtain⟨xb,Fu⟩:∃xb,nk[id]? =some xb:=⟨_,am (by rw[HM.out.len];exact jp)⟩
  have xB:Hid (iN s.c.c4 f c=((iw s.c.c4 c.gM (jO c.gJ) f x).1,{c with gJ:=c.gJ.set id (iw s.c.c4 c.gM (jO c.gJ) f x).2})):=by
   show _=_;unfold iN;rw[HI.out,hx]
  have Cf:=HK.out.str x (bT hx);have SM:=HM.out.bytes id x xb hx Fu;obtain⟨xo,yQ,rfl,WS,WT⟩:=SM;have K8:Hid (Ro w 3 (.slice xo x.bytes.length yQ) x.bytes.length (jC x.bytes)):=⟨xo,yQ,rfl,WS,WT⟩;clear WS WT;obtain⟨e,he⟩:∃e:Int,f.iC+(f.bytes.length:Int)=e:=⟨_,rfl⟩;have her:0<=e/\e<=2147483646:=by omega
  have Ih:Hid (∀V,Below w.heap.size w V->V.cell? ⟨sr,id*7,none⟩= some (.slice xo x.bytes.length yQ)/\V.cell? ⟨sr,id*7+2,none⟩= some (af ag x.gR)/\V.cell? ⟨sr,id*7+3,none⟩= some (af ag x.gM)/\V.cell? ⟨sr,id*7+4,none⟩= some (af ag x.final)/\V.cell? ⟨sr,id*7+5,none⟩= some (.bool x.reset)/\V.cell? ⟨sr,id*7+6,none⟩= some (.bool x.done)):=by
   intro V hB
   have hv:∀j,j<7->V.cell? ⟨sr,id*7+j,none⟩=(x.cells (.slice xo x.bytes.length yQ))[j]?:=by
    intro j hj;have hm:=HM.out.below hB;rw[hm.row.cellAt (id*7+j) (by omega)];exact j_ _ _ id x _ hx Fu j hj
   exact⟨hv 0 (by decide),hv 2 (by decide),hv 3 (by decide),hv 4 (by decide),hv 5 (by decide),hv 6 (by decide)⟩
  obtain⟨ue,vi⟩:=Cf.read;obtain⟨hh1,hh2⟩:=Cf.gR;obtain⟨pJ,rp⟩:=Cf.gM;obtain⟨kS,ln⟩:=Cf.final;have qQ:=Cf.bytes;clear Cf
  have V9:Hid (∀V,Below w.heap.size w V->Calls ae 207 #[ai (some ⟨sb,0,none⟩),ai (some ⟨sr,id*7,none⟩),.agg #[af ag 3,af ag id,af ag f.iC,af ag f.code,.slice fo f.bytes.length fc]] V fun e w'=>F' V sr (id*7) (jD s.c.c4 x f.iC f.bytes) e w'):=by
   intro V hB;have hm:=HM.out.below hB;have SK:=(HH.out.below hB).lf;obtain⟨d,hd⟩:=ii hm.row rfl;exact zS x s.c.c4 3 id f.iC f.code f.bytes _ sb sr (id*7) (.slice xo x.bytes.length yQ) V (by simp[aX,SK,ij,jG.cells]) (fun j hj=>by rw[hm.row.cellAt (id*7+j) (by omega)];exact j_ _ _ id x _ hx Fu j hj) (K8.out.below hB) (HR.out.below hB) (frozen_of_row V sr _ _ _ hd) qQ ⟨ue,by omega⟩ ⟨Vl.1,by omega⟩ BF
  have Nn:Hid (∀V,Below w.heap.size w V->Calls ae 206 #[ai (some ⟨cb,0,none⟩)] V fun e w'=>e=.returned (af ag (jO c.gJ))/\w'=V):=by
   intro V hB;have hm:=HM.out.below hB;refine(vE c cb sr kN rv nk V ⟨fun j=>by simp[aX,hm.cell],hm.len,fun i s bv hs kI j hj=>?_,hm.runs,hm.bytes⟩ yY.2 (fun y hy=>⟨(HK.out.str y hy).gR.1,by have:=(HK.out.str y hy).gR.2;omega⟩)).mono (fun e w' h=>⟨h.1,h.2.symm⟩);have:=(bm.1 hs).1;rw[hm.row.cellAt (i*7+j) (by omega)];exact j_ _ _ i s bv hs kI j hj
  have nZ:Hid (∀(V w':World) (c':gZ),Below w.heap.size w V->ip (· = sr) V w'->nC w' 0 c' cb sr->Leaves w sb gP iJ cv cb sr ob {s with gG:=s.gG.set i c'} gN w'):=by
   intro V w' c' hB kq xQ;have:=HH.out.put hi jJ lj hB kq xQ;exact⟨cv,ov,out,this.1,this.2,cn HH.out.ur.1,oY.refl _ _⟩
  have Wv:0<=jO c.gJ/\jO c.gJ<=4611686018427387904:=by
   have h1:=tw (l:=c.gJ) (B:=1073741823) (fun y hy=>(HK.out.str y hy).gR);have h2:(c.gJ.length:Int)*1073741823<=1073741823*1073741823:=cS (by omega) (by omega);omega
  obtain⟨nO,Wu⟩:∃q,jO c.gJ=q:=⟨_,rfl⟩;rw[Wu]at Nn Wv xB;clear Wu;obtain⟨abb,abc⟩:=Wv;obtain⟨Gx,Gy⟩:=HK.out.gM;go_enter func190,ntmps190
  go_upto_region 1 with fail
  obtain⟨lY,A_⟩:=HW.out _ rfl;clear HW;generalize w.alloc (.cells #[af ag 3,af ag id,af ag f.iC,af ag f.code,.slice fo f.bytes.length fc] 296)=V at lY A_⊢;obtain⟨f0,f1,f2,f3,f4,c8,c9⟩:=yR.out V lY A_;have pQ:=gE lY;have F3:=gE A_;clear lY A_;go_wp2_with fail
  go_quiet (fail)
  have pW:=gK pQ.out nq;have KM:lQ (V.drewN nq) w.heap.size f (.slice fo f.bytes.length fc):=F3.out;clear f0 f1 f2 f3 f4 c8 c9 pQ F3;generalize V.drewN nq=V1 at pW KM⊢;obtain⟨f0,f1,f2,f3,f4,c8,c9⟩:=yR.out V1 pW KM;have nB:=gE pW;have Ok:=gE KM;clear pW KM;go_wp2_with fail
  go_quiet (fail)
  have At:=gK nB.out nq;have Ij:lQ (V1.drewN nq) w.heap.size f (.slice fo f.bytes.length fc):=Ok.out;clear f0 f1 f2 f3 f4 c8 c9 nB Ok;generalize V1.drewN nq=V2 at At Ij⊢;obtain⟨f0,f1,f2,f3,f4,c8,c9⟩:=yR.out V2 At Ij;obtain⟨q0,q2,q3,q4,q5,q6⟩:=Ih.out V2 At;have mc:=gE At;have VU:=gE Ij;clear At Ij
  go_upto_region 19 with fail
  go_cut [113] from 48 to 113 (fun Tr wx=>Tr=.bool (vY x e false)/\V2=wx)
  case first=>
   rcases(show x.final<0\/(0<=x.final/\x.final<e)\/(0<=x.final/\e<=x.final) from by omega) with h1|⟨h1,h2⟩|⟨h1,h2⟩<;>cases Ax:x.done
   all_goals
    rw[Ax]at q6;go_wp2_with fail
    go_meet
    refine⟨?_,rfl⟩
    congr 1
    simp[vY,Ax]<;>omega
  case rest=>
   obtain⟨rfl,rfl⟩:=hcut
   cases qE:vY x e false
   ·have uU:Hid (iw s.c.c4 c.gM nO f x=if x.done then(0,x) else if mC x e c.gM nO then(3,x) else
      if x.reset=false then if(jD s.c.c4 x f.iC f.bytes).1≠0 then((jD s.c.c4 x f.iC f.bytes).1,x) else(0,lp f x (jD s.c.c4 x f.iC f.bytes).2) else(0,lp f x x)):=by
     show _=_;unfold iw;simp only[he,HT.out];rw[show(decide ((3:Int)≠3))=false from rfl,qE];simp
    have V7:Hid (∀r:jf,lp f x r = {r with gR:=x.gR+kT x e}):=by
     intro r;unfold lp;simp only[he,HT.out];simp
    clear qE
    cases Ax:x.done
    ·rw[Ax]at q6
     replace uU:Hid (iw s.c.c4 c.gM nO f x=if mC x e c.gM nO then(3,x) else
      if x.reset=false then if(jD s.c.c4 x f.iC f.bytes).1≠0 then((jD s.c.c4 x f.iC f.bytes).1,x) else(0,lp f x (jD s.c.c4 x f.iC f.bytes).2) else(0,lp f x x)):=by
      have:=uU.out;rw[Ax]at this;exact this
     go_upto_if 123 with fail
     go_cut [10] from 114 to 129 (fun Q2 wx=>Q2=af ag (kT x e)/\V2=wx)
     case first=>
      rcases bM x.gR e with h1|h1
      ·go_wp2_with fail
       go_meet
       refine⟨?_,rfl⟩;unfold kT;rw[if_pos h1]
      ·go_wp2_with fail
       go_meet
       refine⟨?_,rfl⟩;unfold kT;rw[if_neg (by omega)]
     case rest=>
     obtain⟨rfl,rfl⟩:=hcut;have Az:0<=kT x e/\kT x e<=2147483647:=by unfold kT;split<;>omega
     obtain⟨m,Sp⟩:∃m,kT x e=m:=⟨_,rfl⟩;have yd:=gE Sp;rw[Sp]at Az⊢;clear Sp;obtain⟨qq,tx⟩:=Az
     have Rh:Hid (mC x e c.gM nO=(decide (x.gM<e) || decide (c.gM<nO+m))):=by
      show _=_;unfold mC;rw[yd.out]
     rcases bM x.gM e with CW|CW
     ·have Iu:Hid (mC x e c.gM nO=true):=by
       show _=_;rw[Rh.out,decide_eq_true CW]
       rfl
      have hd:decide (x.gM<e)=true:=decide_eq_true CW;go_wp2_with fail
      go_quiet (fail)
      go_wp2_with fail;go_ret;rw[xB.out,uU.out];rw[Iu.out,if_pos rfl,jw hx];exact⟨rfl,lD.out _ (gK mc.out _)⟩
     ·have hd:decide (x.gM<e)=false:=decide_eq_false (by omega);rcases bM c.gM (nO+m) with nN|nN
      ·have Iu:Hid (mC x e c.gM nO=true):=by
        show _=_;rw[Rh.out,decide_eq_true nN];simp
       go_wp2_with fail
       go_quiet ((go_at_call 206;exact cQ (Nn.out _ (gK mc.out _))))
       go_wp2_with fail;go_ret;rw[xB.out,uU.out];rw[Iu.out,if_pos rfl,jw hx];exact⟨rfl,lD.out _ (gK mc.out _)⟩
      ·have Iu:Hid (mC x e c.gM nO=false):=by
        show _=_;rw[Rh.out,hd,decide_eq_false (by omega)]
        rfl
       replace uU:Hid (iw s.c.c4 c.gM nO f x=if x.reset=false then if(jD s.c.c4 x f.iC f.bytes).1≠0 then((jD s.c.c4 x f.iC f.bytes).1,x) else(0,lp f x (jD s.c.c4 x f.iC f.bytes).2) else(0,lp f x x)):=by
        have:=uU.out;rw[Iu.out,if_neg (by decide)]at this;exact this
       go_wp2_with fail
       go_quiet ((go_at_call 206;exact cQ (Nn.out _ (gK mc.out _))))
       have CS:=gK mc.out nq;have NC:lQ (V2.drewN nq) w.heap.size f (.slice fo f.bytes.length fc):=VU.out;clear f0 f1 f2 f3 f4 c8 c9 q0 q2 q3 q4 q5 q6 mc VU hd;generalize V2.drewN nq=V3 at CS NC⊢;obtain⟨f0,f1,f2,f3,f4,c8,c9⟩:=yR.out V3 CS NC;obtain⟨q0,q2,q3,q4,q5,q6⟩:=Ih.out V3 CS;have ya:=gE CS;have HF3:=gE NC;clear CS NC;have DW:=HM.out.below ya.out;obtain⟨d3,Wp⟩:=ii DW.row rfl;have z3:∀q,V3.frozen? ⟨sr,q,none⟩= false:=fun q=>frozen_of_row V3 sr q _ _ Wp
       have Xn:=gE DW;clear DW Wp
       cases vP:x.reset
       ·rw[vP]at q5
        replace uU:Hid (iw s.c.c4 c.gM nO f x=if(jD s.c.c4 x f.iC f.bytes).1≠0 then((jD s.c.c4 x f.iC f.bytes).1,x) else(0,lp f x (jD s.c.c4 x f.iC f.bytes).2)):=by
         have:=uU.out;rw[vP,if_pos rfl]at this;exact this
        have Xv:=gE (V9.out V3 ya.out);obtain⟨r,BG⟩:∃r,jD s.c.c4 x f.iC f.bytes=r:=⟨_,rfl⟩
        have B4:Hid (r.2=x\/∃l,r.2 = {x with bytes:=l}):=by
         rw[<-BG];unfold jD
         split
         ·exact a_ rfl
         ·split
          ·exact a_ rfl
          ·exact aV ⟨_,rfl⟩
        rw[BG]at Xv uU;clear BG V9;go_wp2_with fail;refine Xv.out.mono ?_;rintro e' w4 ⟨rfl,wN⟩;clear Xv;by_cases rG:r.1=0
        ·rw[if_pos rG]at wN;obtain⟨w5,v5,wG,Ss,rfl⟩:=wN;have QO:=gI ya.out wG
         have LF:lQ w5 w.heap.size f (.slice fo f.bytes.length fc):=by
          have h1:=HF3.out;unfold lQ at h1⊢;rw[wG.block _ (aO.1 h1).1];exact h1
         have Pw:r.2.cells v5=(x.cells (.slice xo x.bytes.length yQ)).set 0 v5:=by
          rcases B4.out with h1|⟨l,h1⟩<;>rw[h1]<;>rfl
         have hyh:r.2.gR=x.gR:=by
          rcases B4.out with h1|⟨l,h1⟩<;>rw[h1]
         have tQ:=(Xn.out.below wG).put (j:=0) (y:=r.2) (E6:=v5) (v:=v5) hx Fu (by decide) Pw (Ro.vw Ss);obtain⟨B9,rF⟩:=tQ;rw[bd]at B9 rF
         have Pq:w.heap.size≠sr:=by
          obtain⟨dd,Gz⟩:=ii (g:=sr) HM.out.row rfl;have h1:=(aO.1 Gz).1;omega
         have QQ:lQ (w5.setCell ⟨sr,id*7,none⟩ v5) w.heap.size f (.slice fo f.bytes.length fc):=by
          unfold lQ at LF⊢;rw[heap_setCell_other _ _ _ _ Pq];exact LF
         have Bt:Hid (iw s.c.c4 c.gM nO f x=(0,{r.2 with gR:=x.gR+m})):=by
          have:=uU.out;rw[if_neg (by simp[rG]),V7.out,yd.out]at this;exact this
         have Ce:=getElem?_set_at (a:=r.2) hx;have wb:=getElem?_set_at (a:=v5) Fu;generalize w5.setCell ⟨sr,id*7,none⟩ v5=W6 at B9 rF QQ⊢
         have p0:W6.cell? ⟨w.heap.size,0,none⟩= some (af ag 3):=by
          unfold lQ at QQ;simp[aX,QQ,HT.out]
         have p2:W6.cell? ⟨sr,id*7+2,none⟩= some (af ag x.gR):=by
          rw[B9.row.cellAt (id*7+2) (by simp;omega)];refine(j_ _ _ id r.2 v5 Ce wb 2 (by decide)).trans ?_;rw[<-hyh]
          rfl
         obtain⟨d6,hd6⟩:=ii B9.row rfl;have z6:∀q,W6.frozen? ⟨sr,q,none⟩= false:=fun q=>frozen_of_row W6 sr q _ _ hd6
         have C6:=B9.put (j:=2) (y:={r.2 with gR:=x.gR+m}) (E6:=v5) (v:=af ag (x.gR+m)) Ce wb (by decide) (by rcases B4.out with h1|⟨l,h1⟩<;>rw[h1]<;>rfl) (B9.bytes id r.2 v5 Ce wb);have HB5:=gE QO;have V5:=gE C6;have TK:=gE rF;clear QO LF C6 B9 rF QQ hd6 wG Ss f0 f1 f2 f3 f4 c8 c9 q0 q2 q3 q4 q5 q6 z3;go_wp2_with fail;go_ret;rw[xB.out,Bt.out];have h7:=V5.out.1.rep;simp only[cT]at h7;exact⟨rfl,nZ.out w5 _ _ HB5.out (TK.out.trans V5.out.2) h7⟩
        ·rw[if_neg rG]at wN;have HO:=gE wN
         have Bt:Hid (iw s.c.c4 c.gM nO f x=(r.1,x)):=by
          show _=_;rw[uU.out,if_pos rG]
         clear wN;go_wp2_with fail;go_ret;rw[xB.out,Bt.out,jw hx];exact⟨rfl,lD.out _ (gI ya.out HO.out)⟩
       ·rw[vP]at q5
        have Bt:Hid (iw s.c.c4 c.gM nO f x=(0,{x with gR:=x.gR+m})):=by
         have:=uU.out;rw[vP,if_neg (by decide),V7.out,yd.out]at this;exact this
        go_wp2_with fail;go_ret;rw[xB.out,Bt.out];have tQ:=Xn.out.put (j:=2) (y:={x with gR:=x.gR+m}) (E6:=.slice xo x.bytes.length yQ) (v:=af ag (x.gR+m)) hx Fu (by decide) rfl (K8.out.below ya.out);exact⟨rfl,nZ.out V3 _ _ ya.out tQ.2 tQ.1.rep⟩
    ·rw[Ax]at q6
     have Bt:Hid (iw s.c.c4 c.gM nO f x=(0,x)):=by
      show _=_;rw[uU.out,Ax]
      rfl
     go_wp2_with fail;go_ret;rw[xB.out,Bt.out];refine⟨rfl,?_⟩;rw[jw hx];exact lD.out _ mc.out
   ·have Bt:Hid (iw s.c.c4 c.gM nO f x=(6,x)):=by
     show _=_;unfold iw;simp only[he,HT.out];rw[show(decide ((3:Int)≠3))=false from rfl,qE]
     rfl
    go_wp2_with fail;go_ret;rw[xB.out,Bt.out];refine⟨rfl,?_⟩;rw[jw hx];exact lD.out _ mc.out
 ·have xB:Hid (iN s.c.c4 f c=(4,c)):=by
   show _=_;unfold iN;rw[HI.out,bj (by omega)]
  go_enter func190,ntmps190
  go_upto_region 1 with fail
  obtain⟨lY,A_⟩:=HW.out _ rfl;clear HW;generalize w.alloc (.cells #[af ag 3,af ag id,af ag f.iC,af ag f.code,.slice fo f.bytes.length fc] 296)=V at lY A_⊢;obtain⟨f0,f1,f2,f3,f4,c8,c9⟩:=yR.out V lY A_;have pQ:=gE lY;clear lY A_ yR;go_wp2_with fail
  go_quiet (fail)
  go_wp2_with fail;go_ret;rw[xB.out];exact⟨rfl,lD.out _ (gK pQ.out _)⟩
def jf.hi(x:jf)(h:Int):jf:={x with gR:=h}
def jf.fi(x:jf)(e:Int):jf:={x with final:=e}
theorem ME(s:ik)(i:Nat)(c:gZ)(f:lL)(sb cb sr ob:Nat)(bv:Value)(gP iJ:List Nat)(cv ov:Value)(out:List (Int×Value))(gN:List (Int×List Int))(w:World)(h:iS w s sb gP iJ cv ov ob out gN)(hi:s.gG[i]? =some c)(jJ:gP[i]? =some cb)(lj:iJ[i]? =some sr)
  {M:Int} (jR:ke M c) (hf:kv w bv f.bytes) (BF:f.bytes.length<=1073741823) (T4:0<=f.id/\f.id<=1073741823) (Vl:0<=f.iC/\f.iC<=1073741823) (ht:f.type=4):
  Calls ae 190 #[ai (some ⟨sb,0,none⟩),ai (some ⟨cb,0,none⟩),.agg #[af ag f.type,af ag f.id,af ag f.iC,af ag f.code,bv]] w fun e w'=>e=.returned (af ag (iN s.c.c4 f c).1)/\Leaves w sb gP iJ cv cb sr ob {s with gG:=s.gG.set i (iN s.c.c4 f c).2} gN w':=by
 have hC:=h.kH i c cb sr hi jJ lj;obtain⟨rv,kN,nk,qF⟩:=hC.WW;obtain⟨id,wM⟩:∃id:Nat,f.id=id:=⟨f.id.toNat,by omega⟩;obtain⟨fo,fc,rfl⟩:=hf.form;have Jp:f.id.toNat=id:=by omega
 have lD:Hid (∀W,Below w.heap.size w W->Leaves w sb gP iJ cv cb sr ob {s with gG:=s.gG.set i c} gN W):=by
  intro W hB;rw[jw hi];exact⟨cv,ov,out,h.below hB,ip.gS hB,cn h.ur.1,oY.refl _ _⟩
 have yR:Hid (∀V,Below w.heap.size w V->lQ V w.heap.size f (.slice fo f.bytes.length fc)->V.cell? ⟨w.heap.size,0,none⟩= some (af ag 4)/\V.cell? ⟨w.heap.size,1,none⟩= some (af ag id)/\V.cell? ⟨w.heap.size,2,none⟩= some (af ag f.iC)/\V.cell? ⟨w.heap.size,3,none⟩= some (af ag f.code)/\V.cell? ⟨w.heap.size,4,none⟩= some (.slice fo f.bytes.length fc)/\
   V.cell? ⟨cb,8,none⟩= some (af ag c.gM)/\V.cell? ⟨cb,9,none⟩= some (aj (some ⟨sr,0,none⟩) c.gJ.length kN)):=by
  intro V hB hF;have hm:=qF.below hB;unfold lQ at hF;refine⟨?_,?_,?_,?_,?_,?_,?_⟩
  ·simp[aX,hF,ht]
  ·simp[aX,hF,wM]
  ·simp[aX,hF]
  ·simp[aX,hF]
  ·simp[aX,hF]
  ·simp[aX,hm.cell,il]
  ·simp[aX,hm.cell,il]
 have HW:Hid (∀W:World,W=w.alloc (.cells #[af ag 4,af ag id,af ag f.iC,af ag f.code,.slice fo f.bytes.length fc] 296)->Below w.heap.size w W/\lQ W w.heap.size f (.slice fo f.bytes.length fc)):=by
  rintro W rfl;refine⟨gH w _,?_⟩;unfold lQ;rw[ht,wM];exact heap_alloc_new w _
 have yY:=jR.p_;have HM:=gE qF;have HH:=gE h;have HK:=gE jR;have HR:=gE hf;have HT:=gE ht;have HI:=gE Jp;have BZ:=gE wM;rw[ht,wM];clear h qF hC hf ht Jp wM T4 jR;by_cases jp:id<c.gJ.length
 ·obtain⟨x,hx⟩:∃x,c.gJ[id]? =some x:=⟨_,am jp⟩;obtain⟨xb,Fu⟩:∃xb,nk[id]? =some xb:=⟨_,am (by rw[HM.out.len];exact jp)⟩
  have xB:Hid (iN s.c.c4 f c=((iw s.c.c4 c.gM (jO c.gJ) f x).1,{c with gJ:=c.gJ.set id (iw s.c.c4 c.gM (jO c.gJ) f x).2})):=by
   show _=_;unfold iN;rw[HI.out,hx]
  have Cf:=HK.out.str x (bT hx);have SM:=HM.out.bytes id x xb hx Fu;obtain⟨xo,yQ,rfl,WS,WT⟩:=SM;have K8:Hid (Ro w 3 (.slice xo x.bytes.length yQ) x.bytes.length (jC x.bytes)):=⟨xo,yQ,rfl,WS,WT⟩;clear WS WT;obtain⟨e,he⟩:∃e:Int,f.iC+(f.bytes.length:Int)=e:=⟨_,rfl⟩;have her:0<=e/\e<=2147483646:=by omega
  have Ih:Hid (∀V,Below w.heap.size w V->V.cell? ⟨sr,id*7,none⟩= some (.slice xo x.bytes.length yQ)/\V.cell? ⟨sr,id*7+2,none⟩= some (af ag x.gR)/\V.cell? ⟨sr,id*7+3,none⟩= some (af ag x.gM)/\V.cell? ⟨sr,id*7+4,none⟩= some (af ag x.final)/\V.cell? ⟨sr,id*7+5,none⟩= some (.bool x.reset)/\V.cell? ⟨sr,id*7+6,none⟩= some (.bool x.done)):=by
   intro V hB
   have hv:∀j,j<7->V.cell? ⟨sr,id*7+j,none⟩=(x.cells (.slice xo x.bytes.length yQ))[j]?:=by
    intro j hj;have hm:=HM.out.below hB;rw[hm.row.cellAt (id*7+j) (by omega)];exact j_ _ _ id x _ hx Fu j hj
   exact⟨hv 0 (by decide),hv 2 (by decide),hv 3 (by decide),hv 4 (by decide),hv 5 (by decide),hv 6 (by decide)⟩
  obtain⟨ue,vi⟩:=Cf.read;obtain⟨hh1,hh2⟩:=Cf.gR;obtain⟨pJ,rp⟩:=Cf.gM;obtain⟨kS,ln⟩:=Cf.final;have qQ:=Cf.bytes;clear Cf
  have V9:Hid (∀V,Below w.heap.size w V->Calls ae 207 #[ai (some ⟨sb,0,none⟩),ai (some ⟨sr,id*7,none⟩),.agg #[af ag 4,af ag id,af ag f.iC,af ag f.code,.slice fo f.bytes.length fc]] V fun e w'=>F' V sr (id*7) (jD s.c.c4 x f.iC f.bytes) e w'):=by
   intro V hB;have hm:=HM.out.below hB;have SK:=(HH.out.below hB).lf;obtain⟨d,hd⟩:=ii hm.row rfl;exact zS x s.c.c4 4 id f.iC f.code f.bytes _ sb sr (id*7) (.slice xo x.bytes.length yQ) V (by simp[aX,SK,ij,jG.cells]) (fun j hj=>by rw[hm.row.cellAt (id*7+j) (by omega)];exact j_ _ _ id x _ hx Fu j hj) (K8.out.below hB) (HR.out.below hB) (frozen_of_row V sr _ _ _ hd) qQ ⟨ue,by omega⟩ ⟨Vl.1,by omega⟩ BF
  have Nn:Hid (∀V,Below w.heap.size w V->Calls ae 206 #[ai (some ⟨cb,0,none⟩)] V fun e w'=>e=.returned (af ag (jO c.gJ))/\w'=V):=by
   intro V hB;have hm:=HM.out.below hB;refine(vE c cb sr kN rv nk V ⟨fun j=>by simp[aX,hm.cell],hm.len,fun i s bv hs kI j hj=>?_,hm.runs,hm.bytes⟩ yY.2 (fun y hy=>⟨(HK.out.str y hy).gR.1,by have:=(HK.out.str y hy).gR.2;omega⟩)).mono (fun e w' h=>⟨h.1,h.2.symm⟩);have:=(bm.1 hs).1;rw[hm.row.cellAt (i*7+j) (by omega)];exact j_ _ _ i s bv hs kI j hj
  have nZ:Hid (∀(V w':World) (c':gZ),Below w.heap.size w V->ip (· = sr) V w'->nC w' 0 c' cb sr->Leaves w sb gP iJ cv cb sr ob {s with gG:=s.gG.set i c'} gN w'):=by
   intro V w' c' hB kq xQ;have:=HH.out.put hi jJ lj hB kq xQ;exact⟨cv,ov,out,this.1,this.2,cn HH.out.ur.1,oY.refl _ _⟩
  have Wv:0<=jO c.gJ/\jO c.gJ<=4611686018427387904:=by
   have h1:=tw (l:=c.gJ) (B:=1073741823) (fun y hy=>(HK.out.str y hy).gR);have h2:(c.gJ.length:Int)*1073741823<=1073741823*1073741823:=cS (by omega) (by omega);omega
  obtain⟨nO,Wu⟩:∃q,jO c.gJ=q:=⟨_,rfl⟩;rw[Wu]at Nn Wv xB;clear Wu;obtain⟨abb,abc⟩:=Wv;obtain⟨Gx,Gy⟩:=HK.out.gM;go_enter func190,ntmps190
  go_upto_region 1 with fail
  obtain⟨lY,A_⟩:=HW.out _ rfl;clear HW;generalize w.alloc (.cells #[af ag 4,af ag id,af ag f.iC,af ag f.code,.slice fo f.bytes.length fc] 296)=V at lY A_⊢;obtain⟨f0,f1,f2,f3,f4,c8,c9⟩:=yR.out V lY A_;have pQ:=gE lY;have F3:=gE A_;clear lY A_;go_wp2_with fail
  go_quiet (fail)
  have pW:=gK pQ.out nq;have KM:lQ (V.drewN nq) w.heap.size f (.slice fo f.bytes.length fc):=F3.out;clear f0 f1 f2 f3 f4 c8 c9 pQ F3;generalize V.drewN nq=V1 at pW KM⊢;obtain⟨f0,f1,f2,f3,f4,c8,c9⟩:=yR.out V1 pW KM;have nB:=gE pW;have Ok:=gE KM;clear pW KM;go_wp2_with fail
  go_quiet (fail)
  have At:=gK nB.out nq;have Ij:lQ (V1.drewN nq) w.heap.size f (.slice fo f.bytes.length fc):=Ok.out;clear f0 f1 f2 f3 f4 c8 c9 nB Ok;generalize V1.drewN nq=V2 at At Ij⊢;obtain⟨f0,f1,f2,f3,f4,c8,c9⟩:=yR.out V2 At Ij;obtain⟨q0,q2,q3,q4,q5,q6⟩:=Ih.out V2 At;have mc:=gE At;have VU:=gE Ij;clear At Ij
  go_upto_region 19 with fail
  go_cut [113] from 48 to 113 (fun Tr wx=>Tr=.bool (vY x e true)/\V2=wx)
  case first=>
   rcases(show x.final<0\/(0<=x.final/\x.final<e)\/(0<=x.final/\e<x.final)\/(0<=x.final/\e=x.final) from by omega) with h1|⟨h1,h2⟩|⟨h1,h2⟩|⟨h1,h2⟩<;>rcases bM e x.gR with h3|h3<;>cases Ax:x.done
   all_goals
    rw[Ax]at q6
    try subst h2
    go_wp2_with fail
    go_meet
    refine⟨?_,rfl⟩
    congr 1
    unfold vY;rw[Ax];simp
    all_goals first
     |omega
     |(trace_state;omega)
  case rest=>
   obtain⟨rfl,rfl⟩:=hcut
   cases qE:vY x e true
   ·have uU:Hid (iw s.c.c4 c.gM nO f x=if x.done then(0,x) else if mC x e c.gM nO then(3,x) else
      if x.reset=false then if(jD s.c.c4 x f.iC f.bytes).1≠0 then((jD s.c.c4 x f.iC f.bytes).1,x) else(0,lp f x (jD s.c.c4 x f.iC f.bytes).2) else(0,lp f x x)):=by
     show _=_;unfold iw;simp only[he,HT.out];rw[show(decide ((4:Int)≠3))=true from rfl,qE];simp
    have V7:Hid (∀r:jf,lp f x r=(r.hi (x.gR+kT x e)).fi e):=by
     intro r;unfold lp jf.hi jf.fi;simp only[he,HT.out];simp
    clear qE
    cases Ax:x.done
    ·rw[Ax]at q6
     replace uU:Hid (iw s.c.c4 c.gM nO f x=if mC x e c.gM nO then(3,x) else
      if x.reset=false then if(jD s.c.c4 x f.iC f.bytes).1≠0 then((jD s.c.c4 x f.iC f.bytes).1,x) else(0,lp f x (jD s.c.c4 x f.iC f.bytes).2) else(0,lp f x x)):=by
      have:=uU.out;rw[Ax]at this;exact this
     go_upto_if 123 with fail
     go_cut [10] from 114 to 129 (fun Q2 wx=>Q2=af ag (kT x e)/\V2=wx)
     case first=>
      rcases bM x.gR e with h1|h1
      ·go_wp2_with fail
       go_meet
       refine⟨?_,rfl⟩;unfold kT;rw[if_pos h1]
      ·go_wp2_with fail
       go_meet
       refine⟨?_,rfl⟩;unfold kT;rw[if_neg (by omega)]
     case rest=>
     obtain⟨rfl,rfl⟩:=hcut;have Az:0<=kT x e/\kT x e<=2147483647:=by unfold kT;split<;>omega
     obtain⟨m,Sp⟩:∃m,kT x e=m:=⟨_,rfl⟩;have yd:=gE Sp;rw[Sp]at Az⊢;clear Sp;obtain⟨qq,tx⟩:=Az
     have Rh:Hid (mC x e c.gM nO=(decide (x.gM<e) || decide (c.gM<nO+m))):=by
      show _=_;unfold mC;rw[yd.out]
     rcases bM x.gM e with CW|CW
     ·have Iu:Hid (mC x e c.gM nO=true):=by
       show _=_;rw[Rh.out,decide_eq_true CW]
       rfl
      have hd:decide (x.gM<e)=true:=decide_eq_true CW;go_wp2_with fail
      go_quiet (fail)
      go_wp2_with fail;go_ret;rw[xB.out,uU.out];rw[Iu.out,if_pos rfl,jw hx];exact⟨rfl,lD.out _ (gK mc.out _)⟩
     ·have hd:decide (x.gM<e)=false:=decide_eq_false (by omega);rcases bM c.gM (nO+m) with nN|nN
      ·have Iu:Hid (mC x e c.gM nO=true):=by
        show _=_;rw[Rh.out,decide_eq_true nN];simp
       go_wp2_with fail
       go_quiet ((go_at_call 206;exact cQ (Nn.out _ (gK mc.out _))))
       go_wp2_with fail;go_ret;rw[xB.out,uU.out];rw[Iu.out,if_pos rfl,jw hx];exact⟨rfl,lD.out _ (gK mc.out _)⟩
      ·have Iu:Hid (mC x e c.gM nO=false):=by
        show _=_;rw[Rh.out,hd,decide_eq_false (by omega)]
        rfl
       replace uU:Hid (iw s.c.c4 c.gM nO f x=if x.reset=false then if(jD s.c.c4 x f.iC f.bytes).1≠0 then((jD s.c.c4 x f.iC f.bytes).1,x) else(0,lp f x (jD s.c.c4 x f.iC f.bytes).2) else(0,lp f x x)):=by
        have:=uU.out;rw[Iu.out,if_neg (by decide)]at this;exact this
       go_wp2_with fail
       go_quiet ((go_at_call 206;exact cQ (Nn.out _ (gK mc.out _))))
       have CS:=gK mc.out nq;have NC:lQ (V2.drewN nq) w.heap.size f (.slice fo f.bytes.length fc):=VU.out;clear f0 f1 f2 f3 f4 c8 c9 q0 q2 q3 q4 q5 q6 mc VU hd;generalize V2.drewN nq=V3 at CS NC⊢;obtain⟨f0,f1,f2,f3,f4,c8,c9⟩:=yR.out V3 CS NC;obtain⟨q0,q2,q3,q4,q5,q6⟩:=Ih.out V3 CS;have ya:=gE CS;have HF3:=gE NC;clear CS NC;have DW:=HM.out.below ya.out;obtain⟨d3,Wp⟩:=ii DW.row rfl;have z3:∀q,V3.frozen? ⟨sr,q,none⟩= false:=fun q=>frozen_of_row V3 sr q _ _ Wp
       have Xn:=gE DW;clear DW Wp
       cases vP:x.reset
       ·rw[vP]at q5
        replace uU:Hid (iw s.c.c4 c.gM nO f x=if(jD s.c.c4 x f.iC f.bytes).1≠0 then((jD s.c.c4 x f.iC f.bytes).1,x) else(0,lp f x (jD s.c.c4 x f.iC f.bytes).2)):=by
         have:=uU.out;rw[vP,if_pos rfl]at this;exact this
        have Xv:=gE (V9.out V3 ya.out);obtain⟨r,BG⟩:∃r,jD s.c.c4 x f.iC f.bytes=r:=⟨_,rfl⟩
        have B4:Hid (r.2=x\/∃l,r.2 = {x with bytes:=l}):=by
         rw[<-BG];unfold jD
         split
         ·exact a_ rfl
         ·split
          ·exact a_ rfl
          ·exact aV ⟨_,rfl⟩
        rw[BG]at Xv uU;clear BG V9;go_wp2_with fail;refine Xv.out.mono ?_;rintro e' w4 ⟨rfl,wN⟩;clear Xv;by_cases rG:r.1=0
        ·rw[if_pos rG]at wN;obtain⟨w5,v5,wG,Ss,rfl⟩:=wN;have QO:=gI ya.out wG
         have LF:lQ w5 w.heap.size f (.slice fo f.bytes.length fc):=by
          have h1:=HF3.out;unfold lQ at h1⊢;rw[wG.block _ (aO.1 h1).1];exact h1
         have Pw:r.2.cells v5=(x.cells (.slice xo x.bytes.length yQ)).set 0 v5:=by
          rcases B4.out with h1|⟨l,h1⟩<;>rw[h1]<;>rfl
         have hyh:r.2.gR=x.gR:=by
          rcases B4.out with h1|⟨l,h1⟩<;>rw[h1]
         have tQ:=(Xn.out.below wG).put (j:=0) (y:=r.2) (E6:=v5) (v:=v5) hx Fu (by decide) Pw (Ro.vw Ss);obtain⟨B9,rF⟩:=tQ;rw[bd]at B9 rF
         have Pq:w.heap.size≠sr:=by
          obtain⟨dd,Gz⟩:=ii (g:=sr) HM.out.row rfl;have h1:=(aO.1 Gz).1;omega
         have QQ:lQ (w5.setCell ⟨sr,id*7,none⟩ v5) w.heap.size f (.slice fo f.bytes.length fc):=by
          unfold lQ at LF⊢;rw[heap_setCell_other _ _ _ _ Pq];exact LF
         have Bt:Hid (iw s.c.c4 c.gM nO f x=(0,(r.2.hi (x.gR+m)).fi e)):=by
          have:=uU.out;rw[if_neg (by simp[rG]),V7.out,yd.out]at this;exact this
         have Ce:=getElem?_set_at (a:=r.2) hx;have wb:=getElem?_set_at (a:=v5) Fu;generalize w5.setCell ⟨sr,id*7,none⟩ v5=W6 at B9 rF QQ⊢
         have p0:W6.cell? ⟨w.heap.size,0,none⟩= some (af ag 4):=by
          unfold lQ at QQ;simp[aX,QQ,HT.out]
         have p2:W6.cell? ⟨sr,id*7+2,none⟩= some (af ag x.gR):=by
          rw[B9.row.cellAt (id*7+2) (by simp;omega)];refine(j_ _ _ id r.2 v5 Ce wb 2 (by decide)).trans ?_;rw[<-hyh]
          rfl
         obtain⟨d6,hd6⟩:=ii B9.row rfl;have z6:∀q,W6.frozen? ⟨sr,q,none⟩= false:=fun q=>frozen_of_row W6 sr q _ _ hd6
         have C6:=B9.put (j:=2) (y:=r.2.hi (x.gR+m)) (E6:=v5) (v:=af ag (x.gR+m)) Ce wb (by decide) rfl (B9.bytes id r.2 v5 Ce wb);obtain⟨Yp,yq⟩:=C6;have QY:=getElem?_set_at (a:=r.2.hi (x.gR+m)) Ce;have R0:=getElem?_set_at (a:=v5) wb;have WD:=Yp.put (j:=4) (y:=(r.2.hi (x.gR+m)).fi e) (E6:=v5) (v:=af ag e) QY R0 (by decide) rfl (Yp.bytes id (r.2.hi (x.gR+m)) v5 QY R0)
         have p4:W6.cell? ⟨sr,id*7+4,none⟩= some (af ag x.final):=by
          rw[B9.row.cellAt (id*7+4) (by simp;omega)];refine(j_ _ _ id r.2 v5 Ce wb 4 (by decide)).trans ?_;rcases B4.out with h1|⟨l,h1⟩<;>rw[h1]<;>rfl
         have HB5:=gE QO;have V5:=gE WD;have TK:=gE (rF.trans yq);clear QO LF WD B9 rF Yp yq QY R0 QQ hd6 wG Ss f0 f1 f2 f3 f4 c8 c9 q0 q2 q3 q4 q5 q6 z3;go_wp2_with fail;go_ret;rw[xB.out,Bt.out];have h7:=V5.out.1.rep;simp only[cT]at h7;exact⟨rfl,nZ.out w5 _ _ HB5.out (TK.out.trans V5.out.2) h7⟩
        ·rw[if_neg rG]at wN;have HO:=gE wN
         have Bt:Hid (iw s.c.c4 c.gM nO f x=(r.1,x)):=by
          show _=_;rw[uU.out,if_pos rG]
         clear wN;go_wp2_with fail;go_ret;rw[xB.out,Bt.out,jw hx];exact⟨rfl,lD.out _ (gI ya.out HO.out)⟩
       ·rw[vP]at q5
        have Bt:Hid (iw s.c.c4 c.gM nO f x=(0,(x.hi (x.gR+m)).fi e)):=by
         have:=uU.out;rw[vP,if_neg (by decide),V7.out,yd.out]at this;exact this
        have tQ:=Xn.out.put (j:=2) (y:=x.hi (x.gR+m)) (E6:=.slice xo x.bytes.length yQ) (v:=af ag (x.gR+m)) hx Fu (by decide) rfl (K8.out.below ya.out);obtain⟨B9,rF⟩:=tQ;have Ce:=getElem?_set_at (a:=x.hi (x.gR+m)) hx;have wb:=getElem?_set_at (a:=cX xo x.bytes.length yQ) Fu;have C6:=B9.put (j:=4) (y:=(x.hi (x.gR+m)).fi e) (E6:=.slice xo x.bytes.length yQ) (v:=af ag e) Ce wb (by decide) rfl (B9.bytes id (x.hi (x.gR+m)) _ Ce wb);have V5:=gE C6;have TK:=gE rF;clear B9 rF C6 Ce wb;go_wp2_with fail;go_ret;rw[xB.out,Bt.out];have h7:=V5.out.1.rep;simp only[cT]at h7;exact⟨rfl,nZ.out V3 _ _ ya.out (TK.out.trans V5.out.2) h7⟩
    ·rw[Ax]at q6
     have Bt:Hid (iw s.c.c4 c.gM nO f x=(0,x)):=by
      show _=_;rw[uU.out,Ax]
      rfl
     go_wp2_with fail;go_ret;rw[xB.out,Bt.out];refine⟨rfl,?_⟩;rw[jw hx];exact lD.out _ mc.out
   ·have Bt:Hid (iw s.c.c4 c.gM nO f x=(6,x)):=by
     show _=_;unfold iw;simp only[he,HT.out];rw[show(decide ((4:Int)≠3))=true from rfl,qE]
     rfl
    go_wp2_with fail;go_ret;rw[xB.out,Bt.out];refine⟨rfl,?_⟩;rw[jw hx];exact lD.out _ mc.out
 ·have xB:Hid (iN s.c.c4 f c=(4,c)):=by
   show _=_;unfold iN;rw[HI.out,bj (by omega)]
  go_enter func190,ntmps190
  go_upto_region 1 with fail
  obtain⟨lY,A_⟩:=HW.out _ rfl;clear HW;generalize w.alloc (.cells #[af ag 4,af ag id,af ag f.iC,af ag f.code,.slice fo f.bytes.length fc] 296)=V at lY A_⊢;obtain⟨f0,f1,f2,f3,f4,c8,c9⟩:=yR.out V lY A_;have pQ:=gE lY;clear lY A_ yR;go_wp2_with fail
  go_quiet (fail)
  go_wp2_with fail;go_ret;rw[xB.out];exact⟨rfl,lD.out _ (gK pQ.out _)⟩
def jf.re(x:jf):jf:={x with reset:=true}
def jf.em(x:jf):jf:={x with bytes:=[]}
theorem MD(s:ik)(i:Nat)(c:gZ)(f:lL)(sb cb sr ob:Nat)(bv:Value)(gP iJ:List Nat)(cv ov:Value)(out:List (Int×Value))(gN:List (Int×List Int))(w:World)(h:iS w s sb gP iJ cv ov ob out gN)(hi:s.gG[i]? =some c)(jJ:gP[i]? =some cb)(lj:iJ[i]? =some sr)
  {M:Int} (jR:ke M c) (hf:kv w bv f.bytes) (BF:f.bytes.length<=1073741823) (T4:0<=f.id/\f.id<=1073741823) (Vl:0<=f.iC/\f.iC<=1073741823) (ht:f.type=5):
  Calls ae 190 #[ai (some ⟨sb,0,none⟩),ai (some ⟨cb,0,none⟩),.agg #[af ag f.type,af ag f.id,af ag f.iC,af ag f.code,bv]] w fun e w'=>e=.returned (af ag (iN s.c.c4 f c).1)/\Leaves w sb gP iJ cv cb sr ob {s with gG:=s.gG.set i (iN s.c.c4 f c).2} gN w':=by
 have hC:=h.kH i c cb sr hi jJ lj;obtain⟨rv,kN,nk,qF⟩:=hC.WW;obtain⟨id,wM⟩:∃id:Nat,f.id=id:=⟨f.id.toNat,by omega⟩;obtain⟨fo,fc,rfl⟩:=hf.form;have Jp:f.id.toNat=id:=by omega
 have lD:Hid (∀W,Below w.heap.size w W->Leaves w sb gP iJ cv cb sr ob {s with gG:=s.gG.set i c} gN W):=by
  intro W hB;rw[jw hi];exact⟨cv,ov,out,h.below hB,ip.gS hB,cn h.ur.1,oY.refl _ _⟩
 have yR:Hid (∀V,Below w.heap.size w V->lQ V w.heap.size f (.slice fo f.bytes.length fc)->V.cell? ⟨w.heap.size,0,none⟩= some (af ag 5)/\V.cell? ⟨w.heap.size,1,none⟩= some (af ag id)/\V.cell? ⟨w.heap.size,2,none⟩= some (af ag f.iC)/\V.cell? ⟨w.heap.size,3,none⟩= some (af ag f.code)/\V.cell? ⟨w.heap.size,4,none⟩= some (.slice fo f.bytes.length fc)/\
   V.cell? ⟨cb,8,none⟩= some (af ag c.gM)/\V.cell? ⟨cb,9,none⟩= some (aj (some ⟨sr,0,none⟩) c.gJ.length kN)):=by
  intro V hB hF;have hm:=qF.below hB;unfold lQ at hF;refine⟨?_,?_,?_,?_,?_,?_,?_⟩
  ·simp[aX,hF,ht]
  ·simp[aX,hF,wM]
  ·simp[aX,hF]
  ·simp[aX,hF]
  ·simp[aX,hF]
  ·simp[aX,hm.cell,il]
  ·simp[aX,hm.cell,il]
 have HW:Hid (∀W:World,W=w.alloc (.cells #[af ag 5,af ag id,af ag f.iC,af ag f.code,.slice fo f.bytes.length fc] 296)->Below w.heap.size w W/\lQ W w.heap.size f (.slice fo f.bytes.length fc)):=by
  rintro W rfl;refine⟨gH w _,?_⟩;unfold lQ;rw[ht,wM];exact heap_alloc_new w _
 have yY:=jR.p_;have HM:=gE qF;have HH:=gE h;have HK:=gE jR;have HR:=gE hf;have HT:=gE ht;have HI:=gE Jp;have BZ:=gE wM;rw[ht,wM];clear h qF hC hf ht Jp wM T4 jR;by_cases jp:id<c.gJ.length
 ·obtain⟨x,hx⟩:∃x,c.gJ[id]? =some x:=⟨_,am jp⟩;obtain⟨xb,Fu⟩:∃xb,nk[id]? =some xb:=⟨_,am (by rw[HM.out.len];exact jp)⟩
  have xB:Hid (iN s.c.c4 f c=((iw s.c.c4 c.gM (jO c.gJ) f x).1,{c with gJ:=c.gJ.set id (iw s.c.c4 c.gM (jO c.gJ) f x).2})):=by
   show _=_;unfold iN;rw[HI.out,hx]
  have Cf:=HK.out.str x (bT hx);have SM:=HM.out.bytes id x xb hx Fu;obtain⟨xo,yQ,rfl,WS,WT⟩:=SM;have K8:Hid (Ro w 3 (.slice xo x.bytes.length yQ) x.bytes.length (jC x.bytes)):=⟨xo,yQ,rfl,WS,WT⟩;clear WS WT;obtain⟨e,he⟩:∃e:Int,f.iC+(f.bytes.length:Int)=e:=⟨_,rfl⟩;have her:0<=e/\e<=2147483646:=by omega
  have Ih:Hid (∀V,Below w.heap.size w V->V.cell? ⟨sr,id*7,none⟩= some (.slice xo x.bytes.length yQ)/\V.cell? ⟨sr,id*7+2,none⟩= some (af ag x.gR)/\V.cell? ⟨sr,id*7+3,none⟩= some (af ag x.gM)/\V.cell? ⟨sr,id*7+4,none⟩= some (af ag x.final)/\V.cell? ⟨sr,id*7+5,none⟩= some (.bool x.reset)/\V.cell? ⟨sr,id*7+6,none⟩= some (.bool x.done)):=by
   intro V hB
   have hv:∀j,j<7->V.cell? ⟨sr,id*7+j,none⟩=(x.cells (.slice xo x.bytes.length yQ))[j]?:=by
    intro j hj;have hm:=HM.out.below hB;rw[hm.row.cellAt (id*7+j) (by omega)];exact j_ _ _ id x _ hx Fu j hj
   exact⟨hv 0 (by decide),hv 2 (by decide),hv 3 (by decide),hv 4 (by decide),hv 5 (by decide),hv 6 (by decide)⟩
  obtain⟨ue,vi⟩:=Cf.read;obtain⟨hh1,hh2⟩:=Cf.gR;obtain⟨pJ,rp⟩:=Cf.gM;obtain⟨kS,ln⟩:=Cf.final;have qQ:=Cf.bytes;clear Cf
  have TJ:Hid (∀(V:World) (y:jf) (c':gZ) (uq:List Value),tG V c' cb sr rv kN uq->c'.gJ[id]? =some y->uq[id]? =some (.slice xo x.bytes.length yQ)->c'.gJ.length=c.gJ.length->y.bytes=x.bytes->y.read=x.read->Calls ae 208 #[ai (some ⟨sr,id*7,none⟩)] V fun e w'=>e=.returned (.bool (Bv y))/\∃n,w'=V.drewN n):=by
   intro V y c' uq hm hy hyb hl h1 h2;refine Tj y sr (id*7) (.slice xo x.bytes.length yQ) V (fun j hj=>?_) ?_ (by rw[h1];exact qQ) (by rw[h2];exact⟨ue,by omega⟩)
   ·rw[hm.row.cellAt (id*7+j) (by rw[hl];omega)];exact j_ _ _ id y _ hy hyb j hj
   ·exact hm.bytes id y _ hy hyb
  have Nn:Hid (∀V,Below w.heap.size w V->Calls ae 206 #[ai (some ⟨cb,0,none⟩)] V fun e w'=>e=.returned (af ag (jO c.gJ))/\w'=V):=by
   intro V hB;have hm:=HM.out.below hB;refine(vE c cb sr kN rv nk V ⟨fun j=>by simp[aX,hm.cell],hm.len,fun i s bv hs kI j hj=>?_,hm.runs,hm.bytes⟩ yY.2 (fun y hy=>⟨(HK.out.str y hy).gR.1,by have:=(HK.out.str y hy).gR.2;omega⟩)).mono (fun e w' h=>⟨h.1,h.2.symm⟩);have:=(bm.1 hs).1;rw[hm.row.cellAt (i*7+j) (by omega)];exact j_ _ _ i s bv hs kI j hj
  have nZ:Hid (∀(V w':World) (c':gZ),Below w.heap.size w V->ip (· = sr) V w'->nC w' 0 c' cb sr->Leaves w sb gP iJ cv cb sr ob {s with gG:=s.gG.set i c'} gN w'):=by
   intro V w' c' hB kq xQ;have:=HH.out.put hi jJ lj hB kq xQ;exact⟨cv,ov,out,this.1,this.2,cn HH.out.ur.1,oY.refl _ _⟩
  have Wv:0<=jO c.gJ/\jO c.gJ<=4611686018427387904:=by
   have h1:=tw (l:=c.gJ) (B:=1073741823) (fun y hy=>(HK.out.str y hy).gR);have h2:(c.gJ.length:Int)*1073741823<=1073741823*1073741823:=cS (by omega) (by omega);omega
  obtain⟨nO,Wu⟩:∃q,jO c.gJ=q:=⟨_,rfl⟩;rw[Wu]at Nn Wv xB;clear Wu;obtain⟨abb,abc⟩:=Wv;obtain⟨Gx,Gy⟩:=HK.out.gM;go_enter func190,ntmps190
  go_upto_region 1 with fail
  obtain⟨lY,A_⟩:=HW.out _ rfl;clear HW;generalize w.alloc (.cells #[af ag 5,af ag id,af ag f.iC,af ag f.code,.slice fo f.bytes.length fc] 296)=V at lY A_⊢;obtain⟨f0,f1,f2,f3,f4,c8,c9⟩:=yR.out V lY A_;have pQ:=gE lY;have F3:=gE A_;clear lY A_;go_wp2_with fail
  go_quiet (fail)
  have pW:=gK pQ.out nq;have KM:lQ (V.drewN nq) w.heap.size f (.slice fo f.bytes.length fc):=F3.out;clear f0 f1 f2 f3 f4 c8 c9 pQ F3;generalize V.drewN nq=V1 at pW KM⊢;obtain⟨f0,f1,f2,f3,f4,c8,c9⟩:=yR.out V1 pW KM;have nB:=gE pW;have Ok:=gE KM;clear pW KM;go_wp2_with fail
  go_quiet (fail)
  have At:=gK nB.out nq;have Ij:lQ (V1.drewN nq) w.heap.size f (.slice fo f.bytes.length fc):=Ok.out;clear f0 f1 f2 f3 f4 c8 c9 nB Ok;generalize V1.drewN nq=V2 at At Ij⊢;obtain⟨f0,f1,f2,f3,f4,c8,c9⟩:=yR.out V2 At Ij;obtain⟨q0,q2,q3,q4,q5,q6⟩:=Ih.out V2 At;have mc:=gE At;have VU:=gE Ij;clear At Ij
  go_upto_region 19 with fail
  go_cut [113] from 48 to 113 (fun Tr wx=>Tr=.bool (vY x e true)/\V2=wx)
  case first=>
   rcases(show x.final<0\/(0<=x.final/\x.final<e)\/(0<=x.final/\e<x.final)\/(0<=x.final/\e=x.final) from by omega) with h1|⟨h1,h2⟩|⟨h1,h2⟩|⟨h1,h2⟩<;>rcases bM e x.gR with h3|h3<;>cases Ax:x.done
   all_goals
    rw[Ax]at q6
    try subst h2
    go_wp2_with fail
    go_meet
    refine⟨?_,rfl⟩
    congr 1
    unfold vY;rw[Ax];simp
    all_goals first
     |omega
     |(trace_state;omega)
  case rest=>
   obtain⟨rfl,rfl⟩:=hcut
   cases qE:vY x e true
   ·have uU:Hid (iw s.c.c4 c.gM nO f x=if x.done then(0,x) else if mC x e c.gM nO then(3,x) else(0,lp f x x)):=by
     show _=_;unfold iw;simp only[he,HT.out];rw[show(decide ((5:Int)≠3))=true from rfl,qE];simp
    have V7:Hid (lp f x x=if Bv ((x.hi (x.gR+kT x e)).fi e)=false then {(x.hi (x.gR+kT x e)).fi e with reset:=true,bytes:=[]} else(x.hi (x.gR+kT x e)).fi e):=by
     show _=_;unfold lp jf.hi jf.fi;simp only[he,HT.out];simp
    clear qE
    cases Ax:x.done
    ·rw[Ax]at q6
     replace uU:Hid (iw s.c.c4 c.gM nO f x=if mC x e c.gM nO then(3,x) else(0,lp f x x)):=by
      have:=uU.out;rw[Ax]at this;exact this
     go_upto_if 123 with fail
     go_cut [10] from 114 to 129 (fun Q2 wx=>Q2=af ag (kT x e)/\V2=wx)
     case first=>
      rcases bM x.gR e with h1|h1
      ·go_wp2_with fail
       go_meet
       refine⟨?_,rfl⟩;unfold kT;rw[if_pos h1]
      ·go_wp2_with fail
       go_meet
       refine⟨?_,rfl⟩;unfold kT;rw[if_neg (by omega)]
     case rest=>
     obtain⟨rfl,rfl⟩:=hcut;have Az:0<=kT x e/\kT x e<=2147483647:=by unfold kT;split<;>omega
     obtain⟨m,Sp⟩:∃m,kT x e=m:=⟨_,rfl⟩;have yd:=gE Sp;rw[Sp]at Az⊢;clear Sp;obtain⟨qq,tx⟩:=Az
     have Rh:Hid (mC x e c.gM nO=(decide (x.gM<e) || decide (c.gM<nO+m))):=by
      show _=_;unfold mC;rw[yd.out]
     rcases bM x.gM e with CW|CW
     ·have Iu:Hid (mC x e c.gM nO=true):=by
       show _=_;rw[Rh.out,decide_eq_true CW]
       rfl
      have hd:decide (x.gM<e)=true:=decide_eq_true CW;go_wp2_with fail
      go_quiet (fail)
      go_wp2_with fail;go_ret;rw[xB.out,uU.out];rw[Iu.out,if_pos rfl,jw hx];exact⟨rfl,lD.out _ (gK mc.out _)⟩
     ·have hd:decide (x.gM<e)=false:=decide_eq_false (by omega);rcases bM c.gM (nO+m) with nN|nN
      ·have Iu:Hid (mC x e c.gM nO=true):=by
        show _=_;rw[Rh.out,decide_eq_true nN];simp
       go_wp2_with fail
       go_quiet ((go_at_call 206;exact cQ (Nn.out _ (gK mc.out _))))
       go_wp2_with fail;go_ret;rw[xB.out,uU.out];rw[Iu.out,if_pos rfl,jw hx];exact⟨rfl,lD.out _ (gK mc.out _)⟩
      ·have Iu:Hid (mC x e c.gM nO=false):=by
        show _=_;rw[Rh.out,hd,decide_eq_false (by omega)]
        rfl
       replace uU:Hid (iw s.c.c4 c.gM nO f x=(0,lp f x x)):=by
        have:=uU.out;rw[Iu.out,if_neg (by decide)]at this;exact this
       go_wp2_with fail
       go_quiet ((go_at_call 206;exact cQ (Nn.out _ (gK mc.out _))))
       have CS:=gK mc.out nq;have NC:lQ (V2.drewN nq) w.heap.size f (.slice fo f.bytes.length fc):=VU.out;clear f0 f1 f2 f3 f4 c8 c9 q0 q2 q3 q4 q5 q6 mc VU hd;generalize V2.drewN nq=V3 at CS NC⊢;obtain⟨f0,f1,f2,f3,f4,c8,c9⟩:=yR.out V3 CS NC;obtain⟨q0,q2,q3,q4,q5,q6⟩:=Ih.out V3 CS;have ya:=gE CS;have HF3:=gE NC;clear CS NC;have DW:=HM.out.below ya.out;obtain⟨d3,Wp⟩:=ii DW.row rfl;have z3:∀q,V3.frozen? ⟨sr,q,none⟩= false:=fun q=>frozen_of_row V3 sr q _ _ Wp
       have Xn:=gE DW;clear DW Wp;have tQ:=Xn.out.put (j:=2) (y:=x.hi (x.gR+m)) (E6:=.slice xo x.bytes.length yQ) (v:=af ag (x.gR+m)) hx Fu (by decide) rfl (K8.out.below ya.out);obtain⟨B9,rF⟩:=tQ;have Ce:=getElem?_set_at (a:=x.hi (x.gR+m)) hx;have wb:=getElem?_set_at (a:=cX xo x.bytes.length yQ) Fu;obtain⟨Yp,yq⟩:=B9.put (j:=4) (y:=(x.hi (x.gR+m)).fi e) (E6:=.slice xo x.bytes.length yQ) (v:=af ag e) Ce wb (by decide) rfl (B9.bytes id (x.hi (x.gR+m)) _ Ce wb);have QY:=getElem?_set_at (a:=(x.hi (x.gR+m)).fi e) Ce;have R0:=getElem?_set_at (a:=cX xo x.bytes.length yQ) wb
       have Pq:w.heap.size≠sr:=by
        obtain⟨dd,Gz⟩:=ii (g:=sr) HM.out.row rfl;have h1:=(aO.1 Gz).1;omega
       have hF7:lQ ((V3.setCell ⟨sr,id*7+2,none⟩ (af ag (x.gR+m))).setCell ⟨sr,id*7+4,none⟩ (af ag e)) w.heap.size f (.slice fo f.bytes.length fc):=by
        have h1:=HF3.out;unfold lQ at h1⊢;rw[heap_setCell_other _ _ _ _ Pq,heap_setCell_other _ _ _ _ Pq];exact h1
       have HA7:=gE (TJ.out _ _ _ _ Yp QY R0 (by simp) rfl rfl);have HM7:=gE Yp;have HC7:=gE (rF.trans yq);have HF7:=gE hF7;have Xz:=gE QY;have Xe:=gE R0
       have HPb:Hid (iw s.c.c4 c.gM nO f x=(0,if Bv ((x.hi (x.gR+m)).fi e)=false then {(x.hi (x.gR+m)).fi e with reset:=true,bytes:=[]} else(x.hi (x.gR+m)).fi e)):=by
        have:=uU.out;rw[V7.out,yd.out]at this;exact this
       clear B9 rF Yp yq Ce wb QY R0 hF7 TJ uU V7;obtain⟨al,hal⟩:∃al,Bv ((x.hi (x.gR+m)).fi e)=al:=⟨_,rfl⟩;rw[hal]at HA7 HPb;clear hal
       go_upto_region 35 with fail
       generalize (V3.setCell ⟨sr,id*7+2,none⟩ (af ag (x.gR+m))).setCell ⟨sr,id*7+4,none⟩ (af ag e)=W7 at HA7 HM7 HC7 HF7⊢
       have p0:W7.cell? ⟨w.heap.size,0,none⟩= some (af ag 5):=by
        have QQ:=HF7.out;unfold lQ at QQ;simp[aX,QQ,HT.out]
       clear f0 f1 f2 f3 f4 c8 c9 q0 q2 q3 q4 q5 q6 z3 yR Ih HF7;go_wp2_with fail;refine HA7.out.mono ?_;rintro e' w8 ⟨rfl,n8,rfl⟩;clear HA7;have hb8:Below W7.heap.size W7 (W7.drewN n8):=gK (Below.refl _ _) _;have Wz:=HM7.out.below hb8;have BD:ip (· = sr) V3 (W7.drewN n8):=HC7.out.trans (ip.gS hb8);obtain⟨d8,hd8⟩:=ii Wz.row rfl;have z8:∀q,(W7.drewN n8).frozen? ⟨sr,q,none⟩= false:=fun q=>frozen_of_row (W7.drewN n8) sr q _ _ hd8
       have q08:(W7.drewN n8).cell? ⟨sr,id*7,none⟩= some (.slice xo x.bytes.length yQ):=by
        have:=Wz.row.cellAt (id*7+0) (by simp;omega);rw[bd]at this;rw[this];exact(j_ _ _ id _ _ Xz.out Xe.out 0 (by decide)).trans rfl
       have q58:(W7.drewN n8).cell? ⟨sr,id*7+5,none⟩= some (.bool x.reset):=by
        rw[Wz.row.cellAt (id*7+5) (by simp;omega)];exact(j_ _ _ id _ _ Xz.out Xe.out 5 (by decide)).trans rfl
       generalize W7.drewN n8=W8 at Wz BD z8 q08 q58⊢;have hs8:=Xz.out;have U2:=Xe.out;obtain⟨hm9,aa6⟩:=Wz.put (j:=5) (y:=((x.hi (x.gR+m)).fi e).re) (E6:=.slice xo x.bytes.length yQ) (v:=.bool true) hs8 U2 (by decide) rfl (Wz.bytes id ((x.hi (x.gR+m)).fi e) _ hs8 U2);have hs9:=getElem?_set_at (a:=((x.hi (x.gR+m)).fi e).re) hs8;have hb9:=getElem?_set_at (a:=cX xo x.bytes.length yQ) U2;obtain⟨Yn,R9⟩:=hm9.put (j:=0) (y:=((x.hi (x.gR+m)).fi e).re.em) (E6:=aj none 0 0) (v:=aj none 0 0) hs9 hb9 (by decide) rfl (Ro.nil _ _);rw[bd]at Yn R9;have HM8:=gE Wz;have HC8:=gE BD;have ab8:=gE Yn;have ab3:=gE (BD.trans (aa6.trans R9));clear Wz BD hm9 aa6 Yn R9 hs8 hs9 hb9 U2 hd8 hb8 HM7 HC7
       cases al
       ·have HPc:Hid (iw s.c.c4 c.gM nO f x=(0,((x.hi (x.gR+m)).fi e).re.em)):=by
         show _=_;rw[HPb.out]
         rfl
        clear HPb;go_wp2_with fail;go_ret;rw[xB.out,HPc.out];have h7:=ab8.out.rep;simp only[cT]at h7;exact⟨rfl,nZ.out V3 _ _ ya.out ab3.out h7⟩
       ·have HPc:Hid (iw s.c.c4 c.gM nO f x=(0,(x.hi (x.gR+m)).fi e)):=by
         show _=_;rw[HPb.out]
         rfl
        clear HPb;go_wp2_with fail;go_ret;rw[xB.out,HPc.out];have h7:=HM8.out.rep;simp only[cT]at h7;exact⟨rfl,nZ.out V3 _ _ ya.out HC8.out h7⟩
    ·rw[Ax]at q6
     have Bt:Hid (iw s.c.c4 c.gM nO f x=(0,x)):=by
      show _=_;rw[uU.out,Ax]
      rfl
     go_wp2_with fail;go_ret;rw[xB.out,Bt.out];refine⟨rfl,?_⟩;rw[jw hx];exact lD.out _ mc.out
   ·have Bt:Hid (iw s.c.c4 c.gM nO f x=(6,x)):=by
     show _=_;unfold iw;simp only[he,HT.out];rw[show(decide ((5:Int)≠3))=true from rfl,qE]
     rfl
    go_wp2_with fail;go_ret;rw[xB.out,Bt.out];refine⟨rfl,?_⟩;rw[jw hx];exact lD.out _ mc.out
 ·have xB:Hid (iN s.c.c4 f c=(4,c)):=by
   show _=_;unfold iN;rw[HI.out,bj (by omega)]
  go_enter func190,ntmps190
  go_upto_region 1 with fail
  obtain⟨lY,A_⟩:=HW.out _ rfl;clear HW;generalize w.alloc (.cells #[af ag 5,af ag id,af ag f.iC,af ag f.code,.slice fo f.bytes.length fc] 296)=V at lY A_⊢;obtain⟨f0,f1,f2,f3,f4,c8,c9⟩:=yR.out V lY A_;have pQ:=gE lY;clear lY A_ yR;go_wp2_with fail
  go_quiet (fail)
  go_wp2_with fail;go_ret;rw[xB.out];exact⟨rfl,lD.out _ (gK pQ.out _)⟩
theorem G2(s:ik)(i:Nat)(c:gZ)(f:lL)(sb cb sr ob:Nat)(ao:Option Addr)(n cap:Nat)(gP iJ:List Nat)(cv ov:Value)(out:List (Int×Value))(gN:List (Int×List Int))(w:World)(h:iS w s sb gP iJ cv ov ob out gN)(hi:s.gG[i]? =some c)(jJ:gP[i]? =some cb)(lj:iJ[i]? =some sr)(hn:s.gG.length<=1000)(ht:f.type=6):
  Calls ae 190 #[ai (some ⟨sb,0,none⟩),ai (some ⟨cb,0,none⟩),.agg #[af ag f.type,af ag f.id,af ag f.iC,af ag f.code,.slice ao n cap]] w fun e w'=>e=.returned (af ag 0)/\Leaves w sb (gP.eraseIdx i) (iJ.eraseIdx i) cv cb sr ob {s with gG:=s.gG.eraseIdx i} gN w'/\w'.cell? ⟨cb,0,none⟩= some (af ag c.gL):=by
 rw[ht];obtain⟨rv,sv,zx⟩:=(h.kH i c cb sr hi jJ lj).cb;have js:=oV h.lf zx
 have HG:Hid (∀W,Below w.heap.size w W->Calls ae 194 #[ai (some ⟨sb,0,none⟩),ai (some ⟨cb,0,none⟩)] W fun e w'=>e=.returned (.tuple #[])/\Leaves W sb (gP.eraseIdx i) (iJ.eraseIdx i) cv cb sr ob {s with gG:=s.gG.eraseIdx i} gN w'/\w'.cell? ⟨cb,0,none⟩= some (af ag c.gL)):=by
  intro W hb;have hW:=h.below hb;refine(FI s sb cb 0 gP cv ov W hW.lf hW.row (by rw[hW.j7];exact hn) (hW.JM _ (bT jJ)) hW.JM).mono ?_;rintro e w' ⟨rfl,kq,ou,YF,oq⟩;obtain⟨N7,sv2,nr⟩:=(hW.kH i c cb sr hi jJ lj).cb;refine⟨rfl,⟨ou,ov,out,hW.erase jJ kq YF oq,kq.mono (fun k _ hk=>a_ hk),cn hW.ur.1,fun k hk=>aV (oq.lt k hk).1⟩,?_⟩
  have:w'.heap[cb]? =some (.cells (il c N7 sv2) 249 (0,0)):=by
   rw[kq.block cb (aO.1 nr).1 (Ne.symm js)];exact nr
  simp[aX,this,il]
 clear ht h zx;go_enter func190,ntmps190;go_wp2_with fail;refine(HG.out _ (gH w _)).mono ?_;rintro e w1 ⟨rfl,⟨cv1,ov1,ady,h1,U5,sj⟩,jk⟩;clear HG;have H1:=gE h1;have Bt:=gE jk;clear h1 jk;go_wp2_with fail;go_ret;exact⟨rfl,⟨cv1,ov1,ady,H1.out,(ip.gS (gH w _)).trans U5,uH sj (gH w _).size⟩,Bt.out⟩
theorem Tk(s:ik)(i:Nat)(c:gZ)(f:lL)(sb cb sr ob:Nat)(bv:Value)(gP iJ:List Nat)(cv ov:Value)(out:List (Int×Value))(gN:List (Int×List Int))(w:World)(h:iS w s sb gP iJ cv ov ob out gN)(hi:s.gG[i]? =some c)(jJ:gP[i]? =some cb)(lj:iJ[i]? =some sr)
  (hg:nx s.c) {M:Int} (jR:ke M c) (hl:0<=s.last/\s.last<=1125899906842624) (hn:s.gG.length<=1000) (hf:y9 f) (hr:kv w bv f.bytes) (BF:f.bytes.length<=1073741823):
  Calls ae 190 #[ai (some ⟨sb,0,none⟩),ai (some ⟨cb,0,none⟩),.agg #[af ag f.type,af ag f.id,af ag f.iC,af ag f.code,bv]] w fun e w'=>e=.returned (af ag (j6 s i c f).code)/\
   if(j6 s i c f).gone then Leaves w sb (gP.eraseIdx i) (iJ.eraseIdx i) cv cb sr ob (j6 s i c f).lf gN w'/\w'.cell? ⟨cb,0,none⟩= some (af ag c.gL) else Leaves w sb gP iJ cv cb sr ob (j6 s i c f).lf gN w':=by
 have Bb:=hr.form;rcases hf.type with h0|h0|h0|h0|h0|h0|h0
 ·obtain⟨ao,cap,rfl⟩:=Bb;have hd:j6 s i c f =⟨0,s,false⟩:=by unfold j6;rw[if_pos (a_ h0)]
  rw[hd];refine(FG f sb cb ao _ cap w (a_ h0)).mono ?_;rintro e w' ⟨rfl,hb⟩;exact⟨rfl,cv,ov,out,h.below hb,ip.gS hb,cn h.ur.1,oY.refl _ _⟩
 ·obtain⟨ao,cap,rfl⟩:=Bb;have hd:j6 s i c f =⟨0,s,false⟩:=by unfold j6;rw[if_pos (aV h0)]
  rw[hd];refine(FG f sb cb ao _ cap w (aV h0)).mono ?_;rintro e w' ⟨rfl,hb⟩;exact⟨rfl,cv,ov,out,h.below hb,ip.gS hb,cn h.ur.1,oY.refl _ _⟩
 ·have hd:j6 s i c f =⟨(iN s.c.c4 f c).1,{s with gG:=s.gG.set i (iN s.c.c4 f c).2},false⟩:=by unfold j6;rw[if_neg (by omega),if_neg (by omega),if_neg (by omega)]
  rw[hd];exact Kc s i c f sb cb sr ob bv gP iJ cv ov out gN w h hi jJ lj jR hr BF hf.id hf.iC h0
 ·have hd:j6 s i c f =⟨(iN s.c.c4 f c).1,{s with gG:=s.gG.set i (iN s.c.c4 f c).2},false⟩:=by unfold j6;rw[if_neg (by omega),if_neg (by omega),if_neg (by omega)]
  rw[hd];exact ME s i c f sb cb sr ob bv gP iJ cv ov out gN w h hi jJ lj jR hr BF hf.id hf.iC h0
 ·have hd:j6 s i c f =⟨(iN s.c.c4 f c).1,{s with gG:=s.gG.set i (iN s.c.c4 f c).2},false⟩:=by unfold j6;rw[if_neg (by omega),if_neg (by omega),if_neg (by omega)]
  rw[hd];exact MD s i c f sb cb sr ob bv gP iJ cv ov out gN w h hi jJ lj jR hr BF hf.id hf.iC h0
 ·obtain⟨ao,cap,rfl⟩:=Bb;have hd:j6 s i c f =⟨0,{s with gG:=s.gG.eraseIdx i},true⟩:=by unfold j6;rw[if_neg (by omega),if_pos h0]
  rw[hd];exact G2 s i c f sb cb sr ob ao _ cap gP iJ cv ov out gN w h hi jJ lj hn h0
 ·obtain⟨ao,cap,rfl⟩:=Bb;have hd:j6 s i c f =⟨(pi s i c f.code).1,(pi s i c f.code).2,false⟩:=by unfold j6;rw[if_neg (by omega),if_neg (by omega),if_pos h0]
  rw[hd];exact Kb s i c f sb cb sr ob ao _ cap gP iJ cv ov out gN w h hi jJ lj hg jR hl h0
def o9(Z:Nat->Prop)(w:World)(v:Value)(l:List Int):Prop:=
 kv w v l/\∃ao cap,v=.slice ao l.length cap/\l.length<=cap/\∀a,ao=some a->0<l.length->Z a.block
theorem o9.iO{F:Nat->Prop}{l:List Int}(h:o9 Z w v l)(hc:ip F w w')(hF:∀k,Z k->¬F k):o9 Z w' v l:=by
 obtain⟨⟨h1,h2,h3⟩,ao,cap,rfl,nH,ha⟩:=h;refine⟨⟨h1,h2,?_⟩,ao,cap,rfl,nH,ha⟩;rcases h3 with h3|⟨hp,b,off,n_,e,zx,jk⟩
 ·exact a_ h3
 ·refine aV ⟨hp,b,off,n_,e,zx,fun j hj=>?_⟩;simp only[Value.slice.injEq]at e
  have jp:b<w.heap.size:=by
   have h0:=jk j hj;rcases Nat.lt_or_ge b w.heap.size with h|h
   ·exact h
   ·simp[aX,Array.getElem?_eq_none h]at h0
  rw[<-jk j hj];exact World.cell?_of_block (a:=⟨b,off+j,none⟩) (hc.block b jp (hF b (ha ⟨b,off,none⟩ e.1 hp)))
theorem o9.below{l:List Int}(h:o9 Z w v l)(hb:Below w.heap.size w w'):o9 Z w' v l:=h.iO (F:=fun _=>False) (ip.gS hb) (fun _ _ h=>h)
theorem o9.cut{ao:Option Addr}{cap:Nat}{l:List Int}(h:o9 Z w (.slice ao l.length cap) l)(k:Nat)(hk:k<=l.length):o9 Z w (sliced ao k l.length cap 1) (l.drop k):=by
 obtain⟨hr,ao',n_,e,nH,ha⟩:=h;simp only[Value.slice.injEq,true_and]at e;obtain⟨rfl,rfl⟩:=e;have hR:=pR hr nH k l.length hk (ay _);rw[List.take_of_length_le (by simp)]at hR;refine⟨hR,if cap=k then ao else ao.map (·.add (k*1)),cap-k,by simp[sliced],by simp;omega,fun a hae hp=>?_⟩
 have Cc:0<l.length:=by
  rw[List.length_drop]at hp;omega
 split at hae
 ·exact ha a hae Cc
 ·obtain⟨a0,h0,rfl⟩:=b9.1 hae;have:(a0.add (k*1)).block=a0.block:=by unfold Addr.add;split<;>rfl
  rw[this];exact ha a0 h0 Cc
def wg(Z:Nat->Prop)(sb:Nat)(gP iJ:List Nat)(ob:Nat):Prop:=∀k,Z k->k<ob/\k≠sb/\k∉gP/\k∉iJ
theorem wg.snoc(h:wg Z sb gP iJ ob)(h1:ob<=cb)(h2:ob<=sr):wg Z sb (gP++[cb]) (iJ++[sr]) ob:=by
 intro k hk;obtain⟨a,b,c,d⟩:=h k hk;refine⟨a,b,fun e=>?_,fun e=>?_⟩
 ·rcases bR.1 e with e|e
  ·exact c e
  ·simp at e;omega
 ·rcases bR.1 e with e|e
  ·exact d e
  ·simp at e;omega
theorem xm(h:wg Z sb gP iJ ob)(jJ:gP[i]? =some cb)(lj:iJ[i]? =some sr)(k:Nat)(hk:Z k):¬tf sb cb sr ob k:=by
 obtain⟨a,b,c,d⟩:=h k hk;rintro(h|h|h|h)
 ·exact b h
 ·exact c (by rw[h];exact bT jJ)
 ·exact d (by rw[h];exact bT lj)
 ·omega
theorem iS.view(h:iS w s sb gP iJ cv ov ob out gN):∃ao li,rU w s sb gP ao li:=by
 have kE:=h.row;rw[h.j7]at kE;exact Lb.view (base:=0) (iJ:=iJ) ⟨cv,ov,h.lf,kE,h.j7,h.lA,h.SZ,h.S3,h.kH⟩
theorem LB(h:l[i]? =some c):∃k,kR l c.gL=some k/\k<l.length:=by
 unfold kR
 cases hf:l.findIdx? (fun x=>x.gL==c.gL) with
 |none=>
  rw[cU]at hf;have:=hf c (bT h);simp at this
 |some k=>
  rw[List.findIdx?_eq_some_iff_getElem]at hf;exact⟨k,rfl,hf.1⟩
theorem I7(h:l[i]? =some c)(hn:(l.map (·.gL)).Nodup):kR (l.eraseIdx i) c.gL=none:=by
 unfold kR;rw[cU];intro x hx;obtain⟨j,hj⟩:=cC.1 hx;rw[Fb]at hj;simp only[beq_eq_false_iff_ne,ne_eq];intro e;have js:i≠(if j<i then j else j+1):=by split<;>omega
 have h1:(l.map (·.gL))[i]? =some c.gL:=by rw[cR,h];rfl
 have h2:(l.map (·.gL))[if j<i then j else j+1]? =some x.gL:=by rw[cR,hj];rfl
 rw[e]at h2;have hi:=(bm.1 h1).1;exact js ((List.getElem?_inj hi hn).1 (by rw[h1,h2]))
def xk(w:World)(sb:Nat)(gP iJ:List Nat)(cv:Value)(i cb sr ob:Nat)(r:ik×List (Int×List Int))(w':World):Prop:=
 Leaves w sb gP iJ cv cb sr ob r.1 r.2 w'\/Leaves w sb (gP.eraseIdx i) (iJ.eraseIdx i) cv cb sr ob r.1 r.2 w'
theorem yE(s:ik)(i:Nat)(c:gZ)(b:List Int)(N:Nat)(sb cb sr ob:Nat)(bv:Value)(gP iJ:List Nat)(cv ov:Value)(out:List (Int×Value))(gN:List (Int×List Int))(w:World)(h:iS w s sb gP iJ cv ov ob out gN)(hi:s.gG[i]? =some c)(jJ:gP[i]? =some cb)(lj:iJ[i]? =some sr)
  (hg:nx s.c) {M:Int} (jR:ke M c) (hM:M<=1125899906842624) (hl:0<=s.last/\s.last<=1125899906842000) (hn:s.gG.length<=1000) (tz:(s.gG.map (·.gL)).Nodup) {Z:Nat->Prop} (hZ:wg Z sb gP iJ ob) (hr:o9 Z w bv b) (qQ:b.length<=1073741823) (hN:b.length<=N) (Eh:ob<=w.heap.size) (Ca:gN.length<=1000000):
  Calls ae 160 #[ai (some ⟨sb,0,none⟩),ai (some ⟨cb,0,none⟩),bv] w fun e w'=>e=.returned (.tuple #[])/\xk w sb gP iJ cv i cb sr ob (ji s i b gN N) w':=by
 obtain⟨ao0,aaz,rfl,_⟩:=hr.2;have E3:=gE hr;have HZ:=gE hZ;have HH:=gE h;have HK:=gE jR;have HG:=gE hg;have Xr:=gE tz;clear h hr jR hg tz hZ;go_enter func160,ntmps160;go_wp2_with fail
 go_loopw [2] (fun v wr=>∃(l:List Int) (s':ik) (c':gZ) (ou su:Value) (mr:List (Int×Value)) (n:Nat),l.length<=b.length/\l.length<=n/\Hid (o9 Z wr v l/\iS wr s' sb gP iJ ou su ob mr gN/\wk M s c i s' c'/\(ip (tf sb cb sr ob) w wr/\oY w.heap.size cv ou)/\ji s' i l gN n=ji s i b gN N)) (fun v _=>rA v)
 case atStart=>exact⟨b,s,c,cv,ov,out,N,ay _,hN,E3.out,HH.out,wk.refl hi HK.out,⟨ip.refl _ _,oY.refl _ _⟩,rfl⟩
 case round=>
  obtain⟨l,s',c',ou,su,mr,n,T6,T7,HI⟩:=hrel;obtain⟨ao,cap,rfl,nH,_⟩:=HI.out.1.2;by_cases C3:l.length=0
  ·go_wp2_with fail
   go_end0
   obtain⟨_,hS,_,⟨kq,zy⟩,hE⟩:=HI.out;obtain rfl:l=[]:=List.length_eq_zero_iff.1 C3;have hF:ji s' i [] gN n=(s',gN):=by cases n<;>simp[ji]
   rw[<-hE,hF];exact⟨rfl,a_ ⟨ou,su,mr,hS,kq,cn hS.ur.1,zy⟩⟩
  ·have sg:=gE (MH l _ wr HI.out.1.1 (by omega));obtain⟨n,rfl⟩:∃m,n=m+1:=⟨n-1,by omega⟩;have xQ:=HI.out.2.2.1.at_
   have Bc:s'.gG.length<=1000:=by
    have:=congrArg List.length HI.out.2.2.1.RD;simp at this;omega
   have ku:=HI.out.2.2.2.1.1.size;go_wp2_with fail;refine sg.out.mono ?_;rintro e w1 ⟨si,im⟩;clear sg;have nB:=gE im;have JG:=im.size
   cases X':iV l with
   |none=>
    rw[X']at si;obtain⟨x0,x1,x2,x3,bv2,rfl,uZ,n2,c2,rfl⟩:=si
    have HE:Hid (ji s' i l gN (n+1)=({s' with gG:=s'.gG.eraseIdx i},kB c' ([19]++jn 7) gN)):=by
     show _=_;simp only[ji];rw[if_neg (fun e=>C3 (by rw[e];rfl)),xQ,X']
    have Nj:Hid (∀W,Below wr.heap.size wr W->Calls ae 164 #[ai (some ⟨sb,0,none⟩),ai (some ⟨cb,0,none⟩),af ag 7] W fun e w'=>e=.returned (.tuple #[])/\Leaves W sb (gP.eraseIdx i) (iJ.eraseIdx i) ou cb sr ob {s' with gG:=s'.gG.eraseIdx i} (kB c' ([19]++jn 7) gN) w'):=by
     intro W hB;have:=hB.size;exact Dm s' i c' 7 sb cb sr ob gP iJ ou su mr gN W (HI.out.2.1.below hB) xQ jJ lj (by omega) (by omega) HI.out.2.2.1.ok hM Ca Bc
    clear X' im;go_wp2_with fail;refine(Nj.out _ (gI nB.out (gH w1 _))).mono ?_;rintro e w3 ⟨rfl,Fs⟩;clear Nj;have HLv:=gE Fs;clear Fs;go_wp2_with fail;refine bodyPost_ret (results_none rfl _ _ _) rfl ?_;obtain⟨_,hS,_,⟨kq,zy⟩,hE⟩:=HI.out;obtain⟨We,ov3,Mo,Ba,CX,Pg⟩:=HLv.out;rw[<-hE,HE.out];exact⟨rfl,aV ⟨We,ov3,Mo,Ba,(kq.trans (ip.gS (gI nB.out (gH w1 _)))).trans CX,sp (P:=True) ⟨trivial,zy⟩ Pg (kq.trans (ip.gS (F:=tf sb cb sr ob) (gI nB.out (gH w1 _)))).size⟩⟩
   |some fs=>
    obtain⟨f,size⟩:=fs;rw[X']at si;obtain⟨bv2,rfl,YC⟩:=si;obtain⟨Sg,yX,uD,Cd⟩:=Ar HI.out.1.1.1 (by omega) X';obtain⟨uZ,tK,rfl⟩:=YC.form;have xF:((size:Int)==0)=false:=beq_eq_false_iff_ne.2 (by omega);have hRc:=HI.out.1.cut size uD;have hcut:=fun W=>sx ao l.length cap size uD W
    obtain⟨vs,sW⟩:∃vs,sliced ao size l.length cap 1=vs:=⟨_,rfl⟩;rw[sW]at hRc;simp only[sW]at hcut;clear sW;obtain⟨ao3,aaA,rfl,_⟩:=hRc.2;have HRc:=gE hRc;have Sm:(l.drop size).length=l.length-size:=by simp
    obtain⟨d,hd⟩:∃d,j6 s' i c' f=d:=⟨_,rfl⟩
    have HE:Hid (ji s' i l gN (n+1)=if d.code≠0 then({s' with gG:=s'.gG.eraseIdx i},kB c' ([19]++jn d.code) gN) else if d.gone then(d.lf,gN) else ji d.lf i (l.drop size) gN n):=by
     show _=_;simp only[ji];rw[if_neg (fun e=>C3 (by rw[e];rfl)),xQ,X'];simp only[hd]
    have VS:Hid (0<=d.code/\d.code<=10):=by rw[<-hd];exact IY
    have Xh:Hid (d.code≠0->d.lf=s'/\d.gone=false):=by rw[<-hd];exact fun e=>Lv xQ e
    have HDk:Hid (d.gone=false->∃c'',wk M s' c' i d.lf c''):=by rw[<-hd];exact fun e=>Lw xQ Sg HI.out.2.2.1.ok e
    have Rb:Hid (d.gone=true->d.code=0/\d.lf = {s' with gG:=s'.gG.eraseIdx i}):=by
     show _->_;rw[<-hd];unfold j6
     repeat' split
     all_goals simp
    have uU:Hid (∀W,Below wr.heap.size wr W->kv W (.slice uZ f.bytes.length tK) f.bytes->Calls ae 190 #[ai (some ⟨sb,0,none⟩),ai (some ⟨cb,0,none⟩),.agg #[af ag f.type,af ag f.id,af ag f.iC,af ag f.code,.slice uZ f.bytes.length tK]] W fun e w'=>e=.returned (af ag d.code)/\if d.gone then Leaves W sb (gP.eraseIdx i) (iJ.eraseIdx i) ou cb sr ob d.lf gN w'/\w'.cell? ⟨cb,0,none⟩= some (af ag c'.gL) else Leaves W sb gP iJ ou cb sr ob d.lf gN w'):=by
     intro W hB hR;have rq:=HI.out.2.2.1.last;have:=Tk s' i c' f sb cb sr ob _ gP iJ ou su mr gN W (HI.out.2.1.below hB) xQ jJ lj (by rw[HI.out.2.2.1.cfg];exact HG.out) HI.out.2.2.1.ok (by omega) Bc Sg hR (by omega);rw[hd]at this;exact this
    have V8:=gE YC;have HcE:=gE xQ;clear X' im hd YC hRc;go_wp2_with fail;have O1:=gI nB.out (gH w1 (.cells #[af ag f.type,af ag f.id,af ag f.iC,af ag f.code,.slice uZ f.bytes.length tK] 296));have Ni:=gE O1;refine(uU.out _ O1 (V8.out.below O1)).mono ?_;clear O1;rintro e w2 ⟨rfl,rX⟩;clear uU V8;by_cases rP:d.code=0
    ·cases xS:d.gone
     ·rw[xS,if_neg (by decide)]at rX;obtain⟨Ny,WZ,oS,sI,vg,rC⟩:=rX;obtain⟨c2,rp⟩:=HDk.out xS;obtain⟨wa,li,jB⟩:=sI.view;obtain⟨N7,sv2,aa5⟩:=(sI.kH i c2 cb sr rp.at_ jJ lj).cb;have j0:w2.cell? ⟨cb,0,none⟩= some (af ag c2.gL):=by simp[aX,aa5,il]
      obtain⟨k,hfk,yu⟩:=LB rp.at_
      have Jt:d.lf.gG.length<=1000:=by
       have:=congrArg List.length rp.RD;simp at this;omega
      have BE:=nK d.lf sb gP wa li c2.gL w2 jB Jt;rw[hfk]at BE;have sV:Hid (Calls ae 158 #[ai (some ⟨sb,0,none⟩),af ag c2.gL] w2 fun e w'=>e=.returned (ai (some ⟨gP.getD k 0,0,none⟩))/\w2=w'):=BE;have E0:=Kq w2 (gP.getD k 0);have hRB:o9 Z w2 (.slice ao3 (l.drop size).length aaA) (l.drop size):=(HRc.out.below Ni.out).iO vg (xm HZ.out jJ lj)
      have hEq:ji d.lf i (l.drop size) gN n=ji s i b gN N:=by
       have h1:=HE.out;rw[if_neg (by simp[rP]),xS,if_neg (by decide)]at h1;rw[<-h1];exact HI.out.2.2.2.2
      have Uu:Hid (o9 Z w2 (.slice ao3 (l.drop size).length aaA) (l.drop size)/\iS w2 d.lf sb gP iJ Ny WZ ob oS gN/\wk M s c i d.lf c2/\(ip (tf sb cb sr ob) w w2/\oY w.heap.size cv Ny)/\ji d.lf i (l.drop size) gN n=ji s i b gN N):=
       ⟨hRB,sI,HI.out.2.2.1.trans rp,⟨(HI.out.2.2.2.1.1.trans (ip.gS Ni.out)).trans vg,(sp (P:=True) ⟨trivial,HI.out.2.2.2.1.2⟩ rC (HI.out.2.2.2.1.1.trans (ip.gS Ni.out)).size).2⟩,hEq⟩
      clear BE jB aa5 sI vg rp hRB hEq HE VS Xh HDk Rb hcut Sg;go_wp2_with fail;refine sV.out.mono ?_;rintro e w3 ⟨rfl,rfl⟩;clear sV;go_wp2_with fail
      go_roundw
      case rel=>
       rw[Sm]at Uu;exact⟨l.drop size,d.lf,c2,Ny,WZ,oS,n,by omega,by omega,Uu⟩
      case measure=>simp only[rA];omega
     ·rw[xS,if_pos rfl]at rX;obtain⟨⟨Ny,WZ,oS,sI,vg,rC⟩,j0⟩:=rX;obtain⟨wa,li,jB⟩:=sI.view;have X5:=(Rb.out xS).2
      have hfn:kR d.lf.gG c'.gL=none:=by
       rw[X5];exact I7 HcE.out (by rw[HI.out.2.2.1.RD];exact Xr.out)
      have Jt:d.lf.gG.length<=1000:=by
       rw[X5];simp only[List.length_eraseIdx]
       split<;>omega
      have BE:=nK d.lf sb (gP.eraseIdx i) wa li c'.gL w2 jB Jt;rw[hfn]at BE;have sV:Hid (Calls ae 158 #[ai (some ⟨sb,0,none⟩),af ag c'.gL] w2 fun e w'=>e=.returned (ai none)/\w2=w'):=BE;have E0:=GQ w2
      have Uu:Hid (xk w sb gP iJ cv i cb sr ob (ji s i b gN N) w2):=by
       have h1:=HE.out;rw[if_neg (by simp[rP]),xS,if_pos rfl]at h1;show xk _ _ _ _ _ _ _ _ _ _ _;rw[<-HI.out.2.2.2.2,h1];exact aV ⟨Ny,WZ,oS,sI,(HI.out.2.2.2.1.1.trans (ip.gS Ni.out)).trans vg,sp (P:=True) ⟨trivial,HI.out.2.2.2.1.2⟩ rC (HI.out.2.2.2.1.1.trans (ip.gS Ni.out)).size⟩
      clear BE jB sI vg hfn X5 HE VS Xh HDk Rb hcut Sg;go_wp2_with fail;refine sV.out.mono ?_;rintro e w3 ⟨rfl,rfl⟩;clear sV;go_wp2_with fail;refine bodyPost_ret (results_none rfl _ _ _) rfl ?_;exact⟨rfl,Uu.out⟩
    ·obtain⟨hds,Jj⟩:=Xh.out rP;rw[Jj,if_neg (by decide),hds]at rX;obtain⟨Ny,WZ,oS,sI,vg,rC⟩:=rX;have abA:=vg.size;have ad9:=Ni.out.size;have hdr:=VS.out;have Nj:=gE (Dm s' i c' d.code sb cb sr ob gP iJ Ny WZ oS gN w2 sI HcE.out jJ lj (by omega) (by omega) HI.out.2.2.1.ok hM Ca Bc);have VR:Hid (True/\oY w.heap.size cv Ny):=⟨trivial,(sp (P:=True) ⟨trivial,HI.out.2.2.2.1.2⟩ rC (HI.out.2.2.2.1.1.trans (ip.gS Ni.out)).size).2⟩;have E1:Hid (ip (tf sb cb sr ob) w w2):=(HI.out.2.2.2.1.1.trans (ip.gS Ni.out)).trans vg
     have HF:Hid (ji s i b gN N=({s' with gG:=s'.gG.eraseIdx i},kB c' ([19]++jn d.code) gN)):=by
      have h1:=HE.out;rw[if_pos rP]at h1;show _=_;rw[<-HI.out.2.2.2.2,h1]
     have adS:(d.code==0)=false:=beq_eq_false_iff_ne.2 rP;clear sI vg HE Xh HDk Rb hcut Sg hds Jj;go_wp2_with fail;refine Nj.out.mono ?_;rintro e w3 ⟨rfl,Fs⟩;clear Nj;have HLv:=gE Fs;clear Fs;go_wp2_with fail;refine bodyPost_ret (results_none rfl _ _ _) rfl ?_;obtain⟨We,ov3,Mo,Ba,CX,Pg⟩:=HLv.out;rw[HF.out];exact⟨rfl,aV ⟨We,ov3,Mo,Ba,E1.out.trans CX,sp VR.out Pg E1.out.size⟩⟩
theorem zM(w:World)(p:Nat):(binOp .neq 244 (ai (some ⟨p,0,none⟩)) (ai none)).run ae w=.ok (.bool true) w:=run_neq_pointer_nil w 244 (some ⟨p,0,none⟩) xp
theorem oP(w:World):(binOp .neq 244 (ai none) (ai none)).run ae w=.ok (.bool false) w:=run_neq_pointer_nil w 244 none xp
theorem iS.UL(h:iS w s sb gP iJ cv ov ob out gN)(hi:s.gG[i]? =some c)(jJ:gP[i]? =some cb)(lj:iJ[i]? =some sr)
  (xG:c'.gJ=c.gJ) (hrn:c'.runs=c.runs) (kq:ip (· = cb) w w') (tQ:∀rv sv,w.heap[cb]? =some (.cells (il c rv sv) 249 (0,0))->w'.heap[cb]? =some (.cells (il c' rv sv) 249 (0,0))):
  iS w' {s with gG:=s.gG.set i c'} sb gP iJ cv ov ob out gN:=by
 have hC:=h.kH i c cb sr hi jJ lj;obtain⟨d,vO⟩:=hC.sr;obtain⟨rv,kN,nk,hh,hr,hl,ho,hb⟩:=hC;have rn:ip (zb sb cb sr ov) w w':=kq.mono fun k _ hk=>aV (a_ hk)
 have ka:=fun {e:TypeId} h1 h2 h3 h4=>qK (e:=e) h.lf hh vO h.ng h1 h2 h3 h4
 have js:=oV h.lf hh;have C':iJ=iJ.set i sr:=(jw lj).symm;rw[C'];have hp:=tQ rv _ hh
 have ho':=jg ho kq (fun g hg e=>by
  simp only[ax,Option.some.injEq]at hg;subst hg;subst e;rw[hh]at vO;simp at vO)
 refine h.Ub hi jJ lj rn rfl ?_ (jg h.ng kq (fun g hg e=>?_)) (h.ur.iO rn (ka (by decide) (by decide) (by decide) (by decide))) ⟨rv,kN,nk,by rw[xG];exact hp,by rw[hrn];exact hr.iO rn (ka (by decide) (by decide) (by decide) (by decide)),by rw[xG];exact hl,by rw[xG];exact ho',fun j x bv hx kI=>(hb j x bv (by rw[<-xG];exact hx) kI).iO rn (ka (by decide) (by decide) (by decide) (by decide))⟩ (a_ rfl)
 ·rw[kq.block sb (aO.1 h.lf).1 js];exact h.lf
 ·subst e;exact gO h.ng hh (by decide) hg
theorem G7(s:ik)(i:Nat)(c:gZ)(addr gL size:Int)(sb cb sr ob:Nat)(tv fv:Value)(gP iJ:List Nat)(cv ov:Value)(out:List (Int×Value))(gN:List (Int×List Int))(w:World)(h:iS w s sb gP iJ cv ov ob out gN)(hi:s.gG[i]? =some c)(jJ:gP[i]? =some cb)(lj:iJ[i]? =some sr)(BE:kR s.gG gL=some i)
  (hg:nx s.c) {M:Int} (jR:ke M c) (hM:M<=1125899906842624) (ku:0<=size/\c.jc+size<=M) (td:0<=s.now/\s.now<=1000000000) (hn:s.gG.length<=1000) (Eh:ob<=w.heap.size) (Ca:gN.length<=1000000):
  Calls ae 157 #[ai (some ⟨sb,0,none⟩),af ag addr,af ag gL,tv,fv,af ag size] w fun e w'=>e=.returned (.tuple #[])/\Leaves w sb gP iJ cv cb sr ob (mh s i c addr size gN).1 (mh s i c addr size gN).2 w':=by
 obtain⟨wa,li,jB⟩:=h.view;have kg:=nK s sb gP wa li gL w jB hn;rw[BE]at kg;have sJ:pT gP (some i)=ai (some ⟨cb,0,none⟩):=by simp[pT,List.getD,jJ]
 rw[sJ]at kg;have sV:=gE kg;clear kg jB sJ;obtain⟨rv,sv,hc⟩:=(h.kH i c cb sr hi jJ lj).cb;have hs:=h.lf;have js:=oV hs hc;have E0:=zM w cb;have j1:w.cell? ⟨cb,1,none⟩= some (af ag c.addr):=by simp[aX,hc,il]
 have j2:w.cell? ⟨cb,2,none⟩= some (.bool c.gT):=by simp[aX,hc,il]
 have j3:w.cell? ⟨cb,3,none⟩= some (af ag c.jc):=by simp[aX,hc,il]
 have j5:w.cell? ⟨cb,5,none⟩= some (af ag c.heard):=by simp[aX,hc,il]
 have yZ:w.cell? ⟨sb,10,none⟩= some (af ag s.now):=by simp[aX,hs,ij,jG.cells]
 have zc:∀q,w.frozen? ⟨cb,q,none⟩= false:=fun q=>frozen_of_row w cb q _ _ hc
 have T2:=jR.jc
 have HA:Hid (∀W,W=(w.setCell ⟨cb,3,none⟩ (af ag (c.jc+size))).setCell ⟨cb,5,none⟩ (af ag s.now)->iS W {s with gG:=s.gG.set i {c with jc:=c.jc+size,heard:=s.now}} sb gP iJ cv ov ob out gN/\ip (· = cb) w W/\W.cell? ⟨cb,2,none⟩= some (.bool c.gT)):=by
  rintro W rfl;have kq:=CG (w:=w) (cb:=cb) (Below.refl _ _) 3 5 (af ag (c.jc+size)) (af ag s.now)
  have tQ:∀rv sv,w.heap[cb]? =some (.cells (il c rv sv) 249 (0,0))->((w.setCell ⟨cb,3,none⟩ (af ag (c.jc+size))).setCell ⟨cb,5,none⟩ (af ag s.now)).heap[cb]? =some (.cells (il {c with jc:=c.jc+size,heard:=s.now} rv sv) 249 (0,0)):=
   fun rv sv hh=>(gQ (gQ hh 3 _) 5 _).trans rfl
  refine⟨h.UL hi jJ lj rfl rfl kq tQ,kq,?_⟩;simp[aX,tQ rv sv hc,il]
 have HOk:Hid (ke M {c with jc:=c.jc+size,heard:=s.now}):=⟨jR.gL,jR.addr,⟨by simp only;omega,ku.2⟩,jR.jb,td,jR.runs,jR.gM,jR.p_,jR.str⟩;have HH:=gE h;have HG:=gE hg;have Ur:Hid (0<=c.jc+size):=by show _<=_;omega
 clear h jR hc hs hg;rcases Int.lt_trichotomy c.addr addr with jp|heq|jp
 ·have HE:Hid (mh s i c addr size gN=(s,gN)):=by
   show _=_;unfold mh;rw[if_pos (by omega)]
  go_enter func157,ntmps157;go_wp2_with fail;refine sV.out.mono ?_;rintro e w1 ⟨rfl,rfl⟩;clear sV;go_wp2_with fail;refine bodyPost_ret (results_none rfl _ _ _) rfl ?_;rw[HE.out];exact⟨rfl,cv,ov,out,HH.out,ip.refl _ _,cn HH.out.ur.1,oY.refl _ _⟩
 ·subst heq;go_enter func157,ntmps157;go_wp2_with fail;refine sV.out.mono ?_;rintro e w1 ⟨rfl,rfl⟩;clear sV
  go_upto_region 5 with fail
  obtain⟨hA,kq,j2w⟩:=HA.out _ rfl;generalize (w.setCell ⟨cb,3,none⟩ (af ag (c.jc+size))).setCell ⟨cb,5,none⟩ (af ag s.now)=W at hA kq j2w⊢;have hWs:=kq.size;have E1:Hid (ip (tf sb cb sr ob) w W):=kq.mono fun k _ hk=>aV (a_ hk)
  clear HA E0 j1 j2 j3 j5 yZ zc;have QG:=gE hA;clear hA kq
  cases tA:c.gT
  ·rw[tA]at j2w
   have HE:Hid (mh s i c c.addr size gN=({s with gG:=s.gG.set i (jK {c with jc:=c.jc+size,heard:=s.now} (ir s.c {c with jc:=c.jc+size,heard:=s.now}))},kB {c with jc:=c.jc+size,heard:=s.now} (ir s.c {c with jc:=c.jc+size,heard:=s.now}) gN)):=by
    show _=_;unfold mh;rw[if_neg (by simp),tA];simp
   have QZ:=w_ {s with gG:=s.gG.set i {c with jc:=c.jc+size,heard:=s.now}} i {c with jc:=c.jc+size,heard:=s.now} sb cb sr ob gP iJ cv ov out gN W QG.out (getElem?_set_at hi) jJ lj HG.out (by omega) HOk.out hM Ca;have QJ:=gE QZ;clear QZ;go_wp2_with fail;refine QJ.out.mono ?_;rintro e w2 ⟨rfl,Fs⟩;have HLv:=gE Fs;clear QJ Fs;go_wp2_with fail;refine bodyPost_ret (results_none rfl _ _ _) rfl ?_;obtain⟨Ny,WZ,oS,sI,vg,rC⟩:=HLv.out;simp only[cT]at sI;rw[HE.out];exact⟨rfl,Ny,WZ,oS,sI,E1.out.trans vg,uH rC E1.out.size⟩
  ·rw[tA]at j2w
   have HE:Hid (mh s i c c.addr size gN=({s with gG:=s.gG.set i {c with jc:=c.jc+size,heard:=s.now}},gN)):=by
    show _=_;unfold mh;rw[if_neg (by simp),tA];simp
   go_wp2_with fail;refine bodyPost_ret (results_none rfl _ _ _) rfl ?_;rw[HE.out];exact⟨rfl,cv,ov,out,QG.out,E1.out,cn QG.out.ur.1,oY.refl _ _⟩
 ·have HE:Hid (mh s i c addr size gN=(s,gN)):=by
   show _=_;unfold mh;rw[if_pos (by omega)]
  go_enter func157,ntmps157;go_wp2_with fail;refine sV.out.mono ?_;rintro e w1 ⟨rfl,rfl⟩;clear sV;go_wp2_with fail;refine bodyPost_ret (results_none rfl _ _ _) rfl ?_;rw[HE.out];exact⟨rfl,cv,ov,out,HH.out,ip.refl _ _,cn HH.out.ur.1,oY.refl _ _⟩
theorem iS.abO{su:Value}{mr:List (Int×Value)}{zN:List (Int×List Int)}(h:iS w s sb gP iJ cv ov ob out gN)(kq:ip (fun k=>k=sb\/ov.ownBlock=some k) w w')
  (MX:w'.heap[sb]? =some (.cells (ij s cv su) 242 (0,0))) (Sv:w'.ownsRow ob 60 2 su mr.length (g_ mr)) (XX:qZ w' ob mr zN):iS w' s sb gP iJ cv su ob mr zN:=by
 have ka:∀{e:TypeId},e≠242->e≠60->∀k cur fr,w.heap[k]? =some (.cells cur e fr)->¬(k=sb\/ov.ownBlock=some k):=by
  rintro e h1 h2 k cur fr hk (rfl|h5)
  ·rw[h.lf]at hk;simp only[Option.some.injEq,Obj.cells.injEq]at hk;exact h1 hk.2.1.symm
  ·exact gO h.ng hk (fun e=>h2 e.symm) h5
 refine⟨MX,jy h.row kq (ka (by decide) (by decide)),Sv,XX,h.j7,h.lA,h.SZ,h.S3,fun i c cb sr h1 h2 h3=>?_⟩;have hJ:=h.kH i c cb sr h1 h2 h3;obtain⟨_,_,NK⟩:=hJ.cb;obtain⟨_,DV⟩:=hJ.sr;exact hJ.iO kq (ka (by decide) (by decide) _ _ _ NK) (ka (by decide) (by decide) _ _ _ DV) (ka (by decide) (by decide)) (ka (by decide) (by decide))
theorem MF(s:ik)(sb:Nat)(a b:World)(hb:Below a.heap.size a b)(h:a.cell? ⟨sb,0,none⟩= some (af ag s.c.c0)/\a.cell? ⟨sb,1,none⟩= some (af ag s.c.c1)/\a.cell? ⟨sb,2,none⟩= some (af ag s.c.c2)/\a.cell? ⟨sb,3,none⟩= some (af ag s.c.c3)/\a.cell? ⟨sb,4,none⟩= some (af ag s.c.c4)/\a.cell? ⟨sb,5,none⟩= some (af ag s.c.c5)/\a.cell? ⟨sb,6,none⟩= some (af ag s.c.c6)/\a.cell? ⟨sb,7,none⟩= some (af ag s.c.c7)/\a.cell? ⟨sb,8,none⟩= some (af ag s.c.c8)/\a.cell? ⟨sb,9,none⟩= some (af ag s.c.c9)/\a.cell? ⟨sb,10,none⟩= some (af ag s.now)):b.cell? ⟨sb,0,none⟩= some (af ag s.c.c0)/\b.cell? ⟨sb,1,none⟩= some (af ag s.c.c1)/\b.cell? ⟨sb,2,none⟩= some (af ag s.c.c2)/\b.cell? ⟨sb,3,none⟩= some (af ag s.c.c3)/\b.cell? ⟨sb,4,none⟩= some (af ag s.c.c4)/\b.cell? ⟨sb,5,none⟩= some (af ag s.c.c5)/\b.cell? ⟨sb,6,none⟩= some (af ag s.c.c6)/\b.cell? ⟨sb,7,none⟩= some (af ag s.c.c7)/\b.cell? ⟨sb,8,none⟩= some (af ag s.c.c8)/\b.cell? ⟨sb,9,none⟩= some (af ag s.c.c9)/\b.cell? ⟨sb,10,none⟩= some (af ag s.now):=by
 obtain⟨h0,h1,h2,h3,h4,h5,h6,h7,h8,h9,RR⟩:=h;exact⟨gF h0 hb,gF h1 hb,gF h2 hb,gF h3 hb,gF h4 hb,gF h5 hb,gF h6 hb,gF h7 hb,gF h8 hb,gF h9 hb,gF RR hb⟩
theorem G6(s:ik)(addr gL size:Int)(sb ob:Nat)(Q3:Option Addr)(tc:Nat)(fv:Value)(gP iJ:List Nat)(cv ov:Value)(out:List (Int×Value))(gN:List (Int×List Int))(w:World)(h:iS w s sb gP iJ cv ov ob out gN)(BE:kR s.gG gL=none)(Sm:s.c.c5<=r_ s.gG)
  (hg:nx s.c) (ha:0<=addr/\addr<256) (kb:0<=gL/\gL<=1073741823) (ku:0<=size/\size<=1125899906842624) (td:0<=s.now/\s.now<=1000000000) (hn:s.gG.length<=1000) (Eh:ob<=w.heap.size) (Ca:gN.length<=1000000):
  Calls ae 157 #[ai (some ⟨sb,0,none⟩),af ag addr,af ag gL,.slice Q3 0 tc,fv,af ag size] w fun e w'=>e=.returned (.tuple #[])/\Leaves w sb gP iJ cv sb sb ob s (ql s addr gL size gN) w':=by
 obtain⟨wa,li,jB⟩:=h.view;have kg:=nK s sb gP wa li gL w jB hn;rw[BE]at kg;have sV:Hid (Calls ae 158 #[ai (some ⟨sb,0,none⟩),af ag gL] w fun e w'=>e=.returned (ai none)/\w=w'):=kg;obtain⟨u,hu⟩:∃u,r_ s.gG=u:=⟨_,rfl⟩
 have F7:Hid (∀n,Calls ae 186 #[ai (some ⟨sb,0,none⟩)] (w.drewN n) fun e w'=>e=.returned (af ag u)/\w'=w.drewN n):=by
  intro n;have:=tZ s sb gP wa li (w.drewN n) (jB.drewN n) hn;rw[hu]at this;exact this.mono fun e w' h=>⟨h.1,h.2.symm⟩
 rw[hu]at Sm;clear kg jB hu;have hs:=h.lf;have E0:=oP w;have k0:w.cell? ⟨sb,0,none⟩= some (af ag s.c.c0):=by simp[aX,hs,ij,jG.cells]
 have k1:w.cell? ⟨sb,1,none⟩= some (af ag s.c.c1):=by simp[aX,hs,ij,jG.cells]
 have k2:w.cell? ⟨sb,2,none⟩= some (af ag s.c.c2):=by simp[aX,hs,ij,jG.cells]
 have k3:w.cell? ⟨sb,3,none⟩= some (af ag s.c.c3):=by simp[aX,hs,ij,jG.cells]
 have k4:w.cell? ⟨sb,4,none⟩= some (af ag s.c.c4):=by simp[aX,hs,ij,jG.cells]
 have k5:w.cell? ⟨sb,5,none⟩= some (af ag s.c.c5):=by simp[aX,hs,ij,jG.cells]
 have k6:w.cell? ⟨sb,6,none⟩= some (af ag s.c.c6):=by simp[aX,hs,ij,jG.cells]
 have k7:w.cell? ⟨sb,7,none⟩= some (af ag s.c.c7):=by simp[aX,hs,ij,jG.cells]
 have k8:w.cell? ⟨sb,8,none⟩= some (af ag s.c.c8):=by simp[aX,hs,ij,jG.cells]
 have k9:w.cell? ⟨sb,9,none⟩= some (af ag s.c.c9):=by simp[aX,hs,ij,jG.cells]
 have yZ:w.cell? ⟨sb,10,none⟩= some (af ag s.now):=by simp[aX,hs,ij,jG.cells]
 have yY:sb<w.heap.size:=jh k0;have HH:=gE h;have HG:=gE hg;have T1:=hg.c7;obtain⟨tk,pd⟩:∃tk,kr s.c.c9 addr (s.now+s.c.c7)=tk:=⟨_,rfl⟩
 have Rp:Hid (∀W t,t=s.now+s.c.c7->Calls ae 61 #[.agg #[af ag s.c.c0,af ag s.c.c1,af ag s.c.c2,af ag s.c.c3,af ag s.c.c4,af ag s.c.c5,af ag s.c.c6,af ag s.c.c7,af ag s.c.c8,af ag s.c.c9],af ag addr,af ag t] W fun e w'=>∃v,e=.returned v/\w'.ownsRow W.heap.size 5 1 v 9 (U8 tk)/\Below W.heap.size W w'):=by
  rintro W t rfl;have:=yJ s.c.c0 s.c.c1 s.c.c2 s.c.c3 s.c.c4 s.c.c5 s.c.c6 s.c.c7 s.c.c8 s.c.c9 addr (s.now+s.c.c7) W hg.c9.1 hg.c9.2 ha.1 ha.2 (by omega) (by omega);rw[pd]at this;exact this
 have hwr:IntKind.i64.wrap (s.now+s.c.c7)=s.now+s.c.c7:=IntWalk.i64_in _ (by omega);have xt:=jS gL;have BI:tk.length=9:=by rw[<-pd];simp[kr,iL,lx]
 have TN:Hid (ql s addr gL size gN=if(([3]++jn gL++jn 9++tk).length:Int)<=3*size then gN++[(addr,[3]++jn gL++jn 9++tk)] else gN):=by
  show _=_;unfold ql tU;rw[pd]
 clear h hs hg pd;go_enter func157,ntmps157;go_wp2_with fail;refine sV.out.mono ?_;rintro e w1 ⟨rfl,rfl⟩;clear sV;go_wp2_with fail
 go_quiet ((go_at_call 186;exact cQ (F7.out _)))
 have lY:Below w.heap.size w (w.drewN nq):=gK (Below.refl _ _) _;generalize w.drewN nq=w0 at lY⊢;replace k0:=gF k0 lY;replace k1:=gF k1 lY;replace k2:=gF k2 lY;replace k3:=gF k3 lY;replace k4:=gF k4 lY;replace k5:=gF k5 lY;replace k6:=gF k6 lY;replace k7:=gF k7 lY;replace k8:=gF k8 lY;replace k9:=gF k9 lY;replace yZ:=gF yZ lY;have pQ:=gE lY;clear lY E0 F7;go_wp2_with fail;refine(qm gL _ kb.1 kb.2).mono ?_;rintro e w1 ⟨v1,rfl,tP,im⟩;go_wp2_with fail;refine(xy 3 (jn gL) w0 w1 _ im (iE tP (aI _)) xt.2 (by omega)).mono ?_;rintro e w2 ⟨g2,cp2,n2,rfl,UY,iT⟩;have oL:Below w0.heap.size w0 w2:=gI (gI (gH w0 _) im) iT;obtain⟨b2,O2⟩:∃b2,[3]++jn gL=b2:=⟨_,rfl⟩
 have aco:0<b2.length/\b2.length<=5:=by
  rw[<-O2,aT,show([3]:List Int).length=1 from rfl];omega
 rw[O2]at UY TN;clear O2 tP im iT;replace k0:=gF k0 oL;replace k1:=gF k1 oL;replace k2:=gF k2 oL;replace k3:=gF k3 oL;replace k4:=gF k4 oL;replace k5:=gF k5 oL;replace k6:=gF k6 oL;replace k7:=gF k7 oL;replace k8:=gF k8 oL;replace k9:=gF k9 oL;replace yZ:=gF yZ oL;have mc:=gE (gI pQ.out oL);clear oL pQ;obtain⟨rfl,je⟩:=UY.out;have Cq:=gE je;clear UY je
 go_upto_region 13 with fail
 go_region_held3 (fun w'=>w'.cell? ⟨sb,0,none⟩= some (af ag s.c.c0)/\w'.cell? ⟨sb,1,none⟩= some (af ag s.c.c1)/\w'.cell? ⟨sb,2,none⟩= some (af ag s.c.c2)/\w'.cell? ⟨sb,3,none⟩= some (af ag s.c.c3)/\w'.cell? ⟨sb,4,none⟩= some (af ag s.c.c4)/\w'.cell? ⟨sb,5,none⟩= some (af ag s.c.c5)/\w'.cell? ⟨sb,6,none⟩= some (af ag s.c.c6)/\w'.cell? ⟨sb,7,none⟩= some (af ag s.c.c7)/\w'.cell? ⟨sb,8,none⟩= some (af ag s.c.c8)/\w'.cell? ⟨sb,9,none⟩= some (af ag s.c.c9)/\w'.cell? ⟨sb,10,none⟩= some (af ag s.now)) (first|assumption|go_keep) (first
  |(go_at_call 61;refine(Rp.out _ _ (by first|rfl|exact hwr|omega)).mono ?_;rintro e w3 ⟨v3,rfl,Eg,mw⟩;have Ba:=MF s sb _ _ mw (by assumption);replace mw:=gE (ib mw);replace Eg:=gE (iE Eg (aI _))))
 clear k0 k1 k2 k3 k4 k5 k6 k7 k8 k9 yZ Ba;obtain⟨ao3,cp3,rfl⟩:=i7 Eg.out;have je:=iB Cq.out mw.out;have CS:=gI mc.out mw.out;have lk:=Eg.out;clear Cq mc mw Eg;have ya:=gE CS;clear CS;go_wp2_with fail;refine(qm 9 _ (by decide) (by decide)).mono ?_;rintro e w4 ⟨v4,rfl,ho4,vK⟩;have wO:=iB je vK;have wP:=iB lk vK;have hB4:=gI ya.out vK;have Z3:=jS 9;clear je lk ya vK;go_wp2_with fail;refine(lV b2 (jn 9) 0 _ _ w4 wO (iE ho4 (aI _)) aco.1 Z3.2 (by omega) (by omega)).mono ?_;rintro e w5 ⟨v5,rfl,Ss,wG⟩;have zD:=iE Ss (aI _);have lk:=iB wP wG;have QO:=gI hB4 wG;have hl5:(b2++jn 9).length<=9/\0<(b2++jn 9).length:=by rw[aT];omega
 obtain⟨b5,aaP⟩:∃b5,b2++jn 9=b5:=⟨_,rfl⟩;rw[aaP]at zD hl5 TN;clear aaP ho4 Ss wG hB4 wO wP Z3;obtain⟨ao5,cp5,rfl⟩:=i7 zD;go_wp2_with fail
 have Sx:w5.ownsRow 0 5 1 (.slice ao3 9 cp3) tk.length (U8 tk):=by
  rw[BI];exact lk
 refine(lV b5 tk 0 _ _ w5 zD Sx hl5.2 (by omega) (by omega) (by omega)).mono ?_;rintro e w6 ⟨v6,rfl,St,wb⟩;have UU:=gI QO wb;have vM:=iE St QO.size;have Vg:(b5++tk).length<=18/\0<(b5++tk).length:=by rw[aT];omega
 obtain⟨b6,RZ⟩:∃b6,b5++tk=b6:=⟨_,rfl⟩;rw[RZ]at vM Vg TN;clear RZ St wb QO zD lk Sx;obtain⟨ao6,cp6,rfl⟩:=i7 vM;have TW:=HH.out.below UU;have ad_:=UU.size;have adk:sb<w6.heap.size:=by omega
 have Ce:=TW.lf;obtain⟨oo,oc,rfl⟩:=iA TW.ng;have k13:w6.cell? ⟨sb,13,none⟩= some (.slice oo out.length oc):=by simp[aX,Ce,ij,jG.cells]
 have HB6:=gE UU;have V0:=gE vM;have QI:=gE TW;clear UU vM TW Ce;rcases bM (3*size) b6.length with T2|uV
 ·have HE:Hid (ql s addr gL size gN=gN):=by
   show _=_;rw[TN.out,if_neg (by omega)]
  go_wp2_with fail;refine bodyPost_ret (results_none rfl _ _ _) rfl ?_;rw[HE.out];exact⟨rfl,cv,_,out,QI.out,ip.gS HB6.out,cn QI.out.ur.1,oY.refl _ _⟩
 ·have HE:Hid (ql s addr gL size gN=gN++[(addr,b6)]):=by
   show _=_;rw[TN.out,if_pos uV]
  obtain⟨i0,hi,mB,kS,ln⟩:=info_parts xu;have NS:out.length<=1000000:=by rw[HH.out.ur.1];exact Ca
  have yV:=gO QI.out.ng QI.out.lf (by decide);go_wp2_with (at_builtin;refine wpList_append_own _ rfl _ _ 47 rfl ob 60 i0 (.agg #[af ag 0,aj none 0 0]) 2 32 underlying47 hi mB kS ln rfl (by decide) (.slice oo out.length oc) out.length (g_ out) rfl (QI.out.ng.alloc _) ⟨w6.heap.size,0,none⟩ 1 1 [af ag addr,.slice ao6 b6.length cp6] rfl rfl (iZ w6 60 [af ag addr,.slice ao6 b6.length cp6] (by simp[maxLen])) (by simp[Value.oneCell']) (by unfold maxLen;omega) (by omega) (by simp;omega) ?_;intro v7 w7 Jy Si _;refine Hid.out ?_);refine gE ?_;have pY:=gU Si;obtain⟨la7,lc7,rfl⟩:=iA Jy;have QY:=(pY.block sb adk (Ne.symm yV)).trans QI.out.lf;have aeb:w7.cell? ⟨sb,13,none⟩= some (.slice oo out.length oc):=by simp[aX,QY,ij,jG.cells]
  have z13:w7.frozen? ⟨sb,13,none⟩= false:=frozen_of_row w7 sb 13 _ _ QY;have Zv:=gE pY;have HO7:=gE Jy;have Xz:=gE QY;clear pY Si Jy QY;go_wp2_with fail;refine bodyPost_ret (results_none rfl _ _ _) rfl ?_
  have kq:ip (fun k=>k=sb\/(.slice oo out.length oc:Value).ownBlock=some k) w6 (w7.setCell ⟨sb,13,none⟩ (.slice la7 (out.length+1) lc7)):=by
   refine⟨Zv.out.os,Zv.out.tape,Zv.out.output,by rw[World.size_setCell];exact Zv.out.size,fun q hq hn=>?_⟩;rw[heap_setCell_other _ _ _ _ (fun e=>hn (a_ e)),Zv.out.block q hq (fun e=>hn (aV e.symm))]
  have aa0:=V0.out.kept Zv.out (yC V0.out QI.out.ng (by decide))
  have tQ:=QI.out.abO (mr:=out++[(addr,.slice ao6 b6.length cp6)]) (zN:=gN++[(addr,b6)]) kq ((gQ Xz.out 13 _).trans rfl) (by
   rw[mu,aT];exact ownsRow_setCell_other HO7.out (gO HO7.out Xz.out (by decide)) _) (by
   refine qZ.snoc (QI.out.ur.iO kq ?_) (iE (ownsRow_setCell_other aa0 (gO aa0 Xz.out (by decide)) _) Eh);rintro k cur fr hk (rfl|h5)
   ·have:=QI.out.lf;rw[hk]at this;simp at this
   ·exact gO QI.out.ng hk (by decide) h5)
  rw[HE.out];refine⟨rfl,cv,_,_,tQ,(ip.gS HB6.out).trans (kq.mono fun k hk h=>?_),by simp[HH.out.ur.1],oY.refl _ _⟩;rcases h with h|h
  ·exact a_ h
  ·exact aV (aV (aV (QI.out.ng.lt k h).1))
theorem jG.To{g:jG}(h:g.right=true):nx g:=by
 unfold jG.right mD Dp Dq ls at h;simp only[Bool.and_eq_true,decide_eq_true_eq]at h;obtain⟨⟨h0,h1,h2,h3⟩,⟨h4,h5,h6,h7⟩,h8,h9⟩:=h;exact⟨by omega,by omega,by omega,by omega,by omega,by omega,by omega,by omega,by omega,by omega⟩
def F9(w:World)(g:jG)(e:Ending)(w':World):Prop:=
 if g.right then ∃sb,e=.returned (.tuple #[ai (some ⟨sb,0,none⟩),af ag 0])/\w.heap.size<=sb/\Below w.heap.size w w'/\w'.heap[sb]? =some (.cells (ij (oU g) (aj none 0 0) (aj none 0 0)) 242 (0,0))
 else e=.returned (.tuple #[ai none,af ag 1])/\Below w.heap.size w w'
theorem Ti(g:jG)(w:World):
  Calls ae 116 #[.agg #[af ag g.c0,af ag g.c1,af ag g.c2,af ag g.c3,af ag g.c4,af ag g.c5,af ag g.c6,af ag g.c7,af ag g.c8,af ag g.c9]] w fun e w'=>F9 w g e w':=by
 have HB:Hid (∀W:World,W=w.alloc (.cells #[af ag g.c0,af ag g.c1,af ag g.c2,af ag g.c3,af ag g.c4,af ag g.c5,af ag g.c6,af ag g.c7,af ag g.c8,af ag g.c9] 26)->Below w.heap.size w W/\W.heap[w.heap.size]? =some (.cells #[af ag g.c0,af ag g.c1,af ag g.c2,af ag g.c3,af ag g.c4,af ag g.c5,af ag g.c6,af ag g.c7,af ag g.c8,af ag g.c9] 26 (0,0))):=by
  rintro W rfl;exact⟨gH w _,heap_alloc_new w _⟩
 obtain⟨r,hr⟩:∃r,mD g.c0 g.c1 g.c2 g.c3 g.c4 g.c5 g.c6 g.c7 g.c8 g.c9=r:=⟨_,rfl⟩
 have HR:Hid (∀W,Calls ae 59 #[.agg #[af ag g.c0,af ag g.c1,af ag g.c2,af ag g.c3,af ag g.c4,af ag g.c5,af ag g.c6,af ag g.c7,af ag g.c8,af ag g.c9]] W fun e w'=>e=.returned (.bool r)/\Below W.heap.size W w'):=by
  intro W;have:=nY g.c0 g.c1 g.c2 g.c3 g.c4 g.c5 g.c6 g.c7 g.c8 g.c9 W;rw[hr]at this;exact this
 have HE:Hid (g.right=r):=hr;clear hr;go_enter func116,ntmps116;go_wp2_with fail;obtain⟨kf,qs⟩:=HB.out _ rfl;clear HB;generalize w.alloc (.cells #[af ag g.c0,af ag g.c1,af ag g.c2,af ag g.c3,af ag g.c4,af ag g.c5,af ag g.c6,af ag g.c7,af ag g.c8,af ag g.c9] 26)=w0 at kf qs⊢;refine(HR.out w0).mono ?_;rintro e w1 ⟨rfl,im⟩;clear HR;have km:=(im.block _ (aO.1 qs).1).trans qs;have pW:=gI kf im;clear kf im qs;have m0:w1.cell? ⟨w.heap.size,0,none⟩= some (af ag g.c0):=by simp[aX,km]
 have m1:w1.cell? ⟨w.heap.size,1,none⟩= some (af ag g.c1):=by simp[aX,km]
 have m2:w1.cell? ⟨w.heap.size,2,none⟩= some (af ag g.c2):=by simp[aX,km]
 have m3:w1.cell? ⟨w.heap.size,3,none⟩= some (af ag g.c3):=by simp[aX,km]
 have m4:w1.cell? ⟨w.heap.size,4,none⟩= some (af ag g.c4):=by simp[aX,km]
 have m5:w1.cell? ⟨w.heap.size,5,none⟩= some (af ag g.c5):=by simp[aX,km]
 have m6:w1.cell? ⟨w.heap.size,6,none⟩= some (af ag g.c6):=by simp[aX,km]
 have m7:w1.cell? ⟨w.heap.size,7,none⟩= some (af ag g.c7):=by simp[aX,km]
 have m8:w1.cell? ⟨w.heap.size,8,none⟩= some (af ag g.c8):=by simp[aX,km]
 have m9:w1.cell? ⟨w.heap.size,9,none⟩= some (af ag g.c9):=by simp[aX,km]
 have nB:=gE pW;have ku:=pW.size;clear km pW
 cases r
 ·go_wp2_with fail
  go_ret2
  unfold F9;rw[HE.out,if_neg (by decide)];exact⟨rfl,nB.out⟩
 ·go_wp2_with fail
  go_ret2
  unfold F9;rw[HE.out,if_pos rfl];exact⟨w1.heap.size,rfl,ku,nB.out.alloc ku _,heap_alloc_new w1 _⟩
theorem iS.cons(h:iS w s sb gP iJ cv ov ob out gN):∀(i:Nat) c cb,s.gG[i]? =some c->gP[i]? =some cb->∃rv sv,w.heap[cb]? =some (.cells (il c rv sv) 249 (0,0)):=by
 intro i c cb h1 h2;have sj:=h.j7;have rC:=h.lA;have jp:=(bm.1 h1).1;exact(h.kH i c cb _ h1 h2 (am (by omega))).cb
theorem Gi{rv sv rv':Value}(h:il c rv sv=il c rv' Hm):rv=rv'/\sv=Hm:=by
 unfold il at h;simp at h;exact h
theorem Mx(s:ik)(sb ob:Nat)(gP iJ:List Nat)(cv ov:Value)(out:List (Int×Value))(gN:List (Int×List Int))(w:World)(h:iS w s sb gP iJ cv ov ob out gN)(hn:s.gG.length<=1000):
  Calls ae 122 #[ai (some ⟨sb,0,none⟩)] w fun e w'=>e=.returned (.tuple #[af ag (lR s).1,af ag (lR s).2.1])/\iS w' (lR s).2.2 sb gP iJ cv ov ob out gN/\ip (·∈gP) w w':=by
 refine(J' s sb 0 gP cv ov w h.lf h.row h.j7 (by rw[h.j7];exact hn) h.cons).mono ?_;intro e w' hA;unfold lR
 cases hf:mG s.gG s.gG.length with
 |none=>
  rw[hf]at hA;exact⟨hA.1,h.below hA.2,ip.gS hA.2⟩
 |some j=>
  rw[hf]at hA;obtain⟨c,cb,rv,sv,h1,h2,h3,h4,h5,h6⟩:=hA;simp only[h1];refine⟨h3,?_,h4.mono fun k _ hk=>by rw[hk];exact bT h2⟩;have rC:=h.lA;have jp:=(bm.1 h1).1;refine h.UL h1 h2 (am (by omega)) rfl rfl h4 (fun N7 sv2 hh=>?_);rw[h5]at hh;simp only[Option.some.injEq,Obj.cells.injEq,and_true]at hh;obtain⟨rfl,rfl⟩:=Gi hh;exact h6
theorem zip_fst{α β:Type}:∀{a:List α} {b:List β},a.length=b.length->(a.zip b).map cY=a
 |[],[],_=>rfl
 |x::a,y::b,h=>by simp[zip_fst (a:=a) (b:=b) (by simpa using h)]
 |[],_::_,h=>by simp at h
 |_::_,[],h=>by simp at h
theorem Ic{α β:Type}:∀{a:List α} {b:List β},a.length=b.length->(a.zip b).map ci=b
 |[],[],_=>rfl
 |x::a,y::b,h=>by simp[Ic (a:=a) (b:=b) (by simpa using h)]
 |[],_::_,h=>by simp at h
 |_::_,[],h=>by simp at h
theorem LA{α β:Type}(p:α->Bool)(l:List (α×β)):(l.filter fun x=>p x.1).map cY=(l.map cY).filter p:=by
 rw[List.filter_map]
 rfl
theorem Od{α β γ:Type}:∀{a:List α} {b:List β} {c:List γ},a.length=b.length->a.length=c.length->(a.zip (b.zip c)).map (fun x=>(x.1,x.2.1))=a.zip b
 |[],[],[],_,_=>rfl
 |x::a,y::b,u::c,h1,h2=>by simp[Od (a:=a) (b:=b) (c:=c) (by simpa using h1) (by simpa using h2)]
 |[],[],_::_,_,h2=>by simp at h2
 |[],_::_,_,h1,_=>by simp at h1
 |_::_,[],_,h1,_=>by simp at h1
 |_::_,_::_,[],_,h2=>by simp at h2
theorem P1(s:ik)(now:Int)(sb ob:Nat)(gP iJ:List Nat)(cv ov:Value)(out:List (Int×Value))(gN:List (Int×List Int))(w:World)(h:iS w s sb gP iJ cv ov ob out gN)(hn:s.gG.length<=1000)(hhd:∀c∈s.gG,0<=c.heard/\c.heard<=1000000000)(h0:0<=s.now)(h1:s.now<=now)(h2:now<=1000000000):
  Calls ae 120 #[ai (some ⟨sb,0,none⟩),af ag now] w fun e w'=>e=.returned (af ag 0)/\∃iW nw ou,iS w' (Ao s now) sb iW nw ou ov ob out gN/\ip (· = sb) w w'/\(∀k∈iW,k∈gP)/\(∀k∈nw,k∈iJ)/\oY w.heap.size cv ou:=by
 refine(P2 s now sb 0 gP cv ov w h.lf h.row h.j7 (by rw[h.j7];exact hn) h.cons hhd h0 h1 h2).mono ?_;rintro e w' ⟨rfl,kq,ou,YF,oq⟩;refine⟨rfl,?_⟩;have sj:=h.j7;have rC:=h.lA
 let p:gZ->Bool:=fun c=>decide (now-c.heard<s.c.c6)
 let z:=s.gG.zip (gP.zip iJ)
 have hzl:(gP.zip iJ).length=s.gG.length:=by rw[List.length_zip];omega
 have kS:z.map cY=s.gG:=zip_fst (by omega);have ln:z.map ci=gP.zip iJ:=Ic (by omega)
 have JK:z.map (fun x=>x.2.1)=gP:=by
  have:z.map (fun x=>x.2.1)=(z.map ci).map cY:=by rw[cW];rfl
  rw[this,ln,zip_fst (by omega)]
 have hz4:z.map (fun x=>x.2.2)=iJ:=by
  have:z.map (fun x=>x.2.2)=(z.map ci).map ci:=by rw[cW];rfl
  rw[this,ln,Ic (by omega)]
 have hz5:z.map (fun x=>(x.1,x.2.1))=s.gG.zip gP:=Od (by omega) (by omega)
 let zf:=z.filter fun x=>p x.1
 have xG:sS s.c.c6 now (s.gG.zip gP)=zf.map fun x=>(x.1,x.2.1):=by
  unfold sS;rw[<-hz5,List.filter_map]
  rfl
 have xQ:(Ao s now).gG=zf.map cY:=by
  show s.gG.filter p=_;rw[<-kS];exact(LA p z).symm
 have vj:zf.Sublist z:=List.filter_sublist
 have ka:∀{e:TypeId},e≠242->∀k cur fr,w.heap[k]? =some (.cells cur e fr)->¬k=sb:=by
  rintro e he k cur fr hk rfl;rw[h.lf]at hk;simp only[Option.some.injEq,Obj.cells.injEq]at hk;exact he hk.2.1.symm
 refine⟨zf.map (fun x=>x.2.1),zf.map (fun x=>x.2.2),ou,⟨YF,?_,jy h.ng kq (ka (by decide)),h.ur.iO kq (ka (by decide)),?_,?_,?_,?_,?_⟩,kq,?_,?_,fun k hk=>aV (oq.lt k hk).1⟩
 ·have:=iE oq (aI _);rw[xG]at this;simp only[cW,List.length_map]at this⊢;exact this
 ·rw[xQ];simp
 ·rw[xQ];simp
 ·exact((vj.map _).nodup (by rw[JK];exact h.SZ))
 ·exact((vj.map _).nodup (by rw[hz4];exact h.S3))
 ·intro i c cb sr g1 g2 g3;rw[xQ]at g1;rw[cR]at g1 g2 g3;obtain⟨x,hx,rfl⟩:=b9.1 g1;rw[hx]at g2 g3;simp only[Option.map_some,Option.some.injEq]at g2 g3;subst g2;subst g3;obtain⟨j,hj⟩:=cC.1 (vj.subset (bT hx));have q1:s.gG[j]? =some x.1:=by rw[<-kS,cR,hj];rfl
  have q2:gP[j]? =some x.2.1:=by rw[<-JK,cR,hj];rfl
  have q3:iJ[j]? =some x.2.2:=by rw[<-hz4,cR,hj];rfl
  have hJ:=h.kH j _ _ _ q1 q2 q3;obtain⟨_,_,NK⟩:=hJ.cb;obtain⟨_,DV⟩:=hJ.sr;exact hJ.iO kq (ka (by decide) _ _ _ NK) (ka (by decide) _ _ _ DV) (ka (by decide)) (ka (by decide))
 ·intro k hk;rw[<-JK];exact(vj.map _).subset hk
 ·intro k hk;rw[<-hz4];exact(vj.map _).subset hk
theorem iS.snoc(h:iS w s sb gP iJ cv ov ob out gN)(kq:ip (fun k=>k=sb\/cv.ownBlock=some k) w w')
  (MX:w'.heap[sb]? =some (.cells (ij s ou ov) 242 (0,0))) (VG:w'.ownsRow 0 244 1 ou (gP.length+1) (kF (gP++[cb]))) (jJ:cb∉gP) (lj:sr∉iJ) (sZ:nC w' 0 c cb sr):
  iS w' {s with gG:=s.gG++[c]} sb (gP++[cb]) (iJ++[sr]) ou ov ob out gN:=by
 have ka:∀{e:TypeId},e≠242->e≠244->∀k cur fr,w.heap[k]? =some (.cells cur e fr)->¬(k=sb\/cv.ownBlock=some k):=by
  rintro e h1 h2 k cur fr hk (rfl|h5)
  ·rw[h.lf]at hk;simp only[Option.some.injEq,Obj.cells.injEq]at hk;exact h1 hk.2.1.symm
  ·exact gO h.row hk (fun e=>h2 e.symm) h5
 have sj:=h.j7;have rC:=h.lA;refine⟨MX,by rw[aT];exact VG,jy h.ng kq (ka (by decide) (by decide)),h.ur.iO kq (ka (by decide) (by decide)),by simp[sj],by simp[rC],?_,?_,fun i c1 TS sr1 h1 h2 h3=>?_⟩
 ·rw[List.nodup_append];exact⟨h.SZ,by simp,fun a ha b hb=>by simp at hb;subst hb;exact fun e=>jJ (e▸ha)⟩
 ·rw[List.nodup_append];exact⟨h.S3,by simp,fun a ha b hb=>by simp at hb;subst hb;exact fun e=>lj (e▸ha)⟩
 ·simp only at h1;rcases Nat.lt_trichotomy i s.gG.length with hi|hi|hi
  ·rw[aw hi]at h1;rw[aw (by omega)]at h2 h3;have hJ:=h.kH i c1 TS sr1 h1 h2 h3;obtain⟨_,_,NK⟩:=hJ.cb;obtain⟨_,DV⟩:=hJ.sr;exact hJ.iO kq (ka (by decide) (by decide) _ _ _ NK) (ka (by decide) (by decide) _ _ _ DV) (ka (by decide) (by decide)) (ka (by decide) (by decide))
  ·subst hi;rw[aF (ay _)]at h1;rw[<-sj,aF (ay _)]at h2;rw[<-rC,aF (ay _)]at h3;simp at h1 h2 h3;subst h1;subst h2;subst h3;exact sZ
  ·rw[bj (by simp;omega)]at h1
   cases h1
theorem iS.fresh(h:iS w s sb gP iJ cv ov ob out gN):(∀k∈gP,k<w.heap.size)/\(∀k∈iJ,k<w.heap.size):=by
 have sj:=h.j7;have rC:=h.lA
 constructor
 ·intro k hk;obtain⟨cs,hc⟩:=h.JM k hk;exact(aO.1 hc).1
 ·intro k hk;obtain⟨j,hj⟩:=cC.1 hk;have jp:=(bm.1 hj).1;obtain⟨_,hx⟩:=(h.kH j _ _ k (am (by omega)) (am (by omega)) hj).sr;exact(aO.1 hx).1
theorem Mz(s:ik)(sb ob:Nat)(gP iJ:List Nat)(cv ov:Value)(out:List (Int×Value))(gN:List (Int×List Int))(w:World)(h:iS w s sb gP iJ cv ov ob out gN)(hg:nx s.c)(hn:s.gG.length<=1000):
  Calls ae 121 #[ai (some ⟨sb,0,none⟩)] w fun e w'=>e=.returned (af ag (nP s))/\iS w' s sb gP iJ cv ov ob out gN/\Below w.heap.size w w':=by
 obtain⟨ao,li,hv⟩:=h.view;have h1:=hg.c1;have h3:=hg.c3;refine(ry s sb gP ao li w hv (by omega) (by omega) hn).mono ?_;rintro e w' ⟨rfl,n,rfl⟩;have hb:Below w.heap.size w (w.drewN n):=gK (Below.refl _ _) n;exact⟨rfl,h.below hb,hb⟩
theorem MI(s:ik)(addr gL size:Int)(tok:List Int)(sb ob:Nat)(tv fv:Value)(gP iJ:List Nat)(cv ov:Value)(out:List (Int×Value))(gN:List (Int×List Int))(w:World)(h:iS w s sb gP iJ cv ov ob out gN)(BE:kR s.gG gL=none)(ht:kv w tv tok)(hp:0<tok.length)(qE:qi s.c s.now addr tok=false)
  (hg:nx s.c) (ha:0<=addr/\addr<256) (hn:s.gG.length<=1000):
  Calls ae 157 #[ai (some ⟨sb,0,none⟩),af ag addr,af ag gL,tv,fv,af ag size] w fun e w'=>e=.returned (.tuple #[])/\Below w.heap.size w w':=by
 obtain⟨wa,li,jB⟩:=h.view;have kg:=nK s sb gP wa li gL w jB hn;rw[BE]at kg;have sV:Hid (Calls ae 158 #[ai (some ⟨sb,0,none⟩),af ag gL] w fun e w'=>e=.returned (ai none)/\w=w'):=kg;have zA:=AO s.c s.now addr sb tok tv w jB.cfg jB.now ht ha hg.c9;rw[qE]at zA;have Ur:=gE zA;obtain⟨Q3,tc,rfl⟩:=ht.form;have BI:=ht.2.1;have E0:=oP w;clear kg jB zA h hg ht;go_enter func157,ntmps157;go_wp2_with fail;refine sV.out.mono ?_;rintro e w1 ⟨rfl,rfl⟩;clear sV;go_wp2_with fail;refine Ur.out.mono ?_;rintro e w2 ⟨rfl,hb⟩;clear Ur;go_wp2_with fail;refine bodyPost_ret (results_none rfl _ _ _) rfl ?_;exact⟨rfl,hb⟩
theorem AP(s:ik)(addr gL size:Int)(sb ob:Nat)(Q3:Option Addr)(tc:Nat)(fv:Value)(gP iJ:List Nat)(cv ov:Value)(out:List (Int×Value))(gN:List (Int×List Int))(w:World)(h:iS w s sb gP iJ cv ov ob out gN)(BE:kR s.gG gL=none)(Sm:r_ s.gG<s.c.c5)(pw:nR s=true)
  (hg:nx s.c) (hn:s.gG.length<=1000):
  Calls ae 157 #[ai (some ⟨sb,0,none⟩),af ag addr,af ag gL,.slice Q3 0 tc,fv,af ag size] w fun e w'=>e=.returned (.tuple #[])/\Below w.heap.size w w':=by
 obtain⟨wa,li,jB⟩:=h.view;have kg:=nK s sb gP wa li gL w jB hn;rw[BE]at kg;have sV:Hid (Calls ae 158 #[ai (some ⟨sb,0,none⟩),af ag gL] w fun e w'=>e=.returned (ai none)/\w=w'):=kg;obtain⟨u,hu⟩:∃u,r_ s.gG=u:=⟨_,rfl⟩
 have F7:Hid (∀n,Calls ae 186 #[ai (some ⟨sb,0,none⟩)] (w.drewN n) fun e w'=>e=.returned (af ag u)/\w'=w.drewN n):=by
  intro n;have:=tZ s sb gP wa li (w.drewN n) (jB.drewN n) hn;rw[hu]at this;exact this.mono fun e w' h=>⟨h.1,h.2.symm⟩
 rw[hu]at Sm;have h1:=hg.c1;have h3:=hg.c3;have h8:=hg.c8;have h00:=hg.c0
 have yd:Hid (∀W,Below w.heap.size w W->Calls ae 121 #[ai (some ⟨sb,0,none⟩)] W fun e w'=>e=.returned (af ag (nP s))/\∃n,w'=W.drewN n):=by
  intro W hb;obtain⟨uZ,Li,Da⟩:=(h.below hb).view;exact ry s sb gP uZ Li W Da (by omega) (by omega) hn
 have Aj:Hid (∀W,Below w.heap.size w W->Calls ae 161 #[ai (some ⟨sb,0,none⟩)] W fun e w'=>e=.returned (af ag (jZ s.c))/\∃n,w'=W.drewN n):=by
  intro W hb;obtain⟨uZ,Li,Da⟩:=(h.below hb).view;exact uN s sb gP uZ Li W Da (by omega) (by omega)
 have mH:0<=jZ s.c/\jZ s.c<=5000:=by unfold jZ;omega
 have Az:0<=nP s/\nP s<=5000000:=by
  unfold nP;have hl:(s.gG.length:Int)<=1000:=by omega
  constructor
  ·exact Int.mul_nonneg (by omega) mH.1
  ·exact Int.le_trans (Int.mul_le_mul hl mH.2 mH.1 (by omega)) (by decide)
 have k0:w.cell? ⟨sb,0,none⟩= some (af ag s.c.c0):=jB.cfg 0 (by decide);have k5:w.cell? ⟨sb,5,none⟩= some (af ag s.c.c5):=jB.cfg 5 (by decide);have k8:w.cell? ⟨sb,8,none⟩= some (af ag s.c.c8):=jB.cfg 8 (by decide);have tS:=jB.cv;have E0:=oP w;obtain⟨OP,s8⟩:∃x,jZ s.c=x:=⟨_,rfl⟩;obtain⟨mem,kx⟩:∃x,nP s=x:=⟨_,rfl⟩
 have HFu:Hid ((decide (s.c.c0<=(s.gG.length:Int)) || decide (s.c.c8<mem+OP))=true):=by
  rw[<-kx,<-s8];exact pw
 rw[s8]at Aj mH;rw[kx]at yd Az;clear kg jB hu h hg s8 kx pw;obtain⟨Gx,Gy⟩:=mH;obtain⟨Pn,Po⟩:=Az;go_enter func157,ntmps157;go_wp2_with fail;refine sV.out.mono ?_;rintro e w1 ⟨rfl,rfl⟩;clear sV;go_wp2_with fail
 go_quiet ((go_at_call 186;exact cQ (F7.out _)))
 have lY:Below w.heap.size w (w.drewN nq):=gK (Below.refl _ _) _;generalize w.drewN nq=w0 at lY⊢;replace k0:=gF k0 lY;replace k5:=gF k5 lY;replace k8:=gF k8 lY;replace tS:=gF tS lY;have pQ:=gE lY;clear lY E0 F7;rcases bM s.gG.length s.c.c0 with jp|uV
 ·have hd:decide (s.c.c0<=(s.gG.length:Int))=false:=decide_eq_false (by omega)
  have hm:s.c.c8<mem+OP:=by
   have:=HFu.out;rw[hd]at this;simpa using this
  go_wp2_with fail
  go_quiet (first
   |(go_at_call 121;exact Calls.quiet_of (yd.out _ (gK pQ.out _)))
   |(go_at_call 161;exact Calls.quiet_of (Aj.out _ (gK pQ.out _))))
  go_wp2_with fail;refine bodyPost_ret (results_none rfl _ _ _) rfl ?_;exact⟨rfl,gK pQ.out _⟩
 ·have hd:decide (s.c.c0<=(s.gG.length:Int))=true:=decide_eq_true uV;go_wp2_with fail
  go_quiet (fail)
  go_wp2_with fail;refine bodyPost_ret (results_none rfl _ _ _) rfl ?_;exact⟨rfl,gK pQ.out _⟩
theorem Fh(jm:Int)(n:Nat):rk jm [] n=List.replicate n (jI jm):=by simp[rk]
def K_(ob:Nat)(gP iJ:List Nat)(cv:Value)(iW nw:List Nat)(ou:Value):Prop:=(∀k∈iW,k∈gP\/ob<=k)/\(∀k∈nw,k∈iJ\/ob<=k)/\∀k,ou.ownBlock=some k->cv.ownBlock=some k\/ob<=k
theorem K_.erase{iW nw:List Nat}(h:K_ ob gP iJ cv iW nw ou)(i:Nat):K_ ob gP iJ cv (iW.eraseIdx i) (nw.eraseIdx i) ou:=
 ⟨fun k hk=>h.1 k ((cV _ _).subset hk),fun k hk=>h.2.1 k ((cV _ _).subset hk),h.2.2⟩
theorem K_.refl(ob:Nat)(gP iJ:List Nat)(cv:Value):K_ ob gP iJ cv gP iJ cv:=⟨fun _ h=>a_ h,fun _ h=>a_ h,fun _ h=>a_ h⟩
theorem zQ{B1 B2 B3:Nat}{cv5 ZI QL:Value}{P Q:Prop}(h1:ob<=cb)(h2:ob<=sr)(h5:cv5.ownBlock=cv.ownBlock\/∀g,cv5.ownBlock=some g->B1<=g)(h6:P/\oY B2 cv5 ZI)(h7:Q/\oY B3 ZI QL)(b1:ob<=B1)(b2:ob<=B2)(b3:ob<=B3):K_ ob gP iJ cv (gP++[cb]) (iJ++[sr]) QL:=by
 refine⟨fun k hk=>?_,fun k hk=>?_,fun k hk=>?_⟩
 ·rcases bR.1 hk with h|h
  ·exact a_ h
  ·rw[List.mem_singleton.1 h];exact aV h1
 ·rcases bR.1 hk with h|h
  ·exact a_ h
  ·rw[List.mem_singleton.1 h];exact aV h2
 ·rcases h7.2 k hk with h|h
  ·rcases h6.2 k h with h|h
   ·rcases h5 with e|e
    ·rw[e]at h;exact a_ h
    ·exact aV (cw b1 (e k h))
   ·exact aV (cw b2 h)
  ·exact aV (cw b3 h)
theorem J0{w1 w2 w3 w4:World}{XI:Value}{c0:gZ}{jm:Int}{GL:Nat}{uq:List Value}(h:iS w1 s sb gP iJ cv ov ob out gN)
  (iT:Below w1.heap.size w1 w2) (rG:c0.runs=[]) (G:F2 w2 0 c0 w1.heap.size (aj none 0 0) (aj none 0 0) [] (rk jm [] GL) w3 Hm uq) (Ju:0<GL)
  (hg:w3.grownBy w4 cv.ownBlock) (ki:w4.ownsRow 0 244 1 XI (gP.length+1) (kF (gP++[w1.heap.size]))):
  ∃sr,w1.heap.size<sr/\iS (w4.setCell ⟨sb,11,none⟩ XI) {s with gG:=s.gG++[{c0 with gJ:=rk jm [] GL}]} sb (gP++[w1.heap.size]) (iJ++[sr]) XI ov ob out gN/\ip (fun k=>k=sb\/cv.ownBlock=some k) w1 (w4.setCell ⟨sb,11,none⟩ XI):=by
 have Fq:(rk jm [] GL).length=GL:=by simp[rk]
 have kE:=G.row;have sZ:=G.kH;obtain⟨so,kN,rfl⟩:=iA kE;obtain⟨_,⟨e1,_⟩|⟨sr,n_,cur,e1,_,Ej,_⟩⟩:=id kE
 ·simp only[Value.slice.injEq]at e1;omega
 ·simp only[Value.slice.injEq]at e1;obtain⟨rfl,_,rfl⟩:=e1
  have mw:Below w1.heap.size w1 w3:=by
   refine⟨G.iO.os.trans iT.os,G.iO.tape.trans iT.tape,G.iO.output.trans iT.output,cw iT.size G.iO.size,fun k hk=>?_⟩;rw[G.iO.block k (Nat.lt_of_lt_of_le hk iT.size) (by rintro(rfl|h5);omega;simp[ax]at h5)];exact iT.block k hk
  have h3:=h.below mw;have XZ:=(aO.1 sZ).1;have ad8:=(aO.1 Ej).1
  have YM:w1.heap.size<sr:=by
   rcases Nat.lt_trichotomy w1.heap.size sr with h1|h1|h1
   ·exact h1
   ·subst h1;rw[sZ]at Ej;simp at Ej
   ·have:=G.yB sr rfl (Nat.lt_of_lt_of_le h1 iT.size);simp[ax]at this
  have adj:sb<w3.heap.size:=(aO.1 h3.lf).1;have rQ:=gO h3.row h3.lf (by decide);have uC:=gO h3.row sZ (by decide);have QX:w4.heap[sb]? =_:=(hg.block sb adj (Ne.symm rQ)).trans h3.lf
  have CX:ip (fun k=>k=sb\/cv.ownBlock=some k) w3 (w4.setCell ⟨sb,11,none⟩ XI):=by
   refine⟨hg.os,hg.tape,hg.output,by rw[World.size_setCell];exact hg.size,fun q hq hn=>?_⟩;rw[heap_setCell_other _ _ _ _ (fun e=>hn (a_ e)),hg.block q hq (fun e=>hn (aV e.symm))]
  have ka:∀{e:TypeId},e≠242->e≠244->∀k cur fr,w3.heap[k]? =some (.cells cur e fr)->¬(k=sb\/cv.ownBlock=some k):=by
   rintro e h1 h2 k cur fr hk (rfl|h5)
   ·rw[h3.lf]at hk;simp only[Option.some.injEq,Obj.cells.injEq]at hk;exact h1 hk.2.1.symm
   ·exact gO h3.row hk (fun e=>h2 e.symm) h5
  have oM:=h.fresh;refine⟨sr,YM,h3.snoc CX ((gQ QX 11 _).trans rfl) (ownsRow_setCell_other ki (gO ki QX (by decide)) _) (fun hm=>by have:=oM.1 _ hm;omega) (fun hm=>by have:=oM.2 _ hm;omega) ?_,?_⟩
  ·refine⟨aj none 0 0,kN,uq,?_,?_,G.len,jg kE CX (fun g Il=>?_),fun i x bv hx kI=>?_⟩
   ·rw[CX.block _ XZ (ka (by decide) (by decide) _ _ _ sZ)];exact sZ
   ·show Ro _ _ _ c0.runs.length (iU c0.runs);rw[rG];exact Ro.nil _ _
   ·simp only[ax,Option.some.injEq]at Il;subst Il;exact ka (by decide) (by decide) _ _ _ Ej
   ·simp only[Fh]at hx;have NU:=bT hx;rw[List.mem_replicate]at NU;rw[G.news]at kI;have DT:=bT kI;simp only[List.nil_append,List.mem_replicate]at DT;rw[NU.2,DT.2];exact Ro.nil _ _
  ·exact(ip.gS mw).trans CX
end Go.Proofs.YthmdjhlhodpbhaaGreatDoor
