/- Comes, part 16 -/
import Derived.Test.YthmdjhlhodpbhaaGreatDoorM15
set_option maxHeartbeats 16000000
set_option maxRecDepth 8000
namespace Go.Proofs.YthmdjhlhodpbhaaGreatDoor
open Go.RowKit
open _root_.List renaming getElem?_eq_getElem → am, mem_of_getElem? → bT, length_append → aT, getElem?_eq_some_iff → bm, length_eq_zero_iff → dI, drop_drop → dY, eraseIdx_sublist → cV, countP_le_length → ej, getD → aQ
open _root_.Or renaming inl → a_, inr → aV
open Go.World renaming cell? → aX, ownsRow_nil → aq
open _root_.Nat renaming zero_le → aI, le_trans → cw, le_refl → ay, add_assoc → dz
open Go.Calls renaming quiet_of → d_
open Go.Value renaming ownBlock → ax
open _root_.Array renaming getElem?_eq_some_iff → aO
open Go.Instr renaming slice → dA
open Go.IntKind renaming wrap_i64 → di
open _root_.Int renaming mul_nonneg → ec, mul_le_mul → ef, le_trans → er
open _root_.Bool renaming or_eq_false_iff → eq
open _root_.Classical renaming not_not → ew
open _root_.Go.Proofs.Tryz
open _root_.Go.Proofs.Tryz renaming prog → ae
open Go.Value renaming int → af, slice → aj, pointer → ai
open Go.IntKind renaming i64 → ag
variable {w w':World}{s:ik}{b l:List Int}{Z:Nat->Prop}{addr gL M size num L:Int}{gN:List (Int×List Int)}{v cv ov:Value}{c:gZ}{sb N k ob:Nat}{gP iJ:List Nat}{out:List (Int×Value)}
theorem rM(g:jG)(c:gZ):(ir g c).length<=17/\0<(ir g c).length:=by
 unfold ir;have h1:=jS (kc g.c9 c.addr c.gL);have h2:=jS g.c1;have h3:=jS g.c2;have h4:=jS g.c3;rw[aT,aT,aT,aT,show([20]:List Int).length=1 from rfl];omega
theorem JT{f:List Int}(h:ke M c)(hs:c.jb+5+f.length<=M):ke M (jK c f)/\(jK c f).gL=c.gL:=by
 unfold jK
 split
 ·have h1:=jS c.gL
  have hl:(kK c.gL f).length<=5+f.length:=by
   unfold kK;rw[aT,aT,show([4]:List Int).length=1 from rfl];omega
  have h2:=h.jb;exact⟨⟨h.gL,h.addr,h.jc,⟨by simp only;omega,by simp only;omega⟩,h.heard,h.runs,h.gM,h.p_,h.str⟩,rfl⟩
 ·exact⟨h,rfl⟩
theorem JY{ok:Bool}(hg:nx s.c)(hM:0<=M)(ha:0<=addr/\addr<256)(kb:0<=gL/\gL<=1073741823)(ku:0<=size/\size<=M)(td:0<=s.now/\s.now<=1000000000):ke M (jL s gL addr size ok):=by
 have h1:=hg.c1;have h2:=hg.c2;have h3:=hg.c3;have hl:(rk s.c.c2 [] s.c.c3.toNat).length=s.c.c3.toNat:=by simp[rk]
 refine⟨kb,ha,ku,⟨Int.le_refl _,hM⟩,td,⟨by simp[jL,my],fun r hr=>by simp[jL,my]at hr⟩,⟨by simp only[jL,my];omega,by simp only[jL,my];omega⟩,⟨by simp only[jL];omega,by simp only[jL];omega⟩,fun x hx=>?_⟩;simp only[jL,Fh]at hx;rw[(List.mem_replicate.1 hx).2];exact⟨by simp[jI],by simp[jI],by simp[jI],⟨by simp only[jI];omega,by simp only[jI];omega⟩,by simp[jI]⟩
theorem wC{l:List gZ}(h:kR l gL=none):gL∉l.map (·.gL):=by
 unfold kR at h;rw[List.findIdx?_eq_none_iff]at h;intro hm;obtain⟨c,hc,rfl⟩:=List.mem_map.1 hm;have:=h c hc;simp at this
theorem AR(s:ik)(addr gL size:Int)(b:List Int)(N:Nat)(sb ob:Nat)(Q3:Option Addr)(tc:Nat)(fv:Value)(gP iJ:List Nat)(cv ov:Value)(out:List (Int×Value))(gN:List (Int×List Int))(w:World)(h:iS w s sb gP iJ cv ov ob out gN)(BE:kR s.gG gL=none)(Sm:r_ s.gG<s.c.c5)(mJ:nR s=false)
  (hg:nx s.c) (hn:s.gG.length<=990) {M:Int} (hM:M<=1125899906842624) (ha:0<=addr/\addr<256) (kb:0<=gL/\gL<=1073741823) (ku:0<=size/\size<=M) (td:0<=s.now/\s.now<=1000000000) (hl:0<=s.last/\s.last<=1125899906842000) (tz:(s.gG.map (·.gL)).Nodup) {Z:Nat->Prop} (hZ:wg Z sb gP iJ ob) (RV:∀k,Z k->cv.ownBlock≠some k) (hr:o9 Z w fv b) (qQ:b.length<=1073741823) (hN:b.length<=N) (Eh:ob<=w.heap.size) (Ca:gN.length<=999999) (hMM:1000<=M):
  Calls ae 157 #[ai (some ⟨sb,0,none⟩),af ag addr,af ag gL,.slice Q3 0 tc,fv,af ag size] w fun e w'=>e=.returned (.tuple #[])/\∃iW nw ou su mr,iS w' (uK s gL addr size b N gN).1 sb iW nw ou su ob mr (uK s gL addr size b N gN).2/\ip (fun k=>k=sb\/cv.ownBlock=some k\/ob<=k) w w'/\K_ ob gP iJ cv iW nw ou:=by
 obtain⟨wa,li,jB⟩:=h.view;have kg:=nK s sb gP wa li gL w jB (by omega);rw[BE]at kg;have sV:Hid (Calls ae 158 #[ai (some ⟨sb,0,none⟩),af ag gL] w fun e w'=>e=.returned (ai none)/\w=w'):=kg;obtain⟨u,hu⟩:∃u,r_ s.gG=u:=⟨_,rfl⟩
 have F7:Hid (∀n,Calls ae 186 #[ai (some ⟨sb,0,none⟩)] (w.drewN n) fun e w'=>e=.returned (af ag u)/\w'=w.drewN n):=by
  intro n;have:=tZ s sb gP wa li (w.drewN n) (jB.drewN n) (by omega);rw[hu]at this;exact this.mono fun e w' h=>⟨h.1,h.2.symm⟩
 rw[hu]at Sm;have h1:=hg.c1;have h3:=hg.c3;have h8:=hg.c8;have h00:=hg.c0
 have yd:Hid (∀W,Below w.heap.size w W->Calls ae 121 #[ai (some ⟨sb,0,none⟩)] W fun e w'=>e=.returned (af ag (nP s))/\∃n,w'=W.drewN n):=by
  intro W hb;obtain⟨uZ,Li,Da⟩:=(h.below hb).view;exact ry s sb gP uZ Li W Da (by omega) (by omega) (by omega)
 have Aj:Hid (∀W,Below w.heap.size w W->Calls ae 161 #[ai (some ⟨sb,0,none⟩)] W fun e w'=>e=.returned (af ag (jZ s.c))/\∃n,w'=W.drewN n):=by
  intro W hb;obtain⟨uZ,Li,Da⟩:=(h.below hb).view;exact uN s sb gP uZ Li W Da (by omega) (by omega)
 have mH:0<=jZ s.c/\jZ s.c<=5000:=by unfold jZ;omega
 have Az:0<=nP s/\nP s<=5000000:=by
  unfold nP;have hl:(s.gG.length:Int)<=1000:=by omega
  constructor
  ·exact ec (by omega) mH.1
  ·exact er (ef hl mH.2 mH.1 (by omega)) (by decide)
 have k0:w.cell? ⟨sb,0,none⟩= some (af ag s.c.c0):=jB.cfg 0 (by decide);have k5:w.cell? ⟨sb,5,none⟩= some (af ag s.c.c5):=jB.cfg 5 (by decide);have k8:w.cell? ⟨sb,8,none⟩= some (af ag s.c.c8):=jB.cfg 8 (by decide);have tS:=jB.cv;have E0:=oP w;obtain⟨OP,s8⟩:∃x,jZ s.c=x:=⟨_,rfl⟩;obtain⟨mem,kx⟩:∃x,nP s=x:=⟨_,rfl⟩
 have L2:(s.gG.length:Int)<s.c.c0/\mem+OP<=s.c.c8:=by
  unfold nR at mJ;rw[kx,s8]at mJ;simp only[eq,decide_eq_false_iff_not]at mJ;omega
 obtain⟨ac',ac_⟩:=L2;have k1:w.cell? ⟨sb,1,none⟩= some (af ag s.c.c1):=jB.cfg 1 (by decide);have k2:w.cell? ⟨sb,2,none⟩= some (af ag s.c.c2):=jB.cfg 2 (by decide);have k3:w.cell? ⟨sb,3,none⟩= some (af ag s.c.c3):=jB.cfg 3 (by decide);have yZ:w.cell? ⟨sb,10,none⟩= some (af ag s.now):=jB.now;have HH:=gE h;have HG:=gE hg;have A7:=gE hr;have HZ:=gE hZ;have HZv:=gE RV;have Xr:=gE tz;rw[s8]at Aj mH;rw[kx]at yd Az;clear kg jB hu h hg s8 kx mJ hr hZ RV tz;obtain⟨Gx,Gy⟩:=mH;obtain⟨Pn,Po⟩:=Az;go_enter func157,ntmps157;go_wp2_with fail;refine sV.out.mono ?_;rintro e w1 ⟨rfl,rfl⟩;clear sV;go_wp2_with fail
 go_quiet ((go_at_call 186;exact Calls.quiet_of_same (F7.out _)))
 have lY:Below w.heap.size w (w.drewN nq):=gK (Below.refl _ _) _;generalize w.drewN nq=w0 at lY⊢;replace k0:=gF k0 lY;replace k1:=gF k1 lY;replace k2:=gF k2 lY;replace k3:=gF k3 lY;replace yZ:=gF yZ lY;replace k5:=gF k5 lY;replace k8:=gF k8 lY;replace tS:=gF tS lY;have pQ:=gE lY;clear lY E0 F7;have hd:decide (s.c.c0<=(s.gG.length:Int))=false:=decide_eq_false (by omega);go_wp2_with fail
 go_quiet (first
  |(go_at_call 121;exact d_ (yd.out _ (gK pQ.out _)))
  |(go_at_call 161;exact d_ (Aj.out _ (gK pQ.out _))))
 have pW:=gK pQ.out nq;have kj:Below w0.heap.size w0 (w0.drewN nq):=gK (Below.refl _ _) _;generalize w0.drewN nq=w1 at pW kj⊢;replace k1:=gF k1 kj;replace k2:=gF k2 kj;replace k3:=gF k3 kj;replace yZ:=gF yZ kj;replace tS:=gF tS kj;have nB:=gE pW;clear pW kj pQ k0 k5 k8 hd yd Aj
 go_upto_region 18 with fail
 go_region
 have qs:(w1.alloc (.cells #[af ag gL,af ag addr,.bool false,af ag size,af ag 0,af ag s.now,af ag 0,aj none 0 0,af ag s.c.c1,aj none 0 0,af ag 0] 249)).drew.heap[w1.heap.size]? =some (.cells (il (my gL addr false size s.now s.c.c1) (aj none 0 0) (aj none 0 0)) 249 (0,0)):=heap_alloc_new w1 _
 have iT:Below w1.heap.size w1 (w1.alloc (.cells #[af ag gL,af ag addr,.bool false,af ag size,af ag 0,af ag s.now,af ag 0,aj none 0 0,af ag s.c.c1,aj none 0 0,af ag 0] 249)).drew:=by
  have hx:=gH w1 (.cells #[af ag gL,af ag addr,.bool false,af ag size,af ag 0,af ag s.now,af ag 0,aj none 0 0,af ag s.c.c1,aj none 0 0,af ag 0] 249);exact⟨hx.os,hx.tape,hx.output,hx.size,hx.block⟩
 generalize (w1.alloc (.cells #[af ag gL,af ag addr,.bool false,af ag size,af ag 0,af ag s.now,af ag 0,aj none 0 0,af ag s.c.c1,aj none 0 0,af ag 0] 249)).drew=w2 at qs iT⊢;obtain⟨GL,Ju⟩:∃GL:Nat,s.c.c3=GL:=⟨s.c.c3.toNat,by omega⟩;replace k2:=gF k2 iT;replace k3:=gF k3 iT;rw[Ju]at k3;have Xl:=gE Ju;have hlr:1<=GL/\GL<=8:=by omega
 clear Ju h3;have yY:sb<w1.heap.size:=jh tS;have HGr:=gE (FJ (my gL addr false size s.now s.c.c1) s.c.c2 GL sb w1.heap.size 0 (aj none 0 0) (aj none 0 0) [] w2 k2 qs (aq _ _ _ _) rfl (aI _) (by omega) (by omega) (by simp[ax]) (aI _));have mc:=gE iT;clear iT qs;go_wp2_with fail;refine HGr.out.mono ?_;rintro e w3 ⟨rfl,Hm,uq,G⟩;clear HGr;have SJ:=(HH.out.below nB.out).lf
 have zy:cv=.slice wa s.gG.length li:=by
  have:w1.cell? ⟨sb,11,none⟩= some cv:=by simp[aX,SJ,ij,jG.cells]
  rw[tS]at this;exact(Option.some.inj this).symm
 subst zy
 have mw:Below w1.heap.size w1 w3:=by
  refine⟨G.iO.os.trans mc.out.os,G.iO.tape.trans mc.out.tape,G.iO.output.trans mc.out.output,cw mc.out.size G.iO.size,fun k hk=>?_⟩;rw[G.iO.block k (Nat.lt_of_lt_of_le hk mc.out.size) (by rintro(rfl|h5);omega;simp[ax]at h5)];exact mc.out.block k hk
 have QK:=gE mw.size;have Ba:=(HH.out.below nB.out).below mw;have YT:=gF tS mw;have i8:=HH.out.j7;have yV:=gO Ba.row Ba.lf (by decide);have YJ:sb<w3.heap.size:=jh YT;obtain⟨i0,nO,mB,kS,ln⟩:=info_parts vk;have Xi:=gE G;have KK:=gE Ba;clear G mw Ba tS yZ k1 k2 k3;obtain⟨v4,w4,JC,ki,C0,RY⟩:=lJ (P:=ae) (w3.alloc (.cells #[ai (some ⟨w1.heap.size,0,none⟩)] 244)) 0 240 240 244 i0 (ai none) 1 8 underlying240 nO mB kS ln rfl (by decide) (.slice wa s.gG.length li) gP.length (kF gP) (KK.out.row.alloc _) ⟨w3.heap.size,0,none⟩ 1 1 [ai (some ⟨w1.heap.size,0,none⟩)] rfl (iZ w3 244 [ai (some ⟨w1.heap.size,0,none⟩)] (by simp[maxLen])) (by simp[Value.oneCell']) (by unfold maxLen;omega) (by omega) (aI _);have Rl:=gE JC;have Q7:=gE RY;clear JC RY
 go_wp2_with (first
  |(at_builtin;refine iY rfl _ _ 240 240 rfl _ _ rfl rfl Rl.out ?_;refine Hid.out ?_))
 refine gE ?_;have pY:=gU C0;obtain⟨YU,YW,rfl⟩:=i7 ki;have QX:=(pY.block sb YJ (Ne.symm yV)).trans KK.out.lf;have ZH:w4.cell? ⟨sb,11,none⟩= some (.slice wa s.gG.length li):=by simp[aX,QX,ij,jG.cells]
 have z11:w4.frozen? ⟨sb,11,none⟩= false:=frozen_of_row w4 sb 11 _ _ QX;have hpt:kF gP++[ai (some ⟨w1.heap.size,0,none⟩)]=kF (gP++[w1.heap.size]):=by simp[kF,AN]
 rw[hpt]at ki;have HOm:=gE (J0 (c0:=my gL addr false size s.now s.c.c1) (HH.out.below nB.out) mc.out rfl Xi.out (by omega) pY ki);clear pY C0 ki QX Xi KK yV hpt;go_wp2_with fail;obtain⟨sr,YM,Ea,Aw⟩:=HOm.out;clear HOm;rw[i8]at Ea Aw;generalize w4.setCell ⟨sb,11,none⟩ (.slice YU (s.gG.length+1) YW)=w5 at Ea Aw⊢
 have Su:{my gL addr false size s.now s.c.c1 with gJ:=rk s.c.c2 [] GL}=jL s gL addr size false:=by
  unfold jL;rw[Xl.out]
  rfl
 rw[Su]at Ea;have GG:=JY (M:=M) (ok:=false) HG.out (by omega) ha kb ku td;obtain⟨c,CW⟩:∃c,jL s gL addr size false=c:=⟨_,rfl⟩;have zx:c.gL=gL:=by rw[<-CW];rfl
 have lF:c.jb=0:=by rw[<-CW];rfl
 rw[CW]at Ea GG
 have HOS:Hid (uK s gL addr size b N gN=ji {s with gG:=(s.gG++[c]).set s.gG.length (jK c (ir s.c c))} s.gG.length b (kB c (ir s.c c) gN) N):=by
  show _=_;unfold uK;rw[CW]
 clear Su CW;have Vb:(s.gG++[c])[s.gG.length]? =some c:=by simp
 have Gw:(gP++[w1.heap.size])[s.gG.length]? =some w1.heap.size:=by rw[<-i8];simp
 have GI:(iJ++[sr])[s.gG.length]? =some sr:=by rw[<-HH.out.lA];simp
 have ade:=Aw.size;have YG:=nB.out.size;have HWe:=gE (w_ {s with gG:=s.gG++[c]} s.gG.length c sb w1.heap.size sr ob _ _ _ ov out gN w5 Ea Vb Gw GI HG.out (by omega) GG hM (by omega));have ZB:=gE Ea;have Oj:=gE Aw;clear Ea Aw;refine HWe.out.mono ?_;rintro e w6 ⟨rfl,ZI,ov6,Y_,TW,rF,Vg⟩;have HL6:=gE Vg
 have Q8:Hid ((.slice YU (s.gG.length+1) YW:Value).ownBlock=(.slice wa s.gG.length li:Value).ownBlock\/∀g,(.slice YU (s.gG.length+1) YW:Value).ownBlock=some g->w3.heap.size<=g):=by
  have h0:=Q7.out;rw[i8]at h0;exact h0.imp id fun h g hg=>cw (by simp) (h g hg)
 clear Vg Q7;clear HWe;have QZ:=rM s.c c;obtain⟨AA,Sa⟩:=JT (f:=ir s.c c) GG (by rw[lF];omega)
 have Yv:(kB c (ir s.c c) gN).length<=1000000:=by
  unfold kB
  split
  ·rw[aT];simp;omega
  ·omega
 have Sq:(((s.gG++[c]).set s.gG.length (jK c (ir s.c c))).map (·.gL)).Nodup:=by
  rw[mn Vb Sa,List.map_append,List.nodup_append];refine⟨Xr.out,by simp,fun x hx y hy=>?_⟩;simp at hy;subst hy;rintro rfl;rw[zx]at hx;exact wC BE hx
 have ZP:wg Z sb (gP++[w1.heap.size]) (iJ++[sr]) ob:=HZ.out.snoc (by omega) (by omega)
 have hr6:o9 Z w6 fv b:=by
  refine((A7.out.below nB.out).iO Oj.out (fun k hk=>?_)).iO rF (xm ZP Gw GI);rintro(h|h5)
  ·exact(HZ.out k hk).2.1 h
  ·exact HZv.out k hk h5
 have adg:=rF.size;have sg:=gE (yE {s with gG:=(s.gG++[c]).set s.gG.length (jK c (ir s.c c))} s.gG.length (jK c (ir s.c c)) b N sb w1.heap.size sr ob fv _ _ ZI ov6 Y_ _ w6 TW (getElem?_set_at Vb) Gw GI HG.out AA hM hl (by simp;omega) Sq ZP hr6 qQ hN (by omega) Yv)
 have CT:∀k,tf sb w1.heap.size sr ob k->(k=sb\/(.slice wa s.gG.length li:Value).ownBlock=some k\/ob<=k):=by
  rintro k (h|h|h|h)
  ·exact a_ h
  ·exact aV (aV (by omega))
  ·exact aV (aV (by omega))
  ·exact aV (aV h)
 have TK:Hid (ip (fun k=>k=sb\/(.slice wa s.gG.length li:Value).ownBlock=some k\/ob<=k) w w6):=by
  refine((ip.gS nB.out).trans (Oj.out.mono fun k _ hk=>?_)).trans (rF.mono fun k _ hk=>CT k hk);rcases hk with h|h
  ·exact a_ h
  ·exact aV (a_ h)
 have EZ:=gE CT;clear TW rF hr6 Sq CT AA GG ZB Oj;obtain⟨fao,aaE,rfl,_⟩:=A7.out.2;go_wp2_with fail;refine sg.out.mono ?_;rintro e w7 ⟨rfl,si⟩;clear sg;have Zu:=gE si;clear si;go_wp2_with fail
 go_end0
 refine⟨rfl,?_⟩;rw[HOS.out];have JK:=QK.out;rcases Zu.out with⟨QL,VD,GR,TX,yq,Vh⟩|⟨QL,VD,GR,TX,yq,Vh⟩
 ·exact⟨_,_,QL,VD,GR,TX,TK.out.trans (yq.mono fun k _ hk=>EZ.out k hk),zQ (by omega) (by omega) Q8.out HL6.out Vh (by omega) (by omega) (by omega)⟩
 ·exact⟨_,_,QL,VD,GR,TX,TK.out.trans (yq.mono fun k _ hk=>EZ.out k hk),(zQ (by omega) (by omega) Q8.out HL6.out Vh (by omega) (by omega) (by omega)).erase _⟩
theorem MK(s:ik)(i:Nat)(c:gZ)(sb cb sr ob:Nat)(gP iJ:List Nat)(cv ov:Value)(out:List (Int×Value))(gN:List (Int×List Int))(w:World)(hA:iS w s sb gP iJ cv ov ob out gN)(hi:s.gG[i]? =some c)(jJ:gP[i]? =some cb)(lj:iJ[i]? =some sr)(hl:0<=s.last/\s.last<=1125899906842624):
  Calls ae 188 #[ai (some ⟨sb,0,none⟩),ai (some ⟨cb,0,none⟩)] w fun e w'=>e=.returned (.tuple #[])/\iS w' (wV s i c) sb gP iJ cv ov ob out gN/\ip (tf sb cb sr ob) w w':=by
 have RS:=hA.kH i c cb sr hi jJ lj;obtain⟨d,vO⟩:=RS.sr;obtain⟨N7,kN,nk,hh,hr,T7,ho,hb⟩:=RS;refine(Bl s c sb cb cv ov N7 _ w hA.lf hh hl).mono ?_;rintro e w' ⟨rfl,kq,h1,h2⟩
 have rn:ip (zb sb cb sr ov) w w':=kq.mono fun k _ hk=>by
  rcases hk with h|h
  ·exact a_ h
  ·exact aV (a_ h)
 have ka:=fun {e:TypeId} h1 h2 h3 h4=>qK (e:=e) hA.lf hh vO hA.ng h1 h2 h3 h4
 refine⟨rfl,?_,rn.call hA.ng⟩;have C':iJ=iJ.set i sr:=(jw lj).symm;rw[C'];refine hA.Ub hi jJ lj rn rfl h1 (jg hA.ng kq (fun g hg=>?_)) (hA.ur.iO rn (ka (by decide) (by decide) (by decide) (by decide))) ⟨N7,kN,nk,h2,hr.iO rn (ka (by decide) (by decide) (by decide) (by decide)),T7,jg ho kq (fun g hg=>?_),fun j x bv hx kI=>(hb j x bv hx kI).iO rn (ka (by decide) (by decide) (by decide) (by decide))⟩ (a_ rfl)
 ·rintro(rfl|rfl)
  ·exact gO hA.ng hA.lf (by decide) hg
  ·exact gO hA.ng hh (by decide) hg
 ·simp only[ax,Option.some.injEq]at hg;subst hg;rintro(rfl|rfl)
  ·rw[hA.lf]at vO;simp at vO
  ·rw[hh]at vO;simp at vO
theorem AU(s:ik)(addr gL size:Int)(b:List Int)(N:Nat)(sb ob:Nat)(tok:List Int)(tv fv:Value)(gP iJ:List Nat)(cv ov:Value)(out:List (Int×Value))(gN:List (Int×List Int))(w:World)(h:iS w s sb gP iJ cv ov ob out gN)(BE:kR s.gG gL=none)(ht:kv w tv tok)(hp:0<tok.length)(zA:qi s.c s.now addr tok=true)(mJ:nR s=false)
  (hg:nx s.c) (hn:s.gG.length<=990) {M:Int} (hM:M<=1125899906842624) (ha:0<=addr/\addr<256) (kb:0<=gL/\gL<=1073741823) (ku:0<=size/\size<=M) (td:0<=s.now/\s.now<=1000000000) (hl:0<=s.last/\s.last<=1125899906841000) (tz:(s.gG.map (·.gL)).Nodup) {Z:Nat->Prop} (hZ:wg Z sb gP iJ ob) (RV:∀k,Z k->cv.ownBlock≠some k) (hr:o9 Z w fv b) (qQ:b.length<=1073741823) (hN:b.length<=N) (Eh:ob<=w.heap.size) (Ca:gN.length<=999999) (hMM:1000<=M):
  Calls ae 157 #[ai (some ⟨sb,0,none⟩),af ag addr,af ag gL,tv,fv,af ag size] w fun e w'=>e=.returned (.tuple #[])/\∃iW nw ou su mr,iS w' (uJ s gL addr size b N gN).1 sb iW nw ou su ob mr (uJ s gL addr size b N gN).2/\ip (fun k=>k=sb\/cv.ownBlock=some k\/ob<=k) w w'/\K_ ob gP iJ cv iW nw ou:=by
 obtain⟨wa,li,jB⟩:=h.view;have kg:=nK s sb gP wa li gL w jB (by omega);rw[BE]at kg;have sV:Hid (Calls ae 158 #[ai (some ⟨sb,0,none⟩),af ag gL] w fun e w'=>e=.returned (ai none)/\w=w'):=kg;have sJ:=AO s.c s.now addr sb tok tv w jB.cfg jB.now ht ha hg.c9;rw[zA]at sJ;have Ur:=gE sJ;obtain⟨Q3,tc,rfl⟩:=ht.form;have BI:=ht.2.1;have h1:=hg.c1;have h3:=hg.c3;have h8:=hg.c8;have h00:=hg.c0
 have yd:Hid (∀W,Below w.heap.size w W->Calls ae 121 #[ai (some ⟨sb,0,none⟩)] W fun e w'=>e=.returned (af ag (nP s))/\∃n,w'=W.drewN n):=by
  intro W hb;obtain⟨uZ,Li,Da⟩:=(h.below hb).view;exact ry s sb gP uZ Li W Da (by omega) (by omega) (by omega)
 have Aj:Hid (∀W,Below w.heap.size w W->Calls ae 161 #[ai (some ⟨sb,0,none⟩)] W fun e w'=>e=.returned (af ag (jZ s.c))/\∃n,w'=W.drewN n):=by
  intro W hb;obtain⟨uZ,Li,Da⟩:=(h.below hb).view;exact uN s sb gP uZ Li W Da (by omega) (by omega)
 have mH:0<=jZ s.c/\jZ s.c<=5000:=by unfold jZ;omega
 have Az:0<=nP s/\nP s<=5000000:=by
  unfold nP;have hl:(s.gG.length:Int)<=1000:=by omega
  constructor
  ·exact ec (by omega) mH.1
  ·exact er (ef hl mH.2 mH.1 (by omega)) (by decide)
 have k0:w.cell? ⟨sb,0,none⟩= some (af ag s.c.c0):=jB.cfg 0 (by decide);have k5:w.cell? ⟨sb,5,none⟩= some (af ag s.c.c5):=jB.cfg 5 (by decide);have k8:w.cell? ⟨sb,8,none⟩= some (af ag s.c.c8):=jB.cfg 8 (by decide);have tS:=jB.cv;have E0:=oP w;obtain⟨OP,s8⟩:∃x,jZ s.c=x:=⟨_,rfl⟩;obtain⟨mem,kx⟩:∃x,nP s=x:=⟨_,rfl⟩
 have L2:(s.gG.length:Int)<s.c.c0/\mem+OP<=s.c.c8:=by
  unfold nR at mJ;rw[kx,s8]at mJ;simp only[eq,decide_eq_false_iff_not]at mJ;omega
 obtain⟨ac',ac_⟩:=L2;have k1:w.cell? ⟨sb,1,none⟩= some (af ag s.c.c1):=jB.cfg 1 (by decide);have k2:w.cell? ⟨sb,2,none⟩= some (af ag s.c.c2):=jB.cfg 2 (by decide);have k3:w.cell? ⟨sb,3,none⟩= some (af ag s.c.c3):=jB.cfg 3 (by decide);have yZ:w.cell? ⟨sb,10,none⟩= some (af ag s.now):=jB.now;have HH:=gE h;have HG:=gE hg;have A7:=gE hr;have HZ:=gE hZ;have HZv:=gE RV;have Xr:=gE tz;rw[s8]at Aj mH;rw[kx]at yd Az;clear kg jB sJ h hg s8 kx mJ hr hZ RV tz ht zA;obtain⟨Gx,Gy⟩:=mH;obtain⟨Pn,Po⟩:=Az;go_enter func157,ntmps157;go_wp2_with fail;refine sV.out.mono ?_;rintro e w1 ⟨rfl,rfl⟩;clear sV;go_wp2_with fail;refine Ur.out.mono ?_;rintro e w0 ⟨rfl,lY⟩;clear Ur;replace k0:=gF k0 lY;replace k1:=gF k1 lY;replace k2:=gF k2 lY;replace k3:=gF k3 lY;replace yZ:=gF yZ lY;replace k5:=gF k5 lY;replace k8:=gF k8 lY;replace tS:=gF tS lY;have pQ:=gE lY;clear lY E0;have hd:decide (s.c.c0<=(s.gG.length:Int))=false:=decide_eq_false (by omega);go_wp2_with fail
 go_quiet (first
  |(go_at_call 121;exact d_ (yd.out _ (gK pQ.out _)))
  |(go_at_call 161;exact d_ (Aj.out _ (gK pQ.out _))))
 have pW:=gK pQ.out nq;have kj:Below w0.heap.size w0 (w0.drewN nq):=gK (Below.refl _ _) _;generalize w0.drewN nq=w1 at pW kj⊢;replace k1:=gF k1 kj;replace k2:=gF k2 kj;replace k3:=gF k3 kj;replace yZ:=gF yZ kj;replace tS:=gF tS kj;have nB:=gE pW;clear pW kj pQ k0 k5 k8 hd yd Aj
 go_upto_region 18 with fail
 go_region
 have qs:(w1.alloc (.cells #[af ag gL,af ag addr,.bool true,af ag size,af ag 0,af ag s.now,af ag 0,aj none 0 0,af ag s.c.c1,aj none 0 0,af ag 0] 249)).drew.heap[w1.heap.size]? =some (.cells (il (my gL addr true size s.now s.c.c1) (aj none 0 0) (aj none 0 0)) 249 (0,0)):=heap_alloc_new w1 _
 have iT:Below w1.heap.size w1 (w1.alloc (.cells #[af ag gL,af ag addr,.bool true,af ag size,af ag 0,af ag s.now,af ag 0,aj none 0 0,af ag s.c.c1,aj none 0 0,af ag 0] 249)).drew:=by
  have hx:=gH w1 (.cells #[af ag gL,af ag addr,.bool true,af ag size,af ag 0,af ag s.now,af ag 0,aj none 0 0,af ag s.c.c1,aj none 0 0,af ag 0] 249);exact⟨hx.os,hx.tape,hx.output,hx.size,hx.block⟩
 generalize (w1.alloc (.cells #[af ag gL,af ag addr,.bool true,af ag size,af ag 0,af ag s.now,af ag 0,aj none 0 0,af ag s.c.c1,aj none 0 0,af ag 0] 249)).drew=w2 at qs iT⊢;obtain⟨GL,Ju⟩:∃GL:Nat,s.c.c3=GL:=⟨s.c.c3.toNat,by omega⟩;replace k2:=gF k2 iT;replace k3:=gF k3 iT;rw[Ju]at k3;have Xl:=gE Ju;have hlr:1<=GL/\GL<=8:=by omega
 clear Ju h3;have yY:sb<w1.heap.size:=jh tS;have HGr:=gE (FJ (my gL addr true size s.now s.c.c1) s.c.c2 GL sb w1.heap.size 0 (aj none 0 0) (aj none 0 0) [] w2 k2 qs (aq _ _ _ _) rfl (aI _) (by omega) (by omega) (by simp[ax]) (aI _));have mc:=gE iT;clear iT qs;go_wp2_with fail;refine HGr.out.mono ?_;rintro e w3 ⟨rfl,Hm,uq,G⟩;clear HGr;have SJ:=(HH.out.below nB.out).lf
 have zy:cv=.slice wa s.gG.length li:=by
  have:w1.cell? ⟨sb,11,none⟩= some cv:=by simp[aX,SJ,ij,jG.cells]
  rw[tS]at this;exact(Option.some.inj this).symm
 subst zy
 have mw:Below w1.heap.size w1 w3:=by
  refine⟨G.iO.os.trans mc.out.os,G.iO.tape.trans mc.out.tape,G.iO.output.trans mc.out.output,cw mc.out.size G.iO.size,fun k hk=>?_⟩;rw[G.iO.block k (Nat.lt_of_lt_of_le hk mc.out.size) (by rintro(rfl|h5);omega;simp[ax]at h5)];exact mc.out.block k hk
 have QK:=gE mw.size;have Ba:=(HH.out.below nB.out).below mw;have YT:=gF tS mw;have i8:=HH.out.j7;have yV:=gO Ba.row Ba.lf (by decide);have YJ:sb<w3.heap.size:=jh YT;obtain⟨i0,nO,mB,kS,ln⟩:=info_parts vk;have Xi:=gE G;have KK:=gE Ba;clear G mw Ba tS yZ k1 k2 k3;obtain⟨v4,w4,JC,ki,C0,RY⟩:=lJ (P:=ae) (w3.alloc (.cells #[ai (some ⟨w1.heap.size,0,none⟩)] 244)) 0 240 240 244 i0 (ai none) 1 8 underlying240 nO mB kS ln rfl (by decide) (.slice wa s.gG.length li) gP.length (kF gP) (KK.out.row.alloc _) ⟨w3.heap.size,0,none⟩ 1 1 [ai (some ⟨w1.heap.size,0,none⟩)] rfl (iZ w3 244 [ai (some ⟨w1.heap.size,0,none⟩)] (by simp[maxLen])) (by simp[Value.oneCell']) (by unfold maxLen;omega) (by omega) (aI _);have Rl:=gE JC;have Q7:=gE RY;clear JC RY
 go_wp2_with (first
  |(at_builtin;refine iY rfl _ _ 240 240 rfl _ _ rfl rfl Rl.out ?_;refine Hid.out ?_))
 refine gE ?_;have pY:=gU C0;obtain⟨YU,YW,rfl⟩:=i7 ki;have QX:=(pY.block sb YJ (Ne.symm yV)).trans KK.out.lf;have ZH:w4.cell? ⟨sb,11,none⟩= some (.slice wa s.gG.length li):=by simp[aX,QX,ij,jG.cells]
 have z11:w4.frozen? ⟨sb,11,none⟩= false:=frozen_of_row w4 sb 11 _ _ QX;have hpt:kF gP++[ai (some ⟨w1.heap.size,0,none⟩)]=kF (gP++[w1.heap.size]):=by simp[kF,AN]
 rw[hpt]at ki;have HOm:=gE (J0 (c0:=my gL addr true size s.now s.c.c1) (HH.out.below nB.out) mc.out rfl Xi.out (by omega) pY ki);clear pY C0 ki QX Xi KK yV hpt;go_wp2_with fail;obtain⟨sr,YM,Ea,Aw⟩:=HOm.out;clear HOm;rw[i8]at Ea Aw;generalize w4.setCell ⟨sb,11,none⟩ (.slice YU (s.gG.length+1) YW)=w5 at Ea Aw⊢
 have Su:{my gL addr true size s.now s.c.c1 with gJ:=rk s.c.c2 [] GL}=jL s gL addr size true:=by
  unfold jL;rw[Xl.out]
  rfl
 rw[Su]at Ea;have GG:=JY (M:=M) (ok:=true) HG.out (by omega) ha kb ku td;obtain⟨c,CW⟩:∃c,jL s gL addr size true=c:=⟨_,rfl⟩;have zx:c.gL=gL:=by rw[<-CW];rfl
 have lF:c.jb=0:=by rw[<-CW];rfl
 rw[CW]at Ea GG
 have HOS:Hid (uJ s gL addr size b N gN=ji (wV {s with gG:=(s.gG++[c]).set s.gG.length (jK c (ir s.c c))} s.gG.length (jK c (ir s.c c))) s.gG.length b (kB c (ir s.c c) gN) N):=by
  show _=_;unfold uJ;rw[CW]
 clear Su CW;have Vb:(s.gG++[c])[s.gG.length]? =some c:=by simp
 have Gw:(gP++[w1.heap.size])[s.gG.length]? =some w1.heap.size:=by rw[<-i8];simp
 have GI:(iJ++[sr])[s.gG.length]? =some sr:=by rw[<-HH.out.lA];simp
 have ade:=Aw.size;have YG:=nB.out.size;have HWe:=gE (w_ {s with gG:=s.gG++[c]} s.gG.length c sb w1.heap.size sr ob _ _ _ ov out gN w5 Ea Vb Gw GI HG.out (by omega) GG hM (by omega));have ZB:=gE Ea;have Oj:=gE Aw;clear Ea Aw;refine HWe.out.mono ?_;rintro e w6 ⟨rfl,ZI,ov6,Y_,TW,rF,Vg⟩;have HL6:=gE Vg
 have Q8:Hid ((.slice YU (s.gG.length+1) YW:Value).ownBlock=(.slice wa s.gG.length li:Value).ownBlock\/∀g,(.slice YU (s.gG.length+1) YW:Value).ownBlock=some g->w3.heap.size<=g):=by
  have h0:=Q7.out;rw[i8]at h0;exact h0.imp id fun h g hg=>cw (by simp) (h g hg)
 clear Vg Q7;clear HWe;have QZ:=rM s.c c;obtain⟨AA,Sa⟩:=JT (f:=ir s.c c) GG (by rw[lF];omega)
 have Yv:(kB c (ir s.c c) gN).length<=1000000:=by
  unfold kB
  split
  ·rw[aT];simp;omega
  ·omega
 have Sq:(((s.gG++[c]).set s.gG.length (jK c (ir s.c c))).map (·.gL)).Nodup:=by
  rw[mn Vb Sa,List.map_append,List.nodup_append];refine⟨Xr.out,by simp,fun x hx y hy=>?_⟩;simp at hy;subst hy;rintro rfl;rw[zx]at hx;exact wC BE hx
 have Zz:=gE (MK {s with gG:=(s.gG++[c]).set s.gG.length (jK c (ir s.c c))} s.gG.length (jK c (ir s.c c)) sb w1.heap.size sr ob _ _ ZI ov6 Y_ _ w6 TW (getElem?_set_at Vb) Gw GI (by simp only;omega));have ZP:wg Z sb (gP++[w1.heap.size]) (iJ++[sr]) ob:=HZ.out.snoc (by omega) (by omega)
 have hr6:o9 Z w6 fv b:=by
  refine((A7.out.below nB.out).iO Oj.out (fun k hk=>?_)).iO rF (xm ZP Gw GI);rintro(h|h5)
  ·exact(HZ.out k hk).2.1 h
  ·exact HZv.out k hk h5
 have adg:=rF.size
 have sg:Hid (∀w8 cv8 ov8 Za,iS w8 (wV {s with gG:=(s.gG++[c]).set s.gG.length (jK c (ir s.c c))} s.gG.length (jK c (ir s.c c))) sb (gP++[w1.heap.size]) (iJ++[sr]) cv8 ov8 ob Za (kB c (ir s.c c) gN)->ip (tf sb w1.heap.size sr ob) w6 w8->
   Calls ae 160 #[ai (some ⟨sb,0,none⟩),ai (some ⟨w1.heap.size,0,none⟩),fv] w8 fun e w'=>e=.returned (.tuple #[])/\xk w8 sb (gP++[w1.heap.size]) (iJ++[sr]) cv8 s.gG.length w1.heap.size sr ob (ji (wV {s with gG:=(s.gG++[c]).set s.gG.length (jK c (ir s.c c))} s.gG.length (jK c (ir s.c c))) s.gG.length b (kB c (ir s.c c) gN) N) w'):=by
  intro w8 cv8 ov8 Za hS8 BD;have adh:=BD.size;refine yE _ s.gG.length (Bi (s.last+1) (jK c (ir s.c c))) b N sb w1.heap.size sr ob fv _ _ cv8 ov8 Za _ w8 hS8 (getElem?_set_at (getElem?_set_at Vb)) Gw GI HG.out ⟨AA.gL,AA.addr,AA.jc,AA.jb,AA.heard,AA.runs,AA.gM,AA.p_,AA.str⟩ hM (by simp only[wV];omega) (by simp[wV];omega) ?_ ZP (hr6.iO BD (xm ZP Gw GI)) qQ hN (by omega) Yv;simp only[wV];rw[mn (c:=jK c (ir s.c c)) (c':=(Bi (s.last+1) (jK c (ir s.c c)))) (getElem?_set_at Vb) rfl];exact Sq
 have CT:∀k,tf sb w1.heap.size sr ob k->(k=sb\/(.slice wa s.gG.length li:Value).ownBlock=some k\/ob<=k):=by
  rintro k (h|h|h|h)
  ·exact a_ h
  ·exact aV (aV (by omega))
  ·exact aV (aV (by omega))
  ·exact aV (aV h)
 have TK:Hid (ip (fun k=>k=sb\/(.slice wa s.gG.length li:Value).ownBlock=some k\/ob<=k) w w6):=by
  refine((ip.gS nB.out).trans (Oj.out.mono fun k _ hk=>?_)).trans (rF.mono fun k _ hk=>CT k hk);rcases hk with h|h
  ·exact a_ h
  ·exact aV (a_ h)
 have EZ:=gE CT;clear TW rF hr6 Sq CT AA GG ZB Oj;obtain⟨fao,aaE,rfl,_⟩:=A7.out.2;go_wp2_with fail;refine Zz.out.mono ?_;rintro e w8 ⟨rfl,hS8,BD⟩;clear Zz;have HF8:=gE (sg.out w8 _ _ _ hS8 BD);have HC8:=gE (TK.out.trans (BD.mono fun k _ hk=>EZ.out k hk));have adh:=BD.size;clear sg hS8 BD;go_wp2_with fail;refine HF8.out.mono ?_;rintro e w7 ⟨rfl,si⟩;clear HF8;have Zu:=gE si;clear si;go_wp2_with fail
 go_end0
 refine⟨rfl,?_⟩;rw[HOS.out];have JK:=QK.out;rcases Zu.out with⟨QL,VD,GR,TX,yq,Vh⟩|⟨QL,VD,GR,TX,yq,Vh⟩
 ·exact⟨_,_,QL,VD,GR,TX,HC8.out.trans (yq.mono fun k _ hk=>EZ.out k hk),zQ (by omega) (by omega) Q8.out HL6.out Vh (by omega) (by omega) (by omega)⟩
 ·exact⟨_,_,QL,VD,GR,TX,HC8.out.trans (yq.mono fun k _ hk=>EZ.out k hk),(zQ (by omega) (by omega) Q8.out HL6.out Vh (by omega) (by omega) (by omega)).erase _⟩
theorem AQ(s:ik)(addr gL size:Int)(sb ob:Nat)(tok:List Int)(tv fv:Value)(gP iJ:List Nat)(cv ov:Value)(out:List (Int×Value))(gN:List (Int×List Int))(w:World)(h:iS w s sb gP iJ cv ov ob out gN)(BE:kR s.gG gL=none)(ht:kv w tv tok)(hp:0<tok.length)(zA:qi s.c s.now addr tok=true)(ha:0<=addr/\addr<256)(pw:nR s=true)
  (hg:nx s.c) (hn:s.gG.length<=1000):
  Calls ae 157 #[ai (some ⟨sb,0,none⟩),af ag addr,af ag gL,tv,fv,af ag size] w fun e w'=>e=.returned (.tuple #[])/\Below w.heap.size w w':=by
 obtain⟨wa,li,jB⟩:=h.view;have kg:=nK s sb gP wa li gL w jB hn;rw[BE]at kg;have sV:Hid (Calls ae 158 #[ai (some ⟨sb,0,none⟩),af ag gL] w fun e w'=>e=.returned (ai none)/\w=w'):=kg;have sJ:=AO s.c s.now addr sb tok tv w jB.cfg jB.now ht ha hg.c9;rw[zA]at sJ;have Ur:=gE sJ;obtain⟨Q3,tc,rfl⟩:=ht.form;have BI:=ht.2.1;have h1:=hg.c1;have h3:=hg.c3;have h8:=hg.c8;have h00:=hg.c0
 have yd:Hid (∀W,Below w.heap.size w W->Calls ae 121 #[ai (some ⟨sb,0,none⟩)] W fun e w'=>e=.returned (af ag (nP s))/\∃n,w'=W.drewN n):=by
  intro W hb;obtain⟨uZ,Li,Da⟩:=(h.below hb).view;exact ry s sb gP uZ Li W Da (by omega) (by omega) hn
 have Aj:Hid (∀W,Below w.heap.size w W->Calls ae 161 #[ai (some ⟨sb,0,none⟩)] W fun e w'=>e=.returned (af ag (jZ s.c))/\∃n,w'=W.drewN n):=by
  intro W hb;obtain⟨uZ,Li,Da⟩:=(h.below hb).view;exact uN s sb gP uZ Li W Da (by omega) (by omega)
 have mH:0<=jZ s.c/\jZ s.c<=5000:=by unfold jZ;omega
 have Az:0<=nP s/\nP s<=5000000:=by
  unfold nP;have hl:(s.gG.length:Int)<=1000:=by omega
  constructor
  ·exact ec (by omega) mH.1
  ·exact er (ef hl mH.2 mH.1 (by omega)) (by decide)
 have k0:w.cell? ⟨sb,0,none⟩= some (af ag s.c.c0):=jB.cfg 0 (by decide);have k8:w.cell? ⟨sb,8,none⟩= some (af ag s.c.c8):=jB.cfg 8 (by decide);have tS:=jB.cv;have E0:=oP w;obtain⟨OP,s8⟩:∃x,jZ s.c=x:=⟨_,rfl⟩;obtain⟨mem,kx⟩:∃x,nP s=x:=⟨_,rfl⟩
 have HFu:Hid ((decide (s.c.c0<=(s.gG.length:Int)) || decide (s.c.c8<mem+OP))=true):=by
  rw[<-kx,<-s8];exact pw
 rw[s8]at Aj mH;rw[kx]at yd Az;clear kg jB sJ h hg s8 kx pw ht zA;obtain⟨Gx,Gy⟩:=mH;obtain⟨Pn,Po⟩:=Az;go_enter func157,ntmps157;go_wp2_with fail;refine sV.out.mono ?_;rintro e w1 ⟨rfl,rfl⟩;clear sV;go_wp2_with fail;refine Ur.out.mono ?_;rintro e w0 ⟨rfl,lY⟩;clear Ur;replace k0:=gF k0 lY;replace k8:=gF k8 lY;replace tS:=gF tS lY;have pQ:=gE lY;clear lY E0;rcases Int.lt_or_le s.gG.length s.c.c0 with jp|uV
 ·have hd:decide (s.c.c0<=(s.gG.length:Int))=false:=decide_eq_false (by omega)
  have hm:s.c.c8<mem+OP:=by
   have:=HFu.out;rw[hd]at this;simpa using this
  go_wp2_with fail
  go_quiet (first
   |(go_at_call 121;exact d_ (yd.out _ (gK pQ.out _)))
   |(go_at_call 161;exact d_ (Aj.out _ (gK pQ.out _))))
  go_wp2_with fail;refine bodyPost_ret (results_none rfl _ _ _) rfl ?_;exact⟨rfl,gK pQ.out _⟩
 ·have hd:decide (s.c.c0<=(s.gG.length:Int))=true:=decide_eq_true uV;go_wp2_with fail
  go_quiet (fail)
  go_wp2_with fail;refine bodyPost_ret (results_none rfl _ _ _) rfl ?_;exact⟨rfl,gK pQ.out _⟩
def Ui(w:World)(s:ik)(i:Nat)(sb cb:Nat)(gP iJ:List Nat)(cv ov:Value)(ob:Nat)(out:List (Int×Value))(gN:List (Int×List Int))(r:Option gZ)(e:Ending)(w':World):Prop:=
 match r with
 |none=>e=.returned (.bool false)/\Below w.heap.size w w'
 |some c'=>e=.returned (.bool true)/\iS w' {s with gG:=s.gG.set i c'} sb gP iJ cv ov ob out gN/\ip (· = cb) w w'
theorem P3(s:ik)(i:Nat)(c:gZ)(n:Int)(sb cb sr ob:Nat)(gP iJ:List Nat)(cv ov:Value)(out:List (Int×Value))(gN:List (Int×List Int))(w:World)(h:iS w s sb gP iJ cv ov ob out gN)(hi:s.gG[i]? =some c)(jJ:gP[i]? =some cb)(lj:iJ[i]? =some sr)(jR:ke M c)(hn:0<=n/\n<=1073741823):
  Calls ae 159 #[ai (some ⟨cb,0,none⟩),af ag n] w fun e w'=>Ui w s i sb cb gP iJ cv ov ob out gN (mL c n) e w':=by
 have hC:=h.kH i c cb sr hi jJ lj;obtain⟨d,vO⟩:=hC.sr;obtain⟨rv,kN,nk,hh,hr,hl,ho,hb⟩:=hC;refine(MB c n cb rv _ w hh hr hn jR.runs.1 jR.runs.2).mono ?_;intro e w' hO;unfold mL
 cases hc:qf c.mark c.runs n with
 |none=>
  rw[hc]at hO;exact hO
 |some r=>
  obtain⟨m,rs⟩:=r;rw[hc]at hO;obtain⟨rfl,kq,N7,h1,h2⟩:=hO;have rn:ip (zb sb cb sr ov) w w':=kq.mono fun k _ hk=>aV (a_ hk)
  have ka:=fun {e:TypeId} h1 h2 h3 h4=>qK (e:=e) h.lf hh vO h.ng h1 h2 h3 h4
  have js:=oV h.lf hh;refine⟨rfl,?_,kq⟩;have C':iJ=iJ.set i sr:=(jw lj).symm;rw[C'];refine h.Ub hi jJ lj rn rfl ?_ (jg h.ng kq (fun g hg e=>?_)) (h.ur.iO rn (ka (by decide) (by decide) (by decide) (by decide))) ⟨N7,kN,nk,h1,h2,hl,jg ho kq (fun g hg e=>?_),fun j x bv hx kI=>(hb j x bv hx kI).iO rn (ka (by decide) (by decide) (by decide) (by decide))⟩ (a_ rfl)
  ·rw[kq.block sb (aO.1 h.lf).1 js];exact h.lf
  ·subst e;exact gO h.ng hh (by decide) hg
  ·simp only[ax,Option.some.injEq]at hg;subst hg;subst e;rw[hh]at vO;simp at vO
def UB(sb:Nat)(gP iJ:List Nat)(cv:Value)(ob:Nat)(k:Nat):Prop:=k=sb\/k∈gP\/k∈iJ\/cv.ownBlock=some k\/ob<=k
def nD(w:World)(sb:Nat)(gP iJ:List Nat)(cv:Value)(ob:Nat)(r:ik×List (Int×List Int))(w':World):Prop:=
 ∃iW nw ou su mr,iS w' r.1 sb iW nw ou su ob mr r.2/\ip (UB sb gP iJ cv ob) w w'/\K_ ob gP iJ cv iW nw ou
theorem nD.same(h:iS w s sb gP iJ cv ov ob out gN)(hb:Below w.heap.size w w'):nD w sb gP iJ cv ob (s,gN) w':=
 ⟨gP,iJ,cv,ov,out,h.below hb,ip.gS hb,K_.refl _ _ _ _⟩
theorem nD.leaves{cb sr:Nat}(Eh:ob<=w.heap.size)(h:Leaves w sb gP iJ cv cb sr ob s gN w')(h1:cb∈gP\/cb=sb)(h2:sr∈iJ\/sr=sb):nD w sb gP iJ cv ob (s,gN) w':=by
 obtain⟨ou,su,mr,hS,kq,hl⟩:=h;refine⟨gP,iJ,ou,su,mr,hS,kq.mono fun k _ hk=>?_,fun k hk=>a_ hk,fun k hk=>a_ hk,(uH hl Eh).2⟩;rcases hk with e|e|e|e
 ·exact a_ e
 ·subst e;rcases h1 with h1|h1
  ·exact aV (a_ h1)
  ·exact a_ h1
 ·subst e;rcases h2 with h2|h2
  ·exact aV (aV (a_ h2))
  ·exact a_ h2
 ·exact aV (aV (aV (aV e)))
theorem Qc(s:ik)(addr gL size:Int)(tok b:List Int)(N:Nat)(sb ob:Nat)(tv fv:Value)(gP iJ:List Nat)(cv ov:Value)(out:List (Int×Value))(gN:List (Int×List Int))(w:World)(h:iS w s sb gP iJ cv ov ob out gN)(ht:kv w tv tok)(hZ:wg Z sb gP iJ ob)(RV:∀k,Z k->cv.ownBlock≠some k)(hr:o9 Z w fv b)
  (hg:nx s.c) (hn:s.gG.length<=990) {M:Int} (hM:M<=1125899906842624) (hMM:1000<=M) (jR:∀c∈s.gG,ke M c/\c.jc+size<=M) (ha:0<=addr/\addr<256) (kb:0<=gL/\gL<=1073741823) (ku:0<=size/\size<=M) (td:0<=s.now/\s.now<=1000000000) (hl:0<=s.last/\s.last<=1125899906841000) (tz:(s.gG.map (·.gL)).Nodup) (qQ:b.length<=1073741823) (hN:b.length<=N) (Eh:ob<=w.heap.size) (Ca:gN.length<=999999):
  Calls ae 157 #[ai (some ⟨sb,0,none⟩),af ag addr,af ag gL,tv,fv,af ag size] w fun e w'=>e=.returned (.tuple #[])/\nD w sb gP iJ cv ob (ox s addr gL size tok b N gN) w':=by
 have WA:∀{r:ik×List (Int×List Int)} {w':World},(∃iW nw ou su mr,iS w' r.1 sb iW nw ou su ob mr r.2/\ip (fun k=>k=sb\/cv.ownBlock=some k\/ob<=k) w w'/\K_ ob gP iJ cv iW nw ou)->nD w sb gP iJ cv ob r w':=by
  rintro r w' ⟨iW,nw,ou,su,mr,hS,kq,LZ⟩;refine⟨iW,nw,ou,su,mr,hS,kq.mono fun k _ hk=>?_,LZ⟩;rcases hk with e|e|e
  ·exact a_ e
  ·exact aV (aV (aV (a_ e)))
  ·exact aV (aV (aV (aV e)))
 unfold ox
 cases hf:kR s.gG gL with
 |some k=>
  have yu:k<s.gG.length:=by
   have hf':=hf;unfold kR at hf';rw[List.findIdx?_eq_some_iff_getElem]at hf';exact hf'.1
  have sj:=h.j7;have rC:=h.lA;obtain⟨c,hc⟩:∃c,s.gG[k]? =some c:=⟨_,am yu⟩;obtain⟨cb,jJ⟩:∃cb,gP[k]? =some cb:=⟨_,am (by omega)⟩;obtain⟨sr,lj⟩:∃sr,iJ[k]? =some sr:=⟨_,am (by omega)⟩;have Ad:=jR c (bT hc);simp only[hc];refine(G7 s k c addr gL size sb cb sr ob tv fv gP iJ cv ov out gN w h hc jJ lj hf hg Ad.1 hM ⟨ku.1,Ad.2⟩ td (by omega) Eh (by omega)).mono ?_;rintro e w' ⟨rfl,hL⟩;exact⟨rfl,nD.leaves Eh hL (a_ (bT jJ)) (a_ (bT lj))⟩
 |none=>
  simp only;by_cases hp:0<tok.length
  ·rw[if_pos hp]
   cases hgo:qi s.c s.now addr tok
   ·rw[if_neg (by decide)];refine(MI s addr gL size tok sb ob tv fv gP iJ cv ov out gN w h hf ht hp hgo hg ha (by omega)).mono ?_;rintro e w' ⟨rfl,hb⟩;exact⟨rfl,nD.same h hb⟩
   ·rw[if_pos rfl]
    cases hfu:nR s
    ·rw[if_neg (by decide)];refine(AU s addr gL size b N sb ob tok tv fv gP iJ cv ov out gN w h hf ht hp hgo hfu hg hn hM ha kb ku td hl tz hZ RV hr qQ hN Eh Ca hMM).mono ?_;rintro e w' ⟨rfl,hL⟩;exact⟨rfl,WA hL⟩
    ·rw[if_pos rfl];refine(AQ s addr gL size sb ob tok tv fv gP iJ cv ov out gN w h hf ht hp hgo ha hfu hg (by omega)).mono ?_;rintro e w' ⟨rfl,hb⟩;exact⟨rfl,nD.same h hb⟩
  ·rw[if_neg hp];obtain⟨Q3,tc,rfl⟩:=ht.form;have SL:tok.length=0:=by omega
   rw[SL];by_cases Sm:s.c.c5<=r_ s.gG
   ·rw[if_pos Sm];refine(G6 s addr gL size sb ob Q3 tc fv gP iJ cv ov out gN w h hf Sm hg ha kb ⟨ku.1,by omega⟩ td (by omega) Eh (by omega)).mono ?_;rintro e w' ⟨rfl,hL⟩;exact⟨rfl,nD.leaves Eh hL (aV rfl) (aV rfl)⟩
   ·rw[if_neg Sm]
    cases hfu:nR s
    ·rw[if_neg (by decide)];refine(AR s addr gL size b N sb ob Q3 tc fv gP iJ cv ov out gN w h hf (by omega) hfu hg hn hM ha kb ku td ⟨hl.1,by omega⟩ tz hZ RV hr qQ hN Eh Ca hMM).mono ?_;rintro e w' ⟨rfl,hL⟩;exact⟨rfl,WA hL⟩
    ·rw[if_pos rfl];refine(AP s addr gL size sb ob Q3 tc fv gP iJ cv ov out gN w h hf (by omega) hfu hg (by omega)).mono ?_;rintro e w' ⟨rfl,hb⟩;exact⟨rfl,nD.same h hb⟩
theorem acf(hb:b≠[])(h:kz (b.drop 1)=0):nW b=none:=by
 unfold nW;rw[if_neg hb];simp only;rw[if_pos h]
theorem acg(hb:b≠[])(h:kz (b.drop 1)≠0)(h2:kz ((b.drop 1).drop (kz (b.drop 1)).toNat)=0):nW b=none:=by
 unfold nW;rw[if_neg hb];simp only;rw[if_neg h,if_pos h2]
theorem UN(hb:b≠[])(h:kz (b.drop 1)≠0)(h2:kz ((b.drop 1).drop (kz (b.drop 1)).toNat)≠0){r2 r3:List Int}(e2:(b.drop 1).drop (kz (b.drop 1)).toNat=r2)(e3:r2.drop (kz r2).toNat=r3):nW b=if b.getD 0 0=1 then if(r3.length:Int)<ly r2 then none else some ⟨1,ly (b.drop 1),r3.take (ly r2).toNat,0,r3.drop (ly r2).toNat⟩ else if b.getD 0 0=2 then some ⟨2,ly (b.drop 1),[],ly r2,r3⟩ else none:=by
 unfold nW;rw[if_neg hb];simp only;rw[if_neg h,if_neg h2];subst e2;subst e3
 rfl
theorem uO(h:nW b=none\/¬(0<=addr/\addr<=255)):jl s addr b=(s,[]):=by
 unfold jl;by_cases ha:0<=addr/\addr<=255
 ·rw[if_neg (by simp[ha])];rcases h with h|h
  ·rw[h]
  ·exact absurd ha h
 ·rw[if_pos ha]
theorem Ke{d:EX}(h:nW b=some d)(ha:0<=addr/\addr<=255):jl s addr b=if d.kind=1 then ox s addr d.gL b.length d.tok d.mz b.length [] else nF s addr d.gL d.num b.length d.mz b.length []:=by
 unfold jl;rw[if_neg (by simp[ha]),h]
theorem MC(hf:kR s.gG gL=none):nF s addr gL num size b N gN=(s,gN):=by
 unfold nF;rw[hf]
theorem Ka(hf:kR s.gG gL=some k)(hk:s.gG[k]? =some c)(ha:c.addr≠addr):nF s addr gL num size b N gN=(s,gN):=by
 unfold nF;rw[hf];simp only;rw[hk];simp only;rw[if_pos ha]
theorem P5(hf:kR s.gG gL=some k)(hk:s.gG[k]? =some c)(ha:c.addr=addr)(hc:mL {c with jc:=c.jc+size} num=none):nF s addr gL num size b N gN=({s with gG:=s.gG.set k {c with jc:=c.jc+size}},gN):=by
 unfold nF;rw[hf];simp only;rw[hk];simp only;rw[if_neg (by simp[ha]),hc]
theorem P4{c2:gZ}(hf:kR s.gG gL=some k)(hk:s.gG[k]? =some c)(ha:c.addr=addr)(hc:mL {c with jc:=c.jc+size} num=some c2):nF s addr gL num size b N gN=ji {s with gG:=s.gG.set k {c2 with heard:=s.now}} k b gN N:=by
 unfold nF;rw[hf];simp only;rw[hk];simp only;rw[if_neg (by simp[ha]),hc]
def La(w:World)(sb:Nat)(gP iJ:List Nat)(cv:Value)(r:ik×List (Int×List Int))(e:Ending)(w':World):Prop:=
 ∃v iW nw ou su mr,e=.returned v/\iS w' r.1 sb iW nw ou su w.heap.size mr r.2/\(v=su\/(v=aj none 0 0/\r.2=[]))/\ip (UB sb gP iJ cv w.heap.size) w w'/\K_ w.heap.size gP iJ cv iW nw ou
theorem iS.reset(h:iS w s sb gP iJ cv ov ob out gN):iS (w.setCell ⟨sb,13,none⟩ (aj none 0 0)) s sb gP iJ cv (aj none 0 0) w.heap.size [] []/\ip (· = sb) w (w.setCell ⟨sb,13,none⟩ (aj none 0 0)):=by
 have hc:ip (· = sb) w (w.setCell ⟨sb,13,none⟩ (aj none 0 0)):=iu (Below.refl _ _) 13 _;have h1:=h.abO (mr:=[]) (zN:=[]) (hc.mono fun k _ e=>a_ e) ((gQ h.lf 13 (aj none 0 0)).trans (by simp[ij,jG.cells])) (aq _ _ _ _) ⟨rfl,fun i x y hx=>(by simp at hx)⟩;exact⟨⟨h1.lf,h1.row,aq _ _ _ _,⟨rfl,fun i x y hx=>(by simp at hx)⟩,h1.j7,h1.lA,h1.SZ,h1.S3,h1.kH⟩,hc⟩
def xM(Z:Nat->Prop)(w:World)(v:Value)(l:List Int):Prop:=
 iF l/\l.length<=140737488355328/\∃ao cap,v=.slice ao l.length cap/\l.length<=cap/\cap<=9223372036854775807/\(ao=none->cap=0)/\(0<l.length->∃b off,ao=some ⟨b,off,none⟩/\Z b/\∀j,j<l.length->w.cell? ⟨b,off+j,none⟩= some (.int .u8 (l.getD j 0)))
theorem xM.nil(Z:Nat->Prop)(w:World):xM Z w (aj none 0 0) []:=⟨fun x hx=>(by cases hx),by simp,none,0,rfl,by simp,by simp,fun _=>rfl,fun h=>absurd h (by simp)⟩
theorem xM.iO{F:Nat->Prop}(h:xM Z w v l)(hc:ip F w w')(hF:∀k,Z k->¬F k):xM Z w' v l:=by
 obtain⟨h1,h2,ao,cap,e,h3,h4,h5,h6⟩:=h;refine⟨h1,h2,ao,cap,e,h3,h4,h5,fun hp=>?_⟩;obtain⟨b,off,e1,hz,hj⟩:=h6 hp;refine⟨b,off,e1,hz,fun j qp=>?_⟩
 have jp:b<w.heap.size:=by
  have h0:=hj j qp;rcases Nat.lt_or_ge b w.heap.size with h|h
  ·exact h
  ·simp[aX,Array.getElem?_eq_none h]at h0
 rw[<-hj j qp];exact World.cell?_of_block (a:=⟨b,off+j,none⟩) (hc.block b jp (hF b hz))
theorem xM.below(h:xM Z w v l)(hb:Below w.heap.size w w'):xM Z w' v l:=h.iO (F:=fun _=>False) (ip.gS hb) (fun _ _ h=>h)
theorem xM.reads(h:xM Z w v l):kv w v l:=by
 obtain⟨h1,h2,ao,cap,rfl,h3,h4,h5,h6⟩:=id h;refine⟨h1,h2,?_⟩;rcases Nat.eq_zero_or_pos l.length with h0|h0
 ·exact a_ ⟨dI.1 h0,ao,cap,by rw[h0]⟩
 ·obtain⟨b,off,rfl,_,hj⟩:=h6 h0;exact aV ⟨h0,b,off,cap,rfl,h3,hj⟩
theorem me.SO(h:me w v l):xM (fun k=>∃cur fr,w.heap[k]? =some (.cells cur 5 fr)) w v l:=by
 obtain⟨h1,h2,ao,cap,e,h3,h4,h5,h6⟩:=h;refine⟨h1,h2,ao,cap,e,h3,h4,h5,fun hp=>?_⟩;obtain⟨b,off,cur,fr,e1,hb,hj⟩:=h6 hp;exact⟨b,off,e1,⟨cur,fr,hb⟩,fun j qp=>by simp only[aX,hb];exact hj j qp⟩
theorem xM.drop(h:xM Z w v l)(hk:k<=l.length):∃tv,xM Z w tv (l.drop k)/\(∃ao cap,tv=.slice ao (l.length-k) cap)/\∀W:World,(dA 44 v (some (af ag (k:Int))) none none).run ae W=.ok tv W:=by
 obtain⟨h1,h2,ao,cap,rfl,h3,h4,h5,h6⟩:=h;have kk:∀W:World,(dA 44 (.slice ao l.length cap) (some (af ag (k:Int))) none none).run ae W=.ok (.slice (if cap=k then ao else ao.map (·.add (k*1))) (l.length-k) (cap-k)) W:=fun W=>sU W underlying44 (pP W) hk
 refine⟨_,?_,⟨_,_,rfl⟩,kk⟩;have hl:(l.drop k).length=l.length-k:=by simp
 refine⟨h1.drop k,by omega,_,_,by rw[hl],by omega,by omega,?_,fun hp=>?_⟩
 ·intro hn;by_cases CY:cap=k
  ·omega
  ·rw[if_neg CY]at hn
   cases ao with
   |none=>have:=h5 rfl;omega
   |some a=>simp at hn
 ·obtain⟨b,off,rfl,hb,hj⟩:=h6 (by omega);refine⟨b,off+k,?_,hb,fun j qp=>?_⟩
  ·rw[if_neg (by omega)];simp[Addr.add_lit]
  ·rw[dz,hj (k+j) (by omega)];simp[aQ,List.getElem?_drop]
theorem o9.WY(h:xM Z w v l):o9 Z w v l:=by
 obtain⟨h1,h2,ao,cap,rfl,h3,h4,h5,h6⟩:=id h;refine⟨h.reads,ao,cap,rfl,h3,fun a ha hp=>?_⟩;obtain⟨b,off,e,hb,_⟩:=h6 hp;rw[e]at ha
 cases ha
 exact hb
theorem xM.sub(h:xM Z w v l){i j:Nat}(xU:i<=j)(hj:j<=l.length):∃tv,xM Z w tv ((l.drop i).take (j-i))/\∀W:World,(dA 44 v (some (af ag (i:Int))) (some (af ag (j:Int))) none).run ae W=.ok tv W:=by
 obtain⟨h1,h2,ao,cap,rfl,h3,h4,h5,h6⟩:=h;have hl:((l.drop i).take (j-i)).length=j-i:=by simp;omega
 have hjc:j<=cap:=cw hj h3;refine⟨.slice (if cap=i then ao else ao.map (·.add (i*1))) (j-i) (cap-i),⟨(h1.drop i).take _,by omega,_,_,by rw[hl],by omega,by omega,?_,fun hp=>?_⟩,fun W=>?_⟩
 ·intro hn;by_cases CY:cap=i
  ·omega
  ·rw[if_neg CY]at hn
   cases ao with
   |none=>have:=h5 rfl;omega
   |some a=>simp at hn
 ·obtain⟨b,off,rfl,hb,hjj⟩:=h6 (by omega);refine⟨b,off+i,?_,hb,fun k yu=>?_⟩
  ·rw[if_neg (by omega)];simp[Addr.add_lit]
  ·rw[dz,hjj (i+k) (by omega)];have:k<j-i:=by omega
   simp[aQ,List.getElem?_take_of_lt this,List.getElem?_drop]
 ·simp[dA,Instr.sliceBounds,Instr.sliceBound,asIntOf,run_underlying underlying44,pP W,xU,hjc]
theorem Pa{w1:World}{r:ik×List (Int×List Int)}(hc:ip (· = sb) w w1)(h:nD w1 sb gP iJ cv w.heap.size r w'):∃iW nw ou su mr,iS w' r.1 sb iW nw ou su w.heap.size mr r.2/\ip (UB sb gP iJ cv w.heap.size) w w'/\K_ w.heap.size gP iJ cv iW nw ou:=by
 obtain⟨iW,nw,ou,su,mr,hS,kq,LZ⟩:=h;exact⟨iW,nw,ou,su,mr,hS,(hc.mono fun k _ e=>a_ e).trans kq,LZ⟩
theorem J_(s:ik)(addr:Int)(b:List Int)(sb ob:Nat)(bv:Value)(gP iJ:List Nat)(cv ov:Value)(out:List (Int×Value))(gN:List (Int×List Int))(w:World)(h:iS w s sb gP iJ cv ov ob out gN)(hZ:wg Z sb gP iJ w.heap.size)(RV:∀k,Z k->cv.ownBlock≠some k)(kI:xM Z w bv b)(hI:iQ M L s)(yS:0<=M)(hM:M+b.length+1000<=1125899906842624)(hL:L<=1125899906840000)(qQ:b.length<=1073741823):
  Calls ae 117 #[ai (some ⟨sb,0,none⟩),af ag addr,bv] w fun e w'=>La w sb gP iJ cv (jl s addr b) e w':=by
 obtain⟨h1,km⟩:=h.reset;have c13:w.cell? ⟨sb,13,none⟩= some ov:=by simp[aX,h.lf,ij,jG.cells]
 have z13:w.frozen? ⟨sb,13,none⟩= false:=frozen_of_row w sb 13 _ _ h.lf;have JG:(w.setCell ⟨sb,13,none⟩ (aj none 0 0)).heap.size=w.heap.size:=by simp
 have wI:xM Z (w.setCell ⟨sb,13,none⟩ (aj none 0 0)) bv b:=kI.iO km fun k hk e=>(hZ k hk).2.1 e
 have HZ:=gE hZ;have HZv:=gE RV;clear hZ RV;obtain⟨rm,_,ba,bc,rfl,NE,_⟩:=id kI;generalize oX:w.setCell ⟨sb,13,none⟩ (aj none 0 0)=w1 at *
 have Nq:=gE oX
 have HN:Hid (∀W,Below w1.heap.size w1 W->jl s addr b=(s,[])->La w sb gP iJ cv (jl s addr b) (.returned (aj none 0 0)) W):=by
  intro W hW e;rw[e];exact⟨_,gP,iJ,cv,_,[],rfl,h1.below hW,a_ rfl,(km.mono fun k _ e=>a_ e).trans (ip.gS hW),K_.refl _ _ _ _⟩
 have KP:=hI.last;have wK:=hI.BA;have qs:=hI.cfg.c0;by_cases ha:¬(0<=addr/\addr<=255)
 ·have pX:ls addr 0 255=false:=by unfold ls;exact decide_eq_false ha
  have HE:=gE (HN.out w1 (Below.refl _ _) (uO (aV ha)));clear h h1 km kI wI hI HN oX;go_enter func117,ntmps117;go_wp2_with fail;rw[Nq.out];refine(ju addr 0 255 w1).mono ?_;rintro e sA ⟨rfl,rfl⟩;rw[pX];go_wp2_with fail;go_ret;exact HE.out
 replace ha:=ew.1 ha;have pX:ls addr 0 255=true:=by unfold ls;exact decide_eq_true ha
 by_cases kf:b.length=0
 ·have O4:b=[]:=dI.1 kf;have HE:=gE (HN.out w1 (Below.refl _ _) (uO (a_ (by rw[O4];rfl))));rw[kf];clear h h1 km kI wI hI HN oX;go_enter func117,ntmps117;go_wp2_with fail;rw[Nq.out];refine(ju addr 0 255 w1).mono ?_;rintro e sA ⟨rfl,rfl⟩;rw[pX];go_wp2_with fail;go_ret;exact HE.out
 have hp:0<b.length:=by omega
 have O4:b≠[]:=fun e=>kf (by rw[e];rfl)
 have Z2:((b.length:Int)==0)=false:=beq_eq_false_iff_ne.2 (by omega);obtain⟨tv1,ue,_,abx⟩:=wI.drop (k:=1) (by omega);obtain⟨r1,SA⟩:∃r,b.drop 1=r:=⟨_,rfl⟩;have Jj:=@UN b O4;have O9:=@acf b O4;have Gz:=@acg b O4;rw[SA]at ue Jj O9 Gz;simp only[Int.natCast_one]at abx;have aaZ:iF r1:=by rw[<-SA];exact rm.drop 1
 have sj:r1.length=b.length-1:=by rw[<-SA];simp
 have pr:=om r1;have F4:=gE (ld r1 tv1 w1 ue.reads);by_cases kS:kz r1=0
 ·have HE:=gE (HN.out w1 (Below.refl _ _) (uO (a_ (O9 kS))));have Va:qh r1=2:=by simp[qh,kS]
  rw[kS,Va]at F4;clear h h1 km kI wI hI HN oX Jj O9 Gz ue;go_enter func117,ntmps117;go_wp2_with fail;rw[Nq.out];refine(ju addr 0 255 w1).mono ?_;rintro e sA ⟨rfl,rfl⟩;rw[pX];go_wp2_with fail;refine F4.out.mono ?_;rintro e sA ⟨rfl,rfl⟩;go_wp2_with fail;go_ret;exact HE.out
 have aa_:qh r1=0:=by simp[qh,kS]
 rw[aa_]at F4;obtain⟨z1,Vu⟩:∃z,kz r1=z:=⟨_,rfl⟩;obtain⟨v1,Vq⟩:∃z,ly r1=z:=⟨_,rfl⟩;have hv1:=qD aaZ;rw[Vu]at kS pr;rw[Vq]at hv1;rw[Vu,Vq]at F4;rw[Vu]at Jj Gz;rw[Vq]at Jj;obtain⟨S1,yT⟩:∃S:Nat,z1=S:=⟨z1.toNat,by omega⟩;have K0:=gE yT;obtain⟨tv2,vi,_,zG⟩:=wI.drop (k:=1+S1) (by omega);have X6:b.drop (1+S1)=r1.drop S1:=by rw[<-SA,dY]
 obtain⟨r2,SB⟩:∃r,r1.drop S1=r:=⟨_,rfl⟩;rw[X6,SB]at vi;have WO:z1.toNat=S1:=by omega
 rw[WO,SB]at Jj Gz;have O6:iF r2:=by rw[<-SB];exact aaZ.drop _
 have rC:r2.length=b.length-1-S1:=by rw[<-SB];simp[sj]
 have mZ:=om r2;have Nl:=gE (ld r2 tv2 w1 vi.reads);have sk:IntKind.i64.wrap (1+z1)=1+z1:=by rw[di];omega
 have ada:∀W:World,(dA 44 (.slice ba b.length bc) (some (af ag (1+z1))) none none).run ae W=.ok tv2 W:=by
  have e:((1+S1:Nat):Int)=1+z1:=by omega
  rw[e]at zG;exact zG
 have acQ:(r2.length:Int)=b.length-1-z1:=by omega
 have aea:0<=z1/\z1<=4/\z1+1<=(b.length:Int):=by omega
 clear zG Vu Vq aa_ pr;by_cases ln:kz r2=0
 ·have HE:=gE (HN.out w1 (Below.refl _ _) (uO (a_ (Gz kS ln))));have Va:qh r2=2:=by simp[qh,ln]
  rw[ln,Va]at Nl;clear h h1 km kI wI hI HN oX Jj O9 Gz ue vi yT mZ ln rC acQ;go_enter func117,ntmps117;go_wp2_with fail;rw[Nq.out];refine(ju addr 0 255 w1).mono ?_;rintro e sA ⟨rfl,rfl⟩;rw[pX];go_wp2_with fail;refine F4.out.mono ?_;rintro e sA ⟨rfl,rfl⟩;go_wp2_with fail;refine Nl.out.mono ?_;rintro e sA ⟨rfl,rfl⟩;go_wp2_with fail;go_ret;exact HE.out
 have acF:qh r2=0:=by simp[qh,ln]
 rw[acF]at Nl;obtain⟨z2,El⟩:∃z,kz r2=z:=⟨_,rfl⟩;obtain⟨v2,Ek⟩:∃z,ly r2=z:=⟨_,rfl⟩;have Da:=qD O6;rw[El]at ln mZ;rw[Ek]at Da;rw[El,Ek]at Nl;obtain⟨S2,sI⟩:∃S:Nat,z2=S:=⟨z2.toNat,by omega⟩;have JI:(kz r2).toNat=S2:=by omega
 obtain⟨r3,YA⟩:∃r,r2.drop S2=r:=⟨_,rfl⟩;have uB:=Jj (r3:=r3) kS (by rw[El];exact ln) rfl (by rw[JI];exact YA);rw[Ek]at uB
 have he3:b.drop (1+S1+S2)=r3:=by
  subst YA;subst SB;subst SA;rw[dY,dY,dz]
 have Pg:r3.length=b.length-1-S1-S2:=by
  have:=congrArg List.length YA;rw[List.length_drop,rC]at this;exact this.symm
 have uf:IntKind.i64.wrap (1+z1+z2)=1+z1+z2:=by rw[di];omega
 have vQ:IntKind.i64.wrap (1+z1+z2+v2)=1+z1+z2+v2:=by rw[di];omega
 obtain⟨i_,off,ny,_,Ik⟩:∃i_ off,ba=some ⟨i_,off,none⟩/\Z i_/\∀j,j<b.length->w1.cell? ⟨i_,off+j,none⟩= some (.int .u8 (b.getD j 0)):=by
  obtain⟨_,_,ao,cap,e,_,_,_,h6⟩:=id wI;simp only[Value.slice.injEq]at e;obtain⟨rfl,_,_⟩:=e;exact h6 hp
 subst ny
 have hk0:w1.cell? ⟨i_,off,none⟩= some (.int .u8 (b.getD 0 0)):=by
  have:=Ik 0 hp;simpa only[Nat.add_zero] using this
 have hkr:=j9 rm 0;obtain⟨k0,acM⟩:∃k,b.getD 0 0=k:=⟨_,rfl⟩;rw[acM]at hk0 hkr uB
 have VZ:Hid (∀W r,nD w1 sb gP iJ cv w.heap.size r W->jl s addr b=r->∃v,W.cell? ⟨sb,13,none⟩= some v/\(∃x y z,v=.slice x y z)/\La w sb gP iJ cv (jl s addr b) (.returned v) W):=by
  intro W r hH e;obtain⟨iW,nw,ou,su,mr,hS,kq,LZ⟩:=Pa km hH;obtain⟨q1,q2,q3⟩:=iA hS.ng;exact⟨su,by simp[aX,hS.lf,ij,jG.cells],⟨_,_,_,q3⟩,by rw[e];exact⟨su,iW,nw,ou,su,mr,rfl,hS,a_ rfl,kq,LZ⟩⟩
 have d13:w1.cell? ⟨sb,13,none⟩= some (aj none 0 0):=by simp[aX,h1.lf,ij,jG.cells]
 have ZV:off+b.length<=off+bc:=by omega
 clear Ik;by_cases pJ:k0=1
 ·rw[if_pos pJ]at uB;have Sk:(k0==1)=true:=beq_iff_eq.2 pJ;by_cases rD:(r3.length:Int)<v2
  ·rw[if_pos rD]at uB;have HE:=gE (HN.out w1 (Below.refl _ _) (uO (a_ uB)));have X2:decide (1+z1+z2+v2<=(b.length:Int))=false:=decide_eq_false (by omega);clear h h1 km kI wI hI HN oX Jj O9 Gz ue vi VZ uB pJ yT sI El Ek WO JI;go_enter func117,ntmps117;go_wp2_with fail;rw[Nq.out];refine(ju addr 0 255 w1).mono ?_;rintro e sA ⟨rfl,rfl⟩;rw[pX];go_wp2_with fail;refine F4.out.mono ?_;rintro e sA ⟨rfl,rfl⟩;go_wp2_with fail;refine Nl.out.mono ?_;rintro e sA ⟨rfl,rfl⟩;go_wp2_with fail;go_ret;exact HE.out
  ·rw[if_neg rD]at uB;obtain⟨G,hG⟩:∃G:Nat,v2=G:=⟨v2.toNat,by omega⟩;have hGt:v2.toNat=G:=by omega
   rw[hGt]at uB;obtain⟨tt,hrt,WK⟩:=wI.sub (i:=1+S1+S2) (j:=1+S1+S2+G) (by omega) (by omega);have ht3:(b.drop (1+S1+S2)).take (1+S1+S2+G-(1+S1+S2))=r3.take G:=by rw[he3];congr 1;omega
   rw[ht3]at hrt;have Ae:=(o9.WY wI).cut (1+S1+S2+G) (by omega);have hf3:b.drop (1+S1+S2+G)=r3.drop G:=by rw[<-he3,dY]
   rw[hf3]at Ae;obtain⟨fv,Jm⟩:∃fv,sliced (some ⟨i_,off,none⟩) (1+S1+S2+G) b.length bc 1=fv:=⟨_,rfl⟩;rw[Jm]at Ae
   have WJ:∀W:World,(dA 44 (aj (some ⟨i_,off,none⟩) b.length bc) (some (af ag (1+z1+z2+v2))) none none).run ae W=.ok fv W:=by
    intro W;have e:1+z1+z2+v2=((1+S1+S2+G:Nat):Int):=by omega
    rw[e,<-Jm];exact sU W underlying44 (pP W) (by omega)
   have adb:∀W:World,(dA 44 (aj (some ⟨i_,off,none⟩) b.length bc) (some (af ag (1+z1+z2))) (some (af ag (1+z1+z2+v2))) none).run ae W=.ok tt W:=by
    intro W;have e:1+z1+z2+v2=((1+S1+S2+G:Nat):Int):=by omega
    have e':1+z1+z2=((1+S1+S2:Nat):Int):=by omega
    rw[e,e'];exact WK W
   have vP:=Ke (s:=s) uB ha;simp only[if_true]at vP
   have HHl:Hid (∀W,Below w1.heap.size w1 W->Calls ae 157 #[ai (some ⟨sb,0,none⟩),af ag addr,af ag v1,tt,fv,af ag (b.length:Int)] W fun e w'=>e=.returned (.tuple #[])/\∃v,w'.cell? ⟨sb,13,none⟩= some v/\(∃x y z,v=.slice x y z)/\La w sb gP iJ cv (jl s addr b) (.returned v) w'):=by
    intro W hW;refine(Qc s addr v1 b.length (r3.take G) (r3.drop G) b.length sb w.heap.size tt fv gP iJ cv _ [] [] W (h1.below hW) (hrt.below hW).reads HZ.out HZv.out (Ae.below hW) hI.cfg (by omega) (M:=M+b.length+1000) (by omega) (by omega) (fun c hc=>⟨(hI.ok c hc).mono (by omega),by have:=(hI.ok c hc).jc;omega⟩) ⟨ha.1,by omega⟩ (by omega) ⟨by omega,by omega⟩ hI.now (by omega) hI.nd (by simp;omega) (by simp;omega) (by have:=hW.size;omega) (by simp)).mono ?_;rintro e w' ⟨e1,hH⟩;obtain⟨iW,nw,ou,su,mr,hS,kq,LZ⟩:=hH;exact⟨e1,VZ.out w' _ ⟨iW,nw,ou,su,mr,hS,(ip.gS hW).trans kq,LZ⟩ vP⟩
   have X2:decide (1+z1+z2+v2<=(b.length:Int))=true:=decide_eq_true (by omega);clear h h1 km kI wI hI HN oX Jj O9 Gz ue vi VZ uB pJ vP hrt Ae WK yT sI El Ek WO JI hG hGt;go_enter func117,ntmps117;go_wp2_with fail;rw[Nq.out];refine(ju addr 0 255 w1).mono ?_;rintro e sA ⟨rfl,rfl⟩;rw[pX];go_wp2_with fail;refine F4.out.mono ?_;rintro e sA ⟨rfl,rfl⟩;go_wp2_with fail;refine Nl.out.mono ?_;rintro e sA ⟨rfl,rfl⟩;go_wp2_with fail
   go_region_held3 (fun _=>True) (first|trivial|assumption|go_keep) (first
    |(go_at_call 157;refine(HHl.out _ (gK (Below.refl _ _) 1)).mono ?_;rintro e w2 ⟨rfl,v,adq,⟨x,y,z,rfl⟩,hR⟩;have hT:True:=trivial))
   have HR:=gE hR;clear hR HHl;go_wp2_with fail;go_ret;exact HR.out
 rw[if_neg pJ]at uB;have adY:(k0==1)=false:=beq_eq_false_iff_ne.2 pJ;by_cases rp:¬k0=2
 ·rw[if_neg rp]at uB;have acN:(k0==2)=false:=beq_eq_false_iff_ne.2 rp;have HE:=gE (HN.out w1 (Below.refl _ _) (uO (a_ uB)));clear h h1 km kI wI hI HN oX Jj O9 Gz ue vi VZ uB pJ rp yT sI El Ek WO JI;go_enter func117,ntmps117;go_wp2_with fail;rw[Nq.out];refine(ju addr 0 255 w1).mono ?_;rintro e sA ⟨rfl,rfl⟩;rw[pX];go_wp2_with fail;refine F4.out.mono ?_;rintro e sA ⟨rfl,rfl⟩;go_wp2_with fail;refine Nl.out.mono ?_;rintro e sA ⟨rfl,rfl⟩;go_wp2_with fail;go_ret;exact HE.out
 replace rp:=ew.1 rp;rw[if_pos rp]at uB;have acN:(k0==2)=true:=beq_iff_eq.2 rp;have vP:=Ke (s:=s) uB ha;simp only[show ¬((2:Int)=1) from by decide,if_false]at vP;obtain⟨wa,li,jB⟩:=h1.view;have kg:=nK s sb gP wa li v1 w1 jB (by omega);clear jB;rcases sG (l:=s.gG) (gL:=v1) with⟨hf,_⟩|⟨k,c,hf,hk,Ad⟩
 ·rw[hf]at kg;have Z5:pT gP none=ai none:=rfl;rw[Z5]at kg;have sV:=gE kg;have E0:=oP w1;have HE:=gE (HN.out w1 (Below.refl _ _) (vP.trans (MC hf)));clear h h1 km kI wI hI HN oX Jj O9 Gz ue vi VZ uB pJ rp yT sI El Ek WO JI vP kg hf Z5;go_enter func117,ntmps117;go_wp2_with fail;rw[Nq.out];refine(ju addr 0 255 w1).mono ?_;rintro e sA ⟨rfl,rfl⟩;rw[pX];go_wp2_with fail;refine F4.out.mono ?_;rintro e sA ⟨rfl,rfl⟩;go_wp2_with fail;refine Nl.out.mono ?_;rintro e sA ⟨rfl,rfl⟩;go_wp2_with fail;refine sV.out.mono ?_;rintro e sA ⟨rfl,rfl⟩;clear sV;go_wp2_with fail;go_ret;exact HE.out
 have yu:k<s.gG.length:=(bm.1 hk).1;have acP:=h1.j7;have acR:=h1.lA;obtain⟨cb,jJ⟩:∃cb,gP[k]? =some cb:=⟨_,am (by omega)⟩;obtain⟨sr,lj⟩:∃sr,iJ[k]? =some sr:=⟨_,am (by omega)⟩;rw[hf]at kg;have sJ:pT gP (some k)=ai (some ⟨cb,0,none⟩):=by simp[pT,aQ,jJ]
 rw[sJ]at kg;have sV:=gE kg;have E0:=zM w1 cb;obtain⟨rv,sv,hc⟩:=(h1.kH k c cb sr hk jJ lj).cb;have j1:w1.cell? ⟨cb,1,none⟩= some (af ag c.addr):=by simp[aX,hc,il]
 by_cases TY:¬c.addr=addr
 ·have hab:(c.addr==addr)=false:=beq_eq_false_iff_ne.2 TY;have HE:=gE (HN.out w1 (Below.refl _ _) (vP.trans (Ka hf hk TY)));clear h h1 km kI wI hI HN oX Jj O9 Gz ue vi VZ uB pJ rp yT sI El Ek WO JI vP kg hf sJ TY hc hk jJ lj;go_enter func117,ntmps117;go_wp2_with fail;rw[Nq.out];refine(ju addr 0 255 w1).mono ?_;rintro e sA ⟨rfl,rfl⟩;rw[pX];go_wp2_with fail;refine F4.out.mono ?_;rintro e sA ⟨rfl,rfl⟩;go_wp2_with fail;refine Nl.out.mono ?_;rintro e sA ⟨rfl,rfl⟩;go_wp2_with fail;refine sV.out.mono ?_;rintro e sA ⟨rfl,rfl⟩;clear sV;go_wp2_with fail;go_ret;exact HE.out
 replace TY:=ew.1 TY;have hab:(c.addr==addr)=true:=beq_iff_eq.2 TY;have kx:=bT hk;have jR:=hI.ok c kx;have m_:=hI.inv c kx;have zB:=jR.jc;have j3:w1.cell? ⟨cb,3,none⟩= some (af ag c.jc):=by simp[aX,hc,il]
 have z3:w1.frozen? ⟨cb,3,none⟩= false:=frozen_of_row w1 cb 3 _ _ hc;have hwg:IntKind.i64.wrap (c.jc+(b.length:Int))=c.jc+b.length:=by rw[di];omega
 have Jc:ke (M+b.length+1000) {c with jc:=c.jc+b.length}:=⟨jR.gL,jR.addr,by simp only;omega,by have:=jR.jb;simp only;omega,jR.heard,jR.runs,jR.gM,jR.p_,jR.str⟩;have LG:lr s.c {c with jc:=c.jc+b.length}:=⟨m_.str,m_.high,m_.runs⟩;have js:=oV h1.lf hc;have Ae:=(o9.WY wI).cut (1+S1+S2) (by omega);rw[he3]at Ae;obtain⟨fv,Jm⟩:∃fv,sliced (some ⟨i_,off,none⟩) (1+S1+S2) b.length bc 1=fv:=⟨_,rfl⟩;rw[Jm]at Ae
 have WJ:∀W:World,(dA 44 (aj (some ⟨i_,off,none⟩) b.length bc) (some (af ag (1+z1+z2))) none none).run ae W=.ok fv W:=by
  intro W;have e:1+z1+z2=((1+S1+S2:Nat):Int):=by omega
  rw[e,<-Jm];exact sU W underlying44 (pP W) (by omega)
 have vg:ip (· = cb) w1 (w1.setCell ⟨cb,3,none⟩ (af ag (c.jc+b.length))):=iu (Below.refl _ _) 3 _;have h2:iS (w1.setCell ⟨cb,3,none⟩ (af ag (c.jc+b.length))) {s with gG:=s.gG.set k {c with jc:=c.jc+b.length}} sb gP iJ cv (aj none 0 0) w.heap.size [] []:=h1.UL hk jJ lj rfl rfl vg (fun rv sv hh=>(gQ hh 3 _).trans rfl);generalize yn:w1.setCell ⟨cb,3,none⟩ (af ag (c.jc+b.length))=w2 at vg h2;have TP:=gE yn;have hcF:ip (UB sb gP iJ cv w.heap.size) w w2:=(km.mono fun j _ e=>a_ e).trans (vg.mono fun j _ e=>aV (a_ (by rw[e];exact bT jJ)));have Aj:=gE (P3 {s with gG:=s.gG.set k {c with jc:=c.jc+b.length}} k {c with jc:=c.jc+b.length} v2 sb cb sr w.heap.size gP iJ cv (aj none 0 0) [] [] w2 h2 (getElem?_set_at hk) jJ lj Jc (by omega))
 cases nN:mL {c with jc:=c.jc+(b.length:Int)} v2 with
 |none=>
  rw[nN]at Aj
  have HE:Hid (∀W,Below w2.heap.size w2 W->W.cell? ⟨sb,13,none⟩= some (aj none 0 0)/\La w sb gP iJ cv (jl s addr b) (.returned (aj none 0 0)) W):=by
   intro W hW;have XP:=h2.below hW;refine⟨by simp[aX,XP.lf,ij,jG.cells],?_⟩;rw[vP,P5 hf hk TY nN];exact⟨_,gP,iJ,cv,_,[],rfl,XP,a_ rfl,hcF.trans (ip.gS hW),K_.refl _ _ _ _⟩
  clear h h1 km kI wI hI HN oX Jj O9 Gz ue vi VZ uB pJ rp yT sI El Ek WO JI vP kg hf sJ TY hc hk jJ lj jR m_ zB Jc LG Ae vg h2 hcF yn nN kx WJ;go_enter func117,ntmps117;go_wp2_with fail;rw[Nq.out];refine(ju addr 0 255 w1).mono ?_;rintro e sA ⟨rfl,rfl⟩;rw[pX];go_wp2_with fail;refine F4.out.mono ?_;rintro e sA ⟨rfl,rfl⟩;go_wp2_with fail;refine Nl.out.mono ?_;rintro e sA ⟨rfl,rfl⟩;go_wp2_with fail;refine sV.out.mono ?_;rintro e sA ⟨rfl,rfl⟩;clear sV;go_wp2_with fail;rw[TP.out];refine Aj.out.mono ?_;rintro e w3 ⟨rfl,mw⟩;obtain⟨e13,hR⟩:=HE.out w3 mw;have HR:=gE hR;clear hR HE Aj mw;go_wp2_with fail;go_ret;exact HR.out
 |some c2=>
  rw[nN]at Aj;obtain⟨q1,q2,q3,q4,q5,q6,q7⟩:=wu Jc LG (by omega) nN
  have sg:Hid (∀W,iS W {({s with gG:=s.gG.set k {c with jc:=c.jc+b.length}}:ik) with gG:=(s.gG.set k {c with jc:=c.jc+b.length}).set k c2} sb gP iJ cv (aj none 0 0) w.heap.size [] []->ip (· = cb) w2 W->W.cell? ⟨sb,10,none⟩= some (af ag s.now)/\(∃x,W.cell? ⟨cb,5,none⟩= some (af ag x))/\W.frozen? ⟨cb,5,none⟩= false/\Calls ae 160 #[ai (some ⟨sb,0,none⟩),ai (some ⟨cb,0,none⟩),fv] (W.setCell ⟨cb,5,none⟩ (af ag s.now)) fun e w'=>e=.returned (.tuple #[])/\∃v,w'.cell? ⟨sb,13,none⟩= some v/\(∃x y z,v=.slice x y z)/\La w sb gP iJ cv (jl s addr b) (.returned v) w'):=by
   intro W XP hcW;simp only[List.set_set]at XP;have hkW:(s.gG.set k c2)[k]? =some c2:=getElem?_set_at hk;obtain⟨rv3,sv3,rE⟩:=(XP.kH k c2 cb sr hkW jJ lj).cb;have R_:ip (· = cb) W (W.setCell ⟨cb,5,none⟩ (af ag s.now)):=iu (Below.refl _ _) 5 _;have RT:=XP.UL (c':={c2 with heard:=s.now}) hkW jJ lj rfl rfl R_ (fun rv sv hh=>(gQ hh 5 _).trans rfl);simp only[List.set_set]at RT;have aa3:ip (· = cb) w1 (W.setCell ⟨cb,5,none⟩ (af ag s.now)):=(vg.trans hcW).trans R_;have ac8:=Ae.iO aa3 (fun j hj e=>(HZ.out j hj).2.2.1 (by rw[e];exact bT jJ));have ad':=aa3.size;refine⟨by simp[aX,XP.lf,ij,jG.cells],⟨c2.heard,by simp[aX,rE,il]⟩,frozen_of_row W cb 5 _ _ rE,?_⟩;refine(yE {s with gG:=s.gG.set k {c2 with heard:=s.now}} k {c2 with heard:=s.now} r3 b.length sb cb sr w.heap.size fv gP iJ cv (aj none 0 0) [] [] _ RT (getElem?_set_at hk) jJ lj hI.cfg (M:=M+b.length+1000) ⟨q1.gL,q1.addr,q1.jc,q1.jb,hI.now,q1.runs,q1.gM,q1.p_,q1.str⟩ (by omega) (by simp only;omega) (by simp;omega) (by simp only;rw[mn (c':={c2 with heard:=s.now}) hk q3];exact hI.nd) HZ.out ac8 (by omega) (by omega) (by omega) (by simp)).mono ?_;rintro e w5 ⟨rfl,hF⟩;have vO:jl s addr b=ji {s with gG:=s.gG.set k {c2 with heard:=s.now}} k r3 [] b.length:=by rw[vP,P4 hf hk TY nN]
   rw[vO]
   have aba:∀iW nw,(∀j∈iW,j∈gP)->(∀j∈nw,j∈iJ)->Leaves (W.setCell ⟨cb,5,none⟩ (af ag s.now)) sb iW nw cv cb sr w.heap.size (ji {s with gG:=s.gG.set k {c2 with heard:=s.now}} k r3 [] b.length).1 (ji {s with gG:=s.gG.set k {c2 with heard:=s.now}} k r3 [] b.length).2 w5->∃v,w5.cell? ⟨sb,13,none⟩= some v/\(∃x y z,v=.slice x y z)/\La w sb gP iJ cv (ji {s with gG:=s.gG.set k {c2 with heard:=s.now}} k r3 [] b.length) (.returned v) w5:=by
    rintro iW nw hq1 hq2 ⟨cv5,ov5,adA,Ea,Aw,hl5⟩;obtain⟨y1,y2,y3⟩:=iA Ea.ng;refine⟨ov5,by simp[aX,Ea.lf,ij,jG.cells],⟨_,_,_,y3⟩,ov5,iW,nw,cv5,ov5,adA,rfl,Ea,a_ rfl,?_,fun j hj=>a_ (hq1 j hj),fun j hj=>a_ (hq2 j hj),(uH hl5 (by omega)).2⟩;refine(hcF.trans ((hcW.trans R_).mono fun j _ e=>aV (a_ (by rw[e];exact bT jJ)))).trans (Aw.mono fun j _ hj=>?_);rcases hj with e|e|e|e
    ·exact a_ e
    ·exact aV (a_ (by rw[e];exact bT jJ))
    ·exact aV (aV (a_ (by rw[e];exact bT lj)))
    ·exact aV (aV (aV (aV e)))
   exact⟨rfl,hF.elim (aba _ _ (fun _ h=>h) (fun _ h=>h)) (aba _ _ (fun j hj=>(cV _ _).subset hj) (fun j hj=>(cV _ _).subset hj))⟩
  clear h h1 km kI wI hI HN oX Jj O9 Gz ue vi VZ uB pJ rp yT sI El Ek WO JI vP kg hf sJ TY hc hk jJ lj jR m_ zB Jc LG Ae vg h2 hcF yn nN kx q1 q2 q3 q4 q5 q6 q7;go_enter func117,ntmps117;go_wp2_with fail;rw[Nq.out];refine(ju addr 0 255 w1).mono ?_;rintro e sA ⟨rfl,rfl⟩;rw[pX];go_wp2_with fail;refine F4.out.mono ?_;rintro e sA ⟨rfl,rfl⟩;go_wp2_with fail;refine Nl.out.mono ?_;rintro e sA ⟨rfl,rfl⟩;go_wp2_with fail;refine sV.out.mono ?_;rintro e sA ⟨rfl,rfl⟩;clear sV;go_wp2_with fail;rw[TP.out];refine Aj.out.mono ?_;rintro e w3 ⟨rfl,Ba,rE⟩;obtain⟨f10,⟨x5,f5⟩,g5,Wk⟩:=sg.out w3 Ba rE;have TL:=gE Wk;clear Ba rE Wk sg Aj;go_wp2_with fail;refine TL.out.mono ?_;rintro e w5 ⟨rfl,v,adq,⟨x,y,z,rfl⟩,hR⟩;have HR:=gE hR;clear hR TL f10 f5 g5;go_wp2_with fail;go_ret;exact HR.out
theorem Oy(l:List jf)(s:jf):uo (l++[s])=uo l+od s.bytes:=by simp[uo]
theorem Lg{l:List jf}{B:Int}(h:∀s∈l,(s.bytes.length:Int)<=B):0<=uo l/\uo l<=l.length*B:=by
 induction l with
 |nil=>simp[uo]
 |cons s r ih=>
  have h1:=h s (by simp);have h2:=ih (fun x hx=>h x (by simp[hx]));have h3:od s.bytes<=s.bytes.length:=ej;simp only[uo,List.map_cons,List.sum_cons,List.length_cons]at h2⊢;rw[show((r.length+1:Nat):Int)*B=r.length*B+B from by rw[Int.natCast_add,Int.add_mul];simp];omega
theorem LD(l:List Int)(x:Int):od (l++[x])=od l+if 0<=x then 1 else 0:=by
 unfold od;rw[List.countP_append];by_cases h:0<=x<;>simp[h]
theorem Lj(w:World)(p:Addr):w.drew.cell? p=w.cell? p:=rfl
theorem Th(s:ik)(gL:Int)(sb ob:Nat)(gP iJ:List Nat)(cv ov:Value)(out:List (Int×Value))(gN:List (Int×List Int))(w:World)(h:iS w s sb gP iJ cv ov ob out gN)(hI:iQ M L s):
  Calls ae 123 #[ai (some ⟨sb,0,none⟩),af ag gL] w fun e w'=>e=.returned (.tuple #[.agg (oO s gL).1,af ag (oO s gL).2])/\Below w.heap.size w w':=by
 have kf:Below w.heap.size w (w.alloc (.cells #[.bool false,af ag 0,af ag 0,af ag 0,af ag 0,af ag 0] 34)):=gH w _;have h0:=h.below kf;obtain⟨wa,li,jB⟩:=h0.view;have wK:=hI.BA;have qs:=hI.cfg.c0;have kg:=nK s sb gP wa li gL _ jB (by omega);have HX:Hid ((w.alloc (.cells #[.bool false,af ag 0,af ag 0,af ag 0,af ag 0,af ag 0] 34)).heap[w.heap.size]? =some (.cells #[.bool false,af ag 0,af ag 0,af ag 0,af ag 0,af ag 0] 34 (0,0))):=heap_alloc_new w _;rcases sG (l:=s.gG) (gL:=gL) with⟨hf,_⟩|⟨k,c,hf,hk,Ad⟩
 ·rw[hf]at kg;have Z5:pT gP none=ai none:=rfl;rw[Z5]at kg;have sV:=gE kg;have Sn:oO s gL=(uT,3):=by unfold oO;rw[hf]
  rw[Sn];unfold uT
  have E0:∀W:World,(binOp .eql 244 (ai none) (ai none)).run ae W=.ok (.bool true) W:=fun W=>by
   first|exact run_eql_pointer_nil W 244 none xp|kernel_rfl
  clear h h0 hI hf Sn jB kg;go_enter func123,ntmps123;go_wp2_with fail;refine sV.out.mono ?_;rintro e w1 ⟨rfl,rfl⟩;clear sV;go_wp2_with fail;refine bodyPost_ret (kM (P:=ae) Tryz.results123 _ _ w.heap.size 34 #[.bool false,af ag 0,af ag 0,af ag 0,af ag 0,af ag 0] (0,0) _ (af ag 3) (by kernel_rfl) (by kernel_rfl) HX.out underlying34 rfl (by kernel_rfl)) rfl ?_;exact⟨rfl,kf⟩
 ·have yu:k<s.gG.length:=(bm.1 hk).1;have acP:=h.j7;have acR:=h.lA;obtain⟨cb,jJ⟩:∃cb,gP[k]? =some cb:=⟨_,am (by omega)⟩;obtain⟨sr,lj⟩:∃sr,iJ[k]? =some sr:=⟨_,am (by omega)⟩;rw[hf]at kg;have sJ:pT gP (some k)=ai (some ⟨cb,0,none⟩):=by simp[pT,aQ,jJ]
  rw[sJ]at kg;have sV:=gE kg;have Sn:oO s gL=(Dc c,0):=by unfold oO;rw[hf];simp only;rw[hk]
  rw[Sn];have kx:=bT hk;have jR:=hI.ok c kx;have m_:=hI.inv c kx;have yY:=jR.p_
  have qQ:∀x∈c.gJ,(x.bytes.length:Int)<=1073741823:=fun x hx=>by
   have q1:=(m_.str x hx).len;have q2:=(m_.str x hx).Ls;have q3:=(m_.str x hx).read;omega
  obtain⟨kN,rv,nk,hv⟩:=(h0.kH k c cb sr hk jJ lj).view
  have mx:cb<w.heap.size:=by
   obtain⟨_,_,q⟩:=(h.kH k c cb sr hk jJ lj).cb;exact(aO.1 q).1
  have E0:∀W:World,(binOp .eql 244 (ai (some ⟨cb,0,none⟩)) (ai none)).run ae W=.ok (.bool false) W:=fun W=>by
   first|exact run_eql_pointer_nil W 244 (some ⟨cb,0,none⟩) xp|kernel_rfl
  have pQ:=gE kf;have HV:=gE hv;have VQ:=gE qQ;unfold Dc;obtain⟨B,hB⟩:∃B,uo c.gJ=B:=⟨_,rfl⟩;rw[hB];have HBe:=gE hB;clear hB;generalize tu:(w.alloc (.cells #[.bool false,af ag 0,af ag 0,af ag 0,af ag 0,af ag 0] 34))=w0 at *
  have A8:=gE tu;have c2:w0.cell? ⟨cb,2,none⟩= some (.bool c.gT):=hv.cell 2;have c3:w0.cell? ⟨cb,3,none⟩= some (af ag c.jc):=hv.cell 3;have c4:w0.cell? ⟨cb,4,none⟩= some (af ag c.jb):=hv.cell 4;have c8:w0.cell? ⟨cb,8,none⟩= some (af ag c.gM):=hv.cell 8;have c9:w0.cell? ⟨cb,9,none⟩= some (aj (some ⟨sr,0,none⟩) c.gJ.length kN):=hv.cell 9;clear h h0 hI hf hk jJ lj sJ Sn kx jR m_ hv qQ jB kg tu kf;go_enter func123,ntmps123;go_wp2_with fail;rw[A8.out];refine sV.out.mono ?_;rintro e w1 ⟨rfl,rfl⟩;clear sV;go_wp2_with fail
  go_loop [7,8] (fun n i=>∃k:Nat,k<=c.gJ.length/\i=af ag k/\n=af ag (uo (c.gJ.take k))) (fun _ i=>c.gJ.length-(intOf i).toNat)
  case atStart=>exact⟨0,aI _,rfl,rfl⟩
  case round=>
   obtain⟨k,hk,rfl,rfl⟩:=hrel
   have zE:0<=uo (c.gJ.take k)/\uo (c.gJ.take k)<=1152921504606846976:=by
    have h1:=Lg (l:=c.gJ.take k) (B:=1073741823) (fun s hs=>VQ.out s (List.mem_of_mem_take hs));have h2:(c.gJ.take k).length<=k:=List.length_take_le _ _;omega
   by_cases jp:k<c.gJ.length
   ·obtain⟨x,hx⟩:∃x,c.gJ[k]? =some x:=⟨_,am jp⟩;obtain⟨bv,kI⟩:∃bv,nk[k]? =some bv:=⟨_,am (by rw[HV.out.len];exact jp)⟩;have hq0:w0.cell? ⟨sr,k*7,none⟩= some bv:=HV.out.str k x bv hx kI 0 (by decide);have Fu:=VQ.out x (bT hx);obtain⟨ao,cap,rfl,hp,_⟩:=HV.out.bytes k x bv hx kI;have HP:=gE hp
    have HU:Hid (uo (c.gJ.take (k+1))=uo (c.gJ.take k)+od x.bytes):=by
     show _=_;rw[vG hx,Oy]
    clear hx kI hp;generalize uo (c.gJ.take k)=u at HU zE⊢;obtain⟨hu0,hu1⟩:=zE;go_wp2_with fail
    go_loop [7,9] (fun n i=>∃j:Nat,j<=x.bytes.length/\i=af ag j/\n=af ag (u+(od (x.bytes.take j):Nat))) (fun _ i=>x.bytes.length-(intOf i).toNat)
    case atStart=>exact⟨0,aI _,rfl,by simp[od]⟩
    case round=>
     obtain⟨j,hj,rfl,rfl⟩:=hrel;have BF:od (x.bytes.take j)<=j:=cw ej (List.length_take_le _ _);by_cases Ww:j<x.bytes.length
     ·obtain⟨y,hy⟩:∃y,x.bytes[j]? =some y:=⟨_,am Ww⟩;obtain⟨bb,off,cur,fr,rfl,hh,lF⟩:=HP.out (by omega)
      have jk:w0.cell? ⟨bb,off+j,none⟩= some (af ag y):=by
       have:=lF j (by simpa[jC] using Ww);simp only[jC,List.getElem?_map,hy,Option.map_some]at this;simp[aX,hh,this]
      have HF:Hid (od (x.bytes.take (j+1))=od (x.bytes.take j)+if 0<=y then 1 else 0):=by
       show _=_;rw[vG hy,LD]
      clear lF hh hy;generalize od (x.bytes.take j)=q at HF BF⊢;by_cases KR:0<=y
      ·go_wp2_with fail
       go_round
       case rel=>exact⟨j+1,by omega,by go_num,by rw[HF.out,if_pos KR];go_num⟩
       case measure=>simp[intOf];omega
      ·go_wp2_with fail
       go_round
       case rel=>exact⟨j+1,by omega,by go_num,by rw[HF.out,if_neg KR];rfl⟩
       case measure=>simp[intOf];omega
     ·obtain rfl:j=x.bytes.length:=by omega
      go_wp2_with fail
      go_round
      case rel=>exact⟨k+1,by omega,by go_num,by rw[HU.out,List.take_length]⟩
      case measure=>simp[intOf];omega
   ·obtain rfl:k=c.gJ.length:=by omega
    rw[List.take_length,HBe.out];have x0:w0.heap[w.heap.size]? =_:=HX.out;have x1:(w0.setCell ⟨w.heap.size,0,none⟩ (.bool c.gT)).drew.heap[w.heap.size]? =_:=gQ x0 0 (.bool c.gT);have x2:=gQ x1 1 (af ag c.jc);have x3:=gQ x2 2 (af ag c.jb);have x4:=gQ x3 3 (af ag c.gM);have x5:=gQ x4 4 (af ag (c.gJ.length:Int));have x6:=gQ x5 5 (af ag B);have ZN:w0.cell? ⟨w.heap.size,0,none⟩= some (.bool false)/\w0.frozen? ⟨w.heap.size,0,none⟩= false/\(w0.setCell ⟨w.heap.size,0,none⟩ (.bool c.gT)).drew.cell? ⟨w.heap.size,1,none⟩= some (af ag 0)/\(w0.setCell ⟨w.heap.size,0,none⟩ (.bool c.gT)).drew.frozen? ⟨w.heap.size,1,none⟩= false/\((w0.setCell ⟨w.heap.size,0,none⟩ (.bool c.gT)).drew.setCell ⟨w.heap.size,1,none⟩ (af ag c.jc)).cell? ⟨w.heap.size,2,none⟩= some (af ag 0)/\((w0.setCell ⟨w.heap.size,0,none⟩ (.bool c.gT)).drew.setCell ⟨w.heap.size,1,none⟩ (af ag c.jc)).frozen? ⟨w.heap.size,2,none⟩= false/\(((w0.setCell ⟨w.heap.size,0,none⟩ (.bool c.gT)).drew.setCell ⟨w.heap.size,1,none⟩ (af ag c.jc)).setCell ⟨w.heap.size,2,none⟩ (af ag c.jb)).cell? ⟨w.heap.size,3,none⟩= some (af ag 0)/\(((w0.setCell ⟨w.heap.size,0,none⟩ (.bool c.gT)).drew.setCell ⟨w.heap.size,1,none⟩ (af ag c.jc)).setCell ⟨w.heap.size,2,none⟩ (af ag c.jb)).frozen? ⟨w.heap.size,3,none⟩= false/\((((w0.setCell ⟨w.heap.size,0,none⟩ (.bool c.gT)).drew.setCell ⟨w.heap.size,1,none⟩ (af ag c.jc)).setCell ⟨w.heap.size,2,none⟩ (af ag c.jb)).setCell ⟨w.heap.size,3,none⟩ (af ag c.gM)).cell? ⟨w.heap.size,4,none⟩= some (af ag 0)/\((((w0.setCell ⟨w.heap.size,0,none⟩ (.bool c.gT)).drew.setCell ⟨w.heap.size,1,none⟩ (af ag c.jc)).setCell ⟨w.heap.size,2,none⟩ (af ag c.jb)).setCell ⟨w.heap.size,3,none⟩ (af ag c.gM)).frozen? ⟨w.heap.size,4,none⟩= false/\(((((w0.setCell ⟨w.heap.size,0,none⟩ (.bool c.gT)).drew.setCell ⟨w.heap.size,1,none⟩ (af ag c.jc)).setCell ⟨w.heap.size,2,none⟩ (af ag c.jb)).setCell ⟨w.heap.size,3,none⟩ (af ag c.gM)).setCell ⟨w.heap.size,4,none⟩ (af ag (c.gJ.length:Int))).cell? ⟨w.heap.size,5,none⟩= some (af ag 0)/\(((((w0.setCell ⟨w.heap.size,0,none⟩ (.bool c.gT)).drew.setCell ⟨w.heap.size,1,none⟩ (af ag c.jc)).setCell ⟨w.heap.size,2,none⟩ (af ag c.jb)).setCell ⟨w.heap.size,3,none⟩ (af ag c.gM)).setCell ⟨w.heap.size,4,none⟩ (af ag (c.gJ.length:Int))).frozen? ⟨w.heap.size,5,none⟩= false/\((((((w0.setCell ⟨w.heap.size,0,none⟩ (.bool c.gT)).drew.setCell ⟨w.heap.size,1,none⟩ (af ag c.jc)).setCell ⟨w.heap.size,2,none⟩ (af ag c.jb)).setCell ⟨w.heap.size,3,none⟩ (af ag c.gM)).setCell ⟨w.heap.size,4,none⟩ (af ag (c.gJ.length:Int))).setCell ⟨w.heap.size,5,none⟩ (af ag B)).heap[w.heap.size]? =some (.cells #[.bool c.gT,af ag c.jc,af ag c.jb,af ag c.gM,af ag (c.gJ.length:Int),af ag B] 34 (0,0)):=⟨by simp only[aX,x0];rfl,frozen_of_row _ _ _ _ _ x0,by simp only[aX,x1];rfl,frozen_of_row _ _ _ _ _ x1,by simp only[aX,x2];rfl,frozen_of_row _ _ _ _ _ x2,by simp only[aX,x3];rfl,frozen_of_row _ _ _ _ _ x3,by simp only[aX,x4];rfl,frozen_of_row _ _ _ _ _ x4,by simp only[aX,x5];rfl,frozen_of_row _ _ _ _ _ x5,x6⟩;clear x0 x1 x2 x3 x4 x5 x6;have B4:=gE ZN;clear ZN;have js:cb≠w.heap.size:=by omega
    have Eb:∀(u0 u1 u2 u3 u4 u5:Value) (q:Nat),((((((w0.setCell ⟨w.heap.size,0,none⟩ (u0)).setCell ⟨w.heap.size,1,none⟩ (u1)).setCell ⟨w.heap.size,2,none⟩ (u2)).setCell ⟨w.heap.size,3,none⟩ (u3)).setCell ⟨w.heap.size,4,none⟩ (u4)).setCell ⟨w.heap.size,5,none⟩ (u5)).drew.cell? ⟨cb,q,none⟩= w0.cell? ⟨cb,q,none⟩:=by
     intro u0 u1 u2 u3 u4 u5 q;rw[Lj];simp only[aX];rw[heap_setCell_other _ _ _ _ js,heap_setCell_other _ _ _ _ js,heap_setCell_other _ _ _ _ js,heap_setCell_other _ _ _ _ js,heap_setCell_other _ _ _ _ js,heap_setCell_other _ _ _ _ js]
    have VY:Hid (∀(u0 u1 u2 u3 u4 u5:Value),((((((w0.setCell ⟨w.heap.size,0,none⟩ (u0)).setCell ⟨w.heap.size,1,none⟩ (u1)).setCell ⟨w.heap.size,2,none⟩ (u2)).setCell ⟨w.heap.size,3,none⟩ (u3)).setCell ⟨w.heap.size,4,none⟩ (u4)).setCell ⟨w.heap.size,5,none⟩ (u5)).drew.cell? ⟨cb,2,none⟩= some (.bool c.gT)/\((((((w0.setCell ⟨w.heap.size,0,none⟩ (u0)).setCell ⟨w.heap.size,1,none⟩ (u1)).setCell ⟨w.heap.size,2,none⟩ (u2)).setCell ⟨w.heap.size,3,none⟩ (u3)).setCell ⟨w.heap.size,4,none⟩ (u4)).setCell ⟨w.heap.size,5,none⟩ (u5)).drew.cell? ⟨cb,3,none⟩= some (af ag c.jc)/\((((((w0.setCell ⟨w.heap.size,0,none⟩ (u0)).setCell ⟨w.heap.size,1,none⟩ (u1)).setCell ⟨w.heap.size,2,none⟩ (u2)).setCell ⟨w.heap.size,3,none⟩ (u3)).setCell ⟨w.heap.size,4,none⟩ (u4)).setCell ⟨w.heap.size,5,none⟩ (u5)).drew.cell? ⟨cb,4,none⟩= some (af ag c.jb)/\((((((w0.setCell ⟨w.heap.size,0,none⟩ (u0)).setCell ⟨w.heap.size,1,none⟩ (u1)).setCell ⟨w.heap.size,2,none⟩ (u2)).setCell ⟨w.heap.size,3,none⟩ (u3)).setCell ⟨w.heap.size,4,none⟩ (u4)).setCell ⟨w.heap.size,5,none⟩ (u5)).drew.cell? ⟨cb,8,none⟩= some (af ag c.gM)/\((((((w0.setCell ⟨w.heap.size,0,none⟩ (u0)).setCell ⟨w.heap.size,1,none⟩ (u1)).setCell ⟨w.heap.size,2,none⟩ (u2)).setCell ⟨w.heap.size,3,none⟩ (u3)).setCell ⟨w.heap.size,4,none⟩ (u4)).setCell ⟨w.heap.size,5,none⟩ (u5)).drew.cell? ⟨cb,9,none⟩= some (aj (some ⟨sr,0,none⟩) c.gJ.length kN)):=by
     intro u0 u1 u2 u3 u4 u5;simp only[Eb];exact⟨c2,c3,c4,c8,c9⟩
    clear Eb;have y0:w0.heap[w.heap.size]? =_:=HX.out;have y1:=gQ y0 0 (.bool c.gT);have y2:=gQ y1 1 (af ag c.jc);have y3:=gQ y2 2 (af ag c.jb);have y4:=gQ y3 3 (af ag c.gM);have y5:=gQ y4 4 (af ag (c.gJ.length:Int));have y6:=gQ y5 5 (af ag B)
    have HFn:Hid (((((((w0.setCell ⟨w.heap.size,0,none⟩ (.bool c.gT)).setCell ⟨w.heap.size,1,none⟩ (af ag c.jc)).setCell ⟨w.heap.size,2,none⟩ (af ag c.jb)).setCell ⟨w.heap.size,3,none⟩ (af ag c.gM)).setCell ⟨w.heap.size,4,none⟩ (af ag (c.gJ.length:Int))).setCell ⟨w.heap.size,5,none⟩ (af ag B)).drew.heap[w.heap.size]? =some (.cells #[.bool c.gT,af ag c.jc,af ag c.jb,af ag c.gM,af ag (c.gJ.length:Int),af ag B] 34 (0,0))):=by
     refine gE ?_;rw[heap_drew];exact y6
    clear y0 y1 y2 y3 y4 y5 y6;have hSd:w0.drew.cell? ⟨cb,2,none⟩= some (.bool c.gT)/\w0.drew.cell? ⟨cb,3,none⟩= some (af ag c.jc)/\w0.drew.cell? ⟨cb,4,none⟩= some (af ag c.jb)/\w0.drew.cell? ⟨cb,8,none⟩= some (af ag c.gM)/\w0.drew.cell? ⟨cb,9,none⟩= some (aj (some ⟨sr,0,none⟩) c.gJ.length kN):=⟨c2,c3,c4,c8,c9⟩;go_wp2_with fail
    go_region_held3 (fun w'=>w'.cell? ⟨cb,2,none⟩= some (.bool c.gT)/\w'.cell? ⟨cb,3,none⟩= some (af ag c.jc)/\w'.cell? ⟨cb,4,none⟩= some (af ag c.jb)/\w'.cell? ⟨cb,8,none⟩= some (af ag c.gM)/\w'.cell? ⟨cb,9,none⟩= some (aj (some ⟨sr,0,none⟩) c.gJ.length kN)) (first|with_reducible assumption|with_reducible exact VY.out _ _ _ _ _ _) (first
     |(refine Oa ?_;obtain⟨e0,f0,e1,f1,e2,f2,e3,f3,e4,f4,e5,f5,lI⟩:=B4.out;simp only[e0,f0,e1,f1,e2,f2,e3,f3,e4,f4,e5,f5,Result.andThen_ok,Bool.false_eq_true,if_false];refine FU ?_))
    clear lI e0 f0 e1 f1 e2 f2 e3 f3 e4 f4 e5 f5 VY hSd c2 c3 c4 c8 c9;go_wp2_with fail;refine bodyPost_ret (kM (P:=ae) Tryz.results123 _ _ w.heap.size 34 #[.bool c.gT,af ag c.jc,af ag c.jb,af ag c.gM,af ag (c.gJ.length:Int),af ag B] (0,0) _ (af ag 0) (by kernel_rfl) (by kernel_rfl) HFn.out underlying34 rfl (by kernel_rfl)) rfl ?_;exact⟨rfl,gK ((((((pQ.out.setCell (ay _) _).setCell (ay _) _).setCell (ay _) _).setCell (ay _) _).setCell (ay _) _).setCell (ay _) _) 1⟩
end Go.Proofs.YthmdjhlhodpbhaaGreatDoor
