/- Comes, part 15 -/
import Derived.BigRegion
import Derived.Test.YthmdjhlhodpbhaaGreatDoorM14
set_option maxHeartbeats 16000000
set_option maxRecDepth 8000
namespace Go.Proofs.YthmdjhlhodpbhaaGreatDoor
open Go.RowKit
open _root_.List renaming mem_of_getElem? → bT, getElem?_eq_getElem → am, getElem?_eq_some_iff → bm, mem_map → cZ, nodup_cons → bB, getElem?_zip_eq_some → dX, map_fst_zip → d', mem_filter → c_, filter_congr → ei, filter_eq_self → dV, map_cons → bD, getElem?_cons_zero → cz, getElem?_cons_succ → cB, filter_cons → dU, mem_cons → cI
open Go.World renaming cell? → aX, drewN → dD
open _root_.Nat renaming le_refl → ay, lt_of_lt_of_le → cq, le_trans → cw
open _root_.Or renaming inl → a_, inr → aV
open Go.Instr renaming lookup → dM
open _root_.Array renaming getElem?_eq_some_iff → aO
open _root_.Bool renaming false_eq_true → de
open _root_.And renaming intro → ce
open Go.Region renaming wanted → bn
open _root_.Go.Proofs.Tryz
open _root_.Go.Proofs.Tryz renaming prog → ae
open Go.Value renaming int → af, slice → aj, pointer → ai
open Go.IntKind renaming i64 → ag
variable {N cm sb k R i cb N':Nat}{s:ik}{w w' wr W w1:World}{wv kV:Value}{gP ws iW nS wt:List Nat}{xs nl:List iP}{c:gZ}{M gL addr L size num now jm iI:Int}{b k1 k2 tok ks:List Int}{gN:List (Int×List Int)}{e:Ending}{g:gZ->Bool}{r:ik×List (Int×List Int)}{l:List gZ}{a:Act}{d:EX}{P:Program}{K:Act->World->Prop}
theorem jt.found(h:jt N w sb s cm wv gP xs ws)(tz:(s.gG.map (·.gL)).Nodup)(hk:s.gG[k]? =some c):∃cb a,gP[k]? =some cb/\xs[k]? =some a/\rV ((s.gG.map (·.gL)).zip gP) c.gL=some cb:=by
 have yu:=(bm.1 hk).1;have h1:k<gP.length:=by rw[h.j7];exact yu
 have h2:k<xs.length:=by rw[h.lA];exact yu
 refine⟨gP[k],xs[k],am h1,am h2,?_⟩;refine u9 (by rw[d' (by simp[h.j7])];exact tz) (bT (i:=k) ?_);rw[dX];exact⟨by simp[hk],am h1⟩
theorem jt.SY(h:jt N w sb s cm wv gP xs ws)(hc:0<=gL/\gL<=1073741823)(ka:gL∉s.gG.map (·.gL)):(dM 98 (.map (some cm)) (af ag gL) false).run ae w=.ok (ai none) w:=by
 obtain⟨n,_,hm⟩:=h.map;have h1:=zT (C:=nv) (e:=97) underlying3 underlying98 (fun W=>by kernel_rfl) hm (xi (k:=gL) (by omega))
 have h2:rV ((s.gG.map (·.gL)).zip gP) gL=none:=by
  refine un.2 ?_;rw[d' (by simp[h.j7])];exact ka
 unfold qv at h1;rw[h2]at h1;exact h1
theorem jt.oO(h:jt N w sb s cm wv gP xs ws)(hc:0<=gL/\gL<=1073741823)(ha:rV ((s.gG.map (·.gL)).zip gP) gL=some cb):(dM 98 (.map (some cm)) (af ag gL) false).run ae w=.ok (ai (some ⟨cb,0,none⟩)) w:=by
 obtain⟨n,_,hm⟩:=h.map;have h1:=zT (C:=nv) (e:=97) underlying3 underlying98 (fun W=>by kernel_rfl) hm (xi (k:=gL) (by omega));unfold qv at h1;rw[ha]at h1;exact h1
theorem OV(hf:kR s.gG gL=none):nF s addr gL num size b N gN=(s,gN):=by
 unfold nF;rw[hf]
theorem Lu(hf:kR s.gG gL=some k)(hk:s.gG[k]? =some c)(ha:c.addr≠addr):nF s addr gL num size b N gN=(s,gN):=by
 unfold nF;rw[hf];simp only;rw[hk];simp only;rw[if_pos ha]
theorem RL(hf:kR s.gG gL=some k)(hk:s.gG[k]? =some c)(ha:c.addr=addr)(hc:mL {c with jc:=c.jc+size} num=none):nF s addr gL num size b N gN=({s with gG:=s.gG.set k {c with jc:=c.jc+size}},gN):=by
 unfold nF;rw[hf];simp only;rw[hk];simp only;rw[if_neg (by simp[ha]),hc]
theorem RK{c2:gZ}(hf:kR s.gG gL=some k)(hk:s.gG[k]? =some c)(ha:c.addr=addr)(hc:mL {c with jc:=c.jc+size} num=some c2):nF s addr gL num size b N gN=ji {s with gG:=s.gG.set k {c2 with heard:=s.now}} k b gN N:=by
 unfold nF;rw[hf];simp only;rw[hk];simp only;rw[if_neg (by simp[ha]),hc]
theorem kw.pre{w4:World}{wv4:Value}{aaC:List Nat}{xs4:List iP}(h:kw N w4 sb cm wv4 aaC xs4 r e w')(hc:ip (lh sb cm wv gP xs) w w4)(nz:∀k,lh sb cm wv4 aaC xs4 k->lh sb cm wv gP xs k\/w.heap.size<=k)(hu:∀k,qz xs4 k->qz xs k\/w.heap.size<=k):kw N w sb cm wv gP xs r e w':=by
 obtain⟨⟨v,kV,iW,nl,nS,e1,ho,hP,hF,hU⟩,xQ⟩:=h;refine⟨⟨v,kV,iW,nl,nS,e1,ho.mono hc.size,hP,fun k hk=>?_,fun k hk=>?_⟩,oj hc xQ nz⟩
 ·rcases hF k hk with h1|h1
  ·exact nz k h1
  ·exact aV (cw hc.size h1)
 ·rcases hU k hk with h1|h1
  ·exact hu k h1
  ·exact aV (cw hc.size h1)
theorem Qj(N:Nat)(sb:Nat)(s:ik)(cm:Nat)(wv:Value)(gP:List Nat)(xs:List iP)(ws:List Nat)(addr size:Int)(d:EX)(tv fv:Value)(b:List Int)(nn:Nat)(w:World)(h:jt N w sb s cm wv gP xs ws)(hI:iQ M L s)(Cb:∃ta tl tc,tv=.slice ta tl tc)(kb:0<=d.gL/\d.gL<=1073741823)(rr:0<=d.num/\d.num<=1073741823)(ku:0<=size/\size<=1125899906842624)(yS:0<=M)(hM:M+size+100<=1125899906842624)
  (kI:me w fv b) (rm:iF b) (hl:b.length<=1073741823) (hn:b.length<=nn) (hN:N+b.length<1125899906842624) (hE:∀W,ip (lh sb cm wv gP xs) w W->Env W):
  Calls ae 49 #[ai (some ⟨sb,0,none⟩),af ag addr,.agg (xq d size tv fv)] w fun e w'=>kw (N+b.length) w sb cm wv gP xs (nF s addr d.gL d.num size b nn []) e w':=by
 obtain⟨t1,t2,t3,rfl⟩:=Cb;obtain⟨_,_,f1,f3,rfl,_⟩:=id kI;generalize X7:b.length=f2 at *
 have ny:Below w.heap.size w (w.alloc (.cells #[af ag d.kind,af ag size,af ag d.gL,.slice t1 t2 t3,af ag d.num,.slice f1 f2 f3] 107)):=gH w _;have rW:=h.i_.below ny;have tS:(w.alloc (.cells #[af ag d.kind,af ag size,af ag d.gL,.slice t1 t2 t3,af ag d.num,.slice f1 f2 f3] 107)).cell? ⟨sb,11,none⟩= some (.map (some cm)):=rW.cell 11;have b2:(w.alloc (.cells #[af ag d.kind,af ag size,af ag d.gL,.slice t1 t2 t3,af ag d.num,.slice f1 f2 f3] 107)).cell? ⟨w.heap.size,2,none⟩= some (af ag d.gL):=by simp
 have yb:Hid ((w.alloc (.cells #[af ag d.kind,af ag size,af ag d.gL,.slice t1 t2 t3,af ag d.num,.slice f1 f2 f3] 107)).heap[w.heap.size]? =some (.cells #[af ag d.kind,af ag size,af ag d.gL,.slice t1 t2 t3,af ag d.num,.slice f1 f2 f3] 107 (0,0))):=heap_alloc_new w _;have HZ:Hid (w.heap.size<(w.alloc (.cells #[af ag d.kind,af ag size,af ag d.gL,.slice t1 t2 t3,af ag d.num,.slice f1 f2 f3] 107)).heap.size):=by show _<_;simp
 have KG:Hid (∀(W:World),Below w.heap.size w W->kw (N+f2) w sb cm wv gP xs (s,[]) (.returned (aj none 0 0)) W):=fun W hW=>kw.WX h (jW.nil _ _) ((h.below hW).mono (Nat.le_add_right _ _)) (fun k hk=>a_ hk) (fun k hk=>hk) (ip.gS hW)
 rcases sG (l:=s.gG) (gL:=d.gL) with⟨hf,ka⟩|⟨k,c,hf,hk,Ad⟩
 ·have zL:∀q,(dM 98 (.map (some cm)) (af ag d.gL) false).run ae ((w.alloc (.cells #[af ag d.kind,af ag size,af ag d.gL,.slice t1 t2 t3,af ag d.num,.slice f1 f2 f3] 107)).drewN q)=.ok (ai none) ((w.alloc (.cells #[af ag d.kind,af ag size,af ag d.gL,.slice t1 t2 t3,af ag d.num,.slice f1 f2 f3] 107)).drewN q):=fun q=>(h.below (gK ny q)).SY kb ka
  rw[OV hf];unfold xq;have xL:=gE ny;clear h hI rW ny kI rm hE hf ka hM hN hn hl yb HZ;generalize tu:(w.alloc (.cells #[af ag d.kind,af ag size,af ag d.gL,.slice t1 t2 t3,af ag d.num,.slice f1 f2 f3] 107))=w0 at *
  have A8:=gE tu;clear tu;go_enter func49,ntmps49;go_wp2_with fail;rw[A8.out]
  go_quiet (fail)
  go_wp2_with fail;go_ret;exact KG.out _ (gK xL.out _)
 ·obtain⟨cb,a,jJ,ha,kP⟩:=h.found hI.nd hk;rw[Ad]at kP;have zL:∀q,(dM 98 (.map (some cm)) (af ag d.gL) false).run ae ((w.alloc (.cells #[af ag d.kind,af ag size,af ag d.gL,.slice t1 t2 t3,af ag d.num,.slice f1 f2 f3] 107)).drewN q)=.ok (ai (some ⟨cb,0,none⟩)) ((w.alloc (.cells #[af ag d.kind,af ag size,af ag d.gL,.slice t1 t2 t3,af ag d.num,.slice f1 f2 f3] 107)).drewN q):=fun q=>(h.below (gK ny q)).oO kb kP
  have hC:=h.kH k c cb a hk jJ ha;have kx:=bT hk;have jR:=hI.ok c kx;have m_:=hI.inv c kx;have zB:=jR.jc;have mx:cb<w.heap.size:=hC.i_.lt;have Uj:Hid (∀W,Below w.heap.size w W->Calls ae 94 #[ai (some ⟨cb,0,none⟩)] W fun e w'=>e=.returned (af ag c.addr)/\W=w'):=fun W hW=>zh cb s.c c _ _ _ _ W (hC.i_.below hW)
  by_cases js:c.addr=addr
  ·have Jc:ke (M+size+100) {c with jc:=c.jc+size}:=⟨jR.gL,jR.addr,by simp only;omega,by have:=jR.jb;simp only;omega,jR.heard,jR.runs,jR.gM,jR.p_,jR.str⟩;have LG:lr s.c {c with jc:=c.jc+size}:=⟨m_.str,m_.high,m_.runs⟩;have lj:∀w1,ip (jH cb a) w w1->ip (lh sb cm wv gP xs) w w1:=fun w1 hc=>hc.mono fun j _ hj=>pu jJ ha hj
   have HGt:Hid (∀W,Below w.heap.size w W->Calls ae 95 #[ai (some ⟨cb,0,none⟩),af ag size] W fun e w'=>e=.returned (.tuple #[])/\jE N w' cb s.c {c with jc:=c.jc+size} a/\ip (· = cb) W w'):=by
    intro W hW;refine(CD cb s.c c _ _ _ _ size W (hC.i_.below hW) ⟨zB.1,by omega⟩ ku).mono ?_;rintro e w' ⟨e1,e2,e3⟩;exact⟨e1,(hC.below hW).Kd e3 e2 rfl rfl,e3⟩
   have HNu:Hid (∀W,jE N W cb s.c {c with jc:=c.jc+size} a->Calls ae 96 #[ai (some ⟨cb,0,none⟩),af ag d.num] W fun e w'=>Al N W cb s.c {c with jc:=c.jc+size} a (mL {c with jc:=c.jc+size} d.num) e w'):=fun W hA=>IJ N cb s.c _ a d.num W hA LG Jc rr
   have Ux:Hid (mL {c with jc:=c.jc+size} d.num=none->∀(w3:World) (a':iP),ip (jH cb a) w w3->jE N w3 cb s.c {c with jc:=c.jc+size} a'->(∀j,jH cb a' j->jH cb a j\/w.heap.size<=j)->Ou w.heap.size a a'->kw (N+f2) w sb cm wv gP xs (nF s addr d.gL d.num size b nn []) (.returned (aj none 0 0)) w3):=by
    intro nN w3 a' rE XJ nz Ir;rw[RL hf hk js nN];exact kw.mk0 (jW.nil _ _) rfl ((h.step (ay _) hk jJ ha rE XJ nz rfl rfl).mono (Nat.le_add_right _ _)) (y_ jJ ha nz) (za ha Ir) (lj _ rE)
   have Rb:Hid (∀c2,mL {c with jc:=c.jc+size} d.num=some c2->∀(w4:World) (a':iP),ip (jH cb a) w w4->jE N w4 cb s.c {c2 with heard:=s.now} a'->(∀j,jH cb a' j->jH cb a j\/w.heap.size<=j)->Ou w.heap.size a a'->Calls ae 98 #[ai (some ⟨sb,0,none⟩),ai (some ⟨cb,0,none⟩),.slice f1 f2 f3] w4 fun e w'=>kw (N+f2) w sb cm wv gP xs (nF s addr d.gL d.num size b nn []) e w'):=by
    intro c2 nN w4 a' ud hA4 nz Ir;rw[RK hf hk js nN];obtain⟨q1,q2,q3,q4,q5,q6,q7⟩:=wu Jc LG rr nN;have hP4:=h.step (c':={c2 with heard:=s.now}) (ay _) hk jJ ha ud hA4 nz q3 q4;have hw:=hI.waits c kx;have KP:=hI.last;have hI4:iQ (M+size+100) L {s with gG:=s.gG.set k {c2 with heard:=s.now}}:=(hI.mono (by omega) (Int.le_refl _)).set (last:=s.last) hk ⟨q1.gL,q1.addr,q1.jc,q1.jb,hI.now,q1.runs,q1.gM,q1.p_,q1.str⟩ ⟨q2.str,q2.high,q2.runs⟩ q3 (by show 0<=c2.waits/\c2.waits<=_/\(c2.gT=false->c2.waits=0);rw[q4,q5];exact hw) (Int.le_refl _) KP.2;have hSF:=y_ (sb:=sb) (cm:=cm) (wv:=wv) jJ ha nz;subst X7;refine(FL N sb _ cm wv gP (xs.set k a') ws k cb {c2 with heard:=s.now} a' b nn _ w4 hP4 (getElem?_set_at hk) jJ (getElem?_set_at ha) hI4 hM (kI.iO (lj _ ud) (fun j cur fr hj=>uh h hj (aV rfl))) rm hl hn hN (fun W hW=>hE W (oj (lj _ ud) hW (fun j hj=>hSF j (pu jJ (getElem?_set_at ha) hj))))).mono ?_;intro e w' hS;exact hS.pre (lj _ ud) hSF (za ha Ir)
   have Xs:Hid (∀w3,ip (jH cb a) w w3->w3.cell? ⟨sb,10,none⟩= some (af ag s.now)):=fun w3 rE=>(h.i_.iO rE (mP hC h.i_ (by decide) (by decide) (by decide) (by decide))).cell 10
   have Xm:Hid (∀j,jH cb a j->j<w.heap.size):=fun j hj=>y7 hC hj
   generalize nF s addr d.gL d.num size b nn []=R at Ux Rb⊢;unfold xq;have xL:=gE ny;have TL:=gE mx;clear h hI rW ny kI rm hE hf hk jJ ha kP hC kx jR m_ zB Jc LG lj hM hN hn hl mx Ad KG;generalize tu:(w.alloc (.cells #[af ag d.kind,af ag size,af ag d.gL,.slice t1 t2 t3,af ag d.num,.slice f1 f2 f3] 107))=w0 at *
   have A8:=gE tu;clear tu;go_enter func49,ntmps49;go_wp2_with fail;rw[A8.out]
   go_quiet (fail)
   have pW:=gK xL.out nq;have kj:Below w0.heap.size w0 (w0.drewN nq):=gK (Below.refl _ _) _;generalize w0.drewN nq=w1 at pW kj⊢;replace yb:=gE ((kj.block w.heap.size HZ.out).trans yb.out);replace HZ:=gE (cq HZ.out kj.size);have nB:=gE pW;clear pW kj zL A8 xL tS b2;go_wp2_with fail;refine(Uj.out w1 nB.out).mono ?_;rintro e sA ⟨rfl,rfl⟩;have q1:w1.cell? ⟨w.heap.size,1,none⟩= some (af ag size):=by simp only[aX,yb.out];rfl
   clear Uj;go_wp2_with fail;refine(HGt.out w1 nB.out).mono ?_;rintro e w2 ⟨rfl,KL,nr⟩;have yo:w2.heap[w.heap.size]? =_:=(nr.block w.heap.size HZ.out (fun e=>by have:=TL.out;omega)).trans yb.out;have ln:=cq HZ.out nr.size;have q4:w2.cell? ⟨w.heap.size,4,none⟩= some (af ag d.num):=by simp only[aX,yo];rfl
   have Ai:Hid (ip (jH cb a) w w2):=(ip.gS nB.out).trans (nr.mono fun j _ e=>a_ e);have aao:=gE (HNu.out w2 KL);have Q_:=gE yo;have TQ:=gE ln;clear KL nr yo ln q1 HGt HNu yb HZ nB;go_wp2_with fail;refine aao.out.mono ?_;rintro e w3 ⟨rfl,rE,a',XJ,nz,Ir⟩;have O5:w3.heap[w.heap.size]? =_:=(rE.block w.heap.size TQ.out (fun e=>by have:=Xm.out _ e;omega)).trans Q_.out;have JK:=cq TQ.out rE.size;have abd:∀j,jH cb a' j->jH cb a j\/w.heap.size<=j:=fun j hj=>(nz j hj).imp id (fun h=>by have:=TQ.out;omega)
   have Cp:=gE (Ai.out.trans rE);have Ra:=gE O5;have QK:=gE JK;have Us:=gE abd;have aau:Hid (Ou w.heap.size a a'):=fun j hj=>(Ir j hj).imp id (fun h=>by have:=TQ.out;omega)
   have Zq:=gE XJ;clear rE XJ nz Ir O5 JK abd aao Ai Q_ TQ
   cases nN:mL {c with jc:=c.jc+size} d.num with
   |none=>
    rw[nN]at Zq;have HF:=gE (Ux.out nN w3 a' Cp.out Zq.out Us.out aau.out);clear Ux Rb Zq Us Cp Xs Xm nN;go_wp2_with fail;go_ret;exact HF.out
   |some c2=>
    rw[nN]at Zq;have Mw:=Xs.out w3 Cp.out;have Xd:Hid (jE N w3 cb s.c c2 a'):=Zq.out;have VX:=gE (An cb s.c c2 _ _ _ _ s.now w3 Xd.out.i_);have aak:=gE (Rb.out c2 nN);clear Ux Rb Xs Zq nN;go_wp2_with fail;refine VX.out.mono ?_;rintro e w4 ⟨rfl,vK,ud⟩;have hA4:jE N w4 cb s.c {c2 with heard:=s.now} a':=Xd.out.Kd ud vK rfl rfl;have aaW:w4.heap[w.heap.size]? =_:=(ud.block w.heap.size QK.out (fun e=>by have:=TL.out;omega)).trans Ra.out;have q5:w4.cell? ⟨w.heap.size,5,none⟩= some (.slice f1 f2 f3):=by simp only[aX,aaW];rfl
    have Zs:=gE (aak.out w4 a' (Cp.out.trans (ud.mono fun j _ e=>a_ e)) hA4 Us.out aau.out);clear vK ud hA4 aaW Mw VX aak Xd Cp Ra QK Us Xm;go_wp2_with fail;refine Zs.out.mono ?_;intro e w5 hS;obtain⟨v,rfl,ho⟩:=hS.ret;obtain⟨va,vc,rfl⟩:=ho.form;have HS:=gE hS;clear hS ho Zs q5;go_wp2_with fail;go_ret;exact HS.out
  ·have yV:(c.addr==addr)=false:=beq_eq_false_iff_ne.2 js;rw[Lu hf hk js];unfold xq;have xL:=gE ny;clear h hI rW ny kI rm hE hf hk jJ ha kP hC kx jR m_ zB hM hN hn hl yb HZ mx Ad;generalize tu:(w.alloc (.cells #[af ag d.kind,af ag size,af ag d.gL,.slice t1 t2 t3,af ag d.num,.slice f1 f2 f3] 107))=w0 at *
   have A8:=gE tu;clear tu;go_enter func49,ntmps49;go_wp2_with fail;rw[A8.out]
   go_quiet (fail)
   have pW:=gE (gK xL.out nq);generalize w0.drewN nq=w1 at pW⊢;clear zL A8 xL tS b2;go_wp2_with fail;refine(Uj.out w1 pW.out).mono ?_;rintro e sA ⟨rfl,rfl⟩;clear Uj;go_wp2_with fail;go_ret;exact KG.out _ pW.out
theorem F_(h:jt N w sb s cm wv gP xs ws)(hk:lh sb cm wv gP xs k):k<w.heap.size:=by
 rcases hk with rfl|rfl|e|⟨j,db,b,e1,e2,e3⟩
 ·exact h.i_.lt
 ·obtain⟨n,_,hm⟩:=h.map;exact hm.lt
 ·exact(h.row.lt _ e).2
 ·obtain⟨c,hc⟩:∃c,s.gG[j]? =some c:=⟨_,am (by rw[<-h.j7];exact(bm.1 e1).1)⟩;exact y7 (h.kH j c db b hc e1 e2) e3
theorem kw.mono(h:kw N w sb cm wv gP xs r e w')(hN:N<=N'):kw N' w sb cm wv gP xs r e w':=by
 obtain⟨⟨v,kV,iW,nl,nS,e1,ho,hP,hF,hU⟩,h3⟩:=h;exact⟨⟨v,kV,iW,nl,nS,e1,ho,hP.mono hN,hF,hU⟩,h3⟩
theorem kw.after(hW:Below w.heap.size w W)(h:kw N W sb cm wv gP xs r e w'):kw N w sb cm wv gP xs r e w':=h.pre (ip.gS hW) (fun _ hk=>a_ hk) (fun _ hk=>a_ hk)
theorem kw.box(hP:jt N w sb s cm wv gP xs ws)(h:kw N' W sb cm wv gP xs r e w')(hz:w.heap.size<W.heap.size):w'.heap[w.heap.size]? =W.heap[w.heap.size]?:=by
 refine h.iO.block _ hz fun hF=>?_
 have:=F_ hP hF;omega
theorem kw.adD(h:kw N w sb cm wv gP xs r e w'):w'.cell? ⟨sb,11,none⟩= some (.map (some cm)):=by
 obtain⟨v,kV,iW,nl,nS,_,_,hP,_⟩:=h.ex;exact hP.i_.cell 11
theorem TC(pv:Nat->Bool):∀(l:List gZ) (bs:List Nat),bs.length=l.length->(∀(i:Nat) c b,l[i]? =some c->bs[i]? =some b->pv b=c.gT)->(yf pv ((l.map (·.gL)).zip bs):Int)=r_ l
 |[],[],_,_=>rfl
 |[],_::_,h,_=>by simp at h
 |_::_,[],h,_=>by simp at h
 |c::l,b::bs,hl,h=>by
  have ih:=TC pv l bs (by simpa using hl) (fun i c' b' e1 e2=>h (i+1) c' b' (by simpa using e1) (by simpa using e2));have h0:=h 0 c b rfl rfl;unfold yf r_ at ih⊢;simp only[bD,List.zip_cons_cons,List.countP_cons,h0]
  split<;>omega
theorem FO(N:Nat)(sb:Nat)(s:ik)(cm:Nat)(wv:Value)(gP:List Nat)(xs:List iP)(ws:List Nat)(addr size:Int)(d:EX)(tv fv:Value)(ok:Bool)(b:List Int)(nn:Nat)(w:World)(h:jt N w sb s cm wv gP xs ws)(hI:iQ M L s)(Cb:∃ta tl tc,tv=.slice ta tl tc)(ka:d.gL∉s.gG.map (·.gL))(kb:0<=d.gL/\d.gL<=1073741823)(pX:0<=addr/\addr<256)(ku:0<=size/\size<=1125899906842624)(yS:0<=M)(hM:M+size+100<=1125899906842624)
  (kI:me w fv b) (rm:iF b) (hl:b.length<=1073741823) (hn:b.length<=nn) (hN:N+1+b.length<1125899906842624) (hE:∀W,ip (lh sb cm wv gP xs) w W->Env W):
  Calls ae 91 #[ai (some ⟨sb,0,none⟩),af ag addr,.agg (xq d size tv fv),.bool ok] w fun e w'=>kw (N+1+b.length) w sb cm wv gP xs (if nR s then(s,[]) else if ok then uJ s d.gL addr size b nn [] else uK s d.gL addr size b nn []) e w':=by
 cases hf:nR s with
 |true=>
  rw[if_pos rfl];obtain⟨_,_,f1,f3,rfl,_⟩:=id kI;exact(MU N sb s cm wv gP xs ws addr size d tv _ ok w h hI Cb ⟨_,_,_,rfl⟩ hf).mono fun e w' hS=>hS.mono (by omega)
 |false=>
  rw[if_neg (by simp)];have h1:=MT N sb s cm wv gP xs ws addr size d tv fv ok b nn w h hI Cb hf ka kb pX ku yS hM kI rm hl hn hN hE
  cases ok with
  |true=>rw[if_pos rfl,S6];exact h1
  |false=>rw[if_neg (by simp),S7];exact h1
theorem Hd(N:Nat)(sb:Nat)(s:ik)(cm:Nat)(wv:Value)(gP:List Nat)(xs:List iP)(ws:List Nat)(addr size:Int)(d:EX)(tv fv:Value)(w:World)(h:jt N w sb s cm wv gP xs ws)(hI:iQ M L s)(Cb:∃ta tl tc,tv=.slice ta tl tc)(Yu:∃ta tl tc,fv=.slice ta tl tc)(hk:s.gG[k]? =some c)(Ad:c.gL=d.gL)(kb:0<=d.gL/\d.gL<=1073741823)(ku:0<=size)(hM:M+size<=1125899906842624):
  Calls ae 48 #[ai (some ⟨sb,0,none⟩),af ag addr,.agg (xq d size tv fv)] w fun e w'=>kw N w sb cm wv gP xs (mh s k c addr size []) e w':=by
 obtain⟨t1,t2,t3,rfl⟩:=Cb;obtain⟨f1,f2,f3,rfl⟩:=Yu;have ny:Below w.heap.size w (w.alloc (.cells #[af ag d.kind,af ag size,af ag d.gL,.slice t1 t2 t3,af ag d.num,.slice f1 f2 f3] 107)):=gH w _;obtain⟨cb,a,jJ,ha,kP⟩:=h.found hI.nd hk;rw[Ad]at kP;have zL:∀q,(dM 98 (.map (some cm)) (af ag d.gL) false).run ae ((w.alloc (.cells #[af ag d.kind,af ag size,af ag d.gL,.slice t1 t2 t3,af ag d.num,.slice f1 f2 f3] 107)).drewN q)=.ok (ai (some ⟨cb,0,none⟩)) ((w.alloc (.cells #[af ag d.kind,af ag size,af ag d.gL,.slice t1 t2 t3,af ag d.num,.slice f1 f2 f3] 107)).drewN q):=fun q=>(h.below (gK ny q)).oO kb kP
 have KH:Hid (∀W,Below w.heap.size w W->(dM 98 (.map (some cm)) (af ag d.gL) false).run ae W=.ok (ai (some ⟨cb,0,none⟩)) W):=fun W hW=>(h.below hW).oO kb kP
 have jR:=hI.ok c (bT hk)
 have EY:Hid (∀W,Below w.heap.size w W->w.heap.size<W.heap.size->(W.cell? ⟨w.heap.size,0,none⟩= some (af ag d.kind)/\W.cell? ⟨w.heap.size,1,none⟩= some (af ag size)/\W.cell? ⟨w.heap.size,2,none⟩= some (af ag d.gL)/\W.cell? ⟨w.heap.size,3,none⟩= some (.slice t1 t2 t3)/\W.cell? ⟨w.heap.size,4,none⟩= some (af ag d.num)/\W.cell? ⟨w.heap.size,5,none⟩= some (.slice f1 f2 f3))->Calls ae 89 #[ai (some ⟨sb,0,none⟩),ai (some ⟨cb,0,none⟩),af ag addr,.agg #[af ag d.kind,af ag size,af ag d.gL,.slice t1 t2 t3,af ag d.num,.slice f1 f2 f3]] W fun e w'=>kw N w sb cm wv gP xs (mh s k c addr size []) e w'/\(w'.cell? ⟨sb,11,none⟩= some (.map (some cm))/\w'.cell? ⟨w.heap.size,0,none⟩= some (af ag d.kind)/\w'.cell? ⟨w.heap.size,1,none⟩= some (af ag size)/\w'.cell? ⟨w.heap.size,2,none⟩= some (af ag d.gL)/\w'.cell? ⟨w.heap.size,3,none⟩= some (.slice t1 t2 t3)/\w'.cell? ⟨w.heap.size,4,none⟩= some (af ag d.num)/\w'.cell? ⟨w.heap.size,5,none⟩= some (.slice f1 f2 f3))):=by
  intro W hW hz mx;refine(BR N sb s cm wv gP xs ws k cb c a addr size d (.slice t1 t2 t3) (.slice f1 f2 f3) W (h.below hW) hk jJ ha hI.cfg jR hM ku ⟨_,_,_,rfl⟩ ⟨_,_,_,rfl⟩).mono ?_;intro e w' hS;have hb:=kw.box h hS hz;have hc:∀i,w'.cell? ⟨w.heap.size,i,none⟩= W.cell? ⟨w.heap.size,i,none⟩:=fun i=>by simp only[aX,hb]
  exact⟨hS.after hW,hS.adD,by rw[hc];exact mx.1,by rw[hc];exact mx.2.1,by rw[hc];exact mx.2.2.1,by rw[hc];exact mx.2.2.2.1,by rw[hc];exact mx.2.2.2.2.1,by rw[hc];exact mx.2.2.2.2.2⟩
 have HZ:Hid (w.heap.size<(w.alloc (.cells #[af ag d.kind,af ag size,af ag d.gL,.slice t1 t2 t3,af ag d.num,.slice f1 f2 f3] 107)).heap.size):=by show _<_;simp
 have rW:=h.i_.below ny;have tS:(w.alloc (.cells #[af ag d.kind,af ag size,af ag d.gL,.slice t1 t2 t3,af ag d.num,.slice f1 f2 f3] 107)).cell? ⟨sb,11,none⟩= some (.map (some cm)):=rW.cell 11;have b0:(w.alloc (.cells #[af ag d.kind,af ag size,af ag d.gL,.slice t1 t2 t3,af ag d.num,.slice f1 f2 f3] 107)).cell? ⟨w.heap.size,0,none⟩= some (af ag d.kind):=by simp
 have b1:(w.alloc (.cells #[af ag d.kind,af ag size,af ag d.gL,.slice t1 t2 t3,af ag d.num,.slice f1 f2 f3] 107)).cell? ⟨w.heap.size,1,none⟩= some (af ag size):=by simp
 have b2:(w.alloc (.cells #[af ag d.kind,af ag size,af ag d.gL,.slice t1 t2 t3,af ag d.num,.slice f1 f2 f3] 107)).cell? ⟨w.heap.size,2,none⟩= some (af ag d.gL):=by simp
 have b3:(w.alloc (.cells #[af ag d.kind,af ag size,af ag d.gL,.slice t1 t2 t3,af ag d.num,.slice f1 f2 f3] 107)).cell? ⟨w.heap.size,3,none⟩= some (.slice t1 t2 t3):=by simp
 have b4:(w.alloc (.cells #[af ag d.kind,af ag size,af ag d.gL,.slice t1 t2 t3,af ag d.num,.slice f1 f2 f3] 107)).cell? ⟨w.heap.size,4,none⟩= some (af ag d.num):=by simp
 have b5:(w.alloc (.cells #[af ag d.kind,af ag size,af ag d.gL,.slice t1 t2 t3,af ag d.num,.slice f1 f2 f3] 107)).cell? ⟨w.heap.size,5,none⟩= some (.slice f1 f2 f3):=by simp
 generalize mh s k c addr size []=R at EY⊢;unfold xq;have xL:=gE ny;clear h hI ny hk jJ ha kP Ad jR rW hM;generalize tu:(w.alloc (.cells #[af ag d.kind,af ag size,af ag d.gL,.slice t1 t2 t3,af ag d.num,.slice f1 f2 f3] 107))=w0 at *
 have A8:=gE tu;clear tu;go_enter func48,ntmps48;go_wp2_with fail;rw[A8.out]
 go_quiet (fail)
 have pW:=gK xL.out nq;have kj:Below w0.heap.size w0 (w0.drewN nq):=gK (Below.refl _ _) _;generalize w0.drewN nq=w1 at pW kj⊢;replace tS:=gF tS kj;replace b0:=gF b0 kj;replace b1:=gF b1 kj;replace b2:=gF b2 kj;replace b3:=gF b3 kj;replace b4:=gF b4 kj;replace b5:=gF b5 kj;replace HZ:=gE (cq HZ.out kj.size);have nB:=gE pW;have NO:(dM 98 (.map (some cm)) (af ag d.gL) false).run ae w1.drew=.ok (ai (some ⟨cb,0,none⟩)) w1.drew:=KH.out _ (gK pW 1);clear pW kj zL A8 xL KH;go_wp2_with fail
 go_region_held3 (fun w'=>w'.cell? ⟨sb,11,none⟩= some (.map (some cm))/\w'.cell? ⟨w.heap.size,0,none⟩= some (af ag d.kind)/\w'.cell? ⟨w.heap.size,1,none⟩= some (af ag size)/\w'.cell? ⟨w.heap.size,2,none⟩= some (af ag d.gL)/\w'.cell? ⟨w.heap.size,3,none⟩= some (.slice t1 t2 t3)/\w'.cell? ⟨w.heap.size,4,none⟩= some (af ag d.num)/\w'.cell? ⟨w.heap.size,5,none⟩= some (.slice f1 f2 f3)) (first|assumption|go_keep) (first
  |(go_at_call 89;refine(EY.out _ (gK nB.out 1) HZ.out (by first|assumption|exact⟨b0,b1,b2,b3,b4,b5⟩)).mono ?_;rintro e w2 ⟨hS,yU⟩;obtain⟨v,rfl,ho⟩:=hS.ret;obtain⟨va,vc,rfl⟩:=ho.form))
 have HS:=gE hS;clear hS ho yU EY;go_wp2_with fail;go_ret;exact HS.out
theorem Pb(hf:kR s.gG gL=none)(hp:0<tok.length):ox s addr gL size tok b N gN=if qi s.c s.now addr tok then if nR s then(s,gN) else uJ s gL addr size b N gN else(s,gN):=by
 unfold ox;rw[hf];simp only;rw[if_pos hp]
theorem LO(hf:kR s.gG gL=none)(hp:¬0<tok.length):ox s addr gL size tok b N gN=if s.c.c5<=r_ s.gG then(s,ql s addr gL size gN) else if nR s then(s,gN) else uK s gL addr size b N gN:=by
 unfold ox;rw[hf];simp only;rw[if_neg hp]
theorem Jk(hf:kR s.gG gL=some k)(hk:s.gG[k]? =some c):ox s addr gL size tok b N gN=mh s k c addr size gN:=by
 unfold ox;rw[hf];simp only;rw[hk]
theorem mR{tv:Value}{l:List Int}(h:me w tv l):∃a c,tv=.slice a l.length c:=by
 obtain⟨_,_,a,c,e,_⟩:=h;exact⟨a,c,e⟩
theorem MR(N:Nat)(sb:Nat)(s:ik)(cm:Nat)(wv:Value)(gP:List Nat)(xs:List iP)(ws:List Nat)(addr size:Int)(d:EX)(tv fv:Value)(b:List Int)(nn:Nat)(w:World)(h:jt N w sb s cm wv gP xs ws)(hI:iQ M L s)(qR:me w tv d.tok)(hp:0<d.tok.length)(hf:kR s.gG d.gL=none)(ka:d.gL∉s.gG.map (·.gL))(kb:0<=d.gL/\d.gL<=1073741823)(pX:0<=addr/\addr<256)(ku:0<=size/\size<=1125899906842624)(yS:0<=M)(hM:M+size+100<=1125899906842624)
  (kI:me w fv b) (rm:iF b) (hl:b.length<=1073741823) (hn:b.length<=nn) (hN:N+1+b.length<1125899906842624) (hE:∀W,ip (lh sb cm wv gP xs) w W->Env W):
  Calls ae 48 #[ai (some ⟨sb,0,none⟩),af ag addr,.agg (xq d size tv fv)] w fun e w'=>kw (N+1+b.length) w sb cm wv gP xs (ox s addr d.gL size d.tok b nn []) e w':=by
 obtain⟨t1,t3,rfl⟩:=mR qR;obtain⟨f1,f3,rfl⟩:=mR kI;rw[Pb hf hp];have ny:Below w.heap.size w (w.alloc (.cells #[af ag d.kind,af ag size,af ag d.gL,.slice t1 d.tok.length t3,af ag d.num,.slice f1 b.length f3] 107)):=gH w _;have zL:∀q,(dM 98 (.map (some cm)) (af ag d.gL) false).run ae ((w.alloc (.cells #[af ag d.kind,af ag size,af ag d.gL,.slice t1 d.tok.length t3,af ag d.num,.slice f1 b.length f3] 107)).drewN q)=.ok (ai none) ((w.alloc (.cells #[af ag d.kind,af ag size,af ag d.gL,.slice t1 d.tok.length t3,af ag d.num,.slice f1 b.length f3] 107)).drewN q):=fun q=>(h.below (gK ny q)).SY kb ka
 have HTh:Hid (∀W,Below w.heap.size w W->Calls ae 90 #[af ag s.c.c9,af ag addr,af ag s.now,.slice t1 d.tok.length t3] W fun e w'=>e=.returned (.bool (qi s.c s.now addr d.tok))/\Below W.heap.size W w'):=fun W hW=>BV s.c s.now addr d.tok _ W (qR.below hW) pX (by have:=hI.cfg.c9;omega)
 have Ri:Hid (∀W,Below w.heap.size w W->Calls ae 91 #[ai (some ⟨sb,0,none⟩),af ag addr,.agg #[af ag d.kind,af ag size,af ag d.gL,.slice t1 d.tok.length t3,af ag d.num,.slice f1 b.length f3],.bool true] W fun e w'=>kw (N+1+b.length) w sb cm wv gP xs (if nR s then(s,[]) else uJ s d.gL addr size b nn []) e w'):=by
  intro W hW;refine(FO N sb s cm wv gP xs ws addr size d (.slice t1 d.tok.length t3) (.slice f1 b.length f3) true b nn W (h.below hW) hI ⟨_,_,_,rfl⟩ ka kb pX ku yS hM (kI.below hW) rm hl hn hN (fun W' Je=>hE W' ((ip.gS hW).trans Je))).mono ?_;intro e w' hS;rw[if_pos rfl]at hS;exact hS.after hW
 have KG:Hid (∀(W:World),Below w.heap.size w W->kw (N+1+b.length) w sb cm wv gP xs (s,[]) (.returned (aj none 0 0)) W):=fun W hW=>kw.WX h (jW.nil _ _) ((h.below hW).mono (by omega)) (fun k hk=>a_ hk) (fun k hk=>hk) (ip.gS hW)
 generalize (if nR s then((s,[]):ik×List (Int×List Int)) else uJ s d.gL addr size b nn [])=R at Ri⊢;have rW:=h.i_.below ny;have tS:(w.alloc (.cells #[af ag d.kind,af ag size,af ag d.gL,.slice t1 d.tok.length t3,af ag d.num,.slice f1 b.length f3] 107)).cell? ⟨sb,11,none⟩= some (.map (some cm)):=rW.cell 11;have k9:(w.alloc (.cells #[af ag d.kind,af ag size,af ag d.gL,.slice t1 d.tok.length t3,af ag d.num,.slice f1 b.length f3] 107)).cell? ⟨sb,9,none⟩= some (af ag s.c.c9):=rW.cell 9;have yZ:(w.alloc (.cells #[af ag d.kind,af ag size,af ag d.gL,.slice t1 d.tok.length t3,af ag d.num,.slice f1 b.length f3] 107)).cell? ⟨sb,10,none⟩= some (af ag s.now):=rW.cell 10;have b0:(w.alloc (.cells #[af ag d.kind,af ag size,af ag d.gL,.slice t1 d.tok.length t3,af ag d.num,.slice f1 b.length f3] 107)).cell? ⟨w.heap.size,0,none⟩= some (af ag d.kind):=by simp
 have b1:(w.alloc (.cells #[af ag d.kind,af ag size,af ag d.gL,.slice t1 d.tok.length t3,af ag d.num,.slice f1 b.length f3] 107)).cell? ⟨w.heap.size,1,none⟩= some (af ag size):=by simp
 have b2:(w.alloc (.cells #[af ag d.kind,af ag size,af ag d.gL,.slice t1 d.tok.length t3,af ag d.num,.slice f1 b.length f3] 107)).cell? ⟨w.heap.size,2,none⟩= some (af ag d.gL):=by simp
 have b3:(w.alloc (.cells #[af ag d.kind,af ag size,af ag d.gL,.slice t1 d.tok.length t3,af ag d.num,.slice f1 b.length f3] 107)).cell? ⟨w.heap.size,3,none⟩= some (.slice t1 d.tok.length t3):=by simp
 have b4:(w.alloc (.cells #[af ag d.kind,af ag size,af ag d.gL,.slice t1 d.tok.length t3,af ag d.num,.slice f1 b.length f3] 107)).cell? ⟨w.heap.size,4,none⟩= some (af ag d.num):=by simp
 have b5:(w.alloc (.cells #[af ag d.kind,af ag size,af ag d.gL,.slice t1 d.tok.length t3,af ag d.num,.slice f1 b.length f3] 107)).cell? ⟨w.heap.size,5,none⟩= some (.slice f1 b.length f3):=by simp
 generalize qi s.c s.now addr d.tok=G at HTh⊢;obtain⟨F,hF⟩:∃F:ik×List (Int×List Int),(if G=true then R else(s,[]))=F:=⟨_,rfl⟩;rw[hF];have HF:=gE hF;clear hF;generalize N+1+b.length=NN at Ri KG⊢;generalize b.length=f2 at *
 generalize d.tok.length=t2 at *
 unfold xq;have hpz:(0:Int)<(t2:Int):=by omega
 have xL:=gE ny;clear h hI ny hf ka kI qR rm rW hM hE hN hn hl;generalize tu:(w.alloc (.cells #[af ag d.kind,af ag size,af ag d.gL,.slice t1 t2 t3,af ag d.num,.slice f1 f2 f3] 107))=w0 at *
 have A8:=gE tu;clear tu;go_enter func48,ntmps48;go_wp2_with fail;rw[A8.out]
 go_quiet (fail)
 have pW:=gK xL.out nq;have kj:Below w0.heap.size w0 (w0.drewN nq):=gK (Below.refl _ _) _;generalize w0.drewN nq=w1 at pW kj⊢;replace k9:=gF k9 kj;replace yZ:=gF yZ kj;replace b0:=gF b0 kj;replace b1:=gF b1 kj;replace b2:=gF b2 kj;replace b3:=gF b3 kj;replace b4:=gF b4 kj;replace b5:=gF b5 kj;have nB:=gE pW;clear pW kj zL A8 xL tS;have HA:Hid (∀W W':World,Below W.heap.size W W'->(W.cell? ⟨sb,9,none⟩= some (af ag s.c.c9)/\W.cell? ⟨sb,10,none⟩= some (af ag s.now)/\W.cell? ⟨w.heap.size,0,none⟩= some (af ag d.kind)/\W.cell? ⟨w.heap.size,1,none⟩= some (af ag size)/\W.cell? ⟨w.heap.size,2,none⟩= some (af ag d.gL)/\W.cell? ⟨w.heap.size,3,none⟩= some (.slice t1 t2 t3)/\W.cell? ⟨w.heap.size,4,none⟩= some (af ag d.num)/\W.cell? ⟨w.heap.size,5,none⟩= some (.slice f1 f2 f3))->(W'.cell? ⟨sb,9,none⟩= some (af ag s.c.c9)/\W'.cell? ⟨sb,10,none⟩= some (af ag s.now)/\W'.cell? ⟨w.heap.size,0,none⟩= some (af ag d.kind)/\W'.cell? ⟨w.heap.size,1,none⟩= some (af ag size)/\W'.cell? ⟨w.heap.size,2,none⟩= some (af ag d.gL)/\W'.cell? ⟨w.heap.size,3,none⟩= some (.slice t1 t2 t3)/\W'.cell? ⟨w.heap.size,4,none⟩= some (af ag d.num)/\W'.cell? ⟨w.heap.size,5,none⟩= some (.slice f1 f2 f3))):=fun W W' hb h=>⟨gF h.1 hb,gF h.2.1 hb,gF h.2.2.1 hb,gF h.2.2.2.1 hb,gF h.2.2.2.2.1 hb,gF h.2.2.2.2.2.1 hb,gF h.2.2.2.2.2.2.1 hb,gF h.2.2.2.2.2.2.2 hb⟩
 go_wp2_with fail
 go_region_held3 (fun w'=>w'.cell? ⟨sb,9,none⟩= some (af ag s.c.c9)/\w'.cell? ⟨sb,10,none⟩= some (af ag s.now)/\w'.cell? ⟨w.heap.size,0,none⟩= some (af ag d.kind)/\w'.cell? ⟨w.heap.size,1,none⟩= some (af ag size)/\w'.cell? ⟨w.heap.size,2,none⟩= some (af ag d.gL)/\w'.cell? ⟨w.heap.size,3,none⟩= some (.slice t1 t2 t3)/\w'.cell? ⟨w.heap.size,4,none⟩= some (af ag d.num)/\w'.cell? ⟨w.heap.size,5,none⟩= some (.slice f1 f2 f3)) (first|assumption|go_keep) (first
  |(go_at_call 90;refine(HTh.out _ (gK nB.out 1)).mono ?_;rintro e w2 ⟨rfl,iT⟩;have yU:=HA.out _ _ iT (by first|assumption|exact⟨k9,yZ,b0,b1,b2,b3,b4,b5⟩)))
 obtain⟨-,-,c0,c1,c2,c3,c4,c5⟩:=yU;have mc:=gE (gI nB.out (ib iT));clear iT HTh k9 yZ b0 b1 b2 b3 b4 b5 HA nB
 cases G with
 |false=>
  have F3:Hid (F=(s,[])):=by
   show _=_;rw[<-HF.out]
   rfl
  clear HF Ri;go_wp2_with fail;go_ret;rw[F3.out];exact KG.out _ mc.out
 |true=>
  have F3:Hid (F=R):=by
   show _=_;rw[<-HF.out]
   rfl
  have Cq:=gE (Ri.out w2 mc.out);rw[<-F3.out]at Cq;clear Ri KG HF F3;go_wp2_with fail;refine Cq.out.mono ?_;intro e w3 hS;obtain⟨v,rfl,ho⟩:=hS.ret;obtain⟨va,vc,rfl⟩:=ho.form;have HS:=gE hS;clear hS ho Cq;go_wp2_with fail;go_ret;exact HS.out
theorem Kp(N:Nat)(sb:Nat)(s:ik)(cm:Nat)(wv:Value)(gP:List Nat)(xs:List iP)(ws:List Nat)(addr size:Int)(d:EX)(tv fv:Value)(b:List Int)(nn:Nat)(w:World)(h:jt N w sb s cm wv gP xs ws)(hI:iQ M L s)(qR:me w tv d.tok)(hp:d.tok.length=0)(hf:kR s.gG d.gL=none)(ka:d.gL∉s.gG.map (·.gL))(kb:0<=d.gL/\d.gL<=1073741823)(pX:0<=addr/\addr<256)(ku:0<=size/\size<=1125899906842624)(yS:0<=M)(hM:M+size+100<=1125899906842624)
  (kI:me w fv b) (rm:iF b) (hl:b.length<=1073741823) (hn:b.length<=nn) (hN:N+1+b.length<1125899906842624) (hE:∀W,ip (lh sb cm wv gP xs) w W->Env W):
  Calls ae 48 #[ai (some ⟨sb,0,none⟩),af ag addr,.agg (xq d size tv fv)] w fun e w'=>kw (N+1+b.length) w sb cm wv gP xs (ox s addr d.gL size d.tok b nn []) e w':=by
 obtain⟨t1,t3,rfl⟩:=mR qR;obtain⟨f1,f3,rfl⟩:=mR kI;rw[LO hf (by omega)];rw[hp];have ny:Below w.heap.size w (w.alloc (.cells #[af ag d.kind,af ag size,af ag d.gL,.slice t1 0 t3,af ag d.num,.slice f1 b.length f3] 107)):=gH w _;have zL:∀q,(dM 98 (.map (some cm)) (af ag d.gL) false).run ae ((w.alloc (.cells #[af ag d.kind,af ag size,af ag d.gL,.slice t1 0 t3,af ag d.num,.slice f1 b.length f3] 107)).drewN q)=.ok (ai none) ((w.alloc (.cells #[af ag d.kind,af ag size,af ag d.gL,.slice t1 0 t3,af ag d.num,.slice f1 b.length f3] 107)).drewN q):=fun q=>(h.below (gK ny q)).SY kb ka
 have F7:Hid (∀W,Below w.heap.size w W->Calls ae 92 #[ai (some ⟨sb,0,none⟩)] W fun e w'=>e=.returned (af ag (r_ s.gG))/\Below W.heap.size W w'):=by
  intro W hW;have hPW:=h.below hW;obtain⟨n,QU,hm⟩:=hPW.map
  classical
  have tA:∀(i:Nat) c bb,s.gG[i]? =some c->gP[i]? =some bb->(decide (W.cell? ⟨bb,12,none⟩= some (.bool true)))=c.gT:=by
   intro i c bb e1 e2;obtain⟨a,ha⟩:∃a,xs[i]? =some a:=⟨_,am (by rw[h.lA];exact(bm.1 e1).1)⟩;have hc:W.cell? ⟨bb,12,none⟩= some (.bool c.gT):=(hPW.kH i c bb a e1 e2 ha).i_.cell 12;rw[hc]
   cases c.gT<;>simp
  have Ir:=TC (fun bb=>decide (W.cell? ⟨bb,12,none⟩= some (.bool true))) s.gG gP h.j7 tA
  have h1:=EB sb s.c s.now cm wv n _ (fun bb=>decide (W.cell? ⟨bb,12,none⟩= some (.bool true))) W hPW.i_ hm (by
   rintro⟨q1,q2⟩ hq;obtain⟨i,hi⟩:=List.getElem?_of_mem hq;rw[dX]at hi;obtain⟨e1,e2⟩:=hi;simp only[List.getElem?_map,Option.map_eq_some_iff]at e1;obtain⟨c,e1,_⟩:=e1;obtain⟨a,ha⟩:∃a,xs[i]? =some a:=⟨_,am (by rw[h.lA];exact(bm.1 e1).1)⟩;have hc:W.cell? ⟨q2,12,none⟩= some (.bool c.gT):=(hPW.kH i c q2 a e1 e2 ha).i_.cell 12;show W.cell? ⟨q2,12,none⟩= some (.bool (decide (W.cell? ⟨q2,12,none⟩= some (.bool true))));rw[tA i c q2 e1 e2,hc]) (by simp[h.j7];have:=hI.BA;have:=hI.cfg.c0;omega)
  rw[Ir]at h1;exact h1
 have TO:Hid (∀W,Below w.heap.size w W->Calls ae 93 #[ai (some ⟨sb,0,none⟩),af ag addr,.agg #[af ag d.kind,af ag size,af ag d.gL,.slice t1 0 t3,af ag d.num,.slice f1 b.length f3]] W fun e w'=>kw (N+1+b.length) w sb cm wv gP xs (s,ql s addr d.gL size []) e w'):=fun W hW=>(MV N sb s cm wv gP xs ws addr size d (.slice t1 0 t3) (.slice f1 b.length f3) W (h.below hW) hI.cfg hI.now pX kb ku ⟨_,_,_,rfl⟩ ⟨_,_,_,rfl⟩).mono fun e w' hS=>(hS.after hW).mono (by omega)
 have Ri:Hid (∀W,Below w.heap.size w W->Calls ae 91 #[ai (some ⟨sb,0,none⟩),af ag addr,.agg #[af ag d.kind,af ag size,af ag d.gL,.slice t1 0 t3,af ag d.num,.slice f1 b.length f3],.bool false] W fun e w'=>kw (N+1+b.length) w sb cm wv gP xs (if nR s then(s,[]) else uK s d.gL addr size b nn []) e w'):=by
  intro W hW;refine(FO N sb s cm wv gP xs ws addr size d (.slice t1 0 t3) (.slice f1 b.length f3) false b nn W (h.below hW) hI ⟨_,_,_,rfl⟩ ka kb pX ku yS hM (kI.below hW) rm hl hn hN (fun W' Je=>hE W' ((ip.gS hW).trans Je))).mono ?_;intro e w' hS;simp only[de,if_false]at hS;exact hS.after hW
 generalize (if nR s then((s,[]):ik×List (Int×List Int)) else uK s d.gL addr size b nn [])=R at Ri⊢;generalize ((s,ql s addr d.gL size []):ik×List (Int×List Int))=R2 at TO⊢;have rW:=h.i_.below ny;have tS:(w.alloc (.cells #[af ag d.kind,af ag size,af ag d.gL,.slice t1 0 t3,af ag d.num,.slice f1 b.length f3] 107)).cell? ⟨sb,11,none⟩= some (.map (some cm)):=rW.cell 11;have k5:(w.alloc (.cells #[af ag d.kind,af ag size,af ag d.gL,.slice t1 0 t3,af ag d.num,.slice f1 b.length f3] 107)).cell? ⟨sb,5,none⟩= some (af ag s.c.c5):=rW.cell 5;have b0:(w.alloc (.cells #[af ag d.kind,af ag size,af ag d.gL,.slice t1 0 t3,af ag d.num,.slice f1 b.length f3] 107)).cell? ⟨w.heap.size,0,none⟩= some (af ag d.kind):=by simp
 have b1:(w.alloc (.cells #[af ag d.kind,af ag size,af ag d.gL,.slice t1 0 t3,af ag d.num,.slice f1 b.length f3] 107)).cell? ⟨w.heap.size,1,none⟩= some (af ag size):=by simp
 have b2:(w.alloc (.cells #[af ag d.kind,af ag size,af ag d.gL,.slice t1 0 t3,af ag d.num,.slice f1 b.length f3] 107)).cell? ⟨w.heap.size,2,none⟩= some (af ag d.gL):=by simp
 have b3:(w.alloc (.cells #[af ag d.kind,af ag size,af ag d.gL,.slice t1 0 t3,af ag d.num,.slice f1 b.length f3] 107)).cell? ⟨w.heap.size,3,none⟩= some (.slice t1 0 t3):=by simp
 have b4:(w.alloc (.cells #[af ag d.kind,af ag size,af ag d.gL,.slice t1 0 t3,af ag d.num,.slice f1 b.length f3] 107)).cell? ⟨w.heap.size,4,none⟩= some (af ag d.num):=by simp
 have b5:(w.alloc (.cells #[af ag d.kind,af ag size,af ag d.gL,.slice t1 0 t3,af ag d.num,.slice f1 b.length f3] 107)).cell? ⟨w.heap.size,5,none⟩= some (.slice f1 b.length f3):=by simp
 generalize r_ s.gG=U at F7⊢;obtain⟨F,hF⟩:∃F:ik×List (Int×List Int),(if s.c.c5<=U then R2 else R)=F:=⟨_,rfl⟩;rw[hF];have HF:=gE hF;clear hF;generalize N+1+b.length=NN at Ri TO⊢;generalize b.length=f2 at *
 unfold xq;have xL:=gE ny;clear h hI ny hf ka kI qR rm rW hM hE hN hn hl hp;generalize tu:(w.alloc (.cells #[af ag d.kind,af ag size,af ag d.gL,.slice t1 0 t3,af ag d.num,.slice f1 f2 f3] 107))=w0 at *
 have A8:=gE tu;clear tu;go_enter func48,ntmps48;go_wp2_with fail;rw[A8.out]
 go_quiet (fail)
 have pW:=gK xL.out nq;have kj:Below w0.heap.size w0 (w0.drewN nq):=gK (Below.refl _ _) _;generalize w0.drewN nq=w1 at pW kj⊢;replace k5:=gF k5 kj;replace b0:=gF b0 kj;replace b1:=gF b1 kj;replace b2:=gF b2 kj;replace b3:=gF b3 kj;replace b4:=gF b4 kj;replace b5:=gF b5 kj;have nB:=gE pW;clear pW kj zL A8 xL tS;have HA:Hid (∀W W':World,Below W.heap.size W W'->(W.cell? ⟨sb,5,none⟩= some (af ag s.c.c5)/\W.cell? ⟨w.heap.size,0,none⟩= some (af ag d.kind)/\W.cell? ⟨w.heap.size,1,none⟩= some (af ag size)/\W.cell? ⟨w.heap.size,2,none⟩= some (af ag d.gL)/\W.cell? ⟨w.heap.size,3,none⟩= some (.slice t1 0 t3)/\W.cell? ⟨w.heap.size,4,none⟩= some (af ag d.num)/\W.cell? ⟨w.heap.size,5,none⟩= some (.slice f1 f2 f3))->(W'.cell? ⟨sb,5,none⟩= some (af ag s.c.c5)/\W'.cell? ⟨w.heap.size,0,none⟩= some (af ag d.kind)/\W'.cell? ⟨w.heap.size,1,none⟩= some (af ag size)/\W'.cell? ⟨w.heap.size,2,none⟩= some (af ag d.gL)/\W'.cell? ⟨w.heap.size,3,none⟩= some (.slice t1 0 t3)/\W'.cell? ⟨w.heap.size,4,none⟩= some (af ag d.num)/\W'.cell? ⟨w.heap.size,5,none⟩= some (.slice f1 f2 f3))):=fun W W' hb h=>⟨gF h.1 hb,gF h.2.1 hb,gF h.2.2.1 hb,gF h.2.2.2.1 hb,gF h.2.2.2.2.1 hb,gF h.2.2.2.2.2.1 hb,gF h.2.2.2.2.2.2 hb⟩
 go_wp2_with fail
 go_region_held3 (fun w'=>w'.cell? ⟨sb,5,none⟩= some (af ag s.c.c5)/\w'.cell? ⟨w.heap.size,0,none⟩= some (af ag d.kind)/\w'.cell? ⟨w.heap.size,1,none⟩= some (af ag size)/\w'.cell? ⟨w.heap.size,2,none⟩= some (af ag d.gL)/\w'.cell? ⟨w.heap.size,3,none⟩= some (.slice t1 0 t3)/\w'.cell? ⟨w.heap.size,4,none⟩= some (af ag d.num)/\w'.cell? ⟨w.heap.size,5,none⟩= some (.slice f1 f2 f3)) (first|assumption|go_keep) (first
  |(go_at_call 92;refine(F7.out _ (gK nB.out 1)).mono ?_;rintro e w2 ⟨rfl,iT⟩;have yU:=HA.out _ _ iT (by first|assumption|exact⟨k5,b0,b1,b2,b3,b4,b5⟩);have k5':=yU.1))
 obtain⟨-,c0,c1,c2,c3,c4,c5⟩:=yU;have mc:=gE (gI nB.out (ib iT));clear iT F7 k5 k5' b0 b1 b2 b3 b4 b5 HA nB;by_cases uV:s.c.c5<=U
 ·have F3:Hid (F=R2):=by
   show _=_;rw[<-HF.out,if_pos uV]
  have Cq:=gE (TO.out w2 mc.out);rw[<-F3.out]at Cq;clear Ri TO HF F3;go_wp2_with fail;refine Cq.out.mono ?_;intro e w3 hS;obtain⟨v,rfl,ho⟩:=hS.ret;obtain⟨va,vc,rfl⟩:=ho.form;have HS:=gE hS;clear hS ho Cq;go_wp2_with fail;go_ret;exact HS.out
 ·have F3:Hid (F=R):=by
   show _=_;rw[<-HF.out,if_neg uV]
  have Cq:=gE (Ri.out w2 mc.out);rw[<-F3.out]at Cq;clear Ri TO HF F3;go_wp2_with fail;refine Cq.out.mono ?_;intro e w3 hS;obtain⟨v,rfl,ho⟩:=hS.ret;obtain⟨va,vc,rfl⟩:=ho.form;have HS:=gE hS;clear hS ho Cq;go_wp2_with fail;go_ret;exact HS.out
theorem MQ(N:Nat)(sb:Nat)(s:ik)(cm:Nat)(wv:Value)(gP:List Nat)(xs:List iP)(ws:List Nat)(addr size:Int)(d:EX)(tv fv:Value)(b:List Int)(nn:Nat)(w:World)(h:jt N w sb s cm wv gP xs ws)(hI:iQ M L s)(qR:me w tv d.tok)(kb:0<=d.gL/\d.gL<=1073741823)(pX:0<=addr/\addr<256)(ku:0<=size/\size<=1125899906842624)(yS:0<=M)(hM:M+size+100<=1125899906842624)
  (kI:me w fv b) (rm:iF b) (hl:b.length<=1073741823) (hn:b.length<=nn) (hN:N+1+b.length<1125899906842624) (hE:∀W,ip (lh sb cm wv gP xs) w W->Env W):
  Calls ae 48 #[ai (some ⟨sb,0,none⟩),af ag addr,.agg (xq d size tv fv)] w fun e w'=>kw (N+1+b.length) w sb cm wv gP xs (ox s addr d.gL size d.tok b nn []) e w':=by
 rcases sG (l:=s.gG) (gL:=d.gL) with⟨hf,ka⟩|⟨k,c,hf,hk,Ad⟩
 ·by_cases hp:0<d.tok.length
  ·exact MR N sb s cm wv gP xs ws addr size d tv fv b nn w h hI qR hp hf ka kb pX ku yS hM kI rm hl hn hN hE
  ·exact Kp N sb s cm wv gP xs ws addr size d tv fv b nn w h hI qR (by omega) hf ka kb pX ku yS hM kI rm hl hn hN hE
 ·obtain⟨t1,t3,e1⟩:=mR qR;obtain⟨f1,f3,e2⟩:=mR kI;rw[Jk hf hk];exact(Hd N sb s cm wv gP xs ws addr size d tv fv w h hI ⟨_,_,_,e1⟩ ⟨_,_,_,e2⟩ hk Ad kb ku.1 (by omega)).mono fun e w' hS=>hS.mono (by omega)
theorem G4(h:nW b=none\/¬(0<=addr/\addr<=255)):jl s addr b=(s,[]):=by
 unfold jl;by_cases ha:0<=addr/\addr<=255
 ·rw[if_neg (by simp[ha])];rcases h with h|h
  ·rw[h]
  ·exact absurd ha h
 ·rw[if_pos ha]
theorem Er(h:nW b=some d)(ha:0<=addr/\addr<=255)(hk:d.kind=1):jl s addr b=ox s addr d.gL b.length d.tok d.mz b.length []:=by
 unfold jl;rw[if_neg (by simp[ha]),h];simp only;rw[if_pos hk]
theorem G3(h:nW b=some d)(ha:0<=addr/\addr<=255)(hk:d.kind≠1):jl s addr b=nF s addr d.gL d.num b.length d.mz b.length []:=by
 unfold jl;rw[if_neg (by simp[ha]),h];simp only;rw[if_neg hk]
theorem UE{n hi:Int}:oD n hi=if 0<=n/\n<=hi then 0 else 2:=by
 unfold oD ls;by_cases h:0<=n/\n<=hi
 ·rw[if_pos h,if_pos (decide_eq_true h)]
 ·rw[if_neg h,if_neg (by simp only[decide_eq_true_eq];exact h)]
theorem zV(N:Nat)(sb:Nat)(s:ik)(cm:Nat)(wv:Value)(gP:List Nat)(xs:List iP)(ws:List Nat)(addr:Int)(b:List Int)(bv:Value)(w:World)(h:jt N w sb s cm wv gP xs ws)(hI:iQ M L s)(kI:me w bv b)(hl:b.length<=1073741823)(yS:0<=M)(hM:M+b.length+100<=1125899906842624)(hN:N+1+b.length<1125899906842624)(hE:∀W,ip (lh sb cm wv gP xs) w W->Env W):
  Calls ae 20 #[ai (some ⟨sb,0,none⟩),af ag addr,bv] w fun e w'=>kw (N+1+b.length) w sb cm wv gP xs (jl s addr b) e w':=by
 obtain⟨a1,a3,rfl⟩:=mR kI;have A7:=gE (z_ b _ w (hE w (ip.refl _ _)) kI);have hEb:∀W,Below w.heap.size w W->Env W:=fun W hW=>hE W (ip.gS hW)
 have KG:Hid (∀(W:World),Below w.heap.size w W->(nW b=none\/¬(0<=addr/\addr<=255))->kw (N+1+b.length) w sb cm wv gP xs (jl s addr b) (.returned (aj none 0 0)) W):=by
  intro W hW ka;rw[G4 ka];exact kw.WX h (jW.nil _ _) ((h.below hW).mono (by omega)) (fun k hk=>a_ hk) (fun k hk=>hk) (ip.gS hW)
 have rm:iF b:=kI.1;rcases OW (b:=b) with⟨hd,qE⟩|⟨d,hd,hdr,qE⟩
 ·have HF:=gE (fun W hW=>KG.out W hW (a_ hd));have Zt:=gE hEb;clear h hI kI hE hEb KG hN hM hl;generalize jl s addr b=R at HF⊢;go_enter func20,ntmps20;go_wp2_with fail;refine A7.out.mono ?_;intro e w1 ho;obtain⟨k,cv,rfl,hk,js⟩:=ho.bad qE;obtain⟨tt,aa,rfl⟩:=js.Gp;have im:=gI ho.ze (gH w1 (.cells mO 107));have Xj:=gE (Cs k _ (w1.alloc (.cells mO 107)) (Zt.out _ im) (by omega) (js.below (gH _ _)));have nB:=gE im;unfold mO at Xj nB;clear ho im A7 js;unfold mO;go_wp2_with fail;refine Xj.out.mono ?_;rintro e w2 ⟨rfl,iT⟩;have mc:=gE (gI nB.out iT);clear iT nB Xj;go_wp2_with fail;go_ret;exact HF.out _ mc.out
 ·obtain⟨hkd,kb,rr,B8,ZQ,jp,hlf⟩:=E' rm hd
  have Re:Hid (d.kind=1->(0<=addr/\addr<=255)->∀(W:World) (tv fv:Value),Below w.heap.size w W->me W tv d.tok->me W fv d.mz->Calls ae 48 #[ai (some ⟨sb,0,none⟩),af ag addr,.agg (xq d b.length tv fv)] W fun e w'=>kw (N+1+b.length) w sb cm wv gP xs (jl s addr b) e w'):=by
   intro pJ ha W tv fv hW qR Jm;rw[Er hd ha pJ];refine(MQ N sb s cm wv gP xs ws addr b.length d tv fv d.mz b.length W (h.below hW) hI qR kb ⟨ha.1,by omega⟩ ⟨by omega,by omega⟩ yS hM Jm ZQ (by omega) hlf (by omega) (fun W' Je=>hE W' ((ip.gS hW).trans Je))).mono ?_;intro e w' hS;exact(hS.after hW).mono (by omega)
  have Xg:Hid (d.kind≠1->(0<=addr/\addr<=255)->∀(W:World) (tv fv:Value),Below w.heap.size w W->me W tv d.tok->me W fv d.mz->Calls ae 49 #[ai (some ⟨sb,0,none⟩),af ag addr,.agg (xq d b.length tv fv)] W fun e w'=>kw (N+1+b.length) w sb cm wv gP xs (jl s addr b) e w'):=by
   intro pJ ha W tv fv hW qR Jm;rw[G3 hd ha pJ];obtain⟨u1,u3,eu⟩:=mR qR;refine(Qj N sb s cm wv gP xs ws addr b.length d tv fv d.mz b.length W (h.below hW) hI ⟨_,_,_,eu⟩ kb rr ⟨by omega,by omega⟩ yS hM Jm ZQ (by omega) hlf (by omega) (fun W' Je=>hE W' ((ip.gS hW).trans Je))).mono ?_;intro e w' hS;exact(hS.after hW).mono (by omega)
  have KW:=gE (fun W=>qe addr W);rw[UE]at KW;have Zt:=gE hEb;clear h hI kI hE hEb hN hM hl B8 ZQ rm;generalize jl s addr b=R at KG Re Xg⊢;generalize N+1+b.length=NN at KG Re Xg⊢;by_cases ha:0<=addr/\addr<=255
  ·rw[if_pos ha]at KW;go_enter func20,ntmps20;go_wp2_with fail;refine A7.out.mono ?_;intro e w1 ho;obtain⟨tv,fv,rfl,qR,Jm⟩:=ho.ok qE;rw[hdr]at qR Jm;rw[hdr];have jz:=ho.ze;obtain⟨u1,u3,eu⟩:=mR qR;obtain⟨v1,v3,ev⟩:=mR Jm;subst eu;subst ev;have im:=gI jz (gH w1 (.cells (xq d b.length (.slice u1 d.tok.length u3) (.slice v1 d.mz.length v3)) 107));have XA:=gE (qR.below (gH w1 (.cells (xq d b.length (.slice u1 d.tok.length u3) (.slice v1 d.mz.length v3)) 107)));have HFv:=gE (Jm.below (gH w1 (.cells (xq d b.length (.slice u1 d.tok.length u3) (.slice v1 d.mz.length v3)) 107)));have nB:=gE im;have yb:Hid ((w1.alloc (.cells (xq d b.length (.slice u1 d.tok.length u3) (.slice v1 d.mz.length v3)) 107)).heap[w1.heap.size]? =some (.cells (xq d b.length (.slice u1 d.tok.length u3) (.slice v1 d.mz.length v3)) 107 (0,0))):=heap_alloc_new w1 _;have HZ:Hid (w1.heap.size<(w1.alloc (.cells (xq d b.length (.slice u1 d.tok.length u3) (.slice v1 d.mz.length v3)) 107)).heap.size):=by show _<_;simp
   clear ho im A7 qR Jm jz;unfold xq at XA HFv nB yb HZ Re Xg⊢;go_wp2_with fail;generalize tu:(w1.alloc (.cells #[af ag d.kind,af ag (b.length:Int),af ag d.gL,.slice u1 d.tok.length u3,af ag d.num,.slice v1 d.mz.length v3] 107))=w0 at *
   refine(uX w0).mono ?_;rintro e w2 ⟨rfl,iT⟩;have UA:=gE (XA.out.below iT);have Uq:=gE (HFv.out.below iT);have mc:=gE (gI nB.out iT);have yo:=(iT.block _ HZ.out).trans yb.out;have c0:w2.cell? ⟨w1.heap.size,0,none⟩= some (af ag d.kind):=by simp only[aX,yo];rfl
   have c1:w2.cell? ⟨w1.heap.size,1,none⟩= some (af ag (b.length:Int)):=by simp only[aX,yo];rfl
   have c2:w2.cell? ⟨w1.heap.size,2,none⟩= some (af ag d.gL):=by simp only[aX,yo];rfl
   have c3:w2.cell? ⟨w1.heap.size,3,none⟩= some (.slice u1 d.tok.length u3):=by simp only[aX,yo];rfl
   have c4:w2.cell? ⟨w1.heap.size,4,none⟩= some (af ag d.num):=by simp only[aX,yo];rfl
   have c5:w2.cell? ⟨w1.heap.size,5,none⟩= some (.slice v1 d.mz.length v3):=by simp only[aX,yo];rfl
   clear iT yo XA HFv nB yb HZ tu;go_wp2_with fail;refine(KW.out w2).mono ?_;rintro e w3 ⟨rfl,rfl⟩;clear KW;rcases Classical.em (d.kind=1) with pJ|pJ
   ·have HC:=gE (Re.out pJ ha w2 _ _ mc.out UA.out Uq.out);have Sk:(d.kind==1)=true:=beq_iff_eq.2 pJ;clear Re Xg KG UA Uq pJ hkd;go_wp2_with fail;refine HC.out.mono ?_;intro e w4 hS;obtain⟨v,rfl,ho⟩:=hS.ret;obtain⟨va,vc,rfl⟩:=ho.form;have HS:=gE hS;clear hS ho HC;go_wp2_with fail;go_ret;exact HS.out
   ·have HC:=gE (Xg.out pJ ha w2 _ _ mc.out UA.out Uq.out);have Sk:(d.kind==1)=false:=beq_eq_false_iff_ne.2 pJ;clear Re Xg KG UA Uq pJ hkd;go_wp2_with fail;refine HC.out.mono ?_;intro e w4 hS;obtain⟨v,rfl,ho⟩:=hS.ret;obtain⟨va,vc,rfl⟩:=ho.form;have HS:=gE hS;clear hS ho HC;go_wp2_with fail;go_ret;exact HS.out
  ·rw[if_neg ha]at KW;have HF:=gE (fun W hW=>KG.out W hW (aV ha));clear Re Xg KG;go_enter func20,ntmps20;go_wp2_with fail;refine A7.out.mono ?_;intro e w1 ho;obtain⟨tv,fv,rfl,qR,Jm⟩:=ho.ok qE;have jz:=ho.ze;obtain⟨u1,u3,rfl⟩:=mR qR;obtain⟨v1,v3,rfl⟩:=mR Jm;have pQ:=gE jz;clear ho A7 qR Jm jz;unfold xq;go_wp2_with fail;refine(uX _).mono ?_;rintro e w2 ⟨rfl,iT⟩;have mc:=gE (gI (gI pQ.out (gH _ _)) iT);clear iT;go_wp2_with fail;refine(KW.out w2).mono ?_;rintro e w3 ⟨rfl,rfl⟩;clear KW;go_wp2_with fail;go_ret;exact HF.out _ mc.out
section
variable {α:Type}{C:vH α}{P:Program}{K:TypeId}
theorem jX.nd{w:World}{b r n:Nat}{l rs:List (Int×α)}{rN:Nat}(h:jX C P K w b r n l rs rN):(rs.map (·.1)).Nodup:=by
 obtain⟨D,left,_,ok,rfl,_⟩:=h;exact(List.filter_sublist.map _).nodup ok.nd
theorem BS{lZ:Array Oper}{o:Oper}{a:Act}{w:World}{J:Act->World->Prop}{Q:Exit->Act->World->Prop}{E:Prop}
  (hg:o.guard=none) (m x:Operand) (t:TypeId) (AB:o.op=Op.call {callee:=Callee.builtin Builtin.delete,args:=#[m,x],argTypes:=#[t,K]}) (e:TypeId) (hK:P.underlying K=some (.int .i64)) (ht:P.underlying t=some (.map K e))
  (b r n:Nat) (l rs:List (Int×α)) (rN:Nat) (hm:a.eval m=.map (some b)) (h:jX C P K w b r n l rs rN) (k:Int) (y:α) (hx:a.eval x=af ag k) (hk:(Lit.int .i64 k).wf=true) (hy:rV l k=some y) (ka:∀e∈rs,e.1≠k)
  (UV:∀w' ut,jX C P K w' b r n (wB l k) rs ut->ut<=rN->w.grownBy w' (some b)->w'.heap.size=w.heap.size->J (a.put o.dst (.tuple #[])) w'):
  if bn o (yielded lZ a.tmps)=true then Oper.wp P o a w J Q else E:=by
 have hw:bn o (yielded lZ a.tmps)=true:=by simp[bn,hg]
 rw[if_pos hw];obtain⟨D,left,hr,ok,rfl,hl⟩:=h;obtain⟨w',ut,kk,h1,h2,h3⟩:=hr.drop (Maps.int_keyed hK) ht (Maps.keyOf_int_mk hK hk) o.type
 have ku:w'.heap.size=w.heap.size:=by
  obtain⟨es,clock,es',RE,hb,rfl⟩:=h3;simp[ChangeMaps.setBlock]
 unfold Oper.wp;simp[execOp,AB,resolve,invoke,builtin,hm,hx,kk,Result.andThen];refine UV w' ut ⟨_,_,h1,ok.del (hr.owns.tidy (Maps.int_keyed hK)) hy,?_,?_⟩ h2 h3.grown ku
 ·unfold wB;rw[List.filter_filter];refine ei fun e he=>?_
  by_cases h4:e.1=k
  ·subst h4
   have:left (.int ag e.1)=false:=by
    rw[<-Bool.not_eq_true];intro h5;exact ka e (c_.2 ⟨he,h5⟩) rfl
   simp[this]
  ·simp[Lit.sameKey,h4]
 ·intro k' Vf;simp[Lit.sameKey]at Vf;rw[Cy,if_neg Vf.2];exact hl k' Vf.1
end
theorem MN(N sb:Nat)(s:ik)(cm:Nat)(wv:Value)(gP:List Nat)(xs:List iP)(ws:List Nat)(i cb:Nat)(gL:Int)(w:World)(h:K9 N w sb s cm wv gP xs ws i cb gL)(tz:(s.gG.map (·.gL)).Nodup)(hn:ws.length<=1000)(kb:-9223372036854775808<=gL/\gL<=9223372036854775807)
  {r n rN:Nat} {rest:List (Int×Nat)} (QU:n<=N) (hr:jX nv ae 3 w cm r n ((s.gG.map (·.gL)).zip gP) rest rN) (ka:∀e∈rest,e.1≠gL):
  Calls ae 54 #[ai (some ⟨sb,0,none⟩),ai (some ⟨cb,0,none⟩)] w fun e w'=>y8 N w sb {s with gG:=s.gG.eraseIdx i} cm wv (gP.eraseIdx i) (xs.eraseIdx i) (ws.filter fun b=>b != cb) e w'/\∃ut,jX nv ae 3 w' cm r n (((s.gG.eraseIdx i).map (·.gL)).zip (gP.eraseIdx i)) rest ut/\ut<=rN:=by
 have hm:=hr.map;obtain⟨c1,k_,sm,dm,jQ,vh,Su⟩:=h.one;obtain⟨c,hi,zx⟩:=h.at2;have KY:=gE (fun W (hW:W.heap=w.heap)=>CC cb s.c c1 k_ sm dm jQ W (by unfold iG at vh⊢;rw[hW];exact vh));rw[Su]at KY;have QM:w.cell? ⟨sb,11,none⟩= some (.map (some cm)):=h.i_.cell 11
 have kP:rV ((s.gG.map (·.gL)).zip gP) gL=some cb:=by
  refine u9 (by rw[d' (by simp[h.j7])];exact tz) (bT (i:=i) ?_);rw[dX];exact⟨by simp[hi,zx],h.ZF⟩
 have HM:Hid (∀W:World,W.heap=w.heap->jX nv ae 3 W cm r n ((s.gG.map (·.gL)).zip gP) rest rN):=fun W hW=>hr.kept (by rw[hW]) (by rw[hW])
 have V':=gE (xi kb);have QG:=gE kP;have HNo:=gE ka;have C1:=h.isb
 have GD:cm≠sb:=fun e=>by
  obtain⟨es,ck,hb⟩:=hm.kY;have h2:w.heap[sb]? =some (.cells (sM s.c s.now cm wv) 101 (0,0)):=h.i_;rw[<-e,hb]at h2
  cases h2
 have C4:wv.ownBlock≠some cm:=fun e=>by
  obtain⟨es,ck,hb⟩:=hm.kY;obtain⟨c2,e2⟩:=ii h.row e;rw[hb]at e2
  cases e2
 obtain⟨pZ,x1,x2,x3,x4,LZ⟩:=hr.iter
 have abu:r≠sb:=fun e=>by
  have h2:w.heap[sb]? =some (.cells (sM s.c s.now cm wv) 101 (0,0)):=h.i_;rw[<-e,LZ]at h2
  cases h2
 have WI:wv.ownBlock≠some r:=fun e=>by
  obtain⟨c2,e2⟩:=ii h.row e;rw[LZ]at e2
  cases e2
 have hze:((s.gG.eraseIdx i).map (·.gL)).zip (gP.eraseIdx i)=wB ((s.gG.map (·.gL)).zip gP) gL:=by
  rw[AG];exact A6 _ _ i gL tz (by simp[h.j7]) (by simp[hi,zx])
 have oE:Hid (∀(w1:World) (ut:Nat),jX nv ae 3 w1 cm r n (wB ((s.gG.map (·.gL)).zip gP) gL) rest ut->ut<=rN->ip (fun k=>k=cm) w w1->Calls ae 50 #[ai (some ⟨sb,0,none⟩),ai (some ⟨cb,0,none⟩)] w1 fun e w'=>y8 N w sb {s with gG:=s.gG.eraseIdx i} cm wv (gP.eraseIdx i) (xs.eraseIdx i) (ws.filter fun b=>b != cb) e w'/\∃ut,jX nv ae 3 w' cm r n (((s.gG.eraseIdx i).map (·.gL)).zip (gP.eraseIdx i)) rest ut/\ut<=rN):=by
  intro w1 ut ue uV km;have qq:=ue.map
  have jJ:∀b,ot w b->ot w1 b:=by
   rintro b ⟨cs,hb⟩;refine⟨cs,?_⟩;rw[km.block b (aO.1 hb).1 (fun e=>?_)]
   ·exact hb
   ·obtain⟨es,ck,h2⟩:=hm.kY;rw[e,h2]at hb
    cases hb
  refine(rJ sb s.c s.now cm wv ws cb w1 (h.i_.iO km (fun e=>GD e.symm)) (jg h.row km (fun k hk e=>C4 (e▸hk))) hn (fun b hb=>jJ b (C1.2 b hb)) (jJ cb C1.1)).mono ?_;rintro e w2 ⟨rfl,⟨kV,sI,yW,RX⟩,nr⟩;have rE:ip (fun k=>k=sb\/k=cm\/wv.ownBlock=some k) w w2:=(km.mono fun k _ e=>aV (a_ e)).trans (nr.mono fun k _ e=>e.elim a_ (fun e=>aV (aV e)))
  have aa7:=nr.block cm qq.lt (by
   rintro(e|e)
   ·exact GD e
   ·exact C4 e)
  refine⟨⟨rfl,⟨kV,h.gone tz rE sI QU (qq.same aa7) yW,?_⟩,rE⟩,ut,?_,uV⟩
  ·rcases RX with e|e
   ·exact a_ e
   ·exact aV fun k hk=>cw km.size (e k hk)
  ·rw[hze];refine ue.kept aa7 (nr.block r (cq pZ km.size) ?_);rintro(e|e)
   ·exact abu e
   ·exact WI e
 have KX:Hid (∀w1:World,w.drew.grownBy w1 (some cm)->ip (fun k=>k=cm) w w1/\w1.cell? ⟨sb,11,none⟩= some (.map (some cm))):=by
  intro w1 hg;have hc:ip (fun k=>k=cm) w w1:=⟨hg.os,hg.tape,hg.output,hg.size,fun k hk js=>hg.block k hk (fun e=>js (Option.some.inj e))⟩;exact⟨hc,(h.i_.iO hc (fun e=>GD e.symm)).cell 11⟩
 generalize ({s with gG:=s.gG.eraseIdx i}:ik)=s' at oE⊢;generalize ((s.gG.eraseIdx i).map (·.gL)).zip (gP.eraseIdx i)=L' at oE⊢;generalize gP.eraseIdx i=iW at oE⊢;generalize xs.eraseIdx i=nl at oE⊢;generalize ws.filter (fun b=>b != cb)=nS at oE⊢;generalize (s.gG.map (·.gL)).zip gP=L at oE HM QG;clear h hm vh Su hi zx kP C1 GD C4 tz hn kb QU hr ka LZ abu WI hze pZ;go_enter func54,ntmps54;go_wp2_with fail
 go_region_held3 (fun w'=>w'.cell? ⟨sb,11,none⟩= some (.map (some cm))) (first|assumption|go_keep) (first
  |(go_at_call 51;refine(KY.out w.drew rfl).mono ?_;rintro e w1 ⟨rfl,rfl⟩)
  |(refine BS (C:=nv) rfl (.tmp 7) (.tmp 9) 98 rfl 97 underlying3 underlying98 cm r n L rest rN (by kernel_rfl) (HM.out w.drew rfl) gL cb (by kernel_rfl) V'.out QG.out HNo.out ?_;intro w1 zj qq abh pr _;have pJ:=(KX.out w1 pr).2))
 have Ac:=oE.out w1 zj qq abh (KX.out w1 pr).1;replace Ac:=gE Ac;clear qq pr pJ KX oE HM QG V' KY QM abh;go_wp2_with fail;refine Ac.out.mono ?_;intro e w2 h2;have h3:=h2.1.ret;subst h3;replace h2:=gE h2;clear Ac;go_wp2_with fail
 go_end0
 exact h2.out
theorem jt.clock(h:jt N w sb s cm wv gP xs ws)(now:Int):jt N (w.setCell ⟨sb,10,none⟩ (af ag now)) sb {s with now:=now} cm wv gP xs ws/\ip (Ct sb cm wv) w (w.setCell ⟨sb,10,none⟩ (af ag now)):=by
 have km:ip (· = sb) w (w.setCell ⟨sb,10,none⟩ (af ag now)):=iu (Below.refl _ _) 10 _;have hc:ip (Ct sb cm wv) w (w.setCell ⟨sb,10,none⟩ (af ag now)):=km.mono fun k _ e=>a_ e
 obtain⟨n,hn,hm⟩:=h.map;refine⟨⟨gQ h.i_ 10 _,⟨n,hn,hm.same (km.block cm hm.lt (fun e=>?_))⟩,h.j7,h.lA,fun i c cb a h1 h2 h3=>h.cons hc h1 h2 h3,jg h.row km (fun k hk e=>?_),h.wait,h.apart,h.GN⟩,hc⟩
 ·obtain⟨es,ck,hb⟩:=hm.kY;have h2:w.heap[sb]? =some (.cells (sM s.c s.now cm wv) 101 (0,0)):=h.i_;rw[<-e,hb]at h2
  cases h2
 ·subst e;exact gO h.row h.i_ (by decide) hk
def lT(g:gZ->Bool)(ks:List Int)(c:gZ):Bool:=decide (c.gL∈ks) || g c
theorem PM(g:gZ->Bool)(l:List gZ):l.filter (lT g (l.map (·.gL)))=l:=by
 rw[dV];intro c hc;simp only[lT,Bool.or_eq_true,decide_eq_true_eq];exact a_ (cZ.2 ⟨c,hc,rfl⟩)
theorem PN(g:gZ->Bool)(l:List gZ):l.filter (lT g [])=l.filter g:=by
 refine ei fun c _=>?_
 simp[lT]
theorem AJ(h:(l.map (·.gL)).Nodup){d:gZ}(hc:c∈l)(hd:d∈l)(e:c.gL=d.gL):c=d:=by
 induction l with
 |nil=>cases hc
 |cons x l ih=>
  simp only[bD,bB]at h;rcases cI.1 hc with h1|h1
  ·rcases cI.1 hd with h2|h2
   ·rw[h1,h2]
   ·exact(h.1 (cZ.2 ⟨d,h2,by rw[<-e,h1]⟩)).elim
  ·rcases cI.1 hd with h2|h2
   ·exact(h.1 (cZ.2 ⟨c,h1,by rw[e,h2]⟩)).elim
   ·exact ih h.2 h1 h2
theorem L_(h:(l.map (·.gL)).Nodup)(hc:c∈l)(hg:g c=true):l.filter (lT g (k1++c.gL::k2))=l.filter (lT g (k1++k2)):=by
 refine ei fun d hd=>?_
 by_cases e:d.gL=c.gL
 ·rw[AJ h hd hc e];simp[lT,hg]
 ·simp[lT,e]
theorem zo:∀{l:List gZ} {i:Nat} {c:gZ},(l.map (·.gL)).Nodup->l[i]? =some c->l.eraseIdx i=l.filter fun d=>d.gL != c.gL
 |[],_,_,_,h=>by simp at h
 |x::l,0,c,hn,h=>by
  simp only[cz,Option.some.injEq]at h;subst h;simp only[bD,bB]at hn;rw[List.eraseIdx_zero,List.tail_cons,dU,if_neg (by simp)]
  symm
  rw[dV];intro d hd;simp only[bne_iff_ne,ne_eq];exact fun e=>hn.1 (cZ.2 ⟨d,hd,e⟩)
 |x::l,i+1,c,hn,h=>by
  simp only[cB]at h;simp only[bD,bB]at hn;have ih:=zo hn.2 h;have hx:x.gL≠c.gL:=fun e=>hn.1 (cZ.2 ⟨c,bT h,e.symm⟩)
  rw[List.eraseIdx_cons_succ,dU,if_pos (by simp[hx]),ih]
theorem L9(h:(l.map (·.gL)).Nodup)(hi:(l.filter (lT g (k1++c.gL::k2)))[i]? =some c)(hg:g c=false)(hk:c.gL∉k1++k2):(l.filter (lT g (k1++c.gL::k2))).eraseIdx i=l.filter (lT g (k1++k2)):=by
 have hc:c∈l:=(c_.1 (bT hi)).1;rw[zo ((List.filter_sublist.map _).nodup h) hi,List.filter_filter];refine ei fun d hd=>?_
 by_cases e:d.gL=c.gL
 ·rw[AJ h hd hc e];simp only[List.mem_append]at hk;simp[lT,hg,hk]
 ·simp[lT,e]
structure D7(N:Nat)(w:World)(sb cm:Nat)(wv:Value)(gP:List Nat)(xs:List iP)(s':ik)(v:Value)(e:Ending)(w':World):Prop where
 ret:e=.returned v
 ex:∃kV iW nl nS,jt N w' sb s' cm kV iW nl nS/\(∀k,lh sb cm kV iW nl k->lh sb cm wv gP xs k\/w.heap.size<=k)/\∀k,qz nl k->qz xs k
 iO:ip (lh sb cm wv gP xs) w w'
theorem jt.iO{F:Nat->Prop}(h:jt N w sb s cm wv gP xs ws)(hc:ip F w w')(hF:∀k,lh sb cm wv gP xs k->¬F k)(h8:∀k cur fr,w.heap[k]? =some (.cells cur 5 fr)->¬F k):jt N w' sb s cm wv gP xs ws:=by
 obtain⟨n,hn,hm⟩:=h.map;exact⟨h.i_.iO hc (hF sb (a_ rfl)),⟨n,hn,hm.same (hc.block cm hm.lt (hF cm (aV (a_ rfl))))⟩,h.j7,h.lA,fun i c cb a h1 h2 h3=>(h.kH i c cb a h1 h2 h3).iO hc (fun k hk=>hF k (pu h2 h3 hk)) h8,jg h.row hc (fun k hk e=>hF k (aV (aV (a_ hk))) e),h.wait,h.apart,h.GN⟩
structure rT(N:Nat)(w:World)(sb:Nat)(s:ik)(now:Int)(g:gZ->Bool)(cm:Nat)(wv:Value)(gP:List Nat)(xs:List iP)(R:Nat)(ks:List Int)(wr:World)(kV:Value)(iW:List Nat)(nl:List iP)(nS:List Nat):Prop where
 lf:jt N wr sb {s with now:=now,gG:=s.gG.filter (lT g ks)} cm kV iW nl nS
 xH:∀k,lh sb cm kV iW nl k->lh sb cm wv gP xs k\/R<k
 iO:ip (lh sb cm wv gP xs) w wr
 lt:R<wr.heap.size
 uu:∀k,qz nl k->qz xs k
theorem rT.step(h:rT N w sb s now g cm wv gP xs R ks wr kV iW nl nS)(hP:jt N w sb s cm wv gP xs ws)(hR:w.heap.size<=R)(hi:∃x y z u,wr.heap[R]? =some (.mapIter x y z u))(hg:wr.grownBy w1 (some R)):rT N w sb s now g cm wv gP xs R ks w1 kV iW nl nS:=by
 have hc:ip (· = R) wr w1:=⟨hg.os,hg.tape,hg.output,hg.size,fun k hk js=>hg.block k hk (fun e=>js (Option.some.inj e))⟩;refine⟨h.lf.iO hc (fun k hk e=>?_) (fun k cur fr hk e=>?_),h.xH,oj h.iO hc (fun x e=>aV (by subst e;exact hR)),cq h.lt hg.size,h.uu⟩
 ·subst e;rcases h.xH _ hk with h1|h1
  ·have:=F_ hP h1;omega
  ·omega
 ·obtain⟨x,y,z,u,e2⟩:=hi;rw[e,e2]at hk
  cases hk
theorem rT.below(h:rT N w sb s now g cm wv gP xs R ks wr kV iW nl nS)(hb:Below wr.heap.size wr w1):rT N w sb s now g cm wv gP xs R ks w1 kV iW nl nS:=
 ⟨h.lf.below hb,h.xH,h.iO.trans (ip.gS hb),cq h.lt hb.size,h.uu⟩
theorem rT.stay(h:rT N w sb s now g cm wv gP xs R (k1++c.gL::k2) wr kV iW nl nS)(tz:(s.gG.map (·.gL)).Nodup)(hc:c∈s.gG)(hg:g c=true):rT N w sb s now g cm wv gP xs R (k1++k2) wr kV iW nl nS/\s.gG.filter (lT g (k1++c.gL::k2))=s.gG.filter (lT g (k1++k2)):=by
 have e:=L_ tz (k1:=k1) (k2:=k2) hc hg;exact⟨⟨by rw[<-e];exact h.lf,h.xH,h.iO,h.lt,h.uu⟩,e⟩
theorem rT.gone{w2:World}(h:rT N w sb s now g cm wv gP xs R (k1++c.gL::k2) wr kV iW nl nS)(hR:w.heap.size<=R)(tz:(s.gG.map (·.gL)).Nodup)(hi:(s.gG.filter (lT g (k1++c.gL::k2)))[i]? =some c)(hg:g c=false)(hk:c.gL∉k1++k2)
  (hD:y8 N wr sb {({s with now:=now,gG:=s.gG.filter (lT g (k1++c.gL::k2))}:ik) with gG:=(s.gG.filter (lT g (k1++c.gL::k2))).eraseIdx i} cm kV (iW.eraseIdx i) (nl.eraseIdx i) (nS.filter fun b=>b != cb) e w2):
  ∃TG,rT N w sb s now g cm wv gP xs R (k1++k2) w2 TG (iW.eraseIdx i) (nl.eraseIdx i) (nS.filter fun b=>b != cb)/\(s.gG.filter (lT g (k1++c.gL::k2))).eraseIdx i=s.gG.filter (lT g (k1++k2)):=by
 have ee:=L9 tz hi hg hk;obtain⟨_,⟨TG,hP,kP⟩,hc⟩:=hD;refine⟨TG,⟨by rw[<-ee];exact hP,fun k hk=>?_,oj h.iO hc (fun k hk=>?_),cq h.lt hc.size,fun k hk=>h.uu k (Cw k hk)⟩,ee⟩
 ·rcases Cv (B:=R+1) (kP.imp id fun h2 k hk=>cw h.lt (h2 k hk)) k hk with h1|h1
  ·exact h.xH k h1
  ·exact aV h1
 ·rcases h.xH k (ui hk) with h1|h1
  ·exact a_ h1
  ·exact aV (by omega)
theorem MM(N:Nat)(sb:Nat)(s:ik)(cm:Nat)(wv:Value)(gP:List Nat)(xs:List iP)(ws:List Nat)(now:Int)(w:World)(h:jt N w sb s cm wv gP xs ws)(hb:now<s.now\/1000000000<now):
  Calls ae 27 #[ai (some ⟨sb,0,none⟩),af ag now] w fun e w'=>D7 N w sb cm wv gP xs s (af ag 2) e w':=by
 have d10:w.cell? ⟨sb,10,none⟩= some (af ag s.now):=h.i_.cell 10;have HE:Hid (D7 N w sb cm wv gP xs s (af ag 2) (.returned (af ag 2)) w):=⟨rfl,⟨wv,gP,xs,ws,h,fun k hk=>a_ hk,fun k hk=>hk⟩,ip.refl _ _⟩;clear h;by_cases h1:now<s.now
 ·go_enter func27,ntmps27;go_wp2_with fail;go_ret;exact HE.out
 ·have h2:1000000000<now:=by omega
  have h3:s.now<=now:=by omega
  go_enter func27,ntmps27;go_wp2_with fail;go_ret;exact HE.out
theorem ML(N:Nat)(sb:Nat)(s:ik)(cm:Nat)(wv:Value)(gP:List Nat)(xs:List iP)(ws:List Nat)(now:Int)(w:World)(h:jt N w sb s cm wv gP xs ws)(hI:iQ M L s)(im:s.now<=now)(iT:now<=1000000000):
  Calls ae 27 #[ai (some ⟨sb,0,none⟩),af ag now] w fun e w'=>D7 N w sb cm wv gP xs (Ao s now) (af ag 0) e w':=by
 have NP:=hI.now;have d10:w.cell? ⟨sb,10,none⟩= some (af ag s.now):=h.i_.cell 10;have z10:=h.i_.free 10;obtain⟨QR,km⟩:=h.clock now;have QM:(w.setCell ⟨sb,10,none⟩ (af ag now)).cell? ⟨sb,11,none⟩= some (.map (some cm)):=QR.i_.cell 11;obtain⟨n,QU,hm⟩:=QR.map;have HM:=gE hm;obtain⟨gg,Il⟩:∃g:gZ->Bool,g=fun c=>decide (now-c.heard<s.c.c6):=⟨_,rfl⟩
 have LR:(s.gG.filter (lT gg (s.gG.map (·.gL))))=s.gG:=PM gg s.gG
 have Rn:Hid (∀w0,(w.setCell ⟨sb,10,none⟩ (af ag now)).grownBy w0 none->w0.heap.size=w.heap.size+1->rT N w sb s now gg cm wv gP xs w.heap.size (s.gG.map (·.gL)) w0 wv gP xs ws):=by
  intro w0 Fo yX;have kf:=oK Fo;have WQ:(w.setCell ⟨sb,10,none⟩ (af ag now)).heap.size=w.heap.size:=by simp
  refine⟨?_,fun k hk=>a_ hk,((km.mono fun k _ hk=>ui hk).trans (ip.gS kf)),by omega,fun k hk=>hk⟩;rw[LR];exact QR.below kf
 have oE:Hid (∀(wr:World) kV iW nl nS,rT N w sb s now gg cm wv gP xs w.heap.size [] wr kV iW nl nS->D7 N w sb cm wv gP xs (Ao s now) (af ag 0) (.returned (af ag 0)) wr):=by
  intro wr kV iW nl nS hA;refine⟨rfl,⟨kV,iW,nl,nS,?_,fun k hk=>(hA.xH k hk).imp id Nat.le_of_lt,hA.uu⟩,hA.iO⟩;have h1:=hA.lf;rw[PN,Il]at h1;exact h1
 have HId:Hid (∀(W:World) kV iW nl nS ks (i:Nat) c cb a,rT N w sb s now gg cm wv gP xs w.heap.size ks W kV iW nl nS->(s.gG.filter (lT gg ks))[i]? =some c->iW[i]? =some cb->nl[i]? =some a->Calls ae 53 #[ai (some ⟨cb,0,none⟩),af ag now] W fun e w'=>e=.returned (.bool (!gg c))/\∃q,w'=W.drewN q):=by
  intro W kV iW nl nS ks i c cb a hA h1 h2 h3;have kx:c∈s.gG:=(c_.1 (bT h1)).1;have hC:=hA.lf.kH i c cb a h1 h2 h3;refine(OB cb s.c c _ _ _ _ now W hC.i_ (by omega) (hI.ok c kx).heard).mono ?_;rintro e w' ⟨rfl,hq⟩;refine⟨?_,hq⟩
  have h5:decide (s.c.c6<=now-c.heard) = !decide (now-c.heard<s.c.c6):=by
   by_cases h4:s.c.c6<=now-c.heard
   ·rw[decide_eq_true h4,decide_eq_false (by omega)];rfl
   ·rw[decide_eq_false h4,decide_eq_true (by omega)];rfl
  rw[h5,Il]
 have VS:Hid (∀(W:World) kV iW nl nS (k1 k2:List Int) (i:Nat) c cb a (rN:Nat) (rest:List (Int×Nat)),rT N w sb s now gg cm wv gP xs w.heap.size (k1++c.gL::k2) W kV iW nl nS->(s.gG.filter (lT gg (k1++c.gL::k2)))[i]? =some c->iW[i]? =some cb->nl[i]? =some a->gg c=false->c.gL∉k1++k2->rest.map (·.1)=k1++k2->jX nv ae 3 W cm w.heap.size n (((s.gG.filter (lT gg (k1++c.gL::k2))).map (·.gL)).zip iW) rest rN->
   Calls ae 54 #[ai (some ⟨sb,0,none⟩),ai (some ⟨cb,0,none⟩)] W fun e w'=>e=.returned (.tuple #[])/\∃TG IK xs2 ws2 Gg,rT N w sb s now gg cm wv gP xs w.heap.size (k1++k2) w' TG IK xs2 ws2/\jX nv ae 3 w' cm w.heap.size n (((s.gG.filter (lT gg (k1++k2))).map (·.gL)).zip IK) rest Gg/\Gg<=rN):=by
  intro W kV iW nl nS k1 k2 i c cb a rN rest hA h1 h2 h3 ZT hk hrk zE;have kx:c∈s.gG:=(c_.1 (bT h1)).1;have hC:=hA.lf.kH i c cb a h1 h2 h3;have vj:(s.gG.filter (lT gg (k1++c.gL::k2))).Sublist s.gG:=List.filter_sublist;have hB:=hA.lf.but (ay N) h1 h2 h3 (ip.refl _ _) ⟨c,_,_,_,_,hC.i_,rfl⟩
  have QZ:nS.length<=1000:=by
   have e1:=hA.lf.VO;have e2:=hI.BA;have e3:=hI.cfg.c0;have e4:=vj.length_le;simp only at e1;omega
  refine(MN N sb _ cm kV iW nl nS i cb c.gL W hB ((vj.map _).nodup hI.nd) QZ (by have:=(hI.ok c kx).gL;omega) QU zE (fun e he hec=>hk (by rw[<-hrk,<-hec];exact cZ.2 ⟨e,he,rfl⟩))).mono ?_;rintro e w' ⟨hD,Gg,ac9,uV⟩;have GH:=hD.ret;obtain⟨TG,KL,ee⟩:=hA.gone (ay _) hI.nd h1 ZT hk hD;exact⟨GH,TG,_,_,_,Gg,KL,by rw[<-ee];exact ac9,uV⟩
 have tH:Hid (∀(wr w1:World) kV iW nl nS ks,rT N w sb s now gg cm wv gP xs w.heap.size ks wr kV iW nl nS->(∃x y z u,wr.heap[w.heap.size]? =some (.mapIter x y z u))->wr.grownBy w1 (some w.heap.size)->rT N w sb s now gg cm wv gP xs w.heap.size ks w1 kV iW nl nS):=fun wr w1 kV iW nl nS ks hA hi hg=>hA.step h (ay _) hi hg
 have Xr:=gE hI.nd
 have KH:Hid (∀(W:World) kV iW nl nS ks (k:Int) (y:Nat),rT N w sb s now gg cm wv gP xs w.heap.size ks W kV iW nl nS->rV (((s.gG.filter (lT gg ks)).map (·.gL)).zip iW) k=some y->∃(i:Nat) (c:gZ) (a:iP),(s.gG.filter (lT gg ks))[i]? =some c/\c.gL=k/\iW[i]? =some y/\nl[i]? =some a):=by
  intro W kV iW nl nS ks k y hA kP;rcases hA.lf.look ((List.filter_sublist.map _).nodup hI.nd) k with⟨_,e⟩|⟨i,c,cb,a,h1,h2,h3,h4,e⟩
  ·rw[kP]at e;cases e
  ·rw[kP]at e
   cases e
   exact⟨i,c,a,h1,h2,h3,h4⟩
 have HL0:Hid ((s.gG.map (·.gL)).zip gP=((s.gG.filter (lT gg (s.gG.map (·.gL)))).map (·.gL)).zip gP):=by show _=_;rw[LR]
 have HK0:Hid (((s.gG.map (·.gL)).zip gP).map (·.1)=s.gG.map (·.gL)):=by show _=_;rw[d' (by simp[h.j7])]
 clear h hI QR km hm LR Il;go_enter func27,ntmps27
 go_wp2_with (first
  |(at_range;refine qV _ rfl _ 98 rfl 97 underlying3 underlying98 cm n _ rfl HM.out ?_;intro w0 BH Fo yX))
 have WQ:(w.setCell ⟨sb,10,none⟩ (af ag now)).heap.size=w.heap.size:=by simp
 rw[WQ]at BH yX
 have H0:Hid (∃(ks:List Int) (iW:List Nat) (rest:List (Int×Nat)) (rN:Nat),jX nv ae 3 w0 cm w.heap.size n (((s.gG.filter (lT gg ks)).map (·.gL)).zip iW) rest rN/\rest.map (·.1)=ks/\∃kV nl nS,rT N w sb s now gg cm wv gP xs w.heap.size ks w0 kV iW nl nS):=
  ⟨_,gP,_,_,by rw[<-HL0.out];exact BH,HK0.out,wv,xs,ws,Rn.out w0 Fo yX⟩
 clear BH Fo yX QM d10 z10 Rn HL0 HK0 HM;clear WQ
 try go_frame
 go_loopw [6] (fun _ wr=>∃(ks:List Int) (iW:List Nat) (rest:List (Int×Nat)) (rN:Nat),jX nv ae 3 wr cm w.heap.size n (((s.gG.filter (lT gg ks)).map (·.gL)).zip iW) rest rN/\Hid (rest.map (·.1)=ks/\∃kV nl nS,rT N w sb s now gg cm wv gP xs w.heap.size ks wr kV iW nl nS)) (fun _ wr=>wr.rangeLeft cm w.heap.size)
 case atStart=>
  obtain⟨ks,iW,rest,rN,h1,h2⟩:=H0.out;exact⟨ks,iW,rest,rN,h1,h2⟩
 case round=>
  obtain⟨ks,iW,rest,rN,zE,hA⟩:=hrel;have TM:=gE zE;clear H0
  go_wp2_with (first
   |(at_next;refine sf _ rfl _ rfl underlying3 cm w.heap.size n _ rest rN rfl zE ?_ ?_))
  ·intro Ef;obtain⟨QS,kV,nl,nS,hB⟩:=hA.out;subst Ef;have hk0:ks=[]:=by simpa using QS.symm
   subst hk0;have HE:=gE (oE.out wr kV iW nl nS hB);clear hA hB;go_wp2_with fail;go_ret;exact HE.out
  ·intro k y r1 r2 w1 zj BG Vs kP zF jp pr uD Jl;obtain⟨QS,kV,nl,nS,hB⟩:=hA.out;have ZK:=tH.out wr w1 kV iW nl nS ks hB TM.out.iter.2 pr;obtain⟨i,c,a,h1,h2,h3,h4⟩:=KH.out w1 kV iW nl nS ks k y ZK kP;have hke:ks=r1.map (·.1)++c.gL::r2.map (·.1):=by rw[<-QS,BG,h2];simp
   have tz:=TM.out.nd;have Zw:=gE (HId.out w1 kV iW nl nS ks i c y a ZK h1 h3 h4);have abj:=TM.out.left_eq
   cases ZT:gg c with
   |true=>
    rw[ZT]at Zw
    have HR:Hid (∀q,jX nv ae 3 (w1.drewN q) cm w.heap.size n (((s.gG.filter (lT gg (r1.map (·.1)++r2.map (·.1)))).map (·.gL)).zip iW) (r1++r2) zj/\rT N w sb s now gg cm wv gP xs w.heap.size (r1.map (·.1)++r2.map (·.1)) (w1.drewN q) kV iW nl nS):=by
     intro q;subst hke;have kx:c∈s.gG:=(c_.1 (bT h1)).1;obtain⟨KL,ee⟩:=(ZK.below (gK (Below.refl _ _) q)).stay Xr.out kx ZT;rw[<-ee];refine⟨zF.kept ?_ ?_,by rw[ee]at *;exact KL⟩<;>simp[dD]
    clear hA hB ZK h1 h2 h3 h4 hke tz zF pr uD kP BG QS zE;go_wp2_with fail;refine Zw.out.mono ?_;rintro e w2 ⟨rfl,q,rfl⟩;clear Zw;go_wp2_with fail
    go_roundw
    case rel=>exact⟨_,iW,r1++r2,zj,(HR.out q).1,by simp,kV,nl,nS,(HR.out q).2⟩
    case measure=>
     have e1:=(HR.out q).1.left_eq;rw[e1,abj];exact jp
   |false=>
    rw[ZT]at Zw
    have Yj:c.gL∉r1.map (·.1)++r2.map (·.1):=by
     have e1:(r1.map (·.1)++c.gL::r2.map (·.1)).Nodup:=by rw[<-hke,<-QS];exact tz
     intro hm;rw[List.nodup_append,bB]at e1;obtain⟨_,⟨q1,_⟩,q2⟩:=e1;rcases List.mem_append.1 hm with hm|hm
     ·exact q2 _ hm _ (List.mem_cons_self) rfl
     ·exact q1 hm
    have HD:Hid (∀q,Calls ae 54 #[ai (some ⟨sb,0,none⟩),ai (some ⟨y,0,none⟩)] (w1.drewN q) fun e w'=>e=.returned (.tuple #[])/\∃TG IK xs2 ws2 Gg,rT N w sb s now gg cm wv gP xs w.heap.size (r1.map (·.1)++r2.map (·.1)) w' TG IK xs2 ws2/\jX nv ae 3 w' cm w.heap.size n (((s.gG.filter (lT gg (r1.map (·.1)++r2.map (·.1)))).map (·.gL)).zip IK) (r1++r2) Gg/\Gg<=zj):=by
     intro q;subst hke;exact VS.out (w1.drewN q) kV iW nl nS _ _ i c y a zj (r1++r2) (ZK.below (gK (Below.refl _ _) q)) h1 h3 h4 ZT Yj (by simp) (zF.kept (by simp[dD]) (by simp[dD]))
    clear hA hB ZK h1 h2 h3 h4 hke tz zF pr uD kP BG QS zE Yj;go_wp2_with fail;refine Zw.out.mono ?_;rintro e w2 ⟨rfl,q,rfl⟩;clear Zw;go_wp2_with fail;refine(HD.out q).mono ?_;rintro e w3 ⟨rfl,TG,IK,xs2,ws2,Gg,XJ,abt,uV⟩;have H3:=gE (ce XJ abt);clear XJ abt HD;go_wp2_with fail
    go_roundw
    case rel=>exact⟨_,IK,r1++r2,Gg,H3.out.2,by simp,TG,xs2,ws2,H3.out.1⟩
    case measure=>
     have e1:=H3.out.2.left_eq;rw[e1,abj];omega
theorem Gn{b:Nat}:∀{l:List Nat},b∉l->(b::l).filter (fun x=>x != b)=l:=by
 intro l h;rw[dU,if_neg (by simp),dV];intro x hx;simp only[bne_iff_ne,ne_eq];exact fun e=>h (e▸hx)
theorem jt.first{b:Nat}(h:jt N w sb s cm wv gP xs (b::wt))(tz:(s.gG.map (·.gL)).Nodup):
  ∃(j:Nat) (c:gZ) (a:iP),s.gG[j]? =some c/\gP[j]? =some b/\xs[j]? =some a/\lR s=(c.gL,0,{s with gG:=s.gG.set j {c with waits:=0}})/\b∉wt/\
   ∃ct,mg (s.gG.set j {c with waits:=0}) ct/\wt.length=ct.length/\∀(l:Nat) b',wt[l]? =some b'->∃(i:Nat) (c':gZ),(s.gG.set j {c with waits:=0})[i]? =some c'/\gP[i]? =some b'/\ct[l]? =some c'.gL:=by
 obtain⟨cs,sk,uf,vQ⟩:=h.wait
 cases cs with
 |nil=>simp at uf
 |cons x ct=>
  obtain⟨j,c,hj,hcx,_,U0,hwt⟩:=IB sk
  have Ye:∀(j l:Nat) b,gP[j]? =some b->gP[l]? =some b->j=l:=by
   intro j l b e1 e2;by_cases qp:j=l
   ·exact qp
   ·have h1:j<xs.length:=by rw[h.lA,<-h.j7];exact(bm.1 e1).1
    have h2:l<xs.length:=by rw[h.lA,<-h.j7];exact(bm.1 e2).1
    exact absurd (a_ rfl) (h.apart j l b _ b _ qp e1 (am h1) e2 (am h2) b (a_ rfl))
  obtain⟨i0,c0,e1,e2,e3⟩:=vQ 0 b rfl;simp only[cz,Option.some.injEq]at e3;have qs:c0=c:=AJ tz (bT e1) (bT hj) (by rw[hcx,e3]);subst qs
  have xU:i0=j:=by
   have q1:(s.gG.map (·.gL))[i0]? =some c0.gL:=by simp[e1]
   have q2:(s.gG.map (·.gL))[j]? =some c0.gL:=by simp[hj]
   exact(List.getElem?_inj (bm.1 q1).1 tz).1 (q1.trans q2.symm)
  subst xU;have hcn:=sk.nodup tz;rw[bB]at hcn
  have GF:b∉wt:=by
   intro hb;obtain⟨l,hl,e⟩:=List.getElem_of_mem hb;obtain⟨i1,c1,f1,f2,f3⟩:=vQ (l+1) b (by simp[am hl,e]);have:=Ye i1 i0 b f2 e2;subst this;rw[e1]at f1
   cases f1
   simp only[cB]at f3;exact hcn.1 (by rw[e3];exact bT f3)
  obtain⟨a,ha⟩:∃a,xs[i0]? =some a:=⟨_,am (by rw[h.lA];exact(bm.1 e1).1)⟩;refine⟨i0,c0,a,hj,e2,ha,U0.trans (by rw[hcx]),GF,ct,hwt,by simpa using uf,fun l b' hl=>?_⟩;obtain⟨i1,c1,f1,f2,f3⟩:=vQ (l+1) b' (by simpa using hl)
  have js:i1≠i0:=by
   intro e;subst e;rw[e2]at f2
   cases f2
   exact GF (bT hl)
  refine⟨i1,c1,by rw[getElem?_set_other js];exact f1,f2,by simpa using f3⟩
theorem jt.taken{b:Nat}(h:jt N w sb s cm wv gP xs (b::wt)){j:Nat}(hj:s.gG[j]? =some c)
  (hw:∃ct,mg (s.gG.set j {c with waits:=0}) ct/\wt.length=ct.length/\∀(l:Nat) b',wt[l]? =some b'->∃(i:Nat) (c':gZ),(s.gG.set j {c with waits:=0})[i]? =some c'/\gP[i]? =some b'/\ct[l]? =some c'.gL)
  (hS:pt w' sb s.c s.now cm kV) (ho:w'.ownsRow 0 97 1 kV wt.length (kF wt)) (hc:ip (fun k=>k=sb\/wv.ownBlock=some k) w w'):jt N w' sb {s with gG:=s.gG.set j {c with waits:=0}} cm kV gP xs wt:=by
 obtain⟨n,hn,hm⟩:=h.map;have Jg:ip (Ct sb cm wv) w w':=hc.mono fun k _ e=>e.elim a_ (fun e=>aV (aV e))
 have hmb:w'.heap[cm]? =w.heap[cm]?:=by
  refine hc.block cm hm.lt ?_;obtain⟨es,ck,hb⟩:=hm.kY;rintro(e|e)
  ·have h2:w.heap[sb]? =some (.cells (sM s.c s.now cm wv) 101 (0,0)):=h.i_;rw[<-e,hb]at h2
   cases h2
  ·obtain⟨c1,e1⟩:=ii h.row e;rw[hb]at e1
   cases e1
 refine⟨hS,⟨n,hn,?_⟩,by simp[h.j7],by simp[h.lA],fun i d db x h1 h2 h3=>?_,ho,hw,h.apart,h.GN⟩
 ·have e:({s with gG:=s.gG.set j {c with waits:=0}}:ik).gG.map (·.gL)=s.gG.map (·.gL):=mn hj rfl;rw[e];exact hm.same hmb
 ·by_cases xU:i=j
  ·subst xU;rw[getElem?_set_at hj]at h1
   cases h1
   exact(h.cons Jg hj h2 h3).waits 0
  ·rw[getElem?_set_other xU]at h1;exact h.cons Jg h1 h2 h3
theorem Kn(N:Nat)(sb:Nat)(s:ik)(cm:Nat)(wv:Value)(gP:List Nat)(xs:List iP)(ws:List Nat)(w:World)(h:jt N w sb s cm wv gP xs ws)(hI:iQ M L s):
  Calls ae 21 #[ai (some ⟨sb,0,none⟩)] w fun e w'=>D7 N w sb cm wv gP xs (lR s).2.2 (.tuple #[af ag (lR s).1,af ag (lR s).2.1]) e w':=by
 have Nz:w.cell? ⟨sb,12,none⟩= some wv:=h.i_.cell 12
 cases ws with
 |nil=>
  have U0:lR s=(0,4,s):=by
   obtain⟨cs,sk,uf,_⟩:=h.wait
   cases cs with
   |nil=>exact IA sk
   |cons x ct=>simp at uf
  rw[U0];obtain⟨va,vc,rfl⟩:=iA h.row;have HE:Hid (D7 N w sb cm (.slice va 0 vc) gP xs s (.tuple #[af ag 0,af ag 4]) (.returned (.tuple #[af ag 0,af ag 4])) w):=⟨rfl,⟨_,gP,xs,[],h,fun k hk=>a_ hk,fun k hk=>hk⟩,ip.refl _ _⟩;simp only[List.length_nil]at Nz⊢;clear h hI U0;go_enter func21,ntmps21;go_wp2_with fail
  go_ret2
  exact HE.out
 |cons b wt=>
  obtain⟨j,c,a,hj,jJ,ha,U0,GF,hw⟩:=h.first hI.nd;rw[U0]
  have QZ:(b::wt).length<=1000:=by
   have e1:=h.VO;have e2:=hI.BA;have e3:=hI.cfg.c0;omega
  have hC:=h.kH j c b a hj jJ ha;have C1:=(h.but (ay N) hj jJ ha (ip.refl _ _) ⟨c,_,_,_,_,hC.i_,rfl⟩).isb;have kE:=h.row;obtain⟨g,cap,e1,_,_,_⟩:=jP kE (by simp);subst e1
  have c0:w.cell? ⟨g,0,none⟩= some (ai (some ⟨b,0,none⟩)):=by
   rw[kE.cellAt 0 (by simp)];simp[kF,AN]
  have HWn:=gE (rJ sb s.c s.now cm _ (b::wt) b w h.i_ kE QZ C1.2 C1.1);rw[Gn GF]at HWn
  have oE:Hid (∀w1 e,zd w sb s.c s.now cm (aj (some ⟨g,0,none⟩) (b::wt).length cap) wt e w1->(Calls ae 51 #[ai (some ⟨b,0,none⟩)] w1 fun e w'=>e=.returned (af ag c.gL)/\w1=w')/\D7 N w sb cm (aj (some ⟨g,0,none⟩) (b::wt).length cap) gP xs {s with gG:=s.gG.set j {c with waits:=0}} (.tuple #[af ag c.gL,af ag 0]) (.returned (.tuple #[af ag c.gL,af ag 0])) w1):=by
   rintro w1 e ⟨rfl,⟨kV,hS,ho,kP⟩,hc⟩;have hP:=h.taken hj hw hS ho hc;have Jg:ip (Ct sb cm (aj (some ⟨g,0,none⟩) (b::wt).length cap)) w w1:=hc.mono fun k _ e=>e.elim a_ (fun e=>aV (aV e))
   exact⟨CC b s.c c _ _ _ _ w1 (h.cons Jg hj jJ ha).i_,rfl,⟨kV,gP,xs,wt,hP,Ns kP,fun k hk=>hk⟩,Jg.mono fun k _ hk=>ui hk⟩
  have pA:((b::wt).length:Int)≠0:=by simp;omega
  have T2:0<(b::wt).length:=by simp
  have yV:(((b::wt).length:Int)==0)=false:=beq_eq_false_iff_ne.2 pA;generalize (b::wt).length=wl at *
  clear h hI hj jJ ha U0 GF hw QZ hC C1 kE;go_enter func21,ntmps21;go_wp2_with fail;refine HWn.out.mono ?_;intro e w1 ho;obtain⟨h1,h2⟩:=oE.out w1 e ho;have hr:=ho.ret;subst hr;have H1:=gE h1;have H2:=gE h2;clear h1 h2 ho oE HWn c0 Nz;go_wp2_with fail;refine H1.out.mono ?_;rintro e w2 ⟨rfl,rfl⟩;clear H1;go_wp2_with fail
  go_ret2
  exact H2.out
def B6(w:World)(g:jG)(e:Ending)(w':World):Prop:=
 if g.right then ∃sb cm,e=.returned (.tuple #[ai (some ⟨sb,0,none⟩),af ag 0])/\jt 0 w' sb (oU g) cm (aj none 0 0) [] [] []/\w.heap.size<=sb/\w.heap.size<=cm/\Below w.heap.size w w'
 else e=.returned (.tuple #[ai none,af ag 1])/\Below w.heap.size w w'
theorem MS{g:jG}(hW:Below w.heap.size w W)(h1:W.heap[cm]? =some (.map #[] 0)):jt 0 (W.alloc (.cells #[af ag g.c0,af ag g.c1,af ag g.c2,af ag g.c3,af ag g.c4,af ag g.c5,af ag g.c6,af ag g.c7,af ag g.c8,af ag g.c9,af ag 0,.map (some cm),aj none 0 0] 101)) W.heap.size (oU g) cm (aj none 0 0) [] [] []/\Below w.heap.size w (W.alloc (.cells #[af ag g.c0,af ag g.c1,af ag g.c2,af ag g.c3,af ag g.c4,af ag g.c5,af ag g.c6,af ag g.c7,af ag g.c8,af ag g.c9,af ag 0,.map (some cm),aj none 0 0] 101)):=by
 have hb:=gH W (.cells #[af ag g.c0,af ag g.c1,af ag g.c2,af ag g.c3,af ag g.c4,af ag g.c5,af ag g.c6,af ag g.c7,af ag g.c8,af ag g.c9,af ag 0,.map (some cm),aj none 0 0] 101);refine⟨⟨heap_alloc_new W _,⟨0,ay _,?_⟩,rfl,rfl,fun i c cb a h1=>(by simp[oU]at h1),World.ownsRow_nil _ _ _ _,⟨[],mg.nil,rfl,fun j b hb=>(by simp at hb)⟩,fun i j cb a OE a' _ h1=>(by simp at h1),fun i cb a h1=>(by simp at h1)⟩,gI hW hb⟩;refine(kG.same (w:=W) ?_ (hb.block cm (aO.1 h1).1))
 exact⟨.map [],⟨#[],0,h1,by
  obtain⟨es,ck,q1,q2⟩:=World.ownsMap_made W ae 3 nv.R;rw[heap_alloc_new]at q1
  cases q1
  exact q2⟩,⟨fun k=>rfl,fun k a h=>(by simp[rV]at h),rfl,List.nodup_nil⟩⟩
theorem Tt(g:jG)(w:World):
  Calls ae 26 #[.agg #[af ag g.c0,af ag g.c1,af ag g.c2,af ag g.c3,af ag g.c4,af ag g.c5,af ag g.c6,af ag g.c7,af ag g.c8,af ag g.c9]] w fun e w'=>B6 w g e w':=by
 have HB:Hid (∀W:World,W=w.alloc (.cells #[af ag g.c0,af ag g.c1,af ag g.c2,af ag g.c3,af ag g.c4,af ag g.c5,af ag g.c6,af ag g.c7,af ag g.c8,af ag g.c9] 26)->Below w.heap.size w W/\W.heap[w.heap.size]? =some (.cells #[af ag g.c0,af ag g.c1,af ag g.c2,af ag g.c3,af ag g.c4,af ag g.c5,af ag g.c6,af ag g.c7,af ag g.c8,af ag g.c9] 26 (0,0))):=by
  rintro W rfl;exact⟨gH w _,heap_alloc_new w _⟩
 obtain⟨r,hr⟩:∃r,mD g.c0 g.c1 g.c2 g.c3 g.c4 g.c5 g.c6 g.c7 g.c8 g.c9=r:=⟨_,rfl⟩
 have HR:Hid (∀W,Calls ae 52 #[.agg #[af ag g.c0,af ag g.c1,af ag g.c2,af ag g.c3,af ag g.c4,af ag g.c5,af ag g.c6,af ag g.c7,af ag g.c8,af ag g.c9]] W fun e w'=>e=.returned (af ag (if r then 0 else 1))/\Below W.heap.size W w'):=by
  intro W;have:=rh g.c0 g.c1 g.c2 g.c3 g.c4 g.c5 g.c6 g.c7 g.c8 g.c9 W;unfold sD at this;rw[hr]at this;exact this
 have HE:Hid (g.right=r):=hr;have TL:Hid (∀W:World,Below w.heap.size w W->jt 0 ((W.alloc (.map #[] 0)).alloc (.cells #[af ag g.c0,af ag g.c1,af ag g.c2,af ag g.c3,af ag g.c4,af ag g.c5,af ag g.c6,af ag g.c7,af ag g.c8,af ag g.c9,af ag 0,.map (some W.heap.size),aj none 0 0] 101)) (W.alloc (.map #[] 0)).heap.size (oU g) W.heap.size (aj none 0 0) [] [] []/\Below w.heap.size w ((W.alloc (.map #[] 0)).alloc (.cells #[af ag g.c0,af ag g.c1,af ag g.c2,af ag g.c3,af ag g.c4,af ag g.c5,af ag g.c6,af ag g.c7,af ag g.c8,af ag g.c9,af ag 0,.map (some W.heap.size),aj none 0 0] 101))):=fun W hW=>MS (gI hW (gH W _)) (heap_alloc_new W _)
 clear hr;go_enter func26,ntmps26;go_wp2_with fail;obtain⟨kf,qs⟩:=HB.out _ rfl;clear HB;generalize w.alloc (.cells #[af ag g.c0,af ag g.c1,af ag g.c2,af ag g.c3,af ag g.c4,af ag g.c5,af ag g.c6,af ag g.c7,af ag g.c8,af ag g.c9] 26)=w0 at kf qs⊢;refine(HR.out w0).mono ?_;rintro e w1 ⟨rfl,im⟩;clear HR;have km:=(im.block _ (aO.1 qs).1).trans qs;have pW:=gI kf im;clear kf im qs;have m0:w1.cell? ⟨w.heap.size,0,none⟩= some (af ag g.c0):=by simp[aX,km]
 have m1:w1.cell? ⟨w.heap.size,1,none⟩= some (af ag g.c1):=by simp[aX,km]
 have m2:w1.cell? ⟨w.heap.size,2,none⟩= some (af ag g.c2):=by simp[aX,km]
 have m3:w1.cell? ⟨w.heap.size,3,none⟩= some (af ag g.c3):=by simp[aX,km]
 have m4:w1.cell? ⟨w.heap.size,4,none⟩= some (af ag g.c4):=by simp[aX,km]
 have m5:w1.cell? ⟨w.heap.size,5,none⟩= some (af ag g.c5):=by simp[aX,km]
 have m6:w1.cell? ⟨w.heap.size,6,none⟩= some (af ag g.c6):=by simp[aX,km]
 have m7:w1.cell? ⟨w.heap.size,7,none⟩= some (af ag g.c7):=by simp[aX,km]
 have m8:w1.cell? ⟨w.heap.size,8,none⟩= some (af ag g.c8):=by simp[aX,km]
 have m9:w1.cell? ⟨w.heap.size,9,none⟩= some (af ag g.c9):=by simp[aX,km]
 have nB:=gE pW;have ku:=pW.size;clear km pW
 cases r
 ·simp only[de,if_false];go_wp2_with fail
  go_ret2
  unfold B6;rw[HE.out,if_neg (by decide)];exact⟨rfl,nB.out⟩
 ·simp only[if_true];have HF:=gE (TL.out w1 nB.out);have JG:(w1.alloc (.map #[] 0)).heap.size=w1.heap.size+1:=by simp
  rw[JG]at HF;clear TL JG;have QT:∀W:World,(Instr.makeMap 98 none).run ae W=.ok (.map (some W.heap.size)) (W.alloc (.map #[] 0)):=fun W=>by simp[Instr.makeMap]
  go_wp2_with fail
  go_ret2
  unfold B6;rw[HE.out,if_pos rfl];exact⟨_,_,rfl,HF.out.1,by omega,ku,HF.out.2⟩
def uo(l:List jf):Int:=(l.map fun x=>(od x.bytes:Int)).sum
theorem Qs{α:Type}{l:List jf}{sl:List (Int×α)}(hS:jf->Int)(hdz:∀x∈l,x.done=true->hS x=0)(hz:hS (jI jm)=0)(h:Om jm l sl):(l.map hS).sum=lP (IF hS l) sl:=by
 have QS:(sl.map fun p=>p.1.toNat).Nodup:=by
  have:(sl.map fun p=>p.1.toNat)=(sl.map (·.1)).map Int.toNat:=by rw[List.map_map];rfl
  rw[this];have hn:=h.nd
  have pA:∀x∈sl.map (·.1),0<=x:=by
   intro x hx;obtain⟨p,hp,rfl⟩:=cZ.1 hx;exact(h.str p hp).1
  generalize sl.map (·.1)=ids at hn pA
  induction ids with
  |nil=>simp
  |cons a t ih=>
   rw[bB]at hn;simp only[bD,bB];refine⟨fun hm=>?_,ih hn.2 (fun x hx=>pA x (by simp[hx]))⟩;obtain⟨b,hb,e⟩:=cZ.1 hm;have h1:=pA a (by simp);have h2:=pA b (by simp[hb]);have:a=b:=by omega
   subst this;exact hn.1 hb
 have jp:∀k∈(sl.map fun p=>p.1.toNat),k<l.length:=by
  intro k hk;obtain⟨p,hp,rfl⟩:=cZ.1 hk;obtain⟨_,x,hx,_⟩:=h.str p hp;exact(bm.1 hx).1
 have e1:lP (IF hS l) sl=((sl.map fun p=>p.1.toNat).map fun i=>((l[i]?).map hS).getD 0).sum:=by
  unfold lP IF;rw[List.map_map]
  rfl
 rw[e1,AH,Ku _ QS jp]
 congr 1
 refine List.map_congr_left fun i ZX=>?_
 have yt:i<l.length:=List.mem_range.1 ZX;have hx:l[i]? =some l[i]:=am yt;have nz:=hdz _ (List.getElem_mem yt);generalize l[i]=x at hx nz;rw[hx];simp only[Option.map_some,Option.getD_some]
 have kx:i∈(sl.map fun p=>p.1.toNat)↔(i:Int)∈sl.map (·.1):=by
  constructor
  ·intro hm;obtain⟨p,hp,e⟩:=cZ.1 hm;have:=(h.str p hp).1;exact cZ.2 ⟨p,hp,by omega⟩
  ·intro hm;obtain⟨p,hp,e⟩:=cZ.1 hm;exact cZ.2 ⟨p,hp,by omega⟩
 by_cases hk:i∈(sl.map fun p=>p.1.toNat)
 ·simp[hk]
 ·cases hd:x.done with
  |true=>simp[hk,nz hd]
  |false=>
   have:=h.non i x hx hd (fun hm=>hk (kx.2 hm));subst this;simp[hk,hz]
theorem Oz{α:Type}{l:List jf}{sl:List (Int×α)}(hi:∀x∈l,np iI x)(h:Om jm l sl):uo l=lP (IF (fun x=>(od x.bytes:Int)) l) sl:=by
 refine Qs (fun x=>(od x.bytes:Int)) (fun x hx hd=>?_) (by simp[jI,od]) h;have:=((hi x hx).dn hd).1;simp[this,od]
theorem EC{U:Nat->Prop}(sb:Nat)(lv:Value)(jm:Int)(x:jf)(w:World)(h:n9 U w sb lv jm x)(hi:np iI x)(hg:iI<=8):
  Calls ae 71 #[ai (some ⟨sb,0,none⟩)] w fun e w'=>e=.returned (af ag (od x.bytes:Nat))/\Below w.heap.size w w':=by
 obtain⟨vs,hr,_⟩:=h.runs;have c0:w.cell? ⟨sb,0,none⟩= some lv:=h.cell 0;have HS:=gE (Nb vs _ lv sb 0 w c0 hr.own hr.sh (hi.fit hg));rw[He]at HS;clear h hr;go_enter func71,ntmps71;go_wp2_with fail;refine HS.out.mono ?_;rintro e w1 ⟨rfl,im⟩;have HB:=gE im;clear im HS;go_wp2_with fail;go_ret;exact⟨rfl,HB.out⟩
theorem OQ(cb sm n:Nat)(sl:List (Int×Nat))(hi:Int->Int)(w:World)(hc:w.cell? ⟨cb,21,none⟩= some (.map (some sm)))(hm:kG nv ae 3 w sm n sl)(hs:∀p∈sl,∀W,Below w.heap.size w W->Calls ae 71 #[ai (some ⟨p.2,0,none⟩)] W fun e w'=>e=.returned (af ag (hi p.1))/\Below W.heap.size W w')(hr:∀p∈sl,0<=hi p.1/\hi p.1<=1073741823)(hl:sl.length<=1073741823):
  Calls ae 70 #[ai (some ⟨cb,0,none⟩),.func (.func 71) #[] #[]] w fun e w'=>e=.returned (af ag (lP hi sl))/\Below w.heap.size w w':=by
 have hS:lP hi sl<=1152921504606846976:=by
  have:=Hl (B:=1073741823) fun p hp=>(hr p hp).2
  omega
 have HM:=gE hm;have HS:=gE hs;have HR:=gE hr;clear hm hs hr;go_enter func70,ntmps70
 go_wp2_with (first
  |(at_range;refine qV _ rfl _ 134 rfl 140 underlying3 underlying134 sm n sl rfl HM.out ?_;intro w0 BH Fo yX))
 have kf:Below w.heap.size w w0:=oK Fo;have H0:=gE (ce BH kf);clear BH Fo yX kf hc
 go_frame
 go_loopw [5] (fun s wr=>∃(rest:List (Int×Nat)) (rN:Nat),jX nv ae 3 wr sm w.heap.size n sl rest rN/\s=af ag (lP hi sl-lP hi rest)/\Hid (∀p∈rest,p∈sl)/\Hid (lP hi rest<=lP hi sl)/\Below w.heap.size w wr) (fun _ wr=>wr.rangeLeft sm w.heap.size)
 case atStart=>exact⟨sl,_,H0.out.1,by rw[Int.sub_self],fun p hp=>hp,gE (Int.le_refl _),H0.out.2⟩
 case round=>
  obtain⟨rest,rN,zE,rfl,vj,WM,lS⟩:=hrel;have DQ:=gE lS;have TM:=gE zE;clear lS
  go_wp2_with (first
   |(at_next;refine sf _ rfl _ rfl underlying3 sm w.heap.size n sl rest rN rfl zE ?_ ?_))
  ·intro Ef;subst Ef;go_wp2_with fail;go_ret;exact⟨by simp[lP],DQ.out⟩
  ·intro k y r1 r2 w1 zj BG Vs kP zF jp pr uD Jl;have Sl:(k,y)∈sl:=vj.out _ (by rw[BG];simp);have im:Below w.heap.size w w1:=DQ.out.grown pr DQ.out.size (fun g hg=>by cases hg;exact ay _);have qF:=Kt (f:=hi) r1 r2 k y;rw[<-BG]at qF;have rQ:0<=lP hi (r1++r2):=tF fun p hp=>(HR.out p (vj.out p (by rw[BG];simp at hp⊢;rcases hp with h|h<;>simp[h]))).1
   have xF:Hid (∀p∈r1++r2,p∈sl):=fun p hp=>vj.out p (by rw[BG];simp at hp⊢;rcases hp with h|h<;>simp[h])
   have hk:0<=hi k/\hi k<=1073741823:=HR.out (k,y) Sl;obtain⟨hk0,pJ⟩:=hk;have uC:=WM.out
   have hw:IntKind.i64.wrap (lP hi sl-lP hi rest+hi k)=lP hi sl-lP hi (r1++r2):=by
    rw[IntKind.wrap_i64];omega
   have Zy:=gE qF;have HE:=gE (HS.out (k,y) Sl w1 im);have H1:=gE (ce zF (ce im (ce jp xF)));have HN:=gE (show lP hi (r1++r2)<=lP hi sl from by omega);generalize lP hi rest=Sr at hw Zy⊢;clear qF rQ im Sl zF jp xF uC pr uD kP;go_wp2_with fail;refine HE.out.mono ?_;rintro e w2 ⟨rfl,iT⟩;have H2:Hid (jX nv ae 3 w2 sm w.heap.size n sl (r1++r2) zj/\Below w.heap.size w w2):=⟨H1.out.1.kept (iT.block _ H1.out.1.map.lt) (iT.block _ H1.out.1.iter.1),gI H1.out.2.1 iT⟩;clear HE iT;go_wp2_with fail
   go_roundw
   case rel=>exact⟨r1++r2,zj,H2.out.1,rfl,H1.out.2.2.2,HN,H2.out.2⟩
   case measure=>
    have h1:=H2.out.1.left_eq;have h2:=TM.out.left_eq;have h3:=H1.out.2.2.1;rw[h1,h2];exact h3
theorem Rx(N cb:Nat)(g:jG)(c:gZ)(a:iP)(w:World)(h:jE N w cb g c a)(hi:lr g c)(jR:ke M c)(hg:nx g):
  Calls ae 70 #[ai (some ⟨cb,0,none⟩),.func (.func 71) #[] #[]] w fun e w'=>e=.returned (af ag (uo c.gJ))/\Below w.heap.size w w':=by
 obtain⟨n,hn,hm⟩:=h.zW;have c21:w.cell? ⟨cb,21,none⟩= some (.map (some a.sm)):=h.i_.cell 21;rw[Oz hi.str h.mp];have Fp:=hg.c4;refine OQ cb a.sm n a.sl _ w c21 hm (fun p hp W hW=>?_) (fun p hp=>?_) ?_
 ·obtain⟨_,x,hx,_⟩:=h.mp.str p hp;have Iq:=(h.str p hp x hx).below hW;have e:IF (fun x=>(od x.bytes:Int)) c.gJ p.1=(od x.bytes:Int):=by simp[IF,hx]
  rw[e];exact EC p.2 _ g.c2 x W Iq (hi.str x (bT hx)) (by omega)
 ·obtain⟨_,x,hx,_⟩:=h.mp.str p hp;have e:IF (fun x=>(od x.bytes:Int)) c.gJ p.1=(od x.bytes:Int):=by simp[IF,hx]
  rw[e];have h1:=hi.str x (bT hx);have h2:od x.bytes<=x.bytes.length:=List.countP_le_length;have h3:=h1.len;have h4:=h1.Ls;have h5:=h1.read;omega
 ·have h2:=jR.p_;have h3:=h.mp.len;omega
def Dc(c:gZ):Array Value:=#[.bool c.gT,af ag c.jc,af ag c.jb,af ag c.gM,af ag (c.gJ.length:Int),af ag (uo c.gJ)]
def uT:Array Value:=#[.bool false,af ag 0,af ag 0,af ag 0,af ag 0,af ag 0]
def oO(s:ik)(gL:Int):Array Value×Int:=
 match kR s.gG gL with
 |none=>(uT,3)
 |some k=>match s.gG[k]? with
  |none=>(uT,3)
  |some c=>(Dc c,0)
theorem FU{o:Oper}{Q:Exit->Act->World->Prop}(h:K (a.put o.dst undef) w):Oper.upon P o a K Q (.ok .skip w):=h
theorem Oa{o:Oper}{Q:Exit->Act->World->Prop}{r:Result Next}(h:Oper.upon P o a K Q r):Oper.upon P o a K Q r:=h
theorem OC(N cb:Nat)(g:jG)(c:gZ)(a:iP)(w:World)(h:jE N w cb g c a)(hi:lr g c)(jR:ke M c)(hg:nx g):
  Calls ae 41 #[ai (some ⟨cb,0,none⟩)] w fun e w'=>e=.returned (.agg (Dc c))/\Below w.heap.size w w':=by
 have mx:cb<w.heap.size:=h.i_.lt;have HBu:Hid (∀W,Below w.heap.size w W->Calls ae 70 #[ai (some ⟨cb,0,none⟩),.func (.func 71) #[] #[]] W fun e w'=>e=.returned (af ag (uo c.gJ))/\Below W.heap.size W w'):=fun W hW=>Rx N cb g c a W (h.below hW) hi jR hg
 have HK:=gE (fun W=>yx c.gM g.c1 W);have HI0:Hid (∀W,Below w.heap.size w W->W.heap[w.heap.size]? =some (.cells #[.bool false,af ag 0,af ag 0,af ag 0,af ag 0,af ag 0] 34 (0,0))->W.cell? ⟨cb,12,none⟩= some (.bool c.gT)/\W.cell? ⟨cb,13,none⟩= some (af ag c.jc)/\W.cell? ⟨cb,14,none⟩= some (af ag c.jb)/\W.cell? ⟨cb,18,none⟩= some (af ag c.gM)/\W.cell? ⟨cb,19,none⟩= some (af ag g.c1)/\W.cell? ⟨cb,20,none⟩= some (af ag (c.gJ.length:Int))/\W.heap[w.heap.size]? =some (.cells #[.bool false,af ag 0,af ag 0,af ag 0,af ag 0,af ag 0] 34 (0,0))):=fun W hW hx=>⟨(h.i_.below hW).cell 12,(h.i_.below hW).cell 13,(h.i_.below hW).cell 14,(h.i_.below hW).cell 18,(h.i_.below hW).cell 19,(h.i_.below hW).cell 20,hx⟩
 have kf:Below w.heap.size w (w.alloc (.cells #[.bool false,af ag 0,af ag 0,af ag 0,af ag 0,af ag 0] 34)):=gH w _;have rW:=HI0.out _ kf (heap_alloc_new w _);have pQ:=gE kf;have HZ0:Hid (w.heap.size<(w.alloc (.cells #[.bool false,af ag 0,af ag 0,af ag 0,af ag 0,af ag 0] 34)).heap.size):=by show _<_;simp
 unfold Dc;generalize uo c.gJ=B at HBu⊢;generalize tu:(w.alloc (.cells #[.bool false,af ag 0,af ag 0,af ag 0,af ag 0,af ag 0] 34))=w0 at *
 have A8:=gE tu;clear h hi jR hg kf tu;go_enter func41,ntmps41;go_wp2_with fail;rw[A8.out];obtain⟨i12,i13,i14,i18,i19,i20,ix⟩:=id rW
 have B4:Hid (∀W:World,Below w0.heap.size w0 W->(W.cell? ⟨w.heap.size,0,none⟩= some (.bool false)/\W.frozen? ⟨w.heap.size,0,none⟩= false/\(W.setCell ⟨w.heap.size,0,none⟩ (.bool c.gT)).cell? ⟨w.heap.size,1,none⟩= some (af ag 0)/\(W.setCell ⟨w.heap.size,0,none⟩ (.bool c.gT)).frozen? ⟨w.heap.size,1,none⟩= false/\((W.setCell ⟨w.heap.size,0,none⟩ (.bool c.gT)).setCell ⟨w.heap.size,1,none⟩ (af ag c.jc)).cell? ⟨w.heap.size,2,none⟩= some (af ag 0)/\((W.setCell ⟨w.heap.size,0,none⟩ (.bool c.gT)).setCell ⟨w.heap.size,1,none⟩ (af ag c.jc)).frozen? ⟨w.heap.size,2,none⟩= false/\(((W.setCell ⟨w.heap.size,0,none⟩ (.bool c.gT)).setCell ⟨w.heap.size,1,none⟩ (af ag c.jc)).setCell ⟨w.heap.size,2,none⟩ (af ag c.jb)).cell? ⟨w.heap.size,3,none⟩= some (af ag 0)/\(((W.setCell ⟨w.heap.size,0,none⟩ (.bool c.gT)).setCell ⟨w.heap.size,1,none⟩ (af ag c.jc)).setCell ⟨w.heap.size,2,none⟩ (af ag c.jb)).frozen? ⟨w.heap.size,3,none⟩= false/\((((W.setCell ⟨w.heap.size,0,none⟩ (.bool c.gT)).setCell ⟨w.heap.size,1,none⟩ (af ag c.jc)).setCell ⟨w.heap.size,2,none⟩ (af ag c.jb)).setCell ⟨w.heap.size,3,none⟩ (af ag c.gM)).cell? ⟨w.heap.size,4,none⟩= some (af ag 0)/\((((W.setCell ⟨w.heap.size,0,none⟩ (.bool c.gT)).setCell ⟨w.heap.size,1,none⟩ (af ag c.jc)).setCell ⟨w.heap.size,2,none⟩ (af ag c.jb)).setCell ⟨w.heap.size,3,none⟩ (af ag c.gM)).frozen? ⟨w.heap.size,4,none⟩= false/\(((((W.setCell ⟨w.heap.size,0,none⟩ (.bool c.gT)).setCell ⟨w.heap.size,1,none⟩ (af ag c.jc)).setCell ⟨w.heap.size,2,none⟩ (af ag c.jb)).setCell ⟨w.heap.size,3,none⟩ (af ag c.gM)).setCell ⟨w.heap.size,4,none⟩ (af ag (c.gJ.length:Int))).cell? ⟨w.heap.size,5,none⟩= some (af ag 0)/\(((((W.setCell ⟨w.heap.size,0,none⟩ (.bool c.gT)).setCell ⟨w.heap.size,1,none⟩ (af ag c.jc)).setCell ⟨w.heap.size,2,none⟩ (af ag c.jb)).setCell ⟨w.heap.size,3,none⟩ (af ag c.gM)).setCell ⟨w.heap.size,4,none⟩ (af ag (c.gJ.length:Int))).frozen? ⟨w.heap.size,5,none⟩= false/\((((((W.setCell ⟨w.heap.size,0,none⟩ (.bool c.gT)).setCell ⟨w.heap.size,1,none⟩ (af ag c.jc)).setCell ⟨w.heap.size,2,none⟩ (af ag c.jb)).setCell ⟨w.heap.size,3,none⟩ (af ag c.gM)).setCell ⟨w.heap.size,4,none⟩ (af ag (c.gJ.length:Int))).setCell ⟨w.heap.size,5,none⟩ (af ag B)).heap[w.heap.size]? =some (.cells #[.bool c.gT,af ag c.jc,af ag c.jb,af ag c.gM,af ag (c.gJ.length:Int),af ag B] 34 (0,0)))):=by
  intro W hb;have x0:=(hb.block w.heap.size HZ0.out).trans ix;have x1:=gQ x0 0 (.bool c.gT);have x2:=gQ x1 1 (af ag c.jc);have x3:=gQ x2 2 (af ag c.jb);have x4:=gQ x3 3 (af ag c.gM);have x5:=gQ x4 4 (af ag (c.gJ.length:Int));have x6:=gQ x5 5 (af ag B);refine⟨by simp only[aX,x0];rfl,frozen_of_row _ _ _ _ _ x0,by simp only[aX,x1];rfl,frozen_of_row _ _ _ _ _ x1,by simp only[aX,x2];rfl,frozen_of_row _ _ _ _ _ x2,by simp only[aX,x3];rfl,frozen_of_row _ _ _ _ _ x3,by simp only[aX,x4];rfl,frozen_of_row _ _ _ _ _ x4,by simp only[aX,x5];rfl,frozen_of_row _ _ _ _ _ x5,x6⟩
 have js:cb≠w.heap.size:=by omega
 have Eb:∀(W:World) (u0 u1 u2 u3 u4 u5:Value) (q:Nat),((((((W.setCell ⟨w.heap.size,0,none⟩ u0).setCell ⟨w.heap.size,1,none⟩ u1).setCell ⟨w.heap.size,2,none⟩ u2).setCell ⟨w.heap.size,3,none⟩ u3).setCell ⟨w.heap.size,4,none⟩ u4).setCell ⟨w.heap.size,5,none⟩ u5).cell? ⟨cb,q,none⟩= W.cell? ⟨cb,q,none⟩:=by
  intro W u0 u1 u2 u3 u4 u5 q;simp only[aX];rw[heap_setCell_other _ _ _ _ js,heap_setCell_other _ _ _ _ js,heap_setCell_other _ _ _ _ js,heap_setCell_other _ _ _ _ js,heap_setCell_other _ _ _ _ js,heap_setCell_other _ _ _ _ js]
 have VY:Hid (∀(W:World) (u0 u1 u2 u3 u4 u5:Value),(W.cell? ⟨cb,12,none⟩= some (.bool c.gT)/\W.cell? ⟨cb,13,none⟩= some (af ag c.jc)/\W.cell? ⟨cb,14,none⟩= some (af ag c.jb)/\W.cell? ⟨cb,18,none⟩= some (af ag c.gM)/\W.cell? ⟨cb,19,none⟩= some (af ag g.c1)/\W.cell? ⟨cb,20,none⟩= some (af ag (c.gJ.length:Int)))->(((((((W.setCell ⟨w.heap.size,0,none⟩ u0).setCell ⟨w.heap.size,1,none⟩ u1).setCell ⟨w.heap.size,2,none⟩ u2).setCell ⟨w.heap.size,3,none⟩ u3).setCell ⟨w.heap.size,4,none⟩ u4).setCell ⟨w.heap.size,5,none⟩ u5).cell? ⟨cb,12,none⟩= some (.bool c.gT)/\((((((W.setCell ⟨w.heap.size,0,none⟩ u0).setCell ⟨w.heap.size,1,none⟩ u1).setCell ⟨w.heap.size,2,none⟩ u2).setCell ⟨w.heap.size,3,none⟩ u3).setCell ⟨w.heap.size,4,none⟩ u4).setCell ⟨w.heap.size,5,none⟩ u5).cell? ⟨cb,13,none⟩= some (af ag c.jc)/\((((((W.setCell ⟨w.heap.size,0,none⟩ u0).setCell ⟨w.heap.size,1,none⟩ u1).setCell ⟨w.heap.size,2,none⟩ u2).setCell ⟨w.heap.size,3,none⟩ u3).setCell ⟨w.heap.size,4,none⟩ u4).setCell ⟨w.heap.size,5,none⟩ u5).cell? ⟨cb,14,none⟩= some (af ag c.jb)/\((((((W.setCell ⟨w.heap.size,0,none⟩ u0).setCell ⟨w.heap.size,1,none⟩ u1).setCell ⟨w.heap.size,2,none⟩ u2).setCell ⟨w.heap.size,3,none⟩ u3).setCell ⟨w.heap.size,4,none⟩ u4).setCell ⟨w.heap.size,5,none⟩ u5).cell? ⟨cb,18,none⟩= some (af ag c.gM)/\((((((W.setCell ⟨w.heap.size,0,none⟩ u0).setCell ⟨w.heap.size,1,none⟩ u1).setCell ⟨w.heap.size,2,none⟩ u2).setCell ⟨w.heap.size,3,none⟩ u3).setCell ⟨w.heap.size,4,none⟩ u4).setCell ⟨w.heap.size,5,none⟩ u5).cell? ⟨cb,19,none⟩= some (af ag g.c1)/\((((((W.setCell ⟨w.heap.size,0,none⟩ u0).setCell ⟨w.heap.size,1,none⟩ u1).setCell ⟨w.heap.size,2,none⟩ u2).setCell ⟨w.heap.size,3,none⟩ u3).setCell ⟨w.heap.size,4,none⟩ u4).setCell ⟨w.heap.size,5,none⟩ u5).cell? ⟨cb,20,none⟩= some (af ag (c.gJ.length:Int)))):=by
  intro W u0 u1 u2 u3 u4 u5 h;simp only[Eb];exact h
 clear Eb;have HK1:Hid (∀W W':World,Below W.heap.size W W'->(W.cell? ⟨cb,12,none⟩= some (.bool c.gT)/\W.cell? ⟨cb,13,none⟩= some (af ag c.jc)/\W.cell? ⟨cb,14,none⟩= some (af ag c.jb)/\W.cell? ⟨cb,18,none⟩= some (af ag c.gM)/\W.cell? ⟨cb,19,none⟩= some (af ag g.c1)/\W.cell? ⟨cb,20,none⟩= some (af ag (c.gJ.length:Int)))->(W'.cell? ⟨cb,12,none⟩= some (.bool c.gT)/\W'.cell? ⟨cb,13,none⟩= some (af ag c.jc)/\W'.cell? ⟨cb,14,none⟩= some (af ag c.jb)/\W'.cell? ⟨cb,18,none⟩= some (af ag c.gM)/\W'.cell? ⟨cb,19,none⟩= some (af ag g.c1)/\W'.cell? ⟨cb,20,none⟩= some (af ag (c.gJ.length:Int)))):=fun W W' hb h=>⟨gF h.1 hb,gF h.2.1 hb,gF h.2.2.1 hb,gF h.2.2.2.1 hb,gF h.2.2.2.2.1 hb,gF h.2.2.2.2.2 hb⟩
 have hSd:w0.drew.cell? ⟨cb,12,none⟩= some (.bool c.gT)/\w0.drew.cell? ⟨cb,13,none⟩= some (af ag c.jc)/\w0.drew.cell? ⟨cb,14,none⟩= some (af ag c.jb)/\w0.drew.cell? ⟨cb,18,none⟩= some (af ag c.gM)/\w0.drew.cell? ⟨cb,19,none⟩= some (af ag g.c1)/\w0.drew.cell? ⟨cb,20,none⟩= some (af ag (c.gJ.length:Int)):=⟨i12,i13,i14,i18,i19,i20⟩
 go_region_held3 (fun w'=>w'.cell? ⟨cb,12,none⟩= some (.bool c.gT)/\w'.cell? ⟨cb,13,none⟩= some (af ag c.jc)/\w'.cell? ⟨cb,14,none⟩= some (af ag c.jb)/\w'.cell? ⟨cb,18,none⟩= some (af ag c.gM)/\w'.cell? ⟨cb,19,none⟩= some (af ag g.c1)/\w'.cell? ⟨cb,20,none⟩= some (af ag (c.gJ.length:Int))) (first|with_reducible assumption|with_reducible exact VY.out _ _ _ _ _ _ _ (by with_reducible assumption)) (first
  |(go_at_call 69;refine(HK.out _).mono ?_;rintro e w1 ⟨rfl,im⟩;have yT:=HK1.out _ _ im (by first|assumption|exact⟨i12,i13,i14,i18,i19,i20⟩))
  |(go_at_call 70;refine(HBu.out w1 (gI (gK pQ.out 1) im)).mono ?_;rintro e w2 ⟨rfl,iT⟩;have sI:=HK1.out _ _ iT (by first|assumption|exact⟨i12,i13,i14,i18,i19,i20⟩))
  |(refine Oa ?_;obtain⟨e0,f0,e1,f1,e2,f2,e3,f3,e4,f4,e5,f5,lI⟩:=B4.out w2 (gI (ib im) iT);simp only[e0,f0,e1,f1,e2,f2,e3,f3,e4,f4,e5,f5,Result.andThen_ok,de,if_false];refine FU ?_))
 have mc:=gE (gI (gI pQ.out (ib im)) iT);have HFn:=gE lI;clear lI e0 f0 e1 f1 e2 f2 e3 f3 e4 f4 e5 f5 yT sI im iT VY B4 HK1 HBu HK hSd rW i12 i13 i14 i18 i19 i20;go_wp2_with fail;refine bodyPost_ret (results_cell_row (P:=ae) Tryz.results41 _ _ w.heap.size 34 #[.bool c.gT,af ag c.jc,af ag c.jb,af ag c.gM,af ag (c.gJ.length:Int),af ag B] (0,0) _ rfl HFn.out underlying34 rfl (by kernel_rfl)) rfl ?_;exact⟨rfl,((((((mc.out.setCell (ay _) _).setCell (ay _) _).setCell (ay _) _).setCell (ay _) _).setCell (ay _) _).setCell (ay _) _)⟩
theorem jt.abM(h:jt N w sb s cm wv gP xs ws)(hc:-9223372036854775808<=gL/\gL<=9223372036854775807)(ka:gL∉s.gG.map (·.gL)):(dM 98 (.map (some cm)) (af ag gL) false).run ae w=.ok (ai none) w:=by
 obtain⟨n,_,hm⟩:=h.map;have h1:=zT (C:=nv) (e:=97) underlying3 underlying98 (fun W=>by kernel_rfl) hm (xi (k:=gL) hc)
 have h2:rV ((s.gG.map (·.gL)).zip gP) gL=none:=by
  refine un.2 ?_;rw[d' (by simp[h.j7])];exact ka
 unfold qv at h1;rw[h2]at h1;exact h1
theorem Qi(N:Nat)(sb:Nat)(s:ik)(cm:Nat)(wv:Value)(gP:List Nat)(xs:List iP)(ws:List Nat)(gL:Int)(w:World)(h:jt N w sb s cm wv gP xs ws)(hI:iQ M L s)(hc:-9223372036854775808<=gL/\gL<=9223372036854775807):
  Calls ae 16 #[ai (some ⟨sb,0,none⟩),af ag gL] w fun e w'=>e=.returned (.tuple #[.agg (oO s gL).1,af ag (oO s gL).2])/\Below w.heap.size w w':=by
 have kf:Below w.heap.size w (w.alloc (.cells #[.bool false,af ag 0,af ag 0,af ag 0,af ag 0,af ag 0] 34)):=gH w _;have tS:(w.alloc (.cells #[.bool false,af ag 0,af ag 0,af ag 0,af ag 0,af ag 0] 34)).cell? ⟨sb,11,none⟩= some (.map (some cm)):=(h.i_.below kf).cell 11;rcases sG (l:=s.gG) (gL:=gL) with⟨hf,ka⟩|⟨k,c,hf,hk,Ad⟩
 ·have LV:=(h.below kf).abM hc ka;have Sn:oO s gL=(uT,3):=by unfold oO;rw[hf]
  rw[Sn];unfold uT;clear h hI hf ka Sn;go_enter func16,ntmps16;go_wp2_with fail;refine bodyPost_ret (kM (P:=ae) Tryz.results16 _ _ w.heap.size 34 #[.bool false,af ag 0,af ag 0,af ag 0,af ag 0,af ag 0] (0,0) _ (af ag 3) (by kernel_rfl) (by kernel_rfl) (heap_alloc_new w _) underlying34 rfl (by kernel_rfl)) rfl ?_;exact⟨rfl,kf⟩
 ·obtain⟨cb,a,jJ,ha,kP⟩:=h.found hI.nd hk;have kx:=bT hk;have mH:=(hI.ok c kx).gL;have LV:=(h.below kf).oO (gL:=c.gL) (by omega) kP;rw[Ad]at LV;have Sn:oO s gL=(Dc c,0):=by unfold oO;rw[hf];simp only;rw[hk]
  rw[Sn];have HC:=gE (OC N cb s.c c a (w.alloc (.cells #[.bool false,af ag 0,af ag 0,af ag 0,af ag 0,af ag 0] 34)) ((h.kH k c cb a hk jJ ha).below kf) (hI.inv c kx) (hI.ok c kx) hI.cfg);have pQ:=gE kf;have HX:Hid ((w.alloc (.cells #[.bool false,af ag 0,af ag 0,af ag 0,af ag 0,af ag 0] 34)).heap[w.heap.size]? =some (.cells #[.bool false,af ag 0,af ag 0,af ag 0,af ag 0,af ag 0] 34 (0,0))):=heap_alloc_new w _;have HZ:Hid (w.heap.size<(w.alloc (.cells #[.bool false,af ag 0,af ag 0,af ag 0,af ag 0,af ag 0] 34)).heap.size):=by show _<_;simp
  unfold Dc at HC⊢;generalize uo c.gJ=B at HC⊢;clear h hI hf hk jJ ha kP kx mH Sn kf;go_enter func16,ntmps16;go_wp2_with fail;refine HC.out.mono ?_;rintro e w1 ⟨rfl,im⟩;have x0:=(im.block w.heap.size HZ.out).trans HX.out;have q0:w1.cell? ⟨w.heap.size,0,none⟩= some (.bool false):=by simp only[aX,x0];rfl
  have z0:w1.frozen? ⟨w.heap.size,0,none⟩= false:=frozen_of_row _ _ _ _ _ x0;have q1:w1.cell? ⟨w.heap.size,1,none⟩= some (af ag 0):=by simp only[aX,x0];rfl
  have z1:w1.frozen? ⟨w.heap.size,1,none⟩= false:=frozen_of_row _ _ _ _ _ x0;have q2:w1.cell? ⟨w.heap.size,2,none⟩= some (af ag 0):=by simp only[aX,x0];rfl
  have z2:w1.frozen? ⟨w.heap.size,2,none⟩= false:=frozen_of_row _ _ _ _ _ x0;have q3:w1.cell? ⟨w.heap.size,3,none⟩= some (af ag 0):=by simp only[aX,x0];rfl
  have z3:w1.frozen? ⟨w.heap.size,3,none⟩= false:=frozen_of_row _ _ _ _ _ x0;have q4:w1.cell? ⟨w.heap.size,4,none⟩= some (af ag 0):=by simp only[aX,x0];rfl
  have z4:w1.frozen? ⟨w.heap.size,4,none⟩= false:=frozen_of_row _ _ _ _ _ x0;have q5:w1.cell? ⟨w.heap.size,5,none⟩= some (af ag 0):=by simp only[aX,x0];rfl
  have z5:w1.frozen? ⟨w.heap.size,5,none⟩= false:=frozen_of_row _ _ _ _ _ x0;have x1:=gQ x0 0 (.bool c.gT);have x2:=gQ x1 1 (af ag c.jc);have x3:=gQ x2 2 (af ag c.jb);have x4:=gQ x3 3 (af ag c.gM);have x5:=gQ x4 4 (af ag (c.gJ.length:Int));have x6:=gQ x5 5 (af ag B);have jp:w.heap.size<w1.heap.size:=cq HZ.out im.size;have nB:=gE (gI pQ.out im);have HX6:=gE x6;clear im x0 x1 x2 x3 x4 x5 x6 HC HX HZ LV tS;go_wp2_with fail;refine bodyPost_ret (kM (P:=ae) Tryz.results16 _ _ w.heap.size 34 #[.bool c.gT,af ag c.jc,af ag c.jb,af ag c.gM,af ag (c.gJ.length:Int),af ag B] (0,0) _ (af ag 0) (by kernel_rfl) (by kernel_rfl) HX6.out underlying34 rfl (by kernel_rfl)) rfl ?_;exact⟨rfl,((((((nB.out.setCell (ay _) _).setCell (ay _) _).setCell (ay _) _).setCell (ay _) _).setCell (ay _) _).setCell (ay _) _)⟩
end Go.Proofs.YthmdjhlhodpbhaaGreatDoor
