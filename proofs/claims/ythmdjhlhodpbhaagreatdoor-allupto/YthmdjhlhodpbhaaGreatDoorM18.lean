/- All: for every script whose reading is of a bulk of at most 1048576 the law All answers true, and the script reads as it did; on condition that the listed package variables hold what the program lays in them: the row, and the card that ties these to the text. The texts are packed by a program: names, blanks and remarks are shortened, since the plain ones are more than a claim may hold. -/
import Derived.Deep.LoopGhost
import Derived.StillTailTactics
import Derived.Deep.DeepHandedRow
import Derived.Lib.LaidTab
import Derived.LaidHandle
import Derived.LaidLaws
import Derived.Stop.LaidErr
import Derived.Test.YthmdjhlhodpbhaaGreatDoorCards
import Derived.Test.YthmdjhlhodpbhaaGreatDoorM16
import Derived.Test.YthmdjhlhodpbhaaGreatDoorM17
import Derived.Test.YthmdjhlhodpbhaaGreatDoorTie
set_option maxHeartbeats 16000000
set_option maxRecDepth 8000
set_option linter.all false
namespace Go.Proofs.YthmdjhlhodpbhaaGreatDoor
open Go.RowKit Go.ChangeAt Go.ChangeShapes Go.Deep Go.WideShapes
open _root_.Array renaming getElem?_eq_some_iff → bn
open _root_.Or renaming inr → bf, inl → bg
open _root_.List renaming getElem?_eq_some_iff → bo, getElem?_eq_getElem → ap, mem_of_getElem? → bS, length_append → bL, getElem?_cons_zero → ce, length_cons → eI, getElem?_append_right → bN, length_nil → eJ, getElem?_append_left → aZ, mem_singleton → bV, getElem?_set_self → eC, length_singleton → eL, mem_or_eq_of_mem_set → dh, getElem?_cons_succ → cf, length_take → dB, mem_append → bX, set_set → cS
open Go.World renaming cell? → aD, ownsRow_nil → ak, holding → eN
open _root_.Nat renaming le_refl → ar, le_trans → bZ, zero_le → be, add_zero → aF, le_of_lt → ej
open Go.Value renaming ownBlock → aq, slice → aJ
open Go.Code renaming seq → eK, wp → eO
open _root_.Int renaming tdiv_eq_ediv_of_nonneg → eM
open Go.IntKind renaming wrap_i64 → dq
open _root_.Bool renaming and_false → eP
open _root_.Go renaming World → aK, Value → aM, Calls → aL, heap_alloc_new → cA, frozen_of_row → cx, TypeId → bG, bodyPost_ret → cz, run_eql_pointer_nil → eQ
open _root_.Go.Proofs.Tryz
open _root_.Go.Proofs.Tryz renaming prog → ab
open Go.Value renaming slice → ai, pointer → ag
attribute [local simp] CV CI Bw mc lq io
variable {b w z5:World}{a d f id n A cb sr z7 i:Nat}{e h q M w9 c1 v6:Value}{t:List (Int×List Int)}{k z2:List Int}{fin z0 O s4:Bool}{j:fV}{c g l u c0 H I J z9 z8 y7 y6 x5 x4 v1:Int}{o y:List Value}{out:List (Int×Value)}{N x:gs}{m v:List Nat}{p:gg}{z3:gU}{F:Nat->Prop}{z4:List gU}{r:fV×List (Int×List Int)}{v7:List zk}
theorem gF.Ms{s:gg}{p:aM}(h:gF w s a m v e p d out t)(f:gm F w b)
  (c:∀{k:bG},k≠46->k≠5->∀g j l,w.heap[g]? =some (.cells j k l)->¬F g) (o:out=[]\/∀g j l,w.heap[g]? =some (.cells j 5 l)->¬F g):gF b s a m v e p d out t:=by
 refine⟨?_,gI h.row f (c (by decide) (by decide)),gI h.jN f (c (by decide) (by decide)),?_,h.iD,h.jv,h.Ga,h.Gb,fun i q cb sr y z A=>?_⟩
 ·rw[f.block a (bn.1 h.iN).1 (c (by decide) (by decide) _ _ _ h.iN)];exact h.iN
 ·rcases o with rfl|o
  ·exact⟨h.mM.1,fun i C D B=>by simp at B⟩
  ·exact h.mM.gx f o
 ·have n:=h.iq i q cb sr y z A;obtain⟨_,_,u⟩:=n.cb;obtain⟨_,x⟩:=n.sr;exact n.gx f (c (by decide) (by decide) _ _ _ u) (c (by decide) (by decide) _ _ _ x) (c (by decide) (by decide)) (c (by decide) (by decide))
structure pF where
 w:aK
 s:gg
 i:Nat
 sb:Nat
 cb:Nat
 sr:Nat
 jf:List Nat
 ke:List Nat
 cv:aM
 tb:Nat
 Qa:Nat
structure Kh(p:pF):Prop where
 cb:p.jf[p.i]? =some p.cb
 sr:p.ke[p.i]? =some p.sr
 iq:p.i<p.s.fN.length
 tb:p.w.heap.size<p.tb
 pT:p.sr=p.Qa\/p.w.heap.size<=p.sr
abbrev pF.at(p:pF)(c:fV):gg:={p.s with fN:=p.s.fN.set p.i c}
theorem pF.get{p:pF}(h:Kh p)(a:fV):(p.at a).fN[p.i]? =some a:=by show(p.s.fN.set p.i a)[p.i]? =some a;rw[eC h.iq]
theorem pF.set(p:pF)(a c':fV):({p.at a with fN:=(p.at a).fN.set p.i c'}:gg)=p.at c':=by simp_all
def iW(tb:Nat)(gv:aM)(fin oC:Bool)(W:aK):Prop:=W.heap[tb]? =some (.cells #[gv,.bool fin,.bool oC] 46 (0,0))
structure oM(p:pF)(ob:Nat)(c:fV)(ii:List (Int×List Int))(gv:aM)(gl:List Int)(fin oC:Bool)(W:aK):Prop where
 ok:Kh p
 iN:∃zu ov out,gF W (p.at c) p.sb p.jf p.ke zu ov ob out ii/\lU p.w.heap.size p.cv zu
 gx:gm (nM p.sb p.cb p.Qa p.w.heap.size) p.w W
 res:iW p.w.heap.size (ai none 0 0) false false W
 gR:iW p.tb gv fin oC W
 mM:W.ownsRow p.w.heap.size 5 1 gv gl.length (U8 gl)
 lay:p.tb<ob/\ob<=W.heap.size/\∀g,gv.ownBlock=some g->g<ob
theorem iW.below(h:iW a e fin z0 w)(c:Bw w b):iW a e fin z0 b:=by unfold iW at h⊢;rw[c.block a (bn.1 h).1];exact h
theorem iW.cell(h:iW a e fin z0 b):b.cell? (Ad a 0)=some e/\b.cell? (Ad a 1)=some (.bool fin)/\b.cell? (Ad a 2)=some (.bool z0)/\∀c,b.frozen? (Ad a c)=false:=by unfold iW at h;exact⟨by simp[aD,h],by simp[aD,h],by simp[aD,h],fun c=>cx b a c _ _ h⟩
theorem oM.below{p:pF}(h:oM p a j t e k fin z0 b)(c:Bw b w):oM p a j t e k fin z0 w:=by obtain⟨f,m,out,g,l⟩:=h.iN;have d:=h.lay;exact⟨h.ok,⟨f,m,out,g.below c,l⟩,h.gx.trans (gm.fU c),h.res.below c,h.gR.below c,gp h.mM c,d.1,bZ d.2.1 c.size,d.2.2⟩
theorem oM.leaves{p:pF}{c':fV}{pU:List (Int×List Int)}{m:aK}(h:oM p a j t e k fin z0 b){n uV:aM}{nX:List (Int×aM)}(A:gF m (p.at c') p.sb p.jf p.ke n uV a nX pU)(B:lU p.w.heap.size p.cv n)(d:gm (nM p.sb p.cb p.sr a) b m):oM p a c' pU e k fin z0 m:=by
 obtain⟨E,Q,P,x,_⟩:=h.iN;have y:=x.iq p.i j p.cb p.sr (pF.get h.ok _) h.ok.cb h.ok.sr;obtain⟨_,_,G⟩:=y.cb;obtain⟨_,o⟩:=y.sr;have s:=h.lay;have L:=h.ok.tb;have z:∀{c:bG},c≠242->c≠249->c≠252->∀f u v,b.heap[f]? =some (.cells u c v)->f<a->¬nM p.sb p.cb p.sr a f:=by
  rintro c M N O f u v q K (rfl|rfl|rfl|J)
  ·rw[x.iN]at q;grind
  ·grind
  ·grind
  ·omega
 have l:=h.res;have g:=h.gR;unfold iW at l g;refine⟨h.ok,⟨n,uV,nX,A,B⟩,h.gx.trans (d.mono fun f _ q=>?_),?_,?_,gM h.mM d (fun I C=>?_),s.1,bZ s.2.1 d.size,s.2.2⟩
 ·rcases q with c|c|c|c
  ·exact bg c
  ·exact bf (bg c)
  ·exact h.ok.pT.elim (fun o=>bf (bf (bg (c.trans o)))) (fun o=>bf (bf (bf (by omega))))
  ·exact bf (bf (bf (by omega)))
 ·unfold iW;rw[d.block _ (bn.1 l).1 (z (by decide) (by decide) (by decide) _ _ _ l (by omega))];exact l
 ·unfold iW;rw[d.block _ (bn.1 g).1 (z (by decide) (by decide) (by decide) _ _ _ g (by omega))];exact g
 ·obtain⟨D,H⟩:=fX h.mM C;grind
theorem oM.news{p:pF}(h:oM p a j t e k fin z0 b)(u:Bw b w){M:Int}(B:hS M j)(s:M<=1125899906842624)(C:t.length<=1000000){g:aM}(y:w.ownsRow d 5 1 g z2.length (U8 z2))(z:0<z2.length/\z2.length<=900):
  aL ab 192 #[Pt p.sb,Pt p.cb,g] w fun c n=>c=.returned (.tuple #[])/\oM p a (hE j z2) (ig j z2 t) e k fin z0 n:=by
 have f:=h.below u;obtain⟨D,H,out,o,q⟩:=f.iN;refine(yG o (pF.get h.ok _) h.ok.cb h.ok.sr y z f.lay.2.1 B s C).mono ?_;rintro c n ⟨rfl,E,I,G,l,v,_,x⟩;rw[pF.set]at l;refine⟨rfl,f.leaves l (fun m A=>?_) v⟩;rcases x m A with c|c
 ·exact q m c
 ·have:=f.gx.size;omega
theorem oM.box{p:pF}{n:fV}{Mw MW:Bool}(h:oM p a n t e k fin z0 b)(j:Nat)(v:aM)(z:(#[e,.bool fin,.bool z0]:Array aM).setIfInBounds j v=#[e,.bool Mw,.bool MW]):oM p a n t e k Mw MW (b.setCell (Ad p.tb j) v):=by
 obtain⟨w,B,out,x,y⟩:=h.iN;have g:=h.lay;have C:=h.ok.tb;have s:=h.gR;have m:=h.res;unfold iW at s m;have c:gm (· = p.tb) b (b.setCell (Ad p.tb j) v):=go (Below.refl _ _) _ _;have l:∀{f:bG},f≠46->∀d o q,b.heap[d]? =some (.cells o f q)->¬d=p.tb:=fun u d o q A f=>by grind
 refine⟨h.ok,⟨w,B,out,x.Ms c (fun u _=>l u) (bf (l (by decide))),y⟩,h.gx.trans (c.mono fun d _ A=>bf (bf (bf (by omega)))),?_,?_,gI h.mM c (l (by decide)),g.1,bZ g.2.1 c.size,g.2.2⟩
 ·unfold iW;rw[c.block _ (bn.1 m).1 (by omega)];exact m
 ·unfold iW;rw[fT s _ _,z]
theorem oM.str{p:pF}(h:oM p a j t e k fin z0 b)(m:j.fM[id]? =some x):(b.cell? (Ad p.sr (id*7+1))=some (II x.read)/\b.cell? (Ad p.sr (id*7+3))=some (II x.fS)/\b.cell? (Ad p.sr (id*7+4))=some (II x.final)/\b.cell? (Ad p.sr (id*7+5))=some (.bool x.reset)/\b.cell? (Ad p.sr (id*7+6))=some (.bool x.done))/\∀f,b.frozen? (Ad p.sr f)=false:=by obtain⟨w,y,out,o,_⟩:=h.iN;have g:=o.iq p.i j p.cb p.sr (pF.get h.ok _) h.ok.cb h.ok.sr;obtain⟨A,z,n,l⟩:=g.view;have s:id<j.fM.length:=(bo.1 m).1;obtain⟨d,q⟩:∃d,n[id]? =some d:=⟨_,ap (by rw[l.len];exact s)⟩;obtain⟨v,u⟩:=g.sr;have c:=l.str id x d m q;exact⟨⟨c 1 (by decide),c 3 (by decide),c 4 (by decide),c 5 (by decide),c 6 (by decide)⟩,fun f=>cx b p.sr f _ _ u⟩
theorem oM.cfg{p:pF}(h:oM p a j t e k fin z0 b):(b.cell? (Ad p.sb 1)=some (II p.s.c.c1)/\b.cell? (Ad p.sb 2)=some (II p.s.c.c2))/\(b.cell? (Ad p.cb 8)=some (II j.fS)/\∃f,b.cell? (Ad p.cb 9)=some (ai (some (Ad p.sr 0)) j.fM.length f))/\∀d,b.frozen? (Ad p.cb d)=false:=by obtain⟨o,q,out,g,_⟩:=h.iN;have m:=g.iq p.i j p.cb p.sr (pF.get h.ok _) h.ok.cb h.ok.sr;obtain⟨u,f,n,c⟩:=m.EY;have l:=g.iN;exact⟨⟨by simp[aD,l,gh,g_.cells],by simp[aD,l,gh,g_.cells]⟩,⟨by simp[aD,c.cell,gn],f,by simp[aD,c.cell,gn]⟩,fun d=>cx b p.cb d _ _ c.cell⟩
theorem oM.put{p:pF}{d:fV}(h:oM p a d t e k fin z0 b){j:Nat}{y:gs}{v:aM}(g:d.fM[id]? =some x)(z:j<7)(B:∀c,y.cells c=(x.cells c).set j v)(u:y.bytes=x.bytes):oM p a {d with fM:=d.fM.set id y} t e k fin z0 (b.setCell (Ad p.sr (id*7+j)) v):=by obtain⟨D,E,out,l,q⟩:=h.iN;obtain⟨G,H,o,f⟩:=(l.iq p.i d p.cb p.sr (pF.get h.ok _) h.ok.cb h.ok.sr).EY;have A:id<d.fM.length:=(bo.1 g).1;obtain⟨c,n⟩:∃c,o[id]? =some c:=⟨_,ap (by rw[f.len];exact A)⟩;obtain⟨C,w⟩:=f.put g n z (B c) (by rw[u];exact f.bytes id x c g n);obtain⟨m,s⟩:=l.put (pF.get h.ok _) h.ok.cb h.ok.sr (Below.refl _ _) w C.Nj;rw[pF.set]at m;exact h.leaves m q s
theorem oM.Fw{p:pF}(h:oM p a j t e k fin z0 b)(v:Int):oM p a {j with fS:=v} t e k fin z0 (b.setCell (Ad p.cb 8) (II v)):=by obtain⟨n,q,out,g,l⟩:=h.iN;have d:gm (· = p.cb) b (b.setCell (Ad p.cb 8) (II v)):=go (Below.refl _ _) _ _;have c:=g.Fw (c':={j with fS:=v}) (pF.get h.ok _) h.ok.cb h.ok.sr rfl rfl d (fun s u m=>(fT m _ _).trans (by simp[gn]));rw[pF.set]at c;exact h.leaves c l (d.mono fun o _ f=>bf (bg f))
theorem oM.view{p:pF}(h:oM p a j t e k fin z0 b):∃g f c,xo b j p.cb p.sr g f c:=by obtain⟨l,m,out,d,_⟩:=h.iN;exact(d.iq p.i j p.cb p.sr (pF.get h.ok _) h.ok.cb h.ok.sr).view
def spine:Nat->Code->Code
 |0,c=>c
 |n+1,.seq _ b=>spine n b
 |_,c=>c
def qB:Nat->Code->Code->Code
 |0,_,t=>t
 |n+1,.seq a b,t=>.seq a (qB n b t)
 |_,c,_=>c
def lK(f:Func):Code:=f.body.getD .skip
def OM:Nat->(List aM->Prop)->Prop
 |0,P=>P []
 |n+1,P=>∀a,OM n fun U=>P (a::U)
theorem Ff{a:Nat}{b:List aM->Prop}(e:OM a b){o:List aM}(c:o.length=a):b o:=by
 induction a generalizing b o with
 |zero=>cases o with
  |nil=>exact e
  |cons d g=>simp at c
 |succ a f=>cases o with
  |nil=>simp at c
  |cons d g=>exact f (e d) (by simpa using c)
theorem GN:(Go.sizeOf 3).run ab b=.ok 1 b:=by kernel_rfl
structure CT(p:pF)(c:fV)(gv:aM)(gl:List Int)(W:aK):Prop where
 ok:Kh p
 iN:gF W (p.at c) p.sb p.jf p.ke p.cv (ai none 0 0) 0 [] []
 gx:gm (nM p.sb p.cb p.Qa p.w.heap.size) p.w W
 res:iW p.w.heap.size (ai none 0 0) false false W
 gR:iW p.tb gv false false W
 mM:W.ownsRow p.w.heap.size 5 1 gv gl.length (U8 gl)
theorem CT.Tj{p:pF}(h:CT p j e k b):oM p b.heap.size j [] e k false false b:=by have a:=h.iN;have c:=h.gR;unfold iW at c;exact⟨h.ok,⟨p.cv,ai none 0 0,[],⟨a.iN,a.row,ak _ _ _ _,⟨rfl,fun i l m g=>by simp at g⟩,a.iD,a.jv,a.Ga,a.Gb,a.iq⟩,lU.refl _ _⟩,h.gx,h.res,h.gR,h.mM,(bn.1 c).1,ar _,fun d f=>(h.mM.lt d f).2⟩
theorem CT.QB{p:pF}{f:aM}{d:aK}(h:CT p j e k b)(l:gm F b d)(g:∀c,F c->c=p.tb\/e.ownBlock=some c)(x:iW p.tb f false false d)(v:d.ownsRow p.w.heap.size 5 1 f z2.length (U8 z2)):CT p j f z2 d:=by
 have y:=h.gR;have n:=h.res;have A:=h.ok.tb;unfold iW at y n;have z:∀{a:bG},a≠46->a≠5->∀c o q,b.heap[c]? =some (.cells o a q)->¬F c:=fun B C c o q s m=>by
  rcases g c m with a|a
  ·grind
  ·obtain⟨t,u⟩:=fX h.mM a;grind
 refine⟨h.ok,h.iN.Ms l z (bg rfl),h.gx.trans (l.mono fun c _ s=>?_),?_,x,v⟩
 ·rcases g c s with a|a
  ·exact bf (bf (bf (by omega)))
  ·exact bf (bf (bf (h.mM.lt c a).1))
 ·unfold iW;rw[l.block _ (bn.1 n).1 (fun m=>?_)]
  ·exact n
  ·rcases g _ m with a|a
   ·omega
   ·obtain⟨t,u⟩:=fX h.mM a;grind
theorem CT.EY{p:pF}(h:CT p j e k b)(l:j.fM[id]? =some x):∃c,(∀a,a<7->b.cell? (Ad p.sr (id*7+a))=(x.cells c)[a]?)/\(∀t,b.frozen? (Ad p.sr t)=false)/\Ro b 3 c x.bytes.length (hP x.bytes)/\
  ∀(a:Nat) (f:gs) (m u:aM),a<7->f.cells m=(x.cells c).set a u->Ro b 3 m f.bytes.length (hP f.bytes)->CT p {j with fM:=j.fM.set id f} e k (b.setCell (Ad p.sr (id*7+a)) u):=by
 have y:=h.iN.iq p.i j p.cb p.sr (pF.get h.ok _) h.ok.cb h.ok.sr;obtain⟨P,Q,A,g⟩:=y.EY;have D:id<j.fM.length:=(bo.1 l).1;obtain⟨c,n⟩:∃c,A[id]? =some c:=⟨_,ap (by rw[g.len];exact D)⟩;obtain⟨J,G⟩:=y.sr;refine⟨c,fun a q=>?_,fun t=>cx b p.sr t _ _ G,g.bytes id x c l n,fun a f m u q H E=>?_⟩
 ·rw[g.row.cellAt (id*7+a) (by omega)];exact iQ _ _ id x _ l n a q
 ·obtain⟨I,d⟩:=g.put l n q H E;obtain⟨z,N⟩:=h.iN.put (pF.get h.ok _) h.ok.cb h.ok.sr (Below.refl _ _) d I.Nj;rw[pF.set]at z;have o:=h.gR;have s:=h.res;unfold iW at o s;refine⟨h.ok,z,h.gx.trans (d.mono fun O _ C=>h.ok.pT.elim (fun w=>bf (bf (bg (C.trans w)))) (fun w=>bf (bf (bf (by omega))))),?_,?_,gM h.mM d (fun M B v=>?_)⟩
  ·unfold iW;rw[d.block _ (bn.1 s).1 (fun v=>by grind)];exact s
  ·unfold iW;rw[d.block _ (bn.1 o).1 (fun v=>by grind)];exact o
  ·obtain⟨K,L⟩:=fX h.mM B;grind
def jq(x:gs)(q:Nat):gs:={x with bytes:=x.bytes.drop q,read:=x.read+q}
theorem JQ(e:a<jo N c):∃b r,N.bytes.drop a=b::r/\0<=b/\(a:Int)<c:=by
 have h:a<iX N.bytes:=by unfold jo at e;omega
 have d:=tY N.bytes a (by omega);cases f:N.bytes.drop a with
 |nil=>rw[f]at d;have j:iX ([]:List Int)=0:=rfl;omega
 |cons b r=>
  rw[f,na]at d;split at d
  ·next g=>exact⟨b,r,rfl,g,by unfold jo at e;omega⟩
  ·omega
theorem LO(h:a<=jo N c)(d:¬a<jo N c):c<=(a:Int)\/N.bytes.drop a=[]\/∃b r,N.bytes.drop a=b::r/\b<0:=by
 by_cases e:c<=(a:Int)
 ·exact bg e
 ·have j:iX N.bytes=a:=by unfold jo at d h;omega
  have f:=tY N.bytes a (by omega);cases g:N.bytes.drop a with
  |nil=>grind
  |cons b r=>rw[g,na]at f;grind
theorem PM{o:List aM}{u3:pF}{z1:Exit->Act->aK->Prop}{v0:Code}
  (c5:∀{o:List aM} {e1:aK},o.length=265->Hid (∃s,CT u3 {j with fM:=j.fM.set a (jq N (jo N c))} s (N.bytes.take (jo N c)) e1)->eO ab v0 z1 ⟨(Pt u3.sb::c1::II (a:Int)::II c::h::q::M::w9::Pt u3.w.heap.size::ai none 0 0::II 0::Pt u3.cb::ag (some (Ad u3.sr (a*7)))::.bool O::Pt u3.tb::o).toArray,[]⟩ e1) (c6:o.length=265)
  {wr:aK} (d6:j.fM[a]? =some N) (c7:∀l∈N.bytes,-1<=l/\l<256) (i5:0<=N.read/\N.read+N.bytes.length<=1073741823) (i2:N.bytes.length<=1073741823) (i3:0<=c/\c<=9223372036854775807) (H:Hid (∃s,CT u3 {j with fM:=j.fM.set a (jq N 0)} s (N.bytes.take 0) wr)):
  eO ab (qB 1 (spine 8 (lK f162)) v0) z1 ⟨(Pt u3.sb::c1::II (a:Int)::II c::h::q::M::w9::Pt u3.w.heap.size::ai none 0 0::II 0::Pt u3.cb::ag (some (Ad u3.sr (a*7)))::.bool O::Pt u3.tb::o).toArray,[]⟩ wr:=by
 apply Ff _ c6;clear c6 o;iterate 265 intro _
 show eO ab (eK _ (v0)) z1 _ _;have R:=@fK _ @c5;clear c5;obtain⟨v,a2⟩:∃v,jo N c=v:=⟨_,rfl⟩;rw[a2]at R;have i0:v<=N.bytes.length:=by rw[<-a2];exact vn _ _
 have a4:=fK a2;have c2:=fK d6;have e3:=fK c7;obtain⟨h3,hi,h0,h1,h2⟩:=info_parts lE;clear a2 d6 c7;go_wp2_with fail;go_loopg [58] v (fun gk _ wr=>∃b:Nat,b<=v/\gk=v-b/\Hid (∃s,CT u3 {j with fM:=j.fM.set a (jq N b)} s (N.bytes.take b) wr));case atStart=>exact⟨0,by omega,rfl,H⟩
 case round=>
  obtain⟨b,g3,rfl,e4⟩:=hrel;clear H;obtain⟨g,g8⟩:∃g,g=wr:=⟨_,rfl⟩;subst g8;obtain⟨s,z⟩:=e4.out;have g4:(N.bytes.take b).length=b:=by rw[dB];omega
  have Y:=z.mM;rw[g4]at Y;obtain⟨C,D,rfl⟩:=gB Y;obtain⟨c4,_,_,h8⟩:=z.gR.cell;have T:({j with fM:=j.fM.set a (jq N b)}:fV).fM[a]? =some (jq N b):=getElem?_set_at c2.out;obtain⟨e9,K,_,b0,_⟩:=z.EY T;obtain⟨h6,h5,rfl,B,_,_⟩:=b0;obtain⟨k,x⟩:∃k,(jq N b).bytes.length=k:=⟨_,rfl⟩;rw[x]at B;have e0:g.cell? (Ad u3.sr (a*7))=some (.slice h6 k h5):=by have d:=K 0 (by decide);rw[x]at d;exact d
  have H:=fK z;have b6:=fK x;by_cases d0:b<v
  ·obtain⟨f,r,A,g7,d4⟩:=JQ (N:=N) (c:=c) (a:=b) (by rw[a4.out];exact d0);have i7:f<256:=(e3.out f (List.mem_of_mem_drop (i:=b) (by rw[A];exact List.mem_cons_self))).2;have d2:(0:Int)<(k:Int):=by
    have d:k=r.length+1:=by rw[<-x];show(N.bytes.drop b).length=_;rw[A];rfl
    omega
   obtain⟨l,y,a5,a6,rfl,J,L⟩:=B (by omega);have c3:g.cell? (Ad l y)=some (II f):=by have d:=L 0 (by rw[rM,x];omega);rw[aF]at d;simp only[aD,J,d];show(hP (N.bytes.drop b))[0]? =_;rw[A];rfl
   have i9:IntKind.u8.wrap f=f:=by show f%2 ^ 8=_;omega
   have b4:=fK A;have a1:=fK Y;have i1:u3.w.heap.size<=g.heap.size:=z.gx.size;have i6:u3.tb≠g.heap.size:=fun p=>by have d:=(bn.1 z.gR).1;omega
   have b8:Hid (∀e:aK,g.grownBy e (aJ C b D).ownBlock->e.cell? (Ad u3.tb 0)=some (.slice C b D)/\∀Q,e.frozen? (Ad u3.tb Q)=false):=by
    intro e G;have d:=H.out.gR;have a3:iW u3.tb (.slice C b D) false false e:=by unfold iW at d⊢;rw[G.block u3.tb (bn.1 d).1 (fun p=>fR a1.out d (by decide) p.symm)];exact d
    obtain⟨e7,_,_,e8⟩:=a3.cell;exact⟨e7,e8⟩
   have b7:Hid (∀(e:aK) (Z:Option Addr) (a0:Nat),e.ownsRow u3.w.heap.size 5 1 (.slice Z (b+1) a0) (b+1) (U8 (N.bytes.take b)++[.int .u8 f])->g.grownBy e (aJ C b D).ownBlock->Hid (CT u3 {j with fM:=j.fM.set a (jq N b)} (.slice Z (b+1) a0) (N.bytes.take (b+1)) (e.setCell (Ad u3.tb 0) (.slice Z (b+1) a0)))):=by
    intro e Z a0 d1 G;have d:=H.out.gR;have a3:iW u3.tb (.slice C b D) false false e:=by unfold iW at d⊢;rw[G.block u3.tb (bn.1 d).1 (fun p=>fR a1.out d (by decide) p.symm)];exact d
    have f9:N.bytes[b]? =some f:=by have u:=congrArg (fun h4:List Int=>h4[0]?) b4.out;simpa[List.getElem?_drop] using u
    have g6:N.bytes.take (b+1)=N.bytes.take b++[f]:=by rw[List.take_add_one,f9];rfl
    have f8:gm (fun U=>U=u3.tb\/(aJ C b D).ownBlock=some U) g (e.setCell (Ad u3.tb 0) (.slice Z (b+1) a0)):=
     gm.trans (b:=e) ⟨G.os,G.tape,G.output,G.size,fun U a8 g1=>G.block U a8 (fun p=>g1 (bf p.symm))⟩ ((go (Below.refl _ e) _ _).mono fun U _ p=>bg p)
    refine H.out.QB f8 (fun U a8=>a8) (fT a3 _ _) ?_;rw[g6,bL,eL,dB,Nat.min_eq_left (by omega),U8,List.map_append];refine gM d1 (go (Below.refl _ e) _ _) (fun h9 c9 p=>?_);rw[p]at c9;exact fR d1 a3 (by decide) c9
   have b5:Hid (∀(I:aK) (s:aM),CT u3 {j with fM:=j.fM.set a (jq N b)} s (N.bytes.take (b+1)) I->∃X cap b3 b2 b1,(I.cell? (Ad u3.sr (a*7))=some (.slice X k cap)/\I.cell? (Ad u3.sr (a*7+1))=some (II (N.read+b))/\∀Q,I.frozen? (Ad u3.sr Q)=false)/\(∀W:aK,(Instr.slice 38 (.slice X k cap) (some (II 1)) none none).run ab W=.ok (.slice b3 b2 b1) W)/\Hid (CT u3 {j with fM:=j.fM.set a (jq N (b+1))} s (N.bytes.take (b+1)) ((I.setCell (Ad u3.sr (a*7)) (.slice b3 b2 b1)).setCell (Ad u3.sr (a*7+1)) (II (N.read+b+1))))):=by
    intro I s f5;have T:({j with fM:=j.fM.set a (jq N b)}:fV).fM[a]? =some (jq N b):=getElem?_set_at c2.out;obtain⟨e9,K,e2,b0,d3⟩:=f5.EY T;obtain⟨X,cap,rfl,B,_,f7⟩:=b0;have A:=b4.out;have i4:k=r.length+1:=by rw[<-b6.out];show(N.bytes.drop b).length=_;rw[A];rfl
    have d7:(jq N b).bytes=f::r:=A;rw[b6.out]at K B f7 d3;obtain⟨l,y,a5,a6,rfl,J,L⟩:=B (by omega);have d5:=fun W:aK=>ql (y5:=ab) (b:=W) (z:=38) (R:=some (Ad l y)) (len:=k) (cap:=cap) (i:=1) underlying38 (GN (b:=W)) (by omega);have c8:N.bytes.drop (b+1)=r:=by rw[<-List.drop_drop,A];rfl
    have f2:({jq N b with bytes:=r}:gs).bytes.length=k-1:=by show r.length=_;omega
    have u:=d3 0 {jq N b with bytes:=r} _ (.slice (if cap=1 then some (Ad l y) else(some ((Ad l y):Addr)).map (·.add (1*1))) (k-1) (cap-1)) (by decide) rfl (by
     rw[f2];refine⟨_,_,rfl,fun d2=>?_,fun d=>?_,by omega⟩
     ·refine⟨l,y+1,a5,a6,?_,J,fun Q g0=>?_⟩
      ·rw[if_neg (by omega)];rfl
      ·have E:=L (Q+1) (by rw[d7];simp[hP]at g0⊢;omega);rw[show y+1+Q=y+(Q+1) by omega,E,d7];rfl
     ·split at d<;>simp at d)
    have g9:({j with fM:=(j.fM.set a (jq N b)).set a {jq N b with bytes:=r}}:fV).fM[a]? =some {jq N b with bytes:=r}:=getElem?_set_at T;obtain⟨f0,_,_,g5,g2⟩:=u.EY g9;have E:=g2 1 (jq N (b+1)) f0 (II (N.read+b+1)) (by decide) (by
     simp only[gs.cells,jq,c8];simp;omega) (by
     have f3:(jq N (b+1)).bytes=r:=c8;rw[f3];exact g5)
    refine⟨_,_,_,_,_,⟨K 0 (by decide),K 1 (by decide),e2⟩,d5,?_⟩;simp only[cS]at E;exact E
   have f4:CV (g.alloc (.cells #[.int .u8 f] 5)) u3.tb 0 (.slice C b D):=fL c4 (fO _ _);clear z Y A B x J L K T;go_upto_region 11 with fail;refine wp_region_noPanic ?_;go_region_law (refine mW rfl (.tmp 81) (.tmp 89) (z:=44) rfl (a:=u3.w.heap.size) (y8:=5) h3 (d:=1) (f:=1) underlying44 hi h0 h1 h2 rfl (by decide) (h:=.slice C b D) (n:=b) (o:=U8 (N.bytes.take b)) (by kernel_rfl) (a1.out.alloc _) (y3:=gf g 0) (A:=1) (z7:=1) (news:=[.int .u8 f]) (by kernel_rfl) rfl (gY (b:=g) (z:=5) (o:=[.int .u8 f]) (by simp[maxLen])) (by simp[Value.oneCell']) (by unfold maxLen;omega) (by omega) (by simp[World.drew];omega) ?_;intro j1 e a9 S f6;obtain⟨d8,d9,rfl⟩:=gB a9;have a7:=ga (b:=g) (World.grownBy.mk S.os S.tape S.output S.size S.block);have b9:=b7.out e d8 d9 a9 a7;obtain⟨f1,h7⟩:=b8.out e a7;clear a9 S f6 a7);all_goals
    refine NoPanic.normal ?_;clear b7 b8 a1 H c3 c4 f4 e0 h8 f1 h7;generalize e.setCell (Ad u3.tb 0) (.slice d8 (b+1) d9)=e6 at *
    obtain⟨X,cap,b3,b2,b1,⟨e0,j0,e2⟩,d5,e5⟩:=b5.out e6 _ b9.out;clear b5 b9;have i8:IntKind.i64.wrap (N.read+(b:Int)+1)=N.read+b+1:=by rw[dq];omega
    go_wp2_with fail;go_roundg (v-(b+1));case measure=>omega
    case rel=>exact⟨b+1,by omega,rfl,⟨_,e5.out⟩⟩
  ·have V:Hid (∃s,CT u3 {j with fM:=j.fM.set a (jq N v)} s (N.bytes.take v) g):=by rw[show v=b by omega];exact⟨_,z⟩
   clear z Y K T;rcases LO (N:=N) (c:=c) (a:=b) (by rw[a4.out];exact g3) (by rw[a4.out];exact d0) with u|u|⟨f,r,u,g7⟩
   ·have E:¬(b:Int)<c:=by omega
    clear u B;go_wp2_with fail;exact R.out (by kernel_rfl) V
   ·have E:k=0:=by rw[<-x];show(N.bytes.drop b).length=0;rw[u];rfl
    subst E;clear u B x;by_cases d4:(b:Int)<c
    ·go_wp2_with fail;exact R.out (by kernel_rfl) V
    ·go_wp2_with fail;exact R.out (by kernel_rfl) V
   ·have d2:(0:Int)<(k:Int):=by
     have d:k=r.length+1:=by rw[<-x];show(N.bytes.drop b).length=_;rw[u];rfl
     omega
    obtain⟨l,y,a5,a6,rfl,J,L⟩:=B (by omega);have c3:g.cell? (Ad l y)=some (II f):=by have d:=L 0 (by rw[rM,x];omega);rw[aF]at d;simp only[aD,J,d];show(hP (N.bytes.drop b))[0]? =_;rw[u];rfl
    have E:¬0<=f:=by omega
    clear L J u x;by_cases d4:(b:Int)<c
    ·go_wp2_with fail;exact R.out (by kernel_rfl) V
    ·go_wp2_with fail;exact R.out (by kernel_rfl) V
theorem PN{o:List aM}{u3:pF}{d:fV}{z1:Exit->Act->aK->Prop}{v0:Code}
  (D:∀{o:List aM} {W:Nat} {l:aM} {L:aK},o.length=265->Hid (oM u3 W {d with fM:=d.fM.set id (gz x c).2} [] l (gz x c).1.bytes (gz x c).1.fin (gz x c).1.oC L)->eO ab v0 z1 ⟨(Pt u3.sb::c1::II (id:Int)::II c::h::q::M::w9::Pt u3.w.heap.size::ai none 0 0::II 0::Pt u3.cb::ag (some (Ad u3.sr (id*7)))::.bool O::Pt u3.tb::o).toArray,[]⟩ L) (E:o.length=265)
  {b:aK} (G:d.fM[id]? =some x) (B:Hid (∃l,CT u3 {d with fM:=d.fM.set id (jq x (jo x c))} l (x.bytes.take (jo x c)) b)):
  eO ab (qB 3 (spine 9 (lK f162)) v0) z1 ⟨(Pt u3.sb::c1::II (id:Int)::II c::h::q::M::w9::Pt u3.w.heap.size::ai none 0 0::II 0::Pt u3.cb::ag (some (Ad u3.sr (id*7)))::.bool O::Pt u3.tb::o).toArray,[]⟩ b:=by
 apply Ff _ E;clear E o;iterate 265 intro _
 show eO ab (eK _ (eK _ (eK _ (v0)))) z1 _ _;have t:=@fK _ @D;clear D;obtain⟨l,f⟩:=B.out;have S:=vn x c;obtain⟨a,s⟩:∃a,jo x c=a:=⟨_,rfl⟩;rw[s]at f S;have A:({d with fM:=d.fM.set id (jq x a)}:fV).fM[id]? =some (jq x a):=getElem?_set_at G;have p:=fK f.Tj;obtain⟨⟨H,_,I,J,_⟩,a5⟩:=p.out.str A;obtain⟨Y,Z,a0,a4⟩:=p.out.gR.cell;have V:u3.tb≠u3.sr:=fun z=>by obtain⟨_,N⟩:=(f.iN.iq u3.i _ u3.cb u3.sr (pF.get f.ok _) f.ok.cb f.ok.sr).sr;have m:=f.gR;unfold iW at m;rw[z,N]at m;simp at m
 have a1:u3.sr≠u3.tb:=Ne.symm V;have e:Hid (∀(fin:Bool),fin=(!x.reset&&decide (x.read+(a:Int)=x.final))->∀u:aK,u=(((b.setCell (Ad u3.tb 2) (.bool x.reset)).setCell (Ad u3.tb 1) (.bool fin)).setCell (Ad u3.sr (id*7+6)) (.bool (fin || x.reset))).drew->Hid (oM u3 b.heap.size {d with fM:=d.fM.set id (gz x c).2} [] l (gz x c).1.bytes (gz x c).1.fin (gz x c).1.oC u)):=by
  intro fin g u T;have Q:=p.out.box 2 (.bool x.reset) (Mw:=false) (MW:=x.reset) rfl;have m:=Q.box 1 (.bool fin) (Mw:=fin) (MW:=x.reset) rfl;have R:=m.put (id:=id) (j:=6) (x:=jq x a) (y:={jq x a with done:=fin || x.reset}) (v:=.bool (fin || x.reset)) A (by decide) (fun X=>rfl) rfl;have C:=R.below (fQ (Below.refl _ _) 1);rw[T];have z:({jq x a with done:=fin || x.reset}:gs)=(gz x c).2:=by unfold gz jq;rw[s,g]
  simp only[cS,z]at C;have P:(gz x c).1 =⟨x.bytes.take a,fin,x.reset⟩:=by unfold gz;rw[s,g]
  rw[P];exact C
 have a2:CI b u3.sr (id*7+1) (x.read+a):=H;have a3:CI b u3.sr (id*7+4) x.final:=I;have K:CV b u3.sr (id*7+5) (.bool x.reset):=J;clear H I J f B A G s p;cases n:x.reset with
 |true=>rw[n]at K e;have k:=fK (e.out false (by simp));clear e n;go_wp2_with fail;go_region;go_wp2_with fail;exact t.out (by kernel_rfl) (k.out _ rfl)
 |false=>
  rw[n]at K e;by_cases g:x.read+(a:Int)=x.final
  ·have k:=fK (e.out true (by simp[g]));have U:(x.read+(a:Int)==x.final)=true:=by simp[g]
   clear e n;go_wp2_with fail;go_region;go_wp2_with fail;exact t.out (by kernel_rfl) (k.out _ rfl)
  ·have k:=fK (e.out false (by simp[g]));have U:(x.read+(a:Int)==x.final)=false:=by simp[g]
   clear e n;go_wp2_with fail;go_region;go_wp2_with fail;exact t.out (by kernel_rfl) (k.out _ rfl)
theorem PO{o:List aM}{u3:pF}{e:fV}{y:gs}{z1:Exit->Act->aK->Prop}{v0:Code}
  (c4:∀{o:List aM} {d5:aK},o.length=265->Hid (oM u3 d (kl u3.s.c e id y).1 (kl u3.s.c e id y).2 v6 k fin s4 d5)->eO ab v0 z1 ⟨(Pt u3.sb::c1::II (id:Int)::II c::h::q::M::w9::Pt u3.w.heap.size::ai none 0 0::II 0::Pt u3.cb::ag (some (Ad u3.sr (id*7)))::.bool O::Pt u3.tb::o).toArray,[]⟩ d5) (c5:o.length=265)
  {b:aK} (c9:id<e.fM.length/\e.fM.length<=1073741823) (D:Hid (oM u3 d {e with fM:=e.fM.set id y} [] v6 k fin s4 b)) (E:Hid (iA u3.s.c.c4 y)) (b6:Hid (hS g e)) (g0:g<=1125899906842000) (b3:Hid (jF u3.s.c)):
  eO ab (qB 1 (spine 12 (lK f162)) v0) z1 ⟨(Pt u3.sb::c1::II (id:Int)::II c::h::q::M::w9::Pt u3.w.heap.size::ai none 0 0::II 0::Pt u3.cb::ag (some (Ad u3.sr (id*7)))::.bool O::Pt u3.tb::o).toArray,[]⟩ b:=by
 apply Ff _ c5;clear c5 o;iterate 265 intro _
 show eO ab (eK _ (v0)) z1 _ _;have P:=@fK _ @c4;clear c4;have a9:({e with fM:=e.fM.set id y}:fV).fM[id]? =some y:=eC c9.1;obtain⟨⟨U,b0,b1,_,_⟩,_⟩:=D.out.str a9;obtain⟨⟨_,C⟩,_⟩:=D.out.cfg;have f2:=E.out.read;have f3:=E.out.len;have g6:=E.out.rn;have c7:=b3.out.c2;have e7:=b3.out.c1;obtain⟨m,Q⟩:∃m,u3.s.c.c2=m:=⟨_,rfl⟩;obtain⟨l,S⟩:∃l,m/2=l:=⟨_,rfl⟩;rw[Q]at C c7;have h2:m.tdiv 2=l:=by rw[eM (by omega)];exact S
 have g5:0<=l/\l<=4096:=by omega
 have h3:wrap64 l=l:=by unfold wrap64;omega
 have h4:IntKind.i64.wrap (y.read+l)=y.read+l:=by rw[dq];omega
 have g7:0<=y.read/\y.read<=1073741823:=by omega
 have t:mE u3.s.c y=(decide (y.final<0)&&decide (y.fS<y.read+l)&&decide (y.fS<1073741823)):=by unfold mE;rw[Q,S]
 have f9:8<=m/\m<=4096:=by omega
 have a0:=fK a9;have W:=fK Q;have b4:=fK S;clear Q S e7 c7 f2 f3 a9;have u:Hid (mE u3.s.c y=false->∀a1:aK,Bw b a1->Hid (oM u3 d (kl u3.s.c e id y).1 (kl u3.s.c e id y).2 v6 k fin s4 a1)):=by intro n a1 e5;unfold kl;rw[n];exact D.out.below e5
 by_cases I:y.final<0
 ·by_cases J:y.fS<y.read+l
  ·by_cases a3:y.fS<1073741823
   ·have d2:mE u3.s.c y=true:=by rw[t];simp[I,J,a3]
    have b7:=fK d2;clear t d2 u;go_upto_region 17 with fail;go_quiet (fail);have N:=fK (D.out.below (fQ (Below.refl _ b) nq));clear U b0 b1 C D;generalize b.drewN nq=f at *
    obtain⟨⟨U,b0,b1,_,_⟩,f7⟩:=N.out.str a0.out;obtain⟨⟨_,C⟩,_⟩:=N.out.cfg;rw[W.out]at C;have d8:CI f.drew u3.sr (id*7+1) y.read:=U;have d9:CI f.drew u3.sb 2 m:=C;have Z:Hid (aL ab 191 #[II y.read,II m] f.drew (fun p f5=>p=.returned (II (iR y.read m))/\f5=f.drew)):=(wM f.drew (by omega) (by omega)).mono (fun _ _ n=>And.imp_right Eq.symm n);obtain⟨a,R⟩:∃a,iR y.read m=a:=⟨_,rfl⟩;have g4:0<=a/\a<=1073741823:=by rw[<-R];exact pr (by omega) (by omega)
    rw[R]at Z;have X:=fK R;clear R;go_upto_region 18 with fail;refine wp_region_still_tail 13 (by kernel_rfl) (by kernel_rfl) ?_;simp only[List.take_succ_cons,List.take_zero,List.drop_succ_cons,List.drop_zero];still_step;still_step;still_step;still_step;still_step;still_step;still_step;still_step;still_step;still_step;still_call Z.out;still_step;still_step;refine wpStill_nil ?_;have e0:({heap:=f.heap,tape:=f.tape,drawn:=f.drawn+1,os:=f.os,output:=f.output}:aK)=f.drew:=rfl;rw[e0];go_upto_region 19 with fail;have Y:Hid (oM u3 d {e with fM:=e.fM.set id {y with fS:=a}} [] v6 k fin s4 (f.setCell (Ad u3.sr (id*7+3)) (II a)).drew):=by have n:=(N.out.put (id:=id) (j:=3) (x:=y) (y:={y with fS:=a}) (v:=II a) a0.out (by decide) (fun f8=>rfl) rfl).below (fQ (Below.refl _ _) 1);simp only[cS]at n;exact n
    clear U b0 b1 C d8 d9 Z N f7;generalize (f.setCell (Ad u3.sr (id*7+3)) (II a)).drew=B at *
    have a8:({e with fM:=e.fM.set id {y with fS:=a}}:fV).fM[id]? =some {y with fS:=a}:=eC c9.1;have i2:CI B u3.sr (id*7+3) a:=(Y.out.str a8).1.2.1;have H:Hid (∀z b8:aK,CI z u3.sr (id*7+3) a->Bw z b8->CI b8 u3.sr (id*7+3) a):=fun _ _ n e6=>fL n e6;have d1:=hJ (id:Int);have f1:=hJ a;have b5:Hid (∀(z:aK) (a2:aM),Bw B z->z.ownsRow 0 5 1 a2 (([17]++gE (id:Int))++gE a).length (U8 (([17]++gE (id:Int))++gE a))->aL ab 192 #[Pt u3.sb,Pt u3.cb,a2] z fun p L=>p=.returned (.tuple #[])/\Hid (oM u3 d (kl u3.s.c e id y).1 (kl u3.s.c e id y).2 v6 k fin s4 L)/\L.cell? (Ad u3.sr (id*7+3))=some (II a)):=by intro z a2 e4 e9;have c3:=vS E.out (g:=m) (by omega) (by rw[b4.out];exact J);rw[X.out]at c3;refine(Y.out.news e4 (b6.out.set c3) (by omega) (by simp) e9 (by simp only[bL,eI,eJ];omega)).mono ?_;rintro p L ⟨rfl,n⟩;refine⟨rfl,?_,(n.str (x:={y with fS:=a}) (by rw[nG];exact a8)).1.2.1⟩;unfold kl;rw[b7.out,W.out,X.out];exact n
    obtain⟨V,a4⟩:∃V,([17]++gE (id:Int))++gE a=V:=⟨_,rfl⟩;obtain⟨d3,a6⟩:∃d3,V.length=d3:=⟨_,rfl⟩;rw[a4,a6]at b5;have b2:=fK (And.intro a4 a6);clear Y a8 E b6 b7 a0 X b4 W a4 a6;go_region_held3 (fun L=>L.cell? (Ad u3.sr (id*7+3))=some (II a)) (first|with_reducible assumption|exact H.out _ _ (by assumption) (fO _ _)|go_keep) (first
     |(go_at_call 155;refine(lm (by omega) (by omega)).mono ?_;rintro p d4 ⟨h9,rfl,T,K⟩;have g3:=H.out _ _ (by assumption) K;obtain⟨h0,h1,rfl⟩:=gB T)
     |(go_at_call 106;first
      |(obtain⟨e8,f0⟩:=d0.out;subst e8;refine(jO (gp f0 K) (gq T (be _)) (by simp only[bL,eI,eJ];omega) f1.2 (by simp only[bL,eI,eJ];omega) (by omega)).mono ?_;rintro p i0 ⟨h8,rfl,a7,a5⟩;rw[b2.out.1,b2.out.2]at a7;have e2:=fK (fP (fP b9.out K) a5);have g1:=H.out _ _ (by assumption) a5;obtain⟨g8,g9,rfl⟩:=gB a7;clear a5)
      |(have c8:=K;with_reducible (change Below ((B.alloc (.cells #[.int .u8 17] 5)).drew).heap.size (B.alloc (.cells #[.int .u8 17] 5)).drew d4 at c8);have c6:Below (B.alloc (.cells #[.int .u8 17] 5)).heap.size (B.alloc (.cells #[.int .u8 17] 5)) d4:=gc c8;refine(mz _ _ _ _ c6 (gq T (be _)) d1.2 (by omega)).mono ?_;rintro p f6 ⟨e1,d7,f4,rfl,d0,A⟩;have b9:=fK (fP (fP (fO _ _) c6) A);have e3:=H.out _ _ (by assumption) A;clear A)
      |(refine(mz _ _ _ _ (Below.refl _ _) ((gq T (be _)).alloc _) d1.2 (by omega)).mono ?_;rintro p f6 ⟨e1,d7,f4,rfl,d0,A⟩;have b9:=fK (fP (fP (gc K) (fO _ _)) A);have e3:=H.out _ _ (by assumption) A;clear A))
     |(go_at_call 192;refine(b5.out _ _ e2.out (gq a7 (be _))).mono ?_;rintro p i1 ⟨rfl,d6,g2⟩))
    all_goals
     go_wp2_with fail;exact P.out (by kernel_rfl) d6
   ·have G:=fK (u.out (by rw[t];simp[I,J,a3]));have h7:decide (y.fS<1073741823)=false:=decide_eq_false a3;clear t u;go_upto_region 17 with fail;go_quiet (fail);go_wp2_with fail;exact P.out (by kernel_rfl) (G.out _ (fQ (Below.refl _ b) _))
  ·have G:=fK (u.out (by rw[t];simp[I,J]));have h6:decide (y.fS<y.read+l)=false:=decide_eq_false J;clear t u;go_upto_region 17 with fail;go_quiet (fail);go_wp2_with fail;exact P.out (by kernel_rfl) (G.out _ (fQ (Below.refl _ b) _))
 ·have G:=fK (u.out (by rw[t];simp[I]));have h5:decide (y.final<0)=false:=decide_eq_false I;clear t u;go_upto_region 17 with fail;go_quiet (fail);go_wp2_with fail;exact P.out (by kernel_rfl) (G.out _ (fQ (Below.refl _ b) _))
theorem PP{o:List aM}{u3:pF}{b2:Int}{z1:Exit->Act->aK->Prop}{v0:Code}
  (a5:∀{o:List aM} {b4:aK},o.length=265->Hid (oM u3 d (mi u3.s.c r).1 (mi u3.s.c r).2 v6 k fin s4 b4)->eO ab v0 z1 ⟨(Pt u3.sb::c1::II (a:Int)::II b2::h::q::M::w9::Pt u3.w.heap.size::ai none 0 0::II 0::Pt u3.cb::ag (some (Ad u3.sr (a*7)))::.bool O::Pt u3.tb::o).toArray,[]⟩ b4) (a6:o.length=265)
  {b:aK} (H:Hid (oM u3 d r.1 r.2 v6 k fin s4 b)) (K:Hid (tF u3.s.c r.1)) (y:Hid (hS g r.1)) (e3:g<=1125899906842000) (e5:r.2.length<=100) (b6:Hid (jF u3.s.c)):
  eO ab (qB 2 (spine 13 (lK f162)) v0) z1 ⟨(Pt u3.sb::c1::II (a:Int)::II b2::h::q::M::w9::Pt u3.w.heap.size::ai none 0 0::II 0::Pt u3.cb::ag (some (Ad u3.sr (a*7)))::.bool O::Pt u3.tb::o).toArray,[]⟩ b:=by
 apply Ff _ a6;clear a6 o;iterate 265 intro _
 show eO ab (eK _ (eK _ (v0))) z1 _ _;have P:=@fK _ @a5;clear a5;obtain⟨e9,e8,d8,b0⟩:=H.out.view;have d0:=K.out.read y.out;have c6:=y.out.fS;have N:=fK (JD b0 y.out.lu.2 (fun b3 d1=>by
  have l:=K.out.str b3 d1;have z:=AN l;have b9:=l.read;have e1:=l.len;have e2:=l.rn;have c2:=l.Dy;refine⟨⟨b9,by omega⟩,⟨c2,?_⟩,z.1⟩;by_cases c3:0<=b3.final
  ·have:=l.fin c3;omega
  ·omega))
 have j:Hid (mi u3.s.c r=if decide (r.1.fS<gX r.1.fM+u3.s.c.c1/2)&&decide (r.1.fS<1073741823) then(hE {r.1 with fS:=iR (gX r.1.fM) u3.s.c.c1} ([16]++gE (iR (gX r.1.fM) u3.s.c.c1)),ig {r.1 with fS:=iR (gX r.1.fM) u3.s.c.c1} ([16]++gE (iR (gX r.1.fM) u3.s.c.c1)) r.2) else r):=rfl;have c5:=b6.out.c1;obtain⟨p,a7⟩:∃p,gX r.1.fM=p:=⟨_,rfl⟩;obtain⟨t,R⟩:∃t,u3.s.c.c1=t:=⟨_,rfl⟩;obtain⟨f,V⟩:∃f,t/2=f:=⟨_,rfl⟩;obtain⟨e,E⟩:∃e,iR p t=e:=⟨_,rfl⟩;rw[a7]at N j d0;rw[R]at c5 j;rw[V,E]at j;have U:0<=e/\e<=1073741823:=by rw[<-E];exact pr (by omega) (by omega)
 have f0:t.tdiv 2=f:=by rw[eM (by omega)];exact V
 have e4:0<=f/\f<=4096:=by omega
 have f1:wrap64 f=f:=by unfold wrap64;omega
 have f2:IntKind.i64.wrap (p+f)=p+f:=by rw[dq];omega
 have L:=fK (fun b7=>wM (r:=p) (g:=t) b7 (by omega) (by omega));rw[E]at L;have Z:=fK R;obtain⟨u,T⟩:∃u,r.1.fS=u:=⟨_,rfl⟩;rw[T]at j c6;have a0:=fK T;clear a7 V E b0 R T;go_wp2_with fail;refine N.out.mono ?_;rintro v G ⟨rfl,a8⟩;have x:=fK (H.out.below a8);clear a8 N H;obtain⟨⟨A,_⟩,⟨B,_⟩,_⟩:=x.out.cfg;rw[Z.out]at A;rw[a0.out]at B;by_cases l:u<p+f
 ·by_cases z:u<1073741823
  ·have a1:Hid (mi u3.s.c r=(hE {r.1 with fS:=e} ([16]++gE e),ig {r.1 with fS:=e} ([16]++gE e) r.2)):=by rw[j.out,decide_eq_true l,decide_eq_true z];rfl
   clear j;go_upto_region 21 with fail;go_quiet (fail);have m:=fK (x.out.below (fQ (Below.refl _ G) nq));clear x A B;generalize G.drewN nq=b8 at *
   obtain⟨⟨A,_⟩,⟨B,_⟩,d7⟩:=m.out.cfg;rw[Z.out]at A;rw[a0.out]at B;go_wp2_with fail;refine(L.out _).mono ?_;rintro v f6 ⟨rfl,rfl⟩;have I:=fK (m.out.Fw e);clear m L;go_upto_region 23 with fail;clear A B d7;generalize b8.setCell (Ad u3.cb 8) (II e)=D at *
   obtain⟨_,⟨b1,_⟩,_⟩:=I.out.cfg;have d2:CI (D.alloc (.cells #[.int .u8 16] 5)) u3.cb 8 e:=fL b1 (fO _ _);have c9:=hJ e;have a4:hS g {r.1 with fS:=e}:=by have s:=y.out;exact⟨s.fZ,s.addr,s.gR,s.gS,s.heard,s.runs,U,s.lu,s.str⟩
   have a3:Hid (∀(C:aK) (Q:aM) (Y:Nat),Bw D C->Y=([16]++gE e).length->C.ownsRow 0 5 1 Q Y (U8 ([16]++gE e))->aL ab 192 #[Pt u3.sb,Pt u3.cb,Q] C fun v d4=>v=.returned (.tuple #[])/\Hid (oM u3 d (mi u3.s.c r).1 (mi u3.s.c r).2 v6 k fin s4 d4)):=by intro C Q Y c4 c7 c8;subst c7;rw[a1.out];exact I.out.news c4 a4 (by omega) (by omega) c8 (by simp only[bL,eI,eJ];omega)
   clear I y K a1 a4 b1;go_wp2_with fail;refine(lm (c:=e) U.1 U.2).mono ?_;rintro v d5 ⟨f5,rfl,X,S⟩;clear d2;obtain⟨e6,e7,rfl⟩:=gB X;go_wp2_with fail;refine(mz 16 (gE e) D d5 S (gq X (be _)) c9.2 (by omega)).mono ?_;rintro v d6 ⟨e0,d9,d3,rfl,W,a9⟩;have a2:=fK (a3.out d6 _ d3 (fP (fP (fO D _) S) a9) W.out.1 W.out.2);clear X S a9 W a3;go_wp2_with fail;refine a2.out.mono ?_;rintro v f7 ⟨rfl,b5⟩;clear a2;go_wp2_with fail;exact P.out (by kernel_rfl) b5
  ·have J:Hid (mi u3.s.c r=r):=by rw[j.out,decide_eq_false z,eP];rfl
   have f4:decide (u<1073741823)=false:=decide_eq_false z;clear j;go_upto_region 21 with fail;go_quiet (fail);have m:=fK (x.out.below (fQ (Below.refl _ G) nq));rw[<-J.out]at m;go_wp2_with fail;exact P.out (by kernel_rfl) m
 ·have J:Hid (mi u3.s.c r=r):=by rw[j.out,decide_eq_false l,Bool.false_and];rfl
  have f3:decide (u<p+f)=false:=decide_eq_false l;clear j;go_upto_region 21 with fail;go_quiet (fail);have m:=fK (x.out.below (fQ (Below.refl _ G) nq));rw[<-J.out]at m;go_wp2_with fail;exact P.out (by kernel_rfl) m
theorem oM.grow{p:pF}(h:oM p a j t e k fin z0 b)(X:j.fM.length+1<=1073741823):
  aL ab 187 #[Pt p.sb,Pt p.cb,II ((j.fM.length+1:Nat):Int)] b fun c x=>c=.returned (.tuple #[])/\∃LJ,Hid (oM {p with sr:=LJ,ke:=p.ke.set p.i LJ} a {j with fM:=jH p.s.c.c2 j.fM (j.fM.length+1)} t e k fin z0 x)/\Hid (LJ=p.sr\/p.w.heap.size<=LJ):=by
 obtain⟨T,H,out,d,U⟩:=h.iN;have I:=d.iq p.i j p.cb p.sr (pF.get h.ok _) h.ok.cb h.ok.sr;obtain⟨a2,E⟩:=I.sr;obtain⟨P,a8,R,f⟩:=I.EY;have M:p.sb≠p.cb:=lH d.iN f.cell;have N:p.sr≠p.sb:=fun c=>by have y:=d.iN;rw[<-c,E]at y;simp at y
 refine(vU j p.s.c.c2 (j.fM.length+1) p.sb p.cb 0 P _ R b (by simp[aD,d.iN,gh,g_.cells]) f.cell f.row f.len (be _) X M (fun c=>?_) (by omega)).mono ?_
 ·simp only[aq,Option.some.injEq]at c;exact N c
 ·rintro c x ⟨rfl,a0,S,g⟩;have J:=lj (c:=p.s.c.c2) (y0:=j.fM);have Y:(jH p.s.c.c2 j.fM (j.fM.length+1)).length=j.fM.length+1:=by rw[J];simp
  obtain⟨m,cap,rfl⟩:∃m cap,a0=ai (some (Ad m 0)) (jH p.s.c.c2 j.fM (j.fM.length+1)).length cap:=by
   rcases g.row.2 with⟨_,a4⟩|⟨m,cap,a3,rfl,_⟩
   ·omega
   grind
  have B:m=p.sr\/b.heap.size<=m:=by
   by_cases W:m<b.heap.size
   ·have y:=g.pT m rfl W;simp only[aq,Option.some.injEq]at y;omega
   omega
  have a5:=h.gx.size;have D:=h.lay;have a6:=h.ok.tb;have n:gm (tt p.sb p.cb p.sr H) b x:=g.gx.mono fun Z _ C=>by
   rcases C with c|c
   ·exact bf (bg c)
   ·simp only[aq,Option.some.injEq]at c;exact bf (bf (bg c.symm))
  have u:=fun {c:bG} n1 n2 n3 n4=>nm (z:=c) d.iN f.cell E d.jN n1 n2 n3 n4;have V:=d.LW (s':=p.at {j with fM:=jH p.s.c.c2 j.fM (j.fM.length+1)}) (c':={j with fM:=jH p.s.c.c2 j.fM (j.fM.length+1)}) (LJ:=m) (uV:=H) (nX:=out) (pU:=t) (pF.get h.ok _) h.ok.cb h.ok.sr n (by simp_all) (by
   rw[g.gx.block p.sb (bn.1 d.iN).1 (fun c=>?_)]
   ·exact d.iN
   ·rcases c with c|c
    ·exact M c
    ·simp only[aq,Option.some.injEq]at c;exact N c) (gM d.jN g.gx (fun a7 O c=>by
   rcases c with c|c
   ·subst c;exact fR d.jN f.cell (by decide) O
   ·simp only[aq,Option.some.injEq]at c;subst c;exact fR d.jN E (by decide) O)) (d.mM.gx n (u (by decide) (by decide) (by decide) (by decide))) ⟨P,cap,S,g.iq,f.runs.gx n (u (by decide) (by decide) (by decide) (by decide)),g.len,g.row,fun G a1 Q q o=>by
   rw[g.news,Y,Nat.add_sub_cancel_left]at o;simp only[J]at q;by_cases K:G<j.fM.length
   ·rw[aZ K]at q;rw[aZ (by rw[f.len];exact K)]at o;exact(f.bytes G a1 Q q o).gx n (u (by decide) (by decide) (by decide) (by decide))
   ·rw[bN (by omega)]at q;rw[bN (by rw[f.len];omega)]at o;have L:G-j.fM.length=0:=by grind
    rw[L]at q;rw[f.len,L]at o;simp at q o;subst q;subst o;exact Ro.nil _ _⟩ B
  have A:=h.res;have z:=h.gR;unfold iW at A z;refine⟨rfl,m,⟨⟨h.ok.cb,getElem?_set_at h.ok.sr,h.ok.iq,h.ok.tb,?_⟩,⟨T,H,out,V,U⟩,h.gx.trans ((n.call d.jN).mono fun Z _ C=>?_),?_,?_,gI h.mM n (u (by decide) (by decide) (by decide) (by decide)),D.1,bZ D.2.1 n.size,D.2.2⟩,?_⟩
  ·rcases B with c|c
   ·exact h.ok.pT.imp (fun v=>c.trans v) (fun v=>by grind)
   grind
  ·rcases C with c|c|c|c
   ·exact bg c
   ·exact bf (bg c)
   ·exact h.ok.pT.elim (fun v=>bf (bf (bg (c.trans v)))) (fun v=>bf (bf (bf (by omega))))
   ·exact bf (bf (bf (by omega)))
  ·unfold iW;show x.heap[p.w.heap.size]? =_;rw[n.block _ (bn.1 A).1 (u (by decide) (by decide) (by decide) (by decide) _ _ _ A)];exact A
  ·unfold iW;show x.heap[p.tb]? =_;rw[n.block _ (bn.1 z).1 (u (by decide) (by decide) (by decide) (by decide) _ _ _ z)];exact z
  ·exact B.imp id (fun c=>by omega)
theorem PQ{o:List aM}{u3:pF}{b6:Int}{z1:Exit->Act->aK->Prop}{v0:Code}
  (b4:∀{o:List aM} {l:Nat} {b7:List Nat} {b8:aK},o.length=265->Hid (oM {u3 with sr:=l,ke:=b7} d (iB u3.s.c (!O&&(fin || s4)) r).1 (iB u3.s.c (!O&&(fin || s4)) r).2 v6 k fin s4 b8)->Hid (∀t∈b7,t∈u3.ke\/u3.w.heap.size<=t)->eO ab v0 z1 ⟨(Pt u3.sb::c1::II (a:Int)::II b6::h::q::M::w9::Pt u3.w.heap.size::ai none 0 0::II 0::Pt u3.cb::ag (some (Ad u3.sr (a*7)))::.bool O::Pt u3.tb::o).toArray,[]⟩ b8) (b5:o.length=265)
  {b:aK} (p:Hid (oM u3 d r.1 r.2 v6 k fin s4 b)) (Q:Hid (hS g r.1)) (d4:g<=1125899906842000) (d5:r.2.length<=100) (X:Hid (jF u3.s.c)):
  eO ab (qB 1 (spine 15 (lK f162)) v0) z1 ⟨(Pt u3.sb::c1::II (a:Int)::II b6::h::q::M::w9::Pt u3.w.heap.size::ai none 0 0::II 0::Pt u3.cb::ag (some (Ad u3.sr (a*7)))::.bool O::Pt u3.tb::o).toArray,[]⟩ b:=by
 apply Ff _ b5;clear b5 o;iterate 265 intro _
 show eO ab (eK _ (v0)) z1 _ _;have z:=@fK _ @b4;clear b4;obtain⟨_,⟨_,d6,a5⟩,_⟩:=p.out.cfg;have b1:=fK (bS p.out.ok.sr);obtain⟨_,b2,b3,_⟩:=p.out.gR.cell;obtain⟨e,E⟩:∃e,r.1.fM.length=e:=⟨_,rfl⟩;have c7:=Q.out.lu;rw[E]at a5 c7;have n:=fK E;clear E;cases O with
 |true=>
  have B:Hid (oM {u3 with sr:=u3.sr,ke:=u3.ke} d (iB u3.s.c (!true&&(fin || s4)) r).1 (iB u3.s.c (!true&&(fin || s4)) r).2 v6 k fin s4 b):=by rw[show iB u3.s.c (!true&&(fin || s4)) r=r from by unfold iB;simp];exact p.out
  clear p;go_wp2_with fail;exact z.out (by kernel_rfl) B (fun t x=>bg x)
 |false=>
  cases fin with
  |true=>
   by_cases U:e<1073741823
   ·have a2:(e:Int)<1073741823:=by omega
    rw[show(!false&&(true || s4))=true by simp]at z;have K:Hid (aL ab 187 #[Pt u3.sb,Pt u3.cb,II ((e:Int)+1)] b fun j v=>j=.returned (.tuple #[])/\∃l,Hid (oM {u3 with sr:=l,ke:=u3.ke.set u3.i l} d {r.1 with fM:=jH u3.s.c.c2 r.1.fM (e+1)} r.2 v6 k true s4 v)/\Hid (l=u3.sr\/u3.w.heap.size<=l)):=by have f:=p.out.grow (by rw[n.out];omega);rw[n.out]at f;exact f
    have c8:IntKind.i64.wrap ((e:Int)+1)=(e:Int)+1:=by rw[dq];omega
    have L:Hid (iB u3.s.c true r=(hE {r.1 with fM:=jH u3.s.c.c2 r.1.fM (e+1)} ([18]++gE ((e:Int)+1)),ig {r.1 with fM:=jH u3.s.c.c2 r.1.fM (e+1)} ([18]++gE ((e:Int)+1)) r.2)):=by
     have y:(jH u3.s.c.c2 r.1.fM (e+1)).length=e+1:=by rw[<-n.out,lj];simp
     unfold iB;rw[n.out,decide_eq_true U];simp only[Bool.and_true,if_true];rw[y];rfl
    have R:Hid (hS g {r.1 with fM:=jH u3.s.c.c2 r.1.fM (e+1)}):=by
     have f:=Q.out;have c5:=X.out.c2;have c4:=X.out.c1;have c6:=n.out;refine⟨f.fZ,f.addr,f.gR,f.gS,f.heard,f.runs,f.fS,?_,fun b0 u=>?_⟩
     ·rw[<-n.out,lj];simp only[bL,eL];omega
     ·rw[<-n.out,lj]at u;rcases bX.1 u with u|u
      ·exact f.str b0 u
      ·rw[bV.1 u];exact⟨by simp[gP],by simp[gP],by simp[gP],by simp only[gP];omega,by simp[gP]⟩
    clear Q;go_wp2_with fail;refine K.out.mono ?_;rintro j W ⟨rfl,l,A,Z⟩;clear K p a5 b2 b3;obtain⟨_,⟨_,a8,I⟩,_⟩:=A.out.cfg;have y:(jH u3.s.c.c2 r.1.fM (e+1)).length=e+1:=by rw[<-n.out,lj];simp
    simp only[y]at I;have a6:CV (W.alloc (.cells #[.int .u8 18] 5)) u3.cb 9 (ai (some (Ad l 0)) (e+1) a8):=fL I (fO _ _);have a4:=hJ ((e:Int)+1);have S:Hid (∀m:aK,aL ab 155 #[II ((e+1:Nat):Int)] m fun j v=>∃V,j=.returned V/\v.ownsRow m.heap.size 5 1 V (gE ((e:Int)+1)).length (U8 (gE ((e:Int)+1)))/\Bw m v):=fun m=>lm (by omega) (by omega);have P:Hid (∀(m:aK) (C:aM) (J:Nat),Bw W m->J=([18]++gE ((e:Int)+1)).length->m.ownsRow 0 5 1 C J (U8 ([18]++gE ((e:Int)+1)))->aL ab 192 #[Pt u3.sb,Pt u3.cb,C] m fun j v=>j=.returned (.tuple #[])/\Hid (oM {u3 with sr:=l,ke:=u3.ke.set u3.i l} d (iB u3.s.c true r).1 (iB u3.s.c true r).2 v6 k true s4 v)):=by intro m C J a1 E a3;subst E;rw[L.out];exact A.out.news a1 R.out (by omega) (by omega) a3 (by simp only[bL,eI,eJ];omega)
    have a0:Hid (∀t∈u3.ke.set u3.i l,t∈u3.ke\/u3.w.heap.size<=t):=by
     intro t x;rcases dh x with f|f
     ·exact bg f
     ·rw[f];rcases Z.out with j|j
      ·rw[j];exact bg b1.out
      ·exact bf j
    clear A R L I y;go_wp2_with fail;refine(S.out _).mono ?_;rintro j d2 ⟨d1,rfl,H,D⟩;clear a6 S;obtain⟨c9,d0,rfl⟩:=gB H;go_wp2_with fail;refine(mz _ _ _ _ D (gq H (be _)) a4.2 (by omega)).mono ?_;rintro j a9 ⟨c3,b9,a7,rfl,G,T⟩;have N:=fK (P.out a9 _ a7 (fP (fP (fO _ _) D) T) G.out.1 G.out.2);clear H D T G P;go_wp2_with fail;refine N.out.mono ?_;rintro j d3 ⟨rfl,Y⟩;clear N;go_wp2_with fail;exact z.out (by kernel_rfl) Y a0
   ·have a2:¬(e:Int)<1073741823:=by omega
    have B:Hid (oM {u3 with sr:=u3.sr,ke:=u3.ke} d (iB u3.s.c (!false&&(true || s4)) r).1 (iB u3.s.c (!false&&(true || s4)) r).2 v6 k true s4 b):=by rw[show iB u3.s.c (!false&&(true || s4)) r=r from by unfold iB;rw[n.out,decide_eq_false U,eP];rfl];exact p.out
    clear p;go_wp2_with fail;exact z.out (by kernel_rfl) B (fun t x=>bg x)
  |false=>
   cases s4 with
   |false=>
    have B:Hid (oM {u3 with sr:=u3.sr,ke:=u3.ke} d (iB u3.s.c (!false&&(false || false)) r).1 (iB u3.s.c (!false&&(false || false)) r).2 v6 k false false b):=by rw[show iB u3.s.c (!false&&(false || false)) r=r from by unfold iB;simp];exact p.out
    clear p;go_wp2_with fail;exact z.out (by kernel_rfl) B (fun t x=>bg x)
   |true=>
    by_cases U:e<1073741823
    ·have a2:(e:Int)<1073741823:=by omega
     rw[show(!false&&(false || true))=true by simp]at z;have K:Hid (aL ab 187 #[Pt u3.sb,Pt u3.cb,II ((e:Int)+1)] b fun j v=>j=.returned (.tuple #[])/\∃l,Hid (oM {u3 with sr:=l,ke:=u3.ke.set u3.i l} d {r.1 with fM:=jH u3.s.c.c2 r.1.fM (e+1)} r.2 v6 k false true v)/\Hid (l=u3.sr\/u3.w.heap.size<=l)):=by have f:=p.out.grow (by rw[n.out];omega);rw[n.out]at f;exact f
     have c8:IntKind.i64.wrap ((e:Int)+1)=(e:Int)+1:=by rw[dq];omega
     have L:Hid (iB u3.s.c true r=(hE {r.1 with fM:=jH u3.s.c.c2 r.1.fM (e+1)} ([18]++gE ((e:Int)+1)),ig {r.1 with fM:=jH u3.s.c.c2 r.1.fM (e+1)} ([18]++gE ((e:Int)+1)) r.2)):=by
      have y:(jH u3.s.c.c2 r.1.fM (e+1)).length=e+1:=by rw[<-n.out,lj];simp
      unfold iB;rw[n.out,decide_eq_true U];simp only[Bool.and_true,if_true];rw[y];rfl
     have R:Hid (hS g {r.1 with fM:=jH u3.s.c.c2 r.1.fM (e+1)}):=by
      have f:=Q.out;have c5:=X.out.c2;have c4:=X.out.c1;have c6:=n.out;refine⟨f.fZ,f.addr,f.gR,f.gS,f.heard,f.runs,f.fS,?_,fun b0 u=>?_⟩
      ·rw[<-n.out,lj];simp only[bL,eL];omega
      ·rw[<-n.out,lj]at u;rcases bX.1 u with u|u
       ·exact f.str b0 u
       ·rw[bV.1 u];exact⟨by simp[gP],by simp[gP],by simp[gP],by simp only[gP];omega,by simp[gP]⟩
     clear Q;go_wp2_with fail;refine K.out.mono ?_;rintro j W ⟨rfl,l,A,Z⟩;clear K p a5 b2 b3;obtain⟨_,⟨_,a8,I⟩,_⟩:=A.out.cfg;have y:(jH u3.s.c.c2 r.1.fM (e+1)).length=e+1:=by rw[<-n.out,lj];simp
     simp only[y]at I;have a6:CV (W.alloc (.cells #[.int .u8 18] 5)) u3.cb 9 (ai (some (Ad l 0)) (e+1) a8):=fL I (fO _ _);have a4:=hJ ((e:Int)+1);have S:Hid (∀m:aK,aL ab 155 #[II ((e+1:Nat):Int)] m fun j v=>∃V,j=.returned V/\v.ownsRow m.heap.size 5 1 V (gE ((e:Int)+1)).length (U8 (gE ((e:Int)+1)))/\Bw m v):=fun m=>lm (by omega) (by omega);have P:Hid (∀(m:aK) (C:aM) (J:Nat),Bw W m->J=([18]++gE ((e:Int)+1)).length->m.ownsRow 0 5 1 C J (U8 ([18]++gE ((e:Int)+1)))->aL ab 192 #[Pt u3.sb,Pt u3.cb,C] m fun j v=>j=.returned (.tuple #[])/\Hid (oM {u3 with sr:=l,ke:=u3.ke.set u3.i l} d (iB u3.s.c true r).1 (iB u3.s.c true r).2 v6 k false true v)):=by intro m C J a1 E a3;subst E;rw[L.out];exact A.out.news a1 R.out (by omega) (by omega) a3 (by simp only[bL,eI,eJ];omega)
     have a0:Hid (∀t∈u3.ke.set u3.i l,t∈u3.ke\/u3.w.heap.size<=t):=by
      intro t x;rcases dh x with f|f
      ·exact bg f
      ·rw[f];rcases Z.out with j|j
       ·rw[j];exact bg b1.out
       ·exact bf j
     clear A R L I y;go_wp2_with fail;refine(S.out _).mono ?_;rintro j d2 ⟨d1,rfl,H,D⟩;clear a6 S;obtain⟨c9,d0,rfl⟩:=gB H;go_wp2_with fail;refine(mz _ _ _ _ D (gq H (be _)) a4.2 (by omega)).mono ?_;rintro j a9 ⟨c3,b9,a7,rfl,G,T⟩;have N:=fK (P.out a9 _ a7 (fP (fP (fO _ _) D) T) G.out.1 G.out.2);clear H D T G P;go_wp2_with fail;refine N.out.mono ?_;rintro j d3 ⟨rfl,Y⟩;clear N;go_wp2_with fail;exact z.out (by kernel_rfl) Y a0
    ·have a2:¬(e:Int)<1073741823:=by omega
     have B:Hid (oM {u3 with sr:=u3.sr,ke:=u3.ke} d (iB u3.s.c (!false&&(false || true)) r).1 (iB u3.s.c (!false&&(false || true)) r).2 v6 k false true b):=by rw[show iB u3.s.c (!false&&(false || true)) r=r from by unfold iB;rw[n.out,decide_eq_false U,eP];rfl];exact p.out
     clear p;go_wp2_with fail;exact z.out (by kernel_rfl) B (fun t x=>bg x)
theorem PL{o:List aM}{z1:Exit->Act->aK->Prop}{v0:Code}
  (S:∀{o:List aM} {a6:aK},o.length=265->Hid (∃b2,CT ⟨b,p,d,f,cb,sr,m,v,w9,b.heap.size+1,sr⟩ j b2 [] a6)->eO ab v0 z1 ⟨(Pt f::II c::II (a:Int)::II g::e::h::q::M::Pt b.heap.size::ai none 0 0::II 0::Pt cb::ag (some (Ad sr (a*7)))::.bool N.done::Pt (b.heap.size+1)::o).toArray,[]⟩ a6) (T:o.length=272)
  (y:gF b p f m v w9 v6 z7 out t) {l u:Int} (E:gD l u p) (Z:ja p.fN c=some d) (B:p.fN[d]? =some j) (A:m[d]? =some cb) (K:v[d]? =some sr) (a2:j.fY=true) (w:j.fM[a]? =some N) (c7:0<=g):
  eO ab (qB 8 (spine 0 (lK f162)) v0) z1 ⟨(Pt f::II c::II (a:Int)::II g::e::h::q::M::o).toArray,[]⟩ b:=by
 apply Ff _ T;clear T o;iterate 272 intro _
 show eO ab (eK _ (eK _ (eK _ (eK _ (eK _ (eK _ (eK _ (eK _ (v0))))))))) z1 _ _;have a9:=@fK _ @S;clear S;have V:Bw b (b.alloc (.cells #[ai none 0 0,.bool false,.bool false] 46)):=fO _ _;have D:=y.below V;have c9:f<b.heap.size:=(bn.1 y.iN).1;have b1:(b.alloc (.cells #[ai none 0 0,.bool false,.bool false] 46)).cell? (Ad f 13)=some v6:=by simp only[aD,D.iN];simp[gh,g_.cells]
 have b7:mc (b.alloc (.cells #[ai none 0 0,.bool false,.bool false] 46)) f 13:=cx _ f 13 _ _ D.iN;obtain⟨a3,X⟩:=y.reset;have a4:(b.setCell (Ad f 13) (ai none 0 0)).heap.size=b.heap.size:=by simp
 have H:Below (b.setCell (Ad f 13) (ai none 0 0)).heap.size (b.setCell (Ad f 13) (ai none 0 0)) ((b.setCell (Ad f 13) (ai none 0 0)).alloc (.cells #[ai none 0 0,.bool false,.bool false] 46)):=fO _ _;have z:=a3.below H;have Y:gm (· = f) b ((b.setCell (Ad f 13) (ai none 0 0)).alloc (.cells #[ai none 0 0,.bool false,.bool false] 46)):=X.trans (gm.fU H);have L:=cA (b.setCell (Ad f 13) (ai none 0 0)) (.cells #[ai none 0 0,.bool false,.bool false] 46);rw[a4]at L;have J:((b.setCell (Ad f 13) (ai none 0 0)).alloc (.cells #[ai none 0 0,.bool false,.bool false] 46)).heap.size=b.heap.size+1:=by simp
 generalize U:(b.setCell (Ad f 13) (ai none 0 0)).alloc (.cells #[ai none 0 0,.bool false,.bool false] 46)=k at *
 obtain⟨b9,c2,a5⟩:=z.view;have b4:=E.tz;have b3:=E.cfg.c0;have I:=jY c a5 (by omega);have a0:ld m (some d)=Pt cb:=by simp[ld,List.getD,A]
 rw[Z,a0]at I;have O:=fK I;have b8:∀x:aK,(binOp .eql 244 (Pt cb) (ag none)).run ab x=.ok (.bool false) x:=fun x=>by first|exact eQ x 244 (some (Ad cb 0)) nB|kernel_rfl
 obtain⟨b6,d3,b0,s⟩:=(z.iq d j cb sr B A K).view;have a1:a<j.fM.length:=(bo.1 w).1;obtain⟨C,W⟩:∃C,b0[a]? =some C:=⟨_,ap (by rw[s.len];exact a1)⟩;have d0:k.cell? (Ad cb 2)=some (.bool true):=by rw[s.cell 2];simp[gn,a2]
 have d1:CV k cb 9 (ai (some (Ad sr 0)) j.fM.length b6):=s.cell 9;have d4:CV k sr (a*7+6) (.bool N.done):=s.str a N C w W 6 (by decide);have c6:(a:Int)<(j.fM.length:Int):=by omega
 have c3:¬(j.fM.length:Int)<=(a:Int):=by omega
 have c4:(0:Int)<=(a:Int):=by omega
 have c5:¬(a:Int)<0:=by omega
 have c8:¬g<0:=by omega
 have a7:Hid (CT ⟨b,p,d,f,cb,sr,m,v,w9,b.heap.size+1,sr⟩ j (ai none 0 0) [] (k.alloc (.cells #[ai none 0 0,.bool false,.bool false] 46))):=by
  have G:Bw k (k.alloc (.cells #[ai none 0 0,.bool false,.bool false] 46)):=fO _ _;have n:=z.below G;have b5:p.fN.set d j=p.fN:=ia B;refine⟨⟨A,K,(bo.1 B).1,by show b.heap.size<b.heap.size+1;omega,bg rfl⟩,?_,(Y.mono fun d2 _ Q=>bg Q).trans (gm.fU G),?_,?_,ak _ _ _ _⟩
  ·show gF _ ({p with fN:=p.fN.set d j}:gg) f m v w9 (ai none 0 0) 0 [] [];rw[b5];exact⟨n.iN,n.row,ak _ _ _ _,⟨rfl,fun i N d6 w=>by simp at w⟩,n.iD,n.jv,n.Ga,n.Gb,n.iq⟩
  ·exact(G.block _ (by show b.heap.size<k.heap.size;omega)).trans L
  ·have R:=cA k (.cells #[ai none 0 0,.bool false,.bool false] 46);rw[J]at R;exact R
 have P:=fK U;have a8:=fK J;clear y D z Y E Z a5 I U B A K a0 s w W L V a1 J b4 b3 a2 a3 X a4 H;go_wp2_with fail;rw[P.out];refine O.out.mono ?_;rintro Q d5 ⟨rfl,rfl⟩;clear O b1 b7 P;go_wp2_with fail;rw[a8.out];exact a9.out (by kernel_rfl) ⟨_,a7.out⟩
theorem PF:qB 8 (spine 0 (lK f162)) (spine 8 (lK f162))=lK f162:=by kernel_rfl
theorem PG:qB 1 (spine 8 (lK f162)) (spine 9 (lK f162))=spine 8 (lK f162):=by kernel_rfl
theorem PH:qB 3 (spine 9 (lK f162)) (spine 12 (lK f162))=spine 9 (lK f162):=by kernel_rfl
theorem PI:qB 1 (spine 12 (lK f162)) (spine 13 (lK f162))=spine 12 (lK f162):=by kernel_rfl
theorem PJ:qB 2 (spine 13 (lK f162)) (spine 15 (lK f162))=spine 13 (lK f162):=by kernel_rfl
theorem PK:qB 1 (spine 15 (lK f162)) (spine 16 (lK f162))=spine 15 (lK f162):=by kernel_rfl
structure uw(w:aK)(sb:Nat)(jf ke:List Nat)(cv:aM)(r:Int×oD×gg×List (Int×List Int))(e:Ending)(w':aK):Prop where
 ex:∃tv v,e=.returned (.tuple #[.agg #[tv,.bool r.2.1.fin,.bool r.2.1.oC],v,II r.1])/\w'.ownsRow w.heap.size 5 1 tv r.2.1.bytes.length (U8 r.2.1.bytes)/\Br w sb jf ke cv r.2.2.1 r.2.2.2 v w'
theorem oM.done{p:pF}{MZ:List Nat}(h:oM p a j t e k fin z0 b)(I:∀f∈p.ke,f∈MZ\/p.w.heap.size<=f)(G:p.cb∈p.jf)(J:p.Qa∈MZ):∃l A m,b.cell? (Ad p.sb 13)=some (.slice l A m)/\∀g:aK,gm (· = p.w.heap.size) b g->g.ownsRow p.w.heap.size 5 1 e k.length (U8 k)/\Br p.w p.sb p.jf MZ p.cv (p.at j) t (.slice l A m) g:=by
 obtain⟨D,M,out,n,E⟩:=h.iN;obtain⟨l,m,rfl⟩:=gr n.jN;have K:=h.lay;have H:=h.res;have L:=h.ok.tb;unfold iW at H;refine⟨l,out.length,m,by simp only[aD,n.iN];simp[gh,g_.cells],fun g o=>?_⟩;have q:∀{c:bG},c≠46->∀f s u,b.heap[f]? =some (.cells s c u)->¬f=p.w.heap.size:=fun z f s u v c=>by grind
 have d:=n.Ms o (fun z _=>q z) (bf (q (by decide)));refine⟨gI h.mM o (q (by decide)),p.jf,p.ke,D,_,out,⟨d.iN,d.row,gq d.jN (by omega),⟨d.mM.1,fun i B C x y=>⟨(d.mM.2 i B C x y).1,gq (d.mM.2 i B C x y).2 (by omega)⟩⟩,d.iD,d.jv,d.Ga,d.Gb,d.iq⟩,bg rfl,?_,⟨fun f v=>bg v,I,E⟩⟩;refine(h.gx.mono fun f _ c=>?_).trans (o.mono fun f _ c=>bf (bf (bf (bf (by omega)))));rcases c with c|c|c|c
 ·exact bg c
 ·exact bf (bg (by rw[c];exact G))
 ·exact bf (bf (bg (by rw[c];exact J)))
 ·exact bf (bf (bf (bf c)))
theorem KR(c:iW a (ai none 0 0) false false b):(Mm b a e O z0).drew.heap[a]? =some (.cells #[e,.bool O,.bool z0] 46 (0,0)):=by
 have d:(Mm b a e O z0).heap[a]? =some (.cells #[e,.bool O,.bool z0] 46 (0,0)):=by simpa using fT (fT (fT c 0 e) 1 (.bool O)) 2 (.bool z0)
 exact d
theorem qF(c:iW a (ai none 0 0) false false b):(Mm b a e O z0).heap[a]? =some (.cells #[e,.bool O,.bool z0] 46 (0,0)):=by simpa using fT (fT (fT c 0 e) 1 (.bool O)) 2 (.bool z0)
theorem qE:gm (· = a) b (((b.setCell (Ad a 0) e).setCell (Ad a 1) h).setCell (Ad a 2) q):=
 ((go (Below.refl _ _) _ _).trans (go (Below.refl _ _) _ _)).trans (go (Below.refl _ _) _ _)
theorem KQ:gm (· = a) b (((b.setCell (Ad a 0) e).setCell (Ad a 1) h).setCell (Ad a 2) q).drew:=
 (((go (Below.refl _ _) _ _).trans (go (Below.refl _ _) _ _)).trans (go (Below.refl _ _) _ _)).trans (gm.fU (fQ (Below.refl _ _) _))
theorem Lv{k:gg}(G:gF b k f m v e h z7 out t)(q:gD l u k)(d6:l<=1125899906841000)(a9:ja k.fN c=some d)(L:k.fN[d]? =some j)(H:m[d]? =some cb)(Q:v[d]? =some sr)(b2:j.fY=true)(o:j.fM[a]? =some N)(b1:0<=g/\g<=9223372036854775807):
  aL ab 162 #[Pt f,II c,II (a:Int),II g] b fun c3 d3=>uw b f m v e (0,(gz N g).1,{k with fN:=k.fN.set d (lA k.c j a N g).1},(lA k.c j a N g).2) c3 d3:=by
 have M:=bS L;have A:=q.ok j M;have K:=q.inv j M;have s:=K.str N (bS o);have c7:a<j.fM.length:=(bo.1 o).1;have c9:=s.read;have e0:=s.len;have e1:=s.rn;have d7:=q.cfg.c1;have d8:=q.cfg.c2;obtain⟨B,C,_,Z,_,_⟩:=t_ K.i A o (tf s) (qg) (by omega);obtain⟨b9,a0,_,a1,_⟩:=vC B C (by omega);have a2:({j with fM:=j.fM.set a (jq N 0)}:fV)=j:=by
  have:jq N 0=N:=by simp[jq]
  rw[this,ia o]
 have y:=fK q;have b7:=fK (cA b (.cells L4 46));go_enter func162,ntmps162;show eO ab (lK f162) _ _ _;rw[<-PF];refine PL (fun x W=>?_) (by kernel_rfl) G q a9 L H Q b2 o b1.1;rw[<-PG];refine PM (u3:=⟨b,k,d,f,cb,sr,m,v,e,b.heap.size+1,sr⟩) (j:=j) (N:=N) (fun n X=>?_) x o s.OE ⟨c9,by omega⟩ (by omega) b1 (by rw[a2];exact W);rw[<-PH];refine PN (fun x S=>?_) n o X;rw[<-PI];refine PO (g:=l) (fun n T=>?_) x ⟨c7,A.lu.2⟩ S (tf s) A (by omega) y.out.cfg;rw[<-PJ];refine PP (g:=l+20) (fun x U=>?_) n T B C (by omega) (bZ Z (by omega)) y.out.cfg;rw[<-PK];refine PQ (g:=l+40) (@fun b8 _ _ d4 n w Y=>?_) x U (a0.mono (by omega)) (by omega) (bZ a1 (by omega)) y.out.cfg;clear W X S T U;obtain⟨b3,b5,b4,d0,b0⟩:=w.out.done (MZ:=v) Y.out (bS H) (bS Q);have a8:=w.out.mM;obtain⟨a6,a7,rfl⟩:=gB a8;obtain⟨a3,a4,a5,_⟩:=w.out.gR.cell;obtain⟨c4,c5,c6,d5⟩:=w.out.res.cell;have b6:=fK w.out.res;have V:Hid (∀z:aK,gm (· = b.heap.size) d4 z->uw b f m v e (0,(gz N g).1,{k with fN:=k.fN.set d (lA k.c j a N g).1},(lA k.c j a N g).2) (.returned (.tuple #[.agg #[.slice a6 (gz N g).1.bytes.length a7,.bool (gz N g).1.fin,.bool (gz N g).1.oC],.slice b3 b5 b4,II 0])) z):=by intro z n;obtain⟨d1,d2⟩:=b0 z n;exact⟨_,_,rfl,d1,d2⟩
 obtain⟨E,J⟩:∃E,(gz N g).1.bytes.length=E:=⟨_,rfl⟩;obtain⟨D,I⟩:∃D,(gz N g).1.fin=D:=⟨_,rfl⟩;obtain⟨R,O⟩:∃R,(gz N g).1.oC=R:=⟨_,rfl⟩;rw[J,I,O]at V;dsimp only at d0 a3 a4 a5 c4 c5 c6 d5;rw[J]at a3;rw[I]at a4;rw[O]at a5;have c8:f≠b.heap.size:=by have:=(bn.1 G.iN).1;omega
 have d9:b.heap.size≠f:=Ne.symm c8;clear b0 w Y b7 y a8 J I O G q a9 L H Q b2 o M A K s B C Z b9 a0 a1 a2;apply Ff _ n;clear n x b8;iterate 265 intro _
 show eO ab (eK _ Code.ret) _ _ _;dsimp only;go_wp2_with fail;go_region;go_wp2_with fail;refine cz (hQ (y5:=ab) Tryz.results162 b.heap.size 46 #[.slice a6 E a7,.bool D,.bool R] (0,0) _ (.slice b3 b5 b4) (II 0) (by kernel_rfl) (by kernel_rfl) (by kernel_rfl) (KR b6.out) underlying46 rfl (by kernel_rfl)) rfl ?_;exact V.out _ (KQ)
theorem Lu{j:Int}(w:gF b p a m v e h d out t){x:Int}(D:gD u x p)(c5:u<=1125899906841000)(d0:j<=9223372036854775807):
  aL ab 162 #[Pt a,II c,II g,II j] b fun k d2=>uw b a m v e (kH p c g j) k d2:=by
 have b1:Bw b (b.alloc (.cells #[ai none 0 0,.bool false,.bool false] 46)):=fO b _;have X:=w.below b1;have e2:a<b.heap.size:=(bn.1 w.iN).1;have Q:(b.alloc (.cells #[ai none 0 0,.bool false,.bool false] 46)).cell? (Ad a 13)=some h:=by simp only[aD,X.iN];simp[gh,g_.cells]
 have T:mc (b.alloc (.cells #[ai none 0 0,.bool false,.bool false] 46)) a 13:=cx _ a 13 _ _ X.iN;obtain⟨b5,b2⟩:=w.reset;have b6:(b.setCell (Ad a 13) (ai none 0 0)).heap.size=b.heap.size:=by simp
 have Y:Below (b.setCell (Ad a 13) (ai none 0 0)).heap.size (b.setCell (Ad a 13) (ai none 0 0)) ((b.setCell (Ad a 13) (ai none 0 0)).alloc (.cells #[ai none 0 0,.bool false,.bool false] 46)):=fO _ _;have C:=b5.below Y;have b3:gm (· = a) b ((b.setCell (Ad a 13) (ai none 0 0)).alloc (.cells #[ai none 0 0,.bool false,.bool false] 46)):=b2.trans (gm.fU Y);have a2:Hid (((b.setCell (Ad a 13) (ai none 0 0)).alloc (.cells #[ai none 0 0,.bool false,.bool false] 46)).heap[b.heap.size]? =some (.cells #[ai none 0 0,.bool false,.bool false] 46 (0,0))):=by have b8:=cA (b.setCell (Ad a 13) (ai none 0 0)) (.cells #[ai none 0 0,.bool false,.bool false] 46);rw[b6]at b8;exact b8
 have N:Hid (∀(a1:Int) (W:aK),gm (· = b.heap.size) ((b.setCell (Ad a 13) (ai none 0 0)).alloc (.cells #[ai none 0 0,.bool false,.bool false] 46)) W->uw b a m v e (a1,kK,p,[]) (.returned (.tuple #[.agg #[ai none 0 0,.bool false,.bool false],ai none 0 0,II a1])) W):=fun a1 W a9=>by
  have Z:∀{k:bG},k≠46->∀q a4 a5,((b.setCell (Ad a 13) (ai none 0 0)).alloc (.cells #[ai none 0 0,.bool false,.bool false] 46)).heap[q]? =some (.cells a4 k a5)->¬q=b.heap.size:=fun a0 q a4 a5 n k=>by rw[k,a2.out]at n;simp only[Option.some.injEq,Obj.cells.injEq]at n;exact a0 n.2.1.symm
  exact⟨⟨_,_,rfl,ak _ _ _ _,⟨m,v,e,_,[],C.Ms a9 (fun a0 _=>Z a0) (bg rfl),bg rfl,(b3.mono fun q _ k=>bg k).trans (a9.mono fun q _ k=>bf (bf (bf (bf (by omega))))),Bs.refl _ _ _ _⟩⟩⟩
 have H:Hid (iW b.heap.size (ai none 0 0) false false ((b.setCell (Ad a 13) (ai none 0 0)).alloc (.cells #[ai none 0 0,.bool false,.bool false] 46))):=a2.out;obtain⟨d4,d5,d6,e5⟩:=H.out.cell;generalize b0:(b.setCell (Ad a 13) (ai none 0 0)).alloc (.cells #[ai none 0 0,.bool false,.bool false] 46)=c2 at *
 have O:=fK b0;obtain⟨c4,a3,L⟩:=C.view;have I:p.fN.length<=1000:=by have e1:=D.tz;have e0:=D.cfg.c0;omega
 have z:=jY (p:=p) (a:=a) (m:=m) (R:=c4) (d:=a3) c L I;clear b1 X b5 b2 b6 Y b3 b0;rcases lL (y4:=p.fN) (c:=c) with⟨o,Z⟩|⟨q,y,o,n,U⟩
 ·rw[o]at z;have b4:ld m none=ag none:=rfl;rw[b4]at z;have s:=fK z;have c3:∀B:aK,(binOp .eql 244 (ag none) (ag none)).run ab B=.ok (.bool true) B:=fun B=>by first|exact eQ B 244 none nB|kernel_rfl
  have f:kH p c g j=(3,kK,p,[]):=by unfold kH;rw[o]
  rw[f];clear f w C D o L z I Z b4;go_enter func162,ntmps162;go_wp2_with fail;rw[O.out];refine s.out.mono ?_;rintro k V ⟨rfl,rfl⟩;clear s Q T;go_wp2_with fail;refine cz (hQ (y5:=ab) Tryz.results162 b.heap.size 46 #[ai none 0 0,.bool false,.bool false] (0,0) _ (ai none 0 0) (II 3) (by kernel_rfl) (by kernel_rfl) (by kernel_rfl) (qF H.out) underlying46 rfl (by kernel_rfl)) rfl ?_;exact N.out 3 _ (qE)
 ·have c8:=w.iD;have c9:=w.jv;have c7:q<p.fN.length:=(bo.1 n).1;obtain⟨cb,E⟩:∃cb,m[q]? =some cb:=⟨_,ap (by omega)⟩;obtain⟨sr,J⟩:∃sr,v[q]? =some sr:=⟨_,ap (by omega)⟩;have R:ld m (some q)=Pt cb:=by simp[ld,List.getD,E]
  rw[o,R]at z;have s:=fK z;have c3:∀B:aK,(binOp .eql 244 (Pt cb) (ag none)).run ab B=.ok (.bool false) B:=fun B=>by first|exact eQ B 244 (some (Ad cb 0)) nB|kernel_rfl
  obtain⟨d1,e4,d3,K⟩:=(C.iq q y cb sr n E J).view;have e3:CV c2 cb 9 (ai (some (Ad sr 0)) y.fM.length d1):=K.cell 9;have b9:CV c2 cb 2 (.bool y.fY):=K.cell 2;clear c8 c9 c7;cases A:y.fY with
  |false=>
   rw[A]at b9;have f:kH p c g j=(3,kK,p,[]):=by unfold kH;rw[o];simp only;rw[n];simp only;rw[A,if_pos rfl]
   rw[f];clear f w C D o L z I n U E J R K A;go_enter func162,ntmps162;go_wp2_with fail;rw[O.out];refine s.out.mono ?_;rintro k V ⟨rfl,rfl⟩;clear s Q T;go_wp2_with fail;refine cz (hQ (y5:=ab) Tryz.results162 b.heap.size 46 #[ai none 0 0,.bool false,.bool false] (0,0) _ (ai none 0 0) (II 3) (by kernel_rfl) (by kernel_rfl) (by kernel_rfl) (qF H.out) underlying46 rfl (by kernel_rfl)) rfl ?_;exact N.out 3 _ (qE)
  |true=>
   rw[A]at b9;have G:Hid (g<0\/(y.fM.length:Int)<=g\/j<0->kH p c g j=(2,kK,p,[])):=fun c6=>by unfold kH;rw[o];simp only;rw[n];simp only;rw[A,if_neg (by decide),if_pos c6]
   by_cases a6:g<0
   ·have d7:decide (g<0)=true:=decide_eq_true a6;have f:kH p c g j=(2,kK,p,[]):=by exact G.out (bg a6)
    rw[f];clear f w C D o L z I n U E J R K A G;go_enter func162,ntmps162;go_wp2_with fail;rw[O.out];refine s.out.mono ?_;rintro k V ⟨rfl,rfl⟩;clear s Q T;go_wp2_with fail;refine cz (hQ (y5:=ab) Tryz.results162 b.heap.size 46 #[ai none 0 0,.bool false,.bool false] (0,0) _ (ai none 0 0) (II 2) (by kernel_rfl) (by kernel_rfl) (by kernel_rfl) (qF H.out) underlying46 rfl (by kernel_rfl)) rfl ?_;exact N.out 2 _ (qE)
   ·by_cases a7:(y.fM.length:Int)<=g
    ·have d8:decide ((y.fM.length:Int)<=g)=true:=decide_eq_true a7;have f:kH p c g j=(2,kK,p,[]):=by exact G.out (bf (bg a7))
     rw[f];clear f w C D o L z I n U E J R K A G;go_enter func162,ntmps162;go_wp2_with fail;rw[O.out];refine s.out.mono ?_;rintro k V ⟨rfl,rfl⟩;clear s Q T;go_wp2_with fail;refine cz (hQ (y5:=ab) Tryz.results162 b.heap.size 46 #[ai none 0 0,.bool false,.bool false] (0,0) _ (ai none 0 0) (II 2) (by kernel_rfl) (by kernel_rfl) (by kernel_rfl) (qF H.out) underlying46 rfl (by kernel_rfl)) rfl ?_;exact N.out 2 _ (qE)
    ·by_cases a8:j<0
     ·have d9:decide (j<0)=true:=decide_eq_true a8;have f:kH p c g j=(2,kK,p,[]):=by exact G.out (bf (bf a8))
      rw[f];clear f w C D o L z I n U E J R K A G;go_enter func162,ntmps162;go_wp2_with fail;rw[O.out];refine s.out.mono ?_;rintro k V ⟨rfl,rfl⟩;clear s Q T;go_wp2_with fail;refine cz (hQ (y5:=ab) Tryz.results162 b.heap.size 46 #[ai none 0 0,.bool false,.bool false] (0,0) _ (ai none 0 0) (II 2) (by kernel_rfl) (by kernel_rfl) (by kernel_rfl) (qF H.out) underlying46 rfl (by kernel_rfl)) rfl ?_;exact N.out 2 _ (qE)
     ·obtain⟨M,rfl⟩:∃M:Nat,g=(M:Int):=⟨g.toNat,by omega⟩;obtain⟨S,b7⟩:∃S,y.fM[M]? =some S:=⟨_,ap (by omega)⟩;have f:kH p c (M:Int) j=(0,(gz S j).1,{p with fN:=p.fN.set q (lA p.c y M S j).1},(lA p.c y M S j).2):=by unfold kH;rw[o];simp only;rw[n];simp only[Int.toNat_natCast];rw[A,if_neg (by decide),if_neg (by omega),b7]
      rw[f];exact Lv w D c5 o n E J A b7 ⟨by omega,d0⟩
theorem Lf{t8 k:aK}{r:Int×oD×gg×List (Int×List Int)}{v2:Ending}{B:List (Int×aM)}(a6:ji a c g b z3)(J:Bw b w)(A:ux a w z3.sb z3.cm z3.wv z3.jf z3.xs r v2 z5)(p:Bw z5 k)(y:gF k z3.s z3.rb z3.rV z3.ke z3.cv h d B t)(a0:Br k z3.rb z3.rV z3.ke z3.cv r.2.2.1 r.2.2.2 e t8)(X:gD l u r.2.2.1):
  ∃x z P out o,v2=.returned (.tuple #[.agg #[x,.bool r.2.1.fin,.bool r.2.1.oC],z,II r.1])/\kD (a+2) l u b t8 z3 P w.heap.size k.heap.size z e out o r.2.2.2/\gm z3.F w t8/\gm z3.F k t8/\t8.ownsRow w.heap.size 5 1 x r.2.1.bytes.length (U8 r.2.1.bytes)/\(∀f,x.ownBlock=some f->f<z5.heap.size/\¬me P.xs f/\∀(v:Nat) m,out[v]? =some m->m.2.ownBlock≠some f):=by
 obtain⟨x,z,S,R,rfl,_,O,⟨out,a7,a5,L⟩,a9,Y,a4,b0⟩:=A.ex;have b3:=J.size;obtain⟨E,Q,H,b6,b2,C,b1,a3,D⟩:=a0;have q:gm (wW z3.rb z3.rV z3.ke z3.cv) k t8:=a3.mono fun f j v2=>by
  rcases v2 with v2|v2|v2|v2|v2
  ·exact bg v2
  ·exact bf (bg v2)
  ·exact bf (bf (bg v2))
  ·exact bf (bf (bf v2))
  ·omega
 have b4:=A.gx.size;have b5:=p.size;obtain⟨o,a8,a1⟩:∃o,t8.ownsRow k.heap.size 60 2 e o.length (gj o)/\nx t8 k.heap.size o r.2.2.2:=by
  rcases b1 with rfl|⟨rfl,U⟩
  ·exact⟨b2,C.jN,C.mM⟩
  ·exact⟨[],ak _ _ _ _,by rw[U];exact⟨rfl,fun i m b7 n=>(by simp at n)⟩⟩
 have Z:=Y.below p;have N:=gp a7 p;have M:=kw.gx a5 (gm.fU (F:=fun _=>False) p) (fun _ _ _ _ v2=>v2);have W:∀f,(gU.mk z3.sb z3.cm z3.wv z3.jf S R z3.rb E Q H r.2.2.1).F f->z3.F f\/b.heap.size<=f:=by
  rintro f (v2|v2)
  ·rcases a4 f v2 with v2|v2
   ·exact bg (bg v2)
   omega
  ·rcases v2 with v2|v2|v2|v2
   ·exact bg (bf (bg v2))
   ·rcases D.1 f v2 with v2|v2
    ·exact bg (bf (bf (bg v2)))
    omega
   ·rcases D.2.1 f v2 with v2|v2
    ·exact bg (bf (bf (bf (bg v2))))
    omega
   ·rcases D.2.2 f v2 with v2|v2
    ·exact bg (bf (bf (bf (bf v2))))
    omega
 have a2:gm z3.F w k:=(A.gx.mono fun f _ v2=>bg v2).trans (gm.fU p);have K:gm z3.F w t8:=a2.andThen q (fun f _ v2=>bf v2);refine⟨x,z,⟨z3.sb,z3.cm,z3.wv,z3.jf,S,R,z3.rb,E,Q,H,r.2.2.1⟩,out,o,rfl,⟨Z.mo y q,⟨_,_,C⟩,X,⟨rfl,rfl⟩,(gm.fU J).trans K,W,gI N q (fun f G I j=>lI y j (by simp[ma])),M.gx q (fun f G I j=>lI y j (by simp[ma])),?_,fun v m f n j V=>L v m f n j (bg V),?_,a8,a1⟩,K,q.mono fun f _ v2=>bf v2,gI (gp O p) q (fun f G I j=>lI y j (by simp[ma])),fun f j=>⟨?_,a9 f j,fun v m n v2=>L v m f n v2 (bf j)⟩⟩
 ·rintro f (v2|⟨v,m,n,v2⟩)
  ·obtain⟨T,v2⟩:=fX N v2;grind
  ·exact(M.ge n v2).2
 ·intro f j;rcases b0 f j with v2|v2
  ·exact bg (sU a6.prog v2)
  ·exact bf v2
 ·obtain⟨T,v2⟩:=fX O j;grind
theorem kD.Px{M L:Int}{p:gU}{v:aM}{v3:List (Int×aM)}(h:kD a M L b w p z3 d f v e out v3 t){base k m:Nat}{Q B:aM}(E:WL w base n Q q B k m o y)(T:∀c,mY n q B c->c<b.heap.size)(h0:b.heap.size<=f)(h1:b.heap.size<=d)(D:gm F w z5)(C:∀c,F c->mY n q B c\/(d<=c/\c<f/\∃l g,w.heap[c]? =some (.cells l g (0,0))/\(g=60\/(g=5/\¬me z3.xs c)))):ji a M L z5 z3/\gm (fun c=>p.F c\/mY n q B c) b z5:=by
 obtain⟨S,R,H⟩:=h.ref;have I:∀c l g s,w.heap[c]? =some (.cells l g s)->g=294\/g=3->¬F c:=by
  intro c l g s j O z;rcases C c z with u|⟨_,_,K,N,x,A⟩
  ·rcases O with rfl|rfl<;>exact E.B' j (by decide) (by decide) (by decide) u
  grind
 have G:∀c,z3.F c->¬F c:=by
  intro c j z;obtain⟨l,g,u,x⟩:∃l g,w.heap[c]? =some (.cells l g (0,0))/\ma g:=by
   rcases C c z with u|⟨_,_,l,g,x,A⟩
   ·obtain⟨J,g,x,A⟩:=E.type u;exact⟨J,g,x,by rcases A with rfl|rfl|rfl<;>simp[ma]⟩
   ·exact⟨l,g,x,by rcases A with rfl|⟨rfl,_⟩<;>simp[ma]⟩
  rcases j with j|j
  ·exact ny h.prog u (bg x) j
  ·exact lI H u x j
 refine⟨⟨h.prog.BC D (fun c j=>G c (bg j)) (fun c l s j P z=>?_),⟨S,f,R,t,H.KB D (fun c j=>G c (bf j)) (fun c l s j=>I c l _ s j (bg rfl)) (fun c l s j=>I c l _ s j (bf rfl)) (fun c l g s j _ _ z=>?_)⟩,h.inv⟩,(h.gx.mono fun c _ g=>bg g).andThen D (fun c j z=>?_)⟩
 ·rcases C c z with u|⟨_,_,K,N,x,A⟩
  ·exact E.B' P (by decide) (by decide) (by decide) u
  grind
 ·grind
 grind
theorem Ly:nN 3 (kH p c g l).2.2.2:=by
 have m:∀(e a:Int),(([e]:List Int)++gE a).length<=500:=fun e a=>by have:=(hJ a).1;grind
 have s:∀(e a h:Int),(([e]:List Int)++gE a++gE h).length<=500:=fun e a h=>by have j:=(hJ a).1;have k:=(hJ h).1;grind
 have q:∀(b:g_) (f:fV) (i:Nat) (a:gs),nN 3 (lA b f i a l).2:=fun b f i a=>by
  have j:nN 1 (kl b f i (gz a l).2).2:=by
   unfold kl;split
   ·exact nb nN.nil (s _ _ _)
   ·exact nN.nil.mono (by omega)
  have k:∀r:fV×List (Int×List Int),nN 1 r.2->nN 2 (mi b r).2:=fun r d=>by
   unfold mi;split
   ·exact nb d (m _ _)
   ·exact d.mono (by omega)
  have o:∀(n:Bool) (r:fV×List (Int×List Int)),nN 2 r.2->nN 3 (iB b n r).2:=fun n r d=>by
   unfold iB;split
   ·exact nb d (m _ _)
   ·exact d.mono (by omega)
  exact o _ _ (k _ j)
 unfold kH;split
 ·exact nN.nil.mono (by omega)
 ·split
  ·exact nN.nil.mono (by omega)
  ·split
   ·exact nN.nil.mono (by omega)
   ·split
    ·exact nN.nil.mono (by omega)
    ·split
     ·exact nN.nil.mono (by omega)
     ·exact q _ _ _ _
theorem Gy(d:gD c g p){x:Int}:(kH p l u x).2.1.bytes.length<=1100000000:=by
 unfold kH;split
 ·simp[kK]
 ·split
  ·simp[kK]
  ·next b e=>
   split
   ·simp[kK]
   ·split
    ·simp[kK]
    ·split
     ·simp[kK]
     ·next a f=>
      have h:=((d.inv b (bS e)).str a (bS f)).ok.bytes;show(a.bytes.take (jo a x)).length<=_;rw[dB];omega
theorem I_{x c1:Int}(h2:iF a x4 v1 b d f n A h q M o y z4)(hi:z4[i]? =some z3)(l6:-9223372036854775808<=l/\l<=9223372036854775807)(i5:-9223372036854775808<=x/\x<=9223372036854775807)(l3:x4<=1125899906841000)(l4:a+2<1125899906842624)(o8:n<=3900000000000)(m0:A<=4000000000000):
  aL ab 124 #[Pt f,.agg #[Pt z3.sb,Pt z3.rb],.agg (zf c g l u x c0 c1 H I J z9 z8 y7 y6 x5 e)] b
   fun j k4=>j=.returned (.bool true)/\kx (a+2) (x4+60) v1 d f n A z4.length h (PW z3 f q M) b k4:=by
 have b1:=fK h2;clear h2;go_enter func124,ntmps124;go_wp2_with fail;have a1:Hid (Bw b ((qu b z3).alloc (.cells (zf c g l u x c0 c1 H I J z9 z8 y7 y6 x5 e) 90))/\((qu b z3).alloc (.cells (zf c g l u x c0 c1 H I J z9 z8 y7 y6 x5 e) 90)).cell? (gf b 1)=some (Pt z3.rb)/\((qu b z3).alloc (.cells (zf c g l u x c0 c1 H I J z9 z8 y7 y6 x5 e) 90)).cell? (Ad (b.heap.size+1) 2)=some (II l)/\((qu b z3).alloc (.cells (zf c g l u x c0 c1 H I J z9 z8 y7 y6 x5 e) 90)).cell? (Ad (b.heap.size+1) 3)=some (II u)/\((qu b z3).alloc (.cells (zf c g l u x c0 c1 H I J z9 z8 y7 y6 x5 e) 90)).cell? (Ad (b.heap.size+1) 4)=some (II x)/\((qu b z3).alloc (.cells (zf c g l u x c0 c1 H I J z9 z8 y7 y6 x5 e) 90)).heap.size=b.heap.size+2):=by refine⟨fP (fO b _) (fO _ _),?_,?_,?_,?_,?_⟩<;>simp
 generalize ((qu b z3).alloc (.cells (zf c g l u x c0 c1 H I J z9 z8 y7 y6 x5 e) 90))=O at a1⊢;have d3:=a1.out.1;have U:=b1.out.below d3;have R:=U.pair i z3 hi;have p6:=a1.out.2.2.2.2.2;refine(JG (a:=a) (d:=z3.sb) (p:=z3.s) (f:=z3.cm) (e:=z3.wv) (m:=z3.jf) (Q:=z3.xs) (v:=z3.ws) (c:=l) (q:=u) (l:=x) (b:=O) R.prog R.inv (by omega) l4 l6 i5).mono ?_;intro j C V;have j8:=(jG (b1.out.pair i z3 hi) V.gx (d:=b.heap.size) (ar _) (by omega) 1).trans a1.out.2.1;have j9:=(jG (b1.out.pair i z3 hi) V.gx (d:=b.heap.size+1) (by omega) (by omega) 2).trans a1.out.2.2.1;have k0:=(jG (b1.out.pair i z3 hi) V.gx (d:=b.heap.size+1) (by omega) (by omega) 3).trans a1.out.2.2.2.1;have k1:=(jG (b1.out.pair i z3 hi) V.gx (d:=b.heap.size+1) (by omega) (by omega) 4).trans a1.out.2.2.2.2.1;obtain⟨j7,j6,n4,n5,f4⟩:=R.mo V.gx;have d6:=Lz (l:=l) (u:=u) (x:=x) R.inv;have d5:=Ly (p:=z3.s) (c:=l) (g:=u) (l:=x);have d7:=Gy (p:=z3.s) R.inv (l:=l) (u:=u) (x:=x);have f1:=fun l1 l5=>Lu (p:=z3.s) (c:=l) (g:=u) (j:=x) (a:=z3.rb) (d:=j6) (m:=z3.rV) (v:=z3.ke) (e:=z3.cv) (h:=j7) (out:=n4) (t:=n5) (b:=l1) l5 R.inv l3 i5.2;obtain⟨c9,f0,f7,W,i8⟩:∃c9 f0 f7 W,kH z3.s l u x=(c9,f0,f7,W):=⟨_,_,_,_,rfl⟩;obtain⟨a3,t,v⟩:=f0;rw[i8]at V d6 d5 d7 f1;obtain⟨q3,q7,_,_,K,⟨c4,c6,c5,m2⟩,f6,_⟩:=V.ex;subst K;subst m2;obtain⟨D,E,rfl⟩:=gB f6;simp only at d6 d5 d7 f6;obtain⟨m,a7⟩:∃m,a3.length=m:=⟨_,rfl⟩;have a4:Bw C (sn C D m E t v):=fO C _;have g8:=fK (f1 (sn C D m E t v) (f4.below a4));have g6:Hid (∀(g0:aM) (w:aK),Br (sn C D m E t v) z3.rb z3.rV z3.ke z3.cv f7 W g0 w->∃c3 out c2,kD (a+2) (x4+60) v1 O w z3 c3 O.heap.size (sn C D m E t v).heap.size (.slice c4 c6 c5) g0 out c2 W/\gm z3.F O w/\gm z3.F (sn C D m E t v) w/\w.ownsRow O.heap.size 5 1 (.slice D m E) a3.length (U8 a3)/\∀k,(aJ D m E).ownBlock=some k->k<C.heap.size/\¬me c3.xs k/\∀(z:Nat) L,out[z]? =some L->L.2.ownBlock≠some k):=by intro g0 w d2;obtain⟨q4,q6,c3,out,c2,K,n0,n1,n2,j4,j5⟩:=Lf R (Below.refl _ _) V a4 (f4.below a4) d2 d6;simp only[Ending.returned.injEq,Value.tuple.injEq,Array.mk.injEq,List.cons.injEq,Value.agg.injEq,and_true]at K;obtain⟨rfl,rfl⟩:=K;rw[a7]at j4 j5;exact⟨c3,out,c2,n0,n1,n2,by rw[a7];exact j4,j5⟩
 have m4:=fL j8 a4;have m5:=fL j9 a4;have m6:=fL k0 a4;have m7:=fL k1 a4;have i2:(sn C D m E t v).heap[C.heap.size]? =some (.cells #[.slice D m E,.bool t,.bool v] 46 (0,0)):=cA C _;have p1:=V.gx.size;have p0:=d3.size;have e6:=fK d5;have c7:=fK U;have k5:=fK d3;have g3:=fK i2;have h0:=fK d7;have k9:Hid (∀k,z3.F k->k<b.heap.size):=fun k B=>(b1.out.pair i z3 hi).lt B;rw[a7]at h0;clear V f4 d5 d6 i8 U d3 R f1 f6 j8 j9 k0 k1 i2 d7;go_wp2_with fail;refine g8.out.mono ?_;intro j w d2;obtain⟨q5,n6,rfl,d8,h3⟩:=d2.ex;obtain⟨c3,out,c2,p,h9,f2,j1,vJ⟩:=g6.out n6 w h3;obtain⟨q2,q1,rfl⟩:=gr p.Et;simp only at d8;obtain⟨P,Q,rfl⟩:=gB d8;rw[a7];have i9:O.heap.size<=(sn C D m E t v).heap.size:=by simp;omega
 have p3:=f2.size;have a5:Bw w (sn w P m Q t v):=fO w _;have b3:=p.below a5 i9;have f3:w.heap[C.heap.size]? =some (.cells #[.slice D m E,.bool t,.bool v] 46 (0,0)):=(f2.block C.heap.size (by simp) (fun j=>by have:=k9.out _ j;omega)).trans g3.out;have i1:=(a5.block C.heap.size (bn.1 f3).1).trans f3;have i3:(sn w P m Q t v).heap[w.heap.size]? =some (.cells #[.slice P m Q,.bool t,.bool v] 46 (0,0)):=cA w _;have g4:=fK (s_ out c2 W O.heap.size (sn C D m E t v).heap.size (sn w P m Q t v) b3.row b3.ow.by b3.Et b3.M6 (by have:=e6.out.1;omega));have b4:=gp j1 a5;have b5:=gp d8 a5;rw[a7]at b5;have h7:=h9.trans (gm.fU a5);have g5:=fK b3;have e7:=fK (And.intro i1 i3);have e9:=fK (And.intro b4 b5);have g1:=fK h7;have e8:=fK vJ;clear g8 g6 d2 p h9 f2 j1 d8 h3 b3 f3 i1 i3 b4 b5 h7 vJ m4 m5 m6 m7 g3;go_wp2_with fail;refine g4.out.mono ?_;rintro j a9 ⟨rfl,b9,rfl⟩;clear g4;have b7:Below (sn w P m Q t v).heap.size (sn w P m Q t v) ((sn w P m Q t v).drewN b9):=fQ (Below.refl _ _) b9;have h4:=g5.out.below b7 i9;have h5:iW C.heap.size (.slice D m E) t v ((sn w P m Q t v).drewN b9):=e7.out.1;have h6:iW w.heap.size (.slice P m Q) t v ((sn w P m Q t v).drewN b9):=e7.out.2;have b4:=gp e9.out.1 b7;have b5:=gp e9.out.2 b7;have h8:=g1.out.trans (gm.fU b7);have p4:=a5.size;clear g5 e7 e9 g1 b7 a5;generalize (sn w P m Q t v).drewN b9=a9 at *
 obtain⟨o0,o1,o2,_⟩:=h5.cell;obtain⟨p8,p9,q0,_⟩:=h6.cell;have m8:(convert 44 9 (.slice D m E)).run ab a9=.ok (.string (strOfNums a3)) a9:=ot b4;have m9:(convert 44 9 (.slice P m Q)).run ab a9=.ok (.string (strOfNums a3)) a9:=ot (by rw[a7];exact b5);have c8:=fK h4;have b2:=fK b4;have n7:=fK h8;obtain⟨k2,j0⟩:∃k2,strOfNums a3=k2:=⟨_,rfl⟩;rw[j0]at m8 m9;have o6:(t==t)=true:=by simp
 have o7:(v==v)=true:=by simp
 have o4:(c9==c9)=true:=by simp
 clear h4 b4 b5 h8 h5 h6 j0;have U:=c7.out;have R:=U.pair i z3 hi;have S:=U.wl.typed c8.out.gx (fun k n8 j n9 B K=>R.law B (by rcases K with rfl|rfl|rfl|rfl|rfl<;>simp[ma]));have f5:∀{f9:bG} {f8 b6:Nat} {e5:List aM} {Z:aM} {k:Nat},O.ownsRow d f9 f8 Z b6 e5->Z.ownBlock=some k->k<O.heap.size:=fun a8 B=>by obtain⟨a2,j⟩:=fX a8 B;exact(bn.1 j).1
 have o3:=U.og;have p2:=c8.out.gx.size;have o5:=e6.out.1;have o9:out.length=W.length:=c8.out.ow.1;have k6:=fK (rk d f n A m h q M (.slice D m E) o y (U8 a3) a9 S (by omega) (gq (by rw[<-a7]at b2⊢;exact b2.out) (by omega)) (fun z Z k a0 X B K=>by obtain⟨b6,_,_,a8⟩:=q'.pT U.wl a0 X;have d0:=f5 a8 K;have d1:=kL b2.out B;omega) h0.out (by omega));have l0:=fK S;have k8:Hid (∀k,mY f q M k->k<O.heap.size):=fun k B=>by obtain⟨a2,j,X,_⟩:=U.wl.type B;exact(bn.1 X).1
 have g9:Hid (∀(f9:bG) (f8 b6:Nat) (e5:List aM) (Z:aM) (k:Nat),O.ownsRow d f9 f8 Z b6 e5->Z.ownBlock=some k->k<O.heap.size):=fun _ _ _ _ _ _ X d0=>f5 X d0;clear U R S f5;go_wp2_with (go_at_call 110;refine(mv).mono ?_;rintro j k4 ⟨rfl,rfl⟩);refine k6.out.mono ?_;rintro j e4 ⟨rfl,⟨k3,n3,j3,i4,j2⟩,b8⟩;have S:=l0.out;have p:=c8.out;have p5:=b8.size;have p7:o.length=n:=S.oT.1.trans (by omega);have i7:e4.ownsRow O.heap.size 60 2 (.slice c4 c6 c5) out.length (gj out):=gM p.row b8 (fun h1 a6 j=>by
  rcases j with rfl|j|j
  ·exact fR p.row S.gK (by decide) a6
  ·obtain⟨a2,G⟩:=fX S.oT j;exact fR p.row G (by decide) a6
  ·obtain⟨a2,G⟩:=fX b2.out j;exact fR p.row G (by decide) a6)
 have i6:kw e4 O.heap.size out W:=⟨p.ow.1,fun z L T N Y=>⟨(p.ow.2.1 z L T N Y).1,gM (p.ow.2.1 z L T N Y).2 b8 (fun h1 a6 j=>by
  rcases j with rfl|j|j
  ·exact fR (p.ow.2.1 z L T N Y).2 S.gK (by decide) a6
  ·obtain⟨a2,G⟩:=fX S.oT j;exact fR (p.ow.2.1 z L T N Y).2 G (by decide) a6
  ·exact(e8.out h1 j).2.2 z L N a6)⟩,p.ow.2.2⟩
 have g7:=fK (uS d f (n+4) A h k3 M (.slice c4 c6 c5) (o++n3) y out W e4 j3 (by omega) (gq i7 (by omega)) (i6.mono (by omega)) (fun z Z m3 L k a0 X N B K=>by
   have d1:=p.ow.ge N B;by_cases l9:z<o.length
   ·rw[aZ l9]at a0;obtain⟨b6,_,_,a8⟩:=q'.pT c7.out.wl a0 X;have d0:=g9.out _ _ _ _ _ _ a8 K;omega
   ·rw[bN (by omega)]at a0;rcases i4 Z (bS a0) with j|j
    ·rw[j]at K;exact(e8.out k K).2.2 m3 L N B
    ·have:=j k K;omega) (fun z Z k a0 X B K=>by
   obtain⟨b6,_,_,a8⟩:=tH.pT c7.out.wl a0 X;have d0:=g9.out _ _ _ _ _ _ a8 K;have d1:=kL p.row B;omega) (by omega) (fun z T Y=>by have:=e6.out.2 T (bS Y);omega) (by omega) m0)
 have g2:Hid (∀(b0:aK) (e2 e3:aM) (e1 e0:List aM),WL b0 d f h e2 e3 (n+4+4*out.length) (A+4) e1 e0->gm (sg f k3 M (.slice c4 c6 c5) out) e4 b0->kx (a+2) (x4+60) v1 d f n A z4.length h (PW z3 f q M) b b0):=by
  intro b0 e2 e3 e1 e0 d9 d4;have l7:gm (fun k=>sg f q M (.slice c4 c6 c5) out k\/(aJ D m E).ownBlock=some k) a9 b0:=(b8.mono fun k _ j=>by
   rcases j with j|j|j
   ·exact bg (bg j)
   ·exact bg (bf (bg j))
   ·exact bf j).andThen d4 (fun k B j=>by
   rcases j with j|j|j|j|j
   ·exact bg (bg j)
   ·rcases j2 with G|G
    ·exact bg (bf (bg (by rw[<-G];exact j)))
    ·have:=G k j;omega
   ·exact bg (bf (bf (bg j)))
   ·exact bg (bf (bf (bf (bg j))))
   ·exact bg (bf (bf (bf (bf j)))))
  obtain⟨m1,i0⟩:=p.Px S k8.out (by omega) (ar _) l7 (fun k B=>by
   rcases B with(j|j|j|j|⟨z,L,N,j⟩)|j
   ·exact bg (bg j)
   ·exact bg (bf (bg j))
   ·exact bg (bf (bf j))
   ·obtain⟨a2,G⟩:=fX p.row j;exact bf ⟨kL p.row j,p.lt k (bg j),_,_,G,bg rfl⟩
   ·obtain⟨T,Y⟩:∃T,W[z]? =some T:=⟨_,ap (by rw[<-p.ow.1];exact(bo.1 N).1)⟩;obtain⟨a2,G⟩:=fX (p.ow.2.1 z L T N Y).2 j;exact bf ⟨kL (p.ow.2.1 z L T N Y).2 j,p.lt k (bf ⟨z,L,N,j⟩),_,_,G,bf ⟨rfl,p.nu z L k N j⟩⟩
   ·obtain⟨a2,G⟩:=fX b2.out j;have d1:=e8.out k j;exact bf ⟨kL b2.out j,by simp;omega,_,_,G,bf ⟨rfl,d1.2.1⟩⟩)
  have l2:=c7.out.mono (N':=a+2) (M':=x4+60) (L':=v1) (by omega) (by omega) (Int.le_refl _);have l8:=l2.fin hi i0 m1 p.qc p.same.1 p.same.2 d9;exact⟨⟨_,_,_,_,_,_,_,by omega,ar _,by simp,l8⟩,(gm.fU k5.out).trans (i0.mono fun k _ j=>j)⟩
 clear j3 i4 j2 b8 S p i7 i6;go_wp2_with fail;refine g7.out.mono ?_;rintro j b0 ⟨rfl,⟨e2,e3,e1,e0,d9⟩,d4⟩;have k7:=fK (g2.out b0 e2 e3 e1 e0 d9 d4);clear g7 g2 d9 d4;go_wp2_with fail;go_ret;exact⟨rfl,k7.out⟩
theorem EA{c1 G:Int}(m:iF a x5 x4 b d f n A h q M o y z4)(hi:z4[i]? =some z3)(z:-9223372036854775808<=g/\g<=9223372036854775807)(D:-9223372036854775808<=u/\u<=9223372036854775807)(w:x5<=1125899906841000)(x:a+2<1125899906842624)(B:n<=3900000000000)(C:A<=4000000000000):
  aL ab 63 #[Pt f,.agg #[Pt z3.sb,Pt z3.rb],.agg #[II 11,II c,II g,II l,II u,II c0,II c1,II G,II H,II I,II J,II z9,II z8,II y7,II y6,e]] b
   fun k s=>k=.returned (.bool true)/\kx (a+2) (x5+60) x4 d f n A z4.length h (PW z3 f q M) b s:=by
 have t:=fK m;clear m;go_enter func63,ntmps63;go_wp2_with fail;have j:Bw b ((qu b z3).alloc (.cells #[II 11,II c,II g,II l,II u,II c0,II c1,II G,II H,II I,II J,II z9,II z8,II y7,II y6,e] 90)):=fP (fO _ _) (fO _ _);refine(I_ (t.out.below j) hi z D w x B C).mono ?_;rintro k s ⟨rfl,p⟩;have v:=fK (p.pre j);clear p j;go_wp2_with fail;go_ret;exact⟨rfl,v.out⟩
theorem GV{B x c1:Int}(p:iF a x4 v1 b d f n A h q M o y z4)(G:∀m,gm (rR d f) b m->Env m)(a1:sf 1048576 b z4 e)(b6:c<=12)(b0:-9223372036854775808<=B/\B<=9223372036854775807)(Q:-9223372036854775808<=l/\l<=9223372036854775807)(a9:-9223372036854775808<=x/\x<=9223372036854775807)
  (b5:a<=2000000000000) (O:0<=x4/\x4<=2000000000000) (a5:0<=v1/\v1<=2000000000000) (a7:n<=3900000000000) (L:A<=4000000000000) (b7:z4.length<=1000000000):
  aL ab 35 #[Pt f,.agg (zf c B l u x c0 c1 H I J z9 z8 y7 y6 x5 e)] b fun j w=>j=.returned (.bool true)/\qs (a+1048577) (x4+1048676) (v1+2) d f n A z4.length (c=5/\(g_.mk c0 c1 H I J z9 z8 y7 y6 x5).right=true) b w:=by
 have C:∀{r:Prop} {m D:aK},qs a x4 v1 d f n A z4.length r m D->qs (a+1048577) (x4+1048676) (v1+2) d f n A z4.length r m D:=fun p=>p.mono (by omega) (by omega) (by omega);have K:=fO b (.cells (zf c B l u x c0 c1 H I J z9 z8 y7 y6 x5 e) 90);have z:=p.below K;have Y:=z.og;by_cases a8:c<1
 ·refine(JJ p a8).mono ?_;rintro j w ⟨rfl,t⟩;exact⟨rfl,C (t.r fun j=>by omega)⟩
 by_cases b4:c<=4
 ·refine yM (by omega) (by omega) ?_;rcases(show c=1\/c=2\/c=3\/c=4 by omega) with rfl|rfl|rfl|rfl
  ·refine(Gl z.wl Y (by omega)).mono ?_;rintro j w ⟨rfl,t⟩;exact⟨rfl,C ((z.qQ t).r fun j=>by omega)⟩
  ·rcases a1.below K with rfl|⟨a3,cap,U,N,rfl,S,T,E⟩
   ·refine(yq (G _ (gm.fU K)) z.wl).mono ?_;rintro j w ⟨rfl,t⟩;exact⟨rfl,C ((z.qQ t).r fun j=>by omega)⟩
   ·refine(Gk (G _ (gm.fU K)) T.reads z.wl).mono ?_;rintro j w ⟨rfl,t⟩;exact⟨rfl,C ((z.qQ t).r fun j=>by omega)⟩
  ·refine(Ce z.wl Y (by omega)).mono ?_;rintro j w ⟨rfl,t⟩;exact⟨rfl,C ((z.qQ t).r fun j=>by omega)⟩
  ·refine(Cd z.wl).mono ?_;rintro j w ⟨rfl,t⟩;exact⟨rfl,C ((z.qQ t).r fun j=>by omega)⟩
 by_cases a4:c=5
 ·subst a4;refine yM (by omega) (by omega) ?_;refine(Jh (c:=B) (g:=l) (l:=u) (u:=x) (s:=⟨c0,c1,H,I,J,z9,z8,y7,y6,x5⟩) (e:=e) (a:=a) (x:=x4) (E:=v1) (d:=d) (f:=f) (n:=n) (A:=A) (h:=h) (q:=q) (M:=M) (o:=o) (y:=y) (z4:=z4) z O.1 a5.1 (by omega)).mono ?_;rintro j w ⟨rfl,⟨b2,b3,V,W,X,S⟩,R⟩;exact⟨rfl,C ⟨⟨n,A,b2,q,M,o,y,b3,by omega,by omega,V,W,fun j=>X j.2,S⟩,R⟩⟩
 have Z:5<c:=by omega
 rcases Nat.eq_zero_or_pos z4.length with E|b1
 ·obtain rfl:=List.length_eq_zero_iff.1 E;refine(JL p (bf Z)).mono ?_;rintro j w ⟨rfl,t⟩;exact⟨rfl,C (t.r fun j=>by omega)⟩
 have fin:∀{N':Nat} {M' L':Int},N'<=a+1048577->M'<=x4+1048676->L'<=v1+2->
   (∀(i:Nat) v,z4[i]? =some v->∀m,Bw b m->aL ab 63 #[Pt f,.agg #[Pt v.sb,Pt v.rb],.agg (zf c B l u x c0 c1 H I J z9 z8 y7 y6 x5 e)] m fun j w=>j=.returned (.bool true)/\kx N' M' L' d f n A z4.length h (PW v f q M) m w)->
   aL ab 35 #[Pt f,.agg (zf c B l u x c0 c1 H I J z9 z8 y7 y6 x5 e)] b fun j w=>j=.returned (.bool true)/\qs (a+1048577) (x4+1048676) (v1+2) d f n A z4.length (c=5/\(g_.mk c0 c1 H I J z9 z8 y7 y6 x5).right=true) b w:=by
  intro N' M' L' V W X a6;refine(EE p Z b1 (by omega) b0 a6).mono ?_;rintro j w ⟨rfl,t⟩;exact⟨rfl,(t.r fun j=>by omega).mono V W X⟩
 rcases(show c=6\/c=7\/c=8\/c=9\/c=10\/c=11\/c=12 by omega) with rfl|rfl|rfl|rfl|rfl|rfl|rfl
 ·rcases a1 with rfl|⟨a3,cap,U,N,rfl,S,T,E⟩
  ·refine fin (N':=a+1) (M':=x4+100) (L':=v1+2) (by omega) (by omega) (by omega) fun i v hi m k=>?_;exact ui (p.below k) hi (fun D P=>G D ((gm.fU k).trans P)) O.1 (by omega) (by omega) (by omega) (by omega) L
  ·refine fin (N':=a+1+U.length) (M':=x4+U.length+100) (L':=v1+2) (by omega) (by omega) (by omega) fun i v hi m k=>?_;exact yJ (p.below k) hi (L:=N) (fun a2 a0=>⟨Nat.lt_of_lt_of_le (E a2 a0).1 k.size,(E a2 a0).2 i v hi⟩) (T.below k) (fun D P=>G D ((gm.fU k).trans P)) O.1 (by omega) (by omega) (by omega) (by omega) (by omega) L
 ·refine fin (N':=a) (M':=x4) (L':=v1) (by omega) (by omega) (by omega) fun i v hi m k=>?_;by_cases R:v.s.now<=l/\l<=1000000000
  ·exact Co (p.below k) hi R
  ·exact wd (p.below k) hi (by omega)
 ·refine fin (N':=a) (M':=x4) (L':=v1) (by omega) (by omega) (by omega) fun i v hi m k=>?_;exact zD (p.below k) hi
 ·refine fin (N':=a) (M':=x4) (L':=v1) (by omega) (by omega) (by omega) fun i v hi m k=>?_;exact zC (p.below k) hi
 ·refine fin (N':=a) (M':=x4) (L':=v1) (by omega) (by omega) (by omega) fun i v hi m k=>?_;exact Ez (p.below k) hi Q
 ·refine fin (N':=a+2) (M':=x4+60) (L':=v1) (by omega) (by omega) (by omega) fun i v hi m k=>?_;exact EA (p.below k) hi Q a9 (by omega) (by omega) a7 L
 ·refine fin (N':=a) (M':=x4) (L':=v1) (by omega) (by omega) (by omega) fun i v hi m k=>?_;exact Cp (p.below k) hi Q (by omega) (by omega) L
set_option maxRecDepth 20000 in
theorem Ji(h9:Env b)(i6:xE b e v7)(B:∀d∈v7,(Ae d.on/\Ae d.a/\Ae d.nn/\mu 1048576 (fun _=>True) b d.v)/\d.v.oneCell'=true)(o1:v7.length<=1048576):
  aL ab 12 #[e,II 12] b fun f o7=>f=.returned (.bool true)/\Bw b o7:=by
 obtain⟨j5,hi,e5,e6,e7⟩:=info_parts lE;obtain⟨j6,v,e3,e4,j4⟩:=info_parts MK;have l9:=fK h9;have g6:=fK i6;have a9:=fK B;clear h9 i6 B;go_enter func12,ntmps12;go_wp2_with fail;have f6:Bw b ((b.alloc (.cells Kl 85)).alloc (.cells Kj 5))/\WH b.heap.size ((b.alloc (.cells Kl 85)).alloc (.cells Kj 5)):=by
  refine⟨(fO b _).alloc (by simp) _,?_,?_⟩
  ·rw[Below.heap_alloc _ _ _ (by simp)];exact heap_alloc_last b _
  ·have:=heap_alloc_last (b.alloc (.cells Kl 85)) (.cells Kj 5);simpa using this
 generalize (b.alloc (.cells Kl 85)).alloc (.cells Kj 5)=m2 at f6⊢;obtain⟨h4,e2⟩:=f6;refine(AY m2).mono ?_;rintro f o8 ⟨rfl,c7⟩;have h6:=fP h4 c7;have j2:=e2.w_ c7 e2.lt;have b2:=fK j2;clear h4 e2 c7 j2;go_wp2_with fail;refine(yu (c0:=2) (c1:=16) (l:=8) (u:=2) (x:=2) (E:=1) (G:=10) (H:=5) (I:=1000) (J:=0) (z9:=9) (z8:=4) (b:=o8)).mono ?_;rintro f l ⟨q8,rfl,a7,c8⟩;rw[JS]at a7;have d1:=fP h6 c8;have j3:=b2.out.w_ c8 b2.out.lt;have a1:=fK j3;obtain⟨m8,m7,rfl,n4,n5,n6⟩:=iC a7 (by decide);have g9:=fK a7;clear c8 j3 a7 b2 h6;have i7:b.heap.size<=l.heap.size:=d1.size;go_wp2_with (at_builtin;refine wpList_append_own _ rfl _ _ 44 rfl l.heap.size 5 j5 (.int .u8 0) 1 1 underlying44 hi e5 e6 e7 rfl (by decide) (ai (some (gf l 0)) 3 3) 3 (U8 [1,6,9]) rfl (mw l 5 (U8 [1,6,9]) (by decide)) (Ad m8 0) (jg 0 9 4).length m7 (U8 (jg 0 9 4)) rfl (by rw[ir];simp) ((gp g9.out (fO l _)).cells rfl) (ms) (by decide) (by decide) (by simp) ?_;intro o5 H d7 i0 _;refine Hid.out ?_);refine fK ?_;have a4:Bw l H:=(fO l _).grown i0 (by simp) (fun c6 T=>by simp[aq]at T;omega);have h7:=fP d1 a4;have h0:=fK (a1.out.w_ a4 a1.out.lt);have i8:l.heap.size<=H.heap.size:=a4.size;have i5:b.heap.size+1<l.heap.size:=a1.out.lt;clear i0 a1 g9 n4 n5 n6 d1;go_wp2_with (at_builtin;refine wpList_append_own _ rfl _ _ 44 rfl l.heap.size 5 j5 (.int .u8 0) 1 1 underlying44 hi e5 e6 e7 rfl (by decide) o5 _ _ rfl (d7.alloc _) (gf H 0) 5 5 (U8 [4,1,0,1,120]) rfl rfl (gY (b:=H) (z:=5) (o:=(U8 [4,1,0,1,120])) (by decide)) (ms) (by decide) (by decide) (by simp;omega) ?_;intro o6 Z d8 i1 _;refine Hid.out ?_);refine fK ?_;have c9:Below l.heap.size H Z:=((fO H _).mono i8).grown i1 (by simp;omega) (fun c6 T=>(d7.lt c6 T).1);have h8:Bw b Z:=h7.trans (c9.mono i7);have b3:=fK (h0.out.w_ c9 i5);have i3:ka Z o6 Ar:=ka.qf (l:=Ar) (d8) DF (by rw[As];omega);obtain⟨a2,A,rfl⟩:=gB d8;have f9:Hid (ka Z (.slice a2 17 A) Ar):=i3;clear i3;clear i1 c9 h0 d7 a4 h7 d8;go_wp2_with fail;refine(AY Z).mono ?_;rintro f q ⟨rfl,a5⟩;have d2:=fP h8 a5;have b4:=fK (b3.out.w_ a5 b3.out.lt);have g0:=fK (f9.out.below a5);clear b3 a5 h8 f9;go_wp2_with (refine xm rfl (z:=22) (y8:=90) (len:=8) rfl rfl (cells:=(qv (ai (some (xG b)) 12 12) (.slice a2 17 A))) j6 (d:=16) e4 underlying22 v e3 (by decide) (by decide) (by kernel_rfl) ?_;refine Hid.out ?_);refine fK ?_;have i9:=b4.out.lt;have e1:b.heap.size<q.heap.size:=by omega
 generalize d5:(aJ (some (xG b)) 12 12)=o;generalize d4:(aJ a2 17 A)=m;have h5:=d2.alloc (ej e1) (.cells (qv o m) 90);have g7:=fK (g6.out.src h5);have f7:=fK (MT (b:=q) (base:=q.heap.size) (ar _) (a:=o) (h:=m));have g4:=fK (Dj fun d h=>(a9.out d h).2);go_wp2_with (at_builtin;refine vp rfl _ _ (z:=22) rfl (a:=q.heap.size) (y8:=90) j6 (d:=16) (f:=144) underlying22 v e3 e4 j4 rfl (by decide) (h:=(ai (some (gf q 0)) 8 8)) (n:=8) (o:=cellsOf (mj o m)) rfl f7.out (q:=e) (A:=v7.length) (news:=cellsOf v7) rfl g7.out (ph (v7:=v7)) g4.out (by unfold maxLen;omega) (by omega) (by simp) ?_;intro q7 k W i2;refine Hid.out ?_);refine fK ?_;have S:Bw q k:=(fO q _).grown i2 (by simp) (fun c6 T=>by simp[aq]at T;omega);have d0:=fP d2 S;have K:=fK (b4.out.w_ S i9);have g1:=fK (g0.out.below S);have j0:q.heap.size<=k.heap.size:=S.size;obtain⟨O,p1,rfl,p4,n2,n3⟩:=Gg W (by omega);rw[<-xQ]at W;have a6:(mj o m++v7).length=8+v7.length:=by simp[mj];omega
 have g5:Hid (∀d∈mj o m++v7,d.kd<=12->Ae d.on/\Ae d.a/\Ae d.nn/\mu 1048576 (fun g=>¬rR k.heap.size b.heap.size g) k d.v):=by
  intro d h _;rcases bX.1 h with u|u
  ·simp only[mj,List.mem_cons,List.not_mem_nil,or_false]at u;rcases u with rfl|rfl|rfl|rfl|rfl|rfl|rfl|rfl
   ·exact⟨oU rfl rfl,oU rfl rfl,oU rfl rfl,bg rfl⟩
   ·exact⟨oU rfl rfl,oU rfl rfl,oU rfl rfl,bg rfl⟩
   ·refine⟨oU rfl rfl,oU rfl rfl,oU rfl rfl,bf ⟨Ad (b.heap.size+1) 0,12,[1,5,0,0,0,0,3,0,0,2,104,105],d5.symm,by decide,?_⟩⟩;rw[<-d5];exact K.out.rd.step K.out (ar _)
   ·have X:=g1.out.step K.out (ar _);have a3:=As;obtain⟨_,_,m4,cap,f,_,_,o3,_⟩:=id X;rw[a3]at f;simp only[Value.slice.injEq,true_and]at f;obtain⟨rfl,rfl⟩:=f;cases a2 with
    |none=>exfalso;obtain⟨_,_,m4,cap,f,n8,_,_,_⟩:=id X;rw[a3]at f n8;simp only[Value.slice.injEq,true_and]at f;obtain⟨rfl,rfl⟩:=f;have:=o3 rfl;omega
    |some b6=>exact⟨oU rfl rfl,oU rfl rfl,oU rfl rfl,bf ⟨b6,A,Ar,by rw[a3];exact d4.symm,by rw[a3];omega,by rw[<-d4];exact X⟩⟩
   ·exact⟨oU rfl rfl,oU rfl rfl,oU rfl rfl,bg rfl⟩
   ·exact⟨oU rfl rfl,oU rfl rfl,oU rfl rfl,bg rfl⟩
   ·exact⟨oU rfl rfl,oU rfl rfl,oU rfl rfl,bg rfl⟩
   ·exact⟨oU rfl rfl,oU rfl rfl,oU rfl rfl,bg rfl⟩
  ·obtain⟨⟨m9,P,n0,Q⟩,_⟩:=a9.out d u;refine⟨m9,P,n0,?_⟩;rcases Q with Q|⟨b6,cap,j7,f,n7,X⟩
   ·exact bg Q
   ·exact bf ⟨b6,cap,j7,f,n7,(X.imp (Z':=fun g=>¬rR k.heap.size b.heap.size g) fun g q1 _ f=>by rcases f with f|f<;>omega).below d0⟩
 have f8:Hid (∀(c:Nat) d,(mj o m++v7)[c]? =some d->(c=0->d.kd≠5)/\(c=1->d.kd=5/\(g_.mk d.c0 d.c1 d.c2 d.c3 d.c4 d.c5 d.c6 d.c7 d.c8 d.c9).right=true)):=by
  intro c d h;refine⟨fun f=>?_,fun f=>?_⟩
  ·subst f;simp only[mj,List.cons_append,ce,Option.some.injEq]at h;subst h;decide
  ·subst f;simp only[mj,List.cons_append,ce,cf,Option.some.injEq]at h;subst h;exact⟨rfl,by decide⟩
 clear d5 d4;generalize mj o m++v7=b7 at W a6 g5 f8;have l8:Hid (∀c d,b7[c]? =some d->∀j,j<16->k.cell? (Ad O (c*16+j))=d.cells[j]?):=by intro c d i4 j v;obtain⟨d6,rfl⟩:=bo.1 i4;rw[World.ownsRow.cellAt W (c*16+j) (by omega),xR (v7:=b7) c d6 j v]
 have m0:=fK (I8 K.out);clear W i2 f7 g7 g4 a9 g6 b4 S d2 h5 n3 i5 i8 i7 g0 g1 K i9;have o2:8+v7.length<=1048584:=by omega
 generalize 8+v7.length=N at a6 o2⊢;have m1:=fK a6;clear a6 o1 e3 e4 j4 v e5 e6 e7 hi;go_wp2_with fail;go_loopw [11] (fun i wr=>∃c:Nat,c<=N/\i=II c/\∃z x Y G e E D y,z<=4004*c/\x<=4*c/\y.length<=c/\(2<=c->0<y.length)/\iF (1048577*c) (1048676*(c:Int)) (2*(c:Int)) wr k.heap.size b.heap.size z x Y G e E D y/\gm (rR k.heap.size b.heap.size) k wr) (fun i _=>N-(intOf i).toNat);case atStart=>exact⟨0,be _,rfl,0,0,_,_,_,_,_,[],ar _,ar _,ar _,fun u=>absurd u (by decide),m0.out,gm.refl _ _⟩
 case round=>
  obtain⟨c,i4,rfl,z,x,Y,G,l7,E,D,y,p2,p8,q0,j1,p,V⟩:=hrel;have I:=fK p;have s:=fK V;have b1:=fK j1;clear p V j1;by_cases n9:c<N
  ·obtain⟨d,h⟩:∃d,b7[c]? =some d:=⟨_,ap (by rw[m1.out];exact n9)⟩;have p9:O≠b.heap.size:=by omega
   have B:=g5.out d (bS h);have d3:=f8.out c d h;have b0:Hid (∀f5,gm (rR k.heap.size b.heap.size) k f5->∀j,j<16->f5.cell? (Ad O (c*16+j))=d.cells[j]?):=
    fun f5 d6 j v=>(World.cell?_of_block (a:=Ad O (c*16+j)) (d6.block O n2 (fun f=>by rcases f with f|f<;>omega))).trans (l8.out c d h j v)
   obtain⟨w,j9,a,h1,j8,c0,c1,b8,b9,m5,c2,c3,c4,c5,h2,f0⟩:=d;have g:=b0.out wr s.out;have k0:=g 0 (by decide);have k1:=g 1 (by decide);have k8:=g 2 (by decide);have k9:=g 3 (by decide);have l0:=g 4 (by decide);have l1:=g 5 (by decide);have l2:=g 6 (by decide);have l3:=g 7 (by decide);have l4:=g 8 (by decide);have l5:=g 9 (by decide);have k2:=g 10 (by decide);have k3:=g 11 (by decide);have k4:=g 12 (by decide);have k5:=g 13 (by decide);have k6:=g 14 (by decide);have k7:=g 15 (by decide);simp only[zk.cells,ce,cf,aF]at k0 k1 k8 k9 l0 l1 l2 l3 l4 l5 k2 k3 k4 k5 k6 k7;simp only at B d3;have J:=fK B;have a0:=fK d3;clear h g B d3;by_cases p6:12<w
   ·go_wp2_with fail;go_roundw;case rel=>exact⟨c+1,by omega,by go_num,z,x,Y,G,l7,E,D,y,by omega,by omega,by omega,fun u=>b1.out (by
     rcases Nat.lt_or_ge c 2 with P|P
     ·have:=(a0.out.2 (by omega)).1;omega
     ·exact P),I.out.mono (by omega) (by omega) (by omega),s.out⟩
    case measure=>simp[intOf];omega
   ·have U:w<=12:=by omega
    have g8:=fK (GV (c:=w) (B:=j9) (l:=a) (u:=h1) (x:=j8) (c0:=c0) (c1:=c1) (H:=b8) (I:=b9) (J:=m5) (z9:=c2) (z8:=c3) (y7:=c4) (y6:=c5) (x5:=h2) (e:=f0) (a:=1048577*c) (x4:=1048676*(c:Int)) (v1:=2*(c:Int)) (d:=k.heap.size) (f:=b.heap.size) (n:=z) (A:=x) (h:=Y) (q:=G) (M:=l7) (o:=E) (y:=D) (z4:=y) (b:=wr) I.out (fun p0 n1=>l9.out.below (Aj d0 (bZ (ej e1) j0) (s.out.trans n1))) ((J.out U).2.2.2.law s.out I.out.og I.out) U (J.out U).1 (J.out U).2.1 (J.out U).2.2.1 (by omega) ⟨by omega,by omega⟩ ⟨by omega,by omega⟩ (by omega) (by omega) (by omega));go_wp2_with fail;refine g8.out.mono ?_;rintro f f4 ⟨rfl,⟨b5,e8,q2,f2,f3,f1,e9,C,q3,q4,q5,q6,l6,p⟩,V⟩;have a8:=fK (s.out.trans V);have e0:2<=c+1->0<C.length:=fun P=>by
     by_cases Q:2<=c
     ·have:=b1.out Q;omega
     ·exact l6 (a0.out.2 (by omega))
    have d9:w=5->0<C.length:=fun R=>e0 (by
     rcases Nat.eq_zero_or_pos c with h3|h3
     ·exact absurd R (a0.out.1 h3)
     ·omega)
    have g2:=fK (p.mono (N':=1048577*(c+1)) (M':=1048676*((c+1:Nat):Int)) (L':=2*((c+1:Nat):Int)) (by omega) (by omega) (by omega));obtain⟨m3,m6,o0⟩:=gr p.tZ;subst o0;have p3:lq f4 b 0 (.slice m3 C.length m6):=by simp[aD,p.wl.gK]
    have o4:=b0.out f4 a8.out 0 (by decide);simp only[zk.cells,ce,aF]at o4;have g3:=fK (F8 (a:=k.heap.size) (d:=b.heap.size) (f:=b5) (n:=e8) (h:=f2) (q:=f3) (o:=f1) (y:=e9) (b:=f4) p.wl (by omega) (by omega));clear p V k0 k1 k8 k9 l0 l1 l2 l3 l4 l5 k2 k3 k4 k5 k6 k7 s I J b0 g8 b1 a0 l6;by_cases R:w=5
    ·have p7:((C.length:Int)==0)=false:=beq_eq_false_iff_ne.2 (by have:=d9 R;omega);subst R;clear d9;go_wp2_with fail;refine g3.out.mono ?_;rintro f o9 ⟨rfl,rfl⟩;go_wp2_with fail;go_roundw;case rel=>exact⟨c+1,by omega,by go_num,b5,e8,_,f2,f3,f1,e9,C,by omega,by omega,by omega,e0,g2.out,a8.out⟩
     case measure=>simp[intOf];omega
    ·have p5:(w==5)=false:=beq_eq_false_iff_ne.2 R;clear d9;go_wp2_with fail;refine g3.out.mono ?_;rintro f o9 ⟨rfl,rfl⟩;go_wp2_with fail;go_roundw;case rel=>exact⟨c+1,by omega,by go_num,b5,e8,_,f2,f3,f1,e9,C,by omega,by omega,by omega,e0,g2.out,a8.out⟩
     case measure=>simp[intOf];omega
  ·obtain rfl:c=N:=by omega
   go_wp2_with fail;go_ret;exact⟨rfl,Aj d0 (bZ (ej e1) j0) s.out⟩
theorem L9(f:Env b)(j:xE b e v7)(h:∀c∈v7,(Ae c.on/\Ae c.a/\Ae c.nn/\mu 1048576 (fun _=>True) b c.v)/\c.v.oneCell'=true)(g:v7.length<=1048576):
  aL ab 5 #[e] b fun d m=>d=.returned (.bool true)/\Bw b m:=by
 have k:=fK (Ji f j h g);clear f j h g;go_enter func5,ntmps5;go_wp2_with fail;refine k.out.mono ?_;rintro d n ⟨rfl,l⟩;go_wp2_with fail;go_ret;exact⟨rfl,l⟩
theorem own:ownKnob ab.godebug=none:=by kernel_rfl
theorem KP:(ab.globals[1]?).map (·.type)=some 320:=by kernel_rfl
theorem Kx:ab.cellsOf 320=20:=by kernel_rfl
theorem Ky:ab.cellsOf 312=1:=by kernel_rfl
theorem QJ:ab.globalNamed "errors.errorType" = some 0:=by kernel_rfl
theorem Ru:(ab.cutTypes.find? (·.1 == "internal/reflectlite.rtype")).map (·.2)=some 263:=by kernel_rfl
theorem Od:((List.range 369).filter fun a=>ab.rowNamed a [101,114,114,111,114])=[109]:=by kernel_rfl
theorem JT:ab.types.size=369:=by kernel_rfl
theorem ML:laidOutB ab=true:=by kernel_rfl
theorem Dv(k:laidMetH ab Rows.allUptoRow.laid b):Env b:=by
 have c:laidMet ab [("math/bits.deBruijn32tab",Rows.laid_math_bits_deBruijn32tab),("math/bits.deBruijn64tab",Rows.laid_math_bits_deBruijn64tab),("internal/strconv.uint64pow10",Rows.laid_internal_strconv_uint64pow10)] b/\handlesMet ab [("errors.errorType",Rows.laid_errors_errorType)] b:=k;refine⟨Lib.tabIs_of_head (rest:=[]) O9 KP underlying320 underlying312 Ky Kx c.1.tail.tail,?_⟩;obtain⟨m,p,o,e,f,g,h,a⟩:=c.2 _ (bV.2 rfl);have j:m=[101,114,114,111,114]:=(Option.some.inj e).symm;subst j;obtain rfl:=Option.some.inj (Ru.symm.trans f);have d:o∈(List.range 369).filter fun n=>ab.rowNamed n [101,114,114,111,114]:=List.mem_filter.2 ⟨List.mem_range.2 (by rw[<-JT];exact g),h⟩;rw[Od]at d;obtain rfl:=bV.1 d;have l:typeHandle ab 109=ag (some (Ad 4 109)):=by kernel_rfl
 rw[l]at a;simpa using World.var?_cell QJ a 0
set_option maxRecDepth 100000 in
theorem contract(d:Type)(f:bG×aM->d){D:Array aM}{e k:List (DataW d)}{w:List MemPlace}
  (p:∀(q:Nat) t c,f5.params[q]? =some t->D[q]? =some c->Value.okWide ab b .any a t c)
  (o:DataW.Whole f ab f5.params.toList Rows.allSpec.vars false b D.toList e k w)
  (L:Rows.uptoSmall d (e++k)=true)
  (A:laidMetH ab Rows.allUptoRow.laid b):
  aL ab 5 D b fun j g=>∃c,j=.returned c/\Rows.allSpec.post f ab f5 false true false false b D c g:=by
 have C:=o;obtain⟨Q,a0,n,B,rfl,X,Y⟩:=o;have m:DataW.TrodAll f ab b 0 (fun _=>true) true f5.params.toList D.toList e Q:=n;rw[params5]at m p;obtain⟨u,a2,y,U,R,a1,W,rfl,rfl,l,S⟩:=trodAll_cons m;obtain⟨rfl,rfl,rfl⟩:=trodAll_nil S;obtain rfl:D=#[u]:=by grind
 obtain⟨rfl,rfl⟩:=trodVars_none B;obtain⟨v,N,x,rfl⟩:=okWide_slice underlying22 (p 0 22 u rfl rfl);have s:=l;have O:∀T∈R,T.block<b.heap.size:=by obtain⟨P,H⟩:=s;exact DataW.trod_lt P _ _ _ H
 obtain⟨V,G⟩:=l;have M:Rows.uptoBulk y<=1048576:=by have:=of_decide_eq_true L;simp only[List.append_nil,Rows.uptoBulkAll]at this;omega
 obtain⟨Z,K,J,I⟩:=xg (e:=.slice v N x) G M;clear n;refine(L9 (Dv A) K J I).mono fun j g ⟨E,h⟩=>?_;subst E;exact⟨_,rfl,_,_,_,[],_,[],C,trodAll_mk1 (shut_bool underlying4 _),(trodAll_cons_mk (Below.trod ML (by kernel_rfl) (of_decide_eq_true (by kernel_rfl)) s h O) trodAll_mk0),rfl,h.frame _,fun z=>by cases z⟩
def Ho(g:Nat)(cs:Array aM)(h:Array Obj):Array Obj:=h.modify g fun
 |.cells _ t frozen=>.cells cs t frozen
 |o=>o
def PZ:Array aM:=#[.int .u8 0,.int .u8 1,.int .u8 56,.int .u8 2,.int .u8 57,.int .u8 49,.int .u8 28,.int .u8 3,.int .u8 61,.int .u8 58,.int .u8 42,.int .u8 50,.int .u8 38,.int .u8 29,.int .u8 17,.int .u8 4,.int .u8 62,.int .u8 47,.int .u8 59,.int .u8 36,.int .u8 45,.int .u8 43,.int .u8 51,.int .u8 22,.int .u8 53,.int .u8 39,.int .u8 33,.int .u8 30,.int .u8 24,.int .u8 18,.int .u8 12,.int .u8 5,.int .u8 63,.int .u8 55,.int .u8 48,.int .u8 27,.int .u8 60,.int .u8 41,.int .u8 37,.int .u8 16,.int .u8 46,.int .u8 35,.int .u8 44,.int .u8 21,.int .u8 52,.int .u8 32,.int .u8 23,.int .u8 11,.int .u8 54,.int .u8 26,.int .u8 40,.int .u8 15,.int .u8 34,.int .u8 20,.int .u8 31,.int .u8 10,.int .u8 25,.int .u8 14,.int .u8 19,.int .u8 9,.int .u8 13,.int .u8 8,.int .u8 7,.int .u8 6]
def PY:Array aM:=#[.int .u8 0,.int .u8 1,.int .u8 28,.int .u8 2,.int .u8 29,.int .u8 14,.int .u8 24,.int .u8 3,.int .u8 30,.int .u8 22,.int .u8 20,.int .u8 15,.int .u8 25,.int .u8 17,.int .u8 4,.int .u8 8,.int .u8 31,.int .u8 27,.int .u8 13,.int .u8 23,.int .u8 21,.int .u8 19,.int .u8 16,.int .u8 7,.int .u8 26,.int .u8 12,.int .u8 18,.int .u8 6,.int .u8 11,.int .u8 5,.int .u8 10,.int .u8 9]
def Ou:Array aM:=#[.int .u64 1,.int .u64 10,.int .u64 100,.int .u64 1000,.int .u64 10000,.int .u64 100000,.int .u64 1000000,.int .u64 10000000,.int .u64 100000000,.int .u64 1000000000,.int .u64 10000000000,.int .u64 100000000000,.int .u64 1000000000000,.int .u64 10000000000000,.int .u64 100000000000000,.int .u64 1000000000000000,.int .u64 10000000000000000,.int .u64 100000000000000000,.int .u64 1000000000000000000,.int .u64 10000000000000000000]
def Ot:Array aM:=#[.iface 263 (.agg #[ag (some (Ad 4 109))])]
def yj(h:Array Obj):Array Obj:=Ho 3 PZ (Ho 2 PY (Ho 1 Ou (Ho 0 Ot h)))
theorem La(a:Os):laidMetH ab Rows.allUptoRow.laid (({eN ab a ⟨#[],#[],[]⟩ with heap:=yj (eN ab a ⟨#[],#[],[]⟩).heap}:aK).forCall (fun _ _=>0) ⟨#[],#[ai none 0 0],[]⟩).memory:=
 laidMetH_of_parts (laidMet_of_run' 8 (by kernel_rfl) (by kernel_rfl)) (by kernel_rfl)
theorem reads(a:Os){s5:Type}(b:bG×aM->s5):∃c,DataW.whole b ab (({eN ab a ⟨#[],#[],[]⟩ with heap:=yj (eN ab a ⟨#[],#[],[]⟩).heap}:aK).forCall (fun _ _=>0) ⟨#[],#[ai none 0 0],[]⟩).memory f5.params.toList Rows.allSpec.vars false #[aJ none 0 0].toList 8=some ([.nil],[],c):=
 ⟨[],by kernel_rfl⟩
set_option maxRecDepth 100000 in
theorem N5(a:Os)(h:a.Started)(c:Type)(enc:bG×aM->c)(F:Stop.Interp):
  ReturnsInHanded {} Tryz.checked a 5 .any ((Rows.OpenSpec.upto Rows.allSpec).preRow enc ab f5 Rows.allUptoRow.domain false Rows.allUptoRow.laid) (((Rows.OpenSpec.upto Rows.allSpec).at F).post enc ab f5 false true false false):=by
 obtain⟨q,g⟩:=reads a enc;refine returnsInHanded_of_row (C:=Tryz.checked) (s:=Rows.OpenSpec.upto Rows.allSpec) own h (by kernel_rfl) func5
  (witness_row_at (enc:=enc) (C:=Tryz.checked) false ({eN ab a ⟨#[],#[],[]⟩ with heap:=yj (eN ab a ⟨#[],#[],[]⟩).heap}:aK) #[ai none 0 0] rfl (by kernel_rfl) (by kernel_rfl) (by kernel_rfl)
   (OpenSpec.preRow_of_cond 8 g (by kernel_rfl) (fun p b=>by cases b;rfl) (by kernel_rfl) (La a))) ?_
 intro j l k n o m f e _ b _ d _ _;exact contract c enc f e (b _ rfl) d
theorem Rw:Rows.AllUptoSaid:=
 OpenClaim.holds_of_cond 5 f5 rfl rfl rfl rfl rfl rfl rfl ⟨rfl,rfl,rfl,rfl,rfl⟩ rfl rfl rfl rfl rfl (by kernel_rfl) func5 Fg
  (of_decide_eq_true (by kernel_rfl)) (by unfold Func.isWrapper;first |(rw[if_pos (by decide +kernel)];kernel_rfl) |(rw[if_neg (by decide +kernel)];exact⟨rfl,rfl⟩))
  (fun c d a b _ F=>by rw[OpenClaim.pre_eq_preRow];exact N5 c d a b F)
theorem Ed(b:FuncId)(c:Func)(e:Tryz.pinned.checked.prog.funcNamed "cistern/cisternlaw.All" = some b)(f:Tryz.pinned.checked.prog.funcs[b]? =some c):
  true=Tryz.pinned.checked.prog.looks []/\∀(d:Nat) a,c.params[d]? =some a->Tryz.pinned.checked.prog.wantsStandIn a=false:=by
 obtain rfl:b=5:=Option.some.inj ((show ab.funcNamed "cistern/cisternlaw.All" = some 5 by kernel_rfl).symm.trans e) |>.symm;obtain rfl:c=f5:=(Option.some.inj (func5.symm.trans f)).symm;refine⟨by kernel_rfl,fun d a g=>?_⟩;rw[params5]at g;obtain rfl:a=22:=by grind
 exact(show ab.wantsStandIn 22=false by kernel_rfl)
theorem all_card:Rows.AllUptoCardSaid:=
 Claim7.holds_tied_plain_at .later [] _ _ _ _ Rw (fun _ a=>by cases a) (by kernel_rfl) (fun _ a=>by cases a) allUpto_row_tie rfl ⟨rfl,rfl⟩ (by kernel_rfl) rfl Ed (by kernel_rfl)
end Go.Proofs.YthmdjhlhodpbhaaGreatDoor
