import Derived.Test.YthmdjhlhodpbhaaGreatDoorM15
set_option maxHeartbeats 16000000
set_option maxRecDepth 8000
set_option linter.all false
namespace Go.Proofs.YthmdjhlhodpbhaaGreatDoor
open Go.RowKit
open _root_.Array renaming getElem?_eq_some_iff → bn
open _root_.Or renaming inr → bf, inl → bg
open _root_.List renaming mem_of_getElem? → bS, getElem?_eq_getElem → ap, getElem?_eq_some_iff → bo, getElem?_cons_zero → ce, mem_or_eq_of_mem_set → dh, mem_singleton → bV, getElem?_append_left → aZ, length_take → dB, mem_cons_of_mem → eG, mem_append → bX
open _root_.Nat renaming lt_of_lt_of_le → ca, le_refl → ar, lt_or_ge → ay
open Go.World renaming ownsRow_nil → ak, cell? → aD
open Go.IntKind renaming wrap_i64 → dq
open _root_.Bool renaming false_eq_true → dg
open Go.Value renaming ownBlock → aq
open _root_.And renaming intro → co
open _root_.Go renaming World → aK, frozen_of_row → cx, heap_setCell_other → cy, Calls → aL, Value → aM, bodyPost_ret → cz, heap_alloc_new → cA, results_cell_row → eH, Ending → ed
open _root_.Go.Proofs.Tryz
open _root_.Go.Proofs.Tryz renaming prog → ab
open Go.Value renaming slice → ai, pointer → ag
attribute [local simp] CV CI Bw mc lq io
variable {c g l u M id fi:Int}{b w z5 t8:World}{s:g_}{j w5 c':fV}{e v h q:Value}{a cb f d n A z7 N':Nat}{N y x:gs}{z6 u4:gw}{p:gg}{r:fV×List (Int×List Int)}{t:List (Int×List Int)}{y0:List gs}{L F:Nat->Prop}{m:List Nat}{O:Bool}{Q:List gw}{w8:List (Int×Nat)}{z3:gU}{o:List Value}{k:List Int}{z:TypeId}
def m_(s:gg)(fZ code:Int):Int×gg×List (Int×List Int):=
 match ja s.fN fZ with
 |none=>(3,s,[])
 |some i=>match s.fN[i]? with
  |none=>(3,s,[])
  |some c=>if 0<=code/\code<=1073741823 then(0,{s with fN:=s.fN.eraseIdx i},ig c ([19]++gE code) []) else(2,s,[])
theorem tN(a:ja p.fN c=none):m_ p c g=(3,p,[]):=by unfold m_;rw[a]
theorem vz{i:Nat}(b:ja p.fN c=some i)(hi:p.fN[i]? =some j)(a:¬(0<=g/\g<=1073741823)):m_ p c g=(2,p,[]):=by unfold m_;grind
theorem xT{i:Nat}(b:ja p.fN c=some i)(hi:p.fN[i]? =some j)(a:0<=g/\g<=1073741823):m_ p c g=(0,{p with fN:=p.fN.eraseIdx i},ig j ([19]++gE g) []):=by unfold m_;grind
theorem Ig{h:Int}(a:gD c g p):gD c g (m_ p h u).2.1:=by
 rcases lL (y4:=p.fN) (c:=h) with⟨e,_⟩|⟨i,d,e,hi,_⟩
 ·rw[tN e];exact a
 ·by_cases b:0<=u/\u<=1073741823
  ·rw[xT e hi b];have f:=List.eraseIdx_sublist p.fN i;refine⟨a.cfg,a.now,?_,?_,fun d b=>a.ok d (f.subset b),fun d b=>a.inv d (f.subset b),fun d b=>a.waits d (f.subset b),a.last⟩
   ·have j:=a.tz;grind
   ·exact(f.map (·.fZ)).nodup a.nd
  ·rw[vz e hi b];exact a
def Br(w:aK)(sb:Nat)(jf ke:List Nat)(cv:aM)(s':gg)(pU:List (Int×List Int))(v:aM)(w':aK):Prop:=
 ∃oF tq zu uV nX,gF w' s' sb oF tq zu uV w.heap.size nX pU/\(v=uV\/(v=ai none 0 0/\pU=[]))/\gm (Kg sb jf ke cv w.heap.size) w w'/\Bs w.heap.size jf ke cv oF tq zu
theorem Jm{v:List Nat}{out:List (Int×aM)}(n:gF b p a m v e h d out t){S:Int}(A:gD S u p)(a5:S<=1125899906842624):
  aL ab 126 #[Pt a,II c,II g] b fun f b2=>∃y,f=.returned (.tuple #[y,II (m_ p c g).1])/\Br b a m v e (m_ p c g).2.1 (m_ p c g).2.2 y b2:=by
 obtain⟨z,C⟩:=n.reset;have b5:CV b a 13 h:=by simp[aD,n.iN,gh,g_.cells]
 have c9:mc b a 13:=cx b a 13 _ _ n.iN;have c4:(b.setCell (Ad a 13) (ai none 0 0)).heap.size=b.heap.size:=by simp
 generalize G:b.setCell (Ad a 13) (ai none 0 0)=J at *
 have M:=fK G;have L:Hid (∀j,Bw J j->Br b a m v e p [] (ai none 0 0) j):=fun j V=>
  ⟨m,v,e,_,[],z.below V,bg rfl,(C.mono fun k _ f=>bg f).trans (gm.fU V),Bs.refl _ _ _ _⟩
 obtain⟨b4,b6,I⟩:=z.view;have b8:=A.tz;have b7:=A.cfg.c0;have q:=jY c I (by omega);rcases lL (y4:=p.fN) (c:=c) with⟨o,_⟩|⟨k,N,o,x,W⟩
 ·rw[o]at q;have a9:ld m none=ag none:=rfl;rw[a9]at q;have w:=fK q;rw[tN o];have a1:∀j:aK,(binOp .eql 244 (ag none) (ag none)).run ab j=.ok (.bool true) j:=fun j=>by first|exact run_eql_pointer_nil j 244 none nB|kernel_rfl
  clear n z A o I q C G;go_enter func126,ntmps126;go_wp2_with fail;rw[M.out];refine w.out.mono ?_;rintro f K ⟨rfl,rfl⟩;clear w;go_wp2_with fail;go_ret2;exact⟨_,rfl,L.out _ (Below.refl _ _)⟩
 ·have b9:k<p.fN.length:=(bo.1 x).1;have c2:=n.iD;have c3:=n.jv;obtain⟨cb,D⟩:∃cb,m[k]? =some cb:=⟨_,ap (by omega)⟩;obtain⟨sr,H⟩:∃sr,v[k]? =some sr:=⟨_,ap (by omega)⟩;rw[o]at q;have P:ld m (some k)=Pt cb:=by simp[ld,List.getD,D]
  rw[P]at q;have w:=fK q;have a1:∀j:aK,(binOp .eql 244 (Pt cb) (ag none)).run ab j=.ok (.bool false) j:=fun j=>by first|exact run_eql_pointer_nil j 244 (some (Ad cb 0)) nB|kernel_rfl
  by_cases E:0<=g/\g<=1073741823
  ·have B:jx g 0 1073741823=true:=by simp[jx,E]
   have Q:=fK (ua _ _ _ _ _ _ _ _ _ _ _ _ _ _ _ z x D H E (by omega) (A.ok N (bS x)) a5 (by simp) (by omega));have s:=fK (h_ g 0 1073741823 J);rw[B]at s;rw[xT o x E];have R:Hid (∀j,Leaves J a (m.eraseIdx k) (v.eraseIdx k) e cb sr b.heap.size {p with fN:=p.fN.eraseIdx k} (ig N ([19]++gE g) []) j->∃y,j.cell? (Ad a 13)=some y/\(∃Y Z a0,y=.slice Y Z a0)/\Br b a m v e {p with fN:=p.fN.eraseIdx k} (ig N ([19]++gE g) []) y j):=by
    rintro j ⟨a3,X,b0,O,a6,_,a7⟩;obtain⟨c7,c8,b1⟩:=gr O.jN;refine⟨X,by simp[aD,O.iN,gh,g_.cells],⟨_,_,_,b1⟩,m.eraseIdx k,v.eraseIdx k,a3,X,b0,O,bg rfl,?_,?_⟩
    ·refine(C.mono fun k _ f=>bg f).trans (a6.mono fun c6 _ f=>?_);rcases f with f|f|f|f
     ·exact bg f
     ·exact bf (bg (by rw[f];exact bS D))
     ·exact bf (bf (bg (by rw[f];exact bS H)))
     ·exact bf (bf (bf (bf f)))
    ·refine(Bs.erase ⟨fun k n=>bg n,fun k n=>bg n,fun a4 a8=>?_⟩ _);exact(a7 a4 a8).imp id fun f=>by omega
   clear n z A o I q C G x W D H P L B;go_enter func126,ntmps126;go_wp2_with fail;rw[M.out];refine w.out.mono ?_;rintro f K ⟨rfl,rfl⟩;clear w;go_wp2_with fail;refine s.out.mono ?_;rintro f K ⟨rfl,rfl⟩;clear s;go_wp2_with fail;refine Q.out.mono ?_;rintro f b3 ⟨rfl,T⟩;obtain⟨y,c5,⟨Y,Z,a0,rfl⟩,U⟩:=R.out b3 T;have a2:=fK U;clear Q R T U;go_wp2_with fail;go_ret2;exact⟨_,rfl,a2.out⟩
  ·have B:jx g 0 1073741823=false:=by simp[jx,E]
   have s:=fK (h_ g 0 1073741823 J);rw[B]at s;rw[vz o x E];clear n z A o I q C G x W D H P B;go_enter func126,ntmps126;go_wp2_with fail;rw[M.out];refine w.out.mono ?_;rintro f K ⟨rfl,rfl⟩;clear w;go_wp2_with fail;refine s.out.mono ?_;rintro f K ⟨rfl,rfl⟩;clear s;go_wp2_with fail;go_ret2;exact⟨_,rfl,L.out _ (Below.refl _ _)⟩
theorem KH{v:List Nat}{i:Nat}(g:hU a b d p f e m Q v)(hi:p.fN[i]? =some j)(t:m[i]? =some cb)(s:Q[i]? =some z6)(z:h.ownBlock=e.ownBlock\/∀c,h.ownBlock=some c->b.heap.size<=c):∀c,js d f h (m.eraseIdx i) (Q.eraseIdx i) c->¬c=cb:=by
 have y:=g.iq i j cb z6 hi t s;have l:b.heap[cb]? =some (.cells (pG p.c j z6.mx z6.sm z6.dm (il j.fM)) 137 (0,0)):=y.gK;rintro c (k|k|k|⟨A,w,u,n,o,x⟩) hk
 ·exact j' g l (by decide) (by decide) (bg (by omega))
 ·exact j' g l (by decide) (by decide) (bf (bg (by omega)))
 ·rcases z with q|q
  ·exact j' g l (by decide) (by decide) (bf (bf (by rw[<-q,<-hk];exact k)))
  grind
 ·rw[vE]at n o;refine g.apart i _ cb z6 w u ?_ t s n o c (bg hk) x;split<;>omega
theorem GI{v:List Nat}(s:hU a b d p f e m Q v){a6:Int}(y:gD a6 u p)(d2:a6<=1125899906842624)(b9:-9223372036854775808<=c/\c<=9223372036854775807):
  aL ab 125 #[Pt d,II c,II g] b fun j a0=>∃x,j=.returned (.tuple #[x,II (m_ p c g).1])/\i' a b d f e m Q (m_ p c g).2 (.returned x) a0:=by
 have c6:CV b d 11 (.map (some f)):=s.gK.cell 11;have T:Hid (∀w,Bw b w->i' a b d f e m Q (p,[]) (.returned (ai none 0 0)) w):=fun w b0=>
  i'.P_ (ix.nil _ _) rfl (s.below b0) (fun k t=>bg t) (fun k t=>bg t) (gm.fU b0)
 rcases lL (y4:=p.fN) (c:=c) with⟨C,b2⟩|⟨k,o,C,t,c3⟩
 ·have X:=s.Ld b9 b2;rw[tN C];have b5:∀w:aK,(binOp .eql 97 (ag none) (ag none)).run ab w=.ok (.bool true) w:=fun w=>by kernel_rfl
  clear s y C b2;go_enter func125,ntmps125;go_wp2_with fail;go_ret2;exact⟨_,rfl,T.out _ (Below.refl _ _)⟩
 ·obtain⟨cb,h,H,G,V⟩:=s.found y.nd t;have Y:=bS t;have I:=y.ok o Y;have b1:=I.fZ;have X:=s.lO (c:=o.fZ) (by omega) V;rw[c3]at X;have B:=s.iq k o cb h t H G;have b5:∀w:aK,(binOp .eql 97 (Pt cb) (ag none)).run ab w=.ok (.bool false) w:=fun w=>by kernel_rfl
  by_cases N:0<=g/\g<=1073741823
  ·rw[xT C t N];have K:lr g 1073741823=0:=by simp[lr,jx,N]
   have A:=fK (ni (c:=g) (b:=b));rw[K]at A;have c5:v.length<=1000:=by have c9:=s.LZ;have d0:=y.tz;have d1:=y.cfg.c0;omega
   have a7:=s.but (ar a) t H G (gm.refl _ _) ⟨o,_,_,_,_,B.gK,rfl⟩;have a3:=fK (AV _ _ _ _ _ _ _ _ _ _ _ _ a7 y.nd c5 (by omega));have a4:Hid (∀(q:aK) (D:aM),hU a q d {p with fN:=p.fN.eraseIdx k} f D (m.eraseIdx k) (Q.eraseIdx k) (v.filter fun U=>U != cb)->(D.ownBlock=e.ownBlock\/∀k,D.ownBlock=some k->b.heap.size<=k)->gm (fun k=>k=d\/k=f\/e.ownBlock=some k) b q->∀(j:ed) (J:aK),mU q cb p.c o h.mx h.sm h.dm (il o.fM) ([19]++gE g) j J->∃x,j=.returned x/\(∃P b4 R,x=.slice P b4 R)/\i' a b d f e m Q ({p with fN:=p.fN.eraseIdx k},ig o ([19]++gE g) []) (.returned x) J):=by intro q D O L z j J E;obtain⟨x,rfl,a8⟩:=E.ret;have b7:=KH s t H G L;have W:gC q cb p.c o h.mx h.sm h.dm (il o.fM):=B.gK.gx z (fun j=>by have M:b.heap[cb]? =some (.cells (pG p.c o h.mx h.sm h.dm (il o.fM)) 137 (0,0)):=B.gK;exact j' s M (by decide) (by decide) j);have b8:hU a J d {p with fN:=p.fN.eraseIdx k} f D (m.eraseIdx k) (Q.eraseIdx k) (v.filter fun U=>U != cb):=O.gx E.gx b7 (fun b3 c7 c8 Z j=>by have M:q.heap[cb]? =some (.cells (pG p.c o h.mx h.sm h.dm (il o.fM)) 137 (0,0)):=W;rw[j,M]at Z;simp only[Option.some.injEq,Obj.cells.injEq]at Z;exact absurd Z.2.1 (by decide));have c4:=z.size;obtain⟨P,R,c2⟩:=a8.form;refine⟨x,rfl,⟨P,_,R,c2⟩,i'.MO s (a8.mono c4) b8 (tI L) tJ ?_⟩;refine(z.mono fun b3 _ j=>pg j).trans (E.gx.mono fun b3 _ j=>?_);exact lJ H G (bg j)
   have a2:Hid (∀q:aK,gm (fun k=>k=d\/k=f\/e.ownBlock=some k) b q->aL ab 163 #[Pt cb,II g] q fun j a0=>mU q cb p.c o h.mx h.sm h.dm (il o.fM) ([19]++gE g) j a0):=by intro q z;have W:gC q cb p.c o h.mx h.sm h.dm (il o.fM):=B.gK.gx z (fun j=>by have M:b.heap[cb]? =some (.cells (pG p.c o h.mx h.sm h.dm (il o.fM)) 137 (0,0)):=B.gK;exact j' s M (by decide) (by decide) j);have d3:=I.gR;have d4:=I.gS;exact wt W I.fZ (by omega) (by omega) N
   clear s y C t H G V Y I b1 B K a7 T;go_enter func125,ntmps125;go_wp2_with fail;refine A.out.mono ?_;rintro j q ⟨rfl,rfl⟩;clear A;go_wp2_with fail;refine a3.out.mono ?_;rintro j q ⟨rfl,⟨D,O,L⟩,z⟩;have a5:=fK O;have a1:=fK L;have S:=fK z;clear a3 O L z c6 X;go_wp2_with fail;refine(a2.out q S.out).mono ?_;intro j J E;obtain⟨x,rfl,⟨P,b4,R,rfl⟩,a9⟩:=a4.out q D a5.out a1.out S.out j J E;have b6:=fK a9;clear E a9 a4 a2 a5 a1 S;go_wp2_with fail;go_ret2;exact⟨_,rfl,b6.out⟩
  ·rw[vz C t N];have K:lr g 1073741823=2:=by simp[lr,jx,N]
   have A:=fK (ni (c:=g) (b:=b));rw[K]at A;clear s y C t H G V Y I b1 B K;go_enter func125,ntmps125;go_wp2_with fail;refine A.out.mono ?_;rintro j q ⟨rfl,rfl⟩;clear A;go_wp2_with fail;go_ret2;exact⟨_,rfl,T.out _ (Below.refl _ _)⟩
theorem N6{B:List (Int×aM)}{t6:List (Int×List Int)}(Y:ji a c g b z3)(G:Bw b w)(v:i' d w z3.sb z3.cm z3.wv z3.jf z3.xs (p,t) (.returned e) z5)(x:gF z5 z3.s z3.rb z3.rV z3.ke z3.cv q f B t6)(T:Br z5 z3.rb z3.rV z3.ke z3.cv p t h t8)(R:gD l u p):
  ∃a4 out m,kD d l u b t8 z3 a4 w.heap.size z5.heap.size e h out m t/\gm z3.F w t8:=by
 obtain⟨a5,L,C,M,K,a2,⟨out,I,H,X⟩,S,W,a0⟩:=v.ex;obtain rfl:e=a5:=by injection a2
 have a8:=G.size;obtain⟨D,J,E,b1,a3,y,a1,V,z⟩:=T;have o:gm (wW z3.rb z3.rV z3.ke z3.cv) z5 t8:=V.mono fun k n j=>by
  rcases j with j|j|j|j|j
  ·exact bg j
  ·exact bf (bg j)
  ·exact bf (bf (bg j))
  ·exact bf (bf (bf j))
  ·omega
 have a9:=v.gx.size;obtain⟨m,Z,U⟩:∃m,t8.ownsRow z5.heap.size 60 2 h m.length (gj m)/\nx t8 z5.heap.size m t:=by
  rcases a1 with rfl|⟨rfl,P⟩
  ·exact⟨a3,y.jN,y.mM⟩
  ·exact⟨[],ak _ _ _ _,by rw[P];exact⟨rfl,fun i a6 b2 A=>(by simp at A)⟩⟩
 refine⟨⟨z3.sb,z3.cm,L,C,M,K,z3.rb,D,J,E,p⟩,out,m,?_⟩;have Q:∀k,(gU.mk z3.sb z3.cm L C M K z3.rb D J E p).F k->z3.F k\/b.heap.size<=k:=by
  rintro k (j|j)
  ·rcases W k j with j|j
   ·exact bg (bg j)
   omega
  ·rcases j with j|j|j|j
   ·exact bg (bf (bg j))
   ·rcases z.1 k j with j|j
    ·exact bg (bf (bf (bg j)))
    omega
   ·rcases z.2.1 k j with j|j
    ·exact bg (bf (bf (bf (bg j))))
    omega
   ·rcases z.2.2 k j with j|j
    ·exact bg (bf (bf (bf (bf j))))
    omega
 refine⟨?_,(v.gx.mono fun k _ j=>bg j).andThen o (fun k _ j=>bf j)⟩;refine⟨S.mo x o,⟨_,_,y⟩,R,⟨rfl,rfl⟩,?_,Q,gI I o (fun k N O n=>lI x n (by simp[ma])),H.gx o (fun k N O n=>lI x n (by simp[ma])),?_,X,?_,Z,U⟩
 ·exact((gm.fU G).andThen v.gx (fun k _ j=>bg j)).andThen o (fun k _ j=>bf j)
 ·rintro k (j|⟨b0,a6,A,j⟩)
  ·obtain⟨a7,j⟩:=fX I j;grind
  ·exact(H.ge A j).2
 ·intro k n;rcases a0 k n with j|j
  ·exact bg (sU Y.prog j)
  ·exact bf j
theorem Cp{c0 c1 G H I J z9 z8 y7 y6:Int}{x5 x4:Int}{M:aM}{y:List aM}{z4:List gU}{i:Nat}(b1:iF a x5 x4 b d f n A h q M o y z4)(hi:z4[i]? =some z3)(e1:-9223372036854775808<=g/\g<=9223372036854775807)(b2:x5<=1125899906842624)(e2:n<=4000000000000)(e3:A<=4000000000000):
  aL ab 63 #[Pt f,.agg #[Pt z3.sb,Pt z3.rb],.agg #[II 12,II c,II g,II l,II u,II c0,II c1,II G,II H,II I,II J,II z9,II z8,II y7,II y6,e]] b
   fun j d0=>j=.returned (.bool true)/\kx a x5 x4 d f n A z4.length h (PW z3 f q M) b d0:=by
 have N:=fK b1;clear b1;go_enter func63,ntmps63;go_wp2_with fail;have B:Hid (Bw b ((b.alloc (.cells #[Pt z3.sb,Pt z3.rb] 126)).alloc (.cells #[II 12,II c,II g,II l,II u,II c0,II c1,II G,II H,II I,II J,II z9,II z8,II y7,II y6,e] 90))/\((b.alloc (.cells #[Pt z3.sb,Pt z3.rb] 126)).alloc (.cells #[II 12,II c,II g,II l,II u,II c0,II c1,II G,II H,II I,II J,II z9,II z8,II y7,II y6,e] 90)).cell? (gf b 1)=some (Pt z3.rb)/\((b.alloc (.cells #[Pt z3.sb,Pt z3.rb] 126)).alloc (.cells #[II 12,II c,II g,II l,II u,II c0,II c1,II G,II H,II I,II J,II z9,II z8,II y7,II y6,e] 90)).cell? (Ad (b.heap.size+1) 2)=some (II g)/\((b.alloc (.cells #[Pt z3.sb,Pt z3.rb] 126)).alloc (.cells #[II 12,II c,II g,II l,II u,II c0,II c1,II G,II H,II I,II J,II z9,II z8,II y7,II y6,e] 90)).cell? (Ad (b.heap.size+1) 3)=some (II l)/\b.heap.size+1<((b.alloc (.cells #[Pt z3.sb,Pt z3.rb] 126)).alloc (.cells #[II 12,II c,II g,II l,II u,II c0,II c1,II G,II H,II I,II J,II z9,II z8,II y7,II y6,e] 90)).heap.size):=by refine⟨fP (fO _ _) (fO _ _),?_,?_,?_,?_⟩<;>simp
 generalize ((b.alloc (.cells #[Pt z3.sb,Pt z3.rb] 126)).alloc (.cells #[II 12,II c,II g,II l,II u,II c0,II c1,II G,II H,II I,II J,II z9,II z8,II y7,II y6,e] 90))=C at B⊢;have U:=B.out.1;have m:=N.out.below U;have p:=m.pair i z3 hi;have g5:=B.out.2.2.2.2;refine(GI p.prog p.inv b2 e1).mono ?_;rintro j d1 ⟨c9,rfl,t⟩;have f0:=(jG (N.out.pair i z3 hi) t.gx (d:=b.heap.size) (ar _) (by omega) 1).trans B.out.2.1;have f1:=(jG (N.out.pair i z3 hi) t.gx (d:=b.heap.size+1) (by omega) (by omega) 2).trans B.out.2.2.1;have f2:=(jG (N.out.pair i z3 hi) t.gx (d:=b.heap.size+1) (by omega) (by omega) 3).trans B.out.2.2.2.1;obtain⟨h0,g7,g8,g9,Y⟩:=p.mo t.gx;have W:=Ig (h:=g) (u:=l) p.inv;have X:nN 2 (m_ z3.s g l).2.2:=by
  unfold m_;split
  ·exact nN.nil.mono (by omega)
  ·split
   ·exact nN.nil.mono (by omega)
   ·split
    ·exact(nb nN.nil (tO)).mono (by omega)
    ·exact nN.nil.mono (by omega)
 have S:=fK (Jm (c:=g) (g:=l) Y p.inv b2);obtain⟨b0,a3,L,b5⟩:∃b0 a3 L,m_ z3.s g l=(b0,a3,L):=⟨_,_,_,rfl⟩;rw[b5]at t W X S⊢;have a8:Hid (∀(a4:aM) (w:aK),Br d1 z3.rb z3.rV z3.ke z3.cv a3 L a4 w->∃c5 out c4,kD a x5 x4 C w z3 c5 C.heap.size d1.heap.size c9 a4 out c4 L/\gm z3.F C w):=fun a4 w P=>N6 p (Below.refl _ _) t Y P W;obtain⟨c8,c6,c7,e6⟩:∃c8 c6 c7,c9=.slice c8 c6 c7:=by obtain⟨h4,_,_,_,_,T,⟨out,e4,_⟩,_⟩:=t.ex;injection T with T;subst T;obtain⟨f7,d2,j⟩:=gr e4;exact⟨_,_,_,j⟩
 have e5:=t.gx.size;have R:=fK X;have a5:=fK m;have d3:=fK U;clear t Y X W b5 m U p;subst e6;go_wp2_with fail;refine S.out.mono ?_;rintro j w ⟨f5,rfl,P⟩;obtain⟨c5,out,c4,x,b3⟩:=a8.out f5 w P;have a7:=fK x;have a6:=fK (s_ _ _ _ _ _ _ x.row x.ow.by x.Et x.M6 (by have:=R.out.1;omega));obtain⟨h2,h1,e7⟩:=gr x.Et;have g4:=b3.size;clear S a8 P x b3 f0 f1 f2;subst e7;go_wp2_with fail;refine a6.out.mono ?_;rintro j h8 ⟨rfl,c3,rfl⟩;clear a6;have z:=a7.out.below (fQ (Below.refl _ _) c3) e5;have m:=a5.out;have p:=m.pair i z3 hi;have b7:=m.wl.typed a7.out.gx (fun k f9 j g0 v E=>p.law v (by rcases E with rfl|rfl|rfl|rfl|rfl<;>simp[ma]));have b9:∀k,mY f q M k->k<C.heap.size:=fun k v=>by obtain⟨d8,j,D,_⟩:=m.wl.type v;exact(bn.1 D).1
 have Z:∀{f4:TypeId} {f3 a2:Nat} {f8:List aM} {Q:aM} {k:Nat},C.ownsRow d f4 f3 Q a2 f8->Q.ownBlock=some k->k<C.heap.size:=fun K v=>by obtain⟨d8,j⟩:=fX K v;exact(bn.1 j).1
 have a1:=b7.below (fQ (Below.refl w.heap.size w) c3);have g1:=m.og;have g2:=R.out.1;have g3:out.length=L.length:=z.ow.1;have a9:=fK (uS _ _ _ _ _ _ _ _ _ _ _ _ _ a1 (by show d<=w.heap.size;omega) (gq z.row (by omega)) (z.ow.mono (by omega)) (fun c2 Q g6 f7 k a0 D e8 v E=>by
   obtain⟨a2,_,_,K⟩:=q'.pT m.wl a0 D;have d9:=Z K E;have e0:=(z.ow.ge e8 v).1;omega) (fun c2 Q k a0 D v E=>by
   obtain⟨a2,_,_,K⟩:=tH.pT m.wl a0 D;have d9:=Z K E;have e0:=kL z.row v;omega) (by omega) (fun c2 d2 e9=>by have:=R.out.2 d2 (bS e9);omega) e2 e3)
 have O:=fK z;have d7:=fK a1;have d6:=fK b9;clear z m p b7 b9 Z a1;go_wp2_with fail;refine a9.out.mono ?_;rintro j f6 ⟨rfl,⟨h6,h7,h5,h3,b8⟩,b4⟩;obtain⟨b6,V⟩:=O.out.news d7.out d6.out (by omega) (by omega) b4;have d5:=fK (a5.out.fin hi V b6 O.out.qc O.out.same.1 O.out.same.2 b8);have d4:Hid (gm (PW z3 f q M) b f6):=(gm.fU d3.out).trans (V.mono fun k _ j=>j);clear a9 b8 b4 b6 V;go_wp2_with (go_at_call 110;refine(mv).mono ?_;rintro j d0 ⟨rfl,rfl⟩);go_ret;exact⟨rfl,⟨_,_,_,_,_,_,_,by omega,ar _,by simp,d5.out⟩,d4.out⟩
structure oD where
 bytes:List Int
 fin:Bool
 oC:Bool
def iR(r n:Int):Int:=if 1073741823<r+n then 1073741823 else r+n
def jo(x:gs)(most:Int):Nat:=min most.toNat (iX x.bytes)
def gz(x:gs)(most:Int):oD×gs:=
 (⟨x.bytes.take (jo x most),!x.reset&&decide (x.read+jo x most=x.final),x.reset⟩,
  {x with bytes:=x.bytes.drop (jo x most),read:=x.read+jo x most,done:=(!x.reset&&decide (x.read+jo x most=x.final)) || x.reset})
def mE(g:g_)(x:gs):Bool:=decide (x.final<0)&&decide (x.fS<x.read+g.c2/2)&&decide (x.fS<1073741823)
def kl(g:g_)(c:fV)(id:Nat)(x:gs):fV×List (Int×List Int):=
 if mE g x then
  let c1:={c with fM:=c.fM.set id {x with fS:=iR x.read g.c2}}
  let f:=[17]++gE id++gE (iR x.read g.c2)
  (hE c1 f,ig c1 f [])
 else({c with fM:=c.fM.set id x},[])
def mi(g:g_)(r:fV×List (Int×List Int)):fV×List (Int×List Int):=
 if decide (r.1.fS<gX r.1.fM+g.c1/2)&&decide (r.1.fS<1073741823) then
  let c1:={r.1 with fS:=iR (gX r.1.fM) g.c1}
  let f:=[16]++gE c1.fS
  (hE c1 f,ig c1 f r.2)
 else r
def iB(g:g_)(on:Bool)(r:fV×List (Int×List Int)):fV×List (Int×List Int):=
 if on&&decide (r.1.fM.length<1073741823) then
  let c1:={r.1 with fM:=jH g.c2 r.1.fM (r.1.fM.length+1)}
  let f:=[18]++gE c1.fM.length
  (hE c1 f,ig c1 f r.2)
 else r
def lA(g:g_)(c:fV)(id:Nat)(x:gs)(most:Int):fV×List (Int×List Int):=
 iB g (!x.done&&((gz x most).1.fin ||(gz x most).1.oC)) (mi g (kl g c id (gz x most).2))
def kK:oD:=⟨[],false,false⟩
def kH(s:gg)(fZ id most:Int):Int×oD×gg×List (Int×List Int):=
 match ja s.fN fZ with
 |none=>(3,kK,s,[])
 |some i=>match s.fN[i]? with
  |none=>(3,kK,s,[])
  |some c=>if c.fY=false then(3,kK,s,[])
   else if id<0\/(c.fM.length:Int)<=id\/most<0 then(2,kK,s,[])
   else match c.fM[id.toNat]? with
    |none=>(2,kK,s,[])
    |some x=>(0,(gz x most).1,{s with fN:=s.fN.set i (lA s.c c id.toNat x most).1},(lA s.c c id.toNat x most).2)
theorem zz(a:∀d∈y0,0<=kM d/\kM d<=c):0<=gX y0/\gX y0<=y0.length*c:=by
 unfold gX;induction y0 with
 |nil=>simp
 |cons e b g=>have j:=a e (List.mem_cons_self ..);have k:=g (fun h f=>a h (eG _ f));simp only[List.map_cons,List.sum_cons,List.length_cons];rw[show((b.length+1:Nat):Int)*c=b.length*c+c by grind];omega
theorem uZ(a:List gs)(b:gs):gX (a++[b])=gX a+kM b:=by simp[gX,List.sum_append]
theorem AR(c:Int)(a:List Int)(b:Nat):
  (if(a.take (iX a)).drop b=[] then hT (c+iX a) (a.drop (iX a)) else(c+min (b:Int) (a.take (iX a)).length,(a.take (iX a)).drop b)::hT (c+iX a) (a.drop (iX a)))=hT (c+(min b (iX a):Nat)) (a.drop (min b (iX a))):=by
 have m:=sC a;have j:(a.take (iX a)).length=iX a:=by rw[dB];omega
 rcases ay b (iX a) with e|e
 ·have h:¬(a.take (iX a)).drop b=[]:=fun d=>by have:=congrArg List.length d;grind
  have g:min b (iX a)=b:=by omega
  have f:=tY a b (by omega);rw[if_neg h,g,pX (c+b) (by omega),f,j,List.drop_drop,List.drop_take];have k:min (b:Int) (iX a)=b:=by omega
  have l:c+(b:Int)+((iX a-b:Nat):Int)=c+iX a:=by omega
  grind
 simp_all
theorem EI(a:gs)(b:Int):(a.bytes.take (iX a.bytes)).take b.toNat=a.bytes.take (jo a b):=by rw[List.take_take];rfl
abbrev E':=fun a0 a1 a2 (a3:oD)=>(#[.slice a0 a1 a2,.bool a3.fin,.bool a3.oC]:Array aM)
theorem iy.gx{K:List iw}{C:List gH}(h:iy w e K C)(c:gm F w b)(h2:∀a,e.ownBlock=some a->¬F a)(j:∀d f g,w.heap[d]? =some (.cells f 5 g)->¬F d):iy b e K C:=⟨gM h.own c h2,h.sh,fun i m r k l=>(h.ro i m r k l).gx c j⟩
theorem mh{u7:Nat->Prop}(a:gm F b w)(c:gm u7 w z5)(g:∀d,d<b.heap.size->u7 d->F d):gm F b z5:=
 ⟨c.os.trans a.os,c.tape.trans a.tape,c.output.trans a.output,Nat.le_trans a.size c.size,fun i hi e=>(c.block i (ca hi a.size) (fun f=>e (g i hi f))).trans (a.block i hi e)⟩
theorem L1(q:jt L b a e c N)(p:iA l N)(T:l<=8)(J:0<=g/\g<=9223372036854775807):
  aL ab 131 #[Pt a,II N.read,II g] b fun m o=>∃j,m=.returned j/\o.ownsRow b.heap.size 5 1 j (jo N g) (U8 (N.bytes.take (jo N g)))/\
   ∃n k,iy o n k (hT (N.read+jo N g) (N.bytes.drop (jo N g)))/\(∀f∈k,rI f.2/\∀d,f.2.ownBlock=some d->(L d\/b.heap.size<=d)/\j.ownBlock≠some d)/\(n.ownBlock=e.ownBlock\/∀d,n.ownBlock=some d->b.heap.size<=d)/\gm (fun t=>t=a\/e.ownBlock=some t) b o/\
    o.heap[a]? =some (.cells #[n,II N.read,II N.fW,II N.fS,II c,II (max N.final 0),.bool (decide (0<=N.final)),.bool N.reset] 204 (0,0)):=by
 obtain⟨D,z,S⟩:=q.runs;have Q:=p.len;have R:=p.rn;have E:=p.read;have U:=p.qb;have W:=kZ N.bytes N.read;have u:kE (hT N.read N.bytes):=tT E (by omega) (by omega);have w:∀{k:List iw} {j:aM},(∀f∈k,f∈D\/(rI f.2/\∀d,f.2.ownBlock=some d->b.heap.size<=d))->(∀f∈k,f.2.ownBlock=none\/f.2.ownBlock≠j.ownBlock)->∀f∈k,rI f.2/\∀d,f.2.ownBlock=some d->(L d\/b.heap.size<=d)/\j.ownBlock≠some d:=by grind
 by_cases y:g=0\/iX N.bytes=0
 ·have x:jo N g=0:=by unfold jo;rcases y with m|m<;>omega
  have G:g=0\/iJ (hT N.read N.bytes) N.read (N.read+1)=false:=y.imp id fun m=>by rw[ww,m];grind
  refine(EU q.gK rfl z u (by omega) G).mono ?_;rintro m o ⟨rfl,h⟩;refine⟨_,rfl,?_,e,D,?_,w h.items (fun f X=>?_),h.at_,h.gx,h.gK⟩
  ·rw[x];exact ak _ _ _ _
  ·rw[x];simpa using h.runs
  ·cases V:f.2.ownBlock with
   |none=>exact bg rfl
   |some t=>exact bf (by simp[aq])
 ·have I:0<iX N.bytes:=by omega
  have K:0<g:=by omega
  have P:=pX N.read I;have A:=z;have v:=u;rw[P]at A v;refine(EV q.gK rfl (by decide) (by decide) A v K J.2).mono ?_;rintro m o ⟨j,n,k,rfl,s,h,O⟩;have B:=AR N.read N.bytes g.toNat;have M:((g.toNat:Nat):Int)=g:=by omega
  rw[M]at B;have C:=h.runs;rw[B]at C;rw[EI]at s;have H:(N.bytes.take (jo N g)).length=jo N g:=by have:=sC N.bytes;rw[dB];unfold jo;omega
  rw[H]at s;exact⟨j,rfl,s,n,k,C,w h.items O,h.at_,h.gx,h.gK⟩
structure qt(U:Nat->Prop)(w:aK)(b:Nat)(lv:aM)(nH:Int)(x:gs)(most:Int)(e:ed)(w':aK):Prop where
 ex:∃tv rY,e=.returned (.agg #[tv,.bool (gz x most).1.fin,.bool (gz x most).1.oC])/\w'.ownsRow w.heap.size 5 1 tv (gz x most).1.bytes.length (U8 (gz x most).1.bytes)/\
  jt (fun g=>(U g\/w.heap.size<=g)/\tv.ownBlock≠some g) w' b rY nH (gz x most).2/\(rY.ownBlock=lv.ownBlock\/∀g,rY.ownBlock=some g->w.heap.size<=g)
 gx:gm (fun q=>q=b\/lv.ownBlock=some q) w w'
theorem LM(t:jt L b a e c N)(v:iA l N)(s:l<=8)(d6:0<=g/\g<=9223372036854775807):
  aL ab 74 #[Pt a,II g] b fun f e0=>qt L b a e c N g f e0:=by
 have H:=fO b (.cells L4 46);have T:=t.below H;have X:(uz b).heap[b.heap.size]? =some (ti):=cA b _;have e5:a<b.heap.size:=t.lt;cases O:N.reset with
 |true=>
  have a1:(uz b).cell? (Ad a 7)=some (.bool true):=by rw[<-O];exact T.cell 7
  have a5:=(v.oC O).1;have M:jo N g=0:=by unfold jo;rw[a5];simp[iX]
  have U:gz N g=(⟨[],false,true⟩,{N with done:=true}):=by unfold gz;rw[M,a5,O];simp
  have c5:Hid (∀p:aK,Bw b p->qt L b a e c N g (.returned (.agg #[ai none 0 0,.bool false,.bool true])) p):=fun p w=>by refine⟨⟨ai none 0 0,e,by rw[U],by rw[U];exact ak _ _ _ _,?_,bg rfl⟩,gm.fU w⟩;rw[U];have a2:=t.below w;obtain⟨d9,W,B⟩:=a2.runs;refine⟨a2.gK,d9,W,fun u D=>⟨(B u D).1,fun k s=>⟨bg ((B u D).2 k s),by simp[aq]⟩⟩⟩
  have b5:=fK X;have b1:=fK H;clear t T v X H U a5;go_enter func74,ntmps74;go_wp2_with fail;refine cz (eH (P:=ab) Tryz.results74 _ _ b.heap.size 46 #[ai none 0 0,.bool false,.bool true] (0,0) _ rfl (cA b _) underlying46 rfl (by kernel_rfl)) rfl ?_;exact c5.out _ (fO _ _)
 |false=>
  have e8:jo N g<=N.bytes.length:=by have:=sC N.bytes;unfold jo;omega
  have e9:=v.len;have e6:=v.rn;have f0:=v.read;have e7:=v.Dy;obtain⟨d,M⟩:∃d,jo N g=d:=⟨_,rfl⟩;have b4:Hid (∀p:aK,Bw b p->aL ab 131 #[Pt a,II N.read,II g] p fun f h=>∃n o y,f=.returned (.slice n d o)/\h.ownsRow b.heap.size 5 1 (.slice n d o) d (U8 (N.bytes.take d))/\
    (∃E,iy h y E (hT (N.read+d) (N.bytes.drop d))/\(∀u∈E,rI u.2/\∀k,u.2.ownBlock=some k->(L k\/b.heap.size<=k)/\(Value.slice n d o).ownBlock≠some k))/\(y.ownBlock=e.ownBlock\/∀k,y.ownBlock=some k->b.heap.size<=k)/\gm (fun j=>j=a\/e.ownBlock=some j) b h/\
    h.heap[a]? =some (.cells #[y,II N.read,II N.fW,II N.fS,II c,II (max N.final 0),.bool (decide (0<=N.final)),.bool N.reset] 204 (0,0))/\∀j,b.heap.size<=j->j<p.heap.size->h.heap[j]? =p.heap[j]?):=by
   intro p w;refine(L1 (t.below w) v s d6).mono ?_;rintro f h ⟨f6,rfl,C,y,E,W,B,V,J,z⟩;rw[M]at C W;obtain⟨n,o,rfl⟩:=gB C;have c4:=w.size;refine⟨n,o,y,rfl,gq C c4,⟨E,W,fun u D=>⟨(B u D).1,fun k s=>⟨((B u D).2 k s).1.imp id fun f=>by omega,((B u D).2 k s).2⟩⟩⟩,V.imp id fun f k s=>Nat.le_trans c4 (f k s),(gm.fU w).trans J,z,fun j a2 d2=>J.block j d2 fun f=>?_⟩;rcases f with f|f
   ·omega
   ·obtain⟨f7,d3⟩:=t.own;have:=(d3.lt j f).2;omega
  have a1:CV (uz b) a 7 (.bool N.reset):=T.cell 7;rw[O]at a1;have c1:∀p:aK,Bw b p->CI p a 1 N.read:=fun p w=>(t.below w).cell 1;have c9:=c1 _ H;have b5:=fK X;have b1:=fK H;clear t T v X c1;go_enter func74,ntmps74;go_wp2_with fail;go_region_with (first
   |(go_at_call 131;refine(b4.out _ (fQ b1.out _)).mono ?_;rintro f h ⟨n,o,y,rfl,C,Q,V,J,z,c2⟩))
  have e2:CI h a 1 N.read:=by simp[aD,z]
  have g1:mc h a 1:=cx _ _ _ _ _ z;have b8:h.heap[b.heap.size]? =some (ti):=(c2 b.heap.size (ar _) (by show b.heap.size<(b.alloc _).heap.size;simp)).trans b5.out;have f2:IntKind.i64.wrap (N.read+(d:Int))=N.read+d:=by rw[dq];omega
  have I:=fT z 1 (II (N.read+(d:Int)));have q:(h.setCell (Ad a 1) (II (N.read+(d:Int)))).heap[b.heap.size]? =some (ti):=by rw[cy _ _ _ _ (show b.heap.size≠a by omega)];exact b8
  have e3:CI (h.setCell (Ad a 1) (II (N.read+(d:Int)))) a 1 (N.read+d):=iL I rfl;have d1:CI (h.setCell (Ad a 1) (II (N.read+(d:Int)))) a 5 (max N.final 0):=iL I rfl;have b6:CV (h.setCell (Ad a 1) (II (N.read+(d:Int)))) a 6 (.bool (decide (0<=N.final))):=iL I rfl;have f3:CV (h.setCell (Ad a 1) (II (N.read+(d:Int)))) b.heap.size 0 (ai none 0 0):=iL q rfl;have f4:CV (h.setCell (Ad a 1) (II (N.read+(d:Int)))) b.heap.size 1 (.bool false):=iL q rfl;have f5:CV (h.setCell (Ad a 1) (II (N.read+(d:Int)))) b.heap.size 2 (.bool false):=iL q rfl;have a9:∀a6,mc (h.setCell (Ad a 1) (II (N.read+(d:Int)))) b.heap.size a6:=fun a6=>cx _ _ a6 _ _ q;have f8:=a9 0;have f9:=a9 1;have g0:=a9 2;have a0:=fK C;have b3:=fK Q;have b0:=fK V;have b2:=fK J;have R:=fK z;clear C Q V J z c2 b8 a1 c9 b4;have a4:(gz N g).1 =⟨N.bytes.take d,decide (N.read+d=N.final),false⟩:=by unfold gz;rw[M,O];simp
  have b7:(gz N g).2 = {N with bytes:=N.bytes.drop d,read:=N.read+d,done:=(gz N g).2.done}:=by unfold gz;rw[M]
  have d5:(N.bytes.take d).length=d:=by rw[dB];omega
  have S:Hid (∀fin:Bool,fin=decide (N.read+d=N.final)->((((h.setCell (Ad a 1) (II (N.read+(d:Int)))).setCell (gf b 0) (.slice n d o)).setCell (gf b 1) (.bool fin)).setCell (gf b 2) (.bool false)).drew.heap[b.heap.size]? =some (.cells #[.slice n d o,.bool fin,.bool false] 46 (0,0))/\
    qt L b a e c N g (.returned (.agg #[.slice n d o,.bool fin,.bool false])) ((((h.setCell (Ad a 1) (II (N.read+(d:Int)))).setCell (gf b 0) (.slice n d o)).setCell (gf b 1) (.bool fin)).setCell (gf b 2) (.bool false)).drew):=by
   intro fin A;have c6:=fT q 0 (.slice n d o);have c7:=fT c6 1 (.bool fin);have c8:=fT c7 2 (.bool false);have f1:b.heap.size<h.heap.size:=(bn.1 q).1 |> fun t=>by simpa using t
   have a3:gm (fun j=>j=a\/b.heap.size=j) h ((((h.setCell (Ad a 1) (II (N.read+(d:Int)))).setCell (gf b 0) (.slice n d o)).setCell (gf b 1) (.bool fin)).setCell (gf b 2) (.bool false)).drew:=by refine⟨rfl,rfl,rfl,by show h.heap.size<=_;simp,fun j x c3=>?_⟩;have d8:j≠a:=fun f=>c3 (bg f);have a7:j≠b.heap.size:=fun f=>c3 (bf f.symm);show(((h.setCell _ _).setCell _ _).setCell _ _ |>.setCell _ _).heap[j]? =_;rw[cy _ _ _ _ a7,cy _ _ _ _ a7,cy _ _ _ _ a7,cy _ _ _ _ d8]
   refine⟨c8,⟨.slice n d o,y,by rw[a4,A],?_,?_,b0.out⟩,?_⟩
   ·rw[a4];simp only[d5];refine gM a0.out a3 (fun k s f=>?_);obtain⟨d0,m⟩:=fX a0.out s;rcases f with f|f
    ·rw[f,R.out]at m;simp only[Option.some.injEq,Obj.cells.injEq]at m;exact absurd m.2.1 (by decide)
    ·rw[<-f]at m;have G:h.heap[b.heap.size]? =some (ti):=by rw[cy _ _ _ _ (show b.heap.size≠a by omega)]at q;exact q
     rw[G]at m;simp only[Option.some.injEq,Obj.cells.injEq]at m;exact absurd m.2.1 (by decide)
   ·rw[b7];obtain⟨E,Q,d4⟩:=b3.out;refine⟨?_,E,?_,d4⟩
    ·show(((h.setCell _ _).setCell _ _).setCell _ _ |>.setCell _ _).heap[a]? =_;have a8:a≠b.heap.size:=by omega
     rw[cy _ _ _ _ a8,cy _ _ _ _ a8,cy _ _ _ _ a8];exact I
    ·refine Q.gx a3 (fun k s f=>?_) (fun j e1 e4 x f=>?_)
     ·obtain⟨d0,m⟩:=fX Q.own s;rcases f with f|f
      ·rw[f,R.out]at m;simp only[Option.some.injEq,Obj.cells.injEq]at m;exact absurd m.2.1 (by decide)
      ·rw[<-f]at m;have G:h.heap[b.heap.size]? =some (ti):=by rw[cy _ _ _ _ (show b.heap.size≠a by omega)]at q;exact q
       rw[G]at m;simp only[Option.some.injEq,Obj.cells.injEq]at m;exact absurd m.2.1 (by decide)
     ·rcases f with f|f
      ·rw[f,R.out]at x;simp only[Option.some.injEq,Obj.cells.injEq]at x;exact absurd x.2.1 (by decide)
      ·have G:h.heap[b.heap.size]? =some (ti):=by rw[cy _ _ _ _ (show b.heap.size≠a by omega)]at q;exact q
       rw[<-f,G]at x;simp only[Option.some.injEq,Obj.cells.injEq]at x;exact absurd x.2.1 (by decide)
   ·refine mh b2.out a3 (fun j x f=>?_);rcases f with f|f
    ·exact bg f
    ·omega
  clear I q a0 b3 b0 b2 R a4 b7;by_cases b9:0<=N.final
  ·rw[show decide (0<=N.final)=true from decide_eq_true b9]at b6;have d7:max N.final 0=N.final:=by omega
   rw[d7]at d1;obtain⟨K,A⟩:=S.out (N.read+(d:Int)==N.final) rfl;have Z:=fK K;have Y:=fK A;clear S K A;go_wp2_with fail;go_region;go_wp2_with fail;refine cz (eH (P:=ab) Tryz.results74 _ _ b.heap.size 46 #[.slice n d o,.bool (N.read+(d:Int)==N.final),.bool false] (0,0) _ rfl Z.out underlying46 rfl (by kernel_rfl)) rfl ?_;exact Y.out
  ·rw[show decide (0<=N.final)=false from decide_eq_false b9]at b6;obtain⟨K,A⟩:=S.out false (decide_eq_false (by omega)).symm;have Z:=fK K;have Y:=fK A;clear S K A;go_wp2_with fail;go_region;go_wp2_with fail;refine cz (eH (P:=ab) Tryz.results74 _ _ b.heap.size 46 #[.slice n d o,.bool false,.bool false] (0,0) _ rfl Z.out underlying46 rfl (by kernel_rfl)) rfl ?_;exact Y.out
theorem ub{α:Type}{y9:List (Int×α)}(hi:∀a∈y0,iA c a)(e:E5 g y0 y9):gX y0=il y0+iS (tM (·.read) y0) y9:=by
 have f:=Ba (fun a=>if a.done then 0 else a.read) (fun a _ b=>by simp[b]) (by simp[gP]) e;have h:iS (tM (fun a=>if a.done then 0 else a.read) y0) y9=iS (tM (·.read) y0) y9:=by unfold iS;congr 1;refine List.map_congr_left fun m j=>?_;obtain⟨_,a,d,b⟩:=e.str m j;simp[tM,d,b]
 rw[<-h,<-f];unfold gX il;rw[uj,<-Hw];congr 1;refine List.map_congr_left fun a d=>?_;have l:=hi a d;unfold kM;cases b:a.done with
 |false=>simp
 |true=>
  cases k:a.reset with
  |true=>simp
  |false=>have:=(l.dn b).2.2 k;simp[this]
theorem It{o:Nat}(hi:Int->Int){c:aK}(a1:CV c cb 21 (.map (some d)))(L:iO kb ab 3 c d o w8)(P:∀a∈w8,CI c a.2 1 (hi a.1))(w:∀a∈w8,0<=hi a.1/\hi a.1<=1073741823)(c2:w8.length<=1073741823):
  aL ab 70 #[Pt cb,.func (.func 134) #[] #[]] c fun D b2=>D=.returned (II (iS hi w8))/\Bw c b2:=by
 have b6:iS hi w8<=1152921504606846976:=by have:=vm (c:=1073741823) fun a e=>(w a e).2;omega
 have R:=fK L;have V:=fK P;have C:=fK w;clear L P w;go_enter func70,ntmps70;go_wp2_with (first
  |(at_range;refine mS _ rfl _ 134 rfl 140 underlying3 underlying134 d o w8 rfl R.out ?_;intro b3 N I a7))
 have E:Bw c b3:=lz I;have z:=fK (co N E);clear N I a7 E a1;go_frame;go_loopw [5] (fun b1 p=>∃(rest:List (Int×Nat)) (s:Nat),iH kb ab 3 p d c.heap.size o w8 rest s/\b1=II (iS hi w8-iS hi rest)/\Hid (∀a∈rest,a∈w8)/\Hid (iS hi rest<=iS hi w8)/\Bw c p) (fun _ p=>p.rangeLeft d c.heap.size);case atStart=>exact⟨w8,_,z.out.1,by rw[Int.sub_self],fun a e=>e,fK (Int.le_refl _),z.out.2⟩
 case round=>
  obtain⟨rest,s,M,rfl,x,a9,G⟩:=hrel;have q:=fK G;have U:=fK M;clear G;go_wp2_with (first
   |(at_next;refine nK _ rfl _ rfl underlying3 d c.heap.size o w8 rest s rfl M ?_ ?_))
  ·intro a6;subst a6;go_wp2_with fail;go_ret;exact⟨by simp[iS],q.out⟩
  ·intro g k h j y W n c3 a0 O K J a8 b7;have u:(g,k)∈w8:=x.out _ (by rw[n];simp);have t:Bw c y:=q.out.grown J q.out.size (fun b5 a2=>by cases a2;exact ar _);have H:CI y k 1 (hi g):=fL (V.out (g,k) u) t;have v:=yP (s6:=hi) h j g k;rw[<-n]at v;have a4:0<=iS hi (h++j):=lB fun a e=>(C.out a (x.out a (by rw[n];simp at e⊢;rcases e with m|m<;>simp[m]))).1;have Q:Hid (∀a∈h++j,a∈w8):=fun a e=>x.out a (by rw[n];simp at e⊢;rcases e with m|m<;>simp[m]);have a3:0<=hi g/\hi g<=1073741823:=C.out (g,k) u;obtain⟨b8,b9⟩:=a3;have a5:=a9.out;have b0:IntKind.i64.wrap (iS hi w8-iS hi rest+hi g)=iS hi w8-iS hi (h++j):=by rw[dq];omega
   have S:=fK v;have A:=fK (yQ (a:=k) (rd:=hi g) (b:=y) H);have l:=fK (co O (co t (co K Q)));have T:=fK (show iS hi (h++j)<=iS hi w8 from by omega);generalize iS hi rest=b4 at b0 S⊢;clear v a4 t H u O K Q a5 J a8 a0;go_wp2_with fail;refine A.out.mono ?_;rintro D c4 ⟨rfl,rfl⟩;clear A;go_wp2_with fail;go_roundw;case rel=>exact⟨h++j,W,l.out.1,rfl,l.out.2.2.2,T,l.out.2.1⟩
   case measure=>have X:=l.out.1.left_eq;have Y:=U.out.left_eq;have Z:=l.out.2.2.1;rw[X,Y];exact Z
theorem xP(hi:Int->Int)(o:CV b cb 21 (.map (some d)))(e:CI b cb 23 c)(l:iO kb ab 3 b d f w8)(q:∀a∈w8,CI b a.2 1 (hi a.1))(g:∀a∈w8,0<=hi a.1/\hi a.1<=1073741823)(p:w8.length<=1073741823)(w:0<=c/\c<=1152921504606846976):
  aL ab 81 #[Pt cb] b fun n m=>n=.returned (II (c+iS hi w8))/\Bw b m:=by
 have u:0<=iS hi w8:=lB fun a e=>(g a e).1;have v:iS hi w8<=1152921504606846976:=by have:=vm (c:=1073741823) fun a e=>(g a e).2;omega
 have h:=fK (fun t (j:Bw b t)=>It hi (fL o j) (l.same (j.block d l.lt)) (fun a e=>fL (q a e) j) g p);have x:IntKind.i64.wrap (c+iS hi w8)=c+iS hi w8:=by rw[dq];omega
 generalize iS hi w8=z at h x⊢;clear o l q g p w u v;go_enter func81,ntmps81;go_wp2_with fail;go_region_held3 (fun m=>m.cell? (Ad cb 23)=some (II c)) (first|assumption|go_keep) (first
  |(go_at_call 70;refine(h.out _ (fQ (Below.refl _ b) _)).mono ?_;rintro n A ⟨rfl,k⟩;have y:=fL e (gc k)))
 have s:=fK (gc k);clear k h y;go_wp2_with fail;go_ret;exact⟨rfl,s.out⟩
theorem sw{read:Int}(a:0<=g):decide (c<kG c g read)=(decide (c<read+g/2)&&decide (c<1073741823)):=by unfold kG;grind
theorem Aq{read:Int}(b:c<=1073741823)(a:0<=g):kG c g read=if decide (c<read+g/2)&&decide (c<1073741823) then iR read g else c:=by unfold kG iR;grind
theorem JO(f:jt L b a e s.c2 N)(h:iA c N)(q:0<=s.c2/\s.c2<=4096):
  aL ab 77 #[Pt a] b fun d g=>d=.returned (.bool (mE s N))/\jt L g a e s.c2 (if mE s N then {N with fS:=iR N.read s.c2} else N)/\gm (· = a) b g/\(0<=N.final->Bw b g):=by
 have G:=h.len;have B:=h.rn;have H:=h.read;have w:CV b a 6 (.bool (decide (0<=N.final))):=f.cell 6;have c1:CI b a 1 N.read:=f.cell 1;by_cases A:0<=N.final
 ·have j:mE s N=false:=by unfold mE;rw[decide_eq_false (by omega:¬N.final<0)];rfl
  rw[j];simp only[dg,if_false];rw[show decide (0<=N.final)=true from decide_eq_true A]at w;have u:Hid (∀t,jt L (b.drewN t) a e s.c2 N/\gm (· = a) b (b.drewN t)):=fun t=>⟨f.below (fQ (Below.refl _ b) _),gm.fU (fQ (Below.refl _ b) _)⟩;clear f h;go_enter func77,ntmps77;go_wp2_with fail;go_quiet (fail);go_wp2_with fail;go_ret;exact⟨rfl,(u.out _).1,(u.out _).2,fun _=>fQ (Below.refl _ b) _⟩
 ·have j:mE s N=decide (N.fS<kG N.fS s.c2 N.read):=by rw[sw q.1];unfold mE;rw[decide_eq_true (by omega:N.final<0)];rfl
  have z:(if mE s N then {N with fS:=iR N.read s.c2} else N) = {N with fS:=kG N.fS s.c2 N.read}:=by rw[j,sw q.1,Aq B.2 q.1];split<;>rfl
  rw[z,j];rw[show decide (0<=N.final)=false from decide_eq_false A]at w;have m:Hid (∀n:aK,Bw b n->aL ab 80 #[ag (some (Ad a 3)),II N.read] n fun d g=>d=.returned (.bool (decide (N.fS<kG N.fS s.c2 N.read)))/\jt L g a e s.c2 {N with fS:=kG N.fS s.c2 N.read}/\gm (· = a) b g):=by
   intro n o;have k:=f.below o;refine(wE k.gK rfl rfl (by omega) (by omega)).mono ?_;rintro d g ⟨rfl,l⟩;refine⟨rfl,?_⟩;by_cases p:N.fS<N.read+s.c2/2
   ·rw[if_pos p]at l;subst l;obtain⟨E,D,C⟩:=k.runs;refine⟨⟨(fT k.gK _ _).trans (by simp),E,D.EB k.gK 3 _,C⟩,(gm.fU o).trans (go (Below.refl _ _) _ _)⟩
   ·rw[if_neg p]at l;subst l;have d:kG N.fS s.c2 N.read=N.fS:=by unfold kG;rw[if_neg p]
    rw[d];exact⟨k,gm.fU o⟩
  generalize decide (N.fS<kG N.fS s.c2 N.read)=more at m⊢;clear f h z j;go_enter func77,ntmps77;go_wp2_with fail;go_region_with (first
   |(go_at_call 80;refine(m.out _ (fQ (Below.refl _ b) _)).mono ?_;rintro d I ⟨rfl,y,x⟩))
  have v:=fK (co y x);clear m y x;go_wp2_with fail;go_ret;exact⟨rfl,v.out.1,v.out.2,fun f=>by omega⟩
theorem Iv:
  aL ab 72 #[.agg #[II fi,.bool O]] b fun c e=>c=.returned (.agg #[ai none 0 0,.bool (!O),.bool O])/\Bw b e:=by
 have d:=fP (fO b (Bv fi O)) (fO (b.alloc (Bv fi O)) (.cells #[ai none 0 0,.bool (!O),.bool O] 46));have a:=fK (cA (b.alloc (Bv fi O)) (.cells #[ai none 0 0,.bool (!O),.bool O] 46));go_enter func72,ntmps72;go_wp2_with fail;refine cz (eH (P:=ab) Tryz.results72 _ _ (b.alloc (Bv fi O)).heap.size 46 #[ai none 0 0,.bool (!O),.bool O] (0,0) _ (by simp) (by simpa using a.out) underlying46 rfl (by kernel_rfl)) rfl ?_;exact⟨rfl,d⟩
theorem JN(d:jt L b a e c N):
  aL ab 76 #[Pt a] b fun j k=>j=.returned (.agg #[II (max N.final 0),.bool N.reset])/\Bw b k:=by
 have h:=fO b (tK);have n:=d.lt;have f:=d.below h;have l:CI (b.alloc (tK)) a 5 (max N.final 0):=f.cell 5;have m:CV (b.alloc (tK)) a 7 (.bool N.reset):=f.cell 7;have g:(b.alloc (tK)).heap[b.heap.size]? =some (.cells #[II 0,.bool false] 142 (0,0)):=cA b _;have o:io (b.alloc (tK)) b 0 0:=by simp
 have p:lq (b.alloc (tK)) b 1 (.bool false):=by simp
 have q:mc (b.alloc (tK)) b.heap.size 0:=cx _ _ 0 _ _ g;have s:mc (b.alloc (tK)) b.heap.size 1:=cx _ _ 1 _ _ g;clear d f g h;go_enter func76,ntmps76;go_wp2_with fail;go_region;go_wp2_with fail;refine cz (eH (P:=ab) Tryz.results76 _ _ b.heap.size 142 #[II (max N.final 0),.bool N.reset] (0,0) _ rfl (cA b _) underlying142 rfl (by kernel_rfl)) rfl ?_;exact⟨rfl,fQ (fO _ _) _⟩
theorem Fx(g:gC b cb s j e d f c)(o:j.fM.length<=1073741823):
  aL ab 82 #[Pt cb] b fun h m=>h=.returned (.bool (decide (j.fM.length<1073741823)))/\m=(if j.fM.length<1073741823 then b.setCell (Ad cb 20) (II ((j.fM.length+1:Nat):Int)) else b):=by
 have n:CI b cb 20 j.fM.length:=g.cell 20;have q:=g.free 20;clear g;by_cases a:j.fM.length<1073741823
 ·rw[decide_eq_true a,if_pos a];have k:((j.fM.length:Int)==1073741823)=false:=beq_eq_false_iff_ne.2 (by omega);have p:IntKind.i64.wrap ((j.fM.length:Int)+1)=((j.fM.length+1:Nat):Int):=by rw[dq];omega
  generalize j.fM.length=l at *
  go_enter func82,ntmps82;go_wp2_with fail;go_ret;exact⟨rfl,by simp⟩
 ·rw[decide_eq_false a,if_neg a];have k:((j.fM.length:Int)==1073741823)=true:=beq_iff_eq.2 (by omega);generalize j.fM.length=l at *
  go_enter func82,ntmps82;go_wp2_with fail;go_ret;exact⟨rfl,rfl⟩
theorem Iq(d:hC a b cb s j z6)(hi:∀e∈j.fM,iA s.c4 e)(o:hS c j)(p:0<=il j.fM/\il j.fM<=1152921504606846976):
  aL ab 81 #[Pt cb] b fun g q=>g=.returned (II (gX j.fM))/\Bw b q:=by
 obtain⟨x,w,n⟩:=d.py;rw[ub hi d.mp];refine xP _ (d.gK.cell 21) (d.gK.cell 23) n (fun f k=>?_) (fun f k=>?_) ?_ p
 ·obtain⟨_,e,h,_⟩:=d.mp.str f k;have g:tM (·.read) j.fM f.1=e.read:=by simp[tM,h]
  rw[g];exact(d.str f k e h).cell 1
 ·obtain⟨_,e,h,_⟩:=d.mp.str f k;have g:tM (·.read) j.fM f.1=e.read:=by simp[tM,h]
  rw[g];have l:=hi e (bS h);have m:=l.len;have u:=l.rn;have v:=l.read;omega
 ·have t:=o.lu;have m:=d.mp.len;omega
theorem Fy:
  aL ab 132 #[.agg #[II fi,.bool O]] b fun a d=>a=.returned (II fi)/\Bw b d:=by
 have c:=fO b (Bv fi O);go_enter func132,ntmps132;go_wp2_with fail;go_ret;exact⟨rfl,c⟩
structure sR(w:aK)(cb:Nat)(g:g_)(c:fV)(mx:aM)(sm dm:Nat)(uX:Int)(n1 n2:Nat)(sl:List (Int×Nat))(dl:List (Int×(Int×Bool)))(e:ed)(w':aK):Prop where
 ret:e=.returned (.tuple #[])
 gK:gC w' cb g c mx sm dm uX
 py:iO kb ab 3 w' sm n1 sl
 p_:iO pP ab 3 w' dm n2 dl
 gx:gm (fun k=>k=cb\/k=sm\/k=dm) w w'
theorem Dl{t:List (Int×(Int×Bool))}(u:gC b cb s j e d f c)(D:iO kb ab 3 b d n w8)(B:iO pP ab 3 b f A t)(a8:d≠f)(d7:0<=g/\g<=1073741823)(c4:nR w8 g=some z7)(b8:nR t g=none)(d9:0<=c/\c<=1152921504606846976)(d6:0<=fi/\fi<=1073741823)(d8:A<=1125899906842624):
  aL ab 75 #[Pt cb,II g,.agg #[II fi,.bool O]] b fun a R=>sR b cb s j e d f (c+fi) n (A+1) (nC w8 g) (t++[(g,(fi,O))]) a R:=by
 have v:=fO b (Bv fi O);have a9:(b.alloc (Bv fi O)).heap[b.heap.size]? =some (.cells #[II fi,.bool O] 142 (0,0)):=cA b _;have E:=u.below v;have c2:d<b.heap.size:=D.lt;have b7:f<b.heap.size:=B.lt;have d5:cb<b.heap.size:=u.lt;have a7:=D.same (v.block d c2);have a3:=B.same (v.block f b7);have d0:CV (b.alloc (Bv fi O)) cb 21 (.map (some d)):=E.cell 21;have c3:(Lit.int .i64 g).wf=true:=pC (c:=g) (by omega);have a2:cb≠d:=fun a=>by obtain⟨b6,b5,h⟩:=D.iM;rw[<-a,u]at h;cases h
 have a1:cb≠f:=fun a=>by obtain⟨b6,b5,h⟩:=B.iM;rw[<-a,u]at h;cases h
 have V:=fK a7;have U:=fK a3;have S:=fK E;have T:=fK v;have X:=fK a9;have W:=fK c3;have b3:=fK b8;clear u D B E a7 a3 v a9;go_enter func75,ntmps75;go_wp2_with (first
  |(at_delete;refine EP (C:=kb) (K:=3) _ rfl (.tmp 9) (.tmp 10) 134 rfl 140 underlying3 underlying134 d n w8 (by kernel_rfl) V.out g z7 (by kernel_rfl) W.out c4 ?_;intro l I p b9))
 have w:l.heap[b.heap.size]? =some (.cells #[II fi,.bool O] 142 (0,0)):=(p.block b.heap.size (by simp) (fun a=>by injection a with a;omega)).trans X.out;have z:gC l cb s j e d f c:=(p.block cb (by simp;omega) (fun a=>by injection a with a;exact a2 a)).trans S.out;have a4:iO pP ab 3 l f A t:=U.out.same (p.block f (by simp;omega) (fun a=>by injection a with a;exact a8 a.symm));have Y:gm (· = d) (b.alloc (Bv fi O)) l:=⟨p.os,p.tape,p.output,p.size,fun h P M=>p.block h P (fun a=>by injection a with a;exact M a)⟩;have d1:CV l cb 22 (.map (some f)):=z.cell 22;have c8:io l b 0 fi:=iL w rfl;have c9:lq l b 1 (.bool O):=iL w rfl;have a5:iO pP ab 3 l.drew f A t:=a4;obtain⟨m,N,J,q⟩:=Ew (u6:=pP) (u5:=142) underlying3 underlying135 a5 (by unfold maxLen;omega) W.out (x0:=(fi,O)) b3.out;replace N:(Instr.mapUpdate 135 (.map (some f)) (II g) (.agg #[II fi,.bool O])).run ab l.drew=.ok () m:=N;have Q:m.heap[b.heap.size]? =some (.cells #[II fi,.bool O] 142 (0,0)):=(q.block b.heap.size ((bn.1 w).1) (fun a=>by injection a with a;omega)).trans w;have G:gC m cb s j e d f c:=(q.block cb z.lt (fun a=>by injection a with a;exact a1 a)).trans z;have L:iO kb ab 3 m d n (nC w8 g):=I.same (q.block d I.lt (fun a=>by injection a with a;exact a8 a));have Z:gm (· = f) l m:=⟨q.os,q.tape,q.output,q.size,fun h P M=>q.block h P (fun a=>by injection a with a;exact M a)⟩;have d2:CI m cb 23 c:=G.cell 23;have d3:io m b 0 fi:=iL Q rfl;have d4:lq m b 1 (.bool O):=iL Q rfl;have R0:IntKind.i64.wrap (c+fi)=c+fi:=by rw[dq];omega
 have b1:Hid (∀o,Bw m o->o.cell? (Ad cb 23)=some (II c)/\o.frozen? (Ad cb 23)=false/\sR b cb s j e d f (c+fi) n (A+1) (nC w8 g) (t++[(g,(fi,O))]) (.returned (.tuple #[])) (o.setCell (Ad cb 23) (II (c+fi)))):=by
  intro o x;have H:=G.below x;refine⟨H.cell 23,H.free 23,rfl,(fT H _ _).trans (by simp[pG]),?_,?_,?_⟩
  ·exact(L.same (x.block d L.lt)).same (cy _ _ _ _ (Ne.symm a2))
  ·exact(J.same (x.block f J.lt)).same (cy _ _ _ _ (Ne.symm a1))
  ·refine(((gm.fU T.out).trans (Y.mono fun h _ a=>bf (bg a))).trans (Z.mono fun h _ a=>bf (bf a))).trans ((gm.fU x).trans ((go (Below.refl _ _) _ _).mono fun h _ a=>bg a))
 have b4:=fK N;have b0:Hid (∀o,aL ab 132 #[.agg #[II fi,.bool O]] o fun a R=>a=.returned (II fi)/\Bw o R):=fun o=>Fy;clear I p b9 w z a4 Y a5 J q Q G L Z V U S T X b4;go_wp2_with fail;go_region;all_goals (
  go_wp2_with fail;go_region_with (first
   |(go_at_call 132;refine(b0.out _).mono ?_;rintro a c5 ⟨rfl,a0⟩;obtain⟨c6,c7,a6⟩:=b1.out c5 (fP (fQ (Below.refl _ m) _) a0)))
  all_goals (
   have b2:=fK a6;clear a6 c6 c7 a0;go_wp2_with fail;go_end0;exact b2.out))
theorem hC.Nl{Q:Nat}{a:gw}(h:hC Q w cb s j a)(H:(c,f)∈a.sl)(J:j.fM[c.toNat]? =some x)(W:x.done=false)(Z:y.done=false)
  (B:gm (fun d=>d=f\/(a.lv c).ownBlock=some d) w b) {L:Nat->Prop} (a2:∀d,a.u d->L d) (a3:∀d,L d->d<b.heap.size) (b1:jt L b f e s.c2 y) (K:e.ownBlock=(a.lv c).ownBlock\/∀d,e.ownBlock=some d->w.heap.size<=d):
  hC Q b cb s {j with fM:=j.fM.set c.toNat y} {a with lv:=fun d=>if d=c then e else a.lv d,u:=L}/\∀d,ie cb {a with lv:=fun d=>if d=c then e else a.lv d,u:=L} d->ie cb a d\/w.heap.size<=d:=by
 have Y:=h.str (c,f) H x J;have a6:=Y.gK;obtain⟨c7,O⟩:=Y.own;have U:∀d E g G,w.heap[d]? =some (.cells E g G)->g≠204->g≠259->¬(d=f\/(a.lv c).ownBlock=some d):=by
  rintro d E g G n z T (o|o)
  ·grind
  ·exact fR O n (fun g=>T g.symm) o
 have V:∀d S R,w.heap[d]? =some (.map S R)->¬(d=f\/(a.lv c).ownBlock=some d):=by
  rintro d S R n (o|o)
  ·grind
  ·obtain⟨c1,t⟩:=fX O o;grind
 obtain⟨b3,a8,M⟩:=h.py;obtain⟨b4,a9,N⟩:=h.p_;obtain⟨b9,b7,a4⟩:=M.iM;obtain⟨c3,b8,a5⟩:=N.iM;obtain⟨b6,P⟩:=h.pk;have c4:=(h.mp.str (c,f) H).1;have b0:∀k∈a.sl,k.1=c->k.2=f:=by intro k l g;have z:=oe h.mp.nd (show(k.1,k.2)∈a.sl from l);have T:=oe h.mp.nd H;grind
 constructor
 ·refine⟨?_,⟨b6,gM P.own B (fun d n g=>?_),P.sh⟩,⟨b3,a8,M.same (B.block _ M.lt (V _ _ _ a4))⟩,⟨b4,a9,N.same (B.block _ N.lt (V _ _ _ a5))⟩,?_,?_,?_,h.ne,?_,a3⟩
  ·have z:=(h.gK.gx B (U _ _ _ _ h.gK (by decide) (by decide))).fM (j.fM.set c.toNat y) (by simp);simp only[AG J W Z];exact z
  ·obtain⟨c1,o⟩:=fX P.own n;grind
  ·refine⟨h.mp.nd,fun k l=>?_,fun i q m a0 n=>?_⟩
   ·obtain⟨b5,q,m,a0⟩:=h.mp.str k l;grind
   ·have hi:i≠c.toNat:=by grind
    simp only at m;rw[getElem?_set_other hi]at m;exact h.mp.Nh i q m a0 n
  ·intro k l q m;by_cases g:k.1=c
   ·simp only[if_pos g];rw[b0 k l g];simp only at m;rw[g,getElem?_set_at J]at m;simp only[Option.some.injEq]at m;subst m;exact b1
   ·simp only[if_neg g];have c5:=(h.mp.str k l).1;have t:k.1.toNat≠c.toNat:=by omega
    simp only at m;rw[getElem?_set_other t]at m;have A:=h.apart k l (c,f) H g;refine((h.str k l q m).gx B ?_ ?_ (fun d E G n=>U d E _ G n (by decide) (by decide))).mono (fun d n=>a2 d n)
    ·rintro(p|p)
     ·exact A.1 p
     ·have a7:=(h.str k l q m).gK;exact fR O a7 (by decide) p
    ·rintro d n (p|p)
     ·obtain⟨a1,C⟩:=(h.str k l q m).own;subst p;exact fR C a6 (by decide) n
     grind
  ·intro b2;rw[h.EW b2];exact(yb J W Z).symm
  ·intro k l v D I;by_cases o:k.1=c
   ·have t:v.1≠c:=fun g=>I (o.trans g.symm);have A:=h.apart k l v D I;refine⟨A.1,fun d n=>?_⟩;simp only[if_pos o]at n;simp only[if_neg t];rcases K with p|p
    ·grind
    ·intro X;obtain⟨c6,q,m,_⟩:=h.mp.str v D;obtain⟨a1,C⟩:=(h.str v D q m).own;have z:=(C.lt d X).2;grind
   ·by_cases t:v.1=c
    ·have A:=h.apart k l v D I;refine⟨A.1,fun d n=>?_⟩;simp only[if_neg o]at n;simp only[if_pos t];rcases K with p|p
     ·grind
     ·intro X;obtain⟨b5,q,m,_⟩:=h.mp.str k l;obtain⟨a1,C⟩:=(h.str k l q m).own;have z:=(C.lt d n).2;grind
    ·simp only[if_neg o,if_neg t];exact h.apart k l v D I
 ·rintro d (g|g|g|g|⟨k,l,g⟩)
  ·exact bg (bg g)
  ·exact bg (bf (bg g))
  ·exact bg (bf (bf (bg g)))
  ·exact bg (bf (bf (bf (bg g))))
  ·by_cases o:k.1=c
   ·simp only[if_pos o]at g;rcases g with g|g
    ·exact bg (bf (bf (bf (bf ⟨k,l,bg g⟩))))
    ·rcases K with p|p
     ·rw[p,<-o]at g;exact bg (bf (bf (bf (bf ⟨k,l,bf g⟩))))
     grind
   ·simp only[if_neg o]at g;exact bg (bf (bf (bf (bf ⟨k,l,g⟩))))
theorem Gi:∀{i:Nat} {x y:gs},y0[i]? =some x->x.done=false->y.done=true->il (y0.set i y)=il y0+y.final:=by
 induction y0 with
 |nil=>grind
 |cons e f d=>
  intro i x y a b c;cases i with
  |zero=>simp only[ce,Option.some.injEq]at a;subst a;simp[il,b,c];omega
  |succ i=>have:=d (i:=i) (x:=x) (y:=y) (by simpa using a) b c;simp only[il,List.set_cons_succ,List.filter_cons]at this⊢;grind
theorem hC.finished{q:Nat}{a:gw}{e:ed}(h:hC q w cb s j a)(N:(c,f)∈a.sl)(U:j.fM[c.toNat]? =some x)(L:x.done=false)(h1:n<=q)(h2:A<=q)
  (o:sR w cb s j a.mx a.sm a.dm (il j.fM+x.final) n (A+1) (nC a.sl c) (a.dl++[(c,(x.final,x.reset))]) e b):
  hC (q+1) b cb s {j with fM:=j.fM.set c.toNat {x with done:=true}} {a with sl:=nC a.sl c,dl:=a.dl++[(c,(x.final,x.reset))]}/\∀g,ie cb {a with sl:=nC a.sl c,dl:=a.dl++[(c,(x.final,x.reset))]} g->ie cb a g:=by
 have a4:=(h.mp.str (c,f) N).1;have p:∀d,d∈nC a.sl c->d∈a.sl/\d.1≠c:=fun d k=>by unfold nC at k;grind
 have a3:w.heap[cb]? =some (.cells (pG s j a.mx a.sm a.dm (il j.fM)) 137 (0,0)):=h.gK;obtain⟨a5,_,O⟩:=h.py;obtain⟨a6,_,P⟩:=h.p_;obtain⟨Z,X,a1⟩:=O.iM;obtain⟨a0,Y,a2⟩:=P.iM;have E:∀g C J D,w.heap[g]? =some (.cells C J D)->J≠137->¬(g=cb\/g=a.sm\/g=a.dm):=by grind
 obtain⟨W,B⟩:=h.pk;have M:nR a.dl c=none:=by rw[h.EW c];unfold mG;grind
 constructor
 ·refine⟨?_,⟨W,gM B.own o.gx (fun g l e=>?_),B.sh⟩,⟨n,by omega,o.py⟩,⟨A+1,by omega,o.p_⟩,?_,?_,?_,h.ne,?_,fun g l=>ca (h.ul g l) o.gx.size⟩
  ·have t:=o.gK.fM (j.fM.set c.toNat {x with done:=true}) (by simp);simp only[Gi (y:={x with done:=true}) U L rfl];exact t
  ·obtain⟨c1,K⟩:=fX B.own l;grind
  ·refine⟨ya h.mp.nd _,fun d k=>?_,fun i v m H l=>?_⟩
   ·obtain⟨u,V⟩:=p d k;obtain⟨a7,v,m,H⟩:=h.mp.str d u;have G:d.1.toNat≠c.toNat:=by omega
    grind
   ·by_cases hi:i=c.toNat
    ·grind
    ·simp only at m;rw[getElem?_set_other hi]at m;refine h.mp.Nh i v m H fun Q=>l ?_;obtain⟨d,k,e⟩:=List.mem_map.1 Q;refine List.mem_map.2 ⟨d,?_,e⟩;unfold nC;grind
  ·intro d k v m;obtain⟨u,V⟩:=p d k;have G:d.1.toNat≠c.toNat:=by have:=(h.mp.str d u).1;omega
   simp only at m;rw[getElem?_set_other G]at m;have z:=h.str d u v m;refine z.gx o.gx (E _ _ _ _ z.gK (by decide)) (fun g l e=>?_) (fun g C D l=>E _ _ _ _ l (by decide));obtain⟨a8,R⟩:=z.own;obtain⟨c1,K⟩:=fX R l;grind
  ·intro I;simp only;rw[xJ _ _ _ M,h.EW I];by_cases e:I=c
   ·subst e;rw[if_pos rfl];unfold mG;grind
   ·rw[if_neg e];unfold mG;grind
  ·intro d k t T S;exact h.apart d (p d k).1 t (p t T).1 S
 ·rintro g (e|e|e|e|⟨d,k,e⟩)
  ·exact bg e
  ·exact bf (bg e)
  ·exact bf (bf (bg e))
  ·exact bf (bf (bf (bg e)))
  ·exact bf (bf (bf (bf ⟨d,(p d k).1,e⟩)))
theorem Gj(a:N.done=false):il (y0++[N])=il y0:=by simp[il,List.filter_append,a]
theorem hC.grown{t:Nat}{a:gw}(h:hC t w cb s j a):
  hC t (w.setCell (Ad cb 20) (II ((j.fM.length+1:Nat):Int))) cb s {j with fM:=j.fM++[gP s.c2]} a:=by
 have g:gm (· = cb) w (w.setCell (Ad cb 20) (II ((j.fM.length+1:Nat):Int))):=go (Below.refl _ _) _ _;have B:w.heap[cb]? =some (.cells (pG s j a.mx a.sm a.dm (il j.fM)) 137 (0,0)):=h.gK;have x:∀e u z v,w.heap[e]? =some (.cells u z v)->z≠137->¬e=cb:=by grind
 obtain⟨H,D,m⟩:=h.py;obtain⟨I,E,n⟩:=h.p_;obtain⟨M,K,O⟩:=m.iM;obtain⟨N,L,P⟩:=n.iM;obtain⟨J,p⟩:=h.pk;have C:∀d∈a.sl,d.1.toNat<j.fM.length:=fun d f=>by obtain⟨_,k,c,_⟩:=h.mp.str d f;grind
 refine⟨?_,⟨J,gM p.own g (fun e b l=>?_),p.sh⟩,⟨H,D,m.same (g.block _ m.lt (fun l=>by grind))⟩,⟨I,E,n.same (g.block _ n.lt (fun l=>by grind))⟩,?_,?_,?_,h.ne,h.apart,fun e b=>ca (h.ul e b) g.size⟩
 ·show _=_;rw[Gj rfl];refine(fT B _ _).trans ?_;simp[pG]
 ·obtain⟨c1,A⟩:=fX p.own b;grind
 ·refine⟨h.mp.nd,fun d f=>?_,fun i k c y b=>?_⟩
  ·obtain⟨S,k,c,y⟩:=h.mp.str d f;grind
  ·simp only at c;rcases ay i j.fM.length with hi|hi
   ·rw[aZ hi]at c;exact h.mp.Nh i k c y b
   grind
 ·intro d f k c;simp only at c;rw[aZ (C d f)]at c;have o:=h.str d f k c;refine o.gx g (x _ _ _ _ o.gK (by decide)) (fun e b l=>?_) (fun e u v b=>x _ _ _ _ b (by decide));obtain⟨T,G⟩:=o.own;obtain⟨c1,A⟩:=fX G b;grind
 ·intro q;rw[h.EW q];unfold mG;split
  ·rcases ay q.toNat j.fM.length with hi|hi
   ·grind
   ·rw[List.getElem?_append_right hi,List.getElem?_eq_none hi];cases Q:q.toNat-j.fM.length with
    |zero=>simp[gP]
    |succ R=>simp
  ·rfl
theorem vn(a:gs)(b:Int):jo a b<=a.bytes.length:=by have:=sC a.bytes;unfold jo;omega
theorem Ex:jP (N.bytes.drop (jo N c)) (N.bytes.drop (jo N c)).length<=jP N.bytes N.bytes.length:=by
 have b:=AR N.read N.bytes c.toNat;rw[<-kZ _ (N.read+jo N c),<-kZ _ N.read];unfold jo;rw[<-b];rcases Nat.eq_zero_or_pos (iX N.bytes) with a|a
 ·rw[a];simp
 ·rw[pX N.read a];grind
theorem tf(a:iA c N):iA c (gz N g).2:=by
 have m:=vn N g;have j:=a.read;have k:=a.len;have h:(N.bytes.drop (jo N g)).length=N.bytes.length-jo N g:=List.length_drop;refine⟨?_,fun e f=>a.OE e (List.mem_of_mem_drop f),?_,a.fin,a.Dy,fun b=>⟨?_,(a.oC b).2⟩,fun d=>?_,Int.le_trans (Ex) a.qb,a.rn⟩
 ·simp only[gz];omega
 ·simp only[gz];rw[h];omega
 ·simp only[gz]at b⊢;rw[(a.oC b).1];simp
 ·simp only[gz]at d⊢;cases b:N.reset with
  |true=>exact⟨by rw[(a.oC b).1];simp,(a.oC b).2,fun a=>by cases a⟩
  |false=>rw[b]at d;simp at d;have l:=a.fin (by omega);exact⟨List.drop_eq_nil_of_le (by omega),by omega,fun _=>d⟩
theorem yw(b:iA c N)(d:N.done=true)(a:Int):gz N a=(⟨[],!N.reset,N.reset⟩,N):=by
 obtain⟨g,h,j⟩:=b.dn d;have f:jo N a=0:=by have:=vn N a;grind
 unfold gz;rw[f];have e:(!N.reset&&decide (N.read+((0:Nat):Int)=N.final)) = !N.reset:=by grind
 rw[e];cases N;grind
theorem qg:(gz N c).2.fW=N.fW:=rfl
theorem iA.ok(h:iA c x):sk x:=by
 have d:=h.read;have e:=h.len;have f:=h.rn;have b:=h.Dy;refine⟨by omega,by omega,by omega,by omega,b,?_⟩;rcases Int.lt_or_le x.final 0 with a|a
 ·omega
 ·have:=h.fin a;omega
theorem AN(a:iA c N):0<=kM N/\kM N<=N.fW:=by
 have e:=a.read;have f:=a.len;unfold kM;split
 ·next b=>
  simp at b;have d:=(a.oC b.2).2;have:=a.fin d;omega
 ·omega
theorem uY(b:∀a∈y0,iA c a):0<=gX y0/\gX y0<=im y0:=by
 induction y0 with
 |nil=>simp[gX,im]
 |cons d j g=>have h:=AN (b d (List.mem_cons_self ..));have e:=g fun a f=>b a (eG _ f);simp only[gX,im,List.map_cons,List.sum_cons]at e⊢;omega
structure tF(g:g_)(c:fV):Prop where
 str:∀x∈c.fM,iA g.c4 x
 high:im c.fM<=c.fS
 runs:Bq c.runs
theorem iV.i(h:iV s j):tF s j:=⟨h.str,h.high,h.runs⟩
theorem tF.read(h:tF s j)(a:hS M j):0<=gX j.fM/\gX j.fM<=1073741823:=by have b:=uY h.str;have c:=h.high;have d:=a.fS;omega
structure oE(c c':fV):Prop where
 fZ:c'.fZ=c.fZ
 addr:c'.addr=c.addr
 fY:c'.fY=c.fY
 waits:c'.waits=c.waits
 runs:c'.runs=c.runs
 gR:c'.gR=c.gR
theorem oE.refl(a:fV):oE a a:=⟨rfl,rfl,rfl,rfl,rfl,rfl⟩
theorem oE.trans{a:fV}(h:oE a j)(k:oE j w5):oE a w5:=⟨k.fZ.trans h.fZ,k.addr.trans h.addr,k.fY.trans h.fY,k.waits.trans h.waits,k.runs.trans h.runs,k.gR.trans h.gR⟩
theorem oE.pre{a:fV}(k:oE j w5)(h:oE a j):oE a w5:=h.trans k
theorem xt(a:fV)(b:List Int):hE a b = {a with gS:=(hE a b).gS}:=by unfold hE;split<;>rfl
theorem oE.news(a:fV)(b:List Int):oE a (hE a b):=by rw[xt];exact⟨rfl,rfl,rfl,rfl,rfl,rfl⟩
theorem tF.news(h:tF s j)(a:List Int):tF s (hE j a):=by rw[xt];exact⟨h.str,h.high,h.runs⟩
theorem nG:(hE j k).fM=j.fM:=by rw[xt]
theorem wF(a:fV)(b:List Int):(hE a b).fS=a.fS:=by rw[xt]
theorem tF.set{i:Nat}(h:tF s j)(b:j.fM[i]? =some x)(c:iA s.c4 y)(e:y.fW=x.fW):tF s {j with fM:=j.fM.set i y}:=by
 refine⟨fun d a=>?_,?_,h.runs⟩
 ·rcases dh a with a|rfl
  ·exact h.str d a
  ·exact c
 ·have:=h.high;simp only;rw[Aw b];omega
theorem hS.set{i:Nat}(h:hS M j)(b:iA c y):hS M {j with fM:=j.fM.set i y}:=by
 refine⟨h.fZ,h.addr,h.gR,h.gS,h.heard,h.runs,h.fS,by simp only[List.length_set];exact h.lu,fun d a=>?_⟩;rcases dh a with a|rfl
 ·exact h.str d a
 ·exact b.ok
theorem pr{r:Int}(b:0<=r)(a:0<=g):0<=iR r g/\iR r g<=1073741823:=by unfold iR;split<;>omega
theorem vS(a:iA c N)(f:0<=g)(e:N.fS<N.read+g/2):iA c {N with fS:=iR N.read g}:=by have b:=a.rn;have d:=a.read;refine⟨a.read,a.OE,a.len,a.fin,a.Dy,a.oC,a.dn,a.qb,?_⟩;unfold iR;grind
theorem t_{s8:gs}(e:tF s j)(g:hS c j)(b:j.fM[a]? =some N)(d:iA s.c4 s8)(f:s8.fW=N.fW)(o:0<=s.c2):
  tF s (kl s j a s8).1/\hS (c+20) (kl s j a s8).1/\oE j (kl s j a s8).1/\(kl s j a s8).2.length<=1/\(kl s j a s8).1.fM.length=j.fM.length/\(kl s j a s8).1.fS=j.fS:=by
 have p:a<j.fM.length:=(bo.1 b).1;unfold kl;split
 ·next n=>
  have m:s8.fS<s8.read+s.c2/2:=by unfold mE at n;grind
  have h:=vS d o m;have k:=e.set b h f;have l:=g.set (i:=a) h;simp only;have q:=ll (a:Int);have t:=ll (iR s8.read s.c2);refine⟨k.news _,uT l ?_,?_,?_,?_,?_⟩
  ·grind
  ·exact oE.pre (oE.news _ _) ⟨rfl,rfl,rfl,rfl,rfl,rfl⟩
  ·unfold ig;split<;>simp
  ·rw[nG];simp
  ·rw[wF]
 ·exact⟨e.set b d f,(g.set d).mono (by omega),⟨rfl,rfl,rfl,rfl,rfl,rfl⟩,by simp,by simp,rfl⟩
theorem AF:(ig j k t).length<=t.length+1:=by unfold ig;split<;>simp
theorem vC(b:tF s r.1)(a:hS c r.1)(h:0<=s.c1):
  iV s (mi s r).1/\hS (c+20) (mi s r).1/\oE r.1 (mi s r).1/\(mi s r).2.length<=r.2.length+1/\(mi s r).1.fM=r.1.fM:=by
 have j:=b.read a;have l:=a.fS;have n:=b.high;unfold mi;split
 ·next e=>
  simp at e;have k:=pr j.1 h;have m:r.1.fS<=iR (gX r.1.fM) s.c1:=by unfold iR;split<;>omega
  have f:tF s {r.1 with fS:=iR (gX r.1.fM) s.c1}:=⟨b.str,by simp only;omega,b.runs⟩;have g:hS c {r.1 with fS:=iR (gX r.1.fM) s.c1}:=⟨a.fZ,a.addr,a.gR,a.gS,a.heard,a.runs,k,a.lu,a.str⟩;simp only;have o:=ll (iR (gX r.1.fM) s.c1);have d:=f.news ([16]++gE (iR (gX r.1.fM) s.c1));refine⟨⟨d.str,d.high,d.runs,?_⟩,uT g ?_,?_,AF,?_⟩
  ·unfold OA;rw[nG,wF];simp only;unfold iR;omega
  ·grind
  ·exact oE.pre (oE.news _ _) ⟨rfl,rfl,rfl,rfl,rfl,rfl⟩
  ·rw[nG]
 ·next e=>
  simp at e;refine⟨⟨b.str,b.high,b.runs,?_⟩,a.mono (by omega),oE.refl _,by omega,rfl⟩;unfold OA;omega
theorem lj:jH c y0 (y0.length+1)=y0++[gP c]:=by unfold jH;rw[show y0.length+1-y0.length=1 by omega];rfl
theorem DK(a:List gs)(b:gs):im (a++[b])=im a+b.fW:=by simp[im,List.sum_append]
theorem F5(d:iV s r.1)(b:hS c r.1)(e:jF s):
  iV s (iB s O r).1/\hS (c+20) (iB s O r).1/\oE r.1 (iB s O r).1/\(iB s O r).2.length<=r.2.length+1:=by
 have l:=e.c1;have m:=e.c2;have n:=e.c4;unfold iB;split
 ·next k=>
  simp at k;simp only;rw[lj];have g:iA s.c4 (gP s.c2):=yO (by omega) (by omega);have h:iV s {r.1 with fM:=r.1.fM++[gP s.c2]}:=by
   refine⟨fun f a=>?_,?_,d.runs,?_⟩
   ·rcases bX.1 a with a|a
    ·exact d.str f a
    ·rw[bV.1 a];exact g
   ·simp only;rw[DK];simpa[gP] using d.high
   ·unfold OA;simp only;rw[uZ];simpa[kM,gP,OA] using d.EX
  have j:hS c {r.1 with fM:=r.1.fM++[gP s.c2]}:=by
   refine⟨b.fZ,b.addr,b.gR,b.gS,b.heard,b.runs,b.fS,?_,fun f a=>?_⟩
   ·grind
   ·rcases bX.1 a with a|a
    ·exact b.str f a
    ·rw[bV.1 a];exact g.ok
  have o:=ll (((r.1.fM++[gP s.c2]).length:Nat):Int);refine⟨yn h,uT j ?_,?_,AF⟩
  ·grind
  ·exact oE.pre (oE.news _ _) ⟨rfl,rfl,rfl,rfl,rfl,rfl⟩
 ·exact⟨d,b.mono (by omega),oE.refl _,by omega⟩
theorem yv(d:iV s j)(t:hS c j)(e:j.fM[a]? =some N)(b:jF s):
  iV s (lA s j a N g).1/\hS (c+60) (lA s j a N g).1/\oE j (lA s j a N g).1/\(lA s j a N g).2.length<=3:=by
 have x:=b.c1;have y:=b.c2;obtain⟨f,h,k,u,_,_⟩:=t_ d.i t e (tf (d.str N (bS e))) (qg) (by omega);obtain⟨l,m,n,v,_⟩:=vC f h (by omega);obtain⟨o,p,q,w⟩:=F5 (O:=!N.done&&((gz N g).1.fin ||(gz N g).1.oC)) l m b;unfold lA;exact⟨o,p.mono (by omega),(k.trans n).trans q,by omega⟩
theorem Gx(d:iV s j)(e:j.fM[a]? =some N)(b:N.done=true):lA s j a N c=(j,[]):=by
 have hi:=d.str N (bS e);have l:=(hi.dn b).2.1;have h:mE s N=false:=by unfold mE;grind
 have k:kl s j a N=(j,[]):=by unfold kl;rw[h];simp[ia e]
 have g:mi s (j,[])=(j,[]):=by unfold mi;rw[if_neg];simp only[Bool.and_eq_true,decide_eq_true_eq];rintro⟨m,n⟩;rcases d.EX with f|f<;>omega
 unfold lA;rw[yw hi b,b];simp only[k,g];simp[iB]
theorem Lz{x:Int}(a:gD c g p):gD (c+60) g (kH p l u x).2.2.1:=by
 have b:gD (c+60) g p:=a.mono (by omega) (Int.le_refl _);unfold kH;split
 ·exact b
 ·split
  ·exact b
  ·next i _ e h=>
   split
   ·exact b
   ·split
    ·exact b
    ·split
     ·exact b
     ·next o n=>
      have f:=bS h;obtain⟨j,k,d,_⟩:=yv (a.inv e f) (a.ok e f) n a.cfg;have m:=a.waits e f;exact gD.set (last:=p.last) b h k j d.fZ (by rw[d.waits,d.fY];exact m) (Int.le_refl _) a.last.2
theorem la.gx{base:Nat}(h:la L w base v t)(e:gm F w b)(h1:∀a c d,w.heap[a]? =some (.cells c 60 d)->¬F a)(h2:∀a c d,w.heap[a]? =some (.cells c 5 d)->¬F a):la L b base v t:=by obtain⟨out,f,g,j⟩:=h;exact⟨out,gI f e h1,g.gx e h2,j⟩
structure pJ(N:Nat)(w0:aK)(cb:Nat)(g:g_)(a0:gw)(gb:Nat)(tv:aM)(x:oD)(a:gw)(r:fV×List (Int×List Int))(v:aM)(w:aK):Prop where
 iq:hC N w cb g r.1 a
 qc:∀k,ie cb a k->ie cb a0 k\/w0.heap.size<=k
 u:E9 w0.heap.size a0 a
 gx:gm (ie cb a0) w0 w
 box:w.heap[gb]? =some (.cells #[tv,.bool x.fin,.bool x.oC] 46 (0,0))
 res:w.heap[w0.heap.size]? =some (ti)
 nL:w.ownsRow w0.heap.size 5 1 tv x.bytes.length (U8 x.bytes)
 out:la (fun k=>a.u k\/tv.ownBlock=some k) w w0.heap.size v r.2
 sep:∀k,tv.ownBlock=some k->¬a.u k
theorem pJ.Mr{y:Nat}{x:oD}{a:gw}{n:aK}(h:pJ y b cb s z6 f e x a r v w)(m:gm F w n)(D:hC N' n cb s c' u4)(E:∀c,ie cb u4 c->ie cb a c\/w.heap.size<=c)(p:u4.u=a.u)(q:∀c,F c->ie cb a c):
  pJ N' b cb s z6 f e x u4 (c',r.2) v n:=by
 have l:∀c j g k,w.heap[c]? =some (.cells j g k)->g≠137->g≠279->g≠204->g≠259->¬F c:=fun c j g k d z A B C o=>jr h.iq d z A B C (q c o);have H:=h.gx.size;refine⟨D,fun c d=>?_,fun c d=>h.u c (by rw[<-p];exact d),mh h.gx m fun t G o=>?_,?_,?_,?_,?_,fun c d=>by rw[p];exact h.sep c d⟩
 ·rcases E c d with g|g
  ·exact h.qc c g
  omega
 ·rcases h.qc t (q t o) with g|g
  ·exact g
  ·omega
 ·rw[m.block _ (bn.1 h.box).1 (l _ _ _ _ h.box (by decide) (by decide) (by decide) (by decide))];exact h.box
 ·rw[m.block _ (bn.1 h.res).1 (l _ _ _ _ h.res (by decide) (by decide) (by decide) (by decide))];exact h.res
 ·exact gI h.nL m fun c j k d=>l _ _ _ _ d (by decide) (by decide) (by decide) (by decide)
 ·simp only[p];exact h.out.gx m (fun c j k d=>l _ _ _ _ d (by decide) (by decide) (by decide) (by decide)) (fun c j k d=>l _ _ _ _ d (by decide) (by decide) (by decide) (by decide))
theorem pJ.below{x:oD}{a:gw}{g:aK}(h:pJ d b cb s z6 f e x a r v w)(j:Bw w g):pJ d b cb s z6 f e x a r v g:=
 h.Mr (F:=fun _=>False) (gm.fU j) (h.iq.below j) (fun _ c=>bg c) rfl (fun _ c=>c.elim)
def vr(N:Nat)(w0:aK)(cb:Nat)(g:g_)(a0:gw)(gb:Nat)(tv:aM)(x:oD)(a:gw)(r':fV×List (Int×List Int))(v:aM)(e:ed)(w2:aK):Prop:=
 ∃v2,e=.returned v2/\(∃ao l c,v2=.slice ao l c)/\∀ty,∃v' w9,(Builtin.append_ #[47,47] ty #[v,v2]).run ab w2=.ok v' w9/\(∃ao l c,v'=.slice ao l c)/\pJ N w0 cb g a0 gb tv x a r' v' w9
theorem pJ.tell{D:Nat}{x:oD}{a:gw}(h:pJ D b cb s z6 f e x a r v w)(kind:Int)(l:List Int)(N a2:Nat)(A:hS M r.1)(a4:M<=1125899906842624)(y:∀q∈l,0<=q/\q<=1073741823)(a0:l.length<=8)(X:∀L q,l[L]? =some q->CI w N L q)(a8:r.2.length<=100):
  aL ab 78 #[Pt cb,.int .u8 kind,ai (some (Ad N 0)) l.length a2] w fun c n=>vr D b cb s z6 f e x a (hE r.1 ([kind]++jh l),ig r.1 ([kind]++jh l) r.2) v c n:=by
 have a7:=A.gR;have b0:=A.gS;refine(vB _ _ _ _ h.iq.gK A.fZ (by omega) (by omega) y a0 X).mono ?_;intro c n m;obtain⟨P,rfl,H⟩:=m.ret;refine⟨P,rfl,?_,fun b1=>?_⟩
 ·obtain⟨Q,cap,c⟩:=H.form;grind
 have a5:w.heap[cb]? =some (.cells (pG s r.1 a.mx a.sm a.dm (il r.1.fM)) 137 (0,0)):=h.iq.gK;have p:∀d j c k,w.heap[d]? =some (.cells j c k)->c≠137->¬d=cb:=by grind
 have W:la (fun d=>a.u d\/e.ownBlock=some d) n w.heap.size P (ig r.1 ([kind]++jh l) []):=la.of H fun d g U=>by
  rcases U with c|c
  ·have:=h.iq.ul d c;omega
  ·have:=(h.nL.lt d c).2;omega
 have a6:=AE r.1 ([kind]++jh l);obtain⟨a3,C,a1,I,o⟩:=uU h.out m.gx (fun d j k g=>p _ _ _ _ g (by decide)) (fun d j k g=>p _ _ _ _ g (by decide)) W (by omega) h.gx.size;have t:gm (fun d=>v.ownBlock=some d) n C:=⟨o.os,o.tape,o.output,o.size,fun d g y=>o.block d g (fun c=>y c.symm)⟩;obtain⟨out,J,_⟩:=id h.out;have K:=gI J m.gx (fun d j k g=>p _ _ _ _ g (by decide));have z:∀d j c k,n.heap[d]? =some (.cells j c k)->c≠60->¬v.ownBlock=some d:=fun d j c k g Z=>fR K g (fun c=>Z c.symm);have V:=oE.news r.1 ([kind]++jh l);have G:=h.iq.yx m.gx m.gK (nG) V.runs;have Y:=G.gx t (fun d g c=>by obtain⟨c1,R⟩:=fX K c;exact jr G R (by decide) (by decide) (by decide) (by decide) g) (fun d j k g=>z d j _ k g (by decide));have E:∀{d:Nat} {j:Array aM} {c:TypeId} {k:Nat×Nat},w.heap[d]? =some (.cells j c k)->c≠137->c≠60->C.heap[d]? =some (.cells j c k):=by intro d j c k g S T;have B:n.heap[d]? =some (.cells j c k):=(m.gx.block d (bn.1 g).1 (p _ _ _ _ g S)).trans g;exact(t.block d (bn.1 B).1 (z _ _ _ _ B T)).trans B
 refine⟨a3,C,a1,?_,Y,h.qc,h.u,?_,E h.box (by decide) (by decide),E h.res (by decide) (by decide),?_,?_,h.sep⟩
 ·obtain⟨Q,cap,c⟩:=I.at.form;grind
 ·refine mh (mh h.gx m.gx fun O _ c=>bg c) t fun O a9 c=>?_;have:=(J.lt O c).1;omega
 ·exact gI (gI h.nL m.gx fun d j k g=>p _ _ _ _ g (by decide)) t fun d j k g=>z _ _ _ _ g (by decide)
 ·simp only;rw[uR];exact I
theorem pJ.Nk{x:oD}{a:gw}(h:pJ d b cb s z6 f e x a r v w)(kind:Int){n:Int}(q:hS M r.1)(l:M<=1125899906842624)(o:0<=n/\n<=1073741823)(p:r.2.length<=100):
  aL ab 78 #[Pt cb,.int .u8 kind,ai (some (gf w 0)) 1 1] (w.alloc (.cells #[II n] 3)) fun k u=>vr d b cb s z6 f e x a (hE r.1 ([kind]++gE n),ig r.1 ([kind]++gE n) r.2) v k u:=by
 have g:=(h.below (fO _ (.cells #[II n] 3))).tell kind [n] w.heap.size 1 q l (fun t m=>by rw[bV.1 m];exact o) (by simp) (fun j t c=>by
  cases j with
  |zero=>simp only[ce,Option.some.injEq]at c;subst c;simp
  |succ j=>simp at c) p
 rw[show([n]:List Int).length=1 from rfl,show jh [n]=gE n by simp[jh]]at g;exact g
theorem pJ.P0{x:oD}{a:gw}(h:pJ d b cb s z6 f e x a r v w){kind:Int}(q:hS M r.1)(o:M<=1125899906842624)(h1:0<=g/\g<=1073741823)(h2:0<=l/\l<=1073741823)(p:r.2.length<=100):
  aL ab 78 #[Pt cb,.int .u8 kind,ai (some (gf w 0)) 2 2] (w.alloc (.cells #[II g,II l] 3)) fun n u=>vr d b cb s z6 f e x a (hE r.1 ([kind]++gE g++gE l),ig r.1 ([kind]++gE g++gE l) r.2) v n u:=by
 have j:=(h.below (fO _ (.cells #[II g,II l] 3))).tell kind [g,l] w.heap.size 2 q o (fun t k=>by
  simp only[List.mem_cons,List.not_mem_nil,or_false]at k;rcases k with rfl|rfl
  ·exact h1
  ·exact h2) (by simp) (fun m t c=>by
  match m with
  |0=>simp only[ce,Option.some.injEq]at c;subst c;simp
  |1=>simp only[List.getElem?_cons_succ,ce,Option.some.injEq]at c;subst c;simp
  |m+2=>simp at c) p
 rw[show([g,l]:List Int).length=2 from rfl,show [kind]++jh [g,l]=[kind]++gE g++gE l by simp[jh]]at j;exact j
def mF(x:gs)(most:Int):gs:={(gz x most).2 with done:=false}
theorem pJ.start{v2 A:ed}(B:Bw b w)(D:w.heap[b.heap.size]? =some (ti))(a1:z6.sm<b.heap.size)
  (H:j.fM[id.toNat]? =some x) (N:x.done=false) (g:nO a w cb s j z6 id v2 z5 f u4) (m:qt u4.u z5 f (u4.lv id) s.c2 x c A t8):
  ∃l n,A=.returned (.agg #[l,.bool (gz x c).1.fin,.bool (gz x c).1.oC])/\(∃z S j,l=.slice z S j)/\(id,f)∈n.sl/\n.lv id=n.lv id/\
   pJ (a+1) b cb s z6 t8.heap.size l (gz x c).1 n ({j with fM:=j.fM.set id.toNat (mF x c)},[]) (ai none 0 0) (t8.alloc (.cells #[l,.bool (gz x c).1.fin,.bool (gz x c).1.oC] 46)):=by
 obtain⟨l,I,rfl,q,E,L⟩:=m.ex;have a2:=B.size;have a3:=g.gx.size;have a4:=m.gx.size;have G:=g.iq.str (id,f) g.mem x H;obtain⟨a5,P⟩:=G.own;obtain⟨X,C,M⟩:=E.runs;have Z:=C.pT (qU _ _);have Q:jt (fun d=>(u4.u d\/(z5.heap.size<=d/\d<t8.heap.size))/\l.ownBlock≠some d) t8 f I s.c2 (mF x c):=by refine⟨E.gK,X,C,fun W R=>⟨(M W R).1,fun d k=>?_⟩⟩;grind
 obtain⟨T,V⟩:=g.iq.Nl g.mem H N (y:=mF x c) rfl m.gx (L:=fun d=>(u4.u d\/(z5.heap.size<=d/\d<t8.heap.size))/\l.ownBlock≠some d) (fun d k=>⟨bg k,fun h=>by
  have e:=(q.lt d h).1;have p:=g.iq.ul d k;omega⟩) (fun d k=>by
  rcases k.1 with e|e
  ·have:=g.iq.ul d e;omega
  ·exact e.2) Q L
 have o:Bw t8 (t8.alloc (.cells #[l,.bool (gz x c).1.fin,.bool (gz x c).1.oC] 46)):=fO _ _;obtain⟨z,Y,O⟩:=gr q;refine⟨l,{u4 with lv:=fun d=>if d=id then I else u4.lv d,u:=fun d=>(u4.u d\/(z5.heap.size<=d/\d<t8.heap.size))/\l.ownBlock≠some d},rfl,⟨_,_,_,O⟩,g.mem,rfl,T.below o,fun d k=>?_,fun d k=>?_,?_,cA t8 _,?_,gq (gp q o) (by omega),la.none (ix.nil _ _) rfl,fun d k K=>K.2 k⟩
 ·rcases V d k with e|e
  ·rcases g.qc d e with p|p
   ·exact bg p
   omega
  omega
 ·rcases k.1 with e|e
  ·exact bg (by rw[<-g.u];exact e)
  omega
 ·refine mh (mh (mh (gm.fU B) g.gx fun t _ h=>bf (bf (bg h))) m.gx fun t a0 h=>?_) (gm.fU (F:=fun _=>False) o) fun t _ h=>h.elim;rcases g.qc t (bf (bf (bf (bf ⟨(id,f),g.mem,h⟩)))) with e|e
  ·exact e
  ·omega
 ·have v:z5.heap[b.heap.size]? =some (ti):=(g.gx.block _ (bn.1 D).1 (fun h=>by omega)).trans D;have J:t8.heap[b.heap.size]? =some (ti):=by
   refine(m.gx.block _ (bn.1 v).1 ?_).trans v;rintro(h|h)
   ·have e:=G.gK;grind
   ·exact fR P v (by decide) h
  exact(o.block _ (bn.1 J).1).trans J
theorem pJ.finish{k:Nat}{E:aM}{x:oD}{a:gw}{n:aK}{e:ed}(h:pJ k b cb s z6 A E x a (j,t) v w)(B:(id,z7)∈a.sl)(C:j.fM[id.toNat]? =some y)(H:y.done=false)(h1:d<=k)(h2:f<=k)
  (l:sR w cb s j a.mx a.sm a.dm (il j.fM+y.final) d (f+1) (nC a.sl id) (a.dl++[(id,(y.final,y.reset))]) e n):
  ∃o,pJ (k+1) b cb s z6 A E x o ({j with fM:=j.fM.set id.toNat {y with done:=true}},t) v n/\o.u=a.u/\jt a.u n z7 (a.lv id) s.c2 y:=by
 obtain⟨L,M⟩:=h.iq.finished B C H h1 h2 l;have G:∀c,(c=cb\/c=a.sm\/c=a.dm)->ie cb a c:=by
  rintro c (e|e|e)
  ·exact bg e
  ·exact bf (bf (bg e))
  ·exact bf (bf (bf (bg e)))
 refine⟨{a with sl:=nC a.sl id,dl:=a.dl++[(id,(y.final,y.reset))]},h.Mr l.gx L (fun c g=>bg (M c g)) rfl G,rfl,?_⟩;have m:=h.iq.str (id,z7) B y C;have U:w.heap[cb]? =some (.cells (pG s j a.mx a.sm a.dm (il j.fM)) 137 (0,0)):=h.iq.gK;obtain⟨V,_,I⟩:=h.iq.py;obtain⟨W,_,J⟩:=h.iq.p_;obtain⟨Q,N,S⟩:=I.iM;obtain⟨R,O,T⟩:=J.iM;have z:∀c p D q,w.heap[c]? =some (.cells p D q)->D≠137->¬(c=cb\/c=a.sm\/c=a.dm):=by grind
 refine m.gx l.gx (z _ _ _ _ m.gK (by decide)) (fun c g e=>?_) (fun c p q g=>z _ _ _ _ g (by decide));obtain⟨X,K⟩:=m.own;obtain⟨c1,P⟩:=fX K g;grind
theorem pJ.raised{o:Nat}{x:oD}{a:gw}{g:aK}(h:pJ o b cb s z6 f e x a (j,t) v w)(m:(id,n)∈a.sl)(C:j.fM[id.toNat]? =some y)(z:y.done=false)(A:N.done=false)
  (B:jt a.u g n (a.lv id) s.c2 N) (l:gm (· = n) w g):
  ∃k,pJ o b cb s z6 f e x k ({j with fM:=j.fM.set id.toNat N},t) v g/\k.u=a.u/\(id,n)∈k.sl:=by
 have q:gm (fun c=>c=n\/(a.lv id).ownBlock=some c) w g:=l.mono fun c _ p=>bg p;obtain⟨D,E⟩:=h.iq.Nl m C z A q (L:=a.u) (fun c d=>d) (fun c d=>ca (h.iq.ul c d) l.size) B (bg rfl);exact⟨{a with lv:=fun c=>if c=id then a.lv id else a.lv c,u:=a.u},h.Mr l D E rfl fun c d=>bf (bf (bf (bf ⟨(id,n),m,bg d⟩))),rfl,m⟩
theorem pJ.gK{c:Nat}{x:oD}{a:gw}{g:aK}(h:pJ c b cb s z6 f e x a (j,t) v w)(l:gm (· = cb) w g)(k:hC c g cb s c' a):pJ c b cb s z6 f e x a (c',t) v g:=
 h.Mr l k (fun _ d=>bg d) rfl fun _ d=>bg d
structure nv(N:Nat)(w:aK)(cb:Nat)(g:g_)(a:gw)(x:oD)(r:fV×List (Int×List Int))(e:ed)(w':aK):Prop where
 ex:∃tv v a',e=.returned (.tuple #[.agg #[tv,.bool x.fin,.bool x.oC],v])/\(∃ao l c,v=.slice ao l c)/\w'.ownsRow w.heap.size 5 1 tv x.bytes.length (U8 x.bytes)/\la (fun k=>a'.u k\/tv.ownBlock=some k) w' w.heap.size v r.2/\(∀k,tv.ownBlock=some k->¬a'.u k)/\hC (N+2) w' cb g r.1 a'/\(∀k,ie cb a' k->ie cb a k\/w.heap.size<=k)/\E9 w.heap.size a a'
 gx:gm (ie cb a) w w'
theorem pJ.fin{x:oD}{a:gw}{o:aK}(h:pJ (n+2) b cb s z6 f e x a r v w)(l:gm (· = b.heap.size) w o):nv n b cb s z6 x r (.returned (.tuple #[.agg #[e,.bool x.fin,.bool x.oC],v])) o:=by
 have m:∀d j g k,w.heap[d]? =some (.cells j g k)->g≠46->¬d=b.heap.size:=by intro d j g k c t p;rw[p,h.res]at c;grind
 refine⟨⟨e,v,a,rfl,?_,gI h.nL l fun d j k c=>m _ _ _ _ c (by decide),h.out.gx l (fun d j k c=>m _ _ _ _ c (by decide)) (fun d j k c=>m _ _ _ _ c (by decide)),h.sep,?_,h.qc,h.u⟩,mh h.gx l fun z y g=>by omega⟩
 ·obtain⟨q,cap,g⟩:=h.out.at.form;grind
 ·refine h.iq.gx l (fun d c g=>?_) (fun d j k c=>m _ _ _ _ c (by decide));subst g;exact jr h.iq h.res (by decide) (by decide) (by decide) (by decide) c
theorem pJ.mono{c:Nat}{x:oD}{a:gw}(h:pJ c b cb s z6 f e x a r v w)(d:c<=N'):pJ N' b cb s z6 f e x a r v w:=
 ⟨h.iq.mono d,h.qc,h.u,h.gx,h.box,h.res,h.nL,h.out,h.sep⟩
theorem jt.Ow(h:jt L w a e c y)(h1:N.bytes=y.bytes)(h2:N.read=y.read)(f:N.fW=y.fW)(g:N.fS=y.fS)(j:N.final=y.final)(k:N.reset=y.reset):jt L w a e c N:=by obtain⟨b,d⟩:=h;rw[<-h2,<-f,<-g,<-j,<-k]at b;rw[<-h1,<-h2]at d;exact⟨b,d⟩
def PA(N:Nat)(w0:aK)(cb:Nat)(g:g_)(a0:gw)(gb:Nat)(tv:aM)(x:oD)(c:fV)(id:Int)(b:Nat)(y:gs)(w:aK):Prop:=
 ∃a R1,pJ (N+2) w0 cb g a0 gb tv x a ({c with fM:=c.fM.set id.toNat y},[]) (ai none 0 0) w/\jt a.u w b R1 g.c2 y/\(y.done=false->(id,b)∈a.sl/\a.lv id=R1)
def lZ(g:g_)(y:gs):gs:=if mE g y then {y with fS:=iR y.read g.c2} else y
theorem PA.raise{x:oD}(h:PA a b cb s z6 f e x j id n y w)(m:iA s.c4 y)(p:jF s)(I:id.toNat<j.fM.length):
  aL ab 77 #[Pt n] w fun c g=>c=.returned (.bool (mE s y))/\(∃k,pJ (a+2) b cb s z6 f e x k ({j with fM:=j.fM.set id.toNat (lZ s y)},[]) (ai none 0 0) g)/\g.cell? (Ad n 3)=some (II (lZ s y).fS)/\g.cell? (Ad n 4)=some (II s.c2):=by
 obtain⟨k,K,o,v,C⟩:=h;have H:=p.c2;have G:=p.c1;refine(JO v m (by omega)).mono ?_;rintro c g ⟨rfl,l,A,z⟩;refine⟨rfl,?_,l.cell 3,l.cell 4⟩;have E:({j with fM:=j.fM.set id.toNat y}:fV).fM[id.toNat]? =some y:=by grind
 have B:(lZ s y).done=y.done:=by unfold lZ;split<;>rfl
 cases d:y.done with
 |false=>obtain⟨D,rfl⟩:=C d;obtain⟨t,q,_⟩:=o.raised D E d (B.trans d) l A;simp only[List.set_set]at q;exact⟨t,q⟩
 |true=>
  have u:=(m.dn d).2.1;have J:mE s y=false:=by unfold mE;grind
  have c:lZ s y=y:=by unfold lZ;grind
  rw[c];exact⟨k,o.below (z u)⟩
def PB(N:Nat)(w0:aK)(cb:Nat)(g:g_)(a0:gw)(gb:Nat)(tv:aM)(x:oD)(r:fV×List (Int×List Int))(v:aM)(w:aK):Prop:=
 (∃ao l c,v=.slice ao l c)/\∃a,pJ (N+2) w0 cb g a0 gb tv x a r v w
theorem PB.below{x:oD}{c:aK}(h:PB a b cb s z6 f e x r v w)(j:Bw w c):PB a b cb s z6 f e x r v c:=by obtain⟨k,d,g⟩:=h;exact⟨k,d,g.below j⟩
theorem Jg:kl s j a N=if mE s N then(hE {j with fM:=j.fM.set a (lZ s N)} ([17]++gE a++gE (lZ s N).fS),ig {j with fM:=j.fM.set a (lZ s N)} ([17]++gE a++gE (lZ s N).fS) []) else({j with fM:=j.fM.set a (lZ s N)},[]):=by unfold kl lZ;split<;>rfl
def tx(g:g_)(r:fV×List (Int×List Int)):Bool:=decide (r.1.fS<gX r.1.fM+g.c1/2)&&decide (r.1.fS<1073741823)
def mO(g:g_)(c:fV):fV:=if tx g (c,[]) then {c with fS:=iR (gX c.fM) g.c1} else c
theorem KI(r:fV×List (Int×List Int)):mi s r=if tx s r then(hE (mO s r.1) ([16]++gE (mO s r.1).fS),ig (mO s r.1) ([16]++gE (mO s r.1).fS) r.2) else(mO s r.1,r.2):=by unfold mi mO;have a:tx s (r.1,[])=tx s r:=rfl;rw[a];unfold tx;split<;>rfl
theorem PB.follow{x:oD}(h:PB a b cb s z6 f e x r v w)(t:jF s)(hi:tF s r.1)(l:hS M r.1):
  aL ab 80 #[ag (some (Ad cb 18)),II (gX r.1.fM)] w fun d m=>d=.returned (.bool (tx s r))/\PB a b cb s z6 f e x (mO s r.1,r.2) v m:=by
 obtain⟨q,n,c⟩:=h;have u:=t.c1;have y:=hi.read l;have o:=l.fS;refine(wE c.iq.gK rfl rfl (by omega) (by omega)).mono ?_;rintro d m ⟨rfl,g⟩;refine⟨by rw[sw (by omega)];rfl,q,n,?_⟩;have p:mO s r.1 = {r.1 with fS:=kG r.1.fS s.c1 (gX r.1.fM)}:=by unfold mO tx;simp only;rw[Aq o.2 (by omega)];split<;>rfl
 rw[p];by_cases j:r.1.fS<gX r.1.fM+s.c1/2
 ·rw[if_pos j]at g;subst g;have k:gm (· = cb) w (w.setCell (Ad cb 18) (II (kG r.1.fS s.c1 (gX r.1.fM)))):=go (Below.refl _ _) _ _;refine c.gK k (c.iq.yx k ?_ rfl rfl);show _=_;refine(fT c.iq.gK _ _).trans ?_;simp[pG]
 ·rw[if_neg j]at g;subst g;have d:kG r.1.fS s.c1 (gX r.1.fM)=r.1.fS:=by unfold kG;rw[if_neg j]
  rw[d];exact c
theorem iu{D:Array aM}{x3:Nat×Nat}(c:b.heap[a]? =some (.cells D z x3))(i:Nat):b.cell? (Ad a i)=D[i]?:=by simp only[aD,c];rfl
theorem uM{z0:Bool}(c:b.heap[a]? =some (ti)):(Mm b a e O z0).heap[a]? =some (.cells #[e,.bool O,.bool z0] 46 (0,0)):=by have:=fT (fT (fT c 0 e) 1 (.bool O)) 2 (.bool z0);simpa using this
theorem uL:gm (· = a) b (((b.setCell (Ad a 0) e).setCell (Ad a 1) h).setCell (Ad a 2) q):=
 ((go (Below.refl _ _) _ _).trans (go (Below.refl _ _) _ _)).trans (go (Below.refl _ _) _ _)
theorem Fm(R:hC a b cb s j z6)(hi:iV s j)(b2:jF s)(e1:hS l j)(n4:l<=1125899906842000)(n5:a+2<1125899906842624)(a5:j.fM[c.toNat]? =some N)(b3:0<=c/\c<=1073741823)(e0:N.done=false)(k7:0<=g/\g<=9223372036854775807):
  aL ab 44 #[Pt cb,II c,II g] b fun e H=>nv a b cb s z6 (gz N g).1 (lA s j c.toNat N g) e H:=by
 have l3:=bS a5;have g9:=hi.str N l3;have k6:c.toNat<j.fM.length:=(bo.1 a5).1;have p7:=b2.c1;have p8:=b2.c2;have p9:=b2.c4;have l2:(Lit.int .i64 c).wf=true:=pC (by omega);obtain⟨q3,o7,g8⟩:=R.p_;obtain⟨l4,o5,k8⟩:=R.py;have d9:Bw b (b.alloc (.cells #[ai none 0 0,.bool false,.bool false] 46)):=fO b _;have g4:Bw b ((b.alloc (.cells #[ai none 0 0,.bool false,.bool false] 46)).alloc (.cells #[II 0,.bool false] 142)):=fP d9 (fO _ _);have l1:((b.alloc (.cells #[ai none 0 0,.bool false,.bool false] 46)).alloc (.cells #[II 0,.bool false] 142)).heap[b.heap.size]? =some (.cells #[ai none 0 0,.bool false,.bool false] 46 (0,0)):=by rw[Below.heap_alloc _ _ _ (by simp)];exact cA b _
 have g6:=R.EW c;have k5:mG j.fM c=none:=by unfold mG;grind
 rw[k5]at g6;have p6:mD pP z6.dl c=.agg #[II 0,.bool false]:=by unfold mD;rw[g6];rfl
 have n2:CV (b.alloc (.cells #[ai none 0 0,.bool false,.bool false] 46)) cb 22 (.map (some z6.dm)):=(R.gK.below d9).cell 22;have o0:(Instr.lookup 135 (.map (some z6.dm)) (II c) true).run ab (b.alloc (.cells #[ai none 0 0,.bool false,.bool false] 46))=.ok (.tuple #[.agg #[II 0,.bool false],.bool false]) (b.alloc (.cells #[ai none 0 0,.bool false,.bool false] 46)):=by have l5:=sK (u6:=pP) (u5:=142) underlying3 underlying135 (fun n=>by kernel_rfl) (g8.same (d9.block z6.dm g8.lt)) l2;grind
 have i8:=fK (wA a cb s j z6 c N (R.below g4) (by omega) b3 a5 e0);have i7:Hid (∀(V:aK) (k:Nat) (I:gw),hC (a+1) V cb s j I->(c,k)∈I.sl->aL ab 74 #[Pt k,II g] V fun e H=>qt I.u V k (I.lv c) s.c2 N g e H):=
  fun V k I b8 S=>LM (L:=I.u) (a:=k) (e:=I.lv c) (c:=s.c2) (N:=N) (g:=g) (l:=s.c4) (b:=V) (b8.str (c,k) S N a5) g9 (by omega) k7
 have i9:Hid (∀(V d7:aK) (k:Nat) (I:gw) (g2 g3:ed),nO a ((b.alloc (.cells #[ai none 0 0,.bool false,.bool false] 46)).alloc (.cells #[II 0,.bool false] 142)) cb s j z6 c g2 V k I->qt I.u V k (I.lv c) s.c2 N g g3 d7->
   ∃h q,g3=.returned (.agg #[h,.bool (gz N g).1.fin,.bool (gz N g).1.oC])/\(∃n1 q0 j,h=.slice n1 q0 j)/\(c,k)∈q.sl/\q.lv c=q.lv c/\
   pJ (a+1) b cb s z6 d7.heap.size h (gz N g).1 q ({j with fM:=j.fM.set c.toNat (mF N g)},[]) (ai none 0 0) (d7.alloc (.cells #[h,.bool (gz N g).1.fin,.bool (gz N g).1.oC] 46))):=
  fun V d7 k I g2 g3 c6 e2=>pJ.start g4 l1 k8.lt a5 e0 c6 e2
 have A:=tf g9 (g:=g);have h1:=qg (N:=N) (c:=g);have h0:(gz N g).2.done=((gz N g).1.fin ||(gz N g).1.oC):=rfl;have p5:(gz N g).2.reset=(gz N g).1.oC:=rfl;have p3:∀l5,mF N g = {(gz N g).2 with done:=l5}->True:=fun _ _=>trivial;have e7:Hid (∀(a0:aK) (d k:Nat) (h:aM) (q:gw),(c,k)∈q.sl->pJ (a+1) b cb s z6 d h (gz N g).1 q ({j with fM:=j.fM.set c.toNat (mF N g)},[]) (ai none 0 0) a0->(gz N g).2.done=true->
   aL ab 76 #[Pt k] a0 fun e H=>e=.returned (.agg #[II (gz N g).2.final,.bool (gz N g).2.reset])/\aL ab 75 #[Pt cb,II c,.agg #[II (gz N g).2.final,.bool (gz N g).2.reset]] H fun e m2=>e=.returned (.tuple #[])/\PA a b cb s z6 d h (gz N g).1 j c k (gz N g).2 m2):=by
  intro a0 d k h q S t K;have r5:=(A.dn K).2.1;have r6:=A.ok.final;have g7:({j with fM:=j.fM.set c.toNat (mF N g)}:fV).fM[c.toNat]? =some (mF N g):=by grind
  have n6:=t.iq.str (c,k) S _ g7;refine(JN (a:=k) (e:=q.lv c) (c:=s.c2) (N:=mF N g) (b:=a0) n6).mono ?_;rintro e H ⟨rfl,n9⟩;have o4:max (mF N g).final 0=(gz N g).2.final:=by show max (gz N g).2.final 0=_;omega
  refine⟨by rw[o4];rfl,?_⟩;have W:=t.below n9;obtain⟨q1,o6,o2⟩:=W.iq.py;obtain⟨q2,o8,o3⟩:=W.iq.p_;have c3:=hi.i.set a5 (y:=mF N g) ⟨A.read,A.OE,A.len,A.fin,A.Dy,A.oC,fun R=>(by cases R),A.qb,A.rn⟩ h1;have r7:=uY c3.str;have p0:0<=il (j.fM.set c.toNat (mF N g))/\il (j.fM.set c.toNat (mF N g))<=1152921504606846976:=by
   have c9:=rB c3.str;have L:=ub c3.str W.iq.mp;have e4:0<=iS (tM (·.read) (j.fM.set c.toNat (mF N g))) q.sl:=lB fun c8 a3=>by
    obtain⟨_,M,Q,_⟩:=W.iq.mp.str c8 a3;have e:tM (·.read) (j.fM.set c.toNat (mF N g)) c8.1=M.read:=by simp only at Q;simp[tM,Q]
    rw[e];exact(c3.str M (bS Q)).read
   have l6:=c3.high;have l7:=e1.fS;grind
  have n8:nR q.sl c=some k:=oe W.iq.mp.nd S;have o9:nR q.dl c=none:=by rw[W.iq.EW c];unfold mG;rw[if_pos b3.1,g7];rfl
  refine(Dl (cb:=cb) (s:=s) (e:=q.mx) (d:=q.sm) (f:=q.dm) (g:=c) (fi:=(gz N g).2.final) (O:=(gz N g).2.reset) (n:=q1) (A:=q2) (z7:=k) (w8:=q.sl) (t:=q.dl) (b:=H) W.iq.gK o2 o3 W.iq.ne b3 n8 o9 p0 (by omega) (by omega)).mono ?_;intro e m2 c4;refine⟨c4.ret,?_⟩;obtain⟨w,c9,L,e4⟩:=W.finish (y:=mF N g) S g7 rfl o6 o8 c4;have b7:({mF N g with done:=true}:gs)=(gz N g).2:=by unfold mF;generalize (gz N g).2=M at K⊢;cases M;grind
  simp only[b7,List.set_set]at c9;exact⟨w,q.lv c,c9,by rw[L];exact e4.Ow rfl rfl rfl rfl rfl rfl,fun R=>by grind⟩
 have e9:Hid (∀(a0:aK) (d k:Nat) (h:aM) (q:gw),(c,k)∈q.sl->pJ (a+1) b cb s z6 d h (gz N g).1 q ({j with fM:=j.fM.set c.toNat (mF N g)},[]) (ai none 0 0) a0->(gz N g).2.done=false->PA a b cb s z6 d h (gz N g).1 j c k (gz N g).2 a0):=by
  intro a0 d k h q S t K;have b7:mF N g=(gz N g).2:=by unfold mF;generalize (gz N g).2=M at K⊢;cases M;grind
  rw[b7]at t;refine⟨q,q.lv c,t.mono (by omega),t.iq.str (c,k) S _ ?_,fun _=>⟨S,rfl⟩⟩;grind
 obtain⟨X,J,q4,q5,q6,q7⟩:=t_ hi.i e1 a5 A h1 (by omega);obtain⟨c9,L,e4,l6,l7⟩:=vC X J (by omega);have i6:=fK (fun(H:aK) (d k:Nat) (h:aM) (a3:PA a b cb s z6 d h (gz N g).1 j c k (gz N g).2 H)=>a3.raise A b2 k6);have f2:=fK (Jg (s:=s) (j:=j) (a:=c.toNat) (N:=(gz N g).2));have k9:0<=(lZ s (gz N g).2).fS/\(lZ s (gz N g).2).fS<=1073741823:=by
  have r3:=A.rn;have r4:=A.ok.fS;unfold lZ;split
  ·exact pr A.read (by omega)
  ·omega
 have l0:iA s.c4 (lZ s (gz N g).2):=by
  unfold lZ;split
  ·next R=>exact vS A (by omega) (by unfold mE at R;grind)
  ·exact A
 have f4:Hid (∀(n:aK) (d:Nat) (h:aM) (w:gw),pJ (a+2) b cb s z6 d h (gz N g).1 w ({j with fM:=j.fM.set c.toNat (lZ s (gz N g).2)},[]) (ai none 0 0) n->
   aL ab 78 #[Pt cb,.int .u8 17,ai (some (gf n 0)) 2 2] (n.alloc (.cells #[II c,II (lZ s (gz N g).2).fS] 3)) fun e d0=>vr (a+2) b cb s z6 d h (gz N g).1 w (hE {j with fM:=j.fM.set c.toNat (lZ s (gz N g).2)} ([17]++gE (c.toNat:Int)++gE (lZ s (gz N g).2).fS),ig {j with fM:=j.fM.set c.toNat (lZ s (gz N g).2)} ([17]++gE (c.toNat:Int)++gE (lZ s (gz N g).2).fS) []) (ai none 0 0) e d0):=by
  intro n d h w t;rw[Int.toNat_of_nonneg b3.1];exact t.P0 (kind:=17) (g:=c) (e1.set l0) (by omega) b3 k9 (by simp)
 clear p3;generalize k4:(gz N g).2=y at *
 generalize k3:(gz N g).1=m at *
 have n0:Hid (lA s j c.toNat N g=iB s y.done (mi s (kl s j c.toNat y))):=by show _=_;unfold lA;rw[k3,k4,e0,h0];rfl
 generalize p1:kl s j c.toNat y=p at *
 have e6:=fK (KI (s:=s) p);have h8:Hid (∀(n b6:aK) (d:Nat) (h x:aM),PB a b cb s z6 d h m p x n->Bw n b6->aL ab 81 #[Pt cb] b6 fun e H=>e=.returned (II (gX p.1.fM))/\Bw b6 H):=by
  intro n b6 d h x b9 n7;obtain⟨_,w,t⟩:=b9;have b8:=t.iq.below n7;refine Iq (a:=a+2) (cb:=cb) (s:=s) (j:=p.1) (z6:=w) (b:=b6) b8 X.str J ?_;have b7:=rB X.str;have r1:=ub X.str b8.mp;have r2:0<=iS (tM (·.read) p.1.fM) w.sl:=lB fun c8 a3=>by
   obtain⟨_,M,Q,_⟩:=b8.mp.str c8 a3;have e:tM (·.read) p.1.fM c8.1=M.read:=by simp[tM,Q]
   rw[e];exact(X.str M (bS Q)).read
  have g2:=X.read J;exact⟨b7,by omega⟩
 have i2:Hid (∀(n:aK) (d:Nat) (h x:aM),PB a b cb s z6 d h m p x n->aL ab 80 #[ag (some (Ad cb 18)),II (gX p.1.fM)] n fun e H=>e=.returned (.bool (tx s p))/\PB a b cb s z6 d h m (mO s p.1,p.2) x H):=
  fun n d h x b9=>b9.follow b2 X J
 have g5:hS (l+20) (mO s p.1):=by
  unfold mO;split
  ·exact⟨J.fZ,J.addr,J.gR,J.gS,J.heard,J.runs,pr (X.read J).1 (by omega),J.lu,J.str⟩
  ·exact J
 have f3:Hid (∀(n:aK) (d:Nat) (h x:aM) (w:gw),pJ (a+2) b cb s z6 d h m w (mO s p.1,p.2) x n->
   aL ab 78 #[Pt cb,.int .u8 16,ai (some (gf n 0)) 1 1] (n.alloc (.cells #[II (mO s p.1).fS] 3)) fun e d0=>vr (a+2) b cb s z6 d h m w (hE (mO s p.1) ([16]++gE (mO s p.1).fS),ig (mO s p.1) ([16]++gE (mO s p.1).fS) p.2) x e d0):=
  fun n d h x w t=>t.Nk 16 g5 (by omega) g5.fS (by show p.2.length<=100;omega)
 have e8:=fK (fun n=>po (mO s p.1).fS s.c1 n);generalize p2:mi s p=f at *
 have i3:Hid (iB s true f=if f.1.fM.length<1073741823 then(hE {f.1 with fM:=f.1.fM++[gP s.c2]} ([18]++gE ((f.1.fM.length+1:Nat):Int)),ig {f.1 with fM:=f.1.fM++[gP s.c2]} ([18]++gE ((f.1.fM.length+1:Nat):Int)) f.2) else f):=by show _=_;unfold iB;simp only[Bool.true_and,lj,decide_eq_true_eq];grind
 have b4:Hid (∀(n:aK) (d:Nat) (h x:aM) (w:gw),pJ (a+2) b cb s z6 d h m w f x n->aL ab 82 #[Pt cb] n fun e H=>e=.returned (.bool (decide (f.1.fM.length<1073741823)))/\(f.1.fM.length<1073741823->pJ (a+2) b cb s z6 d h m w ({f.1 with fM:=f.1.fM++[gP s.c2]},f.2) x H)/\(¬f.1.fM.length<1073741823->pJ (a+2) b cb s z6 d h m w f x H)):=by
  intro n d h x w t;refine(Fx (cb:=cb) (s:=s) (j:=f.1) (e:=w.mx) (d:=w.sm) (f:=w.dm) (b:=n) t.iq.gK L.lu.2).mono ?_;rintro e H ⟨rfl,e3⟩;refine⟨rfl,fun O=>?_,fun O=>?_⟩
  ·rw[if_pos O]at e3;subst e3;exact pJ.gK (t:=f.2) t (go (Below.refl _ _) 20 _) t.iq.grown
  ·rw[if_neg O]at e3;subst e3;exact t
 have d6:Hid (∀(n:aK) (d:Nat) (h x:aM) (w:gw),f.1.fM.length<1073741823->pJ (a+2) b cb s z6 d h m w ({f.1 with fM:=f.1.fM++[gP s.c2]},f.2) x n->
   aL ab 78 #[Pt cb,.int .u8 18,ai (some (gf n 0)) 1 1] (n.alloc (.cells #[II ((f.1.fM.length+1:Nat):Int)] 3)) fun e d0=>vr (a+2) b cb s z6 d h m w (hE {f.1 with fM:=f.1.fM++[gP s.c2]} ([18]++gE ((f.1.fM.length+1:Nat):Int)),ig {f.1 with fM:=f.1.fM++[gP s.c2]} ([18]++gE ((f.1.fM.length+1:Nat):Int)) f.2) x e d0):=by
  intro n d h x w O t;refine t.Nk 18 (M:=l+20+20) ⟨L.fZ,L.addr,L.gR,L.gS,L.heard,L.runs,L.fS,?_,fun M Q=>?_⟩ (by omega) (by omega) (by grind)
  ·grind
  ·rcases bX.1 Q with Q|Q
   ·exact L.str M Q
   ·rw[bV.1 Q];exact A' (by omega)
 have j0:=fK h0;obtain⟨_,o1⟩:∃M:Nat,M=0:=⟨0,rfl⟩;clear R hi b2 e1 a5 b3 e0 k7 l3 g9 p7 p8 p9 l2 g8 k8 d9 g4 l1 g6 k5 p6 A h1 p5 X J q4 q5 q6 q7 c9 L e4 l6 l7 k9 l0 g5 k6 o5 o7 n5 n4 k4 k3 p1 p2 h0 o1;rw[n0.out];go_enter func44,ntmps44;go_wp2_with fail;refine i8.out.mono ?_;rintro e m3 ⟨k,I,c6⟩;have p4:=c6.ret;subst p4;have d5:=fK c6;clear c6 i8 n2 o0;go_wp2_with fail;refine(i7.out m3 k I d5.out.iq d5.out.mem).mono ?_;intro e a9 e2;obtain⟨h,q,rfl,⟨D,E,G,rfl⟩,S,_,t⟩:=i9.out m3 a9 k I _ e d5.out e2;have a7:=fK t;have f0:=fK S;have f8:lq (a9.alloc (.cells #[.slice D E G,.bool m.fin,.bool m.oC] 46)) a9 1 (.bool m.fin):=iu t.box 1;have f9:lq (a9.alloc (.cells #[.slice D E G,.bool m.fin,.bool m.oC] 46)) a9 2 (.bool m.oC):=iu t.box 2;clear e2 t S i7 i9 d5;go_upto_region 6 with fail;go_cut [12] from 31 to 37 (fun h2 Y=>h2=.bool y.done/\pJ (a+1) b cb s z6 a9.heap.size (.slice D E G) m q ({j with fM:=j.fM.set c.toNat (mF N g)},[]) (ai none 0 0) Y);case first=>
  cases b1:m.fin with
  |true=>rw[b1]at f8 f9;go_wp2_with fail;go_meet;refine⟨by rw[j0.out,b1];rfl,?_⟩;have:=a7.out;rw[b1]at this;exact this
  |false=>rw[b1]at f8 f9;go_wp2_with fail;go_meet;refine⟨by rw[j0.out,b1];rfl,?_⟩;have:=a7.out;rw[b1]at this;exact this
 case rest=>
  obtain⟨rfl,t⟩:=hcut;clear a7;have a7:=fK t;generalize a9.heap.size=d at *
  clear t f8 f9;go_upto_if 38 with fail;go_cut [12] from 38 to 43 (fun h2 Y=>h2=.bool y.done/\PA a b cb s z6 d (.slice D E G) m j c k y Y);case first=>
   cases K:y.done with
   |true=>have i0:=fK (e7.out wc d k (.slice D E G) q f0.out a7.out K);clear e7 e9;go_wp2_with fail;refine i0.out.mono ?_;rintro e m4 ⟨rfl,c4⟩;have i1:=fK c4;clear c4 i0;go_wp2_with fail;refine i1.out.mono ?_;rintro e z ⟨rfl,a3⟩;have m9:=fK a3;clear a3 i1;go_wp2_with fail;go_meet;exact⟨by rw[K],m9.out⟩
   |false=>go_wp2_with fail;go_meet;exact⟨by rw[K],e9.out _ _ _ _ _ f0.out a7.out K⟩
  case rest=>
   obtain⟨rfl,k0⟩:=hcut;have i4:=fK k0;clear k0 a7 e7 e9 f0;go_wp2_with fail;refine(i6.out _ _ k _ i4.out).mono ?_;rintro e m4 ⟨rfl,⟨f5,k1⟩,g0,g1⟩;have d3:=fK k1;clear k1 i4 i6;go_upto_if 45 with fail;go_cut [13] from 45 to 53 (fun h3 Y=>PB a b cb s z6 d (.slice D E G) m p h3 Y);case first=>
    cases c5:mE s y with
    |true=>
     have h9:=fK (EH (a:=k) (c:=(lZ s y).fS) (g:=s.c2) (b:=m4) g0 g1);clear g0 g1;go_wp2_with fail;refine h9.out.mono ?_;rintro e z ⟨rfl,a2⟩;have Z:=fK (f4.out z _ _ f5 (d3.out.below a2));clear h9 a2 f4 d3;go_wp2_with fail;refine Z.out.mono ?_;rintro e h4 ⟨e5,rfl,⟨d1,d2,m6,rfl⟩,a1⟩;obtain⟨l8,T,a4,⟨h5,h6,h7,rfl⟩,B⟩:=a1 47;have b5:=fK a4;have b0:=fK B;clear a4 B a1 Z;go_wp2_with (first
      |(at_builtin;refine gJ rfl _ _ 47 47 rfl _ _ rfl rfl b5.out ?_;refine Hid.out ?_))
     refine fK ?_;go_wp2_with fail;go_meet;refine⟨⟨_,_,_,rfl⟩,f5,?_⟩;rw[f2.out,c5,if_pos rfl];exact b0.out
    |false=>go_wp2_with fail;go_meet;refine⟨⟨_,_,_,rfl⟩,f5,?_⟩;rw[f2.out,c5];exact d3.out
   case rest=>
    have f1:=fK hcut;obtain⟨⟨q9,e5,r0,rfl⟩,_⟩:=hcut;clear d3 f4 g0 g1 f2;go_upto_region 12 with fail;go_cut [59] from 54 to 58 (fun q8 Y=>q8=.bool (tx s p)/\PB a b cb s z6 d (.slice D E G) m (mO s p.1,p.2) (.slice q9 e5 r0) Y);case first=>
     go_region_with (first
      |(go_at_call 81;refine(h8.out wc _ _ _ _ f1.out (fQ (Below.refl _ wc) 1)).mono ?_;rintro e z ⟨rfl,a2⟩;have m7:=fK (f1.out.below (gc a2));clear a2)
      |(go_at_call 80;refine(i2.out z _ _ _ m7.out).mono ?_;rintro e h4 ⟨rfl,j9⟩))
     all_goals
      have m8:=fK j9;clear j9;go_wp2_with fail;go_meet;exact⟨rfl,m8.out⟩
    case rest=>
     obtain⟨rfl,b9⟩:=hcut;obtain⟨_,f6,d8⟩:=b9;have j1:CI wc cb 18 (mO s p.1).fS:=d8.iq.gK.cell 18;have j2:CI wc cb 19 s.c1:=d8.iq.gK.cell 19;have d4:=fK d8;clear d8 f1 h8 i2;go_upto_if 59 with fail;go_cut [13] from 59 to 69 (fun h3 Y=>PB a b cb s z6 d (.slice D E G) m f h3 Y);case first=>
      cases c5:tx s p with
      |true=>
       go_wp2_with fail;refine(e8.out _).mono ?_;rintro e z ⟨rfl,a2⟩;have Z:=fK (f3.out z _ _ _ f6 (d4.out.below a2));clear a2 f3 d4 j1 j2 e8;go_wp2_with fail;refine Z.out.mono ?_;rintro e h4 ⟨e5,rfl,⟨d1,d2,m6,rfl⟩,a1⟩;obtain⟨l8,T,a4,⟨h5,h6,h7,rfl⟩,B⟩:=a1 47;have b5:=fK a4;have b0:=fK B;clear a4 B a1 Z;go_wp2_with (first
        |(at_builtin;refine gJ rfl _ _ 47 47 rfl _ _ rfl rfl b5.out ?_;refine Hid.out ?_))
       refine fK ?_;go_wp2_with fail;go_meet;refine⟨⟨_,_,_,rfl⟩,f6,?_⟩;rw[e6.out,c5,if_pos rfl];exact b0.out
      |false=>go_wp2_with fail;go_meet;refine⟨⟨_,_,_,rfl⟩,f6,?_⟩;rw[e6.out,c5];exact d4.out
     case rest=>
      obtain⟨⟨l9,m0,m1,rfl⟩,f7,k2⟩:=hcut;have a8:=fK k2;clear k2 d4 j1 j2 e6 f3 e8;cases K:y.done with
      |true=>
       by_cases O:f.1.fM.length<1073741823
       ·have a6:=fK (b4.out wc d (.slice D E G) _ f7 a8.out);rw[decide_eq_true O]at a6;clear a8 b4;go_wp2_with fail;refine a6.out.mono ?_;rintro e z ⟨rfl,c7,_⟩;have v:=c7 O;have n3:z.cell? (Ad cb 20)=some (II ((f.1.fM.length+1:Nat):Int)):=by have:=v.iq.gK.cell 20;simpa[pG] using this
        have Z:=fK (d6.out z d (.slice D E G) _ f7 O v);clear c7 v d6 a6;go_wp2_with fail;refine Z.out.mono ?_;rintro e h4 ⟨e5,rfl,⟨d1,d2,m6,rfl⟩,a1⟩;obtain⟨l8,T,a4,⟨h5,h6,h7,rfl⟩,B⟩:=a1 47;have b5:=fK a4;have b0:=fK B;have j6:CV T d 0 (.slice D E G):=iu B.box 0;have j7:CV T d 1 (.bool m.fin):=iu B.box 1;have j8:CV T d 2 (.bool m.oC):=iu B.box 2;have j3:lq T b 0 (ai none 0 0):=iu B.res 0;have j4:lq T b 1 (.bool false):=iu B.res 1;have j5:lq T b 2 (.bool false):=iu B.res 2;have m5:mc T b.heap.size 0:=cx _ _ 0 _ _ B.res;have d1:mc T b.heap.size 1:=cx _ _ 1 _ _ B.res;have d2:mc T b.heap.size 2:=cx _ _ 2 _ _ B.res;clear a4 B a1 Z n3;go_wp2_with (first
         |(at_builtin;refine gJ rfl _ _ 47 47 rfl _ _ rfl rfl b5.out ?_;refine Hid.out ?_))
        refine fK ?_;go_wp2_with fail;refine cz (ip (y5:=ab) Tryz.results44 b.heap.size 46 #[.slice D E G,.bool m.fin,.bool m.oC] (0,0) _ (.slice h5 h6 h7) (by kernel_rfl) (by kernel_rfl) (uM b0.out.res) underlying46 rfl (by kernel_rfl)) rfl ?_;show nv a b cb s z6 m (iB s y.done f) _ _;rw[K,i3.out,if_pos O];exact b0.out.fin (uL)
       ·have a6:=fK (b4.out wc d (.slice D E G) _ f7 a8.out);rw[decide_eq_false O]at a6;clear a8 b4;go_wp2_with fail;refine a6.out.mono ?_;rintro e z ⟨rfl,_,c7⟩;have v:=c7 O;have i5:=fK v;have j6:CV z d 0 (.slice D E G):=iu v.box 0;have j7:CV z d 1 (.bool m.fin):=iu v.box 1;have j8:CV z d 2 (.bool m.oC):=iu v.box 2;have j3:lq z b 0 (ai none 0 0):=iu v.res 0;have j4:lq z b 1 (.bool false):=iu v.res 1;have j5:lq z b 2 (.bool false):=iu v.res 2;have m5:mc z b.heap.size 0:=cx _ _ 0 _ _ v.res;have d1:mc z b.heap.size 1:=cx _ _ 1 _ _ v.res;have d2:mc z b.heap.size 2:=cx _ _ 2 _ _ v.res;clear c7 v d6 a6;go_wp2_with fail;refine cz (ip (y5:=ab) Tryz.results44 b.heap.size 46 #[.slice D E G,.bool m.fin,.bool m.oC] (0,0) _ (.slice l9 m0 m1) (by kernel_rfl) (by kernel_rfl) (uM i5.out.res) underlying46 rfl (by kernel_rfl)) rfl ?_;show nv a b cb s z6 m (iB s y.done f) _ _;rw[K,i3.out,if_neg O];exact i5.out.fin (uL)
      |false=>have v:=a8.out;have j6:CV wc d 0 (.slice D E G):=iu v.box 0;have j7:CV wc d 1 (.bool m.fin):=iu v.box 1;have j8:CV wc d 2 (.bool m.oC):=iu v.box 2;have j3:lq wc b 0 (ai none 0 0):=iu v.res 0;have j4:lq wc b 1 (.bool false):=iu v.res 1;have j5:lq wc b 2 (.bool false):=iu v.res 2;have m5:mc wc b.heap.size 0:=cx _ _ 0 _ _ v.res;have d1:mc wc b.heap.size 1:=cx _ _ 1 _ _ v.res;have d2:mc wc b.heap.size 2:=cx _ _ 2 _ _ v.res;clear v d6 b4;go_wp2_with fail;refine cz (ip (y5:=ab) Tryz.results44 b.heap.size 46 #[.slice D E G,.bool m.fin,.bool m.oC] (0,0) _ (.slice l9 m0 m1) (by kernel_rfl) (by kernel_rfl) (uM a8.out.res) underlying46 rfl (by kernel_rfl)) rfl ?_;show nv a b cb s z6 m (iB s y.done f) _ _;rw[K,show iB s false f=f by simp[iB]];exact a8.out.fin (uL)
theorem Fl(h:hC a b cb s j z6)(O:j.fM[c.toNat]? =some N)(K:0<=c/\c<=1073741823)(J:N.done=true):
  aL ab 44 #[Pt cb,II c,II g] b fun o Q=>nv a b cb s z6 ⟨[],!N.reset,N.reset⟩ (j,[]) o Q:=by
 have M:(Lit.int .i64 c).wf=true:=pC (by omega);obtain⟨T,S,q⟩:=h.p_;have l:Bw b (uz b):=fO _ _;have x:Bw b ((uz b).alloc (.cells (Da N) 142)):=fP l (fO _ _);have z:((uz b).alloc (.cells (Da N) 142)).heap[b.heap.size]? =some (ti):=by rw[Below.heap_alloc _ _ _ (by simp)];exact cA b _
 have m:=h.EW c;have y:mG j.fM c=some (N.final,N.reset):=by unfold mG;rw[if_pos K.1,O];simp[J]
 rw[y]at m;have A:mD pP z6.dl c=.agg (Da N):=by unfold mD;rw[m];rfl
 have I:CV (uz b) cb 22 (.map (some z6.dm)):=(h.gK.below l).cell 22;have L:(Instr.lookup 135 (.map (some z6.dm)) (II c) true).run ab (uz b)=.ok (.tuple #[.agg (Da N),.bool true]) (uz b):=by have D:=sK (u6:=pP) (u5:=142) underlying3 underlying135 (fun f=>by kernel_rfl) (q.same (l.block z6.dm q.lt)) M;rw[A,m]at D;exact D
 have u:=fK (fun f=>Iv (fi:=N.final) (O:=N.reset) (b:=f));have G:Hid (∀f,Bw b f->nv a b cb s z6 ⟨[],!N.reset,N.reset⟩ (j,[]) (.returned (.tuple #[.agg #[ai none 0 0,.bool (!N.reset),.bool N.reset],ai none 0 0])) f):=fun f w=>
  ⟨⟨_,_,z6,rfl,⟨_,_,_,rfl⟩,ak _ _ _ _,la.none (ix.nil _ _) rfl,fun B k=>(by simp[aq]at k),(h.below w).mono (by omega),fun B k=>bg k,fun B k=>bg k⟩,gm.fU w⟩
 have n:=fK z;have t:=fK x;clear h q m y A l x z;go_enter func44,ntmps44;go_wp2_with fail;refine(u.out _).mono ?_;rintro o e ⟨rfl,p⟩;have v:=fP t.out p;have d:e.heap[b.heap.size]? =some (ti):=(p.block _ (bn.1 n.out).1).trans n.out;have E:=fK v;have H:=fK d;have c0:lq e b 0 (ai none 0 0):=iu d _;have c1:lq e b 1 (.bool false):=iu d _;have R:lq e b 2 (.bool false):=iu d _;have U:mc e b.heap.size 0:=cx _ _ 0 _ _ d;have V:mc e b.heap.size 1:=cx _ _ 1 _ _ d;have W:mc e b.heap.size 2:=cx _ _ 2 _ _ d;clear p v d u t n I L;go_wp2_with fail;refine cz (ip (y5:=ab) Tryz.results44 b.heap.size 46 #[ai none 0 0,.bool (!N.reset),.bool N.reset] (0,0) _ (ai none 0 0) (by kernel_rfl) (by kernel_rfl) (uM H.out) underlying46 rfl (by kernel_rfl)) rfl ?_;exact G.out _ (jz E.out (uL) (ar _))
theorem Ic(f:hC a b cb s j z6)(hi:iV s j)(o:jF s)(q:hS l j)(m:l<=1125899906842000)(n:a+2<1125899906842624)(e:j.fM[c.toNat]? =some N)(h:0<=c/\c<=1073741823)(p:0<=g/\g<=9223372036854775807):
  aL ab 44 #[Pt cb,II c,II g] b fun k t=>nv a b cb s z6 (gz N g).1 (lA s j c.toNat N g) k t:=by
 cases d:N.done with
 |false=>exact Fm f hi o q m n e h d p
 |true=>rw[Gx hi e d,yw (hi.str N (bS e)) d];exact Fl f e h d
theorem hU.Oh(C:z≠101/\z≠97/\z≠137/\z≠279/\z≠204/\z≠259/\z≠5){s:gg}{xs:List gw}{v:List Nat}(h:hU a w d s f e m xs v)(o:gm F w b)(n:∀l,F l->∃j k,w.heap[l]? =some (.cells j z k)):hU a b d s f e m xs v:=by
 obtain⟨E,D,q⟩:=h.map;obtain⟨O,G,H,I,J,K,P⟩:=C;refine⟨h.gK.gx o (fun c=>?_),⟨E,D,q.same (o.block f q.lt (fun c=>?_))⟩,h.iD,h.jv,fun i y cb x A B t=>?_,gM h.row o (fun l p c=>?_),h.wait,h.apart,h.AD⟩
 ·obtain⟨j,k,g⟩:=n _ c;have t:w.heap[d]? =some (.cells (oP s.c s.now f e) 101 (0,0)):=h.gK;grind
 ·obtain⟨j,k,g⟩:=n _ c;obtain⟨M,L,N⟩:=q.iM;grind
 ·have u:=h.iq i y cb x A B t;refine u.gx o (fun l p c=>?_) (fun l j k p c=>?_)
  ·obtain⟨j,k,g⟩:=n _ c;exact jr u g H I J K p
  grind
 ·obtain⟨j,k,g⟩:=n _ c;exact fR h.row g (fun g=>G g.symm) p
structure ux(N:Nat)(w:aK)(sb cm:Nat)(wv:aM)(jf:List Nat)(xs:List gw)(r:Int×oD×gg×List (Int×List Int))(e:ed)(w':aK):Prop where
 ex:∃tv v CW J1,e=.returned (.tuple #[.agg #[tv,.bool r.2.1.fin,.bool r.2.1.oC],v,II r.1])/\(∃ao l c,v=.slice ao l c)/\w'.ownsRow w.heap.size 5 1 tv r.2.1.bytes.length (U8 r.2.1.bytes)/\la (fun k=>me CW k\/tv.ownBlock=some k) w' w.heap.size v r.2.2.2/\(∀k,tv.ownBlock=some k->¬me CW k)/\hU (N+2) w' sb r.2.2.1 cm wv jf CW J1/\(∀k,js sb cm wv jf CW k->js sb cm wv jf xs k\/w.heap.size<=k)/\∀k,me CW k->me xs k\/w.heap.size<=k
 gx:gm (js sb cm wv jf xs) w w'
theorem MV(e:ja p.fN c=some a)(f:p.fN[a]? =some j)(m:j.fY=true)(d:0<=g)(k:0<=l)(b:j.fM[g.toNat]? =some N):
  kH p c g l=(0,(gz N l).1,{p with fN:=p.fN.set a (lA p.c j g.toNat N l).1},(lA p.c j g.toNat N l).2):=by
 have h:=(bo.1 b).1;unfold kH;grind
theorem JG{v:List Nat}{q:Int}(t:hU a b d p f e m Q v){c5 x:Int}(B:gD c5 x p)(e5:c5<=1125899906842000)(e6:a+2<1125899906842624)(f2:-9223372036854775808<=c/\c<=9223372036854775807)(h1:-9223372036854775808<=l/\l<=9223372036854775807):
  aL ab 17 #[Pt d,II c,II q,II l] b fun j g7=>ux a b d f e m Q (kH p c q l) j g7:=by
 have C:Bw b (uz b):=fO b _;have g2:CV (uz b) d 11 (.map (some f)):=(t.gK.below C).cell 11;have U:Hid ((uz b).heap[b.heap.size]? =some (ti)):=cA b _;have a3:Hid (∀(A:aK) (h:Int),Bw b A->ux a b d f e m Q (h,kK,p,[]) (.returned (.tuple #[.agg L4,ai none 0 0,II h])) A):=fun A h c9=>
  ⟨⟨_,_,Q,v,rfl,⟨_,_,_,rfl⟩,ak _ _ _ _,la.none (ix.nil _ _) rfl,fun a2 s=>(by simp[aq]at s),(t.below c9).mono (by omega),fun a2 s=>bg s,fun a2 s=>bg s⟩,gm.fU c9⟩
 rcases lL (y4:=p.fN) (c:=c) with⟨D,d3⟩|⟨a2,n,D,s,f3⟩
 ·have b7:=(t.below C).Ld f2 d3;have E:kH p c q l=(3,kK,p,[]):=by unfold kH;rw[D]
  rw[E];have d9:∀A:aK,(binOp .eql 97 (ag none) (ag none)).run ab A=.ok (.bool true) A:=fun A=>by kernel_rfl
  have S:=fK C;clear t B D d3 E C;go_enter func17,ntmps17;go_wp2_with fail;refine cz (hQ (y5:=ab) Tryz.results17 b.heap.size 46 L4 (0,0) _ (ai none 0 0) (II 3) (by kernel_rfl) (by kernel_rfl) (by kernel_rfl) U.out underlying46 rfl (by kernel_rfl)) rfl ?_;exact a3.out _ 3 S.out
 ·obtain⟨cb,I,N,K,a6⟩:=t.found B.nd s;have X:=bS s;have O:=B.ok n X;have a9:=O.fZ;have b7:=(t.below C).lO (c:=n.fZ) (by omega) a6;rw[f3]at b7;have M:=(t.below C).iq a2 n cb I s N K;have d9:∀A:aK,(binOp .eql 97 (Pt cb) (ag none)).run ab A=.ok (.bool false) A:=fun A=>by kernel_rfl
  have G:=fK (pL (cb:=cb) (s:=p.c) (j:=n) (e:=I.mx) (d:=I.sm) (f:=I.dm) M.gK);have S:=fK C;cases J:n.fY with
  |false=>
   have E:kH p c q l=(3,kK,p,[]):=by unfold kH;rw[D];simp only;rw[s];simp only;rw[J,if_pos rfl]
   rw[E];rw[J]at G;clear t B D s N K a6 X O a9 M E C;go_enter func17,ntmps17;go_wp2_with fail;refine G.out.mono ?_;rintro j w ⟨rfl,rfl⟩;clear G;go_wp2_with fail;refine cz (hQ (y5:=ab) Tryz.results17 b.heap.size 46 L4 (0,0) _ (ai none 0 0) (II 3) (by kernel_rfl) (by kernel_rfl) (by kernel_rfl) U.out underlying46 rfl (by kernel_rfl)) rfl ?_;exact a3.out _ 3 S.out
  |true=>
   have L:=fK (Dh cb p.c n I.mx I.sm I.dm q M.gK);rw[J]at G;by_cases d1:0<=q/\q<(n.fM.length:Int)
   ·have b6:(decide (0<=q)&&decide (q<(n.fM.length:Int)))=true:=by simp[d1]
    rw[b6]at L;by_cases f4:0<=l
    ·obtain⟨k,b0⟩:∃k,n.fM[q.toNat]? =some k:=⟨_,ap (show q.toNat<n.fM.length by omega)⟩;rw[MV D s J d1.1 f4 b0];have f7:=O.lu;have c4:=fK (Ic (a:=a) (cb:=cb) (s:=p.c) (j:=n) (z6:=I) (c:=q) (g:=l) (N:=k) M (B.inv n X) B.cfg O e5 e6 b0 (by omega) (by omega));have c3:Hid (∀(j:ed) (H:aK),nv a (uz b) cb p.c I (gz k l).1 (lA p.c n q.toNat k l) j H->∃z a1,j=.returned (.tuple #[.agg #[z,.bool (gz k l).1.fin,.bool (gz k l).1.oC],a1])/\(∃b3 b1 n,z=.slice b3 b1 n)/\(∃b3 b1 n,a1=.slice b3 b1 n)/\
       (H.alloc (.cells #[z,.bool (gz k l).1.fin,.bool (gz k l).1.oC] 46)).heap[b.heap.size]? =some (ti)/\
       ∀b2,gm (· = b.heap.size) (H.alloc (.cells #[z,.bool (gz k l).1.fin,.bool (gz k l).1.oC] 46)) b2->ux a b d f e m Q (0,(gz k l).1,{p with fN:=p.fN.set a2 (lA p.c n q.toNat k l).1},(lA p.c n q.toNat k l).2) (.returned (.tuple #[.agg #[z,.bool (gz k l).1.fin,.bool (gz k l).1.oC],a1,II 0])) b2):=by
      intro j H W;obtain⟨z,a1,c6,rfl,d4,b4,f5,vJ,y,d2,g0⟩:=W.ex;obtain⟨h3,h4,f9⟩:=gr b4;obtain⟨_,_,c7,_⟩:=yv (g:=l) (B.inv n X) O b0 B.cfg;have f6:b.heap.size<(uz b).heap.size:=by simp
      have f1:=(t.below S.out);have e7:=f1.step (N':=a+2) (by omega) s N K W.gx y d2 c7.fZ c7.waits;have a7:Bw H (H.alloc (.cells #[z,.bool (gz k l).1.fin,.bool (gz k l).1.oC] 46)):=fO H _;have d8:H.heap[b.heap.size]? =some (ti):=by refine(W.gx.block _ f6 (jr M U.out (by decide) (by decide) (by decide) (by decide))).trans U.out
      have b9:=(a7.block _ (bn.1 d8).1).trans d8;refine⟨z,a1,rfl,⟨_,_,_,f9⟩,d4,b9,fun b2 a8=>?_⟩;have b8:∀h a4 c2 a5,(H.alloc (.cells #[z,.bool (gz k l).1.fin,.bool (gz k l).1.oC] 46)).heap[h]? =some (.cells a4 c2 a5)->c2≠46->¬h=b.heap.size:=by intro h a4 c2 a5 o f8 j;rw[j,b9]at o;simp only[Option.some.injEq,Obj.cells.injEq]at o;exact f8 o.2.1.symm
      have c8:∀h,me (Q.set a2 c6) h->c6.u h\/h<b.heap.size:=by
       rintro h ⟨e2,b5,o⟩;rcases dh b5 with b5|rfl
       ·exact bf (sU t ⟨e2,b5,o⟩)
       ·exact bg o
      have e4:=si (a:=d) (d:=f) (e:=e) N K d2;have f0:=sj K g0;have e8:=(e7.below a7).Oh (z:=46) (by decide) a8 (fun h j=>⟨_,_,(congrArg (fun g1=>(H.alloc (.cells #[z,.bool (gz k l).1.fin,.bool (gz k l).1.oC] 46)).heap[g1]?) j).trans b9⟩);refine⟨⟨z,a1,_,_,rfl,d4,?_,?_,fun h o e9=>?_,e8,fun h o=>?_,fun h o=>?_⟩,?_⟩
      ·exact gI (gp (gq b4 (by omega)) a7) a8 fun h a4 a5 o=>b8 _ _ _ _ o (by decide)
      ·have e3:=(f5.gx (F:=fun _=>False) (gm.fU a7) (fun _ _ _ _ t=>t) (fun _ _ _ _ t=>t)).gx a8 (fun h a4 a5 o=>b8 _ _ _ _ o (by decide)) (fun h a4 a5 o=>b8 _ _ _ _ o (by decide));obtain⟨out,g3,d5,d6⟩:=e3;refine⟨out,gq g3 (by omega),d5.mono (by omega),fun i d7 h J o y=>?_⟩;rcases y with y|y
       ·rcases c8 h y with y|y
        ·exact d6 i d7 h J o (bg y)
        ·have:=(d5.ge J o).1;omega
       ·exact d6 i d7 h J o (bf y)
      ·rcases c8 h e9 with y|y
       ·exact vJ h o y
       ·have:=(b4.lt h o).1;omega
      ·rcases e4 h o with j|j
       ·exact bg j
       ·exact bf (by omega)
      ·rcases f0 h o with j|j
       ·exact bg j
       ·exact bf (by omega)
      ·refine mh (mh (mh (gm.fU S.out) W.gx fun h _ j=>lJ N K j) (gm.fU (F:=fun _=>False) a7) fun h _ j=>j.elim) a8 fun h o j=>?_;omega
     clear t B D s N K a6 X O a9 M C f7 b0 a3;generalize (gz k l).1=V at *
     generalize lA p.c n q.toNat k l=h2 at *
     go_enter func17,ntmps17;go_wp2_with fail;refine G.out.mono ?_;rintro j w ⟨rfl,rfl⟩;clear G;go_wp2_with fail;refine L.out.mono ?_;rintro j w ⟨rfl,rfl⟩;clear L;go_wp2_with fail;refine c4.out.mono ?_;intro j w W;obtain⟨z,a1,rfl,⟨Y,Z,a0,rfl⟩,⟨g4,g5,g6,rfl⟩,R,d0⟩:=c3.out j w W;have e0:=fK d0;have e1:=fK R;have g8:lq (w.alloc (.cells (E' Y Z a0 V) 46)) b 0 (ai none 0 0):=iu R 0;have g9:lq (w.alloc (.cells (E' Y Z a0 V) 46)) b 1 (.bool false):=iu R 1;have h0:lq (w.alloc (.cells (E' Y Z a0 V) 46)) b 2 (.bool false):=iu R 2;have h5:mc (w.alloc (.cells (E' Y Z a0 V) 46)) b.heap.size 0:=cx _ _ 0 _ _ R;have h6:mc (w.alloc (.cells (E' Y Z a0 V) 46)) b.heap.size 1:=cx _ _ 1 _ _ R;have h7:mc (w.alloc (.cells (E' Y Z a0 V) 46)) b.heap.size 2:=cx _ _ 2 _ _ R;clear W d0 R c4 c3 b7 g2 U;go_wp2_with fail;refine cz (hQ (y5:=ab) Tryz.results17 b.heap.size 46 (E' Y Z a0 V) (0,0) _ (.slice g4 g5 g6) (II 0) (by kernel_rfl) (by kernel_rfl) (by kernel_rfl) (uM e1.out) underlying46 rfl (by kernel_rfl)) rfl ?_;exact e0.out _ (uL)
    ·have E:kH p c q l=(2,kK,p,[]):=by unfold kH;rw[D];simp only;rw[s];simp only;rw[J,if_neg (by decide),if_pos (by omega)]
     rw[E];clear t B D s N K a6 X O a9 M E C;go_enter func17,ntmps17;go_wp2_with fail;refine G.out.mono ?_;rintro j w ⟨rfl,rfl⟩;clear G;go_wp2_with fail;refine L.out.mono ?_;rintro j w ⟨rfl,rfl⟩;clear L;go_wp2_with fail;refine cz (hQ (y5:=ab) Tryz.results17 b.heap.size 46 L4 (0,0) _ (ai none 0 0) (II 2) (by kernel_rfl) (by kernel_rfl) (by kernel_rfl) U.out underlying46 rfl (by kernel_rfl)) rfl ?_;exact a3.out _ 2 S.out
   ·have b6:(decide (0<=q)&&decide (q<(n.fM.length:Int)))=false:=by simp only[Bool.and_eq_false_iff,decide_eq_false_iff_not];omega
    rw[b6]at L;have E:kH p c q l=(2,kK,p,[]):=by unfold kH;rw[D];simp only;rw[s];simp only;rw[J,if_neg (by decide),if_pos (by omega)]
    rw[E];clear t B D s N K a6 X O a9 M E C;go_enter func17,ntmps17;go_wp2_with fail;refine G.out.mono ?_;rintro j w ⟨rfl,rfl⟩;clear G;go_wp2_with fail;refine L.out.mono ?_;rintro j w ⟨rfl,rfl⟩;clear L;go_wp2_with fail;refine cz (hQ (y5:=ab) Tryz.results17 b.heap.size 46 L4 (0,0) _ (ai none 0 0) (II 2) (by kernel_rfl) (by kernel_rfl) (by kernel_rfl) U.out underlying46 rfl (by kernel_rfl)) rfl ?_;exact a3.out _ 2 S.out
theorem wM{r:Int}(b:aK)(e:0<=r/\r<=4611686018427387904)(f:0<=g/\g<=4096):
  aL ab 191 #[II r,II g] b fun c d=>c=.returned (II (iR r g))/\b=d:=by
 unfold iR;by_cases a:1073741823<r+g
 ·rw[if_pos a];go_enter func191,ntmps191;go_wp2_with fail;go_ret;exact⟨rfl,rfl⟩
 ·rw[if_neg a];go_enter func191,ntmps191;go_wp2_with fail;go_ret;exact⟨rfl,rfl⟩
theorem JD{sr:Nat}(u:xo b j cb sr f e o)(Y:j.fM.length<=1073741823)(z:∀c∈j.fM,(0<=c.read/\c.read<=2147483647)/\(-1<=c.final/\c.final<=2147483647)/\0<=kM c):
  aL ab 193 #[Pt cb] b fun H L=>H=.returned (II (gX j.fM))/\Bw b L:=by
 have n:=fK u;have v:=fK z;have U:cb<b.heap.size:=hK (u.cell 9);clear u z;go_enter func193,ntmps193;go_wp2;go_loopw [3,4] (fun K i wr=>∃a:Nat,a<=j.fM.length/\i=II a/\K=II (gX (j.fM.take a))/\Bw b wr) (fun _ i _=>j.fM.length-(intOf i).toNat);case atStart=>exact⟨0,Nat.zero_le _,rfl,rfl,Below.refl _ _⟩
 case round=>
  obtain⟨a,X,rfl,rfl,g⟩:=hrel;have N:CV wr cb 9 (ai (some (Ad sr 0)) j.fM.length f):=fL (n.out.cell 9) g;have E:0<=gX (j.fM.take a)/\gX (j.fM.take a)<=2305843009213693952:=by have T:=zz (y0:=j.fM.take a) (c:=2147483647) (fun c k=>by have y:=v.out c (List.mem_of_mem_take k);refine⟨y.2.2,?_⟩;unfold kM;split<;>omega);have y:(j.fM.take a).length<=a:=List.length_take_le _ _;omega
  by_cases C:a<j.fM.length
  ·obtain⟨c,k⟩:∃c,j.fM[a]? =some c:=⟨_,ap C⟩;obtain⟨m,t⟩:∃m,o[a]? =some m:=⟨_,ap (by rw[n.out.len];exact C)⟩;have h:=n.out.str a c m k t;have O:CV wr sr (a*7) m:=fL (h 0 (by decide)) g;have P:CI wr sr (a*7+1) c.read:=fL (h 1 (by decide)) g;have Q:CI wr sr (a*7+2) c.fW:=fL (h 2 (by decide)) g;have R:CI wr sr (a*7+3) c.fS:=fL (h 3 (by decide)) g;have S:CI wr sr (a*7+4) c.final:=fL (h 4 (by decide)) g;have w:CV wr sr (a*7+5) (.bool c.reset):=fL (h 5 (by decide)) g;have x:CV wr sr (a*7+6) (.bool c.done):=fL (h 6 (by decide)) g;obtain⟨M,cap,rfl,_,_⟩:=n.out.bytes a c m k t;have J:=v.out c (bS k);have d:Hid (gX (j.fM.take (a+1))=gX (j.fM.take a)+kM c):=by show _=_;rw[pA k,uZ]
   have q:=fK g;have p:Hid (∀s:aK,Bw b s->∀G,Bw b (s.alloc G)):=fun s I G=>fP I (fO _ _);clear k t h g;generalize gX (j.fM.take a)=a4 at d E⊢;obtain⟨a0,a1⟩:=E;obtain⟨⟨a2,a3⟩,⟨V,W⟩,Z⟩:=J;unfold kM at d;cases A:c.done with
   |true=>
    rw[A]at x d;cases D:c.reset with
    |true=>
     rw[D]at w d;simp only[Bool.and_true,if_true]at d;go_wp2_with fail;go_roundw;case rel=>exact⟨a+1,by omega,by go_num,by rw[d.out],p.out _ q.out _⟩
     case measure=>simp[intOf];omega
    |false=>
     rw[D]at w d;simp only[Bool.and_false,dg,if_false]at d;go_wp2_with fail;go_roundw;case rel=>exact⟨a+1,by omega,by go_num,by rw[d.out],p.out _ q.out _⟩
     case measure=>simp[intOf];omega
   |false=>
    rw[A]at x d;simp only[Bool.false_and,dg,if_false]at d;go_wp2_with fail;go_roundw;case rel=>exact⟨a+1,by omega,by go_num,by rw[d.out],p.out _ q.out _⟩
    case measure=>simp[intOf];omega
  ·obtain rfl:a=j.fM.length:=by omega
   go_wp2;go_ret;exact⟨by rw[List.take_length];rfl,g⟩
end Go.Proofs.YthmdjhlhodpbhaaGreatDoor
