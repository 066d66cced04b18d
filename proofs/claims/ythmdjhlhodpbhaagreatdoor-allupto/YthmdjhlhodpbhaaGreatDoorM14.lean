import Derived.Test.YthmdjhlhodpbhaaGreatDoorM13
set_option maxHeartbeats 16000000
set_option maxRecDepth 8000
set_option linter.all false
namespace Go.Proofs.YthmdjhlhodpbhaaGreatDoor
open Go.RowKit
open _root_.List renaming getElem?_eq_getElem → ap, mem_of_getElem? → bS, getElem?_eq_some_iff → bo, drop_drop → es, eraseIdx_sublist → cY, countP_le_length → ez
open Go.World renaming cell? → aD
open _root_.Or renaming inl → bg, inr → bf
open _root_.Nat renaming le_refl → ar
open Go.Instr renaming slice → dI
open Go.IntKind renaming wrap_i64 → dq
open _root_.Classical renaming not_not → eA
open _root_.Go renaming frozen_of_row → cx, heap_setCell_other → cy, World → aK
open _root_.Go.Proofs.Tryz
open _root_.Go.Proofs.Tryz renaming prog → ab
open Go.Value renaming slice → ai, pointer → ag
attribute [local simp] CV CI Bw mc lq io
variable {w b:World}{k l:List Int}{c g num u M:Int}{p s:gg}{a d:Nat}{L:Nat->Prop}{v e:Value}{t:List (Int×List Int)}{j:fV}{m:List Nat}{out:List (Int×Value)}
theorem QF(b:k≠[])(a:jk (k.drop 1)=0):lD k=none:=by unfold lD;grind
theorem QG(c:k≠[])(a:jk (k.drop 1)≠0)(b:jk ((k.drop 1).drop (jk (k.drop 1)).toNat)=0):lD k=none:=by unfold lD;grind
theorem Mu(e:k≠[])(c:jk (k.drop 1)≠0)(d:jk ((k.drop 1).drop (jk (k.drop 1)).toNat)≠0){z2 r3:List Int}(a:(k.drop 1).drop (jk (k.drop 1)).toNat=z2)(b:z2.drop (jk z2).toNat=r3):lD k=if k.getD 0 0=1 then if(r3.length:Int)<jL z2 then none else some ⟨1,jL (k.drop 1),r3.take (jL z2).toNat,0,r3.drop (jL z2).toNat⟩ else if k.getD 0 0=2 then some ⟨2,jL (k.drop 1),[],jL z2,r3⟩ else none:=by unfold lD;grind
theorem qS(a:lD k=none\/¬(0<=c/\c<=255)):ib p c k=(p,[]):=by unfold ib;grind
theorem Eo{x1:zh}(a:lD k=some x1)(b:0<=c/\c<=255):ib p c k=if x1.kind=1 then lW p c x1.fZ k.length x1.tok x1.ky k.length [] else li p c x1.fZ x1.num k.length x1.ky k.length []:=by unfold ib;grind
theorem Gu(b:ja p.fN g=none):li p c g num u k a t=(p,t):=by unfold li;rw[b]
theorem Ek(e:ja p.fN g=some d)(f:p.fN[d]? =some j)(b:j.addr≠c):li p c g num u k a t=(p,t):=by unfold li;grind
theorem Jp(f:ja p.fN g=some d)(h:p.fN[d]? =some j)(b:j.addr=c)(e:kI {j with gR:=j.gR+u} num=none):li p c g num u k a t=({p with fN:=p.fN.set d {j with gR:=j.gR+u}},t):=by unfold li;grind
theorem Jo{w5:fV}(f:ja p.fN g=some d)(h:p.fN[d]? =some j)(b:j.addr=c)(e:kI {j with gR:=j.gR+u} num=some w5):li p c g num u k a t=hY {p with fN:=p.fN.set d {w5 with heard:=p.now}} d k t a:=by unfold li;grind
def E7(w:aK)(sb:Nat)(jf ke:List Nat)(cv:Value)(r:gg×List (Int×List Int))(e:Ending)(w':aK):Prop:=
 ∃v oF tq zu uV nX,e=.returned v/\gF w' r.1 sb oF tq zu uV w.heap.size nX r.2/\(v=uV\/(v=ai none 0 0/\r.2=[]))/\gm (Kg sb jf ke cv w.heap.size) w w'/\Bs w.heap.size jf ke cv oF tq zu
theorem gF.reset{v:List Nat}{j:Value}(h:gF w s a m v e j d out t):gF (w.setCell (Ad a 13) (ai none 0 0)) s a m v e (ai none 0 0) w.heap.size [] []/\gm (· = a) w (w.setCell (Ad a 13) (ai none 0 0)):=by have f:gm (· = a) w (w.setCell (Ad a 13) (ai none 0 0)):=go (Below.refl _ _) _ _;have b:=h.Py (nX:=[]) (pU:=[]) (f.mono fun n _ g=>bg g) ((fT h.iN _ _).trans (by simp[gh,g_.cells])) (World.ownsRow_nil _ _ _ _) ⟨rfl,fun i k l c=>(by simp at c)⟩;exact⟨⟨b.iN,b.row,World.ownsRow_nil _ _ _ _,⟨rfl,fun i k l c=>(by simp at c)⟩,b.iD,b.jv,b.Ga,b.Gb,b.iq⟩,f⟩
def ts(Z:Nat->Prop)(w:aK)(v:Value)(l:List Int):Prop:=
 gG l/\l.length<=140737488355328/\∃ao cap,v=.slice ao l.length cap/\l.length<=cap/\cap<=9223372036854775807/\(ao=none->cap=0)/\(0<l.length->∃b off,ao=some (Ad b off)/\Z b/\∀j,j<l.length->w.cell? (Ad b (off+j))=some (.int .u8 (l.getD j 0)))
theorem ts.nil(a:Nat->Prop)(w:aK):ts a w (ai none 0 0) []:=⟨fun d c=>(by cases c),by simp,none,0,rfl,by simp,by simp,fun _=>rfl,fun b=>absurd b (by simp)⟩
theorem ts.gx{F:Nat->Prop}(h:ts L w v l)(A:gm F w b)(z:∀j,L j->¬F j):ts L b v l:=by
 obtain⟨q,s,m,cap,n,t,u,x,y⟩:=h;refine⟨q,s,m,cap,n,t,u,x,fun C=>?_⟩;obtain⟨c,k,o,g,e⟩:=y C;refine⟨c,k,o,g,fun d f=>?_⟩;have B:c<w.heap.size:=by
  have p:=e d f;rcases Nat.lt_or_ge c w.heap.size with h|h
  ·exact h
  ·simp[aD,Array.getElem?_eq_none h]at p
 rw[<-e d f];exact World.cell?_of_block (a:=Ad c (k+d)) (A.block c B (z c g))
theorem ts.below(h:ts L w v l)(a:Bw w b):ts L b v l:=h.gx (F:=fun _=>False) (gm.fU a) (fun _ _ h=>h)
theorem ts.reads(h:ts L w v l):je w v l:=by
 obtain⟨b,c,d,cap,rfl,e,f,g,j⟩:=id h;refine⟨b,c,?_⟩;rcases Nat.eq_zero_or_pos l.length with a|a
 ·grind
 grind
theorem ka.K7(h:ka w v l):ts (fun x=>∃a b,w.heap[x]? =some (.cells a 5 b)) w v l:=by obtain⟨j,k,d,cap,f,m,n,o,p⟩:=h;refine⟨j,k,d,cap,f,m,n,o,fun t=>?_⟩;obtain⟨e,y,a,b,g,c,q⟩:=p t;exact⟨e,y,g,⟨a,b,c⟩,fun u s=>by simp only[aD,c];exact q u s⟩
theorem ts.drop(h:ts L w v l){k:Nat}(j:k<=l.length):∃c,ts L w c (l.drop k)/\(∃b cap,c=.slice b (l.length-k) cap)/\∀a:aK,(dI 44 v (some (II (k:Int))) none none).run ab a=.ok c a:=by
 obtain⟨e,p,b,cap,rfl,q,s,t,f⟩:=h;have n:∀a:aK,(dI 44 (.slice b l.length cap) (some (II (k:Int))) none none).run ab a=.ok (.slice (if cap=k then b else b.map (·.add (k*1))) (l.length-k) (cap-k)) a:=fun a=>pD underlying44 (nh) j;refine⟨_,?_,⟨_,_,rfl⟩,n⟩;have m:(l.drop k).length=l.length-k:=by simp
 refine⟨e.drop k,by omega,_,_,by rw[m],by omega,by omega,?_,fun A=>?_⟩
 ·intro z;by_cases u:cap=k
  ·omega
  simp_all
 ·obtain⟨d,o,rfl,g,x⟩:=f (by omega);refine⟨d,o+k,?_,g,fun B y=>?_⟩
  ·rw[if_neg (by omega)];simp[Addr.add_lit]
  grind
theorem mC.Ni(h:ts L w v l):mC L w v l:=by obtain⟨m,n,b,cap,rfl,d,o,p,e⟩:=id h;refine⟨h.reads,b,cap,rfl,d,fun j a g=>?_⟩;obtain⟨k,q,c,f,_⟩:=e g;rw[c]at a;cases a;exact f
theorem ts.sub(h:ts L w v l){i j:Nat}(m:i<=j)(n:j<=l.length):∃c,ts L w c ((l.drop i).take (j-i))/\∀a:aK,(dI 44 v (some (II (i:Int))) (some (II (j:Int))) none).run ab a=.ok c a:=by
 obtain⟨e,s,b,cap,rfl,f,t,u,g⟩:=h;have p:((l.drop i).take (j-i)).length=j-i:=by simp;omega
 have o:j<=cap:=Nat.le_trans n f;refine⟨.slice (if cap=i then b else b.map (·.add (i*1))) (j-i) (cap-i),⟨(e.drop i).take _,by omega,_,_,by rw[p],by omega,by omega,?_,fun B=>?_⟩,fun a=>?_⟩
 ·intro A;by_cases x:cap=i
  ·omega
  simp_all
 ·obtain⟨d,q,rfl,k,y⟩:=g (by omega);refine⟨d,q+i,?_,k,fun C z=>?_⟩
  ·rw[if_neg (by omega)];simp[Addr.add_lit]
  grind
 ·simp[dI,Instr.sliceBounds,Instr.sliceBound,asIntOf,run_underlying underlying44,nh,m,o]
theorem IF{z5:aK}{v:List Nat}{r:gg×List (Int×List Int)}(n:gm (· = a) b w)(k:lg w a m v e b.heap.size r z5):∃c f d h g,gF z5 r.1 a c f d h b.heap.size g r.2/\gm (Kg a m v e b.heap.size) b z5/\Bs b.heap.size m v e c f d:=by obtain⟨c,f,d,h,g,l,o,p⟩:=k;exact⟨c,f,d,h,g,l,(n.mono fun q _ j=>bg j).trans o,p⟩
theorem Ej{g:List Int}{v:List Nat}{h q:Value}(G:gF b p a m v h q d out t)(h3:rZ L a m v b.heap.size)(j8:∀k,L k->h.ownBlock≠some k)(U:ts L b e g){j2:Int}(x:gD M j2 p)(r4:0<=M)(r2:M+g.length+1000<=1125899906842624)(r1:j2<=1125899906840000)(r7:g.length<=1073741823):
  Calls ab 117 #[Pt a,II c,e] b fun f c8=>E7 b a m v h (ib p c g) f c8:=by
 obtain⟨z,O⟩:=G.reset;have q8:CV b a 13 q:=by simp[aD,G.iN,gh,g_.cells]
 have C3:mc b a 13:=cx b a 13 _ _ G.iN;have A9:(b.setCell (Ad a 13) (ai none 0 0)).heap.size=b.heap.size:=by simp
 have H:ts L (b.setCell (Ad a 13) (ai none 0 0)) e g:=U.gx O fun k J f=>(h3 k J).2.1 f;have g6:=fK h3;have m4:=fK j8;clear h3 j8;obtain⟨k1,_,j3,d7,rfl,r6,_⟩:=id U;generalize Z:b.setCell (Ad a 13) (ai none 0 0)=o at *
 have a3:=fK Z;have B:Hid (∀n,Bw o n->ib p c g=(p,[])->E7 b a m v h (ib p c g) (.returned (ai none 0 0)) n):=by intro n a4 f;rw[f];exact⟨_,m,v,h,_,[],rfl,z.below a4,bg rfl,(O.mono fun k _ f=>bg f).trans (gm.fU a4),Bs.refl _ _ _ _⟩
 have A4:=x.last;have r9:=x.tz;have r8:=x.cfg.c0;by_cases d3:¬(0<=c/\c<=255)
 ·have a0:jx c 0 255=false:=by unfold jx;exact decide_eq_false d3
  have D:=fK (B.out o (Below.refl _ _) (qS (bf d3)));clear G z O U H x B Z;go_enter func117,ntmps117;go_wp2_with fail;rw[a3.out];refine(h_ c 0 255 o).mono ?_;rintro f u ⟨rfl,rfl⟩;rw[a0];go_wp2_with fail;go_ret;exact D.out
 replace d3:=eA.1 d3;have a0:jx c 0 255=true:=by unfold jx;exact decide_eq_true d3
 by_cases h4:g.length=0
 ·have f0:g=[]:=List.length_eq_zero_iff.1 h4;have D:=fK (B.out o (Below.refl _ _) (qS (bg (by rw[f0];rfl))));rw[h4];clear G z O U H x B Z;go_enter func117,ntmps117;go_wp2_with fail;rw[a3.out];refine(h_ c 0 255 o).mono ?_;rintro f u ⟨rfl,rfl⟩;rw[a0];go_wp2_with fail;go_ret;exact D.out
 have l3:0<g.length:=by omega
 have f0:g≠[]:=fun f=>h4 (by rw[f];rfl);have A6:((g.length:Int)==0)=false:=beq_eq_false_iff_ne.2 (by omega);obtain⟨q5,b1,_,p5⟩:=H.drop (k:=1) (by omega);obtain⟨b3,f3⟩:∃r,g.drop 1=r:=⟨_,rfl⟩;have R:=@Mu g f0;have a5:=@QF g f0;have V:=@QG g f0;rw[f3]at b1 R a5 V;simp only[Int.natCast_one]at p5;have k2:gG b3:=by rw[<-f3];exact k1.drop 1
 have o8:b3.length=g.length-1:=by rw[<-f3];simp
 have k6:=lT b3;have X:=fK (jB (k:=b3) (e:=q5) (b:=o) b1.reads);by_cases e1:jk b3=0
 ·have D:=fK (B.out o (Below.refl _ _) (qS (bg (a5 e1))));have h8:nE b3=2:=by simp[nE,e1]
  rw[e1,h8]at X;clear G z O U H x B Z R a5 V b1;go_enter func117,ntmps117;go_wp2_with fail;rw[a3.out];refine(h_ c 0 255 o).mono ?_;rintro f u ⟨rfl,rfl⟩;rw[a0];go_wp2_with fail;refine X.out.mono ?_;rintro f u ⟨rfl,rfl⟩;go_wp2_with fail;go_ret;exact D.out
 have k8:nE b3=0:=by simp[nE,e1]
 rw[k8]at X;obtain⟨w,g2⟩:∃I,jk b3=I:=⟨_,rfl⟩;obtain⟨g4,g1⟩:∃I,jL b3=I:=⟨_,rfl⟩;have p7:=nU k2;rw[g2]at e1 k6;rw[g1]at p7;rw[g2,g1]at X;rw[g2]at R V;rw[g1]at R;obtain⟨y,c7⟩:∃g7:Nat,w=g7:=⟨w.toNat,by omega⟩;have q7:=fK c7;obtain⟨m2,b8,_,i3⟩:=H.drop (k:=1+y) (by omega);have o1:g.drop (1+y)=b3.drop y:=by rw[<-f3,es]
 obtain⟨a1,f4⟩:∃r,b3.drop y=r:=⟨_,rfl⟩;rw[o1,f4]at b8;have d4:w.toNat=y:=by omega
 rw[d4,f4]at R V;have n8:gG a1:=by rw[<-f4];exact k2.drop _
 have l2:a1.length=g.length-1-y:=by rw[<-f4];simp[o8]
 have k7:=lT a1;have a2:=fK (jB (k:=a1) (e:=m2) (b:=o) b8.reads);have B1:IntKind.i64.wrap (1+w)=1+w:=by rw[dq];omega
 have A7:∀n:aK,(dI 44 (.slice j3 g.length d7) (some (II (1+w))) none none).run ab n=.ok m2 n:=by
  have f:((1+y:Nat):Int)=1+w:=by omega
  rw[f]at i3;exact i3
 have o9:(a1.length:Int)=g.length-1-w:=by omega
 have B5:0<=w/\w<=4/\w+1<=(g.length:Int):=by omega
 clear i3 g2 g1 k8 k6;by_cases e2:jk a1=0
 ·have D:=fK (B.out o (Below.refl _ _) (qS (bg (V e1 e2))));have h8:nE a1=2:=by simp[nE,e2]
  rw[e2,h8]at a2;clear G z O U H x B Z R a5 V b1 b8 c7 k7 e2 l2 o9;go_enter func117,ntmps117;go_wp2_with fail;rw[a3.out];refine(h_ c 0 255 o).mono ?_;rintro f u ⟨rfl,rfl⟩;rw[a0];go_wp2_with fail;refine X.out.mono ?_;rintro f u ⟨rfl,rfl⟩;go_wp2_with fail;refine a2.out.mono ?_;rintro f u ⟨rfl,rfl⟩;go_wp2_with fail;go_ret;exact D.out
 have o3:nE a1=0:=by simp[nE,e2]
 rw[o3]at a2;obtain⟨K,c4⟩:∃I,jk a1=I:=⟨_,rfl⟩;obtain⟨S,c3⟩:∃I,jL a1=I:=⟨_,rfl⟩;have p9:=nU n8;rw[c4]at e2 k7;rw[c3]at p9;rw[c4,c3]at a2;obtain⟨E,d8⟩:∃g7:Nat,K=g7:=⟨K.toNat,by omega⟩;have d5:(jk a1).toNat=E:=by omega
 obtain⟨r3,i0⟩:∃r,a1.drop E=r:=⟨_,rfl⟩;have A:=R (r3:=r3) e1 (by rw[c4];exact e2) rfl (by rw[d5];exact i0);rw[c3]at A;have h7:g.drop (1+y+E)=r3:=by subst i0;subst f4;subst f3;rw[es,es,Nat.add_assoc]
 have A3:r3.length=g.length-1-y-E:=by have:=congrArg List.length i0;rw[List.length_drop,l2]at this;exact this.symm
 have B2:IntKind.i64.wrap (1+w+K)=1+w+K:=by rw[dq];omega
 have B3:IntKind.i64.wrap (1+w+K+S)=1+w+K+S:=by rw[dq];omega
 obtain⟨gK,b2,n7,_,k0⟩:∃gK b2,j3=some (Ad gK b2)/\L gK/\∀j,j<g.length->o.cell? (Ad gK (b2+j))=some (.int .u8 (g.getD j 0)):=by obtain⟨_,_,m5,cap,f,_,_,_,n3⟩:=id H;simp only[Value.slice.injEq]at f;obtain⟨rfl,_,_⟩:=f;exact n3 l3
 subst n7;have o4:o.cell? (Ad gK b2)=some (.int .u8 (g.getD 0 0)):=by have:=k0 0 l3;simpa only[Nat.add_zero] using this
 have o7:=iY k1 0;obtain⟨e6,o5⟩:∃k,g.getD 0 0=k:=⟨_,rfl⟩;rw[o5]at o4 o7 A;have d0:Hid (∀n r,lg o a m v h b.heap.size r n->ib p c g=r->∃C,n.cell? (Ad a 13)=some C/\(∃b4 c9 I,C=.slice b4 c9 I)/\E7 b a m v h (ib p c g) (.returned C) n):=by intro n r g9 f;obtain⟨d1,d6,g8,f5,i4,e9,h5,i1⟩:=IF O g9;obtain⟨c5,l9,g3⟩:=gr e9.jN;exact⟨f5,by simp[aD,e9.iN,gh,g_.cells],⟨_,_,_,g3⟩,by rw[f];exact⟨f5,d1,d6,g8,f5,i4,rfl,e9,bg rfl,h5,i1⟩⟩
 have q9:CV o a 13 (ai none 0 0):=by simp[aD,z.iN,gh,g_.cells]
 have s0:b2+g.length<=b2+d7:=by omega
 clear k0;by_cases a8:e6=1
 ·rw[if_pos a8]at A;have s1:(e6==1)=true:=beq_iff_eq.2 a8;by_cases l7:(r3.length:Int)<S
  ·rw[if_pos l7]at A;have D:=fK (B.out o (Below.refl _ _) (qS (bg A)));have o0:decide (1+w+K+S<=(g.length:Int))=false:=decide_eq_false (by omega);clear G z O U H x B Z R a5 V b1 b8 d0 A a8 c7 d8 c4 c3 d4 d5;go_enter func117,ntmps117;go_wp2_with fail;rw[a3.out];refine(h_ c 0 255 o).mono ?_;rintro f u ⟨rfl,rfl⟩;rw[a0];go_wp2_with fail;refine X.out.mono ?_;rintro f u ⟨rfl,rfl⟩;go_wp2_with fail;refine a2.out.mono ?_;rintro f u ⟨rfl,rfl⟩;go_wp2_with fail;go_ret;exact D.out
  ·rw[if_neg l7]at A;obtain⟨P,n5⟩:∃P:Nat,S=P:=⟨S.toNat,by omega⟩;have j5:S.toNat=P:=by omega
   rw[j5]at A;obtain⟨i6,i2,l6⟩:=H.sub (i:=1+y+E) (j:=1+y+E+P) (by omega) (by omega);have p6:(g.drop (1+y+E)).take (1+y+E+P-(1+y+E))=r3.take P:=by rw[h7];congr 1;omega
   rw[p6]at i2;have b9:=(mC.Ni H).cut (1+y+E+P) (by omega);have o2:g.drop (1+y+E+P)=r3.drop P:=by rw[<-h7,es]
   rw[o2]at b9;obtain⟨Y,f2⟩:∃Y,sliced (some (Ad gK b2)) (1+y+E+P) g.length d7 1=Y:=⟨_,rfl⟩;rw[f2]at b9;have l5:∀n:aK,(dI 44 (ai (some (Ad gK b2)) g.length d7) (some (II (1+w+K+S))) none none).run ab n=.ok Y n:=by
    intro n;have f:1+w+K+S=((1+y+E+P:Nat):Int):=by omega
    rw[f,<-f2];exact pD (b:=n) underlying44 (nh (b:=n)) (by omega)
   have A8:∀n:aK,(dI 44 (ai (some (Ad gK b2)) g.length d7) (some (II (1+w+K))) (some (II (1+w+K+S))) none).run ab n=.ok i6 n:=by
    intro n;have f:1+w+K+S=((1+y+E+P:Nat):Int):=by omega
    have m8:1+w+K=((1+y+E:Nat):Int):=by omega
    rw[f,m8];exact l6 n
   have W:=Eo (p:=p) A d3;simp only[if_true]at W;have j0:Hid (∀n,Bw o n->Calls ab 157 #[Pt a,II c,II g4,i6,Y,II (g.length:Int)] n fun f c8=>f=.returned (.tuple #[])/\∃C,c8.cell? (Ad a 13)=some C/\(∃b4 c9 I,C=.slice b4 c9 I)/\E7 b a m v h (ib p c g) (.returned C) c8):=by intro n a4;refine(Jy (p:=p) (c:=c) (g:=g4) (l:=g.length) (k:=r3.take P) (z2:=r3.drop P) (a:=g.length) (d:=a) (f:=b.heap.size) (e:=i6) (h:=Y) (m:=m) (v:=v) (q:=h) (out:=[]) (t:=[]) (b:=n) (z.below a4) (i2.below a4).reads g6.out m4.out (b9.below a4) x.cfg (by omega) (u:=M+g.length+1000) (by omega) (by omega) (fun s b6=>⟨(x.ok s b6).mono (by omega),by have:=(x.ok s b6).gR;omega⟩) ⟨d3.1,by omega⟩ (by omega) ⟨by omega,by omega⟩ x.now (by omega) x.nd (by simp;omega) (by simp;omega) (by have:=a4.size;omega) (by simp)).mono ?_;rintro f c8 ⟨m9,g9⟩;obtain⟨d1,d6,g8,f5,i4,e9,h5,i1⟩:=g9;exact⟨m9,d0.out c8 _ ⟨d1,d6,g8,f5,i4,e9,(gm.fU a4).trans h5,i1⟩ W⟩
   have o0:decide (1+w+K+S<=(g.length:Int))=true:=decide_eq_true (by omega);clear G z O U H x B Z R a5 V b1 b8 d0 A a8 W i2 b9 l6 c7 d8 c4 c3 d4 d5 n5 j5;go_enter func117,ntmps117;go_wp2_with fail;rw[a3.out];refine(h_ c 0 255 o).mono ?_;rintro f u ⟨rfl,rfl⟩;rw[a0];go_wp2_with fail;refine X.out.mono ?_;rintro f u ⟨rfl,rfl⟩;go_wp2_with fail;refine a2.out.mono ?_;rintro f u ⟨rfl,rfl⟩;go_wp2_with fail;go_region_held3 (fun _=>True) (first|trivial|assumption|go_keep) (first
    |(go_at_call 157;refine(j0.out _ (fQ (Below.refl _ _) 1)).mono ?_;rintro f f6 ⟨rfl,C,p8,⟨b4,c9,I,rfl⟩,d2⟩;have r5:True:=trivial))
   have e7:=fK d2;clear d2 j0;go_wp2_with fail;go_ret;exact e7.out
 rw[if_neg a8]at A;have s2:(e6==1)=false:=beq_eq_false_iff_ne.2 a8;by_cases a9:¬e6=2
 ·rw[if_neg a9]at A;have o6:(e6==2)=false:=beq_eq_false_iff_ne.2 a9;have D:=fK (B.out o (Below.refl _ _) (qS (bg A)));clear G z O U H x B Z R a5 V b1 b8 d0 A a8 a9 c7 d8 c4 c3 d4 d5;go_enter func117,ntmps117;go_wp2_with fail;rw[a3.out];refine(h_ c 0 255 o).mono ?_;rintro f u ⟨rfl,rfl⟩;rw[a0];go_wp2_with fail;refine X.out.mono ?_;rintro f u ⟨rfl,rfl⟩;go_wp2_with fail;refine a2.out.mono ?_;rintro f u ⟨rfl,rfl⟩;go_wp2_with fail;go_ret;exact D.out
 replace a9:=eA.1 a9;rw[if_pos a9]at A;have o6:(e6==2)=true:=beq_iff_eq.2 a9;have W:=Eo (p:=p) A d3;simp only[show ¬((2:Int)=1) from by decide,if_false]at W;obtain⟨m6,j4,l8⟩:=z.view;have b7:=jY (p:=p) (a:=a) (m:=m) (R:=m6) (d:=j4) g4 (b:=o) l8 (by omega);clear l8;rcases lL (y4:=p.fN) (c:=g4) with⟨a6,_⟩|⟨k,s,a6,J,s3⟩
 ·rw[a6]at b7;have l4:ld m none=ag none:=rfl;rw[l4]at b7;have c6:=fK b7;have m3:=ml o;have D:=fK (B.out o (Below.refl _ _) (W.trans (Gu a6)));clear G z O U H x B Z R a5 V b1 b8 d0 A a8 a9 c7 d8 c4 c3 d4 d5 W b7 a6 l4;go_enter func117,ntmps117;go_wp2_with fail;rw[a3.out];refine(h_ c 0 255 o).mono ?_;rintro f u ⟨rfl,rfl⟩;rw[a0];go_wp2_with fail;refine X.out.mono ?_;rintro f u ⟨rfl,rfl⟩;go_wp2_with fail;refine a2.out.mono ?_;rintro f u ⟨rfl,rfl⟩;go_wp2_with fail;refine c6.out.mono ?_;rintro f u ⟨rfl,rfl⟩;clear c6;go_wp2_with fail;go_ret;exact D.out
 have A0:k<p.fN.length:=(bo.1 J).1;have A1:=z.iD;have A2:=z.jv;obtain⟨cb,Q⟩:∃cb,m[k]? =some cb:=⟨_,ap (by omega)⟩;obtain⟨sr,c2⟩:∃sr,v[k]? =some sr:=⟨_,ap (by omega)⟩;rw[a6]at b7;have f9:ld m (some k)=Pt cb:=by simp[ld,List.getD,Q]
 rw[f9]at b7;have c6:=fK b7;have m3:=uQ o cb;obtain⟨m0,m1,b6⟩:=(z.iq k s cb sr J Q c2).cb;have B6:CI o cb 1 s.addr:=by simp[aD,b6,gn]
 by_cases b5:¬s.addr=c
 ·have n6:(s.addr==c)=false:=beq_eq_false_iff_ne.2 b5;have D:=fK (B.out o (Below.refl _ _) (W.trans (Ek a6 J b5)));clear G z O U H x B Z R a5 V b1 b8 d0 A a8 a9 c7 d8 c4 c3 d4 d5 W b7 a6 f9 b5 b6 J Q c2;go_enter func117,ntmps117;go_wp2_with fail;rw[a3.out];refine(h_ c 0 255 o).mono ?_;rintro f u ⟨rfl,rfl⟩;rw[a0];go_wp2_with fail;refine X.out.mono ?_;rintro f u ⟨rfl,rfl⟩;go_wp2_with fail;refine a2.out.mono ?_;rintro f u ⟨rfl,rfl⟩;go_wp2_with fail;refine c6.out.mono ?_;rintro f u ⟨rfl,rfl⟩;clear c6;go_wp2_with fail;go_ret;exact D.out
 replace b5:=eA.1 b5;have n6:(s.addr==c)=true:=beq_iff_eq.2 b5;have g0:=bS J;have b0:=x.ok s g0;have e5:=x.inv s g0;have l0:=b0.gR;have B7:CI o cb 3 s.gR:=by simp[aD,b6,gn]
 have C4:mc o cb 3:=cx o cb 3 _ _ b6;have B4:IntKind.i64.wrap (s.gR+(g.length:Int))=s.gR+g.length:=by rw[dq];omega
 have f7:hS (M+g.length+1000) {s with gR:=s.gR+g.length}:=⟨b0.fZ,b0.addr,by simp only;omega,by have:=b0.gS;simp only;omega,b0.heard,b0.runs,b0.fS,b0.lu,b0.str⟩;have h0:iV p.c {s with gR:=s.gR+g.length}:=⟨e5.str,e5.high,e5.runs,e5.EX⟩;have A5:=lH z.iN b6;have b9:=(mC.Ni H).cut (1+y+E) (by omega);rw[h7]at b9;obtain⟨Y,f2⟩:∃Y,sliced (some (Ad gK b2)) (1+y+E) g.length d7 1=Y:=⟨_,rfl⟩;rw[f2]at b9;have l5:∀n:aK,(dI 44 (ai (some (Ad gK b2)) g.length d7) (some (II (1+w+K))) none none).run ab n=.ok Y n:=by
  intro n;have f:1+w+K=((1+y+E:Nat):Int):=by omega
  rw[f,<-f2];exact pD (b:=n) underlying44 (nh (b:=n)) (by omega)
 have e4:gm (· = cb) o (o.setCell (Ad cb 3) (II (s.gR+g.length))):=go (Below.refl _ _) 3 _;have e8:gF (o.setCell (Ad cb 3) (II (s.gR+g.length))) {p with fN:=p.fN.set k {s with gR:=s.gR+g.length}} a m v h (ai none 0 0) b.heap.size [] []:=z.Fw J Q c2 rfl rfl e4 (fun m0 m1 h9=>(fT h9 3 _).trans rfl);generalize h2:o.setCell (Ad cb 3) (II (s.gR+g.length))=f6 at e4 e8;have j1:=fK h2;have f8:gm (Kg a m v h b.heap.size) b f6:=(O.mono fun j _ f=>bg f).trans (e4.mono fun j _ f=>bf (bg (by rw[f];exact bS Q)));have e3:=fK (Jn {p with fN:=p.fN.set k {s with gR:=s.gR+g.length}} k {s with gR:=s.gR+g.length} S a cb sr b.heap.size m v h (ai none 0 0) [] [] f6 e8 (getElem?_set_at J) Q c2 f7 (by omega));cases e0:kI {s with gR:=s.gR+(g.length:Int)} S with
 |none=>
  rw[e0]at e3;have D:Hid (∀n,Bw f6 n->n.cell? (Ad a 13)=some (ai none 0 0)/\E7 b a m v h (ib p c g) (.returned (ai none 0 0)) n):=by intro n a4;have d9:=e8.below a4;refine⟨by simp[aD,d9.iN,gh,g_.cells],?_⟩;rw[W,Jp a6 J b5 e0];exact⟨_,m,v,h,_,[],rfl,d9,bg rfl,f8.trans (gm.fU a4),Bs.refl _ _ _ _⟩
  clear G z O U H x B Z R a5 V b1 b8 d0 A a8 a9 c7 d8 c4 c3 d4 d5 W b7 a6 f9 b5 b6 J Q c2 b0 e5 l0 f7 h0 b9 e4 e8 f8 h2 e0 g0 l5;go_enter func117,ntmps117;go_wp2_with fail;rw[a3.out];refine(h_ c 0 255 o).mono ?_;rintro f u ⟨rfl,rfl⟩;rw[a0];go_wp2_with fail;refine X.out.mono ?_;rintro f u ⟨rfl,rfl⟩;go_wp2_with fail;refine a2.out.mono ?_;rintro f u ⟨rfl,rfl⟩;go_wp2_with fail;refine c6.out.mono ?_;rintro f u ⟨rfl,rfl⟩;clear c6;go_wp2_with fail;rw[j1.out];refine e3.out.mono ?_;rintro f i7 ⟨rfl,j9⟩;obtain⟨r0,d2⟩:=D.out i7 j9;have e7:=fK d2;clear d2 D e3 j9;go_wp2_with fail;go_ret;exact e7.out
 |some T=>
  rw[e0]at e3;obtain⟨c5,l9,g3,q1,q2,q3,q4⟩:=sp f7 h0 (by omega) e0;have i9:Hid (∀n,gF n {({p with fN:=p.fN.set k {s with gR:=s.gR+g.length}}:gg) with fN:=(p.fN.set k {s with gR:=s.gR+g.length}).set k T} a m v h (ai none 0 0) b.heap.size [] []->gm (· = cb) f6 n->n.cell? (Ad a 10)=some (II p.now)/\(∃b4,n.cell? (Ad cb 5)=some (II b4))/\n.frozen? (Ad cb 5)=false/\Calls ab 160 #[Pt a,Pt cb,Y] (n.setCell (Ad cb 5) (II p.now)) fun f c8=>f=.returned (.tuple #[])/\∃C,c8.cell? (Ad a 13)=some C/\(∃b4 c9 I,C=.slice b4 c9 I)/\E7 b a m v h (ib p c g) (.returned C) c8):=by
   intro n d9 k3;simp only[List.set_set]at d9;have l1:(p.fN.set k T)[k]? =some T:=getElem?_set_at J;obtain⟨B8,B9,f1⟩:=(d9.iq k T cb sr l1 Q c2).cb;have h6:gm (· = cb) n (n.setCell (Ad cb 5) (II p.now)):=go (Below.refl _ _) 5 _;have j7:=d9.Fw (c':={T with heard:=p.now}) l1 Q c2 rfl rfl h6 (fun m0 m1 h9=>(fT h9 5 _).trans rfl);simp only[List.set_set]at j7;have k5:gm (· = cb) o (n.setCell (Ad cb 5) (II p.now)):=(e4.trans k3).trans h6;have p3:=b9.gx k5 (fun j a7 f=>(g6.out j a7).2.2.1 (by rw[f];exact bS Q));have B0:=k5.size;refine⟨by simp[aD,d9.iN,gh,g_.cells],⟨T.heard,by simp[aD,f1,gn]⟩,cx n cb 5 _ _ f1,?_⟩;refine(uc {p with fN:=p.fN.set k {T with heard:=p.now}} k {T with heard:=p.now} r3 g.length a cb sr b.heap.size Y m v h (ai none 0 0) [] [] _ j7 (getElem?_set_at J) Q c2 x.cfg (c:=M+g.length+1000) ⟨c5.fZ,c5.addr,c5.gR,c5.gS,x.now,c5.runs,c5.fS,c5.lu,c5.str⟩ (by omega) (by simp only;omega) (by simp;omega) (by simp only;rw[kr (w5:={T with heard:=p.now}) J g3];exact x.nd) g6.out p3 (by omega) (by omega) (by omega) (by simp)).mono ?_;rintro f g5 ⟨rfl,n4⟩;have p4:ib p c g=hY {p with fN:=p.fN.set k {T with heard:=p.now}} k r3 [] g.length:=by rw[W,Jo a6 J b5 e0]
   rw[p4];have k9:∀d1 d6,(∀j∈d1,j∈m)->(∀j∈d6,j∈v)->Leaves (n.setCell (Ad cb 5) (II p.now)) a d1 d6 h cb sr b.heap.size (hY {p with fN:=p.fN.set k {T with heard:=p.now}} k r3 [] g.length).1 (hY {p with fN:=p.fN.set k {T with heard:=p.now}} k r3 [] g.length).2 g5->∃C,g5.cell? (Ad a 13)=some C/\(∃b4 c9 I,C=.slice b4 c9 I)/\E7 b a m v h (hY {p with fN:=p.fN.set k {T with heard:=p.now}} k r3 [] g.length) (.returned C) g5:=by
    rintro d1 d6 p1 p2 ⟨m7,i5,q0,h1,n9,p0⟩;obtain⟨C1,C2,q6⟩:=gr h1.jN;refine⟨i5,by simp[aD,h1.iN,gh,g_.cells],⟨_,_,_,q6⟩,i5,d1,d6,m7,i5,q0,rfl,h1,bg rfl,?_,fun j a7=>bg (p1 j a7),fun j a7=>bg (p2 j a7),(qK p0 (by omega)).2⟩;refine(f8.trans ((k3.trans h6).mono fun j _ f=>bf (bg (by rw[f];exact bS Q)))).trans (n9.mono fun j _ a7=>?_);rcases a7 with f|f|f|f
    ·exact bg f
    ·exact bf (bg (by rw[f];exact bS Q))
    ·exact bf (bf (bg (by rw[f];exact bS c2)))
    ·exact bf (bf (bf (bf f)))
   exact⟨rfl,n4.elim (k9 _ _ (fun _ G=>G) (fun _ G=>G)) (k9 _ _ (fun j a7=>(cY _ _).subset a7) (fun j a7=>(cY _ _).subset a7))⟩
  clear G z O U H x B Z R a5 V b1 b8 d0 A a8 a9 c7 d8 c4 c3 d4 d5 W b7 a6 f9 b5 b6 J Q c2 b0 e5 l0 f7 h0 b9 e4 e8 f8 h2 e0 g0 c5 l9 g3 q1 q2 q3 q4;go_enter func117,ntmps117;go_wp2_with fail;rw[a3.out];refine(h_ c 0 255 o).mono ?_;rintro f u ⟨rfl,rfl⟩;rw[a0];go_wp2_with fail;refine X.out.mono ?_;rintro f u ⟨rfl,rfl⟩;go_wp2_with fail;refine a2.out.mono ?_;rintro f u ⟨rfl,rfl⟩;go_wp2_with fail;refine c6.out.mono ?_;rintro f u ⟨rfl,rfl⟩;clear c6;go_wp2_with fail;rw[j1.out];refine e3.out.mono ?_;rintro f i7 ⟨rfl,j6,f1⟩;obtain⟨n0,⟨C0,n1⟩,n2,k4⟩:=i9.out i7 j6 f1;have i8:=fK k4;clear j6 f1 k4 i9 e3;go_wp2_with fail;refine i8.out.mono ?_;rintro f g5 ⟨rfl,C,p8,⟨b4,c9,I,rfl⟩,d2⟩;have e7:=fK d2;clear d2 i8 n0 n1 n2;go_wp2_with fail;go_ret;exact e7.out
theorem H8(a:List gs)(b:gs):qx (a++[b])=qx a+lM b.bytes:=by simp[qx]
theorem Fj{y0:List gs}(b:∀a∈y0,(a.bytes.length:Int)<=c):0<=qx y0/\qx y0<=y0.length*c:=by
 induction y0 with
 |nil=>simp[qx]
 |cons a r f=>have h:=b a (by simp);have d:=f (fun g e=>b g (by simp[e]));have j:lM a.bytes<=a.bytes.length:=ez;simp only[qx,List.map_cons,List.sum_cons,List.length_cons]at d⊢;grind
theorem FG(a:List Int)(b:Int):lM (a++[b])=lM a+if 0<=b then 1 else 0:=by unfold lM;grind
theorem Fo(b:aK)(a:Addr):b.drew.cell? a=b.cell? a:=rfl
theorem Ls{fZ:Int}{sb ob:Nat}{jf ke:List Nat}{cv ov:Value}{ii:List (Int×List Int)}(h:gF w s sb jf ke cv ov ob out ii){L:Int}(hI:gD M L s):
  Calls ab 123 #[Pt sb,II fZ] w fun e w'=>e=.returned (.tuple #[.agg (lO s fZ).1,II (lO s fZ).2])/\Bw w w':=by
 have Hl:Bw w (w.alloc (.cells #[.bool false,II 0,II 0,II 0,II 0,II 0] 34)):=fO _ _;have h0:=h.below Hl;obtain⟨He,tj,lb⟩:=h0.view;have SD:=hI.tz;have Nb:=hI.cfg.c0;have oO:=jY fZ lb (by omega);have HX:Hid ((w.alloc (.cells #[.bool false,II 0,II 0,II 0,II 0,II 0] 34)).heap[w.heap.size]? =some (.cells #[.bool false,II 0,II 0,II 0,II 0,II 0] 34 (0,0))):=heap_alloc_new w _;rcases lL (y4:=s.fN) (c:=fZ) with⟨hf,_⟩|⟨k,c,hf,hk,To⟩
 ·rw[hf]at oO;have SQ:ld jf none=ag none:=rfl;rw[SQ]at oO;have Ka:=fK oO;have Pk:lO s fZ=(qZ,3):=by unfold lO;rw[hf]
  rw[Pk];unfold qZ;have E0:∀W:aK,(binOp .eql 244 (ag none) (ag none)).run ab W=.ok (.bool true) W:=fun W=>by first|exact run_eql_pointer_nil W 244 none nB|kernel_rfl
  clear h h0 hI hf Pk lb oO;go_enter func123,ntmps123;go_wp2_with fail;refine Ka.out.mono ?_;rintro e w1 ⟨rfl,rfl⟩;clear Ka;go_wp2_with fail;refine bodyPost_ret (ip (y5:=ab) Tryz.results123 w.heap.size _ #[.bool false,II 0,II 0,II 0,II 0,II 0] (0,0) _ (II 3) (by kernel_rfl) (by kernel_rfl) HX.out underlying34 rfl (by kernel_rfl)) rfl ?_;exact⟨rfl,Hl⟩
 ·have Nf:k<s.fN.length:=(bo.1 hk).1;have SH:=h.iD;have SJ:=h.jv;obtain⟨cb,P4⟩:∃cb,jf[k]? =some cb:=⟨_,ap (by omega)⟩;obtain⟨sr,Ri⟩:∃sr,ke[k]? =some sr:=⟨_,ap (by omega)⟩;rw[hf]at oO;have OJ:ld jf (some k)=Pt cb:=by simp[ld,List.getD,P4]
  rw[OJ]at oO;have Ka:=fK oO;have Pk:lO s fZ=(yk c,0):=by unfold lO;rw[hf];simp only;rw[hk]
  rw[Pk];have yh:=bS hk;have RV:=hI.ok c yh;have MD:=hI.inv c yh;have RZ:=RV.lu;have Hm:∀x∈c.fM,(x.bytes.length:Int)<=1073741823:=fun x hx=>by have q1:=(MD.str x hx).len;have q2:=(MD.str x hx).rn;have q3:=(MD.str x hx).read;omega
  obtain⟨xf,rv,rT,hv⟩:=(h0.iq k c cb sr hk P4 Ri).view;have KZ:cb<w.heap.size:=by obtain⟨_,_,q⟩:=(h.iq k c cb sr hk P4 Ri).cb;exact(Array.getElem?_eq_some_iff.1 q).1
  have E0:∀W:aK,(binOp .eql 244 (Pt cb) (ag none)).run ab W=.ok (.bool false) W:=fun W=>by first|exact run_eql_pointer_nil W 244 (some (Ad cb 0)) nB|kernel_rfl
  have J_:=fK Hl;have HV:=fK hv;have Nr:=fK Hm;unfold yk;obtain⟨B,hB⟩:∃B,qx c.fM=B:=⟨_,rfl⟩;rw[hB];have R6:=fK hB;clear hB;generalize RO:(w.alloc (.cells #[.bool false,II 0,II 0,II 0,II 0,II 0] 34))=w0 at *
  have R9:=fK RO;have c2:w0.cell? (Ad cb 2)=some (.bool c.fY):=hv.cell 2;have c3:w0.cell? (Ad cb 3)=some (II c.gR):=hv.cell 3;have c4:w0.cell? (Ad cb 4)=some (II c.gS):=hv.cell 4;have c8:w0.cell? (Ad cb 8)=some (II c.fS):=hv.cell 8;have c9:w0.cell? (Ad cb 9)=some (ai (some (Ad sr 0)) c.fM.length xf):=hv.cell 9;clear h h0 hI hf hk P4 Ri OJ Pk yh RV MD hv Hm lb oO RO Hl;go_enter func123,ntmps123;go_wp2_with fail;rw[R9.out];refine Ka.out.mono ?_;rintro e w1 ⟨rfl,rfl⟩;clear Ka;go_wp2_with fail;go_loop [7,8] (fun n i=>∃k:Nat,k<=c.fM.length/\i=II k/\n=II (qx (c.fM.take k))) (fun _ i=>c.fM.length-(intOf i).toNat);case atStart=>exact⟨0,Nat.zero_le _,rfl,rfl⟩
  case round=>
   obtain⟨k,hk,rfl,rfl⟩:=hrel;have RX:0<=qx (c.fM.take k)/\qx (c.fM.take k)<=1152921504606846976:=by have h1:=Fj (y0:=c.fM.take k) (c:=1073741823) (fun s hs=>Nr.out s (List.mem_of_mem_take hs));have h2:(c.fM.take k).length<=k:=List.length_take_le _ _;omega
   by_cases ME:k<c.fM.length
   ·obtain⟨x,hx⟩:∃x,c.fM[k]? =some x:=⟨_,ap ME⟩;obtain⟨bv,QT⟩:∃bv,rT[k]? =some bv:=⟨_,ap (by rw[HV.out.len];exact ME)⟩;have Tp:w0.cell? (Ad sr (k*7))=some bv:=HV.out.str k x bv hx QT 0 (by decide);have Tt:=Nr.out x (bS hx);obtain⟨ao,cap,rfl,hp,_⟩:=HV.out.bytes k x bv hx QT;have HP:=fK hp;have HU:Hid (qx (c.fM.take (k+1))=qx (c.fM.take k)+lM x.bytes):=by show _=_;rw[pA hx,H8]
    clear hx QT hp;generalize qx (c.fM.take k)=u at HU RX⊢;obtain⟨Tr,Ts⟩:=RX;go_wp2_with fail;go_loop [7,9] (fun n i=>∃j:Nat,j<=x.bytes.length/\i=II j/\n=II (u+(lM (x.bytes.take j):Nat))) (fun _ i=>x.bytes.length-(intOf i).toNat);case atStart=>exact⟨0,Nat.zero_le _,rfl,by simp[lM]⟩
    case round=>
     obtain⟨j,hj,rfl,rfl⟩:=hrel;have SE:lM (x.bytes.take j)<=j:=Nat.le_trans ez (List.length_take_le _ _);by_cases RU:j<x.bytes.length
     ·obtain⟨y,hy⟩:∃y,x.bytes[j]? =some y:=⟨_,ap RU⟩;obtain⟨bb,off,cur,fr,rfl,hh,Nc⟩:=HP.out (by omega);have Hn:w0.cell? (Ad bb (off+j))=some (II y):=by have:=Nc j (by simpa[hP] using RU);simp only[hP,List.getElem?_map,hy,Option.map_some]at this;simp[aD,hh,this]
      have HF:Hid (lM (x.bytes.take (j+1))=lM (x.bytes.take j)+if 0<=y then 1 else 0):=by show _=_;rw[pA hy,FG]
      clear Nc hh hy;generalize lM (x.bytes.take j)=q at HF SE⊢;by_cases P9:0<=y
      ·go_wp2_with fail;go_round;case rel=>exact⟨j+1,by omega,by go_num,by rw[HF.out,if_pos P9];go_num⟩
       case measure=>simp[intOf];omega
      ·go_wp2_with fail;go_round;case rel=>exact⟨j+1,by omega,by go_num,by rw[HF.out,if_neg P9];rfl⟩
       case measure=>simp[intOf];omega
     ·obtain rfl:j=x.bytes.length:=by omega
      go_wp2_with fail;go_round;case rel=>exact⟨k+1,by omega,by go_num,by rw[HU.out,List.take_length]⟩
      case measure=>simp[intOf];omega
   ·obtain rfl:k=c.fM.length:=by omega
    rw[List.take_length,R6.out];have x0:w0.heap[w.heap.size]? =_:=HX.out;have x1:(w0.setCell (gf w 0) (.bool c.fY)).drew.heap[w.heap.size]? =_:=fT x0 _ _;have x2:=fT x1 1 (II c.gR);have x3:=fT x2 2 (II c.gS);have x4:=fT x3 3 (II c.fS);have x5:=fT x4 4 (II (c.fM.length:Int));have x6:=fT x5 5 (II B);have OH:w0.cell? (gf w 0)=some (.bool false)/\w0.frozen? (gf w 0)=false/\(w0.setCell (gf w 0) (.bool c.fY)).drew.cell? (gf w 1)=some (II 0)/\(w0.setCell (gf w 0) (.bool c.fY)).drew.frozen? (gf w 1)=false/\((w0.setCell (gf w 0) (.bool c.fY)).drew.setCell (gf w 1) (II c.gR)).cell? (gf w 2)=some (II 0)/\((w0.setCell (gf w 0) (.bool c.fY)).drew.setCell (gf w 1) (II c.gR)).frozen? (gf w 2)=false/\(((w0.setCell (gf w 0) (.bool c.fY)).drew.setCell (gf w 1) (II c.gR)).setCell (gf w 2) (II c.gS)).cell? (gf w 3)=some (II 0)/\(((w0.setCell (gf w 0) (.bool c.fY)).drew.setCell (gf w 1) (II c.gR)).setCell (gf w 2) (II c.gS)).frozen? (gf w 3)=false/\((((w0.setCell (gf w 0) (.bool c.fY)).drew.setCell (gf w 1) (II c.gR)).setCell (gf w 2) (II c.gS)).setCell (gf w 3) (II c.fS)).cell? (gf w 4)=some (II 0)/\((((w0.setCell (gf w 0) (.bool c.fY)).drew.setCell (gf w 1) (II c.gR)).setCell (gf w 2) (II c.gS)).setCell (gf w 3) (II c.fS)).frozen? (gf w 4)=false/\(((((w0.setCell (gf w 0) (.bool c.fY)).drew.setCell (gf w 1) (II c.gR)).setCell (gf w 2) (II c.gS)).setCell (gf w 3) (II c.fS)).setCell (gf w 4) (II (c.fM.length:Int))).cell? (gf w 5)=some (II 0)/\(((((w0.setCell (gf w 0) (.bool c.fY)).drew.setCell (gf w 1) (II c.gR)).setCell (gf w 2) (II c.gS)).setCell (gf w 3) (II c.fS)).setCell (gf w 4) (II (c.fM.length:Int))).frozen? (gf w 5)=false/\((((((w0.setCell (gf w 0) (.bool c.fY)).drew.setCell (gf w 1) (II c.gR)).setCell (gf w 2) (II c.gS)).setCell (gf w 3) (II c.fS)).setCell (gf w 4) (II (c.fM.length:Int))).setCell (gf w 5) (II B)).heap[w.heap.size]? =some (.cells #[.bool c.fY,II c.gR,II c.gS,II c.fS,II (c.fM.length:Int),II B] 34 (0,0)):=⟨by simp only[aD,x0];rfl,cx _ _ _ _ _ x0,by simp only[aD,x1];rfl,cx _ _ _ _ _ x1,by simp only[aD,x2];rfl,cx _ _ _ _ _ x2,by simp only[aD,x3];rfl,cx _ _ _ _ _ x3,by simp only[aD,x4];rfl,cx _ _ _ _ _ x4,by simp only[aD,x5];rfl,cx _ _ _ _ _ x5,x6⟩;clear x0 x1 x2 x3 x4 x5 x6;have Md:=fK OH;clear OH;have J6:cb≠w.heap.size:=by omega
    have RS:∀(u0 u1 u2 u3 u4 u5:Value) (q:Nat),((((((w0.setCell (gf w 0) (u0)).setCell (gf w 1) (u1)).setCell (gf w 2) (u2)).setCell (gf w 3) (u3)).setCell (gf w 4) (u4)).setCell (gf w 5) (u5)).drew.cell? (Ad cb q)=w0.cell? (Ad cb q):=by intro u0 u1 u2 u3 u4 u5 q;rw[Fo];simp only[aD];rw[cy _ _ _ _ J6,cy _ _ _ _ J6,cy _ _ _ _ J6,cy _ _ _ _ J6,cy _ _ _ _ J6,cy _ _ _ _ J6]
    have RE:Hid (∀(u0 u1 u2 u3 u4 u5:Value),((((((w0.setCell (gf w 0) (u0)).setCell (gf w 1) (u1)).setCell (gf w 2) (u2)).setCell (gf w 3) (u3)).setCell (gf w 4) (u4)).setCell (gf w 5) (u5)).drew.cell? (Ad cb 2)=some (.bool c.fY)/\((((((w0.setCell (gf w 0) (u0)).setCell (gf w 1) (u1)).setCell (gf w 2) (u2)).setCell (gf w 3) (u3)).setCell (gf w 4) (u4)).setCell (gf w 5) (u5)).drew.cell? (Ad cb 3)=some (II c.gR)/\((((((w0.setCell (gf w 0) (u0)).setCell (gf w 1) (u1)).setCell (gf w 2) (u2)).setCell (gf w 3) (u3)).setCell (gf w 4) (u4)).setCell (gf w 5) (u5)).drew.cell? (Ad cb 4)=some (II c.gS)/\((((((w0.setCell (gf w 0) (u0)).setCell (gf w 1) (u1)).setCell (gf w 2) (u2)).setCell (gf w 3) (u3)).setCell (gf w 4) (u4)).setCell (gf w 5) (u5)).drew.cell? (Ad cb 8)=some (II c.fS)/\((((((w0.setCell (gf w 0) (u0)).setCell (gf w 1) (u1)).setCell (gf w 2) (u2)).setCell (gf w 3) (u3)).setCell (gf w 4) (u4)).setCell (gf w 5) (u5)).drew.cell? (Ad cb 9)=some (ai (some (Ad sr 0)) c.fM.length xf)):=by intro u0 u1 u2 u3 u4 u5;simp only[RS];exact⟨c2,c3,c4,c8,c9⟩
    clear RS;have y0:w0.heap[w.heap.size]? =_:=HX.out;have y1:=fT y0 0 (.bool c.fY);have y2:=fT y1 1 (II c.gR);have y3:=fT y2 2 (II c.gS);have y4:=fT y3 3 (II c.fS);have y5:=fT y4 4 (II (c.fM.length:Int));have y6:=fT y5 5 (II B);have R7:Hid (((((((w0.setCell (gf w 0) (.bool c.fY)).setCell (gf w 1) (II c.gR)).setCell (gf w 2) (II c.gS)).setCell (gf w 3) (II c.fS)).setCell (gf w 4) (II (c.fM.length:Int))).setCell (gf w 5) (II B)).drew.heap[w.heap.size]? =some (.cells #[.bool c.fY,II c.gR,II c.gS,II c.fS,II (c.fM.length:Int),II B] 34 (0,0))):=by refine fK ?_;rw[heap_drew];exact y6
    clear y0 y1 y2 y3 y4 y5 y6;have Sr:w0.drew.cell? (Ad cb 2)=some (.bool c.fY)/\w0.drew.cell? (Ad cb 3)=some (II c.gR)/\w0.drew.cell? (Ad cb 4)=some (II c.gS)/\w0.drew.cell? (Ad cb 8)=some (II c.fS)/\w0.drew.cell? (Ad cb 9)=some (ai (some (Ad sr 0)) c.fM.length xf):=⟨c2,c3,c4,c8,c9⟩;go_wp2_with fail;go_region_held3 (fun w'=>w'.cell? (Ad cb 2)=some (.bool c.fY)/\w'.cell? (Ad cb 3)=some (II c.gR)/\w'.cell? (Ad cb 4)=some (II c.gS)/\w'.cell? (Ad cb 8)=some (II c.fS)/\w'.cell? (Ad cb 9)=some (ai (some (Ad sr 0)) c.fM.length xf)) (first|with_reducible assumption|with_reducible exact RE.out _ _ _ _ _ _) (first
     |(refine Hx ?_;obtain⟨e0,f0,e1,f1,e2,f2,e3,f3,e4,f4,e5,f5,FP⟩:=Md.out;simp only[e0,f0,e1,f1,e2,f2,e3,f3,e4,f4,e5,f5,Result.andThen_ok,Bool.false_eq_true,if_false];refine Bf ?_))
    clear FP e0 f0 e1 f1 e2 f2 e3 f3 e4 f4 e5 f5 RE Sr c2 c3 c4 c8 c9;go_wp2_with fail;refine bodyPost_ret (ip (y5:=ab) Tryz.results123 w.heap.size _ #[.bool c.fY,II c.gR,II c.gS,II c.fS,II (c.fM.length:Int),II B] (0,0) _ (II 0) (by kernel_rfl) (by kernel_rfl) R7.out underlying34 rfl (by kernel_rfl)) rfl ?_;exact⟨rfl,fQ ((((((J_.out.setCell (ar _) _).setCell (ar _) _).setCell (ar _) _).setCell (ar _) _).setCell (ar _) _).setCell (ar _) _) _⟩
end Go.Proofs.YthmdjhlhodpbhaaGreatDoor
