import Derived.Test.YthmdjhlhodpbhaaGreatDoorM14
set_option maxHeartbeats 16000000
set_option maxRecDepth 8000
set_option linter.all false
namespace Go.Proofs.YthmdjhlhodpbhaaGreatDoor
open Go.RowKit Go.ChangeAt Go.ChangeShapes Go.Deep Go.WideShapes
open _root_.List renaming getElem?_eq_getElem → ap, getElem?_set_ne → eB, getElem?_set_self → eC, getElem?_eq_some_iff → bo, getElem?_append_right → bN, mem_of_getElem? → bS, getElem?_append_left → aZ, replicate_append_replicate → eD, replicate → aT, drop_eq_nil_of_le → dy, set_append_right → bd, range → dp, getElem?_of_mem → eF, drop → a_, mem_map → df
open _root_.Array renaming getElem?_eq_some_iff → bn
open _root_.Or renaming inr → bf, inl → bg
open _root_.Nat renaming le_trans → bZ, le_refl → ar, zero_le → be, lt_of_lt_of_le → ca, add_sub_cancel_left → cc, lt_or_ge → ay
open Go.World renaming cell? → aD, ownsRow_nil → ak, cell?_of_block → cn, size_alloc → az
open Go.Value renaming ownBlock → aq, slice → aJ, oneCell' → bM
open Go.DataW renaming trod → aX
open _root_.Int renaming emod_nonneg → eE
open Go.Result renaming andThen → au
open _root_.Go renaming Value → aM, World → aK, Calls → aL, maxLen → aO, TypeId → bG, info_parts → aP
open Go.RowKit renaming intOf → aQ
open _root_.Go.Proofs.Tryz
open _root_.Go.Proofs.Tryz renaming prog → ab
open Go.Value renaming int → ae, slice → ai, pointer → ag
open Go.IntKind renaming i64 → af
attribute [local simp] CV CI Bw mc lq io
variable {a d f n base k m i A cap z7 bw N':Nat}{b w z5 w':World}{e q h M v K w9 lv vb vs j v6 C:Value}{o y w0 qn mr t4:List Value}{c g L l u c0 c1 H I J z9 z8 y7 y6 G x5 x4 x v1 M' L':Int}{t:List (Int×List Int)}{p:gg}{s:g_}{D:Array Value}{x3:Nat×Nat}{z:TypeId}{v3:List (Int×Value)}{v2:Ending}{y1:Act}{y3:Addr}{Q xs:List gw}{w4 v5:List Nat}
theorem nJ{B:List (Int×aM)}{b:Int×aM}(c:B[i]? =some b):(gj B)[i*2]? =some (II b.1)/\(gj B)[i*2+1]? =some b.2:=by
 induction B generalizing i with
 |nil=>simp at c
 |cons a r e=>
  have d:gj (a::r)=[II a.1,a.2]++gj r:=by simp[gj]
  cases i with
  |zero=>grind
  |succ i=>grind
theorem s_(k l:List (Int×aM))(f:List (Int×List Int))(G H:Nat)(b:aK)(v:b.ownsRow G 60 2 e k.length (gj k))(t:nx b G k f)(w:b.ownsRow H 60 2 h l.length (gj l))(u:nx b H l f)(c6:f.length<=1000):
  aL ab 118 #[e,h] b fun a5 b0=>a5=.returned (.bool true)/\∃a9,b0=b.drewN a9:=by
 have x:=t.1;have y:=u.1;obtain⟨b2,b4,rfl⟩:=gr v;obtain⟨b3,cb,rfl⟩:=gr w;have p:=fK v;have q:=fK w;have Y:=fK t;have Z:=fK u;have j:Hid (k.length=f.length/\l.length=f.length):=⟨x,y⟩;rw[x,y];generalize O:f.length=o at *
 have a0:=fK O;clear v w t u x y O;go_enter func118,ntmps118;go_wp2_with fail;go_loopw [5] (fun i b1=>∃a c:Nat,a<=o/\i=II a/\b1=b.drewN c) (fun i _=>o-(aQ i).toNat);case atStart=>exact⟨0,0,be _,rfl,by simp[World.drewN]⟩
 case round=>
  obtain⟨a,c,c3,rfl,rfl⟩:=hrel;by_cases z:a<o
  ·obtain⟨d,A⟩:∃d,f[a]? =some d:=⟨_,ap (by rw[a0.out];exact z)⟩;obtain⟨m,B⟩:∃m,k[a]? =some m:=⟨_,ap (by rw[j.out.1];exact z)⟩;obtain⟨n,C⟩:∃n,l[a]? =some n:=⟨_,ap (by rw[j.out.2];exact z)⟩;obtain⟨K,D⟩:=Y.out.2 a m d B A;obtain⟨L,E⟩:=Z.out.2 a n d C A;obtain⟨U,V⟩:=nJ B;obtain⟨W,X⟩:=nJ C;obtain⟨_,⟨_,s⟩|⟨M,b5,b7,I,_,a6,b9,_⟩⟩:=id p.out
   ·rw[j.out.1]at s;omega
   obtain⟨_,⟨_,s⟩|⟨N,b6,b8,J,_,a7,c2,_⟩⟩:=id q.out
   ·rw[j.out.2]at s;omega
   simp only[Value.slice.injEq]at I J;obtain⟨rfl,_,rfl⟩:=I;obtain⟨rfl,_,rfl⟩:=J;have c4:=j.out.1;have c5:=j.out.2;have c1:(b.drewN c).cell? (Ad M (a*2))=some (II d.1):=by have:=p.out.cellAt (a*2) (by omega);rw[U,K]at this;exact this
   have a2:(b.drewN c).cell? (Ad M (a*2+1))=some m.2:=by have:=p.out.cellAt (a*2+1) (by omega);rw[V]at this;exact this
   have a3:(b.drewN c).cell? (Ad N (a*2))=some (II d.1):=by have:=q.out.cellAt (a*2) (by omega);rw[W,L]at this;exact this
   have a4:(b.drewN c).cell? (Ad N (a*2+1))=some n.2:=by have:=q.out.cellAt (a*2+1) (by omega);rw[X]at this;exact this
   have S:∀g,(convert 44 9 m.2).run ab ((b.drewN c).drewN g)=.ok (.string (strOfNums d.2)) ((b.drewN c).drewN g):=fun g=>ot (gp D (fQ (fQ (Below.refl _ _) _) _));have T:∀g,(convert 44 9 n.2).run ab ((b.drewN c).drewN g)=.ok (.string (strOfNums d.2)) ((b.drewN c).drewN g):=fun g=>ot (gp E (fQ (fQ (Below.refl _ _) _) _));obtain⟨c9,d0,Q⟩:=gB D;obtain⟨d1,d2,R⟩:=gB E;rw[Q]at a2 S;rw[R]at a4 T;generalize strOfNums d.2=d3 at S T;generalize d.1=c8 at c1 a3;generalize a8:d.2.length=c7 at *
   clear B C A D E U V W X a6 a7 Q R K L a8;generalize P:b.drewN c=d4 at *
   have a1:=fK P;clear P;go_wp2_with fail;go_quiet (fail);go_wp2_with fail;go_roundw;case rel=>exact⟨a+1,c+nq,by omega,by go_num,by rw[<-a1.out];simp[World.drewN,Nat.add_assoc]⟩
   case measure=>simp[aQ];omega
  ·obtain rfl:a=o:=by omega
   go_wp2_with fail;go_ret;exact⟨rfl,c,rfl⟩
def lc(k:Nat):Int:=-1000-(k:Int)/4
def gL(n k:Nat):List (Int×aM):=aT n (lc k,ai none 0 0)
def q'(w:aK)(base:Nat)(u:aM)(i:Nat):Prop:=∃n,0<n/\n<=1100000003/\Row w base 5 u n (.int .u8 (rN i))
def tH(w:aK)(base:Nat)(u:aM)(i:Nat):Prop:=∃n,0<n/\n<=1003/\w.ownsRow base 60 2 u n (gj (gL n i))
structure WL(w:aK)(base bw:Nat)(lv vb vs:aM)(k m:Nat)(qn mr:List aM):Prop where
 gK:w.heap[bw]? =some (.cells #[lv,vb,vs] 85 (0,0))
 k4:k%4=0
 m4:m%4=0
 oT:w.ownsRow base 44 1 vb k qn
 sO:w.ownsRow base 47 1 vs m mr
 Fi:∀(i:Nat) u,qn[i]? =some u->(∃a c,u=.slice a 0 c)\/q' w base u i
 GS:∀(i:Nat) u,mr[i]? =some u->(∃a c,u=.slice a 0 c)\/tH w base u i
theorem WL.gx{F:Nat->Prop}(h:WL w base bw lv vb vs k m qn mr)(hc:gm F w w')(h1:¬F bw)(h2:∀g,vb.ownBlock=some g->¬F g)(h3:∀g,vs.ownBlock=some g->¬F g)(h4:∀(i:Nat) u g,qn[i]? =some u->q' w base u i->u.ownBlock=some g->¬F g)(h5:∀(i:Nat) u g,mr[i]? =some u->tH w base u i->u.ownBlock=some g->¬F g):WL w' base bw lv vb vs k m qn mr where
 gK:=by rw[hc.block bw (bn.1 h.gK).1 h1];exact h.gK
 k4:=h.k4
 m4:=h.m4
 oT:=gM h.oT hc h2
 sO:=gM h.sO hc h3
 Fi:=fun i u hu=>by
  rcases h.Fi i u hu with h0|h0
  ·exact bg h0
  ·obtain⟨n,h6,h7,hr⟩:=id h0;exact bf ⟨n,h6,h7,gM hr hc (fun g hg=>h4 i u g hu h0 hg)⟩
 GS:=fun i u hu=>by
  rcases h.GS i u hu with h0|h0
  ·exact bg h0
  ·obtain⟨n,h6,h7,hr⟩:=id h0;exact bf ⟨n,h6,h7,gM hr hc (fun g hg=>h5 i u g hu h0 hg)⟩
theorem WL.typed{F:Nat->Prop}{p:aM}(h:WL w base a e p q k m o y)(v:gm F w b)(u:∀n s c t,w.heap[n]? =some (.cells s c t)->c=85\/c=44\/c=47\/c=5\/c=60->¬F n):WL b base a e p q k m o y:=by
 refine h.gx v (u _ _ _ _ h.gK (by simp)) (fun g d=>?_) (fun g d=>?_) (fun i A g x j d=>?_) (fun i A g x j d=>?_)
 ·obtain⟨f,c⟩:=fX h.oT d;grind
 ·obtain⟨f,c⟩:=fX h.sO d;grind
 ·obtain⟨z,_,_,l⟩:=j;obtain⟨f,c⟩:=fX l d;grind
 ·obtain⟨z,_,_,l⟩:=j;obtain⟨f,c⟩:=fX l d;grind
theorem WL.below{c:aM}(h:WL w base a e c q k m o y)(d:Bw w b):WL b base a e c q k m o y:=h.typed (F:=fun _=>False) (gm.fU d) (fun _ _ _ _ _ _ h=>h)
def wV(w:aK)(v u:aM):Prop:=u.ownBlock=v.ownBlock\/∀g,u.ownBlock=some g->w.heap.size<=g
section
variable {P:Program}
theorem mL{b:aK}{x8:Array Oper}{rest:List Oper}{y2:Oper}{y1:Act}{z1:Exit->Act->aK->Prop}(R:y2.guard=none)(I J:Operand)(k:bG)
  (S:y2.op=.call {callee:=.builtin .append,args:=#[I,J],argTypes:=#[k,k]})
  (j:Nat) (c:bG) (i:TypeInfo) (o:aM) (n:Nat) (B:P.underlying k=some (.slice c)) (hi:P.info? c=some i) (D:i.zero=some o)
  (A:i.size=1) (v:i.bytes=n) (E:o.cells.size=1) (a:aM) (C:a.oneCell'=true) (g:aM) (e:Nat) (T:y1.eval I=g) (y:Row b j c g e a)
  (m:Addr) (d p:Nat) (V:y1.eval J=ai (some m) d p) (x:∀(G:Nat) f,(aT d a)[G]? =some f->b.cell? (m.add G)=some f) (t:e+d<=aO) (w:(e+d)*n<=140737488355328) (u:j<=b.heap.size)
  (K:∀l h,Row h j c l (e+d) a->b.grownBy h g.ownBlock->((∀s f H,Row b s c f H a->Row h s c f H a)/\wV b g l)->wpList P x8 z1 rest (y1.put y2.dst l) h):wpList P x8 z1 (y2::rest) y1 b:=by
 refine wpList_plain R fun W Q=>?_;obtain⟨l,h,z,L,M,N⟩:=xd (P:=P) b j k y2.type c i o n B hi D A v E a C g e y m d p x t w u;obtain⟨X,Y,q,_,_,O⟩:=jR (P:=P) b j k y2.type c i o 1 n B hi D A v E (by decide) g e (aT e a) y m d p (aT d a) (by simp) x (fun f U=>by rw[List.eq_of_mem_replicate U];exact C) t w u;rw[z]at q;simp only[Result.ok.injEq]at q;obtain⟨rfl,rfl⟩:=q;unfold Oper.wp;simp[execOp,S,resolve,invoke,builtin,T,V,z,au];exact Q _ _ (K l h L M ⟨N,O⟩)
theorem od{b:aK}{x8:Array Oper}{rest:List Oper}{y2:Oper}{y1:Act}{z1:Exit->Act->aK->Prop}(G:y2.guard=none)(t u:Operand)(k:bG)
  (J:y2.op=.call {callee:=.builtin .append,args:=#[t,u],argTypes:=#[k,k]})
  (j:Nat) (d:bG) (i:TypeInfo) (p:aM) (a n:Nat) (Q:P.underlying k=some (.slice d)) (hi:P.info? d=some i) (S:i.zero=some p)
  (N:i.size=a) (D:i.bytes=n) (T:p.cells.size=a) (O:0<a) (f:aM) (e:Nat) (o:List aM) (M:y1.eval t=f) (K:b.ownsRow j d a f e o)
  (m:Addr) (c q:Nat) (news:List aM) (R:y1.eval u=ai (some m) c q) (H:news.length=c*a) (I:∀s l,news[s]? =some l->b.cell? (m.add s)=some l) (w:∀l∈news,l.oneCell'=true)
  (A:e+c<=aO) (E:(e+c)*n<=140737488355328) (C:j<=b.heap.size)
  (v:∀g h,h.ownsRow j d a g (e+c) (o++news)->b.grownBy h f.ownBlock->wV b f g->wpList P x8 z1 rest (y1.put y2.dst g) h):wpList P x8 z1 (y2::rest) y1 b:=by
 refine wpList_plain G fun U B=>?_;obtain⟨g,h,L,x,y,z⟩:=jR (P:=P) b j k y2.type d i p a n Q hi S N D T O f e o K m c q news H I w A E C;unfold Oper.wp;simp[execOp,J,resolve,invoke,builtin,M,R,L,au];exact B _ _ (v g h x y z)
end
theorem wV.of(h:wV b v e)(d:w.heap.size<=b.heap.size):wV w v e:=h.imp id fun h a c=>bZ d (h a c)
theorem Bz{L N:aM}(t:WL b a d e h q f n o y)(J:rN f=c)(b4:A<=1100000000)(H:b.grownBy w M.ownBlock)(b5:∀u,M.ownBlock=some u->∃l,b.heap[u]? =some (.cells l 5 (0,0)))(vJ:∀(i:Nat) m u,o[i]? =some m->q' b a m i->M.ownBlock=some u->m.ownBlock≠some u)
  (W:Row w a 5 v6 A (.int .u8 c)) (a1:Row w a 5 K (A+1) (.int .u8 c)) (a2:Row w a 5 L (A+2) (.int .u8 c)) (a3:Row w a 5 N (A+3) (.int .u8 c))
  (b0:z5.ownsRow a 44 1 w9 (f+4) (o++[v6,K,L,N])) (a7:(w.alloc (.cells #[v6,K,L,N] 44)).grownBy z5 h.ownBlock):
  z5.heap[d]? =some (.cells #[e,h,q] 85 (0,0))/\WL (z5.setCell (Ad d 1) w9) a d e w9 q (f+4) n (o++[v6,K,L,N]) y/\gm (fun g=>g=d\/h.ownBlock=some g\/M.ownBlock=some g) b (z5.setCell (Ad d 1) w9):=by
 have Z:gm (fun g=>M.ownBlock=some g) b w:=⟨H.os,H.tape,H.output,H.size,fun g s B=>H.block g s (fun k=>B k.symm)⟩;have a9:∀g l k p,b.heap[g]? =some (.cells l k p)->k≠5->¬M.ownBlock=some g:=by grind
 have D:WL w a d e h q f n o y:=by
  refine t.gx Z (a9 _ _ _ _ t.gK (by decide)) (fun u z=>?_) (fun u z=>?_) (fun i m u j v z R=>vJ i m u j v R z) (fun i m u j v z=>?_)
  ·obtain⟨U,k⟩:=fX t.oT z;grind
  ·obtain⟨U,k⟩:=fX t.sO z;grind
  ·obtain⟨x,_,_,C⟩:=v;obtain⟨U,k⟩:=fX C z;grind
 have I:w.grownBy z5 h.ownBlock:=ga a7;have O:gm (fun g=>h.ownBlock=some g) w z5:=⟨I.os,I.tape,I.output,I.size,fun g s B=>I.block g s (fun k=>B k.symm)⟩;have Y:∀g l k p,w.heap[g]? =some (.cells l k p)->k≠44->¬h.ownBlock=some g:=fun g l k p s a4 R=>fR D.oT s (fun V=>a4 V.symm) R;have X:z5.heap[d]? =some (.cells #[e,h,q] 85 (0,0)):=by rw[O.block d (bn.1 D.gK).1 (Y _ _ _ _ D.gK (by decide))];exact D.gK
 have P:gm (· = d) z5 (z5.setCell (Ad d 1) w9):=go (Below.refl _ _) _ _;have a0:∀g l k p,z5.heap[g]? =some (.cells l k p)->k≠85->¬g=d:=by grind
 have E:∀{m:aM} {x T:Nat} {k:bG} {S:List aM},w.ownsRow a k T m x S->k≠44->k≠85->(z5.setCell (Ad d 1) w9).ownsRow a k T m x S:=by intro m x T k S C a5 a6;have b2:=gI C O (fun g l p s=>Y g l _ p s a5);exact gI b2 P (fun g l p s=>a0 g l _ p s a6)
 have b1:o.length=f:=by simpa using t.oT.1
 refine⟨X,⟨?_,by have:=t.k4;omega,t.m4,gI b0 P (fun g l p s=>a0 g l _ p s (by decide)),E D.sO (by decide) (by decide),fun i m j=>?_,fun i m j=>?_⟩,?_⟩
 ·rw[fT X _ _];rfl
 ·rcases ay i f with a8|a8
  ·rw[aZ (by omega)]at j;rcases D.Fi i m j with v|⟨x,Q,B,C⟩
   ·exact bg v
   ·exact bf ⟨x,Q,B,E C (by decide) (by decide)⟩
  ·rw[bN (by omega),b1]at j;obtain⟨g,rfl⟩:∃g,i=f+g:=⟨i-f,by omega⟩;rw[cc]at j;match g,j with
   |0,j=>
    simp at j;subst j;rcases Nat.eq_zero_or_pos A with v|v
    ·obtain⟨b3,c1,V⟩:=gB W;grind
    ·exact bf ⟨A,v,by omega,by rw[rx t.k4 (by decide),J];exact E W (by decide) (by decide)⟩
   |1,j=>simp at j;subst j;exact bf ⟨A+1,by omega,by omega,by rw[rx t.k4 (by decide),J];exact E a1 (by decide) (by decide)⟩
   |2,j=>simp at j;subst j;exact bf ⟨A+2,by omega,by omega,by rw[rx t.k4 (by decide),J];exact E a2 (by decide) (by decide)⟩
   |3,j=>simp at j;subst j;exact bf ⟨A+3,by omega,by omega,by rw[rx t.k4 (by decide),J];exact E a3 (by decide) (by decide)⟩
   |g+4,j=>simp at j
 ·rcases D.GS i m j with v|⟨x,Q,B,C⟩
  ·exact bg v
  ·exact bf ⟨x,Q,B,E C (by decide) (by decide)⟩
 ·exact((Z.mono fun g _ G=>bf (bf G)).trans (O.mono fun g _ G=>bf (bg G))).trans (P.mono fun g _ G=>bg G)
theorem rk(e b c c2 g:Nat)(S V W q:aM)(U c4 x:List aM)(d:aK)(j:WL d e b S V W c c2 U c4)(t:e<=d.heap.size)(l:d.ownsRow e 5 1 q g x)(vJ:∀(i:Nat) h m,U[i]? =some h->q' d e h i->q.ownBlock=some m->h.ownBlock≠some m)(f0:g<=1100000000)(h7:c<=5000000000000):
  aL ab 111 #[Pt b,q] d fun z c6=>z=.returned (.tuple #[])/\(∃c5 c3,WL c6 e b S c5 W (c+4) c2 (U++c3) c4/\(∀h∈c3,wV d q h)/\wV d V c5)/\gm (fun T=>T=b\/V.ownBlock=some T\/q.ownBlock=some T) d c6:=by
 obtain⟨R,hi,Q,o,p⟩:=aP lE;obtain⟨g1,e7,f7,f8,f9⟩:=aP FX;obtain⟨s,cb,f4⟩:=gB j.oT;subst f4;obtain⟨a2,cap,f5⟩:=gB l;subst f5;have e8:x.length=g:=by simpa using l.1
 have e3:b<d.heap.size:=(bn.1 j.gK).1;have e5:CV d b 1 (.slice s c cb):=by simp[aD,j.gK]
 have a1:=fK l;have y:=fK j;have d4:=fK vJ;have f6:=DU (a:=c);have d5:Hid (rN c=101+(c:Int)/4%97):=rfl;have e2:=zx l j.gK (by decide);have e1:=Jd j.oT l (by decide);clear l j vJ;go_enter func111,ntmps111;go_wp2;rw[<-d5.out];generalize b9:rN c=Z at f6⊢;have d6:=fK b9;clear b9;go_loopw [5] (fun i wr=>∃a:Nat,a<=g/\i=II a/\wr.ownsRow e 5 1 (.slice a2 g cap) g (aT a (.int .u8 Z)++x.drop a)/\d.grownBy wr (aJ a2 g cap).ownBlock) (fun i _=>g-(aQ i).toNat);case atStart=>exact⟨0,be _,rfl,by simpa using a1.out,mf (Below.refl _ _)⟩
 case round=>
  obtain⟨a,h6,rfl,f,k⟩:=hrel;by_cases e9:a<g
  ·obtain⟨m,h0,a3,B,C,D⟩:=iC f (by omega);simp only[Value.slice.injEq]at a3;obtain⟨rfl,_,rfl⟩:=a3;have a6:∃h,wr.cell? (Ad m a)=some h:=by rw[f.cellAt a (by omega)];exact⟨_,ap (by have:=f.1;omega)⟩
   obtain⟨h,a6⟩:=a6;have h5:=f.frozenAt a;have a0:=fK (f.stored a (.int .u8 Z));have c7:=fK k;clear f k;go_wp2;go_roundw;case rel=>have a4:=a0.out.1;rw[JI e8 e9]at a4;exact⟨a+1,by omega,by go_num,a4,kq c7.out a0.out.2 (bg rfl)⟩
   case measure=>simp[aQ];omega
  ·obtain rfl:a=g:=by omega
   have a8:x.drop a=[]:=dy (by omega);rw[a8,List.append_nil]at f;have f1:e<=wr.heap.size:=bZ t k.size;have d7:=fK k.size;clear a8;have L:(Value.int .u8 Z).oneCell'=true:=rfl;go_wp2_with (at_builtin;refine mL rfl _ _ _ rfl _ _ R _ _ underlying44 hi Q o p rfl _ L _ _ rfl (f.alloc _) _ _ _ rfl (gY (by simp[aO])) (by unfold aO;omega) (by omega) (by simp;omega) ?_;intro i0 g2 N B G;refine Hid.out ?_);refine fK ?_;have b1:=G.1;have d0:=fK G.2;clear G;have J:=b1 _ _ _ (f.alloc _);have u:=kq k (ga B) (bg rfl);have f2:e<=g2.heap.size:=bZ t u.size;have d8:=fK u.size;obtain⟨g5,g9,rfl⟩:=gB N;clear f B b1 f1 k;go_wp2_with (at_builtin;refine mL rfl _ _ _ rfl _ _ R _ _ underlying44 hi Q o p rfl _ L _ _ rfl (J.alloc _) _ _ _ rfl (gY (by simp[aO])) (by unfold aO;omega) (by omega) (by simp;omega) ?_;intro i1 g3 O C H;refine Hid.out ?_);refine fK ?_;have E:=H.1;have d1:=fK H.2;clear H;have K:=E _ _ _ (J.alloc _);have b4:=E _ _ _ (N.alloc _);have v:=kq u (ga C) (bg rfl);have f3:e<=g3.heap.size:=bZ t v.size;have d9:=fK v.size;obtain⟨g6,h1,rfl⟩:=gB O;clear J C E f2 N u;go_wp2_with (at_builtin;refine mL rfl _ _ _ rfl _ _ R _ _ underlying44 hi Q o p rfl _ L _ _ rfl (K.alloc _) _ _ _ rfl (gY (by simp[aO])) (by unfold aO;omega) (by omega) (by simp;omega) ?_;intro i2 X P D I;refine Hid.out ?_);refine fK ?_;have w:=I.1;have d2:=fK I.2;clear I;have b2:=w _ _ _ (K.alloc _);have b5:=w _ _ _ (b4.alloc _);have b6:=w _ _ _ (O.alloc _);have n:=kq v (ga D) (bg rfl);have h8:e<=X.heap.size:=bZ t n.size;have e0:=fK n.size;obtain⟨g7,h2,rfl⟩:=gB P;clear K D w f3 b4 O v;have b8:=World.ownsRow.kept y.out.oT n e1;have a5:X.heap[b]? =some (.cells #[S,.slice s c cb,W] 85 (0,0)):=by rw[n.block b e3 (fun z=>e2 z.symm)];exact y.out.gK
   have e4:CV X b 1 (.slice s c cb):=by simp[aD,a5]
   go_wp2_with (at_builtin;refine od rfl _ _ _ rfl _ _ g1 _ _ _ underlying40 e7 f7 f8 f9 rfl (by decide) _ _ _ rfl (b8.alloc _) _ _ _ _ rfl rfl (gY (by simp[aO])) (by simp[bM]) (by unfold aO;omega) (by omega) (by simp;omega) ?_;intro h9 Y M a9 b3;refine Hid.out ?_);refine fK ?_;have d3:=fK b3;clear b3;obtain⟨A,b0,a7⟩:=Bz y.out d6.out f0 n (fun m e6=>te a1.out e6) d4.out b2 b5 b6 P M a9;have h3:CV Y b 1 (.slice s c cb):=by simp[aD,A]
   have h4:mc Y b 1:=frozen_of_row Y b 1 _ _ A;obtain⟨g4,g8,rfl⟩:=gB M;have c8:=fK b0;have c9:=fK a7;clear M a9 A b0 a7 b2 b5 b6 P b8 a5 e4 e5;go_wp2_with fail;go_end0;refine⟨rfl,⟨_,_,c8.out,fun h b7=>?_,d3.out.of (bZ e0.out (by simp))⟩,c9.out⟩;have o:=d7.out;have p:=d8.out;have g0:=d9.out;simp only[List.mem_cons,List.not_mem_nil,or_false]at b7;rcases b7 with rfl|rfl|rfl|rfl
   ·exact bg rfl
   ·exact d0.out.of (bZ o (by simp))
   ·exact d1.out.of (bZ p (by simp))
   ·exact d2.out.of (bZ g0 (by simp))
def Jf(f:Nat->aM)(n:Nat):List aM:=(dp n).map f
theorem t'(b:Nat->aM)(a:Nat):(Jf b a).length=a:=by simp[Jf]
theorem Cc(b:Nat->aM)(c a:Nat):(Jf b c)[a]? =if a<c then some (b a) else none:=by unfold Jf;grind
theorem LP{b:Nat->aM}{news:List aM}(k:Jf b a++news=Jf b (a+d))(j:o.take a=Jf b a)(h:o.take f=Jf b f):
  (o.take a++news++o.drop (a+d)).take f=Jf b f:=by
 apply List.ext_getElem?;intro c;rw[List.getElem?_take,Cc,j,k];by_cases e:c<f
 ·rw[if_pos e,if_pos e];by_cases g:c<a+d
  ·rw[aZ (by rw[t'];exact g),Cc,if_pos g]
  ·rw[bN (by rw[t'];omega),List.getElem?_drop,t'];rw[show a+d+(c-(a+d))=c from by omega];have:(o.take f)[c]? =some (b c):=by rw[h,Cc,if_pos e]
   rw[List.getElem?_take,if_pos e]at this;exact this
 grind
def AA(k:Nat)(j:Nat):aM:=if j%2=0 then II (lc k) else ai none 0 0
theorem nV(a b:Nat):gj (gL a b)=Jf (AA b) (a*2):=by
 apply List.ext_getElem?;intro c;have h:(gj (gL a b)).length=a*2:=by rw[ln];simp[gL]
 rw[Cc];by_cases d:c<a*2
 ·rw[if_pos d];have e:(gL a b)[c/2]? =some (lc b,ai none 0 0):=by unfold gL;grind
  obtain⟨f,g⟩:=nJ e;unfold AA;grind
 grind
theorem AB(c b a:Nat):gj (gL c a)++gj (gL b a)=gj (gL (c+b) a):=by unfold gj gL;rw[<-List.flatMap_append,eD]
section
variable {P:Program}
theorem wa(f:aK)(x:Nat)(q E e:bG)(i:TypeInfo)(G:aM)(y:Nat)(J:P.underlying q=some (.slice e))(hi:P.info? e=some i)(a3:i.zero=some G)
  (w:i.size=2) (T:i.bytes=y) (a4:G.cells.size=2) (d:Nat) (N:aM) (b:Nat) (Z:f.ownsRow x e 2 N b (gj (gL b d)))
  (t:Addr) (a z:Nat) (I:∀(M:Nat) g,(gj (gL a d))[M]? =some g->f.cell? (t.add M)=some g) (Q:b+a<=aO) (U:(b+a)*y<=140737488355328) (R:x<=f.heap.size):
  ∃s n,(Builtin.append_ #[q,q] E #[N,ai (some t) a z]).run P f=.ok s n/\n.ownsRow x e 2 s (b+a) (gj (gL (b+a) d))/\f.grownBy n N.ownBlock/\(∀j g c,f.ownsRow j e 2 g c (gj (gL c d))->n.ownsRow j e 2 g c (gj (gL c d))):=by
 have Y:∀g∈gj (gL a d),g.oneCell'=true:=by intro g m;rw[nV]at m;obtain⟨M,_,rfl⟩:=df.1 m;unfold AA;split<;>rfl
 have v:(gj (gL a d)).length=a*2:=by rw[ln];simp[gL]
 have D:∀b,(gj (gL b d)).length=b*2:=fun b=>by rw[ln];simp[gL]
 rcases id Z.2 with⟨rfl,rfl⟩|⟨h,cap,k,rfl,a8,B,b5,a9,b0,K⟩
 ·obtain⟨s,n,p,A,l,_⟩:=run_append_own (P:=P) f x q E e i G 2 y J hi a3 w T a4 (by decide) (ai none 0 0) 0 [] (ak f _ e 2) t a z (gj (gL a d)) v I Y Q U R;exact⟨s,n,p,by simpa using A,l,fun j g c m=>World.ownsRow.kept m l (by cases g.ownBlock<;>simp[aq])⟩
 ·by_cases a1:b+a<=cap
  ·have p:=run_append_room (P:=P) f q E e i J hi h b cap k B t a z (gj (gL a d)) (by rw[v,w]) I Y a1 (by rw[v,w,b0];omega);rw[w,v]at p;rw[nV]at K;have a0:Jf (AA d) (b*2)++gj (gL a d)=Jf (AA d) (b*2+a*2):=by rw[<-nV,AB,nV,Nat.add_mul]
   have a2:(k.toList.take (b*2)++gj (gL a d)++k.toList.drop (b*2+a*2)).toArray.size=k.size:=by grind
   have b4:∀j o c,j<=h->c<=o->o<=aO->k.size=o*2->k.toList.take (c*2)=Jf (AA d) (c*2)->(f.setRow h (k.toList.take (b*2)++gj (gL a d)++k.toList.drop (b*2+a*2)).toArray).ownsRow j e 2 (nr h c o) c (gj (gL c d)):=by intro j o c a7 u b2 b6 b3;refine⟨D c,.inr ⟨h,o,_,rfl,a7,setRow_heap f h k _ e _ B,u,b2,by rw[a2];omega,?_⟩⟩;exact(LP a0 K b3).trans (nV _ _).symm
   refine⟨_,_,p,?_,⟨rfl,rfl,rfl,by simp[World.setRow],fun c _ u=>setRow_other f h c _ (fun e=>u (by simp[e,aq]))⟩,?_⟩
   ·refine⟨D _,.inr ⟨h,cap,_,rfl,a8,setRow_heap f h k _ e _ B,a1,a9,by rw[a2];omega,?_⟩⟩;have a6:(b+a)*2=b*2+a*2:=Nat.add_mul _ _ _;rw[nV (b+a),a6,K,a0];grind
   ·intro j g c m;rcases id m.2 with⟨rfl,rfl⟩|⟨H,O,a5,rfl,S,C,X,V,b1,L⟩
    ·exact ak _ _ _ _
    ·by_cases W:H=h
     ·subst W;rw[B]at C;simp only[Option.some.injEq,Obj.cells.injEq]at C;obtain⟨rfl,_⟩:=C;rw[nV]at L;exact b4 j O c S X V b1 L
     ·exact⟨D c,.inr ⟨H,O,a5,rfl,S,by rw[setRow_other f h H _ W];exact C,X,V,by omega,L⟩⟩
  ·obtain⟨s,n,p,A,l⟩:=run_append_arg_grows (P:=P) f q E e i G 2 y J hi a3 w T a4 (by decide) (Ad h 0) b cap (gj (gL b d)) (D b) (Z.cells rfl) t a z (gj (gL a d)) v I (by omega) Q U;rw[AB]at A;exact⟨s,n,p,gq A R,⟨l.os,l.tape,l.output,l.size,fun c u _=>l.block c u (by simp)⟩,fun j g c m=>World.ownsRow.kept m l (by cases g.ownBlock<;>simp)⟩
theorem mK{b:aK}{x8:Array Oper}{rest:List Oper}{y2:Oper}{y1:Act}{z1:Exit->Act->aK->Prop}(G:y2.guard=none)(u v:Operand)(k:bG)
  (I:y2.op=.call {callee:=.builtin .append,args:=#[u,v],argTypes:=#[k,k]})
  (h:Nat) (a:bG) (i:TypeInfo) (p:aM) (o:Nat) (N:P.underlying k=some (.slice a)) (hi:P.info? a=some i) (Q:i.zero=some p)
  (M:i.size=2) (D:i.bytes=o) (R:p.cells.size=2) (e:Nat) (l:aM) (d:Nat) (L:y1.eval u=l) (J:b.ownsRow h a 2 l d (gj (gL d e)))
  (n:Addr) (c s:Nat) (O:y1.eval v=ai (some n) c s) (H:∀(t:Nat) g,(gj (gL c e))[t]? =some g->b.cell? (n.add t)=some g) (A:d+c<=aO) (E:(d+c)*o<=140737488355328) (C:h<=b.heap.size)
  (w:∀m f,f.ownsRow h a 2 m (d+c) (gj (gL (d+c) e))->b.grownBy f l.ownBlock->(∀q g j,b.ownsRow q a 2 g j (gj (gL j e))->f.ownsRow q a 2 g j (gj (gL j e)))->wpList P x8 z1 rest (y1.put y2.dst m) f):wpList P x8 z1 (y2::rest) y1 b:=by
 refine wpList_plain G fun S B=>?_;obtain⟨m,f,K,x,y,z⟩:=wa (P:=P) b h k y2.type a i p o N hi Q M D R e l d J n c s H A E C;unfold Oper.wp;simp[execOp,I,resolve,invoke,builtin,L,O,K,au];exact B _ _ (w m f x y z)
end
theorem WL.O7{t:aM}(h:WL w base a e t q k m o y)(s:o[i]? =some M):∃b f l,b<=1100000003/\M=.slice f b l/\∀d,d<b->∃c,f=some (Ad c 0)/\w.cell? (Ad c d)=some (.int .u8 (rN i)):=by
 rcases h.Fi i M s with⟨u,g,rfl⟩|⟨b,n,p,j⟩
 ·grind
 ·obtain⟨c,g,rfl,_,_,_⟩:=iC j n;refine⟨b,_,g,p,rfl,fun d x=>⟨c,rfl,?_⟩⟩;have v:=j.cellAt d (by omega);grind
theorem WL.PV{t:aM}(h:WL w base a e t q k m o y)(s:y[i]? =some M):∃c g n,c<=1003/\M=.slice g c n/\∀b,b<c->∃d,g=some (Ad d 0)/\w.cell? (Ad d (b*2))=some (II (lc i))/\w.cell? (Ad d (b*2+1))=some (ai none 0 0):=by
 rcases h.GS i M s with⟨u,j,rfl⟩|⟨c,B,p,f⟩
 ·grind
 ·obtain⟨_,⟨_,l⟩|⟨d,j,x,rfl,_,D,C,_⟩⟩:=id f
  ·omega
  refine⟨c,_,j,p,rfl,fun b E=>⟨d,rfl,?_⟩⟩;have l:(gL c i)[b]? =some (lc i,ai none 0 0):=by unfold gL;grind
  obtain⟨z,A⟩:=nJ l;have c1:=f.cellAt (b*2) (by omega);have v:=f.cellAt (b*2+1) (by omega);grind
theorem F8(p:WL b a d e h q f n o y)(U:f<=5000000000000)(V:n<=5000000000000):
  aL ab 36 #[Pt d] b fun K P=>K=.returned (.bool true)/\b=P:=by
 obtain⟨E,cb,l⟩:=gB p.oT;subst l;obtain⟨G,I,m⟩:=gB p.sO;subst m;have W:CV b d 1 (.slice E f cb):=by simp[aD,p.gK]
 have X:CV b d 2 (.slice G n I):=by simp[aD,p.gK]
 have x:=fK p;have a0:∀A,Sem.run ab (binOp BinOp.neq 44 (ai none 0 0) (ai none 0 0)) A=.ok (.bool false) A:=by intro A;rfl
 clear p;go_enter func36,ntmps36;go_wp2;go_loop [3] (fun i=>∃g:Nat,g<=f/\i=II g) (fun i=>f-(aQ i).toNat);case atStart=>exact⟨0,be _,rfl⟩
 case round=>
  obtain⟨g,Z,rfl⟩:=hrel;by_cases N:g<f
  ·have l:=x.out.oT;obtain⟨S,Q,s,_,_,_⟩:=iC l (by omega);simp only[Value.slice.injEq]at s;obtain⟨rfl,_,rfl⟩:=s;have D:o.length=f:=by simpa using l.1
   have v:=l.cellAt g (by omega);rw[ap (by omega)]at v;obtain⟨j,H,J,O,t,w⟩:=x.out.O7 (i:=g) (M:=o[g]) (ap (by omega));rw[t]at v;have z:=fK w;clear D w l t;go_wp2;go_loop [4] (fun i=>∃c:Nat,c<=j/\i=II c) (fun i=>j-(aQ i).toNat);case atStart=>exact⟨0,be _,rfl⟩
   case round=>
    obtain⟨c,M,rfl⟩:=hrel;by_cases C:c<j
    ·obtain⟨L,rfl,B⟩:=z.out c C;unfold rN at B;go_wp2;go_round;case rel=>exact⟨c+1,by omega,by go_num⟩
     case measure=>simp[aQ];omega
    ·obtain rfl:c=j:=by omega
     go_wp2;go_round;case rel=>exact⟨g+1,by omega,by go_num⟩
     case measure=>simp[aQ];omega
  ·obtain rfl:g=f:=by omega
   go_wp2;go_loop [5] (fun i=>∃k:Nat,k<=n/\i=II k) (fun i=>n-(aQ i).toNat);case atStart=>exact⟨0,be _,rfl⟩
   case round=>
    obtain⟨k,a1,rfl⟩:=hrel;by_cases N:k<n
    ·have m:=x.out.sO;obtain⟨T,R,s,_,_,_⟩:=iC m (by omega);simp only[Value.slice.injEq]at s;obtain⟨rfl,_,rfl⟩:=s;have D:y.length=n:=by simpa using m.1
     have v:=m.cellAt k (by omega);rw[ap (by omega)]at v;obtain⟨j,H,J,O,t,w⟩:=x.out.PV (i:=k) (M:=y[k]) (ap (by omega));rw[t]at v;have z:=fK w;clear D w m t;go_wp2;go_loop [6] (fun i=>∃c:Nat,c<=j/\i=II c) (fun i=>j-(aQ i).toNat);case atStart=>exact⟨0,be _,rfl⟩
     case round=>
      obtain⟨c,M,rfl⟩:=hrel;by_cases C:c<j
      ·obtain⟨L,rfl,B,Y⟩:=z.out c C;unfold lc at B;go_wp2;go_round;case rel=>exact⟨c+1,by omega,by go_num⟩
       case measure=>simp[aQ];omega
      ·obtain rfl:c=j:=by omega
       go_wp2;go_round;case rel=>exact⟨k+1,by omega,by go_num⟩
       case measure=>simp[aQ];omega
    ·obtain rfl:k=n:=by omega
     go_wp2;go_ret;exact⟨rfl,rfl⟩
theorem F_(b:a%4=0)(c:d<4):lc (a+d)=lc a:=by unfold lc;omega
theorem ry(b:a%4=0)(c:d<4):gL f (a+d)=gL f a:=by unfold gL;rw[F_ b c]
theorem tH.pT(h:WL w base a e j q k m o y)(g:y[i]? =some M)(h1:tH b base M i):tH w base M i:=by
 rcases h.GS i M g with⟨l,p,rfl⟩|d
 ·obtain⟨u,t,_,f⟩:=h1;obtain⟨n,s,c⟩:=gr f;simp only[Value.slice.injEq]at c;omega
 ·exact d
theorem q'.pT(h:WL w base a e j q k m o y)(g:o[i]? =some M)(h1:q' b base M i):q' w base M i:=by
 rcases h.Fi i M g with⟨l,p,rfl⟩|d
 ·obtain⟨u,t,_,f⟩:=h1;obtain⟨n,s,c⟩:=gr f;simp only[Value.slice.injEq]at c;omega
 ·exact d
theorem Gc{I J:aM}(B:WL b a d e h q f n o y)(b3:A<=1000)(G:b.grownBy w M.ownBlock)(b4:∀s,M.ownBlock=some s->∃k,b.heap[s]? =some (.cells k 60 (0,0)))(vJ:∀(i:Nat) l s,y[i]? =some l->tH b a l i->M.ownBlock=some s->l.ownBlock≠some s)
  (V:w.ownsRow a 60 2 v6 A (gj (gL A n))) (a0:w.ownsRow a 60 2 I (A+1) (gj (gL (A+1) n))) (a1:w.ownsRow a 60 2 J (A+2) (gj (gL (A+2) n))) (a2:w.ownsRow a 60 2 K (A+3) (gj (gL (A+3) n)))
  (a9:z5.ownsRow a 47 1 w9 (n+4) (y++[v6,I,J,K])) (a6:(w.alloc (.cells #[v6,I,J,K] 47)).grownBy z5 q.ownBlock):
  z5.heap[d]? =some (.cells #[e,h,q] 85 (0,0))/\WL (z5.setCell (Ad d 2) w9) a d e h w9 f (n+4) o (y++[v6,I,J,K])/\gm (fun c=>c=d\/q.ownBlock=some c\/M.ownBlock=some c) b (z5.setCell (Ad d 2) w9):=by
 have Y:gm (fun c=>M.ownBlock=some c) b w:=⟨G.os,G.tape,G.output,G.size,fun c p x=>G.block c p (fun j=>x j.symm)⟩;have a8:∀c k j m,b.heap[c]? =some (.cells k j m)->j≠60->¬M.ownBlock=some c:=by grind
 have C:WL w a d e h q f n o y:=by
  refine B.gx Y (a8 _ _ _ _ B.gK (by decide)) (fun s v=>?_) (fun s v=>?_) (fun i l s g t v=>?_) (fun i l s g t v Q=>vJ i l s g t Q v)
  ·obtain⟨T,j⟩:=fX B.oT v;grind
  ·obtain⟨T,j⟩:=fX B.sO v;grind
  ·obtain⟨u,_,_,z⟩:=t;obtain⟨T,j⟩:=fX z v;grind
 have H:w.grownBy z5 q.ownBlock:=ga a6;have L:gm (fun c=>q.ownBlock=some c) w z5:=⟨H.os,H.tape,H.output,H.size,fun c p x=>H.block c p (fun j=>x j.symm)⟩;have X:∀c k j m,w.heap[c]? =some (.cells k j m)->j≠47->¬q.ownBlock=some c:=fun c k j m p a3 Q=>fR C.sO p (fun U=>a3 U.symm) Q;have W:z5.heap[d]? =some (.cells #[e,h,q] 85 (0,0)):=by rw[L.block d (bn.1 C.gK).1 (X _ _ _ _ C.gK (by decide))];exact C.gK
 have N:gm (· = d) z5 (z5.setCell (Ad d 2) w9):=go (Below.refl _ _) _ _;have Z:∀c k j m,z5.heap[c]? =some (.cells k j m)->j≠85->¬c=d:=by grind
 have D:∀{l:aM} {u S:Nat} {j:bG} {R:List aM},w.ownsRow a j S l u R->j≠47->j≠85->(z5.setCell (Ad d 2) w9).ownsRow a j S l u R:=by intro l u S j R z a4 a5;have b1:=gI z L (fun c k m p=>X c k _ m p a4);exact gI b1 N (fun c k m p=>Z c k _ m p a5)
 have b0:y.length=n:=by simpa using B.sO.1
 have O:=B.m4;refine⟨W,⟨?_,B.k4,by omega,D C.oT (by decide) (by decide),gI a9 N (fun c k m p=>Z c k _ m p (by decide)),fun i l g=>?_,fun i l g=>?_⟩,?_⟩
 ·rw[fT W _ _];rfl
 ·rcases C.Fi i l g with t|⟨u,P,x,z⟩
  ·exact bg t
  ·exact bf ⟨u,P,x,D z (by decide) (by decide)⟩
 ·rcases ay i n with a7|a7
  ·rw[aZ (by omega)]at g;rcases C.GS i l g with t|⟨u,P,x,z⟩
   ·exact bg t
   ·exact bf ⟨u,P,x,D z (by decide) (by decide)⟩
  ·rw[bN (by omega),b0]at g;obtain⟨c,rfl⟩:∃c,i=n+c:=⟨i-n,by omega⟩;rw[cc]at g;match c,g with
   |0,g=>
    simp at g;subst g;rcases Nat.eq_zero_or_pos A with t|t
    ·obtain⟨b2,c1,U⟩:=gr V;grind
    ·exact bf ⟨A,t,by omega,D V (by decide) (by decide)⟩
   |1,g=>simp at g;subst g;exact bf ⟨A+1,by omega,by omega,by rw[ry O (by decide)];exact D a0 (by decide) (by decide)⟩
   |2,g=>simp at g;subst g;exact bf ⟨A+2,by omega,by omega,by rw[ry O (by decide)];exact D a1 (by decide) (by decide)⟩
   |3,g=>simp at g;subst g;exact bf ⟨A+3,by omega,by omega,by rw[ry O (by decide)];exact D a2 (by decide) (by decide)⟩
   |c+4,g=>simp at g
 ·exact((Y.mono fun c _ E=>bf (bf E)).trans (L.mono fun c _ E=>bf (bg E))).trans (N.mono fun c _ E=>bg E)
def sg(bw:Nat)(vb vs v:aM)(out:List (Int×aM))(q:Nat):Prop:=q=bw\/vb.ownBlock=some q\/vs.ownBlock=some q\/v.ownBlock=some q\/∃(i:Nat) (x:Int×aM),out[i]? =some x/\x.2.ownBlock=some q
structure rK(w:aK)(base bw bx k m:Nat)(lv vb vs v:aM)(qn mr:List aM)(out:List (Int×aM))(ii:List (Int×List Int))(j:Nat)(R4:aM)(add:List aM)(wr:aK):Prop where
 wl:WL wr base bw lv R4 vs (k+4*j) m (qn++add) mr
 row:wr.ownsRow base 60 2 v out.length (gj (gL j m++out.drop j))
 rest:∀(i:Nat) x y,j<=i->out[i]? =some x->ii[i]? =some y->wr.ownsRow base 5 1 x.2 y.2.length (U8 y.2)
 box:wr.heap[bx]? =some (.cells #[II (lc m),ai none 0 0] 60 (0,0))
 add:∀u∈add,(∃(i:Nat) (x:Int×aM),i<j/\out[i]? =some x/\u.ownBlock=x.2.ownBlock)\/∀g,u.ownBlock=some g->w.heap.size<=g
 N7:wV w vb R4
 gx:gm (sg bw vb vs v out) w wr
theorem GK{out:List (Int×aM)}(c:a<out.length):((gj (gL a d++out.drop a)).set (a*2) (II (lc d))).set (a*2+1) (ai none 0 0)=gj (gL (a+1) d++out.drop (a+1)):=by
 rw[List.drop_eq_getElem_cons c];have b:gL (a+1) d=gL a d++[(lc d,ai none 0 0)]:=by unfold gL;rw[<-eD];rfl
 rw[b,kv,kv,kv,List.append_assoc];have e:(gj (gL a d)).length=a*2:=by rw[ln];simp[gL]
 rw[bd _ _ (by omega),bd _ _ (by omega),e];congr 1;rw[show a*2-a*2=0 by omega,show a*2+1-a*2=1 by omega];generalize out[a]=f;generalize out.drop (a+1)=r;simp[gj]
theorem rK.vJ{A:aM}{out:List (Int×aM)}{j:Nat}(h:rK w base a d k m e A q v o y out t j M w0 b)(E:WL w base a e A q k m o y)(l:kw w base out t)(D:∀(i:Nat) c (j:Nat) x f,o[i]? =some c->q' w base c i->out[j]? =some x->x.2.ownBlock=some f->c.ownBlock≠some f){x:Int×aM}(p:out[j]? =some x):
  ∀(i:Nat) c f,(o++w0)[i]? =some c->q' b base c i->x.2.ownBlock=some f->c.ownBlock≠some f:=by
 intro i c f g B n;rcases ay i o.length with hi|hi
 ·rw[aZ hi]at g;exact D i c j x f g (q'.pT E g B) p n
 ·rw[bN hi]at g;intro z;rcases h.add c (bS g) with⟨I,J,N,G,u⟩|C
  ·exact l.2.2 I j J x f (by omega) G p (by rw[<-u];exact z) n
  ·have L:=C f z;obtain⟨s,H⟩:∃s,t[j]? =some s:=⟨_,ap (by rw[<-l.1];grind)⟩;obtain⟨K,u⟩:=fX (l.2.1 j x s p H).2 n;grind
theorem rK.start{wr:aK}{out:List (Int×aM)}{ii:List (Int×List Int)}(hw:WL w base bw lv vb vs k m qn mr)(hv:w.ownsRow base 60 2 v out.length (gj out))(hO:kw w base out ii)(hb:Below w.heap.size w wr)(hx:wr.heap[w.heap.size]? =some (.cells #[ae af (lc m),ai none 0 0] 60 (0,0))):rK w base bw w.heap.size k m lv vb vs v qn mr out ii 0 vb [] wr where
 wl:=by simpa using hw.below hb
 row:=by simpa[gL] using gM hv (gm.fU (F:=fun _=>False) hb) (fun _ _ h=>h)
 rest:=fun i x y _ hx hy=>gM (hO.2.1 i x y hx hy).2 (gm.fU (F:=fun _=>False) hb) (fun _ _ h=>h)
 box:=hx
 add:=fun u hu=>by simp at hu
 N7:=bg rfl
 gx:=gm.fU hb
theorem rK.EY{s:aK}{O:aM}{out:List (Int×aM)}{j:Nat}(h:rK w base a d k m e O q v o y out t j M w0 b)(G:kw w base out t){x:Int×aM}(I:out[j]? =some x)(B:gm (fun f=>f=a\/M.ownBlock=some f\/x.2.ownBlock=some f) b s):
  s.ownsRow base 60 2 v out.length (gj (gL j m++out.drop j))/\s.heap[d]? =some (.cells #[II (lc m),ai none 0 0] 60 (0,0))/\∀(i:Nat) x g,j+1<=i->out[i]? =some x->t[i]? =some g->s.ownsRow base 5 1 x.2 g.2.length (U8 g.2):=by
 obtain⟨g,N⟩:∃g,t[j]? =some g:=⟨_,ap (by rw[<-G.1];grind)⟩;have H:=h.rest j x g (ar _) I N;have L:∀f z l A,b.heap[f]? =some (.cells z l A)->l≠85->¬f=a:=by intro f z l A n P c;rw[c,h.wl.gK]at n;grind
 refine⟨gI h.row B ?_,?_,fun i u E hi p D=>gM (h.rest i u E (by omega) p D) B ?_⟩
 ·rintro f z A n (c|c|c)
  ·grind
  ·exact fR h.wl.oT n (by decide) c
  ·exact fR H n (by decide) c
 ·rw[B.block d (bn.1 h.box).1 ?_]
  ·exact h.box
  ·rintro(c|c|c)
   ·exact L _ _ _ _ h.box (by decide) c
   ·exact fR h.wl.oT h.box (by decide) c
   ·exact fR H h.box (by decide) c
 ·rintro K C (c|c|c)
  ·obtain⟨J,l⟩:=fX (h.rest i u E (by omega) p D) C;grind
  ·obtain⟨J,l⟩:=fX (h.rest i u E (by omega) p D) C;exact fR h.wl.oT l (by decide) c
  ·exact G.2.2 i j u x K (by omega) p I C c
theorem gm.andThen{F L:Nat->Prop}{a:aK}(h:gm F a b)(k:gm L b w)(f:∀c,c<a.heap.size->L c->F c):gm F a w:=
 ⟨k.os.trans h.os,k.tape.trans h.tape,k.output.trans h.output,bZ h.size k.size,fun i hi d=>(k.block i (ca hi h.size) (fun e=>d (f i hi e))).trans (h.block i hi d)⟩
theorem rK.next{p:aK}{E:aM}{out:List (Int×aM)}{j:Nat}(h:rK w base a w.heap.size k m e E q (ai (some (Ad d 0)) out.length cap) o y out t j M w0 b)(X:WL w base a e E q k m o y)(a3:d<w.heap.size)(V:∀(i:Nat) l c,y[i]? =some l->tH w base l i->(aJ (some (Ad d 0)) out.length cap).ownBlock=some c->l.ownBlock≠some c)(P:kw w base out t){x:Int×aM}(D:out[j]? =some x)(J:gm (fun c=>c=a\/M.ownBlock=some c\/x.2.ownBlock=some c) b p)
  (v:WL p base a e w9 q (k+4*j+4) m ((o++w0)++t4) y) (S:∀l∈t4,wV b x.2 l) (R:wV b M w9):
  rK w base a w.heap.size k m e E q (ai (some (Ad d 0)) out.length cap) o y out t (j+1) w9 (w0++t4) ((p.setCell (Ad d (j*2)) (II (lc m))).setCell (Ad d (j*2+1)) (ai none 0 0)):=by
 obtain⟨N,I,U⟩:=h.EY P D J;have Q:j<out.length:=(bo.1 D).1;have a0:=(N.stored (j*2) (II (lc m))).1;have O:=(a0.stored (j*2+1) (ai none 0 0)).1;rw[GK Q]at O;have u:gm (· = d) p ((p.setCell (Ad d (j*2)) (II (lc m))).setCell (Ad d (j*2+1)) (ai none 0 0)):=(go (Below.refl _ _) _ _).trans (go (Below.refl _ _) _ _);have K:∃s,p.heap[d]? =some (.cells s 60 (0,0)):=fX N rfl;obtain⟨s,K⟩:=K;have L:∀c s f z,p.heap[c]? =some (.cells s f z)->f≠60->¬c=d:=by grind
 have W:=h.gx.size;refine⟨?_,O,fun i a1 a2 hi Y Z=>gI (U i a1 a2 hi Y Z) u (fun c s z g=>L c s _ z g (by decide)),?_,?_,?_,?_⟩
 ·rw[show k+4*(j+1)=k+4*j+4 by omega,<-List.append_assoc];refine v.gx u (L _ _ _ _ v.gK (by decide)) (fun c g=>?_) (fun c g=>?_) (fun i l c n A g=>?_) (fun i l c n A g=>?_)
  ·obtain⟨G,f⟩:=fX v.oT g;grind
  ·obtain⟨G,f⟩:=fX v.sO g;grind
  ·obtain⟨a5,_,_,T⟩:=A;obtain⟨G,f⟩:=fX T g;grind
  ·rintro rfl;exact V i l c n (tH.pT X n A) rfl g
 ·rw[u.block _ (bn.1 I).1 (by omega)];exact I
 ·intro l n;rcases List.mem_append.1 n with n|n
  ·rcases h.add l n with⟨i,a6,hi,a4,f⟩|C
   ·grind
   grind
  ·rcases S l n with f|C
   ·grind
   grind
 ·rcases R with f|C
  ·rcases h.N7 with H|B
   ·exact bg (f.trans H)
   ·exact bf fun c g=>B c (by grind)
  ·exact bf fun c g=>bZ W (C c g)
 ·refine(h.gx.andThen J ?_).andThen u ?_
  ·rintro c g (f|f|f)
   ·exact bg f
   ·rcases h.N7 with H|B
    ·exact bf (bg (by grind))
    ·have:=B c f;omega
   ·exact bf (bf (bf (bf ⟨j,x,D,f⟩)))
  ·rintro c g rfl;exact bf (bf (bf (bg rfl)))
theorem FY:(ab.info? 47).map (fun i=>(i.zero,i.size,i.bytes))=some (some (ai none 0 0),1,24):=by kernel_rfl
theorem uS(h f A d:Nat)(B D f6 Q:aM)(R P:List aM)(out:List (Int×aM))(C:List (Int×List Int))(b:aK)(x:WL b h f B D f6 A d R P)(c7:h<=b.heap.size)(u:b.ownsRow h 60 2 Q out.length (gj out))(c4:kw b h out C)(e7:∀(i:Nat) j (a:Nat) o e,R[i]? =some j->q' b h j i->out[a]? =some o->o.2.ownBlock=some e->j.ownBlock≠some e)(e8:∀(i:Nat) j e,P[i]? =some j->tH b h j i->Q.ownBlock=some e->j.ownBlock≠some e)(e2:out.length<=1000)(d9:∀(i:Nat) (m:Int×List Int),C[i]? =some m->m.2.length<=1000000)(l1:A<=4000000000000)(l2:d<=4000000000000):
  aL ab 119 #[Pt f,Q] b fun g f7=>g=.returned (.tuple #[])/\(∃i9 j0 i8 i7,WL f7 h f B i9 j0 (A+4*out.length) (d+4) i8 i7)/\gm (sg f D f6 Q out) b f7:=by
 obtain⟨b3,hi,b0,b1,b2⟩:=aP sZ;obtain⟨i6,h7,i2,i3,i4⟩:=aP FY;obtain⟨s,t,i1⟩:=gB x.sO;subst i1;obtain⟨w,cap,f1⟩:=gr u;obtain⟨n,O⟩:∃n,out.length=n:=⟨_,rfl⟩;rw[O]at f1 e2;subst f1;have k7:f<b.heap.size:=(bn.1 x.gK).1;have h5:CV b f 2 (.slice s d t):=by simp[aD,x.gK]
 have b9:=fK u;have G:=fK x;have g3:=fK e7;have b8:=fK e8;have v:=fK c4;have g0:=fK d9;have p:=fK O;have g4:Hid (lc d = -1000-(d:Int)/4):=rfl;have l3:-2000000000000<=lc d/\lc d<=-1000:=by unfold lc;omega
 have J:∀e,w=some (Ad e 0)->e<b.heap.size:=by rintro e rfl;obtain⟨g6,g⟩:=fX u (n:=e) rfl;exact(bn.1 g).1
 have f8:=fK J;rw[O];clear u x e7 e8 c4 d9 O J;go_enter func119,ntmps119;go_wp2_with fail;rw[<-g4.out];go_loopw [5] (fun i wr=>∃(a:Nat) (b4:aM) (H:List aM),a<=n/\i=II a/\Hid (rK b h f b.heap.size A d B D (.slice s d t) (.slice w n cap) R P out C a b4 H wr)) (fun i _=>n-(aQ i).toNat);case atStart=>exact⟨0,D,[],be _,rfl,rK.start G.out b9.out v.out (fO _ _) (heap_alloc_last b _)⟩
 case round=>
  obtain⟨a,b4,H,l0,rfl,c⟩:=hrel;by_cases e1:a<n
  ·obtain⟨o,y⟩:∃o,out[a]? =some o:=⟨_,ap (by rw[p.out];exact e1)⟩;obtain⟨m,a9⟩:∃m,C[a]? =some m:=⟨_,ap (by rw[<-v.out.1,p.out];exact e1)⟩;have i5:=g0.out a m a9;have a4:=c.out.rest a o m (ar _) y a9;obtain⟨j1,j2,z⟩:=gB a4;have l:=c.out.row;rw[p.out]at l;obtain⟨e,k0,c3,_,_,_⟩:=o_ l (by omega);simp only[Value.slice.injEq]at c3;obtain⟨rfl,_,rfl⟩:=c3;have J:=f8.out e rfl;have c6:(gL a d++out.drop a)[a]? =some o:=by rw[bN (by simp[gL])];simp[gL,y]
   obtain⟨_,f4⟩:=nJ c6;have g7:wr.cell? (Ad e (a*2+1))=some o.2:=by have:=l.cellAt (a*2+1) (by omega);rw[f4]at this;exact this
   rw[z]at g7;have b7:=fK (rk _ _ _ _ _ _ _ _ (.slice j1 m.2.length j2) _ _ (U8 m.2) _ c.out.wl (bZ c7 c.out.gx.size) (by rw[<-z];exact a4) (by rw[<-z];exact c.out.vJ G.out v.out g3.out y) (bZ i5 (by decide)) (by omega));have g5:=fK z;have c2:=fK y;clear a4 l c6 f4 z y a9;go_wp2_with fail;refine b7.out.mono ?_;rintro g k ⟨rfl,⟨f5,f3,f2,a2,e3⟩,I⟩;clear b7;rw[<-g5.out]at a2 I;have E:=fK (c.out.EY v.out c2.out I);have g2:Hid (rK b h f b.heap.size A d B D (.slice s d t) (nr e n cap) R P out C (a+1) f5 (H++f3) ((k.setCell (Ad e (a*2)) (II (lc d))).setCell (Ad e (a*2+1)) (ai none 0 0))):=by have h0:=c.out;have h1:=b8.out;have h2:=p.out;subst h2;exact h0.next G.out J h1 v.out c2.out I f2 a2 e3
   clear f2 a2 e3 I;have q:=E.out.1;rw[p.out]at q;have h8:=q.1;obtain⟨l7,k3⟩:∃j,k.cell? (Ad e (a*2))=some j:=by rw[q.cellAt (a*2) (by omega)];exact⟨_,ap (by omega)⟩
   obtain⟨l8,k4⟩:∃j,k.cell? (Ad e (a*2+1))=some j:=by rw[q.cellAt (a*2+1) (by omega)];exact⟨_,ap (by omega)⟩
   have k5:=q.frozenAt (a*2);have k6:=q.frozenAt (a*2+1);have T:io k b 0 (lc d):=by simp[aD,E.out.2.1]
   have U:lq k b 1 (ai none 0 0):=by simp[aD,E.out.2.1]
   clear q h8 E;go_wp2_with fail;go_roundw;case rel=>exact⟨a+1,f5,H++f3,by omega,by go_num,g2⟩
   case measure=>simp[aQ];omega
  ·obtain rfl:a=n:=by omega
   have l:=c.out.row;have d0:out.drop a=[]:=dy (by have:=p.out;omega);rw[d0,List.append_nil,p.out]at l;have a8:h<=wr.heap.size:=bZ c7 c.out.gx.size;have T:io wr b 0 (lc d):=by simp[aD,c.out.box]
   have U:lq wr b 1 (ai none 0 0):=by simp[aD,c.out.box]
   have W:=c.out.box;have d6:some b.heap.size≠(aJ w a cap).ownBlock:=by intro g;obtain⟨g6,g8⟩:=fX b9.out g.symm;have:=(bn.1 g8).1;omega
   have c8:=(bn.1 W).1;have d5:wr.grownBy wr (aJ w a cap).ownBlock:=mf (Below.refl _ _);have j3:=fK c.out.gx.size;clear d0;go_wp2_with (at_builtin;refine mK rfl _ _ _ rfl _ _ b3 _ _ underlying47 hi b0 b1 b2 rfl _ _ _ rfl (l.alloc _) _ _ _ rfl (gY (by simp[aO,gL,gj])) (by unfold aO;omega) (by omega) (by simp;omega) ?_;intro m0 k a5 d1 d8;refine Hid.out ?_);refine fK ?_;have a0:=d8 _ _ _ (l.alloc _);have K:=kq d5 (ga d1) (bg rfl);have h9:h<=k.heap.size:=bZ a8 K.size;have X:k.heap[b.heap.size]? =some (.cells #[II (lc d),ai none 0 0] 60 (0,0)):=by rw[K.block _ c8 d6];exact W
   obtain⟨j5,j9,rfl⟩:=gr a5;have T:io k b 0 (lc d):=by simp[aD,X]
   have U:lq k b 1 (ai none 0 0):=by simp[aD,X]
   clear l d1 d8 d5 X;go_wp2_with (at_builtin;refine mK rfl _ _ _ rfl _ _ b3 _ _ underlying47 hi b0 b1 b2 rfl _ _ _ rfl (a0.alloc _) _ _ _ rfl (gY (by simp[aO,gL,gj])) (by unfold aO;omega) (by omega) (by simp;omega) ?_;intro m1 S a6 d2 Z;refine Hid.out ?_);refine fK ?_;have a1:=Z _ _ _ (a0.alloc _);have e4:=Z _ _ _ (a5.alloc _);have L:=kq K (ga d2) (bg rfl);have i0:h<=S.heap.size:=bZ a8 L.size;have Y:S.heap[b.heap.size]? =some (.cells #[II (lc d),ai none 0 0] 60 (0,0)):=by rw[L.block _ c8 d6];exact W
   obtain⟨j6,k1,rfl⟩:=gr a6;have T:io S b 0 (lc d):=by simp[aD,Y]
   have U:lq S b 1 (ai none 0 0):=by simp[aD,Y]
   clear a0 d2 Z h9 a5 K Y;go_wp2_with (at_builtin;refine mK rfl _ _ _ rfl _ _ b3 _ _ underlying47 hi b0 b1 b2 rfl _ _ _ rfl (a1.alloc _) _ _ _ rfl (gY (by simp[aO,gL,gj])) (by unfold aO;omega) (by omega) (by simp;omega) ?_;intro m2 b5 a7 d3 N;refine Hid.out ?_);refine fK ?_;have e0:=N _ _ _ (a1.alloc _);have e5:=N _ _ _ (e4.alloc _);have e6:=N _ _ _ (a6.alloc _);have M:=kq L (ga d3) (bg rfl);have l5:h<=b5.heap.size:=bZ a8 M.size;obtain⟨j7,k2,rfl⟩:=gr a7;clear a1 d3 N i0 e4 a6 L;have f0:=World.ownsRow.kept c.out.wl.sO M (pq c.out.wl.sO c.out.row (by decide));have h3:some f≠(aJ w a cap).ownBlock:=fun g=>fR c.out.row c.out.wl.gK (by decide) g.symm;have c5:b5.heap[f]? =some (.cells #[B,b4,.slice s d t] 85 (0,0)):=by rw[M.block f (bn.1 c.out.wl.gK).1 h3];exact c.out.wl.gK
   have h4:CV b5 f 2 (.slice s d t):=by simp[aD,c5]
   go_wp2_with (at_builtin;refine od rfl _ _ _ rfl _ _ i6 _ _ _ underlying83 h7 i2 i3 i4 rfl (by decide) _ _ _ rfl (f0.alloc _) _ _ _ _ rfl rfl (gY (by simp[aO])) (by simp[bM]) (by unfold aO;omega) (by omega) (by simp;omega) ?_;intro l9 b6 a3 d4 _;refine Hid.out ?_);refine fK ?_;obtain⟨V,d7,c9⟩:=Gc c.out.wl e2 M (fun e h6=>fX c.out.row h6) (fun i j e e9 g9 u=>b8.out i j e e9 (tH.pT G.out e9 g9) u) e0 e5 e6 a7 a3 d4;have k8:CV b6 f 2 (.slice s d t):=by simp[aD,V]
   have k9:mc b6 f 2:=frozen_of_row b6 f 2 _ _ V;obtain⟨j4,j8,rfl⟩:=gB a3;have f9:=fK d7;have g1:=fK c9;clear a3 d4 V d7 c9 e0 e5 e6 a7 f0 c5 h4 h5;go_wp2_with fail;go_end0;refine⟨rfl,⟨_,_,_,_,f9.out⟩,c.out.gx.andThen g1.out ?_⟩;rintro l6 l4 (g|g|g)
   ·exact bg g
   ·exact bf (bf (bg g))
   ·exact bf (bf (bf (bg g)))
theorem kL(g:b.ownsRow a z d e f o)(c:e.ownBlock=some n):a<=n:=by
 rcases g.2 with⟨rfl,_⟩|⟨j,cap,h,rfl,k,_⟩
 ·simp[aq]at c
 ·simp only[aq,Option.some.injEq]at c;omega
theorem yi(u:WL b a d e h q f n o y){w2:Nat}(t:w.ownsRow A z z7 M w2 w0)(C:b.heap.size<=A):
  ∀(i:Nat) c g,o[i]? =some c->q' w a c i->M.ownBlock=some g->c.ownBlock≠some g:=by
 intro i c g s k m l;obtain⟨w2,_,_,p⟩:=q'.pT u s k;obtain⟨v,j⟩:=fX p l;have x:=(bn.1 j).1;have B:=kL t m;omega
def j_(base bw:Nat)(lv vb vs:aM)(L m:Nat)(mr:List aM)(w w':aK):Prop:=(∃k' Qb Hy,k'<=L+4/\WL w' base bw lv Qb vs k' m Hy mr)/\gm (fun q=>q=bw\/vb.ownBlock=some q) w w'
theorem j_.fU{c:aM}{L:Nat}(h:WL w base a e c q L m o y)(d:Bw w b):j_ base a e c q L m y w b:=⟨⟨L,c,o,by omega,h.below d⟩,gm.fU d⟩
theorem j_.M7{L:Nat}{xs:List aM}{k:aK}(p:Bw w b)(t:b.ownsRow d 5 1 v n xs)(x:w.heap.size<=d)(hi:∃j f,WL k base a e j q (L+4) m (o++f) y/\(∀u∈f,wV b v u)/\wV b h j)(s:gm (fun g=>g=a\/h.ownBlock=some g\/v.ownBlock=some g) b k):j_ base a e h q L m y w k:=by
 obtain⟨j,f,l,_⟩:=hi;refine⟨⟨L+4,j,o++f,by omega,l⟩,(gm.fU p).andThen s ?_⟩;rintro g z (c|c|c)
 ·exact bg c
 ·exact bf c
 ·have:=kL t c;omega
theorem Gl{C:Nat}(B:WL b a d h q M f C o y)(P:a<=b.heap.size)(O:f<=5000000000000):
  aL ab 62 #[Pt d,.agg #[II 1,II c,II g,II l,II u,II c0,II c1,II G,II H,II I,II J,II z9,II z8,II y7,II y6,e]] b
   fun j E=>j=.returned (.bool true)/\j_ a d h q M f C y b E:=by
 have v:=fK B;clear B;go_enter func62,ntmps62;go_wp2_with fail;have w:=fO b (.cells #[II 1,II c,II g,II l,II u,II c0,II c1,II G,II H,II I,II J,II z9,II z8,II y7,II y6,e] 90);refine(zl).mono ?_;rintro j X ⟨V,rfl,z,p⟩;have D:=(gN p).1 2;simp at D;go_wp2_with fail;refine(yt).mono ?_;rintro j Y ⟨W,rfl,A,s⟩;have k:=gp z s;have x:=fP p s;have S:=ot k;have T:=ot A;clear D z A p s;generalize N:lr g 1073741823=U;clear N;have m:=fP w x;have t:=fK (rk _ _ _ _ _ _ _ _ _ _ _ _ _ (v.out.below m) (bZ P m.size) (gq k (by simp only[az];omega)) (yi v.out k (by simp only[az];omega)) (by have:=Eg (c:=g);omega) O);have L:=fK k;have K:=fK m;clear k m x w;go_wp2_with (go_at_call 110;refine(mv).mono ?_;rintro j E ⟨rfl,rfl⟩);refine t.out.mono ?_;rintro j Z ⟨rfl,R,Q⟩;clear S T t;go_wp2_with fail;go_ret;exact⟨rfl,j_.M7 K.out L.out (by simp only[az];omega) R Q⟩
theorem yq(t:Env b)(v:WL b a d e h q f n o y):
  aL ab 62 #[Pt d,.agg #[II 2,II c,II g,II l,II u,II c0,II c1,II G,II H,II I,II J,II z9,II z8,II y7,II y6,ai none 0 0]] b
   fun j x=>j=.returned (.bool true)/\j_ a d e h q f n y b x:=by
 have A:=fK v;have z:=fK t;clear v t;have m:Hid (∀p:aK,je p (ai none 0 0) []):=fun p=>⟨gG.nil,by decide,bg ⟨rfl,none,0,rfl⟩⟩;go_enter func62,ntmps62;go_wp2_with fail;have s:=fO b (.cells #[II 2,II c,II g,II l,II u,II c0,II c1,II G,II H,II I,II J,II z9,II z8,II y7,II y6,ai none 0 0] 90);refine(DR).mono ?_;rintro j D ⟨rfl,rfl⟩;go_wp2_with fail;refine(tr (z.out.below s) (m.out _)).mono ?_;rintro j E ⟨rfl,k⟩;have w:=(gN k).1 15;simp at w;go_wp2_with fail;refine(jB (m.out _)).mono ?_;rintro j C ⟨rfl,rfl⟩;go_wp2_with fail;refine(Df).mono ?_;rintro j C ⟨rfl,rfl⟩;have B:=fP s k;clear k w;generalize jL []=K;generalize jk []=L;generalize nE []=M;go_wp2_with (go_at_call 110;refine(mv).mono ?_;rintro j x ⟨rfl,rfl⟩);go_ret;exact⟨rfl,j_.fU A.out B⟩
theorem Gk{k:List Int}(E:Env b)(K:je b (ai (some y3) k.length cap) k)(L:WL b d f e h q n A o y):
  aL ab 62 #[Pt f,.agg #[II 2,II c,II g,II l,II u,II c0,II c1,II G,II H,II I,II J,II z9,II z8,II y7,II y6,ai (some y3) k.length cap]] b
   fun a N=>a=.returned (.bool true)/\j_ d f e h q n A y b N:=by
 have P:=fK L;have O:=fK E;have j:=fK K;clear L E K;go_enter func62,ntmps62;go_wp2_with fail;have v:=fO b (.cells #[II 2,II c,II g,II l,II u,II c0,II c1,II G,II H,II I,II J,II z9,II z8,II y7,II y6,ai (some y3) k.length cap] 90);have s:=j.out.below v;refine(Az s.2.1 s.src.1).mono ?_;rintro a T ⟨C,rfl,x,S,p⟩;have B:=fK (s.below p);have t:=fK x;have R:C<T.heap.size:=(bn.1 x).1;clear s x;go_wp2_with fail;refine(tr ((O.out.below v).below p) (je.N4 j.out.1 j.out.2.1 t.out)).mono ?_;rintro a V ⟨rfl,m⟩;have w:=fP p m;have M:=(gN w).1 15;simp at M;go_wp2_with fail;refine(jB (B.out.below m)).mono ?_;rintro a U ⟨rfl,rfl⟩;have z:=fK (H7 (cap:=cap) j.out.1 j.out.2.1 (by rw[m.block C R];exact t.out) S (B.out.below m).src.2);go_wp2_with fail;refine z.out.mono ?_;rintro a U ⟨rfl,D⟩;have Q:=fP v (w.trans D);clear p m w D M z t;generalize jL k=W;generalize jk k=X;generalize nE k=Y;go_wp2_with (go_at_call 110;refine(mv).mono ?_;rintro a N ⟨rfl,rfl⟩);go_ret;exact⟨rfl,j_.fU P.out Q⟩
theorem Ce(D:WL b a d h q M f n o y)(a0:a<=b.heap.size)(Z:f<=5000000000000):
  aL ab 62 #[Pt d,.agg #[II 3,II c,II g,II l,II u,II c0,II c1,II G,II H,II I,II J,II z9,II z8,II y7,II y6,e]] b
   fun m W=>m=.returned (.bool true)/\j_ a d h q M f n y b W:=by
 have x:=fK D;clear D;go_enter func62,ntmps62;go_wp2_with fail;have z:=fO b (.cells #[II 3,II c,II g,II l,II u,II c0,II c1,II G,II H,II I,II J,II z9,II z8,II y7,II y6,e] 90);refine(HS).mono ?_;rintro m a8 ⟨a6,rfl,B,j⟩;have P:=(gN j).1 2;have Q:=(gN j).1 3;have R:=(gN j).1 5;have S:=(gN j).1 6;have T:=(gN j).1 7;have U:=(gN j).1 8;have V:=(gN j).1 9;have E:=(gN j).1 10;have K:=(gN j).1 11;have L:=(gN j).1 12;have N:=(gN j).1 13;have O:=(gN j).1 14;simp at P Q R S T U V E K L N O;go_wp2_with fail;refine(yu).mono ?_;rintro m a9 ⟨a7,rfl,C,v⟩;have p:=gp B v;have A:=fP j v;have a3:=ot p;have a4:=ot C;clear P Q R S T U V E K L N O B C j v;have s:=fP z A;have w:=fK (rk _ _ _ _ _ _ _ _ _ _ _ _ _ (x.out.below s) (bZ a0 s.size) (gq p (by simp only[az];omega)) (yi x.out p (by simp only[az];omega)) (by have:=EL (c0:=c0) (c1:=c1) (l:=G) (u:=H) (x:=I) (E:=J) (G:=z9) (H:=z8) (I:=y7) (J:=y6) (z9:=g) (z8:=l);omega) Z);have Y:=fK p;have X:=fK s;clear p s A z;generalize rW c0 c1 G H I J z9 z8 y7 y6 g l=a5;go_wp2_with (go_at_call 110;refine(mv).mono ?_;rintro m W ⟨rfl,rfl⟩);refine w.out.mono ?_;rintro m b0 ⟨rfl,a2,a1⟩;clear a3 a4 w;go_wp2_with fail;go_ret;exact⟨rfl,j_.M7 X.out Y.out (by simp only[az];omega) a2 a1⟩
theorem Cd(p:WL b a d h q M f n o y):
  aL ab 62 #[Pt d,.agg #[II 4,II c,II g,II l,II u,II c0,II c1,II G,II H,II I,II J,II z9,II z8,II y7,II y6,e]] b
   fun k L=>k=.returned (.bool true)/\j_ a d h q M f n y b L:=by
 have N:=fK p;clear p;go_enter func62,ntmps62;go_wp2_with fail;have O:=fO b (.cells #[II 4,II c,II g,II l,II u,II c0,II c1,II G,II H,II I,II J,II z9,II z8,II y7,II y6,e] 90);refine(HM).mono ?_;rintro k S ⟨rfl,j⟩;have z:=(gN j).1 2;have A:=(gN j).1 3;have B:=(gN j).1 5;have C:=(gN j).1 6;have D:=(gN j).1 7;have E:=(gN j).1 8;have K:=(gN j).1 9;have s:=(gN j).1 10;have t:=(gN j).1 11;have v:=(gN j).1 12;have w:=(gN j).1 13;have x:=(gN j).1 14;simp at z A B C D E K s t v w x;go_wp2_with fail;refine(Gs).mono ?_;rintro k T ⟨rfl,m⟩;have P:=fP O (fP j m);clear z A B C D E K s t v w x j m;generalize rU c0 c1 G H I J z9 z8 y7 y6 g l=Q;generalize Gm c0 c1 G H I J z9 z8 y7 y6 g l=R;go_wp2_with (go_at_call 110;refine(mv).mono ?_;rintro k L ⟨rfl,rfl⟩);go_ret;exact⟨rfl,j_.fU N.out P⟩
theorem Ro.BC{F:Nat->Prop}{e:bG}(h:Ro w e v n o)(l:gm F w b)(k:∀g a c,v.ownBlock=some g->w.heap[g]? =some (.cells a e c)->¬F g):Ro b e v n o:=by obtain⟨j,cap,rfl,q,s⟩:=h;refine⟨j,cap,rfl,fun p=>?_,s⟩;obtain⟨d,t,a,c,rfl,f,m⟩:=q p;exact⟨d,t,a,c,rfl,by rw[l.block d (bn.1 f).1 (k d a c rfl f)];exact f,m⟩
theorem jt.BC{L F:Nat->Prop}{x:gs}(h:jt L w a e c x)(j:gm F w b)(h1:¬F a)(h2:∀l,e.ownBlock=some l->¬F l)(p:∀d f g,L d->w.heap[d]? =some (.cells f 5 g)->¬F d):jt L b a e c x:=by obtain⟨u,k,m⟩:=h.runs;exact⟨by rw[j.block a h.lt h1];exact h.gK,u,⟨gM k.own j h2,k.sh,fun i o r n t=>(k.ro i o r n t).BC j fun d f g q s=>p d f g ((m o (bS n)).2 d q) s⟩,m⟩
theorem hC.BC{F:Nat->Prop}{l:Nat}{cb:Nat}{j:fV}{a:gw}(h:hC l w cb s j a)(e:gm F w b)(d:∀c,ie cb a c->¬F c)(t:∀c p q,a.u c->w.heap[c]? =some (.cells p 5 q)->¬F c):hC l b cb s j a:=by
 obtain⟨B,o⟩:=h.pk;obtain⟨z,v,m⟩:=h.py;obtain⟨A,x,n⟩:=h.p_;refine⟨h.gK.gx e (d _ (bg rfl)),⟨B,?_⟩,⟨z,v,m.same (e.block _ m.lt (d _ (bf (bf (bg rfl)))))⟩,⟨A,x,n.same (e.block _ n.lt (d _ (bf (bf (bf (bg rfl))))))⟩,h.mp,fun k g C y=>?_,h.EW,h.ne,h.apart,fun c f=>ca (h.ul c f) e.size⟩
 ·exact⟨gM o.own e (fun c f=>d c (bf (bg f))),o.sh⟩
 ·exact(h.str k g C y).BC e (d _ (bf (bf (bf (bf ⟨k,g,bg rfl⟩))))) (fun c f=>d c (bf (bf (bf (bf ⟨k,g,bf f⟩))))) t
theorem hU.BC{F:Nat->Prop}{s:gg}{m:List Nat}{v:List Nat}(h:hU a w d s f e m xs v)(k:gm F w b)(j:∀c,js d f e m xs c->¬F c)(z:∀c l n,me xs c->w.heap[c]? =some (.cells l 5 n)->¬F c):hU a b d s f e m xs v:=by obtain⟨B,A,t⟩:=h.map;exact⟨h.gK.gx k (j d (bg rfl)),⟨B,A,t.same (k.block f t.lt (j f (bf (bg rfl))))⟩,h.iD,h.jv,fun i u cb p y q o=>(h.iq i u cb p y q o).BC k (fun c g=>j c (lJ q o g)) (fun c l n g=>z c l n ⟨p,bS o,g⟩),gM h.row k (fun c g x=>j c (bf (bf (bg g))) x),h.wait,h.apart,h.AD⟩
def wW(rb:Nat)(jf ke:List Nat)(cv:aM)(k:Nat):Prop:=k=rb\/k∈jf\/k∈ke\/cv.ownBlock=some k
theorem gF.KB{F:Nat->Prop}{s:gg}{m v:List Nat}{out:List (Int×aM)}(h:gF w s a m v e C d out t)(k:gm F w b)(n:∀c,wW a m v e c->¬F c)(G:∀c g j,w.heap[c]? =some (.cells g 294 j)->¬F c)(E:∀c g j,w.heap[c]? =some (.cells g 3 j)->¬F c)
  (B:∀c g f j,d<=c->w.heap[c]? =some (.cells g f j)->f=60\/f=5->¬F c):gF b s a m v e C d out t:=by
 refine⟨?_,gM h.row k (fun c H=>n c (bf (bf (bf H)))),gM h.jN k (fun y l=>?_),⟨h.mM.1,fun i q u o p=>⟨(h.mM.2 i q u o p).1,gM (h.mM.2 i q u o p).2 k (fun y l=>?_)⟩⟩,h.iD,h.jv,h.Ga,h.Gb,fun i x cb sr D z A=>(h.iq i x cb sr D z A).gx k (n cb (bf (bg (bS z)))) (n sr (bf (bf (bg (bS A))))) G E⟩
 ·rw[k.block a (bn.1 h.iN).1 (n a (bg rfl))];exact h.iN
 ·obtain⟨x,f⟩:=fX h.jN l;exact B y _ _ _ (kL h.jN l) f (bg rfl)
 ·obtain⟨x,f⟩:=fX (h.mM.2 i q u o p).2 l;exact B y _ _ _ (kL (h.mM.2 i q u o p).2 l) f (bf rfl)
structure gU where
 sb:Nat
 cm:Nat
 wv:aM
 jf:List Nat
 xs:List gw
 ws:List Nat
 rb:Nat
 rV:List Nat
 ke:List Nat
 cv:aM
 s:gg
def gU.F(p:gU)(k:Nat):Prop:=js p.sb p.cm p.wv p.jf p.xs k\/wW p.rb p.rV p.ke p.cv k
structure ji(N:Nat)(M L:Int)(w:aK)(p:gU):Prop where
 prog:hU N w p.sb p.s p.cm p.wv p.jf p.xs p.ws
 ref:∃ov ob out ii,gF w p.s p.rb p.rV p.ke p.cv ov ob out ii
 inv:gD M L p.s
theorem ji.gx{F:Nat->Prop}{M:Int}{p:gU}(h:ji a M L w p)(k:gm F w b)(j:∀c,p.F c->¬F c)(ht:∀c f e g,w.heap[c]? =some (.cells f e g)->e=60\/e=5\/e=294\/e=3->¬F c):ji a M L b p:=by obtain⟨q,n,out,o,m⟩:=h.ref;exact⟨h.prog.gx k (fun c d=>j c (bg d)) (fun c f g d=>ht c f _ g d (by simp)),⟨q,n,out,o,m.KB k (fun c d=>j c (bf d)) (fun c f g d=>ht c f _ g d (by simp)) (fun c f g d=>ht c f _ g d (by simp)) (fun c f e g _ d l=>ht c f e g d (by rcases l with e|e<;>simp[e]))⟩,h.inv⟩
theorem ji.below{M:Int}{p:gU}(h:ji a M L w p)(c:Bw w b):ji a M L b p:=h.gx (F:=fun _=>False) (gm.fU c) (fun _ _ h=>h) (fun _ _ _ _ _ _ h=>h)
abbrev H1:=fun(a0:aK) (a1:gU) a2 a3 a4 a5 a6 a7 a8 a9 Nx Ny Nz NA NB NC=>(a0.alloc (.cells #[Pt a1.sb,Pt a1.rb] 126)).alloc (.cells #[II 6,II a2,II a3,II a4,II a5,II a6,II a7,II a8,II a9,II Nx,II Ny,II Nz,II NA,II NB,II NC,ai none 0 0] 90)
abbrev qu:=fun(a0:aK) (a1:gU)=>a0.alloc (.cells #[Pt a1.sb,Pt a1.rb] 126)
abbrev Sb:=fun a0 a1 a2 a3 a4 a5 a6 a7 a8 a9 Nx Ny Nz NA NB NC Qy=>(qu a0 a1).alloc (.cells #[II 12,II a2,II a3,II a4,II a5,II a6,II a7,II a8,II a9,II Nx,II Ny,II Nz,II NA,II NB,II NC,Qy] 90)
abbrev Fa:=fun(a0:gU)=>Obj.cells #[Pt a0.sb,Pt a0.rb] 126
def ma(e:bG):Prop:=e=85\/e=44\/e=47\/e=126\/e=60\/e=5\/e=294\/e=3
def O4(e:bG):Prop:=e=242\/e=244\/e=249\/e=252
theorem HO{m:List Nat}{v:List Nat}(g:hU a b d p f e m Q v)(h:b.heap[n]? =some (.cells D z x3))(k:z≠101)(l:z≠97)(x:z≠137)(y:z≠279)(A:z≠204)(B:z≠259):¬js d f e m Q n:=by
 rintro(c|c|c|⟨o,s,q,t,u,w⟩)
 ·exact j' g h k l (bg c)
 ·exact j' g h k l (bf (bg c))
 ·exact j' g h k l (bf (bf c))
 ·obtain⟨j,C⟩:∃j,p.fN[o]? =some j:=⟨_,ap (by rw[<-g.iD];grind)⟩;exact jr (g.iq o j s q C t u) h x y A B w
theorem ny{m:List Nat}{v:List Nat}(c:hU a b d p f e m Q v)(h:b.heap[n]? =some (.cells D z x3))(g:ma z\/O4 z):¬js d f e m Q n:=by rcases g with(rfl|rfl|rfl|rfl|rfl|rfl|rfl|rfl) |(rfl|rfl|rfl|rfl)<;>exact HO c h (by decide) (by decide) (by decide) (by decide) (by decide) (by decide)
theorem sT{m v:List Nat}{out:List (Int×aM)}(c:gF b p a m v e h d out t)(k:wW a m v e f):∃q g,b.heap[f]? =some (.cells q g (0,0))/\O4 g:=by
 rcases k with rfl|k|k|k
 ·exact⟨_,_,c.iN,bg rfl⟩
 ·obtain⟨i,hi⟩:=eF k;have l:=(bo.1 hi).1;obtain⟨j,n⟩:∃j,p.fN[i]? =some j:=⟨_,ap (by rw[<-c.iD];exact l)⟩;obtain⟨sr,u⟩:∃sr,v[i]? =some sr:=⟨_,ap (by rw[c.jv,<-c.iD];exact l)⟩;obtain⟨w,x,g⟩:=(c.iq i j f sr n hi u).cb;exact⟨_,_,g,bf (bf (bg rfl))⟩
 ·obtain⟨i,hi⟩:=eF k;have l:=(bo.1 hi).1;obtain⟨j,n⟩:∃j,p.fN[i]? =some j:=⟨_,ap (by rw[<-c.jv];exact l)⟩;obtain⟨cb,s⟩:∃cb,m[i]? =some cb:=⟨_,ap (by rw[c.iD,<-c.jv];exact l)⟩;obtain⟨o,g⟩:=(c.iq i j cb f n s hi).sr;exact⟨_,_,g,bf (bf (bf rfl))⟩
 ·obtain⟨o,g⟩:=fX c.row k;exact⟨_,_,g,bf (bg rfl)⟩
theorem lI{m v:List Nat}{out:List (Int×aM)}(j:gF b p a m v e h d out t)(l:b.heap[f]? =some (.cells D z x3))(k:ma z):¬wW a m v e f:=by intro n;obtain⟨o,q,g,c⟩:=sT j n;rw[l]at g;simp only[Option.some.injEq,Obj.cells.injEq]at g;obtain⟨_,rfl,_⟩:=g;rcases k with rfl|rfl|rfl|rfl|rfl|rfl|rfl|rfl<;>(rcases c with c|c|c|c<;>revert c<;>decide)
theorem ji.lt{M:Int}{p:gU}(h:ji a M L w p)(b:p.F k):k<w.heap.size:=by
 rcases b with b|b
 ·exact Bu h.prog b
 ·obtain⟨l,g,out,j,c⟩:=h.ref;obtain⟨d,e,f,_⟩:=sT c b;grind
theorem ji.law{M:Int}{p:gU}(h:ji a M L w p){e:bG}(d:w.heap[k]? =some (.cells D e x3))(c:ma e):¬p.F k:=by
 rintro(b|b)
 ·exact ny h.prog d (bg c) b
 ·obtain⟨l,g,out,j,f⟩:=h.ref;exact lI f d c b
theorem ji.mono{M:Int}{p:gU}(h:ji a M L w p)(d:a<=N')(c:M<=M')(b:L<=L'):ji N' M' L' w p:=⟨h.prog.mono d,h.ref,h.inv.mono c b⟩
def jX(ps:List gU):List aM:=ps.flatMap fun p=>[Pt p.sb,Pt p.rb]
theorem tB{z4:List gU}{z3 a:gU}(hi:z4[i]? =some z3)(b:a.sb=z3.sb)(c:a.rb=z3.rb):jX (z4.set i a)=jX z4:=by
 induction z4 generalizing i with
 |nil=>rfl
 |cons e r d=>
  cases i with
  |zero=>simp only[List.getElem?_cons_zero,Option.some.injEq]at hi;subst hi;simp[jX,b,c]
  |succ i=>have:=d (i:=i) (by simpa using hi);simp only[jX,List.set_cons_succ,List.flatMap_cons]at this⊢;rw[this]
structure iF(N:Nat)(M L:Int)(w:aK)(base bw k m:Nat)(lv vb vs:aM)(qn mr:List aM)(ps:List gU):Prop where
 wl:WL w base bw lv vb vs k m qn mr
 NF:base<=w.heap.size
 tZ:w.ownsRow base 126 2 lv ps.length (jX ps)
 pair:∀(i:Nat) p,ps[i]? =some p->ji N M L w p
 low:∀(i:Nat) p k,ps[i]? =some p->p.F k->base<=k
 apart:∀(i j:Nat) p q k,i≠j->ps[i]? =some p->ps[j]? =some q->p.F k->¬q.F k
theorem iF.og{M:Int}{b:aM}{z4:List gU}(h:iF a M L w base d k m e b q o y z4):base<=w.heap.size:=h.NF
def rR(base bw q:Nat):Prop:=q=bw\/base<=q
theorem iF.mono{M:Int}{b:aM}{z4:List gU}(h:iF a M L w base d k m e b q o y z4)(g:a<=N')(f:M<=M')(c:L<=L'):iF N' M' L' w base d k m e b q o y z4:=
 ⟨h.wl,h.NF,h.tZ,fun i l j=>(h.pair i l j).mono g f c,h.low,h.apart⟩
def mY(bw:Nat)(vb vs:aM)(q:Nat):Prop:=q=bw\/vb.ownBlock=some q\/vs.ownBlock=some q
theorem WL.type{f:aM}(h:WL w base a e f q k m o y)(c:mY a f q d):∃j b,w.heap[d]? =some (.cells j b (0,0))/\(b=85\/b=44\/b=47):=by
 rcases c with rfl|c|c
 ·exact⟨_,_,h.gK,bg rfl⟩
 ·obtain⟨g,b⟩:=fX h.oT c;grind
 ·obtain⟨g,b⟩:=fX h.sO c;grind
theorem WL.B'{f b:aM}(h:WL w base a f b q k m o y){e:bG}(u:w.heap[d]? =some (.cells D e x3))(p:e≠85)(s:e≠44)(t:e≠47):¬mY a b q d:=by intro c;obtain⟨g,j,l,n⟩:=h.type c;grind
theorem iF.own{N:Nat}{M:Int}{k' m':Nat}{Qb CU:aM}{Hy LK:List aM}{ps:List gU}(h:iF N M L w base bw k m lv vb vs qn mr ps)(hc:gm (mY bw vb vs) w w')(hw:WL w' base bw lv Qb CU k' m' Hy LK):iF N M L w' base bw k' m' lv Qb CU Hy LK ps where
 wl:=hw
 NF:=bZ h.NF hc.size
 tZ:=gI h.tZ hc (fun q cur fr hq=>h.wl.B' hq (by decide) (by decide) (by decide))
 pair:=fun i p hp=>(h.pair i p hp).gx hc (fun q hq hF=>by
  obtain⟨c,e,h1,h2⟩:=h.wl.type hF;exact(h.pair i p hp).law h1 (by rcases h2 with rfl|rfl|rfl<;>simp[ma]) hq) (fun q cur e fr hq he=>by
  rcases he with rfl|rfl|rfl|rfl<;>exact h.wl.B' hq (by decide) (by decide) (by decide))
 low:=h.low
 apart:=h.apart
theorem iF.below{M:Int}{f:aM}{z4:List gU}(h:iF a M L w base d k m e f q o y z4)(c:Bw w b):iF a M L b base d k m e f q o y z4:=h.own (gm.fU c) (h.wl.below c)
theorem iF.plain{M:Int}{z4:List gU}(h:iF a M L w base d k m e j q o y z4)(s:j_ base d e j q k m y w b):∃c g f,c<=k+4/\iF a M L b base d c m e g q f y z4:=by obtain⟨⟨c,g,f,p,t⟩,n⟩:=s;exact⟨c,g,f,p,h.own (n.mono fun u _ l=>l.imp id bg) t⟩
theorem iF.LW{M:Int}{I:aM}{z4:List gU}(h:iF a M L w base d k m e I q o y z4){p z3:gU}(hi:z4[i]? =some p)(t:gm p.F w b)(N:ji a M L b z3)(C:∀f,z3.F f->p.F f\/w.heap.size<=f)(h1:z3.sb=p.sb)(h2:z3.rb=p.rb):iF a M L b base d k m e I q o y (z4.set i z3):=by
 have A:=h.pair i p hi;have u:i<z4.length:=(bo.1 hi).1;refine⟨h.wl.typed t (fun f E J G c B=>A.law c (by rcases B with rfl|rfl|rfl|rfl|rfl<;>simp[ma])),bZ h.NF t.size,?_,fun j f c=>?_,fun j f r c g=>?_,fun j z f D r v c s g x=>?_⟩
 ·rw[List.length_set,tB hi h1 h2];exact gI h.tZ t (fun f E G c=>A.law c (by simp[ma]))
 ·by_cases n:i=j
  ·subst n;rw[eC u,Option.some.injEq]at c;subst c;exact N
  ·rw[eB n]at c;exact(h.pair j f c).gx t (fun r g K=>h.apart i j p f r n hi c K g) (fun r E J G g B=>A.law g (by rcases B with rfl|rfl|rfl|rfl<;>simp[ma]))
 ·by_cases n:i=j
  ·subst n;rw[eC u,Option.some.injEq]at c;subst c;rcases C r g with l|l
   ·exact h.low i p r hi l
   ·exact bZ h.og l
  ·rw[eB n]at c;exact h.low j f r c g
 ·by_cases n:i=j
  ·subst n;rw[eC u,Option.some.injEq]at c;subst c;rw[eB v]at s;rcases C r g with l|l
   ·exact h.apart i z p D r v hi s l x
   ·have:=(h.pair z D s).lt x;omega
  ·rw[eB n]at c;by_cases H:i=z
   ·subst H;rw[eC u,Option.some.injEq]at s;subst s;rcases C r x with l|l
    ·exact h.apart j i f p r v c hi g l
    ·have:=(h.pair j f c).lt g;omega
   ·rw[eB H]at s;exact h.apart j z f D r v c s g x
theorem I3:(ab.info? 126).map (fun i=>(i.zero,i.size,i.bytes))=some (some (.agg #[ag none,ag none]),2,16):=by kernel_rfl
theorem WL.On{z:aM}(h:WL w base a e z q k m o y):WL (w.setCell (Ad a 0) M) base a M z q k m o y:=by
 have g:gm (· = a) w (w.setCell (Ad a 0) M):=go (Below.refl _ _) _ _;have j:∀b c l d,w.heap[b]? =some (.cells c l d)->l≠85->¬b=a:=by intro b c l d f B A;rw[A,h.gK]at f;grind
 refine⟨by rw[fT h.gK _ _];rfl,h.k4,h.m4,gI h.oT g (fun b c d f=>j b c _ d f (by decide)),gI h.sO g (fun b c d f=>j b c _ d f (by decide)),fun i x u=>?_,fun i x u=>?_⟩
 ·rcases h.Fi i x u with n|⟨v,p,s,t⟩
  ·exact bg n
  ·exact bf ⟨v,p,s,gI t g (fun b c d f=>j b c _ d f (by decide))⟩
 ·rcases h.GS i x u with n|⟨v,p,s,t⟩
  ·exact bg n
  ·exact bf ⟨v,p,s,gI t g (fun b c d f=>j b c _ d f (by decide))⟩
theorem F6{z4:List gU}{z3:gU}(u:iF a c g b d f n A e h q o y z4)(I:Bw b w)(V:ji a c g w z3)(W:∀j,z3.F j->b.heap.size<=j)
  (a0:z5.ownsRow d 126 2 M (z4.length+1) (jX z4++[Pt z3.sb,Pt z3.rb])) (X:(qu w z3).grownBy z5 e.ownBlock):
  z5.heap[f]? =some (.cells #[e,h,q] 85 (0,0))/\iF a c g (z5.setCell (Ad f 0) M) d f n A M h q o y (z4++[z3])/\gm (rR d f) b (z5.setCell (Ad f 0) M):=by
 have x:=u.below I;have B:w.grownBy z5 e.ownBlock:=ga X;have C:gm (fun j=>e.ownBlock=some j) w z5:=⟨B.os,B.tape,B.output,B.size,fun j k Y=>B.block j k (fun l=>Y l.symm)⟩;have L:∀j m l p,w.heap[j]? =some (.cells m l p)->l≠126->¬e.ownBlock=some j:=fun j m l p k t a1=>fR x.tZ k (fun v=>t v.symm) a1;have E:WL z5 d f e h q n A o y:=x.wl.typed C (fun j m l p k t=>L j m l p k (by rcases t with rfl|rfl|rfl|rfl|rfl<;>decide));have D:gm (· = f) z5 (z5.setCell (Ad f 0) M):=go (Below.refl _ _) _ _;have K:∀j m l p,z5.heap[j]? =some (.cells m l p)->l≠85->¬j=f:=by intro j m l p k t v;rw[v,E.gK]at k;grind
 have w_:∀{j:gU},ji a c g w j->ji a c g (z5.setCell (Ad f 0) M) j:=by intro j k;have O:ji a c g z5 j:=k.gx C (fun r s H=>by obtain⟨a2,l⟩:=fX x.tZ H;exact k.law l (by simp[ma]) s) (fun r m l p s t=>L r m l p s (by rcases t with rfl|rfl|rfl|rfl<;>decide));exact O.gx D (fun r s H=>by subst H;exact O.law E.gK (by simp[ma]) s) (fun r m l p s t=>K r m l p s (by rcases t with rfl|rfl|rfl|rfl<;>decide))
 have z:∀{i:Nat} {j:gU},(z4++[z3])[i]? =some j->z4[i]? =some j\/(i=z4.length/\j=z3):=by grind
 refine⟨E.gK,⟨E.On,bZ (bZ (bZ u.NF I.size) C.size) D.size,?_,fun i j k=>?_,fun i j r k s=>?_,fun i Q j R r Z k N s P=>?_⟩,?_⟩
 ·have v:jX (z4++[z3])=jX z4++[Pt z3.sb,Pt z3.rb]:=by simp[jX]
  rw[v,List.length_append];exact gI a0 D (fun j m p k=>K j m _ p k (by decide))
 ·rcases z k with k|⟨_,rfl⟩
  ·exact w_ (x.pair i j k)
  ·exact w_ V
 ·rcases z k with k|⟨_,rfl⟩
  ·exact u.low i j r k s
  ·exact bZ u.og (W r s)
 ·rcases z k with J|⟨l,a3⟩
  ·rcases z N with G|⟨S,T⟩
   ·exact u.apart i Q j R r Z J G s P
   ·have U:=(u.pair i j J).lt s;grind
  ·rcases z N with G|⟨S,T⟩
   ·have U:=(u.pair Q R G).lt P;grind
   ·omega
 ·refine((gm.fU I).andThen C ?_).andThen D ?_
  ·intro j k l;exact bf (kL x.tZ l)
  ·intro j k l;exact bg l
theorem MQ(c:b.heap[a]? =some (.cells (gh (mq s) (ai none 0 0) (ai none 0 0)) 242 (0,0))):gF b (mq s) a [] [] (ai none 0 0) (ai none 0 0) 0 [] []:=
 ⟨c,ak _ _ _ _,ak _ _ _ _,⟨rfl,fun i g h e=>(by simp at e)⟩,rfl,rfl,List.nodup_nil,List.nodup_nil,fun i f cb sr d=>(by simp[mq]at d)⟩
def rA(g:g_)(sb cm rb:Nat):gU:=⟨sb,cm,ai none 0 0,[],[],[],rb,[],[],ai none 0 0,mq g⟩
theorem Je(e:n<=a)(g:n<=d)(h:n<=f):∀c,(rA s a d f).F c->n<=c:=by
 rintro c ((rfl|rfl|b|⟨i,cb,j,b,_⟩) |(rfl|b|b|b))
 ·exact e
 ·exact g
 ·simp[rA,aq]at b
 ·simp[rA]at b
 ·exact h
 ·simp[rA]at b
 ·simp[rA]at b
 ·simp[rA,aq]at b
theorem N8(a:aK):(binOp .eql 37 (ag none) (ag none)).run ab a=.ok (.bool true) a:=by kernel_rfl
theorem N9(a:aK):(binOp .eql 124 (ag none) (ag none)).run ab a=.ok (.bool true) a:=by kernel_rfl
theorem N_(a:aK):(binOp .neq 124 (ag none) (ag none)).run ab a=.ok (.bool false) a:=by kernel_rfl
theorem Oa(b:Nat)(a:aK):(binOp .eql 37 (Pt b) (ag none)).run ab a=.ok (.bool false) a:=by kernel_rfl
theorem Ob(b:Nat)(a:aK):(binOp .eql 124 (Pt b) (ag none)).run ab a=.ok (.bool false) a:=by kernel_rfl
theorem Oc(b:Nat)(a:aK):(binOp .neq 124 (Pt b) (ag none)).run ab a=.ok (.bool true) a:=by kernel_rfl
theorem Jh{E:Int}{z4:List gU}(p:iF a x E b d f n A h q M o y z4)(d3:0<=x)(d2:0<=E)(e7:z4.length<=1000000000000):
  aL ab 62 #[Pt f,.agg #[II 5,II c,II g,II l,II u,II s.c0,II s.c1,II s.c2,II s.c3,II s.c4,II s.c5,II s.c6,II s.c7,II s.c8,II s.c9,e]] b
   fun m R=>m=.returned (.bool true)/\(∃d9 Q,Q.length<=z4.length+1/\z4.length<=Q.length/\(s.right=true->0<Q.length)/\iF a x E R d f n A d9 q M o y Q)/\gm (rR d f) b R:=by
 obtain⟨d8,hi,d5,d6,d7⟩:=aP I3;obtain⟨a0,a1,d4⟩:=gr p.tZ;subst d4;have v:=fK p;clear p;have T:=fK (fun U=>LH (s:=s) (b:=U));have O:=fK (fun U=>Lt (s:=s) (b:=U));obtain⟨r,X⟩:∃r,s.right=r:=⟨_,rfl⟩;unfold xq at T;unfold Bp at O;rw[X]at T O;have Z:=fK X;clear X;go_enter func62,ntmps62;go_wp2_with fail;have w:=fO b (.cells #[II 5,II c,II g,II l,II u,II s.c0,II s.c1,II s.c2,II s.c3,II s.c4,II s.c5,II s.c6,II s.c7,II s.c8,II s.c9,e] 90);refine(T.out _).mono ?_;cases r with
 |false=>rintro m e2 ⟨rfl,j⟩;have H:=(gN j).1 5;have I:=(gN j).1 6;have J:=(gN j).1 7;have K:=(gN j).1 8;have L:=(gN j).1 9;have z:=(gN j).1 10;have B:=(gN j).1 11;have C:=(gN j).1 12;have D:=(gN j).1 13;have G:=(gN j).1 14;simp at H I J K L z B C D G;go_wp2_with fail;refine(O.out _).mono ?_;rintro m S ⟨rfl,t⟩;have k:=fP w (fP j t);clear H I J K L z B C D G j t;have b5:=N8;have b6:=N9;have b7:=N_;have N:=fK k;clear k w;go_wp2_with (go_at_call 110;refine(mv).mono ?_;rintro m R ⟨rfl,rfl⟩);go_ret;exact⟨rfl,⟨_,z4,by omega,by omega,fun p=>(by rw[Z.out]at p;cases p),v.out.below N.out⟩,gm.fU N.out⟩
 |true=>
  rintro m e2 ⟨e1,d1,rfl,a3,b3,a7,j⟩;have H:=(gN j).1 5;have I:=(gN j).1 6;have J:=(gN j).1 7;have K:=(gN j).1 8;have L:=(gN j).1 9;have z:=(gN j).1 10;have B:=(gN j).1 11;have C:=(gN j).1 12;have D:=(gN j).1 13;have G:=(gN j).1 14;simp at H I J K L z B C D G;go_wp2_with fail;refine(O.out _).mono ?_;rintro m S ⟨e0,rfl,b0,t,b2⟩;have a5:=fP j t;have k:=fP w a5;have b4:=j.size;have P:b.heap.size<=(b.alloc (.cells #[II 5,II c,II g,II l,II u,II s.c0,II s.c1,II s.c2,II s.c3,II s.c4,II s.c5,II s.c6,II s.c7,II s.c8,II s.c9,e] 90)).heap.size:=w.size;have a4:ji a x E S (rA s e1 d1 e0):=⟨(a3.below t).mono (be _),⟨_,_,_,_,MQ b2⟩,(MP (g_.LD Z.out)).mono d3 d2⟩;have a2:=Je (s:=s) (bZ P b3) (bZ P a7) (bZ P (bZ b4 b0));have d0:=fK a4;have b8:=fK a2;clear H I J K L z B C D G j t a3 b3 a7 b0 b2 a5 b4 P a4 a2;have b5:=Oa;have b6:=Ob;have b7:=Oc;have N:=fK k;have b1:=(v.out.below k).tZ;have e8:d<=S.heap.size:=bZ v.out.og k.size;have c0:CV S f 0 (.slice a0 z4.length a1):=by simp[aD,(v.out.below k).wl.gK]
  clear k w;go_wp2_with (first |(go_at_call 110;refine(mv).mono ?_;rintro m R ⟨rfl,rfl⟩) |(at_builtin;refine od rfl _ _ _ rfl _ _ d8 _ _ _ underlying82 hi d5 d6 d7 rfl (by decide) _ _ _ rfl (b1.alloc _) _ 1 1 _ rfl rfl (gY (by simp[aO])) (by simp[bM]) (by unfold aO;omega) (by omega) (by simp;omega) ?_;intro e9 Y W a8 _;refine Hid.out ?_));refine fK ?_;obtain⟨V,a9,a6⟩:=F6 v.out N.out d0.out b8.out W a8;have e5:CV Y f 0 (.slice a0 z4.length a1):=by simp[aD,V]
  have e6:mc Y f 0:=frozen_of_row Y f 0 _ _ V;obtain⟨e3,e4,rfl⟩:=gr W;have b9:=fK a9;have c4:=fK a6;clear W a8 V a9 a6 b1 c0 b5 b6 b7;go_wp2_with fail;go_ret;exact⟨rfl,⟨_,_,by simp,by simp,fun _=>by simp,b9.out⟩,c4.out⟩
def pK(N:Nat)(M L:Int)(base bw k m n:Nat)(w w':aK):Prop:=(∃k' m' lv vb vs qn mr ps,k'<=k+4004/\m'<=m+4/\ps.length<=n+1/\n<=ps.length/\iF N M L w' base bw k' m' lv vb vs qn mr ps)/\gm (rR base bw) w w'
theorem iF.out{M:Int}{c:aM}{z4:List gU}(h:iF a M L b base d k m e c q o y z4)(g:z4.length=n)(f:gm (rR base d) w b):pK a M L base d k m n w b:=⟨⟨k,m,e,c,q,o,y,z4,by omega,by omega,by omega,by omega,h⟩,f⟩
def PW(p:gU)(bw:Nat)(vb vs:aM)(q:Nat):Prop:=p.F q\/mY bw vb vs q
def kx(N:Nat)(M L:Int)(base bw k m n:Nat)(lv:aM)(F:Nat->Prop)(w w':aK):Prop:=(∃k' m' vb vs qn mr ps,k'<=k+4004/\m'<=m+4/\ps.length=n/\iF N M L w' base bw k' m' lv vb vs qn mr ps)/\gm F w w'
theorem iF.yL{M:Int}{F:Nat->Prop}{c:aM}{z4:List gU}(h:iF a M L b base d k m e c q o y z4)(g:z4.length=n)(f:gm F w b):kx a M L base d k m n e F w b:=⟨⟨k,m,c,q,o,y,z4,by omega,by omega,g,h⟩,f⟩
theorem kx.pre{M:Int}{F:Nat->Prop}{c:aK}(h:kx a M L base d k m n e F b c)(f:Bw w b):kx a M L base d k m n e F w c:=⟨h.1,(gm.fU f).trans h.2⟩
theorem kx.step{M:Int}{F:Nat->Prop}(h:kx a M L base d k m n e F w b)(o:∀c,F c->rR base d c):pK a M L base d k m n w b:=by obtain⟨⟨q,s,x,y,v,u,t,g,j,z,l⟩,p⟩:=h;exact⟨⟨q,s,e,x,y,v,u,t,g,j,by omega,by omega,l⟩,p.mono fun c _ f=>o c f⟩
theorem iF.PE{M:Int}{f:aM}{z4:List gU}(h:iF a M L w base d k m e f q o y z4){p:gU}(hi:z4[i]? =some p)(c:Nat)(g:PW p d f q c):rR base d c:=by
 rcases g with b|b|b|b
 ·exact bf (h.low i p c hi b)
 ·exact bg b
 ·exact bf (kL h.wl.oT b)
 ·exact bf (kL h.wl.sO b)
theorem jF.mem(h:jF s):(0<=s.c1/\s.c1<=4096)/\(0<=s.c3/\s.c3<=8):=by have a:=h.c1;have b:=h.c3;omega
theorem Cb{z3:gU}(d:ji a c g b z3):aL ab 28 #[Pt z3.sb] b fun e h=>e=.returned (II (ls z3.s))/\Bw b h:=by
 obtain⟨m,_,j⟩:=d.prog.map;have f:((z3.s.fN.map (·.fZ)).zip z3.jf).length=z3.s.fN.length:=by simp[d.prog.iD]
 have l:=d.inv.tz;have k:=d.inv.cfg.c0;refine(sM d.prog.gK j (by rw[f];omega) d.inv.cfg.mem.1 d.inv.cfg.mem.2).mono ?_;rintro e h ⟨rfl,n,rfl⟩;rw[f];exact⟨rfl,fQ (Below.refl _ _) _⟩
theorem Ca{z3:gU}(d:ji a c g b z3):aL ab 121 #[Pt z3.rb] b fun e h=>e=.returned (II (ls z3.s))/\Bw b h:=by obtain⟨n,l,out,m,f⟩:=d.ref;have k:=d.inv.tz;have j:=d.inv.cfg.c0;refine(Gr f d.inv.cfg (by omega)).mono ?_;grind
theorem zD{z4:List gU}{p:gU}(t:iF a x5 x4 b d f n A h q M o y z4)(hi:z4[i]? =some p):
  aL ab 63 #[Pt f,.agg #[Pt p.sb,Pt p.rb],.agg #[II 8,II c,II g,II l,II u,II c0,II c1,II G,II H,II I,II J,II z9,II z8,II y7,II y6,e]] b
   fun k m=>k=.returned (.bool true)/\kx a x5 x4 d f n A z4.length h (PW p f q M) b m:=by
 have L:Hid (∀j,Bw b j->aL ab 28 #[Pt p.sb] j fun k m=>k=.returned (II (ls p.s))/\Bw j m):=fun j v=>Cb ((t.pair i p hi).below v);have K:Hid (∀j,Bw b j->aL ab 121 #[Pt p.rb] j fun k m=>k=.returned (II (ls p.s))/\Bw j m):=fun j v=>Ca ((t.pair i p hi).below v);have E:=fK t;clear t;go_enter func63,ntmps63;go_wp2_with fail;have w:=fP (fO b (Fa p)) (fO (qu b p) (.cells #[II 8,II c,II g,II l,II u,II c0,II c1,II G,II H,II I,II J,II z9,II z8,II y7,II y6,e] 90));refine(L.out _ w).mono ?_;rintro k N ⟨rfl,z⟩;have D:=z.cell (p:=gf b 1) (by simp;omega);simp at D;have x:=fP w z;go_wp2_with fail;refine(K.out _ x).mono ?_;rintro k O ⟨rfl,C⟩;have B:=fK (fP x C);clear D w z C x;generalize ls p.s=P;go_wp2_with fail;go_ret;exact⟨rfl,(E.out.below B.out).yL rfl (gm.fU B.out)⟩
theorem ji.mo{M:Int}{p:gU}(h:ji a M L w p)(t:gm (js p.sb p.cm p.wv p.jf p.xs) w b):∃g e out f,gF b p.s p.rb p.rV p.ke p.cv g e out f:=by obtain⟨g,e,out,f,l⟩:=h.ref;refine⟨g,e,out,f,l.KB t (fun j c q=>?_) (fun j d k c=>ny h.prog c (bg (by simp[ma]))) (fun j d k c=>ny h.prog c (bg (by simp[ma]))) (fun j d m k _ c u=>ny h.prog c (bg (by rcases u with rfl|rfl<;>simp[ma])))⟩;obtain⟨d,m,n,o⟩:=sT l c;exact ny h.prog n (bf o) q
theorem hU.mo{s:gg}{m:List Nat}{v:List Nat}(h:hU a w d s f e m xs v){g:aM}{out:List (Int×aM)}(j:gF w p n w4 v5 g q A out t)(x:gm (wW n w4 v5 g) w b):hU a b d s f e m xs v:=by refine h.gx x (fun y c u=>?_) (fun y k B c=>lI j c (by simp[ma]));obtain⟨k,z,l,o⟩:=sT j u;exact ny h l (bf o) c
theorem vQ{z3:gU}{m:List Nat}{v:List Nat}{out:List (Int×aM)}{t6:List (Int×List Int)}(n:hU a w z3.sb p z3.cm e m Q v)(u:∀j,js z3.sb z3.cm e m Q j->js z3.sb z3.cm z3.wv z3.jf z3.xs j\/b.heap.size<=j)(o:gm (js z3.sb z3.cm z3.wv z3.jf z3.xs) b w)
  (z:gF w z3.s z3.rb z3.rV z3.ke z3.cv q d out t) (A:gF z5 p z3.rb w4 v5 h M f v3 t6) (l:gm (wW z3.rb z3.rV z3.ke z3.cv) w z5) (x:∀j,wW z3.rb w4 v5 h j->wW z3.rb z3.rV z3.ke z3.cv j\/b.heap.size<=j) (y:gD c g p):
  ji a c g z5 ⟨z3.sb,z3.cm,e,m,Q,v,z3.rb,w4,v5,h,p⟩/\gm z3.F b z5/\∀j,(gU.mk z3.sb z3.cm e m Q v z3.rb w4 v5 h p).F j->z3.F j\/b.heap.size<=j:=by
 refine⟨⟨n.mo z l,⟨_,_,_,_,A⟩,y⟩,(o.mono fun j _ k=>bg k).andThen l (fun j _ k=>bf k),?_⟩;rintro j (k|k)
 ·exact(u j k).imp bg id
 ·exact(x j k).imp bf id
theorem F4{z4:List gU}{z3:gU}(m:iF a c g b d f n A e h q o y z4)(hi:z4[i]? =some z3)(k:zo a b z3.sb z3.cm z3.wv z3.jf z3.xs (jV z3.s).2.2 M v2 w)(l:Bw w z5):
  aL ab 122 #[Pt z3.rb] z5 fun v2 H=>v2=.returned (.tuple #[II (jV z3.s).1,II (jV z3.s).2.1])/\kx a c g d f n A z4.length e (PW z3 f h q) b H:=by
 have j:=m.pair i z3 hi;obtain⟨R,I,S,Q,x,C,_⟩:=k.ex;obtain⟨O,L,out,N,E⟩:=j.mo k.gx;have t:=E.below l;have K:=j.inv.tz;have J:=j.inv.cfg.c0;refine(Gp t (by omega)).mono ?_;rintro v2 P ⟨rfl,G,z⟩;have B:gm (js z3.sb z3.cm z3.wv z3.jf z3.xs) b z5:=k.gx.trans (gm.fU l);obtain⟨D,p,v⟩:=vQ (x.below l) C B t G (z.mono fun u _ v2=>bf (bg v2)) (fun u v2=>bg v2) (Fe j.inv);exact⟨rfl,(m.LW hi p D v rfl rfl).yL (by simp) (p.mono fun u _ v2=>bg v2)⟩
theorem I7{z4:List gU}{z3:gU}(u:iF a c g b d f n A e h q o y z4)(hi:z4[i]? =some z3)(K:z3.s.now<=l)(v:l<=1000000000)(m:zo a b z3.sb z3.cm z3.wv z3.jf z3.xs (vy z3.s l) M v2 w)(p:Bw w z5):
  aL ab 120 #[Pt z3.rb,II l] z5 fun v2 Q=>v2=.returned (II 0)/\kx a c g d f n A z4.length e (PW z3 f h q) b Q:=by
 have j:=u.pair i z3 hi;obtain⟨a4,R,a5,a3,C,J,_⟩:=m.ex;obtain⟨a0,Y,out,Z,O⟩:=j.mo m.gx;have x:=O.below p;have V:=j.inv.tz;have U:=j.inv.cfg.c0;have L:=j.inv.now;have W:=m.gx.size;have X:=p.size;refine(Jk x (by omega) (fun z t=>(j.inv.ok z t).heard) L.1 K v).mono ?_;rintro v2 a2 ⟨rfl,S,a1,T,P,D,G,H,I⟩;have E:gm (js z3.sb z3.cm z3.wv z3.jf z3.xs) b z5:=m.gx.trans (gm.fU p);obtain⟨N,t,B⟩:=vQ (C.below p) J E x P (D.mono fun k _ v2=>bg v2) (fun k v2=>by
  rcases v2 with v2|v2|v2|v2
  ·exact bg (bg v2)
  ·exact bg (bf (bg (G k v2)))
  ·exact bg (bf (bf (bg (H k v2))))
  ·rcases I k v2 with v2|v2
   ·exact bg (bf (bf (bf v2)))
   omega) (Ie j.inv ⟨by omega,v⟩)
 exact⟨rfl,(u.LW hi t N B rfl rfl).yL (by simp) (t.mono fun k _ v2=>bg v2)⟩
theorem jG{z3:gU}(j:ji f c g w z3)(l:gm (js z3.sb z3.cm z3.wv z3.jf z3.xs) b z5)(m:w.heap.size<=d)(k:d<b.heap.size)(e:Nat):z5.cell? (Ad d e)=b.cell? (Ad d e):=
 cn (w:=b) (a:=Ad d e) (l.block d k fun h=>by have:=j.lt (bg h);omega)
theorem zv{z4:List gU}{z3:gU}(p:iF a c g b d f n A e h q o y z4)(hi:z4[i]? =some z3)(C:l<z3.s.now\/1000000000<l)(j:zo a b z3.sb z3.cm z3.wv z3.jf z3.xs z3.s M v2 w)(k:Bw w z5):
  aL ab 120 #[Pt z3.rb,II l] z5 fun v2 H=>v2=.returned (II 2)/\kx a c g d f n A z4.length e (PW z3 f h q) b H:=by
 have u:=p.pair i z3 hi;obtain⟨P,I,Q,O,x,B,_⟩:=j.ex;obtain⟨L,J,out,K,E⟩:=u.mo j.gx;have m:=E.below k;refine(Gq (by simp[aD,m.iN,gh,g_.cells]) C).mono ?_;rintro v2 N ⟨rfl,rfl⟩;have z:gm (js z3.sb z3.cm z3.wv z3.jf z3.xs) b z5:=j.gx.trans (gm.fU k);obtain⟨D,t,v⟩:=vQ (x.below k) B z m m (gm.refl _ _) (fun G v2=>bg v2) u.inv;exact⟨rfl,(p.LW hi t D v rfl rfl).yL (by simp) (t.mono fun G _ v2=>bg v2)⟩
theorem F7:∃a b d e f g h,lO p c=(#[.bool a,II b,II d,II e,II f,II g],h):=by
 unfold lO;split
 ·exact⟨_,_,_,_,_,_,_,rfl⟩
 ·split
  ·exact⟨_,_,_,_,_,_,_,rfl⟩
  ·exact⟨_,_,_,_,_,_,_,rfl⟩
theorem zC{z4:List gU}{z3:gU}(x:iF a x5 x4 b d f n A h C M o y z4)(hi:z4[i]? =some z3):
  aL ab 63 #[Pt f,.agg #[Pt z3.sb,Pt z3.rb],.agg #[II 9,II c,II g,II l,II u,II c0,II c1,II G,II H,II I,II J,II z9,II z8,II y7,II y6,e]] b
   fun j D=>j=.returned (.bool true)/\kx a x5 x4 d f n A z4.length h (PW z3 f C M) b D:=by
 have v:=fK x;clear x;go_enter func63,ntmps63;go_wp2_with fail;have p:=fP (fO b (Fa z3)) (fO (qu b z3) (.cells #[II 9,II c,II g,II l,II u,II c0,II c1,II G,II H,II I,II J,II z9,II z8,II y7,II y6,e] 90));have m:=v.out.below p;have t:=m.pair i z3 hi;refine(Ey t.prog t.inv).mono ?_;intro j L k;have B:=jG (v.out.pair i z3 hi) k.gx (d:=b.heap.size) (ar _) (by simp;omega) 1;simp at B;have w:=fK (F4 m hi k (Below.refl _ L));obtain rfl:=k.ret;have E:=fK p;clear k m t p;go_wp2_with fail;refine w.out.mono ?_;rintro j N ⟨rfl,z⟩;have K:=fK z;clear w z B;generalize (jV z3.s).1=O;generalize (jV z3.s).2.1=P;go_wp2_with (go_at_call 110;refine(mv).mono ?_;rintro j D ⟨rfl,rfl⟩);go_ret;exact⟨rfl,K.out.pre E.out⟩
theorem Co{z4:List gU}{z3:gU}(z:iF a x5 x4 b d f n A h K M o y z4)(hi:z4[i]? =some z3)(C:z3.s.now<=g/\g<=1000000000):
  aL ab 63 #[Pt f,.agg #[Pt z3.sb,Pt z3.rb],.agg #[II 7,II c,II g,II l,II u,II c0,II c1,II G,II H,II I,II J,II z9,II z8,II y7,II y6,e]] b
   fun m L=>m=.returned (.bool true)/\kx a x5 x4 d f n A z4.length h (PW z3 f K M) b L:=by
 have p:=fK z;have k:=fK C;clear z C;go_enter func63,ntmps63;go_wp2_with fail;have v:=fP (fO b (Fa z3)) (fO (qu b z3) (.cells #[II 7,II c,II g,II l,II u,II c0,II c1,II G,II H,II I,II J,II z9,II z8,II y7,II y6,e] 90));have t:=p.out.below v;have w:=t.pair i z3 hi;refine(GG w.prog w.inv k.out.1 k.out.2).mono ?_;intro m P j;have D:=jG (p.out.pair i z3 hi) j.gx (d:=b.heap.size) (ar _) (by simp;omega) 1;have E:=jG (p.out.pair i z3 hi) j.gx (d:=b.heap.size+1) (by omega) (by simp) 2;simp at D E;have x:=fK (I7 t hi k.out.1 k.out.2 j (Below.refl _ P));obtain rfl:=j.ret;have N:=fK v;clear j t w v;go_wp2_with fail;refine x.out.mono ?_;rintro m Q ⟨rfl,B⟩;have O:=fK B;clear x B D E;go_wp2_with (go_at_call 110;refine(mv).mono ?_;rintro m L ⟨rfl,rfl⟩);go_ret;exact⟨rfl,O.out.pre N.out⟩
theorem wd{z4:List gU}{z3:gU}(x:iF a x5 x4 b d f n A h K M o y z4)(hi:z4[i]? =some z3)(B:g<z3.s.now\/1000000000<g):
  aL ab 63 #[Pt f,.agg #[Pt z3.sb,Pt z3.rb],.agg #[II 7,II c,II g,II l,II u,II c0,II c1,II G,II H,II I,II J,II z9,II z8,II y7,II y6,e]] b
   fun k L=>k=.returned (.bool true)/\kx a x5 x4 d f n A z4.length h (PW z3 f K M) b L:=by
 have m:=fK x;have w:=fK B;clear x B;go_enter func63,ntmps63;go_wp2_with fail;have t:=fP (fO b (Fa z3)) (fO (qu b z3) (.cells #[II 7,II c,II g,II l,II u,II c0,II c1,II G,II H,II I,II J,II z9,II z8,II y7,II y6,e] 90));have p:=m.out.below t;have C:=p.pair i z3 hi;refine(GH C.prog w.out).mono ?_;intro k P j;have D:=jG (m.out.pair i z3 hi) j.gx (d:=b.heap.size) (ar _) (by simp;omega) 1;have E:=jG (m.out.pair i z3 hi) j.gx (d:=b.heap.size+1) (by omega) (by simp) 2;simp at D E;have v:=fK (zv p hi w.out j (Below.refl _ P));obtain rfl:=j.ret;have N:=fK t;clear j p C t;go_wp2_with fail;refine v.out.mono ?_;rintro k Q ⟨rfl,z⟩;have O:=fK z;clear v z D E;go_wp2_with (go_at_call 110;refine(mv).mono ?_;rintro k L ⟨rfl,rfl⟩);go_ret;exact⟨rfl,O.out.pre N.out⟩
theorem Ez{z4:List gU}{p:gU}(w:iF a x5 x4 b d f n A h q M o y z4)(hi:z4[i]? =some p)(a7:-9223372036854775808<=g/\g<=9223372036854775807):
  aL ab 63 #[Pt f,.agg #[Pt p.sb,Pt p.rb],.agg #[II 10,II c,II g,II l,II u,II c0,II c1,II G,II H,II I,II J,II z9,II z8,II y7,II y6,e]] b
   fun t z=>t=.returned (.bool true)/\kx a x5 x4 d f n A z4.length h (PW p f q M) b z:=by
 have X:Hid (∀k,Bw b k->aL ab 16 #[Pt p.sb,II g] k fun t z=>t=.returned (.tuple #[.agg (lO p.s g).1,II (lO p.s g).2])/\Bw k z):=fun k O=>JF ((w.pair i p hi).below O).prog (w.pair i p hi).inv a7;have W:Hid (∀k,Bw b k->aL ab 123 #[Pt p.rb,II g] k fun t z=>t=.returned (.tuple #[.agg (lO p.s g).1,II (lO p.s g).2])/\Bw k z):=fun k O=>by obtain⟨b4,b3,out,Z,a9⟩:=((w.pair i p hi).below O).ref;exact Ls (ii:=Z) (w:=k) a9 (w.pair i p hi).inv
 obtain⟨C,D,E,K,L,N,c3,Y⟩:=F7 (p:=p.s) (c:=g);rw[Y]at X W;have a6:=fK w;clear w Y;go_enter func63,ntmps63;go_wp2_with fail;have P:=fP (fO b (Fa p)) (fO (qu b p) (.cells #[II 10,II c,II g,II l,II u,II c0,II c1,II G,II H,II I,II J,II z9,II z8,II y7,II y6,e] 90));refine(X.out _ P).mono ?_;rintro t j ⟨rfl,B⟩;have S:=B.cell (p:=gf b 1) (by simp;omega);have T:=B.cell (p:=Ad (b.heap.size+1) 2) (by simp);simp at S T;have b0:b.heap.size+1<j.heap.size:=by have:=B.size;simp at this;omega
 have R:=fO j (.cells #[.bool C,II D,II E,II K,II L,II N] 34);have b1:=(R.cell (p:=gf b 1) (by show b.heap.size<j.heap.size;omega)).trans S;have b2:=(R.cell (p:=Ad (b.heap.size+1) 2) (by show b.heap.size+1<j.heap.size;omega)).trans T;clear R;have Q:=fP (fP P B) (fO j (.cells #[.bool C,II D,II E,II K,II L,II N] 34));go_wp2_with fail;refine(W.out _ Q).mono ?_;rintro t U ⟨rfl,m⟩;have a0:=m.cell (p:=gf j 0) (by simp);have a1:=m.cell (p:=gf j 1) (by simp);have a2:=m.cell (p:=gf j 2) (by simp);have a3:=m.cell (p:=gf j 3) (by simp);have a4:=m.cell (p:=gf j 4) (by simp);have a5:=m.cell (p:=gf j 5) (by simp);simp at a0 a1 a2 a3 a4 a5;have a8:=m;have x:j.heap.size<U.heap.size:=by have:=m.size;simp at this;omega
 clear a8;have v:=fO U (.cells #[.bool C,II D,II E,II K,II L,II N] 34);have b5:=(v.cell (p:=gf j 0) x).trans a0;have b6:=(v.cell (p:=gf j 1) x).trans a1;have b7:=(v.cell (p:=gf j 2) x).trans a2;have b8:=(v.cell (p:=gf j 3) x).trans a3;have b9:=(v.cell (p:=gf j 4) x).trans a4;have c2:=(v.cell (p:=gf j 5) x).trans a5;clear v;have V:=fK (fP (fP Q m) (fO U (.cells #[.bool C,II D,II E,II K,II L,II N] 34)));clear S T b1 b2 P B m Q b0;go_wp2_with (go_at_call 110;refine(mv).mono ?_;rintro t z ⟨rfl,rfl⟩);go_ret;exact⟨rfl,(a6.out.below V.out).yL rfl (gm.fU V.out)⟩
theorem Mp{k:List Int}(G:gG k)(N:k.length<=140737488355328)(g:b.heap[d]? =some (.cells (U8 (k++[77])).toArray 5 (0,0)))
  (t:∀a,a<k.length->∃j n,y3=Ad j n/\CV b j (n+a) (.int .u8 (k.getD a 0))):
  aL ab 114 #[ai (some (Ad d 0)) k.length (k.length+1),ai (some y3) k.length cap] b fun B I=>B=.returned (.bool true)/\gm (· = d) b I:=by
 have O:=Cu;have E:CV b d k.length (.int .u8 77):=by simp[aD,g,U8]
 have v:∀a,a<k.length->b.cell? (Ad d a)=some (.int .u8 (k.getD a 0)):=by intro a m;simp only[aD,g,U8,List.getD,ap m,Option.getD_some];simp[aZ,m]
 have o:=fK t;have q:=fK v;have p:=fK g;clear t v g;go_enter func114,ntmps114;go_wp2;go_loopw [6,7] (fun ok i wr=>∃c f:Nat,c<=k.length/\i=II c/\ok=.bool true/\wr=b.drewN f) (fun _ i _=>k.length-(aQ i).toNat);case atStart=>exact⟨0,0,be _,rfl,rfl,rfl⟩
 case round=>
  obtain⟨c,f,M,rfl,rfl,rfl⟩:=hrel;by_cases w:c<k.length
  ·obtain⟨j,n,rfl,C⟩:=o.out c w;have D:=q.out c w;have H:=iY G c;generalize k.getD c 0=J at C D H;go_wp2;go_quiet (fail);go_wp2;go_roundw;case rel=>exact⟨c+1,_,by omega,by go_num,rfl,rfl⟩
   case measure=>simp[aQ];omega
  ·obtain rfl:c=k.length:=by omega
   have e:(b.drewN f).ownsRow d 5 1 (ai (some (Ad d 0)) (k.length+1) (k.length+1)) (k.length+1) (U8 (k++[77])):=
    ⟨by simp[U8],.inr ⟨d,k.length+1,_,rfl,ar _,p.out,ar _,by unfold aO;omega,by simp[U8],by rw[List.take_of_length_le (by simp[U8])]⟩⟩
   have s:gm (· = d) b (b.drewN f):=⟨rfl,rfl,rfl,ar _,fun _ _ _=>rfl⟩;have h:=fK e;clear e o q p E;generalize b.drewN f=P at s h⊢;generalize U8 (k++[77])=Q at h;go_wp2;go_loopw [8] (fun i wr=>∃(a:Nat) (y:List aM),a<=k.length+1/\i=II a/\wr.ownsRow d 5 1 (ai (some (Ad d 0)) (k.length+1) (k.length+1)) (k.length+1) y/\gm (· = d) b wr) (fun i _=>k.length+1-(aQ i).toNat);case atStart=>exact⟨0,_,be _,rfl,h.out,s⟩
   case round=>
    obtain⟨a,y,m,rfl,e,l⟩:=hrel;by_cases L:a<k.length+1
    ·have u:∃x,wr.cell? (Ad d a)=some x:=by rw[e.cellAt a (by omega)];exact⟨_,ap (by have:=e.1;omega)⟩
     obtain⟨x,u⟩:=u;have K:=e.frozenAt a;have A:=fK (e.stored a (.int .u8 238)).1;have z:=fK (l.trans (go (cb:=d) (Below.refl _ _) a (.int .u8 238)));clear e l;go_wp2;go_roundw;case rel=>exact⟨a+1,_,by omega,by go_num,A.out,z.out⟩
     case measure=>simp[aQ];omega
    ·obtain rfl:a=k.length+1:=by omega
     go_wp2;go_ret;exact⟨rfl,l⟩
theorem ka.N4{l:List Int}(e:gG l)(f:l.length<=140737488355328)(c:w.heap[a]? =some (.cells (U8 (l++[77])).toArray 5 (0,0))):ka w (ai (some (Ad a 0)) l.length (l.length+1)) l:=by refine⟨e,f,some (Ad a 0),l.length+1,rfl,by omega,by omega,fun b=>(by cases b),fun g=>⟨a,0,_,_,rfl,c,fun h d=>?_⟩⟩;simp only[Nat.zero_add,U8,List.getD,ap d,Option.getD_some];grind
structure kD(N:Nat)(M L:Int)(w0 w3:aK)(p p':gU)(B1 B2:Nat)(v v2:aM)(out Oi:List (Int×aM))(ii:List (Int×List Int)):Prop where
 prog:hU N w3 p'.sb p'.s p'.cm p'.wv p'.jf p'.xs p'.ws
 ref:∃ov nX,gF w3 p'.s p'.rb p'.rV p'.ke p'.cv ov B2 nX ii
 inv:gD M L p'.s
 same:p'.sb=p.sb/\p'.rb=p.rb
 gx:gm p.F w0 w3
 qc:∀q,p'.F q->p.F q\/w0.heap.size<=q
 row:w3.ownsRow B1 60 2 v out.length (gj out)
 ow:kw w3 B1 out ii
 lt:∀q,(v.ownBlock=some q\/∃(j:Nat) (x:Int×aM),out[j]? =some x/\x.2.ownBlock=some q)->q<B2
 nu:∀(j:Nat) x q,out[j]? =some x->x.2.ownBlock=some q->¬me p'.xs q
 sub:∀q,me p'.xs q->q<w0.heap.size\/B1<=q
 Et:w3.ownsRow B2 60 2 v2 Oi.length (gj Oi)
 M6:nx w3 B2 Oi ii
theorem Er{z3:gU}{k:List Int}(u:ji a c g b z3)(y:Bw b w)(p:i' d w z3.sb z3.cm z3.wv z3.jf z3.xs (ib z3.s l k) v2 z5){L:Nat->Prop}(q:∀h,L h->h<z5.heap.size/\¬wW z3.rb z3.rV z3.ke z3.cv h)(I:ts L z5 e k)(H:0<=c)(X:c+k.length+1000<=1125899906842624)(W:g<=1125899906840000)(Z:k.length<=1073741823):
  ∃x,v2=.returned x/\aL ab 117 #[Pt z3.rb,II l,e] z5 fun G o=>∃N a9 out j,G=.returned N/\kD d (c+k.length+100) (g+2) b o z3 a9 w.heap.size z5.heap.size x N out j (ib z3.s l k).2/\gm z3.F w o:=by
 obtain⟨x,Q,C,R,P,rfl,⟨out,K,J,a3⟩,Y,a2,a6⟩:=p.ex;have a4:=u.below y;obtain⟨b8,b5,b6,b7,v⟩:=a4.mo p.gx;have b2:=y.size;refine⟨x,rfl,(Ej v (fun h m=>⟨(q h m).1,fun v2=>(q h m).2 (bg v2),fun v2=>(q h m).2 (bf (bg v2)),fun v2=>(q h m).2 (bf (bf (bg v2)))⟩) (fun h m v2=>(q h m).2 (bf (bf (bf v2)))) I u.inv H X W Z).mono ?_⟩;rintro G o ⟨O,D,M,E,b9,a8,rfl,z,a7,a1,A⟩;have t:gm (wW z3.rb z3.rV z3.ke z3.cv) z5 o:=a1.mono fun f n v2=>by
  rcases v2 with v2|v2|v2|v2|v2
  ·exact bg v2
  ·exact bf (bg v2)
  ·exact bf (bf (bg v2))
  ·exact bf (bf (bf v2))
  ·omega
 have b3:=p.gx.size;obtain⟨j,a5,a0⟩:∃j,o.ownsRow z5.heap.size 60 2 O j.length (gj j)/\nx o z5.heap.size j (ib z3.s l k).2:=by
  rcases a7 with rfl|⟨rfl,U⟩
  ·exact⟨a8,z.jN,z.mM⟩
  ·exact⟨[],ak _ _ _ _,by rw[U];exact⟨rfl,fun i b0 c2 B=>(by simp at B)⟩⟩
 refine⟨O,⟨z3.sb,z3.cm,Q,C,R,P,z3.rb,D,M,E,(ib z3.s l k).1⟩,out,j,rfl,?_⟩;have V:∀f,(gU.mk z3.sb z3.cm Q C R P z3.rb D M E (ib z3.s l k).1).F f->z3.F f\/b.heap.size<=f:=by
  rintro f (v2|v2)
  ·rcases a2 f v2 with v2|v2
   ·exact bg (bg v2)
   omega
  ·rcases v2 with v2|v2|v2|v2
   ·exact bg (bf (bg v2))
   ·rcases A.1 f v2 with v2|v2
    ·exact bg (bf (bf (bg v2)))
    omega
   ·rcases A.2.1 f v2 with v2|v2
    ·exact bg (bf (bf (bf (bg v2))))
    omega
   ·rcases A.2.2 f v2 with v2|v2
    ·exact bg (bf (bf (bf (bf v2))))
    omega
 refine⟨?_,(p.gx.mono fun f _ v2=>bg v2).andThen t (fun f _ v2=>bf v2)⟩;refine⟨Y.mo v t,⟨_,_,z⟩,Ep u.inv H I.1,⟨rfl,rfl⟩,?_,V,gI K t (fun f S T n=>lI v n (by simp[ma])),J.gx t (fun f S T n=>lI v n (by simp[ma])),?_,a3,?_,a5,a0⟩
 ·exact((gm.fU y).andThen p.gx (fun f _ v2=>bg v2)).andThen t (fun f _ v2=>bf v2)
 ·rintro f (v2|⟨b4,b0,B,v2⟩)
  ·obtain⟨b1,v2⟩:=fX K v2;grind
  ·exact(J.ge B v2).2
 ·intro f n;rcases a6 f n with v2|v2
  ·exact bg (sU u.prog v2)
  ·exact bf v2
theorem iF.fin{M:Int}{J:aM}{z4:List gU}(h:iF a M L w base d k m e J q o y z4){p z3:gU}(hi:z4[i]? =some p)(C:gm (fun j=>p.F j\/mY d J q j) w b)(S:ji a M L b z3)(D:∀j,z3.F j->p.F j\/w.heap.size<=j)(h1:z3.sb=p.sb)(h2:z3.rb=p.rb)(T:WL b base d e K w9 f n w0 t4):iF a M L b base d f n e K w9 w0 t4 (z4.set i z3):=by
 have G:=h.pair i p hi;have x:i<z4.length:=(bo.1 hi).1;refine⟨T,bZ h.NF C.size,?_,fun s j c=>?_,fun s j r c l=>?_,fun s B j E r z c v l A=>?_⟩
 ·rw[List.length_set,tB hi h1 h2];refine gI h.tZ C (fun j N P c g=>?_);rcases g with g|g
  ·exact G.law c (by simp[ma]) g
  ·exact h.wl.B' c (by decide) (by decide) (by decide) g
 ·by_cases u:i=s
  ·subst u;rw[eC x,Option.some.injEq]at c;subst c;exact S
  ·rw[eB u]at c;refine(h.pair s j c).gx C (fun r l g=>?_) (fun r N O P l H g=>?_)
   ·rcases g with g|g
    ·exact h.apart i s p j r u hi c g l
    ·obtain⟨U,O,Q,R⟩:=h.wl.type g;exact(h.pair s j c).law Q (by rcases R with rfl|rfl|rfl<;>simp[ma]) l
   ·rcases g with g|g
    ·exact G.law l (by rcases H with rfl|rfl|rfl|rfl<;>simp[ma]) g
    ·rcases H with rfl|rfl|rfl|rfl<;>exact h.wl.B' l (by decide) (by decide) (by decide) g
 ·by_cases u:i=s
  ·subst u;rw[eC x,Option.some.injEq]at c;subst c;rcases D r l with t|t
   ·exact h.low i p r hi t
   ·exact bZ h.og t
  ·rw[eB u]at c;exact h.low s j r c l
 ·by_cases u:i=s
  ·subst u;rw[eC x,Option.some.injEq]at c;subst c;rw[eB z]at v;rcases D r l with t|t
   ·exact h.apart i B p E r z hi v t A
   ·have:=(h.pair B E v).lt A;omega
  ·rw[eB u]at c;by_cases I:i=B
   ·subst I;rw[eC x,Option.some.injEq]at v;subst v;rcases D r A with t|t
    ·exact h.apart s i j p r z c hi l t
    ·have:=(h.pair s j c).lt l;omega
   ·rw[eB I]at v;exact h.apart s B j E r z c v l A
theorem kD.w_{F:Nat->Prop}{M:Int}{p z3:gU}{out:List (Int×aM)}(h:kD a M L b w p z3 d f v e out v3 t)(j:gm F w z5)(z:d<=f)(y:∀c,z3.F c->¬F c)(C:∀c o q,me z3.xs c->w.heap[c]? =some (.cells o 5 q)->¬F c)(B:∀c o q,w.heap[c]? =some (.cells o 294 q)->¬F c)(A:∀c o q,w.heap[c]? =some (.cells o 3 q)->¬F c)(s:∀c,d<=c->¬F c)(D:∀c,c<b.heap.size->¬F c):kD a M L b z5 p z3 d f v e out v3 t:=by
 obtain⟨H,G,E⟩:=h.ref;have u:∀c,f<=c->¬F c:=fun c g=>s c (bZ z g);exact⟨h.prog.BC j (fun c g=>y c (bg g)) C,⟨H,G,E.KB j (fun c g=>y c (bf g)) B A (fun c o x q g _ _=>u c g)⟩,h.inv,h.same,h.gx.andThen j (fun c g x=>absurd x (D c g)),h.qc,gM h.row j (fun c g=>s c (kL h.row g)),
  ⟨h.ow.1,fun i m n k l=>⟨(h.ow.2.1 i m n k l).1,gM (h.ow.2.1 i m n k l).2 j (fun c g=>s c (kL (h.ow.2.1 i m n k l).2 g))⟩,h.ow.2.2⟩,h.lt,h.nu,h.sub,gM h.Et j (fun c g=>u c (kL h.Et g)),⟨h.M6.1,fun i m n k l=>⟨(h.M6.2 i m n k l).1,gM (h.M6.2 i m n k l).2 j (fun c g=>u c (kL (h.M6.2 i m n k l).2 g))⟩⟩⟩
theorem kD.below{M:Int}{p z3:gU}{out:List (Int×aM)}(h:kD a M L b w p z3 d f v e out v3 t)(g:Bw w z5)(c:d<=f):kD a M L b z5 p z3 d f v e out v3 t:=h.w_ (F:=fun _=>False) (gm.fU g) c (fun _ _ h=>h) (fun _ _ _ _ _ h=>h) (fun _ _ _ _ h=>h) (fun _ _ _ _ h=>h) (fun _ _ h=>h) (fun _ _ h=>h)
theorem kD.back{M:Int}{p z3:gU}{out:List (Int×aM)}(h:kD a M L b w p z3 d f v e out v3 t)(q:gm (· = n) w z5)(o:d<=f)(h1:b.heap.size<=n)(h2:n<d)(k:w.heap[n]? =some (.cells D 5 x3)):kD a M L b z5 p z3 d f v e out v3 t:=by
 have l:∀g D j x3,w.heap[g]? =some (.cells D j x3)->j≠5->¬g=n:=by grind
 obtain⟨x,u,s⟩:=h.ref;refine h.w_ q o (fun g c j=>?_) (fun g D x3 c _ j=>?_) (fun g D x3 c=>l g D _ x3 c (by decide)) (fun g D x3 c=>l g D _ x3 c (by decide)) (fun g c j=>by omega) (fun g c j=>by omega)
 ·subst j;rcases c with c|c
  ·exact ny h.prog k (bg (by simp[ma])) c
  ·exact lI s k (by simp[ma]) c
 ·rcases h.sub g c with m|m<;>omega
theorem kD.news{M:Int}{p z3:gU}{out:List (Int×aM)}(h:kD a M L b w p z3 d f v e out v3 t){W z:aM}(N:WL w base n W q z k m o y)(Z:∀c,mY n q z c->c<b.heap.size)(h0:b.heap.size<=f)(h1:b.heap.size<=d)(K:gm (sg n q z v out) w z5):ji a M L z5 z3/\gm (fun c=>p.F c\/mY n q z c) b z5:=by
 obtain⟨Y,X,P⟩:=h.ref;have J:∀c,sg n q z v out c->mY n q z c\/(d<=c/\c<f/\∃l g,w.heap[c]? =some (.cells l g (0,0))/\(g=60\/(g=5/\¬me z3.xs c))):=by
  rintro c (g|g|g|g|⟨C,E,D,g⟩)
  ·exact bg (bg g)
  ·exact bg (bf (bg g))
  ·exact bg (bf (bf g))
  ·obtain⟨H,I⟩:=fX h.row g;exact bf ⟨kL h.row g,h.lt c (bg g),_,_,I,bg rfl⟩
  ·obtain⟨G,R⟩:∃G,t[C]? =some G:=⟨_,ap (by rw[<-h.ow.1];grind)⟩;obtain⟨H,I⟩:=fX (h.ow.2.1 C E G D R).2 g;exact bf ⟨kL (h.ow.2.1 C E G D R).2 g,h.lt c (bf ⟨C,E,D,g⟩),_,_,I,bf ⟨rfl,h.nu C E c D g⟩⟩
 have Q:∀c l g s,w.heap[c]? =some (.cells l g s)->g=294\/g=3->¬sg n q z v out c:=by
  intro c l g s j U A;rcases J c A with u|⟨_,_,S,T,x,B⟩
  ·rcases U with rfl|rfl<;>exact N.B' j (by decide) (by decide) (by decide) u
  grind
 have O:∀c,z3.F c->¬sg n q z v out c:=by
  intro c j A;obtain⟨l,g,u,x⟩:∃l g,w.heap[c]? =some (.cells l g (0,0))/\ma g:=by
   rcases J c A with u|⟨_,_,l,g,x,B⟩
   ·obtain⟨H,g,x,B⟩:=N.type u;exact⟨H,g,x,by rcases B with rfl|rfl|rfl<;>simp[ma]⟩
   ·exact⟨l,g,x,by rcases B with rfl|⟨rfl,_⟩<;>simp[ma]⟩
  rcases j with j|j
  ·exact ny h.prog u (bg x) j
  ·exact lI P u x j
 refine⟨⟨h.prog.BC K (fun c j=>O c (bg j)) (fun c l s j V A=>?_),⟨Y,f,X,t,P.KB K (fun c j=>O c (bf j)) (fun c l s j=>Q c l _ s j (bg rfl)) (fun c l s j=>Q c l _ s j (bf rfl)) (fun c l g s j _ _ A=>?_)⟩,h.inv⟩,(h.gx.mono fun c _ g=>bg g).andThen K (fun c j A=>?_)⟩
 ·rcases J c A with u|⟨_,_,S,T,x,B⟩
  ·exact N.B' V (by decide) (by decide) (by decide) u
  grind
 ·grind
 grind
def nN(n:Nat)(ii:List (Int×List Int)):Prop:=ii.length<=n/\∀y∈ii,y.2.length<=1000
theorem nN.nil:nN 0 []:=⟨ar _,fun b a=>(by cases a)⟩
theorem nN.mono(h:nN n t)(b:n<=a):nN a t:=⟨bZ h.1 b,h.2⟩
theorem nN.snoc(h:nN n t){a:Int}{l:List Int}(d:l.length<=1000):nN (n+1) (t++[(a,l)]):=by
 refine⟨by have:=h.1;simp;omega,fun c b=>?_⟩;rcases List.mem_append.1 b with b|b
 ·exact h.2 c b
 grind
theorem nb(b:nN a t){j:fV}{k:List Int}(c:k.length<=500):nN (a+1) (ig j k t):=by
 unfold ig;split
 ·refine b.snoc ?_;have:=(hJ j.fZ).1;unfold jn;grind
 ·exact b.mono (by omega)
theorem sP(b:nN a t){j:fV}:nN (a+1) (ig j (gu s j) t):=nb b (by have:=oL s j;omega)
theorem GA(d:nN a t){b:Int}:nN (a+1) (nI p b g l t):=by
 unfold nI;split
 ·refine d.snoc ?_;have e:=(hJ g).1;have f:=(hJ 9).1;have h:(jg p.c.c9 b (p.now+p.c.c7)).length=9:=by simp[jg,kJ,gZ]
  unfold qh;grind
 ·exact d.mono (by omega)
theorem tO:(([19]:List Int)++gE c).length<=500:=by have:=(hJ c).1;grind
theorem pQ:∀(N:Nat) (s:gg) (i:Nat) (b:List Int) (ii:List (Int×List Int)) (n:Nat),nN n ii->nN (n+1) (hY s i b ii N).2
 |0,_,_,_,_,_,h=>h.mono (by omega)
 |N+1,s,i,b,ii,n,h=>by
  unfold hY;split
  ·exact h.mono (by omega)
  ·split
   ·exact h.mono (by omega)
   ·next c _=>
    split
    ·exact nb h (j:=c) (tO (c:=7))
    ·split
     ·exact nb h (j:=c) (tO)
     ·split
      ·exact h.mono (by omega)
      ·exact pQ N _ _ _ _ _ h
theorem FN{k z2:List Int}:nN 2 (lW p c g l k z2 a []).2:=by
 unfold lW;split
 ·split
  ·unfold kh;split
   ·exact nN.nil.mono (by omega)
   ·dsimp only;split
    ·exact nN.nil.mono (by omega)
    ·exact(sP nN.nil).mono (by omega)
  ·exact nN.nil.mono (by omega)
 ·split
  ·split
   ·split
    ·exact nN.nil.mono (by omega)
    ·unfold qM;exact pQ _ _ _ _ _ _ (sP nN.nil)
   ·exact nN.nil.mono (by omega)
  ·split
   ·exact(GA nN.nil).mono (by omega)
   ·split
    ·exact nN.nil.mono (by omega)
    ·unfold qN;exact pQ _ _ _ _ _ _ (sP nN.nil)
theorem Ix{num:Int}{k:List Int}:nN 2 (li p c g num u k a []).2:=by
 unfold li;split
 ·exact nN.nil.mono (by omega)
 ·split
  ·exact nN.nil.mono (by omega)
  ·split
   ·exact nN.nil.mono (by omega)
   ·split
    ·exact nN.nil.mono (by omega)
    ·exact(pQ _ _ _ _ _ _ nN.nil).mono (by omega)
theorem u_(c:gg)(a:Int)(b:List Int):nN 2 (ib c a b).2:=by
 unfold ib;split
 ·exact nN.nil.mono (by omega)
 ·split
  ·exact nN.nil.mono (by omega)
  ·split
   ·exact FN
   ·exact Ix
theorem yJ{a:Int}{k:List Int}{z4:List gU}{p:gU}(d0:iF d x5 x4 w f n A z7 e h q o y z4)(hi:z4[i]? =some p){L:Nat->Prop}(d6:∀A,L A->A<w.heap.size/\¬p.F A)(t:ts L w (ai (some y3) k.length cap) k)(d2:∀a3,gm (rR f n) w a3->Env a3)(d3:0<=x5)(g4:x5+k.length+1000<=1125899906842624)(g3:x4<=1125899906840000)(e2:k.length<=1073741823)(g5:d+1+k.length<1125899906842624)(g7:A<=4000000000000)(g8:z7<=4000000000000):
  aL ab 63 #[Pt n,.agg #[Pt p.sb,Pt p.rb],.agg #[II 6,II c,II a,II l,II u,II c0,II c1,II G,II H,II I,II J,II z9,II z8,II y7,II y6,ai (some y3) k.length cap]] w
   fun j i2=>j=.returned (.bool true)/\kx (d+1+k.length) (x5+k.length+100) (x4+2) f n A z7 z4.length e (PW p n h q) w i2:=by
 have P:=fK d0;have D:=fK t;have f3:=fK d2;have a2:=fK d6;clear d0 t d2 d6;go_enter func63,ntmps63;go_wp2_with fail;have R:=fP (fO w (Fa p)) (fO (qu w p) (.cells #[II 6,II c,II a,II l,II u,II c0,II c1,II G,II H,II I,II J,II z9,II z8,II y7,II y6,ai (some y3) k.length cap] 90));have b7:=D.out.below R;refine(Az (k:=k) (y3:=y3) (cap:=cap) b7.2.1 b7.reads.src.1).mono ?_;rintro j C ⟨E,rfl,a6,e1,B⟩;have g:∀v,C.cell? (gf w v)=_:=fun v=>B.cell (p:=gf w v) (by simp;omega);have b6:∀v,C.cell? (Ad (w.heap.size+1) v)=_:=fun v=>B.cell (p:=Ad (w.heap.size+1) v) (by simp);have e9:=g 0;have c2:=g 1;have c3:=b6 2;have a7:=b6 15;simp at e9 c2 c3 a7;clear g b6;have m:=P.out.below R;have V:=m.pair i p hi;have M:=V.below B;have a4:=fP R B;have e0:E<C.heap.size:=(bn.1 a6).1;have h1:w.heap.size+1<C.heap.size:=by have:=B.size;simp at this;omega
 have c9:=fK (vh d p.sb p.s p.cm p.wv p.jf p.xs p.ws a k (ai (some (Ad E 0)) k.length (k.length+1)) C M.prog M.inv (ka.N4 D.out.1 D.out.2.1 a6) e2 d3 (by omega) g5 (fun a3 g6=>f3.out a3 ((gm.fU a4).andThen g6 (fun b _ j=>bf (P.out.low i p b hi (bg j))))));have T:=fK m;have f5:=fK a6;have f1:=fK R;have a8:=fK B;have j1:=B.size;have g9:=R.size;clear m a6 R B V M b7;go_wp2_with fail;refine c9.out.mono ?_;intro j c4 z;clear c9;have h7:=(jG (P.out.pair i p hi) z.gx (d:=w.heap.size) (ar _) (by omega) 1).trans c2;have h8:=(jG (P.out.pair i p hi) z.gx (d:=w.heap.size+1) (by omega) (by omega) 2).trans c3;have h5:=(jG (P.out.pair i p hi) z.gx (d:=w.heap.size+1) (by omega) (by omega) 15).trans a7;have M:=(T.out.pair i p hi).below a8.out;have d7:ts L c4 (ai (some y3) k.length cap) k:=(D.out.below a4).gx z.gx (fun b g j=>(a2.out b g).2 (bg j));have j4:=a4.size;have j5:=z.gx.size;obtain⟨f0,rfl,d5⟩:=Er (T.out.pair i p hi) a8.out z (fun b g=>⟨by have:=(a2.out b g).1;omega,fun j=>(a2.out b g).2 (bf j)⟩) d7 d3 g4 g3 e2;have b1:=fK d5;have h0:=z.gx.size;obtain⟨Z,e3⟩:∃Z,(ib p.s a k).2=Z:=⟨_,rfl⟩;have b4:=u_ p.s a k;rw[e3]at b4 b1;have a9:=fK b4;clear d5 d7 M z e3 b4;go_wp2_with fail;refine b1.out.mono ?_;rintro j a0 ⟨i1,j7,out,h4,rfl,d4,a5⟩;clear b1;have e5:∀b,w.heap.size<=b->¬p.F b:=fun b g j=>by have:=(P.out.pair i p hi).lt j;omega
 have h6:a0.cell? (Ad (w.heap.size+1) 15)=_:=(cn (w:=C) (a:=Ad (w.heap.size+1) 15) (a5.block (w.heap.size+1) h1 (e5 (w.heap.size+1) (Nat.le_succ _)))).trans a7;have b5:a0.heap[E]? =some (.cells (U8 (k++[77])).toArray 5 (0,0)):=by rw[a5.block E e0 (e5 E (bZ g9 e1))];exact f5.out
 have M:=(T.out.pair i p hi).below a8.out;have d8:ts L a0 (ai (some y3) k.length cap) k:=(D.out.below a4).gx a5 (fun b g j=>(a2.out b g).2 j);have c5:=fK (Mp (k:=k) (y3:=y3) (cap:=cap) (d:=E) (b:=a0) D.out.1 D.out.2.1 b5 d8.reads.src.2);have b0:=fK d4;have f6:=fK b5;clear d8 M d4 b5 a5 e9 c2 c3 a7 h7 h8 h5;go_wp2_with fail;refine c5.out.mono ?_;rintro j O ⟨rfl,b3⟩;clear c5 h6;have d1:C.heap.size<=c4.heap.size:=h0;have Q:=b0.out.back b3 d1 e1 e0 f6.out;have c7:=fK (s_ out h4 Z C.heap.size c4.heap.size (e:=f0) (h:=i1) O Q.row Q.ow.by Q.Et Q.M6 (by have:=a9.out.1;omega));have c6:=fK b3;have f8:=fK Q;clear b3 Q;go_wp2_with fail;refine c7.out.mono ?_;rintro j k2 ⟨rfl,b9,rfl⟩;clear c7;have K:=f8.out.below (fQ (Below.refl _ _) b9) d1;have m:=T.out;have V:=m.pair i p hi;have e6:=m.wl.typed b0.out.gx (fun b i6 j i7 g U=>V.law g (by rcases U with rfl|rfl|rfl|rfl|rfl<;>simp[ma]));have X:∀b,mY n h q b->b<((qu w p).alloc (.cells #[II 6,II c,II a,II l,II u,II c0,II c1,II G,II H,II I,II J,II z9,II z8,II y7,II y6,ai (some y3) k.length cap] 90)).heap.size:=fun b g=>by obtain⟨g0,j,x,_⟩:=m.wl.type g;exact(bn.1 x).1
 have W:∀{i0:bG} {h9 Y:Nat} {i4:List aM} {S:aM} {b:Nat},((qu w p).alloc (.cells #[II 6,II c,II a,II l,II u,II c0,II c1,II G,II H,II I,II J,II z9,II z8,II y7,II y6,ai (some y3) k.length cap] 90)).ownsRow f i0 h9 S Y i4->S.ownBlock=some b->b<((qu w p).alloc (.cells #[II 6,II c,II a,II l,II u,II c0,II c1,II G,II H,II I,II J,II z9,II z8,II y7,II y6,ai (some y3) k.length cap] 90)).heap.size:=fun t g=>by obtain⟨g0,j⟩:=fX t g;exact(bn.1 j).1
 have e7:WL O f n e h q A z7 o y:=e6.gx c6.out (fun j=>by have:=X n (bg rfl);omega) (fun b g j=>by have:=X b (bf (bg g));omega) (fun b g j=>by have:=X b (bf (bf g));omega) (fun v S b N x g j=>by
   obtain⟨Y,_,_,t⟩:=q'.pT m.wl N x;have:=W t g;omega) (fun v S b N x g j=>by
   obtain⟨Y,_,_,t⟩:=tH.pT m.wl N x;have:=W t g;omega)
 have b8:=e7.below (fQ (Below.refl O.heap.size O) b9);have i8:=m.og;have i9:=a9.out.1;have j0:out.length=Z.length:=K.ow.1;have j3:a0.heap.size<=O.heap.size:=c6.out.size;have j2:=b0.out.gx.size;have c8:=fK (uS f n A z7 e h q f0 o y out Z (O.drewN b9) b8 (by show f<=O.heap.size;omega) (gq K.row (by omega)) (K.ow.mono (by omega)) (fun v S j6 k3 b N x h2 g U=>by
   obtain⟨Y,_,_,t⟩:=q'.pT m.wl N x;have g1:=W t U;have g2:=(K.ow.ge h2 g).1;omega) (fun v S b N x g U=>by
   obtain⟨Y,_,_,t⟩:=tH.pT m.wl N x;have g1:=W t U;have g2:=kL K.row g;omega) (by omega) (fun v i5 h3=>by have:=a9.out.2 i5 (bS h3);omega) g7 g8)
 have a1:=fK K;have f9:=fK b8;have f7:=fK X;clear K m V e6 X W e7 b8;go_wp2_with fail;refine c8.out.mono ?_;rintro j i3 ⟨rfl,⟨k0,k1,j9,j8,e8⟩,d9⟩;obtain⟨e4,b2⟩:=a1.out.news f9.out f7.out (by omega) (by omega) d9;have f4:=fK ((T.out.mono (N':=d+1+k.length) (M':=x5+k.length+100) (L':=x4+2) (by omega) (by omega) (by omega)).fin hi b2 e4 a1.out.qc a1.out.same.1 a1.out.same.2 e8);have f2:Hid (gm (PW p n h q) w i3):=(gm.fU f1.out).trans (b2.mono fun b _ j=>j);clear c8 e8 d9 e4 b2;go_wp2_with fail;go_ret;exact⟨rfl,⟨_,_,_,_,_,_,_,by omega,ar _,by simp,f4.out⟩,f2.out⟩
theorem ui{a:Int}{z:Nat}{z4:List gU}{z3:gU}(B:iF z x5 x4 w d f n A e h q o y z4)(hi:z4[i]? =some z3)(b1:∀R,gm (rR d f) w R->Env R)(b2:0<=x5)(g6:x5+1000<=1125899906842624)(e1:x4<=1125899906840000)(g7:z+1<1125899906842624)(e4:n<=4000000000000)(e5:A<=4000000000000):
  aL ab 63 #[Pt f,.agg #[Pt z3.sb,Pt z3.rb],.agg #[II 6,II c,II a,II l,II u,II c0,II c1,II G,II H,II I,II J,II z9,II z8,II y7,II y6,ai none 0 0]] w
   fun g f9=>g=.returned (.bool true)/\kx (z+1) (x5+100) (x4+2) d f n A z4.length e (PW z3 f h q) w f9:=by
 have t:=fK B;have d2:=fK b1;clear B b1;go_enter func63,ntmps63;go_wp2_with fail;have D:=fP (fO w (Fa z3)) (fO (qu w z3) (.cells #[II 6,II c,II a,II l,II u,II c0,II c1,II G,II H,II I,II J,II z9,II z8,II y7,II y6,ai none 0 0] 90));refine(DR).mono ?_;rintro g g1 ⟨rfl,rfl⟩;have E:=Below.refl (H1 w z3 c a l u c0 c1 G H I J z9 z8 y7 y6).heap.size (H1 w z3 c a l u c0 c1 G H I J z9 z8 y7 y6);have c6:lq (H1 w z3 c a l u c0 c1 G H I J z9 z8 y7 y6) w 1 (Pt z3.rb):=by simp
 have c7:CI (H1 w z3 c a l u c0 c1 G H I J z9 z8 y7 y6) (w.heap.size+1) 2 a:=by simp
 have a4:CV (H1 w z3 c a l u c0 c1 G H I J z9 z8 y7 y6) (w.heap.size+1) 15 (ai none 0 0):=by simp
 have j:=t.out.below D;have L:=j.pair i z3 hi;have M:=L.below E;have e3:=fP D E;have e8:w.heap.size+1<(H1 w z3 c a l u c0 c1 G H I J z9 z8 y7 y6).heap.size:=by simp
 have b0:=fK (vh z z3.sb z3.s z3.cm z3.wv z3.jf z3.xs z3.ws a [] (ai none 0 0) (H1 w z3 c a l u c0 c1 G H I J z9 z8 y7 y6) M.prog M.inv (ka.nil _) (by simp) b2 (by simp;omega) (by simp;omega) (fun R e2=>d2.out R ((gm.fU e3).andThen e2 (fun b _ g=>bf (t.out.low i z3 b hi (bg g))))));have P:=fK j;have c9:=fK D;have a6:=fK E;have h2:=E.size;have h1:=D.size;clear j D E L M;go_wp2_with fail;refine b0.out.mono ?_;intro g a5 x;clear b0;have f4:=(jG (t.out.pair i z3 hi) x.gx (d:=w.heap.size) (ar _) (by omega) 1).trans c6;have f5:=(jG (t.out.pair i z3 hi) x.gx (d:=w.heap.size+1) (by omega) (by omega) 2).trans c7;have f2:=(jG (t.out.pair i z3 hi) x.gx (d:=w.heap.size+1) (by omega) (by omega) 15).trans a4;have M:=(P.out.pair i z3 hi).below a6.out;have b5:ts (fun _=>False) a5 (ai none 0 0) []:=ts.nil _ _;obtain⟨c8,rfl,b4⟩:=Er (P.out.pair i z3 hi) a6.out x (fun _ B=>B.elim) b5 b2 (by simp;omega) e1 (by simp);have W:=fK b4;have e7:=x.gx.size;obtain⟨O,b9⟩:∃O,(ib z3.s a []).2=O:=⟨_,rfl⟩;have Y:=u_ z3.s a [];rw[b9]at Y W;have U:=fK Y;clear b4 b5 M x b9 Y;go_wp2_with fail;refine W.out.mono ?_;rintro g k ⟨f8,h6,out,f1,rfl,b3,b6⟩;clear W;have e6:∀b,w.heap.size<=b->¬z3.F b:=fun b m g=>by have:=(t.out.pair i z3 hi).lt g;omega
 have f3:k.cell? (Ad (w.heap.size+1) 15)=_:=(cn (w:=H1 w z3 c a l u c0 c1 G H I J z9 z8 y7 y6) (a:=Ad (w.heap.size+1) 15) (b6.block (w.heap.size+1) e8 (e6 (w.heap.size+1) (Nat.le_succ _)))).trans a4;have a7:=fK (Df (e:=ai none 0 0) (b:=k));have V:=fK b3;clear b3 b6 c6 c7 a4 f4 f5 f2;go_wp2_with fail;refine a7.out.mono ?_;rintro g g1 ⟨rfl,rfl⟩;clear a7 f3;have e0:(H1 w z3 c a l u c0 c1 G H I J z9 z8 y7 y6).heap.size<=a5.heap.size:=e7;have v:=V.out;have b7:gm (fun _=>False) k k:=gm.refl _ _;have a8:=fK (s_ out f1 O (H1 w z3 c a l u c0 c1 G H I J z9 z8 y7 y6).heap.size a5.heap.size (e:=c8) (h:=f8) k v.row v.ow.by v.Et v.M6 (by have:=U.out.1;omega));have d0:=fK b7;have d5:=fK v;clear b7 v;go_wp2_with fail;refine a8.out.mono ?_;rintro g i1 ⟨rfl,a3,rfl⟩;clear a8;have p:=d5.out.below (fQ (Below.refl _ _) a3) e0;have j:=P.out;have L:=j.pair i z3 hi;have S:=j.wl.typed V.out.gx (fun b g4 g g5 m K=>L.law m (by rcases K with rfl|rfl|rfl|rfl|rfl<;>simp[ma]));have c4:∀b,mY f h q b->b<(H1 w z3 c a l u c0 c1 G H I J z9 z8 y7 y6).heap.size:=fun b m=>by obtain⟨d7,g,C,_⟩:=j.wl.type m;exact(bn.1 C).1
 have Z:∀{f7:bG} {f6 a2:Nat} {g2:List aM} {T:aM} {b:Nat},(H1 w z3 c a l u c0 c1 G H I J z9 z8 y7 y6).ownsRow d f7 f6 T a2 g2->T.ownBlock=some b->b<(H1 w z3 c a l u c0 c1 G H I J z9 z8 y7 y6).heap.size:=fun N m=>by obtain⟨d7,g⟩:=fX N m;exact(bn.1 g).1
 have S:=S;have a1:=S.below (fQ (Below.refl k.heap.size k) a3);have g8:=j.og;have g9:=U.out.1;have h0:out.length=O.length:=p.ow.1;have h4:k.heap.size<=k.heap.size:=d0.out.size;have h3:=V.out.gx.size;have a9:=fK (uS d f n A e h q c8 o y out O (k.drewN a3) a1 (by show d<=k.heap.size;omega) (gq p.row (by omega)) (p.ow.mono (by omega)) (fun c5 T h5 i2 b a0 C e9 m K=>by
   obtain⟨a2,_,_,N⟩:=q'.pT j.wl a0 C;have d8:=Z N K;have d9:=(p.ow.ge e9 m).1;omega) (fun c5 T b a0 C m K=>by
   obtain⟨a2,_,_,N⟩:=tH.pT j.wl a0 C;have d8:=Z N K;have d9:=kL p.row m;omega) (by omega) (fun c5 g3 f0=>by have:=U.out.2 g3 (bS f0);omega) e4 e5)
 have Q:=fK p;have d6:=fK a1;have d4:=fK c4;clear p j L S c4 Z a1;go_wp2_with fail;refine a9.out.mono ?_;rintro g g0 ⟨rfl,⟨h9,i0,h8,h7,c3⟩,b8⟩;obtain⟨c2,X⟩:=Q.out.news d6.out d4.out (by omega) (by omega) b8;have d3:=fK ((P.out.mono (N':=z+1) (M':=x5+100) (L':=x4+2) (by omega) (by omega) (by omega)).fin hi X (c2.mono (by simp) (by simp) (Int.le_refl _)) Q.out.qc Q.out.same.1 Q.out.same.2 c3);have d1:Hid (gm (PW z3 f h q) w g0):=(gm.fU c9.out).trans (X.mono fun b _ g=>g);clear a9 c3 b8 c2 X;go_wp2_with fail;go_ret;exact⟨rfl,⟨_,_,_,_,_,_,_,by omega,ar _,by simp,d3.out⟩,d1.out⟩
theorem B_{z4:List gU}{z3:gU}(b:z4[i]? =some z3):(jX z4)[i*2]? =some (Pt z3.sb)/\(jX z4)[i*2+1]? =some (Pt z3.rb):=by
 induction z4 generalizing i with
 |nil=>simp at b
 |cons a r d=>
  have c:jX (a::r)=[Pt a.sb,Pt a.rb]++jX r:=by simp[jX]
  cases i with
  |zero=>grind
  |succ i=>grind
theorem JL(j:iF a x4 v1 b d f n A h q M o y [])(m:c<1\/5<c):
  aL ab 35 #[Pt f,.agg (zf c g l u x c0 c1 H I J z9 z8 y7 y6 x5 e)] b
   fun v z=>v=.returned (.bool true)/\pK a x4 v1 d f n A 0 b z:=by
 obtain⟨s,t,w⟩:=gr j.tZ;subst w;have k:=fO b (.cells (zf c g l u x c0 c1 H I J z9 z8 y7 y6 x5 e) 90);have C:f<b.heap.size:=(bn.1 j.wl.gK).1;have B:CV (nQ b c g l u x c0 c1 H I J z9 z8 y7 y6 x5 e) f 0 (.slice s 0 t):=by simp[aD,(j.below k).wl.gK]
 have p:=fK ((j.below k).out rfl (gm.fU k));clear j k;rcases m with m|m
 ·go_enter func35,ntmps35;go_wp2_with fail;go_ret;exact⟨rfl,p.out⟩
 ·go_enter func35,ntmps35;go_wp2_with fail;go_ret;exact⟨rfl,p.out⟩
def AH(c:Int)(n:Nat):Nat:=if c<0 then((-(c+1))%(n:Int)).toNat else(c%(n:Int)).toNat
theorem Ln(b:0<a):AH c a<a:=by unfold AH;have d:=eE c (show(a:Int)≠0 by omega);have e:=Int.emod_lt_of_pos c (show(0:Int)<a by omega);have f:=eE (-(c+1)) (show(a:Int)≠0 by omega);have g:=Int.emod_lt_of_pos (-(c+1)) (show(0:Int)<a by omega);split<;>omega
theorem MU(j:-9223372036854775808<=c/\c<=9223372036854775807)(h:0<a)(k:a<=1000000000000):
  aL ab 64 #[II c,II a] b fun d g=>d=.returned (II (AH c a))/\b=g:=by
 rcases Int.lt_or_le c 0 with f|f
 ·go_enter func64,ntmps64;go_wp2_with fail;go_ret;have e:=eE (-(c+1)) (show(a:Int)≠0 by omega);refine⟨?_,rfl⟩;unfold AH;rw[if_pos f];have d:-((c+1).tmod (a:Int))=(-(c+1))%(a:Int):=by rw[<-Int.neg_tmod,Int.tmod_eq_emod_of_nonneg (by omega)]
  show Ending.returned (II (-((c+1).tmod (a:Int))))=.returned (II ((((-(c+1))%(a:Int)).toNat:Nat):Int));rw[d,Int.toNat_of_nonneg e]
 ·go_enter func64,ntmps64;go_wp2_with fail;go_ret;have e:=eE c (show(a:Int)≠0 by omega);refine⟨?_,rfl⟩;unfold AH;rw[if_neg (by omega)];show Ending.returned (II (c%(a:Int)))=.returned (II (((c%(a:Int)).toNat:Nat):Int));rw[Int.toNat_of_nonneg e]
theorem EE{a:Int}{a8:Nat}{K:Int}{z4:List gU}(v:iF a8 x4 v1 b f n A z7 h q M o y z4)(c4:5<c)(O:0<z4.length)(b8:z4.length<=1000000000000)(N:-9223372036854775808<=g/\g<=9223372036854775807)
  (X:∀(i:Nat) m,z4[i]? =some m->∀t,Bw b t->aL ab 63 #[Pt n,.agg #[Pt m.sb,Pt m.rb],.agg (zf c g a u x c0 c1 H I J z9 z8 y7 y6 x5 e)] t fun p j=>p=.returned (.bool true)/\kx d K G f n A z7 z4.length h (PW m n q M) t j):
  aL ab 35 #[Pt n,.agg (zf c g a u x c0 c1 H I J z9 z8 y7 y6 x5 e)] b
   fun p j=>p=.returned (.bool true)/\pK d K G f n A z7 z4.length b j:=by
 obtain⟨l,z,b7,_,_,_⟩:=o_ v.tZ O;subst b7;have D:=fO b (.cells (zf c g a u x c0 c1 H I J z9 z8 y7 y6 x5 e) 90);have c5:n<b.heap.size:=(bn.1 v.wl.gK).1;have c6:((z4.length:Int)==0)=false:=beq_eq_false_iff_ne.2 (by omega);obtain⟨s,L⟩:∃s,AH g z4.length=s:=⟨_,rfl⟩;have b5:s<z4.length:=by rw[<-L];exact Ln O
 obtain⟨m,w⟩:∃m,z4[s]? =some m:=⟨_,ap b5⟩;have a6:Hid (∀t,aL ab 64 #[II g,II (z4.length:Nat)] t fun p j=>p=.returned (II (s:Nat))/\t=j):=fun t=>by rw[<-L];exact MU N O b8
 have a7:=fK (X s m w);have S:=fK D;obtain⟨a1,a2⟩:=B_ w;have Q:=(v.below D).tZ;have U:=Q.cellAt (s*2) (by omega);have V:=Q.cellAt (s*2+1) (by omega);rw[a1]at U;rw[a2]at V;have b0:CV (nQ b c g a u x c0 c1 H I J z9 z8 y7 y6 x5 e) n 0 (ai (some (Ad l 0)) z4.length z):=by simp[aD,(v.below D).wl.gK]
 have T:Hid ((nQ b c g a u x c0 c1 H I J z9 z8 y7 y6 x5 e).cell? (Ad n 0)=some (ai (some (Ad l 0)) z4.length z)/\(nQ b c g a u x c0 c1 H I J z9 z8 y7 y6 x5 e).cell? (gf b 0)=some (II c)/\(nQ b c g a u x c0 c1 H I J z9 z8 y7 y6 x5 e).cell? (gf b 1)=some (II g)/\(nQ b c g a u x c0 c1 H I J z9 z8 y7 y6 x5 e).cell? (gf b 2)=some (II a)/\(nQ b c g a u x c0 c1 H I J z9 z8 y7 y6 x5 e).cell? (gf b 3)=some (II u)/\(nQ b c g a u x c0 c1 H I J z9 z8 y7 y6 x5 e).cell? (gf b 4)=some (II x)/\(nQ b c g a u x c0 c1 H I J z9 z8 y7 y6 x5 e).cell? (gf b 5)=some (II c0)/\(nQ b c g a u x c0 c1 H I J z9 z8 y7 y6 x5 e).cell? (gf b 6)=some (II c1)/\(nQ b c g a u x c0 c1 H I J z9 z8 y7 y6 x5 e).cell? (gf b 7)=some (II H)/\(nQ b c g a u x c0 c1 H I J z9 z8 y7 y6 x5 e).cell? (gf b 8)=some (II I)/\(nQ b c g a u x c0 c1 H I J z9 z8 y7 y6 x5 e).cell? (gf b 9)=some (II J)/\(nQ b c g a u x c0 c1 H I J z9 z8 y7 y6 x5 e).cell? (gf b 10)=some (II z9)/\(nQ b c g a u x c0 c1 H I J z9 z8 y7 y6 x5 e).cell? (gf b 11)=some (II z8)/\(nQ b c g a u x c0 c1 H I J z9 z8 y7 y6 x5 e).cell? (gf b 12)=some (II y7)/\(nQ b c g a u x c0 c1 H I J z9 z8 y7 y6 x5 e).cell? (gf b 13)=some (II y6)/\(nQ b c g a u x c0 c1 H I J z9 z8 y7 y6 x5 e).cell? (gf b 14)=some (II x5)/\(nQ b c g a u x c0 c1 H I J z9 z8 y7 y6 x5 e).cell? (gf b 15)=some e/\(nQ b c g a u x c0 c1 H I J z9 z8 y7 y6 x5 e).cell? (Ad l (s*2))=some (Pt m.sb)/\(nQ b c g a u x c0 c1 H I J z9 z8 y7 y6 x5 e).cell? (Ad l (s*2+1))=some (Pt m.rb)):=by refine⟨b0,?_,?_,?_,?_,?_,?_,?_,?_,?_,?_,?_,?_,?_,?_,?_,?_,U,V⟩<;>simp
 have W:∀R,PW m n q M R->R<b.heap.size:=fun R P=>by
  rcases P with p|p
  ·exact(v.pair s m w).lt p
  ·obtain⟨c3,e9,b1,_⟩:=v.wl.type p;exact(bn.1 b1).1
 obtain⟨a9,E⟩:=fX v.tZ (n:=l) rfl;have Z:¬PW m n q M l:=fun P=>by
  rcases P with p|p
  ·exact(v.pair s m w).law E (by simp[ma]) p
  ·exact v.wl.B' E (by decide) (by decide) (by decide) p
 have a0:l<(nQ b c g a u x c0 c1 H I J z9 z8 y7 y6 x5 e).heap.size:=by have:=(bn.1 E).1;simp;omega
 have a3:Hid (∀t k:aK,t.heap=(nQ b c g a u x c0 c1 H I J z9 z8 y7 y6 x5 e).heap->kx d K G f n A z7 z4.length (ai (some (Ad l 0)) z4.length z) (PW m n q M) t k->k.cell? (Ad n 0)=some (ai (some (Ad l 0)) z4.length z)/\k.cell? (gf b 0)=some (II c)/\k.cell? (gf b 1)=some (II g)/\k.cell? (gf b 2)=some (II a)/\k.cell? (gf b 3)=some (II u)/\k.cell? (gf b 4)=some (II x)/\k.cell? (gf b 5)=some (II c0)/\k.cell? (gf b 6)=some (II c1)/\k.cell? (gf b 7)=some (II H)/\k.cell? (gf b 8)=some (II I)/\k.cell? (gf b 9)=some (II J)/\k.cell? (gf b 10)=some (II z9)/\k.cell? (gf b 11)=some (II z8)/\k.cell? (gf b 12)=some (II y7)/\k.cell? (gf b 13)=some (II y6)/\k.cell? (gf b 14)=some (II x5)/\k.cell? (gf b 15)=some e/\k.cell? (Ad l (s*2))=some (Pt m.sb)/\k.cell? (Ad l (s*2+1))=some (Pt m.rb)):=by intro t k C B;obtain⟨⟨c9,d0,f1,f2,f0,e8,d1,_,_,_,b2⟩,Y⟩:=B;have b3:∀i,k.cell? (gf b i)=(nQ b c g a u x c0 c1 H I J z9 z8 y7 y6 x5 e).cell? (gf b i):=fun i=>cn (a:=gf b i) ((Y.block b.heap.size (by rw[C];simp) (fun p=>Nat.lt_irrefl _ (W _ p))).trans (by rw[C]));have b4:∀i,k.cell? (Ad l i)=(nQ b c g a u x c0 c1 H I J z9 z8 y7 y6 x5 e).cell? (Ad l i):=fun i=>cn (a:=Ad l i) ((Y.block l (by rw[C];exact a0) Z).trans (by rw[C]));have b9:=T.out;simp only[b3,b4];exact⟨by simp[aD,b2.wl.gK],b9.2⟩
 have a4:=fK (v.PE w);clear a1 a2 Q w L W E Z a0 a9;clear X D v;obtain⟨_,d2,d3,e0,e1,e2,e3,e4,e5,e6,e7,d4,d5,d6,d7,d8,d9,_,_⟩:=T.out;have c7:=N.1;have c8:=N.2;go_enter func35,ntmps35;go_wp2_with fail;go_region_held3 (fun j=>j.cell? (Ad n 0)=some (ai (some (Ad l 0)) z4.length z)/\j.cell? (gf b 0)=some (II c)/\j.cell? (gf b 1)=some (II g)/\j.cell? (gf b 2)=some (II a)/\j.cell? (gf b 3)=some (II u)/\j.cell? (gf b 4)=some (II x)/\j.cell? (gf b 5)=some (II c0)/\j.cell? (gf b 6)=some (II c1)/\j.cell? (gf b 7)=some (II H)/\j.cell? (gf b 8)=some (II I)/\j.cell? (gf b 9)=some (II J)/\j.cell? (gf b 10)=some (II z9)/\j.cell? (gf b 11)=some (II z8)/\j.cell? (gf b 12)=some (II y7)/\j.cell? (gf b 13)=some (II y6)/\j.cell? (gf b 14)=some (II x5)/\j.cell? (gf b 15)=some e/\j.cell? (Ad l (s*2))=some (Pt m.sb)/\j.cell? (Ad l (s*2+1))=some (Pt m.rb)) (first|assumption|go_keep) (first
  |(go_at_call 64;refine(a6.out _).mono ?_;rintro p j ⟨rfl,rfl⟩)
  |(go_at_call 63;refine(a7.out _ (fQ S.out _)).mono ?_;rintro p c2 ⟨rfl,B⟩;have b6:=a3.out _ c2 (by rfl) B))
 clear b6;have a5:=fK ((B.pre (fQ S.out _)).step a4.out);clear B;go_wp2_with fail;go_ret;exact⟨rfl,a5.out⟩
def qs(N:Nat)(M L:Int)(base bw k m n:Nat)(r:Prop)(w w':aK):Prop:=(∃k' m' lv vb vs qn mr ps,k'<=k+4004/\m'<=m+4/\ps.length<=n+1/\n<=ps.length/\(r->0<ps.length)/\iF N M L w' base bw k' m' lv vb vs qn mr ps)/\gm (rR base bw) w w'
theorem pK.r{M:Int}{r:Prop}(h:pK a M L base d k m n w b)(p:r->0<n):qs a M L base d k m n r w b:=by obtain⟨⟨q,t,s,y,z,x,v,u,f,g,j,c,l⟩,o⟩:=h;exact⟨⟨q,t,s,y,z,x,v,u,f,g,j,c,fun e=>ca (p e) c,l⟩,o⟩
theorem qs.mono{M:Int}{r:Prop}(h:qs a M L base d k m n r w b)(q:a<=N')(p:M<=M')(o:L<=L'):qs N' M' L' base d k m n r w b:=by obtain⟨⟨t,v,u,A,B,z,y,x,c,e,f,g,j,l⟩,s⟩:=h;exact⟨⟨t,v,u,A,B,z,y,x,c,e,f,g,j,l.mono q p o⟩,s⟩
theorem qs.pre{M:Int}{r:Prop}{c:aK}(h:qs a M L base d k m n r b c)(e:Bw w b):qs a M L base d k m n r w c:=⟨h.1,(gm.fU e).trans h.2⟩
theorem iF.qQ{M:Int}{g:aM}{z4:List gU}(h:iF a M L w base d k m e g q o y z4)(f:j_ base d e g q k m y w b):pK a M L base d k m z4.length w b:=by
 obtain⟨l,p,n,s,j⟩:=h.plain f;exact⟨⟨l,m,e,p,q,n,y,z4,by omega,by omega,by omega,ar _,j⟩,f.2.mono fun t _ c=>by
  rcases c with c|c
  ·exact bg c
  ·exact bf (kL h.wl.oT c)⟩
def sf(B:Nat)(w:aK)(ps:List gU)(v:aM):Prop:=v=ai none 0 0\/∃ad cap l,∃Z:Nat->Prop,v=ai (some ad) l.length cap/\l.length<=B/\ts Z w v l/\∀q,Z q->q<w.heap.size/\∀(i:Nat) p,ps[i]? =some p->¬p.F q
theorem sf.below{z4:List gU}(h:sf a w z4 v)(c:Bw w b):sf a b z4 v:=by
 rcases h with h|⟨j,cap,n,g,k,l,m,e⟩
 ·exact bg h
 ·exact bf ⟨j,cap,n,g,k,l,m.below c,fun f d=>⟨ca (e f d).1 c.size,(e f d).2⟩⟩
theorem yM{r:Prop}(q:1<=c)(s:c<=5)
  (m:aL ab 62 #[Pt f,.agg (zf c g l u x c0 c1 H I J z9 z8 y7 y6 x5 e)] (nQ b c g l u x c0 c1 H I J z9 z8 y7 y6 x5 e) fun h j=>h=.returned (.bool true)/\qs a x4 v1 d f n A z7 r (nQ b c g l u x c0 c1 H I J z9 z8 y7 y6 x5 e) j):
  aL ab 35 #[Pt f,.agg (zf c g l u x c0 c1 H I J z9 z8 y7 y6 x5 e)] b fun h j=>h=.returned (.bool true)/\qs a x4 v1 d f n A z7 r b j:=by
 have k:=fK m;clear m;go_enter func35,ntmps35;go_wp2_with fail;refine k.out.mono ?_;rintro h t ⟨rfl,o⟩;clear k;have p:=fK (o.pre (fO _ _));clear o;go_wp2_with fail;go_ret;exact⟨rfl,p.out⟩
theorem JJ{z4:List gU}(k:iF a x4 v1 b d f n A h q M o y z4)(t:c<1):
  aL ab 35 #[Pt f,.agg (zf c g l u x c0 c1 H I J z9 z8 y7 y6 x5 e)] b fun p s=>p=.returned (.bool true)/\pK a x4 v1 d f n A z4.length b s:=by
 have j:=fO b (.cells (zf c g l u x c0 c1 H I J z9 z8 y7 y6 x5 e) 90);have m:=fK ((k.below j).out rfl (gm.fU j));clear k j;go_enter func35,ntmps35;go_wp2_with fail;go_ret;exact⟨rfl,m.out⟩
theorem ts.imp{L Z':Nat->Prop}{l:List Int}(h:ts L w v l)(u:∀a,a<w.heap.size->L a->Z' a):ts Z' w v l:=by
 obtain⟨g,j,d,cap,e,k,m,n,o⟩:=h;refine⟨g,j,d,cap,e,k,m,n,fun c=>?_⟩;obtain⟨b,x,q,s,p⟩:=o c;have t:b<w.heap.size:=by
  have f:=p 0 c;rcases ay b w.heap.size with h|h
  ·exact h
  ·simp[aD,Array.getElem?_eq_none h]at f
 grind
def mu(B:Nat)(Z:Nat->Prop)(w:aK)(v:aM):Prop:=v=ai none 0 0\/∃ad cap l,v=ai (some ad) l.length cap/\l.length<=B/\ts Z w v l
theorem mu.law{M:Int}{A:aM}{z4:List gU}(h:mu a (fun c=>¬rR base d c) b v)(s:gm (rR base d) b w)(B:base<=w.heap.size)(t:iF f M L w base d k m e A q o y z4):sf a w z4 v:=by
 rcases h with h|⟨l,cap,x,j,n,u⟩
 ·exact bg h
 ·refine bf ⟨l,cap,x,_,j,n,u.gx s (fun c g=>g),fun c g=>⟨?_,fun i z hi p=>?_⟩⟩
  ·have:¬base<=c:=fun j=>g (bf j);omega
  ·exact g (bf (t.low i z c hi p))
def Ae(x:Int):Prop:=-9223372036854775808<=x/\x<=9223372036854775807
theorem oU(a:decide (-9223372036854775808<=c)=true)(b:decide (c<=9223372036854775807)=true):Ae c:=⟨of_decide_eq_true a,of_decide_eq_true b⟩
def WH(b:Nat)(W:aK):Prop:=W.heap[b]? =some (.cells Kl 85 (0,0))/\W.heap[b+1]? =some (.cells Kj 5 (0,0))
theorem WH.lt(h:WH a b):a+1<b.heap.size:=(bn.1 h.2).1
theorem WH.w_(h:WH a b)(c:Below d b w)(e:a+1<d):WH a w:=⟨(c.block a (by omega)).trans h.1,(c.block (a+1) e).trans h.2⟩
theorem WH.rd(h:WH a b):ka b (ai (some (Ad (a+1) 0)) 12 12) [1,5,0,0,0,0,3,0,0,2,104,105]:=by refine⟨by unfold gG;decide,by decide,some (Ad (a+1) 0),12,rfl,by decide,by decide,fun h=>(by cases h),fun _=>⟨a+1,0,_,_,rfl,h.2,fun c d=>?_⟩⟩;have e:c<12:=d;rcases(show c=0\/c=1\/c=2\/c=3\/c=4\/c=5\/c=6\/c=7\/c=8\/c=9\/c=10\/c=11 by omega) with rfl|rfl|rfl|rfl|rfl|rfl|rfl|rfl|rfl|rfl|rfl|rfl<;>rfl
theorem ka.step{l:List Int}(h:ka b v l)(f:WH a b)(k:b.heap.size<=base):ts (fun e=>¬rR base a e) b v l:=
 h.K7.imp fun e m d c=>by
  obtain⟨g,j,d⟩:=d;rcases c with c|c
  ·rw[c,f.1]at d;simp at d
  ·omega
theorem Aj(c:Bw b w)(f:b.heap.size<=a)(d:gm (rR a b.heap.size) w z5):Bw b z5:=
 ⟨d.os.trans c.os,d.tape.trans c.tape,d.output.trans c.output,bZ c.size d.size,fun i hi=>(d.block i (ca hi c.size) (fun e=>by rcases e with e|e<;>omega)).trans (c.block i hi)⟩
def Ar:List Int:=[1,6,9]++jg 0 9 4++[4,1,0,1,120]
theorem DF:gG Ar:=(gG.append (show gG [1,6,9] by unfold gG;decide) (oW (by decide) (by decide))).append (show gG [4,1,0,1,120] by unfold gG;decide)
theorem As:Ar.length=17:=by decide
theorem I8(f:WH a b):iF 0 0 0 b b.heap.size a 0 0 (ai none 0 0) (ai none 0 0) (ai none 0 0) [] [] []:=
 ⟨⟨f.1,rfl,rfl,ak _ _ _ _,ak _ _ _ _,fun i h d=>by simp at d,fun i h d=>by simp at d⟩,ar _,ak _ _ _ _,fun i e c=>by simp at c,fun i e g c=>by simp at c,fun i j e k g _ c=>by simp at c⟩
theorem Ks{H:Type}(a:DataW H):1<=Rows.uptoBulk a:=by unfold Rows.uptoBulk;split<;>omega
theorem xK{H:Type}:∀l:List (DataW H),l.length<=Rows.uptoBulkAll l
 |[]=>be _
 |d::r=>by have h1:=Ks d;have h2:=xK r;simp only[Rows.uptoBulkAll,List.length_cons];omega
theorem xL{H:Type}{d:DataW H}:∀{l:List (DataW H)},d∈l->Rows.uptoBulk d<=Rows.uptoBulkAll l
 |x::l,hd=>by
  simp only[Rows.uptoBulkAll];rcases List.mem_cons.1 hd with rfl|h
  ·omega
  ·have:=xL h;omega
section
variable {H:Type}{enc:bG×aM->H}{w:aK}{spare:Nat->Bool}{held:Bool}
theorem rt{a:Nat}{e:aM}{f:List (DataW H×List MemPlace)}{i:Nat}(hi:i<f.length)(d:aX enc ab w 0 spare held a 3 [e]=f[i]?):∃b,e=II b/\Ae b:=by rw[ap hi]at d;obtain⟨b,c,_,g⟩:=DataW.trod_int underlying3 d;simp only[List.cons.injEq,and_true]at c;exact⟨b,c,bounds_i64 g⟩
theorem xM{a:Nat}{e:aM}{u0:DataW H×List MemPlace}(f:aX enc ab w 0 spare held a 44 [e]=some u0)(g:Rows.uptoBulk u0.1<=1048576):mu 1048576 (fun _=>True) w e/\e.oneCell'=true:=by
 rcases open_ints underlying44 underlying5 NH f with⟨b,_⟩|⟨h,len,cap,d,b,_,t,k,x,n,j,m⟩
 ·simp only[List.cons.injEq,and_true]at b;subst b;exact⟨bg rfl,rfl⟩
 ·simp only[List.cons.injEq,and_true]at b;subst b;have v:len<=d.length:=by grind
  have c:(d.take len).length=len:=by rw[List.length_take];omega
  have u:len<=1048576:=by rw[n]at g;simp only[Rows.uptoBulk]at g;have:=xK (lits (H:=H) .u8 (d.take len));simp only[lits,List.length_map,c]at this g;omega
  refine⟨bf ⟨h,cap,d.take len,by rw[c],by omega,?_⟩,rfl⟩;refine⟨fun p o=>?_,by rw[c];omega,some h,cap,by rw[c],by omega,by unfold aO at k;omega,fun f=>(by cases f),fun l=>?_⟩
  ·have:=bounds_u8 (m p (List.mem_of_mem_take o));omega
  ·rw[c]at l;obtain⟨q,y,rfl,s⟩:=ints_at j (by omega);grind
theorem DY{a6:Nat}{o:List aM}{u0:DataW H×List MemPlace}(X:aX enc ab w 0 spare held a6 90 o=some u0)(a5:Rows.uptoBulk u0.1<=1048576):
  ∃f:zk,o=f.cells/\(Ae f.on/\Ae f.a/\Ae f.nn/\mu 1048576 (fun _=>True) w f.v)/\f.v.oneCell'=true:=by
 obtain⟨b,d,_,rfl,V,a4,e⟩:=DataW.trod_struct underlying90 X;have a8:b.length=7:=a4;rw[Hh]at V;obtain⟨a7,W,A,y,u,m,n,p,q,s,g,h,j,k,l,c,rfl⟩:=Pw V;have O:aX enc ab w 0 spare held d 3 ((a_ 0 [a7,W,A,y,u,m,n,p,q,s,g,h,j,k,l,c]).take (ab.cellsOf 3))=b[0]?:=e 0 _ rfl;rw[mZ]at O;obtain⟨c0,rfl⟩:=jC (d:=b) (i:=0) (by omega) (by simpa using O);have P:aX enc ab w 0 spare held d 3 ((a_ 1 [II c0,W,A,y,u,m,n,p,q,s,g,h,j,k,l,c]).take (ab.cellsOf 3))=b[1]?:=e 1 _ rfl;rw[mZ]at P;obtain⟨c1,rfl,a1⟩:=rt (f:=b) (i:=1) (by omega) (by simpa using P);have Q:aX enc ab w 0 spare held d 3 ((a_ 2 [II c0,II c1,A,y,u,m,n,p,q,s,g,h,j,k,l,c]).take (ab.cellsOf 3))=b[2]?:=e 2 _ rfl;rw[mZ]at Q;obtain⟨t,rfl,a2⟩:=rt (f:=b) (i:=2) (by omega) (by simpa using Q);have R:aX enc ab w 0 spare held d 3 ((a_ 3 [II c0,II c1,II t,y,u,m,n,p,q,s,g,h,j,k,l,c]).take (ab.cellsOf 3))=b[3]?:=e 3 _ rfl;rw[mZ]at R;obtain⟨x,rfl⟩:=jC (d:=b) (i:=3) (by omega) (by simpa using R);have S:aX enc ab w 0 spare held d 3 ((a_ 4 [II c0,II c1,II t,II x,u,m,n,p,q,s,g,h,j,k,l,c]).take (ab.cellsOf 3))=b[4]?:=e 4 _ rfl;rw[mZ]at S;obtain⟨z,rfl,a3⟩:=rt (f:=b) (i:=4) (by omega) (by simpa using S);have T:aX enc ab w 0 spare held d 26 ((a_ 5 [II c0,II c1,II t,II x,II z,m,n,p,q,s,g,h,j,k,l,c]).take (ab.cellsOf 26))=b[5]?:=e 5 _ rfl;rw[Hg,ap (by omega)]at T;obtain⟨B,C,D,E,G,I,J,K,L,M,N⟩:=Dk T;simp only[List.drop_succ_cons,List.drop_zero,List.take_succ_cons,List.take_zero,List.cons.injEq,and_true]at N;obtain⟨rfl,rfl,rfl,rfl,rfl,rfl,rfl,rfl,rfl,rfl⟩:=N;have U:aX enc ab w 0 spare held d 44 ((a_ 15 [II c0,II c1,II t,II x,II z,II B,II C,II D,II E,II G,II I,II J,II K,II L,II M,c]).take (ab.cellsOf 44))=b[6]?:=e 6 _ rfl;rw[Mq,ap (by omega)]at U;have Z:aX enc ab w 0 spare held d 44 [c]=some b[6]:=by simpa using U
 obtain⟨a0,Y⟩:=xM Z (bZ (xL (df.2 ⟨b[6],List.getElem_mem _,rfl⟩)) (by simp only[Rows.uptoBulk]at a5;grind));exact⟨⟨c0,c1,t,x,z,B,C,D,E,G,I,J,K,L,M,c⟩,rfl,⟨a1,a2,a3,a0⟩,Y⟩
end
theorem xg{H:Type}{enc:bG×aM->H}{spare:Nat->Bool}{held:Bool}{u0:DataW H×List MemPlace}(u:aX enc ab b 0 spare held a 22 [e]=some u0)(t:Rows.uptoBulk u0.1<=1048576):
  ∃n:List zk,xE b e n/\(∀c∈n,(Ae c.on/\Ae c.a/\Ae c.nn/\mu 1048576 (fun _=>True) b c.v)/\c.v.oneCell'=true)/\n.length<=1048576:=by
 rcases open_slice underlying22 u with⟨g,_⟩|⟨o,len,cap,D,O,h,E,g,_,K,_,N,C,q⟩
 ·simp only[List.cons.injEq,and_true]at g;subst g;exact⟨[],bg ⟨rfl,rfl⟩,⟨fun c s=>absurd s (List.not_mem_nil),by decide⟩⟩
 ·simp only[List.cons.injEq,and_true]at g;subst g;have M:len<=D:=by grind
  rw[C]at t;simp only[Rows.uptoBulk]at t;have L:len<=1048576:=by have:=xK ((dp len).map h);rw[List.length_map,List.length_range]at this;omega
  have x:∀i,i<len->Rows.uptoBulk (h i)<=1048576:=by intro i hi;have:=xL (d:=h i) (l:=(dp len).map h) (df.2 ⟨i,List.mem_range.2 hi,rfl⟩);omega
  rw[Hh]at q;have A:∀i,i<len->∃c:zk,b.cells? 0 (o.add (i*16)) 16=some c.cells/\(Ae c.on/\Ae c.a/\Ae c.nn/\mu 1048576 (fun _=>True) b c.v)/\c.v.oneCell'=true:=by intro i hi;obtain⟨G,I,v⟩:=q i (by omega);obtain⟨c,rfl,s⟩:=DY v (x i hi);grind
  haveI:Inhabited zk:=⟨⟨0,0,0,0,0,0,0,0,0,0,0,0,0,0,0,ai none 0 0⟩⟩
  obtain⟨j,y⟩:=choose_lt A;have k:((dp len).map j).length=len:=by simp
  refine⟨(dp len).map j,bf ⟨o,cap,by rw[k],?_⟩,?_,?_⟩
  ·intro f P m;have J:f<len*16:=by have:=(bo.1 m).1;rw[ph,k]at this;exact this
   have p:f=f/16*16+f%16:=by omega
   rw[p,xR (f/16) (by rw[k];omega) (f%16) (by omega)]at m;have z:((dp len).map j)[f/16]'(by rw[k];omega)=j (f/16):=by simp
   rw[z]at m;have w:=(y (f/16) (by omega)).1;obtain⟨_,_,B⟩:=World.cells?_some w;have:=B (f%16) (by omega);rw[add_add,<-p]at this;rw[this];exact m
  ·grind
  omega
end Go.Proofs.YthmdjhlhodpbhaaGreatDoor
