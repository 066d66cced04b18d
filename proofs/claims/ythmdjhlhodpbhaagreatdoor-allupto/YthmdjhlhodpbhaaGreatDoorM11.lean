import Derived.WalkMore
import Derived.Lib.EndianBits
import Derived.Test.YthmdjhlhodpbhaaGreatDoorM06
import Derived.Test.YthmdjhlhodpbhaaGreatDoorM09
import Derived.Test.YthmdjhlhodpbhaaGreatDoorM10
set_option maxHeartbeats 16000000
set_option maxRecDepth 8000
set_option linter.all false
namespace Go.Proofs.YthmdjhlhodpbhaaGreatDoor
open Go.RowKit
open _root_.Or renaming inr → bf, inl → bg
open _root_.Array renaming getElem?_eq_some_iff → bn
open _root_.Nat renaming le_trans → bZ, lt_of_lt_of_le → ca, le_refl → ar, le_succ → ea
open _root_.List renaming getElem?_cons_zero → ce, mem_singleton → bV, getElem?_eq_getElem → ap, getElem?_cons_succ → cf, mem_append → bX, mem_of_getElem? → bS, map_cons → bz, getElem?_eq_some_iff → bo, length_eq_zero_iff → d', sum_cons → ec, mem_map → df
open Go.IntKind renaming wrap_i64 → dq
open _root_.And renaming intro → co
open Go.Value renaming ownBlock → aq
open Go.Instr renaming lookup → dZ, makeMap → eb
open Go.Maps renaming atKey_of_not_has → d_
open Go.ByteArray renaming toList_eq → cu
open _root_.Go renaming World → aK, Calls → aL, Value → aM, Ending → ed, heap_alloc_new → cA, u32_wrap_id → ee, heap_alloc2_new → ef, maxLen → aO
open _root_.Go.Proofs.Tryz
open _root_.Go.Proofs.Tryz renaming prog → ab
open Go.Value renaming slice → ai, pointer → ag
attribute [local simp] CV CI Bw mc lq io
variable {c g l u:Int}{b w z5:World}{s:g_}{j c':fV}{cb d f a base n i:Nat}{e v h:Value}{P:jJ}{k:List Int}{t:List (Int×List Int)}{N x y:gs}{ok:Bool}{F:Nat->Prop}{out:List (Int×Value)}{s6:Int->Int}{y0:List gs}{w8:List (Int×Nat)}{y5:Program}{y8 u5:TypeId}
def jh(ns:List Int):List Int:=(ns.map gE).flatten
theorem Gn(b:List Int)(a:Int):jh (b++[a])=jh b++gE a:=by simp[jh]
theorem AK(a:List Int):(jh a).length<=4*a.length:=by
 induction a with
 |nil=>simp[jh]
 |cons b d c=>have:=ll b;simp only[jh,bz,List.flatten_cons,List.length_append,List.length_cons]at c⊢;omega
theorem JY{kind:Int}(B:0<=c/\c<=1073741823)(I:∀f∈k,0<=f/\f<=1073741823)(a6:k.length<=8)(C:∀N f,k[N]? =some f->CI b a N f):
  aL ab 133 #[II c,.int .u8 kind,ai (some (Ad a 0)) k.length d] b fun s O=>∃o,s=.returned o/\O.ownsRow b.heap.size 5 1 o (jn c ([kind]++jh k)).length (U8 (jn c ([kind]++jh k)))/\Bw b O:=by
 obtain⟨a1,hi,Y,Z,a0⟩:=info_parts lE;have T:=fK C;have U:=fK I;clear C I;have a7:=ll c;go_enter func133,ntmps133;go_wp2_with fail;refine(kY (c:=c) B.1 B.2 (a:=b.heap.size) (d:=1) (o:=U8 [4]) (mw b 5 (U8 [4]) (by simp[U8,aO])) (by simp) (by decide)).mono ?_;rintro s P ⟨a2,rfl,v,D⟩;have q:Bw b P:=(fO _ _).grown D (by simp) (fun l j=>by simp[aq]at j;omega);have M:=q.size;go_wp2_with (at_builtin;refine wpList_append_own _ rfl _ _ 44 rfl b.heap.size 5 a1 (.int .u8 0) 1 1 underlying44 hi Y Z a0 rfl (by decide) a2 (1+(gE c).length) (U8 [4]++U8 (gE c)) rfl (v.alloc _) (gf P 0) 1 1 (U8 [kind]) rfl rfl (gY (by simp[U8,aO])) (ms) (by unfold aO;omega) (by omega) (by simp;omega) ?_;intro a3 Q K E _);have z:Bw b Q:=(q.alloc M _).grown E (by simp;omega) (fun l j=>(v.lt l j).1);have A:Q.ownsRow b.heap.size 5 1 a3 (jn c ([kind]++jh (k.take 0))).length (U8 (jn c ([kind]++jh (k.take 0)))):=by
  have t:U8 (jn c ([kind]++jh (k.take 0)))=U8 [4]++U8 (gE c)++U8 [kind]:=by simp[jn,jh,U8]
  have W:(jn c ([kind]++jh (k.take 0))).length=1+(gE c).length+1:=by simp[jn,jh];omega
  rw[t,W];exact K
 have S:=fK (co A z);clear v K D E q A z M;go_loopw [7,18] (fun o i R=>∃e:Nat,e<=k.length/\i=II e/\R.ownsRow b.heap.size 5 1 o (jn c ([kind]++jh (k.take e))).length (U8 (jn c ([kind]++jh (k.take e))))/\Bw b R) (fun _ i _=>k.length-(intOf i).toNat);case atStart=>exact⟨0,Nat.zero_le _,rfl,S.out⟩
 case round=>
  obtain⟨e,a5,rfl,h,g⟩:=hrel;by_cases X:e<k.length
  ·obtain⟨f,n⟩:∃f,k[e]? =some f:=⟨_,ap X⟩;have u:=U.out f (bS n);have a4:=fL (T.out e f n) g;have L:k.take (e+1)=k.take e++[f]:=by rw[List.take_add_one,n];rfl
   have H:(jn c ([kind]++jh (k.take e))).length<=70368744177664:=by have:=AK (k.take e);simp[jn]at this⊢;omega
   have y:=fK (kY u.1 u.2 h g.size H);have p:=fK (co h g);have V:=fK L;clear h g L H u n;go_wp2_with fail;refine y.out.mono ?_;rintro s a9 ⟨a8,rfl,J,G⟩;have w:=fK (co J G);clear y J G;go_wp2_with fail;go_roundw;case rel=>
    refine⟨e+1,by omega,by go_num,?_,?_⟩
    ·have t:jn c ([kind]++jh (k.take (e+1)))=jn c ([kind]++jh (k.take e))++gE f:=by rw[V.out,Gn];simp[jn]
     rw[t,nP,List.length_append];exact w.out.1
    ·exact p.out.2.grown w.out.2 p.out.2.size (fun l j=>(p.out.1.lt l j).1)
   case measure=>simp[intOf];omega
  ·obtain rfl:e=k.length:=by omega
   rw[List.take_length]at h;have x:=fK (co h g);clear h g;go_wp2_with fail;go_ret;exact⟨_,rfl,x.out.1,x.out.2⟩
def pG(g:g_)(c:fV)(mx:aM)(sm dm:Nat)(uX:Int):Array aM:=
 #[II g.c0,II g.c1,II g.c2,II g.c3,II g.c4,II g.c5,II g.c6,II g.c7,II g.c8,II g.c9,II c.fZ,II c.addr,.bool c.fY,II c.gR,II c.gS,II c.heard,II c.mark,mx,II c.fS,II g.c1,II c.fM.length,.map (some sm),.map (some dm),II uX]
def gC(w:aK)(cb:Nat)(g:g_)(c:fV)(mx:aM)(sm dm:Nat)(uX:Int):Prop:=w.heap[cb]? =some (.cells (pG g c mx sm dm uX) 137 (0,0))
theorem gC.cell(h:gC w cb s j e d f c)(i:Nat):w.cell? (Ad cb i)=(pG s j e d f c)[i]?:=by unfold gC at h;simp only[World.cell?,h];rfl
theorem gC.free(h:gC w cb s j e d f c)(i:Nat):w.frozen? (Ad cb i)=false:=frozen_of_row w cb i _ _ h
theorem gC.lt(h:gC w cb s j e d f c):cb<w.heap.size:=(bn.1 h).1
theorem gC.below(h:gC w cb s j e d f c)(a:Bw w b):gC b cb s j e d f c:=by unfold gC;rw[a.block cb h.lt];exact h
theorem gC.gx(h:gC w cb s j e d f c)(g:gm F w b)(a:¬F cb):gC b cb s j e d f c:=by unfold gC;rw[g.block cb h.lt a];exact h
theorem Dh(cb:Nat)(k:g_)(d:fV)(l:aM)(m h:Nat)(a:Int)(f:gC b cb k d l m h c):
  aL ab 43 #[Pt cb,II a] b fun j n=>j=.returned (.bool (decide (0<=a)&&decide (a<(d.fM.length:Int))))/\b=n:=by
 have o:CI b cb 20 d.fM.length:=f.cell 20;clear f;by_cases g:0<=a
 ·have e:decide (0<=a)=true:=decide_eq_true g;rw[e];go_enter func43,ntmps43;go_wp2_with fail;go_ret;exact⟨by simp,rfl⟩
 ·have e:decide (0<=a)=false:=decide_eq_false g;rw[e];go_enter func43,ntmps43;go_wp2_with fail;go_ret;exact⟨by simp,rfl⟩
theorem x_(l:gC b cb s j e d f c)(o:0<=s.c9/\s.c9<4294967296)(n:0<=j.addr/\j.addr<256)(q:0<=j.fZ/\j.fZ<=1073741823):
  aL ab 173 #[Pt cb] b fun p h=>p=.returned (II (i_ s.c9 j.addr j.fZ))/\Bw b h:=by
 have x:CI b cb 9 s.c9:=l.cell 9;have v:CI b cb 10 j.fZ:=l.cell 10;have w:CI b cb 11 j.addr:=l.cell 11;have m:=fK (fun u=>yY (c:=s.c9) (g:=j.addr) (l:=j.fZ) (b:=u) o.1 o.2 n.1 n.2 q.1 (by omega));clear l o n q;generalize i_ s.c9 j.addr j.fZ=B at m⊢;go_enter func173,ntmps173;go_wp2_with fail;go_region_held3 (fun h=>h.cell? (Ad cb 9)=some (II s.c9)/\h.cell? (Ad cb 10)=some (II j.fZ)/\h.cell? (Ad cb 11)=some (II j.addr)) (first|assumption|go_keep) (first
  |(go_at_call 104;refine(m.out _).mono ?_;rintro p C ⟨rfl,g⟩;have A:=fL x (gc g);have y:=fL v (gc g);have z:=fL w (gc g)))
 have t:=fK (gc g);clear g m A y z;go_wp2_with fail;go_ret;exact⟨rfl,t.out⟩
def CY(w:aK)(cb:Nat)(g:g_)(c:fV)(mx:aM)(sm dm:Nat)(uX:Int)(p pf:Int)(e:ed)(w':aK):Prop:=
 gm (· = cb) w w'/\((p≠pf/\e=.returned (II 10)/\gC w' cb g c mx sm dm uX)\/(p=pf/\e=.returned (II 0)/\gC w' cb g {c with fY:=true} mx sm dm uX))
theorem Fv(n:gC b cb s j e d f c)(u:0<=s.c9/\s.c9<4294967296)(q:0<=j.addr/\j.addr<256)(t:0<=j.fZ/\j.fZ<=1073741823):
  aL ab 204 #[Pt cb,II g] b fun m x=>CY b cb s j e d f c g (i_ s.c9 j.addr j.fZ) m x:=by
 have h:=fK (x_ n u q t);have p:=fK n;clear n u q t;generalize i_ s.c9 j.addr j.fZ=v at h⊢;by_cases o:g=v
 ·subst o;go_enter func204,ntmps204;go_wp2_with fail;refine h.out.mono ?_;rintro m w ⟨rfl,a⟩;have l:=fK (p.out.below a);have k:=fK a;have y:CV w cb 12 (.bool j.fY):=l.out.cell 12;have A:=l.out.free 12;clear a h;go_wp2_with fail;go_ret;exact⟨go k.out _ _,bf ⟨rfl,rfl,fT l.out _ _⟩⟩
 ·have z:(g==v)=false:=beq_eq_false_iff_ne.2 o;go_enter func204,ntmps204;go_wp2_with fail;refine h.out.mono ?_;rintro m w ⟨rfl,a⟩;have k:=fK a;clear a h;go_wp2_with fail;go_ret;exact⟨gm.fU k.out,bg ⟨o,rfl,p.out.below k.out⟩⟩
def kw(w:aK)(base:Nat)(out:List (Int×aM))(ii:List (Int×List Int)):Prop:=
 out.length=ii.length/\(∀(i:Nat) x y,out[i]? =some x->ii[i]? =some y->x.1=y.1/\w.ownsRow base 5 1 x.2 y.2.length (U8 y.2))/\∀(i j:Nat) x y k,i≠j->out[i]? =some x->out[j]? =some y->x.2.ownBlock=some k->y.2.ownBlock≠some k
theorem kw.by(h:kw w base out t):nx w base out t:=⟨h.1,h.2.1⟩
theorem kw.nil(w:aK)(base:Nat):kw w base [] []:=⟨rfl,fun i b c a=>(by simp at a),fun i d b c e _ a=>(by simp at a)⟩
theorem kw.one{a:Int}{l:List Int}(g:w.ownsRow base 5 1 v l.length (U8 l)):kw w base [(a,v)] [(a,l)]:=by
 refine⟨rfl,fun i d e b c=>?_,fun i h d e j f b c=>?_⟩
 ·grind
 grind
theorem kw.gx(h:kw w base out t)(l:gm F w b)(k:∀d g j,w.heap[d]? =some (.cells g 5 j)->¬F d):kw b base out t:=
 ⟨h.1,fun i e f a c=>⟨(h.2.1 i e f a c).1,gI (h.2.1 i e f a c).2 l k⟩,h.2.2⟩
theorem kw.mono(h:kw w a out t)(g:d<=a):kw w d out t:=
 ⟨h.1,fun i e f b c=>⟨(h.2.1 i e f b c).1,gq (h.2.1 i e f b c).2 g⟩,h.2.2⟩
def ix(w:aK)(base:Nat)(v:aM)(ii:List (Int×List Int)):Prop:=∃out,w.ownsRow base 60 2 v out.length (gj out)/\kw w base out ii
theorem Ec{a:aM}(d:base<=b.heap.size):(b.alloc (.cells #[II c,a] 60)).ownsRow base 60 2 (ai (some (Ad b.heap.size 0)) 1 1) 1 (gj [(c,a)]):=by have:=World.ownsRow_lit (base:=base) (e:=60) (size:=2) b #[II c,a] 1 d (by decide) (by simp);simpa[gj] using this
theorem ix.nil(w:aK)(base:Nat):ix w base (ai none 0 0) []:=⟨[],World.ownsRow_nil _ _ _ _,kw.nil _ _⟩
structure mU(w:aK)(cb:Nat)(g:g_)(c:fV)(mx:aM)(sm dm:Nat)(uX:Int)(f:List Int)(e:ed)(w':aK):Prop where
 ret:∃v,e=.returned v/\ix w' w.heap.size v (ig c f [])
 gK:gC w' cb g (hE c f) mx sm dm uX
 gx:gm (· = cb) w w'
theorem vB(kind:Int)(l:List Int)(a7 V:Nat)(P:gC b cb s j e d f c)(b8:0<=j.fZ/\j.fZ<=1073741823)(c8:0<=j.gR/\j.gR<=1125899906842624)(d1:0<=j.gS/\j.gS<=1125899906842624)(a3:∀B∈l,0<=B/\B<=1073741823)(a1:l.length<=8)(a0:∀a6 B,l[a6]? =some B->CI b a7 a6 B):
  aL ab 78 #[Pt cb,.int .u8 kind,ai (some (Ad a7 0)) l.length V] b fun v c6=>mU b cb s j e d f c ([kind]++jh l) v c6:=by
 have b1:CI b cb 10 j.fZ:=P.cell 10;have C:=fK (JY (kind:=kind) (d:=V) b8 a3 a1 a0);have a2:(jn j.fZ ([kind]++jh l)).length<=100:=by have b6:=AK l;have b7:=ll j.fZ;simp[jn]at b6 b7⊢;omega
 have a4:0<(jn j.fZ ([kind]++jh l)).length:=by simp[jn]
 have q:Hid (hE j ([kind]++jh l)=if l' j (jn j.fZ ([kind]++jh l)).length then {j with gS:=j.gS+(jn j.fZ ([kind]++jh l)).length} else j):=rfl;have t:Hid (ig j ([kind]++jh l) []=if l' j (jn j.fZ ([kind]++jh l)).length then [(j.addr,jn j.fZ ([kind]++jh l))] else []):=rfl;have a8:=fK P;generalize jn j.fZ ([kind]++jh l)=X at C a2 a4 q t;generalize [kind]++jh l=x at q t⊢;obtain⟨g,Q⟩:∃g,X.length=g:=⟨_,rfl⟩;rw[Q]at C a2 a4 q t;have a9:=fK Q;clear P a3 a1 a0 Q;have d2:IntKind.i64.wrap (j.gS+(g:Int))=j.gS+g:=by rw[dq];omega
 have d3:IntKind.i64.wrap (3*j.gR)=3*j.gR:=by rw[dq];omega
 go_enter func78,ntmps78;go_wp2_with fail;refine C.out.mono ?_;rintro v m ⟨c5,rfl,U,R⟩;have p:=fK (a8.out.below R);have b0:=fK U;have J:=fK R;obtain⟨H,I,rfl⟩:=gB U;have M:CI m cb 11 j.addr:=p.out.cell 11;have u:CV m cb 12 (.bool j.fY):=p.out.cell 12;have N:CI m cb 13 j.gR:=p.out.cell 13;have O:CI m cb 14 j.gS:=p.out.cell 14;clear U R C b1;have c2:l' j (g:Int)=true\/(j.fY=false/\3*j.gR<j.gS+g/\l' j (g:Int)=false):=by
  unfold l';cases j.fY with
  |true=>left;rfl
  |false=>
   by_cases Y:j.gS+(g:Int)<=3*j.gR
   ·left;simp[Y]
   ·right;simp[Y];omega
 rcases c2 with o|⟨z,c9,o⟩
 ·have K:Hid (hE j x = {j with gS:=j.gS+g}):=by show _=_;rw[q.out,if_pos o]
  have L:Hid (ig j x []=[(j.addr,X)]):=by show _=_;rw[t.out,if_pos o]
  have hcut:j.fY=true\/(j.fY=false/\j.gS+(g:Int)<=3*j.gR):=by
   unfold l' at o;cases k:j.fY with
   |true=>left;rfl
   |false=>rw[k]at o;right;simpa using o
  clear o q t;have W:Hid (∀h:aK,Bw m h->mU b cb s j e d f c x (.returned (ai (some (gf h 0)) 1 1)) ((h.setCell (Ad cb 14) (II (j.gS+g))).alloc (.cells #[II j.addr,.slice H g I] 60))):=by
   intro h G;have Z:gm (· = cb) h (h.setCell (Ad cb 14) (II (j.gS+g))):=go (Below.refl _ h) 14 _;have S:=p.out.below G;have c3:∀A D E v,h.heap[A]? =some (.cells D v E)->137≠v->¬A=cb:=by intro A D E v y b9 b5;subst b5;unfold gC at S;rw[S]at y;simp only[Option.some.injEq,Obj.cells.injEq]at y;exact b9 y.2.1
   have T:Below (h.setCell (Ad cb 14) (II (j.gS+g))).heap.size (h.setCell (Ad cb 14) (II (j.gS+g))) _:=fO _ (.cells #[II j.addr,.slice H g I] 60);refine⟨⟨_,rfl,[(j.addr,.slice H g I)],?_,?_⟩,?_,?_⟩
   ·have:=Ec (b:=(h.setCell (Ad cb 14) (II (j.gS+g)))) (base:=b.heap.size) (c:=j.addr) (a:=.slice H g I) (by rw[World.size_setCell];exact bZ J.out.size G.size);rw[World.size_setCell]at this;exact this
   ·rw[L.out];have c4:=gp b0.out G;have a5:=gp (gI c4 Z fun A D E y=>c3 A D E _ y (by decide)) T;rw[<-a9.out]at a5⊢;exact kw.one a5
   ·rw[K.out];exact gC.below (fT S 14 _) T
   ·exact((gm.fU (fP J.out G)).trans Z).trans (gm.fU T)
  rcases hcut with z|⟨z,d0⟩
  ·rw[z]at u;go_wp2_with fail;go_quiet (fail);have k:=fQ (Below.refl m.heap.size m) nq;clear M u N O;generalize m.drewN nq=h at k⊢;have n:=fK (p.out.below k);have w:=fK k;have b2:CI h cb 11 j.addr:=n.out.cell 11;have b4:CI h cb 14 j.gS:=n.out.cell 14;have c7:=n.out.free 14;have b3:CI (h.setCell (Ad cb 14) (II (j.gS+g))) cb 11 j.addr:=gC.cell (j:={j with gS:=j.gS+g}) (fT n.out 14 _) 11;clear k;go_wp2_with fail;go_ret;exact W.out h w.out
  ·rw[z]at u;go_wp2_with fail;go_quiet (fail);have k:=fQ (Below.refl m.heap.size m) nq;clear M u N O;generalize m.drewN nq=h at k⊢;have n:=fK (p.out.below k);have w:=fK k;have b2:CI h cb 11 j.addr:=n.out.cell 11;have b4:CI h cb 14 j.gS:=n.out.cell 14;have c7:=n.out.free 14;have b3:CI (h.setCell (Ad cb 14) (II (j.gS+g))) cb 11 j.addr:=gC.cell (j:={j with gS:=j.gS+g}) (fT n.out 14 _) 11;clear k;go_wp2_with fail;go_ret;exact W.out h w.out
 ·rw[z]at u;have K:Hid (hE j x=j):=by show _=_;rw[q.out,if_neg (by rw[o];decide)]
  have L:Hid (ig j x []=[]):=by show _=_;rw[t.out,if_neg (by rw[o];decide)]
  clear o q t;go_wp2_with fail;go_quiet (fail);have k:=fQ (Below.refl m.heap.size m) nq;clear M u N O;generalize m.drewN nq=h at k⊢;have n:=fK (p.out.below k);have w:=fK k;clear k;go_wp2_with fail;go_ret;refine⟨⟨_,rfl,?_⟩,?_,gm.fU (fP J.out w.out)⟩
  ·rw[L.out];exact ix.nil _ _
  ·rw[K.out];exact n.out
theorem Om{x:Int}:[c]++jh [g,l,u,x]=[c]++gE g++gE l++gE u++gE x:=by simp[jh]
theorem ix.mono(h:ix w a v t)(b:d<=a):ix w d v t:=by obtain⟨out,c,e⟩:=h;exact⟨out,gq c b,e.mono b⟩
theorem mU.pre{g:aM}{e:ed}{l:aK}(a:Bw w b)(h:mU b cb s j g d f c k e l):mU w cb s j g d f c k e l:=by obtain⟨o,m,n⟩:=h.ret;exact⟨⟨o,m,n.mono a.size⟩,h.gK,(gm.fU a).trans h.gx⟩
theorem ix.form(h:ix w a v t):∃b cap,v=.slice b t.length cap:=by obtain⟨out,d,e⟩:=h;obtain⟨b,cap,c⟩:=gr d;exact⟨b,cap,by rw[c,e.1]⟩
theorem wt(n:gC b cb s j e d f c)(o:0<=j.fZ/\j.fZ<=1073741823)(p:0<=j.gR/\j.gR<=1125899906842624)(t:0<=j.gS/\j.gS<=1125899906842624)(q:0<=g/\g<=1073741823):
  aL ab 163 #[Pt cb,II g] b fun m B=>mU b cb s j e d f c ([19]++gE g) m B:=by
 have k:Bw b (b.alloc (.cells #[II g] 3)):=fO _ _;have h:=fK (vB 19 [g] b.heap.size 1 (n.below k) o p t (fun A z=>by rw[bV.1 z];exact q) (by simp) (fun v A l=>by
  cases v with
  |zero=>simp only[ce,Option.some.injEq]at l;subst l;simp
  |succ v=>simp at l))
 rw[show([g]:List Int).length=1 from rfl]at h;have y:Hid ([19]++jh [g]=[19]++gE g):=by show _=_;simp[jh]
 have w:=fK k;clear n o p t q k;go_enter func163,ntmps163;go_wp2_with fail;refine h.out.mono ?_;intro m G a;rw[y.out]at a;obtain⟨C,rfl,u⟩:=a.ret;obtain⟨D,E,rfl⟩:=u.form;have x:=fK (a.pre w.out);clear a u h;go_wp2_with fail;go_ret;exact x.out
theorem uD(m:gC b cb s j e d f c)(o:jF s)(C:0<=j.addr/\j.addr<256)(u:0<=j.fZ/\j.fZ<=1073741823)(E:0<=j.gR/\j.gR<=1125899906842624)(I:0<=j.gS/\j.gS<=1125899906842624):
  aL ab 142 #[Pt cb] b fun l k=>mU b cb s j e d f c (gu s j) l k:=by
 have H:0<=i_ s.c9 j.addr j.fZ/\i_ s.c9 j.addr j.fZ<=1073741823:=by unfold i_;omega
 have v:=o.c1;have w:=o.c2;have x:=o.c3;have q:=fK (fun h (t:Bw b h)=>x_ (m.below t) o.c9 C u);have A:Hid ([20]++jh [i_ s.c9 j.addr j.fZ,s.c1,s.c2,s.c3]=gu s j):=Om;generalize i_ s.c9 j.addr j.fZ=p at q A H;have z:Hid (∀h:aK,Bw b h->aL ab 78 #[Pt cb,.int .u8 20,ai (some (gf h 0)) 4 4] (h.alloc (.cells #[II p,II s.c1,II s.c2,II s.c3] 3)) fun l k=>mU b cb s j e d f c (gu s j) l k):=by
  intro h t;have D:=fP t (fO h (.cells #[II p,II s.c1,II s.c2,II s.c3] 3));have B:=vB 20 [p,s.c1,s.c2,s.c3] h.heap.size 4 (m.below D) u E I (fun R G=>?_) (by simp) (fun K R a=>?_);rw[show([p,s.c1,s.c2,s.c3]:List Int).length=4 from rfl]at B;refine B.mono ?_
  ·intro l k g;rw[A.out]at g;exact g.pre D
  ·simp only[List.mem_cons,List.not_mem_nil,or_false]at G;rcases G with rfl|rfl|rfl|rfl<;>omega
  ·match K with
   |0=>simp only[ce,Option.some.injEq]at a;subst a;simp
   |1=>simp only[cf,ce,Option.some.injEq]at a;subst a;simp
   |2=>simp only[cf,ce,Option.some.injEq]at a;subst a;simp
   |3=>simp only[cf,ce,Option.some.injEq]at a;subst a;simp
   |K+4=>simp at a
 have c1:CI b cb 1 s.c1:=m.cell 1;have M:CI b cb 2 s.c2:=m.cell 2;have N:CI b cb 3 s.c3:=m.cell 3;clear m o C u E I H v w x;go_enter func142,ntmps142;go_wp2_with fail;go_region_held3 (fun k=>k.cell? (Ad cb 1)=some (II s.c1)/\k.cell? (Ad cb 2)=some (II s.c2)/\k.cell? (Ad cb 3)=some (II s.c3)) (first|assumption |(refine⟨fL v (fO _ _),fL w (fO _ _),fL x (fO _ _)⟩)|go_keep) (first
  |(go_at_call 173;refine(q.out _ (fQ (Below.refl _ b) _)).mono ?_;rintro l S ⟨rfl,n⟩;have v:=fL c1 (gc n);have w:=fL M (gc n);have x:=fL N (gc n))
  |(go_at_call 78;refine(z.out S (gc n)).mono ?_;intro l y g;obtain⟨U,rfl,J⟩:=g.ret;obtain⟨V,W,rfl⟩:=J.form;have O:CI y cb 1 s.c1:=g.gK.cell 1;have P:CI y cb 2 s.c2:=g.gK.cell 2;have Q:CI y cb 3 s.c3:=g.gK.cell 3;have T:=co O (co P Q)))
 have L:=fK g;clear g J z q n;go_wp2_with fail;go_ret;exact L.out
theorem lB{α:Type}{y9:List (Int×α)}(b:∀a∈y9,0<=s6 a.1):0<=iS s6 y9:=by
 induction y9 with
 |nil=>simp[iS]
 |cons c h f=>have g:=b c (by simp);have d:=f fun a e=>b a (by simp[e]);simp only[iS,bz,ec]at d⊢;omega
theorem vm{α:Type}{y9:List (Int×α)}(b:∀a∈y9,s6 a.1<=c):iS s6 y9<=y9.length*c:=by
 induction y9 with
 |nil=>simp[iS]
 |cons d j g=>have h:=b d (by simp);have e:=g fun a f=>b a (by simp[f]);simp only[iS,bz,ec,List.length_cons]at e⊢;grind
theorem yP{α:Type}(b c:List (Int×α))(a:Int)(d:α):iS s6 (b++(a,d)::c)=iS s6 (b++c)+s6 a:=by simp only[iS,List.map_append,bz,List.sum_append,ec];omega
theorem Is{o:Nat}(hi:Int->Int){c:aK}(a1:CV c cb 21 (.map (some d)))(L:iO kb ab 3 c d o w8)(P:∀a∈w8,CI c a.2 2 (hi a.1))(w:∀a∈w8,0<=hi a.1/\hi a.1<=1073741823)(c2:w8.length<=1073741823):
  aL ab 70 #[Pt cb,.func (.func 225) #[] #[]] c fun D b2=>D=.returned (II (iS hi w8))/\Bw c b2:=by
 have b6:iS hi w8<=1152921504606846976:=by have:=vm (c:=1073741823) fun a e=>(w a e).2;omega
 have R:=fK L;have V:=fK P;have C:=fK w;clear L P w;go_enter func70,ntmps70;go_wp2_with (first
  |(at_range;refine mS _ rfl _ 134 rfl 140 underlying3 underlying134 d o w8 rfl R.out ?_;intro b3 N I a7))
 have E:Bw c b3:=lz I;have z:=fK (co N E);clear N I a7 E a1;go_frame;go_loopw [5] (fun b1 p=>∃(rest:List (Int×Nat)) (s:Nat),iH kb ab 3 p d c.heap.size o w8 rest s/\b1=II (iS hi w8-iS hi rest)/\Hid (∀a∈rest,a∈w8)/\Hid (iS hi rest<=iS hi w8)/\Bw c p) (fun _ p=>p.rangeLeft d c.heap.size);case atStart=>exact⟨w8,_,z.out.1,by rw[Int.sub_self],fun a e=>e,fK (Int.le_refl _),z.out.2⟩
 case round=>
  obtain⟨rest,s,M,rfl,x,a9,G⟩:=hrel;have q:=fK G;have U:=fK M;clear G;go_wp2_with (first
   |(at_next;refine nK _ rfl _ rfl underlying3 d c.heap.size o w8 rest s rfl M ?_ ?_))
  ·intro a6;subst a6;go_wp2_with fail;go_ret;exact⟨by simp[iS],q.out⟩
  ·intro g k h j y W n c3 a0 O K J a8 b7;have u:(g,k)∈w8:=x.out _ (by rw[n];simp);have t:Bw c y:=q.out.grown J q.out.size (fun b5 a2=>by cases a2;exact ar _);have H:CI y k 2 (hi g):=fL (V.out (g,k) u) t;have v:=yP (s6:=hi) h j g k;rw[<-n]at v;have a4:0<=iS hi (h++j):=lB fun a e=>(C.out a (x.out a (by rw[n];simp at e⊢;rcases e with m|m<;>simp[m]))).1;have Q:Hid (∀a∈h++j,a∈w8):=fun a e=>x.out a (by rw[n];simp at e⊢;rcases e with m|m<;>simp[m]);have a3:0<=hi g/\hi g<=1073741823:=C.out (g,k) u;obtain⟨b8,b9⟩:=a3;have a5:=a9.out;have b0:IntKind.i64.wrap (iS hi w8-iS hi rest+hi g)=iS hi w8-iS hi (h++j):=by rw[dq];omega
   have S:=fK v;have A:=fK (Cz (a:=k) (hi:=hi g) (b:=y) H);have l:=fK (co O (co t (co K Q)));have T:=fK (show iS hi (h++j)<=iS hi w8 from by omega);generalize iS hi rest=b4 at b0 S⊢;clear v a4 t H u O K Q a5 J a8 a0;go_wp2_with fail;refine A.out.mono ?_;rintro D c4 ⟨rfl,rfl⟩;clear A;go_wp2_with fail;go_roundw;case rel=>exact⟨h++j,W,l.out.1,rfl,l.out.2.2.2,T,l.out.2.1⟩
   case measure=>have X:=l.out.1.left_eq;have Y:=U.out.left_eq;have Z:=l.out.2.2.1;rw[X,Y];exact Z
theorem BD(hi:Int->Int)(o:CV b cb 21 (.map (some d)))(e:CI b cb 23 c)(l:iO kb ab 3 b d f w8)(q:∀a∈w8,CI b a.2 2 (hi a.1))(g:∀a∈w8,0<=hi a.1/\hi a.1<=1073741823)(p:w8.length<=1073741823)(w:0<=c/\c<=1152921504606846976):
  aL ab 216 #[Pt cb] b fun n m=>n=.returned (II (c+iS hi w8))/\Bw b m:=by
 have u:0<=iS hi w8:=lB fun a e=>(g a e).1;have v:iS hi w8<=1152921504606846976:=by have:=vm (c:=1073741823) fun a e=>(g a e).2;omega
 have h:=fK (fun t (j:Bw b t)=>Is hi (fL o j) (l.same (j.block d l.lt)) (fun a e=>fL (q a e) j) g p);have x:IntKind.i64.wrap (c+iS hi w8)=c+iS hi w8:=by rw[dq];omega
 generalize iS hi w8=z at h x⊢;clear o l q g p w u v;go_enter func216,ntmps216;go_wp2_with fail;go_region_held3 (fun m=>m.cell? (Ad cb 23)=some (II c)) (first|assumption|go_keep) (first
  |(go_at_call 70;refine(h.out _ (fQ (Below.refl _ b) _)).mono ?_;rintro n A ⟨rfl,k⟩;have y:=fL e (gc k)))
 have s:=fK (gc k);clear k h y;go_wp2_with fail;go_ret;exact⟨rfl,s.out⟩
theorem LL:
  aL ab 130 #[II c] b fun h l=>∃d,b.heap.size<=d/\h=.returned (Pt d)/\(∀g,jt g l d (ai none 0 0) c (gP c))/\Bw b l:=by
 have f:=fK (DQ c b);go_enter func130,ntmps130;go_wp2_with fail;refine f.out.mono ?_;rintro h m ⟨rfl,j⟩;have e:=fK j;clear j f;go_wp2_with fail;go_ret;refine⟨m.heap.size,e.out.size,rfl,fun g=>⟨?_,[],?_,fun k a=>(by cases a)⟩,fP e.out (fO _ _)⟩
 ·exact cA m _
 ·exact⟨⟨rfl,bg ⟨rfl,rfl⟩⟩,⟨rfl,fun i k r a=>(by simp at a)⟩,fun i k r a=>(by simp at a)⟩
theorem Iw{fi:Int}{O:Bool}{x E:Int}:
  aL ab 215 #[.agg #[II fi,.bool O],ox g l u e x E] b fun a d=>a=.returned (II (mH g x fi))/\Bw b d:=by
 have f:Hid (∀c,aL ab 224 #[.agg (rf g l u e x E),II fi] c fun a d=>a=.returned (II (mH g x fi))/\Bw c d):=fun c=>rP;unfold ox;go_enter func215,ntmps215;go_wp2_with fail;refine(f.out _).mono ?_;rintro a k ⟨rfl,h⟩;have j:=fK (fP (fP (fO _ _) (fO _ _)) h);clear h f;go_wp2_with fail;go_ret;exact⟨rfl,j.out⟩
def mD{α:Type}(C:rJ α)(l:List (Int×α))(k:Int):aM:=match nR l k with
 |some y=>C.V y
 |none=>C.z
theorem sK{α:Type}{u6:rJ α}{f:TypeId}(j:y5.underlying f=some (.int .i64))(q:y5.underlying y8=some (.map f u5))(s:∀g,(zeroValue u5).run y5 g=.ok u6.z g){y9:List (Int×α)}(n:iO u6 y5 f b a d y9)(o:(Lit.int .i64 c).wf=true):
  (dZ y8 (.map (some a)) (II c) true).run y5 b=.ok (.tuple #[mD u6 y9 c,.bool (nR y9 c).isSome]) b:=by
 obtain⟨u,p,ok⟩:=n;obtain⟨t,v,k,e⟩:=p.look_ok (Maps.int_keyed j) q (s b) u6.Qc (Maps.keyOf_int_mk j o);rw[ok.has c]at k;have:t=mD u6 y9 c:=by
  unfold mD;cases l:nR y9 c with
  |some m=>rw[ok.at_ c m l]at e;exact(u6.inv e).1 m rfl
  |none=>have h:=ok.has c;rw[l]at h;rw[d_ (by simpa using h)]at e;exact(u6.inv e).2 rfl
 rw[<-this];exact k
theorem vf{α:Type}{u6:rJ α}{f:TypeId}(j:y5.underlying f=some (.int .i64))(q:y5.underlying y8=some (.map f u5))(s:∀g,(zeroValue u5).run y5 g=.ok u6.z g){y9:List (Int×α)}(m:iO u6 y5 f b a d y9)(n:(Lit.int .i64 c).wf=true):
  (dZ y8 (.map (some a)) (II c) false).run y5 b=.ok (mD u6 y9 c) b:=by
 obtain⟨u,o,ok⟩:=m;obtain⟨t,v,p,e⟩:=o.lookup (Maps.int_keyed j) q (s b) u6.Qc (Maps.keyOf_int_mk j n);have:t=mD u6 y9 c:=by
  unfold mD;cases k:nR y9 c with
  |some l=>rw[ok.at_ c l k]at e;exact(u6.inv e).1 l rfl
  |none=>have h:=ok.has c;rw[k]at h;rw[d_ (by simpa using h)]at e;exact(u6.inv e).2 rfl
 rw[<-this];exact p
structure gw where
 mx:aM
 sm:Nat
 dm:Nat
 sl:List (Int×Nat)
 dl:List (Int×(Int×Bool))
 lv:Int->aM
 u:Nat->Prop
def mG(l:List gs)(id:Int):Option (Int×Bool):=if 0<=id then(l[id.toNat]?).bind fun x=>if x.done then some (x.final,x.reset) else none else none
structure hC(N:Nat)(w:aK)(cb:Nat)(g:g_)(c:fV)(a:gw):Prop where
 gK:gC w cb g c a.mx a.sm a.dm (il c.fM)
 pk:∃vs,kC w a.mx vs (kA c.runs)
 py:∃n,n<=N/\iO kb ab 3 w a.sm n a.sl
 p_:∃n,n<=N/\iO pP ab 3 w a.dm n a.dl
 mp:E5 g.c2 c.fM a.sl
 str:∀p∈a.sl,∀x,c.fM[p.1.toNat]? =some x->jt a.u w p.2 (a.lv p.1) g.c2 x
 EW:∀id,nR a.dl id=mG c.fM id
 ne:a.sm≠a.dm
 apart:∀p∈a.sl,∀q∈a.sl,p.1≠q.1->p.2≠q.2/\∀k,(a.lv p.1).ownBlock=some k->(a.lv q.1).ownBlock≠some k
 ul:∀k,a.u k->k<w.heap.size
def E9(B:Nat)(a a':gw):Prop:=∀k,a'.u k->a.u k\/B<=k
def ie(cb:Nat)(a:gw)(k:Nat):Prop:=k=cb\/a.mx.ownBlock=some k\/k=a.sm\/k=a.dm\/∃p∈a.sl,k=p.2\/(a.lv p.1).ownBlock=some k
theorem hC.gx{l:Nat}{a:gw}(h:hC l w cb s j a)(e:gm F w b)(d:∀c,ie cb a c->¬F c)(t:∀c p q,w.heap[c]? =some (.cells p 5 q)->¬F c):hC l b cb s j a:=by
 obtain⟨A,o⟩:=h.pk;obtain⟨y,u,m⟩:=h.py;obtain⟨z,v,n⟩:=h.p_;refine⟨h.gK.gx e (d _ (bg rfl)),⟨A,?_⟩,⟨y,u,m.same (e.block _ m.lt (d _ (bf (bf (bg rfl)))))⟩,⟨z,v,n.same (e.block _ n.lt (d _ (bf (bf (bf (bg rfl))))))⟩,h.mp,fun k g B x=>?_,h.EW,h.ne,h.apart,fun c f=>ca (h.ul c f) e.size⟩
 ·exact⟨gM o.own e (fun c f=>d c (bf (bg f))),o.sh⟩
 ·exact(h.str k g B x).gx e (d _ (bf (bf (bf (bf ⟨k,g,bg rfl⟩))))) (fun c f=>d c (bf (bf (bf (bf ⟨k,g,bf f⟩))))) t
theorem hC.below{c:Nat}{a:gw}(h:hC c w cb s j a)(d:Bw w b):hC c b cb s j a:=
 h.gx (F:=fun _=>False) (gm.fU d) (fun _ _ h=>h) (fun _ _ _ _ h=>h)
theorem hC.mono{b N':Nat}{a:gw}(h:hC b w cb s j a)(c:b<=N'):hC N' w cb s j a:=by obtain⟨k,f,d⟩:=h.py;obtain⟨l,g,e⟩:=h.p_;exact⟨h.gK,h.pk,⟨k,bZ f c,d⟩,⟨l,bZ g c,e⟩,h.mp,h.str,h.EW,h.ne,h.apart,h.ul⟩
theorem Mo{α:Type}{y9:List (Int×α)}(a:nR y9 c=none):c∉y9.map (·.1):=qw.1 a
structure nO(N:Nat)(w:aK)(cb:Nat)(g:g_)(c:fV)(a:gw)(Ti:Int)(e:ed)(w':aK)(b:Nat)(a':gw):Prop where
 ret:e=.returned (Pt b)
 iq:hC (N+1) w' cb g c a'
 mem:(Ti,b)∈a'.sl
 gx:gm (fun k=>k=a.sm) w w'
 qc:∀k,ie cb a' k->ie cb a k\/w.heap.size<=k
 sub:∀k,ie cb a k->ie cb a' k
 u:a'.u=a.u
theorem hC.made{A:Nat}{z:aK}{a:gw}(h:hC A w cb s j a)(h0:0<=c)(L:j.fM[c.toNat]? =some x)(P:x.done=false)(R:nR a.sl c=none)(a5:w.heap.size<=f)(E:Bw w b)(W:jt a.u b f (ai none 0 0) s.c2 (gP s.c2))(a8:n<=A)(Q:iO kb ab 3 z a.sm (n+1) (a.sl++[(c,f)]))(t:b.grownBy z (some a.sm)):
  nO A w cb s j a c (.returned (Pt f)) z f {a with sl:=a.sl++[(c,f)],lv:=fun g=>if g=c then ai none 0 0 else a.lv g}:=by
 obtain⟨b2,a9,K⟩:=h.py;have Y:=K.lt;obtain⟨O,M,X⟩:=K.iM;have G:gm (fun g=>g=a.sm) b z:=⟨t.os,t.tape,t.output,t.size,fun g k v=>t.block g k (fun d=>by grind)⟩;have q:gm (fun g=>g=a.sm) w z:=(gm.fU E).trans G;have S:∀g B d C,w.heap[g]? =some (.cells B d C)->¬g=a.sm:=by grind
 have H:=Mo R;have Z:x=gP s.c2:=h.mp.Nh c.toNat x L P (by rw[Int.toNat_of_nonneg h0];exact H);have b1:b.heap[a.sm]? =some (.map O M):=by rw[E.block _ Y];exact X
 have v:∀l∈a.sl,l.1≠c:=fun l e d=>H (df.2 ⟨l,e,d⟩);obtain⟨a1,b0,I⟩:=h.p_;obtain⟨a4,a3,a6⟩:=I.iM;obtain⟨a2,J⟩:=h.pk;refine⟨rfl,⟨h.gK.gx q (S _ _ _ _ h.gK),⟨a2,gM J.own q (fun g k d=>?_),J.sh⟩,⟨n+1,by omega,Q⟩,⟨a1,by omega,?_⟩,?_,?_,h.EW,h.ne,?_,fun g k=>ca (h.ul g k) q.size⟩,by simp,q,?_,?_,rfl⟩
 ·subst d;obtain⟨c1,N⟩:=fX J.own k;grind
 ·exact I.same (q.block _ I.lt fun d=>h.ne d.symm)
 ·refine⟨?_,fun l e=>?_,fun i p m a0 k=>?_⟩
  ·simp only[List.map_append,bz,List.map_nil];rw[List.nodup_append];refine⟨h.mp.nd,by simp,fun g k y o d=>H ?_⟩;rw[<-bV.1 o,<-d];exact k
  ·rcases bX.1 e with e|e
   ·exact h.mp.str l e
   grind
  ·refine h.mp.Nh i p m a0 fun a7=>k ?_;grind
 ·intro l e p m;rcases bX.1 e with e|e
  ·have D:=(h.str l e p m).below E;simp only[if_neg (v l e)];refine D.gx G (fun d=>?_) (fun g k d=>?_) (fun g B C k d=>?_)
   ·have:=D.gK;grind
   ·obtain⟨b3,T⟩:=D.own;subst d;obtain⟨c1,N⟩:=fX T k;grind
   grind
  ·rw[bV.1 e]at m⊢;simp only at m⊢;rw[L]at m;simp only[Option.some.injEq]at m;subst m;simp only[if_true];rw[Z];refine W.gx G (fun d=>?_) (fun g k d=>?_) (fun g B C k d=>?_)
   ·omega
   ·simp[aq]at k
   grind
 ·intro l e y o V;rcases bX.1 e with e|e<;>rcases bX.1 o with o|o
  ·simp only[if_neg (v l e),if_neg (v y o)];exact h.apart l e y o V
  ·rw[bV.1 o];obtain⟨U,p,m,_⟩:=h.mp.str l e;have:=(h.str l e p m).lt;refine⟨by simp only;omega,fun g k=>?_⟩;simp[aq]
  ·rw[bV.1 e];obtain⟨U,p,m,_⟩:=h.mp.str y o;have:=(h.str y o p m).lt;refine⟨by simp only;omega,fun g k=>?_⟩;simp[aq]at k
  grind
 ·rintro g (d|d|d|d|⟨l,e,d⟩)
  ·exact bg (bg d)
  ·exact bg (bf (bg d))
  ·exact bg (bf (bf (bg d)))
  ·exact bg (bf (bf (bf (bg d))))
  ·rcases bX.1 e with e|e
   ·simp only[if_neg (v l e)]at d;exact bg (bf (bf (bf (bf ⟨l,e,d⟩))))
   ·rw[bV.1 e]at d;simp only[if_true]at d;rcases d with d|d
    ·omega
    ·simp[aq]at d
 ·rintro g (d|d|d|d|⟨l,e,d⟩)
  ·exact bg d
  ·exact bf (bg d)
  ·exact bf (bf (bg d))
  ·exact bf (bf (bf (bg d)))
  ·refine bf (bf (bf (bf ⟨l,by simp[e],?_⟩)));grind
theorem wA(j cb:Nat)(g:g_)(k:fV)(a:gw)(c:Int)(E:gs)(e:hC j b cb g k a)(T:j<1125899906842624)(L:0<=c/\c<=1073741823)(s:k.fM[c.toNat]? =some E)(y:E.done=false):
  aL ab 73 #[Pt cb,II c] b fun n Q=>∃d J,nO j b cb g k a c n Q d J:=by
 obtain⟨P,N,l⟩:=e.py;have D:(Lit.int .i64 c).wf=true:=pC (by omega);have q:=vf (u6:=kb) (u5:=140) underlying3 underlying134 (fun R=>by kernel_rfl) l D;have x:CV b cb 21 (.map (some a.sm)):=e.gK.cell 21;have K:CI b cb 2 g.c2:=e.gK.cell 2;cases f:nR a.sl c with
 |some d=>
  have h:mD kb a.sl c=Pt d:=by unfold mD;rw[f];rfl
  rw[h]at q;have m:Hid (nO j b cb g k a c (.returned (Pt d)) b d a):=⟨rfl,e.mono (ea _),Hq f,gm.refl _ _,fun O p=>bg p,fun O p=>p,rfl⟩;clear e l h f s y;go_enter func73,ntmps73;go_wp2_with fail;go_ret;exact⟨d,a,m.out⟩
 |none=>
  have h:mD kb a.sl c=ag none:=by unfold mD;rw[f];rfl
  rw[h]at q;have v:=fK (LL (c:=g.c2) (b:=b));have u:=fK l;have G:=fK e;have w:=fK f;have I:=fK s;clear e l h f s;go_enter func73,ntmps73;go_wp2_with fail;refine v.out.mono ?_;rintro n V ⟨d,M,rfl,B,o⟩;have S:=fL x o;have H:=fK B;have t:=fK o;clear B o v x K q;go_wp2_with (first
   |(at_mapUpdate;refine ER (C:=kb) _ rfl _ _ _ 134 rfl 140 underlying3 underlying134 a.sm P a.sl rfl (u.out.same (t.out.block a.sm u.out.lt)) (by unfold aO;omega) c d rfl rfl D w.out ?_;intro W A z U))
  have m:=fK (G.out.made L.1 I.out y w.out M t.out (H.out _) N A z);clear A z;go_ret;exact⟨d,_,m.out⟩
theorem AG:∀{i:Nat} {x y:gs},y0[i]? =some x->x.done=false->y.done=false->il (y0.set i y)=il y0:=by
 induction y0 with
 |nil=>grind
 |cons e f d=>
  intro i x y a b c;cases i with
  |zero=>simp only[ce,Option.some.injEq]at a;subst a;simp[il,b,c]
  |succ i=>have:=d (i:=i) (x:=x) (y:=y) (by simpa using a) b c;simp only[il,List.set_cons_succ,List.filter_cons]at this⊢;split<;>simp[this]
theorem yb{s8:gs}(a:y0[i]? =some N)(b:N.done=false)(d:s8.done=false):mG (y0.set i s8) c=mG y0 c:=by unfold mG;grind
theorem gC.fM(h:gC w cb s j e d f c)(l:List gs)(a:l.length=j.fM.length):gC w cb s {j with fM:=l} e d f c:=by unfold gC pG at h⊢;grind
theorem hC.Ry{P:Nat}{a:gw}(h:hC P w cb s j a)(H:(c,f)∈a.sl)(J:j.fM[c.toNat]? =some x)(V:x.done=false)(Y:y.done=false)
  (A:gm (fun d=>d=f\/(a.lv c).ownBlock=some d) w b) (a8:jt (fun d=>a.u d\/(w.heap.size<=d/\d<b.heap.size)) b f e s.c2 y) (K:e.ownBlock=(a.lv c).ownBlock\/∀d,e.ownBlock=some d->w.heap.size<=d):
  hC P b cb s {j with fM:=j.fM.set c.toNat y} {a with lv:=fun d=>if d=c then e else a.lv d,u:=fun d=>a.u d\/(w.heap.size<=d/\d<b.heap.size)}/\∀d,ie cb {a with lv:=fun d=>if d=c then e else a.lv d,u:=fun d=>a.u d\/(w.heap.size<=d/\d<b.heap.size)} d->ie cb a d\/w.heap.size<=d:=by
 have X:=h.str (c,f) H x J;have a3:=X.gK;obtain⟨c4,N⟩:=X.own;have T:∀d E g G,w.heap[d]? =some (.cells E g G)->g≠204->g≠259->¬(d=f\/(a.lv c).ownBlock=some d):=by
  rintro d E g G m t S (o|o)
  ·grind
  ·exact fR N m (fun g=>S g.symm) o
 have U:∀d R Q,w.heap[d]? =some (.map R Q)->¬(d=f\/(a.lv c).ownBlock=some d):=by
  rintro d R Q m (o|o)
  ·grind
  ·obtain⟨c1,v⟩:=fX N o;grind
 obtain⟨b0,a5,L⟩:=h.py;obtain⟨b1,a6,M⟩:=h.p_;obtain⟨b6,b4,a1⟩:=L.iM;obtain⟨b7,b5,a2⟩:=M.iM;obtain⟨b3,O⟩:=h.pk;have b8:=(h.mp.str (c,f) H).1;have a7:∀k∈a.sl,k.1=c->k.2=f:=by intro k l g;have t:=oe h.mp.nd (show(k.1,k.2)∈a.sl from l);have S:=oe h.mp.nd H;grind
 constructor
 ·refine⟨?_,⟨b3,gM O.own A (fun d m g=>?_),O.sh⟩,⟨b0,a5,L.same (A.block _ L.lt (U _ _ _ a1))⟩,⟨b1,a6,M.same (A.block _ M.lt (U _ _ _ a2))⟩,?_,?_,?_,h.ne,?_,fun d m=>m.elim (fun t=>ca (h.ul d t) A.size) (fun t=>t.2)⟩
  ·have t:=(h.gK.gx A (T _ _ _ _ h.gK (by decide) (by decide))).fM (j.fM.set c.toNat y) (by simp);simp only[AG J V Y];exact t
  ·obtain⟨c1,o⟩:=fX O.own m;grind
  ·refine⟨h.mp.nd,fun k l=>?_,fun i q n Z m=>?_⟩
   ·obtain⟨b2,q,n,Z⟩:=h.mp.str k l;grind
   ·have hi:i≠c.toNat:=by grind
    simp only at n;rw[getElem?_set_other hi]at n;exact h.mp.Nh i q n Z m
  ·intro k l q n;by_cases g:k.1=c
   ·simp only[if_pos g];rw[a7 k l g];simp only at n;rw[g,getElem?_set_at J]at n;simp only[Option.some.injEq]at n;subst n;exact a8
   ·simp only[if_neg g];have b9:=(h.mp.str k l).1;have v:k.1.toNat≠c.toNat:=by omega
    simp only at n;rw[getElem?_set_other v]at n;have B:=h.apart k l (c,f) H g;refine((h.str k l q n).gx A ?_ ?_ (fun d E G m=>T d E _ G m (by decide) (by decide))).mono (fun d m=>bg m)
    ·rintro(p|p)
     ·exact B.1 p
     ·have a4:=(h.str k l q n).gK;exact fR N a4 (by decide) p
    ·rintro d m (p|p)
     ·obtain⟨a0,C⟩:=(h.str k l q n).own;subst p;exact fR C a3 (by decide) m
     grind
  ·intro a9;rw[h.EW a9];exact(yb J V Y).symm
  ·intro k l z D I;by_cases o:k.1=c
   ·have v:z.1≠c:=fun g=>I (o.trans g.symm);have B:=h.apart k l z D I;refine⟨B.1,fun d m=>?_⟩;simp only[if_pos o]at m;simp only[if_neg v];rcases K with p|p
    ·grind
    ·intro W;obtain⟨c3,q,n,_⟩:=h.mp.str z D;obtain⟨a0,C⟩:=(h.str z D q n).own;have t:=(C.lt d W).2;grind
   ·by_cases v:z.1=c
    ·have B:=h.apart k l z D I;refine⟨B.1,fun d m=>?_⟩;simp only[if_neg o]at m;simp only[if_pos v];rcases K with p|p
     ·grind
     ·intro W;obtain⟨b2,q,n,_⟩:=h.mp.str k l;obtain⟨a0,C⟩:=(h.str k l q n).own;have t:=(C.lt d m).2;grind
    ·simp only[if_neg o,if_neg v];exact h.apart k l z D I
 ·rintro d (g|g|g|g|⟨k,l,g⟩)
  ·exact bg (bg g)
  ·exact bg (bf (bg g))
  ·exact bg (bf (bf (bg g)))
  ·exact bg (bf (bf (bf (bg g))))
  ·by_cases o:k.1=c
   ·simp only[if_pos o]at g;rcases g with g|g
    ·exact bg (bf (bf (bf (bf ⟨k,l,bg g⟩))))
    ·rcases K with p|p
     ·rw[p,<-o]at g;exact bg (bf (bf (bf (bf ⟨k,l,bf g⟩))))
     grind
   ·simp only[if_neg o]at g;exact bg (bf (bf (bf (bf ⟨k,l,g⟩))))
structure Hd(N:Nat)(w:aK)(cb:Nat)(g:g_)(c:fV)(a:gw)(r:Int×fV)(e:ed)(w':aK):Prop where
 ret:e=.returned (II r.1)
 gx:gm (ie cb a) w w'
 gK:gC w' cb g c a.mx a.sm a.dm (il c.fM)
 iq:r.1=0->∃a',hC (N+1) w' cb g r.2 a'/\(∀k,ie cb a' k->ie cb a k\/w.heap.size<=k)/\E9 w.heap.size a a'
theorem BG(a:j.fM[P.id.toNat]? =none):gO c P j=(4,j):=by unfold gO;rw[a]
theorem uE(a:j.fM[P.id.toNat]? =some N):gO c P j=((gt c j.fS (im j.fM) P N).1,{j with fM:=j.fM.set P.id.toNat (gt c j.fS (im j.fM) P N).2}):=by unfold gO;rw[a]
theorem Cw(f:iA c N)(a:N.done=true)(e:P.type=3\/P.type=4\/P.type=5):gt c g l P N=(mH P.type (P.iP+P.bytes.length) N.final,N):=by
 have h:=(f.dn a).2.1;unfold gt;simp only;have d:rS N (P.iP+P.bytes.length) (decide (P.type≠3))=decide (mH P.type (P.iP+P.bytes.length) N.final=6):=by unfold rS mH;rw[a,uk e];grind
 rw[d];by_cases b:mH P.type (P.iP+P.bytes.length) N.final=6
 ·grind
 ·have:mH P.type (P.iP+P.bytes.length) N.final=0:=by unfold mH at b⊢;omega
  grind
theorem xj(b:N.done=false):(gt c g l P N).2.done=false:=by
 have d:∀r:gs,r.done=false->(jw P N r).done=false:=by intro r a;unfold jw;grind
 have a:(ij c N P.iP P.bytes).2.done=false:=by unfold ij;grind
 unfold gt;grind
theorem E5.len{α:Type}{l:List gs}{y9:List (Int×α)}(h:E5 c l y9):y9.length<=l.length:=by
 have g:∀d:List (Int×α),(d.map (·.1)).Nodup->(∀a∈d,0<=a.1)->(d.map fun a=>a.1.toNat).Nodup:=by
  intro d;induction d with
  |nil=>intro _ _;simp
  |cons f o n=>grind
 have j:=g y9 h.nd (fun a b=>(h.str a b).1);have b:((List.range l.length).filter fun i=>decide (i∈y9.map fun a=>a.1.toNat)).Perm (y9.map fun a=>a.1.toNat):=by rw[List.perm_ext_iff_of_nodup (List.nodup_range.filter _) j];intro f;simp only[List.mem_filter,List.mem_range,decide_eq_true_eq];refine⟨fun h=>h.2,fun e=>⟨?_,e⟩⟩;obtain⟨a,b,rfl⟩:=df.1 e;obtain⟨_,p,m,_⟩:=h.str a b;grind
 have k:=b.length_eq;grind
theorem rB(h:∀a∈y0,iA c a):0<=il y0:=by
 unfold il;have:∀b:List gs,(∀a∈b,iA c a/\a.done=true)->0<=(b.map fun a=>a.final).sum:=by
  intro b;induction b with
  |nil=>intro _;simp
  |cons e l g=>intro d;have j:=(d e (by simp)).1.dn (d e (by simp)).2;have k:=g fun a f=>d a (by simp[f]);grind
 grind
theorem Iu{z6:gw}(y:hC a b cb s j z6)(hi:iV s j)(b8:jF s)(a7:hS g j)(j8:a<1125899906842624)(h5:P.type=3\/P.type=4\/P.type=5)(j4:P.type=5->P.bytes=[])(a6:ut P)(k9:P.bytes.length<=1073741823)(Y:ka b e P.bytes):
  aL ab 205 #[Pt cb,ox P.type P.id (if P.type=5 then 0 else P.iP) e (P.iP+P.bytes.length) c] b fun p E=>Hd a b cb s j z6 (gO s.c4 P j) p E:=by
 obtain⟨q,c3⟩:∃q,(if P.type=5 then 0 else P.iP)=q:=⟨_,rfl⟩;obtain⟨k,a5⟩:∃k,P.iP+(P.bytes.length:Int)=k:=⟨_,rfl⟩;obtain⟨_,_,m,o,rfl,_⟩:=id Y;obtain⟨h,b5⟩:∃h,P.bytes.length=h:=⟨_,rfl⟩;have m7:=fK c3;have m6:=fK a5;have m5:=fK b5;rw[c3,a5,b5];rw[b5]at Y;have h0:=a6.id;have I:Bw b (b.alloc (.cells #[II P.type,II P.id,II q,.slice m h o,II k,II c] 286)):=fO b _;have c9:Hid ((b.alloc (.cells #[II P.type,II P.id,II q,.slice m h o,II k,II c] 286)).heap[b.heap.size]? =some (.cells #[II P.type,II P.id,II q,.slice m h o,II k,II c] 286 (0,0))):=cA b _;have K:=fK (Dh cb s j z6.mx z6.sm z6.dm (c:=il j.fM) P.id (b:=b.alloc (.cells #[II P.type,II P.id,II q,.slice m h o,II k,II c] 286)) (y.gK.below I));have k7:decide (0<=P.id)=true:=decide_eq_true h0.1;rw[k7,Bool.true_and]at K;have d1:=fK y;cases D:j.fM[P.id.toNat]? with
 |none=>
  have e4:¬(P.id<(j.fM.length:Int)):=by have:=List.getElem?_eq_none_iff.1 D;omega
  rw[decide_eq_false e4]at K;rw[BG D];have a1:Hid (Hd a b cb s j z6 (4,j) (.returned (II 4)) (b.alloc (.cells #[II P.type,II P.id,II q,.slice m h o,II k,II c] 286))):=⟨rfl,gm.fU I,y.gK.below I,fun y=>absurd (show(4:Int)=0 from y) (by decide)⟩;clear y hi b8 a7 a6 Y I c9 d1 D;unfold ox;go_enter func205,ntmps205;go_wp2_with fail;refine K.out.mono ?_;rintro p h9 ⟨rfl,rfl⟩;clear K;go_wp2_with fail;go_ret;exact a1.out
 |some x=>
  have e4:P.id<(j.fM.length:Int):=by have:=(bo.1 D).1;omega
  rw[decide_eq_true e4]at K;have h6:=bS D;have c6:=hi.str x h6;have m0:(Lit.int .i64 P.id).wf=true:=pC (by omega);obtain⟨n3,n0,b9⟩:=y.p_;have R:∀d:aK,Bw b d->(dZ 135 (.map (some z6.dm)) (II P.id) true).run ab d=.ok (.tuple #[mD pP z6.dl P.id,.bool (nR z6.dl P.id).isSome]) d:=fun d A=>sK (u6:=pP) (u5:=142) underlying3 underlying135 (fun d=>by kernel_rfl) (b9.same (A.block z6.dm b9.lt)) m0;have J:=y.EW P.id;have e3:mG j.fM P.id=if x.done then some (x.final,x.reset) else none:=by unfold mG;rw[if_pos h0.1,D];rfl
  rw[e3]at J;have g5:CV (b.alloc (.cells #[II P.type,II P.id,II q,.slice m h o,II k,II c] 286)) cb 22 (.map (some z6.dm)):=(y.gK.below I).cell 22;have d6:Bw b ((b.alloc (.cells #[II P.type,II P.id,II q,.slice m h o,II k,II c] 286)).alloc (tK)):=fP I (fO _ _);have j0:=fL g5 (fO (b.alloc (.cells #[II P.type,II P.id,II q,.slice m h o,II k,II c] 286)) (tK));cases V:x.done with
  |true=>
   rw[V]at J;simp only[if_true]at J;have c5:mD pP z6.dl P.id=.agg (Da x):=by unfold mD;rw[J];rfl
   simp only[c5,J,Option.isSome_some]at R;have h1:(dZ 135 (.map (some z6.dm)) (II P.id) true).run ab (b.alloc (.cells #[II P.type,II P.id,II q,.slice m h o,II k,II c] 286)).drew=.ok (.tuple #[.agg (Da x),.bool true]) (b.alloc (.cells #[II P.type,II P.id,II q,.slice m h o,II k,II c] 286)).drew:=R _ (fQ I 1);have h2:(dZ 135 (.map (some z6.dm)) (II P.id) true).run ab ((b.alloc (.cells #[II P.type,II P.id,II q,.slice m h o,II k,II c] 286)).alloc (tK)).drew=.ok (.tuple #[.agg (Da x),.bool true]) ((b.alloc (.cells #[II P.type,II P.id,II q,.slice m h o,II k,II c] 286)).alloc (tK)).drew:=R _ (fQ d6 1);have g0:=fK (fun d=>Iw (fi:=x.final) (O:=x.reset) (g:=P.type) (l:=P.id) (u:=q) (e:=.slice m h o) (x:=k) (E:=c) (b:=d));have f0:=Cw (c:=s.c4) (g:=j.fS) (l:=im j.fM) (P:=P) c6 V h5;rw[a5]at f0;have i2:Hid (gO s.c4 P j=(mH P.type k x.final,j)):=by show _=_;rw[uE D,f0];simp only;rw[ia D]
   have a1:Hid (∀d:aK,Bw b d->Hd a b cb s j z6 (mH P.type k x.final,j) (.returned (II (mH P.type k x.final))) d):=fun d A=>⟨rfl,gm.fU A,y.gK.below A,fun _=>⟨z6,(y.below A).mono (ea _),fun f B=>bg B,fun f B=>bg B⟩⟩;clear y hi b8 a7 a6 Y d1 D R b9 c6 J e3 f0;rw[i2.out];unfold ox at g0⊢;go_enter func205,ntmps205;go_wp2_with fail;refine K.out.mono ?_;rintro p h9 ⟨rfl,rfl⟩;clear K;go_wp2_with fail;go_region;all_goals
    have W:=fK (fQ (fP I (fO (b.alloc (.cells #[II P.type,II P.id,II q,.slice m h o,II k,II c] 286)) (.cells (Da x) 142))) 1);go_wp2_with fail;refine(g0.out _).mono ?_;rintro p f5 ⟨rfl,X⟩;have c8:=fK (fP W.out X);clear X W;go_wp2_with fail;go_ret;exact a1.out _ c8.out
  |false=>
   rw[V]at J;simp only[Bool.false_eq_true,if_false]at J;have c5:mD pP z6.dl P.id=.agg #[II 0,.bool false]:=by unfold mD;rw[J];rfl
   simp only[c5,J,Option.isSome_none]at R;have h1:(dZ 135 (.map (some z6.dm)) (II P.id) true).run ab (b.alloc (.cells #[II P.type,II P.id,II q,.slice m h o,II k,II c] 286)).drew=.ok (.tuple #[.agg #[II 0,.bool false],.bool false]) (b.alloc (.cells #[II P.type,II P.id,II q,.slice m h o,II k,II c] 286)).drew:=R _ (fQ I 1);have h2:(dZ 135 (.map (some z6.dm)) (II P.id) true).run ab ((b.alloc (.cells #[II P.type,II P.id,II q,.slice m h o,II k,II c] 286)).alloc (tK)).drew=.ok (.tuple #[.agg #[II 0,.bool false],.bool false]) ((b.alloc (.cells #[II P.type,II P.id,II q,.slice m h o,II k,II c] 286)).alloc (tK)).drew:=R _ (fQ d6 1);have g9:=hi.high;have k6:=a7.fS;have k4:=b8.c4;have h4:=FR (c:=s.c4) hi.str y.mp;have l1:=rB hi.str;obtain⟨m1,m9,S⟩:=y.py;have e2:∀G∈z6.sl,∃N,j.fM[G.1.toNat]? =some N/\tM (·.fW) j.fM G.1=N.fW/\iA s.c4 N:=by intro G T;obtain⟨_,N,Z,_⟩:=y.mp.str G T;exact⟨N,Z,by unfold tM;rw[Z];rfl,hi.str N (bS Z)⟩
   have e8:∀G∈z6.sl,0<=tM (·.fW) j.fM G.1/\tM (·.fW) j.fM G.1<=1073741823:=by intro G T;obtain⟨N,Z,p,f3⟩:=e2 G T;rw[p];have:=f3.rn;have:=f3.len;have:=f3.read;omega
   have l9:=lB (s6:=tM (·.fW) j.fM) (y9:=z6.sl) fun G T=>(e8 G T).1;have l7:=y.mp.len;have l6:=a7.lu;have g2:Hid (∀d:aK,Bw b d->aL ab 216 #[Pt cb] d fun p E=>p=.returned (II (im j.fM))/\Bw d E):=by intro d A;rw[h4];refine BD (cb:=cb) (d:=z6.sm) (f:=m1) (w8:=z6.sl) (tM (·.fW) j.fM) (c:=il j.fM) (b:=d) ((y.gK.below A).cell 21) ((y.gK.below A).cell 23) (S.same (A.block z6.sm S.lt)) (fun G T=>?_) e8 (by omega) (by omega);obtain⟨N,Z,p,_⟩:=e2 G T;rw[p];exact((y.str G T N Z).below A).cell 2
   have f9:Hid (∀d:aK,Bw b d->aL ab 73 #[Pt cb,II P.id] d fun p E=>∃v t,nO a d cb s j z6 P.id p E v t):=
    fun d A=>wA a cb s j z6 P.id x (b:=d) (y.below A) j8 (by omega) D V
   have g4:Hid (∀(d:aK) (v:Nat) (t:gw),hC (a+1) d cb s j t->(P.id,v)∈t.sl->ka d (.slice m h o) P.bytes->aL ab 217 #[Pt v,.agg #[II P.type,II P.id,II q,.slice m h o,II k,II c],II (j.fS-im j.fM),II s.c4] d fun p E=>Bk t.u (fun f=>f=v\/(t.lv P.id).ownBlock=some f) d v (t.lv P.id) s.c2 (gt s.c4 j.fS (im j.fM) P x) p E):=by intro d v t a4 e5 e1;have g7:=LN (a:=v) (e:=t.lv P.id) (c:=s.c2) (g:=s.c4) (l:=j.fS) (u:=im j.fM) (P:=P) (N:=x) (h:=.slice m h o) (x:=c) (b:=d) (a4.str (P.id,v) e5 x D) c6 V g9 (by omega) h5 j4 a6.iP k9 e1;rw[c3,a5]at g7;exact g7
   have k3:b.heap.size≠z6.sm:=by have:=S.lt;omega
   have f7:Hid (∀d O:aK,gm (fun f=>f=z6.sm) d O->d.heap[z6.sm]? =b.heap[z6.sm]?->ka d (.slice m h o) P.bytes->ka O (.slice m h o) P.bytes):=by intro d O b7 l4 e1;refine e1.gx b7 fun f d8 e0 B p=>?_;subst p;obtain⟨j1,i7,e9⟩:=S.iM;rw[l4,e9]at B;cases B
   have g1:Hid (∀(a2 b2 a3:aK) (v:Nat) (t:gw) (p:ed) (g6:ed),Bw b a2->nO a a2 cb s j z6 P.id g6 b2 v t->Bk t.u (fun f=>f=v\/(t.lv P.id).ownBlock=some f) b2 v (t.lv P.id) s.c2 (gt s.c4 j.fS (im j.fM) P x) p a3->Hd a b cb s j z6 (gO s.c4 P j) (.returned (II (gt s.c4 j.fS (im j.fM) P x).1)) a3):=by
    intro a2 b2 a3 v t p g6 U w H;have a8:=w.iq.str (P.id,v) w.mem x D;have j6:∀f,(f=v\/(t.lv P.id).ownBlock=some f)->ie cb t f:=fun f B=>bf (bf (bf (bf ⟨(P.id,v),w.mem,B⟩)));have j7:∀f,f<b.heap.size->ie cb t f->ie cb z6 f:=by
     intro f B j5;rcases w.qc f j5 with z|z
     ·exact z
     ·have:=U.size;omega
    have k5:gm (ie cb z6) b a3:=by have c1:gm (ie cb z6) b a2:=gm.fU U;refine⟨H.gx.os.trans (w.gx.os.trans c1.os),H.gx.tape.trans (w.gx.tape.trans c1.tape),H.gx.output.trans (w.gx.output.trans c1.output),bZ (bZ c1.size w.gx.size) H.gx.size,fun f B e6=>?_⟩;have z:f<a2.heap.size:=ca B c1.size;rw[H.gx.block f (ca z w.gx.size) (fun M=>e6 (j7 f B (j6 f M))),w.gx.block f z (fun M=>e6 (bf (bf (bg M)))),c1.block f B e6]
    have k2:∀{d7:fV} {f4:aM} {c7 d9:Nat} {a9:Int},gC b2 cb s d7 f4 c7 d9 a9->gC a3 cb s d7 f4 c7 d9 a9:=by
     intro d7 f4 c7 d9 a9 b4;refine b4.gx H.gx ?_;rintro(L|L)
     ·have z:=a8.gK;simp only at z;rw[<-L]at z;unfold gC at b4;rw[b4]at z;simp only[Option.some.injEq,Obj.cells.injEq]at z;exact absurd z.2.1 (by decide)
     ·obtain⟨m3,e7⟩:=a8.own;exact fR e7 b4 (by decide) L
    rw[uE D];refine⟨rfl,k5,?_,fun j2=>?_⟩
    ·have Q:=y.gK.below U;refine k2 (Q.gx w.gx fun L=>?_);have l0:=S.same (U.block z6.sm S.lt);obtain⟨j1,i7,e9⟩:=l0.iM;unfold gC at Q;rw[L,e9]at Q;cases Q
    ·obtain⟨n2,l5,k1⟩:=H.str j2;have k8:(gt s.c4 j.fS (im j.fM) P x).2.done=false:=xj V;obtain⟨a9,m2⟩:=w.iq.Ry w.mem D V k8 H.gx l5 k1;refine⟨_,a9,fun f B=>?_,fun f B=>B.elim (fun z=>bg (by rw[<-w.u];exact z)) (fun z=>bf (bZ (bZ U.size w.gx.size) z.1))⟩;rcases m2 f B with z|z
     ·rcases w.qc f z with M|M
      ·exact bg M
      ·exact bf (bZ U.size M)
     ·exact bf (bZ (bZ U.size w.gx.size) z)
   have g3:Hid (∀(d O:aK) (v:Nat) (t:gw),hC (a+1) d cb s j t->(P.id,v)∈t.sl->gm (fun f=>f=v\/(t.lv P.id).ownBlock=some f) d O->d.heap[b.heap.size]? =some (.cells #[II P.type,II P.id,II q,.slice m h o,II k,II c] 286 (0,0))->O.heap[b.heap.size]? =some (.cells #[II P.type,II P.id,II q,.slice m h o,II k,II c] 286 (0,0))/\O.cell? (Ad cb 4)=some (II s.c4)):=by
    intro d O v t a4 e5 b7 A;have a8:=a4.str (P.id,v) e5 x D;obtain⟨m3,e7⟩:=a8.own;have h3:∀f d8 p e0,d.heap[f]? =some (.cells d8 p e0)->p≠204->p≠259->¬(f=v\/(t.lv P.id).ownBlock=some f):=by
     rintro f d8 p e0 B z M (L|L)
     ·have b3:=a8.gK;simp only at b3;rw[<-L,B]at b3;simp only[Option.some.injEq,Obj.cells.injEq]at b3;exact z b3.2.1
     ·exact fR e7 B (fun p=>M p.symm) L
    refine⟨?_,(a4.gK.gx b7 (h3 _ _ _ _ a4.gK (by decide) (by decide))).cell 4⟩;rw[b7.block _ (bn.1 A).1 (h3 _ _ _ _ A (by decide) (by decide))];exact A
   have i1:=fK Y;have d0:=fK y.gK;have n1:IntKind.i64.wrap (j.fS-im j.fM)=j.fS-im j.fM:=by rw[dq];omega
   have i4:=fK (fun d=>po j.fS s.c1 d);have m4:=c9;have m8:=y.gK.lt;have l8:Hid (∀d:aK,Bw b d->d.heap[z6.sm]? =b.heap[z6.sm]?):=fun d A=>A.block z6.sm S.lt;have i3:=fK I;clear y hi b8 a7 a6 Y D R b9 S e2 e8 l9 l7 l6 h4 l1 c6 g9 k6 k4 J e3 c3 a5 b5 h6 c5 d1;unfold ox;go_enter func205,ntmps205;go_wp2_with fail;refine K.out.mono ?_;rintro p h9 ⟨rfl,rfl⟩;clear K;go_upto_region 3 with fail;go_cut [5,6] from 13 to 22 (fun h7 h8 i0=>h7=Pt (b.heap.size+1)/\h8=.bool false/\Bw b i0/\i0.heap[b.heap.size]? =some (.cells #[II P.type,II P.id,II q,.slice m h o,II k,II c] 286 (0,0)));case first=>
    go_region;all_goals
     go_wp2_with fail;go_meet;refine⟨rfl,rfl,fQ (fP i3.out (fO (b.alloc (.cells #[II P.type,II P.id,II q,.slice m h o,II k,II c] 286)) (tK))) 1,?_⟩;rw[heap_drew,Below.heap_alloc _ _ _ (by simp)];exact c9.out
   case rest=>
    obtain⟨rfl,rfl,b6,g8⟩:=hcut;have f8:=fK b6;have d3:=fK g8;have i8:CI wc cb 18 j.fS:=(d0.out.below b6).cell 18;have i9:CI wc cb 19 s.c1:=(d0.out.below b6).cell 19;clear b6 g8 g5 j0 h1 h2 d6 I;go_wp2_with fail;refine(i4.out _).mono ?_;rintro p f5 ⟨rfl,X⟩;have W:=fK (fP f8.out X);have d4:Hid (f5.heap[b.heap.size]? =some (.cells #[II P.type,II P.id,II q,.slice m h o,II k,II c] 286 (0,0))):=by show _=_;rw[X.block _ (bn.1 d3.out).1];exact d3.out
    clear X i8 i9 d3 f8;go_wp2_with fail;refine(g2.out f5 W.out).mono ?_;rintro p b0 ⟨rfl,Q⟩;have c8:=fK (fP W.out Q);have i5:Hid (b0.heap[b.heap.size]? =some (.cells #[II P.type,II P.id,II q,.slice m h o,II k,II c] 286 (0,0))):=by show _=_;rw[Q.block _ (bn.1 d4.out).1];exact d4.out
    clear Q d4 W g2;have a0:Hid (Bw b b0.drew):=fQ c8.out 1;have d5:Hid (b0.drew.heap[b.heap.size]? =some (.cells #[II P.type,II P.id,II q,.slice m h o,II k,II c] 286 (0,0))):=i5.out;have d2:Hid (∀d:aK,d.heap[b.heap.size]? =some (.cells #[II P.type,II P.id,II q,.slice m h o,II k,II c] 286 (0,0))->d.cell? (Ad cb 4)=some (II s.c4)->(d.cell? (gf b 0)=some (II P.type)/\d.cell? (gf b 1)=some (II P.id)/\d.cell? (gf b 2)=some (II q)/\d.cell? (gf b 3)=some (.slice m h o)/\d.cell? (gf b 4)=some (II k)/\d.cell? (gf b 5)=some (II c)/\d.cell? (Ad cb 4)=some (II s.c4))):=by intro d A j3;refine⟨?_,?_,?_,?_,?_,?_,j3⟩<;>simp only[World.cell?,A]<;>rfl
    have i6:=d2.out b0.drew d5.out ((d0.out.below a0.out).cell 4);obtain⟨n4,c7,n5,n6,n7,h7,h8⟩:=id i6;go_wp2_with fail;go_region_held3 (fun E=>E.cell? (gf b 0)=some (II P.type)/\E.cell? (gf b 1)=some (II P.id)/\E.cell? (gf b 2)=some (II q)/\E.cell? (gf b 3)=some (.slice m h o)/\E.cell? (gf b 4)=some (II k)/\E.cell? (gf b 5)=some (II c)/\E.cell? (Ad cb 4)=some (II s.c4)) (first|assumption|go_keep) (first
     |(go_at_call 73;refine(f9.out _ a0.out).mono ?_;rintro p b1 ⟨v,t,w⟩;have l2:=w.ret;subst l2;have f1:b1.heap[b.heap.size]? =some (.cells #[II P.type,II P.id,II q,.slice m h o,II k,II c] 286 (0,0)):=((w.gx.block _ (bn.1 d5.out).1 k3).trans d5.out);have j9:=d2.out b1 f1 (w.iq.gK.cell 4))
     |(go_at_call 217;refine(g4.out b1 v t w.iq w.mem (f7.out _ _ w.gx (l8.out _ a0.out) (i1.out.below a0.out))).mono ?_;intro p f6 H;have l3:=H.ret;subst l3;have f2:=g3.out b1 f6 v t w.iq w.mem H.gx f1;have k0:=d2.out f6 f2.1 f2.2))
    have a1:=fK (g1.out b0.drew b1 f6 v t (.returned (II (gt s.c4 j.fS (im j.fM) P x).1)) _ a0.out w H);clear w H j9 k0 f1 f2 g4 f9 g3 g1 f7;go_wp2_with fail;go_ret;exact a1.out
theorem hC.yx{u:Nat}{a:gw}(h:hC u w cb s j a)(f:gm (· = cb) w b)(B:gC b cb s c' a.mx a.sm a.dm (il j.fM))(l:c'.fM=j.fM)(J:c'.runs=j.runs):hC u b cb s c' a:=by
 have y:∀c g e k,w.heap[c]? =some (.cells g e k)->e≠137->¬c=cb:=by intro c g e k d U m;have n:=h.gK;unfold gC at n;grind
 have z:∀c x v,w.heap[c]? =some (.map x v)->¬c=cb:=by intro c x v d m;have n:=h.gK;unfold gC at n;grind
 obtain⟨L,E,o⟩:=h.py;obtain⟨M,G,p⟩:=h.p_;obtain⟨S,Q,C⟩:=o.iM;obtain⟨T,R,D⟩:=p.iM;obtain⟨O,t⟩:=h.pk;refine⟨by rw[l];exact B,⟨O,gM t.own f (fun c d e=>?_),by rw[J];exact t.sh⟩,⟨L,E,o.same (f.block _ o.lt (z _ _ _ C))⟩,⟨M,G,p.same (f.block _ p.lt (z _ _ _ D))⟩,by rw[l];exact h.mp,fun N I P A=>?_,fun K=>by rw[l];exact h.EW K,h.ne,h.apart,fun c d=>ca (h.ul c d) f.size⟩
 ·obtain⟨c1,m⟩:=fX t.own d;grind
 ·rw[l]at A;have q:=h.str N I P A;obtain⟨V,H⟩:=q.own;refine q.gx f (y _ _ _ _ q.gK (by decide)) (fun c d e=>?_) (fun c g k d=>y c g _ k d (by decide));obtain⟨c1,m⟩:=fX H d;grind
structure zj(N:Nat)(w:aK)(cb:Nat)(g:g_)(c:fV)(a:gw)(r:Int×fV)(e:ed)(w':aK):Prop where
 ret:e=.returned (II r.1)
 gx:gm (ie cb a) w w'
 gK:r.1≠0->gC w' cb g c a.mx a.sm a.dm (il c.fM)
 iq:r.1=0->∃a',hC (N+1) w' cb g r.2 a'/\(∀k,ie cb a' k->ie cb a k\/w.heap.size<=k)/\E9 w.heap.size a a'
theorem zj.pre{N:Nat}{W:aK}{g:g_}{c:fV}{a:gw}{r:Int×fV}{e:ed}{w':aK}(hW:Below w.heap.size w W)(h:zj N W cb g c a r e w'):zj N w cb g c a r e w' where
 ret:=h.ret
 gx:=(gm.fU hW).trans h.gx
 gK:=h.gK
 iq:=fun h0=>by obtain⟨a',h1,h2,h4⟩:=h.iq h0;exact⟨a',h1,fun k hk=>(h2 k hk).elim bg (fun h3=>bf (bZ hW.size h3)),fun k hk=>(h4 k hk).elim bg (fun h3=>bf (bZ hW.size h3))⟩
theorem BB{z6:gw}(h:hC a b cb s j z6)(hi:iV s j)(E:jF s)(v:hS g j)(b0:a<1125899906842624)(D:ut P)(I:P.type≠6)(O:P.type=5->P.bytes=[])(a3:P.bytes.length<=1073741823)(k:ka b e (tk P).bytes):
  aL ab 182 #[Pt cb,.agg (vG (tk P) e)] b fun d L=>zj a b cb s j z6 (ik s c j P) d L:=by
 by_cases t:P.type=0\/P.type=1
 ·have n:ik s c j P=(0,j):=by unfold ik;rw[if_pos t]
  have m:tk P =⟨P.type,0,0,[],0,0⟩:=by unfold tk;rw[if_neg (by omega),if_neg (by omega),if_neg (by omega),if_neg (by omega)]
  rw[n,m];rw[m]at k;obtain⟨_,_,y,z,rfl,_⟩:=id k;have w:Hid (∀f:aK,Bw b f->zj a b cb s j z6 (0,j) (.returned (II 0)) f):=fun f u=>⟨rfl,gm.fU u,fun h=>absurd rfl h,fun _=>⟨z6,(h.below u).mono (ea _),fun G q=>bg q,fun G q=>bg q⟩⟩;clear h hi E v D k n m;have X:(P.type==7)=false:=beq_eq_false_iff_ne.2 (by omega);have b7:(P.type==3)=false:=beq_eq_false_iff_ne.2 (by omega);have b8:(P.type==4)=false:=beq_eq_false_iff_ne.2 (by omega);have b9:(P.type==5)=false:=beq_eq_false_iff_ne.2 (by omega);clear t I;unfold vG;go_enter func182,ntmps182;go_wp2_with fail;go_ret;exact w.out _ (fO _ _)
 ·by_cases o:P.type=7
  ·have m:tk P =⟨7,0,0,[],0,P.code⟩:=by unfold tk;rw[if_pos o]
   have n:ik s c j P=if P.code≠i_ s.c9 j.addr j.fZ then(10,j) else if j.fY then(0,j) else(0,{j with fY:=true,waits:=c}):=by unfold ik;rw[if_neg t,if_pos o]
   rw[m];rw[m]at k;obtain⟨_,_,y,z,rfl,_⟩:=id k;have J:Bw b (b.alloc (.cells #[II 7,II 0,II 0,.slice y 0 z,II 0,II P.code] 286)):=fO _ _;have W:=fK (Fv (g:=P.code) (h.gK.below J) E.c9 v.addr v.fZ);have w:Hid (∀(d:ed) (f:aK),CY (b.alloc (.cells #[II 7,II 0,II 0,.slice y 0 z,II 0,II P.code] 286)) cb s j z6.mx z6.sm z6.dm (il j.fM) P.code (i_ s.c9 j.addr j.fZ) d f->zj a b cb s j z6 (ik s c j P) d f):=by
    rw[n];rintro d f ⟨Q,⟨b4,rfl,C⟩|⟨b2,rfl,C⟩⟩
    ·rw[if_pos b4];exact⟨rfl,(gm.fU J).trans (Q.mono fun G _ d=>bg d),fun _=>C,fun a8=>absurd (show(10:Int)=0 from a8) (by decide)⟩
    ·rw[if_neg (fun b3=>b3 b2)];have a9:=h.below J;have Z:∀A:fV,gC f cb s A z6.mx z6.sm z6.dm (il j.fM)->A.fM=j.fM->A.runs=j.runs->zj a b cb s j z6 (0,A) (.returned (II 0)) f:=by intro A b1 b6 b5;exact⟨rfl,(gm.fU J).trans (Q.mono fun G _ d=>bg d),fun h=>absurd rfl h,fun _=>⟨z6,(a9.yx Q b1 b6 b5).mono (ea _),fun G q=>bg q,fun G q=>bg q⟩⟩
     cases a4:j.fY with
     |true=>
      simp only[if_true];refine Z j ?_ rfl rfl;have:({j with fY:=true}:fV)=j:=by cases j;simp only at a4⊢;rw[a4]
      rw[this]at C;exact C
     |false=>simp only[Bool.false_eq_true,if_false];exact Z {j with fY:=true,waits:=c} C rfl rfl
   clear h hi E v D k n m;generalize ik s c j P=M at w⊢;clear t I o;unfold vG;go_enter func182,ntmps182;go_wp2_with fail;refine W.out.mono ?_;intro d a6 l;have H:=fK (w.out d a6 l);have T:=H.out.ret;subst T;clear l W w;go_wp2_with fail;go_ret;exact H.out
  ·have K:P.type=3\/P.type=4\/P.type=5:=by have:=D.type;omega
   have m:tk P =⟨P.type,P.id,if P.type=5 then 0 else P.iP,P.bytes,P.iP+P.bytes.length,0⟩:=by
    unfold tk;rw[if_neg o,if_neg I];by_cases B:P.type=5
    ·rw[if_pos B,B,O B];simp
    ·rw[if_neg B,if_pos (by omega),if_neg B]
   have n:ik s c j P=gO s.c4 P j:=by unfold ik;rw[if_neg t,if_neg o]
   rw[n,m];rw[m]at k;simp only at k;obtain⟨_,_,y,z,rfl,_⟩:=id k;obtain⟨V,S⟩:∃V,(if P.type=5 then 0 else P.iP)=V:=⟨_,rfl⟩;obtain⟨N,R⟩:∃N,P.iP+(P.bytes.length:Int)=N:=⟨_,rfl⟩;have x:Hid (∀f:aK,Bw b f->aL ab 205 #[Pt cb,.agg #[II P.type,II P.id,II V,.slice y P.bytes.length z,II N,II 0]] f fun d L=>zj a b cb s j z6 (gO s.c4 P j) d L):=by intro f u;have a0:=Iu (c:=0) (h.below u) hi E v b0 K O D a3 (k.below u);rw[S,R]at a0;refine a0.mono ?_;intro d L l;exact zj.pre u ⟨l.ret,l.gx,fun _=>l.gK,l.iq⟩
   rw[S,R];obtain⟨Y,a2⟩:∃Y,P.bytes.length=Y:=⟨_,rfl⟩;rw[a2]at x⊢;obtain⟨M,a1⟩:∃M,gO s.c4 P j=M:=⟨_,rfl⟩;rw[a1]at x⊢;have X:(P.type==7)=false:=beq_eq_false_iff_ne.2 o;have a7:=fK K;clear h hi E v D k n m t I o O a1 a2 S R a3;obtain⟨a5,U⟩:∃a5,P.type=a5:=⟨_,rfl⟩;rw[U]at x a7 X K;unfold vG;simp only[U];clear U;rcases K with rfl|rfl|rfl;all_goals
    go_enter func182,ntmps182;go_wp2_with fail;refine(x.out _ (fO _ _)).mono ?_;intro d a6 l;have H:=fK l;have T:=l.ret;subst T;clear l x;go_wp2_with fail;go_ret;exact H.out
structure xA(w:aK)(cb:Nat)(g:g_)(c:fV)(a:gw)(r:Bj)(K:Nat)(e:ed)(w':aK):Prop where
 ret:∃sv,e=.returned (.tuple #[sv,.bool r.gone])/\ix w' w.heap.size sv (kT r [])
 gx:gm (ie cb a) w w'
 iq:r.gone=false->∃a',hC K w' cb g r.iq a'/\(∀k,ie cb a' k->ie cb a k\/w.heap.size<=k)/\E9 w.heap.size a a'
 gK:∃c2 mx sm dm uX,gC w' cb g c2 mx sm dm uX/\c2.fZ=c.fZ
theorem Hi{z6 u4:gw}(c:gm (ie cb z6) b w)(h:∀a,ie cb u4 a->ie cb z6 a\/b.heap.size<=a)(d:gm (ie cb u4) w z5):gm (ie cb z6) b z5:=
 ⟨d.os.trans c.os,d.tape.trans c.tape,d.output.trans c.output,bZ c.size d.size,fun a e f=>by rw[d.block a (ca e c.size) (fun g=>(h a g).elim f (fun j=>by omega)),c.block a e f]⟩
theorem zr(d:k≠[])(b:gW k=none):gQ s c j k (a+1) =⟨j,some 7,true⟩:=by unfold gQ;rw[if_neg d,b]
theorem wY(f:k≠[])(b:gW k=some (P,d))(e:P.type=6):gQ s c j k (a+1) =⟨j,none,true⟩:=by unfold gQ;grind
theorem vA(f:k≠[])(b:gW k=some (P,d))(e:P.type≠6)(g:(ik s c j P).1≠0):gQ s c j k (a+1) =⟨j,some (ik s c j P).1,true⟩:=by unfold gQ;grind
theorem xY(f:k≠[])(b:gW k=some (P,d))(e:P.type≠6)(g:(ik s c j P).1=0):gQ s c j k (a+1)=gQ s c (ik s c j P).2 (k.drop d) a:=by
 conv=>lhs;unfold gQ
 grind
theorem zs:0<=(ik s c j P).1/\(ik s c j P).1<=10:=by
 unfold ik;split
 ·simp
 ·split
  ·grind
  ·exact tw
theorem DC(b:gW k=some (P,a)):P.type=k.getD 0 0:=by unfold gW at b;grind
theorem DB(b:gW k=some (P,a))(d:P.type=5):P.bytes=[]:=by
 have c:=DC b;rw[d]at c;unfold gW at b;have e:ju (k.getD 0 0)=some 2:=by rw[<-c];rfl
 grind
theorem vt{z6:gw}(c:hC a b cb s j z6){D:Array aM}{x3:Nat×Nat}(e:b.heap[f]? =some (.cells D 5 x3)):¬ie cb z6 f:=by
 obtain⟨z,u⟩:=c.pk;obtain⟨x,_,p⟩:=c.py;obtain⟨y,_,q⟩:=c.p_;rintro(rfl|d|rfl|rfl|⟨k,g,d⟩)
 ·have n:=c.gK;unfold gC at n;grind
 ·exact fR u.own e (by decide) d
 ·obtain⟨m,l,o⟩:=p.iM;grind
 ·obtain⟨m,l,o⟩:=q.iM;grind
 ·obtain⟨_,w,v,_⟩:=c.mp.str k g;have h:=c.str k g w v;rcases d with rfl|d
  ·rw[h.gK]at e;grind
  ·obtain⟨A,t⟩:=h.own;exact fR t e (by decide) d
theorem IC(a:ut P):(tk P).type=P.type:=by unfold tk;grind
theorem xA.closed{m:aK}{a:gw}{k:Int}{t7:Bj}{K:Nat}(o:t7 =⟨c',some k,true⟩)(l:gm (ie cb a) w b)(ht:mU b cb s c' e d f c ([19]++gE k) (.returned h) m)(p:c'.fZ=j.fZ):
  xA w cb s j a t7 K (.returned (.tuple #[h,.bool true])) m:=by
 subst o;obtain⟨t,g,q⟩:=ht.ret;injection g with g;subst g;refine⟨⟨_,rfl,q.mono l.size⟩,l.trans (ht.gx.mono fun k _ g=>bg g),fun n=>(by cases n),⟨_,_,_,_,_,ht.gK,(nW _ _).1.trans p⟩⟩
theorem H_{z6:gw}{l:List Int}(b5:hC a b cb s j z6)(hi:iV s j)(g4:jF s)(h0:hS g j)(l6:g<=1125899906842624)(d1:ka b e l)(m0:l.length<=1073741823)(j4:l.length<=f)(l7:a+l.length<1125899906842624)(f4:∀t,gm (ie cb z6) b t->Env t):
  aL ab 152 #[Pt cb,e] b fun n a1=>xA b cb s j z6 (gQ s c j l f) (a+l.length) n a1:=by
 have b9:Hid (∃(d:List Int) (h:fV) (m:gw) (z x:Nat),d.length<=x/\gQ s c h d x=gQ s c j l f/\ka b e d/\hC z b cb s h m/\jQ g s c j h/\z+d.length<=a+l.length/\d.length<=l.length/\gm (ie cb z6) b b/\(∀k,ie cb m k->ie cb z6 k\/b.heap.size<=k)/\E9 b.heap.size z6 m):=
  ⟨l,j,z6,a,f,j4,rfl,d1,b5,jQ.refl h0 hi,ar _,ar _,gm.refl _ _,fun k B=>bg B,fun k B=>bg B⟩
 obtain⟨_,_,l1,l2,rfl,_⟩:=id d1;have e3:=fK f4;have e5:=fK g4;clear b5 hi g4 h0 d1 f4;obtain⟨D,f5⟩:∃D,gQ s c j l f=D:=⟨_,rfl⟩;rw[f5]at b9⊢;clear f5;go_enter func152,ntmps152;go_wp2_with fail;go_step3;go_wp2_with fail;go_step3;go_wp2_with fail;go_loopw [1,4,5] (fun e1 e0 i5 wr=>e0=ai none 0 0/\i5=.bool false/\Hid (∃(d:List Int) (h:fV) (m:gw) (z x:Nat),d.length<=x/\gQ s c h d x=D/\ka wr e1 d/\hC z wr cb s h m/\jQ g s c j h/\z+d.length<=a+l.length/\d.length<=l.length/\gm (ie cb z6) b wr/\(∀k,ie cb m k->ie cb z6 k\/b.heap.size<=k)/\E9 b.heap.size z6 m)) (fun e1 _ _ _=>oB e1);case atStart=>exact⟨rfl,rfl,b9.out⟩
 case round=>
  obtain⟨rfl,rfl,e6⟩:=hrel;obtain⟨d,h,m,z,x,m2,g3,d7,g2,g7,l8,m1,g0,g5,h3⟩:=e6.out;clear e6 b9;obtain⟨_,g8,l0,cap,rfl,f9,l9,_⟩:=id d7;have W:=fK d7;have U:=fK g2;have y:=fK g7;have G:=fK g0;have b2:=fK g5;have f0:=fK h3;have a3:=fK g3;clear d7 g2 g7 g0 g5 g3 h3;by_cases b6:d.length=0
  ·have h9:Hid (xA b cb s j z6 D (a+l.length) (.returned (.tuple #[ai none 0 0,.bool false])) wr):=by
    obtain rfl:d=[]:=d'.1 b6;have c9:gQ s c h [] x =⟨h,none,false⟩:=by cases x<;>simp[gQ]
    rw[<-a3.out,c9];refine⟨⟨_,rfl,ix.nil _ _⟩,G.out,fun _=>⟨m,U.out.mono (by omega),b2.out,f0.out⟩,⟨_,_,_,_,_,U.out.gK,y.out.fZ⟩⟩
   go_wp2_with fail;go_ret2;exact h9.out
  ·have a6:0<d.length:=by omega
   have Z:d≠[]:=fun n=>b6 (by rw[n];rfl);obtain⟨a9,rfl⟩:∃a9,x=a9+1:=⟨x-1,by omega⟩;have H:=fK (yZ (e3.out wr G.out) W.out a6);have j1:=y.out.ok.gR;have j7:=y.out.ok.gS;have i9:=y.out.ok.fZ;have b4:Hid (∀(t:aK) (k:Int),0<=k/\k<=1073741823->gC t cb s h m.mx m.sm m.dm (il h.fM)->aL ab 163 #[Pt cb,II k] t fun n a1=>mU t cb s h m.mx m.sm m.dm (il h.fM) ([19]++gE k) n a1):=
    fun t k B i6=>wt i6 i9 ⟨j1.1,by omega⟩ ⟨j7.1,by omega⟩ B
   rcases IB W.out.1 a6 with⟨g9,i8⟩|⟨o,v,P,d3,j8⟩
   ·have c6:Hid (D =⟨h,some 7,true⟩):=by show _=_;rw[<-a3.out,zr Z g9]
    obtain⟨k2,b7,⟨h5,h6,rfl⟩,a7⟩:=W.out.drop (k:=0) (Nat.zero_le _);simp only[Int.natCast_zero,Nat.sub_zero]at a7;obtain⟨J,Y⟩:∃J,d.length=J:=⟨_,rfl⟩;rw[Y]at a7 H a6 g8 f9⊢;have j2:decide ((0:Int)<(J:Int))=true:=decide_eq_true (by omega);clear b7 Y Z g9 b6;go_wp2_with fail;refine H.out.mono ?_;intro n p A;obtain⟨k,l4,rfl,B,d5⟩:=A.bad i8;obtain⟨m5,k9,rfl⟩:=d5.BK;have X:=fP A.wo (fO p (.cells jE 286));have g1:gm (ie cb z6) b (p.alloc (.cells jE 286)):=G.out.trans (gm.fU X);have c2:=fK (xC (e3.out _ g1) (by omega) (d5.below (fO _ _)));have S:=fK X;unfold jE at c2 S;clear A X g1 H d5;unfold jE;go_wp2_with fail;refine c2.out.mono ?_;rintro n C ⟨rfl,O⟩;have T:=fK (fP S.out O);have a5:=fK (b4.out C 7 (by omega) (U.out.gK.below T.out));clear O S c2 b4;go_wp2_with fail;refine a5.out.mono ?_;intro n b0 q;obtain⟨e0,rfl,a8⟩:=q.ret;obtain⟨k0,k1,rfl⟩:=a8.form;have a2:=fK (xA.closed (K:=a+l.length) c6.out (G.out.trans (gm.fU T.out)) q y.out.fZ);clear q a8 a5;go_wp2_with fail;go_ret2;exact a2.out
   ·obtain⟨A,m3,h1,j0⟩:=vF W.out.1 a6 P;have d4:=IC A;have f2:=DB P;have f8:=uK W.out.1 P;have j5:(sx d).2.bad=false:=by rw[d3]
    have h2:((d.length:Int)-(d.drop v).length)=v:=by simp;omega
    obtain⟨k2,b7,⟨h5,h6,rfl⟩,a7⟩:=W.out.drop (k:=v) h1;have c7:=fK b7;have b3:Hid (o.type≠6->∀(t:aK) (b8:aM),Bw wr t->ka t b8 (tk o).bytes->aL ab 182 #[Pt cb,.agg (vG (tk o) b8)] t fun n a1=>zj z wr cb s h m (ik s c h o) n a1):=by intro w t b8 f7 a0;exact(BB (U.out.below f7) y.out.inv e5.out y.out.ok (by omega) A w f2 (by omega) a0).mono fun n a1 q=>q.pre f7
    have j3:=zs (s:=s) (c:=c) (j:=h) (P:=o);have e7:Hid (jQ g s c j (ik s c h o).2):=y.out.trans (uG y.out.ok y.out.inv A f8 (by have:=e5.out.c4;omega));have h7:Hid (o.type=6->D =⟨h,none,true⟩):=fun w=>by rw[<-a3.out,wY Z P w]
    have e2:Hid (o.type≠6->(ik s c h o).1≠0->D =⟨h,some (ik s c h o).1,true⟩):=fun w E=>by rw[<-a3.out,vA Z P w E]
    have c3:Hid (o.type≠6->(ik s c h o).1=0->gQ s c (ik s c h o).2 (d.drop v) a9=D):=fun w E=>by rw[<-a3.out,xY Z P w E]
    have d2:(d.drop v).length=d.length-v:=by simp
    have a4:Hid ((d.drop v).length<=a9/\z+1+(d.drop v).length<=a+l.length/\(d.drop v).length<=l.length/\(d.drop v).length<d.length):=by refine⟨?_,?_,?_,?_⟩<;>omega
    obtain⟨M,f6⟩:∃M,ik s c h o=M:=⟨_,rfl⟩;rw[f6]at b3 j3 e7 e2 c3;rw[d3]at H;have d0:=fun(n:ed) (t:aK) (q:r_ wr d (tk o,⟨d.drop v,false⟩) n t)=>q.ok rfl;simp only[h2]at d0;have b1:=fK d0;generalize tk o=u at H b1 b3 d4;generalize d.drop v=rest at H b1 c7 c3 a4 d2;obtain⟨J,Y⟩:∃J,d.length=J:=⟨_,rfl⟩;obtain⟨d9,d8⟩:∃d9,d.length-v=d9:=⟨_,rfl⟩;rw[d8]at a7 c7;rw[Y]at a7 H a6 g8 f9 h1⊢;have i0:=fK Y;have i3:=fK d8;have h8:=fK d2;have j2:decide ((0:Int)<(J:Int))=true:=decide_eq_true (by omega);have m4:(v:Int)<=(J:Int):=by omega
    have e4:=fK d4;clear b7 Y d8 Z P b6 d3 j5 d0 d2 h2 f2 f8 j0 A f6 j8 d4;go_wp2_with fail;refine H.out.mono ?_;intro n p A;obtain⟨b8,rfl,a0⟩:=b1.out n p A;obtain⟨_,_,Q,R,rfl,_⟩:=id a0;obtain⟨I,d6⟩:∃I,u.bytes.length=I:=⟨_,rfl⟩;have i1:=fK d6;rw[d6]at a0⊢;unfold vG;have X:=fP A.wo (fO p (.cells (Km u Q I R) 286));have e8:=fK (a0.below (fO p (.cells (Km u Q I R) 286)));have S:=fK X;have f1:Hid ((p.alloc (.cells (Km u Q I R) 286)).heap[p.heap.size]? =some (.cells (Km u Q I R) 286 (0,0))):=cA p _;clear A X H a0 b1 d6;go_wp2_with fail;refine(q_).mono ?_;rintro n C ⟨rfl,O⟩;have T:=fK (fP S.out O);have e9:=fK (e8.out.below O);have L:Hid (C.heap[p.heap.size]? =some (.cells (Km u Q I R) 286 (0,0))):=by show _=_;rw[O.block _ (by simp)];exact f1.out
    have k3:io C p 0 u.type:=iL L.out rfl;have k4:io C p 1 u.id:=iL L.out rfl;have k5:io C p 2 u.iP:=iL L.out rfl;have k6:lq C p 3 (.slice Q I R):=iL L.out rfl;have k7:io C p 4 u.en:=iL L.out rfl;have k8:io C p 5 u.proof:=iL L.out rfl;clear O S e8 f1 L;by_cases w:u.type=6
    ·have i7:(u.type==6)=true:=by rw[w];rfl
     have a2:Hid (xA b cb s j z6 D (a+l.length) (.returned (.tuple #[ai none 0 0,.bool true])) C):=by rw[h7.out (e4.out.symm.trans w)];exact⟨⟨_,rfl,ix.nil _ _⟩,G.out.trans (gm.fU T.out),fun b5=>(by cases b5),⟨_,_,_,_,_,U.out.gK.below T.out,y.out.fZ⟩⟩
     clear w;go_wp2_with fail;go_ret2;exact a2.out
    ·have i7:(u.type==6)=false:=beq_eq_false_iff_ne.2 w;have c8:o.type≠6:=fun n=>w (e4.out.trans n);have c5:=fK (b3.out c8 C (.slice Q I R) T.out (by rw[<-i1.out]at e9⊢;exact e9.out));unfold vG at c5;clear b3;go_wp2_with fail;refine c5.out.mono ?_;intro n b0 q;have j6:=q.ret;subst j6;have V:=fK q;clear q c5 k3 k4 k5 k6 k7 k8;by_cases E:M.1=0
     ·have j9:(M.1==0)=true:=by rw[E];rfl
      obtain⟨i4,f3,g6,h4⟩:=V.out.iq E;have i2:Hid (∃(d:List Int) (h:fV) (m:gw) (z x:Nat),d.length<=x/\gQ s c h d x=D/\ka b0 (.slice h5 d9 h6) d/\hC z b0 cb s h m/\jQ g s c j h/\z+d.length<=a+l.length/\d.length<=l.length/\gm (ie cb z6) b b0/\(∀k,ie cb m k->ie cb z6 k\/b.heap.size<=k)/\E9 b.heap.size z6 m):=by
       refine⟨rest,M.2,i4,z+1,a9,a4.out.1,c3.out c8 E,?_,f3,e7.out,a4.out.2.1,a4.out.2.2.1,Hi G.out b2.out V.out.gx,fun k B=>?_,fun k B=>(h4 k B).elim (fun N=>f0.out k N) (fun N=>bf (bZ G.out.size N))⟩
       ·refine c7.out.gx V.out.gx fun k l3 l5 B c9=>?_;exact vt U.out B c9
       ·rcases g6 k B with N|N
        ·exact b2.out k N
        ·exact bf (bZ G.out.size N)
      clear V f3 g6 h4;go_wp2_with fail;go_roundw;case rel=>exact⟨rfl,rfl,i2.out⟩
      case measure=>have:=a4.out.2.2.2;have:=h8.out;have:=i3.out;have:=i0.out;simp[oB];omega
     ·have j9:(M.1==0)=false:=beq_eq_false_iff_ne.2 E;have a5:=fK (b4.out b0 M.1 (by omega) (V.out.gK E));have c6:=fK (e2.out c8 E);clear b4;go_wp2_with fail;refine a5.out.mono ?_;intro n m6 q;obtain⟨e0,rfl,a8⟩:=q.ret;obtain⟨k0,k1,rfl⟩:=a8.form;have a2:=fK (xA.closed (K:=a+l.length) c6.out (Hi G.out b2.out V.out.gx) q y.out.fZ);clear q a8 a5;go_wp2_with fail;go_ret2;exact a2.out
theorem xN(cb:Nat)(e:g_)(b:fV)(h:aM)(j c:Nat)(g:Int)(a:aK)(f:gC a cb e b h j c g):
  aL ab 51 #[Pt cb] a fun d k=>d=.returned (II b.fZ)/\a=k:=by
 have l:CI a cb 10 b.fZ:=f.cell 10;go_enter func51,ntmps51;go_wp2_with fail;go_ret;exact⟨rfl,rfl⟩
theorem uC(g:gC b cb s j e d f c):
  aL ab 94 #[Pt cb] b fun a h=>a=.returned (II j.addr)/\b=h:=by
 have k:CI b cb 11 j.addr:=g.cell 11;go_enter func94,ntmps94;go_wp2_with fail;go_ret;exact⟨rfl,rfl⟩
theorem pL(g:gC b cb s j e d f c):
  aL ab 42 #[Pt cb] b fun a h=>a=.returned (.bool j.fY)/\b=h:=by
 have k:CV b cb 12 (.bool j.fY):=g.cell 12;go_enter func42,ntmps42;go_wp2_with fail;go_ret;exact⟨rfl,rfl⟩
theorem xO(a:gC b cb s j e d f c)(n:0<=j.gR/\j.gR<=1125899906842624)(o:0<=g/\g<=1125899906842624):
  aL ab 95 #[Pt cb,II g] b fun l h=>l=.returned (.tuple #[])/\gC h cb s {j with gR:=j.gR+g} e d f c/\gm (· = cb) b h:=by
 have m:CI b cb 13 j.gR:=a.cell 13;have q:=a.free 13;have p:IntKind.i64.wrap (j.gR+g)=j.gR+g:=by rw[dq];omega
 have k:=fK a;clear a;go_enter func95,ntmps95;go_wp2_with fail;go_end0;exact⟨rfl,fT k.out _ _,go (Below.refl _ _) _ _⟩
theorem vx(g:Int)(a:gC b cb s j e d f c):
  aL ab 97 #[Pt cb,II g] b fun l h=>l=.returned (.tuple #[])/\gC h cb s {j with heard:=g} e d f c/\gm (· = cb) b h:=by
 have m:CI b cb 15 j.heard:=a.cell 15;have n:=a.free 15;have k:=fK a;clear a;go_enter func97,ntmps97;go_wp2_with fail;go_end0;exact⟨rfl,fT k.out _ _,go (Below.refl _ _) _ _⟩
theorem Ia(a:gC b cb s j e d f c)(p:0<=g/\g<=1000000000)(o:0<=j.heard/\j.heard<=1000000000):
  aL ab 53 #[Pt cb,II g] b fun h l=>h=.returned (.bool (decide (s.c6<=g-j.heard)))/\∃k,l=b.drewN k:=by
 have m:CI b cb 15 j.heard:=a.cell 15;have n:CI b cb 6 s.c6:=a.cell 6;have q:IntKind.i64.wrap (g-j.heard)=g-j.heard:=by rw[dq];omega
 clear a;go_enter func53,ntmps53;go_wp2_with fail;go_quiet (fail);go_wp2_with fail;go_ret;exact⟨rfl,_,rfl⟩
theorem hC.LB{v:Nat}{a:gw}(h:hC v w cb s j a)(n:gm (fun c=>c=cb\/a.mx.ownBlock=some c) w b)(H:gC b cb s c' e a.sm a.dm (il j.fM))(O:∃D,kC b e D (kA c'.runs))(o:c'.fM=j.fM)(G:e.ownBlock=a.mx.ownBlock\/∀c,e.ownBlock=some c->w.heap.size<=c):
  hC v b cb s c' {a with mx:=e}/\∀c,ie cb {a with mx:=e} c->ie cb a c\/w.heap.size<=c:=by
 obtain⟨D,B⟩:=h.pk;have z:∀c k d l,w.heap[c]? =some (.cells k d l)->d≠137->d≠279->¬(c=cb\/a.mx.ownBlock=some c):=by
  rintro c k d l f m E (g|g)
  ·have p:=h.gK;unfold gC at p;grind
  ·exact fR B.own f (fun d=>E d.symm) g
 have A:∀c y x,w.heap[c]? =some (.map y x)->¬(c=cb\/a.mx.ownBlock=some c):=by
  rintro c y x f (g|g)
  ·have p:=h.gK;unfold gC at p;grind
  ·obtain⟨c1,W⟩:=fX B.own g;grind
 obtain⟨Q,K,q⟩:=h.py;obtain⟨R,L,t⟩:=h.p_;obtain⟨X,U,I⟩:=q.iM;obtain⟨Y,V,J⟩:=t.iM;refine⟨⟨by rw[o];exact H,O,⟨Q,K,q.same (n.block _ q.lt (A _ _ _ I))⟩,⟨R,L,t.same (n.block _ t.lt (A _ _ _ J))⟩,by rw[o];exact h.mp,fun S N T C=>?_,fun P=>by rw[o];exact h.EW P,h.ne,h.apart,fun c f=>ca (h.ul c f) n.size⟩,?_⟩
 ·rw[o]at C;have u:=h.str S N T C;obtain⟨Z,M⟩:=u.own;refine u.gx n (z _ _ _ _ u.gK (by decide) (by decide)) (fun c f d=>?_) (fun c k l f=>z c k _ l f (by decide) (by decide));obtain⟨c1,g⟩:=fX M f;grind
 ·rintro c (d|d|d|d|d)
  ·exact bg (bg d)
  ·rcases G with m|m
   ·rw[show e.ownBlock=some c from d]at m;exact bg (bf (bg m.symm))
   grind
  ·exact bg (bf (bf (bg d)))
  ·exact bg (bf (bf (bf (bg d))))
  ·exact bg (bf (bf (bf (bf d))))
theorem AJ{rs:List (Int×Int)}(hw:Bq rs)(hl:rs.length<=100)(hr:∀r∈rs,0<=r.1/\r.1<=r.2/\r.2<=1073741823):kE (kA rs) where
 wf:=ys hw
 tz:=by simp[kA];exact hl
 L5:=fun r RW=>by simp only[kA,df]at RW;obtain⟨q,hq,rfl⟩:=RW;have:=hr q hq;rw[pV (by omega)];simp only;omega
structure vv(N:Nat)(w:aK)(cb:Nat)(g:g_)(c:fV)(a:gw)(r:Option fV)(e:ed)(w':aK):Prop where
 ret:e=.returned (.bool r.isSome)
 gx:gm (ie cb a) w w'
 iq:∃a',hC N w' cb g (r.getD c) a'/\(∀k,ie cb a' k->ie cb a k\/w.heap.size<=k)/\E9 w.heap.size a a'
theorem Fs(a:c<j.mark):kI j c=none:=by unfold kI nA;grind
theorem Ik(hi:iV s j)(a:xp j.runs c):kI j c=none:=by
 unfold kI nA;split
 ·rfl
 ·rw[(rm hi.runs).1 a];rfl
theorem Ft(hi:iV s j)(n:¬c<j.mark)(k:¬xp j.runs c):∃a,Bq a/\kU (kA j.runs) c [0]=kA a/\0<a.length/\a.length<=j.runs.length+1/\(∀b,xp a b↔b=c\/xp j.runs b)/\
  kI j c=some (if 4<a.length then {j with mark:=(a.getD 0 (0,0)).2+1,runs:=a.drop 1} else {j with runs:=a}):=by
 obtain⟨o,a,l,m,d,e,f,g,h⟩:=(rm hi.runs).2 k;refine⟨a,d,e,f,g,h,?_⟩;unfold kI nA;grind
theorem NI(c:gm (fun a=>a=cb\/e.ownBlock=some a) b w)(k:h.ownBlock=e.ownBlock\/∀a,h.ownBlock=some a->b.heap.size<=a)(d:gm (fun a=>a=cb\/h.ownBlock=some a) w z5):gm (fun a=>a=cb\/e.ownBlock=some a) b z5:=
 ⟨d.os.trans c.os,d.tape.trans c.tape,d.output.trans c.output,bZ c.size d.size,fun a f g=>by rw[d.block a (ca f c.size) (fun j=>?_),c.block a f g];grind⟩
theorem Di{C:Nat}{a:gw}{num:Int}(t:hC C b cb s j a)(hi:iV s j)(V:hS g j)(d4:0<=num/\num<=1073741823):
  aL ab 96 #[Pt cb,II num] b fun p M=>vv C b cb s j a (kI j num) p M:=by
 have e8:CI b cb 16 j.mark:=t.gK.cell 16;have P:CV b cb 17 a.mx:=t.gK.cell 17;by_cases c8:num<j.mark
 ·rw[Fs c8];have H:Hid (vv C b cb s j a none (.returned (.bool false)) b):=⟨rfl,gm.refl _ _,a,t,fun c k=>bg k,fun c k=>bg k⟩;clear t hi V P;go_enter func96,ntmps96;go_wp2_with fail;go_ret;exact H.out
 ·obtain⟨Z,E⟩:=t.pk;have Y:=V.runs;have U:=AJ hi.runs (by omega) Y.2;have d8:Z.length<=1000:=by rw[E.sh.1];simp[kA];omega
  have B:=fK (CB (first:=num) (g:=num+1) P E.own E.sh U.wide d8);have f3:IntKind.i64.wrap (num+1)=num+1:=by rw[dq];omega
  have T:=BH hi.runs (c:=num);by_cases D:xp j.runs num
  ·rw[T.2 D]at B;rw[Ik hi D];have H:Hid (∀e,Bw b e->vv C b cb s j a none (.returned (.bool false)) e):=fun e v=>⟨rfl,gm.fU v,a,t.below v,fun c k=>bg k,fun c k=>bg k⟩;clear t hi V E Y U T D P;go_enter func96,ntmps96;go_wp2_with fail;refine B.out.mono ?_;rintro p e4 ⟨rfl,J⟩;have G:=fK J;clear J B;go_wp2_with fail;go_ret;exact H.out _ G.out
  ·have c3:iJ (kA j.runs) num (num+1)=false:=by
    cases d1:iJ (kA j.runs) num (num+1) with
    |true=>exact absurd (T.1 d1) D
    |false=>rfl
   rw[c3]at B;obtain⟨d,W,c5,f2,d3,c7,a5⟩:=Ft hi c8 D;obtain⟨O,b8⟩:∃O,kI j num=O:=⟨_,rfl⟩;rw[b8]at a5⊢;have b0:=fK a5;have c9:∀r∈d,0<=r.1/\r.1<=r.2/\r.2<=1073741823:=by
    intro r A;have X:=rD W A;have R:∀L,xp d L->0<=L/\L<=1073741823:=by
     intro L d5;rcases(c7 L).1 d5 with rfl|⟨e1,d6,q,a3⟩
     ·exact d4
     ·have:=Y.2 e1 d6;omega
    have q:=R r.1 ⟨r,A,Int.le_refl _,X⟩;have a3:=R r.2 ⟨r,A,X,Int.le_refl _⟩;omega
   have c6:=AJ W (by omega) c9;have b6:Hid (∀(e:aK) (a0:Nat),Bw b e->aL ab 149 #[ag (some (Ad cb 17)),II num,ai (some (Ad a0 0)) 1 1] e fun p M=>p=.returned (.tuple #[])/\∃h f,lp e cb 17 (pG s j a.mx a.sm a.dm (il j.fM)) 137 a.mx Z (kA d) M h f):=by intro e a0 v;have I:=G1 (first:=num) (k:=[0]) (e:=(ai (some (Ad a0 0)) 1 1)) (d:=17) (t.gK.below v) rfl (by decide) (E.below v) U ⟨_,_,rfl⟩ (by simp) (by simp;omega);rw[c5]at I;exact I
   have b3:Hid (∀(e:aK) (h:aM) (f:List iw),4<d.length->gC e cb s j h a.sm a.dm (il j.fM)->kC e h f (kA d)->aL ab 151 #[ag (some (Ad cb 17))] e fun p M=>p=.returned (II ((d.getD 0 (0,0)).2+1))/\∃u y,lp e cb 17 (pG s j h a.sm a.dm (il j.fM)) 137 h f (kA (d.drop 1)) M u y):=by
    intro e h f z R A;cases d with
    |nil=>simp at z
    |cons e2 e3=>have X:=rD W (List.mem_cons_self (a:=e2) (l:=e3));have I:=wh (d:=17) R rfl (by decide) A c6;rw[pV X]at I;exact I
   have e5:=fK t;have e7:=fK d3;have a9:Hid (∀(e:aK) (h:aM) (f:List iw),kC e h f (kA d)->f.length=d.length):=fun e h f A=>by rw[A.sh.1];simp[kA]
   have b4:Hid (∀(e m:aK) (h:aM) (f:List iw),Bw b e->lp e cb 17 (pG s j a.mx a.sm a.dm (il j.fM)) 137 a.mx Z (kA d) m h f->vv C b cb s j a (some {j with runs:=d}) (.returned (.bool true)) m):=by intro e m h f v o;have K:gm (fun c=>c=cb\/a.mx.ownBlock=some c) b m:=(gm.fU v).trans o.gx;have Q:h.ownBlock=a.mx.ownBlock\/∀c,h.ownBlock=some c->b.heap.size<=c:=o.at_.elim bg (fun q=>bf fun c k=>bZ v.size (q c k));obtain⟨a6,a7⟩:=t.LB (c':={j with runs:=d}) K o.gK ⟨f,o.runs⟩ rfl Q;exact⟨rfl,K.mono fun c _ k=>k.elim bg (fun q=>bf (bg q)),_,a6,a7,fun c k=>bg k⟩
   have b5:Hid (∀(e m x:aK) (h u:aM) (f y:List iw),Bw b e->lp e cb 17 (pG s j a.mx a.sm a.dm (il j.fM)) 137 a.mx Z (kA d) m h f->lp m cb 17 (pG s j h a.sm a.dm (il j.fM)) 137 h f (kA (d.drop 1)) x u y->vv C b cb s j a (some {j with mark:=(d.getD 0 (0,0)).2+1,runs:=d.drop 1}) (.returned (.bool true)) (x.setCell (Ad cb 16) (II ((d.getD 0 (0,0)).2+1)))):=by
    intro e m x h u f y v o w;have K:gm (fun c=>c=cb\/a.mx.ownBlock=some c) b m:=(gm.fU v).trans o.gx;have Q:h.ownBlock=a.mx.ownBlock\/∀c,h.ownBlock=some c->b.heap.size<=c:=o.at_.elim bg (fun q=>bf fun c k=>bZ v.size (q c k));have d2:=NI K Q w.gx;have b9:gm (fun c=>c=cb\/a.mx.ownBlock=some c) b (x.setCell (Ad cb 16) (II ((d.getD 0 (0,0)).2+1))):=d2.trans ((go (Below.refl _ _) _ _).mono fun c _ p=>bg p);have d0:u.ownBlock=a.mx.ownBlock\/∀c,u.ownBlock=some c->b.heap.size<=c:=by
     rcases w.at_ with q|q
     ·rw[q];exact Q
     ·exact bf fun c k=>bZ K.size (q c k)
    have d7:kC (x.setCell (Ad cb 16) (II ((d.getD 0 (0,0)).2+1))) u y (kA (d.drop 1)):=
     ⟨gM w.runs.own (go (Below.refl _ _) _ _) (fun c k p=>by subst p;exact fR w.runs.own w.gK (by decide) k),w.runs.sh⟩
    obtain⟨a6,a7⟩:=t.LB (c':={j with mark:=(d.getD 0 (0,0)).2+1,runs:=d.drop 1}) b9 (fT w.gK 16 _) ⟨y,d7⟩ rfl d0;exact⟨rfl,b9.mono fun c _ k=>k.elim bg (fun q=>bf (bg q)),_,a6,a7,fun c k=>bg k⟩
   clear t hi V E Y U T D c3 a5 b8 c5 W c9 c6 c7 P;go_enter func96,ntmps96;go_wp2_with fail;refine B.out.mono ?_;rintro p e4 ⟨rfl,J⟩;have G:=fK J;clear J B;go_wp2_with fail;refine(b6.out _ _ (fP G.out (fO _ _))).mono ?_;rintro p m ⟨rfl,h,f,o⟩;have S:gC m cb s j h a.sm a.dm (il j.fM):=o.gK;obtain⟨d9,e0,rfl⟩:=gr o.runs.own;have c2:CV m cb 17 (.slice d9 f.length e0):=S.cell 17;have b1:=fK (EM c2);have c4:=a9.out m _ f o.runs;have b7:=fK (b4.out _ m _ f (fP G.out (fO _ _)) o);have a2:=fK (fun x u y a3=>b5.out _ m x _ u f y (fP G.out (fO _ _)) o a3);have b2:=fK (fun z=>b3.out m _ f z S o.runs);have e6:=fK S;have a8:=fK c4;clear o S c2 c4 b6 b4 b5 b3 a9;go_wp2_with fail;refine b1.out.mono ?_;rintro p f4 ⟨rfl,rfl⟩;clear b1;by_cases z:4<d.length
   ·have f0:(4:Int)<(f.length:Int):=by have:=a8.out;omega
    have N:Hid (O=some {j with mark:=(d.getD 0 (0,0)).2+1,runs:=d.drop 1}):=by show _=_;rw[b0.out,if_pos z]
    have a1:=fK (b2.out z);clear b2 b7;generalize (d.getD 0 (0,0)).2+1=mk at a1 a2 N;go_wp2_with fail;refine a1.out.mono ?_;rintro p x ⟨rfl,u,y,w⟩;have a4:gC x cb s j u a.sm a.dm (il j.fM):=w.gK;have e9:CI x cb 16 j.mark:=a4.cell 16;have f5:=a4.free 16;have H:=fK (a2.out x u y w);clear w a4 a1 a2;go_wp2_with fail;go_ret;rw[N.out];exact H.out
   ·have f1:(f.length:Int)<=4:=by have:=a8.out;omega
    have N:Hid (O=some {j with runs:=d}):=by show _=_;rw[b0.out,if_neg z]
    go_wp2_with fail;go_ret;rw[N.out];exact b7.out
theorem DT{α:Type}{C:rJ α}{P:Program}{K:TypeId}(d:b.heap[a]? =some (.map #[] 0)):iO C P K b a 0 []:=by
 have g:a<b.heap.size:=(bn.1 d).1;have c:=F' (C:=C) (P:=P) (K:=K) {b with heap:=b.heap.extract 0 a};have e:({b with heap:=b.heap.extract 0 a}:aK).heap.size=a:=by simp;omega
 rw[e]at c;refine c.same ?_;have f:=cA {b with heap:=b.heap.extract 0 a} (.map #[] 0);grind
def iG(g:g_)(fZ addr:Int)(ok:Bool):fV:={ki fZ addr ok 0 0 g.c1 with fM:=jH g.c2 [] g.c3.toNat}
def jc(sm dm:Nat):gw:=⟨ai none 0 0,sm,dm,[],[],fun _=>ai none 0 0,fun _=>False⟩
theorem qA:(iG s c g ok).fM=List.replicate s.c3.toNat (gP s.c2):=by simp[iG,jH]
theorem Dn(n:gC b cb s (iG s c g ok) (ai none 0 0) d f 0)(l:b.heap[d]? =some (.map #[] 0))(m:b.heap[f]? =some (.map #[] 0))(p:d≠f):hC 0 b cb s (iG s c g ok) (jc d f):=by
 have t:=qA (s:=s) (c:=c) (g:=g) (ok:=ok);have j:∀(i:Nat) a,(iG s c g ok).fM[i]? =some a->a=gP s.c2:=by grind
 have q:il (iG s c g ok).fM=0:=by rw[t];unfold il;rw[List.filter_eq_nil_iff.2 (fun a h=>by rw[(List.mem_replicate.1 h).2];simp[gP])];rfl
 refine⟨by rw[q];exact n,⟨[],⟨⟨rfl,bg ⟨rfl,rfl⟩⟩,⟨rfl,fun i x r u=>(by simp at u)⟩⟩⟩,⟨0,ar _,DT l⟩,⟨0,ar _,DT m⟩,⟨by simp[jc],fun k e=>(by simp[jc]at e),fun i a h _ _=>j i a h⟩,fun k e=>(by simp[jc]at e),fun v=>?_,p,fun k e=>(by simp[jc]at e),fun w o=>o.elim⟩;simp only[jc];unfold mG;split
 ·cases h:(iG s c g ok).fM[v.toNat]? with
  |none=>rfl
  |some a=>rw[j _ a h];rfl
 ·rfl
structure pI(w:aK)(g:g_)(fZ addr:Int)(ok:Bool)(e:ed)(w':aK):Prop where
 ex:∃cb sm dm,e=.returned (Pt cb)/\hC 0 w' cb g (iG g fZ addr ok) (jc sm dm)/\w.heap.size<=cb/\w.heap.size<=sm/\w.heap.size<=dm
 wo:Bw w w'
def Fp(g:g_):aM:=.agg #[II g.c0,II g.c1,II g.c2,II g.c3,II g.c4,II g.c5,II g.c6,II g.c7,II g.c8,II g.c9]
theorem DE(f:1<=s.c3)(b a:Int)(ok:Bool)(d c:Nat):pG s (iG s b a ok) (ai none 0 0) d c 0=#[II s.c0,II s.c1,II s.c2,II s.c3,II s.c4,II s.c5,II s.c6,II s.c7,II s.c8,II s.c9,II b,II a,.bool ok,II 0,II 0,II 0,II 0,ai none 0 0,II s.c1,II s.c1,II s.c3,.map (some d),.map (some c),II 0]:=by
 have e:((iG s b a ok).fM.length:Int)=s.c3:=by rw[qA];simp;omega
 unfold pG;rw[e];rfl
theorem oZ(l:1<=s.c3)(j:Bw b w)(f:w.heap[a]? =some (.map #[] 0))(h:w.heap[d]? =some (.map #[] 0))(m:a≠d)(n:b.heap.size<=a)(k:b.heap.size<=d):
  pI b s c g ok (.returned (Pt w.heap.size)) (w.alloc (.cells #[II s.c0,II s.c1,II s.c2,II s.c3,II s.c4,II s.c5,II s.c6,II s.c7,II s.c8,II s.c9,II c,II g,.bool ok,II 0,II 0,II 0,II 0,ai none 0 0,II s.c1,II s.c1,II s.c3,.map (some a),.map (some d),II 0] 137)):=by
 have e:=fO w (.cells #[II s.c0,II s.c1,II s.c2,II s.c3,II s.c4,II s.c5,II s.c6,II s.c7,II s.c8,II s.c9,II c,II g,.bool ok,II 0,II 0,II 0,II 0,ai none 0 0,II s.c1,II s.c1,II s.c3,.map (some a),.map (some d),II 0] 137);refine⟨⟨w.heap.size,a,d,rfl,Dn ?_ ?_ ?_ m,j.size,n,k⟩,fP j e⟩
 ·unfold gC;rw[DE l];exact cA w _
 ·rw[e.block a (bn.1 f).1];exact f
 ·rw[e.block d (bn.1 h).1];exact h
theorem Ku(x:1<=s.c3):
  aL ab 145 #[Fp s,II c,II g,.bool ok] b fun E j=>pI b s c g ok E j:=by
 have v:=fK (fun d=>DQ s.c1 d);have m:Hid (∀d h:aK,Bw d h->(io d b 0 s.c0/\io d b 1 s.c1/\io d b 2 s.c2/\io d b 3 s.c3/\io d b 4 s.c4/\io d b 5 s.c5/\io d b 6 s.c6/\io d b 7 s.c7/\io d b 8 s.c8/\io d b 9 s.c9)->(io h b 0 s.c0/\io h b 1 s.c1/\io h b 2 s.c2/\io h b 3 s.c3/\io h b 4 s.c4/\io h b 5 s.c5/\io h b 6 s.c6/\io h b 7 s.c7/\io h b 8 s.c8/\io h b 9 s.c9)):=fun d h e l=>⟨fL l.1 e,fL l.2.1 e,fL l.2.2.1 e,fL l.2.2.2.1 e,fL l.2.2.2.2.1 e,fL l.2.2.2.2.2.1 e,fL l.2.2.2.2.2.2.1 e,fL l.2.2.2.2.2.2.2.1 e,fL l.2.2.2.2.2.2.2.2.1 e,fL l.2.2.2.2.2.2.2.2.2 e⟩;have n:Hid (∀a:aK,Below (b.alloc (.cells #[II s.c0,II s.c1,II s.c2,II s.c3,II s.c4,II s.c5,II s.c6,II s.c7,II s.c8,II s.c9] 26)).heap.size (b.alloc (.cells #[II s.c0,II s.c1,II s.c2,II s.c3,II s.c4,II s.c5,II s.c6,II s.c7,II s.c8,II s.c9] 26)) a->pI b s c g ok (.returned (Pt (a.heap.size+1+1))) (((uA a).alloc (.map #[] 0)).alloc (.cells #[II s.c0,II s.c1,II s.c2,II s.c3,II s.c4,II s.c5,II s.c6,II s.c7,II s.c8,II s.c9,II c,II g,.bool ok,II 0,II 0,II 0,II 0,ai none 0 0,II s.c1,II s.c1,II s.c3,.map (some a.heap.size),.map (some (a.heap.size+1)),II 0] 137))/\pI b s c g ok (.returned (Pt (a.heap.size+1+1))) (((uA a).alloc (.map #[] 0)).alloc (.cells #[II s.c0,II s.c1,II s.c2,II s.c3,II s.c4,II s.c5,II s.c6,II s.c7,II s.c8,II s.c9,II c,II g,.bool ok,II 0,II 0,II 0,II 0,ai none 0 0,II s.c1,II s.c1,II s.c3,.map (some (a.heap.size+1)),.map (some a.heap.size),II 0] 137))):=by
  intro a e;have w:=fP (fO _ _) e;have u:=fP w ((fO a (.map #[] 0)).alloc (by simp) (.map #[] 0));have D:((uA a).alloc (.map #[] 0)).heap.size=a.heap.size+1+1:=by simp
  have q:=heap_alloc2_old a (.map #[] 0) (.map #[] 0);have t:=ef a (.map #[] 0) (.map #[] 0);have A:=oZ (c:=c) (g:=g) (ok:=ok) x u q t (by omega) w.size (Nat.le_succ_of_le w.size);have B:=oZ (c:=c) (g:=g) (ok:=ok) x u t q (by omega) (Nat.le_succ_of_le w.size) w.size;rw[D]at A B;exact⟨A,B⟩
 have o:Hid (∀a:aK,Below ((b.alloc (.cells #[II s.c0,II s.c1,II s.c2,II s.c3,II s.c4,II s.c5,II s.c6,II s.c7,II s.c8,II s.c9] 26)).alloc (.map #[] 0)).heap.size ((b.alloc (.cells #[II s.c0,II s.c1,II s.c2,II s.c3,II s.c4,II s.c5,II s.c6,II s.c7,II s.c8,II s.c9] 26)).alloc (.map #[] 0)) a->pI b s c g ok (.returned (Pt (a.heap.size+1))) ((uA a).alloc (.cells #[II s.c0,II s.c1,II s.c2,II s.c3,II s.c4,II s.c5,II s.c6,II s.c7,II s.c8,II s.c9,II c,II g,.bool ok,II 0,II 0,II 0,II 0,ai none 0 0,II s.c1,II s.c1,II s.c3,.map (some (b.heap.size+1)),.map (some a.heap.size),II 0] 137))/\pI b s c g ok (.returned (Pt (a.heap.size+1))) ((uA a).alloc (.cells #[II s.c0,II s.c1,II s.c2,II s.c3,II s.c4,II s.c5,II s.c6,II s.c7,II s.c8,II s.c9,II c,II g,.bool ok,II 0,II 0,II 0,II 0,ai none 0 0,II s.c1,II s.c1,II s.c3,.map (some a.heap.size),.map (some (b.heap.size+1)),II 0] 137))):=by
  intro a e;have w:=fP ((fO _ _).alloc (by simp) (.map #[] 0)) e;have u:=fP w (fO a (.map #[] 0));have D:(uA a).heap.size=a.heap.size+1:=by simp
  have C:b.heap.size+1<a.heap.size:=by have:=e.size;simp at this;omega
  have q:(uA a).heap[b.heap.size+1]? =some (.map #[] 0):=by rw[Below.heap_alloc _ _ _ C,e.block _ (by simp)];exact ef b (.cells #[II s.c0,II s.c1,II s.c2,II s.c3,II s.c4,II s.c5,II s.c6,II s.c7,II s.c8,II s.c9] 26) (.map #[] 0)
  have t:=cA a (.map #[] 0);have A:=oZ (c:=c) (g:=g) (ok:=ok) x u q t (by omega) (by omega) (by omega);have B:=oZ (c:=c) (g:=g) (ok:=ok) x u t q (by omega) (by omega) (by omega);rw[D]at A B;exact⟨A,B⟩
 have p:Hid (∀a:aK,Below (((b.alloc (.cells #[II s.c0,II s.c1,II s.c2,II s.c3,II s.c4,II s.c5,II s.c6,II s.c7,II s.c8,II s.c9] 26)).alloc (.map #[] 0)).alloc (.map #[] 0)).heap.size (((b.alloc (.cells #[II s.c0,II s.c1,II s.c2,II s.c3,II s.c4,II s.c5,II s.c6,II s.c7,II s.c8,II s.c9] 26)).alloc (.map #[] 0)).alloc (.map #[] 0)) a->pI b s c g ok (.returned (Pt a.heap.size)) (a.alloc (.cells #[II s.c0,II s.c1,II s.c2,II s.c3,II s.c4,II s.c5,II s.c6,II s.c7,II s.c8,II s.c9,II c,II g,.bool ok,II 0,II 0,II 0,II 0,ai none 0 0,II s.c1,II s.c1,II s.c3,.map (some (b.heap.size+1)),.map (some (b.heap.size+1+1)),II 0] 137))/\pI b s c g ok (.returned (Pt a.heap.size)) (a.alloc (.cells #[II s.c0,II s.c1,II s.c2,II s.c3,II s.c4,II s.c5,II s.c6,II s.c7,II s.c8,II s.c9,II c,II g,.bool ok,II 0,II 0,II 0,II 0,ai none 0 0,II s.c1,II s.c1,II s.c3,.map (some (b.heap.size+1+1)),.map (some (b.heap.size+1)),II 0] 137))):=by
  intro a e;have u:=fP (((fO _ _).alloc (by simp) (.map #[] 0)).alloc (by simp<;>omega) (.map #[] 0)) e;have q:a.heap[b.heap.size+1]? =some (.map #[] 0):=by rw[e.block _ (by simp<;>omega),Below.heap_alloc _ _ _ (by simp)];exact ef b (.cells #[II s.c0,II s.c1,II s.c2,II s.c3,II s.c4,II s.c5,II s.c6,II s.c7,II s.c8,II s.c9] 26) (.map #[] 0)
  have t:a.heap[b.heap.size+1+1]? =some (.map #[] 0):=by rw[e.block _ (by simp)];have:=ef (b.alloc (.cells #[II s.c0,II s.c1,II s.c2,II s.c3,II s.c4,II s.c5,II s.c6,II s.c7,II s.c8,II s.c9] 26)) (.map #[] 0) (.map #[] 0);simpa using this
  have C:=e.size;simp at C;exact⟨oZ x u q t (by omega) (by omega) (by omega),oZ x u t q (by omega) (by omega) (by omega)⟩
 have y:∀d:aK,(eb 134 none).run ab d=.ok (.map (some d.heap.size)) (uA d):=fun d=>by simp[eb]
 have z:∀d:aK,(eb 135 none).run ab d=.ok (.map (some d.heap.size)) (uA d):=fun d=>by simp[eb]
 unfold Fp;go_enter func145,ntmps145;go_wp2_with fail;go_region_held3 (fun j=>j.cell? (gf b 0)=some (II s.c0)/\j.cell? (gf b 1)=some (II s.c1)/\j.cell? (gf b 2)=some (II s.c2)/\j.cell? (gf b 3)=some (II s.c3)/\j.cell? (gf b 4)=some (II s.c4)/\j.cell? (gf b 5)=some (II s.c5)/\j.cell? (gf b 6)=some (II s.c6)/\j.cell? (gf b 7)=some (II s.c7)/\j.cell? (gf b 8)=some (II s.c8)/\j.cell? (gf b 9)=some (II s.c9)) (first|assumption|exact m.out _ _ (fO _ _) (by assumption)|go_keep) (first
  |(go_at_call 165;refine(v.out _).mono ?_;rintro E a ⟨rfl,f⟩;have G:=m.out _ _ f (by assumption)))
 ·have k:=fK (n.out a (gc f)).1;clear f n o p v m y z;go_wp2_with fail;go_ret;exact k.out
 ·have k:=fK (n.out a (gc f)).2;clear f n o p v m y z;go_wp2_with fail;go_ret;exact k.out
 ·have k:=fK (o.out a (gc f)).1;clear f n o p v m y z;go_wp2_with fail;go_ret;exact k.out
 ·have k:=fK (p.out a (gc f)).1;clear f n o p v m y z;go_wp2_with fail;go_ret;exact k.out
 ·have k:=fK (o.out a (gc f)).2;clear f n o p v m y z;go_wp2_with fail;go_ret;exact k.out
 ·have k:=fK (p.out a (gc f)).2;clear f n o p v m y z;go_wp2_with fail;go_ret;exact k.out
theorem zS{cap:Nat}(D:4<=f)(z:CV b a d (.int .u8 c))(A:CV b a (d+1) (.int .u8 g))(B:CV b a (d+2) (.int .u8 l))(C:CV b a (d+3) (.int .u8 u))
  (e:0<=c/\c<256) (m:0<=g/\g<256) (n:0<=l/\l<256) (r3:0<=u/\u<256):
  aL ab 143 #[ai (some (Ad a d)) f cap] b fun j o=>j=.returned (.int .u32 (c+256*g+65536*l+16777216*u))/\∃k,o=b.drewN k:=by
 have p:IntKind.u32.wrap c=c:=ee c e.1 (by omega);have q:IntKind.u32.wrap g=g:=ee g m.1 (by omega);have s:IntKind.u32.wrap l=l:=ee l n.1 (by omega);have t:IntKind.u32.wrap u=u:=ee u r3.1 (by omega);have I:IntKind.u32.wrap (g*256)=g*256:=ee _ (by omega) (by omega);have J:IntKind.u32.wrap (l*65536)=l*65536:=ee _ (by omega) (by omega);have K:IntKind.u32.wrap (u*16777216)=u*16777216:=ee _ (by omega) (by omega);have E:bits .or .u32 c (g*256)=c+g*256:=u32_or8 c _ e.1 e.2 (by omega) (by omega) (by omega);have G:bits .or .u32 (c+g*256) (l*65536)=c+g*256+l*65536:=u32_or16 _ _ (by omega) (by omega) (by omega) (by omega) (by omega);have H:bits .or .u32 (c+g*256+l*65536) (u*16777216)=c+g*256+l*65536+u*16777216:=u32_or24 _ _ (by omega) (by omega) (by omega) (by omega) (by omega);have w:(1:Int)<(f:Int):=by omega
 have x:(2:Int)<(f:Int):=by omega
 have y:(3:Int)<(f:Int):=by omega
 have v:(0:Int)<(f:Int):=by omega
 have h:Hid (c+256*g+65536*l+16777216*u=c+g*256+l*65536+u*16777216):=by show _=_;omega
 rw[h.out];go_enter func143,ntmps143;go_wp2_with fail;go_quiet (fail);go_wp2_with fail;go_ret;exact⟨rfl,_,rfl⟩
theorem Dg{r:List Int}(j:ka b e k)(l:ka b h r)(p:0<k.length)(t:0<r.length):
  aL ab 144 #[e,h] b fun B I=>B=.returned (.bool (decide (k=r)))/\b=I:=by
 obtain⟨n,_,J,D,rfl,_,_,_,s⟩:=id j;obtain⟨o,_,K,H,rfl,_,_,_,v⟩:=id l;obtain⟨C,E,_,_,rfl,_,_⟩:=s p;obtain⟨G,ro,_,_,rfl,_,_⟩:=v t;have y:=run_convert_bytes_arg b 44 5 underlying44 underlying5 C E k.length D k rfl (fun i hi=>j.cell i hi) 9 underlying9;have z:=run_convert_bytes_arg b 44 5 underlying44 underlying5 G ro r.length H r rfl (fun i hi=>l.cell i hi) 9 underlying9;have g:Hid (decide (k=r)=decide (strOfNums k=strOfNums r)):=by show _=_;exact decide_eq_decide.2 ⟨fun a=>by rw[a],fun a=>tE n o a⟩
 generalize strOfNums k=d at y g;generalize strOfNums r=f at z g;obtain⟨w,q⟩:∃w,k.length=w:=⟨_,rfl⟩;obtain⟨x,u⟩:∃x,r.length=x:=⟨_,rfl⟩;rw[q]at y⊢;rw[u]at z⊢;rw[g.out];clear j l q u p t s v n o;by_cases c:d=f
 ·have m:decide (d=f)=true:=by simpa using c
  subst c;go_enter func144,ntmps144;go_wp2_with fail;go_ret;exact⟨by simp,rfl⟩
 ·have m:decide (d=f)=false:=by simpa using c
  have A:¬d.toList=f.toList:=fun a=>c (by rw[cu,cu]at a;exact ByteArray.ext (Array.toList_inj.mp a));rw[m];go_enter func144,ntmps144;go_wp2_with fail;go_ret;exact⟨by simp[A],rfl⟩
theorem ka.qf{l:List Int}(h:w.ownsRow base 5 1 v n (U8 l))(g:gG l)(p:l.length<=140737488355328):ka w v l:=by
 have a:n=l.length:=by have:=h.1;rw[ir]at this;omega
 subst a;obtain⟨q,⟨rfl,e⟩|⟨d,cap,b,rfl,_,m,j,k,_,t⟩⟩:=h
 ·have a:l=[]:=d'.1 e;subst a;exact ka.nil _
 ·refine⟨g,p,_,cap,rfl,j,by unfold aO at k;omega,fun h=>(by simp at h),fun s=>⟨d,0,b,_,rfl,m,fun c o=>?_⟩⟩;have f:b[0+c]? =(U8 l)[c]?:=by grind
  rw[f];simp[U8,ap o,List.getD]
theorem xl{a:List Int}(p:ka b e a)(u:0<=g/\g<256)(P:0<=s.c9/\s.c9<4294967296):
  aL ab 90 #[II s.c9,II g,II c,e] b fun m b4=>m=.returned (.bool (nF s c g a))/\Bw b b4:=by
 obtain⟨v,_,a7,a8,rfl,c3,_,_,R⟩:=id p;by_cases f:a.length=9
 ·obtain⟨c6,x,⟨b7,c1,rfl⟩,D⟩:=p.drop (k:=1) (by omega);have Q:(a.drop 1).length=8:=by simp;omega
  obtain⟨_,_,b8,b9,L,_,_,_,S⟩:=id x;obtain⟨K,Y,_,_,rfl,_,_⟩:=S (by omega);simp only[Value.slice.injEq]at L;obtain⟨rfl,_,rfl⟩:=L;have o:∀q,q<8->b.cell? (Ad K (Y+q))=some (.int .u8 (a.getD (q+1) 0)):=by
   intro q c4;have a9:ka b (ai (some (Ad K Y)) (a.drop 1).length c1) (a.drop 1):=by rw[Q];rw[f]at x;exact x
   have b0:=a9.cell q (by omega);rw[b0];congr 2;simp[List.getD]
  have E:=o 0 (by omega);have V:=o 1 (by omega);have W:=o 2 (by omega);have X:=o 3 (by omega);rw[Nat.add_zero]at E;have Z:=iY v 1;have a0:=iY v 2;have a1:=iY v 3;have a2:=iY v 4;have h:=fK (zS (f:=8) (cap:=c1) (b:=b) (by omega) E V W X Z a0 a1 a2);have l:Hid (nF s c g a=(decide (jg s.c9 g (rQ a)=a)&&decide (c<=rQ a))):=by show _=_;simp[nF,f]
  have T:0<=rQ a/\rQ a<4294967296:=by unfold rQ;omega
  have M:a.getD 1 0+256*a.getD 2 0+65536*a.getD 3 0+16777216*a.getD 4 0=rQ a:=rfl;rw[M]at h;obtain⟨d,U⟩:∃d,rQ a=d:=⟨_,rfl⟩;rw[U]at h l T;obtain⟨b1,b2⟩:=T;have c5:IntKind.i64.wrap d=d:=by rw[dq];omega
  have J:=fK (fun a6=>un s.c9 g d a6 P.1 P.2 u.1 u.2 b1 b2);have a5:=fK (oW (c:=s.c9) (l:=d) u.1 u.2);have t:=fK p;rw[f]at D⊢;replace t:Hid (ka b (.slice a7 9 a8) a):=by rw[f]at t;exact t
  have a3:=fK f;have N:(9-1:Nat)=8:=rfl;simp only[N]at D;rw[l.out];clear p x R S o E V W X Z a0 a1 a2 f Q U M N;simp only[Int.natCast_one]at D;by_cases O:c<=d
  ·have B:decide (c<=d)=true:=decide_eq_true O;rw[B,Bool.and_true];obtain⟨y,z⟩:∃y,decide (jg s.c9 g d=a)=y:=⟨_,rfl⟩;have G:=fK z;rw[z];clear z;go_enter func90,ntmps90;go_wp2_with fail;refine h.out.mono ?_;rintro m b5 ⟨rfl,b3,rfl⟩;clear h;go_wp2_with fail;refine(J.out _).mono ?_;rintro m b6 ⟨c7,rfl,w,j⟩;have A:Bw b b6:=⟨j.os,j.tape,j.output,j.size,j.block⟩;have C:(jg s.c9 g d).length=9:=by have:=w.1;rw[ir]at this;omega
   have I:=fK (Dg (t.out.below A) (ka.qf w a5.out (by rw[C];decide)) (by rw[a3.out];decide) (by rw[C];decide));obtain⟨c8,d0,rfl⟩:=gB w;have a4:=fK A;have H:Hid (decide (a=jg s.c9 g d)=y):=by show _=_;rw[<-G.out];exact decide_eq_decide.2 eq_comm
   clear w j A J C;go_wp2_with fail;refine I.out.mono ?_;rintro m d1 ⟨rfl,rfl⟩;rw[H.out];clear I H G l;go_wp2_with fail;go_ret;exact⟨by simp,a4.out⟩
  ·have B:decide (c<=d)=false:=decide_eq_false O;rw[B,Bool.and_false];go_enter func90,ntmps90;go_wp2_with fail;refine h.out.mono ?_;rintro m b5 ⟨rfl,b3,rfl⟩;clear h;go_wp2_with fail;go_ret;exact⟨rfl,fQ (Below.refl _ _) _⟩
 ·have l:Hid (nF s c g a=false):=by show _=_;simp[nF,f]
  rw[l.out];have c2:((a.length:Int)==9)=false:=beq_eq_false_iff_ne.2 (by omega);clear p R;go_enter func90,ntmps90;go_wp2_with fail;go_ret;exact⟨rfl,Below.refl _ _⟩
theorem G5(D:0<=c/\c<=1073741823)(x:ka b e k)(a:k.length=9):
  aL ab 147 #[II c,e] b fun t M=>∃L,t=.returned L/\M.ownsRow b.heap.size 5 1 L ([3]++gE c++gE 9++k).length (U8 ([3]++gE c++gE 9++k))/\Bw b M:=by
 obtain⟨a1,hi,Y,Z,a0⟩:=info_parts lE;have b1:=ll c;obtain⟨b0,_,a7,T,rfl,a9,_,_,I⟩:=id x;obtain⟨J,K,_,_,rfl,_,_⟩:=I (by omega);have P:=fK x;have w:gE 9=[9]:=rfl;have p:Hid (U8 [3]++U8 (gE c)++U8 [9]++U8 k=U8 ([3]++gE c++gE 9++k)/\([3]++gE c++gE 9++k).length=1+(gE c).length+1+9):=by refine⟨by rw[w];simp[U8],by rw[w];simp[a];omega⟩
 obtain⟨A,C⟩:∃A,[3]++gE c++gE 9++k=A:=⟨_,rfl⟩;rw[C]at p⊢;clear C;have R:Hid ((U8 k).length=9):=by show _=_;rw[ir,a]
 have a4:=fK a;rw[a];clear x I a;go_enter func147,ntmps147;go_wp2_with fail;refine(kY (c:=c) D.1 D.2 (a:=b.heap.size) (d:=1) (o:=U8 [3]) (mw b 5 (U8 [3]) (by simp[U8,aO])) (by simp) (by decide)).mono ?_;rintro t a2 ⟨b2,rfl,v,G⟩;have B:Bw b a2:=(fO _ _).grown G (by simp) (fun g d=>by simp[aq]at d;omega);obtain⟨a5,c1,rfl⟩:=gB v;have q:=fK v;have f:=fK B;clear v G B;go_wp2_with fail;refine(kY (by decide) (by decide) q.out f.out.size (by omega)).mono ?_;rintro t N ⟨b3,rfl,j,H⟩;have s:Bw b N:=f.out.grown H f.out.size (fun g d=>(q.out.lt g d).1);rw[w]at j;obtain⟨a6,a8,rfl⟩:=gB j;have Q:=fK (P.out.below s);have E:∀(l:Nat) y,(U8 k)[l]? =some y->N.cell? (((Ad J K):Addr).add l)=some y:=by intro l y u;have h:=(bo.1 u).1;rw[ir]at h;have U:=Q.out.cell l h;simp only[U8,List.getElem?_map,ap h,Option.map_some,Option.some.injEq]at u;rw[<-u];rw[Addr.add_lit,U];simp[List.getD,ap h]
 have O:=fK E;have z:=fK j;have o:=fK s;clear j H s q f E;have X:=o.out.size;go_wp2_with (at_builtin;refine wpList_append_own _ rfl _ _ 44 rfl b.heap.size 5 a1 (.int .u8 0) 1 1 underlying44 hi Y Z a0 rfl (by decide) _ _ _ rfl z.out (Ad J K) 9 T (U8 k) rfl (by rw[R.out]) O.out (ms) (by unfold aO;simp;omega) (by simp;omega) X ?_;intro b4 a3 W V _);have S:Bw b a3:=o.out.grown V o.out.size (fun g d=>(z.out.lt g d).1);go_ret;refine⟨_,rfl,?_,S⟩;rw[p.out.2,<-p.out.1];exact W
end Go.Proofs.YthmdjhlhodpbhaaGreatDoor
