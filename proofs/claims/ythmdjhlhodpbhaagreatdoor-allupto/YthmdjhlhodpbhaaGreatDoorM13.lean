import Derived.BigRegion
import Derived.Test.YthmdjhlhodpbhaaGreatDoorM12
set_option maxHeartbeats 16000000
set_option maxRecDepth 8000
set_option linter.all false
namespace Go.Proofs.YthmdjhlhodpbhaaGreatDoor
open Go.RowKit
open _root_.List renaming mem_of_getElem? → bS, getElem?_eq_getElem → ap, nodup_cons → dk, mem_map → df, filter_congr → ew, filter_eq_self → eo, mem_filter → di, getElem?_cons_zero → ce, map_fst_zip → ei, filter_cons → el, map_cons → bz
open _root_.Nat renaming le_refl → ar, lt_of_lt_of_le → ca
open Go.World renaming cell? → aD, drewN → ey
open _root_.Array renaming getElem?_eq_some_iff → bn
open _root_.Or renaming inl → bg, inr → bf
open _root_.And renaming intro → co
open Go.Region renaming wanted → bk
open _root_.Go renaming frozen_of_row → cx, World → aK, heap_setCell_other → cy, heap_alloc_new → cA, Calls → aL, Value → aM
open _root_.Go.Proofs.Tryz
open _root_.Go.Proofs.Tryz renaming prog → ab
open Go.Value renaming slice → ai, pointer → ag
attribute [local simp] CV CI Bw mc lq io
variable {a d f n cb i:Nat}{b w:World}{m v w4:List Nat}{c g:Int}{e u l:Value}{s p:gg}{xs Q:List gw}{j:fV}{v4:fV->Bool}{k z2:List Int}{y1:Act}{v9:Act->World->Prop}{y4:List fV}{y0:List gs}{z6:gw}{y5:Program}
section
variable {α:Type}{C:rJ α}{P:Program}{K:TypeId}
theorem iH.nd{w:aK}{a r n:Nat}{l y9:List (Int×α)}{d:Nat}(h:iH C P K w a r n l y9 d):(y9.map (·.1)).Nodup:=by obtain⟨b,left,_,ok,rfl,_⟩:=h;exact(List.filter_sublist.map _).nodup ok.nd
theorem xi{x8:Array Oper}{y2:Oper}{y1:Act}{b:aK}{v9:Act->aK->Prop}{z1:Exit->Act->aK->Prop}{w7:Prop}
  (y:y2.guard=none) (o s:Operand) (q:TypeId) (D:y2.op=Op.call {callee:=Callee.builtin Builtin.delete,args:=#[o,s],argTypes:=#[q,K]}) (d:TypeId) (g:P.underlying K=some (.int .i64)) (H:P.underlying q=some (.map K d))
  (e r p:Nat) (j k:List (Int×α)) (l:Nat) (B:y1.eval o=.map (some e)) (t:iH C P K b e r p j k l) (c:Int) (N:α) (J:y1.eval s=II c) (z:(Lit.int .i64 c).wf=true) (L:nR j c=some N) (V:∀d∈k,d.1≠c)
  (x:∀a f,iH C P K a e r p (nC j c) k f->f<=l->b.grownBy a (some e)->a.heap.size=b.heap.size->v9 (y1.put y2.dst (.tuple #[])) a):
  if bk y2 (yielded x8 y1.tmps)=true then Oper.wp P y2 y1 b v9 z1 else w7:=by
 have I:bk y2 (yielded x8 y1.tmps)=true:=by simp[bk,y]
 rw[if_pos I];obtain⟨O,left,n,ok,rfl,A⟩:=t;obtain⟨a,f,E,u,v,m⟩:=n.drop (Maps.int_keyed g) H (Maps.keyOf_int_mk g z) y2.type;have G:a.heap.size=b.heap.size:=by obtain⟨R,clock,S,Q,T,rfl⟩:=m;simp[ChangeMaps.setBlock]
 unfold Oper.wp;simp[execOp,D,resolve,invoke,builtin,B,J,E,Result.andThen];refine x a f ⟨_,_,u,ok.del (n.owns.tidy (Maps.int_keyed g)) L,?_,?_⟩ v m.grown G
 ·unfold nC;rw[List.filter_filter];refine ew fun d U=>?_;by_cases w:d.1=c
  ·grind
  ·simp[Lit.sameKey,w]
 ·intro M h;simp[Lit.sameKey]at h;rw[xI,if_neg h.2];exact A M h.1
end
theorem GJ(E l:Nat)(b:gg)(c:Nat)(s:aM)(k:List Nat)(L:List gw)(x:List Nat)(i cb:Nat)(q:Int)(e:aK)(h:E6 E e l b c s k L x i cb q)(J:(b.fN.map (·.fZ)).Nodup)(a7:x.length<=1000)(a4:-9223372036854775808<=q/\q<=9223372036854775807)
  {r d f:Nat} {rest:List (Int×Nat)} (a8:d<=E) (K:iH kb ab 3 e c r d ((b.fN.map (·.fZ)).zip k) rest f) (a9:∀a∈rest,a.1≠q):
  aL ab 54 #[Pt l,Pt cb] e fun a u=>us E e l {b with fN:=b.fN.eraseIdx i} c s (k.eraseIdx i) (L.eraseIdx i) (x.filter fun m=>m != cb) a u/\∃o,iH kb ab 3 u c r d (((b.fN.eraseIdx i).map (·.fZ)).zip (k.eraseIdx i)) rest o/\o<=f:=by
 have H:=K.map;obtain⟨c1,d4,d5,c5,d3,V,b0⟩:=h.one;obtain⟨d8,hi,R⟩:=h.Qz;have O:=fK (fun v (G:v.heap=e.heap)=>xN cb b.c c1 d4 d5 c5 d3 v (by unfold gC at V⊢;rw[G];exact V));rw[b0]at O;have c4:CV e l 11 (.map (some c)):=h.gK.cell 11;have a0:nR ((b.fN.map (·.fZ)).zip k) q=some cb:=by refine oe (by rw[ei (by simp[h.iD])];exact J) (bS (i:=i) ?_);rw[List.getElem?_zip_eq_some];exact⟨by simp[hi,R],h.O6⟩
 have P:Hid (∀v:aK,v.heap=e.heap->iH kb ab 3 v c r d ((b.fN.map (·.fZ)).zip k) rest f):=fun v G=>K.kept (by rw[G]) (by rw[G]);have X:=fK (pC a4);have M:=fK a0;have b7:=fK a9;have T:=h.Rq;have I:c≠l:=fun a=>by obtain⟨Z,Y,p⟩:=H.iM;have n:e.heap[l]? =some (.cells (oP b.c b.now c s) 101 (0,0)):=h.gK;rw[<-a,p]at n;cases n
 have U:s.ownBlock≠some c:=fun a=>by obtain⟨Z,Y,p⟩:=H.iM;obtain⟨b9,y⟩:=fX h.row a;rw[p]at y;cases y
 obtain⟨b2,e0,e1,e2,e3,W⟩:=K.iter;have b3:r≠l:=fun a=>by have n:e.heap[l]? =some (.cells (oP b.c b.now c s) 101 (0,0)):=h.gK;rw[<-a,W]at n;cases n
 have b4:s.ownBlock≠some r:=fun a=>by obtain⟨b9,y⟩:=fX h.row a;rw[W]at y;cases y
 have b5:((b.fN.eraseIdx i).map (·.fZ)).zip (k.eraseIdx i)=nC ((b.fN.map (·.fZ)).zip k) q:=by rw[vL];exact wm _ _ i q J (by simp[h.iD]) (by simp[hi,R])
 have t:Hid (∀(g:aK) (o:Nat),iH kb ab 3 g c r d (nC ((b.fN.map (·.fZ)).zip k) q) rest o->o<=f->gm (fun j=>j=c) e g->aL ab 50 #[Pt l,Pt cb] g fun a u=>us E e l {b with fN:=b.fN.eraseIdx i} c s (k.eraseIdx i) (L.eraseIdx i) (x.filter fun m=>m != cb) a u/\∃o,iH kb ab 3 u c r d (((b.fN.eraseIdx i).map (·.fZ)).zip (k.eraseIdx i)) rest o/\o<=f):=by
  intro g o b1 d0 w;have B:=b1.map;have a3:∀m,lV e m->lV g m:=by
   rintro m ⟨c3,p⟩;refine⟨c3,?_⟩;rw[w.block m (bn.1 p).1 (fun a=>?_)]
   ·exact p
   ·obtain⟨Z,Y,n⟩:=H.iM;rw[a,n]at p;cases p
  refine(oI l b.c b.now c s x cb g (h.gK.gx w (fun a=>I a.symm)) (gM h.row w (fun j A a=>U (a▸A))) a7 (fun m p=>a3 m (T.2 m p)) (a3 cb T.1)).mono ?_;rintro a b6 ⟨rfl,⟨d6,c7,d2,c8⟩,Q⟩;have a2:gm (fun j=>j=l\/j=c\/s.ownBlock=some j) e b6:=(w.mono fun j _ a=>bf (bg a)).trans (Q.mono fun j _ a=>a.elim bg (fun a=>bf (bf a)));have a5:=Q.block c B.lt (by
   rintro(a|a)
   ·exact I a
   ·exact U a)
  refine⟨⟨rfl,⟨d6,h.gone J a2 c7 a8 (B.same a5) d2,?_⟩,a2⟩,o,?_,d0⟩
  ·rcases c8 with a|a
   ·exact bg a
   ·exact bf fun j A=>Nat.le_trans w.size (a j A)
  ·rw[b5];refine b1.kept a5 (Q.block r (ca b2 w.size) ?_);rintro(a|a)
   ·exact b3 a
   ·exact b4 a
 have N:Hid (∀g:aK,e.drew.grownBy g (some c)->gm (fun j=>j=c) e g/\g.cell? (Ad l 11)=some (.map (some c))):=by intro g z;have a1:gm (fun j=>j=c) e g:=⟨z.os,z.tape,z.output,z.size,fun j A d1=>z.block j A (fun a=>d1 (Option.some.inj a))⟩;exact⟨a1,(h.gK.gx a1 (fun a=>I a.symm)).cell 11⟩
 generalize ({b with fN:=b.fN.eraseIdx i}:gg)=s' at t⊢;generalize ((b.fN.eraseIdx i).map (·.fZ)).zip (k.eraseIdx i)=d7 at t⊢;generalize k.eraseIdx i=d9 at t⊢;generalize L.eraseIdx i=e4 at t⊢;generalize x.filter (fun m=>m != cb)=J1 at t⊢;generalize (b.fN.map (·.fZ)).zip k=b8 at t P M;clear h H V b0 hi R a0 T I U J a7 a4 a8 K a9 W b3 b4 b5 b2;go_enter func54,ntmps54;go_wp2_with fail;go_region_held3 (fun u=>u.cell? (Ad l 11)=some (.map (some c))) (first|assumption|go_keep) (first
  |(go_at_call 51;refine(O.out e.drew rfl).mono ?_;rintro a g ⟨rfl,rfl⟩)
  |(refine xi (C:=kb) rfl (.tmp 7) (.tmp 9) 98 rfl 97 underlying3 underlying98 c r d b8 rest f (by kernel_rfl) (P.out e.drew rfl) q cb (by kernel_rfl) X.out M.out b7.out ?_;intro g c2 B a6 S _;have c9:=(N.out g S).2))
 have D:=t.out g c2 B a6 (N.out g S).1;replace D:=fK D;clear B S c9 N t P M X O c4 a6;go_wp2_with fail;refine D.out.mono ?_;intro a b6 n;have c6:=n.1.ret;subst c6;replace n:=fK n;clear D;go_wp2_with fail;go_end0;exact n.out
theorem hU.clock(h:hU a w d s f e m xs v)(now:Int):hU a (C_ w d now) d {s with now:=now} f e m xs v/\gm (xD d f e) w (C_ w d now):=by
 have c:gm (· = d) w (C_ w d now):=go (Below.refl _ _) _ _;have k:gm (xD d f e) w (C_ w d now):=c.mono fun q _ b=>bg b;obtain⟨t,p,g⟩:=h.map;refine⟨⟨fT h.gK _ _,⟨t,p,g.same (c.block f g.lt (fun b=>?_))⟩,h.iD,h.jv,fun i x cb u l j n=>h.cons k l j n,gM h.row c (fun q o b=>?_),h.wait,h.apart,h.AD⟩,k⟩
 ·obtain⟨z,y,A⟩:=g.iM;have j:w.heap[d]? =some (.cells (oP s.c s.now f e) 101 (0,0)):=h.gK;grind
 ·subst b;exact fR h.row h.gK (by decide) o
def jW(g:fV->Bool)(ks:List Int)(c:fV):Bool:=decide (c.fZ∈ks) || g c
theorem I5(b:fV->Bool)(a:List fV):a.filter (jW b (a.map (·.fZ)))=a:=by rw[eo];intro c d;simp only[jW,Bool.or_eq_true,decide_eq_true_eq];grind
theorem I6(a:fV->Bool)(b:List fV):b.filter (jW a [])=b.filter a:=by refine ew fun c _=>?_;simp[jW]
theorem vN(c:(y4.map (·.fZ)).Nodup){w5:fV}(a:j∈y4)(d:w5∈y4)(b:j.fZ=w5.fZ):j=w5:=by
 induction y4 with
 |nil=>cases a
 |cons f y4 e=>grind
theorem F0(c:(y4.map (·.fZ)).Nodup)(d:j∈y4)(f:v4 j=true):y4.filter (jW v4 (k++j.fZ::z2))=y4.filter (jW v4 (k++z2)):=by
 refine ew fun b e=>?_;by_cases a:b.fZ=j.fZ
 ·rw[vN c e d a];simp[jW,f]
 ·simp[jW,a]
theorem uI:∀{l:List fV} {i:Nat} {c:fV},(l.map (·.fZ)).Nodup->l[i]? =some c->l.eraseIdx i=l.filter fun d=>d.fZ != c.fZ
 |[],_,_,_,h=>by simp at h
 |x::l,0,c,hn,h=>by simp only[ce,Option.some.injEq]at h;subst h;simp only[bz,dk]at hn;rw[List.eraseIdx_zero,List.tail_cons,el,if_neg (by simp)];symm;rw[eo];intro d hd;simp only[bne_iff_ne,ne_eq];exact fun e=>hn.1 (df.2 ⟨d,hd,e⟩)
 |x::l,i+1,c,hn,h=>by simp only[List.getElem?_cons_succ]at h;simp only[bz,dk]at hn;have ih:=uI hn.2 h;have hx:x.fZ≠c.fZ:=fun e=>hn.1 (df.2 ⟨c,bS h,e.symm⟩);rw[List.eraseIdx_cons_succ,el,if_pos (by simp[hx]),ih]
theorem FZ(b:(y4.map (·.fZ)).Nodup)(hi:(y4.filter (jW v4 (k++j.fZ::z2)))[i]? =some j)(g:v4 j=false)(c:j.fZ∉k++z2):(y4.filter (jW v4 (k++j.fZ::z2))).eraseIdx i=y4.filter (jW v4 (k++z2)):=by
 have e:j∈y4:=(di.1 (bS hi)).1;rw[uI ((List.filter_sublist.map _).nodup b) hi,List.filter_filter];refine ew fun d f=>?_;by_cases a:d.fZ=j.fZ
 ·rw[vN b f e a];simp only[List.mem_append]at c;simp[jW,g,c]
 ·simp[jW,a]
structure zo(N:Nat)(w:aK)(sb cm:Nat)(wv:aM)(jf:List Nat)(xs:List gw)(s':gg)(v:aM)(e:Ending)(w':aK):Prop where
 ret:e=.returned v
 ex:∃ES oF CW J1,hU N w' sb s' cm ES oF CW J1/\(∀k,js sb cm ES oF CW k->js sb cm wv jf xs k\/w.heap.size<=k)/\∀k,me CW k->me xs k
 gx:gm (js sb cm wv jf xs) w w'
theorem hU.gx{F:Nat->Prop}(h:hU a w d s f e m xs v)(j:gm F w b)(g:∀c,js d f e m xs c->¬F c)(z:∀c t x,w.heap[c]? =some (.cells t 5 x)->¬F c):hU a b d s f e m xs v:=by obtain⟨B,A,o⟩:=h.map;exact⟨h.gK.gx j (g d (bg rfl)),⟨B,A,o.same (j.block f o.lt (g f (bf (bg rfl))))⟩,h.iD,h.jv,fun i q cb p y l n=>(h.iq i q cb p y l n).gx j (fun c k=>g c (lJ l n k)) z,gM h.row j (fun c k u=>g c (bf (bf (bg k))) u),h.wait,h.apart,h.AD⟩
structure oR(N:Nat)(w:aK)(sb:Nat)(s:gg)(now:Int)(g:fV->Bool)(cm:Nat)(wv:aM)(jf:List Nat)(xs:List gw)(R:Nat)(ks:List Int)(wr:aK)(ES:aM)(oF:List Nat)(CW:List gw)(J1:List Nat):Prop where
 iN:hU N wr sb {s with now:=now,fN:=s.fN.filter (jW g ks)} cm ES oF CW J1
 qc:∀k,js sb cm ES oF CW k->js sb cm wv jf xs k\/R<k
 gx:gm (js sb cm wv jf xs) w wr
 lt:R<wr.heap.size
 uu:∀k,me CW k->me xs k
theorem oR.step{p:aK}{v5:List Nat}(h:oR a w d s c v4 f e m xs n k b u w4 Q v5)(y:hU a w d s f e m xs v)(z:w.heap.size<=n)(hi:∃x C D B,b.heap[n]? =some (.mapIter x C D B))(j:b.grownBy p (some n)):oR a w d s c v4 f e m xs n k p u w4 Q v5:=by
 have t:gm (· = n) b p:=⟨j.os,j.tape,j.output,j.size,fun o l A=>j.block o l (fun g=>A (Option.some.inj g))⟩;refine⟨h.iN.gx t (fun o l g=>?_) (fun o E G l g=>?_),h.qc,lS h.gx t (fun x g=>bf (by subst g;exact z)),ca h.lt j.size,h.uu⟩
 ·subst g;rcases h.qc _ l with q|q
  ·have:=Bu y q;omega
  ·omega
 grind
theorem oR.below{j:aK}(h:oR a w d s c v4 f e m xs n k b l v Q w4)(g:Bw b j):oR a w d s c v4 f e m xs n k j l v Q w4:=
 ⟨h.iN.below g,h.qc,h.gx.trans (gm.fU g),ca h.lt g.size,h.uu⟩
theorem oR.stay(h:oR a w d s c v4 f e m xs n (k++j.fZ::z2) b l v Q w4)(q:(s.fN.map (·.fZ)).Nodup)(o:j∈s.fN)(p:v4 j=true):oR a w d s c v4 f e m xs n (k++z2) b l v Q w4/\s.fN.filter (jW v4 (k++j.fZ::z2))=s.fN.filter (jW v4 (k++z2)):=by have g:=F0 q (k:=k) (z2:=z2) o p;exact⟨⟨by rw[<-g];exact h.iN,h.qc,h.gx,h.lt,h.uu⟩,g⟩
theorem oR.gone{now:Int}{x:aM}{u:aK}{y:aM}{e:Ending}(h:oR a w d s now v4 f x m xs n (k++j.fZ::z2) b y v Q w4)(H:w.heap.size<=n)(G:(s.fN.map (·.fZ)).Nodup)(hi:(s.fN.filter (jW v4 (k++j.fZ::z2)))[i]? =some j)(E:v4 j=false)(c:j.fZ∉k++z2)
  (A:us a b d {({s with now:=now,fN:=s.fN.filter (jW v4 (k++j.fZ::z2))}:gg) with fN:=(s.fN.filter (jW v4 (k++j.fZ::z2))).eraseIdx i} f y (v.eraseIdx i) (Q.eraseIdx i) (w4.filter fun o=>o != cb) e u):
  ∃p,oR a w d s now v4 f x m xs n (k++z2) u p (v.eraseIdx i) (Q.eraseIdx i) (w4.filter fun o=>o != cb)/\(s.fN.filter (jW v4 (k++j.fZ::z2))).eraseIdx i=s.fN.filter (jW v4 (k++z2)):=by
 have q:=FZ G hi E c;obtain⟨_,⟨p,C,D⟩,t⟩:=A;refine⟨p,⟨by rw[<-q];exact C,fun g c=>?_,lS h.gx t (fun g c=>?_),ca h.lt t.size,fun g c=>h.uu g (tJ g c)⟩,q⟩
 ·rcases tI (n:=n+1) (D.imp id fun z g c=>Nat.le_trans h.lt (z g c)) g c with l|l
  ·exact h.qc g l
  omega
 ·rcases h.qc g (pg c) with l|l
  ·exact bg l
  omega
theorem GH(g:hU a b d p f e m Q v)(u:c<p.now\/1000000000<c):
  aL ab 27 #[Pt d,II c] b fun k n=>zo a b d f e m Q p (II 2) k n:=by
 have o:CI b d 10 p.now:=g.gK.cell 10;have j:Hid (zo a b d f e m Q p (II 2) (.returned (II 2)) b):=⟨rfl,⟨e,m,Q,v,g,fun l h=>bg h,fun l h=>h⟩,gm.refl _ _⟩;clear g;by_cases q:c<p.now
 ·go_enter func27,ntmps27;go_wp2_with fail;go_ret;exact j.out
 ·have s:1000000000<c:=by omega
  have t:p.now<=c:=by omega
  go_enter func27,ntmps27;go_wp2_with fail;go_ret;exact j.out
theorem GG(Z:hU a b d p f e m Q v){l:Int}(J:gD g l p)(h9:p.now<=c)(i0:c<=1000000000):
  aL ab 27 #[Pt d,II c] b fun u H=>zo a b d f e m Q (vy p c) (II 0) u H:=by
 have i2:=J.now;have f3:CI b d 10 p.now:=Z.gK.cell 10;have h5:=Z.gK.free 10;obtain⟨b1,d9⟩:=Z.clock c;have f4:CV (C_ b d c) d 11 (.map (some f)):=b1.gK.cell 11;obtain⟨U,g2,T⟩:=b1.map;have d4:=fK T;obtain⟨q,c3⟩:∃f5:fV->Bool,f5=fun j=>decide (c-j.heard<p.c.c6):=⟨_,rfl⟩;have c4:(p.fN.filter (jW q (p.fN.map (·.fZ))))=p.fN:=I5 _ _;have d5:Hid (∀V,(C_ b d c).grownBy V none->V.heap.size=b.heap.size+1->oR a b d p c q f e m Q b.heap.size (p.fN.map (·.fZ)) V e m Q v):=by
  intro V b2 b4;have d8:=lz b2;have c9:(C_ b d c).heap.size=b.heap.size:=by simp
  refine⟨?_,fun G K=>bg K,((d9.mono fun G _ K=>pg K).trans (gm.fU d8)),by omega,fun G K=>K⟩;rw[c4];exact b1.below d8
 have e8:Hid (∀(wr:aK) o h k n,oR a b d p c q f e m Q b.heap.size [] wr o h k n->zo a b d f e m Q (vy p c) (II 0) (.returned (II 0)) wr):=by intro wr o h k n t;refine⟨rfl,⟨o,h,k,n,?_,fun G K=>(t.qc G K).imp id Nat.le_of_lt,t.uu⟩,t.gx⟩;have w:=t.iN;rw[I6,c3]at w;exact w
 have e9:Hid (∀(z:aK) o h k n s (i:Nat) j cb y,oR a b d p c q f e m Q b.heap.size s z o h k n->(p.fN.filter (jW q s))[i]? =some j->h[i]? =some cb->k[i]? =some y->aL ab 53 #[Pt cb,II c] z fun u H=>u=.returned (.bool (!q j))/\∃x,H=z.drewN x):=by
  intro z o h k n s i j cb y t w A E;have a6:j∈p.fN:=(di.1 (bS w)).1;have b9:=t.iN.iq i j cb y w A E;refine(Ia b9.gK (by omega) (J.ok j a6).heard).mono ?_;rintro u H ⟨rfl,g4⟩;refine⟨?_,g4⟩;have f6:decide (p.c.c6<=c-j.heard) = !decide (c-j.heard<p.c.c6):=by
   by_cases N:p.c.c6<=c-j.heard
   ·rw[decide_eq_true N,decide_eq_false (by omega)];rfl
   ·rw[decide_eq_false N,decide_eq_true (by omega)];rfl
  rw[f6,c3]
 have e6:Hid (∀(z:aK) o h k n (O P:List Int) (i:Nat) j cb y (D:Nat) (rest:List (Int×Nat)),oR a b d p c q f e m Q b.heap.size (O++j.fZ::P) z o h k n->(p.fN.filter (jW q (O++j.fZ::P)))[i]? =some j->h[i]? =some cb->k[i]? =some y->q j=false->j.fZ∉O++P->rest.map (·.1)=O++P->iH kb ab 3 z f b.heap.size U (((p.fN.filter (jW q (O++j.fZ::P))).map (·.fZ)).zip h) rest D->
   aL ab 54 #[Pt d,Pt cb] z fun u H=>u=.returned (.tuple #[])/\∃X W a8 a7 M,oR a b d p c q f e m Q b.heap.size (O++P) H X W a8 a7/\iH kb ab 3 H f b.heap.size U (((p.fN.filter (jW q (O++P))).map (·.fZ)).zip W) rest M/\M<=D):=by
  intro z o h k n O P i j cb y D rest t w A E a2 K g7 a4;have a6:j∈p.fN:=(di.1 (bS w)).1;have b9:=t.iN.iq i j cb y w A E;have e5:(p.fN.filter (jW q (O++j.fZ::P))).Sublist p.fN:=List.filter_sublist;have S:=t.iN.but (ar a) w A E (gm.refl _ _) ⟨j,_,_,_,_,b9.gK,rfl⟩;have g8:n.length<=1000:=by have R:=t.iN.LZ;have h6:=J.tz;have h7:=J.cfg.c0;have h8:=e5.length_le;simp only at R;omega
  refine(GJ _ _ _ _ _ _ _ _ _ _ _ z S ((e5.map _).nodup J.nd) g8 (by have:=(J.ok j a6).fZ;omega) g2 a4 (fun u f7 f8=>K (by rw[<-g7,<-f8];exact df.2 ⟨u,f7,rfl⟩))).mono ?_;rintro u H ⟨d7,M,g6,e1⟩;have g5:=d7.ret;obtain⟨X,b8,b0⟩:=t.gone (ar _) J.nd w a2 K d7;exact⟨g5,X,_,_,_,M,b8,by rw[<-b0];exact g6,e1⟩
 have f2:Hid (∀(wr I:aK) o h k n s,oR a b d p c q f e m Q b.heap.size s wr o h k n->(∃h3 L h4 h1,wr.heap[b.heap.size]? =some (.mapIter h3 L h4 h1))->wr.grownBy I (some b.heap.size)->oR a b d p c q f e m Q b.heap.size s I o h k n):=fun wr I o h k n s t hi f9=>t.step Z (ar _) hi f9;have f1:=fK J.nd;have f0:Hid (∀(z:aK) o h k n s (G:Int) (L:Nat),oR a b d p c q f e m Q b.heap.size s z o h k n->nR (((p.fN.filter (jW q s)).map (·.fZ)).zip h) G=some L->∃(i:Nat) (j:fV) (y:gw),(p.fN.filter (jW q s))[i]? =some j/\j.fZ=G/\h[i]? =some L/\k[i]? =some y):=by
  intro z o h k n s G L t a1;rcases t.iN.look ((List.filter_sublist.map _).nodup J.nd) G with⟨_,u⟩|⟨i,j,cb,y,w,A,E,N,u⟩
  ·rw[a1]at u;cases u
  ·rw[a1]at u;cases u;exact⟨i,j,y,w,A,E,N⟩
 have d3:Hid ((p.fN.map (·.fZ)).zip m=((p.fN.filter (jW q (p.fN.map (·.fZ)))).map (·.fZ)).zip m):=by show _=_;rw[c4]
 have d2:Hid (((p.fN.map (·.fZ)).zip m).map (·.1)=p.fN.map (·.fZ)):=by show _=_;rw[ei (by simp[Z.iD])]
 clear Z J b1 d9 T c4 c3;go_enter func27,ntmps27;go_wp2_with (first
  |(at_range;refine mS _ rfl _ 98 rfl 97 underlying3 underlying98 f U _ rfl d4.out ?_;intro V c8 b2 b4))
 have c9:(C_ b d c).heap.size=b.heap.size:=by simp
 rw[c9]at c8 b4;have d0:Hid (∃(s:List Int) (h:List Nat) (rest:List (Int×Nat)) (D:Nat),iH kb ab 3 V f b.heap.size U (((p.fN.filter (jW q s)).map (·.fZ)).zip h) rest D/\rest.map (·.1)=s/\∃o k n,oR a b d p c q f e m Q b.heap.size s V o h k n):=
  ⟨_,m,_,_,by rw[<-d3.out];exact c8,d2.out,e,Q,v,d5.out V b2 b4⟩
 clear c8 b2 b4 f4 f3 h5 d5 d3 d2 d4;clear c9;try go_frame
 go_loopw [6] (fun _ wr=>∃(s:List Int) (h:List Nat) (rest:List (Int×Nat)) (D:Nat),iH kb ab 3 wr f b.heap.size U (((p.fN.filter (jW q s)).map (·.fZ)).zip h) rest D/\Hid (rest.map (·.1)=s/\∃o k n,oR a b d p c q f e m Q b.heap.size s wr o h k n)) (fun _ wr=>wr.rangeLeft f b.heap.size);case atStart=>obtain⟨s,h,rest,D,w,A⟩:=d0.out;exact⟨s,h,rest,D,w,A⟩
 case round=>
  obtain⟨s,h,rest,D,a4,t⟩:=hrel;have b7:=fK a4;clear d0;go_wp2_with (first
   |(at_next;refine nK _ rfl _ rfl underlying3 _ b.heap.size U _ rest D rfl a4 ?_ ?_))
  ·intro g3;obtain⟨a3,o,k,n,S⟩:=t.out;subst g3;have g0:s=[]:=by simpa using a3.symm
   subst g0;have e7:=fK (e8.out wr o h k n S);clear t S;go_wp2_with fail;go_ret;exact e7.out
  ·intro G L B C I a9 c7 i3 a1 b3 g1 c2 e4 i1;obtain⟨a3,o,k,n,S⟩:=t.out;have a0:=f2.out wr I o h k n s S b7.out.iter.2 c2;obtain⟨i,j,y,w,A,E,N⟩:=f0.out I o h k n s G L a0 a1;have a5:s=B.map (·.1)++j.fZ::C.map (·.1):=by rw[<-a3,c7,A];simp
   have c5:=b7.out.nd;have Y:=fK (e9.out I o h k n s i j L y a0 w E N);have e2:=b7.out.left_eq;cases a2:q j with
   |true=>
    rw[a2]at Y;have b6:Hid (∀x,iH kb ab 3 (I.drewN x) f b.heap.size U (((p.fN.filter (jW q (B.map (·.1)++C.map (·.1)))).map (·.fZ)).zip h) (B++C) a9/\oR a b d p c q f e m Q b.heap.size (B.map (·.1)++C.map (·.1)) (I.drewN x) o h k n):=by intro x;subst a5;have a6:j∈p.fN:=(di.1 (bS w)).1;obtain⟨b8,b0⟩:=(a0.below (fQ (Below.refl _ _) _)).stay f1.out a6 a2;rw[<-b0];refine⟨b3.kept ?_ ?_,by rw[b0]at *;exact b8⟩<;>simp[ey]
    clear t S a0 w A E N a5 c5 b3 c2 e4 a1 c7 a3 a4;go_wp2_with fail;refine Y.out.mono ?_;rintro u h2 ⟨rfl,x,rfl⟩;clear Y;go_wp2_with fail;go_roundw;case rel=>exact⟨_,h,B++C,a9,(b6.out x).1,by simp,o,k,n,(b6.out x).2⟩
    case measure=>have R:=(b6.out x).1.left_eq;rw[R,e2];exact g1
   |false=>
    rw[a2]at Y;have e0:j.fZ∉B.map (·.1)++C.map (·.1):=by
     have R:(B.map (·.1)++j.fZ::C.map (·.1)).Nodup:=by rw[<-a5,<-a3];exact c5
     intro T;rw[List.nodup_append,dk]at R;obtain⟨_,⟨g9,_⟩,h0⟩:=R;rcases List.mem_append.1 T with T|T
     ·exact h0 _ T _ (List.mem_cons_self) rfl
     ·exact g9 T
    have d1:Hid (∀x,aL ab 54 #[Pt d,Pt L] (I.drewN x) fun u H=>u=.returned (.tuple #[])/\∃X W a8 a7 M,oR a b d p c q f e m Q b.heap.size (B.map (·.1)++C.map (·.1)) H X W a8 a7/\iH kb ab 3 H f b.heap.size U (((p.fN.filter (jW q (B.map (·.1)++C.map (·.1)))).map (·.fZ)).zip W) (B++C) M/\M<=a9):=by intro x;subst a5;exact e6.out (I.drewN x) o h k n _ _ i j L y a9 (B++C) (a0.below (fQ (Below.refl _ _) _)) w E N a2 e0 (by simp) (b3.kept (by simp[ey]) (by simp[ey]))
    clear t S a0 w A E N a5 c5 b3 c2 e4 a1 c7 a3 a4 e0;go_wp2_with fail;refine Y.out.mono ?_;rintro u h2 ⟨rfl,x,rfl⟩;clear Y;go_wp2_with fail;refine(d1.out x).mono ?_;rintro u i4 ⟨rfl,X,W,a8,a7,M,d6,e3,e1⟩;have b5:=fK (co d6 e3);clear d6 e3 d1;go_wp2_with fail;go_roundw;case rel=>exact⟨_,W,B++C,M,b5.out.2,by simp,X,a8,a7,b5.out.1⟩
    case measure=>have R:=b5.out.2.left_eq;rw[R,e2];omega
theorem BJ:∀{b:List Nat},a∉b->(a::b).filter (fun c=>c != a)=b:=by intro b d;rw[el,if_neg (by simp),eo];grind
theorem hU.first(h:hU a w d s f e m xs (n::v))(u:(s.fN.map (·.fZ)).Nodup):
  ∃(b:Nat) (g:fV) (j:gw),s.fN[b]? =some g/\m[b]? =some n/\xs[b]? =some j/\jV s=(g.fZ,0,{s with fN:=s.fN.set b {g with waits:=0}})/\n∉v/\
   ∃k,kg (s.fN.set b {g with waits:=0}) k/\v.length=k.length/\∀(c:Nat) l,v[c]? =some l->∃(i:Nat) (y:fV),(s.fN.set b {g with waits:=0})[i]? =some y/\m[i]? =some l/\k[c]? =some y.fZ:=by
 obtain⟨H,D,E,x⟩:=h.wait;cases H with
 |nil=>simp at E
 |cons Z k=>
  obtain⟨b,g,t,A,_,O,U⟩:=Dc D;have Y:∀(b c:Nat) n,m[b]? =some n->m[c]? =some n->b=c:=by
   intro b c n o q;by_cases B:b=c
   ·exact B
   ·have L:b<xs.length:=by rw[h.jv,<-h.iD];grind
    have M:c<xs.length:=by rw[h.jv,<-h.iD];grind
    exact absurd (bg rfl) (h.apart b c n _ n _ B o (ap L) q (ap M) n (bg rfl))
  obtain⟨p,c0,o,q,z⟩:=x 0 n rfl;simp only[ce,Option.some.injEq]at z;have Q:c0=g:=vN u (bS o) (bS t) (by rw[A,z]);subst Q;have S:p=b:=by
   have G:(s.fN.map (·.fZ))[p]? =some c0.fZ:=by simp[o]
   have W:(s.fN.map (·.fZ))[b]? =some c0.fZ:=by simp[t]
   exact(List.getElem?_inj (List.getElem?_eq_some_iff.1 G).1 u).1 (G.trans W.symm)
  subst S;have R:=D.nodup u;rw[dk]at R;have T:n∉v:=by intro P;obtain⟨c,C,X⟩:=List.getElem_of_mem P;obtain⟨V,c1,I,J,K⟩:=x (c+1) n (by grind);grind
  obtain⟨j,N⟩:∃j,xs[p]? =some j:=⟨_,ap (by rw[h.jv];grind)⟩;refine⟨p,c0,j,t,q,N,O.trans (by rw[A]),T,k,U,by simpa using E,fun c l C=>?_⟩;obtain⟨V,c1,I,J,K⟩:=x (c+1) l (by simpa using C);grind
theorem hU.taken(h:hU a w d s f e m xs (n::v)){j:Nat}{g:fV}(p:s.fN[j]? =some g)
  (I:∃l,kg (s.fN.set j {g with waits:=0}) l/\v.length=l.length/\∀(C:Nat) b',v[C]? =some b'->∃(i:Nat) (x:fV),(s.fN.set j {g with waits:=0})[i]? =some x/\m[i]? =some b'/\l[C]? =some x.fZ)
  (D:mN b d s.c s.now f u) (H:b.ownsRow 0 97 1 u v.length (jm v)) (z:gm (fun t=>t=d\/e.ownBlock=some t) w b):hU a b d {s with fN:=s.fN.set j {g with waits:=0}} f u m xs v:=by
 obtain⟨J,G,q⟩:=h.map;have A:gm (xD d f e) w b:=z.mono fun t _ c=>c.elim bg (fun c=>bf (bf c));have E:b.heap[f]? =w.heap[f]?:=by
  refine z.block f q.lt ?_;obtain⟨O,K,P⟩:=q.iM;rintro(c|c)
  ·have o:w.heap[d]? =some (.cells (oP s.c s.now f e) 101 (0,0)):=h.gK;grind
  ·obtain⟨c1,N⟩:=fX h.row c;grind
 refine⟨D,⟨J,G,?_⟩,by simp[h.iD],by simp[h.jv],fun i L M Q k o y=>?_,H,I,h.apart,h.AD⟩
 ·have c:({s with fN:=s.fN.set j {g with waits:=0}}:gg).fN.map (·.fZ)=s.fN.map (·.fZ):=kr p rfl;rw[c];exact q.same E
 ·by_cases B:i=j
  ·subst B;rw[getElem?_set_at p]at k;cases k;exact(h.cons A p o y).waits 0
  ·rw[getElem?_set_other B]at k;exact h.cons A k o y
theorem Ey(h:hU a b d p f e m Q v)(s:gD c g p):
  aL ab 21 #[Pt d] b fun j E=>zo a b d f e m Q (jV p).2.2 (.tuple #[II (jV p).1,II (jV p).2.1]) j E:=by
 have I:CV b d 12 e:=h.gK.cell 12;cases v with
 |nil=>
  have t:jV p=(0,4,p):=by
   obtain⟨X,a3,a4,_⟩:=h.wait;cases X with
   |nil=>exact Db a3
   |cons b5 a8=>simp at a4
  rw[t];obtain⟨a5,a6,rfl⟩:=gr h.row;have V:Hid (zo a b d f (.slice a5 0 a6) m Q p (.tuple #[II 0,II 4]) (.returned (.tuple #[II 0,II 4])) b):=⟨rfl,⟨_,m,Q,[],h,fun B o=>bg o,fun B o=>o⟩,gm.refl _ _⟩;simp only[List.length_nil]at I⊢;clear h s t;go_enter func21,ntmps21;go_wp2_with fail;go_ret2;exact V.out
 |cons k l=>
  obtain⟨T,q,W,u,z,y,t,P,R⟩:=h.first s.nd
  rw[t];have S:(k::l).length<=1000:=by have J:=h.LZ;have a9:=s.tz;have b0:=s.cfg.c0;omega
  have M:=h.iq T q k W u z y;have D:=(h.but (ar a) u z y (gm.refl _ _) ⟨q,_,_,_,_,M.gK,rfl⟩).Rq;have A:=h.row;obtain⟨x,cap,J,_,_,_⟩:=iC A (by simp);subst J;have c0:b.cell? (Ad x 0)=some (Pt k):=by rw[A.cellAt 0 (by simp)];simp[jm,vR]
  have C:=fK (oI _ _ _ _ _ _ _ _ h.gK A S D.2 D.1);rw[BJ P]at C;have H:Hid (∀n j,uy b d p.c p.now f (ai (some (Ad x 0)) (k::l).length cap) l j n->(aL ab 51 #[Pt k] n fun j E=>j=.returned (II q.fZ)/\n=E)/\zo a b d f (ai (some (Ad x 0)) (k::l).length cap) m Q {p with fN:=p.fN.set T {q with waits:=0}} (.tuple #[II q.fZ,II 0]) (.returned (.tuple #[II q.fZ,II 0])) n):=by rintro n j ⟨rfl,⟨a7,Z,w,a0⟩,N⟩;have Y:=h.taken u R Z w N;have O:gm (xD d f (ai (some (Ad x 0)) (k::l).length cap)) b n:=N.mono fun B _ j=>j.elim bg (fun j=>bf (bf j));exact⟨xN _ _ _ _ _ _ _ _ (h.cons O u z y).gK,rfl,⟨a7,m,Q,l,Y,Hc a0,fun B o=>o⟩,O.mono fun B _ o=>pg o⟩
  have a1:((k::l).length:Int)≠0:=by simp;omega
  have b1:0<(k::l).length:=by simp
  have b2:(((k::l).length:Int)==0)=false:=beq_eq_false_iff_ne.2 a1;generalize (k::l).length=b4 at *
  clear h s u z y t P R S M D A;go_enter func21,ntmps21;go_wp2_with fail;refine C.out.mono ?_;intro j n w;obtain⟨K,L⟩:=H.out n j w;have a2:=w.ret;subst a2;have G:=fK K;have U:=fK L;clear K L w H C c0 I;go_wp2_with fail;refine G.out.mono ?_;rintro j b3 ⟨rfl,rfl⟩;clear G;go_wp2_with fail;go_ret2;exact U.out
def xq(w:aK)(g:g_)(e:Ending)(w':aK):Prop:=
 if g.right then ∃sb cm,e=.returned (.tuple #[Pt sb,II 0])/\hU 0 w' sb (mq g) cm (ai none 0 0) [] [] []/\w.heap.size<=sb/\w.heap.size<=cm/\Bw w w'
 else e=.returned (.tuple #[ag none,II 1])/\Bw w w'
theorem GO{s:g_}(g:Bw b w)(c:w.heap[a]? =some (.map #[] 0)):hU 0 (w.alloc (.cells #[II s.c0,II s.c1,II s.c2,II s.c3,II s.c4,II s.c5,II s.c6,II s.c7,II s.c8,II s.c9,II 0,.map (some a),ai none 0 0] 101)) w.heap.size (mq s) a (ai none 0 0) [] [] []/\Bw b (w.alloc (.cells #[II s.c0,II s.c1,II s.c2,II s.c3,II s.c4,II s.c5,II s.c6,II s.c7,II s.c8,II s.c9,II 0,.map (some a),ai none 0 0] 101)):=by have d:=fO w (.cells #[II s.c0,II s.c1,II s.c2,II s.c3,II s.c4,II s.c5,II s.c6,II s.c7,II s.c8,II s.c9,II 0,.map (some a),ai none 0 0] 101);refine⟨⟨cA w _,⟨0,ar _,?_⟩,rfl,rfl,fun i n cb e c=>(by simp[mq]at c),World.ownsRow_nil _ _ _ _,⟨[],kg.nil,rfl,fun h m d=>(by simp at d)⟩,fun i h cb e o l _ c=>(by simp at c),fun i cb e c=>(by simp at c)⟩,fP g d⟩;refine(iO.same (w:=w) ?_ (d.block a (bn.1 c).1));exact⟨.map [],⟨#[],0,c,by obtain⟨q,p,k,t⟩:=World.ownsMap_made w ab 3 kb.R;rw[cA]at k;grind⟩,⟨fun j=>rfl,fun j e f=>(by simp[nR]at f),rfl,List.nodup_nil⟩⟩
theorem LH{s:g_}:
  aL ab 26 #[.agg #[II s.c0,II s.c1,II s.c2,II s.c3,II s.c4,II s.c5,II s.c6,II s.c7,II s.c8,II s.c9]] b fun e m=>xq b s e m:=by
 have n:Hid (∀a:aK,a=b.alloc (.cells #[II s.c0,II s.c1,II s.c2,II s.c3,II s.c4,II s.c5,II s.c6,II s.c7,II s.c8,II s.c9] 26)->Bw b a/\a.heap[b.heap.size]? =some (.cells #[II s.c0,II s.c1,II s.c2,II s.c3,II s.c4,II s.c5,II s.c6,II s.c7,II s.c8,II s.c9] 26 (0,0))):=by rintro a rfl;exact⟨fO _ _,cA b _⟩
 obtain⟨r,l⟩:∃r,kB s.c0 s.c1 s.c2 s.c3 s.c4 s.c5 s.c6 s.c7 s.c8 s.c9=r:=⟨_,rfl⟩;have t:Hid (∀a,aL ab 52 #[.agg #[II s.c0,II s.c1,II s.c2,II s.c3,II s.c4,II s.c5,II s.c6,II s.c7,II s.c8,II s.c9]] a fun e m=>e=.returned (II (if r then 0 else 1))/\Bw a m):=by intro a;have:=oo (c0:=s.c0) (c1:=s.c1) (l:=s.c2) (u:=s.c3) (x:=s.c4) (E:=s.c5) (G:=s.c6) (H:=s.c7) (I:=s.c8) (J:=s.c9) (b:=a);unfold pi at this;rw[l]at this;exact this
 have q:Hid (s.right=r):=l;have p:Hid (∀a:aK,Bw b a->hU 0 ((uA a).alloc (.cells #[II s.c0,II s.c1,II s.c2,II s.c3,II s.c4,II s.c5,II s.c6,II s.c7,II s.c8,II s.c9,II 0,.map (some a.heap.size),ai none 0 0] 101)) (uA a).heap.size (mq s) a.heap.size (ai none 0 0) [] [] []/\Bw b ((uA a).alloc (.cells #[II s.c0,II s.c1,II s.c2,II s.c3,II s.c4,II s.c5,II s.c6,II s.c7,II s.c8,II s.c9,II 0,.map (some a.heap.size),ai none 0 0] 101))):=fun a v=>GO (fP v (fO _ _)) (cA a _);clear l;go_enter func26,ntmps26;go_wp2_with fail;obtain⟨j,f⟩:=n.out _ rfl;clear n;generalize b.alloc (.cells #[II s.c0,II s.c1,II s.c2,II s.c3,II s.c4,II s.c5,II s.c6,II s.c7,II s.c8,II s.c9] 26)=x at j f⊢;refine(t.out x).mono ?_;rintro e c ⟨rfl,k⟩;clear t;have d:=(k.block _ (bn.1 f).1).trans f;have h:=fP j k;clear j k f;have z:io c b 0 s.c0:=by simp[aD,d]
 have A:io c b 1 s.c1:=by simp[aD,d]
 have B:io c b 2 s.c2:=by simp[aD,d]
 have C:io c b 3 s.c3:=by simp[aD,d]
 have D:io c b 4 s.c4:=by simp[aD,d]
 have E:io c b 5 s.c5:=by simp[aD,d]
 have G:io c b 6 s.c6:=by simp[aD,d]
 have H:io c b 7 s.c7:=by simp[aD,d]
 have I:io c b 8 s.c8:=by simp[aD,d]
 have J:io c b 9 s.c9:=by simp[aD,d]
 have o:=fK h;have w:=h.size;clear d h;cases r
 ·simp only[Bool.false_eq_true,if_false];go_wp2_with fail;go_ret2;unfold xq;rw[q.out,if_neg (by decide)];exact⟨rfl,o.out⟩
 ·simp only[if_true];have g:=fK (p.out c o.out);have u:(uA c).heap.size=c.heap.size+1:=by simp
  rw[u]at g;clear p u;have y:∀a:aK,(Instr.makeMap 98 none).run ab a=.ok (.map (some a.heap.size)) (uA a):=fun a=>by simp[Instr.makeMap]
  go_wp2_with fail;go_ret2;unfold xq;rw[q.out,if_pos rfl];exact⟨_,_,rfl,g.out.1,by omega,w,g.out.2⟩
def qx(l:List gs):Int:=(l.map fun x=>(lM x.bytes:Int)).sum
theorem Ba{α:Type}{y9:List (Int×α)}(e:gs->Int)(u:∀b∈y0,b.done=true->e b=0)(E:e (gP c)=0)(f:E5 c y0 y9):(y0.map e).sum=iS (tM e y0) y9:=by
 have w:(y9.map fun a=>a.1.toNat).Nodup:=by
  have:(y9.map fun a=>a.1.toNat)=(y9.map (·.1)).map Int.toNat:=by simp_all
  rw[this];have k:=f.nd;have l:∀b∈y9.map (·.1),0<=b:=by intro b d;obtain⟨a,j,rfl⟩:=df.1 d;exact(f.str a j).1
  generalize y9.map (·.1)=z at k l;induction z with
  |nil=>simp
  |cons q G A=>rw[dk]at k;simp only[bz,dk];refine⟨fun h=>?_,A k.2 (fun b d=>l b (by simp[d]))⟩;obtain⟨B,D,s⟩:=df.1 h;have C:=l q (by simp);grind
 have x:∀p∈(y9.map fun a=>a.1.toNat),p<y0.length:=by intro p g;obtain⟨a,j,rfl⟩:=df.1 g;obtain⟨_,b,d,_⟩:=f.str a j;grind
 have t:iS (tM e y0) y9=((y9.map fun a=>a.1.toNat).map fun i=>((y0[i]?).map e).getD 0).sum:=by unfold iS tM;rw[List.map_map];rfl
 rw[t,vM,EG _ w x];congr 1;refine List.map_congr_left fun i v=>?_;have n:i<y0.length:=List.mem_range.1 v;have d:y0[i]? =some y0[i]:=ap n;have o:=u _ (List.getElem_mem n);generalize y0[i]=b at d o;rw[d];simp only[Option.map_some,Option.getD_some];have y:i∈(y9.map fun a=>a.1.toNat)↔(i:Int)∈y9.map (·.1):=by
  constructor
  ·intro h;obtain⟨a,j,s⟩:=df.1 h;have:=(f.str a j).1;grind
  grind
 by_cases g:i∈(y9.map fun a=>a.1.toNat)
 ·simp[g]
 ·cases m:b.done with
  |true=>simp[g,o m]
  |false=>have:=f.Nh i b d m (fun h=>g (y.2 h));grind
theorem H'{α:Type}{y9:List (Int×α)}(hi:∀a∈y0,iA c a)(b:E5 g y0 y9):qx y0=iS (tM (fun a=>(lM a.bytes:Int)) y0) y9:=by refine Ba (fun a=>(lM a.bytes:Int)) (fun a e d=>?_) (by simp[gP,lM]) b;have:=((hi a e).dn d).1;simp[this,lM]
theorem zJ{L:Nat->Prop}{N:gs}(f:jt L b a e c N)(hi:iA g N)(m:g<=8):
  aL ab 71 #[Pt a] b fun j n=>j=.returned (II (lM N.bytes:Nat))/\Bw b n:=by
 obtain⟨o,h,_⟩:=f.runs;have c0:CV b a 0 e:=f.cell 0;have d:=fK (G8 c0 h.own h.sh (hi.fit m));rw[Ct]at d;clear f h;go_enter func71,ntmps71;go_wp2_with fail;refine d.out.mono ?_;rintro j p ⟨rfl,k⟩;have l:=fK k;clear k d;go_wp2_with fail;go_ret;exact⟨rfl,l.out⟩
theorem Ir{l:Nat}{w8:List (Int×Nat)}(hi:Int->Int)(a4:CV b cb 21 (.map (some d)))(N:iO kb ab 3 b d l w8)(R:∀a∈w8,∀u,Bw b u->aL ab 71 #[Pt a.2] u fun m C=>m=.returned (II (hi a.1))/\Bw u C)(z:∀a∈w8,0<=hi a.1/\hi a.1<=1073741823)(c4:w8.length<=1073741823):
  aL ab 70 #[Pt cb,.func (.func 71) #[] #[]] b fun m C=>m=.returned (II (iS hi w8))/\Bw b C:=by
 have b8:iS hi w8<=1152921504606846976:=by have:=vm (c:=1073741823) fun a c=>(z a c).2;omega
 have V:=fK N;have Z:=fK R;have G:=fK z;clear N R z;go_enter func70,ntmps70;go_wp2_with (first
  |(at_range;refine mS _ rfl _ 134 rfl 140 underlying3 underlying134 d l w8 rfl V.out ?_;intro b5 P K b0))
 have I:Bw b b5:=lz K;have D:=fK (co P I);clear P K b0 I a4;go_frame;go_loopw [5] (fun b4 p=>∃(rest:List (Int×Nat)) (v:Nat),iH kb ab 3 p d b.heap.size l w8 rest v/\b4=II (iS hi w8-iS hi rest)/\Hid (∀a∈rest,a∈w8)/\Hid (iS hi rest<=iS hi w8)/\Bw b p) (fun _ p=>p.rangeLeft d b.heap.size);case atStart=>exact⟨w8,_,D.out.1,by rw[Int.sub_self],fun a c=>c,fK (Int.le_refl _),D.out.2⟩
 case round=>
  obtain⟨rest,v,O,rfl,A,b2,J⟩:=hrel;have t:=fK J;have Y:=fK O;clear J;go_wp2_with (first
   |(at_next;refine nK _ rfl _ rfl underlying3 d b.heap.size l w8 rest v rfl O ?_ ?_))
  ·intro a9;subst a9;go_wp2_with fail;go_ret;exact⟨by simp[iS],t.out⟩
  ·intro e q g h T H o c5 a3 Q M L b1 b9;have x:(e,q)∈w8:=A.out _ (by rw[o];simp);have w:Bw b T:=t.out.grown L t.out.size (fun b7 a5=>by cases a5;exact ar _);have y:=yP (s6:=hi) g h e q;rw[<-o]at y;have a7:0<=iS hi (g++h):=lB fun a c=>(G.out a (A.out a (by rw[o];simp at c⊢;rcases c with k|k<;>simp[k]))).1;have S:Hid (∀a∈g++h,a∈w8):=fun a c=>A.out a (by rw[o];simp at c⊢;rcases c with k|k<;>simp[k]);have a6:0<=hi e/\hi e<=1073741823:=G.out (e,q) x;obtain⟨c2,c3⟩:=a6;have a8:=b2.out;have b3:IntKind.i64.wrap (iS hi w8-iS hi rest+hi e)=iS hi w8-iS hi (g++h):=by rw[IntKind.wrap_i64];omega
   have W:=fK y;have E:=fK (Z.out (e,q) x T w);have j:=fK (co Q (co w (co M S)));have X:=fK (show iS hi (g++h)<=iS hi w8 from by omega);generalize iS hi rest=b6 at b3 W⊢;clear y a7 w x Q M S a8 L b1 a3;go_wp2_with fail;refine E.out.mono ?_;rintro m U ⟨rfl,n⟩;have s:Hid (iH kb ab 3 U d b.heap.size l w8 (g++h) H/\Bw b U):=⟨j.out.1.kept (n.block _ j.out.1.map.lt) (n.block _ j.out.1.iter.1),fP j.out.2.1 n⟩;clear E n;go_wp2_with fail;go_roundw;case rel=>exact⟨g++h,H,s.out.1,rfl,j.out.2.2.2,X,s.out.2⟩
   case measure=>have a0:=s.out.1.left_eq;have a1:=Y.out.left_eq;have a2:=j.out.2.2.1;rw[a0,a1];exact a2
theorem Kw{s:g_}(e:hC a b cb s j z6)(hi:iV s j)(u:hS c j)(q:jF s):
  aL ab 70 #[Pt cb,.func (.func 71) #[] #[]] b fun h w=>h=.returned (II (qx j.fM))/\Bw b w:=by
 obtain⟨C,B,t⟩:=e.py;have m:CV b cb 21 (.map (some z6.sm)):=e.gK.cell 21;rw[H' hi.str e.mp];have A:=q.c4;refine Ir _ m t (fun g k x p=>?_) (fun g k=>?_) ?_
 ·obtain⟨_,d,f,_⟩:=e.mp.str g k;have v:=(e.str g k d f).below p;have h:tM (fun d=>(lM d.bytes:Int)) j.fM g.1=(lM d.bytes:Int):=by simp[tM,f]
  rw[h];exact zJ v (hi.str d (bS f)) (by omega)
 ·obtain⟨_,d,f,_⟩:=e.mp.str g k;have h:tM (fun d=>(lM d.bytes:Int)) j.fM g.1=(lM d.bytes:Int):=by simp[tM,f]
  rw[h];have l:=hi.str d (bS f);have n:lM d.bytes<=d.bytes.length:=List.countP_le_length;have o:=l.len;have y:=l.rn;have z:=l.read;omega
 ·have n:=u.lu;have o:=e.mp.len;omega
def yk(c:fV):Array aM:=#[.bool c.fY,II c.gR,II c.gS,II c.fS,II (c.fM.length:Int),II (qx c.fM)]
def qZ:Array aM:=Mg
def lO(s:gg)(fZ:Int):Array aM×Int:=
 match ja s.fN fZ with
 |none=>(qZ,3)
 |some k=>match s.fN[k]? with
  |none=>(qZ,3)
  |some c=>(yk c,0)
theorem Bf{y2:Oper}{z1:Exit->Act->aK->Prop}(a:v9 (y1.put y2.dst undef) b):Oper.upon y5 y2 y1 v9 z1 (.ok .skip b):=a
theorem Hx{y2:Oper}{z1:Exit->Act->aK->Prop}{r:Result Next}(a:Oper.upon y5 y2 y1 v9 z1 r):Oper.upon y5 y2 y1 v9 z1 r:=a
theorem Ib{s:g_}(e:hC a b cb s j z6)(hi:iV s j)(b2:hS c j)(b1:jF s):
  aL ab 41 #[Pt cb] b fun v n=>v=.returned (.agg (yk j))/\Bw b n:=by
 have c8:cb<b.heap.size:=e.gK.lt;have G:Hid (∀d,Bw b d->aL ab 70 #[Pt cb,.func (.func 71) #[] #[]] d fun v n=>v=.returned (II (qx j.fM))/\Bw d n):=fun d p=>Kw (e.below p) hi b2 b1;have S:=fK (fun d=>po j.fS s.c1 d);have b5:Hid (∀d,Bw b d->d.heap[b.heap.size]? =some (.cells #[.bool false,II 0,II 0,II 0,II 0,II 0] 34 (0,0))->CV d cb 12 (.bool j.fY)/\CI d cb 13 j.gR/\CI d cb 14 j.gS/\CI d cb 18 j.fS/\CI d cb 19 s.c1/\CI d cb 20 (j.fM.length:Int)/\d.heap[b.heap.size]? =some (.cells #[.bool false,II 0,II 0,II 0,II 0,II 0] 34 (0,0))):=fun d p c3=>⟨(e.gK.below p).cell 12,(e.gK.below p).cell 13,(e.gK.below p).cell 14,(e.gK.below p).cell 18,(e.gK.below p).cell 19,(e.gK.below p).cell 20,c3⟩;have I:Bw b (b.alloc (.cells #[.bool false,II 0,II 0,II 0,II 0,II 0] 34)):=fO _ _;have a7:=b5.out _ I (cA b _);have R:=fK I;have b7:Hid (b.heap.size<(b.alloc (.cells #[.bool false,II 0,II 0,II 0,II 0,II 0] 34)).heap.size):=by show _<_;simp
 unfold yk;generalize qx j.fM=x at G⊢;generalize a8:(b.alloc (.cells #[.bool false,II 0,II 0,II 0,II 0,II 0] 34))=t at *
 have b6:=fK a8;clear e hi b2 b1 I a8;go_enter func41,ntmps41;go_wp2_with fail;rw[b6.out];obtain⟨z,A,B,C,D,E,c4⟩:=id a7;have U:Hid (∀d:aK,Bw t d->(d.cell? (gf b 0)=some (.bool false)/\d.frozen? (gf b 0)=false/\(d.setCell (gf b 0) (.bool j.fY)).cell? (gf b 1)=some (II 0)/\(d.setCell (gf b 0) (.bool j.fY)).frozen? (gf b 1)=false/\((d.setCell (gf b 0) (.bool j.fY)).setCell (gf b 1) (II j.gR)).cell? (gf b 2)=some (II 0)/\((d.setCell (gf b 0) (.bool j.fY)).setCell (gf b 1) (II j.gR)).frozen? (gf b 2)=false/\(((d.setCell (gf b 0) (.bool j.fY)).setCell (gf b 1) (II j.gR)).setCell (gf b 2) (II j.gS)).cell? (gf b 3)=some (II 0)/\(((d.setCell (gf b 0) (.bool j.fY)).setCell (gf b 1) (II j.gR)).setCell (gf b 2) (II j.gS)).frozen? (gf b 3)=false/\((((d.setCell (gf b 0) (.bool j.fY)).setCell (gf b 1) (II j.gR)).setCell (gf b 2) (II j.gS)).setCell (gf b 3) (II j.fS)).cell? (gf b 4)=some (II 0)/\((((d.setCell (gf b 0) (.bool j.fY)).setCell (gf b 1) (II j.gR)).setCell (gf b 2) (II j.gS)).setCell (gf b 3) (II j.fS)).frozen? (gf b 4)=false/\(((((d.setCell (gf b 0) (.bool j.fY)).setCell (gf b 1) (II j.gR)).setCell (gf b 2) (II j.gS)).setCell (gf b 3) (II j.fS)).setCell (gf b 4) (II (j.fM.length:Int))).cell? (gf b 5)=some (II 0)/\(((((d.setCell (gf b 0) (.bool j.fY)).setCell (gf b 1) (II j.gR)).setCell (gf b 2) (II j.gS)).setCell (gf b 3) (II j.fS)).setCell (gf b 4) (II (j.fM.length:Int))).frozen? (gf b 5)=false/\((((((d.setCell (gf b 0) (.bool j.fY)).setCell (gf b 1) (II j.gR)).setCell (gf b 2) (II j.gS)).setCell (gf b 3) (II j.fS)).setCell (gf b 4) (II (j.fM.length:Int))).setCell (gf b 5) (II x)).heap[b.heap.size]? =some (.cells #[.bool j.fY,II j.gR,II j.gS,II j.fS,II (j.fM.length:Int),II x] 34 (0,0)))):=by intro d q;have K:=(q.block b.heap.size b7.out).trans c4;have L:=fT K 0 (.bool j.fY);have M:=fT L 1 (II j.gR);have N:=fT M 2 (II j.gS);have O:=fT N 3 (II j.fS);have Q:=fT O 4 (II (j.fM.length:Int));have c7:=fT Q 5 (II x);refine⟨by simp only[aD,K];rfl,cx _ _ _ _ _ K,by simp only[aD,L];rfl,cx _ _ _ _ _ L,by simp only[aD,M];rfl,cx _ _ _ _ _ M,by simp only[aD,N];rfl,cx _ _ _ _ _ N,by simp only[aD,O];rfl,cx _ _ _ _ _ O,by simp only[aD,Q];rfl,cx _ _ _ _ _ Q,c7⟩
 have u:cb≠b.heap.size:=by omega
 have a9:∀(d:aK) (f g h k l m:aM) (J:Nat),((((((d.setCell (gf b 0) f).setCell (gf b 1) g).setCell (gf b 2) h).setCell (gf b 3) k).setCell (gf b 4) l).setCell (gf b 5) m).cell? (Ad cb J)=d.cell? (Ad cb J):=by intro d f g h k l m J;simp only[aD];rw[cy _ _ _ _ u,cy _ _ _ _ u,cy _ _ _ _ u,cy _ _ _ _ u,cy _ _ _ _ u,cy _ _ _ _ u]
 have T:Hid (∀(d:aK) (f g h k l m:aM),(d.cell? (Ad cb 12)=some (.bool j.fY)/\d.cell? (Ad cb 13)=some (II j.gR)/\d.cell? (Ad cb 14)=some (II j.gS)/\d.cell? (Ad cb 18)=some (II j.fS)/\d.cell? (Ad cb 19)=some (II s.c1)/\d.cell? (Ad cb 20)=some (II (j.fM.length:Int)))->(((((((d.setCell (gf b 0) f).setCell (gf b 1) g).setCell (gf b 2) h).setCell (gf b 3) k).setCell (gf b 4) l).setCell (gf b 5) m).cell? (Ad cb 12)=some (.bool j.fY)/\((((((d.setCell (gf b 0) f).setCell (gf b 1) g).setCell (gf b 2) h).setCell (gf b 3) k).setCell (gf b 4) l).setCell (gf b 5) m).cell? (Ad cb 13)=some (II j.gR)/\((((((d.setCell (gf b 0) f).setCell (gf b 1) g).setCell (gf b 2) h).setCell (gf b 3) k).setCell (gf b 4) l).setCell (gf b 5) m).cell? (Ad cb 14)=some (II j.gS)/\((((((d.setCell (gf b 0) f).setCell (gf b 1) g).setCell (gf b 2) h).setCell (gf b 3) k).setCell (gf b 4) l).setCell (gf b 5) m).cell? (Ad cb 18)=some (II j.fS)/\((((((d.setCell (gf b 0) f).setCell (gf b 1) g).setCell (gf b 2) h).setCell (gf b 3) k).setCell (gf b 4) l).setCell (gf b 5) m).cell? (Ad cb 19)=some (II s.c1)/\((((((d.setCell (gf b 0) f).setCell (gf b 1) g).setCell (gf b 2) h).setCell (gf b 3) k).setCell (gf b 4) l).setCell (gf b 5) m).cell? (Ad cb 20)=some (II (j.fM.length:Int)))):=by intro d f g h k l m e;simp only[a9];exact e
 clear a9;have H:Hid (∀d o:aK,Bw d o->(CV d cb 12 (.bool j.fY)/\CI d cb 13 j.gR/\CI d cb 14 j.gS/\CI d cb 18 j.fS/\CI d cb 19 s.c1/\CI d cb 20 (j.fM.length:Int))->(CV o cb 12 (.bool j.fY)/\CI o cb 13 j.gR/\CI o cb 14 j.gS/\CI o cb 18 j.fS/\CI o cb 19 s.c1/\CI o cb 20 (j.fM.length:Int))):=fun d o q e=>⟨fL e.1 q,fL e.2.1 q,fL e.2.2.1 q,fL e.2.2.2.1 q,fL e.2.2.2.2.1 q,fL e.2.2.2.2.2 q⟩;have c2:CV t.drew cb 12 (.bool j.fY)/\CI t.drew cb 13 j.gR/\CI t.drew cb 14 j.gS/\CI t.drew cb 18 j.fS/\CI t.drew cb 19 s.c1/\CI t.drew cb 20 (j.fM.length:Int):=⟨z,A,B,C,D,E⟩;go_region_held3 (fun n=>n.cell? (Ad cb 12)=some (.bool j.fY)/\n.cell? (Ad cb 13)=some (II j.gR)/\n.cell? (Ad cb 14)=some (II j.gS)/\n.cell? (Ad cb 18)=some (II j.fS)/\n.cell? (Ad cb 19)=some (II s.c1)/\n.cell? (Ad cb 20)=some (II (j.fM.length:Int))) (first|with_reducible assumption|with_reducible exact T.out _ _ _ _ _ _ _ (by with_reducible assumption)) (first
  |(go_at_call 69;refine(S.out _).mono ?_;rintro v c5 ⟨rfl,w⟩;have b8:=H.out _ _ w (by first|assumption|exact⟨z,A,B,C,D,E⟩))
  |(go_at_call 70;refine(G.out c5 (fP (fQ R.out _) w)).mono ?_;rintro v c6 ⟨rfl,y⟩;have b9:=H.out _ _ y (by first|assumption|exact⟨z,A,B,C,D,E⟩))
  |(refine Hx ?_;obtain⟨V,a1,W,a2,X,a3,Y,a4,Z,a5,a0,a6,b0⟩:=U.out c6 (fP (gc w) y);simp only[V,a1,W,a2,X,a3,Y,a4,Z,a5,a0,a6,Result.andThen_ok,Bool.false_eq_true,if_false];refine Bf ?_))
 have b3:=fK (fP (fP R.out (gc w)) y);have b4:=fK b0;clear b0 V a1 W a2 X a3 Y a4 Z a5 a0 a6 b8 b9 w y T U H G S c2 a7 z A B C D E;go_wp2_with fail;refine bodyPost_ret (results_cell_row (P:=ab) Tryz.results41 _ _ b.heap.size 34 #[.bool j.fY,II j.gR,II j.gS,II j.fS,II (j.fM.length:Int),II x] (0,0) _ rfl b4.out underlying34 rfl (by kernel_rfl)) rfl ?_;exact⟨rfl,((((((b3.out.setCell (ar _) _).setCell (ar _) _).setCell (ar _) _).setCell (ar _) _).setCell (ar _) _).setCell (ar _) _)⟩
theorem hU.Ld{o:aM}(h:hU a w d s f o m xs v)(j:-9223372036854775808<=c/\c<=9223372036854775807)(n:c∉s.fN.map (·.fZ)):(Instr.lookup 98 (.map (some f)) (II c) false).run ab w=.ok (ag none) w:=by
 obtain⟨q,_,l⟩:=h.map;have b:=vf (u6:=kb) (u5:=97) underlying3 underlying98 (fun p=>by kernel_rfl) l (pC (c:=c) j);have g:nR ((s.fN.map (·.fZ)).zip m) c=none:=by refine qw.2 ?_;rw[ei (by simp[h.iD])];exact n
 unfold mD at b;rw[g]at b;exact b
theorem JF(n:hU a b d p f e m Q v){U:Int}(o:gD g U p)(W:-9223372036854775808<=c/\c<=9223372036854775807):
  aL ab 16 #[Pt d,II c] b fun D a1=>D=.returned (.tuple #[.agg (lO p c).1,II (lO p c).2])/\Bw b a1:=by
 have q:Bw b (Mj b):=fO _ _;have a0:CV (Mj b) d 11 (.map (some f)):=(n.gK.below q).cell 11;rcases lL (y4:=p.fN) (c:=c) with⟨s,I⟩|⟨Z,h,s,t,Y⟩
 ·have A:=(n.below q).Ld W I;have u:lO p c=(qZ,3):=by unfold lO;rw[s]
  rw[u];unfold qZ;clear n o s I u;go_enter func16,ntmps16;go_wp2_with fail;refine bodyPost_ret (ip (y5:=ab) Tryz.results16 b.heap.size _ Mg (0,0) _ (II 3) (by kernel_rfl) (by kernel_rfl) (cA b _) underlying34 rfl (by kernel_rfl)) rfl ?_;exact⟨rfl,q⟩
 ·obtain⟨cb,V,H,E,G⟩:=n.found o.nd t;have y:=bS t;have X:=(o.ok h y).fZ;have A:=(n.below q).lO (c:=h.fZ) (by omega) G;rw[Y]at A;have u:lO p c=(yk h,0):=by unfold lO;rw[s];simp only;rw[t]
  rw[u];have w:=fK (Ib ((n.iq Z h cb V t H E).below q) (o.inv h y) (o.ok h y) o.cfg);have R:=fK q;have C:Hid ((Mj b).heap[b.heap.size]? =some (.cells Mg 34 (0,0))):=cA b _;have z:Hid (b.heap.size<(Mj b).heap.size):=by show _<_;simp
  unfold yk at w⊢;generalize qx h.fM=B at w⊢;clear n o s t H E G y X u q;go_enter func16,ntmps16;go_wp2_with fail;refine w.out.mono ?_;rintro D k ⟨rfl,x⟩;have j:=(x.block b.heap.size z.out).trans C.out;have a3:lq k b 0 (.bool false):=iL j rfl;have a9:mc k b.heap.size 0:=cx _ _ _ _ _ j;have a4:io k b 1 0:=iL j rfl;have b0:mc k b.heap.size 1:=cx _ _ _ _ _ j;have a5:io k b 2 0:=iL j rfl;have b1:mc k b.heap.size 2:=cx _ _ _ _ _ j;have a6:io k b 3 0:=iL j rfl;have b2:mc k b.heap.size 3:=cx _ _ _ _ _ j;have a7:io k b 4 0:=iL j rfl;have b3:mc k b.heap.size 4:=cx _ _ _ _ _ j;have a8:io k b 5 0:=iL j rfl;have b4:mc k b.heap.size 5:=cx _ _ _ _ _ j;have J:=fT j 0 (.bool h.fY);have K:=fT J 1 (II h.gR);have L:=fT K 2 (II h.gS);have M:=fT L 3 (II h.fS);have N:=fT M 4 (II (h.fM.length:Int));have O:=fT N 5 (II B);have a2:b.heap.size<k.heap.size:=ca z.out x.size;have S:=fK (fP R.out x);have T:=fK O;clear x j J K L M N O w C z A a0;go_wp2_with fail;refine bodyPost_ret (ip (y5:=ab) Tryz.results16 b.heap.size _ #[.bool h.fY,II h.gR,II h.gS,II h.fS,II (h.fM.length:Int),II B] (0,0) _ (II 0) (by kernel_rfl) (by kernel_rfl) T.out underlying34 rfl (by kernel_rfl)) rfl ?_;exact⟨rfl,((((((S.out.setCell (ar _) _).setCell (ar _) _).setCell (ar _) _).setCell (ar _) _).setCell (ar _) _).setCell (ar _) _)⟩
end Go.Proofs.YthmdjhlhodpbhaaGreatDoor
