/- Comes, part 17 -/
import Derived.Test.YthmdjhlhodpbhaaGreatDoorM16
set_option maxHeartbeats 16000000
set_option maxRecDepth 8000
namespace Go.Proofs.YthmdjhlhodpbhaaGreatDoor
open Go.RowKit
open _root_.List renaming getElem?_eq_getElem → am, getElem?_eq_some_iff → bm, getElem?_append_right → aF, getElem?_set_ne → ey, getElem?_append_left → aw, getElem?_set_self → ez, mem_of_getElem? → bT, replicate → ak, getElem?_cons_zero → cz, getElem?_replicate → aA, replicate_append_replicate → eC, drop_eq_nil_of_le → eD, take_of_length_le → bL, getElem?_eq_none → bj, set_append_right → aZ, getElem?_of_mem → eE
open _root_.Or renaming inr → aV, inl → a_
open _root_.Array renaming getElem?_eq_some_iff → aO
open _root_.Nat renaming le_trans → cw, zero_le → aI, le_refl → ay, add_sub_cancel_left → bU, lt_or_ge → aD
open Go.World renaming cell? → aX, size_alloc → aB, ownsRow_nil → aq
open Go.Value renaming ownBlock → ax, slice → cX, oneCell' → bK
open Go.Result renaming andThen → aG
open _root_.Go.Proofs.Tryz
open _root_.Go.Proofs.Tryz renaming prog → ae
open Go.Value renaming int → af, slice → aj, pointer → ai
open Go.IntKind renaming i64 → ag
variable {w w' w1 w0 w3 w4 wr w2 sA:World}{k m base bw N i n j sb cm ob g B1 B2 b N' q rb bx sz k' m':Nat}{lv vb vs v u ov wv cv v2 v4 KS l1 l2 l3 l4 Ck lm:Value}{iq gX add rS xg:List Value}{M L M' L' now:Int}{gN:List (Int×List Int)}{e:TypeId}{s:ik}{gP ws iJ:List Nat}{cur:Array Value}{fr:Nat×Nat}{x:Int×Value}{xs:List iP}{oS:List (Int×Value)}{a:Act}
theorem qn{l:List (Int×Value)}(h:l[i]? =some x):(g_ l)[i*2]? =some (af ag x.1)/\(g_ l)[i*2+1]? =some x.2:=by
 induction l generalizing i with
 |nil=>simp at h
 |cons a r ih=>
  have e:g_ (a::r)=[af ag a.1,a.2]++g_ r:=by simp[g_]
  cases i with
  |zero=>
   simp only[cz,Option.some.injEq]at h;subst h;rw[e];simp
  |succ i=>
   have h1:=ih (i:=i) (by simpa using h);have e1:(i+1)*2=2+i*2:=by omega
   have e2:(i+1)*2+1=2+(i*2+1):=by omega
   rw[e]
   constructor
   ·rw[e1,aF (by simp)];simpa using h1.1
   ·rw[e2,aF (by simp)];simpa using h1.2
theorem Fz(oa oc:List (Int×Value))(gN:List (Int×List Int))(ba bb:Nat)(va vb:Value)(w:World)(ha:w.ownsRow ba 60 2 va oa.length (g_ oa))(hA:qZ w ba oa gN)(hb:w.ownsRow bb 60 2 vb oc.length (g_ oc))(hB:qZ w bb oc gN)(hn:gN.length<=1000):
  Calls ae 118 #[va,vb] w fun e w'=>e=.returned (.bool true)/\∃n,w'=w.drewN n:=by
 have KP:=hA.1;have T6:=hB.1;obtain⟨aa,ca,rfl⟩:=iA ha;obtain⟨ab,cb,rfl⟩:=iA hb;have Ha:=gE ha;have Hb:=gE hb;have HA:=gE hA;have HB:=gE hB;have HL:Hid (oa.length=gN.length/\oc.length=gN.length):=⟨KP,T6⟩;rw[KP,T6];generalize hN:gN.length=N at *
 have HN:=gE hN;clear ha hb hA hB KP T6 hN;go_enter func118,ntmps118;go_wp2_with fail
 go_loopw [5] (fun i wr=>∃k q:Nat,k<=N/\i=af ag k/\wr=w.drewN q) (fun i _=>N-(intOf i).toNat)
 case atStart=>exact⟨0,0,aI _,rfl,by simp[World.drewN]⟩
 case round=>
  obtain⟨k,q,hk,rfl,rfl⟩:=hrel;by_cases jp:k<N
  ·obtain⟨o,ho⟩:∃o,gN[k]? =some o:=⟨_,am (by rw[HN.out];exact jp)⟩;obtain⟨x,hx⟩:∃x,oa[k]? =some x:=⟨_,am (by rw[HL.out.1];exact jp)⟩;obtain⟨y,hy⟩:∃y,oc[k]? =some y:=⟨_,am (by rw[HL.out.2];exact jp)⟩;obtain⟨ea,xa⟩:=HA.out.2 k x o hx ho;obtain⟨eb,xb⟩:=HB.out.2 k y o hy ho;obtain⟨sx1,sx2⟩:=qn hx;obtain⟨sy1,sy2⟩:=qn hy;obtain⟨_,⟨_,h0⟩|⟨ga,ca',adM,e1,_,hga,hca,_⟩⟩:=id Ha.out
   ·rw[HL.out.1]at h0;omega
   obtain⟨_,⟨_,h0⟩|⟨gb,OE,adN,e2,_,Sh,jJ,_⟩⟩:=id Hb.out
   ·rw[HL.out.2]at h0;omega
   simp only[Value.slice.injEq]at e1 e2;obtain⟨rfl,_,rfl⟩:=e1;obtain⟨rfl,_,rfl⟩:=e2;have sj:=HL.out.1;have rC:=HL.out.2
   have c1:(w.drewN q).cell? ⟨ga,k*2,none⟩= some (af ag o.1):=by
    have:=Ha.out.cellAt (k*2) (by omega);rw[sx1,ea]at this;exact this
   have c2:(w.drewN q).cell? ⟨ga,k*2+1,none⟩= some x.2:=by
    have:=Ha.out.cellAt (k*2+1) (by omega);rw[sx2]at this;exact this
   have c3:(w.drewN q).cell? ⟨gb,k*2,none⟩= some (af ag o.1):=by
    have:=Hb.out.cellAt (k*2) (by omega);rw[sy1,eb]at this;exact this
   have c4:(w.drewN q).cell? ⟨gb,k*2+1,none⟩= some y.2:=by
    have:=Hb.out.cellAt (k*2+1) (by omega);rw[sy2]at this;exact this
   have k1:∀p,(convert 44 9 x.2).run ae ((w.drewN q).drewN p)=.ok (.string (strOfNums o.2)) ((w.drewN q).drewN p):=fun p=>uy (iB xa (gK (gK (Below.refl _ _) q) p))
   have k2:∀p,(convert 44 9 y.2).run ae ((w.drewN q).drewN p)=.ok (.string (strOfNums o.2)) ((w.drewN q).drewN p):=fun p=>uy (iB xb (gK (gK (Below.refl _ _) q) p))
   obtain⟨px,py,Fm⟩:=i7 xa;obtain⟨qx,qy,hfy⟩:=i7 xb;rw[Fm]at c2 k1;rw[hfy]at c4 k2;generalize strOfNums o.2=st at k1 k2;generalize o.1=o1 at c1 c3;generalize LW:o.2.length=lo at *
   clear hx hy ho xa xb sx1 sx2 sy1 sy2 hga Sh Fm hfy ea eb LW;generalize hWq:w.drewN q=wq at *
   have HWq:=gE hWq;clear hWq;go_wp2_with fail
   go_quiet (fail)
   go_wp2_with fail
   go_roundw
   case rel=>exact⟨k+1,q+nq,by omega,by go_num,by rw[<-HWq.out];simp[World.drewN,Nat.add_assoc]⟩
   case measure=>simp[intOf];omega
  ·obtain rfl:k=N:=by omega
   go_wp2_with fail;go_ret;exact⟨rfl,q,rfl⟩
def nA(k:Nat):Int:=-1000-(k:Int)/4
def iH(n k:Nat):List (Int×Value):=ak n (nA k,aj none 0 0)
def xA(w:World)(base:Nat)(u:Value)(i:Nat):Prop:=∃n,0<n/\n<=1000003/\Row w base 5 u n (.int .u8 (vR i))
def Am(w:World)(base:Nat)(u:Value)(i:Nat):Prop:=∃n,0<n/\n<=1003/\w.ownsRow base 60 2 u n (g_ (iH n i))
structure WL(w:World)(base bw:Nat)(lv vb vs:Value)(k m:Nat)(iq gX:List Value):Prop where
 i_:w.heap[bw]? =some (.cells #[lv,vb,vs] 85 (0,0))
 k4:k%4=0
 m4:m%4=0
 tJ:w.ownsRow base 44 1 vb k iq
 xf:w.ownsRow base 47 1 vs m gX
 Lf:∀(i:Nat) u,iq[i]? =some u->(∃a c,u=.slice a 0 c)\/xA w base u i
 MW:∀(i:Nat) u,gX[i]? =some u->(∃a c,u=.slice a 0 c)\/Am w base u i
theorem WL.iO{F:Nat->Prop}(h:WL w base bw lv vb vs k m iq gX)(hc:ip F w w')(h1:¬F bw)(h2:∀g,vb.ownBlock=some g->¬F g)(h3:∀g,vs.ownBlock=some g->¬F g)(h4:∀(i:Nat) u g,iq[i]? =some u->xA w base u i->u.ownBlock=some g->¬F g)(h5:∀(i:Nat) u g,gX[i]? =some u->Am w base u i->u.ownBlock=some g->¬F g):WL w' base bw lv vb vs k m iq gX where
 i_:=by rw[hc.block bw (aO.1 h.i_).1 h1];exact h.i_
 k4:=h.k4
 m4:=h.m4
 tJ:=jg h.tJ hc h2
 xf:=jg h.xf hc h3
 Lf:=fun i u hu=>by
  rcases h.Lf i u hu with h0|h0
  ·exact a_ h0
  ·obtain⟨n,h6,h7,hr⟩:=id h0;exact aV ⟨n,h6,h7,jg hr hc (fun g hg=>h4 i u g hu h0 hg)⟩
 MW:=fun i u hu=>by
  rcases h.MW i u hu with h0|h0
  ·exact a_ h0
  ·obtain⟨n,h6,h7,hr⟩:=id h0;exact aV ⟨n,h6,h7,jg hr hc (fun g hg=>h5 i u g hu h0 hg)⟩
theorem WL.typed{F:Nat->Prop}(h:WL w base bw lv vb vs k m iq gX)(hc:ip F w w')(hF:∀q cur e fr,w.heap[q]? =some (.cells cur e fr)->e=85\/e=44\/e=47\/e=5\/e=60->¬F q):WL w' base bw lv vb vs k m iq gX:=by
 refine h.iO hc (hF _ _ _ _ h.i_ (by simp)) (fun g hg=>?_) (fun g hg=>?_) (fun i u g hu h0 hg=>?_) (fun i u g hu h0 hg=>?_)
 ·obtain⟨c,e⟩:=ii h.tJ hg;exact hF _ _ _ _ e (by simp)
 ·obtain⟨c,e⟩:=ii h.xf hg;exact hF _ _ _ _ e (by simp)
 ·obtain⟨n,_,_,hr⟩:=h0;obtain⟨c,e⟩:=ii hr hg;exact hF _ _ _ _ e (by simp)
 ·obtain⟨n,_,_,hr⟩:=h0;obtain⟨c,e⟩:=ii hr hg;exact hF _ _ _ _ e (by simp)
theorem WL.below(h:WL w base bw lv vb vs k m iq gX)(hb:Below w.heap.size w w'):WL w' base bw lv vb vs k m iq gX:=h.typed (F:=fun _=>False) (ip.gS hb) (fun _ _ _ _ _ _ h=>h)
def Bu(w:World)(v u:Value):Prop:=u.ownBlock=v.ownBlock\/∀g,u.ownBlock=some g->w.heap.size<=g
section
variable {P:Program}
theorem pq{w:World}{lZ:Array Oper}{rest:List Oper}{o:Oper}{a:Act}{Q:Exit->Act->World->Prop}(sJ:o.guard=none)(s y:Operand)(t:TypeId)
  (ho:o.op=.call {callee:=.builtin .append,args:=#[s,y],argTypes:=#[t,t]})
  (base:Nat) (e:TypeId) (i:TypeInfo) (z:Value) (bytes:Nat) (ht:P.underlying t=some (.slice e)) (hi:P.info? e=some i) (hz:i.zero=some z)
  (nI:i.size=1) (rm:i.bytes=bytes) (Fv:z.cells.size=1) (x:Value) (hx:x.oneCell'=true) (v:Value) (n:Nat) (hs:a.eval s=v) (gY:Row w base e v n x)
  (ad:Addr) (m c:Nat) (hy:a.eval y=aj (some ad) m c) (pz:∀(j:Nat) u,(ak m x)[j]? =some u->w.cell? (ad.add j)=some u) (Fj:n+m<=maxLen) (nG:(n+m)*bytes<=140737488355328) (lE:base<=w.heap.size)
  (h:∀v' w',Row w' base e v' (n+m) x->w.grownBy w' v.ownBlock->((∀b' u k,Row w b' e u k x->Row w' b' e u k x)/\Bu w v v')->wpList P lZ Q rest (a.put o.dst v') w'):wpList P lZ Q (o::rest) a w:=by
 refine wpList_plain sJ fun K hK=>?_
 obtain⟨v',w',kk,h1,h2,h3⟩:=BO (P:=P) w base t o.type e i z bytes ht hi hz nI rm Fv x hx v n gY ad m c pz Fj nG lE;obtain⟨v2,w2,zG,_,_,h4⟩:=lJ (P:=P) w base t o.type e i z 1 bytes ht hi hz nI rm Fv (by decide) v n (ak n x) gY ad m c (ak m x) (by simp) pz (fun u hu=>by rw[List.eq_of_mem_replicate hu];exact hx) Fj nG lE;rw[kk]at zG;simp only[Result.ok.injEq]at zG;obtain⟨rfl,rfl⟩:=zG;unfold Oper.wp;simp[execOp,ho,resolve,invoke,builtin,hs,hy,kk,aG];exact hK _ _ (h v' w' h1 h2 ⟨h3,h4⟩)
theorem qO{w:World}{lZ:Array Oper}{rest:List Oper}{o:Oper}{a:Act}{Q:Exit->Act->World->Prop}(sJ:o.guard=none)(s x:Operand)(t:TypeId)
  (ho:o.op=.call {callee:=.builtin .append,args:=#[s,x],argTypes:=#[t,t]})
  (base:Nat) (e:TypeId) (i:TypeInfo) (z:Value) (size bytes:Nat) (ht:P.underlying t=some (.slice e)) (hi:P.info? e=some i) (hz:i.zero=some z)
  (nI:i.size=size) (rm:i.bytes=bytes) (Fv:z.cells.size=size) (ku:0<size) (v:Value) (n:Nat) (xs:List Value) (hs:a.eval s=v) (gY:w.ownsRow base e size v n xs)
  (ad:Addr) (m c:Nat) (news:List Value) (hx:a.eval x=aj (some ad) m c) (hl:news.length=m*size) (pz:∀j u,news[j]? =some u->w.cell? (ad.add j)=some u) (h1:∀u∈news,u.oneCell'=true)
  (Fj:n+m<=maxLen) (nG:(n+m)*bytes<=140737488355328) (lE:base<=w.heap.size)
  (h:∀v' w',w'.ownsRow base e size v' (n+m) (xs++news)->w.grownBy w' v.ownBlock->Bu w v v'->wpList P lZ Q rest (a.put o.dst v') w'):wpList P lZ Q (o::rest) a w:=by
 refine wpList_plain sJ fun K hK=>?_
 obtain⟨v',w',kk,h2,h3,h4⟩:=lJ (P:=P) w base t o.type e i z size bytes ht hi hz nI rm Fv ku v n xs gY ad m c news hl pz h1 Fj nG lE;unfold Oper.wp;simp[execOp,ho,resolve,invoke,builtin,hs,hx,kk,aG];exact hK _ _ (h v' w' h2 h3 h4)
end
theorem Bu.of(h:Bu w1 v u)(hs:w.heap.size<=w1.heap.size):Bu w v u:=h.imp id fun h g hg=>cw hs (h g hg)
theorem Gc{x:Int}(hw:WL w base bw lv vb vs k m iq gX)(hx:vR k=x)(hj:j<=1000000)(qa:w.grownBy w3 v.ownBlock)(hvt:∀g,v.ownBlock=some g->∃cur,w.heap[g]? =some (.cells cur 5 (0,0)))(JE:∀(i:Nat) u g,iq[i]? =some u->xA w base u i->v.ownBlock=some g->u.ownBlock≠some g)
  (h1:Row w3 base 5 l1 j (.int .u8 x)) (h2:Row w3 base 5 l2 (j+1) (.int .u8 x)) (h3:Row w3 base 5 l3 (j+2) (.int .u8 x)) (h4:Row w3 base 5 l4 (j+3) (.int .u8 x))
  (ki:w4.ownsRow base 44 1 v4 (k+4) (iq++[l1,l2,l3,l4])) (Fp:(w3.alloc (.cells #[l1,l2,l3,l4] 44)).grownBy w4 vb.ownBlock):
  w4.heap[bw]? =some (.cells #[lv,vb,vs] 85 (0,0))/\WL (w4.setCell ⟨bw,1,none⟩ v4) base bw lv v4 vs (k+4) m (iq++[l1,l2,l3,l4]) gX/\ip (fun q=>q=bw\/vb.ownBlock=some q\/v.ownBlock=some q) w (w4.setCell ⟨bw,1,none⟩ v4):=by
 have rE:ip (fun q=>v.ownBlock=some q) w w3:=⟨qa.os,qa.tape,qa.output,qa.size,fun q hq hn=>qa.block q hq (fun e=>hn e.symm)⟩
 have QV:∀q cur e fr,w.heap[q]? =some (.cells cur e fr)->e≠5->¬v.ownBlock=some q:=by
  intro q cur e fr hq he hv;obtain⟨c,e2⟩:=hvt q hv;rw[hq]at e2;simp only[Option.some.injEq,Obj.cells.injEq]at e2;exact he e2.2.1
 have vQ:WL w3 base bw lv vb vs k m iq gX:=by
  refine hw.iO rE (QV _ _ _ _ hw.i_ (by decide)) (fun g hg=>?_) (fun g hg=>?_) (fun i u g hu h0 hg hv=>JE i u g hu h0 hv hg) (fun i u g hu h0 hg=>?_)
  ·obtain⟨c,e⟩:=ii hw.tJ hg;exact QV _ _ _ _ e (by decide)
  ·obtain⟨c,e⟩:=ii hw.xf hg;exact QV _ _ _ _ e (by decide)
  ·obtain⟨n,_,_,hr⟩:=h0;obtain⟨c,e⟩:=ii hr hg;exact QV _ _ _ _ e (by decide)
 have wL:w3.grownBy w4 vb.ownBlock:=gU Fp;have ud:ip (fun q=>vb.ownBlock=some q) w3 w4:=⟨wL.os,wL.tape,wL.output,wL.size,fun q hq hn=>wL.block q hq (fun e=>hn e.symm)⟩;have B8:∀q cur e fr,w3.heap[q]? =some (.cells cur e fr)->e≠44->¬vb.ownBlock=some q:=fun q cur e fr hq he hv=>gO vQ.tJ hq (fun e1=>he e1.symm) hv
 have BB:w4.heap[bw]? =some (.cells #[lv,vb,vs] 85 (0,0)):=by
  rw[ud.block bw (aO.1 vQ.i_).1 (B8 _ _ _ _ vQ.i_ (by decide))];exact vQ.i_
 have Fk:ip (· = bw) w4 (w4.setCell ⟨bw,1,none⟩ v4):=iu (Below.refl _ _) 1 _
 have Jw:∀q cur e fr,w4.heap[q]? =some (.cells cur e fr)->e≠85->¬q=bw:=by
  intro q cur e fr hq he e1;rw[e1,BB]at hq;simp only[Option.some.injEq,Obj.cells.injEq]at hq;exact he hq.2.1.symm
 have sK:∀{u:Value} {n sz:Nat} {e:TypeId} {l:List Value},w3.ownsRow base e sz u n l->e≠44->e≠85->(w4.setCell ⟨bw,1,none⟩ v4).ownsRow base e sz u n l:=by
  intro u n sz e l hr he1 X6;have r4:=jy hr ud (fun q cur fr hq=>B8 q cur _ fr hq he1);exact jy r4 Fk (fun q cur fr hq=>Jw q cur _ fr hq X6)
 have Ft:iq.length=k:=by simpa using hw.tJ.1
 refine⟨BB,⟨?_,by have:=hw.k4;omega,hw.m4,jy ki Fk (fun q cur fr hq=>Jw q cur _ fr hq (by decide)),sK vQ.xf (by decide) (by decide),fun i u hu=>?_,fun i u hu=>?_⟩,?_⟩
 ·rw[gQ BB 1 v4];rfl
 ·rcases aD i k with Sj|Sj
  ·rw[aw (by omega)]at hu;rcases vQ.Lf i u hu with h0|⟨n,NP,hn,hr⟩
   ·exact a_ h0
   ·exact aV ⟨n,NP,hn,sK hr (by decide) (by decide)⟩
  ·rw[aF (by omega),Ft]at hu;obtain⟨q,rfl⟩:∃q,i=k+q:=⟨i-k,by omega⟩;rw[bU]at hu
   match q,hu with
   |0,hu=>
    simp at hu;subst hu;rcases Nat.eq_zero_or_pos j with h0|h0
    ·obtain⟨a1,c1,e1⟩:=i7 h1;exact a_ ⟨a1,c1,by rw[e1,h0]⟩
    ·exact aV ⟨j,h0,by omega,by rw[vq hw.k4 (by decide),hx];exact sK h1 (by decide) (by decide)⟩
   |1,hu=>simp at hu;subst hu;exact aV ⟨j+1,by omega,by omega,by rw[vq hw.k4 (by decide),hx];exact sK h2 (by decide) (by decide)⟩
   |2,hu=>simp at hu;subst hu;exact aV ⟨j+2,by omega,by omega,by rw[vq hw.k4 (by decide),hx];exact sK h3 (by decide) (by decide)⟩
   |3,hu=>simp at hu;subst hu;exact aV ⟨j+3,by omega,by omega,by rw[vq hw.k4 (by decide),hx];exact sK h4 (by decide) (by decide)⟩
   |q+4,hu=>simp at hu
 ·rcases vQ.MW i u hu with h0|⟨n,NP,hn,hr⟩
  ·exact a_ h0
  ·exact aV ⟨n,NP,hn,sK hr (by decide) (by decide)⟩
 ·exact((rE.mono fun q _ h=>aV (aV h)).trans (ud.mono fun q _ h=>aV (a_ h))).trans (Fk.mono fun q _ h=>a_ h)
theorem ye(base bw k m n:Nat)(lv vb vs v:Value)(iq gX xs:List Value)(w:World)(hw:WL w base bw lv vb vs k m iq gX)(lE:base<=w.heap.size)(hv:w.ownsRow base 5 1 v n xs)(JE:∀(i:Nat) u g,iq[i]? =some u->xA w base u i->v.ownBlock=some g->u.ownBlock≠some g)(hn:n<=1000000)(hk:k<=5000000000000):
  Calls ae 111 #[ai (some ⟨bw,0,none⟩),v] w fun e w'=>e=.returned (.tuple #[])/\(∃Ck new,WL w' base bw lv Ck vs (k+4) m (iq++new) gX/\(∀u∈new,Bu w v u)/\Bu w vb Ck)/\ip (fun q=>q=bw\/vb.ownBlock=some q\/v.ownBlock=some q) w w':=by
 obtain⟨i0,hi,mB,kS,ln⟩:=info_parts o4;obtain⟨j0,hj,KR,Pw,Q1⟩:=info_parts L7;obtain⟨ab,cb,WP⟩:=i7 hw.tJ;subst WP;obtain⟨ao,cap,Z7⟩:=i7 hv;subst Z7;have i8:xs.length=n:=by simpa using hv.1
 have Wj:bw<w.heap.size:=(aO.1 hw.i_).1;have jJ:w.cell? ⟨bw,1,none⟩= some (.slice ab k cb):=by simp[aX,hw.i_]
 have HV:=gE hv;have HW:=gE hw;have HSp:=gE JE;have hxr:=JR k;have HX:Hid (vR k=101+(k:Int)/4%97):=rfl;have aaT:=Eo hv hw.i_ (by decide);have acl:=PV hw.tJ hv (by decide);clear hv hw JE;go_enter func111,ntmps111
 go_wp2
 rw[<-HX.out];generalize hxx:vR k=x at hxr⊢;have HXX:=gE hxx;clear hxx
 go_loopw [5] (fun i wr=>∃j:Nat,j<=n/\i=af ag j/\wr.ownsRow base 5 1 (.slice ao n cap) n (ak j (.int .u8 x)++xs.drop j)/\w.grownBy wr (cX ao n cap).ownBlock) (fun i _=>n-(intOf i).toNat)
 case atStart=>exact⟨0,aI _,rfl,by simpa using HV.out,oG (Below.refl _ _) _⟩
 case round=>
  obtain⟨j,hjn,rfl,gY,DU⟩:=hrel;by_cases jp:j<n
  ·obtain⟨g,n_,e1,pr,mZ,qa⟩:=jP gY (by omega);simp only[Value.slice.injEq]at e1;obtain⟨rfl,_,rfl⟩:=e1
   have jk:∃u,wr.cell? ⟨g,j,none⟩= some u:=by
    rw[gY.cellAt j (by omega)];exact⟨_,am (by have:=gY.1;omega)⟩
   obtain⟨u,jk⟩:=jk;have oM:=gY.frozenAt j;have HO:=gE (gY.stored j (.int .u8 x));have HG:=gE DU;clear gY DU
   go_wp2
   go_roundw
   case rel=>
    have h1:=HO.out.1;rw[Ql i8 jp]at h1;exact⟨j+1,by omega,by go_num,h1,mm HG.out HO.out.2 (a_ rfl)⟩
   case measure=>simp[intOf];omega
  ·obtain rfl:j=n:=by omega
   have hd:xs.drop j=[]:=eD (by omega);rw[hd,List.append_nil]at gY;have yX:base<=wr.heap.size:=cw lE DU.size;have HZ1:=gE DU.size;clear hd;have vh:(Value.int .u8 x).oneCell'=true:=rfl;go_wp2_with (at_builtin;refine pq rfl _ _ 44 rfl base 5 i0 (.int .u8 0) 1 underlying44 hi mB kS ln rfl (.int .u8 x) vh (.slice ao j cap) j rfl (gY.alloc _) ⟨wr.heap.size,0,none⟩ 1 1 rfl (iZ wr 5 (ak 1 (.int .u8 x)) (by simp[maxLen])) (by unfold maxLen;omega) (by omega) (by simp;omega) ?_;intro va w1 YB pr Yg;refine Hid.out ?_);refine gE ?_;have pJ:=Yg.1;have HN1:=gE Yg.2;clear Yg;have sj:=pJ _ _ _ (gY.alloc _);have GA:=mm DU (gU pr) (a_ rfl);have uD:base<=w1.heap.size:=cw lE GA.size;have TQ:=gE GA.size;obtain⟨aa,ca,rfl⟩:=i7 YB;clear gY pr pJ yX DU;go_wp2_with (at_builtin;refine pq rfl _ _ 44 rfl base 5 i0 (.int .u8 0) 1 underlying44 hi mB kS ln rfl (.int .u8 x) vh (.slice ao j cap) j rfl (sj.alloc _) ⟨w1.heap.size,0,none⟩ 2 2 rfl (iZ w1 5 (ak 2 (.int .u8 x)) (by simp[maxLen])) (by unfold maxLen;omega) (by omega) (by simp;omega) ?_;intro vc w2 Ae mZ Yh;refine Hid.out ?_);refine gE ?_;have rp:=Yh.1;have It:=gE Yh.2;clear Yh;have rC:=rp _ _ _ (sj.alloc _);have SC:=rp _ _ _ (YB.alloc _);have GB:=mm GA (gU mZ) (a_ rfl);have Cd:base<=w2.heap.size:=cw lE GB.size;have QK:=gE GB.size;obtain⟨ac,cc,rfl⟩:=i7 Ae;clear sj mZ rp uD YB GA;go_wp2_with (at_builtin;refine pq rfl _ _ 44 rfl base 5 i0 (.int .u8 0) 1 underlying44 hi mB kS ln rfl (.int .u8 x) vh (.slice ao j cap) j rfl (rC.alloc _) ⟨w2.heap.size,0,none⟩ 3 3 rfl (iZ w2 5 (ak 3 (.int .u8 x)) (by simp[maxLen])) (by unfold maxLen;omega) (by omega) (by simp;omega) ?_;intro vd w3 WE qa Yi;refine Hid.out ?_);refine gE ?_;have NL:=Yi.1;have HN3:=gE Yi.2;clear Yi;have Pg:=NL _ _ _ (rC.alloc _);have SD:=NL _ _ _ (SC.alloc _);have tR:=NL _ _ _ (Ae.alloc _);have Ed:=mm GB (gU qa) (a_ rfl);have YI:base<=w3.heap.size:=cw lE Ed.size;have HZ4:=gE Ed.size;obtain⟨ad,cd,rfl⟩:=i7 WE;clear rC qa NL Cd SC Ae GB;have abE:=World.ownsRow.kept HW.out.tJ Ed acl;have zt:w3.heap[bw]? =some (.cells #[lv,.slice ab k cb,vs] 85 (0,0)):=by rw[Ed.block bw Wj (fun e=>aaT e.symm)];exact HW.out.i_
   have rE:w3.cell? ⟨bw,1,none⟩= some (.slice ab k cb):=by simp[aX,zt]
   go_wp2_with (at_builtin;refine qO rfl _ _ 40 rfl base 44 j0 (aj none 0 0) 1 24 underlying40 hj KR Pw Q1 rfl (by decide) (.slice ab k cb) k iq rfl (abE.alloc _) ⟨w3.heap.size,0,none⟩ 4 4 [.slice ao j cap,.slice aa (j+1) ca,.slice ac (j+2) cc,.slice ad (j+3) cd] rfl rfl (iZ w3 44 [.slice ao j cap,.slice aa (j+1) ca,.slice ac (j+2) cc,.slice ad (j+3) cd] (by simp[maxLen])) (by simp[bK]) (by unfold maxLen;omega) (by omega) (by simp;omega) ?_;intro v4 w4 ki Fp hn4;refine Hid.out ?_);refine gE ?_;have HN4:=gE hn4;clear hn4;obtain⟨BB,m_,yr⟩:=Gc HW.out HXX.out hn Ed (fun g hg=>xw HV.out hg) HSp.out Pg SD tR WE ki Fp;have ud:w4.cell? ⟨bw,1,none⟩= some (.slice ab k cb):=by simp[aX,BB]
   have hf4:w4.frozen? ⟨bw,1,none⟩= false:=frozen_of_row w4 bw 1 _ _ BB;obtain⟨a4,c4,rfl⟩:=i7 ki;have HI:=gE m_;have HL:=gE yr;clear ki Fp BB m_ yr Pg SD tR WE abE zt rE jJ;go_wp2_with fail
   go_end0
   refine⟨rfl,⟨_,_,HI.out,fun u hu=>?_,HN4.out.of (cw HZ4.out (by simp))⟩,HL.out⟩;have kS:=HZ1.out;have ln:=TQ.out;have JK:=QK.out;simp only[List.mem_cons,List.not_mem_nil,or_false]at hu;rcases hu with rfl|rfl|rfl|rfl
   ·exact a_ rfl
   ·exact HN1.out.of (cw kS (by simp))
   ·exact It.out.of (cw ln (by simp))
   ·exact HN3.out.of (cw JK (by simp))
def N3(f:Nat->Value)(n:Nat):List Value:=(List.range n).map f
theorem sL(f:Nat->Value)(n:Nat):(N3 f n).length=n:=by simp[N3]
theorem GX(f:Nat->Value)(n j:Nat):(N3 f n)[j]? =if j<n then some (f j) else none:=by
 unfold N3;rw[List.getElem?_map];by_cases h:j<n
 ·rw[if_pos h,List.getElem?_range h];rfl
 ·rw[if_neg h,bj (by simp;omega)];rfl
theorem Ty{cur:List Value}{f:Nat->Value}{news:List Value}(pz:N3 f n++news=N3 f (n+m))(hn:cur.take n=N3 f n)(hk:cur.take k=N3 f k):
  (cur.take n++news++cur.drop (n+m)).take k=N3 f k:=by
 apply List.ext_getElem?
 intro j;rw[List.getElem?_take,GX,hn,pz];by_cases hj:j<k
 ·rw[if_pos hj,if_pos hj];by_cases h1:j<n+m
  ·rw[aw (by rw[sL];exact h1),GX,if_pos h1]
  ·rw[aF (by rw[sL];omega),List.getElem?_drop,sL];rw[show n+m+(j-(n+m))=j from by omega];have:(cur.take k)[j]? =some (f j):=by rw[hk,GX,if_pos hj]
   rw[List.getElem?_take,if_pos hj]at this;exact this
 ·rw[if_neg hj,if_neg hj]
def Dd(k:Nat)(j:Nat):Value:=if j%2=0 then af ag (nA k) else aj none 0 0
theorem qG(n k:Nat):g_ (iH n k)=N3 (Dd k) (n*2):=by
 apply List.ext_getElem?
 intro j;have hl:(g_ (iH n k)).length=n*2:=by rw[nL];simp[iH]
 rw[GX];by_cases h:j<n*2
 ·rw[if_pos h]
  have h1:(iH n k)[j/2]? =some (nA k,aj none 0 0):=by
   unfold iH;rw[aA,if_pos (by omega)]
  obtain⟨e1,e2⟩:=qn h1;unfold Dd;by_cases h2:j%2=0
  ·rw[if_pos h2,<-e1]
   congr 1
   omega
  ·rw[if_neg h2,<-e2]
   congr 1
   omega
 ·rw[if_neg h,bj (by omega)]
theorem FA(n m k:Nat):g_ (iH n k)++g_ (iH m k)=g_ (iH (n+m) k):=by
 unfold g_ iH;rw[<-List.flatMap_append,eC]
section
variable {P:Program}
theorem AX(w:World)(base:Nat)(t ty e:TypeId)(i:TypeInfo)(z:Value)(bytes:Nat)(ht:P.underlying t=some (.slice e))(hi:P.info? e=some i)(hz:i.zero=some z)
  (nI:i.size=2) (rm:i.bytes=bytes) (Fv:z.cells.size=2) (q:Nat) (v:Value) (n:Nat) (gY:w.ownsRow base e 2 v n (g_ (iH n q)))
  (a:Addr) (m c:Nat) (pz:∀(j:Nat) u,(g_ (iH m q))[j]? =some u->w.cell? (a.add j)=some u) (Fj:n+m<=maxLen) (nG:(n+m)*bytes<=140737488355328) (lE:base<=w.heap.size):
  ∃v' w',(Builtin.append_ #[t,t] ty #[v,aj (some a) m c]).run P w=.ok v' w'/\w'.ownsRow base e 2 v' (n+m) (g_ (iH (n+m) q))/\w.grownBy w' v.ownBlock/\(∀b' u k,w.ownsRow b' e 2 u k (g_ (iH k q))->w'.ownsRow b' e 2 u k (g_ (iH k q))):=by
 have vh:∀u∈g_ (iH m q),u.oneCell'=true:=by
  intro u hu;rw[qG]at hu;obtain⟨j,_,rfl⟩:=List.mem_map.1 hu;unfold Dd
  split<;>rfl
 have B_:(g_ (iH m q)).length=m*2:=by rw[nL];simp[iH]
 have i8:∀n,(g_ (iH n q)).length=n*2:=fun n=>by rw[nL];simp[iH]
 rcases id gY.2 with⟨rfl,rfl⟩|⟨g,cap,cur,rfl,hbg,hg,s_,nN,lF,C_⟩
 ·obtain⟨v',w',hr,h1,h2,_⟩:=run_append_own (P:=P) w base t ty e i z 2 bytes ht hi hz nI rm Fv (by decide) (aj none 0 0) 0 [] (aq w _ e 2) a m c (g_ (iH m q)) B_ pz vh Fj nG lE;exact⟨v',w',hr,by simpa using h1,h2,fun b' u k hu=>World.ownsRow.kept hu h2 (by cases u.ownBlock<;>simp[ax])⟩
 ·by_cases mJ:n+m<=cap
  ·have hr:=run_append_room (P:=P) w t ty e i ht hi g n cap cur hg a m c (g_ (iH m q)) (by rw[B_,nI]) pz vh mJ (by rw[B_,nI,lF];omega);rw[nI,B_]at hr;rw[qG]at C_
   have abp:N3 (Dd q) (n*2)++g_ (iH m q)=N3 (Dd q) (n*2+m*2):=by
    rw[<-qG,FA,qG,Nat.add_mul]
   have ku:(cur.toList.take (n*2)++g_ (iH m q)++cur.toList.drop (n*2+m*2)).toArray.size=cur.size:=by
    simp only[List.size_toArray,List.length_append,List.length_take,B_,List.length_drop,Array.length_toList];omega
   have Ag:∀b' cu k,b'<=g->k<=cu->cu<=maxLen->cur.size=cu*2->cur.toList.take (k*2)=N3 (Dd q) (k*2)->(w.setRow g (cur.toList.take (n*2)++g_ (iH m q)++cur.toList.drop (n*2+m*2)).toArray).ownsRow b' e 2 (aj (some ⟨g,0,none⟩) k cu) k (g_ (iH k q)):=by
    intro b' cu k DT hk Wo hs ht';refine⟨i8 k,.inr ⟨g,cu,_,rfl,DT,setRow_heap w g cur _ e _ hg,hk,Wo,by rw[ku];omega,?_⟩⟩;exact(Ty abp C_ ht').trans (qG k q).symm
   refine⟨_,_,hr,?_,⟨rfl,rfl,rfl,by simp[World.setRow],fun k _ hk=>setRow_other w g k _ (fun e=>hk (by simp[e,ax]))⟩,?_⟩
   ·refine⟨i8 _,.inr ⟨g,cap,_,rfl,hbg,setRow_heap w g cur _ e _ hg,mJ,nN,by rw[ku];omega,?_⟩⟩;have e1:(n+m)*2=n*2+m*2:=Nat.add_mul _ _ _;rw[qG (n+m),e1,C_,abp];show List.take (n*2+m*2) (N3 (Dd q) (n*2+m*2)++_)=_;rw[List.take_append_of_le_length (by rw[sL];exact ay _),bL (by rw[sL];exact ay _)]
   ·intro b' u k hu;rcases id hu.2 with⟨rfl,rfl⟩|⟨g',n_,Lt,rfl,R4,U_,Pp,O8,U7,yw⟩
    ·exact aq _ _ _ _
    ·by_cases Il:g'=g
     ·subst Il;rw[hg]at U_;simp only[Option.some.injEq,Obj.cells.injEq]at U_;obtain⟨rfl,_⟩:=U_;rw[qG]at yw;exact Ag b' n_ k R4 Pp O8 U7 yw
     ·exact⟨i8 k,.inr ⟨g',n_,Lt,rfl,R4,by rw[setRow_other w g g' _ Il];exact U_,Pp,O8,by omega,yw⟩⟩
  ·obtain⟨v',w',hr,h1,h2⟩:=run_append_arg_grows (P:=P) w t ty e i z 2 bytes ht hi hz nI rm Fv (by decide) ⟨g,0,none⟩ n cap (g_ (iH n q)) (i8 n) (gY.cells rfl) a m c (g_ (iH m q)) B_ pz (by omega) Fj nG;rw[FA]at h1;exact⟨v',w',hr,iE h1 lE,⟨h2.os,h2.tape,h2.output,h2.size,fun k hk _=>h2.block k hk (by simp)⟩,fun b' u k hu=>World.ownsRow.kept hu h2 (by cases u.ownBlock<;>simp)⟩
theorem pn{w:World}{lZ:Array Oper}{rest:List Oper}{o:Oper}{a:Act}{Q:Exit->Act->World->Prop}(sJ:o.guard=none)(s y:Operand)(t:TypeId)
  (ho:o.op=.call {callee:=.builtin .append,args:=#[s,y],argTypes:=#[t,t]})
  (base:Nat) (e:TypeId) (i:TypeInfo) (z:Value) (bytes:Nat) (ht:P.underlying t=some (.slice e)) (hi:P.info? e=some i) (hz:i.zero=some z)
  (nI:i.size=2) (rm:i.bytes=bytes) (Fv:z.cells.size=2) (q:Nat) (v:Value) (n:Nat) (hs:a.eval s=v) (gY:w.ownsRow base e 2 v n (g_ (iH n q)))
  (ad:Addr) (m c:Nat) (hy:a.eval y=aj (some ad) m c) (pz:∀(j:Nat) u,(g_ (iH m q))[j]? =some u->w.cell? (ad.add j)=some u) (Fj:n+m<=maxLen) (nG:(n+m)*bytes<=140737488355328) (lE:base<=w.heap.size)
  (h:∀v' w',w'.ownsRow base e 2 v' (n+m) (g_ (iH (n+m) q))->w.grownBy w' v.ownBlock->(∀b' u k,w.ownsRow b' e 2 u k (g_ (iH k q))->w'.ownsRow b' e 2 u k (g_ (iH k q)))->wpList P lZ Q rest (a.put o.dst v') w'):wpList P lZ Q (o::rest) a w:=by
 refine wpList_plain sJ fun K hK=>?_
 obtain⟨v',w',kk,h1,h2,h3⟩:=AX (P:=P) w base t o.type e i z bytes ht hi hz nI rm Fv q v n gY ad m c pz Fj nG lE;unfold Oper.wp;simp[execOp,ho,resolve,invoke,builtin,hs,hy,kk,aG];exact hK _ _ (h v' w' h1 h2 h3)
end
theorem WL.aay(h:WL w base bw lv vb vs k m iq gX)(hu:iq[i]? =some u):∃n au cu,n<=1000003/\u=.slice au n cu/\∀j,j<n->∃g,au=some ⟨g,0,none⟩/\w.cell? ⟨g,j,none⟩= some (.int .u8 (vR i)):=by
 rcases h.Lf i u hu with⟨a,c,rfl⟩|⟨n,h0,hn,hr⟩
 ·exact⟨0,a,c,by omega,rfl,fun j hj=>absurd hj (Nat.not_lt_zero _)⟩
 ·obtain⟨g,c,rfl,_,_,_⟩:=jP hr h0;refine⟨n,_,c,hn,rfl,fun j hj=>⟨g,rfl,?_⟩⟩;have O7:=hr.cellAt j (by omega);rw[aA,if_pos hj]at O7;exact O7
theorem WL.abY(h:WL w base bw lv vb vs k m iq gX)(hu:gX[i]? =some u):∃n au cu,n<=1003/\u=.slice au n cu/\∀j,j<n->∃g,au=some ⟨g,0,none⟩/\w.cell? ⟨g,j*2,none⟩= some (af ag (nA i))/\w.cell? ⟨g,j*2+1,none⟩= some (aj none 0 0):=by
 rcases h.MW i u hu with⟨a,c,rfl⟩|⟨n,h0,hn,hr⟩
 ·exact⟨0,a,c,by omega,rfl,fun j hj=>absurd hj (Nat.not_lt_zero _)⟩
 ·obtain⟨_,⟨_,h1⟩|⟨g,c,cur,rfl,_,hg,lF,_⟩⟩:=id hr
  ·omega
  refine⟨n,_,c,hn,rfl,fun j hj=>⟨g,rfl,?_⟩⟩
  have h1:(iH n i)[j]? =some (nA i,aj none 0 0):=by
   unfold iH;rw[aA,if_pos hj]
  obtain⟨e1,e2⟩:=qn h1;have c1:=hr.cellAt (j*2) (by omega);have c2:=hr.cellAt (j*2+1) (by omega);rw[e1]at c1;rw[e2]at c2;exact⟨c1,c2⟩
theorem Mg(base bw K M:Nat)(lv vb vs:Value)(iq gX:List Value)(w:World)(hw:WL w base bw lv vb vs K M iq gX)(hK:K<=5000000000000)(hM:M<=5000000000000):
  Calls ae 36 #[ai (some ⟨bw,0,none⟩)] w fun e w'=>e=.returned (.bool true)/\w=w':=by
 obtain⟨ab,cb,WP⟩:=i7 hw.tJ;subst WP;obtain⟨TR,TT,sW⟩:=i7 hw.xf;subst sW;have km:w.cell? ⟨bw,1,none⟩= some (.slice ab K cb):=by simp[aX,hw.i_]
 have nr:w.cell? ⟨bw,2,none⟩= some (.slice TR M TT):=by simp[aX,hw.i_]
 have HW:=gE hw
 have Ef:∀W,Sem.run ae (binOp BinOp.neq 44 (aj none 0 0) (aj none 0 0)) W=.ok (.bool false) W:=by
  intro W
  rfl
 clear hw;go_enter func36,ntmps36
 go_wp2
 go_loop [3] (fun i=>∃k:Nat,k<=K/\i=af ag k) (fun i=>K-(intOf i).toNat)
 case atStart=>exact⟨0,aI _,rfl⟩
 case round=>
  obtain⟨k,hk,rfl⟩:=hrel;by_cases jp:k<K
  ·have WP:=HW.out.tJ;obtain⟨gb,OE,e1,_,_,_⟩:=jP WP (by omega);simp only[Value.slice.injEq]at e1;obtain⟨rfl,_,rfl⟩:=e1;have Ft:iq.length=K:=by simpa using WP.1
   have CY:=WP.cellAt k (by omega);rw[am (by omega)]at CY;obtain⟨n,au,cu,hn,e2,kE⟩:=HW.out.aay (i:=k) (u:=iq[k]) (am (by omega));rw[e2]at CY;have Xy:=gE kE;clear Ft kE WP e2
   go_wp2
   go_loop [4] (fun i=>∃j:Nat,j<=n/\i=af ag j) (fun i=>n-(intOf i).toNat)
   case atStart=>exact⟨0,aI _,rfl⟩
   case round=>
    obtain⟨j,hj,rfl⟩:=hrel;by_cases Ww:j<n
    ·obtain⟨gu,rfl,O7⟩:=Xy.out j Ww;unfold vR at O7
     go_wp2
     go_round
     case rel=>exact⟨j+1,by omega,by go_num⟩
     case measure=>simp[intOf];omega
    ·obtain rfl:j=n:=by omega
     go_wp2
     go_round
     case rel=>exact⟨k+1,by omega,by go_num⟩
     case measure=>simp[intOf];omega
  ·obtain rfl:k=K:=by omega
   go_wp2
   go_loop [5] (fun i=>∃q:Nat,q<=M/\i=af ag q) (fun i=>M-(intOf i).toNat)
   case atStart=>exact⟨0,aI _,rfl⟩
   case round=>
    obtain⟨q,hq,rfl⟩:=hrel;by_cases jp:q<M
    ·have sW:=HW.out.xf;obtain⟨gs,cs',e1,_,_,_⟩:=jP sW (by omega);simp only[Value.slice.injEq]at e1;obtain⟨rfl,_,rfl⟩:=e1;have Ft:gX.length=M:=by simpa using sW.1
     have CY:=sW.cellAt q (by omega);rw[am (by omega)]at CY;obtain⟨n,au,cu,hn,e2,kE⟩:=HW.out.abY (i:=q) (u:=gX[q]) (am (by omega));rw[e2]at CY;have Xy:=gE kE;clear Ft kE sW e2
     go_wp2
     go_loop [6] (fun i=>∃j:Nat,j<=n/\i=af ag j) (fun i=>n-(intOf i).toNat)
     case atStart=>exact⟨0,aI _,rfl⟩
     case round=>
      obtain⟨j,hj,rfl⟩:=hrel;by_cases Ww:j<n
      ·obtain⟨gu,rfl,O7,hcn⟩:=Xy.out j Ww;unfold nA at O7
       go_wp2
       go_round
       case rel=>exact⟨j+1,by omega,by go_num⟩
       case measure=>simp[intOf];omega
      ·obtain rfl:j=n:=by omega
       go_wp2
       go_round
       case rel=>exact⟨q+1,by omega,by go_num⟩
       case measure=>simp[intOf];omega
    ·obtain rfl:q=M:=by omega
     go_wp2
     go_ret;exact⟨rfl,rfl⟩
theorem Mj(h:k%4=0)(hj:j<4):nA (k+j)=nA k:=by
 unfold nA;omega
theorem vr(n:Nat)(h:k%4=0)(hj:j<4):iH n (k+j)=iH n k:=by
 unfold iH;rw[Mj h hj]
theorem Am.yB(h:WL w base bw lv vb vs k m iq gX)(hu:gX[i]? =some u)(h1:Am w1 base u i):Am w base u i:=by
 rcases h.MW i u hu with⟨a,c,rfl⟩|h0
 ·obtain⟨n,hn,_,hr⟩:=h1;obtain⟨a',c',e⟩:=iA hr;simp only[Value.slice.injEq]at e;omega
 ·exact h0
theorem xA.yB(h:WL w base bw lv vb vs k m iq gX)(hu:iq[i]? =some u)(h1:xA w1 base u i):xA w base u i:=by
 rcases h.Lf i u hu with⟨a,c,rfl⟩|h0
 ·obtain⟨n,hn,_,hr⟩:=h1;obtain⟨a',c',e⟩:=iA hr;simp only[Value.slice.injEq]at e;omega
 ·exact h0
theorem Mk(hw:WL w base bw lv vb vs k m iq gX)(hj:j<=1000)(qa:w.grownBy w3 v.ownBlock)(hvt:∀g,v.ownBlock=some g->∃cur,w.heap[g]? =some (.cells cur 60 (0,0)))(JE:∀(i:Nat) u g,gX[i]? =some u->Am w base u i->v.ownBlock=some g->u.ownBlock≠some g)
  (h1:w3.ownsRow base 60 2 l1 j (g_ (iH j m))) (h2:w3.ownsRow base 60 2 l2 (j+1) (g_ (iH (j+1) m))) (h3:w3.ownsRow base 60 2 l3 (j+2) (g_ (iH (j+2) m))) (h4:w3.ownsRow base 60 2 l4 (j+3) (g_ (iH (j+3) m)))
  (ki:w4.ownsRow base 47 1 v4 (m+4) (gX++[l1,l2,l3,l4])) (Fp:(w3.alloc (.cells #[l1,l2,l3,l4] 47)).grownBy w4 vs.ownBlock):
  w4.heap[bw]? =some (.cells #[lv,vb,vs] 85 (0,0))/\WL (w4.setCell ⟨bw,2,none⟩ v4) base bw lv vb v4 k (m+4) iq (gX++[l1,l2,l3,l4])/\ip (fun q=>q=bw\/vs.ownBlock=some q\/v.ownBlock=some q) w (w4.setCell ⟨bw,2,none⟩ v4):=by
 have rE:ip (fun q=>v.ownBlock=some q) w w3:=⟨qa.os,qa.tape,qa.output,qa.size,fun q hq hn=>qa.block q hq (fun e=>hn e.symm)⟩
 have QV:∀q cur e fr,w.heap[q]? =some (.cells cur e fr)->e≠60->¬v.ownBlock=some q:=by
  intro q cur e fr hq he hv;obtain⟨c,e2⟩:=hvt q hv;rw[hq]at e2;simp only[Option.some.injEq,Obj.cells.injEq]at e2;exact he e2.2.1
 have vQ:WL w3 base bw lv vb vs k m iq gX:=by
  refine hw.iO rE (QV _ _ _ _ hw.i_ (by decide)) (fun g hg=>?_) (fun g hg=>?_) (fun i u g hu h0 hg=>?_) (fun i u g hu h0 hg hv=>JE i u g hu h0 hv hg)
  ·obtain⟨c,e⟩:=ii hw.tJ hg;exact QV _ _ _ _ e (by decide)
  ·obtain⟨c,e⟩:=ii hw.xf hg;exact QV _ _ _ _ e (by decide)
  ·obtain⟨n,_,_,hr⟩:=h0;obtain⟨c,e⟩:=ii hr hg;exact QV _ _ _ _ e (by decide)
 have wL:w3.grownBy w4 vs.ownBlock:=gU Fp;have ud:ip (fun q=>vs.ownBlock=some q) w3 w4:=⟨wL.os,wL.tape,wL.output,wL.size,fun q hq hn=>wL.block q hq (fun e=>hn e.symm)⟩;have B8:∀q cur e fr,w3.heap[q]? =some (.cells cur e fr)->e≠47->¬vs.ownBlock=some q:=fun q cur e fr hq he hv=>gO vQ.xf hq (fun e1=>he e1.symm) hv
 have BB:w4.heap[bw]? =some (.cells #[lv,vb,vs] 85 (0,0)):=by
  rw[ud.block bw (aO.1 vQ.i_).1 (B8 _ _ _ _ vQ.i_ (by decide))];exact vQ.i_
 have Fk:ip (· = bw) w4 (w4.setCell ⟨bw,2,none⟩ v4):=iu (Below.refl _ _) 2 _
 have Jw:∀q cur e fr,w4.heap[q]? =some (.cells cur e fr)->e≠85->¬q=bw:=by
  intro q cur e fr hq he e1;rw[e1,BB]at hq;simp only[Option.some.injEq,Obj.cells.injEq]at hq;exact he hq.2.1.symm
 have sK:∀{u:Value} {n sz:Nat} {e:TypeId} {l:List Value},w3.ownsRow base e sz u n l->e≠47->e≠85->(w4.setCell ⟨bw,2,none⟩ v4).ownsRow base e sz u n l:=by
  intro u n sz e l hr he1 X6;have r4:=jy hr ud (fun q cur fr hq=>B8 q cur _ fr hq he1);exact jy r4 Fk (fun q cur fr hq=>Jw q cur _ fr hq X6)
 have Ft:gX.length=m:=by simpa using hw.xf.1
 have hm4:=hw.m4;refine⟨BB,⟨?_,hw.k4,by omega,sK vQ.tJ (by decide) (by decide),jy ki Fk (fun q cur fr hq=>Jw q cur _ fr hq (by decide)),fun i u hu=>?_,fun i u hu=>?_⟩,?_⟩
 ·rw[gQ BB 2 v4];rfl
 ·rcases vQ.Lf i u hu with h0|⟨n,NP,hn,hr⟩
  ·exact a_ h0
  ·exact aV ⟨n,NP,hn,sK hr (by decide) (by decide)⟩
 ·rcases aD i m with Sj|Sj
  ·rw[aw (by omega)]at hu;rcases vQ.MW i u hu with h0|⟨n,NP,hn,hr⟩
   ·exact a_ h0
   ·exact aV ⟨n,NP,hn,sK hr (by decide) (by decide)⟩
  ·rw[aF (by omega),Ft]at hu;obtain⟨q,rfl⟩:∃q,i=m+q:=⟨i-m,by omega⟩;rw[bU]at hu
   match q,hu with
   |0,hu=>
    simp at hu;subst hu;rcases Nat.eq_zero_or_pos j with h0|h0
    ·obtain⟨a1,c1,e1⟩:=iA h1;exact a_ ⟨a1,c1,by rw[e1,h0]⟩
    ·exact aV ⟨j,h0,by omega,sK h1 (by decide) (by decide)⟩
   |1,hu=>simp at hu;subst hu;exact aV ⟨j+1,by omega,by omega,by rw[vr _ hm4 (by decide)];exact sK h2 (by decide) (by decide)⟩
   |2,hu=>simp at hu;subst hu;exact aV ⟨j+2,by omega,by omega,by rw[vr _ hm4 (by decide)];exact sK h3 (by decide) (by decide)⟩
   |3,hu=>simp at hu;subst hu;exact aV ⟨j+3,by omega,by omega,by rw[vr _ hm4 (by decide)];exact sK h4 (by decide) (by decide)⟩
   |q+4,hu=>simp at hu
 ·exact((rE.mono fun q _ h=>aV (aV h)).trans (ud.mono fun q _ h=>aV (a_ h))).trans (Fk.mono fun q _ h=>a_ h)
def Ak(bw:Nat)(vb vs v:Value)(out:List (Int×Value))(q:Nat):Prop:=q=bw\/vb.ownBlock=some q\/vs.ownBlock=some q\/v.ownBlock=some q\/∃(i:Nat) (x:Int×Value),out[i]? =some x/\x.2.ownBlock=some q
structure vI(w:World)(base bw bx k m:Nat)(lv vb vs v:Value)(iq gX:List Value)(out:List (Int×Value))(gN:List (Int×List Int))(j:Nat)(KS:Value)(add:List Value)(wr:World):Prop where
 wl:WL wr base bw lv KS vs (k+4*j) m (iq++add) gX
 row:wr.ownsRow base 60 2 v out.length (g_ (iH j m++out.drop j))
 rest:∀(i:Nat) x y,j<=i->out[i]? =some x->gN[i]? =some y->wr.ownsRow base 5 1 x.2 y.2.length (U8 y.2)
 box:wr.heap[bx]? =some (.cells #[af ag (nA m),aj none 0 0] 60 (0,0))
 add:∀u∈add,(∃(i:Nat) (x:Int×Value),i<j/\out[i]? =some x/\u.ownBlock=x.2.ownBlock)\/∀g,u.ownBlock=some g->w.heap.size<=g
 Y0:Bu w vb KS
 iO:ip (Ak bw vb vs v out) w wr
theorem MP{out:List (Int×Value)}(hj:j<out.length):((g_ (iH j m++out.drop j)).set (j*2) (af ag (nA m))).set (j*2+1) (aj none 0 0)=g_ (iH (j+1) m++out.drop (j+1)):=by
 rw[List.drop_eq_getElem_cons hj]
 have e1:iH (j+1) m=iH j m++[(nA m,aj none 0 0)]:=by
  unfold iH;rw[<-eC]
  rfl
 rw[e1,mu,mu,mu,List.append_assoc];have hl:(g_ (iH j m)).length=j*2:=by rw[nL];simp[iH]
 rw[aZ _ _ (by omega),aZ _ _ (by omega),hl]
 congr 1
 rw[show j*2-j*2=0 by omega,show j*2+1-j*2=1 by omega];generalize out[j]=a;generalize out.drop (j+1)=r;simp[g_]
theorem vI.JE{out:List (Int×Value)}(h:vI w base bw bx k m lv vb vs v iq gX out gN j KS add wr)(hw:WL w base bw lv vb vs k m iq gX)(hO:mV w base out gN)(xF:∀(i:Nat) u (j:Nat) x g,iq[i]? =some u->xA w base u i->out[j]? =some x->x.2.ownBlock=some g->u.ownBlock≠some g)(hx:out[j]? =some x):
  ∀(i:Nat) u g,(iq++add)[i]? =some u->xA wr base u i->x.2.ownBlock=some g->u.ownBlock≠some g:=by
 intro i u g hu hb hg;rcases aD i iq.length with hi|hi
 ·rw[aw hi]at hu;exact xF i u j x g hu (xA.yB hw hu hb) hx hg
 ·rw[aF hi]at hu;intro he;rcases h.add u (bT hu) with⟨i',x',hi',NU,e⟩|hf
  ·exact hO.2.2 i' j x' x g (by omega) NU hx (by rw[<-e];exact he) hg
  ·have h1:=hf g he;obtain⟨y,hy⟩:∃y,gN[j]? =some y:=⟨_,am (by rw[<-hO.1];exact(bm.1 hx).1)⟩;obtain⟨c,e⟩:=ii (hO.2.1 j x y hx hy).2 hg;have:=(aO.1 e).1;omega
theorem vI.start{out:List (Int×Value)}(hw:WL w base bw lv vb vs k m iq gX)(hv:w.ownsRow base 60 2 v out.length (g_ out))(hO:mV w base out gN)(hb:Below w.heap.size w wr)(hx:wr.heap[w.heap.size]? =some (.cells #[af ag (nA m),aj none 0 0] 60 (0,0))):vI w base bw w.heap.size k m lv vb vs v iq gX out gN 0 vb [] wr where
 wl:=by simpa using hw.below hb
 row:=by simpa[iH] using jg hv (ip.gS (F:=fun _=>False) hb) (fun _ _ h=>h)
 rest:=fun i x y _ hx hy=>jg (hO.2.1 i x y hx hy).2 (ip.gS (F:=fun _=>False) hb) (fun _ _ h=>h)
 box:=hx
 add:=fun u hu=>by simp at hu
 Y0:=a_ rfl
 iO:=ip.gS hb
theorem vI.WW{out:List (Int×Value)}(h:vI w base bw bx k m lv vb vs v iq gX out gN j KS add wr)(hO:mV w base out gN)(hx:out[j]? =some x)(hc:ip (fun q=>q=bw\/KS.ownBlock=some q\/x.2.ownBlock=some q) wr w1):
  w1.ownsRow base 60 2 v out.length (g_ (iH j m++out.drop j))/\w1.heap[bx]? =some (.cells #[af ag (nA m),aj none 0 0] 60 (0,0))/\∀(i:Nat) x y,j+1<=i->out[i]? =some x->gN[i]? =some y->w1.ownsRow base 5 1 x.2 y.2.length (U8 y.2):=by
 obtain⟨y,hy⟩:∃y,gN[j]? =some y:=⟨_,am (by rw[<-hO.1];exact(bm.1 hx).1)⟩;have hr:=h.rest j x y (ay _) hx hy
 have yV:∀q cur e fr,wr.heap[q]? =some (.cells cur e fr)->e≠85->¬q=bw:=by
  intro q cur e fr hq he e1;rw[e1,h.wl.i_]at hq;simp only[Option.some.injEq,Obj.cells.injEq]at hq;exact he hq.2.1.symm
 refine⟨jy h.row hc ?_,?_,fun i x2 y2 hi NV Q1=>jg (h.rest i x2 y2 (by omega) NV Q1) hc ?_⟩
 ·rintro q cur fr hq (e1|e1|e1)
  ·exact yV _ _ _ _ hq (by decide) e1
  ·exact gO h.wl.tJ hq (by decide) e1
  ·exact gO hr hq (by decide) e1
 ·rw[hc.block bx (aO.1 h.box).1 ?_]
  ·exact h.box
  ·rintro(e1|e1|e1)
   ·exact yV _ _ _ _ h.box (by decide) e1
   ·exact gO h.wl.tJ h.box (by decide) e1
   ·exact gO hr h.box (by decide) e1
 ·rintro g hg (e1|e1|e1)
  ·obtain⟨c,e⟩:=ii (h.rest i x2 y2 (by omega) NV Q1) hg;exact yV _ _ _ _ e (by decide) e1
  ·obtain⟨c,e⟩:=ii (h.rest i x2 y2 (by omega) NV Q1) hg;exact gO h.wl.tJ e (by decide) e1
  ·exact hO.2.2 i j x2 x g (by omega) NV hx hg e1
theorem ip.andThen{F G:Nat->Prop}{a b c:World}(h:ip F a b)(k:ip G b c)(hg:∀q,q<a.heap.size->G q->F q):ip F a c:=
 ⟨k.os.trans h.os,k.tape.trans h.tape,k.output.trans h.output,cw h.size k.size,fun i hi hn=>(k.block i (Nat.lt_of_lt_of_le hi h.size) (fun e=>hn (hg i hi e))).trans (h.block i hi hn)⟩
theorem vI.next{out:List (Int×Value)}{cap:Nat}{vb1:Value}{new:List Value}(h:vI w base bw w.heap.size k m lv vb vs (aj (some ⟨g,0,none⟩) out.length cap) iq gX out gN j KS add wr)(hw:WL w base bw lv vb vs k m iq gX)(hg:g<w.heap.size)(hss:∀(i:Nat) u q,gX[i]? =some u->Am w base u i->(cX (some ⟨g,0,none⟩) out.length cap).ownBlock=some q->u.ownBlock≠some q)(hO:mV w base out gN)(hx:out[j]? =some x)(hc:ip (fun q=>q=bw\/KS.ownBlock=some q\/x.2.ownBlock=some q) wr w1)
  (sk:WL w1 base bw lv vb1 vs (k+4*j+4) m ((iq++add)++new) gX) (C5:∀u∈new,Bu wr x.2 u) (NQ:Bu wr KS vb1):
  vI w base bw w.heap.size k m lv vb vs (aj (some ⟨g,0,none⟩) out.length cap) iq gX out gN (j+1) vb1 (add++new) ((w1.setCell ⟨g,j*2,none⟩ (af ag (nA m))).setCell ⟨g,j*2+1,none⟩ (aj none 0 0)):=by
 obtain⟨kE,aaU,WF⟩:=h.WW hO hx hc;have hj:j<out.length:=(bm.1 hx).1;have r1:=(kE.stored (j*2) (af ag (nA m))).1;have r2:=(r1.stored (j*2+1) (aj none 0 0)).1;rw[MP hj]at r2;have nr:ip (· = g) w1 ((w1.setCell ⟨g,j*2,none⟩ (af ag (nA m))).setCell ⟨g,j*2+1,none⟩ (aj none 0 0)):=(iu (Below.refl _ _) _ _).trans (iu (Below.refl _ _) _ _);have Sh:∃cur,w1.heap[g]? =some (.cells cur 60 (0,0)):=ii kE rfl;obtain⟨cur,Sh⟩:=Sh
 have hng:∀q cur e fr,w1.heap[q]? =some (.cells cur e fr)->e≠60->¬q=g:=by
  intro q cur e fr hq he e1;rw[e1,Sh]at hq;simp only[Option.some.injEq,Obj.cells.injEq]at hq;exact he hq.2.1.symm
 have ku:=h.iO.size;refine⟨?_,r2,fun i x2 y2 hi NV Q1=>jy (WF i x2 y2 hi NV Q1) nr (fun q cur fr hq=>hng q cur _ fr hq (by decide)),?_,?_,?_,?_⟩
 ·rw[show k+4*(j+1)=k+4*j+4 by omega,<-List.append_assoc];refine sk.iO nr (hng _ _ _ _ sk.i_ (by decide)) (fun q hq=>?_) (fun q hq=>?_) (fun i u q hu h0 hq=>?_) (fun i u q hu h0 hq=>?_)
  ·obtain⟨c,e⟩:=ii sk.tJ hq;exact hng _ _ _ _ e (by decide)
  ·obtain⟨c,e⟩:=ii sk.xf hq;exact hng _ _ _ _ e (by decide)
  ·obtain⟨n,_,_,hr⟩:=h0;obtain⟨c,e⟩:=ii hr hq;exact hng _ _ _ _ e (by decide)
  ·rintro rfl;exact hss i u q hu (Am.yB hw hu h0) rfl hq
 ·rw[nr.block _ (aO.1 aaU).1 (by omega)];exact aaU
 ·intro u hu;rcases List.mem_append.1 hu with hu|hu
  ·rcases h.add u hu with⟨i,x',hi,NU,e⟩|hf
   ·exact a_ ⟨i,x',by omega,NU,e⟩
   ·exact aV hf
  ·rcases C5 u hu with e|hf
   ·exact a_ ⟨j,x,by omega,hx,e⟩
   ·exact aV fun q hq=>cw ku (hf q hq)
 ·rcases NQ with e|hf
  ·rcases h.Y0 with e2|h2
   ·exact a_ (e.trans e2)
   ·exact aV fun q hq=>h2 q (by rw[<-e];exact hq)
  ·exact aV fun q hq=>cw ku (hf q hq)
 ·refine(h.iO.andThen hc ?_).andThen nr ?_
  ·rintro q hq (e|e|e)
   ·exact a_ e
   ·rcases h.Y0 with e2|h2
    ·exact aV (a_ (by rw[<-e2];exact e))
    ·have:=h2 q e;omega
   ·exact aV (aV (aV (aV ⟨j,x,hx,e⟩)))
  ·rintro q hq rfl;exact aV (aV (aV (a_ rfl)))
theorem L8:(ae.info? 47).map (fun i=>(i.zero,i.size,i.bytes))=some (some (aj none 0 0),1,24):=by kernel_rfl
theorem JU(base bw k m:Nat)(lv vb vs v:Value)(iq gX:List Value)(out:List (Int×Value))(gN:List (Int×List Int))(w:World)(hw:WL w base bw lv vb vs k m iq gX)(lE:base<=w.heap.size)(hv:w.ownsRow base 60 2 v out.length (g_ out))(hO:mV w base out gN)(xF:∀(i:Nat) u (j:Nat) x g,iq[i]? =some u->xA w base u i->out[j]? =some x->x.2.ownBlock=some g->u.ownBlock≠some g)(hss:∀(i:Nat) u g,gX[i]? =some u->Am w base u i->v.ownBlock=some g->u.ownBlock≠some g)(hn:out.length<=1000)(hl:∀(i:Nat) (y:Int×List Int),gN[i]? =some y->y.2.length<=1000000)(hk:k<=4000000000000)(hm:m<=4000000000000):
  Calls ae 119 #[ai (some ⟨bw,0,none⟩),v] w fun e w'=>e=.returned (.tuple #[])/\(∃Ck lm rS xg,WL w' base bw lv Ck lm (k+4*out.length) (m+4) rS xg)/\ip (Ak bw vb vs v out) w w':=by
 obtain⟨i0,hi,mB,kS,ln⟩:=info_parts xu;obtain⟨j0,hj,KR,Pw,Q1⟩:=info_parts L8;obtain⟨TR,TT,sW⟩:=i7 hw.xf;subst sW;obtain⟨ao,cap,Z7⟩:=iA hv;obtain⟨n,Im⟩:∃n,out.length=n:=⟨_,rfl⟩;rw[Im]at Z7 hn;subst Z7;have Wj:bw<w.heap.size:=(aO.1 hw.i_).1;have lF:w.cell? ⟨bw,2,none⟩= some (.slice TR m TT):=by simp[aX,hw.i_]
 have HV:=gE hv;have HW:=gE hw;have HSb:=gE xF;have HSs:=gE hss;have HO:=gE hO;have HL:=gE hl;have KI:=gE Im;have HX:Hid (nA m = -1000-(m:Int)/4):=rfl;have Az:-2000000000000<=nA m/\nA m<=-1000:=by unfold nA;omega
 have Fq:∀g,ao=some ⟨g,0,none⟩->g<w.heap.size:=by
  rintro g rfl;obtain⟨c,e⟩:=ii hv (g:=g) rfl;exact(aO.1 e).1
 have HGl:=gE Fq;rw[Im];clear hv hw xF hss hO hl Im Fq;go_enter func119,ntmps119;go_wp2_with fail;rw[<-HX.out]
 go_loopw [5] (fun i wr=>∃(j:Nat) (KS:Value) (add:List Value),j<=n/\i=af ag j/\Hid (vI w base bw w.heap.size k m lv vb (.slice TR m TT) (.slice ao n cap) iq gX out gN j KS add wr)) (fun i _=>n-(intOf i).toNat)
 case atStart=>exact⟨0,vb,[],aI _,rfl,vI.start HW.out HV.out HO.out (gH w _) (heap_alloc_last w _)⟩
 case round=>
  obtain⟨j,KS,add,hjn,rfl,HI⟩:=hrel;by_cases jp:j<n
  ·obtain⟨x,hx⟩:∃x,out[j]? =some x:=⟨_,am (by rw[KI.out];exact jp)⟩;obtain⟨y,hy⟩:∃y,gN[j]? =some y:=⟨_,am (by rw[<-HO.out.1,KI.out];exact jp)⟩;have hyl:=HL.out j y hy;have hr:=HI.out.rest j x y (ay _) hx hy;obtain⟨xa,xc,hxf⟩:=i7 hr;have kE:=HI.out.row;rw[KI.out]at kE;obtain⟨g,n_,e1,_,_,_⟩:=sw kE (by omega);simp only[Value.slice.injEq]at e1;obtain⟨rfl,_,rfl⟩:=e1;have Fq:=HGl.out g rfl
   have kP:(iH j m++out.drop j)[j]? =some x:=by
    rw[aF (by simp[iH])];simp[iH,hx]
   obtain⟨_,s2⟩:=qn kP
   have c2:wr.cell? ⟨g,j*2+1,none⟩= some x.2:=by
    have:=kE.cellAt (j*2+1) (by omega);rw[s2]at this;exact this
   rw[hxf]at c2;have HBy:=gE (ye base bw (k+4*j) m y.2.length lv KS (.slice TR m TT) (.slice xa y.2.length xc) (iq++add) gX (U8 y.2) wr HI.out.wl (cw lE HI.out.iO.size) (by rw[<-hxf];exact hr) (by rw[<-hxf];exact HI.out.JE HW.out HO.out HSb.out hx) hyl (by omega));have HXf:=gE hxf;have Hx:=gE hx;clear hr kE kP s2 hxf hx hy;go_wp2_with fail;refine HBy.out.mono ?_;rintro e w1 ⟨rfl,⟨vb1,new,sk,C5,NQ⟩,km⟩;clear HBy;rw[<-HXf.out]at C5 km;have HM:=gE (HI.out.WW HO.out Hx.out km)
   have HQ:Hid (vI w base bw w.heap.size k m lv vb (.slice TR m TT) (aj (some ⟨g,0,none⟩) n cap) iq gX out gN (j+1) vb1 (add++new) ((w1.setCell ⟨g,j*2,none⟩ (af ag (nA m))).setCell ⟨g,j*2+1,none⟩ (aj none 0 0))):=by
    have h1:=HI.out;have h2:=HSs.out;have h3:=KI.out;subst h3;exact h1.next HW.out Fq h2 HO.out Hx.out km sk C5 NQ
   clear sk C5 NQ km;have C7:=HM.out.1;rw[KI.out]at C7;have abi:=C7.1
   obtain⟨u0,d0⟩:∃u,w1.cell? ⟨g,j*2,none⟩= some u:=by
    rw[C7.cellAt (j*2) (by omega)];exact⟨_,am (by omega)⟩
   obtain⟨u1,d1⟩:∃u,w1.cell? ⟨g,j*2+1,none⟩= some u:=by
    rw[C7.cellAt (j*2+1) (by omega)];exact⟨_,am (by omega)⟩
   have f0:=C7.frozenAt (j*2);have f1:=C7.frozenAt (j*2+1);have b0:w1.cell? ⟨w.heap.size,0,none⟩= some (af ag (nA m)):=by simp[aX,HM.out.2.1]
   have b1:w1.cell? ⟨w.heap.size,1,none⟩= some (aj none 0 0):=by simp[aX,HM.out.2.1]
   clear C7 abi HM;go_wp2_with fail
   go_roundw
   case rel=>exact⟨j+1,vb1,add++new,by omega,by go_num,HQ⟩
   case measure=>simp[intOf];omega
  ·obtain rfl:j=n:=by omega
   have kE:=HI.out.row;have hd:out.drop j=[]:=eD (by have:=KI.out;omega);rw[hd,List.append_nil,KI.out]at kE;have yX:base<=wr.heap.size:=cw lE HI.out.iO.size;have b0:wr.cell? ⟨w.heap.size,0,none⟩= some (af ag (nA m)):=by simp[aX,HI.out.box]
   have b1:wr.cell? ⟨w.heap.size,1,none⟩= some (aj none 0 0):=by simp[aX,HI.out.box]
   have sY:=HI.out.box
   have hgx:some w.heap.size≠(cX ao j cap).ownBlock:=by
    intro e;obtain⟨c,e2⟩:=ii HV.out e.symm;have:=(aO.1 e2).1;omega
   have qQ:=(aO.1 sY).1;have DU:wr.grownBy wr (cX ao j cap).ownBlock:=oG (Below.refl _ _) _;have HZ0:=gE HI.out.iO.size;clear hd;go_wp2_with (at_builtin;refine pn rfl _ _ 47 rfl base 60 i0 (.agg #[af ag 0,aj none 0 0]) 32 underlying47 hi mB kS ln rfl m (.slice ao j cap) j rfl (kE.alloc _) ⟨wr.heap.size,0,none⟩ 1 1 rfl (iZ wr 60 (g_ (iH 1 m)) (by simp[maxLen,iH,g_])) (by unfold maxLen;omega) (by omega) (by simp;omega) ?_;intro va w1 YB pr pJ;refine Hid.out ?_);refine gE ?_;have sj:=pJ _ _ _ (kE.alloc _);have GA:=mm DU (gU pr) (a_ rfl);have uD:base<=w1.heap.size:=cw yX GA.size;have XW:w1.heap[w.heap.size]? =some (.cells #[af ag (nA m),aj none 0 0] 60 (0,0)):=by rw[GA.block _ qQ hgx];exact sY
   obtain⟨aa,ca,rfl⟩:=iA YB;have b0:w1.cell? ⟨w.heap.size,0,none⟩= some (af ag (nA m)):=by simp[aX,XW]
   have b1:w1.cell? ⟨w.heap.size,1,none⟩= some (aj none 0 0):=by simp[aX,XW]
   clear kE pr pJ DU XW;go_wp2_with (at_builtin;refine pn rfl _ _ 47 rfl base 60 i0 (.agg #[af ag 0,aj none 0 0]) 32 underlying47 hi mB kS ln rfl m (.slice ao j cap) j rfl (sj.alloc _) ⟨w1.heap.size,0,none⟩ 2 2 rfl (iZ w1 60 (g_ (iH 2 m)) (by simp[maxLen,iH,g_])) (by unfold maxLen;omega) (by omega) (by simp;omega) ?_;intro vc w2 Ae mZ rp;refine Hid.out ?_);refine gE ?_;have rC:=rp _ _ _ (sj.alloc _);have SC:=rp _ _ _ (YB.alloc _);have GB:=mm GA (gU mZ) (a_ rfl);have Cd:base<=w2.heap.size:=cw yX GB.size;have yo:w2.heap[w.heap.size]? =some (.cells #[af ag (nA m),aj none 0 0] 60 (0,0)):=by rw[GB.block _ qQ hgx];exact sY
   obtain⟨ac,cc,rfl⟩:=iA Ae;have b0:w2.cell? ⟨w.heap.size,0,none⟩= some (af ag (nA m)):=by simp[aX,yo]
   have b1:w2.cell? ⟨w.heap.size,1,none⟩= some (aj none 0 0):=by simp[aX,yo]
   clear sj mZ rp uD YB GA yo;go_wp2_with (at_builtin;refine pn rfl _ _ 47 rfl base 60 i0 (.agg #[af ag 0,aj none 0 0]) 32 underlying47 hi mB kS ln rfl m (.slice ao j cap) j rfl (rC.alloc _) ⟨w2.heap.size,0,none⟩ 3 3 rfl (iZ w2 60 (g_ (iH 3 m)) (by simp[maxLen,iH,g_])) (by unfold maxLen;omega) (by omega) (by simp;omega) ?_;intro vd w3 WE qa NL;refine Hid.out ?_);refine gE ?_;have Pg:=NL _ _ _ (rC.alloc _);have SD:=NL _ _ _ (SC.alloc _);have tR:=NL _ _ _ (Ae.alloc _);have Ed:=mm GB (gU qa) (a_ rfl);have YI:base<=w3.heap.size:=cw yX Ed.size;obtain⟨ad,cd,rfl⟩:=iA WE;clear rC qa NL Cd SC Ae GB;have abF:=World.ownsRow.kept HI.out.wl.xf Ed (yC HI.out.wl.xf HI.out.row (by decide));have acu:some bw≠(cX ao j cap).ownBlock:=fun e=>gO HI.out.row HI.out.wl.i_ (by decide) e.symm
   have zt:w3.heap[bw]? =some (.cells #[lv,KS,.slice TR m TT] 85 (0,0)):=by rw[Ed.block bw (aO.1 HI.out.wl.i_).1 acu];exact HI.out.wl.i_
   have rE:w3.cell? ⟨bw,2,none⟩= some (.slice TR m TT):=by simp[aX,zt]
   go_wp2_with (at_builtin;refine qO rfl _ _ 83 rfl base 47 j0 (aj none 0 0) 1 24 underlying83 hj KR Pw Q1 rfl (by decide) (.slice TR m TT) m gX rfl (abF.alloc _) ⟨w3.heap.size,0,none⟩ 4 4 [.slice ao j cap,.slice aa (j+1) ca,.slice ac (j+2) cc,.slice ad (j+3) cd] rfl rfl (iZ w3 47 [.slice ao j cap,.slice aa (j+1) ca,.slice ac (j+2) cc,.slice ad (j+3) cd] (by simp[maxLen])) (by simp[bK]) (by unfold maxLen;omega) (by omega) (by simp;omega) ?_;intro v4 w4 ki Fp _;refine Hid.out ?_);refine gE ?_;obtain⟨BB,m_,yr⟩:=Mk HI.out.wl hn Ed (fun g hg=>ii HI.out.row hg) (fun i u g hu h0 hv=>HSs.out i u g hu (Am.yB HW.out hu h0) hv) Pg SD tR WE ki Fp;have ud:w4.cell? ⟨bw,2,none⟩= some (.slice TR m TT):=by simp[aX,BB]
   have hf4:w4.frozen? ⟨bw,2,none⟩= false:=frozen_of_row w4 bw 2 _ _ BB;obtain⟨a4,c4,rfl⟩:=i7 ki;have HI4:=gE m_;have HL4:=gE yr;clear ki Fp BB m_ yr Pg SD tR WE abF zt rE lF;go_wp2_with fail
   go_end0
   refine⟨rfl,⟨_,_,_,_,HI4.out⟩,HI.out.iO.andThen HL4.out ?_⟩;rintro q hq (e|e|e)
   ·exact a_ e
   ·exact aV (aV (a_ e))
   ·exact aV (aV (aV (a_ e)))
theorem ph{xs:List Value}(h:w.ownsRow base e sz v n xs)(hg:v.ownBlock=some g):base<=g:=by
 rcases h.2 with⟨rfl,_⟩|⟨g',cap,cur,rfl,hb,_⟩
 ·simp[ax]at hg
 ·simp only[ax,Option.some.injEq]at hg;omega
theorem C9(hw:WL w base bw lv vb vs k m iq gX){t:TypeId}{xs:List Value}(hv:w2.ownsRow b t sz v n xs)(hb:w.heap.size<=b):
  ∀(i:Nat) u g,iq[i]? =some u->xA w2 base u i->v.ownBlock=some g->u.ownBlock≠some g:=by
 intro i u g hu h0 hg he;obtain⟨n,_,_,hr⟩:=xA.yB hw hu h0;obtain⟨c,e⟩:=ii hr he;have h1:=(aO.1 e).1;have h2:=ph hv hg;omega
def md(base bw:Nat)(lv vb vs:Value)(L m:Nat)(gX:List Value)(w w':World):Prop:=(∃k' Ck rS,k'<=L+4/\WL w' base bw lv Ck vs k' m rS gX)/\ip (fun q=>q=bw\/vb.ownBlock=some q) w w'
theorem md.gS{L:Nat}(h:WL w base bw lv vb vs L m iq gX)(hb:Below w.heap.size w w'):md base bw lv vb vs L m gX w w':=⟨⟨L,vb,iq,by omega,h.below hb⟩,ip.gS hb⟩
theorem md.Wa{L:Nat}{xs:List Value}(hb:Below w.heap.size w w2)(hv:w2.ownsRow b 5 1 v n xs)(hf:w.heap.size<=b)(hi:∃Ck new,WL w3 base bw lv Ck vs (L+4) m (iq++new) gX/\(∀u∈new,Bu w2 v u)/\Bu w2 vb Ck)(hc:ip (fun q=>q=bw\/vb.ownBlock=some q\/v.ownBlock=some q) w2 w3):md base bw lv vb vs L m gX w w3:=by
 obtain⟨Ck,new,h,_⟩:=hi;refine⟨⟨L+4,Ck,iq++new,by omega,h⟩,(ip.gS hb).andThen hc ?_⟩;rintro q hq (e|e|e)
 ·exact a_ e
 ·exact aV e
 ·have:=ph hv e;omega
theorem Ms(on a b nn c0 c1 c2 c3 c4 c5 c6 c7 c8 c9:Int)(v:Value)(base bw L:Nat)(lv vb vs:Value)(m:Nat)(iq gX:List Value)(w:World)(inv:WL w base bw lv vb vs L m iq gX)(lE:base<=w.heap.size)(hL:L<=5000000000000):
  Calls ae 62 #[ai (some ⟨bw,0,none⟩),.agg #[af ag 1,af ag on,af ag a,af ag b,af ag nn,af ag c0,af ag c1,af ag c2,af ag c3,af ag c4,af ag c5,af ag c6,af ag c7,af ag c8,af ag c9,v]] w
   fun e w'=>e=.returned (.bool true)/\md base bw lv vb vs L m gX w w':=by
 have HI:=gE inv;clear inv;go_enter func62,ntmps62;go_wp2_with fail;have kf:=gH w (.cells #[af ag 1,af ag on,af ag a,af ag b,af ag nn,af ag c0,af ag c1,af ag c2,af ag c3,af ag c4,af ag c5,af ag c6,af ag c7,af ag c8,af ag c9,v] 90);refine(D3 a _).mono ?_;rintro e w1 ⟨v1,rfl,kJ,im⟩;have q:=(iM im).1 2;simp at q;go_wp2_with fail;refine(Dk a _).mono ?_;rintro e w2 ⟨v2,rfl,je,iT⟩;have oN:=iB kJ iT;have BC:=gI im iT;have k1:=uy oN;have k2:=uy je;clear q kJ je im iT;generalize hE:oD a 1073741823=E;clear hE;have pg:=gI kf BC;have HB:=gE (ye base bw L m _ lv vb vs v1 iq gX _ w2 (HI.out.below pg) (cw lE pg.size) (iE oN (by simp only[aB];omega)) (C9 HI.out oN (by simp only[aB];omega)) (by have:=J8 a;omega) hL);have HOw:=gE oN;have Ie:=gE pg;clear oN pg BC kf;go_wp2_with (go_at_call 110;refine(qj _ _).mono ?_;rintro e w' ⟨rfl,rfl⟩);refine HB.out.mono ?_;rintro e w3 ⟨rfl,m_,rE⟩;clear k1 k2 HB;go_wp2_with fail;go_ret;exact⟨rfl,md.Wa Ie.out HOw.out (by simp only[aB];omega) m_ rE⟩
theorem Di(on a b nn c0 c1 c2 c3 c4 c5 c6 c7 c8 c9:Int)(base bw L:Nat)(lv vb vs:Value)(m:Nat)(iq gX:List Value)(w:World)(he:Env w)(inv:WL w base bw lv vb vs L m iq gX):
  Calls ae 62 #[ai (some ⟨bw,0,none⟩),.agg #[af ag 2,af ag on,af ag a,af ag b,af ag nn,af ag c0,af ag c1,af ag c2,af ag c3,af ag c4,af ag c5,af ag c6,af ag c7,af ag c8,af ag c9,aj none 0 0]] w
   fun e w'=>e=.returned (.bool true)/\md base bw lv vb vs L m gX w w':=by
 have HI:=gE inv;have HE:=gE he;clear inv he;have HR:Hid (∀W:World,kv W (aj none 0 0) []):=fun W=>⟨iF.nil,by decide,a_ ⟨rfl,none,0,rfl⟩⟩
 go_enter func62,ntmps62;go_wp2_with fail;have kf:=gH w (.cells #[af ag 2,af ag on,af ag a,af ag b,af ag nn,af ag c0,af ag c1,af ag c2,af ag c3,af ag c4,af ag c5,af ag c6,af ag c7,af ag c8,af ag c9,aj none 0 0] 90);refine(JO _).mono ?_;rintro e w1 ⟨rfl,rfl⟩;go_wp2_with fail;refine(xK [] _ _ (HE.out.below kf) (HR.out _)).mono ?_;rintro e w2 ⟨rfl,im⟩;have q:=(iM im).1 15;simp at q;go_wp2_with fail;refine(ld [] _ _ (HR.out _)).mono ?_;rintro e w3 ⟨rfl,rfl⟩;go_wp2_with fail;refine(IG _ _).mono ?_;rintro e w3 ⟨rfl,rfl⟩;have iT:=gI kf im;clear im q;generalize ly []=x1;generalize kz []=x2;generalize qh []=x3;go_wp2_with (go_at_call 110;refine(qj _ _).mono ?_;rintro e w' ⟨rfl,rfl⟩);go_ret;exact⟨rfl,md.gS HI.out iT⟩
theorem Mr(on a b nn c0 c1 c2 c3 c4 c5 c6 c7 c8 c9:Int)(ad:Addr)(cap:Nat)(l:List Int)(base bw L:Nat)(lv vb vs:Value)(m:Nat)(iq gX:List Value)(w:World)(he:Env w)(hr:kv w (aj (some ad) l.length cap) l)(inv:WL w base bw lv vb vs L m iq gX):
  Calls ae 62 #[ai (some ⟨bw,0,none⟩),.agg #[af ag 2,af ag on,af ag a,af ag b,af ag nn,af ag c0,af ag c1,af ag c2,af ag c3,af ag c4,af ag c5,af ag c6,af ag c7,af ag c8,af ag c9,aj (some ad) l.length cap]] w
   fun e w'=>e=.returned (.bool true)/\md base bw lv vb vs L m gX w w':=by
 have HI:=gE inv;have HE:=gE he;have HR:=gE hr;clear inv he hr;go_enter func62,ntmps62;go_wp2_with fail;have kf:=gH w (.cells #[af ag 2,af ag on,af ag a,af ag b,af ag nn,af ag c0,af ag c1,af ag c2,af ag c3,af ag c4,af ag c5,af ag c6,af ag c7,af ag c8,af ag c9,aj (some ad) l.length cap] 90);have rG:=HR.out.below kf;refine(Fy l ad cap _ rG.2.1 rG.src.1).mono ?_;rintro e w1 ⟨g,rfl,hg,ZW,im⟩;have KJ:=gE (rG.below im);have HG:=gE hg;have Fq:g<w1.heap.size:=(aO.1 hg).1;clear rG hg;go_wp2_with fail;refine(xK l _ _ ((HE.out.below kf).below im) (kv.YX HR.out.1 HR.out.2.1 HG.out)).mono ?_;rintro e w2 ⟨rfl,iT⟩;have BC:=gI im iT;have q:=(iM BC).1 15;simp at q;go_wp2_with fail;refine(ld l _ _ (KJ.out.below iT)).mono ?_;rintro e w3 ⟨rfl,rfl⟩;have HB:=gE (Ox l ad cap g (w.alloc (.cells #[af ag 2,af ag on,af ag a,af ag b,af ag nn,af ag c0,af ag c1,af ag c2,af ag c3,af ag c4,af ag c5,af ag c6,af ag c7,af ag c8,af ag c9,aj (some ad) l.length cap] 90)).heap.size w2 HR.out.1 HR.out.2.1 (by rw[iT.block g Fq];exact HG.out) ZW (KJ.out.below iT).src.2);go_wp2_with fail;refine HB.out.mono ?_;rintro e w3 ⟨rfl,mw⟩;have pg:=gI kf (BC.trans mw);clear im iT BC mw q HB HG;generalize ly l=x1;generalize kz l=x2;generalize qh l=x3;go_wp2_with (go_at_call 110;refine(qj _ _).mono ?_;rintro e w' ⟨rfl,rfl⟩);go_ret;exact⟨rfl,md.gS HI.out pg⟩
theorem GZ(on a b nn c0 c1 c2 c3 c4 c5 c6 c7 c8 c9:Int)(v:Value)(base bw L:Nat)(lv vb vs:Value)(m:Nat)(iq gX:List Value)(w:World)(inv:WL w base bw lv vb vs L m iq gX)(lE:base<=w.heap.size)(hL:L<=5000000000000):
  Calls ae 62 #[ai (some ⟨bw,0,none⟩),.agg #[af ag 3,af ag on,af ag a,af ag b,af ag nn,af ag c0,af ag c1,af ag c2,af ag c3,af ag c4,af ag c5,af ag c6,af ag c7,af ag c8,af ag c9,v]] w
   fun e w'=>e=.returned (.bool true)/\md base bw lv vb vs L m gX w w':=by
 have HI:=gE inv;clear inv;go_enter func62,ntmps62;go_wp2_with fail;have kf:=gH w (.cells #[af ag 3,af ag on,af ag a,af ag b,af ag nn,af ag c0,af ag c1,af ag c2,af ag c3,af ag c4,af ag c5,af ag c6,af ag c7,af ag c8,af ag c9,v] 90);refine(Ot c0 c1 c2 c3 c4 c5 c6 c7 c8 c9 a b _).mono ?_;rintro e w1 ⟨v1,rfl,kJ,im⟩;have q2:=(iM im).1 2;have q3:=(iM im).1 3;have q5:=(iM im).1 5;have q6:=(iM im).1 6;have q7:=(iM im).1 7;have q8:=(iM im).1 8;have q9:=(iM im).1 9;have Mw:=(iM im).1 10;have Tb:=(iM im).1 11;have Tc:=(iM im).1 12;have Td:=(iM im).1 13;have Te:=(iM im).1 14;simp at q2 q3 q5 q6 q7 q8 q9 Mw Tb Tc Td Te;go_wp2_with fail;refine(Dl c0 c1 c2 c3 c4 c5 c6 c7 c8 c9 a b _).mono ?_;rintro e w2 ⟨v2,rfl,je,iT⟩;have oN:=iB kJ iT;have BC:=gI im iT;have k1:=uy oN;have k2:=uy je;clear q2 q3 q5 q6 q7 q8 q9 Mw Tb Tc Td Te kJ je im iT;have pg:=gI kf BC;have HB:=gE (ye base bw L m _ lv vb vs v1 iq gX _ w2 (HI.out.below pg) (cw lE pg.size) (iE oN (by simp only[aB];omega)) (C9 HI.out oN (by simp only[aB];omega)) (by have:=Kx c0 c1 c2 c3 c4 c5 c6 c7 c8 c9 a b;omega) hL);have HOw:=gE oN;have Ie:=gE pg;clear oN pg BC kf;generalize v8 c0 c1 c2 c3 c4 c5 c6 c7 c8 c9 a b=E;go_wp2_with (go_at_call 110;refine(qj _ _).mono ?_;rintro e w' ⟨rfl,rfl⟩);refine HB.out.mono ?_;rintro e w3 ⟨rfl,m_,rE⟩;clear k1 k2 HB;go_wp2_with fail;go_ret;exact⟨rfl,md.Wa Ie.out HOw.out (by simp only[aB];omega) m_ rE⟩
theorem GY(on a b nn c0 c1 c2 c3 c4 c5 c6 c7 c8 c9:Int)(v:Value)(base bw L:Nat)(lv vb vs:Value)(m:Nat)(iq gX:List Value)(w:World)(inv:WL w base bw lv vb vs L m iq gX):
  Calls ae 62 #[ai (some ⟨bw,0,none⟩),.agg #[af ag 4,af ag on,af ag a,af ag b,af ag nn,af ag c0,af ag c1,af ag c2,af ag c3,af ag c4,af ag c5,af ag c6,af ag c7,af ag c8,af ag c9,v]] w
   fun e w'=>e=.returned (.bool true)/\md base bw lv vb vs L m gX w w':=by
 have HI:=gE inv;clear inv;go_enter func62,ntmps62;go_wp2_with fail;have kf:=gH w (.cells #[af ag 4,af ag on,af ag a,af ag b,af ag nn,af ag c0,af ag c1,af ag c2,af ag c3,af ag c4,af ag c5,af ag c6,af ag c7,af ag c8,af ag c9,v] 90);refine(On c0 c1 c2 c3 c4 c5 c6 c7 c8 c9 a b _).mono ?_;rintro e w1 ⟨rfl,im⟩;have q2:=(iM im).1 2;have q3:=(iM im).1 3;have q5:=(iM im).1 5;have q6:=(iM im).1 6;have q7:=(iM im).1 7;have q8:=(iM im).1 8;have q9:=(iM im).1 9;have Mw:=(iM im).1 10;have Tb:=(iM im).1 11;have Tc:=(iM im).1 12;have Td:=(iM im).1 13;have Te:=(iM im).1 14;simp at q2 q3 q5 q6 q7 q8 q9 Mw Tb Tc Td Te;go_wp2_with fail;refine(MA c0 c1 c2 c3 c4 c5 c6 c7 c8 c9 a b _).mono ?_;rintro e w2 ⟨rfl,iT⟩;have pg:=gI kf (gI im iT);clear q2 q3 q5 q6 q7 q8 q9 Mw Tb Tc Td Te im iT;generalize vZ c0 c1 c2 c3 c4 c5 c6 c7 c8 c9 a b=E;generalize Mu c0 c1 c2 c3 c4 c5 c6 c7 c8 c9 a b=M;go_wp2_with (go_at_call 110;refine(qj _ _).mono ?_;rintro e w' ⟨rfl,rfl⟩);go_ret;exact⟨rfl,md.gS HI.out pg⟩
theorem Ro.IP{F:Nat->Prop}{cs:List Value}(h:Ro w e v n cs)(hc:ip F w w')(hF:∀k cur fr,v.ownBlock=some k->w.heap[k]? =some (.cells cur e fr)->¬F k):Ro w' e v n cs:=by
 obtain⟨ao,cap,rfl,hp,hz⟩:=h;refine⟨ao,cap,rfl,fun hn=>?_,hz⟩;obtain⟨b,off,cur,fr,rfl,hb,lF⟩:=hp hn;exact⟨b,off,cur,fr,rfl,by rw[hc.block b (aO.1 hb).1 (hF b cur fr rfl hb)];exact hb,lF⟩
theorem n9.IP{U F:Nat->Prop}{jm:Int}{x:jf}(h:n9 U w b lv jm x)(hc:ip F w w')(h1:¬F b)(h2:∀g,lv.ownBlock=some g->¬F g)(h3:∀k cur fr,U k->w.heap[k]? =some (.cells cur 5 fr)->¬F k):n9 U w' b lv jm x:=by
 obtain⟨vs,hr,hk⟩:=h.runs;exact⟨by rw[hc.block b h.lt h1];exact h.i_,vs,⟨jg hr.own hc h2,hr.sh,fun i v r hv hw=>(hr.ro i v r hv hw).IP hc fun k cur fr pJ rp=>h3 k cur fr ((hk v (bT hv)).2 k pJ) rp⟩,hk⟩
theorem jE.IP{F:Nat->Prop}{cb:Nat}{g:jG}{c:gZ}{a:iP}(h:jE N w cb g c a)(hc:ip F w w')(hF:∀k,jH cb a k->¬F k)(h8:∀k cur fr,a.u k->w.heap[k]? =some (.cells cur 5 fr)->¬F k):jE N w' cb g c a:=by
 obtain⟨vs,sW⟩:=h.pk;obtain⟨n1,rQ,qq⟩:=h.zW;obtain⟨n2,uC,tx⟩:=h.Bz;refine⟨h.i_.iO hc (hF _ (a_ rfl)),⟨vs,?_⟩,⟨n1,rQ,qq.same (hc.block _ qq.lt (hF _ (aV (aV (a_ rfl)))))⟩,⟨n2,uC,tx.same (hc.block _ tx.lt (hF _ (aV (aV (aV (a_ rfl))))))⟩,h.mp,fun p hp x hx=>?_,h.UO,h.ne,h.apart,fun k hk=>Nat.lt_of_lt_of_le (h.ul k hk) hc.size⟩
 ·exact⟨jg sW.own hc (fun k hk=>hF k (aV (a_ hk))),sW.sh⟩
 ·exact(h.str p hp x hx).IP hc (hF _ (aV (aV (aV (aV ⟨p,hp,a_ rfl⟩))))) (fun k hk=>hF k (aV (aV (aV (aV ⟨p,hp,aV hk⟩))))) h8
theorem jt.IP{F:Nat->Prop}(h:jt N w sb s cm wv gP xs ws)(hc:ip F w w')(hF:∀k,lh sb cm wv gP xs k->¬F k)(h8:∀k cur fr,qz xs k->w.heap[k]? =some (.cells cur 5 fr)->¬F k):jt N w' sb s cm wv gP xs ws:=by
 obtain⟨n,hn,hm⟩:=h.map;exact⟨h.i_.iO hc (hF sb (a_ rfl)),⟨n,hn,hm.same (hc.block cm hm.lt (hF cm (aV (a_ rfl))))⟩,h.j7,h.lA,fun i c cb a h1 h2 h3=>(h.kH i c cb a h1 h2 h3).IP hc (fun k hk=>hF k (pu h2 h3 hk)) (fun k cur fr hk=>h8 k cur fr ⟨a,bT h3,hk⟩),jg h.row hc (fun k hk e=>hF k (aV (aV (a_ hk))) e),h.wait,h.apart,h.GN⟩
def D6(rb:Nat)(gP iJ:List Nat)(cv:Value)(k:Nat):Prop:=k=rb\/k∈gP\/k∈iJ\/cv.ownBlock=some k
theorem iS.UJ{F:Nat->Prop}{out:List (Int×Value)}(h:iS w s sb gP iJ cv ov ob out gN)(hc:ip F w w')(hF:∀k,D6 sb gP iJ cv k->¬F k)(hR:∀k cur fr,w.heap[k]? =some (.cells cur 294 fr)->¬F k)(hI:∀k cur fr,w.heap[k]? =some (.cells cur 3 fr)->¬F k)
  (ho:∀k cur e fr,ob<=k->w.heap[k]? =some (.cells cur e fr)->e=60\/e=5->¬F k):iS w' s sb gP iJ cv ov ob out gN:=by
 refine⟨?_,jg h.row hc (fun k hk=>hF k (aV (aV (aV hk)))),jg h.ng hc (fun g hg=>?_),⟨h.ur.1,fun i x y hx hy=>⟨(h.ur.2 i x y hx hy).1,jg (h.ur.2 i x y hx hy).2 hc (fun g hg=>?_)⟩⟩,h.j7,h.lA,h.SZ,h.S3,fun i c cb sr h1 h2 h3=>(h.kH i c cb sr h1 h2 h3).iO hc (hF cb (aV (a_ (bT h2)))) (hF sr (aV (aV (a_ (bT h3))))) hR hI⟩
 ·rw[hc.block sb (aO.1 h.lf).1 (hF sb (a_ rfl))];exact h.lf
 ·obtain⟨c,e⟩:=ii h.ng hg;exact ho g _ _ _ (ph h.ng hg) e (a_ rfl)
 ·obtain⟨c,e⟩:=ii (h.ur.2 i x y hx hy).2 hg;exact ho g _ _ _ (ph (h.ur.2 i x y hx hy).2 hg) e (aV rfl)
structure jj where
 sb:Nat
 cm:Nat
 wv:Value
 gP:List Nat
 xs:List iP
 ws:List Nat
 rb:Nat
 wX:List Nat
 iJ:List Nat
 cv:Value
 s:ik
def jj.F(p:jj)(k:Nat):Prop:=lh p.sb p.cm p.wv p.gP p.xs k\/D6 p.rb p.wX p.iJ p.cv k
structure kX(N:Nat)(M L:Int)(w:World)(p:jj):Prop where
 prog:jt N w p.sb p.s p.cm p.wv p.gP p.xs p.ws
 ref:∃ov ob out gN,iS w p.s p.rb p.wX p.iJ p.cv ov ob out gN
 inv:iQ M L p.s
theorem kX.iO{F:Nat->Prop}{p:jj}(h:kX N M L w p)(hc:ip F w w')(hF:∀k,p.F k->¬F k)(ht:∀k cur e fr,w.heap[k]? =some (.cells cur e fr)->e=60\/e=5\/e=294\/e=3->¬F k):kX N M L w' p:=by
 obtain⟨ov,ob,out,gN,hr⟩:=h.ref;exact⟨h.prog.iO hc (fun k hk=>hF k (a_ hk)) (fun k cur fr hk=>ht k cur _ fr hk (by simp)),⟨ov,ob,out,gN,hr.UJ hc (fun k hk=>hF k (aV hk)) (fun k cur fr hk=>ht k cur _ fr hk (by simp)) (fun k cur fr hk=>ht k cur _ fr hk (by simp)) (fun k cur e fr _ hk he=>ht k cur e fr hk (by rcases he with e|e<;>simp[e]))⟩,h.inv⟩
theorem kX.below{p:jj}(h:kX N M L w p)(hb:Below w.heap.size w w'):kX N M L w' p:=h.iO (F:=fun _=>False) (ip.gS hb) (fun _ _ h=>h) (fun _ _ _ _ _ _ h=>h)
def qY(e:TypeId):Prop:=e=85\/e=44\/e=47\/e=126\/e=60\/e=5\/e=294\/e=3
def aax(e:TypeId):Prop:=e=242\/e=244\/e=249\/e=252
theorem Oq(h:jt N w sb s cm wv gP xs ws)(hk:w.heap[k]? =some (.cells cur e fr))(h1:e≠101)(h2:e≠97)(h3:e≠137)(h4:e≠279)(h5:e≠204)(h6:e≠259):¬lh sb cm wv gP xs k:=by
 rintro(e'|e'|e'|⟨j,db,b,e1,e2,e3⟩)
 ·exact oF h hk h1 h2 (a_ e')
 ·exact oF h hk h1 h2 (aV (a_ e'))
 ·exact oF h hk h1 h2 (aV (aV e'))
 ·obtain⟨d,hd⟩:∃d,s.gG[j]? =some d:=⟨_,am (by rw[<-h.j7];exact(bm.1 e1).1)⟩;exact mP (h.kH j d db b hd e1 e2) hk h3 h4 h5 h6 e3
theorem q_(h:jt N w sb s cm wv gP xs ws)(hk:w.heap[k]? =some (.cells cur e fr))(he:qY e\/aax e):¬lh sb cm wv gP xs k:=by
 rcases he with(rfl|rfl|rfl|rfl|rfl|rfl|rfl|rfl) |(rfl|rfl|rfl|rfl)<;>exact Oq h hk (by decide) (by decide) (by decide) (by decide) (by decide) (by decide)
theorem xl{out:List (Int×Value)}(h:iS w s sb gP iJ cv ov ob out gN)(hk:D6 sb gP iJ cv k):∃cur e,w.heap[k]? =some (.cells cur e (0,0))/\aax e:=by
 rcases hk with rfl|hk|hk|hk
 ·exact⟨_,_,h.lf,a_ rfl⟩
 ·obtain⟨i,hi⟩:=eE hk;have hl:=(bm.1 hi).1;obtain⟨c,hc⟩:∃c,s.gG[i]? =some c:=⟨_,am (by rw[<-h.j7];exact hl)⟩;obtain⟨sr,lj⟩:∃sr,iJ[i]? =some sr:=⟨_,am (by rw[h.lA,<-h.j7];exact hl)⟩;obtain⟨rv,sv,e⟩:=(h.kH i c k sr hc hi lj).cb;exact⟨_,_,e,aV (aV (a_ rfl))⟩
 ·obtain⟨i,hi⟩:=eE hk;have hl:=(bm.1 hi).1;obtain⟨c,hc⟩:∃c,s.gG[i]? =some c:=⟨_,am (by rw[<-h.lA];exact hl)⟩;obtain⟨cb,jJ⟩:∃cb,gP[i]? =some cb:=⟨_,am (by rw[h.j7,<-h.lA];exact hl)⟩;obtain⟨cs,e⟩:=(h.kH i c cb k hc jJ hi).sr;exact⟨_,_,e,aV (aV (aV rfl))⟩
 ·obtain⟨cs,e⟩:=ii h.row hk;exact⟨_,_,e,aV (a_ rfl)⟩
theorem ug{out:List (Int×Value)}(h:iS w s sb gP iJ cv ov ob out gN)(hk:w.heap[k]? =some (.cells cur e fr))(he:qY e):¬D6 sb gP iJ cv k:=by
 intro hr;obtain⟨Lt,e',h1,h2⟩:=xl h hr;rw[hk]at h1;simp only[Option.some.injEq,Obj.cells.injEq]at h1;obtain⟨_,rfl,_⟩:=h1;rcases he with rfl|rfl|rfl|rfl|rfl|rfl|rfl|rfl<;>(rcases h2 with h2|h2|h2|h2<;>revert h2<;>decide)
theorem kX.lt{p:jj}(h:kX N M L w p)(hk:p.F k):k<w.heap.size:=by
 rcases hk with hk|hk
 ·exact F_ h.prog hk
 ·obtain⟨ov,ob,out,gN,hr⟩:=h.ref;obtain⟨cur,e,h1,_⟩:=xl hr hk;exact(aO.1 h1).1
theorem kX.law{p:jj}(h:kX N M L w p)(hk:w.heap[k]? =some (.cells cur e fr))(he:qY e):¬p.F k:=by
 rintro(h1|h1)
 ·exact q_ h.prog hk (a_ he) h1
 ·obtain⟨ov,ob,out,gN,hr⟩:=h.ref;exact ug hr hk he h1
theorem kX.mono{p:jj}(h:kX N M L w p)(hN:N<=N')(hM:M<=M')(hL:L<=L'):kX N' M' L' w p:=⟨h.prog.mono hN,h.ref,h.inv.mono hM hL⟩
def lB(ps:List jj):List Value:=ps.flatMap fun p=>[ai (some ⟨p.sb,0,none⟩),ai (some ⟨p.rb,0,none⟩)]
theorem xX{ps:List jj}{p p':jj}(hi:ps[i]? =some p)(h1:p'.sb=p.sb)(h2:p'.rb=p.rb):lB (ps.set i p')=lB ps:=by
 induction ps generalizing i with
 |nil=>rfl
 |cons a r ih=>
  cases i with
  |zero=>
   simp only[cz,Option.some.injEq]at hi;subst hi;simp[lB,h1,h2]
  |succ i=>
   have:=ih (i:=i) (by simpa using hi);simp only[lB,List.set_cons_succ,List.flatMap_cons]at this⊢;rw[this]
structure jY(N:Nat)(M L:Int)(w:World)(base bw k m:Nat)(lv vb vs:Value)(iq gX:List Value)(ps:List jj):Prop where
 wl:WL w base bw lv vb vs k m iq gX
 XD:base<=w.heap.size
 yz:w.ownsRow base 126 2 lv ps.length (lB ps)
 pair:∀(i:Nat) p,ps[i]? =some p->kX N M L w p
 low:∀(i:Nat) p k,ps[i]? =some p->p.F k->base<=k
 apart:∀(i j:Nat) p q k,i≠j->ps[i]? =some p->ps[j]? =some q->p.F k->¬q.F k
theorem jY.tj{ps:List jj}(h:jY N M L w base bw k m lv vb vs iq gX ps):base<=w.heap.size:=h.XD
def vX(base bw q:Nat):Prop:=q=bw\/base<=q
theorem jY.mono{ps:List jj}(h:jY N M L w base bw k m lv vb vs iq gX ps)(hN:N<=N')(hM:M<=M')(hL:L<=L'):jY N' M' L' w base bw k m lv vb vs iq gX ps:=
 ⟨h.wl,h.XD,h.yz,fun i p hp=>(h.pair i p hp).mono hN hM hL,h.low,h.apart⟩
def tI(bw:Nat)(vb vs:Value)(q:Nat):Prop:=q=bw\/vb.ownBlock=some q\/vs.ownBlock=some q
theorem WL.type(h:WL w base bw lv vb vs k m iq gX)(hq:tI bw vb vs q):∃cur e,w.heap[q]? =some (.cells cur e (0,0))/\(e=85\/e=44\/e=47):=by
 rcases hq with rfl|hq|hq
 ·exact⟨_,_,h.i_,a_ rfl⟩
 ·obtain⟨c,e⟩:=ii h.tJ hq;exact⟨_,_,e,aV (a_ rfl)⟩
 ·obtain⟨c,e⟩:=ii h.xf hq;exact⟨_,_,e,aV (aV rfl)⟩
theorem WL.Ml(h:WL w base bw lv vb vs k m iq gX)(hk:w.heap[q]? =some (.cells cur e fr))(he:e≠85)(X6:e≠44)(he3:e≠47):¬tI bw vb vs q:=by
 intro hq;obtain⟨c,e',h1,h2⟩:=h.type hq;rw[hk]at h1;simp only[Option.some.injEq,Obj.cells.injEq]at h1;obtain⟨_,rfl,_⟩:=h1;rcases h2 with h2|h2|h2
 ·exact he h2
 ·exact X6 h2
 ·exact he3 h2
theorem jY.own{ps:List jj}(h:jY N M L w base bw k m lv vb vs iq gX ps)(hc:ip (tI bw vb vs) w w')(hw:WL w' base bw lv Ck lm k' m' rS xg):jY N M L w' base bw k' m' lv Ck lm rS xg ps where
 wl:=hw
 XD:=cw h.XD hc.size
 yz:=jy h.yz hc (fun q cur fr hq=>h.wl.Ml hq (by decide) (by decide) (by decide))
 pair:=fun i p hp=>(h.pair i p hp).iO hc (fun q hq hF=>by
  obtain⟨c,e,h1,h2⟩:=h.wl.type hF;exact(h.pair i p hp).law h1 (by rcases h2 with rfl|rfl|rfl<;>simp[qY]) hq) (fun q cur e fr hq he=>by
  rcases he with rfl|rfl|rfl|rfl<;>exact h.wl.Ml hq (by decide) (by decide) (by decide))
 low:=h.low
 apart:=h.apart
theorem jY.below{ps:List jj}(h:jY N M L w base bw k m lv vb vs iq gX ps)(hb:Below w.heap.size w w'):jY N M L w' base bw k m lv vb vs iq gX ps:=h.own (ip.gS hb) (h.wl.below hb)
theorem jY.plain{ps:List jj}(h:jY N M L w base bw k m lv vb vs iq gX ps)(hp:md base bw lv vb vs k m gX w w'):∃k' Ck rS,k'<=k+4/\jY N M L w' base bw k' m lv Ck vs rS gX ps:=by
 obtain⟨⟨k',Ck,rS,hk,hw⟩,hc⟩:=hp;exact⟨k',Ck,rS,hk,h.own (hc.mono fun q _ e=>e.imp id a_) hw⟩
theorem jY.Ub{ps:List jj}(h:jY N M L w base bw k m lv vb vs iq gX ps){p p':jj}(hi:ps[i]? =some p)(hc:ip p.F w w')(hp:kX N M L w' p')(nz:∀q,p'.F q->p.F q\/w.heap.size<=q)(h1:p'.sb=p.sb)(h2:p'.rb=p.rb):jY N M L w' base bw k m lv vb vs iq gX (ps.set i p'):=by
 have hP:=h.pair i p hi;have yt:i<ps.length:=(bm.1 hi).1;refine⟨h.wl.typed hc (fun q cur e fr hq he=>hP.law hq (by rcases he with rfl|rfl|rfl|rfl|rfl<;>simp[qY])),cw h.XD hc.size,?_,fun j q hq=>?_,fun j q r hq hr=>?_,fun j j' q q' r js hq DX hr oq=>?_⟩
 ·rw[List.length_set,xX hi h1 h2];exact jy h.yz hc (fun q cur fr hq=>hP.law hq (by simp[qY]))
 ·by_cases hj:i=j
  ·subst hj;rw[ez yt,Option.some.injEq]at hq;subst hq;exact hp
  ·rw[ey hj]at hq;exact(h.pair j q hq).iO hc (fun r hr hF=>h.apart i j p q r hj hi hq hF hr) (fun r cur e fr hr he=>hP.law hr (by rcases he with rfl|rfl|rfl|rfl<;>simp[qY]))
 ·by_cases hj:i=j
  ·subst hj;rw[ez yt,Option.some.injEq]at hq;subst hq;rcases nz r hr with h0|h0
   ·exact h.low i p r hi h0
   ·exact cw h.tj h0
  ·rw[ey hj]at hq;exact h.low j q r hq hr
 ·by_cases hj:i=j
  ·subst hj;rw[ez yt,Option.some.injEq]at hq;subst hq;rw[ey js]at DX;rcases nz r hr with h0|h0
   ·exact h.apart i j' p q' r js hi DX h0 oq
   ·have:=(h.pair j' q' DX).lt oq;omega
  ·rw[ey hj]at hq;by_cases Jq:i=j'
   ·subst Jq;rw[ez yt,Option.some.injEq]at DX;subst DX;rcases nz r oq with h0|h0
    ·exact h.apart j i q p r js hq hi hr h0
    ·have:=(h.pair j q hq).lt hr;omega
   ·rw[ey Jq]at DX;exact h.apart j j' q q' r js hq DX hr oq
theorem PK:(ae.info? 126).map (fun i=>(i.zero,i.size,i.bytes))=some (some (.agg #[ai none,ai none]),2,16):=by kernel_rfl
theorem WL.Zg(h:WL w base bw lv vb vs k m iq gX)(v4:Value):WL (w.setCell ⟨bw,0,none⟩ v4) base bw v4 vb vs k m iq gX:=by
 have hc:ip (· = bw) w (w.setCell ⟨bw,0,none⟩ v4):=iu (Below.refl _ _) 0 _
 have js:∀q cur e fr,w.heap[q]? =some (.cells cur e fr)->e≠85->¬q=bw:=by
  intro q cur e fr hq he e1;rw[e1,h.i_]at hq;simp only[Option.some.injEq,Obj.cells.injEq]at hq;exact he hq.2.1.symm
 refine⟨by rw[gQ h.i_ 0 v4];rfl,h.k4,h.m4,jy h.tJ hc (fun q cur fr hq=>js q cur _ fr hq (by decide)),jy h.xf hc (fun q cur fr hq=>js q cur _ fr hq (by decide)),fun i u hu=>?_,fun i u hu=>?_⟩
 ·rcases h.Lf i u hu with h0|⟨n,h1,h2,h3⟩
  ·exact a_ h0
  ·exact aV ⟨n,h1,h2,jy h3 hc (fun q cur fr hq=>js q cur _ fr hq (by decide))⟩
 ·rcases h.MW i u hu with h0|⟨n,h1,h2,h3⟩
  ·exact a_ h0
  ·exact aV ⟨n,h1,h2,jy h3 hc (fun q cur fr hq=>js q cur _ fr hq (by decide))⟩
theorem Me{ps:List jj}{p:jj}(h:jY N M L w base bw k m lv vb vs iq gX ps)(hb:Below w.heap.size w w1)(hP:kX N M L w1 p)(hf:∀q,p.F q->w.heap.size<=q)
  (kE:w4.ownsRow base 126 2 v4 (ps.length+1) (lB ps++[ai (some ⟨p.sb,0,none⟩),ai (some ⟨p.rb,0,none⟩)])) (Fp:(w1.alloc (.cells #[ai (some ⟨p.sb,0,none⟩),ai (some ⟨p.rb,0,none⟩)] 126)).grownBy w4 lv.ownBlock):
  w4.heap[bw]? =some (.cells #[lv,vb,vs] 85 (0,0))/\jY N M L (w4.setCell ⟨bw,0,none⟩ v4) base bw k m v4 vb vs iq gX (ps++[p])/\ip (vX base bw) w (w4.setCell ⟨bw,0,none⟩ v4):=by
 have h1:=h.below hb;have wL:w1.grownBy w4 lv.ownBlock:=gU Fp;have ud:ip (fun q=>lv.ownBlock=some q) w1 w4:=⟨wL.os,wL.tape,wL.output,wL.size,fun q hq hn=>wL.block q hq (fun e=>hn e.symm)⟩;have QV:∀q cur e fr,w1.heap[q]? =some (.cells cur e fr)->e≠126->¬lv.ownBlock=some q:=fun q cur e fr hq he hv=>gO h1.yz hq (fun e1=>he e1.symm) hv
 have YQ:WL w4 base bw lv vb vs k m iq gX:=h1.wl.typed ud (fun q cur e fr hq he=>QV q cur e fr hq (by rcases he with rfl|rfl|rfl|rfl|rfl<;>decide));have Fk:ip (· = bw) w4 (w4.setCell ⟨bw,0,none⟩ v4):=iu (Below.refl _ _) 0 _
 have Jw:∀q cur e fr,w4.heap[q]? =some (.cells cur e fr)->e≠85->¬q=bw:=by
  intro q cur e fr hq he e1;rw[e1,YQ.i_]at hq;simp only[Option.some.injEq,Obj.cells.injEq]at hq;exact he hq.2.1.symm
 have BL:∀{q:jj},kX N M L w1 q->kX N M L (w4.setCell ⟨bw,0,none⟩ v4) q:=by
  intro q hq
  have hq4:kX N M L w4 q:=hq.iO ud (fun r hr hF=>by
   obtain⟨c,e⟩:=ii h1.yz hF;exact hq.law e (by simp[qY]) hr) (fun r cur e fr hr he=>QV r cur e fr hr (by rcases he with rfl|rfl|rfl|rfl<;>decide))
  exact hq4.iO Fk (fun r hr hF=>by
   subst hF;exact hq4.law YQ.i_ (by simp[qY]) hr) (fun r cur e fr hr he=>Jw r cur e fr hr (by rcases he with rfl|rfl|rfl|rfl<;>decide))
 have CV:∀{i:Nat} {q:jj},(ps++[p])[i]? =some q->ps[i]? =some q\/(i=ps.length/\q=p):=by
  intro i q hq;rcases aD i ps.length with hi|hi
  ·rw[aw hi]at hq;exact a_ hq
  ·rw[aF hi]at hq;obtain⟨z,hz⟩:∃z,i-ps.length=z:=⟨_,rfl⟩;rw[hz]at hq
   cases z with
   |zero=>
    simp only[cz,Option.some.injEq]at hq;exact aV ⟨by omega,hq.symm⟩
   |succ z=>simp at hq
 refine⟨YQ.i_,⟨YQ.Zg v4,cw (cw (cw h.XD hb.size) ud.size) Fk.size,?_,fun i q hq=>?_,fun i q r hq hr=>?_,fun i j q q' r js hq DX hr oq=>?_⟩,?_⟩
 ·have e1:lB (ps++[p])=lB ps++[ai (some ⟨p.sb,0,none⟩),ai (some ⟨p.rb,0,none⟩)]:=by simp[lB]
  rw[e1,List.length_append];exact jy kE Fk (fun q cur fr hq=>Jw q cur _ fr hq (by decide))
 ·rcases CV hq with hq|⟨_,rfl⟩
  ·exact BL (h1.pair i q hq)
  ·exact BL hP
 ·rcases CV hq with hq|⟨_,rfl⟩
  ·exact h.low i q r hq hr
  ·exact cw h.tj (hf r hr)
 ·rcases CV hq with h5|⟨e,e5⟩
  ·rcases CV DX with h6|⟨e',e6⟩
   ·exact h.apart i j q q' r js h5 h6 hr oq
   ·have h2:=(h.pair i q h5).lt hr;have h3:=hf r (by rw[<-e6];exact oq);omega
  ·rcases CV DX with h6|⟨e',e6⟩
   ·have h2:=(h.pair j q' h6).lt oq;have h3:=hf r (by rw[<-e5];exact hr);omega
   ·omega
 ·refine((ip.gS hb).andThen ud ?_).andThen Fk ?_
  ·intro q hq e;exact aV (ph h1.yz e)
  ·intro q hq e;exact a_ e
theorem VA{g:jG}(h:w.heap[rb]? =some (.cells (ij (oU g) (aj none 0 0) (aj none 0 0)) 242 (0,0))):iS w (oU g) rb [] [] (aj none 0 0) (aj none 0 0) 0 [] []:=
 ⟨h,aq _ _ _ _,aq _ _ _ _,⟨rfl,fun i x y hx=>(by simp at hx)⟩,rfl,rfl,List.nodup_nil,List.nodup_nil,fun i c cb sr hc=>(by simp[oU]at hc)⟩
def vz(g:jG)(sb cm rb:Nat):jj:=⟨sb,cm,aj none 0 0,[],[],[],rb,[],[],aj none 0 0,oU g⟩
theorem PX{g:jG}{B:Nat}(h1:B<=sb)(h2:B<=cm)(h3:B<=rb):∀q,(vz g sb cm rb).F q->B<=q:=by
 rintro q ((rfl|rfl|e|⟨i,cb,a,e,_⟩) |(rfl|e|e|e))
 ·exact h1
 ·exact h2
 ·simp[vz,ax]at e
 ·simp[vz]at e
 ·exact h3
 ·simp[vz]at e
 ·simp[vz]at e
 ·simp[vz,ax]at e
theorem Y1(w:World):(binOp .eql 37 (ai none) (ai none)).run ae w=.ok (.bool true) w:=by kernel_rfl
theorem Y2(w:World):(binOp .eql 124 (ai none) (ai none)).run ae w=.ok (.bool true) w:=by kernel_rfl
theorem Y3(w:World):(binOp .neq 124 (ai none) (ai none)).run ae w=.ok (.bool false) w:=by kernel_rfl
theorem Y4(b:Nat)(w:World):(binOp .eql 37 (ai (some ⟨b,0,none⟩)) (ai none)).run ae w=.ok (.bool false) w:=by kernel_rfl
theorem Y5(b:Nat)(w:World):(binOp .eql 124 (ai (some ⟨b,0,none⟩)) (ai none)).run ae w=.ok (.bool false) w:=by kernel_rfl
theorem Y6(b:Nat)(w:World):(binOp .neq 124 (ai (some ⟨b,0,none⟩)) (ai none)).run ae w=.ok (.bool true) w:=by kernel_rfl
theorem PZ(on a b nn:Int)(g:jG)(v:Value)(N:Nat)(M L:Int)(base bw k m:Nat)(lv vb vs:Value)(iq gX:List Value)(ps:List jj)(w:World)(h:jY N M L w base bw k m lv vb vs iq gX ps)(hM:0<=M)(hL:0<=L)(hn:ps.length<=1000000000000):
  Calls ae 62 #[ai (some ⟨bw,0,none⟩),.agg #[af ag 5,af ag on,af ag a,af ag b,af ag nn,af ag g.c0,af ag g.c1,af ag g.c2,af ag g.c3,af ag g.c4,af ag g.c5,af ag g.c6,af ag g.c7,af ag g.c8,af ag g.c9,v]] w
   fun e w'=>e=.returned (.bool true)/\(∃iX Zc,Zc.length<=ps.length+1/\ps.length<=Zc.length/\(g.right=true->0<Zc.length)/\jY N M L w' base bw k m iX vb vs iq gX Zc)/\ip (vX base bw) w w':=by
 obtain⟨i0,hi,mB,kS,ln⟩:=info_parts PK;obtain⟨al,cl,Fs⟩:=iA h.yz;subst Fs;have HH:=gE h;clear h;have HS:=gE (fun W=>Tt g W);have HR:=gE (fun W=>Ti g W);obtain⟨r,hr⟩:∃r,g.right=r:=⟨_,rfl⟩;unfold B6 at HS;unfold F9 at HR;rw[hr]at HS HR;have HRr:=gE hr;clear hr;go_enter func62,ntmps62;go_wp2_with fail;have kf:=gH w (.cells #[af ag 5,af ag on,af ag a,af ag b,af ag nn,af ag g.c0,af ag g.c1,af ag g.c2,af ag g.c3,af ag g.c4,af ag g.c5,af ag g.c6,af ag g.c7,af ag g.c8,af ag g.c9,v] 90);refine(HS.out _).mono ?_
 cases r with
 |false=>
  rintro e w1 ⟨rfl,im⟩;have q5:=(iM im).1 5;have q6:=(iM im).1 6;have q7:=(iM im).1 7;have q8:=(iM im).1 8;have q9:=(iM im).1 9;have Mw:=(iM im).1 10;have Tb:=(iM im).1 11;have Tc:=(iM im).1 12;have Td:=(iM im).1 13;have Te:=(iM im).1 14;simp at q5 q6 q7 q8 q9 Mw Tb Tc Td Te;go_wp2_with fail;refine(HR.out _).mono ?_;rintro e w2 ⟨rfl,iT⟩;have pg:=gI kf (gI im iT);clear q5 q6 q7 q8 q9 Mw Tb Tc Td Te im iT;have n1:=Y1;have n2:=Y2;have n3:=Y3;have HB:=gE pg;clear pg kf;go_wp2_with (go_at_call 110;refine(qj _ _).mono ?_;rintro e w' ⟨rfl,rfl⟩);go_ret;exact⟨rfl,⟨_,ps,by omega,by omega,fun h=>(by rw[HRr.out]at h;cases h),HH.out.below HB.out⟩,ip.gS HB.out⟩
 |true=>
  rintro e w1 ⟨sb,cm,rfl,hP,xF,nN,im⟩;have q5:=(iM im).1 5;have q6:=(iM im).1 6;have q7:=(iM im).1 7;have q8:=(iM im).1 8;have q9:=(iM im).1 9;have Mw:=(iM im).1 10;have Tb:=(iM im).1 11;have Tc:=(iM im).1 12;have Td:=(iM im).1 13;have Te:=(iM im).1 14;simp at q5 q6 q7 q8 q9 Mw Tb Tc Td Te;go_wp2_with fail;refine(HR.out _).mono ?_;rintro e w2 ⟨rb,rfl,Ae,iT,vP⟩;have BC:=gI im iT;have pg:=gI kf BC;have JG:=im.size;have Vo:w.heap.size<=(w.alloc (.cells #[af ag 5,af ag on,af ag a,af ag b,af ag nn,af ag g.c0,af ag g.c1,af ag g.c2,af ag g.c3,af ag g.c4,af ag g.c5,af ag g.c6,af ag g.c7,af ag g.c8,af ag g.c9,v] 90)).heap.size:=kf.size;have hPA:kX N M L w2 (vz g sb cm rb):=⟨(hP.below iT).mono (aI _),⟨_,_,_,_,VA vP⟩,(Vz (jG.To HRr.out)).mono hM hL⟩;have hFr:=PX (g:=g) (cw Vo xF) (cw Vo nN) (cw Vo (cw JG Ae));have HP:=gE hPA;have HF:=gE hFr;clear q5 q6 q7 q8 q9 Mw Tb Tc Td Te im iT hP xF nN Ae vP BC JG Vo hPA hFr;have n1:=Y4;have n2:=Y5;have n3:=Y6;have HB:=gE pg;have NT:=(HH.out.below pg).yz;have abA:base<=w2.heap.size:=cw HH.out.tj pg.size;have c0:w2.cell? ⟨bw,0,none⟩= some (.slice al ps.length cl):=by simp[aX,(HH.out.below pg).wl.i_]
  clear pg kf;go_wp2_with (first |(go_at_call 110;refine(qj _ _).mono ?_;rintro e w' ⟨rfl,rfl⟩) |(at_builtin;refine qO rfl _ _ 82 rfl base 126 i0 (.agg #[ai none,ai none]) 2 16 underlying82 hi mB kS ln rfl (by decide) (.slice al ps.length cl) ps.length (lB ps) rfl (NT.alloc _) ⟨w2.heap.size,0,none⟩ 1 1 [ai (some ⟨sb,0,none⟩),ai (some ⟨rb,0,none⟩)] rfl rfl (iZ w2 126 [ai (some ⟨sb,0,none⟩),ai (some ⟨rb,0,none⟩)] (by simp[maxLen])) (by simp[bK]) (by unfold maxLen;omega) (by omega) (by simp;omega) ?_;intro v4 w4 ki Fp _;refine Hid.out ?_));refine gE ?_;obtain⟨BB,m_,yr⟩:=Me HH.out HB.out HP.out HF.out ki Fp;have ud:w4.cell? ⟨bw,0,none⟩= some (.slice al ps.length cl):=by simp[aX,BB]
  have hf4:w4.frozen? ⟨bw,0,none⟩= false:=frozen_of_row w4 bw 0 _ _ BB;obtain⟨a4,c4,rfl⟩:=iA ki;have HI4:=gE m_;have HL4:=gE yr;clear ki Fp BB m_ yr NT c0 n1 n2 n3;go_wp2_with fail;go_ret;exact⟨rfl,⟨_,_,by simp,by simp,fun _=>by simp,HI4.out⟩,HL4.out⟩
def th(N:Nat)(M L:Int)(base bw k m n:Nat)(w w':World):Prop:=(∃k' m' lv vb vs iq gX ps,k'<=k+4004/\m'<=m+4/\ps.length<=n+1/\n<=ps.length/\jY N M L w' base bw k' m' lv vb vs iq gX ps)/\ip (vX base bw) w w'
theorem jY.out{ps:List jj}(h:jY N M L w' base bw k m lv vb vs iq gX ps)(hn:ps.length=n)(hc:ip (vX base bw) w w'):th N M L base bw k m n w w':=⟨⟨k,m,lv,vb,vs,iq,gX,ps,by omega,by omega,by omega,by omega,h⟩,hc⟩
def PW(p:jj)(bw:Nat)(vb vs:Value)(q:Nat):Prop:=p.F q\/tI bw vb vs q
def nU(N:Nat)(M L:Int)(base bw k m n:Nat)(lv:Value)(F:Nat->Prop)(w w':World):Prop:=(∃k' m' vb vs iq gX ps,k'<=k+4004/\m'<=m+4/\ps.length=n/\jY N M L w' base bw k' m' lv vb vs iq gX ps)/\ip F w w'
theorem jY.Dz{F:Nat->Prop}{ps:List jj}(h:jY N M L w' base bw k m lv vb vs iq gX ps)(hn:ps.length=n)(hc:ip F w w'):nU N M L base bw k m n lv F w w':=⟨⟨k,m,vb,vs,iq,gX,ps,by omega,by omega,hn,h⟩,hc⟩
theorem nU.pre{F:Nat->Prop}(h:nU N M L base bw k m n lv F w0 w')(hb:Below w.heap.size w w0):nU N M L base bw k m n lv F w w':=⟨h.1,(ip.gS hb).trans h.2⟩
theorem nU.step{F:Nat->Prop}(h:nU N M L base bw k m n lv F w w')(hF:∀q,F q->vX base bw q):th N M L base bw k m n w w':=by
 obtain⟨⟨k',m',vb,vs,iq,gX,ps,h1,h2,h3,h4⟩,hc⟩:=h;exact⟨⟨k',m',lv,vb,vs,iq,gX,ps,h1,h2,by omega,by omega,h4⟩,hc.mono fun q _ e=>hF q e⟩
theorem jY.abT{ps:List jj}(h:jY N M L w base bw k m lv vb vs iq gX ps){p:jj}(hi:ps[i]? =some p)(q:Nat)(hq:PW p bw vb vs q):vX base bw q:=by
 rcases hq with e|e|e|e
 ·exact aV (h.low i p q hi e)
 ·exact a_ e
 ·exact aV (ph h.wl.tJ e)
 ·exact aV (ph h.wl.xf e)
theorem nx.mem{g:jG}(h:nx g):(0<=g.c1/\g.c1<=4096)/\(0<=g.c3/\g.c3<=8):=by
 have h1:=h.c1;have h3:=h.c3;omega
theorem GV{p:jj}(h:kX N M L w p):Calls ae 28 #[ai (some ⟨p.sb,0,none⟩)] w fun e w'=>e=.returned (af ag (nP p.s))/\Below w.heap.size w w':=by
 obtain⟨n,_,hm⟩:=h.prog.map;have hl:((p.s.gG.map (·.gL)).zip p.gP).length=p.s.gG.length:=by simp[h.prog.j7]
 have hf:=h.inv.BA;have qs:=h.inv.cfg.c0;refine(xd p.sb p.s.c p.s.now p.cm p.wv n _ w h.prog.i_ hm (by rw[hl];omega) h.inv.cfg.mem.1 h.inv.cfg.mem.2).mono ?_;rintro e w' ⟨rfl,q,rfl⟩;rw[hl];exact⟨rfl,gK (Below.refl _ _) q⟩
theorem GU{p:jj}(h:kX N M L w p):Calls ae 121 #[ai (some ⟨p.rb,0,none⟩)] w fun e w'=>e=.returned (af ag (nP p.s))/\Below w.heap.size w w':=by
 obtain⟨ov,ob,out,gN,hr⟩:=h.ref;have hf:=h.inv.BA;have qs:=h.inv.cfg.c0;refine(Mz p.s p.rb ob p.wX p.iJ p.cv ov out gN w hr h.inv.cfg (by omega)).mono ?_;rintro e w' ⟨rfl,_,hb⟩;exact⟨rfl,hb⟩
theorem Ew(on a b nn c0 c1 c2 c3 c4 c5 c6 c7 c8 c9:Int)(v:Value)(N:Nat)(M L:Int)(base bw k m:Nat)(lv vb vs:Value)(iq gX:List Value)(ps:List jj)(i:Nat)(p:jj)(w:World)(h:jY N M L w base bw k m lv vb vs iq gX ps)(hi:ps[i]? =some p):
  Calls ae 63 #[ai (some ⟨bw,0,none⟩),.agg #[ai (some ⟨p.sb,0,none⟩),ai (some ⟨p.rb,0,none⟩)],.agg #[af ag 8,af ag on,af ag a,af ag b,af ag nn,af ag c0,af ag c1,af ag c2,af ag c3,af ag c4,af ag c5,af ag c6,af ag c7,af ag c8,af ag c9,v]] w
   fun e w'=>e=.returned (.bool true)/\nU N M L base bw k m ps.length lv (PW p bw vb vs) w w':=by
 have HS:Hid (∀W,Below w.heap.size w W->Calls ae 28 #[ai (some ⟨p.sb,0,none⟩)] W fun e w'=>e=.returned (af ag (nP p.s))/\Below W.heap.size W w'):=fun W hW=>GV ((h.pair i p hi).below hW)
 have HR:Hid (∀W,Below w.heap.size w W->Calls ae 121 #[ai (some ⟨p.rb,0,none⟩)] W fun e w'=>e=.returned (af ag (nP p.s))/\Below W.heap.size W w'):=fun W hW=>GU ((h.pair i p hi).below hW)
 have HH:=gE h;clear h;go_enter func63,ntmps63;go_wp2_with fail;have kf:=gI (gH w (.cells #[ai (some ⟨p.sb,0,none⟩),ai (some ⟨p.rb,0,none⟩)] 126)) (gH (w.alloc (.cells #[ai (some ⟨p.sb,0,none⟩),ai (some ⟨p.rb,0,none⟩)] 126)) (.cells #[af ag 8,af ag on,af ag a,af ag b,af ag nn,af ag c0,af ag c1,af ag c2,af ag c3,af ag c4,af ag c5,af ag c6,af ag c7,af ag c8,af ag c9,v] 90));refine(HS.out _ kf).mono ?_;rintro e w1 ⟨rfl,im⟩;have q1:=im.cell (p:=⟨w.heap.size,1,none⟩) (by simp;omega);simp at q1;have zu:=gI kf im;go_wp2_with fail;refine(HR.out _ zu).mono ?_;rintro e w2 ⟨rfl,iT⟩;have HB:=gE (gI zu iT);clear q1 kf im iT zu;generalize nP p.s=x;go_wp2_with fail;go_ret;exact⟨rfl,(HH.out.below HB.out).Dz rfl (ip.gS HB.out)⟩
theorem kX.sN{p:jj}(h:kX N M L w p)(hc:ip (lh p.sb p.cm p.wv p.gP p.xs) w w1):∃ov ob out gN,iS w1 p.s p.rb p.wX p.iJ p.cv ov ob out gN:=by
 obtain⟨ov,ob,out,gN,hr⟩:=h.ref;refine⟨ov,ob,out,gN,hr.UJ hc (fun q hq hF=>?_) (fun q cur fr hq=>q_ h.prog hq (a_ (by simp[qY]))) (fun q cur fr hq=>q_ h.prog hq (a_ (by simp[qY]))) (fun q cur e fr _ hq he=>q_ h.prog hq (a_ (by rcases he with rfl|rfl<;>simp[qY])))⟩;obtain⟨cur,e,h1,h2⟩:=xl hr hq;exact q_ h.prog h1 (aV h2) hF
theorem jt.sN(h:jt N w sb s cm wv gP xs ws){s2:ik}{wX:List Nat}{out:List (Int×Value)}(hr:iS w s2 rb wX iJ cv ov ob out gN)(hc:ip (D6 rb wX iJ cv) w w1):jt N w1 sb s cm wv gP xs ws:=by
 refine h.iO hc (fun q hq hF=>?_) (fun q cur fr hq=>ug hr hq (by simp[qY]));obtain⟨cur,e,h1,h2⟩:=xl hr hF;exact q_ h h1 (aV h2) hq
theorem AM{p:jj}{s':ik}{kV:Value}{iW:List Nat}{nl:List iP}{nS:List Nat}{N5 nw:List Nat}{ou su:Value}{ob':Nat}{out mr:List (Int×Value)}{zN:List (Int×List Int)}(hP:jt N w1 p.sb s' p.cm kV iW nl nS)(nz:∀q,lh p.sb p.cm kV iW nl q->lh p.sb p.cm p.wv p.gP p.xs q\/w.heap.size<=q)(km:ip (lh p.sb p.cm p.wv p.gP p.xs) w w1)
  (ue:iS w1 p.s p.rb p.wX p.iJ p.cv ov ob out gN) (vi:iS w2 s' p.rb N5 nw ou su ob' mr zN) (nr:ip (D6 p.rb p.wX p.iJ p.cv) w1 w2) (Vd:∀q,D6 p.rb N5 nw ou q->D6 p.rb p.wX p.iJ p.cv q\/w.heap.size<=q) (m_:iQ M L s'):
  kX N M L w2 ⟨p.sb,p.cm,kV,iW,nl,nS,p.rb,N5,nw,ou,s'⟩/\ip p.F w w2/\∀q,(jj.mk p.sb p.cm kV iW nl nS p.rb N5 nw ou s').F q->p.F q\/w.heap.size<=q:=by
 refine⟨⟨hP.sN ue nr,⟨_,_,_,_,vi⟩,m_⟩,(km.mono fun q _ e=>a_ e).andThen nr (fun q _ e=>aV e),?_⟩;rintro q (e|e)
 ·exact(nz q e).imp a_ id
 ·exact(Vd q e).imp aV id
theorem Md{ps:List jj}{p:jj}{e:Ending}(h:jY N M L w base bw k m lv vb vs iq gX ps)(hi:ps[i]? =some p)(hA:D7 N w p.sb p.cm p.wv p.gP p.xs (lR p.s).2.2 v e w1)(hb:Below w1.heap.size w1 sA):
  Calls ae 122 #[ai (some ⟨p.rb,0,none⟩)] sA fun e w'=>e=.returned (.tuple #[af ag (lR p.s).1,af ag (lR p.s).2.1])/\nU N M L base bw k m ps.length lv (PW p bw vb vs) w w':=by
 have hp:=h.pair i p hi;obtain⟨kV,iW,nl,nS,hP,nz,_⟩:=hA.ex;obtain⟨ov,ob,out,gN,ue⟩:=hp.sN hA.iO;have AC:=ue.below hb;have hf:=hp.inv.BA;have qs:=hp.inv.cfg.c0;refine(Mx p.s p.rb ob p.wX p.iJ p.cv ov out gN sA AC (by omega)).mono ?_;rintro e w2 ⟨rfl,vi,nr⟩;have hcA:ip (lh p.sb p.cm p.wv p.gP p.xs) w sA:=hA.iO.trans (ip.gS hb);obtain⟨Cc,hc,hF⟩:=AM (hP.below hb) nz hcA AC vi (nr.mono fun q _ e=>aV (a_ e)) (fun q e=>a_ e) (Lc hp.inv);exact⟨rfl,(h.Ub hi hc Cc hF rfl rfl).Dz (by simp) (hc.mono fun q _ e=>a_ e)⟩
theorem PO{ps:List jj}{p:jj}{e:Ending}(h:jY N M L w base bw k m lv vb vs iq gX ps)(hi:ps[i]? =some p)(rQ:p.s.now<=now)(uC:now<=1000000000)(hA:D7 N w p.sb p.cm p.wv p.gP p.xs (Ao p.s now) v e w1)(hb:Below w1.heap.size w1 sA):
  Calls ae 120 #[ai (some ⟨p.rb,0,none⟩),af ag now] sA fun e w'=>e=.returned (af ag 0)/\nU N M L base bw k m ps.length lv (PW p bw vb vs) w w':=by
 have hp:=h.pair i p hi;obtain⟨kV,iW,nl,nS,hP,nz,_⟩:=hA.ex;obtain⟨ov,ob,out,gN,ue⟩:=hp.sN hA.iO;have AC:=ue.below hb;have hf:=hp.inv.BA;have qs:=hp.inv.cfg.c0;have td:=hp.inv.now;have uD:=hA.iO.size;have Cd:=hb.size;refine(P1 p.s now p.rb ob p.wX p.iJ p.cv ov out gN sA AC (by omega) (fun c hc=>(hp.inv.ok c hc).heard) td.1 rQ uC).mono ?_;rintro e w2 ⟨rfl,IK,aee,Ny,vi,nr,hi1,T3,hi3⟩;have hcA:ip (lh p.sb p.cm p.wv p.gP p.xs) w sA:=hA.iO.trans (ip.gS hb)
 obtain⟨Cc,hc,hF⟩:=AM (hP.below hb) nz hcA AC vi (nr.mono fun q _ e=>a_ e) (fun q e=>by
  rcases e with e|e|e|e
  ·exact a_ (a_ e)
  ·exact a_ (aV (a_ (hi1 q e)))
  ·exact a_ (aV (aV (a_ (T3 q e))))
  ·rcases hi3 q e with e|e
   ·exact a_ (aV (aV (aV e)))
   ·exact aV (by omega)) (OG hp.inv ⟨by omega,uC⟩)
 exact⟨rfl,(h.Ub hi hc Cc hF rfl rfl).Dz (by simp) (hc.mono fun q _ e=>a_ e)⟩
theorem oH{p:jj}(h:kX N M L w p)(hc:ip (lh p.sb p.cm p.wv p.gP p.xs) w0 w1)(h1:w.heap.size<=q)(h2:q<w0.heap.size)(j:Nat):w1.cell? ⟨q,j,none⟩= w0.cell? ⟨q,j,none⟩:=
 World.cell?_of_block (w:=w0) (a:=⟨q,j,none⟩) (hc.block q h2 fun e=>by have:=h.lt (a_ e);omega)
theorem Em{ps:List jj}{p:jj}{e:Ending}(h:jY N M L w base bw k m lv vb vs iq gX ps)(hi:ps[i]? =some p)(hn:now<p.s.now\/1000000000<now)(hA:D7 N w p.sb p.cm p.wv p.gP p.xs p.s v e w1)(hb:Below w1.heap.size w1 sA):
  Calls ae 120 #[ai (some ⟨p.rb,0,none⟩),af ag now] sA fun e w'=>e=.returned (af ag 2)/\nU N M L base bw k m ps.length lv (PW p bw vb vs) w w':=by
 have hp:=h.pair i p hi;obtain⟨kV,iW,nl,nS,hP,nz,_⟩:=hA.ex;obtain⟨ov,ob,out,gN,ue⟩:=hp.sN hA.iO;have AC:=ue.below hb;refine(My p.s now p.rb sA (by simp[aX,AC.lf,ij,jG.cells]) hn).mono ?_;rintro e w2 ⟨rfl,rfl⟩;have hcA:ip (lh p.sb p.cm p.wv p.gP p.xs) w sA:=hA.iO.trans (ip.gS hb);obtain⟨Cc,hc,hF⟩:=AM (hP.below hb) nz hcA AC AC (ip.refl _ _) (fun q e=>a_ e) hp.inv;exact⟨rfl,(h.Ub hi hc Cc hF rfl rfl).Dz (by simp) (hc.mono fun q _ e=>a_ e)⟩
theorem Mf(s:ik)(gL:Int):∃b x1 x2 x3 x4 x5 y,oO s gL=(#[.bool b,af ag x1,af ag x2,af ag x3,af ag x4,af ag x5],y):=by
 unfold oO
 split
 ·exact⟨_,_,_,_,_,_,_,rfl⟩
 ·split
  ·exact⟨_,_,_,_,_,_,_,rfl⟩
  ·exact⟨_,_,_,_,_,_,_,rfl⟩
theorem Ev(on a b nn c0 c1 c2 c3 c4 c5 c6 c7 c8 c9:Int)(v:Value)(N:Nat)(M L:Int)(base bw k m:Nat)(lv vb vs:Value)(iq gX:List Value)(ps:List jj)(i:Nat)(p:jj)(w:World)(h:jY N M L w base bw k m lv vb vs iq gX ps)(hi:ps[i]? =some p):
  Calls ae 63 #[ai (some ⟨bw,0,none⟩),.agg #[ai (some ⟨p.sb,0,none⟩),ai (some ⟨p.rb,0,none⟩)],.agg #[af ag 9,af ag on,af ag a,af ag b,af ag nn,af ag c0,af ag c1,af ag c2,af ag c3,af ag c4,af ag c5,af ag c6,af ag c7,af ag c8,af ag c9,v]] w
   fun e w'=>e=.returned (.bool true)/\nU N M L base bw k m ps.length lv (PW p bw vb vs) w w':=by
 have HH:=gE h;clear h;go_enter func63,ntmps63;go_wp2_with fail;have kf:=gI (gH w (.cells #[ai (some ⟨p.sb,0,none⟩),ai (some ⟨p.rb,0,none⟩)] 126)) (gH (w.alloc (.cells #[ai (some ⟨p.sb,0,none⟩),ai (some ⟨p.rb,0,none⟩)] 126)) (.cells #[af ag 9,af ag on,af ag a,af ag b,af ag nn,af ag c0,af ag c1,af ag c2,af ag c3,af ag c4,af ag c5,af ag c6,af ag c7,af ag c8,af ag c9,v] 90));have h0:=HH.out.below kf;have we:=h0.pair i p hi;refine(Kn N p.sb p.s p.cm p.wv p.gP p.xs p.ws _ we.prog we.inv).mono ?_;intro e w1 hA;have q1:=oH (HH.out.pair i p hi) hA.iO (q:=w.heap.size) (ay _) (by simp;omega) 1;simp at q1;have HR:=gE (Md h0 hi hA (Below.refl _ w1));obtain rfl:=hA.ret;have HB:=gE kf;clear hA h0 we kf;go_wp2_with fail;refine HR.out.mono ?_;rintro e w2 ⟨rfl,hO⟩;have HO:=gE hO;clear HR hO q1;generalize (lR p.s).1=x1;generalize (lR p.s).2.1=x2;go_wp2_with (go_at_call 110;refine(qj _ _).mono ?_;rintro e w' ⟨rfl,rfl⟩);go_ret;exact⟨rfl,HO.out.pre HB.out⟩
theorem G'(on a b nn c0 c1 c2 c3 c4 c5 c6 c7 c8 c9:Int)(v:Value)(N:Nat)(M L:Int)(base bw k m:Nat)(lv vb vs:Value)(iq gX:List Value)(ps:List jj)(i:Nat)(p:jj)(w:World)(h:jY N M L w base bw k m lv vb vs iq gX ps)(hi:ps[i]? =some p)(hn:p.s.now<=a/\a<=1000000000):
  Calls ae 63 #[ai (some ⟨bw,0,none⟩),.agg #[ai (some ⟨p.sb,0,none⟩),ai (some ⟨p.rb,0,none⟩)],.agg #[af ag 7,af ag on,af ag a,af ag b,af ag nn,af ag c0,af ag c1,af ag c2,af ag c3,af ag c4,af ag c5,af ag c6,af ag c7,af ag c8,af ag c9,v]] w
   fun e w'=>e=.returned (.bool true)/\nU N M L base bw k m ps.length lv (PW p bw vb vs) w w':=by
 have HH:=gE h;have Hn:=gE hn;clear h hn;go_enter func63,ntmps63;go_wp2_with fail;have kf:=gI (gH w (.cells #[ai (some ⟨p.sb,0,none⟩),ai (some ⟨p.rb,0,none⟩)] 126)) (gH (w.alloc (.cells #[ai (some ⟨p.sb,0,none⟩),ai (some ⟨p.rb,0,none⟩)] 126)) (.cells #[af ag 7,af ag on,af ag a,af ag b,af ag nn,af ag c0,af ag c1,af ag c2,af ag c3,af ag c4,af ag c5,af ag c6,af ag c7,af ag c8,af ag c9,v] 90));have h0:=HH.out.below kf;have we:=h0.pair i p hi;refine(ML N p.sb p.s p.cm p.wv p.gP p.xs p.ws a _ we.prog we.inv Hn.out.1 Hn.out.2).mono ?_;intro e w1 hA;have q1:=oH (HH.out.pair i p hi) hA.iO (q:=w.heap.size) (ay _) (by simp;omega) 1;have q2:=oH (HH.out.pair i p hi) hA.iO (q:=w.heap.size+1) (by omega) (by simp) 2;simp at q1 q2;have HR:=gE (PO h0 hi Hn.out.1 Hn.out.2 hA (Below.refl _ w1));obtain rfl:=hA.ret;have HB:=gE kf;clear hA h0 we kf;go_wp2_with fail;refine HR.out.mono ?_;rintro e w2 ⟨rfl,hO⟩;have HO:=gE hO;clear HR hO q1 q2;go_wp2_with (go_at_call 110;refine(qj _ _).mono ?_;rintro e w' ⟨rfl,rfl⟩);go_ret;exact⟨rfl,HO.out.pre HB.out⟩
theorem AZ(on a b nn c0 c1 c2 c3 c4 c5 c6 c7 c8 c9:Int)(v:Value)(N:Nat)(M L:Int)(base bw k m:Nat)(lv vb vs:Value)(iq gX:List Value)(ps:List jj)(i:Nat)(p:jj)(w:World)(h:jY N M L w base bw k m lv vb vs iq gX ps)(hi:ps[i]? =some p)(hn:a<p.s.now\/1000000000<a):
  Calls ae 63 #[ai (some ⟨bw,0,none⟩),.agg #[ai (some ⟨p.sb,0,none⟩),ai (some ⟨p.rb,0,none⟩)],.agg #[af ag 7,af ag on,af ag a,af ag b,af ag nn,af ag c0,af ag c1,af ag c2,af ag c3,af ag c4,af ag c5,af ag c6,af ag c7,af ag c8,af ag c9,v]] w
   fun e w'=>e=.returned (.bool true)/\nU N M L base bw k m ps.length lv (PW p bw vb vs) w w':=by
 have HH:=gE h;have Hn:=gE hn;clear h hn;go_enter func63,ntmps63;go_wp2_with fail;have kf:=gI (gH w (.cells #[ai (some ⟨p.sb,0,none⟩),ai (some ⟨p.rb,0,none⟩)] 126)) (gH (w.alloc (.cells #[ai (some ⟨p.sb,0,none⟩),ai (some ⟨p.rb,0,none⟩)] 126)) (.cells #[af ag 7,af ag on,af ag a,af ag b,af ag nn,af ag c0,af ag c1,af ag c2,af ag c3,af ag c4,af ag c5,af ag c6,af ag c7,af ag c8,af ag c9,v] 90));have h0:=HH.out.below kf;have we:=h0.pair i p hi;refine(MM N p.sb p.s p.cm p.wv p.gP p.xs p.ws a _ we.prog Hn.out).mono ?_;intro e w1 hA;have q1:=oH (HH.out.pair i p hi) hA.iO (q:=w.heap.size) (ay _) (by simp;omega) 1;have q2:=oH (HH.out.pair i p hi) hA.iO (q:=w.heap.size+1) (by omega) (by simp) 2;simp at q1 q2;have HR:=gE (Em h0 hi Hn.out hA (Below.refl _ w1));obtain rfl:=hA.ret;have HB:=gE kf;clear hA h0 we kf;go_wp2_with fail;refine HR.out.mono ?_;rintro e w2 ⟨rfl,hO⟩;have HO:=gE hO;clear HR hO q1 q2;go_wp2_with (go_at_call 110;refine(qj _ _).mono ?_;rintro e w' ⟨rfl,rfl⟩);go_ret;exact⟨rfl,HO.out.pre HB.out⟩
theorem Ko(on a b nn c0 c1 c2 c3 c4 c5 c6 c7 c8 c9:Int)(v:Value)(N:Nat)(M L:Int)(base bw k m:Nat)(lv vb vs:Value)(iq gX:List Value)(ps:List jj)(i:Nat)(p:jj)(w:World)(h:jY N M L w base bw k m lv vb vs iq gX ps)(hi:ps[i]? =some p)(ha:-9223372036854775808<=a/\a<=9223372036854775807):
  Calls ae 63 #[ai (some ⟨bw,0,none⟩),.agg #[ai (some ⟨p.sb,0,none⟩),ai (some ⟨p.rb,0,none⟩)],.agg #[af ag 10,af ag on,af ag a,af ag b,af ag nn,af ag c0,af ag c1,af ag c2,af ag c3,af ag c4,af ag c5,af ag c6,af ag c7,af ag c8,af ag c9,v]] w
   fun e w'=>e=.returned (.bool true)/\nU N M L base bw k m ps.length lv (PW p bw vb vs) w w':=by
 have HS:Hid (∀W,Below w.heap.size w W->Calls ae 16 #[ai (some ⟨p.sb,0,none⟩),af ag a] W fun e w'=>e=.returned (.tuple #[.agg (oO p.s a).1,af ag (oO p.s a).2])/\Below W.heap.size W w'):=fun W hW=>Qi N p.sb p.s p.cm p.wv p.gP p.xs p.ws a W ((h.pair i p hi).below hW).prog (h.pair i p hi).inv ha
 have HR:Hid (∀W,Below w.heap.size w W->Calls ae 123 #[ai (some ⟨p.rb,0,none⟩),af ag a] W fun e w'=>e=.returned (.tuple #[.agg (oO p.s a).1,af ag (oO p.s a).2])/\Below W.heap.size W w'):=fun W hW=>by
  obtain⟨ov,ob,out,gN,hr⟩:=((h.pair i p hi).below hW).ref;exact Th p.s a p.rb ob p.wX p.iJ p.cv ov out gN W hr (h.pair i p hi).inv
 obtain⟨b1,x1,x2,x3,x4,x5,y,hl⟩:=Mf p.s a;rw[hl]at HS HR;have HH:=gE h;clear h hl;go_enter func63,ntmps63;go_wp2_with fail;have kf:=gI (gH w (.cells #[ai (some ⟨p.sb,0,none⟩),ai (some ⟨p.rb,0,none⟩)] 126)) (gH (w.alloc (.cells #[ai (some ⟨p.sb,0,none⟩),ai (some ⟨p.rb,0,none⟩)] 126)) (.cells #[af ag 10,af ag on,af ag a,af ag b,af ag nn,af ag c0,af ag c1,af ag c2,af ag c3,af ag c4,af ag c5,af ag c6,af ag c7,af ag c8,af ag c9,v] 90));refine(HS.out _ kf).mono ?_;rintro e w1 ⟨rfl,im⟩;have q1:=im.cell (p:=⟨w.heap.size,1,none⟩) (by simp;omega);have q2:=im.cell (p:=⟨w.heap.size+1,2,none⟩) (by simp);simp at q1 q2
 have uD:w.heap.size+1<w1.heap.size:=by
  have:=im.size;simp at this;omega
 have hbX:=gH w1 (.cells #[.bool b1,af ag x1,af ag x2,af ag x3,af ag x4,af ag x5] 34);have q1a:=(hbX.cell (p:=⟨w.heap.size,1,none⟩) (by show w.heap.size<w1.heap.size;omega)).trans q1;have q2a:=(hbX.cell (p:=⟨w.heap.size+1,2,none⟩) (by show w.heap.size+1<w1.heap.size;omega)).trans q2;clear hbX;have zu:=gI (gI kf im) (gH w1 (.cells #[.bool b1,af ag x1,af ag x2,af ag x3,af ag x4,af ag x5] 34));go_wp2_with fail;refine(HR.out _ zu).mono ?_;rintro e w2 ⟨rfl,iT⟩;have r0:=iT.cell (p:=⟨w1.heap.size,0,none⟩) (by simp);have r1:=iT.cell (p:=⟨w1.heap.size,1,none⟩) (by simp);have r2:=iT.cell (p:=⟨w1.heap.size,2,none⟩) (by simp);have r3:=iT.cell (p:=⟨w1.heap.size,3,none⟩) (by simp);have r4:=iT.cell (p:=⟨w1.heap.size,4,none⟩) (by simp);have r5:=iT.cell (p:=⟨w1.heap.size,5,none⟩) (by simp);simp at r0 r1 r2 r3 r4 r5;have hbY:=iT
 have Cd:w1.heap.size<w2.heap.size:=by
  have:=iT.size;simp at this;omega
 clear hbY;have XT:=gH w2 (.cells #[.bool b1,af ag x1,af ag x2,af ag x3,af ag x4,af ag x5] 34);have s0:=(XT.cell (p:=⟨w1.heap.size,0,none⟩) Cd).trans r0;have s1:=(XT.cell (p:=⟨w1.heap.size,1,none⟩) Cd).trans r1;have s2:=(XT.cell (p:=⟨w1.heap.size,2,none⟩) Cd).trans r2;have s3:=(XT.cell (p:=⟨w1.heap.size,3,none⟩) Cd).trans r3;have s4:=(XT.cell (p:=⟨w1.heap.size,4,none⟩) Cd).trans r4;have s5:=(XT.cell (p:=⟨w1.heap.size,5,none⟩) Cd).trans r5;clear XT;have HB:=gE (gI (gI zu iT) (gH w2 (.cells #[.bool b1,af ag x1,af ag x2,af ag x3,af ag x4,af ag x5] 34)));clear q1 q2 q1a q2a kf im iT zu uD;go_wp2_with (go_at_call 110;refine(qj _ _).mono ?_;rintro e w' ⟨rfl,rfl⟩);go_ret;exact⟨rfl,(HH.out.below HB.out).Dz rfl (ip.gS HB.out)⟩
theorem UG(l:List Int)(ad:Addr)(cap g:Nat)(w:World)(hl:iF l)(hm:l.length<=140737488355328)(hg:w.heap[g]? =some (.cells (U8 (l++[77])).toArray 5 (0,0)))
  (hc:∀j,j<l.length->∃b off,ad =⟨b,off,none⟩/\w.cell? ⟨b,off+j,none⟩= some (.int .u8 (l.getD j 0))):
  Calls ae 114 #[aj (some ⟨g,0,none⟩) l.length (l.length+1),aj (some ad) l.length cap] w fun e w'=>e=.returned (.bool true)/\ip (· = g) w w':=by
 have js:=Hf;have mx:w.cell? ⟨g,l.length,none⟩= some (.int .u8 77):=by simp[aX,hg,U8]
 have O7:∀j,j<l.length->w.cell? ⟨g,j,none⟩= some (.int .u8 (l.getD j 0)):=by
  intro j hj;simp only[aX,hg,U8,List.getD,am hj,Option.getD_some];simp[aw,hj]
 have HC:=gE hc;have HJ:=gE O7;have HG:=gE hg;clear hc O7 hg;go_enter func114,ntmps114
 go_wp2
 go_loopw [6,7] (fun ok i wr=>∃k m:Nat,k<=l.length/\i=af ag k/\ok=.bool true/\wr=w.drewN m) (fun _ i _=>l.length-(intOf i).toNat)
 case atStart=>exact⟨0,0,aI _,rfl,rfl,rfl⟩
 case round=>
  obtain⟨k,m,hk,rfl,rfl,rfl⟩:=hrel;by_cases jp:k<l.length
  ·obtain⟨b,off,rfl,h1⟩:=HC.out k jp;have h2:=HJ.out k jp;have hr:=j9 hl k;generalize l.getD k 0=c at h1 h2 hr
   go_wp2
   go_quiet (fail)
   go_wp2
   go_roundw
   case rel=>exact⟨k+1,_,by omega,by go_num,rfl,rfl⟩
   case measure=>simp[intOf];omega
  ·obtain rfl:k=l.length:=by omega
   have gY:(w.drewN m).ownsRow g 5 1 (aj (some ⟨g,0,none⟩) (l.length+1) (l.length+1)) (l.length+1) (U8 (l++[77])):=
    ⟨by simp[U8],.inr ⟨g,l.length+1,_,rfl,ay _,HG.out,ay _,by unfold maxLen;omega,by simp[U8],by rw[bL (by simp[U8])]⟩⟩
   have qQ:ip (· = g) w (w.drewN m):=⟨rfl,rfl,rfl,ay _,fun _ _ _=>rfl⟩;have HO:=gE gY;clear gY HC HJ HG mx;generalize w.drewN m=w1 at qQ HO⊢;generalize U8 (l++[77])=ys0 at HO
   go_wp2
   go_loopw [8] (fun i wr=>∃(j:Nat) (ys:List Value),j<=l.length+1/\i=af ag j/\wr.ownsRow g 5 1 (aj (some ⟨g,0,none⟩) (l.length+1) (l.length+1)) (l.length+1) ys/\ip (· = g) w wr) (fun i _=>l.length+1-(intOf i).toNat)
   case atStart=>exact⟨0,_,aI _,rfl,HO.out,qQ⟩
   case round=>
    obtain⟨j,ys,hj,rfl,gY,lS⟩:=hrel;by_cases Ww:j<l.length+1
    ·have jk:∃u,wr.cell? ⟨g,j,none⟩= some u:=by
      rw[gY.cellAt j (by omega)];exact⟨_,am (by have:=gY.1;omega)⟩
     obtain⟨u,jk⟩:=jk;have oM:=gY.frozenAt j;have HS:=gE (gY.stored j (.int .u8 238)).1;have HB:=gE (lS.trans (iu (cb:=g) (Below.refl _ _) j (.int .u8 238)));clear gY lS
     go_wp2
     go_roundw
     case rel=>exact⟨j+1,_,by omega,by go_num,HS.out,HB.out⟩
     case measure=>simp[intOf];omega
    ·obtain rfl:j=l.length+1:=by omega
     go_wp2
     go_ret;exact⟨rfl,lS⟩
theorem me.YX{l:List Int}(hl:iF l)(hm:l.length<=140737488355328)(hg:w.heap[g]? =some (.cells (U8 (l++[77])).toArray 5 (0,0))):me w (aj (some ⟨g,0,none⟩) l.length (l.length+1)) l:=by
 refine⟨hl,hm,some ⟨g,0,none⟩,l.length+1,rfl,by omega,by omega,fun h=>(by cases h),fun hp=>⟨g,0,_,_,rfl,hg,fun j hj=>?_⟩⟩;simp only[Nat.zero_add,U8,List.getD,am hj,Option.getD_some];simp[aw,hj]
structure pE(N:Nat)(M L:Int)(w0 w3:World)(p p':jj)(B1 B2:Nat)(v v2:Value)(out oS:List (Int×Value))(gN:List (Int×List Int)):Prop where
 prog:jt N w3 p'.sb p'.s p'.cm p'.wv p'.gP p'.xs p'.ws
 ref:∃ov mr,iS w3 p'.s p'.rb p'.wX p'.iJ p'.cv ov B2 mr gN
 inv:iQ M L p'.s
 same:p'.sb=p.sb/\p'.rb=p.rb
 iO:ip p.F w0 w3
 xH:∀q,p'.F q->p.F q\/w0.heap.size<=q
 row:w3.ownsRow B1 60 2 v out.length (g_ out)
 ow:mV w3 B1 out gN
 lt:∀q,(v.ownBlock=some q\/∃(j:Nat) (x:Int×Value),out[j]? =some x/\x.2.ownBlock=some q)->q<B2
 nu:∀(j:Nat) x q,out[j]? =some x->x.2.ownBlock=some q->¬qz p'.xs q
 sub:∀q,qz p'.xs q->q<w0.heap.size\/B1<=q
 G9:w3.ownsRow B2 60 2 v2 oS.length (g_ oS)
 ZG:qZ w3 B2 oS gN
theorem Kg{p:jj}{a:Int}{b:List Int}{bv:Value}{e:Ending}(hp:kX N M L w0 p)(hb:Below w0.heap.size w0 w1)(hS:kw N' w1 p.sb p.cm p.wv p.gP p.xs (jl p.s a b) e w2){Z:Nat->Prop}(hZ:∀k,Z k->k<w2.heap.size/\¬D6 p.rb p.wX p.iJ p.cv k)(kI:xM Z w2 bv b)(yS:0<=M)(hM:M+b.length+1000<=1125899906842624)(hL:L<=1125899906840000)(qQ:b.length<=1073741823):
  ∃v,e=.returned v/\Calls ae 117 #[ai (some ⟨p.rb,0,none⟩),af ag a,bv] w2 fun e' w3=>∃v2 p' out oS,e'=.returned v2/\pE N' (M+b.length+100) (L+2) w0 w3 p p' w1.heap.size w2.heap.size v v2 out oS (jl p.s a b).2/\ip p.F w1 w3:=by
 obtain⟨v,kV,iW,nl,nS,rfl,⟨out,kE,how,hnu⟩,hP,nz,hu⟩:=hS.ex;have Bd:=hp.below hb;obtain⟨ov,ob,adx,abQ,vi⟩:=Bd.sN hS.iO;have ku:=hb.size;refine⟨v,rfl,(J_ p.s a b p.rb ob bv p.wX p.iJ p.cv ov adx abQ w2 vi (fun k hk=>⟨(hZ k hk).1,fun e=>(hZ k hk).2 (a_ e),fun e=>(hZ k hk).2 (aV (a_ e)),fun e=>(hZ k hk).2 (aV (aV (a_ e)))⟩) (fun k hk e=>(hZ k hk).2 (aV (aV (aV e)))) kI hp.inv yS hM hL qQ).mono ?_⟩;rintro e' w3 ⟨v3,aaB,abZ,We,ov3,Mo,rfl,hr3,hv3,rE,LZ⟩
 have R6:ip (D6 p.rb p.wX p.iJ p.cv) w2 w3:=rE.mono fun q hq e=>by
  rcases e with e|e|e|e|e
  ·exact a_ e
  ·exact aV (a_ e)
  ·exact aV (aV (a_ e))
  ·exact aV (aV (aV e))
  ·omega
 have abA:=hS.iO.size
 obtain⟨oS,NT,O6⟩:∃oS,w3.ownsRow w2.heap.size 60 2 v3 oS.length (g_ oS)/\qZ w3 w2.heap.size oS (jl p.s a b).2:=by
  rcases hv3 with rfl|⟨rfl,h0⟩
  ·exact⟨Mo,hr3.ng,hr3.ur⟩
  ·exact⟨[],aq _ _ _ _,by rw[h0];exact⟨rfl,fun i x y hx=>(by simp at hx)⟩⟩
 refine⟨v3,⟨p.sb,p.cm,kV,iW,nl,nS,p.rb,aaB,abZ,We,(jl p.s a b).1⟩,out,oS,rfl,?_⟩
 have Ij:∀q,(jj.mk p.sb p.cm kV iW nl nS p.rb aaB abZ We (jl p.s a b).1).F q->p.F q\/w0.heap.size<=q:=by
  rintro q (e|e)
  ·rcases nz q e with e|e
   ·exact a_ (a_ e)
   ·exact aV (by omega)
  ·rcases e with e|e|e|e
   ·exact a_ (aV (a_ e))
   ·rcases LZ.1 q e with e|e
    ·exact a_ (aV (aV (a_ e)))
    ·exact aV (by omega)
   ·rcases LZ.2.1 q e with e|e
    ·exact a_ (aV (aV (aV (a_ e))))
    ·exact aV (by omega)
   ·rcases LZ.2.2 q e with e|e
    ·exact a_ (aV (aV (aV (aV e))))
    ·exact aV (by omega)
 refine⟨?_,(hS.iO.mono fun q _ e=>a_ e).andThen R6 (fun q _ e=>aV e)⟩;refine⟨hP.sN vi R6,⟨_,_,hr3⟩,Kf hp.inv yS kI.1,⟨rfl,rfl⟩,?_,Ij,jy kE R6 (fun q cur fr hq=>ug vi hq (by simp[qY])),how.iO R6 (fun q cur fr hq=>ug vi hq (by simp[qY])),?_,hnu,?_,NT,O6⟩
 ·exact((ip.gS hb).andThen hS.iO (fun q _ e=>a_ e)).andThen R6 (fun q _ e=>aV e)
 ·rintro q (e|⟨j,x,hx,e⟩)
  ·obtain⟨c,e⟩:=ii kE e;exact(aO.1 e).1
  ·exact(how.ge hx e).2
 ·intro q hq;rcases hu q hq with e|e
  ·exact a_ (Ga hp.prog e)
  ·exact aV e
theorem jY.fin{ps:List jj}(h:jY N M L w base bw k m lv vb vs iq gX ps){p p':jj}(hi:ps[i]? =some p)(hc:ip (fun q=>p.F q\/tI bw vb vs q) w w')(hp:kX N M L w' p')(nz:∀q,p'.F q->p.F q\/w.heap.size<=q)(h1:p'.sb=p.sb)(h2:p'.rb=p.rb)(hw:WL w' base bw lv Ck lm k' m' rS xg):jY N M L w' base bw k' m' lv Ck lm rS xg (ps.set i p'):=by
 have hP:=h.pair i p hi;have yt:i<ps.length:=(bm.1 hi).1;refine⟨hw,cw h.XD hc.size,?_,fun j q hq=>?_,fun j q r hq hr=>?_,fun j j' q q' r js hq DX hr oq=>?_⟩
 ·rw[List.length_set,xX hi h1 h2];refine jy h.yz hc (fun q cur fr hq hF=>?_);rcases hF with hF|hF
  ·exact hP.law hq (by simp[qY]) hF
  ·exact h.wl.Ml hq (by decide) (by decide) (by decide) hF
 ·by_cases hj:i=j
  ·subst hj;rw[ez yt,Option.some.injEq]at hq;subst hq;exact hp
  ·rw[ey hj]at hq;refine(h.pair j q hq).iO hc (fun r hr hF=>?_) (fun r cur e fr hr he hF=>?_)
   ·rcases hF with hF|hF
    ·exact h.apart i j p q r hj hi hq hF hr
    ·obtain⟨c,e,h3,h4⟩:=h.wl.type hF;exact(h.pair j q hq).law h3 (by rcases h4 with rfl|rfl|rfl<;>simp[qY]) hr
   ·rcases hF with hF|hF
    ·exact hP.law hr (by rcases he with rfl|rfl|rfl|rfl<;>simp[qY]) hF
    ·rcases he with rfl|rfl|rfl|rfl<;>exact h.wl.Ml hr (by decide) (by decide) (by decide) hF
 ·by_cases hj:i=j
  ·subst hj;rw[ez yt,Option.some.injEq]at hq;subst hq;rcases nz r hr with h0|h0
   ·exact h.low i p r hi h0
   ·exact cw h.tj h0
  ·rw[ey hj]at hq;exact h.low j q r hq hr
 ·by_cases hj:i=j
  ·subst hj;rw[ez yt,Option.some.injEq]at hq;subst hq;rw[ey js]at DX;rcases nz r hr with h0|h0
   ·exact h.apart i j' p q' r js hi DX h0 oq
   ·have:=(h.pair j' q' DX).lt oq;omega
  ·rw[ey hj]at hq;by_cases Jq:i=j'
   ·subst Jq;rw[ez yt,Option.some.injEq]at DX;subst DX;rcases nz r oq with h0|h0
    ·exact h.apart j i q p r js hq hi hr h0
    ·have:=(h.pair j q hq).lt hr;omega
   ·rw[ey Jq]at DX;exact h.apart j j' q q' r js hq DX hr oq
theorem pE.BL{F:Nat->Prop}{p p':jj}{out:List (Int×Value)}(h:pE N M L w0 w3 p p' B1 B2 v v2 out oS gN)(hc:ip F w3 w4)(hB:B1<=B2)(hFp:∀q,p'.F q->¬F q)(hU:∀q cur fr,qz p'.xs q->w3.heap[q]? =some (.cells cur 5 fr)->¬F q)(hR:∀q cur fr,w3.heap[q]? =some (.cells cur 294 fr)->¬F q)(hI:∀q cur fr,w3.heap[q]? =some (.cells cur 3 fr)->¬F q)(hO:∀q,B1<=q->¬F q)(Yl:∀q,q<w0.heap.size->¬F q):pE N M L w0 w4 p p' B1 B2 v v2 out oS gN:=by
 obtain⟨ov,mr,hr⟩:=h.ref;have UY:∀q,B2<=q->¬F q:=fun q hq=>hO q (cw hB hq)
 exact⟨h.prog.IP hc (fun q hq=>hFp q (a_ hq)) hU,⟨ov,mr,hr.UJ hc (fun q hq=>hFp q (aV hq)) hR hI (fun q cur e fr hq _ _=>UY q hq)⟩,h.inv,h.same,h.iO.andThen hc (fun q hq e=>absurd e (Yl q hq)),h.xH,jg h.row hc (fun q hq=>hO q (ph h.row hq)),
  ⟨h.ow.1,fun i x y hx hy=>⟨(h.ow.2.1 i x y hx hy).1,jg (h.ow.2.1 i x y hx hy).2 hc (fun q hq=>hO q (ph (h.ow.2.1 i x y hx hy).2 hq))⟩,h.ow.2.2⟩,h.lt,h.nu,h.sub,jg h.G9 hc (fun q hq=>UY q (ph h.G9 hq)),⟨h.ZG.1,fun i x y hx hy=>⟨(h.ZG.2 i x y hx hy).1,jg (h.ZG.2 i x y hx hy).2 hc (fun q hq=>UY q (ph (h.ZG.2 i x y hx hy).2 hq))⟩⟩⟩
theorem pE.below{p p':jj}{out:List (Int×Value)}(h:pE N M L w0 w3 p p' B1 B2 v v2 out oS gN)(hb:Below w3.heap.size w3 w4)(hB:B1<=B2):pE N M L w0 w4 p p' B1 B2 v v2 out oS gN:=h.BL (F:=fun _=>False) (ip.gS hb) hB (fun _ _ h=>h) (fun _ _ _ _ _ h=>h) (fun _ _ _ _ h=>h) (fun _ _ _ _ h=>h) (fun _ _ h=>h) (fun _ _ h=>h)
theorem pE.back{p p':jj}{out:List (Int×Value)}(h:pE N M L w0 w3 p p' B1 B2 v v2 out oS gN)(hc:ip (· = g) w3 w4)(hB:B1<=B2)(h1:w0.heap.size<=g)(h2:g<B1)(hg:w3.heap[g]? =some (.cells cur 5 fr)):pE N M L w0 w4 p p' B1 B2 v v2 out oS gN:=by
 have js:∀q cur e fr,w3.heap[q]? =some (.cells cur e fr)->e≠5->¬q=g:=by
  intro q cur e fr hq he e1;rw[e1,hg]at hq;simp only[Option.some.injEq,Obj.cells.injEq]at hq;exact he hq.2.1.symm
 obtain⟨ov,mr,hr⟩:=h.ref;refine h.BL hc hB (fun q hq e=>?_) (fun q cur fr hq _ e=>?_) (fun q cur fr hq=>js q cur _ fr hq (by decide)) (fun q cur fr hq=>js q cur _ fr hq (by decide)) (fun q hq e=>by omega) (fun q hq e=>by omega)
 ·subst e;rcases hq with hq|hq
  ·exact q_ h.prog hg (a_ (by simp[qY])) hq
  ·exact ug hr hg (by simp[qY]) hq
 ·rcases h.sub q hq with h3|h3<;>omega
theorem pE.news{w5 w6:World}{p p':jj}{out:List (Int×Value)}(h:pE N M L w0 w5 p p' B1 B2 v v2 out oS gN)(hw:WL w5 base bw lv vb vs k m iq gX)(jp:∀q,tI bw vb vs q->q<w0.heap.size)(h0:w0.heap.size<=B2)(h1:w0.heap.size<=B1)(hc:ip (Ak bw vb vs v out) w5 w6):kX N M L w6 p'/\ip (fun q=>p.F q\/tI bw vb vs q) w0 w6:=by
 obtain⟨ov,mr,hr⟩:=h.ref
 have hF:∀q,Ak bw vb vs v out q->tI bw vb vs q\/(B1<=q/\q<B2/\∃cur e,w5.heap[q]? =some (.cells cur e (0,0))/\(e=60\/(e=5/\¬qz p'.xs q))):=by
  rintro q (e|e|e|e|⟨j,x,hx,e⟩)
  ·exact a_ (a_ e)
  ·exact a_ (aV (a_ e))
  ·exact a_ (aV (aV e))
  ·obtain⟨c,e2⟩:=ii h.row e;exact aV ⟨ph h.row e,h.lt q (a_ e),_,_,e2,a_ rfl⟩
  ·obtain⟨y,hy⟩:∃y,gN[j]? =some y:=⟨_,am (by rw[<-h.ow.1];exact(bm.1 hx).1)⟩;obtain⟨c,e2⟩:=ii (h.ow.2.1 j x y hx hy).2 e;exact aV ⟨ph (h.ow.2.1 j x y hx hy).2 e,h.lt q (aV ⟨j,x,hx,e⟩),_,_,e2,aV ⟨rfl,h.nu j x q hx e⟩⟩
 have BJ:∀q cur e fr,w5.heap[q]? =some (.cells cur e fr)->e=294\/e=3->¬Ak bw vb vs v out q:=by
  intro q cur e fr hq he hf;rcases hF q hf with h3|⟨_,_,Lt,e',h4,h5⟩
  ·rcases he with rfl|rfl<;>exact hw.Ml hq (by decide) (by decide) (by decide) h3
  ·rw[hq]at h4;simp only[Option.some.injEq,Obj.cells.injEq]at h4;obtain⟨_,rfl,_⟩:=h4;rcases he with rfl|rfl<;>(rcases h5 with h5|⟨h5,_⟩<;>revert h5<;>decide)
 have hpF:∀q,p'.F q->¬Ak bw vb vs v out q:=by
  intro q hq hf
  obtain⟨cur,e,h3,h4⟩:∃cur e,w5.heap[q]? =some (.cells cur e (0,0))/\qY e:=by
   rcases hF q hf with h3|⟨_,_,cur,e,h4,h5⟩
   ·obtain⟨c,e,h4,h5⟩:=hw.type h3;exact⟨c,e,h4,by rcases h5 with rfl|rfl|rfl<;>simp[qY]⟩
   ·exact⟨cur,e,h4,by rcases h5 with rfl|⟨rfl,_⟩<;>simp[qY]⟩
  rcases hq with hq|hq
  ·exact q_ h.prog h3 (a_ h4) hq
  ·exact ug hr h3 h4 hq
 refine⟨⟨h.prog.IP hc (fun q hq=>hpF q (a_ hq)) (fun q cur fr hq hk hf=>?_),⟨ov,B2,mr,gN,hr.UJ hc (fun q hq=>hpF q (aV hq)) (fun q cur fr hq=>BJ q cur _ fr hq (a_ rfl)) (fun q cur fr hq=>BJ q cur _ fr hq (aV rfl)) (fun q cur e fr hq _ _ hf=>?_)⟩,h.inv⟩,(h.iO.mono fun q _ e=>a_ e).andThen hc (fun q hq hf=>?_)⟩
 ·rcases hF q hf with h3|⟨_,_,Lt,e',h4,h5⟩
  ·exact hw.Ml hk (by decide) (by decide) (by decide) h3
  ·rcases h5 with rfl|⟨rfl,h5⟩
   ·rw[hk]at h4;simp at h4
   ·exact h5 hq
 ·rcases hF q hf with h3|⟨_,h3,_⟩
  ·have:=jp q h3;omega
  ·omega
 ·rcases hF q hf with h3|⟨h3,_⟩
  ·exact aV h3
  ·omega
end Go.Proofs.YthmdjhlhodpbhaaGreatDoor
