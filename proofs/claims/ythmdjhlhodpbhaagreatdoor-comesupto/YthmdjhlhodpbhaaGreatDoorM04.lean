/- Comes, part 4 -/
import Derived.Test.YthmdjhlhodpbhaaGreatDoorM02
set_option maxHeartbeats 16000000
set_option maxRecDepth 8000
namespace Go.Proofs.YthmdjhlhodpbhaaGreatDoor
open Go.RowKit
open _root_.List renaming getElem?_eq_getElem → am, mem_cons → cI, length_replicate → aE, getElem?_drop → cJ, getElem?_take_of_lt → bi, replicate → ak, getElem?_eq_none → bj, length_cons → cK, getElem?_append_right → aF, mem_append → bR, getElem?_append_left → aw, foldl_cons → cL, length_append → aT, length_take → bq, getD → aQ, getElem?_cons_succ → cB, append_assoc → br, getElem?_replicate → aA, cons_append → cO
open _root_.Classical renaming byContradiction → cM
open _root_.Nat renaming lt_or_ge → aD, le_refl → ay
open _root_.Option renaming bind_some → cN, bind_eq_some_iff → bX
open _root_.Int renaming le_refl → cP
open _root_.Go.Proofs.Tryz
open _root_.Go.Proofs.Tryz renaming prog → ae
variable {b l it L items m:List Int}{p iI gM high lo first d ty e:Int}{k:Nat}{rs B A:List (Int×Int)}{x:jf}{f:lL}{r:Int×Int}
structure Rd where
 rest:List Int
 bad:Bool
def Rd.num(r:Rd):Int×Rd:=(ly r.rest,⟨r.rest.drop (kz r.rest).toNat,r.bad ||(kz r.rest==0)⟩)
def Rd.rB(r:Rd)(c:Int):List Int×Rd:=if r.bad=true\/(r.rest.length:Int)<c then([],⟨r.rest,true⟩) else(r.rest.take c.toNat,⟨r.rest.drop c.toNat,false⟩)
def Rd.kind(r:Rd):Int×Rd:=if(r.rB 1).2.bad=true then(0,(r.rB 1).2) else((r.rB 1).1.getD 0 0,(r.rB 1).2)
def Rd.fail(r:Rd):Rd:=⟨r.rest,true⟩
structure Og where
 type:Int
 id:Int
 iC:Int
 bytes:List Int
 en:Int
 proof:Int
def wD(b:List Int):Og×Rd:=
 let r0:=Rd.kind ⟨b,false⟩
 let t:=r0.1
 if t=0\/t=1 then(⟨t,0,0,[],0,0⟩,r0.2)
 else if t=3\/t=4 then
  let r1:=r0.2.num
  let r2:=r1.2.num
  let r3:=r2.2.num
  let r4:=r3.2.rB r3.1
  (⟨t,r1.1,r2.1,r4.1,r2.1+r4.1.length,0⟩,r4.2)
 else if t=5 then
  let r1:=r0.2.num
  let r2:=r1.2.num
  (⟨t,r1.1,0,[],r2.1,0⟩,r2.2)
 else if t=6 then(⟨t,0,0,[],0,0⟩,r0.2.num.2)
 else if t=7 then(⟨t,0,0,[],0,r0.2.num.1⟩,r0.2.num.2)
 else(⟨t,0,0,[],0,0⟩,r0.2.fail)
def xC(f:lL):Og:=
 if f.type=7 then⟨7,0,0,[],0,f.code⟩ else if f.type=6 then⟨6,0,0,[],0,0⟩ else if f.type=5 then⟨5,f.id,0,[],f.iC,0⟩
 else if f.type=3\/f.type=4 then⟨f.type,f.id,f.iC,f.bytes,f.iC+f.bytes.length,0⟩ else⟨f.type,0,0,[],0,0⟩
theorem uF(hp:0<b.length):Rd.kind ⟨b,false⟩=(b.getD 0 0,⟨b.drop 1,false⟩):=by
 have h:Rd.rB ⟨b,false⟩ 1=(b.take 1,⟨b.drop 1,false⟩):=by
  unfold Rd.rB;rw[if_neg (by simp;omega)]
  rfl
 unfold Rd.kind;rw[h]
 cases b with
 |nil=>simp at hp
 |cons a t=>rfl
theorem xv(r:Rd)(h:r.bad=true):r.num.2.bad=true:=by simp[Rd.num,h]
theorem zg(r:Rd)(c:Int)(h:r.bad=true):(r.rB c).2.bad=true:=by unfold Rd.rB;rw[if_pos (Or.inl h)]
theorem oQ{bad:Bool}(h:kz b=0):(Rd.num ⟨b,bad⟩).2.bad=true:=by simp[Rd.num,h]
theorem oR(h:¬kz b=0):Rd.num ⟨b,false⟩=(ly b,⟨b.drop (kz b).toNat,false⟩):=by simp[Rd.num,h]
theorem pS(b:List Int)(a k:Nat):(b.drop a).drop k=b.drop (a+k):=by rw[List.drop_drop]
theorem OY(hb:iF b)(hp:0<b.length):
  (iV b=none/\(wD b).2.bad=true)\/(∃f size,iV b=some (f,size)/\wD b=(xC f,⟨b.drop size,false⟩)/\f.type=b.getD 0 0):=by
 unfold wD;rw[uF hp];simp only;generalize ht:b.getD 0 0=t;by_cases QN:t=0\/t=1
 ·right
  refine⟨⟨t,0,0,0,[]⟩,1,?_,?_,rfl⟩
  ·unfold iV;rw[ht];rcases QN with rfl|rfl<;>simp[kO,jF]
  ·rw[if_pos QN];rcases QN with rfl|rfl<;>rfl
 rw[if_neg QN];have rQ:jF b 1=if kz (b.drop 1)=0 then none else some ([ly (b.drop 1)],1+(kz (b.drop 1)).toNat):=by simp[jF]
 by_cases h34:t=3\/t=4
 ·have hc:kO t=some 3:=by rcases h34 with rfl|rfl<;>rfl
  have NI:iV b=match jF b 3 with
    |none=>none
    |some (ns,a)=>if(b.length:Int)<a+ns.getD 2 0 then none else some (⟨t,ns.getD 0 0,ns.getD 1 0,0,(b.drop a).take (ns.getD 2 0).toNat⟩,a+(ns.getD 2 0).toNat):=by
   unfold iV;rw[ht,hc];simp only
   cases jF b 3 with
   |none=>rfl
   |some x=>rfl
  rw[if_pos h34];by_cases g1:kz (b.drop 1)=0
  ·left
   refine⟨?_,zg _ _ (xv _ (xv _ (oQ g1)))⟩
   have:jF b 3=none:=by
    rw[if_pos g1]at rQ
    conv=>lhs;unfold jF;unfold jF
    rw[rQ]
   rw[NI,this]
  ·rw[oR g1,pS];simp only;generalize hv1:ly (b.drop 1)=v1 at *
   generalize Wh:1+(kz (b.drop 1)).toNat=a1 at *
   have acV:jF b 1=some ([v1],a1):=by rw[rQ,if_neg g1]
   have uC:jF b 2=if kz (b.drop a1)=0 then none else some ([v1,ly (b.drop a1)],a1+(kz (b.drop a1)).toNat):=by
    conv=>lhs;unfold jF
    rw[acV]
    rfl
   by_cases g2:kz (b.drop a1)=0
   ·left
    refine⟨?_,zg _ _ (xv _ (oQ g2))⟩;rw[if_pos g2]at uC
    have:jF b 3=none:=by
     conv=>lhs;unfold jF
     rw[uC]
    rw[NI,this]
   ·rw[oR g2,pS];simp only;rw[if_neg g2]at uC;generalize Da:ly (b.drop a1)=v2 at *
    generalize KN:a1+(kz (b.drop a1)).toNat=a2 at *
    have T9:jF b 3=if kz (b.drop a2)=0 then none else some ([v1,v2,ly (b.drop a2)],a2+(kz (b.drop a2)).toNat):=by
     conv=>lhs;unfold jF
     rw[uC]
     rfl
    by_cases g3:kz (b.drop a2)=0
    ·left
     refine⟨?_,zg _ _ (oQ g3)⟩;rw[NI,T9,if_pos g3]
    ·have hv3:=qD (hb.drop a2);rw[oR g3,pS];simp only;rw[if_neg g3]at T9;have hf3:=nf hb hp 3 T9;generalize ly (b.drop a2)=v3 at *
     generalize a2+(kz (b.drop a2)).toNat=a3 at *
     rw[NI,T9];simp only[List.getD_cons_zero,List.getD_cons_succ];have Pg:((b.drop a3).length:Int)=b.length-a3:=by simp;omega
     by_cases hs:(b.length:Int)<a3+v3
     ·left
      rw[if_pos hs];refine⟨rfl,?_⟩;unfold Rd.rB;rw[if_pos (Or.inr (by simp only;omega))]
     ·right
      rw[if_neg hs];refine⟨_,_,rfl,?_,rfl⟩
      have B8:Rd.rB ⟨b.drop a3,false⟩ v3=((b.drop a3).take v3.toNat,⟨(b.drop a3).drop v3.toNat,false⟩):=by
       unfold Rd.rB;rw[if_neg (fun h=>h.elim (by simp) (fun h=>by simp only at h;omega))]
      rw[B8,pS];unfold xC;simp only;rw[if_neg (by omega),if_neg (by omega),if_neg (by omega),if_pos h34]
 rw[if_neg h34];by_cases h5:t=5
 ·subst h5;rw[if_pos rfl]
  have NI:iV b=match jF b 2 with
    |none=>none
    |some (ns,a)=>some (⟨5,ns.getD 0 0,ns.getD 1 0,0,[]⟩,a):=by
   unfold iV;rw[ht];have:kO 5=some 2:=rfl;rw[this];simp only
   cases jF b 2 with
   |none=>rfl
   |some x=>rfl
  by_cases g1:kz (b.drop 1)=0
  ·left
   refine⟨?_,xv _ (oQ g1)⟩
   have:jF b 2=none:=by
    rw[if_pos g1]at rQ
    conv=>lhs;unfold jF
    rw[rQ]
   rw[NI,this]
  ·rw[oR g1,pS];simp only;rw[if_neg g1]at rQ;generalize ly (b.drop 1)=v1 at *
   generalize 1+(kz (b.drop 1)).toNat=a1 at *
   have uC:jF b 2=if kz (b.drop a1)=0 then none else some ([v1,ly (b.drop a1)],a1+(kz (b.drop a1)).toNat):=by
    conv=>lhs;unfold jF
    rw[rQ]
    rfl
   by_cases g2:kz (b.drop a1)=0
   ·left
    refine⟨?_,oQ g2⟩;rw[NI,uC,if_pos g2]
   ·right
    rw[oR g2,pS];rw[NI,uC,if_neg g2];exact⟨_,_,rfl,rfl,rfl⟩
 rw[if_neg h5];by_cases h6:t=6
 ·subst h6;rw[if_pos rfl]
  have NI:iV b=match jF b 1 with
    |none=>none
    |some (ns,a)=>some (⟨6,0,0,ns.getD 0 0,[]⟩,a):=by
   unfold iV;rw[ht];have:kO 6=some 1:=rfl;rw[this];simp only
   cases jF b 1 with
   |none=>rfl
   |some x=>rfl
  by_cases g1:kz (b.drop 1)=0
  ·left
   refine⟨?_,oQ g1⟩;rw[NI,rQ,if_pos g1]
  ·right
   rw[oR g1,pS,NI,rQ,if_neg g1];exact⟨_,_,rfl,rfl,rfl⟩
 rw[if_neg h6];by_cases h7:t=7
 ·subst h7;rw[if_pos rfl]
  have NI:iV b=match jF b 1 with
    |none=>none
    |some (ns,a)=>some (⟨7,0,0,ns.getD 0 0,[]⟩,a):=by
   unfold iV;rw[ht];have:kO 7=some 1:=rfl;rw[this];simp only
   cases jF b 1 with
   |none=>rfl
   |some x=>rfl
  by_cases g1:kz (b.drop 1)=0
  ·left
   refine⟨?_,oQ g1⟩;rw[NI,rQ,if_pos g1]
  ·right
   rw[oR g1,pS,NI,rQ,if_neg g1];exact⟨_,_,rfl,rfl,rfl⟩
 rw[if_neg h7]
 left
 refine⟨?_,rfl⟩;unfold iV;rw[ht]
 have:kO t=none:=by
  unfold kO;rw[if_neg QN,if_neg h34,if_neg h5,if_neg (by omega)]
 rw[this]
structure EX where
 kind:Int
 gL:Int
 tok:List Int
 num:Int
 mz:List Int
def nW(b:List Int):Option EX:=
 if b=[] then none else
 let r1:=b.drop 1
 if kz r1=0 then none else
 let r2:=r1.drop (kz r1).toNat
 if kz r2=0 then none else
 let r3:=r2.drop (kz r2).toNat
 if b.getD 0 0=1 then if(r3.length:Int)<ly r2 then none else some ⟨1,ly r1,r3.take (ly r2).toNat,0,r3.drop (ly r2).toNat⟩
 else if b.getD 0 0=2 then some ⟨2,ly r1,[],ly r2,r3⟩ else none
def tL(b:List Int):EX×Rd:=
 let r0:=Rd.kind ⟨b,false⟩
 let t:=r0.1
 if t=1 then
  let r1:=r0.2.num
  let r2:=r1.2.num
  let r3:=r2.2.rB r2.1
  (⟨t,r1.1,r3.1,0,r3.2.rest⟩,r3.2)
 else if t=2 then
  let r1:=r0.2.num
  let r2:=r1.2.num
  (⟨t,r1.1,[],r2.1,r2.2.rest⟩,r2.2)
 else(⟨t,0,[],0,r0.2.rest⟩,r0.2.fail)
theorem OW:(nW b=none/\(tL b).2.bad=true)\/(∃d,nW b=some d/\(tL b).1=d/\(tL b).2.bad=false):=by
 by_cases h0:b=[]
 ·left
  subst h0;have hk:Rd.kind ⟨[],false⟩=(0,⟨[],true⟩):=by simp[Rd.kind,Rd.rB]
  refine⟨by simp[nW],?_⟩;unfold tL;rw[hk]
  rfl
 ·have hp:0<b.length:=List.length_pos_iff.2 h0;unfold tL nW;rw[uF hp,if_neg h0];simp only;by_cases t1:b.getD 0 0=1
  ·rw[if_pos t1,if_pos t1];by_cases g1:kz (b.drop 1)=0
   ·left
    rw[if_pos g1];exact⟨rfl,zg _ _ (xv _ (oQ g1))⟩
   ·rw[if_neg g1,oR g1];simp only;by_cases g2:kz ((b.drop 1).drop (kz (b.drop 1)).toNat)=0
    ·left
     rw[if_pos g2];exact⟨rfl,zg _ _ (oQ g2)⟩
    ·rw[if_neg g2,oR g2];simp only;generalize ly ((b.drop 1).drop (kz (b.drop 1)).toNat)=n;generalize ((b.drop 1).drop (kz (b.drop 1)).toNat).drop (kz ((b.drop 1).drop (kz (b.drop 1)).toNat)).toNat=r3;unfold Rd.rB;by_cases hs:(r3.length:Int)<n
     ·left
      rw[if_pos hs,if_pos (Or.inr hs)];exact⟨rfl,rfl⟩
     ·right
      rw[if_neg hs,if_neg (by simp;omega)];exact⟨_,rfl,by rw[t1],rfl⟩
  ·rw[if_neg t1,if_neg t1];by_cases t2:b.getD 0 0=2
   ·rw[if_pos t2,if_pos t2];by_cases g1:kz (b.drop 1)=0
    ·left
     rw[if_pos g1];exact⟨rfl,xv _ (oQ g1)⟩
    ·rw[if_neg g1,oR g1];simp only;by_cases g2:kz ((b.drop 1).drop (kz (b.drop 1)).toNat)=0
     ·left
      rw[if_pos g2];exact⟨rfl,oQ g2⟩
     ·right
      rw[if_neg g2,oR g2];exact⟨_,rfl,by rw[t2],rfl⟩
   ·left
    rw[if_neg t2,if_neg t2];refine⟨?_,rfl⟩
    split<;>first|rfl |(split<;>rfl)
abbrev iK:=Int×List Int
def mM:List iK->Int->Option Int
 |[],_=>none
 |r::t,p=>if r.1<=p/\p<r.1+r.2.length then r.2[(p-r.1).toNat]? else mM t p
def mf:List iK->Prop
 |[]=>True
 |r::t=>0<r.2.length/\(∀q∈t,r.1+r.2.length<q.1)/\mf t
def se(base:Int)(l:List Int)(p:Int):Option Int:=
 if base<=p then(match l[(p-base).toNat]? with|some x=>if 0<=x then some x else none|none=>none) else none
def oz(base:Int)(x:Int):List iK->List iK
 |[]=>[(base,[x])]
 |r::t=>if r.1=base+1 then(base,x::r.2)::t else(base,[x])::r::t
def jo(base:Int):List Int->List iK
 |[]=>[]
 |x::l=>if 0<=x then oz base x (jo (base+1) l) else jo (base+1) l
theorem sR{l:List iK}(h:mf l){r:iK}(hr:r∈l):0<r.2.length:=by
 induction l with
 |nil=>cases hr
 |cons a t ih=>
  rcases cI.1 hr with rfl|hr
  ·exact h.1
  ·exact ih h.2.2 hr
theorem pK{l:List iK}(h:∀q∈l,p<q.1):mM l p=none:=by
 induction l with
 |nil=>rfl
 |cons r t ih=>
  have h1:=h r (by simp);unfold mM;rw[if_neg (by omega)];exact ih (fun q hq=>h q (by simp[hq]))
theorem FF{l:List iK}{x:Int}(h:mM l p=some x):∃r∈l,r.1<=p/\p<r.1+r.2.length:=by
 induction l with
 |nil=>cases h
 |cons r t ih=>
  unfold mM at h
  split at h
  ·rename_i hc
   exact⟨r,by simp,hc⟩
  ·obtain⟨q,hq,hc⟩:=ih h;exact⟨q,by simp[hq],hc⟩
theorem oB{r:iK}{t:List iK}(h:r.1<=p/\p<r.1+r.2.length):mM (r::t) p=r.2[(p-r.1).toNat]?:=by
 unfold mM;rw[if_pos h]
theorem nh{r:iK}{t:List iK}(h:¬(r.1<=p/\p<r.1+r.2.length)):mM (r::t) p=mM t p:=by
 conv=>lhs;unfold mM
 rw[if_neg h]
theorem o6{r:iK}{t:List iK}(h:r.1<=p/\p<r.1+r.2.length):∃x,mM (r::t) p=some x:=by
 rw[oB h];exact⟨_,am (by omega)⟩
theorem Dw:∀{a b:List iK},mf a->mf b->(∀p,mM a p=mM b p)->a=b
 |[],[],_,_,_=>rfl
 |[],r::t,_,hb,h=>by
  have:=h r.1;obtain⟨x,hx⟩:=o6 (r:=r) (t:=t) (p:=r.1) ⟨by omega,by have:=hb.1;omega⟩;rw[hx]at this
  cases this
 |r::t,[],ha,_,h=>by
  have:=h r.1;obtain⟨x,hx⟩:=o6 (r:=r) (t:=t) (p:=r.1) ⟨by omega,by have:=ha.1;omega⟩;rw[hx]at this
  cases this
 |r::t,s::u,ha,hb,h=>by
  have hr:=ha.1;have hs:=hb.1
  have e1:r.1=s.1:=by
   rcases Int.lt_trichotomy r.1 s.1 with h1|h1|h1
   ·have h2:=h r.1
    rw[pK (l:=s::u) (fun q hq=>by
     rcases cI.1 hq with rfl|hq
     ·exact h1
     ·have:=hb.2.1 q hq;omega)]at h2
    obtain⟨x,hx⟩:=o6 (r:=r) (t:=t) (p:=r.1) ⟨by omega,by omega⟩;rw[hx]at h2
    cases h2
   ·exact h1
   ·have h2:=h s.1
    rw[pK (l:=r::t) (fun q hq=>by
     rcases cI.1 hq with rfl|hq
     ·exact h1
     ·have:=ha.2.1 q hq;omega)]at h2
    obtain⟨x,hx⟩:=o6 (r:=s) (t:=u) (p:=s.1) ⟨by omega,by omega⟩;rw[hx]at h2
    cases h2
  have RO:∀{r s:iK} {t u:List iK},mf (r::t)->0<s.2.length->r.1=s.1->r.2.length<s.2.length->(∀p,mM (r::t) p=mM (s::u) p)->False:=by
   intro r s t u ha hs e1 jp h;have h2:=h (r.1+r.2.length);rw[nh (by omega),pK (fun q hq=>by have:=ha.2.1 q hq;omega)]at h2;obtain⟨x,hx⟩:=o6 (r:=s) (t:=u) (p:=r.1+r.2.length) ⟨by omega,by omega⟩;rw[hx]at h2
   cases h2
  have e2:r.2.length=s.2.length:=by
   rcases Nat.lt_trichotomy r.2.length s.2.length with h1|h1|h1
   ·exact(RO ha hs e1 h1 h).elim
   ·exact h1
   ·exact(RO hb hr e1.symm h1 (fun p=>(h p).symm)).elim
  have e3:r.2=s.2:=by
   apply List.ext_getElem?
   intro i;rcases aD i r.2.length with hi|hi
   ·have h2:=h (r.1+i);rw[oB ⟨by omega,by omega⟩,oB ⟨by omega,by omega⟩]at h2;have e4:(r.1+(i:Int)-r.1).toNat=i:=by omega
    have e5:(r.1+(i:Int)-s.1).toNat=i:=by omega
    rw[e4,e5]at h2;exact h2
   ·rw[bj hi,bj (by omega)]
  have e4:r=s:=Prod.ext e1 e3;subst e4
  congr 1
  refine Dw ha.2.2 hb.2.2 fun p=>?_
  by_cases hc:r.1<=p/\p<r.1+r.2.length
  ·rw[pK (fun q hq=>by have:=ha.2.1 q hq;omega),pK (fun q hq=>by have:=hb.2.1 q hq;omega)]
  ·have h2:=h p;rw[nh hc,nh hc]at h2;exact h2
theorem rz(l:List Int):∀(base:Int),∀q∈jo base l,base<=q.1:=by
 induction l with
 |nil=>intro base q hq;simp[jo]at hq
 |cons x l ih=>
  intro base q hq;unfold jo at hq
  split at hq
  ·unfold oz at hq
   split at hq
   ·simp at hq;subst hq;simp
   ·rename_i r t he
    have h1:∀q∈r::t,base+1<=q.1:=fun q hq=>ih (base+1) q (by rw[he];exact hq)
    split at hq
    ·rcases cI.1 hq with rfl|hq
     ·simp
     ·have:=h1 q (by simp[hq]);omega
    ·rcases cI.1 hq with rfl|hq
     ·simp
     ·have:=h1 q hq;omega
  ·have:=ih (base+1) q hq;omega
theorem xz(l:List Int):∀(base:Int),mf (jo base l):=by
 induction l with
 |nil=>intro base;exact trivial
 |cons x l ih=>
  intro base;have h0:=ih (base+1);have h1:=rz l (base+1);unfold jo
  split
  ·unfold oz
   split
   ·exact⟨by simp,by simp,trivial⟩
   ·rename_i r t he
    rw[he]at h0 h1
    split
    ·rename_i e
     exact⟨by simp,fun q hq=>by have:=h0.2.1 q hq;simp only[cK];omega,h0.2.2⟩
    ·rename_i e
     refine⟨by simp,fun q hq=>?_,h0⟩;have h2:=h1 r (by simp);rcases cI.1 hq with rfl|hq
     ·simp;omega
     ·have:=h0.2.1 q hq;have:=h0.1;simp;omega
  ·exact h0
theorem QA(base x:Int)(l:List Int)(p:Int):se base (x::l) p=if p=base then(if 0<=x then some x else none) else se (base+1) l p:=by
 unfold se;by_cases h:p=base
 ·subst h;simp
 ·rw[if_neg h];by_cases h1:base<=p
  ·rw[if_pos h1,if_pos (by omega)];have e:(p-base).toNat=(p-(base+1)).toNat+1:=by omega
   rw[e,cB]
  ·rw[if_neg h1,if_neg (by omega)]
theorem G1{base x:Int}{rs:List iK}(h1:∀q∈rs,base+1<=q.1)(p:Int):mM (oz base x rs) p=if p=base then some x else mM rs p:=by
 by_cases hp:p=base
 ·subst hp;rw[if_pos rfl];unfold oz
  split
  ·rw[oB ⟨by simp,by simp;omega⟩];simp
  ·split
   ·rw[oB ⟨by simp,by simp only[cK];omega⟩];simp
   ·rw[oB ⟨by simp,by simp;omega⟩];simp
 ·rw[if_neg hp];unfold oz
  split
  ·rw[nh (by simp;omega)]
  ·rename_i r t
   split
   ·rename_i e
    by_cases hc:r.1<=p/\p<r.1+r.2.length
    ·rw[oB hc,oB (by simp only[cK];omega)];have e4:(p-base).toNat=(p-r.1).toNat+1:=by omega
     rw[e4,cB]
    ·rw[nh hc,nh (by simp only[cK];omega)]
   ·rw[nh (by simp;omega)]
theorem Bk(l:List Int):∀(base p:Int),mM (jo base l) p=se base l p:=by
 induction l with
 |nil=>intro base p;unfold se jo mM;simp
 |cons x l ih=>
  intro base p;have h1:=rz l (base+1);rw[QA,<-ih]
  conv=>lhs;unfold jo
  by_cases hx:0<=x
  ·rw[if_pos hx,if_pos hx,G1 h1]
  ·rw[if_neg hx,if_neg hx];by_cases hp:p=base
   ·subst hp;rw[if_pos rfl];exact pK (fun q hq=>by have:=h1 q hq;omega)
   ·rw[if_neg hp]
def h_(r:iK):Int:=r.1+r.2.length
def kZ(l:List Int)(k:Nat)(it:List Int):List Int:=l.take k++it++l.drop (k+it.length)
def qb(r:iK)(M:List iK):Int:=M.foldl (fun m q=>min m q.1) r.1
def wd(r:iK)(M:List iK):Int:=M.foldl (fun m q=>max m (h_ q)) (h_ r)
def uG(lo:Int)(L:List Int)(M:List iK):List Int:=M.foldl (fun L q=>kZ L (q.1-lo).toNat q.2) L
def oe(r:iK)(M:List iK):iK:=
 (qb r M,uG (qb r M) (kZ (ak (wd r M-qb r M).toNat 0) (r.1-qb r M).toNat r.2) M)
def nQ(rl:List iK)(r:iK):Nat:=(rl.takeWhile fun q=>decide (h_ q<r.1)).length
def Ci(rl:List iK)(r:iK):Nat:=nQ rl r+((rl.drop (nQ rl r)).takeWhile fun q=>decide (q.1<=h_ r)).length
def mY(rl:List iK)(first:Int)(items:List Int):List iK:=
 if items=[] then rl else rl.take (nQ rl (first,items))++oe (first,items) ((rl.drop (nQ rl (first,items))).take (Ci rl (first,items)-nQ rl (first,items)))::rl.drop (Ci rl (first,items))
theorem wW(a b:List iK)(p:Int):mM (a++b) p=(mM a p).or (mM b p):=by
 induction a with
 |nil=>simp[mM]
 |cons r t ih=>
  rw[cO];by_cases hc:r.1<=p/\p<r.1+r.2.length
  ·rw[oB hc,oB hc,am (by omega)]
   rfl
  ·rw[nh hc,nh hc,ih]
theorem pC{a b:List iK}:mf (a++b)↔mf a/\mf b/\∀r∈a,∀q∈b,h_ r<q.1:=by
 induction a with
 |nil=>simp[mf]
 |cons r t ih=>
  rw[cO];simp only[mf,ih,bR,cI,h_]
  constructor
  ·rintro⟨h1,h2,h3,h4,h5⟩;refine⟨⟨h1,fun q hq=>h2 q (.inl hq),h3⟩,h4,?_⟩;rintro x (rfl|hx) q hq
   ·exact h2 q (.inr hq)
   ·exact h5 x hx q hq
  ·rintro⟨⟨h1,h2,h3⟩,h4,h5⟩;refine⟨h1,?_,h3,h4,fun x hx q hq=>h5 x (.inr hx) q hq⟩;rintro q (hq|hq)
   ·exact h2 q hq
   ·exact h5 r (.inl rfl) q hq
theorem nJ(h:k+it.length<=l.length):(kZ l k it).length=l.length:=by
 unfold kZ;simp only[aT,bq,List.length_drop];omega
theorem Bh(h:k+it.length<=l.length)(i:Nat):(kZ l k it)[i]? =if k<=i/\i<k+it.length then it[i-k]? else l[i]?:=by
 unfold kZ;rw[br];rcases aD i k with h1|h1
 ·rw[if_neg (by omega),aw (by simp;omega),bi h1]
 ·rw[aF (by simp;omega),bq,Nat.min_eq_left (by omega)];rcases aD (i-k) it.length with h2|h2
  ·rw[if_pos (by omega),aw h2]
  ·rw[if_neg (by omega),aF h2,cJ]
   congr 1
   omega
theorem wR{M:List iK}:∀{L:List Int},(∀q∈M,(q.1-lo).toNat+q.2.length<=L.length)->(uG lo L M).length=L.length:=by
 induction M with
 |nil=>intro L _;rfl
 |cons r t ih=>
  intro L h;have h0:=h r (by simp);have e:=nJ h0;unfold uG;rw[cL];have:=ih (L:=kZ L (r.1-lo).toNat r.2) (fun q hq=>by rw[e];exact h q (by simp[hq]));unfold uG at this;rw[this,e]
theorem SV{M:List iK}:∀{L:List Int},mf M->(∀q∈M,lo<=q.1/\h_ q<=lo+L.length)->∀i:Nat,(uG lo L M)[i]? =(mM M (lo+i)).or L[i]?:=by
 induction M with
 |nil=>intro L _ _ i;rfl
 |cons r t ih=>
  intro L hw h i;have h0:=h r (by simp);unfold h_ at h0;have e:=nJ (l:=L) (k:=(r.1-lo).toNat) (it:=r.2) (by omega);have h1:=ih (L:=kZ L (r.1-lo).toNat r.2) hw.2.2 (fun q hq=>by rw[e];exact h q (by simp[hq])) i;unfold uG at h1⊢;rw[cL,h1,Bh (by omega)];by_cases hc:r.1<=lo+i/\lo+i<r.1+r.2.length
  ·rw[oB hc,pK (fun q hq=>by have:=hw.2.1 q hq;omega),if_pos (by omega)];have e2:i-(r.1-lo).toNat=(lo+i-r.1).toNat:=by omega
   rw[e2,am (by omega)]
   rfl
  ·rw[nh hc,if_neg (by omega)]
theorem AF{M:List iK}:∀(r:iK),qb r M<=r.1/\∀q∈M,qb r M<=q.1:=by
 have Ag:∀(M:List iK) (m:Int),M.foldl (fun m q=>min m q.1) m<=m/\∀q∈M,M.foldl (fun m q=>min m q.1) m<=q.1:=by
  intro M
  induction M with
  |nil=>intro m;simp
  |cons a t ih=>
   intro m;rw[cL];have h:=ih (min m a.1);refine⟨by omega,fun q hq=>?_⟩;rcases cI.1 hq with rfl|hq
   ·omega
   ·exact h.2 q hq
 exact fun r=>Ag M r.1
theorem GM{M:List iK}:∀(r:iK),qb r M=r.1\/∃q∈M,qb r M=q.1:=by
 have Ag:∀(M:List iK) (m:Int),M.foldl (fun m q=>min m q.1) m=m\/∃q∈M,M.foldl (fun m q=>min m q.1) m=q.1:=by
  intro M
  induction M with
  |nil=>intro m;simp
  |cons a t ih=>
   intro m;rw[cL];rcases ih (min m a.1) with h|⟨q,hq,h⟩
   ·rcases Int.le_total m a.1 with h1|h1
    ·left;omega
    ·right;exact⟨a,by simp,by omega⟩
   ·exact .inr ⟨q,by simp[hq],h⟩
 exact fun r=>Ag M r.1
theorem Ay{M:List iK}:∀(r:iK),h_ r<=wd r M/\∀q∈M,h_ q<=wd r M:=by
 have Ag:∀(M:List iK) (m:Int),m<=M.foldl (fun m q=>max m (h_ q)) m/\∀q∈M,h_ q<=M.foldl (fun m q=>max m (h_ q)) m:=by
  intro M
  induction M with
  |nil=>intro m;simp
  |cons a t ih=>
   intro m;rw[cL];have h:=ih (max m (h_ a));refine⟨by omega,fun q hq=>?_⟩;rcases cI.1 hq with rfl|hq
   ·omega
   ·exact h.2 q hq
 exact fun r=>Ag M (h_ r)
theorem GC{M:List iK}:∀(r:iK),wd r M=h_ r\/∃q∈M,wd r M=h_ q:=by
 have Ag:∀(M:List iK) (m:Int),M.foldl (fun m q=>max m (h_ q)) m=m\/∃q∈M,M.foldl (fun m q=>max m (h_ q)) m=h_ q:=by
  intro M
  induction M with
  |nil=>intro m;simp
  |cons a t ih=>
   intro m;rw[cL];rcases ih (max m (h_ a)) with h|⟨q,hq,h⟩
   ·rcases Int.le_total (h_ a) m with h1|h1
    ·left;omega
    ·right;exact⟨a,by simp,by omega⟩
   ·exact .inr ⟨q,by simp[hq],h⟩
 exact fun r=>Ag M (h_ r)
structure Touch(rl:List iK)(r:iK)(A M B:List iK):Prop where
 split:rl=A++M++B
 from_:nQ rl r=A.length
 to_:Ci rl r=A.length+M.length
 low:∀q∈A,h_ q<r.1
 WW:∀q∈M,r.1<=h_ q/\q.1<=h_ r
 high:∀q∈B,h_ r<q.1
theorem rK{α:Type}(p:α->Bool):∀l:List α,l=l.takeWhile p++l.dropWhile p:=fun l=>(List.takeWhile_append_dropWhile (p:=p) (l:=l)).symm
theorem qg{α:Type}{p:α->Bool}:∀{l:List α} {a:α} {t:List α},l.dropWhile p=a::t->p a=false
 |[],a,t,h=>by simp at h
 |x::l,a,t,h=>by
  rw[List.dropWhile_cons]at h
  split at h
  ·exact qg h
  ·rename_i hx
   cases h
   simpa using hx
theorem qU{α:Type}{p:α->Bool}:∀{l:List α} {a:α},a∈l.takeWhile p->p a=true
 |x::l,a,h=>by
  rw[List.takeWhile_cons]at h
  split at h
  ·rename_i hx
   rcases cI.1 h with rfl|h
   ·exact hx
   ·exact qU h
  ·cases h
theorem TB{rl:List iK}(hw:mf rl)(r:iK):∃A M B,Touch rl r A M B:=by
 have s1:=rK (fun q=>decide (h_ q<r.1)) rl;generalize hA:rl.takeWhile (fun q=>decide (h_ q<r.1))=A at s1;generalize hR:rl.dropWhile (fun q=>decide (h_ q<r.1))=R at s1;have s2:=rK (fun q=>decide (q.1<=h_ r)) R;generalize hM:R.takeWhile (fun q=>decide (q.1<=h_ r))=M at s2;generalize hB:R.dropWhile (fun q=>decide (q.1<=h_ r))=B at s2;have f1:nQ rl r=A.length:=by unfold nQ;rw[hA]
 have d1:rl.drop A.length=R:=by rw[s1];simp
 have t1:Ci rl r=A.length+M.length:=by unfold Ci;rw[f1,d1,hM]
 have Pu:mf R:=(pC.1 (s1▸hw)).2.1;have Z8:mf B:=(pC.1 (s2▸Pu)).2.1
 have upR:∀q∈R,r.1<=h_ q:=by
  cases R with
  |nil=>simp
  |cons a t=>
   have ha:r.1<=h_ a:=by have:=qg hR;simpa using this
   intro q hq;rcases cI.1 hq with rfl|hq
   ·exact ha
   ·have:=Pu.2.1 q hq;have:=sR Pu.2.2 hq;unfold h_ at ha⊢;omega
 refine⟨A,M,B,⟨by rw[br,<-s2];exact s1,f1,t1,fun q hq=>?_,fun q hq=>⟨upR q (by rw[s2];simp[hq]),?_⟩,?_⟩⟩
 ·rw[<-hA]at hq;simpa using qU hq
 ·rw[<-hM]at hq;simpa using qU hq
 ·cases B with
  |nil=>simp
  |cons a t=>
   have ha:h_ r<a.1:=by have:=qg hB;simpa using this
   intro q hq;rcases cI.1 hq with rfl|hq
   ·exact ha
   ·have:=Z8.2.1 q hq;omega
def EU(rl:List iK)(first:Int)(items:List Int):Prop:=∀p x,first<=p->p<first+items.length->mM rl p=some x->items[(p-first).toNat]? =some x
theorem PL{r:iK}{M:List iK}(hr:0<r.2.length)(hw:mf M)(hm:∀q∈M,r.1<=h_ q/\q.1<=h_ r)(B7:EU M r.1 r.2):
  h_ (oe r M)=wd r M/\(oe r M).1=qb r M/\qb r M<wd r M/\
  ∀p,qb r M<=p->p<wd r M->(oe r M).2[(p-qb r M).toNat]? =if r.1<=p/\p<h_ r then r.2[(p-r.1).toNat]? else mM M p:=by
 have h1:=AF (M:=M) r;have h2:=Ay (M:=M) r;have hb:h_ r=r.1+r.2.length:=rfl;have i8:(ak (wd r M-qb r M).toNat (0:Int)).length=(wd r M-qb r M).toNat:=aE;have hk:(r.1-qb r M).toNat+r.2.length<=(ak (wd r M-qb r M).toNat (0:Int)).length:=by rw[i8];omega
 have e0:=nJ hk
 have nz:∀q∈M,qb r M<=q.1/\h_ q<=qb r M+((kZ (ak (wd r M-qb r M).toNat 0) (r.1-qb r M).toNat r.2).length:Nat):=fun q hq=>by
  have a1:=h1.2 q hq;have a2:=h2.2 q hq;rw[e0,i8];omega
 have e1:=wR (lo:=qb r M) (M:=M) (L:=kZ (ak (wd r M-qb r M).toNat 0) (r.1-qb r M).toNat r.2) (fun q hq=>by
  have:=nz q hq;unfold h_ at this;omega)
 have X_:(oe r M).1=qb r M:=rfl;have jp:qb r M<wd r M:=by omega
 refine⟨?_,X_,jp,fun p Bd T'=>?_⟩
 ·unfold h_;rw[X_];unfold oe;simp only;rw[e1,e0,i8];omega
 ·have hg:=SV (lo:=qb r M) (M:=M) (L:=kZ (ak (wd r M-qb r M).toNat 0) (r.1-qb r M).toNat r.2) hw nz (p-qb r M).toNat;have ep:qb r M+((p-qb r M).toNat:Int)=p:=by omega
  rw[ep,Bh hk]at hg;show(uG _ _ _)[_]? =_;rw[hg];by_cases hc:r.1<=p/\p<h_ r
  ·rw[if_pos hc,if_pos (by omega)];have e2:(p-qb r M).toNat-(r.1-qb r M).toNat=(p-r.1).toNat:=by omega
   rw[e2]
   cases hv:mM M p with
   |none=>rfl
   |some x=>rw[B7 p x hc.1 (by rw[<-hb];exact hc.2) hv];rfl
  ·rw[if_neg hc]
   have:∃x,mM M p=some x:=by
    have cov:∀q∈M,q.1<=p->p<h_ q->∃x,mM M p=some x:=by
     intro q hq a1 a2;clear hm B7 nz e1 hg h1 h2 i8 hk e0 jp Bd T' ep hc X_
     induction M with
     |nil=>cases hq
     |cons a t ih=>
      by_cases hc:a.1<=p/\p<a.1+a.2.length
      ·exact o6 hc
      ·rw[nh hc];rcases cI.1 hq with rfl|hq
       ·exact(hc ⟨a1,a2⟩).elim
       ·exact ih hw.2.2 hq
    rcases(by omega:p<r.1\/r.1<=p) with h3|h3
    ·rcases GM (M:=M) r with h4|⟨q,hq,h4⟩
     ·omega
     ·exact cov q hq (by omega) (by have:=(hm q hq).1;omega)
    ·rcases GC (M:=M) r with h4|⟨q,hq,h4⟩
     ·omega
     ·exact cov q hq (by have:=(hm q hq).2;omega) (by omega)
   obtain⟨x,hx⟩:=this;rw[hx]
   rfl
theorem I6{rl:List iK}{A M B:List iK}(hi:items≠[])(ht:Touch rl (first,items) A M B):mY rl first items=A++oe (first,items) M::B:=by
 unfold mY;rw[if_neg hi,ht.from_,ht.to_,ht.split]
 congr 1
 ·simp
 ·congr 1
  ·congr 1
   rw[br,List.drop_append_of_le_length (ay _),List.drop_length,List.nil_append];simp
  ·simp[List.drop_append]
theorem Fe{rl:List iK}(hw:mf rl)(B7:EU rl first items):
  mf (mY rl first items)/\∀p,mM (mY rl first items) p=if first<=p/\p<first+items.length then items[(p-first).toNat]? else mM rl p:=by
 by_cases hi:items=[]
 ·unfold mY;rw[if_pos hi];refine⟨hw,fun p=>?_⟩;rw[if_neg (by rw[hi];simp)]
 ·have pA:0<items.length:=List.length_pos_iff.2 hi;obtain⟨A,M,B,ht⟩:=TB hw (first,items);rw[I6 hi ht];have Ua:=ht.split▸hw;obtain⟨adr,Z8,aaI⟩:=pC.1 Ua;obtain⟨hwA,hwM,hAM⟩:=pC.1 adr;have hv:∀p,mM rl p=((mM A p).or (mM M p)).or (mM B p):=fun p=>by rw[ht.split,wW,wW]
  have NW:∀{l:List iK} {p:Int},(∀q∈l,¬(q.1<=p/\p<h_ q))->mM l p=none:=by
   intro l p h
   cases e:mM l p with
   |none=>rfl
   |some x=>
    obtain⟨q,hq,hc⟩:=FF e;exact(h q hq hc).elim
  have ack:EU M first items:=fun p x h1 h2 h3=>by
   refine B7 p x h1 h2 ?_;have:mM A p=none:=NW (fun q hq hc=>by have:=ht.low q hq;simp only at this;omega);rw[hv,this,h3]
   rfl
  obtain⟨j1,j2,j3,j4⟩:=PL (r:=(first,items)) pA hwM ht.WW ack;simp only at j4;have LW:=AF (M:=M) (first,items);have LQ:=Ay (M:=M) (first,items)
  have hA:∀q∈A,h_ q<qb (first,items) M:=fun q hq=>by
   rcases GM (M:=M) (first,items) with h|⟨x,hx,h⟩
   ·rw[h];exact ht.low q hq
   ·rw[h];exact hAM q hq x hx
  have hB:∀q∈B,wd (first,items) M<q.1:=fun q hq=>by
   rcases GC (M:=M) (first,items) with h|⟨x,hx,h⟩
   ·rw[h];exact ht.high q hq
   ·rw[h];exact aaI x (by simp[hx]) q hq
  have mq:h_ (first,items)=first+items.length:=rfl;generalize hJ:oe (first,items) M=J at j1 j2 j4⊢;have hJ1:h_ J=J.1+J.2.length:=rfl;generalize adZ:qb (first,items) M=lo at j2 j3 j4 LW hA;generalize adW:wd (first,items) M=T3 at j1 j3 j4 LQ hB
  constructor
  ·rw[pC];refine⟨hwA,⟨by omega,fun q hq=>?_,Z8⟩,fun a ha q hq=>?_⟩
   ·have:=hB q hq;omega
   ·rcases cI.1 hq with rfl|hq
    ·have:=hA a ha;omega
    ·exact aaI a (by simp[ha]) q hq
  ·intro p;rw[wW];by_cases hc:lo<=p/\p<T3
   ·have eA:mM A p=none:=NW (fun q hq hx=>by have:=hA q hq;omega);have eB:mM B p=none:=NW (fun q hq hx=>by have:=hB q hq;omega);rw[eA,oB (by omega),j2,j4 p hc.1 hc.2,hv,eA,eB,mq];simp
   ·have eM:mM M p=none:=NW (fun q hq hx=>by
     have a1:=LW.2 q hq;have a2:=LQ.2 q hq;omega)
    have h3:=LW.1;have h4:=LQ.1;simp only at h3;rw[nh (by omega),if_neg (by omega),hv,eM];simp
theorem M8(base:Int)(l:List Int)(n:Nat)(p:Int):se base (l++ak n (-1)) p=se base l p:=by
 unfold se;by_cases h:base<=p
 ·rw[if_pos h,if_pos h];rcases aD (p-base).toNat l.length with h1|h1
  ·rw[aw h1]
  ·rw[aF h1,bj h1,aA]
   split
   ·rename_i hx
    split at hx
    ·cases hx;simp
    ·cases hx
   ·rfl
 ·rw[if_neg h,if_neg h]
theorem TE(base:Int)(hk:k<l.length){x:Int}(hx:0<=x)(p:Int):se base (l.set k x) p=if p=base+k then some x else se base l p:=by
 unfold se;by_cases h:base<=p
 ·rw[if_pos h,if_pos h,List.getElem?_set];by_cases h1:p=base+k
  ·rw[if_pos h1,if_pos (by omega),if_pos hk];simp[hx]
  ·rw[if_neg h1,if_neg (by omega)]
 ·rw[if_neg h,if_neg h,if_neg (by omega)]
def Cm(base:Int)(l:List Int)(p x:Int):Prop:=∃y,se base l p=some y/\y≠x
theorem QD(base:Int)(l:List Int)(k:Nat){x:Int}(hx:0<=x):(Cm base l (base+k) x/\ub l k x=none)\/
  (¬Cm base l (base+k) x/\∃m,ub l k x=some m/\∀p,se base m p=if p=base+k then some x else se base l p):=by
 have hg:∀p,se base (kD l k) p=se base l p:=fun p=>M8 base l _ p
 have i8:k<(kD l k).length:=by unfold kD;simp only[aT,aE];omega
 have kP:se base l (base+k)=if 0<=(kD l k).getD k (-1) then some ((kD l k).getD k (-1)) else none:=by
  rw[<-hg];unfold se;have e:(base+(k:Int)-base).toNat=k:=by omega
  rw[if_pos (by omega),e,am i8];simp[aQ,am i8]
 unfold ub;generalize hq:(kD l k).getD k (-1)=q at kP⊢;by_cases hc:0<=q/\q≠x
 ·left
  refine⟨⟨q,by rw[kP,if_pos hc.1],hc.2⟩,by simp[hc]⟩
 ·right
  refine⟨?_,(kD l k).set k x,?_,fun p=>?_⟩
  ·rintro⟨y,h1,h2⟩;rw[kP]at h1
   split at h1
   ·cases h1
    exact hc ⟨by assumption,h2⟩
   ·cases h1
  ·rw[if_neg];simpa using hc
  ·rw[TE base i8 hx,hg]
theorem FH(base:Int)(l:List Int)(d:Int)(hb:iF b):∀(k:Nat),k<=b.length->
  (lN l d b k=none/\∃j:Nat,j<k/\0<=d+j/\Cm base l (base+d+j) (b.getD j 0))\/
  ((∀j:Nat,j<k->0<=d+j->¬Cm base l (base+d+j) (b.getD j 0))/\∃m,lN l d b k=some m/\
   ∀p,se base m p=if base<=p/\base+d<=p/\p<base+d+k then b[(p-base-d).toNat]? else se base l p)
 |0,_=>.inr ⟨fun j hj=>by omega,l,rfl,fun p=>by rw[if_neg (by omega)]⟩
 |k+1,hk=>by
  have hx:0<=b.getD k 0:=by
   have:=hb b[k] (List.getElem_mem _);simp only[aQ,am (show k<b.length by omega),Option.getD_some];exact this.1
  have hbk:b[k]? =some (b.getD k 0):=by simp[aQ,am (show k<b.length by omega)]
  rcases FH base l d hb k (by omega) with⟨h1,j,hj,h2,h3⟩|⟨h1,m,hm,hv⟩
  ·left
   exact⟨by simp[lN,h1],j,by omega,h2,h3⟩
  ·by_cases hd:d+(k:Int)<0
   ·right
    refine⟨fun j hj h=>?_,m,by simp[lN,hm,hd],fun p=>?_⟩
    ·by_cases e:j=k
     ·omega
     ·exact h1 j (by omega) h
    ·rw[hv p];by_cases hc:base<=p/\base+d<=p/\p<base+d+k
     ·rw[if_pos hc,if_pos (by omega)]
     ·rw[if_neg hc,if_neg (by omega)]
   ·have same:se base m (base+d+k)=se base l (base+d+k):=by rw[hv,if_neg (by omega)]
    have ek:base+((d+(k:Int)).toNat:Int)=base+d+k:=by omega
    have mx:Cm base m (base+d+k) (b.getD k 0)↔Cm base l (base+d+k) (b.getD k 0):=by unfold Cm;rw[same]
    rcases QD base m (d+(k:Int)).toNat hx with⟨hc,hw⟩|⟨hc,m2,hw,Da⟩
    ·rw[ek,mx]at hc
     left
     exact⟨by simp only[lN,hm,cN,if_neg hd,hw],k,by omega,by omega,hc⟩
    ·rw[ek,mx]at hc;rw[ek]at Da
     right
     refine⟨fun j hj h=>?_,m2,by simp only[lN,hm,cN,if_neg hd,hw],fun p=>?_⟩
     ·by_cases e:j=k
      ·subst e;exact hc
      ·exact h1 j (by omega) h
     ·rw[Da p,hv p];by_cases e:p=base+d+k
      ·rw[if_pos e,if_pos (by omega)];have:(p-base-d).toNat=k:=by omega
       rw[this,hbk]
      ·rw[if_neg e];by_cases nr:base<=p/\base+d<=p/\p<base+d+k
       ·rw[if_pos nr,if_pos (by omega)]
       ·rw[if_neg nr,if_neg (by omega)]
theorem vJ(x:Int)(l:List Int)(k:Nat):(x::l).getD (k+1) (-1)=l.getD k (-1):=by simp[aQ]
theorem zZ(l:List Int):pG l 0=decide (0<=l.getD 0 (-1)):=by simp[pG]
theorem zY(l:List Int)(k:Nat):pG l (k+1)=(decide (0<=l.getD (k+1) (-1))&&decide (l.getD k (-1)<0)):=by simp[pG]
theorem Bo(x:Int)(l:List Int):∀k,l_ (x::l) (k+1)=(if 0<=x then 1 else 0)+l_ l k-(if 0<=x/\0<=l.getD 0 (-1)/\0<k then 1 else 0)
 |0=>by
  have e:(x::l).getD 0 (-1)=x:=rfl;rw[l_,l_,zZ,e];by_cases hx:0<=x<;>simp[hx,l_]
 |k+1=>by
  have h:=Bo x l k;rw[l_,h,zY,vJ];have e0:l_ l (k+1)=l_ l k+if pG l k then 1 else 0:=rfl;rw[e0]
  cases k with
  |zero=>
   have e:(x::l).getD 0 (-1)=x:=rfl;rw[zZ,e];generalize l.getD 0 (-1)=y;by_cases hx:0<=x<;>by_cases hy:0<=y<;>simp[hx,hy]<;>omega
  |succ k=>
   rw[zY,vJ];simp only[Nat.zero_lt_succ,and_true];omega
theorem CN(base x:Int)(rs:List iK):((oz base x rs).length:Int)=rs.length+1-(if(rs.head?.map (·.1))=some (base+1) then 1 else 0):=by
 unfold oz
 cases rs with
 |nil=>simp
 |cons r t=>
  simp only[List.head?_cons,Option.map_some,Option.some.injEq]
  split
  ·simp
  ·simp
theorem Bn(base:Int)(l:List Int):(((jo base l).head?.map (·.1))=some base)↔0<=l.getD 0 (-1):=by
 cases l with
 |nil=>simp[jo,aQ]
 |cons x l=>
  have e:(x::l).getD 0 (-1)=x:=rfl;rw[e];unfold jo;by_cases hx:0<=x
  ·rw[if_pos hx];unfold oz
   split
   ·simp[hx]
   ·split<;>simp[hx]
  ·rw[if_neg hx]
   constructor
   ·intro h
    cases hr:jo (base+1) l with
    |nil=>rw[hr]at h;simp at h
    |cons r t=>
     rw[hr]at h;simp at h;have:=rz l (base+1) r (by rw[hr];simp);omega
   ·intro h;exact(hx h).elim
theorem tE(base x:Int)(l:List Int):jo base (x::l)=if 0<=x then oz base x (jo (base+1) l) else jo (base+1) l:=rfl
theorem qT(l:List Int):∀base:Int,((jo base l).length:Int)=l_ l l.length:=by
 induction l with
 |nil=>intro base;simp[jo,l_]
 |cons x l ih=>
  intro base;rw[cK,Bo,<-ih (base+1),tE];by_cases hx:0<=x
  ·rw[if_pos hx,if_pos hx,CN];have hh:=Bn (base+1) l;by_cases hy:0<=l.getD 0 (-1)
   ·rw[if_pos (hh.2 hy),if_pos ⟨hx,hy,by
     cases l with
     |nil=>simp[aQ]at hy
     |cons a t=>simp⟩]
    omega
   ·rw[if_neg (fun h=>hy (hh.1 h)),if_neg (fun h=>hy h.2.1)];omega
  ·rw[if_neg hx,if_neg hx,if_neg (fun h=>hx h.1)];omega
def uQ(rl:List iK):Nat:=(rl.map fun r=>r.2.length).sum
def od(l:List Int):Nat:=l.countP fun x=>decide (0<=x)
theorem He(l:List Int):∀base:Int,uQ (jo base l)=od l:=by
 induction l with
 |nil=>intro base;rfl
 |cons x l ih=>
  intro base;have h:=ih (base+1);unfold od uQ at *
  rw[List.countP_cons,tE];by_cases hx:0<=x
  ·rw[if_pos hx];simp only[hx,decide_true,if_true];rw[<-h];unfold oz
   split
   ·rename_i e;simp[e]
   ·rename_i r t e
    rw[e]
    split
    ·simp;omega
    ·simp;omega
  ·rw[if_neg hx];simp only[hx,decide_false];simpa using h
def rf(first:Int)(items:List Int)(r:iK):Bool:=
 if max first r.1<min (first+items.length) (h_ r) then
  decide ((r.2.drop (max first r.1-r.1).toNat).take (min (first+items.length) (h_ r)-max first r.1).toNat=(items.drop (max first r.1-first).toNat).take (min (first+items.length) (h_ r)-max first r.1).toNat)
 else true
def nV(rl:List iK)(first:Int)(items:List Int):Bool:=rl.all (rf first items)
theorem uY(first:Int)(items:List Int)(r:iK):rf first items r=true↔∀p,first<=p->p<first+items.length->r.1<=p->p<h_ r->r.2[(p-r.1).toNat]? =items[(p-first).toNat]?:=by
 unfold rf;generalize hf:max first r.1=f;generalize ht:min (first+items.length) (h_ r)=t;have hb:h_ r=r.1+r.2.length:=rfl;by_cases hc:f<t
 ·rw[if_pos hc,decide_eq_true_iff]
  constructor
  ·intro h p h1 h2 h3 h4;have h5:=congrArg (fun l=>l[(p-f).toNat]?) h;rw[bi (by omega),bi (by omega),cJ,cJ]at h5;have e1:(f-r.1).toNat+(p-f).toNat=(p-r.1).toNat:=by omega
   have e2:(f-first).toNat+(p-f).toNat=(p-first).toNat:=by omega
   rw[e1,e2]at h5;exact h5
  ·intro h
   apply List.ext_getElem?
   intro i;rcases aD i (t-f).toNat with hi|hi
   ·rw[bi hi,bi hi,cJ,cJ];have h5:=h (f+i) (by omega) (by omega) (by omega) (by omega);have e1:(f+(i:Int)-r.1).toNat=(f-r.1).toNat+i:=by omega
    have e2:(f+(i:Int)-first).toNat=(f-first).toNat+i:=by omega
    rw[e1,e2]at h5;exact h5
   ·rw[bj (by simp;omega),bj (by simp;omega)]
 ·rw[if_neg hc];simp only[true_iff];intro p h1 h2 h3 h4;omega
theorem IC{rl:List iK}(hw:mf rl)(first:Int)(items:List Int):nV rl first items=true↔EU rl first items:=by
 unfold nV;rw[List.all_eq_true]
 have mem:∀{rl:List iK},mf rl->∀r∈rl,∀p,r.1<=p->p<h_ r->mM rl p=r.2[(p-r.1).toNat]?:=by
  intro rl hw r hr p h1 h2
  induction rl with
  |nil=>cases hr
  |cons a t ih=>
   rcases cI.1 hr with rfl|hr
   ·exact oB ⟨h1,h2⟩
   ·have:=hw.2.1 r hr;rw[nh (by omega)];exact ih hw.2.2 hr
 constructor
 ·intro h p x h1 h2 h3;obtain⟨r,hr,h4,h5⟩:=FF h3;have h6:=(uY first items r).1 (h r hr) p h1 h2 h4 h5;rw[<-h6,<-mem hw r hr p h4 h5];exact h3
 ·intro h r hr;rw[uY];intro p h1 h2 h3 h4;have h5:=mem hw r hr p h3 h4;have hb:h_ r=r.1+r.2.length:=rfl;rw[am (by omega)]at h5⊢;exact(h p _ h1 h2 h5).symm
def oT(read iC:Int)(b:List Int):Nat:=(min (max (read-iC) 0) b.length).toNat
theorem P6(base:Int)(l:List Int)(iC:Int)(hb:iF b):
  (nV (jo base l) (iC+oT base iC b) (b.drop (oT base iC b))=false/\lN l (iC-base) b b.length=none)\/
  (nV (jo base l) (iC+oT base iC b) (b.drop (oT base iC b))=true/\∃m,lN l (iC-base) b b.length=some m/\
   mY (jo base l) (iC+oT base iC b) (b.drop (oT base iC b))=jo base m):=by
 have hw:=xz l base;have hs:(oT base iC b:Int)=min (max (base-iC) 0) b.length:=by unfold oT;omega
 generalize hk:oT base iC b=k at hs⊢;have hl:((b.drop k).length:Int)=b.length-k:=by simp only[List.length_drop];omega
 have B7:=IC hw (iC+k) (b.drop k);have tA:∀p,mM (jo base l) p=se base l p:=Bk l base;have aaH:∀j:Nat,j<b.length->b[j]? =some (b.getD j 0):=fun j hj=>by simp[aQ,am hj]
 rcases FH base l (iC-base) hb b.length (ay _) with⟨h1,j,hj,h2,y,h3,h4⟩|⟨h1,m,hm,hv⟩
 ·left
  refine⟨?_,h1⟩;rw[<-Bool.not_eq_true];intro h;have h5:=(B7.1 h) (base+(iC-base)+j) y (by omega) (by omega) (by rw[tA];exact h3);rw[cJ]at h5;have e:k+(base+(iC-base)+(j:Int)-(iC+(k:Int))).toNat=j:=by omega
  rw[e,aaH j hj]at h5;exact h4 (by simpa using h5.symm)
 ·right
  have hA:EU (jo base l) (iC+k) (b.drop k):=by
   intro p x h2 h3 h4;rw[tA]at h4
   have hp:base<=p:=by
    unfold se at h4
    split at h4
    ·assumption
    ·cases h4
   have h5:=h1 (p-iC).toNat (by omega) (by omega);have ep:base+(iC-base)+((p-iC).toNat:Int)=p:=by omega
   rw[ep]at h5;rw[cJ];have e:k+(p-(iC+(k:Int))).toNat=(p-iC).toNat:=by omega
   rw[e,aaH _ (by omega)]
   congr 1
   apply cM
   intro js;exact h5 ⟨x,h4,fun h=>js h.symm⟩
  refine⟨B7.2 hA,m,hm,?_⟩;obtain⟨f1,f2⟩:=Fe hw hA;refine Dw f1 (xz m base) fun p=>?_
  rw[f2,tA,Bk,hv];by_cases hc:iC+k<=p/\p<iC+k+((b.drop k).length:Nat)
  ·rw[if_pos hc,if_pos (by omega),cJ]
   congr 1
   omega
  ·rw[if_neg hc];by_cases nr:base<=p/\base+(iC-base)<=p/\p<base+(iC-base)+b.length
   ·omega
   ·rw[if_neg nr]
def kh(rl:List iK)(first behind:Int):Bool:=decide (behind<=first) || rl.any fun r=>decide (r.1<=first)&&decide (behind<=h_ r)
def lU(rs:List (Int×Int)):List iK:=rs.map fun r=>(r.1,ak (r.2-r.1+1).toNat 0)
def Ii:List (Int×Int)->Prop
 |[]=>True
 |r::t=>r.1<=r.2/\(∀q∈t,r.2+1<q.1)/\Ii t
def B5(rs:List (Int×Int))(p:Int):Prop:=∃r∈rs,r.1<=p/\p<=r.2
theorem vC(h:Ii rs)(hr:r∈rs):r.1<=r.2:=by
 induction rs with
 |nil=>cases hr
 |cons a t ih=>
  rcases cI.1 hr with rfl|hr
  ·exact h.1
  ·exact ih h.2.2 hr
theorem qJ{a b:List (Int×Int)}:Ii (a++b)↔Ii a/\Ii b/\∀r∈a,∀q∈b,r.2+1<q.1:=by
 induction a with
 |nil=>simp[Ii]
 |cons r t ih=>
  rw[cO];simp only[Ii,ih,bR,cI]
  constructor
  ·rintro⟨h1,h2,h3,h4,h5⟩;refine⟨⟨h1,fun q hq=>h2 q (.inl hq),h3⟩,h4,?_⟩;rintro x (rfl|hx) q hq
   ·exact h2 q (.inr hq)
   ·exact h5 x hx q hq
  ·rintro⟨⟨h1,h2,h3⟩,h4,h5⟩;refine⟨h1,?_,h3,h4,fun x hx q hq=>h5 x (.inr hx) q hq⟩;rintro q (hq|hq)
   ·exact h2 q hq
   ·exact h5 r (.inl rfl) q hq
theorem tD(h:r.1<=r.2):h_ (r.1,ak (r.2-r.1+1).toNat 0)=r.2+1:=by
 unfold h_;simp only[aE];omega
theorem Dj(h:Ii rs):mf (lU rs):=by
 induction rs with
 |nil=>trivial
 |cons r t ih=>
  refine⟨by simp only[aE];have:=h.1;omega,fun q hq=>?_,ih h.2.2⟩;obtain⟨x,hx,rfl⟩:=List.mem_map.1 hq;have h1:=h.2.1 x hx;have h2:=h.1;simp only[aE];omega
theorem qI(p:Int):(B5 rs p->mM (lU rs) p=some 0)/\(¬B5 rs p->mM (lU rs) p=none):=by
 induction rs with
 |nil=>exact⟨fun h=>(by obtain⟨r,hr,_⟩:=h;exact absurd hr (by simp)),fun _=>rfl⟩
 |cons r t ih=>
  have e:lU (r::t)=(r.1,ak (r.2-r.1+1).toNat 0)::lU t:=rfl;rw[e];by_cases hc:r.1<=p/\p<=r.2
  ·rw[oB (by simp only[aE];omega)];refine⟨fun _=>?_,fun h=>(h ⟨r,by simp,hc⟩).elim⟩;simp only;rw[aA,if_pos (by omega)]
  ·rw[nh (by simp only[aE];omega)];refine⟨fun⟨x,hx,h⟩=>ih.1 ?_,fun h=>ih.2 fun⟨x,hx,h'⟩=>h ⟨x,by simp[hx],h'⟩⟩;rcases cI.1 hx with rfl|hx
   ·exact(hc h).elim
   ·exact⟨x,hx,h⟩
theorem Gl(hw:Ii rs)(n:Int):kh (lU rs) n (n+1)=true↔B5 rs n:=by
 unfold kh lU B5;rw[List.any_map];simp only[Bool.or_eq_true,decide_eq_true_iff,List.any_eq_true,Function.comp,Bool.and_eq_true]
 constructor
 ·rintro(h|⟨r,hr,h1,h2⟩)
  ·omega
  ·rw[tD (vC hw hr)]at h2;exact⟨r,hr,h1,by omega⟩
 ·rintro⟨r,hr,h1,h2⟩;exact .inr ⟨r,hr,h1,by rw[tD (vC hw hr)];omega⟩
def qB(n:Int)(o:Option sX)(rs:List (Int×Int)):Option sX:=rs.foldl (fun o r=>o.bind fun st=>jU n st r) o
theorem yg(n:Int)(rs:List (Int×Int)):∀k,k<=rs.length->rO n rs k=qB n (some ⟨[],n,n,false⟩) (rs.take k)
 |0,_=>by simp[rO,qB]
 |k+1,h=>by
  rw[rO,yg n rs k (by omega),List.take_add_one,am (by omega)];unfold qB;rw[Option.toList_some,List.foldl_append];simp[aQ,am (show k<rs.length by omega)]
theorem wo(n:Int)(o:Option sX)(a b:List (Int×Int)):qB n o (a++b)=qB n (qB n o a) b:=by unfold qB;rw[List.foldl_append]
theorem E8(n:Int)(a:List (Int×Int)):qB n none a=none:=by
 induction a with
 |nil=>rfl
 |cons r t ih=>exact ih
theorem RG(n:Int)(h:∀r∈A,r.1<=r.2/\r.2+1<n):∀st:sX,qB n (some st) A=some {st with all:=st.all++A}:=by
 induction A with
 |nil=>intro st;simp[qB]
 |cons r t ih=>
  intro st;have h0:=h r (by simp)
  have e:jU n st r=some {st with all:=st.all++[r]}:=by
   unfold jU;rw[if_neg (by omega),if_neg (by omega),if_neg (by omega),if_neg (by omega)]
  show qB n ((some st).bind fun st=>jU n st r) t=_;rw[cN,e,ih (fun q hq=>h q (by simp[hq]))];simp
theorem OI(n:Int)(h:∀r∈B,r.1<=r.2/\n+1<r.1):∀st:sX,st.xH=true->qB n (some st) B=some {st with all:=st.all++B}:=by
 induction B with
 |nil=>intro st _;simp[qB]
 |cons r t ih=>
  intro st hs;have h0:=h r (by simp)
  have e:jU n st r=some {st with all:=st.all++[r]}:=by
   unfold jU;rw[if_neg (by omega),if_neg (by omega),if_neg (by omega),if_neg (by rw[hs];simp)]
  show qB n ((some st).bind fun st=>jU n st r) t=_;rw[cN,e,ih (fun q hq=>h q (by simp[hq])) {st with all:=st.all++[r]} hs];simp
theorem OJ(n:Int)(h:∀r∈B,r.1<=r.2/\n+1<r.1)(st:sX)(hs:st.xH=false):∃Zi,qB n (some st) B=some Zi/\ky Zi=st.all++(st.lo,st.hi)::B/\Zi.lo=st.lo/\Zi.hi=st.hi:=by
 cases B with
 |nil=>exact⟨st,rfl,by unfold ky;rw[hs];simp,rfl,rfl⟩
 |cons r t=>
  have h0:=h r (by simp)
  have e:jU n st r=some {st with all:=st.all++[(st.lo,st.hi)]++[r],xH:=true}:=by
   unfold jU;rw[if_neg (by omega),if_neg (by omega),if_neg (by omega),if_pos ⟨by omega,hs⟩]
  have e2:qB n (some st) (r::t)=qB n (jU n st r) t:=rfl;rw[e2,e,OI n (fun q hq=>h q (by simp[hq])) _ rfl];refine⟨_,rfl,?_,rfl,rfl⟩;unfold ky;simp
theorem Ln(n lo hi:Int)(hn:lo<=n/\n<=hi)(hA:∀r∈A,r.2<n)(hB:∀r∈B,n<r.1):(A++(lo,hi)::B).map (ja n lo hi)=A++(lo,hi)::B:=by
 have Ag:∀l:List (Int×Int),(∀r∈l,¬(r.1<=n/\n<=r.2))->l.map (ja n lo hi)=l:=by
  intro l h
  induction l with
  |nil=>rfl
  |cons a t ih=>
   rw[List.map_cons,ih (fun r hr=>h r (by simp[hr]))]
   congr 1
   unfold ja;rw[if_neg (h a (by simp))]
 rw[List.map_append,List.map_cons,Ag A (fun r hr=>by have:=hA r hr;omega),Ag B (fun r hr=>by have:=hB r hr;omega)]
 congr 2
 unfold ja;rw[if_pos hn]
theorem ve(hw:Ii rs)(n:Int):
  (B5 rs n->rO n rs rs.length=none)/\(¬B5 rs n->∃st qr,rO n rs rs.length=some st/\(ky st).map (ja n st.lo st.hi)=qr/\Ii qr/\mY (lU rs) n [0]=lU qr/\0<qr.length/\qr.length<=rs.length+1/\
   ∀p,B5 qr p↔p=n\/B5 rs p):=by
 constructor
 ·rintro⟨r,hr,h1,h2⟩;rw[yg n rs _ (ay _),List.take_length];obtain⟨a,b,rfl⟩:=List.append_of_mem hr;rw[wo]
  have e:∀o:Option sX,qB n o (r::b)=none:=by
   intro o
   cases o with
   |none=>exact E8 n _
   |some st=>
    show qB n (jU n st r) b=none;unfold jU;rw[if_pos ⟨h1,h2⟩];exact E8 n b
  exact e _
 ·intro hn;rw[yg n rs _ (ay _),List.take_length];have s1:=rK (fun q:Int×Int=>decide (q.2+1<n)) rs;generalize hA:rs.takeWhile (fun q=>decide (q.2+1<n))=A at s1;generalize hR:rs.dropWhile (fun q=>decide (q.2+1<n))=R at s1;have hwA:=(qJ.1 (s1▸hw)).1;have Pu:=(qJ.1 (s1▸hw)).2.1;have hAR:=(qJ.1 (s1▸hw)).2.2;have hAl:∀r∈A,r.1<=r.2/\r.2+1<n:=fun r hr=>⟨vC hwA hr,by rw[<-hA]at hr;simpa using qU hr⟩
  have wN:∀r∈R,¬(r.1<=n/\n<=r.2):=fun r hr h=>hn ⟨r,by rw[s1];simp[hr],h⟩
  have fin:∀(M B:List (Int×Int)) (lo hi:Int),R=M++B->lo<=n->n<=hi->(∀st:sX,st.xH=false->st.lo=n->st.hi=n->qB n (some st) M=some {st with lo:=lo,hi:=hi})->(∀r∈B,n+1<r.1)->
    (∀r∈B,hi+1<r.1)->(∀r∈A,r.2+1<lo)->(∀p,(lo<=p/\p<=hi)↔(p=n\/B5 M p))->
    ∃st qr,qB n (some ⟨[],n,n,false⟩) rs=some st/\(ky st).map (ja n st.lo st.hi)=qr/\Ii qr/\mY (lU rs) n [0]=lU qr/\0<qr.length/\qr.length<=rs.length+1/\∀p,B5 qr p↔p=n\/B5 rs p:=by
   intro M B lo hi XM LW LQ hM hB At KL nz
   have c1:qB n (some ⟨[],n,n,false⟩) rs=qB n (some ⟨A,lo,hi,false⟩) B:=by
    rw[s1,XM,wo,RG n hAl,wo,hM _ rfl rfl rfl];simp
   have Z8:Ii B:=(qJ.1 (XM▸Pu)).2.1;obtain⟨Zi,c2,c3,c4,c5⟩:=OJ n (fun r hr=>⟨vC Z8 hr,hB r hr⟩) ⟨A,lo,hi,false⟩ rfl
   have Sz:Ii (A++(lo,hi)::B):=by
    rw[qJ];refine⟨hwA,⟨by show lo<=hi;omega,fun q hq=>At q hq,Z8⟩,fun r hr q hq=>?_⟩;rcases cI.1 hq with rfl|hq
    ·exact KL r hr
    ·exact hAR r hr q (by rw[XM];simp[hq])
   have Vc:∀p,B5 (A++(lo,hi)::B) p↔p=n\/B5 rs p:=by
    intro p;have h1:=nz p
    constructor
    ·rintro⟨r,hr,h2⟩;rcases bR.1 hr with hr|hr
     ·exact .inr ⟨r,by rw[s1];simp[hr],h2⟩
     ·rcases cI.1 hr with rfl|hr
      ·rcases h1.1 h2 with h3|⟨x,hx,h4⟩
       ·exact .inl h3
       ·exact .inr ⟨x,by rw[s1,XM];simp[hx],h4⟩
      ·exact .inr ⟨r,by rw[s1,XM];simp[hr],h2⟩
    ·rintro(h2|⟨r,hr,h2⟩)
     ·exact⟨(lo,hi),by simp,by simp only;omega⟩
     ·rw[s1,XM]at hr;rcases bR.1 hr with hr|hr
      ·exact⟨r,by simp[hr],h2⟩
      ·rcases bR.1 hr with hr|hr
       ·exact⟨(lo,hi),by simp,h1.2 (.inr ⟨r,hr,h2⟩)⟩
       ·exact⟨r,by simp[hr],h2⟩
   refine⟨Zi,A++(lo,hi)::B,by rw[c1,c2],?_,Sz,?_,by simp;omega,?_,Vc⟩
   ·rw[c3,c4,c5];exact Ln n lo hi ⟨LW,LQ⟩ (fun r hr=>by have:=hAl r hr;omega) (fun r hr=>by have:=hB r hr;omega)
   ·have B7:EU (lU rs) n [0]:=fun p x h1 h2 h3=>by
     have:p=n:=by simp at h2;omega
     subst this;rw[(qI p).2 hn]at h3
     cases h3
    obtain⟨f1,f2⟩:=Fe (Dj hw) B7;refine Dw f1 (Dj Sz) fun p=>?_
    rw[f2];by_cases hp:p=n
    ·subst hp;rw[if_pos ⟨by omega,by simp;omega⟩,(qI p).1 ((Vc p).2 (.inl rfl))];simp
    ·rw[if_neg (by simp;omega)];by_cases T3:B5 rs p
     ·rw[(qI p).1 T3,(qI p).1 ((Vc p).2 (.inr T3))]
     ·rw[(qI p).2 T3,(qI p).2 (fun h=>by rcases(Vc p).1 h with h|h;exact hp h;exact T3 h)]
   ·rw[s1,XM];simp only[aT,cK];omega
  have up:∀(R':List (Int×Int)),Ii R'->(∀r∈R',n<r.1)->∃M B hi,R'=M++B/\n<=hi/\(∀st:sX,st.xH=false->st.hi=n->qB n (some st) M=some {st with hi:=hi})/\(∀r∈B,n+1<r.1)/\(∀r∈B,hi+1<r.1)/\
    (∀p,(n<=p/\p<=hi)↔(p=n\/B5 M p)):=by
   intro R' Ua T2
   have ab2:(∀r∈R',n+1<r.1)->∃M B hi,R'=M++B/\n<=hi/\(∀st:sX,st.xH=false->st.hi=n->qB n (some st) M=some {st with hi:=hi})/\(∀r∈B,n+1<r.1)/\(∀r∈B,hi+1<r.1)/\
    (∀p,(n<=p/\p<=hi)↔(p=n\/B5 M p)):=fun h=>⟨[],R',n,rfl,cP _,fun st _ h2=>by simp[qB,<-h2],h,h,fun p=>⟨fun h=>.inl (by omega),fun h=>by
     rcases h with h|⟨r,hr,_⟩
     ·omega
     ·cases hr⟩⟩
   cases R' with
   |nil=>exact ab2 (by simp)
   |cons a t=>
    by_cases ha:a.1=n+1
    ·refine⟨[a],t,a.2,rfl,by have:=Ua.1;omega,fun st h1 h2=>?_,fun r hr=>by have:=Ua.2.1 r hr;have:=Ua.1;omega,fun r hr=>Ua.2.1 r hr,fun p=>⟨fun h=>?_,fun h=>?_⟩⟩
     ·show jU n st a=_;unfold jU;rw[if_neg (by omega),if_neg (by have:=Ua.1;omega),if_pos ha]
     ·by_cases hp:p=n
      ·exact .inl hp
      ·exact .inr ⟨a,by simp,by omega⟩
     ·rcases h with h|⟨r,hr,h⟩
      ·have:=Ua.1;omega
      ·simp at hr;subst hr;omega
    ·refine ab2 (fun r hr=>?_);have h0:=T2 a (by simp);rcases cI.1 hr with rfl|hr
     ·omega
     ·have:=Ua.2.1 r hr;have:=Ua.1;omega
  cases R with
  |nil=>
   obtain⟨M,B,hi,h1,h2,h3,h4,h5,h6⟩:=up [] trivial (by simp);exact fin M B n hi h1 (cP _) h2 (fun st a1 a2 a3=>by rw[h3 st a1 a3,<-a2]) h4 h5 (fun r hr=>(hAl r hr).2) h6
  |cons a t=>
   have Wh:n<=a.2+1:=by have:=qg hR;simpa using this
   have KN:=wN a (by simp);by_cases hb:a.2=n-1
   ·obtain⟨M,B,hi,h1,h2,h3,h4,h5,h6⟩:=up t Pu.2.2 (fun r hr=>by have:=Pu.2.1 r hr;omega);refine fin (a::M) B a.1 hi (by rw[h1];rfl) (by have:=Pu.1;omega) h2 (fun st a1 a2 a3=>?_) h4 h5 (fun r hr=>hAR r hr a (by simp)) (fun p=>?_)
    ·show qB n (jU n st a) M=_
     have e:jU n st a=some {st with lo:=a.1}:=by
      unfold jU;rw[if_neg (by omega),if_pos hb]
     rw[e,h3 {st with lo:=a.1} a1 a3]
    ·have h7:=h6 p
     constructor
     ·intro h;by_cases hp:n<=p
      ·rcases h7.1 ⟨hp,h.2⟩ with h8|⟨r,hr,h8⟩
       ·exact .inl h8
       ·exact .inr ⟨r,by simp[hr],h8⟩
      ·exact .inr ⟨a,by simp,by omega⟩
     ·rintro(h|⟨r,hr,h⟩)
      ·have:=h7.2 (.inl h);have:=Pu.1;omega
      ·rcases cI.1 hr with rfl|hr
       ·omega
       ·have:=h7.2 (.inr ⟨r,hr,h⟩);have:=Pu.1;omega
   ·obtain⟨M,B,hi,h1,h2,h3,h4,h5,h6⟩:=up (a::t) Pu (fun r hr=>by
     have h0:n<a.1:=by omega
     rcases cI.1 hr with rfl|hr
     ·exact h0
     ·have:=Pu.2.1 r hr;have:=Pu.1;omega)
    exact fin M B n hi h1 (cP _) h2 (fun st a1 a2 a3=>by rw[h3 st a1 a3,<-a2]) h4 h5 (fun r hr=>(hAl r hr).2) h6
theorem vn(x:Int)(l:List Int):pB (x::l)=if 0<=x then pB l+1 else 0:=by
 unfold pB;rw[List.takeWhile_cons];by_cases hx:0<=x<;>simp[hx]
theorem SX(l:List Int):pB l<=l.length:=by
 induction l with
 |nil=>simp[pB]
 |cons x l ih=>rw[vn];split<;>simp<;>omega
theorem Km(l:List Int):∀base:Int,0<pB l->jo base l=(base,l.take (pB l))::jo (base+pB l) (l.drop (pB l)):=by
 induction l with
 |nil=>intro base h;simp[pB]at h
 |cons x l ih=>
  intro base h;rw[vn]at h⊢;by_cases hx:0<=x
  ·rw[if_pos hx,tE,if_pos hx];by_cases hl:0<pB l
   ·rw[ih (base+1) hl];unfold oz;simp only[if_true,List.take_succ_cons,List.drop_succ_cons]
    congr 2
    omega
   ·have h0:pB l=0:=by omega
    rw[h0];have hh:=Bn (base+1) l
    have Ys:¬0<=l.getD 0 (-1):=by
     cases l with
     |nil=>simp[aQ]
     |cons y t=>
      rw[vn]at h0
      split at h0
      ·omega
      ·assumption
    unfold oz
    cases hr:jo (base+1) l with
    |nil=>simp[hr]
    |cons r t=>
     rw[hr]at hh;have:r.1≠base+1:=fun e=>Ys (hh.1 (by simp[e]))
     simp[this,hr]
  ·rw[if_neg hx]at h;omega
theorem Eu(l:List Int)(h:pB l=0)(base:Int):∀q∈jo base l,base<q.1:=by
 cases l with
 |nil=>simp[jo]
 |cons x l=>
  rw[vn]at h
  split at h
  ·omega
  ·rename_i hx
   intro q hq;rw[tE,if_neg hx]at hq;have:=rz l (base+1) q hq;omega
theorem IW(base:Int)(l:List Int)(aef:Int):kh (jo base l) base aef=decide (aef<=base+pB l):=by
 unfold kh;rw[Bool.eq_iff_iff];simp only[Bool.or_eq_true,decide_eq_true_iff,List.any_eq_true,Bool.and_eq_true];have hl:=SX l;by_cases h:0<pB l
 ·have hw:=xz l base;rw[Km l base h]at hw⊢;have hb:h_ (base,l.take (pB l))=base+pB l:=by unfold h_;simp only[bq];omega
  constructor
  ·rintro(h1|⟨r,hr,h1,h2⟩)
   ·omega
   ·rcases cI.1 hr with rfl|hr
    ·omega
    ·have:=hw.2.1 r hr;simp only[bq]at this;omega
  ·intro h1;exact .inr ⟨_,List.mem_cons_self,cP _,by rw[hb];exact h1⟩
 ·have h0:pB l=0:=by omega
  constructor
  ·rintro(h1|⟨r,hr,h1,h2⟩)
   ·omega
   ·have:=Eu l h0 base r hr;omega
  ·intro h1;exact .inl (by omega)
structure np(iI:Int)(x:jf):Prop where
 read:0<=x.read
 ent:∀b∈x.bytes,-1<=b/\b<256
 len:x.read+x.bytes.length<=x.gR
 fin:0<=x.final->x.gR=x.final
 aaF:-1<=x.final
 rst:x.reset=true->x.bytes=[]/\0<=x.final
 dn:x.done=true->x.bytes=[]/\0<=x.final/\(x.reset=false->x.read=x.final)
 iI:l_ x.bytes x.bytes.length<=iI
 Ls:x.gR<=x.gM/\x.gM<=1073741823
theorem vD:∀{k:Nat} {m:List Int},lN l d b k=some m->l.length<=m.length/\(m.length:Int)<=max (l.length:Int) (d+k)
 |0,m,h=>by
  simp only[lN,Option.some.injEq]at h;subst h;omega
 |k+1,m,h=>by
  simp only[lN,bX]at h;obtain⟨m',h1,h2⟩:=h;have ih:=vD h1
  split at h2
  ·simp only[Option.some.injEq]at h2;subst h2;omega
  ·unfold ub at h2
   split at h2
   ·cases h2
   ·simp only[Option.some.injEq]at h2;subst h2;unfold kD;simp only[List.length_set,aT,aE];omega
theorem Dn(hb:iF b)(hl:∀x∈l,-1<=x/\x<256):∀{k:Nat} {m:List Int},k<=b.length->lN l d b k=some m->∀x∈m,-1<=x/\x<256
 |0,m,_,h=>by
  simp only[lN,Option.some.injEq]at h;subst h;exact hl
 |k+1,m,hk,h=>by
  simp only[lN,bX]at h;obtain⟨m',h1,h2⟩:=h;have ih:=Dn hb hl (by omega) h1
  split at h2
  ·simp only[Option.some.injEq]at h2;subst h2;exact ih
  ·unfold ub at h2
   split at h2
   ·cases h2
   ·simp only[Option.some.injEq]at h2;subst h2;intro x hx;rcases List.mem_or_eq_of_mem_set hx with hx|rfl
    ·unfold kD at hx;rcases bR.1 hx with hx|hx
     ·exact ih x hx
     ·have:=(List.mem_replicate.1 hx).2;omega
    ·have:=hb b[k] (List.getElem_mem _);simp only[aQ,am (show k<b.length by omega),Option.getD_some];omega
theorem Ks(hb:iF f.bytes)(ho:0<=f.iC)(hg:0<=iI)(hx:np iI x):np iI (iw iI gM high f x).2:=by
 unfold iw;simp only;generalize he:f.iC+(f.bytes.length:Int)=e;by_cases qE:vY x e (decide (f.type≠3))=true
 ·rw[if_pos qE];exact hx
 rw[if_neg qE];by_cases hd:x.done=true
 ·rw[if_pos hd];exact hx
 rw[if_neg hd];by_cases Cb:mC x e gM high=true
 ·rw[if_pos Cb];exact hx
 rw[if_neg Cb];have hd':x.done=false:=by simpa using hd
 have abR:∀r:jf,r.read=x.read->r.gR=x.gR->r.final=x.final->r.reset=x.reset->r.done=x.done->r.gM=x.gM->(∀b∈r.bytes,-1<=b/\b<256)->r.read+r.bytes.length<=max x.gR e->
   (r.reset=true->r.bytes=[])->l_ r.bytes r.bytes.length<=iI->np iI (lp f x r):=by
  intro r r1 r2 r3 r4 r5 r6 r7 r8 r9 r10;have ND:vY x e (decide (f.type≠3))=false:=by simpa using qE
  have Vm:mC x e gM high=false:=by simpa using Cb
  unfold vY at ND;unfold mC at Vm;simp only[hd',Bool.not_false,Bool.true_and,Bool.or_eq_false_iff,Bool.and_eq_false_iff,decide_eq_false_iff_not]at ND Vm;have hm:x.gR+kT x e=max x.gR e:=by unfold kT;split<;>omega
  have c1:=hx.Ls;have f1:=hx.fin;have f0:=hx.aaF
  have y:np iI {r with gR:=x.gR+kT x e,final:=if f.type≠3 then e else r.final}:=by
   refine⟨by rw[r1];exact hx.read,r7,by simp only;rw[hm];exact r8,?_,?_,?_,?_,r10,?_⟩
   ·simp only;rw[hm,r3];by_cases ht:f.type≠3
    ·rw[if_pos ht];intro _
     have:¬e<x.gR:=by
      rcases ND.2 with h|h
      ·exact absurd h (by simpa using ht)
      ·exact h
     omega
    ·rw[if_neg ht];intro h0;have h1:=f1 h0;rcases ND.1 with h|h
     ·omega
     ·omega
   ·simp only
    split
    ·omega
    ·rw[r3];exact f0
   ·simp only;intro h;refine⟨r9 h,?_⟩
    split
    ·omega
    ·rw[r3];exact(hx.rst (r4▸h)).2
   ·simp only;intro h;rw[r5,hd']at h
    cases h
   ·simp only;rw[hm,r6];have:=Vm.1;omega
  have Ag:∀Y:jf,np iI Y->(f.type=5->0<=Y.final)->Y.done=false->np iI (if f.type=5/\Bv Y=false then {Y with reset:=true,bytes:=[]} else Y):=by
   intro Y hY h6 h7
   split
   ·rename_i hc
    refine⟨hY.read,by simp,?_,hY.fin,hY.aaF,fun _=>⟨rfl,h6 hc.1⟩,?_,by simpa[l_] using hg,hY.Ls⟩
    ·have:=hY.len;simp only[List.length_nil]at this⊢;omega
    ·intro h;rw[h7]at h
     cases h
   ·exact hY
  unfold lp;simp only[he];refine Ag _ y (fun h=>?_) (by simp only;rw[r5];exact hd');simp only;rw[if_pos (by omega)];omega
 by_cases hr:f.type≠5/\x.reset=false
 ·rw[if_pos hr];by_cases hc:(jD iI x f.iC f.bytes).1≠0
  ·rw[if_pos hc];exact hx
  ·rw[if_neg hc];unfold jD at hc⊢
   cases hm:lN x.bytes (f.iC-x.read) f.bytes f.bytes.length with
   |none=>rw[hm]at hc;simp at hc
   |some m=>
    rw[hm]at hc;simp only at hc⊢
    split at hc
    ·simp at hc
    ·rename_i ZV
     rw[if_neg ZV];have hl:=vD hm;refine abR _ rfl rfl rfl rfl rfl rfl (Dn hb hx.ent (ay _) hm) ?_ (fun h=>?_) (by simp only;omega)
     ·have:=hx.len;simp only;omega
     ·simp only at h;rw[hr.2]at h
      cases h
 ·rw[if_neg hr];exact abR x rfl rfl rfl rfl rfl rfl hx.ent (by have:=hx.len;omega) (fun h=>(hx.rst h).1) hx.iI
def mN(ty:Int):Bool:=(ty==4) ||(ty==5)
def pe(ty en fi:Int):Int:=if fi<en\/(mN ty=true/\en≠fi) then 6 else 0
def tr(hi cr en Es:Int):Int:=if cr<en\/Es<en-hi then 3 else 0
def I3(kn:Bool)(ty en hi fi:Int):Int:=if kn=true then pe ty en fi else if mN ty=true/\en<hi then 6 else 0
def yD(rs:Bool)(rl:List iK)(first:Int)(fresh:List Int)(iI:Int):Int×List iK:=
 if rs=true then(0,rl) else if nV rl first fresh=false then(9,rl) else(if iI<(mY rl first fresh).length then 8 else 0,mY rl first fresh)
theorem ID(rl:List iK)(first:Int):nV rl first []=true:=by
 unfold nV;rw[List.all_eq_true];intro r _;rw[uY];intro p h1 h2;simp at h2;omega
theorem Fc(rl:List iK)(first:Int):mY rl first []=rl:=by
 unfold mY;rw[if_pos rfl]
theorem Qh(l:List Int):∀(base:Int),∀q∈jo base l,h_ q<=base+l.length:=by
 induction l with
 |nil=>intro base q hq;simp[jo]at hq
 |cons x l ih=>
  intro base q hq;have hl:((x::l).length:Int)=l.length+1:=by simp
  unfold jo at hq
  split at hq
  ·unfold oz at hq
   split at hq
   ·simp at hq;subst hq;simp[h_];omega
   ·rename_i r t he
    have h1:∀q∈r::t,h_ q<=base+1+l.length:=fun q hq=>ih (base+1) q (by rw[he];exact hq)
    split at hq
    ·rename_i e
     rcases cI.1 hq with rfl|hq
     ·have:=h1 r (by simp);simp only[h_,cK]at this⊢;omega
     ·have:=h1 q (by simp[hq]);omega
    ·rcases cI.1 hq with rfl|hq
     ·simp[h_];omega
     ·have:=h1 q hq;omega
  ·have:=ih (base+1) q hq;omega
theorem yL(h:ty=3\/ty=4\/ty=5):mN ty=decide (ty≠3):=by
 rcases h with rfl|rfl|rfl<;>decide
theorem RN(hx:np iI x)(hd:x.done=false)(BJ:ty=3\/ty=4\/ty=5):
  (vY x e (decide (ty≠3))=true/\I3 (decide (0<=x.final)) ty e x.gR (max x.final 0)=6)\/(vY x e (decide (ty≠3))=false/\I3 (decide (0<=x.final)) ty e x.gR (max x.final 0)=0):=by
 unfold vY I3 pe;rw[yL BJ,hd];by_cases h0:0<=x.final
 ·have hf:=hx.fin h0;have hm:max x.final 0=x.final:=by omega
  rw[hm,hf];by_cases a:x.final<e
  ·left;simp[h0,a]
  ·by_cases b:ty=3
   ·right;simp[h0,a,b]
   ·by_cases c:e=x.final
    ·right;simp[h0,b,c]
    ·left
     simp[h0,b,c]
 ·by_cases b:ty=3
  ·right;simp[h0,b]
  ·by_cases c:e<x.gR
   ·left;simp[h0,b,c]
   ·right;simp[h0,b,c]
theorem Gm(kq:high<=gM):
  (mC x e gM high=true/\tr x.gR x.gM e (gM-high)=3)\/(mC x e gM high=false/\tr x.gR x.gM e (gM-high)=0):=by
 unfold mC tr kT;by_cases a:x.gM<e
 ·left;simp[a]
 ·by_cases b:x.gR<e
  ·by_cases c:gM<high+(e-x.gR)
   ·left;simp[a,b,c];omega
   ·right;simp[a,b,c];omega
  ·right;simp[a,b];omega
theorem N6(hx:np iI x)(hb:iF f.bytes)(h5:f.type=5->f.bytes=[]):
  let po:=if f.type=5 then 0 else f.iC
  let k:=oT x.read po f.bytes
  let r:=yD x.reset (jo x.read x.bytes) (po+k) (f.bytes.drop k) iI
  (f.type≠5/\x.reset=false->r.1=(jD iI x f.iC f.bytes).1/\(r.1=0->r.2=jo x.read (jD iI x f.iC f.bytes).2.bytes))/\(¬(f.type≠5/\x.reset=false)->r=(0,jo x.read x.bytes)):=by
 intro po k r;have U6:((jo x.read x.bytes).length:Int)<=iI:=by rw[qT];exact hx.iI
 constructor
 ·rintro⟨h1,h2⟩;have Ps:po=f.iC:=if_neg h1
  have hr:r=yD x.reset (jo x.read x.bytes) (f.iC+oT x.read f.iC f.bytes) (f.bytes.drop (oT x.read f.iC f.bytes)) iI:=by
   show yD x.reset (jo x.read x.bytes) (po+oT x.read po f.bytes) (f.bytes.drop (oT x.read po f.bytes)) iI=_;rw[Ps]
  rw[hr];unfold yD jD;rw[if_neg (by rw[h2];decide)];rcases P6 x.read x.bytes f.iC hb with⟨e1,e2⟩|⟨e1,m,e2,e3⟩
  ·rw[if_pos e1,e2];exact⟨rfl,fun h=>absurd (show(9:Int)=0 from h) (by decide)⟩
  ·rw[if_neg (by rw[e1];decide),e2,e3];simp only;rw[qT]
   split
   ·rename_i h
    exact⟨rfl,fun h=>absurd (show(8:Int)=0 from h) (by decide)⟩
   ·exact⟨rfl,fun _=>rfl⟩
 ·intro h;show yD _ _ _ _ _=_;unfold yD;by_cases h2:x.reset=true
  ·rw[if_pos h2]
  ·have h3:f.type=5:=cM fun h3=>h ⟨h3,by simpa using h2⟩
   have O4:=h5 h3;rw[if_neg h2];have hd:f.bytes.drop k=[]:=by rw[O4];simp
   rw[hd,ID,Fc,if_neg (by decide),if_neg (by omega)]
theorem Hk(hb:iF f.bytes)(hx:np iI x)(hd:x.done=false)(kq:high<=gM)(BJ:f.type=3\/f.type=4\/f.type=5)(h5:f.type=5->f.bytes=[])(ho:0<=f.iC):
  let e:=f.iC+f.bytes.length
  let po:=if f.type=5 then 0 else f.iC
  let c1:=I3 (decide (0<=x.final)) f.type e x.gR (max x.final 0)
  let c2:=tr x.gR x.gM e (gM-high)
  let k:=oT x.read po f.bytes
  let r:=yD x.reset (jo x.read x.bytes) (po+k) (f.bytes.drop k) iI
  (iw iI gM high f x).1=(if c1≠0 then c1 else if c2≠0 then c2 else r.1)/\
  (c1=0->c2=0->r.1=0->∀x',(iw iI gM high f x).2=x'->x'.read=x.read/\x'.gR=max x.gR e/\x'.gM=x.gM/\x'.final=(if mN f.type=true then e else x.final)/\x'.done=false/\
   (f.type=5->kh r.2 x.read e=false->x'.reset=true/\x'.bytes=[])/\(¬(f.type=5/\kh r.2 x.read e=false)->x'.reset=x.reset/\jo x.read x'.bytes=r.2)):=by
 intro e po c1 c2 k r;have Pt:=N6 hx hb h5;have he0:0<=e:=by show 0<=f.iC+f.bytes.length;omega
 have ht:=yL BJ;rcases RN hx hd (ty:=f.type) (e:=e) BJ with⟨b1,d1⟩|⟨b1,d1⟩
 ·have hs:iw iI gM high f x=(6,x):=by unfold iw;rw[if_pos b1]
  have hc:c1=6:=d1;rw[hs,hc];exact⟨rfl,fun h=>absurd h (by decide)⟩
 ·have hc:c1=0:=d1;rw[hc];rcases Gm (x:=x) (e:=e) kq with⟨b2,d2⟩|⟨b2,d2⟩
  ·have hs:iw iI gM high f x=(3,x):=by
    unfold iw;rw[if_neg (by rw[b1];decide),if_neg (by rw[hd];decide),if_pos b2]
   have nr:c2=3:=d2;rw[hs,nr];exact⟨rfl,fun _ h=>absurd h (by decide)⟩
  ·have nr:c2=0:=d2;rw[nr];have LQ:x.gR+kT x e=max x.gR e:=by unfold kT;split<;>omega
   have WC:∀y:jf,y.read=x.read->y.gM=x.gM->y.done=false->y.final=x.final->y.reset=x.reset->jo x.read y.bytes=r.2->∀x',lp f x y=x'->x'.read=x.read/\x'.gR=max x.gR e/\x'.gM=x.gM/\x'.final=(if mN f.type=true then e else x.final)/\x'.done=false/\
     (f.type=5->kh r.2 x.read e=false->x'.reset=true/\x'.bytes=[])/\(¬(f.type=5/\kh r.2 x.read e=false)->x'.reset=x.reset/\jo x.read x'.bytes=r.2):=by
    intro y y1 y2 y3 y4 y5 y6 x' NU
    have LM:∀z:jf,z.read=x.read->z.bytes=y.bytes->z.final=e->(Bv z=false↔kh r.2 x.read e=false):=by
     intro z z1 z2 z3;rw[<-y6,IW];unfold Bv;rw[z1,z2,z3];simp[he0]
    have lI:(if f.type≠3 then e else y.final)=(if mN f.type=true then e else x.final):=by
     rw[ht,y4];by_cases h3:f.type=3<;>simp[h3]
    rw[<-NU];unfold lp;simp only;by_cases TU:f.type=5
    ·have T9:f.type≠3:=by omega
     have hf5:(if f.type≠3 then f.iC+(f.bytes.length:Int) else y.final)=e:=if_pos T9;by_cases Fk:kh r.2 x.read e=false
     ·rw[if_pos ⟨TU,(LM {y with gR:=x.gR+kT x e,final:=if f.type≠3 then e else y.final} y1 rfl hf5).2 Fk⟩];refine⟨y1,LQ,y2,lI,y3,fun _ _=>⟨rfl,rfl⟩,fun h=>absurd ⟨TU,Fk⟩ h⟩
     ·rw[if_neg (fun h=>Fk ((LM {y with gR:=x.gR+kT x e,final:=if f.type≠3 then e else y.final} y1 rfl hf5).1 h.2))];exact⟨y1,LQ,y2,lI,y3,fun _ h=>absurd h Fk,fun _=>⟨y5,y6⟩⟩
    ·rw[if_neg (fun h=>TU h.1)];exact⟨y1,LQ,y2,lI,y3,fun h=>absurd h TU,fun _=>⟨y5,y6⟩⟩
   by_cases hr:f.type≠5/\x.reset=false
   ·obtain⟨ue,vi⟩:=Pt.1 hr
    have hs:iw iI gM high f x=if(jD iI x f.iC f.bytes).1≠0 then((jD iI x f.iC f.bytes).1,x) else(0,lp f x (jD iI x f.iC f.bytes).2):=by
     conv=>lhs;unfold iw
     rw[if_neg (by rw[b1];decide),if_neg (by rw[hd];decide),if_neg (by rw[b2];decide),if_pos hr]
    have AC:r.1=(jD iI x f.iC f.bytes).1:=ue;have LY:r.1=0->r.2=jo x.read (jD iI x f.iC f.bytes).2.bytes:=vi;by_cases hz:(jD iI x f.iC f.bytes).1≠0
    ·rw[hs,if_pos hz];refine⟨by rw[AC];rfl,fun _ _ h=>absurd (AC.symm.trans h) hz⟩
    ·rw[hs,if_neg hz];have hz':(jD iI x f.iC f.bytes).1=0:=cM hz;refine⟨by rw[AC,hz'];rfl,fun _ _ h x' NU=>?_⟩
     have vP:∃l,(jD iI x f.iC f.bytes).2 = {x with bytes:=l}:=by
      unfold jD
      split
      ·exact⟨x.bytes,rfl⟩
      ·split
       ·exact⟨x.bytes,rfl⟩
       ·exact⟨_,rfl⟩
     obtain⟨l,hl⟩:=vP;have h6:=LY h;refine WC _ ?_ ?_ ?_ ?_ ?_ h6.symm x' NU<;>rw[hl]
     exact hd
   ·have rG:r=(0,jo x.read x.bytes):=Pt.2 hr
    have hs:iw iI gM high f x=(0,lp f x x):=by
     conv=>lhs;unfold iw
     rw[if_neg (by rw[b1];decide),if_neg (by rw[hd];decide),if_neg (by rw[b2];decide),if_neg hr]
    rw[hs];refine⟨by rw[rG];rfl,fun _ _ _ x' NU=>WC x rfl rfl hd rfl rfl (by rw[rG]) x' NU⟩
end Go.Proofs.YthmdjhlhodpbhaaGreatDoor
