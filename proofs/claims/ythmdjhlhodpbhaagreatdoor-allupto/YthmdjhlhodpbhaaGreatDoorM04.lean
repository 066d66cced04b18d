import Derived.Test.YthmdjhlhodpbhaaGreatDoorM03
set_option maxHeartbeats 16000000
set_option maxRecDepth 8000
set_option linter.all false
namespace Go.Proofs.YthmdjhlhodpbhaaGreatDoor
open Go.RowKit
open _root_.List renaming mem_cons → cF, getElem?_eq_getElem → ap, replicate → aT, getElem?_drop → cG, getElem?_take_of_lt → bp, mem_append → bX, length_replicate → aV, cons_append → cI, getElem?_eq_none → cJ, foldl_cons → cK, getD → bR
open _root_.Classical renaming byContradiction → cH
open _root_.Option renaming bind_eq_some_iff → cg, bind_some → cL
open _root_.Nat renaming le_refl → ar
open _root_.Go.Proofs.Tryz
open _root_.Go.Proofs.Tryz renaming prog → ab
attribute [local simp] CV CI Bw mc lq io
variable {c g first d:Int}{k l z2 b L m:List Int}{x6:List (Int×Int)}{a:Nat}{N:gs}{P:jJ}{r:Int×Int}
structure Rd where
 rest:List Int
 bad:Bool
def Rd.num(r:Rd):Int×Rd:=(jL r.rest,⟨r.rest.drop (jk r.rest).toNat,r.bad ||(jk r.rest==0)⟩)
def Rd.nL(r:Rd)(c:Int):List Int×Rd:=if r.bad=true\/(r.rest.length:Int)<c then([],⟨r.rest,true⟩) else(r.rest.take c.toNat,⟨r.rest.drop c.toNat,false⟩)
def Rd.kind(r:Rd):Int×Rd:=if(r.nL 1).2.bad=true then(0,(r.nL 1).2) else((r.nL 1).1.getD 0 0,(r.nL 1).2)
def Rd.fail(r:Rd):Rd:=⟨r.rest,true⟩
structure E3 where
 type:Int
 id:Int
 iP:Int
 bytes:List Int
 en:Int
 proof:Int
def sx(b:List Int):E3×Rd:=
 let r0:=Rd.kind ⟨b,false⟩
 let t:=r0.1
 if t=0\/t=1 then(⟨t,0,0,[],0,0⟩,r0.2)
 else if t=3\/t=4 then
  let r1:=r0.2.num
  let r2:=r1.2.num
  let r3:=r2.2.num
  let r4:=r3.2.nL r3.1
  (⟨t,r1.1,r2.1,r4.1,r2.1+r4.1.length,0⟩,r4.2)
 else if t=5 then
  let r1:=r0.2.num
  let r2:=r1.2.num
  (⟨t,r1.1,0,[],r2.1,0⟩,r2.2)
 else if t=6 then(⟨t,0,0,[],0,0⟩,r0.2.num.2)
 else if t=7 then(⟨t,0,0,[],0,r0.2.num.1⟩,r0.2.num.2)
 else(⟨t,0,0,[],0,0⟩,r0.2.fail)
def tk(f:jJ):E3:=
 if f.type=7 then⟨7,0,0,[],0,f.code⟩ else if f.type=6 then⟨6,0,0,[],0,0⟩ else if f.type=5 then⟨5,f.id,0,[],f.iP,0⟩
 else if f.type=3\/f.type=4 then⟨f.type,f.id,f.iP,f.bytes,f.iP+f.bytes.length,0⟩ else⟨f.type,0,0,[],0,0⟩
theorem qI(b:0<k.length):Rd.kind ⟨k,false⟩=(k.getD 0 0,⟨k.drop 1,false⟩):=by
 have a:Rd.nL ⟨k,false⟩ 1=(k.take 1,⟨k.drop 1,false⟩):=by unfold Rd.nL;grind
 unfold Rd.kind;grind
theorem td{r:Rd}(a:r.bad=true):r.num.2.bad=true:=by simp[Rd.num,a]
theorem uB{r:Rd}(a:r.bad=true):(r.nL c).2.bad=true:=by unfold Rd.nL;grind
theorem mm{O:Bool}(a:jk k=0):(Rd.num ⟨k,O⟩).2.bad=true:=by simp[Rd.num,a]
theorem mn(a:¬jk k=0):Rd.num ⟨k,false⟩=(jL k,⟨k.drop (jk k).toNat,false⟩):=by simp[Rd.num,a]
theorem nk(b:List Int)(a c:Nat):(b.drop a).drop c=b.drop (a+c):=by rw[List.drop_drop]
theorem IB(z:gG k)(A:0<k.length):
  (gW k=none/\(sx k).2.bad=true)\/(∃s C,gW k=some (s,C)/\sx k=(tk s,⟨k.drop C,false⟩)/\s.type=k.getD 0 0):=by
 unfold sx;rw[qI A];simp only;generalize n:k.getD 0 0=d;by_cases p:d=0\/d=1
 ·right;refine⟨⟨d,0,0,0,[]⟩,1,?_,?_,rfl⟩
  ·unfold gW;rw[n];rcases p with rfl|rfl<;>simp[ju,iE]
  ·rw[if_pos p];rcases p with rfl|rfl<;>rfl
 rw[if_neg p];have j:iE k 1=if jk (k.drop 1)=0 then none else some ([jL (k.drop 1)],1+(jk (k.drop 1)).toNat):=by simp[iE]
 by_cases u:d=3\/d=4
 ·have I:ju d=some 3:=by rcases u with rfl|rfl<;>rfl
  have e:gW k=match iE k 3 with
    |none=>none
    |some (c,f)=>if(k.length:Int)<f+c.getD 2 0 then none else some (⟨d,c.getD 0 0,c.getD 1 0,0,(k.drop f).take (c.getD 2 0).toNat⟩,f+(c.getD 2 0).toNat):=by
   unfold gW;grind
  rw[if_pos u];by_cases a:jk (k.drop 1)=0
  ·left;refine⟨?_,uB (td (td (mm a)))⟩;have:iE k 3=none:=by
    rw[if_pos a]at j;conv=>lhs;unfold iE;unfold iE
    rw[j]
   rw[e,this]
  ·rw[mn a,nk];simp only;generalize M:jL (k.drop 1)=o at *
   generalize G:1+(jk (k.drop 1)).toNat=b at *
   have L:iE k 1=some ([o],b):=by grind
   have m:iE k 2=if jk (k.drop b)=0 then none else some ([o,jL (k.drop b)],b+(jk (k.drop b)).toNat):=by
    conv=>lhs;unfold iE
    grind
   by_cases h:jk (k.drop b)=0
   ·left;refine⟨?_,uB (td (mm h))⟩;rw[if_pos h]at m;have:iE k 3=none:=by
     conv=>lhs;unfold iE
     rw[m]
    rw[e,this]
   ·rw[mn h,nk];simp only;rw[if_neg h]at m;generalize N:jL (k.drop b)=E at *
    generalize H:b+(jk (k.drop b)).toNat=g at *
    have v:iE k 3=if jk (k.drop g)=0 then none else some ([o,E,jL (k.drop g)],g+(jk (k.drop g)).toNat):=by
     conv=>lhs;unfold iE
     grind
    by_cases t:jk (k.drop g)=0
    ·left;refine⟨?_,uB (mm t)⟩;grind
    ·have O:=nU (z.drop g);rw[mn t,nk];simp only;rw[if_neg t]at v;have J:=kV z A 3 v;generalize jL (k.drop g)=q at *
     generalize g+(jk (k.drop g)).toNat=l at *
     rw[e,v];simp only[List.getD_cons_zero,List.getD_cons_succ];have K:((k.drop l).length:Int)=k.length-l:=by simp;omega
     by_cases B:(k.length:Int)<l+q
     ·left;rw[if_pos B];refine⟨rfl,?_⟩;unfold Rd.nL;grind
     ·right;rw[if_neg B];refine⟨_,_,rfl,?_,rfl⟩;have D:Rd.nL ⟨k.drop l,false⟩ q=((k.drop l).take q.toNat,⟨(k.drop l).drop q.toNat,false⟩):=by unfold Rd.nL;grind
      rw[D,nk];unfold tk;grind
 rw[if_neg u];by_cases w:d=5
 ·subst w;rw[if_pos rfl];have e:gW k=match iE k 2 with
    |none=>none
    |some (c,f)=>some (⟨5,c.getD 0 0,c.getD 1 0,0,[]⟩,f):=by
   unfold gW;rw[n];have:ju 5=some 2:=rfl;grind
  by_cases a:jk (k.drop 1)=0
  ·left;refine⟨?_,td (mm a)⟩;have:iE k 2=none:=by
    rw[if_pos a]at j;conv=>lhs;unfold iE
    rw[j]
   rw[e,this]
  ·rw[mn a,nk];simp only;rw[if_neg a]at j;generalize jL (k.drop 1)=o at *
   generalize 1+(jk (k.drop 1)).toNat=b at *
   have m:iE k 2=if jk (k.drop b)=0 then none else some ([o,jL (k.drop b)],b+(jk (k.drop b)).toNat):=by
    conv=>lhs;unfold iE
    grind
   by_cases h:jk (k.drop b)=0
   ·left;refine⟨?_,mm h⟩;grind
   ·right;rw[mn h,nk];rw[e,m,if_neg h];exact⟨_,_,rfl,rfl,rfl⟩
 rw[if_neg w];by_cases x:d=6
 ·subst x;rw[if_pos rfl];have e:gW k=match iE k 1 with
    |none=>none
    |some (c,f)=>some (⟨6,0,0,c.getD 0 0,[]⟩,f):=by
   unfold gW;rw[n];have:ju 6=some 1:=rfl;grind
  by_cases a:jk (k.drop 1)=0
  ·left;refine⟨?_,mm a⟩;grind
  ·right;rw[mn a,nk,e,j,if_neg a];exact⟨_,_,rfl,rfl,rfl⟩
 rw[if_neg x];by_cases y:d=7
 ·subst y;rw[if_pos rfl];have e:gW k=match iE k 1 with
    |none=>none
    |some (c,f)=>some (⟨7,0,0,c.getD 0 0,[]⟩,f):=by
   unfold gW;rw[n];have:ju 7=some 1:=rfl;grind
  by_cases a:jk (k.drop 1)=0
  ·left;refine⟨?_,mm a⟩;grind
  ·right;rw[mn a,nk,e,j,if_neg a];exact⟨_,_,rfl,rfl,rfl⟩
 rw[if_neg y];left;refine⟨?_,rfl⟩;unfold gW;rw[n];have:ju d=none:=by unfold ju;grind
 rw[this]
structure zh where
 kind:Int
 fZ:Int
 tok:List Int
 num:Int
 ky:List Int
def lD(b:List Int):Option zh:=
 if b=[] then none else
 let r1:=b.drop 1
 if jk r1=0 then none else
 let r2:=r1.drop (jk r1).toNat
 if jk r2=0 then none else
 let r3:=r2.drop (jk r2).toNat
 if b.getD 0 0=1 then if(r3.length:Int)<jL r2 then none else some ⟨1,jL r1,r3.take (jL r2).toNat,0,r3.drop (jL r2).toNat⟩
 else if b.getD 0 0=2 then some ⟨2,jL r1,[],jL r2,r3⟩ else none
def pZ(b:List Int):zh×Rd:=
 let r0:=Rd.kind ⟨b,false⟩
 let t:=r0.1
 if t=1 then
  let r1:=r0.2.num
  let r2:=r1.2.num
  let r3:=r2.2.nL r2.1
  (⟨t,r1.1,r3.1,0,r3.2.rest⟩,r3.2)
 else if t=2 then
  let r1:=r0.2.num
  let r2:=r1.2.num
  (⟨t,r1.1,[],r2.1,r2.2.rest⟩,r2.2)
 else(⟨t,0,[],0,r0.2.rest⟩,r0.2.fail)
theorem Iz:(lD k=none/\(pZ k).2.bad=true)\/(∃f,lD k=some f/\(pZ k).1=f/\(pZ k).2.bad=false):=by
 by_cases e:k=[]
 ·left;subst e;have g:Rd.kind ⟨[],false⟩=(0,⟨[],true⟩):=by simp[Rd.kind,Rd.nL]
  refine⟨by simp[lD],?_⟩;unfold pZ;rw[g];rfl
 ·have h:0<k.length:=List.length_pos_iff.2 e;unfold pZ lD;rw[qI h,if_neg e];simp only;by_cases c:k.getD 0 0=1
  ·rw[if_pos c,if_pos c];by_cases a:jk (k.drop 1)=0
   ·left;rw[if_pos a];exact⟨rfl,uB (td (mm a))⟩
   ·rw[if_neg a,mn a];simp only;by_cases b:jk ((k.drop 1).drop (jk (k.drop 1)).toNat)=0
    ·left;rw[if_pos b];exact⟨rfl,uB (mm b)⟩
    ·rw[if_neg b,mn b];simp only;generalize jL ((k.drop 1).drop (jk (k.drop 1)).toNat)=j;generalize ((k.drop 1).drop (jk (k.drop 1)).toNat).drop (jk ((k.drop 1).drop (jk (k.drop 1)).toNat)).toNat=l;unfold Rd.nL;grind
  ·rw[if_neg c,if_neg c];by_cases d:k.getD 0 0=2
   ·rw[if_pos d,if_pos d];by_cases a:jk (k.drop 1)=0
    ·left;rw[if_pos a];exact⟨rfl,td (mm a)⟩
    ·rw[if_neg a,mn a];simp only;by_cases b:jk ((k.drop 1).drop (jk (k.drop 1)).toNat)=0
     ·left;rw[if_pos b];exact⟨rfl,mm b⟩
     ·right;rw[if_neg b,mn b];grind
   ·left;rw[if_neg d,if_neg d];refine⟨?_,rfl⟩;split<;>first|rfl |(split<;>rfl)
abbrev Nw:=fun(a0:World) (a1:zh) a2 a3 a4 a5 a6 a7 a8=>a0.alloc (.cells #[II a1.kind,II a2,II a1.fZ,.slice a3 a4 a5,II a1.num,.slice a6 a7 a8] 107)
abbrev Km:=fun(a0:E3) a1 a2 a3=>(#[II a0.type,II a0.id,II a0.iP,.slice a1 a2 a3,II a0.en,II a0.proof]:Array Value)
abbrev gH:=Int×List Int
def kW:List gH->Int->Option Int
 |[],_=>none
 |r::t,p=>if r.1<=p/\p<r.1+r.2.length then r.2[(p-r.1).toNat]? else kW t p
def kf:List gH->Prop
 |[]=>True
 |r::t=>0<r.2.length/\(∀q∈t,r.1+r.2.length<q.1)/\kf t
def pB(base:Int)(l:List Int)(p:Int):Option Int:=
 if base<=p then(match l[(p-base).toNat]? with|some x=>if 0<=x then some x else none|none=>none) else none
def lY(base:Int)(x:Int):List gH->List gH
 |[]=>[(base,[x])]
 |r::t=>if r.1=base+1 then(base,x::r.2)::t else(base,[x])::r::t
def hT(base:Int):List Int->List gH
 |[]=>[]
 |x::l=>if 0<=x then lY base x (hT (base+1) l) else hT (base+1) l
theorem px{C:List gH}(b:kf C){r:gH}(a:r∈C):0<r.2.length:=by
 induction C with
 |nil=>cases a
 |cons d e c=>
  rcases cF.1 a with rfl|a
  ·exact b.1
  ·exact c b.2.2 a
theorem nc{C:List gH}(a:∀b∈C,c<b.1):kW C c=none:=by
 induction C with
 |nil=>rfl
 |cons r f e=>have d:=a r (by simp);unfold kW;grind
theorem AL{C:List gH}(a:kW C c=some g):∃r∈C,r.1<=c/\c<r.1+r.2.length:=by
 induction C with
 |nil=>cases a
 |cons r d b=>unfold kW at a;grind
theorem l_{r:gH}{C:List gH}(a:r.1<=c/\c<r.1+r.2.length):kW (r::C) c=r.2[(c-r.1).toNat]?:=by unfold kW;rw[if_pos a]
theorem kX{r:gH}{C:List gH}(a:¬(r.1<=c/\c<r.1+r.2.length)):kW (r::C) c=kW C c:=by
 conv=>lhs;unfold kW
 rw[if_neg a]
theorem my{r:gH}{C:List gH}(a:r.1<=c/\c<r.1+r.2.length):∃b,kW (r::C) c=some b:=by rw[l_ a];exact⟨_,ap (by omega)⟩
theorem yI:∀{a b:List gH},kf a->kf b->(∀p,kW a p=kW b p)->a=b
 |[],[],_,_,_=>rfl
 |[],r::t,_,hb,h=>by have:=h r.1;obtain⟨x,hx⟩:=my (r:=r) (C:=t) (c:=r.1) ⟨by omega,by have:=hb.1;omega⟩;rw[hx]at this;cases this
 |r::t,[],ha,_,h=>by have:=h r.1;obtain⟨x,hx⟩:=my (r:=r) (C:=t) (c:=r.1) ⟨by omega,by have:=ha.1;omega⟩;rw[hx]at this;cases this
 |r::t,s::u,ha,hb,h=>by
  have hr:=ha.1;have hs:=hb.1;have e1:r.1=s.1:=by
   rcases Int.lt_trichotomy r.1 s.1 with h1|h1|h1
   ·have h2:=h r.1;rw[nc (C:=s::u) (fun q hq=>by
     rcases cF.1 hq with rfl|hq
     ·exact h1
     ·have:=hb.2.1 q hq;omega)]at h2
    obtain⟨x,hx⟩:=my (r:=r) (C:=t) (c:=r.1) ⟨by omega,by omega⟩;rw[hx]at h2;cases h2
   ·exact h1
   ·have h2:=h s.1;rw[nc (C:=r::t) (fun q hq=>by
     rcases cF.1 hq with rfl|hq
     ·exact h1
     ·have:=ha.2.1 q hq;omega)]at h2
    obtain⟨x,hx⟩:=my (r:=s) (C:=u) (c:=s.1) ⟨by omega,by omega⟩;rw[hx]at h2;cases h2
  have KN:∀{r s:gH} {t u:List gH},kf (r::t)->0<s.2.length->r.1=s.1->r.2.length<s.2.length->(∀p,kW (r::t) p=kW (s::u) p)->False:=by intro r s t u ha hs e1 ME h;have h2:=h (r.1+r.2.length);rw[kX (by omega),nc (fun q hq=>by have:=ha.2.1 q hq;omega)]at h2;obtain⟨x,hx⟩:=my (r:=s) (C:=u) (c:=r.1+r.2.length) ⟨by omega,by omega⟩;rw[hx]at h2;cases h2
  have e2:r.2.length=s.2.length:=by
   rcases Nat.lt_trichotomy r.2.length s.2.length with h1|h1|h1
   ·exact(KN ha hs e1 h1 h).elim
   ·exact h1
   ·exact(KN hb hr e1.symm h1 (fun p=>(h p).symm)).elim
  have e3:r.2=s.2:=by
   apply List.ext_getElem?;intro i;rcases Nat.lt_or_ge i r.2.length with hi|hi
   ·have h2:=h (r.1+i);rw[l_ ⟨by omega,by omega⟩,l_ ⟨by omega,by omega⟩]at h2;have e4:(r.1+(i:Int)-r.1).toNat=i:=by omega
    have e5:(r.1+(i:Int)-s.1).toNat=i:=by omega
    rw[e4,e5]at h2;exact h2
   ·rw[cJ hi,cJ (by omega)]
  have e4:r=s:=Prod.ext e1 e3;subst e4;congr 1;refine yI ha.2.2 hb.2.2 fun p=>?_;by_cases hc:r.1<=p/\p<r.1+r.2.length
  ·rw[nc (fun q hq=>by have:=ha.2.1 q hq;omega),nc (fun q hq=>by have:=hb.2.1 q hq;omega)]
  ·have h2:=h p;rw[kX hc,kX hc]at h2;exact h2
theorem oz(c:List Int):∀(b:Int),∀d∈hT b c,b<=d.1:=by
 induction c with
 |nil=>intro b d a;simp[hT]at a
 |cons f c e=>
  intro b d a;unfold hT at a;split at a
  ·unfold lY at a;grind
  grind
theorem qU(d:List Int):∀(b:Int),kf (hT b d):=by
 induction d with
 |nil=>intro b;exact trivial
 |cons m d j=>
  intro b;have a:=j (b+1);have f:=oz d (b+1);unfold hT;split
  ·unfold lY;split
   ·exact⟨by simp,by simp,trivial⟩
   ·rename_i r l h;rw[h]at a f;split
    ·rename_i g;exact⟨by simp,fun e c=>by have:=a.2.1 e c;grind,a.2.2⟩
    ·rename_i g;refine⟨by simp,fun e c=>?_,a⟩;have k:=f r (by simp);rcases cF.1 c with rfl|c
     ·simp;omega
     ·have:=a.2.1 e c;grind
  ·exact a
theorem JX(a c:Int)(e:List Int)(b:Int):pB a (c::e) b=if b=a then(if 0<=c then some c else none) else pB (a+1) e b:=by
 unfold pB;by_cases d:b=a
 ·subst d;simp
 ·rw[if_neg d];by_cases g:a<=b
  ·rw[if_pos g,if_pos (by omega)];have f:(b-a).toNat=(b-(a+1)).toNat+1:=by omega
   rw[f,List.getElem?_cons_succ]
  grind
theorem Cg{C:List gH}(j:∀e∈C,c+1<=e.1)(a:Int):kW (lY c g C) a=if a=c then some g else kW C a:=by
 by_cases d:a=c
 ·subst d;rw[if_pos rfl];unfold lY;split
  ·rw[l_ ⟨by simp,by simp;omega⟩];simp
  ·split
   ·rw[l_ ⟨by simp,by grind⟩];simp
   ·rw[l_ ⟨by simp,by simp;omega⟩];simp
 ·rw[if_neg d];unfold lY;split
  ·rw[kX (by simp;omega)]
  ·rename_i r k;split
   ·rename_i f;by_cases b:r.1<=a/\a<r.1+r.2.length
    ·rw[l_ b,l_ (by grind)];have h:(a-c).toNat=(a-r.1).toNat+1:=by omega
     grind
    ·rw[kX b,kX (by grind)]
   ·rw[kX (by simp;omega)]
theorem wJ:∀(a b:Int),kW (hT a k) b=pB a k b:=by
 induction k with
 |nil=>intro a b;unfold pB hT kW;simp
 |cons g k f=>
  intro a b;have e:=oz k (a+1);rw[JX,<-f];conv=>lhs;unfold hT
  by_cases c:0<=g
  ·rw[if_pos c,if_pos c,Cg e]
  ·rw[if_neg c,if_neg c];by_cases d:b=a
   ·subst d;rw[if_pos rfl];exact nc (fun j h=>by grind)
   ·rw[if_neg d]
def gi(r:gH):Int:=r.1+r.2.length
def jA(l:List Int)(k:Nat)(it:List Int):List Int:=l.take k++it++l.drop (k+it.length)
def nt(r:gH)(M:List gH):Int:=M.foldl (fun m q=>min m q.1) r.1
def rX(r:gH)(M:List gH):Int:=M.foldl (fun m q=>max m (gi q)) (gi r)
def qJ(lo:Int)(L:List Int)(M:List gH):List Int:=M.foldl (fun L q=>jA L (q.1-lo).toNat q.2) L
def lN(r:gH)(M:List gH):gH:=
 (nt r M,qJ (nt r M) (jA (aT (rX r M-nt r M).toNat 0) (r.1-nt r M).toNat r.2) M)
def lx(rl:List gH)(r:gH):Nat:=(rl.takeWhile fun q=>decide (gi q<r.1)).length
def xw(rl:List gH)(r:gH):Nat:=lx rl r+((rl.drop (lx rl r)).takeWhile fun q=>decide (q.1<=gi r)).length
def kU(rl:List gH)(first:Int)(items:List Int):List gH:=
 if items=[] then rl else rl.take (lx rl (first,items))++lN (first,items) ((rl.drop (lx rl (first,items))).take (xw rl (first,items)-lx rl (first,items)))::rl.drop (xw rl (first,items))
theorem sG(c d:List gH)(a:Int):kW (c++d) a=(kW c a).or (kW d a):=by
 induction c with
 |nil=>simp[kW]
 |cons r f e=>
  rw[cI];by_cases b:r.1<=a/\a<r.1+r.2.length
  ·rw[l_ b,l_ b,ap (by omega)];rfl
  ·rw[kX b,kX b,e]
theorem mP{C t9:List gH}:kf (C++t9)↔kf C/\kf t9/\∀r∈C,∀b∈t9,gi r<b.1:=by
 induction C with
 |nil=>simp[kf]
 |cons r c a=>rw[cI];simp only[kf,a,bX,cF,gi];grind
theorem lk(b:a+z2.length<=k.length):(jA k a z2).length=k.length:=by unfold jA;grind
theorem wH(b:a+z2.length<=k.length)(i:Nat):(jA k a z2)[i]? =if a<=i/\i<a+z2.length then z2[i-a]? else k[i]?:=by unfold jA;rw[List.append_assoc];grind
theorem sB{C:List gH}:∀{L:List Int},(∀a∈C,(a.1-c).toNat+a.2.length<=L.length)->(qJ c L C).length=L.length:=by
 induction C with
 |nil=>intro L _;rfl
 |cons r h f=>intro L d;have e:=d r (by simp);have b:=lk e;unfold qJ;rw[cK];have:=f (L:=jA L (r.1-c).toNat r.2) (fun a g=>by grind);unfold qJ at this;rw[this,b]
theorem Lb{C:List gH}:∀{L:List Int},kf C->(∀a∈C,c<=a.1/\gi a<=c+L.length)->∀i:Nat,(qJ c L C)[i]? =(kW C (c+i)).or L[i]?:=by
 induction C with
 |nil=>intro L _ _ i;rfl
 |cons r o j=>
  intro L f g i;have h:=g r (by simp);unfold gi at h;have m:=lk (k:=L) (a:=(r.1-c).toNat) (z2:=r.2) (by omega);have b:=j (L:=jA L (r.1-c).toNat r.2) f.2.2 (fun a e=>by grind) i;unfold qJ at b⊢;rw[cK,b,wH (by omega)];by_cases d:r.1<=c+i/\c+i<r.1+r.2.length
  ·rw[l_ d,nc (fun a e=>by have:=f.2.1 a e;omega),if_pos (by omega)];have n:i-(r.1-c).toNat=(c+i-r.1).toNat:=by omega
   grind
  ·rw[kX d,if_neg (by omega)]
theorem vK{C:List gH}:∀(r:gH),nt r C<=r.1/\∀b∈C,nt r C<=b.1:=by
 have e:∀(C:List gH) (a:Int),C.foldl (fun a b=>min a b.1) a<=a/\∀b∈C,C.foldl (fun a b=>min a b.1) a<=b.1:=by
  intro C;induction C with
  |nil=>intro a;simp
  |cons c g d=>intro a;rw[cK];have f:=d (min a c.1);grind
 exact fun r=>e C r.1
theorem BW{C:List gH}:∀(r:gH),nt r C=r.1\/∃b∈C,nt r C=b.1:=by
 have c:∀(C:List gH) (a:Int),C.foldl (fun a b=>min a b.1) a=a\/∃b∈C,C.foldl (fun a b=>min a b.1) a=b.1:=by
  intro C;induction C with
  |nil=>intro a;simp
  |cons d f e=>grind
 exact fun r=>c C r.1
theorem vH{C:List gH}:∀(r:gH),gi r<=rX r C/\∀b∈C,gi b<=rX r C:=by
 have c:∀(C:List gH) (a:Int),a<=C.foldl (fun a b=>max a (gi b)) a/\∀b∈C,gi b<=C.foldl (fun a b=>max a (gi b)) a:=by
  intro C;induction C with
  |nil=>intro a;simp
  |cons d f e=>grind
 exact fun r=>c C (gi r)
theorem BR{C:List gH}:∀(r:gH),rX r C=gi r\/∃b∈C,rX r C=gi b:=by
 have c:∀(C:List gH) (a:Int),C.foldl (fun a b=>max a (gi b)) a=a\/∃b∈C,C.foldl (fun a b=>max a (gi b)) a=gi b:=by
  intro C;induction C with
  |nil=>intro a;simp
  |cons d f e=>grind
 exact fun r=>c C (gi r)
structure Touch(rl:List gH)(r:gH)(A M B:List gH):Prop where
 split:rl=A++M++B
 from_:lx rl r=A.length
 Tk:xw rl r=A.length+M.length
 low:∀q∈A,gi q<r.1
 EY:∀q∈M,r.1<=gi q/\q.1<=gi r
 high:∀q∈B,gi r<q.1
theorem oJ{α:Type}(p:α->Bool):∀l:List α,l=l.takeWhile p++l.dropWhile p:=fun l=>(List.takeWhile_append_dropWhile (p:=p) (l:=l)).symm
theorem nD{α:Type}{p:α->Bool}:∀{l:List α} {a:α} {t:List α},l.dropWhile p=a::t->p a=false
 |[],a,t,h=>by simp at h
 |x::l,a,t,h=>by
  rw[List.dropWhile_cons]at h;split at h
  ·exact nD h
  ·rename_i hx;cases h;simpa using hx
theorem oi{α:Type}{p:α->Bool}:∀{l:List α} {a:α},a∈l.takeWhile p->p a=true
 |x::l,a,h=>by
  rw[List.takeWhile_cons]at h;split at h
  ·rename_i hx;rcases cF.1 h with rfl|h
   ·exact hx
   ·exact oi h
  ·cases h
theorem LS{C:List gH}(t:kf C){r:gH}:∃d g e,Touch C r d g e:=by
 have f:=oJ (fun a=>decide (gi a<r.1)) C;generalize n:C.takeWhile (fun a=>decide (gi a<r.1))=d at f;generalize s:C.dropWhile (fun a=>decide (gi a<r.1))=c at f;have j:=oJ (fun a=>decide (a.1<=gi r)) c;generalize o:c.takeWhile (fun a=>decide (a.1<=gi r))=g at j;generalize q:c.dropWhile (fun a=>decide (a.1<=gi r))=e at j;have m:lx C r=d.length:=by unfold lx;rw[n]
 have p:C.drop d.length=c:=by rw[f];simp
 have w:xw C r=d.length+g.length:=by unfold xw;rw[m,p,o]
 have l:kf c:=(mP.1 (f▸t)).2.1;have u:kf e:=(mP.1 (j▸l)).2.1;have x:∀a∈c,r.1<=gi a:=by
  cases c with
  |nil=>simp
  |cons k v=>
   have h:r.1<=gi k:=by have:=nD s;simpa using this
   intro a b;rcases cF.1 b with rfl|b
   ·exact h
   ·have:=l.2.1 a b;have:=px l.2.2 b;unfold gi at h⊢;omega
 refine⟨d,g,e,⟨by rw[List.append_assoc,<-j];exact f,m,w,fun a b=>?_,fun a b=>⟨x a (by grind),?_⟩,?_⟩⟩
 ·rw[<-n]at b;simpa using oi b
 ·rw[<-o]at b;simpa using oi b
 ·cases e with
  |nil=>simp
  |cons k v=>
   have h:gi r<k.1:=by have:=nD q;simpa using this
   intro a b;rcases cF.1 b with rfl|b
   ·exact h
   ·have:=u.2.1 a b;omega
def z_(rl:List gH)(first:Int)(items:List Int):Prop:=∀p x,first<=p->p<first+items.length->kW rl p=some x->items[(p-first).toNat]? =some x
theorem I4{r:gH}{C:List gH}(J:0<r.2.length)(q:kf C)(A:∀b∈C,r.1<=gi b/\b.1<=gi r)(n:z_ C r.1 r.2):
  gi (lN r C)=rX r C/\(lN r C).1=nt r C/\nt r C<rX r C/\
  ∀a,nt r C<=a->a<rX r C->(lN r C).2[(a-nt r C).toNat]? =if r.1<=a/\a<gi r then r.2[(a-r.1).toNat]? else kW C a:=by
 have x:=vK (C:=C) r;have y:=vH (C:=C) r;have I:gi r=r.1+r.2.length:=rfl;have o:(aT (rX r C-nt r C).toNat (0:Int)).length=(rX r C-nt r C).toNat:=aV;have l:(r.1-nt r C).toNat+r.2.length<=(aT (rX r C-nt r C).toNat (0:Int)).length:=by rw[o];omega
 have u:=lk l;have k:∀b∈C,nt r C<=b.1/\gi b<=nt r C+((jA (aT (rX r C-nt r C).toNat 0) (r.1-nt r C).toNat r.2).length:Nat):=fun b c=>by grind
 have v:=sB (c:=nt r C) (C:=C) (L:=jA (aT (rX r C-nt r C).toNat 0) (r.1-nt r C).toNat r.2) (fun b c=>by have:=k b c;unfold gi at this;omega);have h:(lN r C).1=nt r C:=rfl;have p:nt r C<rX r C:=by omega
 refine⟨?_,h,p,fun a B D=>?_⟩
 ·unfold gi;rw[h];unfold lN;grind
 ·have j:=Lb (c:=nt r C) (C:=C) (L:=jA (aT (rX r C-nt r C).toNat 0) (r.1-nt r C).toNat r.2) q k (a-nt r C).toNat;have m:nt r C+((a-nt r C).toNat:Int)=a:=by omega
  rw[m,wH l]at j;show(qJ _ _ _)[_]? =_;rw[j];by_cases d:r.1<=a/\a<gi r
  ·rw[if_pos d,if_pos (by omega)];have w:(a-nt r C).toNat-(r.1-nt r C).toNat=(a-r.1).toNat:=by omega
   rw[w];cases E:kW C a with
   |none=>rfl
   |some e=>rw[n a e d.1 (by omega) E];rfl
  ·rw[if_neg d];have:∃e,kW C a=some e:=by
    have H:∀b∈C,b.1<=a->a<gi b->∃e,kW C a=some e:=by
     intro b c s t;clear A n k v j x y o l u p B D m d h;induction C with
     |nil=>cases c
     |cons f K G=>
      by_cases d:f.1<=a/\a<f.1+f.2.length
      ·exact my d
      ·rw[kX d];rcases cF.1 c with rfl|c
       ·exact(d ⟨s,t⟩).elim
       ·exact G q.2.2 c
    rcases(by omega:a<r.1\/r.1<=a) with z|z
    ·rcases BW (C:=C) r with g|⟨b,c,g⟩
     ·omega
     grind
    ·rcases BR (C:=C) r with g|⟨b,c,g⟩
     ·omega
     grind
   grind
theorem Dx{C:List gH}{t9 c b:List gH}(hi:k≠[])(a:Touch C (first,k) t9 c b):kU C first k=t9++lN (first,k) c::b:=by unfold kU;rw[if_neg hi,a.from_,a.Tk,a.split];grind
theorem Ap{C:List gH}(y:kf C)(K:z_ C first k):
  kf (kU C first k)/\∀a,kW (kU C first k) a=if first<=a/\a<first+k.length then k[(a-first).toNat]? else kW C a:=by
 by_cases hi:k=[]
 ·unfold kU;grind
 ·have O:0<k.length:=List.length_pos_iff.2 hi;obtain⟨n,c,o,f⟩:=LS y;rw[Dx hi f];have P:=f.split▸y;obtain⟨R,S,Y⟩:=mP.1 P;obtain⟨Q,T,X⟩:=mP.1 R;have x:∀a,kW C a=((kW n a).or (kW c a)).or (kW o a):=fun a=>by rw[f.split,sG,sG]
  have q:∀{l:List gH} {a:Int},(∀b∈l,¬(b.1<=a/\a<gi b))->kW l a=none:=by
   intro l a e;cases B:kW l a with
   |none=>rfl
   |some m=>obtain⟨b,d,h⟩:=AL B;exact(e b d h).elim
  have L:z_ c first k:=fun a m G H u=>by refine K a m G H ?_;grind
  obtain⟨z,s,A,g⟩:=I4 (r:=(first,k)) O T f.EY L;simp only at g;have w:=vK (C:=c) (first,k);have v:=vH (C:=c) (first,k);have I:∀b∈n,gi b<nt (first,k) c:=fun b d=>by
   rcases BW (C:=c) (first,k) with e|⟨m,j,e⟩
   ·rw[e];exact f.low b d
   grind
  have J:∀b∈o,rX (first,k) c<b.1:=fun b d=>by
   rcases BR (C:=c) (first,k) with e|⟨m,j,e⟩
   ·rw[e];exact f.high b d
   grind
  have M:gi (first,k)=first+k.length:=rfl
  generalize Z:lN (first,k) c=p at z s g⊢;have a0:gi p=p.1+p.2.length:=rfl;generalize a3:nt (first,k) c=U at s A g w I;generalize a2:rX (first,k) c=N at z A g v J;constructor
  ·rw[mP];refine⟨Q,⟨by omega,fun b d=>?_,S⟩,fun V a1 b d=>?_⟩
   ·grind
   grind
  ·intro a;rw[sG];by_cases h:U<=a/\a<N
   ·have t:kW n a=none:=q (fun b d j=>by grind);have D:kW o a=none:=q (fun b d j=>by grind);rw[t,l_ (by omega),s,g a h.1 h.2,x,t,D,M];simp
   ·have E:kW c a=none:=q (fun b d j=>by grind);have u:=w.1;have W:=v.1;simp only at u;rw[kX (by omega),if_neg (by omega),x,E];simp
theorem G4:pB c (k++aT a (-1)) g=pB c k g:=by unfold pB;grind
theorem LX(d:a<k.length)(e:0<=g)(b:Int):pB c (k.set a g) b=if b=c+a then some g else pB c k b:=by unfold pB;grind
def xy(base:Int)(l:List Int)(p x:Int):Prop:=∃y,pB base l p=some y/\y≠x
theorem J0(m:0<=g):(xy c k (c+a) g/\qp k a g=none)\/
  (¬xy c k (c+a) g/\∃h,qp k a g=some h/\∀b,pB c h b=if b=c+a then some g else pB c k b):=by
 have f:∀b,pB c (jl k a) b=pB c k b:=fun b=>G4;have l:a<(jl k a).length:=by unfold jl;grind
 have j:pB c k (c+a)=if 0<=(jl k a).getD a (-1) then some ((jl k a).getD a (-1)) else none:=by
  rw[<-f];unfold pB;have n:(c+(a:Int)-c).toNat=a:=by omega
  grind
 unfold qp;generalize q:(jl k a).getD a (-1)=e at j⊢;by_cases d:0<=e/\e≠g
 ·left;refine⟨⟨e,by grind,d.2⟩,by simp[d]⟩
 ·right;refine⟨?_,(jl k a).set a g,?_,fun b=>?_⟩
  ·rintro⟨s,o,p⟩;grind
  ·rw[if_neg];simpa using d
  ·rw[LX l m,f]
theorem AO{base:Int}{l:List Int}{d:Int}{b:List Int}(hb:gG b):∀(k:Nat),k<=b.length->
  (jT l d b k=none/\∃j:Nat,j<k/\0<=d+j/\xy base l (base+d+j) (b.getD j 0))\/
  ((∀j:Nat,j<k->0<=d+j->¬xy base l (base+d+j) (b.getD j 0))/\∃m,jT l d b k=some m/\
   ∀p,pB base m p=if base<=p/\base+d<=p/\p<base+d+k then b[(p-base-d).toNat]? else pB base l p)
 |0,_=>.inr ⟨fun j hj=>by omega,l,rfl,fun p=>by rw[if_neg (by omega)]⟩
 |k+1,hk=>by
  have hx:0<=b.getD k 0:=by have:=hb b[k] (List.getElem_mem _);simp only[bR,ap (show k<b.length by omega),Option.getD_some];exact this.1
  have SA:b[k]? =some (b.getD k 0):=by simp[bR,ap (show k<b.length by omega)]
  rcases AO (base:=base) (l:=l) (d:=d) hb k (by omega) with⟨h1,j,hj,h2,h3⟩|⟨h1,m,hm,hv⟩
  ·left;exact⟨by simp[jT,h1],j,by omega,h2,h3⟩
  ·by_cases hd:d+(k:Int)<0
   ·right;refine⟨fun j hj h=>?_,m,by simp[jT,hm,hd],fun p=>?_⟩
    ·by_cases e:j=k
     ·omega
     ·exact h1 j (by omega) h
    ·rw[hv p];by_cases hc:base<=p/\base+d<=p/\p<base+d+k
     ·rw[if_pos hc,if_pos (by omega)]
     ·rw[if_neg hc,if_neg (by omega)]
   ·have same:pB base m (base+d+k)=pB base l (base+d+k):=by rw[hv,if_neg (by omega)]
    have ek:base+((d+(k:Int)).toNat:Int)=base+d+k:=by omega
    have KZ:xy base m (base+d+k) (b.getD k 0)↔xy base l (base+d+k) (b.getD k 0):=by unfold xy;rw[same]
    rcases J0 (c:=base) (k:=m) (a:=(d+(k:Int)).toNat) hx with⟨hc,hw⟩|⟨hc,m2,hw,L7⟩
    ·rw[ek,KZ]at hc;left;exact⟨by simp only[jT,hm,cL,if_neg hd,hw],k,by omega,by omega,hc⟩
    ·rw[ek,KZ]at hc;rw[ek]at L7;right;refine⟨fun j hj h=>?_,m2,by simp only[jT,hm,cL,if_neg hd,hw],fun p=>?_⟩
     ·by_cases e:j=k
      ·subst e;exact hc
      ·exact h1 j (by omega) h
     ·rw[L7 p,hv p];by_cases e:p=base+d+k
      ·rw[if_pos e,if_pos (by omega)];have:(p-base-d).toNat=k:=by omega
       rw[this,SA]
      ·rw[if_neg e];by_cases RR:base<=p/\base+d<=p/\p<base+d+k
       ·rw[if_pos RR,if_pos (by omega)]
       ·rw[if_neg RR,if_neg (by omega)]
theorem rL(c:Int)(b:List Int)(a:Nat):(c::b).getD (a+1) (-1)=b.getD a (-1):=by simp[bR]
theorem vk(a:List Int):mV a 0=decide (0<=a.getD 0 (-1)):=by simp[mV]
theorem vj(b:List Int)(a:Nat):mV b (a+1)=(decide (0<=b.getD (a+1) (-1))&&decide (b.getD a (-1)<0)):=by simp[mV]
theorem wP{x:Int}{l:List Int}:∀k,jP (x::l) (k+1)=(if 0<=x then 1 else 0)+jP l k-(if 0<=x/\0<=l.getD 0 (-1)/\0<k then 1 else 0)
 |0=>by have e:(x::l).getD 0 (-1)=x:=rfl;rw[jP,jP,vk,e];by_cases hx:0<=x<;>simp[hx,jP]
 |k+1=>by
  have h:=wP (x:=x) (l:=l) k;rw[jP,h,vj,rL];have e0:jP l (k+1)=jP l k+if mV l k then 1 else 0:=rfl;rw[e0];cases k with
  |zero=>have e:(x::l).getD 0 (-1)=x:=rfl;rw[vk,e];generalize l.getD 0 (-1)=y;by_cases hx:0<=x<;>by_cases hy:0<=y<;>simp[hx,hy]<;>omega
  |succ k=>rw[vj,rL];simp only[Nat.zero_lt_succ,and_true];omega
theorem xZ(b c:Int)(a:List gH):((lY b c a).length:Int)=a.length+1-(if(a.head?.map (·.1))=some (b+1) then 1 else 0):=by unfold lY;grind
theorem wO(b:Int)(a:List Int):(((hT b a).head?.map (·.1))=some b)↔0<=a.getD 0 (-1):=by
 cases a with
 |nil=>simp[hT,bR]
 |cons c a=>
  have g:(c::a).getD 0 (-1)=c:=rfl;rw[g];unfold hT;by_cases f:0<=c
  ·rw[if_pos f];unfold lY;grind
  ·rw[if_neg f];constructor
   ·intro d;cases e:hT (b+1) a with
    |nil=>grind
    |cons r h=>rw[e]at d;simp at d;have:=oz _ (b+1) r (by rw[e];simp);omega
   omega
theorem pW(a c:Int)(b:List Int):hT a (c::b)=if 0<=c then lY a c (hT (a+1) b) else hT (a+1) b:=rfl
theorem kZ(a:List Int):∀b:Int,((hT b a).length:Int)=jP a a.length:=by
 induction a with
 |nil=>intro b;simp[hT,jP]
 |cons e a d=>
  intro b;rw[List.length_cons,wP,<-d (b+1),pW];by_cases c:0<=e
  ·rw[if_pos c,if_pos c,xZ];have f:=wO (b+1) a;grind
  grind
def qV(rl:List gH):Nat:=(rl.map fun r=>r.2.length).sum
def lM(l:List Int):Nat:=l.countP fun x=>decide (0<=x)
theorem Ct(b:List Int):∀a:Int,qV (hT a b)=lM b:=by
 induction b with
 |nil=>intro a;rfl
 |cons f b e=>
  intro a;have d:=e (a+1);unfold lM qV at *
  rw[List.countP_cons,pW];by_cases c:0<=f
  ·rw[if_pos c];simp only[c,decide_true,if_true];rw[<-d];unfold lY;grind
  grind
def om(first:Int)(items:List Int)(r:gH):Bool:=
 if max first r.1<min (first+items.length) (gi r) then
  decide ((r.2.drop (max first r.1-r.1).toNat).take (min (first+items.length) (gi r)-max first r.1).toNat=(items.drop (max first r.1-first).toNat).take (min (first+items.length) (gi r)-max first r.1).toNat)
 else true
def lC(rl:List gH)(first:Int)(items:List Int):Bool:=rl.all (om first items)
theorem rg{r:gH}:om first k r=true↔∀a,first<=a->a<first+k.length->r.1<=a->a<gi r->r.2[(a-r.1).toNat]? =k[(a-first).toNat]?:=by
 unfold om;generalize p:max first r.1=b
 generalize q:min (first+k.length) (gi r)=e;have o:gi r=r.1+r.2.length:=rfl;by_cases f:b<e
 ·rw[if_pos f,decide_eq_true_iff];constructor
  ·intro c a j l m n;have d:=congrArg (fun g=>g[(a-b).toNat]?) c;rw[bp (by omega),bp (by omega),cG,cG]at d;grind
  ·intro c;apply List.ext_getElem?;intro i;rcases Nat.lt_or_ge i (e-b).toNat with hi|hi
   ·rw[bp hi,bp hi,cG,cG];have d:=c (b+i) (by omega) (by omega) (by omega) (by omega);have h:(b+(i:Int)-r.1).toNat=(b-r.1).toNat+i:=by omega
    grind
   grind
 grind
theorem Dd{C:List gH}(f:kf C):lC C first k=true↔z_ C first k:=by
 unfold lC;rw[List.all_eq_true];have mem:∀{C:List gH},kf C->∀r∈C,∀a,r.1<=a->a<gi r->kW C a=r.2[(a-r.1).toNat]?:=by
  intro C f r b a c d;induction C with
  |nil=>cases b
  |cons n p m=>
   rcases cF.1 b with rfl|b
   ·exact l_ ⟨c,d⟩
   ·have:=f.2.1 r b;rw[kX (by omega)];exact m f.2.2 b
 constructor
 ·intro j a q c d g;obtain⟨r,b,h,e⟩:=AL g;have l:=(rg).1 (j r b) a c d h e;rw[<-l,<-mem f r b a h e];exact g
 ·intro j r b;rw[rg];intro a c d g h;have e:=mem f r b a g h;have o:gi r=r.1+r.2.length:=rfl;rw[ap (by omega)]at e⊢;exact(j a _ c d e).symm
def mQ(read iP:Int)(b:List Int):Nat:=(min (max (read-iP) 0) b.length).toNat
theorem Jq(y:gG z2):
  (lC (hT c k) (g+mQ c g z2) (z2.drop (mQ c g z2))=false/\jT k (g-c) z2 z2.length=none)\/
  (lC (hT c k) (g+mQ c g z2) (z2.drop (mQ c g z2))=true/\∃e,jT k (g-c) z2 z2.length=some e/\
   kU (hT c k) (g+mQ c g z2) (z2.drop (mQ c g z2))=hT c e):=by
 have q:=qU k c;have D:(mQ c g z2:Int)=min (max (c-g) 0) z2.length:=by unfold mQ;omega
 generalize I:mQ c g z2=b at D⊢;have J:((z2.drop b).length:Int)=z2.length-b:=by grind
 have p:=Dd q (first:=g+b) (k:=z2.drop b);have m:∀a,kW (hT c k) a=pB c k a:=wJ c;have w:∀d:Nat,d<z2.length->z2[d]? =some (z2.getD d 0):=fun d A=>by grind
 rcases AO y z2.length (ar _) with⟨h,d,A,x,H,n,j⟩|⟨h,e,B,E⟩
 ·left;refine⟨?_,h⟩;rw[<-Bool.not_eq_true];intro f;have l:=(p.1 f) (c+(g-c)+d) H (by omega) (by omega) (by rw[m];exact n);grind
 ·right;have o:z_ (hT c k) (g+b) (z2.drop b):=by
   intro a G x n j;rw[m]at j;have K:c<=a:=by omega
   have l:=h (a-g).toNat (by omega) (by omega);have t:c+(g-c)+((a-g).toNat:Int)=a:=by omega
   rw[t]at l;rw[cG];have s:b+(a-(g+(b:Int))).toNat=(a-g).toNat:=by omega
   rw[s,w _ (by omega)];congr 1;apply cH;intro C;exact l ⟨G,j,fun f=>C f.symm⟩
  refine⟨p.2 o,e,B,?_⟩;obtain⟨u,v⟩:=Ap q o;refine yI u (qU _ c) fun a=>?_;rw[v,m,wJ,E];by_cases z:g+b<=a/\a<g+b+((z2.drop b).length:Nat)
  ·rw[if_pos z,if_pos (by omega),cG];grind
  grind
def iJ(rl:List gH)(first behind:Int):Bool:=decide (behind<=first) || rl.any fun r=>decide (r.1<=first)&&decide (behind<=gi r)
def kA(rs:List (Int×Int)):List gH:=rs.map fun r=>(r.1,aT (r.2-r.1+1).toNat 0)
def Bq:List (Int×Int)->Prop
 |[]=>True
 |r::t=>r.1<=r.2/\(∀q∈t,r.2+1<q.1)/\Bq t
def xp(rs:List (Int×Int))(p:Int):Prop:=∃r∈rs,r.1<=p/\p<=r.2
theorem rD(b:Bq x6)(a:r∈x6):r.1<=r.2:=by
 induction x6 with
 |nil=>cases a
 |cons d e c=>
  rcases cF.1 a with rfl|a
  ·exact b.1
  ·exact c b.2.2 a
theorem nZ{a:List (Int×Int)}:Bq (x6++a)↔Bq x6/\Bq a/\∀r∈x6,∀c∈a,r.2+1<c.1:=by
 induction x6 with
 |nil=>simp[Bq]
 |cons r d b=>rw[cI];simp only[Bq,b,bX,cF];grind
theorem pV(a:r.1<=r.2):gi (r.1,aT (r.2-r.1+1).toNat 0)=r.2+1:=by unfold gi;grind
theorem ys(a:Bq x6):kf (kA x6):=by
 induction x6 with
 |nil=>trivial
 |cons r j d=>refine⟨by simp only[aV];have:=a.1;omega,fun h b=>?_,d a.2.2⟩;obtain⟨e,c,rfl⟩:=List.mem_map.1 b;have f:=a.2.1 e c;have g:=a.1;grind
theorem nY:(xp x6 c->kW (kA x6) c=some 0)/\(¬xp x6 c->kW (kA x6) c=none):=by
 induction x6 with
 |nil=>exact⟨fun a=>(by obtain⟨r,k,_⟩:=a;grind),fun _=>rfl⟩
 |cons r g f=>
  have h:kA (r::g)=(r.1,aT (r.2-r.1+1).toNat 0)::kA g:=rfl;rw[h];by_cases e:r.1<=c/\c<=r.2
  ·rw[l_ (by grind)];refine⟨fun _=>?_,fun a=>(a ⟨r,by simp,e⟩).elim⟩;grind
  ·rw[kX (by grind)];refine⟨fun⟨d,b,a⟩=>f.1 ?_,fun a=>f.2 fun⟨d,b,j⟩=>a ⟨d,by simp[b],j⟩⟩;rcases cF.1 b with rfl|b
   ·exact(e a).elim
   ·exact⟨d,b,a⟩
theorem BH(e:Bq x6):iJ (kA x6) c (c+1)=true↔xp x6 c:=by
 unfold iJ kA xp;rw[List.any_map];simp only[Bool.or_eq_true,decide_eq_true_iff,List.any_eq_true,Function.comp,Bool.and_eq_true];constructor
 ·rintro(f|⟨r,a,b,d⟩)
  ·omega
  ·rw[pV (rD e a)]at d;grind
 ·rintro⟨r,a,b,d⟩;exact .inr ⟨r,a,b,by rw[pV (rD e a)];omega⟩
def nS(n:Int)(o:Option pE)(rs:List (Int×Int)):Option pE:=rs.foldl (fun o r=>o.bind fun st=>iI n st r) o
theorem tQ{n:Int}{rs:List (Int×Int)}:∀k,k<=rs.length->oN n rs k=nS n (some ⟨[],n,n,false⟩) (rs.take k)
 |0,_=>by simp[oN,nS]
 |k+1,h=>by rw[oN,tQ (n:=n) (rs:=rs) k (by omega),List.take_add_one,ap (by omega)];unfold nS;rw[Option.toList_some,List.foldl_append];simp[bR,ap (show k<rs.length by omega)]
theorem so(a:Int)(d:Option pE)(b c:List (Int×Int)):nS a d (b++c)=nS a (nS a d b) c:=by unfold nS;grind
theorem Ak:nS c none x6=none:=by
 induction x6 with
 |nil=>rfl
 |cons r b a=>exact a
theorem KE(b:∀r∈x6,r.1<=r.2/\r.2+1<c):∀a:pE,nS c (some a) x6=some {a with all:=a.all++x6}:=by
 induction x6 with
 |nil=>intro a;simp[nS]
 |cons r h f=>
  intro a;have j:=b r (by simp);have d:iI c a r=some {a with all:=a.all++[r]}:=by unfold iI;grind
  show nS c ((some a).bind fun a=>iI c a r) h=_;rw[cL,d,f (fun g e=>b g (by simp[e]))];simp
theorem Ii(b:∀r∈x6,r.1<=r.2/\c+1<r.1):∀a:pE,a.qc=true->nS c (some a) x6=some {a with all:=a.all++x6}:=by
 induction x6 with
 |nil=>intro a _;simp[nS]
 |cons r d h=>
  intro a g;have f:=b r (by simp);have e:iI c a r=some {a with all:=a.all++[r]}:=by unfold iI;grind
  show nS c ((some a).bind fun a=>iI c a r) d=_;simp_all
theorem Ij(b:∀r∈x6,r.1<=r.2/\c+1<r.1){v8:pE}(h:v8.qc=false):∃a,nS c (some v8) x6=some a/\jj a=v8.all++(v8.lo,v8.hi)::x6/\a.lo=v8.lo/\a.hi=v8.hi:=by
 cases x6 with
 |nil=>exact⟨v8,rfl,by unfold jj;rw[h];simp,rfl,rfl⟩
 |cons r d=>
  have k:=b r (by simp);have e:iI c v8 r=some {v8 with all:=v8.all++[(v8.lo,v8.hi)]++[r],qc:=true}:=by unfold iI;grind
  have f:nS c (some v8) (r::d)=nS c (iI c v8 r) d:=rfl;rw[f,e,Ii (fun j g=>b j (by simp[g])) _ rfl];refine⟨_,rfl,?_,rfl,rfl⟩;unfold jj;simp
theorem Fr{hi:Int}(h:g<=c/\c<=hi){b:List (Int×Int)}(l:∀r∈x6,r.2<c)(m:∀r∈b,c<r.1):(x6++(g,hi)::b).map (hD c g hi)=x6++(g,hi)::b:=by
 have e:∀a:List (Int×Int),(∀r∈a,¬(r.1<=c/\c<=r.2))->a.map (hD c g hi)=a:=by
  intro a f;induction a with
  |nil=>rfl
  |cons k n j=>rw[List.map_cons,j (fun r d=>f r (by simp[d]))];congr 1;unfold hD;grind
 rw[List.map_append,List.map_cons,e x6 (fun r d=>by grind),e b (fun r d=>by grind)];congr 2;unfold hD;rw[if_pos h]
theorem rm(y:Bq x6):
  (xp x6 c->oN c x6 x6.length=none)/\(¬xp x6 c->∃d k,oN c x6 x6.length=some d/\(jj d).map (hD c d.lo d.hi)=k/\Bq k/\kU (kA x6) c [0]=kA k/\0<k.length/\k.length<=x6.length+1/\
   ∀b,xp k b↔b=c\/xp x6 b):=by
 constructor
 ·rintro⟨r,a,l,f⟩;rw[tQ _ (ar _),List.take_length];obtain⟨g,N,rfl⟩:=List.append_of_mem a;rw[so];have O:∀I:Option pE,nS c I (r::N)=none:=by
   intro I;cases I with
   |none=>exact Ak
   |some d=>show nS c (iI c d r) N=none;unfold iI;rw[if_pos ⟨l,f⟩];exact Ak
  exact O _
 ·intro Q;rw[tQ _ (ar _),List.take_length];have u:=oJ (fun p:Int×Int=>decide (p.2+1<c)) x6;generalize a2:x6.takeWhile (fun p=>decide (p.2+1<c))=q at u;generalize a7:x6.dropWhile (fun p=>decide (p.2+1<c))=A at u;have T:=(nZ.1 (u▸y)).1;have o:=(nZ.1 (u▸y)).2.1;have a3:=(nZ.1 (u▸y)).2.2;have D:∀r∈q,r.1<=r.2/\r.2+1<c:=fun r a=>⟨rD T a,by rw[<-a2]at a;simpa using oi a⟩;have b4:∀r∈A,¬(r.1<=c/\c<=r.2):=fun r a h=>Q ⟨r,by grind,h⟩;have fin:∀(j e:List (Int×Int)) (lo hi:Int),A=j++e->lo<=c->c<=hi->(∀d:pE,d.qc=false->d.lo=c->d.hi=c->nS c (some d) j=some {d with lo:=lo,hi:=hi})->(∀r∈e,c+1<r.1)->
    (∀r∈e,hi+1<r.1)->(∀r∈q,r.2+1<lo)->(∀b,(lo<=b/\b<=hi)↔(b=c\/xp j b))->
    ∃d k,nS c (some ⟨[],c,c,false⟩) x6=some d/\(jj d).map (hD c d.lo d.hi)=k/\Bq k/\kU (kA x6) c [0]=kA k/\0<k.length/\k.length<=x6.length+1/\∀b,xp k b↔b=c\/xp x6 b:=by
   intro j e lo hi E b3 b1 a6 a4 a5 b7 b2;have c1:nS c (some ⟨[],c,c,false⟩) x6=nS c (some ⟨q,lo,hi,false⟩) e:=by rw[u,E,so,KE D,so,a6 _ rfl rfl rfl];simp
   have U:Bq e:=(nZ.1 (E▸o)).2.1;obtain⟨b5,W,X,Y,Z⟩:=Ij (c:=c) (fun r a=>⟨rD U a,a4 r a⟩) (v8:=⟨q,lo,hi,false⟩) rfl;have R:Bq (q++(lo,hi)::e):=by rw[nZ];refine⟨T,⟨by omega,fun p S=>a5 p S,U⟩,fun r a p S=>?_⟩;grind
   have H:∀b,xp (q++(lo,hi)::e) b↔b=c\/xp x6 b:=by
    intro b;have l:=b2 b;constructor
    ·rintro⟨r,a,f⟩;rcases bX.1 a with a|a
     ·exact .inr ⟨r,by grind,f⟩
     ·rcases cF.1 a with rfl|a
      ·rcases l.1 f with s|⟨V,c3,t⟩
       ·exact .inl s
       ·exact .inr ⟨V,by grind,t⟩
      ·exact .inr ⟨r,by grind,f⟩
    ·rintro(f|⟨r,a,f⟩)
     ·exact⟨(lo,hi),by simp,by simp only;omega⟩
     ·rw[u,E]at a;rcases bX.1 a with a|a
      ·exact⟨r,by simp[a],f⟩
      ·rcases bX.1 a with a|a
       ·exact⟨(lo,hi),by simp,l.2 (.inr ⟨r,a,f⟩)⟩
       ·exact⟨r,by simp[a],f⟩
   refine⟨b5,q++(lo,hi)::e,by rw[c1,W],?_,R,?_,by simp;omega,?_,H⟩
   ·rw[X,Y,Z];exact Fr ⟨b3,b1⟩ (fun r a=>by grind) (fun r a=>by grind)
   ·have a9:z_ (kA x6) c [0]:=fun b V l f s=>by
     have:b=c:=by simp at f;omega
     subst this;rw[(nY).2 Q]at s;cases s
    obtain⟨a0,a1⟩:=Ap (ys y) a9;refine yI a0 (ys R) fun b=>?_;rw[a1];by_cases x:b=c
    ·subst x;rw[if_pos ⟨by omega,by simp;omega⟩,(nY).1 ((H b).2 (.inl rfl))];simp
    ·rw[if_neg (by simp;omega)];by_cases G:xp x6 b
     ·rw[(nY).1 G,(nY).1 ((H b).2 (.inr G))]
     ·rw[(nY).2 G,(nY).2 (fun h=>by grind)]
   grind
  have J:∀(m:List (Int×Int)),Bq m->(∀r∈m,c<r.1)->∃j e hi,m=j++e/\c<=hi/\(∀d:pE,d.qc=false->d.hi=c->nS c (some d) j=some {d with hi:=hi})/\(∀r∈e,c+1<r.1)/\(∀r∈e,hi+1<r.1)/\
    (∀b,(c<=b/\b<=hi)↔(b=c\/xp j b)):=by
   intro m n b0;have b6:(∀r∈m,c+1<r.1)->∃j e hi,m=j++e/\c<=hi/\(∀d:pE,d.qc=false->d.hi=c->nS c (some d) j=some {d with hi:=hi})/\(∀r∈e,c+1<r.1)/\(∀r∈e,hi+1<r.1)/\
    (∀b,(c<=b/\b<=hi)↔(b=c\/xp j b)):=fun h=>⟨[],m,c,rfl,Int.le_refl _,fun d _ f=>by simp[nS,<-f],h,h,fun b=>⟨fun h=>.inl (by omega),fun h=>by
     rcases h with h|⟨r,a,_⟩
     ·omega
     ·cases a⟩⟩
   cases m with
   |nil=>simp_all
   |cons g z=>
    by_cases a8:g.1=c+1
    ·refine⟨[g],z,g.2,rfl,by have:=n.1;omega,fun d l f=>?_,fun r a=>by have:=n.2.1 r a;have:=n.1;omega,fun r a=>n.2.1 r a,fun b=>⟨fun h=>?_,fun h=>?_⟩⟩
     ·show iI c d g=_;unfold iI;rw[if_neg (by omega),if_neg (by have:=n.1;omega),if_pos a8]
     ·by_cases x:b=c
      ·exact .inl x
      ·exact .inr ⟨g,by simp,by omega⟩
     ·rcases h with h|⟨r,a,h⟩
      ·have:=n.1;omega
      grind
    ·refine b6 (fun r a=>?_);have P:=b0 g (by simp);rcases cF.1 a with rfl|a
     ·omega
     ·have:=n.2.1 r a;have:=n.1;omega
  cases A with
  |nil=>obtain⟨j,e,hi,l,f,s,t,v,w⟩:=J [] trivial (by simp);exact fin j e c hi l (Int.le_refl _) f (fun d K L M=>by grind) t v (fun r a=>(D r a).2) w
  |cons g z=>
   have b8:c<=g.2+1:=by have:=nD a7;simpa using this
   have b9:=b4 g (by simp);by_cases c2:g.2=c-1
   ·obtain⟨j,e,hi,l,f,s,t,v,w⟩:=J z o.2.2 (fun r a=>by have:=o.2.1 r a;omega);refine fin (g::j) e g.1 hi (by rw[l];rfl) (by have:=o.1;omega) f (fun d K L M=>?_) t v (fun r a=>a3 r a g (by simp)) (fun b=>?_)
    ·show nS c (iI c d g) j=_;have O:iI c d g=some {d with lo:=g.1}:=by unfold iI;grind
     grind
    ·have B:=w b;constructor
     ·intro h;by_cases x:c<=b
      ·rcases B.1 ⟨x,h.2⟩ with C|⟨r,a,C⟩
       ·exact .inl C
       ·exact .inr ⟨r,by simp[a],C⟩
      ·exact .inr ⟨g,by simp,by omega⟩
     ·rintro(h|⟨r,a,h⟩)
      ·have:=B.2 (.inl h);have:=o.1;omega
      ·rcases cF.1 a with rfl|a
       ·omega
       ·have:=B.2 (.inr ⟨r,a,h⟩);have:=o.1;omega
   ·obtain⟨j,e,hi,l,f,s,t,v,w⟩:=J (g::z) o (fun r a=>by
     have P:c<g.1:=by omega
     rcases cF.1 a with rfl|a
     ·exact P
     ·have:=o.2.1 r a;omega)
    exact fin j e c hi l (Int.le_refl _) f (fun d K L M=>by grind) t v (fun r a=>(D r a).2) w
theorem na(a:Int)(b:List Int):iX (a::b)=if 0<=a then iX b+1 else 0:=by unfold iX;rw[List.takeWhile_cons];by_cases c:0<=a<;>simp[c]
theorem sC(a:List Int):iX a<=a.length:=by
 induction a with
 |nil=>simp[iX]
 |cons c a b=>rw[na];split<;>simp<;>omega
theorem pX:∀a:Int,0<iX k->hT a k=(a,k.take (iX k))::hT (a+iX k) (k.drop (iX k)):=by
 induction k with
 |nil=>intro a b;simp[iX]at b
 |cons g k f=>
  intro a b;rw[na]at b⊢;by_cases d:0<=g
  ·rw[if_pos d,pW,if_pos d];by_cases e:0<iX k
   ·rw[f (a+1) e];unfold lY;grind
   ·have c:iX k=0:=by omega
    rw[c];have h:=wO (a+1) k;have j:¬0<=k.getD 0 (-1):=by
     cases k with
     |nil=>simp[bR]
     |cons m l=>rw[na]at c;grind
    unfold lY;grind
  grind
theorem tY(b:List Int):∀a,a<=iX b->iX (b.drop a)=iX b-a:=by
 induction b with
 |nil=>intro a _;simp[iX]
 |cons e b d=>
  intro a c;cases a with
  |zero=>simp
  |succ a=>rw[na]at c⊢;grind
theorem zB(b:iX k=0):∀a∈hT c k,c<a.1:=by
 cases k with
 |nil=>simp[hT]
 |cons f k=>
  rw[na]at b;split at b
  ·omega
  ·rename_i e;intro a d;rw[pW,if_neg e]at d;have:=oz _ (c+1) a d;omega
theorem ww(b:Int)(a:List Int)(aaa:Int):iJ (hT b a) b aaa=decide (aaa<=b+iX a):=by
 unfold iJ;rw[Bool.eq_iff_iff];simp only[Bool.or_eq_true,decide_eq_true_iff,List.any_eq_true,Bool.and_eq_true];have k:=sC a;by_cases f:0<iX a
 ·have e:=qU a b;rw[pX b f]at e⊢;have j:gi (b,a.take (iX a))=b+iX a:=by unfold gi;grind
  constructor
  ·rintro(d|⟨r,c,d,h⟩)
   ·omega
   ·rcases cF.1 c with rfl|c
    ·omega
    ·have:=e.2.1 r c;omega
  grind
 ·have g:iX a=0:=by omega
  constructor
  ·rintro(d|⟨r,c,d,h⟩)
   ·omega
   ·have:=zB g r c;omega
  omega
structure iA(qb:Int)(x:gs):Prop where
 read:0<=x.read
 OE:∀b∈x.bytes,-1<=b/\b<256
 len:x.read+x.bytes.length<=x.fW
 fin:0<=x.final->x.fW=x.final
 Dy:-1<=x.final
 oC:x.reset=true->x.bytes=[]/\0<=x.final
 dn:x.done=true->x.bytes=[]/\0<=x.final/\(x.reset=false->x.read=x.final)
 qb:jP x.bytes x.bytes.length<=qb
 rn:x.fW<=x.fS/\x.fS<=1073741823
theorem rE{l:List Int}{d:Int}{b:List Int}:∀{k:Nat} {m:List Int},jT l d b k=some m->l.length<=m.length/\(m.length:Int)<=max (l.length:Int) (d+k)
 |0,m,h=>by simp only[jT,Option.some.injEq]at h;subst h;omega
 |k+1,m,h=>by
  simp only[jT,cg]at h;obtain⟨m',h1,h2⟩:=h;have ih:=rE h1;split at h2
  ·simp only[Option.some.injEq]at h2;subst h2;omega
  ·unfold qp at h2;split at h2
   ·cases h2
   ·simp only[Option.some.injEq]at h2;subst h2;unfold jl;simp only[List.length_set,List.length_append,aV];omega
theorem yy{l:List Int}{d:Int}{b:List Int}(hb:gG b)(hl:∀x∈l,-1<=x/\x<256):∀{k:Nat} {m:List Int},k<=b.length->jT l d b k=some m->∀x∈m,-1<=x/\x<256
 |0,m,_,h=>by simp only[jT,Option.some.injEq]at h;subst h;exact hl
 |k+1,m,hk,h=>by
  simp only[jT,cg]at h;obtain⟨m',h1,h2⟩:=h;have ih:=yy hb hl (by omega) h1;split at h2
  ·simp only[Option.some.injEq]at h2;subst h2;exact ih
  ·unfold qp at h2;split at h2
   ·cases h2
   ·simp only[Option.some.injEq]at h2;subst h2;intro x hx;rcases List.mem_or_eq_of_mem_set hx with hx|rfl
    ·unfold jl at hx;rcases bX.1 hx with hx|hx
     ·exact ih x hx
     ·have:=(List.mem_replicate.1 hx).2;omega
    ·have:=hb b[k] (List.getElem_mem _);simp only[bR,ap (show k<b.length by omega),Option.getD_some];omega
theorem EF{l:Int}(v:gG P.bytes)(O:0<=P.iP)(y:0<=c)(a:iA c N):iA c (gt c g l P N).2:=by
 unfold gt;simp only;generalize x:P.iP+(P.bytes.length:Int)=d;by_cases k:rS N d (decide (P.type≠3))=true
 ·rw[if_pos k];exact a
 rw[if_neg k];by_cases m:N.done=true
 ·rw[if_pos m];exact a
 rw[if_neg m];by_cases n:kz N d g l=true
 ·rw[if_pos n];exact a
 rw[if_neg n];have w:N.done=false:=by simpa using m
 have t:∀r:gs,r.read=N.read->r.fW=N.fW->r.final=N.final->r.reset=N.reset->r.done=N.done->r.fS=N.fS->(∀o∈r.bytes,-1<=o/\o<256)->r.read+r.bytes.length<=max N.fW d->
   (r.reset=true->r.bytes=[])->jP r.bytes r.bytes.length<=c->iA c (jw P N r):=by
  intro r B R D E S T G U H C;have p:rS N d (decide (P.type≠3))=false:=by simpa using k
  have q:kz N d g l=false:=by simpa using n
  unfold rS at p;unfold kz at q;simp only[w,Bool.not_false,Bool.true_and,Bool.or_eq_false_iff,Bool.and_eq_false_iff,decide_eq_false_iff_not]at p q;have j:N.fW+jD N d=max N.fW d:=by unfold jD;split<;>omega
  have c1:=a.rn;have K:=a.fin;have J:=a.Dy;have I:iA c {r with fW:=N.fW+jD N d,final:=if P.type≠3 then d else r.final}:=by
   refine⟨by rw[B];exact a.read,G,by grind,?_,?_,?_,?_,C,?_⟩
   ·grind
   ·grind
   ·simp only;intro f;refine⟨H f,?_⟩;split
    ·omega
    ·rw[D];exact(a.oC (E▸f)).2
   ·grind
   grind
  have A:∀e:gs,iA c e->(P.type=5->0<=e.final)->e.done=false->iA c (if P.type=5/\wX e=false then {e with reset:=true,bytes:=[]} else e):=by
   intro e h u L;split
   ·rename_i b;refine⟨h.read,by simp,?_,h.fin,h.Dy,fun _=>⟨rfl,u b.1⟩,?_,by simpa[jP] using y,h.rn⟩
    ·have:=h.len;grind
    grind
   ·exact h
  unfold jw;simp only[x];refine A _ I (fun f=>?_) (by grind);grind
 by_cases s:P.type≠5/\N.reset=false
 ·rw[if_pos s];by_cases b:(ij c N P.iP P.bytes).1≠0
  ·rw[if_pos b];exact a
  ·rw[if_neg b];unfold ij at b⊢;cases j:jT N.bytes (P.iP-N.read) P.bytes P.bytes.length with
   |none=>rw[j]at b;simp at b
   |some Q=>
    rw[j]at b;simp only at b⊢;split at b
    ·simp at b
    ·rename_i z;rw[if_neg z];have M:=rE j;refine t _ rfl rfl rfl rfl rfl rfl (yy v a.OE (ar _) j) ?_ (fun f=>?_) (by simp only;omega)
     ·have:=a.len;grind
     grind
 ·rw[if_neg s];exact t N rfl rfl rfl rfl rfl rfl a.OE (by have:=a.len;omega) (fun f=>(a.oC f).1) a.qb
def kN(ty:Int):Bool:=(ty==4) ||(ty==5)
def mH(ty en fi:Int):Int:=if fi<en\/(kN ty=true/\en≠fi) then 6 else 0
def pO(hi cr en Rt:Int):Int:=if cr<en\/Rt<en-hi then 3 else 0
def Du(kn:Bool)(ty en hi fi:Int):Int:=if kn=true then mH ty en fi else if kN ty=true/\en<hi then 6 else 0
def u'(rs:Bool)(rl:List gH)(first:Int)(fresh:List Int)(qb:Int):Int×List gH:=
 if rs=true then(0,rl) else if lC rl first fresh=false then(9,rl) else(if qb<(kU rl first fresh).length then 8 else 0,kU rl first fresh)
theorem De(a:List gH)(first:Int):lC a first []=true:=by unfold lC;rw[List.all_eq_true];intro r _;rw[rg];grind
theorem Ao(a:List gH)(first:Int):kU a first []=a:=by unfold kU;rw[if_pos rfl]
theorem JE:∀(c:Int),∀b∈hT c k,gi b<=c+k.length:=by
 induction k with
 |nil=>intro c b a;simp[hT]at a
 |cons h k f=>
  intro c b a;have l:((h::k).length:Int)=k.length+1:=by simp
  unfold hT at a;split at a
  ·unfold lY at a;split at a
   ·simp at a;subst a;simp[gi];omega
   ·rename_i r g e;have d:∀b∈r::g,gi b<=c+1+k.length:=fun b a=>f (c+1) b (by rw[e];exact a);split at a
    ·rename_i j;rcases cF.1 a with rfl|a
     ·have:=d r (by simp);simp only[gi,List.length_cons]at this⊢;omega
     grind
    ·rcases cF.1 a with rfl|a
     ·simp[gi];omega
     grind
  grind
theorem uk(a:c=3\/c=4\/c=5):kN c=decide (c≠3):=by rcases a with rfl|rfl|rfl<;>decide
theorem KM(e:iA c N)(b:N.done=false){l:Int}(d:g=3\/g=4\/g=5):
  (rS N l (decide (g≠3))=true/\Du (decide (0<=N.final)) g l N.fW (max N.final 0)=6)\/(rS N l (decide (g≠3))=false/\Du (decide (0<=N.final)) g l N.fW (max N.final 0)=0):=by
 unfold rS Du mH;rw[uk d,b];by_cases a:0<=N.final
 ·have f:=e.fin a;grind
 grind
theorem BI{l:Int}(a:l<=g):
  (kz N c g l=true/\pO N.fW N.fS c (g-l)=3)\/(kz N c g l=false/\pO N.fW N.fS c (g-l)=0):=by
 unfold kz pO jD;grind
theorem Hs(q:iA c N)(m:gG P.bytes)(l:P.type=5->P.bytes=[]):
  let d:=if P.type=5 then 0 else P.iP
  let b:=mQ N.read d P.bytes
  let r:=u' N.reset (hT N.read N.bytes) (d+b) (P.bytes.drop b) c
  (P.type≠5/\N.reset=false->r.1=(ij c N P.iP P.bytes).1/\(r.1=0->r.2=hT N.read (ij c N P.iP P.bytes).2.bytes))/\(¬(P.type≠5/\N.reset=false)->r=(0,hT N.read N.bytes)):=by
 intro d b r;have s:((hT N.read N.bytes).length:Int)<=c:=by rw[kZ];exact q.qb
 constructor
 ·rintro⟨k,a⟩;have t:d=P.iP:=if_neg k;have p:r=u' N.reset (hT N.read N.bytes) (P.iP+mQ N.read P.iP P.bytes) (P.bytes.drop (mQ N.read P.iP P.bytes)) c:=by grind
  rw[p];unfold u' ij;rw[if_neg (by rw[a];decide)];rcases Jq m with⟨e,f⟩|⟨e,u,f,j⟩
  ·rw[if_pos e,f];exact⟨rfl,fun g=>absurd (show(9:Int)=0 from g) (by decide)⟩
  ·rw[if_neg (by rw[e];decide),f,j];simp only;rw[kZ];grind
 ·intro g;show u' _ _ _ _ _=_;unfold u';by_cases a:N.reset=true
  ·rw[if_pos a]
  ·have h:P.type=5:=cH fun h=>g ⟨h,by simpa using a⟩;have n:=l h;rw[if_neg a];have o:P.bytes.drop b=[]:=by rw[n];simp
   rw[o,De,Ao,if_neg (by decide),if_neg (by omega)]
theorem Cy{l:Int}(y:gG P.bytes)(u:iA c N)(C:N.done=false)(B:l<=g)(t:P.type=3\/P.type=4\/P.type=5)(x:P.type=5->P.bytes=[])(O:0<=P.iP):
  let b:=P.iP+P.bytes.length
  let m:=if P.type=5 then 0 else P.iP
  let c1:=Du (decide (0<=N.final)) P.type b N.fW (max N.final 0)
  let e:=pO N.fW N.fS b (g-l)
  let k:=mQ N.read m P.bytes
  let r:=u' N.reset (hT N.read N.bytes) (m+k) (P.bytes.drop k) c
  (gt c g l P N).1=(if c1≠0 then c1 else if e≠0 then e else r.1)/\
  (c1=0->e=0->r.1=0->∀a,(gt c g l P N).2=a->a.read=N.read/\a.fW=max N.fW b/\a.fS=N.fS/\a.final=(if kN P.type=true then b else N.final)/\a.done=false/\
   (P.type=5->iJ r.2 N.read b=false->a.reset=true/\a.bytes=[])/\(¬(P.type=5/\iJ r.2 N.read b=false)->a.reset=N.reset/\hT N.read a.bytes=r.2)):=by
 intro b m c1 e k r;have s:=Hs u y x;have K:0<=b:=by omega
 have V:=uk t;rcases KM u C (g:=P.type) (l:=b) t with⟨n,o⟩|⟨n,o⟩
 ·have f:gt c g l P N=(6,N):=by unfold gt;rw[if_pos n]
  grind
 ·have z:c1=0:=o;rw[z];rcases BI (N:=N) (c:=b) B with⟨w,p⟩|⟨w,p⟩
  ·have f:gt c g l P N=(3,N):=by unfold gt;grind
   grind
  ·have A:e=0:=p;rw[A];have M:N.fW+jD N b=max N.fW b:=by unfold jD;split<;>omega
   have Q:∀d:gs,d.read=N.read->d.fS=N.fS->d.done=false->d.final=N.final->d.reset=N.reset->hT N.read d.bytes=r.2->∀a,jw P N d=a->a.read=N.read/\a.fW=max N.fW b/\a.fS=N.fS/\a.final=(if kN P.type=true then b else N.final)/\a.done=false/\
     (P.type=5->iJ r.2 N.read b=false->a.reset=true/\a.bytes=[])/\(¬(P.type=5/\iJ r.2 N.read b=false)->a.reset=N.reset/\hT N.read a.bytes=r.2):=by
    intro d X Y Z a0 a1 H a v;have J:∀h:gs,h.read=N.read->h.bytes=d.bytes->h.final=b->(wX h=false↔iJ r.2 N.read b=false):=by intro h a2 a3 a4;rw[<-H,ww];unfold wX;simp_all
    have L:(if P.type≠3 then b else d.final)=(if kN P.type=true then b else N.final):=by grind
    rw[<-v];unfold jw;grind
   by_cases q:P.type≠5/\N.reset=false
   ·obtain⟨D,E⟩:=s.1 q;have f:gt c g l P N=if(ij c N P.iP P.bytes).1≠0 then((ij c N P.iP P.bytes).1,N) else(0,jw P N (ij c N P.iP P.bytes).2):=by
     conv=>lhs;unfold gt
     grind
    have S:r.1=(ij c N P.iP P.bytes).1:=D;have T:r.1=0->r.2=hT N.read (ij c N P.iP P.bytes).2.bytes:=E;by_cases j:(ij c N P.iP P.bytes).1≠0
    ·rw[f,if_pos j];omega
    ·rw[f,if_neg j];have W:(ij c N P.iP P.bytes).1=0:=cH j;refine⟨by omega,fun _ _ I a v=>?_⟩;have U:∃G,(ij c N P.iP P.bytes).2 = {N with bytes:=G}:=by
      unfold ij;split
      ·grind
      ·split
       ·grind
       grind
     grind
   ·have R:r=(0,hT N.read N.bytes):=s.2 q;have f:gt c g l P N=(0,jw P N N):=by
     conv=>lhs;unfold gt
     grind
    grind
end Go.Proofs.YthmdjhlhodpbhaaGreatDoor
