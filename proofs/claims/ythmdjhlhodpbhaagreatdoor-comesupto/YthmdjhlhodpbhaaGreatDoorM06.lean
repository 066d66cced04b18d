/- Comes, part 6 -/
import Derived.Test.YthmdjhlhodpbhaaGreatDoorM05
set_option maxHeartbeats 16000000
set_option maxRecDepth 8000
namespace Go.Proofs.YthmdjhlhodpbhaaGreatDoor
open Go.RowKit
open _root_.List renaming getElem?_eq_getElem → am, mem_map → cZ, mem_of_getElem? → bT, getElem?_eq_some_iff → bm, mem_filter → c_, mem_or_eq_of_mem_set → da, getElem_mem → df, take_append_drop → dg, map_cons → bD, nodup_cons → bB, range → dh, map_map → cW
open _root_.Int renaming le_refl → cP
open _root_.Bool renaming false_eq_true → de
open _root_.Nat renaming lt_or_ge → aD
open _root_.Go.Proofs.Tryz
open _root_.Go.Proofs.Tryz renaming prog → ae
variable {c c':gZ}{M L lw gL addr size iI last jm YZ M' now:Int}{s:ik}{i N:Nat}{l l':List gZ}{g:jG}{b cs:List Int}{f:lL}{gN:List (Int×List Int)}{x:jf}
structure lr(g:jG)(c:gZ):Prop where
 str:∀x∈c.gJ,np g.c4 x
 high:jO c.gJ<=c.gM
 runs:Ii c.runs
theorem Pf{l:List jf}:∀{i:Nat} {x y:jf},l[i]? =some x->jO (l.set i y)=jO l-x.gR+y.gR:=by
 induction l with
 |nil=>intro i x y h;simp at h
 |cons a t ih=>
  intro i x y h
  cases i with
  |zero=>
   simp only[List.getElem?_cons_zero,Option.some.injEq]at h;subst h;simp[jO];omega
  |succ i=>
   have:=ih (i:=i) (x:=x) (y:=y) (by simpa using h);simp[jO]at this⊢;omega
theorem Mq(f:lL)(x r:jf):(lp f x r).gR=x.gR+kT x (f.iC+f.bytes.length):=by
 unfold lp;simp only
 split<;>split<;>rfl
theorem Hj{gM high:Int}(kq:high<=gM):high-x.gR+(iw iI gM high f x).2.gR<=gM:=by
 unfold iw;simp only
 have hm:∀r:jf,¬mC x (f.iC+f.bytes.length) gM high=true->high-x.gR+(lp f x r).gR<=gM:=by
  intro r h;rw[Mq];unfold mC at h;simp at h;omega
 split
 ·simp only;omega
 ·split
  ·simp only;omega
  ·split
   ·simp only;omega
   ·next ho=>
    split
    ·split
     ·simp only;omega
     ·exact hm _ ho
    ·exact hm _ ho
theorem IQ(hc:lr g c)(hb:iF f.bytes)(ho:0<=f.iC)(hg:0<=g.c4):lr g (iN g.c4 f c).2:=by
 unfold iN
 split
 ·exact hc
 ·next x hx=>
  refine⟨fun y hy=>?_,?_,hc.runs⟩
  ·rcases da hy with hy|rfl
   ·exact hc.str y hy
   ·exact Ks hb ho hg (hc.str x (bT hx))
  ·simp only;rw[Pf hx];exact Hj hc.high
def jx(g:jG)(lw:Int)(c:gZ)(f:lL):Int×gZ:=
 if f.type=0\/f.type=1 then(0,c)
 else if f.type=7 then(if f.code≠kc g.c9 c.addr c.gL then(10,c) else if c.gT then(0,c) else(0,{c with gT:=true,waits:=lw}))
 else iN g.c4 f c
structure FY where
 kH:gZ
 closed:Option Int
 gone:Bool
def iR(g:jG)(lw:Int)(c:gZ)(b:List Int):Nat->FY
 |0=>⟨c,none,false⟩
 |n+1=>if b=[] then⟨c,none,false⟩ else
  match iV b with
  |none=>⟨c,some 7,true⟩
  |some (f,size)=>
   if f.type=6 then⟨c,none,true⟩
   else if(jx g lw c f).1≠0 then⟨c,some (jx g lw c f).1,true⟩
   else iR g lw (jx g lw c f).2 (b.drop size) n
def mX(r:FY)(gN:List (Int×List Int)):List (Int×List Int):=match r.closed with
 |none=>gN
 |some k=>kB r.kH ([19]++jn k) gN
def rj(s:ik)(i:Nat)(c:gZ)(r:FY):ik:=
 {s with gG:=if r.gone then s.gG.eraseIdx i else s.gG.set i r.kH,last:=if r.kH.gT=true/\c.gT=false then s.last+1 else s.last}
theorem sF(h:c.gT=true):(jx g lw c f).2.gT=true:=by
 unfold jx
 split
 ·exact h
 ·split
  ·split
   ·exact h
   ·first|exact h |(rw[if_pos h];exact h)
  ·unfold iN
   split<;>exact h
theorem Lq(h:c.gT=true):jx g lw c f=jx g YZ c f:=by
 unfold jx;simp[h]
theorem uw{g:jG}{lw:Int}:∀(n:Nat) {c:gZ} {b:List Int},c.gT=true->(iR g lw c b n).kH.gT=true
 |0,c,b,h=>h
 |n+1,c,b,h=>by
  unfold iR
  split
  ·exact h
  ·split
   ·exact h
   ·split
    ·exact h
    ·split
     ·exact h
     ·exact uw n (sF h)
theorem zl{g:jG}{lw YZ:Int}:∀(n:Nat) {c:gZ} {b:List Int},c.gT=true->iR g lw c b n=iR g YZ c b n
 |0,c,b,h=>rfl
 |n+1,c,b,h=>by
  unfold iR
  split
  ·rfl
  ·split
   ·rfl
   ·next f size hf=>
    rw[Lq (lw:=lw) (YZ:=YZ) h,zl (lw:=lw) (YZ:=YZ) n (sF h)]
theorem zn{α:Type}(a:α):∀(l:List α) (i:Nat),(l.set i a).eraseIdx i=l.eraseIdx i
 |[],i=>by simp
 |b::t,0=>by simp
 |b::t,i+1=>by simp[zn a t i]
theorem Lx(h6:f.type≠6)(hi:s.gG[i]? =some c):
  (j6 s i c f).code=(jx s.c (s.last+1) c f).1/\(j6 s i c f).gone=false/\((j6 s i c f).code=0->(j6 s i c f).lf=rj s i c ⟨(jx s.c (s.last+1) c f).2,none,false⟩):=by
 unfold j6 jx rj;by_cases h0:f.type=0\/f.type=1
 ·rw[if_pos h0,if_pos h0];refine⟨rfl,rfl,fun _=>?_⟩;simp[jw hi]
 ·rw[if_neg h0,if_neg h0,if_neg h6];by_cases h7:f.type=7
  ·rw[if_pos h7,if_pos h7];unfold pi;by_cases hp:f.code≠kc s.c.c9 c.addr c.gL
   ·rw[if_pos hp,if_pos hp];exact⟨rfl,rfl,fun h=>absurd (show(10:Int)=0 from h) (by decide)⟩
   ·rw[if_neg hp,if_neg hp]
    cases JA:c.gT with
    |true=>simp[jw hi,JA]
    |false=>simp
  ·rw[if_neg h7,if_neg h7];refine⟨rfl,rfl,fun _=>?_⟩;have hp:(iN s.c.c4 f c).2.gT=c.gT:=by unfold iN;split<;>rfl
   simp only[hp]
   cases c.gT<;>simp
theorem qC:∀(n:Nat) {s:ik} {i:Nat} {c:gZ} (b:List Int) (gN:List (Int×List Int)),s.gG[i]? =some c->
  ji s i b gN n=(rj s i c (iR s.c (s.last+1) c b n),mX (iR s.c (s.last+1) c b n) gN)
 |0,s,i,c,b,gN,hi=>by
  simp[ji,iR,rj,mX,jw hi]
 |n+1,s,i,c,b,gN,hi=>by
  have SG:rj s i c ⟨c,none,false⟩= s:=by simp[rj,jw hi]
  have xS:∀k,rj s i c ⟨c,k,true⟩= {s with gG:=s.gG.eraseIdx i}:=by intro k;simp[rj]
  unfold ji iR;by_cases hb:b=[]
  ·rw[if_pos hb,if_pos hb,SG]
   rfl
  ·rw[if_neg hb,if_neg hb,hi];simp only
   cases hf:iV b with
   |none=>simp only;rw[xS];rfl
   |some x=>
    obtain⟨f,size⟩:=x;simp only;by_cases h6:f.type=6
    ·have hd:j6 s i c f =⟨0,{s with gG:=s.gG.eraseIdx i},true⟩:=by
      unfold j6;rw[if_neg (by omega),if_pos h6]
     rw[hd,if_pos h6,xS]
     rfl
    ·obtain⟨e1,e2,e3⟩:=Lx (f:=f) h6 hi;rw[if_neg h6,e1,e2];by_cases hz:(jx s.c (s.last+1) c f).1≠0
     ·rw[if_pos hz,if_pos hz,xS]
      rfl
     ·rw[if_neg hz,if_neg hz];have hz':(jx s.c (s.last+1) c f).1=0:=Classical.byContradiction hz;have e4:=e3 (e1.trans hz');simp only[de,if_false]
      have hi':(j6 s i c f).lf.gG[i]? =some (jx s.c (s.last+1) c f).2:=by
       rw[e4];simp[rj,getElem?_set_at hi]
      rw[qC n _ _ hi'];generalize xQ:(jx s.c (s.last+1) c f).2=c' at *
      have yp:(j6 s i c f).lf.c=s.c:=by rw[e4];rfl
      have X4:(j6 s i c f).lf.gG=s.gG.set i c':=by rw[e4];simp[rj]
      have td:(j6 s i c f).lf.now=s.now:=by rw[e4];rfl
      have rq:(j6 s i c f).lf.last=if c'.gT=true/\c.gT=false then s.last+1 else s.last:=by rw[e4];rfl
      have oM:iR (j6 s i c f).lf.c ((j6 s i c f).lf.last+1) c' (b.drop size) n=iR s.c (s.last+1) c' (b.drop size) n:=by
       rw[yp];by_cases hp:c'.gT=true/\c.gT=false
       ·exact zl n hp.1
       ·rw[rq,if_neg hp]
      rw[oM];generalize hr:iR s.c (s.last+1) c' (b.drop size) n=r;refine Prod.ext ?_ rfl;simp only
      have rC:(if r.kH.gT=true/\c'.gT=false then(j6 s i c f).lf.last+1 else(j6 s i c f).lf.last)=if r.kH.gT=true/\c.gT=false then s.last+1 else s.last:=by
       rw[rq]
       cases hp:c.gT with
       |true=>
        have h1:c'.gT=true:=by rw[<-xQ];exact sF hp
        simp[h1]
       |false=>
        cases Cc:c'.gT with
        |true=>
         have h2:r.kH.gT=true:=by rw[<-hr];exact uw n Cc
         simp[h2]
        |false=>simp
      unfold rj;rw[rC,X4]
      have h3:(if r.gone=true then(s.gG.set i c').eraseIdx i else(s.gG.set i c').set i r.kH)=if r.gone=true then s.gG.eraseIdx i else s.gG.set i r.kH:=by
       rw[zn,List.set_set]
      rw[h3];generalize hd:(j6 s i c f).lf=sd at *
      cases sd
      cases s
      simp only at yp td⊢;subst yp td
      rfl
def kL(l:List gZ):List (Int×Int):=(l.filter fun c=>decide (0<c.waits)).map fun c=>(c.waits,c.gL)
def mg(l:List gZ)(cs:List Int):Prop:=∃ks:List (Int×Int),ks.Perm (kL l)/\ks.Pairwise (fun a b=>a.1<b.1)/\cs=ks.map (·.2)
theorem lK(a b:List gZ):kL (a++b)=kL a++kL b:=by simp[kL]
theorem pO(c:gZ)(l:List gZ):kL (c::l)=kL [c]++kL l:=by rw[<-lK];rfl
theorem pV(c:gZ):kL [c]=if 0<c.waits then [(c.waits,c.gL)] else []:=by
 unfold kL;by_cases h:0<c.waits<;>simp[h]
theorem zX{α:Type}{l:List α}{a:α}(h:l[i]? =some a):l=l.take i++a::l.drop (i+1):=by
 obtain⟨hi,rfl⟩:=bm.1 h;rw[List.getElem_cons_drop,dg]
theorem A0{α:Type}{l:List α}{a b:α}(h:l[i]? =some a):l.set i b=l.take i++b::l.drop (i+1):=by
 obtain⟨hi,_⟩:=bm.1 h;rw[List.set_eq_take_append_cons_drop,if_pos hi]
theorem I5{α:Type}{l:List α}{a:α}(_h:l[i]? =some a):l.eraseIdx i=l.take i++l.drop (i+1):=List.eraseIdx_eq_take_drop_succ l i
theorem QC(h:l[i]? =some c)(hw:c'.waits=c.waits)(hc:c'.gL=c.gL):kL (l.set i c')=kL l:=by
 conv=>rhs;rw[zX h]
 rw[A0 h,lK,lK,pO c',pO c,pV,pV,hw,hc]
theorem mg.same(h:mg l cs)(e:kL l'=kL l):mg l' cs:=by
 obtain⟨ks,h1,h2,h3⟩:=h;exact⟨ks,by rw[e];exact h1,h2,h3⟩
theorem mg.nil:mg [] []:=⟨[],by simp[kL],List.Pairwise.nil,rfl⟩
theorem TF(h:∀c∈l,c.waits<=last):∀k∈kL l,k.1<=last:=by
 intro k hk;simp only[kL,cZ,c_]at hk;obtain⟨c,⟨hc,_⟩,rfl⟩:=hk;exact h c hc
theorem mg.more(h:mg l cs)(hp:(kL l').Perm (kL l++[(lw,gL)]))(hl:∀c∈l,c.waits<lw):mg l' (cs++[gL]):=by
 obtain⟨ks,h1,h2,h3⟩:=h;refine⟨ks++[(lw,gL)],(List.Perm.append_right _ h1).trans hp.symm,?_,by simp[h3]⟩;rw[List.pairwise_append];refine⟨h2,List.pairwise_singleton _ _,fun a ha b hb=>?_⟩;rw[List.mem_singleton.1 hb];have hk:=TF (last:=lw-1) (fun c hc=>by have:=hl c hc;omega) a (h1.mem_iff.1 ha);simp only;omega
theorem DM(h:l[i]? =some c)(h0:c.waits<=0)(hw:c'.waits=lw)(hl:0<lw):(kL (l.set i c')).Perm (kL l++[(lw,c'.gL)]):=by
 have e2:kL l=kL (l.take i)++kL (l.drop (i+1)):=by
  conv=>lhs;rw[zX h]
  rw[lK,pO c,pV,if_neg (by omega)]
  rfl
 rw[A0 h,lK,pO c',pV,hw,if_pos hl,e2,List.append_assoc];exact List.Perm.append_left _ (List.perm_append_comm)
theorem FV{k:Int×Int}(h:k∈kL l):∃c∈l,c.gL=k.2/\c.waits=k.1/\0<c.waits:=by
 simp only[kL,cZ,c_]at h;obtain⟨c,⟨hc,h0⟩,rfl⟩:=h;exact⟨c,hc,rfl,rfl,by simpa using h0⟩
theorem mg.filter(h:mg l cs)(p:Int->Bool)(e:kL l'=(kL l).filter fun k=>p k.2):mg l' (cs.filter p):=by
 obtain⟨ks,h1,h2,h3⟩:=h;refine⟨ks.filter fun k=>p k.2,by rw[e];exact h1.filter _,h2.filter _,?_⟩;rw[h3,List.filter_map]
 rfl
theorem KB(hn:(l.map (·.gL)).Nodup)(h:l[i]? =some c):kL (l.eraseIdx i)=(kL l).filter fun k=>k.2 != c.gL:=by
 have hs:=zX h;rw[hs]at hn;simp only[List.map_append,bD]at hn;rw[List.nodup_append]at hn;obtain⟨_,uC,T9⟩:=hn;rw[bB]at uC
 have Jr:∀m:List gZ,(∀d∈m,d.gL≠c.gL)->(kL m).filter (fun k=>k.2 != c.gL)=kL m:=by
  intro m hm;refine List.filter_eq_self.2 fun k hk=>?_
  obtain⟨d,hd,e1,_⟩:=FV hk;simp[<-e1,hm d hd]
 have hA:∀d∈l.take i,d.gL≠c.gL:=fun d hd=>T9 d.gL (cZ.2 ⟨d,hd,rfl⟩) c.gL (by simp)
 have hB:∀d∈l.drop (i+1),d.gL≠c.gL:=fun d hd e=>uC.1 (e▸cZ.2 ⟨d,hd,rfl⟩)
 rw[I5 h,lK]
 conv=>rhs;rw[hs]
 rw[lK,pO c,List.filter_append,List.filter_append,Jr _ hA,Jr _ hB,pV]
 split<;>simp
theorem mg.erase(h:mg l cs)(hn:(l.map (·.gL)).Nodup)(hi:l[i]? =some c):mg (l.eraseIdx i) (cs.filter fun x=>x != c.gL):=
 h.filter _ (KB hn hi)
theorem mg.nodup(h:mg l cs)(hn:(l.map (·.gL)).Nodup):cs.Nodup:=by
 obtain⟨ks,h1,_,rfl⟩:=h;refine((h1.map _).nodup_iff).2 ?_;unfold kL;rw[cW];exact((List.filter_sublist (p:=fun c:gZ=>decide (0<c.waits)) (l:=l)).map (·.gL)).nodup hn
theorem yi(l:List gZ):∀k,(mG l k=none/\∀j,j<k->¬0<mj l j)\/∃j,mG l k=some j/\j<k/\0<mj l j/\∀i,i<k->0<mj l i->mj l j<=mj l i
 |0=>Or.inl ⟨rfl,fun j h=>absurd h (by omega)⟩
 |k+1=>by
  unfold mG;rcases yi l k with⟨e,h⟩|⟨j,e,h1,h2,h3⟩
  ·rw[e];simp only;by_cases hk:0<mj l k
   ·right
    rw[if_pos hk];refine⟨k,rfl,by omega,hk,fun i hi hw=>?_⟩;rcases aD i k with h4|h4
    ·exact absurd hw (h i h4)
    ·obtain rfl:i=k:=by omega
     omega
   ·left
    rw[if_neg hk];refine⟨rfl,fun i hi=>?_⟩;rcases aD i k with h4|h4
    ·exact h i h4
    ·obtain rfl:i=k:=by omega
     exact hk
  ·right
   rw[e];simp only;by_cases hk:0<mj l k/\mj l k<mj l j
   ·rw[if_pos hk];refine⟨k,rfl,by omega,hk.1,fun i hi hw=>?_⟩;rcases aD i k with h4|h4
    ·have:=h3 i h4 hw;omega
    ·obtain rfl:i=k:=by omega
     omega
   ·rw[if_neg hk];refine⟨j,rfl,by omega,h2,fun i hi hw=>?_⟩;rcases aD i k with h4|h4
    ·exact h3 i h4 hw
    ·obtain rfl:i=k:=by omega
     omega
theorem qL{j:Nat}(h:l[j]? =some c):mj l j=c.waits:=by simp[mj,h]
theorem IA(h:mg s.gG []):lR s=(0,4,s):=by
 obtain⟨ks,h1,_,h3⟩:=h;have hk:ks=[]:=by simpa using h3.symm
 subst hk;have hK:kL s.gG=[]:=h1.symm.eq_nil
 have hf:mG s.gG s.gG.length=none:=by
  rcases yi s.gG s.gG.length with⟨e,_⟩|⟨j,_,h5,h6,_⟩
  ·exact e
  ·have hj:s.gG[j]? =some s.gG[j]:=am h5;rw[qL hj]at h6
   have:(s.gG[j].waits,s.gG[j].gL)∈kL s.gG:=by
    simp only[kL,cZ,c_];exact⟨_,⟨df h5,by simpa using h6⟩,rfl⟩
   rw[hK]at this
   cases this
 unfold lR;rw[hf]
theorem IB{x:Int}(h:mg s.gG (x::cs)):∃j c,s.gG[j]? =some c/\c.gL=x/\0<c.waits/\lR s=(x,0,{s with gG:=s.gG.set j {c with waits:=0}})/\mg (s.gG.set j {c with waits:=0}) cs:=by
 obtain⟨ks,h1,h2,h3⟩:=h
 cases ks with
 |nil=>simp at h3
 |cons k kt=>
  simp only[bD,List.cons.injEq]at h3;obtain⟨rfl,rfl⟩:=h3;rw[List.pairwise_cons]at h2;obtain⟨h2,h2'⟩:=h2
  have acU:∀c∈s.gG,0<c.waits->k.1<c.waits\/(c.waits,c.gL)=k:=by
   intro c hc h0
   have hm:(c.waits,c.gL)∈kL s.gG:=by
    simp only[kL,cZ,c_];exact⟨_,⟨hc,by simpa using h0⟩,rfl⟩
   rcases List.mem_cons.1 (h1.mem_iff.2 hm) with e|e
   ·exact Or.inr e
   ·exact Or.inl (h2 _ e)
  obtain⟨c0,qs,e1,e2,e3⟩:=FV (h1.mem_iff.1 (List.mem_cons_self (a:=k) (l:=kt)));rcases yi s.gG s.gG.length with⟨e,ka⟩|⟨j,e,h5,h6,h7⟩
  ·obtain⟨i,hi,rfl⟩:=List.getElem_of_mem qs;have:=ka i hi;rw[qL (am hi)]at this;omega
  ·have hj:s.gG[j]? =some s.gG[j]:=am h5;rw[qL hj]at h6
   have hjk:(s.gG[j].waits,s.gG[j].gL)=k:=by
    rcases acU _ (df h5) h6 with h8|h8
    ·obtain⟨i,hi,rfl⟩:=List.getElem_of_mem qs;have h9:=h7 i hi (by rw[qL (am hi)];exact e3);rw[qL (am hi),qL hj]at h9;omega
    ·exact h8
   generalize O7:s.gG[j]=c at *
   refine⟨j,c,hj,by rw[<-hjk],h6,?_,kt,?_,h2',rfl⟩
   ·unfold lR;rw[e];simp only;rw[hj];simp only;rw[<-hjk]
   ·have hK:(kL s.gG).Perm (k::kL (s.gG.set j {c with waits:=0})):=by
     conv=>lhs;rw[zX hj]
     rw[A0 hj,lK,lK,pO c (s.gG.drop (j+1)),pO {c with waits:=0} (s.gG.drop (j+1)),pV c,pV {c with waits:=0},if_pos h6,hjk];simp only[Int.lt_irrefl,if_false,List.nil_append];exact List.perm_middle
    exact List.Perm.cons_inv (h1.trans hK)
structure lG(M:Int)(g:jG)(lw:Int)(c c':gZ):Prop where
 gL:c'.gL=c.gL
 addr:c'.addr=c.addr
 jc:c'.jc=c.jc
 jb:c'.jb=c.jb
 heard:c'.heard=c.heard
 mark:c'.mark=c.mark
 runs:c'.runs=c.runs
 gM:c'.gM=c.gM
 p_:c'.gJ.length=c.gJ.length
 ok:ke M c'
 inv:lr g c'
 same:c'.gT=c.gT->c'.waits=c.waits
 stay:c.gT=true->c'.gT=true
 new:c.gT=false->c'.gT=true->c'.waits=lw
theorem lG.refl(h1:ke M c)(h2:lr g c):lG M g lw c c:=
 ⟨rfl,rfl,rfl,rfl,rfl,rfl,rfl,rfl,rfl,h1,h2,fun _=>rfl,id,fun a b=>by rw[a]at b;cases b⟩
theorem lG.trans{a b:gZ}(h:lG M g lw a b)(k:lG M g lw b c):lG M g lw a c where
 gL:=k.gL.trans h.gL
 addr:=k.addr.trans h.addr
 jc:=k.jc.trans h.jc
 jb:=k.jb.trans h.jb
 heard:=k.heard.trans h.heard
 mark:=k.mark.trans h.mark
 runs:=k.runs.trans h.runs
 gM:=k.gM.trans h.gM
 p_:=k.p_.trans h.p_
 ok:=k.ok
 inv:=k.inv
 same:=fun e=>by
  cases ha:a.gT with
  |true=>
   have hb:=h.stay ha;have hc:=k.stay hb;rw[k.same (by rw[hb,hc]),h.same (by rw[ha,hb])]
  |false=>
   have hc:c.gT=false:=by rw[e,ha]
   have hb:b.gT=false:=by
    cases hb:b.gT with
    |true=>have:=k.stay hb;rw[hc]at this;cases this
    |false=>rfl
   rw[k.same (by rw[hb,hc]),h.same (by rw[ha,hb])]
 stay:=fun e=>k.stay (h.stay e)
 new:=fun e1 e2=>by
  cases hb:b.gT with
  |true=>rw[k.same (by rw[hb,e2]),h.new e1 hb]
  |false=>exact k.new hb e2
theorem CK:(iN iI f c).2 = {c with gJ:=(iN iI f c).2.gJ}/\(iN iI f c).2.gJ.length=c.gJ.length:=by
 unfold iN
 split
 ·exact⟨rfl,rfl⟩
 ·exact⟨rfl,by simp⟩
theorem zm(h1:ke M c)(h2:lr g c)(hf:y9 f)(hb:iF f.bytes)(hg:0<=g.c4):lG M g lw c (jx g lw c f).2:=by
 unfold jx
 split
 ·exact lG.refl h1 h2
 ·split
  ·by_cases hp:f.code≠kc g.c9 c.addr c.gL
   ·rw[if_pos hp];exact lG.refl h1 h2
   ·rw[if_neg hp]
    cases JA:c.gT with
    |true=>simp only[if_true];exact lG.refl h1 h2
    |false=>
     simp only[de,if_false];exact⟨rfl,rfl,rfl,rfl,rfl,rfl,rfl,rfl,rfl,⟨h1.gL,h1.addr,h1.jc,h1.jb,h1.heard,h1.runs,h1.gM,h1.p_,h1.str⟩,⟨h2.str,h2.high,h2.runs⟩,fun h=>(by rw[JA]at h;cases h),fun _=>rfl,fun _ _=>rfl⟩
  ·have e:=CK (iI:=g.c4) (f:=f) (c:=c);have e1:=e.1;have k1:=(CL (iI:=g.c4) hf h1).1;have k2:=IQ h2 hb hf.iC.1 hg;exact⟨by rw[e1],by rw[e1],by rw[e1],by rw[e1],by rw[e1],by rw[e1],by rw[e1],by rw[e1],e.2,k1,k2,fun _=>by rw[e1],fun h=>by rw[e1];exact h,fun a b=>by rw[e1]at b;rw[a]at b;cases b⟩
theorem zq(hb:iF b){size:Nat}(h:iV b=some (f,size)):iF f.bytes:=by
 have hn:iF []:=fun x hx=>by cases hx
 unfold iV at h
 split at h
 ·cases h
 ·split at h
  ·cases h
  ·simp only[Option.some.injEq,Prod.mk.injEq]at h;rw[<-h.1];exact hn
  ·simp only[Option.some.injEq,Prod.mk.injEq]at h;rw[<-h.1];exact hn
  ·simp only[Option.some.injEq,Prod.mk.injEq]at h;rw[<-h.1];exact hn
  ·split at h
   ·cases h
   ·simp only[Option.some.injEq,Prod.mk.injEq]at h;rw[<-h.1];exact(hb.drop _).take _
theorem sE{M:Int}{g:jG}{lw:Int}(hg:0<=g.c4):∀(n:Nat) {c:gZ} {b:List Int},ke M c->lr g c->iF b->lG M g lw c (iR g lw c b n).kH
 |0,c,b,h1,h2,hb=>lG.refl h1 h2
 |n+1,c,b,h1,h2,hb=>by
  unfold iR
  split
  ·exact lG.refl h1 h2
  ·next js=>
   split
   ·exact lG.refl h1 h2
   ·next f size hf=>
    split
    ·exact lG.refl h1 h2
    ·split
     ·exact lG.refl h1 h2
     ·have k:=zm (lw:=lw) h1 h2 (Ar hb (List.length_pos_iff.2 js) hf).1 (zq hb hf) hg;exact k.trans (sE hg n k.ok k.inv (hb.drop size))
def nF(s:ik)(addr gL num size:Int)(b:List Int)(N:Nat)(gN:List (Int×List Int)):ik×List (Int×List Int):=
 match kR s.gG gL with
 |none=>(s,gN)
 |some k=>match s.gG[k]? with
  |none=>(s,gN)
  |some c=>
   if c.addr≠addr then(s,gN) else
   match mL {c with jc:=c.jc+size} num with
   |none=>({s with gG:=s.gG.set k {c with jc:=c.jc+size}},gN)
   |some c2=>ji {s with gG:=s.gG.set k {c2 with heard:=s.now}} k b gN N
def jl(s:ik)(addr:Int)(b:List Int):ik×List (Int×List Int):=
 if ¬(0<=addr/\addr<=255) then(s,[]) else
 match nW b with
 |none=>(s,[])
 |some d=>if d.kind=1 then ox s addr d.gL b.length d.tok d.mz b.length [] else nF s addr d.gL d.num b.length d.mz b.length []
structure iQ(M L:Int)(s:ik):Prop where
 cfg:nx s.c
 now:0<=s.now/\s.now<=1000000000
 BA:(s.gG.length:Int)<=s.c.c0
 nd:(s.gG.map (·.gL)).Nodup
 ok:∀c∈s.gG,ke M c
 inv:∀c∈s.gG,lr s.c c
 waits:∀c∈s.gG,0<=c.waits/\c.waits<=s.last/\(c.gT=false->c.waits=0)
 last:0<=s.last/\s.last<=L
theorem ke.mono(h:ke M c)(hm:M<=M'):ke M' c:=⟨h.gL,h.addr,by have:=h.jc;omega,by have:=h.jb;omega,h.heard,h.runs,h.gM,h.p_,h.str⟩
theorem iQ.mono{L':Int}(h:iQ M L s)(hm:M<=M')(hl:L<=L'):iQ M' L' s:=
 ⟨h.cfg,h.now,h.BA,h.nd,fun c hc=>(h.ok c hc).mono hm,h.inv,h.waits,by have:=h.last;omega⟩
theorem iQ.set(h:iQ M L s)(hi:s.gG[i]? =some c)(jR:ke M c')(m_:lr s.c c')(kb:c'.gL=c.gL)(hw:0<=c'.waits/\c'.waits<=last/\(c'.gT=false->c'.waits=0))(hl:s.last<=last)(hL:last<=L):
  iQ M L {s with gG:=s.gG.set i c',last:=last}:=by
 have hm:∀d∈s.gG.set i c',d∈s.gG\/d=c':=fun d hd=>da hd
 refine⟨h.cfg,h.now,by simp only[List.length_set];exact h.BA,by simp only;rw[mn hi kb];exact h.nd,fun d hd=>?_,fun d hd=>?_,fun d hd=>?_,by have:=h.last;simp only;omega⟩
 ·rcases hm d hd with hd|rfl
  ·exact h.ok d hd
  ·exact jR
 ·rcases hm d hd with hd|rfl
  ·exact h.inv d hd
  ·exact m_
 ·rcases hm d hd with hd|rfl
  ·have:=h.waits d hd;exact⟨this.1,by simp only;omega,this.2.2⟩
  ·exact hw
theorem iQ.sub(h:iQ M L s)(hs:l.Sublist s.gG)(hl:s.last<=last)(hL:last<=L)(hn:0<=now/\now<=1000000000):iQ M L {s with gG:=l,last:=last,now:=now}:=by
 refine⟨h.cfg,hn,?_,(hs.map _).nodup h.nd,fun d hd=>h.ok d (hs.subset hd),fun d hd=>h.inv d (hs.subset hd),fun d hd=>?_,by have:=h.last;simp only;omega⟩
 ·have:=hs.length_le;have:=h.BA;simp only;omega
 ·have:=h.waits d (hs.subset hd);exact⟨this.1,by simp only;omega,this.2.2⟩
theorem sG:(kR l gL=none/\gL∉l.map (·.gL))\/∃k c,kR l gL=some k/\l[k]? =some c/\c.gL=gL:=by
 unfold kR
 cases h:l.findIdx? fun c=>c.gL==gL with
 |none=>
  left
  refine⟨rfl,fun hm=>?_⟩;rw[List.findIdx?_eq_none_iff]at h;obtain⟨c,hc,e⟩:=cZ.1 hm;have:=h c hc;simp[e]at this
 |some k=>
  right
  obtain⟨hk,h1,_⟩:=List.findIdx?_eq_some_iff_getElem.1 h;exact⟨k,l[k],rfl,am hk,by simpa using h1⟩
theorem RH(n:Nat)(h:iQ M L s)(hi:s.gG[i]? =some c)(hb:iF b):iQ M (L+1) (rj s i c (iR s.c (s.last+1) c b n)):=by
 have hc:=bT hi;have k:=sE (M:=M) (lw:=s.last+1) (by have:=h.cfg.c4;omega) n (h.ok c hc) (h.inv c hc) hb;have KP:=h.last;have hw:=h.waits c hc;generalize hr:iR s.c (s.last+1) c b n=r at k⊢;have hl:s.last<=(if r.kH.gT=true/\c.gT=false then s.last+1 else s.last)/\(if r.kH.gT=true/\c.gT=false then s.last+1 else s.last)<=L+1:=by split<;>omega
 unfold rj
 cases hg:r.gone with
 |true=>
  simp only[if_true];exact iQ.sub (now:=s.now) (h.mono (cP _) (by omega)) (List.eraseIdx_sublist _ _) hl.1 hl.2 h.now
 |false=>
  simp only[de,if_false];refine iQ.set (h.mono (cP _) (by omega)) hi k.ok k.inv k.gL ?_ hl.1 hl.2
  cases hp:c.gT with
  |true=>
   have h1:=k.stay hp;rw[k.same (by rw[h1,hp])];exact⟨hw.1,by simp;omega,fun h=>by rw[h1]at h;cases h⟩
  |false=>
   cases Cc:r.kH.gT with
   |true=>
    rw[k.new hp Cc];exact⟨by omega,by simp,fun h=>by cases h⟩
   |false=>
    rw[k.same (by rw[Cc,hp])];exact⟨hw.1,by simp;omega,fun _=>hw.2.2 hp⟩
theorem yk(n:Nat)(h:iQ M L s)(hi:s.gG[i]? =some c)(hb:iF b):iQ M (L+1) (ji s i b gN n).1:=by
 rw[qC n b gN hi];exact RH n h hi hb
theorem qk(n:Int):(jn n).length<=4:=by
 unfold jn
 repeat' split
 all_goals simp
theorem N2{K:Int}{f:List Int}(h:ke M c)(hf:(f.length:Int)+5<=K):ke (M+K) (jK c f):=by
 have h1:=qk c.gL;have hl:((kK c.gL f).length:Int)<=f.length+5:=by simp[kK];omega
 unfold jK
 split
 ·have:=h.jc;have:=h.jb;exact⟨h.gL,h.addr,by simp only;omega,by simp only;omega,h.heard,h.runs,h.gM,h.p_,h.str⟩
 ·exact h.mono (by omega)
theorem JV{f:List Int}(h:lr g c):lr g (jK c f):=by
 unfold jK
 split
 ·exact⟨h.str,h.high,h.runs⟩
 ·exact h
theorem qH(c:gZ)(f:List Int):(jK c f).gL=c.gL/\(jK c f).waits=c.waits/\(jK c f).gT=c.gT/\(jK c f).addr=c.addr:=by
 unfold jK
 split<;>exact⟨rfl,rfl,rfl,rfl⟩
theorem Br(g:jG)(c:gZ):((ir g c).length:Int)<=17:=by
 have h1:=qk (kc g.c9 c.addr c.gL);have h2:=qk g.c1;have h3:=qk g.c2;have h4:=qk g.c3;simp only[ir,List.length_append,List.length_cons,List.length_nil];omega
theorem Ov{k:Nat}(h:iQ M L s)(hk:s.gG[k]? =some c)(hs:0<=size):iQ (M+size+100) L (mh s k c addr size gN).1:=by
 have hc:=bT hk;have jR:=h.ok c hc;have hwa:=h.waits c hc;have KP:=h.last;have hg:=jR.jc;have T_:=jR.jb;have h1:ke (M+size) {c with jc:=c.jc+size,heard:=s.now}:=⟨jR.gL,jR.addr,by simp only;omega,by simp only;omega,h.now,jR.runs,jR.gM,jR.p_,jR.str⟩;have h2:lr s.c {c with jc:=c.jc+size,heard:=s.now}:=⟨(h.inv c hc).str,(h.inv c hc).high,(h.inv c hc).runs⟩;unfold mh
 split
 ·exact h.mono (by omega) (cP _)
 ·simp only
  split
  ·exact iQ.set (h.mono (by omega) (cP _)) hk (h1.mono (by omega)) h2 rfl hwa (cP _) KP.2
  ·have hn:=qH {c with jc:=c.jc+size,heard:=s.now} (ir s.c {c with jc:=c.jc+size,heard:=s.now});refine iQ.set (h.mono (by omega) (cP _)) hk (N2 (K:=100) h1 (by have:=Br s.c {c with jc:=c.jc+size,heard:=s.now};omega)) (JV h2) hn.1 ?_ (cP _) KP.2;rw[hn.2.1,hn.2.2.1];exact hwa
theorem M3(hg:0<=iI)(hp:0<=jm/\jm<=1073741823):np iI (jI jm):=
 ⟨by simp[jI],fun b hb=>by simp[jI]at hb,by simp[jI],fun h=>by simp[jI]at h,by simp[jI],fun h=>by simp[jI]at h,fun h=>by simp[jI]at h,by simp[jI,l_];exact hg,by simp[jI];exact hp⟩
theorem Qr(hp:0<=jm/\jm<=1073741823):xN (jI jm):=
 ⟨by simp[jI],by simp[jI],by simp[jI],by simp[jI];exact hp,by simp[jI]⟩
theorem Fr(jm:Int):∀n,jO (List.replicate n (jI jm))=0
 |0=>rfl
 |n+1=>by
  have:=Fr jm n;simp[jO,List.replicate_succ,jI]at this⊢
theorem VB{ok:Bool}(h:nx s.c)(hn:0<=s.now/\s.now<=1000000000)(hc:0<=gL/\gL<=1073741823)(ha:0<=addr/\addr<256)(hs:0<=size/\size<=M):ke M (jL s gL addr size ok)/\lr s.c (jL s gL addr size ok):=by
 have h1:=h.c1;have h2:=h.c2;have h3:=h.c3;have h4:=h.c4;have xG:(jL s gL addr size ok).gJ=List.replicate s.c.c3.toNat (jI s.c.c2):=by simp[jL,rk]
 have hm:∀x∈(jL s gL addr size ok).gJ,x=jI s.c.c2:=by
  intro x hx;rw[xG]at hx;exact(List.mem_replicate.1 hx).2
 have hl:(jL s gL addr size ok).gJ.length=s.c.c3.toNat:=by rw[xG];simp
 refine⟨⟨hc,ha,hs,by simp[jL,my];omega,hn,by simp[jL,my],by simp[jL,my];omega,by rw[hl];omega,fun x hx=>?_⟩,⟨fun x hx=>?_,?_,trivial⟩⟩
 ·rw[hm x hx];exact Qr (by omega)
 ·rw[hm x hx];exact M3 (by omega) (by omega)
 ·rw[xG,Fr];simp[jL,my];omega
theorem iQ.snoc(h:iQ M L s)(jR:ke M c)(m_:lr s.c c)(kb:c.gL∉s.gG.map (·.gL))(hw:0<=c.waits/\c.waits<=last/\(c.gT=false->c.waits=0))(hl:s.last<=last)(hL:last<=L)(hf:(s.gG.length:Int)<s.c.c0):
  iQ M L {s with gG:=s.gG++[c],last:=last}:=by
 have hm:∀d∈s.gG++[c],d∈s.gG\/d=c:=fun d hd=>by simpa using hd
 refine⟨h.cfg,h.now,by simp;omega,?_,fun d hd=>?_,fun d hd=>?_,fun d hd=>?_,by have:=h.last;simp only;omega⟩
 ·simp only[List.map_append,bD,List.map_nil];rw[List.nodup_append];refine⟨h.nd,by simp,fun a ha b hb e=>kb ?_⟩;rw[<-List.mem_singleton.1 hb,<-e];exact ha
 ·rcases hm d hd with hd|rfl
  ·exact h.ok d hd
  ·exact jR
 ·rcases hm d hd with hd|rfl
  ·exact h.inv d hd
  ·exact m_
 ·rcases hm d hd with hd|rfl
  ·have:=h.waits d hd;exact⟨this.1,by simp only;omega,this.2.2⟩
  ·exact hw
theorem og{α:Type}(l:List α)(a b:α):(l++[a]).set l.length b=l++[b]:=by simp
theorem oJ{α:Type}(l:List α)(a:α):(l++[a])[l.length]? =some a:=by simp
theorem AK(ok:Bool)(h:iQ M L s)(hc:0<=gL/\gL<=1073741823)(ha:0<=addr/\addr<256)(hs:0<=size)(hM:0<=M):
  ke (M+size+100) (jK (jL s gL addr size ok) (ir s.c (jL s gL addr size ok)))/\lr s.c (jK (jL s gL addr size ok) (ir s.c (jL s gL addr size ok))):=by
 have AB:=VB (M:=M+size) (ok:=ok) h.cfg h.now hc ha ⟨hs,by omega⟩;refine⟨N2 (K:=100) AB.1 ?_,JV AB.2⟩;have:=Br s.c (jL s gL addr size ok);omega
theorem O_{tok:List Int}(h:iQ M L s)(hc:0<=gL/\gL<=1073741823)(ha:0<=addr/\addr<256)(hs:0<=size)(hM:0<=M)(hb:iF b):iQ (M+size+100) (L+2) (ox s addr gL size tok b N gN).1:=by
 have h0:iQ (M+size+100) (L+2) s:=h.mono (by omega) (by omega);have KP:=h.last;unfold ox;rcases sG (l:=s.gG) (gL:=gL) with⟨e,ka⟩|⟨k,c,e,hk,kb⟩
 ·rw[e];simp only
  have pw:¬nR s=true->(s.gG.length:Int)<s.c.c0:=by
   intro hf;unfold nR at hf;simp at hf;omega
  split
  ·split
   ·split
    ·exact h0
    ·next hf=>
     obtain⟨k1,k2⟩:=AK true h hc ha hs hM;have hn:=qH (jL s gL addr size true) (ir s.c (jL s gL addr size true));unfold uJ;simp only;refine iQ.mono (M:=M+size+100) (L:=L+1+1) (yk (c:=Bi (s.last+1) (jK (jL s gL addr size true) (ir s.c (jL s gL addr size true)))) N ?_ ?_ hb) (cP _) (by omega)
     ·unfold wV;simp only;rw[og,og];refine iQ.snoc (h.mono (by omega) (by omega)) ?_ ?_ (by rw[show(Bi (s.last+1) (jK (jL s gL addr size true) (ir s.c (jL s gL addr size true)))).gL=gL from hn.1];exact ka) ⟨by simp only[Bi];omega,by simp[Bi],fun h=>by cases h⟩ (by omega) (by omega) (pw hf)
      ·exact⟨k1.gL,k1.addr,k1.jc,k1.jb,k1.heard,k1.runs,k1.gM,k1.p_,k1.str⟩
      ·exact⟨k2.str,k2.high,k2.runs⟩
     ·unfold wV;simp only;rw[og,og,oJ]
   ·exact h0
  ·split
   ·exact h0
   ·split
    ·exact h0
    ·next hf=>
     obtain⟨k1,k2⟩:=AK false h hc ha hs hM;have hn:=qH (jL s gL addr size false) (ir s.c (jL s gL addr size false));unfold uK;simp only;refine iQ.mono (M:=M+size+100) (L:=L+1+1) (yk (c:=jK (jL s gL addr size false) (ir s.c (jL s gL addr size false))) N ?_ ?_ hb) (cP _) (by omega)
     ·rw[og];refine iQ.snoc (last:=s.last) (h.mono (by omega) (by omega)) k1 k2 (by rw[hn.1];exact ka) ?_ (cP _) (by omega) (pw hf);rw[hn.2.1,hn.2.2.1];exact⟨by simp[jL,my],by simp[jL,my];omega,fun _=>rfl⟩
     ·simp only;rw[og,oJ]
 ·rw[e];simp only;rw[hk];simp only;exact(Ov h hk hs).mono (by omega) (by omega)
theorem wu{n:Int}(h:ke M c)(hi:lr g c)(hn:0<=n/\n<=1073741823)(hc:mL c n=some c'):ke M c'/\lr g c'/\c'.gL=c.gL/\c'.waits=c.waits/\c'.gT=c.gT/\c'.addr=c.addr/\c'.jc=c.jc:=by
 unfold mL qf at hc
 split at hc
 ·simp at hc
 ·simp only[Option.map_map,Option.map_eq_some_iff]at hc;obtain⟨st,e1,e2⟩:=hc
  have GF:¬B5 c.runs n:=fun nz=>by
   rw[(ve hi.runs n).1 nz]at e1
   cases e1
  obtain⟨Zi,qr,e3,e4,Sz,_,pA,i8,nz⟩:=(ve hi.runs n).2 GF;rw[e1]at e3
  cases e3
  have pZ:=h.runs
  have zE:∀r∈qr,0<=r.1/\r.1<=r.2/\r.2<=1073741823:=by
   intro r hr;have rG:=vC Sz hr
   have hb:∀p,B5 qr p->0<=p/\p<=1073741823:=by
    intro p hp;rcases(nz p).1 hp with rfl|⟨q,hq,h1,h2⟩
    ·exact hn
    ·have:=pZ.2 q hq;omega
   have h1:=hb r.1 ⟨r,hr,cP _,rG⟩;have h2:=hb r.2 ⟨r,hr,rG,cP _⟩;omega
  simp only[Function.comp]at e2;rw[e4]at e2
  split at e2
  ·subst e2;refine⟨⟨h.gL,h.addr,h.jc,h.jb,h.heard,⟨?_,fun r hr=>zE r (List.mem_of_mem_drop hr)⟩,h.gM,h.p_,h.str⟩,⟨hi.str,hi.high,?_⟩,rfl,rfl,rfl,rfl,rfl⟩
   ·simp;omega
   ·have hp:=Sz;rw[<-dg 1 qr,qJ]at hp;exact hp.2.1
  ·next uV=>
   subst e2;exact⟨⟨h.gL,h.addr,h.jc,h.jb,h.heard,⟨by simp only;omega,zE⟩,h.gM,h.p_,h.str⟩,⟨hi.str,hi.high,Sz⟩,rfl,rfl,rfl,rfl,rfl⟩
theorem RJ{num:Int}(h:iQ M L s)(rr:0<=num/\num<=1073741823)(hs:0<=size)(hb:iF b):iQ (M+size+100) (L+2) (nF s addr gL num size b N gN).1:=by
 have h0:iQ (M+size+100) (L+2) s:=h.mono (by omega) (by omega);have KP:=h.last;unfold nF;rcases sG (l:=s.gG) (gL:=gL) with⟨e,_⟩|⟨k,c,e,hk,_⟩
 ·rw[e];exact h0
 ·rw[e];simp only;rw[hk];simp only;have hc:=bT hk;have jR:=h.ok c hc;have hwa:=h.waits c hc;have hg:=jR.jc;have T_:=jR.jb;have h1:ke (M+size+100) {c with jc:=c.jc+size}:=⟨jR.gL,jR.addr,by simp only;omega,by simp only;omega,jR.heard,jR.runs,jR.gM,jR.p_,jR.str⟩;have h2:lr s.c {c with jc:=c.jc+size}:=⟨(h.inv c hc).str,(h.inv c hc).high,(h.inv c hc).runs⟩
  split
  ·exact h0
  ·split
   ·exact iQ.set h0 hk h1 h2 rfl hwa (cP _) (by omega)
   ·next c2 nr=>
    obtain⟨q1,q2,q3,q4,q5,_,_⟩:=wu h1 h2 rr nr;refine(yk (L:=L+1) N ?_ (getElem?_set_at hk) hb).mono (cP _) (by omega);refine iQ.set (h.mono (by omega) (by omega)) hk ?_ ?_ q3 ?_ (cP _) (by omega)
    ·exact⟨q1.gL,q1.addr,q1.jc,q1.jb,h.now,q1.runs,q1.gM,q1.p_,q1.str⟩
    ·exact⟨q2.str,q2.high,q2.runs⟩
    ·simp only;rw[q4,q5];exact hwa
theorem E'(hb:iF b){d:EX}(h:nW b=some d):(d.kind=1\/d.kind=2)/\(0<=d.gL/\d.gL<=1073741823)/\(0<=d.num/\d.num<=1073741823)/\iF d.tok/\iF d.mz/\d.tok.length<=b.length/\d.mz.length<=b.length:=by
 have hv:∀l,iF l->0<=ly l/\ly l<=1073741823:=fun l hl=>by have:=qD hl;omega
 unfold nW at h;simp only at h
 split at h
 ·cases h
 ·split at h
  ·cases h
  ·split at h
   ·cases h
   ·have v1:=hv _ (hb.drop 1);have v2:=hv _ ((hb.drop 1).drop (kz (b.drop 1)).toNat);have b3:=((hb.drop 1).drop (kz (b.drop 1)).toNat).drop (kz ((b.drop 1).drop (kz (b.drop 1)).toNat)).toNat;have l3:(((b.drop 1).drop (kz (b.drop 1)).toNat).drop (kz ((b.drop 1).drop (kz (b.drop 1)).toNat)).toNat).length<=b.length:=by simp only[List.length_drop];omega
    generalize ((b.drop 1).drop (kz (b.drop 1)).toNat).drop (kz ((b.drop 1).drop (kz (b.drop 1)).toNat)).toNat=r3 at *
    split at h
    ·split at h
     ·cases h
     ·simp only[Option.some.injEq]at h;subst h;exact⟨Or.inl rfl,v1,by simp,b3.take _,b3.drop _,by simp only[List.length_take];omega,by simp only[List.length_drop];omega⟩
    ·split at h
     ·simp only[Option.some.injEq]at h;subst h;exact⟨Or.inr rfl,v1,v2,fun x hx=>(by cases hx),b3,by simp,l3⟩
     ·cases h
theorem Kf(h:iQ M L s)(hM:0<=M)(hb:iF b):iQ (M+b.length+100) (L+2) (jl s addr b).1:=by
 have h0:iQ (M+b.length+100) (L+2) s:=h.mono (by omega) (by omega);unfold jl
 split
 ·exact h0
 ·next ha=>
  split
  ·exact h0
  ·next d hd=>
   obtain⟨_,k2,k3,_,k5,_,_⟩:=E' hb hd
   split
   ·exact O_ h k2 (by omega) (by omega) hM k5
   ·exact RJ h k3 (by omega) k5
theorem OG(h:iQ M L s)(hn:0<=now/\now<=1000000000):iQ M L (Ao s now):=
 iQ.sub h (List.filter_sublist) (cP _) h.last.2 hn
theorem Lc(h:iQ M L s):iQ M L (lR s).2.2:=by
 unfold lR
 split
 ·exact h
 ·split
  ·exact h
  ·next j _ c hc=>
   have hm:=bT hc;have jR:=h.ok c hm;have hi:=h.inv c hm;exact iQ.set h hc ⟨jR.gL,jR.addr,jR.jc,jR.jb,jR.heard,jR.runs,jR.gM,jR.p_,jR.str⟩ ⟨hi.str,hi.high,hi.runs⟩ rfl ⟨cP _,h.last.1,fun _=>rfl⟩ (cP _) h.last.2
theorem Vz(h:nx g):iQ 0 0 (oU g):=
 ⟨h,by simp[oU],by simp[oU];have:=h.c0;omega,by simp[oU],fun c hc=>(by simp[oU]at hc),fun c hc=>(by simp[oU]at hc),fun c hc=>(by simp[oU]at hc),by simp[oU]⟩
def kU(l:List jf):Int:=((l.filter fun x=>x.done).map fun x=>x.final).sum
def lP{α:Type}(f:Int->Int)(l:List (Int×α)):Int:=(l.map fun p=>f p.1).sum
def IF(h:jf->Int)(l:List jf)(id:Int):Int:=((l[id.toNat]?).map h).getD 0
theorem DB{α:Type}(p:α->Bool)(f:α->Int)(l:List α):((l.filter p).map f).sum=(l.map fun i=>if p i then f i else 0).sum:=by
 induction l with
 |nil=>rfl
 |cons a t ih=>
  by_cases h:p a=true
  ·simp[h,ih]
  ·simp[h,ih]
theorem VK{α:Type}(f g:α->Int)(l:List α):(l.map fun i=>f i+g i).sum=(l.map f).sum+(l.map g).sum:=by
 induction l with
 |nil=>rfl
 |cons a t ih=>simp[ih];omega
theorem AH{α:Type}(h:α->Int)(l:List α):l.map h=(dh l.length).map fun i=>((l[i]?).map h).getD 0:=by
 apply List.ext_getElem
 ·simp
 ·intro i h1 h2;simp at h1;simp[am h1]
theorem S9{a:List Int}(h:a.Perm b):a.sum=b.sum:=by
 induction h with
 |nil=>rfl
 |cons x _ ih=>simp[ih]
 |swap x y l=>simp;omega
 |trans _ _ h1 h2=>exact h1.trans h2
theorem Ku{ks:List Nat}{n:Nat}(f:Nat->Int)(hn:ks.Nodup)(hk:∀k∈ks,k<n):(ks.map f).sum=((dh n).map fun i=>if i∈ks then f i else 0).sum:=by
 have hp:((dh n).filter fun i=>decide (i∈ks)).Perm ks:=by
  rw[List.perm_ext_iff_of_nodup (List.nodup_range.filter _) hn];intro a;simp only[c_,List.mem_range,decide_eq_true_eq];exact⟨fun h=>h.2,fun h=>⟨hk a h,h⟩⟩
 have h1:=S9 (hp.map f);rw[<-h1,DB]
 congr 1
 refine List.map_congr_left fun i _=>?_
 by_cases h:i∈ks<;>simp[h]
structure Om{α:Type}(jm:Int)(l:List jf)(sl:List (Int×α)):Prop where
 nd:(sl.map (·.1)).Nodup
 str:∀p∈sl,0<=p.1/\∃x,l[p.1.toNat]? =some x/\x.done=false
 non:∀(i:Nat) x,l[i]? =some x->x.done=false->(i:Int)∉sl.map (·.1)->x=jI jm
theorem LU{α:Type}{l:List jf}{sl:List (Int×α)}(hi:∀x∈l,np iI x)(h:Om jm l sl):jO l=kU l+lP (IF (·.gR) l) sl:=by
 have QS:(sl.map fun p=>p.1.toNat).Nodup:=by
  have:(sl.map fun p=>p.1.toNat)=(sl.map (·.1)).map Int.toNat:=by rw[cW];rfl
  rw[this];have hn:=h.nd
  have pA:∀x∈sl.map (·.1),0<=x:=by
   intro x hx;obtain⟨p,hp,rfl⟩:=cZ.1 hx;exact(h.str p hp).1
  generalize sl.map (·.1)=ids at hn pA
  induction ids with
  |nil=>simp
  |cons a t ih=>
   rw[bB]at hn;simp only[bD,bB];refine⟨fun hm=>?_,ih hn.2 (fun x hx=>pA x (by simp[hx]))⟩;obtain⟨b,hb,e⟩:=cZ.1 hm;have h1:=pA a (by simp);have h2:=pA b (by simp[hb]);have:a=b:=by omega
   subst this;exact hn.1 hb
 have jp:∀k∈(sl.map fun p=>p.1.toNat),k<l.length:=by
  intro k hk;obtain⟨p,hp,rfl⟩:=cZ.1 hk;obtain⟨_,x,hx,_⟩:=h.str p hp;exact(bm.1 hx).1
 have e1:lP (IF (·.gR) l) sl=((sl.map fun p=>p.1.toNat).map fun i=>((l[i]?).map (·.gR)).getD 0).sum:=by
  unfold lP IF;rw[cW]
  rfl
 have e2:kU l=((dh l.length).map fun i=>((l[i]?).map fun x=>if x.done then x.final else 0).getD 0).sum:=by
  unfold kU;rw[DB,AH]
 have e3:jO l=((dh l.length).map fun i=>((l[i]?).map (·.gR)).getD 0).sum:=by
  unfold jO;rw[AH]
 rw[e1,e2,e3,Ku _ QS jp,<-VK]
 congr 1
 refine List.map_congr_left fun i ZX=>?_
 have yt:i<l.length:=List.mem_range.1 ZX;have hx:l[i]? =some l[i]:=am yt;have nz:=hi _ (df yt);generalize l[i]=x at hx nz;rw[hx];simp only[Option.map_some,Option.getD_some]
 have kx:i∈(sl.map fun p=>p.1.toNat)↔(i:Int)∈sl.map (·.1):=by
  constructor
  ·intro hm;obtain⟨p,hp,e⟩:=cZ.1 hm;have:=(h.str p hp).1;exact cZ.2 ⟨p,hp,by omega⟩
  ·intro hm;obtain⟨p,hp,e⟩:=cZ.1 hm;exact cZ.2 ⟨p,hp,by omega⟩
 cases hd:x.done with
 |true=>
  have NH:=nz.dn hd;have lI:=nz.fin NH.2.1
  have Z0:i∉(sl.map fun p=>p.1.toNat):=by
   intro hm;obtain⟨p,hp,e⟩:=cZ.1 hm;obtain⟨_,y,hy,WU⟩:=h.str p hp;rw[e,hx]at hy;simp only[Option.some.injEq]at hy;subst hy;rw[hd]at WU
   cases WU
  simp[Z0,lI]
 |false=>
  by_cases hk:i∈(sl.map fun p=>p.1.toNat)
  ·simp[hk]
  ·have:=h.non i x hx hd (fun hm=>hk (kx.2 hm));subst this;simp[hk,jI]
end Go.Proofs.YthmdjhlhodpbhaaGreatDoor
