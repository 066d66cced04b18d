import Derived.Test.YthmdjhlhodpbhaaGreatDoorM05
set_option maxHeartbeats 16000000
set_option maxRecDepth 8000
set_option linter.all false
namespace Go.Proofs.YthmdjhlhodpbhaaGreatDoor
open Go.RowKit
open _root_.Int renaming le_refl → de
open _root_.List renaming getElem?_eq_getElem → ap, mem_map → df, mem_of_getElem? → bS, mem_or_eq_of_mem_set → dh, getElem?_eq_some_iff → bo, mem_filter → di, getElem?_cons_zero → ce, take_append_drop → dj, map_cons → bz, nodup_cons → dk, replicate → aT, range → dp
open _root_.Bool renaming false_eq_true → dg
open _root_.Nat renaming lt_or_ge → ay
open _root_.Go.Proofs.Tryz
open _root_.Go.Proofs.Tryz renaming prog → ab
attribute [local simp] CV CI Bw mc lq io
variable {c g M l lw u last L x nH M':Int}{j w5:fV}{k b:List Int}{i a:Nat}{p:gg}{y4:List fV}{P:jJ}{s:g_}{t:List (Int×List Int)}{y0:List gs}{N y:gs}{ok:Bool}
def kM(x:gs):Int:=if x.done&&x.reset then x.final else x.read
def gX(l:List gs):Int:=(l.map kM).sum
def OA(g:g_)(c:fV):Prop:=gX c.fM+g.c1/2<=c.fS\/1073741823<=c.fS
structure iV(g:g_)(c:fV):Prop where
 str:∀x∈c.fM,iA g.c4 x
 high:im c.fM<=c.fS
 runs:Bq c.runs
 EX:OA g c
theorem En:∀{i:Nat} {x y:gs},y0[i]? =some x->gX (y0.set i y)=gX y0-kM x+kM y:=by
 induction y0 with
 |nil=>grind
 |cons c d b=>
  intro i x y a;cases i with
  |zero=>simp only[ce,Option.some.injEq]at a;subst a;simp[gX];omega
  |succ i=>have:=b (i:=i) (x:=x) (y:=y) (by simpa using a);simp[gX]at this⊢;omega
theorem wK{nH:Int}:∀n,gX (aT n (gP nH))=0
 |0=>rfl
 |n+1=>by have:=wK (nH:=nH) n;simp[gX,List.replicate_succ,kM,gP]at this⊢
theorem uW{r:gs}(b:r.done=false):kM (jw P N r)=r.read:=by
 have a:(jw P N r).done=false/\(jw P N r).read=r.read:=by unfold jw;grind
 simp[kM,a.1,a.2]
theorem yN:kM (gt c g l P N).2=kM N:=by
 cases a:N.done with
 |true=>unfold gt;grind
 |false=>
  have d:kM N=N.read:=by simp[kM,a]
  have b:(ij c N P.iP P.bytes).2.done=false/\(ij c N P.iP P.bytes).2.read=N.read:=by unfold ij;grind
  unfold gt;simp only[a,dg,if_false];split
  ·rfl
  ·split
   ·rfl
   ·split
    ·split
     ·rfl
     ·rw[uW b.1,b.2,d]
    ·rw[uW a,d]
theorem Aw:∀{i:Nat} {x y:gs},y0[i]? =some x->im (y0.set i y)=im y0-x.fW+y.fW:=by
 induction y0 with
 |nil=>grind
 |cons c d b=>
  intro i x y a;cases i with
  |zero=>simp only[ce,Option.some.injEq]at a;subst a;simp[im];omega
  |succ i=>have:=b (i:=i) (x:=x) (y:=y) (by simpa using a);simp[im]at this⊢;omega
theorem Gh(a:jJ)(b r:gs):(jw a b r).fW=b.fW+jD b (a.iP+a.bytes.length):=by unfold jw;grind
theorem Cx(b:l<=g):l-N.fW+(gt c g l P N).2.fW<=g:=by
 unfold gt;simp only;have d:∀r:gs,¬kz N (P.iP+P.bytes.length) g l=true->l-N.fW+(jw P N r).fW<=g:=by intro r a;rw[Gh];unfold kz at a;grind
 grind
theorem Dm(a:iV s j)(e:gG P.bytes)(g:0<=P.iP)(f:0<=s.c4):iV s (gO s.c4 P j).2:=by
 unfold gO;split
 ·exact a
 ·next h b=>
  refine⟨fun k c=>?_,?_,a.runs,?_⟩
  ·rcases dh c with c|rfl
   ·exact a.str k c
   ·exact EF e g f (a.str h (bS b))
  ·simp only;rw[Aw b];exact Cx a.high
  ·unfold OA;simp only;rw[En b,yN];rcases a.EX with d|d
   ·omega
   ·exact Or.inr d
def ik(g:g_)(lw:Int)(c:fV)(f:jJ):Int×fV:=
 if f.type=0\/f.type=1 then(0,c)
 else if f.type=7 then(if f.code≠i_ g.c9 c.addr c.fZ then(10,c) else if c.fY then(0,c) else(0,{c with fY:=true,waits:=lw}))
 else gO g.c4 f c
structure Bj where
 iq:fV
 closed:Option Int
 gone:Bool
def gQ(g:g_)(lw:Int)(c:fV)(b:List Int):Nat->Bj
 |0=>⟨c,none,false⟩
 |n+1=>if b=[] then⟨c,none,false⟩ else
  match gW b with
  |none=>⟨c,some 7,true⟩
  |some (f,size)=>
   if f.type=6 then⟨c,none,true⟩
   else if(ik g lw c f).1≠0 then⟨c,some (ik g lw c f).1,true⟩
   else gQ g lw (ik g lw c f).2 (b.drop size) n
def kT(r:Bj)(ii:List (Int×List Int)):List (Int×List Int):=match r.closed with
 |none=>ii
 |some k=>ig r.iq ([19]++gE k) ii
def oq(s:gg)(i:Nat)(c:fV)(r:Bj):gg:=
 {s with fN:=if r.gone then s.fN.eraseIdx i else s.fN.set i r.iq,last:=if r.iq.fY=true/\c.fY=false then s.last+1 else s.last}
theorem pm(a:j.fY=true):(ik s c j P).2.fY=true:=by
 unfold ik;split
 ·exact a
 ·split
  ·grind
  ·unfold gO;split<;>exact a
theorem Fu(a:j.fY=true):ik s c j P=ik s g j P:=by unfold ik;simp[a]
theorem qz{g:g_}{lw:Int}:∀(n:Nat) {c:fV} {b:List Int},c.fY=true->(gQ g lw c b n).iq.fY=true
 |0,c,b,h=>h
 |n+1,c,b,h=>by
  unfold gQ;split
  ·exact h
  ·split
   ·exact h
   ·split
    ·exact h
    ·split
     ·exact h
     ·exact qz n (pm h)
theorem uF{g:g_}{lw P':Int}:∀(n:Nat) {c:fV} {b:List Int},c.fY=true->gQ g lw c b n=gQ g P' c b n
 |0,c,b,h=>rfl
 |n+1,c,b,h=>by
  unfold gQ;split
  ·rfl
  ·split
   ·rfl
   ·next f size hf=>
    rw[Fu (c:=lw) (g:=P') h,uF (lw:=lw) (P':=P') n (pm h)]
theorem uH{α:Type}(a:α):∀(l:List α) (i:Nat),(l.set i a).eraseIdx i=l.eraseIdx i
 |[],i=>by simp
 |b::t,0=>by simp
 |b::t,i+1=>by simp[uH a t i]
theorem FC(d:P.type≠6)(hi:p.fN[i]? =some j):
  (iU p i j P).code=(ik p.c (p.last+1) j P).1/\(iU p i j P).gone=false/\((iU p i j P).code=0->(iU p i j P).iN=oq p i j ⟨(ik p.c (p.last+1) j P).2,none,false⟩):=by
 unfold iU ik oq;by_cases a:P.type=0\/P.type=1
 ·rw[if_pos a,if_pos a];refine⟨rfl,rfl,fun _=>?_⟩;simp[ia hi]
 ·rw[if_neg a,if_neg a,if_neg d];by_cases b:P.type=7
  ·rw[if_pos b,if_pos b];unfold mI;by_cases c:P.code≠i_ p.c.c9 j.addr j.fZ
   ·grind
   ·rw[if_neg c,if_neg c];cases e:j.fY with
    |true=>simp[ia hi,e]
    |false=>simp
  ·rw[if_neg b,if_neg b];refine⟨rfl,rfl,fun _=>?_⟩;have c:(gO p.c.c4 P j).2.fY=j.fY:=by unfold gO;split<;>rfl
   grind
theorem nT:∀(n:Nat) {s:gg} {i:Nat} {c:fV} (b:List Int) (ii:List (Int×List Int)),s.fN[i]? =some c->
  hY s i b ii n=(oq s i c (gQ s.c (s.last+1) c b n),kT (gQ s.c (s.last+1) c b n) ii)
 |0,s,i,c,b,ii,hi=>by simp[hY,gQ,oq,kT,ia hi]
 |n+1,s,i,c,b,ii,hi=>by
  have Pu:oq s i c ⟨c,none,false⟩= s:=by simp[oq,ia hi]
  have K2:∀k,oq s i c ⟨c,k,true⟩= {s with fN:=s.fN.eraseIdx i}:=by intro k;simp[oq]
  unfold hY gQ;by_cases hb:b=[]
  ·rw[if_pos hb,if_pos hb,Pu];rfl
  ·rw[if_neg hb,if_neg hb,hi];simp only;cases hf:gW b with
   |none=>simp only;rw[K2];rfl
   |some x=>
    obtain⟨f,size⟩:=x;simp only;by_cases h6:f.type=6
    ·have hd:iU s i c f =⟨0,{s with fN:=s.fN.eraseIdx i},true⟩:=by unfold iU;rw[if_neg (by omega),if_pos h6]
     rw[hd,if_pos h6,K2];rfl
    ·obtain⟨e1,e2,e3⟩:=FC (P:=f) h6 hi;rw[if_neg h6,e1,e2];by_cases hz:(ik s.c (s.last+1) c f).1≠0
     ·rw[if_pos hz,if_pos hz,K2];rfl
     ·rw[if_neg hz,if_neg hz];have S4:(ik s.c (s.last+1) c f).1=0:=Classical.byContradiction hz;have e4:=e3 (e1.trans S4);simp only[dg,if_false];have SF:(iU s i c f).iN.fN[i]? =some (ik s.c (s.last+1) c f).2:=by rw[e4];simp[oq,getElem?_set_at hi]
      rw[nT n _ _ SF];generalize SB:(ik s.c (s.last+1) c f).2=c' at *
      have NP:(iU s i c f).iN.c=s.c:=by rw[e4];rfl
      have NS:(iU s i c f).iN.fN=s.fN.set i c':=by rw[e4];simp[oq]
      have IJ:(iU s i c f).iN.now=s.now:=by rw[e4];rfl
      have wC:(iU s i c f).iN.last=if c'.fY=true/\c.fY=false then s.last+1 else s.last:=by rw[e4];rfl
      have pH:gQ (iU s i c f).iN.c ((iU s i c f).iN.last+1) c' (b.drop size) n=gQ s.c (s.last+1) c' (b.drop size) n:=by
       rw[NP];by_cases hp:c'.fY=true/\c.fY=false
       ·exact uF n hp.1
       ·rw[wC,if_neg hp]
      rw[pH];generalize hr:gQ s.c (s.last+1) c' (b.drop size) n=r;refine Prod.ext ?_ rfl;simp only;have SI:(if r.iq.fY=true/\c'.fY=false then(iU s i c f).iN.last+1 else(iU s i c f).iN.last)=if r.iq.fY=true/\c.fY=false then s.last+1 else s.last:=by
       rw[wC];cases hp:c.fY with
       |true=>
        have h1:c'.fY=true:=by rw[<-SB];exact pm hp
        simp[h1]
       |false=>
        cases hp':c'.fY with
        |true=>
         have h2:r.iq.fY=true:=by rw[<-hr];exact qz n hp'
         simp[h2]
        |false=>simp
      unfold oq;rw[SI,NS];have h3:(if r.gone=true then(s.fN.set i c').eraseIdx i else(s.fN.set i c').set i r.iq)=if r.gone=true then s.fN.eraseIdx i else s.fN.set i r.iq:=by rw[uH,List.set_set]
      rw[h3];generalize hd:(iU s i c f).iN=sd at *
      cases sd;cases s;simp only at NP IJ⊢;subst NP IJ;rfl
def jp(l:List fV):List (Int×Int):=(l.filter fun c=>decide (0<c.waits)).map fun c=>(c.waits,c.fZ)
def kg(l:List fV)(cs:List Int):Prop:=∃ks:List (Int×Int),ks.Perm (jp l)/\ks.Pairwise (fun a b=>a.1<b.1)/\cs=ks.map (·.2)
theorem jS(a b:List fV):jp (a++b)=jp a++jp b:=by simp[jp]
theorem ng:jp (j::y4)=jp [j]++jp y4:=by rw[<-jS];rfl
theorem np:jp [j]=if 0<j.waits then [(j.waits,j.fZ)] else []:=by unfold jp;by_cases a:0<j.waits<;>simp[a]
theorem vi{α:Type}{x2:List α}{x0:α}(a:x2[i]? =some x0):x2=x2.take i++x0::x2.drop (i+1):=by obtain⟨hi,rfl⟩:=bo.1 a;rw[List.getElem_cons_drop,dj]
theorem we{α:Type}{x2:List α}{x0 a:α}(b:x2[i]? =some x0):x2.set i a=x2.take i++a::x2.drop (i+1):=by obtain⟨hi,_⟩:=bo.1 b;rw[List.set_eq_take_append_cons_drop,if_pos hi]
theorem Dw{α:Type}{x2:List α}{x0:α}(_h:x2[i]? =some x0):x2.eraseIdx i=x2.take i++x2.drop (i+1):=List.eraseIdx_eq_take_drop_succ x2 i
theorem JZ(a:y4[i]? =some j)(c:w5.waits=j.waits)(b:w5.fZ=j.fZ):jp (y4.set i w5)=jp y4:=by
 conv=>rhs;rw[vi a]
 rw[we a,jS,jS,ng (j:=w5),ng (j:=j),np,np,c,b]
theorem kg.same{l:List fV}(h:kg l k)(e:jp y4=jp l):kg y4 k:=by obtain⟨d,a,b,c⟩:=h;exact⟨d,by rw[e];exact a,b,c⟩
theorem kg.nil:kg [] []:=⟨[],by simp[jp],List.Pairwise.nil,rfl⟩
theorem LY(d:∀b∈y4,b.waits<=last):∀a∈jp y4,a.1<=last:=by intro a c;simp only[jp,df,di]at c;grind
theorem kg.more{l:List fV}(h:kg l k)(m:(jp y4).Perm (jp l++[(lw,c)]))(s:∀a∈l,a.waits<lw):kg y4 (k++[c]):=by obtain⟨n,b,e,f⟩:=h;refine⟨n++[(lw,c)],(List.Perm.append_right _ b).trans m.symm,?_,by simp[f]⟩;rw[List.pairwise_append];refine⟨e,List.pairwise_singleton _ _,fun d g o j=>?_⟩;rw[List.mem_singleton.1 j];have q:=LY (last:=lw-1) (fun a p=>by grind) d (b.mem_iff.1 g);simp only;omega
theorem y'(a:y4[i]? =some j)(f:j.waits<=0)(e:w5.waits=c)(d:0<c):(jp (y4.set i w5)).Perm (jp y4++[(c,w5.fZ)]):=by
 have b:jp y4=jp (y4.take i)++jp (y4.drop (i+1)):=by
  conv=>lhs;rw[vi a]
  rw[jS,ng,np,if_neg (by omega)];rfl
 rw[we a,jS,ng,np,e,if_pos d,b,List.append_assoc];exact List.Perm.append_left _ (List.perm_append_comm)
theorem Bg{t2:Int×Int}(b:t2∈jp y4):∃a∈y4,a.fZ=t2.2/\a.waits=t2.1/\0<a.waits:=by simp only[jp,df,di]at b;grind
theorem kg.filter{l:List fV}(h:kg l k)(p:Int->Bool)(e:jp y4=(jp l).filter fun a=>p a.2):kg y4 (k.filter p):=by obtain⟨f,b,c,d⟩:=h;refine⟨f.filter fun a=>p a.2,by rw[e];exact b.filter _,c.filter _,?_⟩;rw[d,List.filter_map];rfl
theorem EO(c:(y4.map (·.fZ)).Nodup)(f:y4[i]? =some j):jp (y4.eraseIdx i)=(jp y4).filter fun d=>d.2 != j.fZ:=by
 have k:=vi f;rw[k]at c;simp only[List.map_append,bz]at c;rw[List.nodup_append]at c;obtain⟨_,h,p⟩:=c;rw[dk]at h;have g:∀e:List fV,(∀a∈e,a.fZ≠j.fZ)->(jp e).filter (fun d=>d.2 != j.fZ)=jp e:=by intro e s;refine List.filter_eq_self.2 fun d o=>?_;obtain⟨a,b,q,_⟩:=Bg o;grind
 have m:∀a∈y4.take i,a.fZ≠j.fZ:=fun a b=>p a.fZ (df.2 ⟨a,b,rfl⟩) j.fZ (by simp);have n:∀a∈y4.drop (i+1),a.fZ≠j.fZ:=fun a b l=>h.1 (l▸df.2 ⟨a,b,rfl⟩);rw[Dw f,jS];conv=>rhs;rw[k]
 rw[jS,ng,List.filter_append,List.filter_append,g _ m,g _ n,np];split<;>simp
theorem kg.erase{l:List fV}(h:kg l k)(a:(l.map (·.fZ)).Nodup)(hi:l[i]? =some j):kg (l.eraseIdx i) (k.filter fun b=>b != j.fZ):=
 h.filter _ (EO a hi)
theorem kg.nodup{l:List fV}(h:kg l k)(b:(l.map (·.fZ)).Nodup):k.Nodup:=by obtain⟨c,a,_,rfl⟩:=h;refine((a.map _).nodup_iff).2 ?_;unfold jp;grind
theorem tR{l:List fV}:∀k,(kF l k=none/\∀j,j<k->¬0<km l j)\/∃j,kF l k=some j/\j<k/\0<km l j/\∀i,i<k->0<km l i->km l j<=km l i
 |0=>Or.inl ⟨rfl,fun j h=>absurd h (by omega)⟩
 |k+1=>by
  unfold kF;rcases tR (l:=l) k with⟨e,h⟩|⟨j,e,h1,h2,h3⟩
  ·rw[e];simp only;by_cases hk:0<km l k
   ·right;rw[if_pos hk];refine⟨k,rfl,by omega,hk,fun i hi hw=>?_⟩;rcases ay i k with h4|h4
    ·exact absurd hw (h i h4)
    ·obtain rfl:i=k:=by omega
     omega
   ·left;rw[if_neg hk];refine⟨rfl,fun i hi=>?_⟩;rcases ay i k with h4|h4
    ·exact h i h4
    ·obtain rfl:i=k:=by omega
     exact hk
  ·right;rw[e];simp only;by_cases hk:0<km l k/\km l k<km l j
   ·rw[if_pos hk];refine⟨k,rfl,by omega,hk.1,fun i hi hw=>?_⟩;rcases ay i k with h4|h4
    ·have:=h3 i h4 hw;omega
    ·obtain rfl:i=k:=by omega
     omega
   ·rw[if_neg hk];refine⟨j,rfl,by omega,h2,fun i hi hw=>?_⟩;rcases ay i k with h4|h4
    ·exact h3 i h4 hw
    ·obtain rfl:i=k:=by omega
     omega
theorem n_(b:y4[a]? =some j):km y4 a=j.waits:=by simp[km,b]
theorem Db(c:kg p.fN []):jV p=(0,4,p):=by
 obtain⟨k,d,_,l⟩:=c;have j:k=[]:=by simp_all
 subst j;have m:jp p.fN=[]:=d.symm.eq_nil;have g:kF p.fN p.fN.length=none:=by
  rcases tR p.fN.length with⟨b,_⟩|⟨a,_,e,f,_⟩
  ·exact b
  ·have h:p.fN[a]? =some p.fN[a]:=ap e;rw[n_ h]at f;have:(p.fN[a].waits,p.fN[a].fZ)∈jp p.fN:=by simp only[jp,df,di];grind
   grind
 unfold jV;rw[g]
theorem Dc(w:kg p.fN (c::k)):∃d b,p.fN[d]? =some b/\b.fZ=c/\0<b.waits/\jV p=(c,0,{p with fN:=p.fN.set d {b with waits:=0}})/\kg (p.fN.set d {b with waits:=0}) k:=by
 obtain⟨D,m,h,j⟩:=w;cases D with
 |nil=>simp at j
 |cons f t=>
  simp only[bz,List.cons.injEq]at j;obtain⟨rfl,rfl⟩:=j;rw[List.pairwise_cons]at h;obtain⟨h,x⟩:=h;have B:∀b∈p.fN,0<b.waits->f.1<b.waits\/(b.waits,b.fZ)=f:=by
   intro b I H;have K:(b.waits,b.fZ)∈jp p.fN:=by simp only[jp,df,di];grind
   grind
  obtain⟨c0,q,E,G,v⟩:=Bg (m.mem_iff.1 (List.mem_cons_self (a:=f) (l:=t)));rcases tR p.fN.length with⟨u,C⟩|⟨d,u,n,g,y⟩
  ·obtain⟨i,hi,rfl⟩:=List.getElem_of_mem q;have:=C i hi;rw[n_ (ap hi)]at this;omega
  ·have e:p.fN[d]? =some p.fN[d]:=ap n;rw[n_ e]at g;have s:(p.fN[d].waits,p.fN[d].fZ)=f:=by
    rcases B _ (List.getElem_mem n) g with o|o
    ·obtain⟨i,hi,rfl⟩:=List.getElem_of_mem q;have z:=y i hi (by rw[n_ (ap hi)];exact v);rw[n_ (ap hi),n_ e]at z;omega
    ·exact o
   generalize J:p.fN[d]=b at *
   refine⟨d,b,e,by rw[<-s],g,?_,t,?_,x,rfl⟩
   ·unfold jV;grind
   ·have A:(jp p.fN).Perm (f::jp (p.fN.set d {b with waits:=0})):=by
     conv=>lhs;rw[vi e]
     rw[we e,jS,jS,ng,@ng {b with waits:=0} (p.fN.drop (d+1)),np,@np {b with waits:=0},if_pos g,s];simp only[Int.lt_irrefl,if_false,List.nil_append];exact List.perm_middle
    exact List.Perm.cons_inv (m.trans A)
structure jQ(M:Int)(g:g_)(lw:Int)(c c':fV):Prop where
 fZ:c'.fZ=c.fZ
 addr:c'.addr=c.addr
 gR:c'.gR=c.gR
 gS:c'.gS=c.gS
 heard:c'.heard=c.heard
 mark:c'.mark=c.mark
 runs:c'.runs=c.runs
 fS:c'.fS=c.fS
 lu:c'.fM.length=c.fM.length
 ok:hS M c'
 inv:iV g c'
 same:c'.fY=c.fY->c'.waits=c.waits
 stay:c.fY=true->c'.fY=true
 new:c.fY=false->c'.fY=true->c'.waits=lw
theorem jQ.refl(h1:hS M j)(h2:iV s j):jQ M s lw j j:=
 ⟨rfl,rfl,rfl,rfl,rfl,rfl,rfl,rfl,rfl,h1,h2,fun _=>rfl,id,fun a b=>by grind⟩
theorem jQ.trans{g:g_}{a b c:fV}(h:jQ M g lw a b)(k:jQ M g lw b c):jQ M g lw a c where
 fZ:=k.fZ.trans h.fZ
 addr:=k.addr.trans h.addr
 gR:=k.gR.trans h.gR
 gS:=k.gS.trans h.gS
 heard:=k.heard.trans h.heard
 mark:=k.mark.trans h.mark
 runs:=k.runs.trans h.runs
 fS:=k.fS.trans h.fS
 lu:=k.lu.trans h.lu
 ok:=k.ok
 inv:=k.inv
 same:=fun e=>by
  cases ha:a.fY with
  |true=>have hb:=h.stay ha;have hc:=k.stay hb;rw[k.same (by rw[hb,hc]),h.same (by rw[ha,hb])]
  |false=>
   have hc:c.fY=false:=by rw[e,ha]
   have hb:b.fY=false:=by
    cases hb:b.fY with
    |true=>have:=k.stay hb;rw[hc]at this;cases this
    |false=>rfl
   rw[k.same (by rw[hb,hc]),h.same (by rw[ha,hb])]
 stay:=fun e=>k.stay (h.stay e)
 new:=fun e1 e2=>by
  cases hb:b.fY with
  |true=>rw[k.same (by rw[hb,e2]),h.new e1 hb]
  |false=>exact k.new hb e2
theorem xW:(gO c P j).2 = {j with fM:=(gO c P j).2.fM}/\(gO c P j).2.fM.length=j.fM.length:=by
 unfold gO;split
 ·grind
 grind
theorem uG(a:hS c j)(d:iV s j)(h:ut P)(l:gG P.bytes)(m:0<=s.c4):jQ c s g j (ik s g j P).2:=by
 unfold ik;split
 ·exact jQ.refl a d
 ·split
  ·by_cases k:P.code≠i_ s.c9 j.addr j.fZ
   ·rw[if_pos k];exact jQ.refl a d
   ·rw[if_neg k];cases t:j.fY with
    |true=>simp only[if_true];exact jQ.refl a d
    |false=>simp only[dg,if_false];exact⟨rfl,rfl,rfl,rfl,rfl,rfl,rfl,rfl,rfl,⟨a.fZ,a.addr,a.gR,a.gS,a.heard,a.runs,a.fS,a.lu,a.str⟩,⟨d.str,d.high,d.runs,d.EX⟩,fun f=>(by grind),fun _=>rfl,fun _ _=>rfl⟩
  ·have e:=xW (c:=s.c4) (P:=P) (j:=j);have b:=e.1;have n:=(xX (g:=s.c4) h a).1;have o:=Dm d l h.iP.1 m;exact⟨by rw[b],by rw[b],by rw[b],by rw[b],by rw[b],by rw[b],by rw[b],by rw[b],e.2,n,o,fun _=>by rw[b],fun f=>by rw[b];exact f,fun p q=>by grind⟩
theorem uK(d:gG k)(b:gW k=some (P,a)):gG P.bytes:=by
 have c:gG []:=fun f e=>by cases e
 unfold gW at b;split at b
 ·cases b
 ·split at b
  ·cases b
  ·simp only[Option.some.injEq,Prod.mk.injEq]at b;rw[<-b.1];exact c
  ·simp only[Option.some.injEq,Prod.mk.injEq]at b;rw[<-b.1];exact c
  ·simp only[Option.some.injEq,Prod.mk.injEq]at b;rw[<-b.1];exact c
  ·split at b
   ·cases b
   ·simp only[Option.some.injEq,Prod.mk.injEq]at b;rw[<-b.1];exact(d.drop _).take _
theorem pj{M:Int}{g:g_}{lw:Int}(hg:0<=g.c4):∀(n:Nat) {c:fV} {b:List Int},hS M c->iV g c->gG b->jQ M g lw c (gQ g lw c b n).iq
 |0,c,b,h1,h2,hb=>jQ.refl h1 h2
 |n+1,c,b,h1,h2,hb=>by
  unfold gQ;split
  ·exact jQ.refl h1 h2
  ·next J6=>
   split
   ·exact jQ.refl h1 h2
   ·next f size hf=>
    split
    ·exact jQ.refl h1 h2
    ·split
     ·exact jQ.refl h1 h2
     ·have k:=uG (g:=lw) h1 h2 (vF hb (List.length_pos_iff.2 J6) hf).1 (uK hb hf) hg;exact k.trans (pj hg n k.ok k.inv (hb.drop size))
def li(s:gg)(addr fZ num size:Int)(b:List Int)(N:Nat)(ii:List (Int×List Int)):gg×List (Int×List Int):=
 match ja s.fN fZ with
 |none=>(s,ii)
 |some k=>match s.fN[k]? with
  |none=>(s,ii)
  |some c=>
   if c.addr≠addr then(s,ii) else
   match kI {c with gR:=c.gR+size} num with
   |none=>({s with fN:=s.fN.set k {c with gR:=c.gR+size}},ii)
   |some c2=>hY {s with fN:=s.fN.set k {c2 with heard:=s.now}} k b ii N
def ib(s:gg)(addr:Int)(b:List Int):gg×List (Int×List Int):=
 if ¬(0<=addr/\addr<=255) then(s,[]) else
 match lD b with
 |none=>(s,[])
 |some d=>if d.kind=1 then lW s addr d.fZ b.length d.tok d.ky b.length [] else li s addr d.fZ d.num b.length d.ky b.length []
structure gD(M L:Int)(s:gg):Prop where
 cfg:jF s.c
 now:0<=s.now/\s.now<=1000000000
 tz:(s.fN.length:Int)<=s.c.c0
 nd:(s.fN.map (·.fZ)).Nodup
 ok:∀c∈s.fN,hS M c
 inv:∀c∈s.fN,iV s.c c
 waits:∀c∈s.fN,0<=c.waits/\c.waits<=s.last/\(c.fY=false->c.waits=0)
 last:0<=s.last/\s.last<=L
theorem hS.mono(h:hS M j)(a:M<=M'):hS M' j:=⟨h.fZ,h.addr,by have:=h.gR;omega,by have:=h.gS;omega,h.heard,h.runs,h.fS,h.lu,h.str⟩
theorem gD.mono{L':Int}{s:gg}(h:gD M L s)(c:M<=M')(d:L<=L'):gD M' L' s:=
 ⟨h.cfg,h.now,h.tz,h.nd,fun a b=>(h.ok a b).mono c,h.inv,h.waits,by have:=h.last;omega⟩
theorem gD.set{s:gg}{c':fV}(h:gD M L s)(hi:s.fN[i]? =some j)(f:hS M c')(e:iV s.c c')(d:c'.fZ=j.fZ)(g:0<=c'.waits/\c'.waits<=last/\(c'.fY=false->c'.waits=0))(l:s.last<=last)(k:last<=L):
  gD M L {s with fN:=s.fN.set i c',last:=last}:=by
 have c:∀b∈s.fN.set i c',b∈s.fN\/b=c':=fun b a=>dh a;refine⟨h.cfg,h.now,by simp only[List.length_set];exact h.tz,by simp only;rw[kr hi d];exact h.nd,fun b a=>?_,fun b a=>?_,fun b a=>?_,by grind⟩
 ·rcases c b a with a|rfl
  ·exact h.ok b a
  ·exact f
 ·rcases c b a with a|rfl
  ·exact h.inv b a
  ·exact e
 ·rcases c b a with a|rfl
  ·have:=h.waits b a;grind
  ·exact g
theorem gD.sub{s:gg}{l:List fV}{now:Int}(h:gD M L s)(c:l.Sublist s.fN)(f:s.last<=last)(e:last<=L)(d:0<=now/\now<=1000000000):gD M L {s with fN:=l,last:=last,now:=now}:=by
 refine⟨h.cfg,d,?_,(c.map _).nodup h.nd,fun a b=>h.ok a (c.subset b),fun a b=>h.inv a (c.subset b),fun a b=>?_,by have:=h.last;simp only;omega⟩
 ·have:=c.length_le;have:=h.tz;grind
 ·have:=h.waits a (c.subset b);grind
theorem lL:(ja y4 c=none/\c∉y4.map (·.fZ))\/∃b a,ja y4 c=some b/\y4[b]? =some a/\a.fZ=c:=by
 unfold ja;cases d:y4.findIdx? fun a=>a.fZ==c with
 |none=>grind
 |some b=>right;obtain⟨f,e,_⟩:=List.findIdx?_eq_some_iff_getElem.1 d;grind
theorem KF{d:Nat}(a:gD c g p)(hi:p.fN[i]? =some j)(n:gG k):gD c (g+1) (oq p i j (gQ p.c (p.last+1) j k d)):=by
 have h:=bS hi;have b:=pj (M:=c) (lw:=p.last+1) (by have:=a.cfg.c4;omega) d (a.ok j h) (a.inv j h) n;have q:=a.last;have t:=a.waits j h;generalize s:gQ p.c (p.last+1) j k d=r at b⊢;have e:p.last<=(if r.iq.fY=true/\j.fY=false then p.last+1 else p.last)/\(if r.iq.fY=true/\j.fY=false then p.last+1 else p.last)<=g+1:=by split<;>omega
 unfold oq;cases o:r.gone with
 |true=>simp only[if_true];exact gD.sub (now:=p.now) (a.mono (de _) (by omega)) (List.eraseIdx_sublist _ _) e.1 e.2 a.now
 |false=>
  simp only[dg,if_false];refine gD.set (a.mono (de _) (by omega)) hi b.ok b.inv b.fZ ?_ e.1 e.2;cases f:j.fY with
  |true=>have m:=b.stay f;rw[b.same (by rw[m,f])];grind
  |false=>
   cases l:r.iq.fY with
   |true=>rw[b.new f l];grind
   |false=>rw[b.same (by rw[l,f])];grind
theorem tU(a:Nat)(b:gD c g p)(hi:p.fN[i]? =some j)(d:gG k):gD c (g+1) (hY p i k t a).1:=by rw[nT a k t hi];exact KF b hi d
theorem ll(a:Int):(gE a).length<=4:=by unfold gE;grind
theorem uT(a:hS c j)(d:(k.length:Int)+5<=g):hS (c+g) (hE j k):=by
 have b:=ll j.fZ;have e:((jn j.fZ k).length:Int)<=k.length+5:=by simp[jn];omega
 unfold hE;split
 ·have:=a.gR;have:=a.gS;exact⟨a.fZ,a.addr,by simp only;omega,by simp only;omega,a.heard,a.runs,a.fS,a.lu,a.str⟩
 ·exact a.mono (by omega)
theorem yn(a:iV s j):iV s (hE j k):=by
 unfold hE;split
 ·exact⟨a.str,a.high,a.runs,a.EX⟩
 ·exact a
theorem nW(a:fV)(b:List Int):(hE a b).fZ=a.fZ/\(hE a b).waits=a.waits/\(hE a b).fY=a.fY/\(hE a b).addr=a.addr:=by unfold hE;split<;>exact⟨rfl,rfl,rfl,rfl⟩
theorem wS(a:g_)(b:fV):((gu a b).length:Int)<=17:=by have c:=ll (i_ a.c9 b.addr b.fZ);have d:=ll a.c1;have e:=ll a.c2;have f:=ll a.c3;simp only[gu,List.length_append,List.length_cons,List.length_nil];omega
theorem H6(b:gD c g p)(f:p.fN[a]? =some j)(s:0<=l):gD (c+l+100) g (kh p a j u l t).1:=by
 have e:=bS f;have d:=b.ok j e;have o:=b.waits j e;have m:=b.last;have q:=d.gR;have v:=d.gS;have h:hS (c+l) {j with gR:=j.gR+l,heard:=p.now}:=⟨d.fZ,d.addr,by simp only;omega,by simp only;omega,b.now,d.runs,d.fS,d.lu,d.str⟩;have k:iV p.c {j with gR:=j.gR+l,heard:=p.now}:=⟨(b.inv j e).str,(b.inv j e).high,(b.inv j e).runs,(b.inv j e).EX⟩;unfold kh;split
 ·exact b.mono (by omega) (de _)
 ·simp only;split
  ·exact gD.set (b.mono (by omega) (de _)) f (h.mono (by omega)) k rfl o (de _) m.2
  ·have n:=nW {j with gR:=j.gR+l,heard:=p.now} (gu p.c {j with gR:=j.gR+l,heard:=p.now});refine gD.set (b.mono (by omega) (de _)) f (uT (g:=100) h (by have:=wS p.c {j with gR:=j.gR+l,heard:=p.now};omega)) (yn k) n.1 ?_ (de _) m.2;grind
theorem yO(d:0<=c)(e:0<=g/\g<=1073741823):iA c (gP g):=
 ⟨by simp[gP],fun f b=>by simp[gP]at b,by simp[gP],fun a=>by simp[gP]at a,by simp[gP],fun a=>by simp[gP]at a,fun a=>by simp[gP]at a,by simp[gP,jP];exact d,by simp[gP];exact e⟩
theorem A'(a:0<=c/\c<=1073741823):sk (gP c):=
 ⟨by simp[gP],by simp[gP],by simp[gP],by simp[gP];exact a,by simp[gP]⟩
theorem Av{nH:Int}:∀n,im (aT n (gP nH))=0
 |0=>rfl
 |n+1=>by have:=Av (nH:=nH) n;simp[im,List.replicate_succ,gP]at this⊢
theorem MR{f:Int}(b:jF p.c)(n:0<=p.now/\p.now<=1000000000)(k:0<=l/\l<=1073741823)(j:0<=u/\u<256)(o:0<=g/\g<=f):hS f (iz p l u g ok)/\iV p.c (iz p l u g ok):=by
 have q:=b.c1;have s:=b.c2;have t:=b.c3;have v:=b.c4;have d:(iz p l u g ok).fM=aT p.c.c3.toNat (gP p.c.c2):=by simp[iz,jH]
 have h:∀a∈(iz p l u g ok).fM,a=gP p.c.c2:=by grind
 have m:(iz p l u g ok).fM.length=p.c.c3.toNat:=by rw[d];simp
 refine⟨⟨k,j,o,by simp[iz,ki];omega,n,by simp[iz,ki],by simp[iz,ki];omega,by rw[m];omega,fun a e=>?_⟩,⟨fun a e=>?_,?_,trivial,Or.inl ?_⟩⟩
 ·rw[h a e];exact A' (by omega)
 ·rw[h a e];exact yO (by omega) (by omega)
 ·rw[d,Av];simp[iz,ki];omega
 ·rw[d,wK];simp[iz,ki];omega
theorem gD.snoc{s:gg}(h:gD M L s)(f:hS M j)(e:iV s.c j)(d:j.fZ∉s.fN.map (·.fZ))(g:0<=j.waits/\j.waits<=last/\(j.fY=false->j.waits=0))(t:s.last<=last)(n:last<=L)(q:(s.fN.length:Int)<s.c.c0):
  gD M L {s with fN:=s.fN++[j],last:=last}:=by
 have c:∀b∈s.fN++[j],b∈s.fN\/b=j:=fun b a=>by simpa using a
 refine⟨h.cfg,h.now,by simp;omega,?_,fun b a=>?_,fun b a=>?_,fun b a=>?_,by grind⟩
 ·simp only[List.map_append,bz,List.map_nil];rw[List.nodup_append];refine⟨h.nd,by simp,fun k o l p m=>d ?_⟩;grind
 ·rcases c b a with a|rfl
  ·exact h.ok b a
  ·exact f
 ·rcases c b a with a|rfl
  ·exact h.inv b a
  ·exact e
 ·rcases c b a with a|rfl
  ·have:=h.waits b a;grind
  ·exact g
theorem oA{α:Type}{x2:List α}(b a:α):(x2++[b]).set x2.length a=x2++[a]:=by simp
theorem yd{α:Type}{x2:List α}(a:α):(x2++[a])[x2.length]? =some a:=by simp
theorem vO{a:Int}(b:gD a g p)(f:0<=u/\u<=1073741823)(e:0<=x/\x<256)(h:0<=l)(j:0<=a):
  hS (a+l+100) (hE (iz p u x l ok) (gu p.c (iz p u x l ok)))/\iV p.c (hE (iz p u x l ok) (gu p.c (iz p u x l ok))):=by
 have d:=MR (f:=a+l) (ok:=ok) b.cfg b.now f e ⟨h,by omega⟩;refine⟨uT (g:=100) d.1 ?_,yn d.2⟩;have:=wS p.c (iz p u x l ok);omega
theorem IE{b:Int}{z2:List Int}(e:gD c g p)(y:0<=u/\u<=1073741823)(v:0<=x/\x<256)(o:0<=b)(s:0<=c)(w:gG z2):gD (c+b+100) (g+2) (lW p x u b k z2 a t).1:=by
 have m:gD (c+b+100) (g+2) p:=e.mono (by omega) (by omega);have D:=e.last;unfold lW;rcases lL (y4:=p.fN) (c:=u) with⟨n,B⟩|⟨E,q,n,A,C⟩
 ·rw[n];simp only;have z:¬ly p=true->(p.fN.length:Int)<p.c.c0:=by intro h;unfold ly at h;grind
  split
  ·split
   ·split
    ·exact m
    ·next h=>
     obtain⟨d,f⟩:=vO e y v o s;have j:=nW (iz p u x b true) (gu p.c (iz p u x b true));unfold qM;simp only;refine gD.mono (M:=c+b+100) (L:=g+1+1) (tU (j:=yr (p.last+1) (hE (iz p u x b true) (gu p.c (iz p u x b true)))) a ?_ ?_ w) (de _) (by omega)
     ·unfold sF;simp only;rw[oA,oA];refine gD.snoc (e.mono (by omega) (by omega)) ?_ ?_ (by rw[show(yr (p.last+1) (hE (iz p u x b true) (gu p.c (iz p u x b true)))).fZ=u from j.1];exact B) ⟨by simp only[yr];omega,by simp[yr],fun e=>by cases e⟩ (by omega) (by omega) (z h)
      ·exact⟨d.fZ,d.addr,d.gR,d.gS,d.heard,d.runs,d.fS,d.lu,d.str⟩
      ·exact⟨f.str,f.high,f.runs,f.EX⟩
     ·unfold sF;grind
   ·exact m
  ·split
   ·exact m
   ·split
    ·exact m
    ·next h=>
     obtain⟨d,f⟩:=vO (ok:=false) e y v o s;have j:=nW (iz p u x b false) (gu p.c (iz p u x b false));unfold qN;simp only;refine gD.mono (M:=c+b+100) (L:=g+1+1) (tU (j:=hE (iz p u x b false) (gu p.c (iz p u x b false))) a ?_ ?_ w) (de _) (by omega)
     ·rw[oA];refine gD.snoc (last:=p.last) (e.mono (by omega) (by omega)) d f (by rw[j.1];exact B) ?_ (de _) (by omega) (z h);rw[j.2.1,j.2.2.1];exact⟨by simp[iz,ki],by simp[iz,ki];omega,fun _=>rfl⟩
     grind
 ·rw[n];simp only;rw[A];simp only;exact(H6 e A o).mono (by omega) (by omega)
theorem sp(a:hS c j)(hi:iV s j)(x:0<=g/\g<=1073741823)(d:kI j g=some w5):hS c w5/\iV s w5/\w5.fZ=j.fZ/\w5.waits=j.waits/\w5.fY=j.fY/\w5.addr=j.addr/\w5.gR=j.gR:=by
 unfold kI nA at d;split at d
 ·simp at d
 ·simp only[Option.map_map,Option.map_eq_some_iff]at d;obtain⟨G,k,b⟩:=d;have y:¬xp j.runs g:=fun l=>by rw[(rm hi.runs).1 l]at k;cases k
  obtain⟨H,n,o,u,m,_,B,A,l⟩:=(rm hi.runs).2 y;rw[k]at o;cases o;have D:=a.runs;have t:∀r∈n,0<=r.1/\r.1<=r.2/\r.2<=1073741823:=by
   intro r e;have q:=rD m e;have p:∀f,xp n f->0<=f/\f<=1073741823:=by
    intro f h;rcases(l f).1 h with rfl|⟨E,C,v,w⟩
    ·exact x
    grind
   have v:=p r.1 ⟨r,e,de _,q⟩;have w:=p r.2 ⟨r,e,q,de _⟩;omega
  simp only[Function.comp]at b;rw[u]at b;split at b
  ·subst b;refine⟨⟨a.fZ,a.addr,a.gR,a.gS,a.heard,⟨?_,fun r e=>t r (List.mem_of_mem_drop e)⟩,a.fS,a.lu,a.str⟩,⟨hi.str,hi.high,?_,hi.EX⟩,rfl,rfl,rfl,rfl,rfl⟩
   ·simp;omega
   ·have h:=m;rw[<-dj 1 n,nZ]at h;exact h.2.1
  ·next z=>
   subst b;exact⟨⟨a.fZ,a.addr,a.gR,a.gS,a.heard,⟨by simp only;omega,t⟩,a.fS,a.lu,a.str⟩,⟨hi.str,hi.high,m,hi.EX⟩,rfl,rfl,rfl,rfl,rfl⟩
theorem KJ{h:Int}{num:Int}(d:gD c g p)(z:0<=num/\num<=1073741823)(G:0<=h)(w:gG k):gD (c+h+100) (g+2) (li p x u num h k a t).1:=by
 have q:gD (c+h+100) (g+2) p:=d.mono (by omega) (by omega);have E:=d.last;unfold li;rcases lL (y4:=p.fN) (c:=u) with⟨o,_⟩|⟨I,b,o,m,_⟩
 ·rw[o];exact q
 ·rw[o];simp only;rw[m];simp only;have j:=bS m;have e:=d.ok b j;have A:=d.waits b j;have D:=e.gR;have H:=e.gS;have s:hS (c+h+100) {b with gR:=b.gR+h}:=⟨e.fZ,e.addr,by simp only;omega,by simp only;omega,e.heard,e.runs,e.fS,e.lu,e.str⟩;have v:iV p.c {b with gR:=b.gR+h}:=⟨(d.inv b j).str,(d.inv b j).high,(d.inv b j).runs,(d.inv b j).EX⟩;split
  ·exact q
  ·split
   ·exact gD.set q m s v rfl A (de _) (by omega)
   ·next C y=>
    obtain⟨f,n,B,J,K,_,_⟩:=sp s v z y;refine(tU (g:=g+1) a ?_ (getElem?_set_at m) w).mono (de _) (by omega);refine gD.set (d.mono (by omega) (by omega)) m ?_ ?_ B ?_ (de _) (by omega)
    ·exact⟨f.fZ,f.addr,f.gR,f.gS,d.now,f.runs,f.fS,f.lu,f.str⟩
    ·exact⟨n.str,n.high,n.runs,n.EX⟩
    grind
theorem Al(d:gG k){x1:zh}(a:lD k=some x1):(x1.kind=1\/x1.kind=2)/\(0<=x1.fZ/\x1.fZ<=1073741823)/\(0<=x1.num/\x1.num<=1073741823)/\gG x1.tok/\gG x1.ky/\x1.tok.length<=k.length/\x1.ky.length<=k.length:=by
 have e:∀b,gG b->0<=jL b/\jL b<=1073741823:=fun b g=>by have:=nU g;omega
 unfold lD at a;simp only at a;split at a
 ·cases a
 ·split at a
  ·cases a
  ·split at a
   ·cases a
   ·have f:=e _ (d.drop 1);have l:=e _ ((d.drop 1).drop (jk (k.drop 1)).toNat);have c:=((d.drop 1).drop (jk (k.drop 1)).toNat).drop (jk ((k.drop 1).drop (jk (k.drop 1)).toNat)).toNat;have j:(((k.drop 1).drop (jk (k.drop 1)).toNat).drop (jk ((k.drop 1).drop (jk (k.drop 1)).toNat)).toNat).length<=k.length:=by grind
    generalize ((k.drop 1).drop (jk (k.drop 1)).toNat).drop (jk ((k.drop 1).drop (jk (k.drop 1)).toNat)).toNat=m at *
    split at a
    ·split at a
     ·cases a
     ·simp only[Option.some.injEq]at a;subst a;exact⟨Or.inl rfl,f,by simp,c.take _,c.drop _,by grind,by grind⟩
    ·split at a
     ·simp only[Option.some.injEq]at a;subst a;exact⟨Or.inr rfl,f,l,fun n h=>(by cases h),c,by simp,j⟩
     ·cases a
theorem Ep(a:gD c g p)(e:0<=c)(f:gG k):gD (c+k.length+100) (g+2) (ib p l k).1:=by
 have b:gD (c+k.length+100) (g+2) p:=a.mono (by omega) (by omega);unfold ib;split
 ·exact b
 ·next o=>
  split
  ·exact b
  ·next n h=>
   obtain⟨_,j,m,_,d,_,_⟩:=Al f h;split
   ·exact IE a j (by omega) (by omega) e d
   ·exact KJ a m (by omega) d
theorem Ie(a:gD c g p)(b:0<=l/\l<=1000000000):gD c g (vy p l):=
 gD.sub a (List.filter_sublist) (de _) a.last.2 b
theorem Fe(b:gD c g p):gD c g (jV p).2.2:=by
 unfold jV;split
 ·exact b
 ·split
  ·exact b
  ·next h _ d e=>
   have f:=bS e;have a:=b.ok d f;have hi:=b.inv d f;exact gD.set b e ⟨a.fZ,a.addr,a.gR,a.gS,a.heard,a.runs,a.fS,a.lu,a.str⟩ ⟨hi.str,hi.high,hi.runs,hi.EX⟩ rfl ⟨de _,b.last.1,fun _=>rfl⟩ (de _) b.last.2
theorem MP(c:jF s):gD 0 0 (mq s):=
 ⟨c,by simp[mq],by simp[mq];have:=c.c0;omega,by simp[mq],fun b a=>(by simp[mq]at a),fun b a=>(by simp[mq]at a),fun b a=>(by simp[mq]at a),by simp[mq]⟩
def il(l:List gs):Int:=((l.filter fun x=>x.done).map fun x=>x.final).sum
def iS{α:Type}(f:Int->Int)(l:List (Int×α)):Int:=(l.map fun p=>f p.1).sum
def tM(h:gs->Int)(l:List gs)(id:Int):Int:=((l[id.toNat]?).map h).getD 0
theorem uj{α:Type}(c:α->Bool)(b:α->Int)(a:List α):((a.filter c).map b).sum=(a.map fun i=>if c i then b i else 0).sum:=by
 induction a with
 |nil=>rfl
 |cons d f e=>grind
theorem Hw{α:Type}(b c:α->Int)(a:List α):(a.map fun i=>b i+c i).sum=(a.map b).sum+(a.map c).sum:=by
 induction a with
 |nil=>rfl
 |cons e f d=>simp[d];omega
theorem vM{α:Type}(b:α->Int)(a:List α):a.map b=(dp a.length).map fun i=>((a[i]?).map b).getD 0:=by
 apply List.ext_getElem
 ·simp
 grind
theorem Lm{a:List Int}(h:a.Perm b):a.sum=b.sum:=by
 induction h with
 |nil=>rfl
 |cons x _ ih=>simp[ih]
 |swap x y l=>simp;omega
 |trans _ _ h1 h2=>exact h1.trans h2
theorem EG{m:List Nat}(b:Nat->Int)(d:m.Nodup)(g:∀f∈m,f<a):(m.map b).sum=((dp a).map fun i=>if i∈m then b i else 0).sum:=by
 have e:((dp a).filter fun i=>decide (i∈m)).Perm m:=by rw[List.perm_ext_iff_of_nodup (List.nodup_range.filter _) d];grind
 have c:=Lm (e.map b);rw[<-c,uj];grind
structure E5{α:Type}(nH:Int)(l:List gs)(sl:List (Int×α)):Prop where
 nd:(sl.map (·.1)).Nodup
 str:∀p∈sl,0<=p.1/\∃x,l[p.1.toNat]? =some x/\x.done=false
 Nh:∀(i:Nat) x,l[i]? =some x->x.done=false->(i:Int)∉sl.map (·.1)->x=gP nH
theorem FR{α:Type}{y9:List (Int×α)}(hi:∀b∈y0,iA c b)(h:E5 g y0 y9):im y0=il y0+iS (tM (·.fW) y0) y9:=by
 have z:(y9.map fun a=>a.1.toNat).Nodup:=by
  have:(y9.map fun a=>a.1.toNat)=(y9.map (·.1)).map Int.toNat:=by simp_all
  rw[this];have l:=h.nd;have m:∀b∈y9.map (·.1),0<=b:=by intro b d;obtain⟨a,f,rfl⟩:=df.1 d;exact(h.str a f).1
  generalize y9.map (·.1)=D at l m;induction D with
  |nil=>simp
  |cons s L E=>rw[dk]at l;simp only[bz,dk];refine⟨fun e=>?_,E l.2 (fun b d=>m b (by simp[d]))⟩;obtain⟨G,I,n⟩:=df.1 e;have H:=m s (by simp);grind
 have A:∀q∈(y9.map fun a=>a.1.toNat),q<y0.length:=by intro q j;obtain⟨a,f,rfl⟩:=df.1 j;obtain⟨_,b,d,_⟩:=h.str a f;grind
 have t:iS (tM (·.fW) y0) y9=((y9.map fun a=>a.1.toNat).map fun i=>((y0[i]?).map (·.fW)).getD 0).sum:=by unfold iS tM;rw[List.map_map];rfl
 have u:il y0=((dp y0.length).map fun i=>((y0[i]?).map fun b=>if b.done then b.final else 0).getD 0).sum:=by unfold il;rw[uj,vM]
 have v:im y0=((dp y0.length).map fun i=>((y0[i]?).map (·.fW)).getD 0).sum:=by unfold im;rw[vM]
 rw[t,u,v,EG _ z A,<-Hw];congr 1;refine List.map_congr_left fun i y=>?_;have p:i<y0.length:=List.mem_range.1 y;have d:y0[i]? =some y0[i]:=ap p;have k:=hi _ (List.getElem_mem p);generalize y0[i]=b at d k;rw[d];simp only[Option.map_some,Option.getD_some];have B:i∈(y9.map fun a=>a.1.toNat)↔(i:Int)∈y9.map (·.1):=by
  constructor
  ·intro e;obtain⟨a,f,n⟩:=df.1 e;have:=(h.str a f).1;grind
  grind
 cases o:b.done with
 |true=>
  have w:=k.dn o;have x:=k.fin w.2.1;have C:i∉(y9.map fun a=>a.1.toNat):=by intro e;obtain⟨a,f,n⟩:=df.1 e;obtain⟨_,M,J,K⟩:=h.str a f;grind
  simp[C,x]
 |false=>
  by_cases j:i∈(y9.map fun a=>a.1.toNat)
  ·simp[j]
  ·have:=h.Nh i b d o (fun e=>j (B.2 e));subst this;simp[j,gP]
end Go.Proofs.YthmdjhlhodpbhaaGreatDoor
