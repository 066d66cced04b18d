/- InOrder, 5 -/
import Derived.Test.YthmdjhlhodpbhaaGreatDoorI01
import Derived.Test.YthmdjhlhodpbhaaGreatDoorI02
import Derived.Test.YthmdjhlhodpbhaaGreatDoorI04
set_option maxHeartbeats 16000000
set_option maxRecDepth 8000
namespace Go.Proofs.YthmdjhlhodpbhaaGreatDoor
theorem valL_grown(base:Int)(l:List Int)(n:Nat)(p:Int):valL base (l++List.replicate n (-1)) p=valL base l p:=by
 unfold valL
 by_cases h:base<=p
 ·rw[if_pos h,if_pos h]
  rcases Nat.lt_or_ge (p-base).toNat l.length with h1|h1
  ·rw[List.getElem?_append_left h1]
  ·rw[List.getElem?_append_right h1,List.getElem?_eq_none h1,List.getElem?_replicate]
   split
   ·rename_i hx
    split at hx
    ·cases hx;simp
    ·cases hx
   ·rfl
 ·rw[if_neg h,if_neg h]
theorem valL_set(base:Int){l:List Int}{k:Nat}(hk:k<l.length){x:Int}(hx:0<=x)(p:Int):valL base (l.set k x) p=if p=base+k then some x else valL base l p:=by
 unfold valL
 by_cases h:base<=p
 ·rw[if_pos h,if_pos h,List.getElem?_set]
  by_cases h1:p=base+k
  ·rw[if_pos h1,if_pos (by omega),if_pos hk]
   simp[hx]
  ·rw[if_neg h1,if_neg (by omega)]
 ·rw[if_neg h,if_neg h,if_neg (by omega)]
def Clash(base:Int)(l:List Int)(p x:Int):Prop:=∃y,valL base l p=some y/\y≠x
theorem writeS_is(base:Int)(l:List Int)(k:Nat){x:Int}(hx:0<=x):(Clash base l (base+k) x/\writeS l k x=none)\/
  (¬Clash base l (base+k) x/\∃m,writeS l k x=some m/\∀p,valL base m p=if p=base+k then some x else valL base l p):=by
 have hg:∀p,valL base (dH l k) p=valL base l p:=fun p=>valL_grown base l _ p
 have hlen:k<(dH l k).length:=by unfold dH;simp only[List.length_append,List.length_replicate];omega
 have hat:valL base l (base+k)=if 0<=(dH l k).getD k (-1) then some ((dH l k).getD k (-1)) else none:=by
  rw[<-hg]
  unfold valL
  have e:(base+(k:Int)-base).toNat=k:=by omega
  rw[if_pos (by omega),e,List.getElem?_eq_getElem hlen]
  simp[List.getD,List.getElem?_eq_getElem hlen]
 unfold writeS
 generalize hq:(dH l k).getD k (-1)=q at hat⊢
 by_cases hc:0<=q/\q≠x
 ·left
  refine⟨⟨q,by rw[hat,if_pos hc.1],hc.2⟩,by simp[hc]⟩
 ·right
  refine⟨?_,(dH l k).set k x,?_,fun p=>?_⟩
  ·rintro⟨y,h1,h2⟩
   rw[hat]at h1
   split at h1
   ·cases h1
    exact hc ⟨by assumption,h2⟩
   ·cases h1
  ·rw[if_neg]
   simpa using hc
  ·rw[valL_set base hlen hx,hg]
theorem recvTo_is(base:Int)(l:List Int)(d:Int){b:List Int}(hb:Bytes b):∀(k:Nat),k<=b.length->
  (eb l d b k=none/\∃j:Nat,j<k/\0<=d+j/\Clash base l (base+d+j) (b.getD j 0))\/
  ((∀j:Nat,j<k->0<=d+j->¬Clash base l (base+d+j) (b.getD j 0))/\∃m,eb l d b k=some m/\
   ∀p,valL base m p=if base<=p/\base+d<=p/\p<base+d+k then b[(p-base-d).toNat]? else valL base l p)
 |0,_=>.inr ⟨fun j hj=>by omega,l,rfl,fun p=>by rw[if_neg (by omega)]⟩
 |k+1,hk=>by
  have hx:0<=b.getD k 0:=by
   have:=hb b[k] (List.getElem_mem _)
   simp only[List.getD,List.getElem?_eq_getElem (show k<b.length by omega),Option.getD_some]
   exact this.1
  have hbk:b[k]? =some (b.getD k 0):=by simp[List.getD,List.getElem?_eq_getElem (show k<b.length by omega)]
  rcases recvTo_is base l d hb k (by omega) with⟨h1,j,hj,h2,h3⟩|⟨h1,m,hm,hv⟩
  ·left
   exact⟨by simp[eb,h1],j,by omega,h2,h3⟩
  ·by_cases hd:d+(k:Int)<0
   ·right
    refine⟨fun j hj h=>?_,m,by simp[eb,hm,hd],fun p=>?_⟩
    ·by_cases e:j=k
     ·omega
     ·exact h1 j (by omega) h
    ·rw[hv p]
     by_cases hc:base<=p/\base+d<=p/\p<base+d+k
     ·rw[if_pos hc,if_pos (by omega)]
     ·rw[if_neg hc,if_neg (by omega)]
   ·have same:valL base m (base+d+k)=valL base l (base+d+k):=by rw[hv,if_neg (by omega)]
    have ek:base+((d+(k:Int)).toNat:Int)=base+d+k:=by omega
    have hcl:Clash base m (base+d+k) (b.getD k 0)↔Clash base l (base+d+k) (b.getD k 0):=by unfold Clash;rw[same]
    rcases writeS_is base m (d+(k:Int)).toNat hx with⟨hc,hw⟩|⟨hc,m2,hw,hv2⟩
    ·rw[ek,hcl]at hc
     left
     exact⟨by simp only[eb,hm,Option.bind_some,if_neg hd,hw],k,by omega,by omega,hc⟩
    ·rw[ek,hcl]at hc
     rw[ek]at hv2
     right
     refine⟨fun j hj h=>?_,m2,by simp only[eb,hm,Option.bind_some,if_neg hd,hw],fun p=>?_⟩
     ·by_cases e:j=k
      ·subst e;exact hc
      ·exact h1 j (by omega) h
     ·rw[hv2 p,hv p]
      by_cases e:p=base+d+k
      ·rw[if_pos e,if_pos (by omega)]
       have:(p-base-d).toNat=k:=by omega
       rw[this,hbk]
      ·rw[if_neg e]
       by_cases hc2:base<=p/\base+d<=p/\p<base+d+k
       ·rw[if_pos hc2,if_pos (by omega)]
       ·rw[if_neg hc2,if_neg (by omega)]
theorem getD_cons_succ'(x:Int)(l:List Int)(k:Nat):(x::l).getD (k+1) (-1)=l.getD k (-1):=by simp[List.getD]
theorem startAt_zero(l:List Int):startAt l 0=decide (0<=l.getD 0 (-1)):=by simp[startAt]
theorem startAt_succ(l:List Int)(k:Nat):startAt l (k+1)=(decide (0<=l.getD (k+1) (-1))&&decide (l.getD k (-1)<0)):=by simp[startAt]
theorem runsTo_cons(x:Int)(l:List Int):∀k,dQ (x::l) (k+1)=(if 0<=x then 1 else 0)+dQ l k-(if 0<=x/\0<=l.getD 0 (-1)/\0<k then 1 else 0)
 |0=>by
  have e:(x::l).getD 0 (-1)=x:=rfl
  rw[dQ,dQ,startAt_zero,e]
  by_cases hx:0<=x<;>simp[hx,dQ]
 |k+1=>by
  have h:=runsTo_cons x l k
  rw[dQ,h,startAt_succ,getD_cons_succ']
  have e0:dQ l (k+1)=dQ l k+if startAt l k then 1 else 0:=rfl
  rw[e0]
  cases k with
  |zero=>
   have e:(x::l).getD 0 (-1)=x:=rfl
   rw[startAt_zero,e]
   generalize l.getD 0 (-1)=y
   by_cases hx:0<=x<;>by_cases hy:0<=y<;>simp[hx,hy]<;>omega
  |succ k=>
   rw[startAt_succ,getD_cons_succ']
   simp only[Nat.zero_lt_succ,and_true]
   omega
theorem consRun_length(base x:Int)(rs:List aL):((eJ base x rs).length:Int)=rs.length+1-(if(rs.head?.map (·.1))=some (base+1) then 1 else 0):=by
 unfold eJ
 cases rs with
 |nil=>simp
 |cons r t=>
  simp only[List.head?_cons,Option.map_some,Option.some.injEq]
  split
  ·simp
  ·simp
theorem runsOf_head(base:Int)(l:List Int):(((aU base l).head?.map (·.1))=some base)↔0<=l.getD 0 (-1):=by
 cases l with
 |nil=>simp[aU,List.getD]
 |cons x l=>
  have e:(x::l).getD 0 (-1)=x:=rfl
  rw[e]
  unfold aU
  by_cases hx:0<=x
  ·rw[if_pos hx]
   unfold eJ
   split
   ·simp[hx]
   ·split<;>simp[hx]
  ·rw[if_neg hx]
   constructor
   ·intro h
    cases hr:aU (base+1) l with
    |nil=>rw[hr]at h;simp at h
    |cons r t=>
     rw[hr]at h
     simp at h
     have:=runsOf_from l (base+1) r (by rw[hr];simp)
     omega
   ·intro h;exact(hx h).elim
theorem runsOf_cons(base x:Int)(l:List Int):aU base (x::l)=if 0<=x then eJ base x (aU (base+1) l) else aU (base+1) l:=rfl
theorem de(l:List Int):∀base:Int,((aU base l).length:Int)=dQ l l.length:=by
 induction l with
 |nil=>intro base;simp[aU,dQ]
 |cons x l ih=>
  intro base
  rw[List.length_cons,runsTo_cons,<-ih (base+1),runsOf_cons]
  by_cases hx:0<=x
  ·rw[if_pos hx,if_pos hx,consRun_length]
   have hh:=runsOf_head (base+1) l
   by_cases hy:0<=l.getD 0 (-1)
   ·rw[if_pos (hh.2 hy),if_pos ⟨hx,hy,by
     cases l with
     |nil=>simp[List.getD]at hy
     |cons a t=>simp⟩]
    omega
   ·rw[if_neg (fun h=>hy (hh.1 h)),if_neg (fun h=>hy h.2.1)]
    omega
  ·rw[if_neg hx,if_neg hx,if_neg (fun h=>hx h.1)]
   omega
def sizeR(rl:List aL):Nat:=(rl.map fun r=>r.2.length).sum
def fullL(l:List Int):Nat:=l.countP fun x=>decide (0<=x)
theorem sizeR_runsOf(l:List Int):∀base:Int,sizeR (aU base l)=fullL l:=by
 induction l with
 |nil=>intro base;rfl
 |cons x l ih=>
  intro base
  have h:=ih (base+1)
  unfold fullL sizeR at *
  rw[List.countP_cons,runsOf_cons]
  by_cases hx:0<=x
  ·rw[if_pos hx]
   simp only[hx,decide_true,if_true]
   rw[<-h]
   unfold eJ
   split
   ·rename_i e;simp[e]
   ·rename_i r t e
    rw[e]
    split
    ·simp;omega
    ·simp;omega
  ·rw[if_neg hx]
   simp only[hx,decide_false]
   simpa using h
def agreeOne(first:Int)(items:List Int)(r:aL):Bool:=
 if max first r.1<min (first+items.length) (aq r) then
  decide ((r.2.drop (max first r.1-r.1).toNat).take (min (first+items.length) (aq r)-max first r.1).toNat=(items.drop (max first r.1-first).toNat).take (min (first+items.length) (aq r)-max first r.1).toNat)
 else true
def dZ(rl:List aL)(first:Int)(items:List Int):Bool:=rl.all (agreeOne first items)
theorem agreeOne_iff(first:Int)(items:List Int)(r:aL):agreeOne first items r=true↔∀p,first<=p->p<first+items.length->r.1<=p->p<aq r->r.2[(p-r.1).toNat]? =items[(p-first).toNat]?:=by
 unfold agreeOne
 generalize hf:max first r.1=f
 generalize ht:min (first+items.length) (aq r)=t
 have hb:aq r=r.1+r.2.length:=rfl
 by_cases hc:f<t
 ·rw[if_pos hc,decide_eq_true_iff]
  constructor
  ·intro h p h1 h2 h3 h4
   have h5:=congrArg (fun l=>l[(p-f).toNat]?) h
   rw[List.getElem?_take_of_lt (by omega),List.getElem?_take_of_lt (by omega),List.getElem?_drop,List.getElem?_drop]at h5
   have e1:(f-r.1).toNat+(p-f).toNat=(p-r.1).toNat:=by omega
   have e2:(f-first).toNat+(p-f).toNat=(p-first).toNat:=by omega
   rw[e1,e2]at h5
   exact h5
  ·intro h
   apply List.ext_getElem?
   intro i
   rcases Nat.lt_or_ge i (t-f).toNat with hi|hi
   ·rw[List.getElem?_take_of_lt hi,List.getElem?_take_of_lt hi,List.getElem?_drop,List.getElem?_drop]
    have h5:=h (f+i) (by omega) (by omega) (by omega) (by omega)
    have e1:(f+(i:Int)-r.1).toNat=(f-r.1).toNat+i:=by omega
    have e2:(f+(i:Int)-first).toNat=(f-first).toNat+i:=by omega
    rw[e1,e2]at h5
    exact h5
   ·rw[List.getElem?_eq_none (by simp;omega),List.getElem?_eq_none (by simp;omega)]
 ·rw[if_neg hc]
  simp only[true_iff]
  intro p h1 h2 h3 h4
  omega
theorem agreesR_iff{rl:List aL}(hw:cW rl)(first:Int)(items:List Int):dZ rl first items=true↔Agree rl first items:=by
 unfold dZ
 rw[List.all_eq_true]
 have mem:∀{rl:List aL},cW rl->∀r∈rl,∀p,r.1<=p->p<aq r->dx rl p=r.2[(p-r.1).toNat]?:=by
  intro rl hw r hr p h1 h2
  induction rl with
  |nil=>cases hr
  |cons a t ih=>
   rcases List.mem_cons.1 hr with rfl|hr
   ·exact eK ⟨h1,h2⟩
   ·have:=hw.2.1 r hr
    rw[dE (by omega)]
    exact ih hw.2.2 hr
 constructor
 ·intro h p x h1 h2 h3
  obtain⟨r,hr,h4,h5⟩:=pvAt_some h3
  have h6:=(agreeOne_iff first items r).1 (h r hr) p h1 h2 h4 h5
  rw[<-h6,<-mem hw r hr p h4 h5]
  exact h3
 ·intro h r hr
  rw[agreeOne_iff]
  intro p h1 h2 h3 h4
  have h5:=mem hw r hr p h3 h4
  have hb:aq r=r.1+r.2.length:=rfl
  rw[List.getElem?_eq_getElem (by omega)]at h5⊢
  exact(h p _ h1 h2 h5).symm
def eN(read ofs:Int)(b:List Int):Nat:=(min (max (read-ofs) 0) b.length).toNat
theorem recv_runs(base:Int)(l:List Int)(ofs:Int){b:List Int}(hb:Bytes b):
  (dZ (aU base l) (ofs+eN base ofs b) (b.drop (eN base ofs b))=false/\eb l (ofs-base) b b.length=none)\/
  (dZ (aU base l) (ofs+eN base ofs b) (b.drop (eN base ofs b))=true/\∃m,eb l (ofs-base) b b.length=some m/\
   dI (aU base l) (ofs+eN base ofs b) (b.drop (eN base ofs b))=aU base m):=by
 have hw:=runsOf_wf l base
 have hs:(eN base ofs b:Int)=min (max (base-ofs) 0) b.length:=by unfold eN;omega
 generalize hk:eN base ofs b=k at hs⊢
 have hl:((b.drop k).length:Int)=b.length-k:=by simp only[List.length_drop];omega
 have hag:=agreesR_iff hw (ofs+k) (b.drop k)
 have hpv:∀p,dx (aU base l) p=valL base l p:=pvAt_runsOf l base
 have getb:∀j:Nat,j<b.length->b[j]? =some (b.getD j 0):=fun j hj=>by simp[List.getD,List.getElem?_eq_getElem hj]
 rcases recvTo_is base l (ofs-base) hb b.length (Nat.le_refl _) with⟨h1,j,hj,h2,y,h3,h4⟩|⟨h1,m,hm,hv⟩
 ·left
  refine⟨?_,h1⟩
  rw[<-Bool.not_eq_true]
  intro h
  have h5:=(hag.1 h) (base+(ofs-base)+j) y (by omega) (by omega) (by rw[hpv];exact h3)
  rw[List.getElem?_drop]at h5
  have e:k+(base+(ofs-base)+(j:Int)-(ofs+(k:Int))).toNat=j:=by omega
  rw[e,getb j hj]at h5
  exact h4 (by simpa using h5.symm)
 ·right
  have hA:Agree (aU base l) (ofs+k) (b.drop k):=by
   intro p x h2 h3 h4
   rw[hpv]at h4
   have hp:base<=p:=by
    unfold valL at h4
    split at h4
    ·assumption
    ·cases h4
   have h5:=h1 (p-ofs).toNat (by omega) (by omega)
   have ep:base+(ofs-base)+((p-ofs).toNat:Int)=p:=by omega
   rw[ep]at h5
   rw[List.getElem?_drop]
   have e:k+(p-(ofs+(k:Int))).toNat=(p-ofs).toNat:=by omega
   rw[e,getb _ (by omega)]
   congr 1
   apply Classical.byContradiction
   intro hne
   exact h5 ⟨x,h4,fun h=>hne h.symm⟩
  refine⟨hag.2 hA,m,hm,?_⟩
  obtain⟨f1,f2⟩:=fillR_val hw hA
  refine runs_ext f1 (runsOf_wf m base) fun p=>?_
  rw[f2,hpv,pvAt_runsOf,hv]
  by_cases hc:ofs+k<=p/\p<ofs+k+((b.drop k).length:Nat)
  ·rw[if_pos hc,if_pos (by omega),List.getElem?_drop]
   congr 1
   omega
  ·rw[if_neg hc]
   by_cases hc2:base<=p/\base+(ofs-base)<=p/\p<base+(ofs-base)+b.length
   ·omega
   ·rw[if_neg hc2]
def bq(rl:List aL)(first behind:Int):Bool:=decide (behind<=first) || rl.any fun r=>decide (r.1<=first)&&decide (behind<=aq r)
def cT(rs:List (Int×Int)):List aL:=rs.map fun r=>(r.1,List.replicate (r.2-r.1+1).toNat 0)
def PWf:List (Int×Int)->Prop
 |[]=>True
 |r::t=>r.1<=r.2/\(∀q∈t,r.2+1<q.1)/\PWf t
def InR(rs:List (Int×Int))(p:Int):Prop:=∃r∈rs,r.1<=p/\p<=r.2
theorem pwf_mem{rs:List (Int×Int)}(h:PWf rs){r:Int×Int}(hr:r∈rs):r.1<=r.2:=by
 induction rs with
 |nil=>cases hr
 |cons a t ih=>
  rcases List.mem_cons.1 hr with rfl|hr
  ·exact h.1
  ·exact ih h.2.2 hr
theorem pwf_append{a b:List (Int×Int)}:PWf (a++b)↔PWf a/\PWf b/\∀r∈a,∀q∈b,r.2+1<q.1:=by
 induction a with
 |nil=>simp[PWf]
 |cons r t ih=>
  rw[List.cons_append]
  simp only[PWf,ih,List.mem_append,List.mem_cons]
  constructor
  ·rintro⟨h1,h2,h3,h4,h5⟩
   refine⟨⟨h1,fun q hq=>h2 q (.inl hq),h3⟩,h4,?_⟩
   rintro x (rfl|hx) q hq
   ·exact h2 q (.inr hq)
   ·exact h5 x hx q hq
  ·rintro⟨⟨h1,h2,h3⟩,h4,h5⟩
   refine⟨h1,?_,h3,h4,fun x hx q hq=>h5 x (.inr hx) q hq⟩
   rintro q (hq|hq)
   ·exact h2 q hq
   ·exact h5 r (.inl rfl) q hq
theorem prun_behind{r:Int×Int}(h:r.1<=r.2):aq (r.1,List.replicate (r.2-r.1+1).toNat 0)=r.2+1:=by
 unfold aq
 simp only[List.length_replicate]
 omega
theorem prunL_wf{rs:List (Int×Int)}(h:PWf rs):cW (cT rs):=by
 induction rs with
 |nil=>trivial
 |cons r t ih=>
  refine⟨by simp only[List.length_replicate];have:=h.1;omega,fun q hq=>?_,ih h.2.2⟩
  obtain⟨x,hx,rfl⟩:=List.mem_map.1 hq
  have h1:=h.2.1 x hx
  have h2:=h.1
  simp only[List.length_replicate]
  omega
theorem pvAt_prunL{rs:List (Int×Int)}(p:Int):(InR rs p->dx (cT rs) p=some 0)/\(¬InR rs p->dx (cT rs) p=none):=by
 induction rs with
 |nil=>exact⟨fun h=>(by obtain⟨r,hr,_⟩:=h;exact absurd hr (by simp)),fun _=>rfl⟩
 |cons r t ih=>
  have e:cT (r::t)=(r.1,List.replicate (r.2-r.1+1).toNat 0)::cT t:=rfl
  rw[e]
  by_cases hc:r.1<=p/\p<=r.2
  ·rw[eK (by simp only[List.length_replicate];omega)]
   refine⟨fun _=>?_,fun h=>(h ⟨r,by simp,hc⟩).elim⟩
   simp only
   rw[List.getElem?_replicate,if_pos (by omega)]
  ·rw[dE (by simp only[List.length_replicate];omega)]
   refine⟨fun⟨x,hx,h⟩=>ih.1 ?_,fun h=>ih.2 fun⟨x,hx,h'⟩=>h ⟨x,by simp[hx],h'⟩⟩
   rcases List.mem_cons.1 hx with rfl|hx
   ·exact(hc h).elim
   ·exact⟨x,hx,h⟩
theorem covers_prunL{rs:List (Int×Int)}(hw:PWf rs)(n:Int):bq (cT rs) n (n+1)=true↔InR rs n:=by
 unfold bq cT InR
 rw[List.any_map]
 simp only[Bool.or_eq_true,decide_eq_true_iff,List.any_eq_true,Function.comp,Bool.and_eq_true]
 constructor
 ·rintro(h|⟨r,hr,h1,h2⟩)
  ·omega
  ·rw[prun_behind (pwf_mem hw hr)]at h2
   exact⟨r,hr,h1,by omega⟩
 ·rintro⟨r,hr,h1,h2⟩
  exact .inr ⟨r,hr,h1,by rw[prun_behind (pwf_mem hw hr)];omega⟩
def comF(n:Int)(o:Option ComS)(rs:List (Int×Int)):Option ComS:=rs.foldl (fun o r=>o.bind fun st=>cP n st r) o
theorem comTo_fold(n:Int)(rs:List (Int×Int)):∀k,k<=rs.length->comTo n rs k=comF n (some ⟨[],n,n,false⟩) (rs.take k)
 |0,_=>by simp[comTo,comF]
 |k+1,h=>by
  rw[comTo,comTo_fold n rs k (by omega),List.take_add_one,List.getElem?_eq_getElem (by omega)]
  unfold comF
  rw[Option.toList_some,List.foldl_append]
  simp[List.getD,List.getElem?_eq_getElem (show k<rs.length by omega)]
theorem comF_append(n:Int)(o:Option ComS)(a b:List (Int×Int)):comF n o (a++b)=comF n (comF n o a) b:=by unfold comF;rw[List.foldl_append]
theorem comF_none(n:Int)(a:List (Int×Int)):comF n none a=none:=by
 induction a with
 |nil=>rfl
 |cons r t ih=>exact ih
theorem comF_low(n:Int){A:List (Int×Int)}(h:∀r∈A,r.1<=r.2/\r.2+1<n):∀st:ComS,comF n (some st) A=some {st with all:=st.all++A}:=by
 induction A with
 |nil=>intro st;simp[comF]
 |cons r t ih=>
  intro st
  have h0:=h r (by simp)
  have e:cP n st r=some {st with all:=st.all++[r]}:=by
   unfold cP
   rw[if_neg (by omega),if_neg (by omega),if_neg (by omega),if_neg (by omega)]
  show comF n ((some st).bind fun st=>cP n st r) t=_
  rw[Option.bind_some,e,ih (fun q hq=>h q (by simp[hq]))]
  simp
theorem comF_high(n:Int){B:List (Int×Int)}(h:∀r∈B,r.1<=r.2/\n+1<r.1):∀st:ComS,st.inn=true->comF n (some st) B=some {st with all:=st.all++B}:=by
 induction B with
 |nil=>intro st _;simp[comF]
 |cons r t ih=>
  intro st hs
  have h0:=h r (by simp)
  have e:cP n st r=some {st with all:=st.all++[r]}:=by
   unfold cP
   rw[if_neg (by omega),if_neg (by omega),if_neg (by omega),if_neg (by rw[hs];simp)]
  show comF n ((some st).bind fun st=>cP n st r) t=_
  rw[Option.bind_some,e,ih (fun q hq=>h q (by simp[hq])) {st with all:=st.all++[r]} hs]
  simp
theorem comF_last(n:Int){B:List (Int×Int)}(h:∀r∈B,r.1<=r.2/\n+1<r.1)(st:ComS)(hs:st.inn=false):∃st',comF n (some st) B=some st'/\comAll st'=st.all++(st.lo,st.hi)::B/\st'.lo=st.lo/\st'.hi=st.hi:=by
 cases B with
 |nil=>exact⟨st,rfl,by unfold comAll;rw[hs];simp,rfl,rfl⟩
 |cons r t=>
  have h0:=h r (by simp)
  have e:cP n st r=some {st with all:=st.all++[(st.lo,st.hi)]++[r],inn:=true}:=by
   unfold cP
   rw[if_neg (by omega),if_neg (by omega),if_neg (by omega),if_pos ⟨by omega,hs⟩]
  have e2:comF n (some st) (r::t)=comF n (cP n st r) t:=rfl
  rw[e2,e,comF_high n (fun q hq=>h q (by simp[hq])) _ rfl]
  refine⟨_,rfl,?_,rfl,rfl⟩
  unfold comAll
  simp
theorem comFix_map(n lo hi:Int)(hn:lo<=n/\n<=hi){A B:List (Int×Int)}(hA:∀r∈A,r.2<n)(hB:∀r∈B,n<r.1):(A++(lo,hi)::B).map (comFix n lo hi)=A++(lo,hi)::B:=by
 have key:∀l:List (Int×Int),(∀r∈l,¬(r.1<=n/\n<=r.2))->l.map (comFix n lo hi)=l:=by
  intro l h
  induction l with
  |nil=>rfl
  |cons a t ih=>
   rw[List.map_cons,ih (fun r hr=>h r (by simp[hr]))]
   congr 1
   unfold comFix
   rw[if_neg (h a (by simp))]
 rw[List.map_append,List.map_cons,key A (fun r hr=>by have:=hA r hr;omega),key B (fun r hr=>by have:=hB r hr;omega)]
 congr 2
 unfold comFix
 rw[if_pos hn]
theorem comes_runs{rs:List (Int×Int)}(hw:PWf rs)(n:Int):
  (InR rs n->comTo n rs rs.length=none)/\(¬InR rs n->∃st rs',comTo n rs rs.length=some st/\(comAll st).map (comFix n st.lo st.hi)=rs'/\PWf rs'/\dI (cT rs) n [0]=cT rs'/\0<rs'.length/\rs'.length<=rs.length+1/\
   ∀p,InR rs' p↔p=n\/InR rs p):=by
 constructor
 ·rintro⟨r,hr,h1,h2⟩
  rw[comTo_fold n rs _ (Nat.le_refl _),List.take_length]
  obtain⟨a,b,rfl⟩:=List.append_of_mem hr
  rw[comF_append]
  have e:∀o:Option ComS,comF n o (r::b)=none:=by
   intro o
   cases o with
   |none=>exact comF_none n _
   |some st=>
    show comF n (cP n st r) b=none
    unfold cP
    rw[if_pos ⟨h1,h2⟩]
    exact comF_none n b
  exact e _
 ·intro hn
  rw[comTo_fold n rs _ (Nat.le_refl _),List.take_length]
  have s1:=takeWhile_split (fun q:Int×Int=>decide (q.2+1<n)) rs
  generalize hA:rs.takeWhile (fun q=>decide (q.2+1<n))=A at s1
  generalize hR:rs.dropWhile (fun q=>decide (q.2+1<n))=R at s1
  have hwA:=(pwf_append.1 (s1▸hw)).1
  have hwR:=(pwf_append.1 (s1▸hw)).2.1
  have hAR:=(pwf_append.1 (s1▸hw)).2.2
  have hAl:∀r∈A,r.1<=r.2/\r.2+1<n:=fun r hr=>⟨pwf_mem hwA hr,by rw[<-hA]at hr;simpa using takeWhile_all hr⟩
  have hout:∀r∈R,¬(r.1<=n/\n<=r.2):=fun r hr h=>hn ⟨r,by rw[s1];simp[hr],h⟩
  have fin:∀(M B:List (Int×Int)) (lo hi:Int),R=M++B->lo<=n->n<=hi->(∀st:ComS,st.inn=false->st.lo=n->st.hi=n->comF n (some st) M=some {st with lo:=lo,hi:=hi})->(∀r∈B,n+1<r.1)->
    (∀r∈B,hi+1<r.1)->(∀r∈A,r.2+1<lo)->(∀p,(lo<=p/\p<=hi)↔(p=n\/InR M p))->
    ∃st rs',comF n (some ⟨[],n,n,false⟩) rs=some st/\(comAll st).map (comFix n st.lo st.hi)=rs'/\PWf rs'/\dI (cT rs) n [0]=cT rs'/\0<rs'.length/\rs'.length<=rs.length+1/\∀p,InR rs' p↔p=n\/InR rs p:=by
   intro M B lo hi hMB hlo hhi hM hB hB2 hA2 hin
   have c1:comF n (some ⟨[],n,n,false⟩) rs=comF n (some ⟨A,lo,hi,false⟩) B:=by
    rw[s1,hMB,comF_append,comF_low n hAl,comF_append,hM _ rfl rfl rfl]
    simp
   have hwB:PWf B:=(pwf_append.1 (hMB▸hwR)).2.1
   obtain⟨st',c2,c3,c4,c5⟩:=comF_last n (fun r hr=>⟨pwf_mem hwB hr,hB r hr⟩) ⟨A,lo,hi,false⟩ rfl
   have hpw:PWf (A++(lo,hi)::B):=by
    rw[pwf_append]
    refine⟨hwA,⟨by show lo<=hi;omega,fun q hq=>hB2 q hq,hwB⟩,fun r hr q hq=>?_⟩
    rcases List.mem_cons.1 hq with rfl|hq
    ·exact hA2 r hr
    ·exact hAR r hr q (by rw[hMB];simp[hq])
   have hiff:∀p,InR (A++(lo,hi)::B) p↔p=n\/InR rs p:=by
    intro p
    have h1:=hin p
    constructor
    ·rintro⟨r,hr,h2⟩
     rcases List.mem_append.1 hr with hr|hr
     ·exact .inr ⟨r,by rw[s1];simp[hr],h2⟩
     ·rcases List.mem_cons.1 hr with rfl|hr
      ·rcases h1.1 h2 with h3|⟨x,hx,h4⟩
       ·exact .inl h3
       ·exact .inr ⟨x,by rw[s1,hMB];simp[hx],h4⟩
      ·exact .inr ⟨r,by rw[s1,hMB];simp[hr],h2⟩
    ·rintro(h2|⟨r,hr,h2⟩)
     ·exact⟨(lo,hi),by simp,by simp only;omega⟩
     ·rw[s1,hMB]at hr
      rcases List.mem_append.1 hr with hr|hr
      ·exact⟨r,by simp[hr],h2⟩
      ·rcases List.mem_append.1 hr with hr|hr
       ·exact⟨(lo,hi),by simp,h1.2 (.inr ⟨r,hr,h2⟩)⟩
       ·exact⟨r,by simp[hr],h2⟩
   refine⟨st',A++(lo,hi)::B,by rw[c1,c2],?_,hpw,?_,by simp;omega,?_,hiff⟩
   ·rw[c3,c4,c5]
    exact comFix_map n lo hi ⟨hlo,hhi⟩ (fun r hr=>by have:=hAl r hr;omega) (fun r hr=>by have:=hB r hr;omega)
   ·have hag:Agree (cT rs) n [0]:=fun p x h1 h2 h3=>by
     have:p=n:=by simp at h2;omega
     subst this
     rw[(pvAt_prunL p).2 hn]at h3
     cases h3
    obtain⟨f1,f2⟩:=fillR_val (prunL_wf hw) hag
    refine runs_ext f1 (prunL_wf hpw) fun p=>?_
    rw[f2]
    by_cases hp:p=n
    ·subst hp
     rw[if_pos ⟨by omega,by simp;omega⟩,(pvAt_prunL p).1 ((hiff p).2 (.inl rfl))]
     simp
    ·rw[if_neg (by simp;omega)]
     by_cases hi2:InR rs p
     ·rw[(pvAt_prunL p).1 hi2,(pvAt_prunL p).1 ((hiff p).2 (.inr hi2))]
     ·rw[(pvAt_prunL p).2 hi2,(pvAt_prunL p).2 (fun h=>by rcases(hiff p).1 h with h|h;exact hp h;exact hi2 h)]
   ·rw[s1,hMB]
    simp only[List.length_append,List.length_cons]
    omega
  have up:∀(R':List (Int×Int)),PWf R'->(∀r∈R',n<r.1)->∃M B hi,R'=M++B/\n<=hi/\(∀st:ComS,st.inn=false->st.hi=n->comF n (some st) M=some {st with hi:=hi})/\(∀r∈B,n+1<r.1)/\(∀r∈B,hi+1<r.1)/\
    (∀p,(n<=p/\p<=hi)↔(p=n\/InR M p)):=by
   intro R' hw' hgt
   have triv:(∀r∈R',n+1<r.1)->∃M B hi,R'=M++B/\n<=hi/\(∀st:ComS,st.inn=false->st.hi=n->comF n (some st) M=some {st with hi:=hi})/\(∀r∈B,n+1<r.1)/\(∀r∈B,hi+1<r.1)/\
    (∀p,(n<=p/\p<=hi)↔(p=n\/InR M p)):=fun h=>⟨[],R',n,rfl,Int.le_refl _,fun st _ h2=>by simp[comF,<-h2],h,h,fun p=>⟨fun h=>.inl (by omega),fun h=>by
     rcases h with h|⟨r,hr,_⟩
     ·omega
     ·cases hr⟩⟩
   cases R' with
   |nil=>exact triv (by simp)
   |cons a t=>
    by_cases ha:a.1=n+1
    ·refine⟨[a],t,a.2,rfl,by have:=hw'.1;omega,fun st h1 h2=>?_,fun r hr=>by have:=hw'.2.1 r hr;have:=hw'.1;omega,fun r hr=>hw'.2.1 r hr,fun p=>⟨fun h=>?_,fun h=>?_⟩⟩
     ·show cP n st a=_
      unfold cP
      rw[if_neg (by omega),if_neg (by have:=hw'.1;omega),if_pos ha]
     ·by_cases hp:p=n
      ·exact .inl hp
      ·exact .inr ⟨a,by simp,by omega⟩
     ·rcases h with h|⟨r,hr,h⟩
      ·have:=hw'.1;omega
      ·simp at hr;subst hr;omega
    ·refine triv (fun r hr=>?_)
     have h0:=hgt a (by simp)
     rcases List.mem_cons.1 hr with rfl|hr
     ·omega
     ·have:=hw'.2.1 r hr;have:=hw'.1;omega
  cases R with
  |nil=>
   obtain⟨M,B,hi,h1,h2,h3,h4,h5,h6⟩:=up [] trivial (by simp)
   exact fin M B n hi h1 (Int.le_refl _) h2 (fun st a1 a2 a3=>by rw[h3 st a1 a3,<-a2]) h4 h5 (fun r hr=>(hAl r hr).2) h6
  |cons a t=>
   have ha1:n<=a.2+1:=by have:=fY hR;simpa using this
   have ha2:=hout a (by simp)
   by_cases hb:a.2=n-1
   ·obtain⟨M,B,hi,h1,h2,h3,h4,h5,h6⟩:=up t hwR.2.2 (fun r hr=>by have:=hwR.2.1 r hr;omega)
    refine fin (a::M) B a.1 hi (by rw[h1];rfl) (by have:=hwR.1;omega) h2 (fun st a1 a2 a3=>?_) h4 h5 (fun r hr=>hAR r hr a (by simp)) (fun p=>?_)
    ·show comF n (cP n st a) M=_
     have e:cP n st a=some {st with lo:=a.1}:=by
      unfold cP
      rw[if_neg (by omega),if_pos hb]
     rw[e,h3 {st with lo:=a.1} a1 a3]
    ·have h7:=h6 p
     constructor
     ·intro h
      by_cases hp:n<=p
      ·rcases h7.1 ⟨hp,h.2⟩ with h8|⟨r,hr,h8⟩
       ·exact .inl h8
       ·exact .inr ⟨r,by simp[hr],h8⟩
      ·exact .inr ⟨a,by simp,by omega⟩
     ·rintro(h|⟨r,hr,h⟩)
      ·have:=h7.2 (.inl h);have:=hwR.1;omega
      ·rcases List.mem_cons.1 hr with rfl|hr
       ·omega
       ·have:=h7.2 (.inr ⟨r,hr,h⟩);have:=hwR.1;omega
   ·obtain⟨M,B,hi,h1,h2,h3,h4,h5,h6⟩:=up (a::t) hwR (fun r hr=>by
     have h0:n<a.1:=by omega
     rcases List.mem_cons.1 hr with rfl|hr
     ·exact h0
     ·have:=hwR.2.1 r hr;have:=hwR.1;omega)
    exact fin M B n hi h1 (Int.le_refl _) h2 (fun st a1 a2 a3=>by rw[h3 st a1 a3,<-a2]) h4 h5 (fun r hr=>(hAl r hr).2) h6
theorem leadS_cons(x:Int)(l:List Int):bz (x::l)=if 0<=x then bz l+1 else 0:=by
 unfold bz
 rw[List.takeWhile_cons]
 by_cases hx:0<=x<;>simp[hx]
theorem leadS_le(l:List Int):bz l<=l.length:=by
 induction l with
 |nil=>simp[bz]
 |cons x l ih=>rw[leadS_cons];split<;>simp<;>omega
theorem runsOf_lead(l:List Int):∀base:Int,0<bz l->aU base l=(base,l.take (bz l))::aU (base+bz l) (l.drop (bz l)):=by
 induction l with
 |nil=>intro base h;simp[bz]at h
 |cons x l ih=>
  intro base h
  rw[leadS_cons]at h⊢
  by_cases hx:0<=x
  ·rw[if_pos hx,runsOf_cons,if_pos hx]
   by_cases hl:0<bz l
   ·rw[ih (base+1) hl]
    unfold eJ
    simp only[if_true,List.take_succ_cons,List.drop_succ_cons]
    congr 2
    omega
   ·have h0:bz l=0:=by omega
    rw[h0]
    have hh:=runsOf_head (base+1) l
    have hneg:¬0<=l.getD 0 (-1):=by
     cases l with
     |nil=>simp[List.getD]
     |cons y t=>
      rw[leadS_cons]at h0
      split at h0
      ·omega
      ·assumption
    unfold eJ
    cases hr:aU (base+1) l with
    |nil=>simp[hr]
    |cons r t=>
     rw[hr]at hh
     have:r.1≠base+1:=fun e=>hneg (hh.1 (by simp[e]))
     simp[this,hr]
  ·rw[if_neg hx]at h
   omega
theorem leadS_drop(l:List Int):∀k,k<=bz l->bz (l.drop k)=bz l-k:=by
 induction l with
 |nil=>intro k _;simp[bz]
 |cons x l ih=>
  intro k hk
  cases k with
  |zero=>simp
  |succ k=>
   rw[leadS_cons]at hk⊢
   split at hk
   ·rename_i hx
    rw[if_pos hx,List.drop_succ_cons,ih k (by omega)]
    omega
   ·omega
theorem runsOf_nolead(l:List Int)(h:bz l=0)(base:Int):∀q∈aU base l,base<q.1:=by
 cases l with
 |nil=>simp[aU]
 |cons x l=>
  rw[leadS_cons]at h
  split at h
  ·omega
  ·rename_i hx
   intro q hq
   rw[runsOf_cons,if_neg hx]at hq
   have:=runsOf_from l (base+1) q hq
   omega
theorem covers_lead(base:Int)(l:List Int)(tz:Int):bq (aU base l) base tz=decide (tz<=base+bz l):=by
 unfold bq
 rw[Bool.eq_iff_iff]
 simp only[Bool.or_eq_true,decide_eq_true_iff,List.any_eq_true,Bool.and_eq_true]
 have hl:=leadS_le l
 by_cases h:0<bz l
 ·have hw:=runsOf_wf l base
  rw[runsOf_lead l base h]at hw⊢
  have hb:aq (base,l.take (bz l))=base+bz l:=by unfold aq;simp only[List.length_take];omega
  constructor
  ·rintro(h1|⟨r,hr,h1,h2⟩)
   ·omega
   ·rcases List.mem_cons.1 hr with rfl|hr
    ·omega
    ·have:=hw.2.1 r hr
     simp only[List.length_take]at this
     omega
  ·intro h1
   exact .inr ⟨_,List.mem_cons_self,Int.le_refl _,by rw[hb];exact h1⟩
 ·have h0:bz l=0:=by omega
  constructor
  ·rintro(h1|⟨r,hr,h1,h2⟩)
   ·omega
   ·have:=runsOf_nolead l h0 base r hr
    omega
  ·intro h1
   exact .inl (by omega)
structure StrInv(gaps:Int)(x:aQ):Prop where
 read:0<=x.read
 ent:∀b∈x.bytes,-1<=b/\b<256
 len:x.read+x.bytes.length<=x.highest
 fin:0<=x.final->x.highest=x.final
 fin0:-1<=x.final
 rst:x.reset=true->x.bytes=[]/\0<=x.final
 dn:x.done=true->x.bytes=[]/\0<=x.final/\(x.reset=false->x.read=x.final)
 gaps:dQ x.bytes x.bytes.length<=gaps
 cred:x.highest<=x.credit/\x.credit<=1073741823
theorem recvTo_len{l:List Int}{d:Int}{b:List Int}:∀{k:Nat} {m:List Int},eb l d b k=some m->l.length<=m.length/\(m.length:Int)<=max (l.length:Int) (d+k)
 |0,m,h=>by
  simp only[eb,Option.some.injEq]at h
  subst h
  omega
 |k+1,m,h=>by
  simp only[eb,Option.bind_eq_some_iff]at h
  obtain⟨m',h1,h2⟩:=h
  have ih:=recvTo_len h1
  split at h2
  ·simp only[Option.some.injEq]at h2
   subst h2
   omega
  ·unfold writeS at h2
   split at h2
   ·cases h2
   ·simp only[Option.some.injEq]at h2
    subst h2
    unfold dH
    simp only[List.length_set,List.length_append,List.length_replicate]
    omega
theorem recvTo_ent{l:List Int}{d:Int}{b:List Int}(hb:Bytes b)(hl:∀x∈l,-1<=x/\x<256):∀{k:Nat} {m:List Int},k<=b.length->eb l d b k=some m->∀x∈m,-1<=x/\x<256
 |0,m,_,h=>by
  simp only[eb,Option.some.injEq]at h
  subst h
  exact hl
 |k+1,m,hk,h=>by
  simp only[eb,Option.bind_eq_some_iff]at h
  obtain⟨m',h1,h2⟩:=h
  have ih:=recvTo_ent hb hl (by omega) h1
  split at h2
  ·simp only[Option.some.injEq]at h2
   subst h2
   exact ih
  ·unfold writeS at h2
   split at h2
   ·cases h2
   ·simp only[Option.some.injEq]at h2
    subst h2
    intro x hx
    rcases List.mem_or_eq_of_mem_set hx with hx|rfl
    ·unfold dH at hx
     rcases List.mem_append.1 hx with hx|hx
     ·exact ih x hx
     ·have:=(List.mem_replicate.1 hx).2
      omega
    ·have:=hb b[k] (List.getElem_mem _)
     simp only[List.getD,List.getElem?_eq_getElem (show k<b.length by omega),Option.getD_some]
     omega
theorem strDeal_inv{gaps credit high:Int}{f:dM}{x:aQ}(hb:Bytes f.bytes)(ho:0<=f.ofs)(hg:0<=gaps)(hx:StrInv gaps x):StrInv gaps (be gaps credit high f x).2:=by
 unfold be
 simp only
 generalize he:f.ofs+(f.bytes.length:Int)=e
 by_cases hbad:badF x e (decide (f.type≠3))=true
 ·rw[if_pos hbad];exact hx
 rw[if_neg hbad]
 by_cases hd:x.done=true
 ·rw[if_pos hd];exact hx
 rw[if_neg hd]
 by_cases hov:overS x e credit high=true
 ·rw[if_pos hov];exact hx
 rw[if_neg hov]
 have hd':x.done=false:=by simpa using hd
 have pass:∀r:aQ,r.read=x.read->r.highest=x.highest->r.final=x.final->r.reset=x.reset->r.done=x.done->r.credit=x.credit->(∀b∈r.bytes,-1<=b/\b<256)->r.read+r.bytes.length<=max x.highest e->
   (r.reset=true->r.bytes=[])->dQ r.bytes r.bytes.length<=gaps->StrInv gaps (ft f x r):=by
  intro r r1 r2 r3 r4 r5 r6 r7 r8 r9 r10
  have hbad':badF x e (decide (f.type≠3))=false:=by simpa using hbad
  have hov':overS x e credit high=false:=by simpa using hov
  unfold badF at hbad'
  unfold overS at hov'
  simp only[hd',Bool.not_false,Bool.true_and,Bool.or_eq_false_iff,Bool.and_eq_false_iff,decide_eq_false_iff_not]at hbad' hov'
  have hm:x.highest+fR x e=max x.highest e:=by unfold fR;split<;>omega
  have c1:=hx.cred
  have f1:=hx.fin
  have f0:=hx.fin0
  have y:StrInv gaps {r with highest:=x.highest+fR x e,final:=if f.type≠3 then e else r.final}:=by
   refine⟨by rw[r1];exact hx.read,r7,by simp only;rw[hm];exact r8,?_,?_,?_,?_,r10,?_⟩
   ·simp only
    rw[hm,r3]
    by_cases ht:f.type≠3
    ·rw[if_pos ht]
     intro _
     have:¬e<x.highest:=by
      rcases hbad'.2 with h|h
      ·exact absurd h (by simpa using ht)
      ·exact h
     omega
    ·rw[if_neg ht]
     intro h0
     have h1:=f1 h0
     rcases hbad'.1 with h|h
     ·omega
     ·omega
   ·simp only
    split
    ·omega
    ·rw[r3];exact f0
   ·simp only
    intro h
    refine⟨r9 h,?_⟩
    split
    ·omega
    ·rw[r3];exact(hx.rst (r4▸h)).2
   ·simp only
    intro h
    rw[r5,hd']at h
    cases h
   ·simp only
    rw[hm,r6]
    have:=hov'.1
    omega
  have key:∀Y:aQ,StrInv gaps Y->(f.type=5->0<=Y.final)->Y.done=false->StrInv gaps (if f.type=5/\allS Y=false then {Y with reset:=true,bytes:=[]} else Y):=by
   intro Y hY h6 h7
   split
   ·rename_i hc
    refine⟨hY.read,by simp,?_,hY.fin,hY.fin0,fun _=>⟨rfl,h6 hc.1⟩,?_,by simpa[dQ] using hg,hY.cred⟩
    ·have:=hY.len
     simp only[List.length_nil]at this⊢
     omega
    ·intro h
     rw[h7]at h
     cases h
   ·exact hY
  unfold ft
  simp only[he]
  refine key _ y (fun h=>?_) (by simp only;rw[r5];exact hd')
  simp only
  rw[if_pos (by omega)]
  omega
 by_cases hr:f.type≠5/\x.reset=false
 ·rw[if_pos hr]
  by_cases hc:(dk gaps x f.ofs f.bytes).1≠0
  ·rw[if_pos hc];exact hx
  ·rw[if_neg hc]
   unfold dk at hc⊢
   cases hm:eb x.bytes (f.ofs-x.read) f.bytes f.bytes.length with
   |none=>rw[hm]at hc;simp at hc
   |some m=>
    rw[hm]at hc
    simp only at hc⊢
    split at hc
    ·simp at hc
    ·rename_i hgp
     rw[if_neg hgp]
     have hl:=recvTo_len hm
     refine pass _ rfl rfl rfl rfl rfl rfl (recvTo_ent hb hx.ent (Nat.le_refl _) hm) ?_ (fun h=>?_) (by simp only;omega)
     ·have:=hx.len
      simp only
      omega
     ·simp only at h
      rw[hr.2]at h
      cases h
 ·rw[if_neg hr]
  exact pass x rfl rfl rfl rfl rfl rfl hx.ent (by have:=hx.len;omega) (fun h=>(hx.rst h).1) hx.gaps
end Go.Proofs.YthmdjhlhodpbhaaGreatDoor
namespace Go.Proofs.YthmdjhlhodpbhaaGreatDoor
open Go.RowKit
theorem getD_range{ns:List Int}(h:∀n∈ns,0<=n/\n<1073741824)(k:Nat):0<=ns.getD k 0/\ns.getD k 0<=1073741823:=by
 rcases Nat.lt_or_ge k ns.length with h1|h1
 ·have:=h _ (List.getElem_mem h1)
  simp only[List.getD,List.getElem?_eq_getElem h1,Option.getD_some]
  omega
 ·simp[List.getD,List.getElem?_eq_none h1]
theorem counts_type{t:Int}{c:Nat}(h:dh t=some c):(t=0\/t=1\/t=3\/t=4\/t=5\/t=6\/t=7):=by
 unfold dh at h
 repeat' split at h
 all_goals first|omega |(simp at h)
theorem frameS_ok{b:List Int}(hb:Bytes b)(hp:0<b.length){f:dM}{size:Nat}(h:bS b=some (f,size)):FrmOk f/\0<size/\size<=b.length/\f.bytes.length<=b.length:=by
 unfold bS at h
 cases hc:dh (b.getD 0 0) with
 |none=>rw[hc]at h;cases h
 |some c=>
  rw[hc]at h
  simp only at h
  have ht:=counts_type hc
  cases hn:bI b c with
  |none=>rw[hn]at h;cases c<;>simp at h
  |some x=>
   obtain⟨ns,a⟩:=x
   obtain⟨h1,h2,h3,h4⟩:=numsTo_facts hb hp c hn
   rw[hn]at h
   have g0:=getD_range h4 0
   have g1:=getD_range h4 1
   have g2:=getD_range h4 2
   match c,h with
   |0,h=>
    simp only[Option.some.injEq,Prod.mk.injEq]at h
    obtain⟨rfl,rfl⟩:=h
    exact⟨⟨ht,by simp,by simp⟩,by omega,h3,by simp⟩
   |1,h=>
    simp only[Option.some.injEq,Prod.mk.injEq]at h
    obtain⟨rfl,rfl⟩:=h
    exact⟨⟨ht,by simp,by simp⟩,by omega,h3,by simp⟩
   |2,h=>
    simp only[Option.some.injEq,Prod.mk.injEq]at h
    obtain⟨rfl,rfl⟩:=h
    exact⟨⟨ht,g0,g1⟩,by omega,h3,by simp⟩
   |k+3,h=>
    simp only at h
    split at h
    ·cases h
    ·simp only[Option.some.injEq,Prod.mk.injEq]at h
     obtain⟨rfl,rfl⟩:=h
     refine⟨⟨ht,g0,g1⟩,by omega,by omega,?_⟩
     simp only[List.length_take,List.length_drop]
     omega
theorem recvS_ok{gaps:Int}{x:aQ}{ofs:Int}{b:List Int}(hx:StrOk x)(h0:0<=ofs)(h1:ofs+b.length<=1073741823):StrOk (dk gaps x ofs b).2:=by
 unfold dk
 split
 ·exact hx
 ·next l hl=>
  split
  ·exact hx
  ·have:=recvTo_len hl
   have h2:=hx.bytes
   have h3:=hx.read
   exact⟨by simp only;omega,hx.read,hx.highest,hx.credit,hx.final⟩
theorem strDeal_ok{gaps credit high:Int}{f:dM}{x:aQ}(hf:FrmOk f)(hx:StrOk x):StrOk (be gaps credit high f x).2:=by
 have hp:∀r:aQ,StrOk r->f.ofs+(f.bytes.length:Int)<=x.credit->StrOk (ft f x r):=by
  intro r hr he
  have h1:=hx.credit
  have h2:=hx.highest
  have h3:=hf.ofs
  have hm:0<=x.highest+fR x (f.ofs+f.bytes.length)/\x.highest+fR x (f.ofs+f.bytes.length)<=1073741823:=by unfold fR;split<;>omega
  have hfi:-1<=(if f.type≠3 then f.ofs+(f.bytes.length:Int) else r.final)/\(if f.type≠3 then f.ofs+(f.bytes.length:Int) else r.final)<=1073741823:=by
   have:=hr.final
   split<;>omega
  have hy:∀y:aQ,StrOk y->StrOk (if f.type=5/\allS y=false then {y with reset:=true,bytes:=[]} else y):=by
   intro y hy
   split
   ·exact⟨by simp,hy.read,hy.highest,hy.credit,hy.final⟩
   ·exact hy
  exact hy _ ⟨hr.bytes,hr.read,hm,hr.credit,hfi⟩
 unfold be
 simp only
 split
 ·exact hx
 ·split
  ·exact hx
  ·split
   ·exact hx
   ·next hov=>
    have hov':¬x.credit<f.ofs+(f.bytes.length:Int):=by
     intro h
     apply hov
     unfold overS
     rw[decide_eq_true h]
     rfl
    have h1:=hx.credit
    split
    ·split
     ·exact hx
     ·exact hp _ (recvS_ok hx hf.ofs.1 (by omega)) (by omega)
    ·exact hp _ hx (by omega)
theorem strDeal_range{gaps credit high:Int}{f:dM}{x:aQ}:0<=(be gaps credit high f x).1/\(be gaps credit high f x).1<=10:=by
 have h1:0<=(dk gaps x f.ofs f.bytes).1/\(dk gaps x f.ofs f.bytes).1<=10:=by
  unfold dk
  split
  ·simp
  ·split<;>simp
 unfold be
 simp only
 repeat' split
 all_goals first |(simp;done)|exact h1
end Go.Proofs.YthmdjhlhodpbhaaGreatDoor
namespace Go.Proofs.YthmdjhlhodpbhaaGreatDoor
theorem conDeal_ok{M gaps:Int}{f:dM}{c:au}(hf:FrmOk f)(hc:ConOk M c):ConOk M (bG gaps f c).2/\(bG gaps f c).2.cid=c.cid/\(bG gaps f c).2.proven=c.proven:=by
 unfold bG
 split
 ·exact⟨hc,rfl,rfl⟩
 ·next x hx=>
  refine⟨⟨hc.cid,hc.addr,hc.got,hc.sent,hc.heard,hc.runs,hc.credit,by simpa using hc.slen,fun y hy=>?_⟩,rfl,rfl⟩
  simp only at hy
  rcases List.mem_or_eq_of_mem_set hy with h1|h1
  ·exact hc.str y h1
  ·rw[h1]
   exact strDeal_ok hf (hc.str x (List.mem_of_getElem? hx))
theorem conDeal_range{gaps:Int}{f:dM}{c:au}:0<=(bG gaps f c).1/\(bG gaps f c).1<=10:=by
 unfold bG
 split
 ·simp
 ·exact strDeal_range
theorem map_set_cid{l:List au}{i:Nat}{c c':au}(h:l[i]? =some c)(hc:c'.cid=c.cid):(l.set i c').map (·.cid)=l.map (·.cid):=by
 rw[List.map_set,hc]
 exact eL (by rw[List.getElem?_map,h];rfl)
end Go.Proofs.YthmdjhlhodpbhaaGreatDoor
