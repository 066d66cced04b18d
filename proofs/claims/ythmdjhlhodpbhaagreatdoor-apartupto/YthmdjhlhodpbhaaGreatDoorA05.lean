/- Apart, 5 -/
import Derived.Test.YthmdjhlhodpbhaaGreatDoorA01
import Derived.Test.YthmdjhlhodpbhaaGreatDoorA02
import Derived.Test.YthmdjhlhodpbhaaGreatDoorA04
set_option maxHeartbeats 16000000
set_option maxRecDepth 8000
namespace Go.Proofs.YthmdjhlhodpbhaaGreatDoor
theorem valL_grown(base:Int)(l:List Int)(n:Nat)(p:Int):ij base (l++List.replicate n (-1)) p=ij base l p:=by
 unfold ij
 by_cases h:base<=p
 ·rw[if_pos h,if_pos h]
  rcases Nat.lt_or_ge (p-base).toNat l.length with h1|h1
  ·rw[List.getElem?_append_left h1]
  ·rw[List.getElem?_append_right h1,List.getElem?_eq_none h1,List.getElem?_replicate]
   split
   ·rename_i hx
    split at hx
    ·cases hx;simp
    ·cases hx
   ·rfl
 ·rw[if_neg h,if_neg h]
theorem valL_set(base:Int){l:List Int}{k:Nat}(hk:k<l.length){x:Int}(hx:0<=x)(p:Int):ij base (l.set k x) p=if p=base+k then some x else ij base l p:=by
 unfold ij
 by_cases h:base<=p
 ·rw[if_pos h,if_pos h,List.getElem?_set]
  by_cases h1:p=base+k
  ·rw[if_pos h1,if_pos (by omega),if_pos hk]
   simp[hx]
  ·rw[if_neg h1,if_neg (by omega)]
 ·rw[if_neg h,if_neg h,if_neg (by omega)]
def oR(base:Int)(l:List Int)(p x:Int):Prop:=∃y,ij base l p=some y/\y≠x
theorem writeS_is(base:Int)(l:List Int)(k:Nat){x:Int}(hx:0<=x):(oR base l (base+k) x/\me l k x=none)\/
  (¬oR base l (base+k) x/\∃m,me l k x=some m/\∀p,ij base m p=if p=base+k then some x else ij base l p):=by
 have hg:∀p,ij base (dJ l k) p=ij base l p:=fun p=>valL_grown base l _ p
 have hlen:k<(dJ l k).length:=by unfold dJ;simp only[List.length_append,List.length_replicate];omega
 have hat:ij base l (base+k)=if 0<=(dJ l k).getD k (-1) then some ((dJ l k).getD k (-1)) else none:=by
  rw[<-hg]
  unfold ij
  have e:(base+(k:Int)-base).toNat=k:=by omega
  rw[if_pos (by omega),e,lGe hlen]
  simp[List.getD,lGe hlen]
 unfold me
 generalize hq:(dJ l k).getD k (-1)=q at hat⊢
 by_cases hc:0<=q/\q≠x
 ·left
  refine⟨⟨q,by rw[hat,if_pos hc.1],hc.2⟩,by simp[hc]⟩
 ·right
  refine⟨?_,(dJ l k).set k x,?_,fun p=>?_⟩
  ·rintro⟨y,h1,h2⟩
   rw[hat]at h1
   split at h1
   ·cases h1
    exact hc ⟨by assumption,h2⟩
   ·cases h1
  ·rw[if_neg]
   simpa using hc
  ·rw[valL_set base hlen hx,hg]
theorem si(base:Int)(l:List Int)(d:Int){b:List Int}(hb:Bytes b):∀(k:Nat),k<=b.length->
  (eg l d b k=none/\∃j:Nat,j<k/\0<=d+j/\oR base l (base+d+j) (b.getD j 0))\/
  ((∀j:Nat,j<k->0<=d+j->¬oR base l (base+d+j) (b.getD j 0))/\∃m,eg l d b k=some m/\
   ∀p,ij base m p=if base<=p/\base+d<=p/\p<base+d+k then b[(p-base-d).toNat]? else ij base l p)
 |0,_=>.inr ⟨fun j hj=>by omega,l,rfl,fun p=>by rw[if_neg (by omega)]⟩
 |k+1,hk=>by
  have hx:0<=b.getD k 0:=by
   have:=hb b[k] (List.getElem_mem _)
   simp only[List.getD,lGe (show k<b.length by omega),Option.getD_some]
   exact this.1
  have hbk:b[k]? =some (b.getD k 0):=by simp[List.getD,lGe (show k<b.length by omega)]
  rcases si base l d hb k (by omega) with⟨h1,j,hj,h2,h3⟩|⟨h1,m,hm,hv⟩
  ·left
   exact⟨by simp[eg,h1],j,by omega,h2,h3⟩
  ·by_cases hd:d+(k:Int)<0
   ·right
    refine⟨fun j hj h=>?_,m,by simp[eg,hm,hd],fun p=>?_⟩
    ·by_cases e:j=k
     ·omega
     ·exact h1 j (by omega) h
    ·rw[hv p]
     by_cases hc:base<=p/\base+d<=p/\p<base+d+k
     ·rw[if_pos hc,if_pos (by omega)]
     ·rw[if_neg hc,if_neg (by omega)]
   ·have same:ij base m (base+d+k)=ij base l (base+d+k):=by rw[hv,if_neg (by omega)]
    have ek:base+((d+(k:Int)).toNat:Int)=base+d+k:=by omega
    have hcl:oR base m (base+d+k) (b.getD k 0)↔oR base l (base+d+k) (b.getD k 0):=by unfold oR;rw[same]
    rcases writeS_is base m (d+(k:Int)).toNat hx with⟨hc,hw⟩|⟨hc,m2,hw,hv2⟩
    ·rw[ek,hcl]at hc
     left
     exact⟨by simp only[eg,hm,Option.bind_some,if_neg hd,hw],k,by omega,by omega,hc⟩
    ·rw[ek,hcl]at hc
     rw[ek]at hv2
     right
     refine⟨fun j hj h=>?_,m2,by simp only[eg,hm,Option.bind_some,if_neg hd,hw],fun p=>?_⟩
     ·by_cases e:j=k
      ·subst e;exact hc
      ·exact h1 j (by omega) h
     ·rw[hv2 p,hv p]
      by_cases e:p=base+d+k
      ·rw[if_pos e,if_pos (by omega)]
       have:(p-base-d).toNat=k:=by omega
       rw[this,hbk]
      ·rw[if_neg e]
       by_cases hc2:base<=p/\base+d<=p/\p<base+d+k
       ·rw[if_pos hc2,if_pos (by omega)]
       ·rw[if_neg hc2,if_neg (by omega)]
theorem ki(x:Int)(l:List Int)(k:Nat):(x::l).getD (k+1) (-1)=l.getD k (-1):=by simp[List.getD]
theorem mY(l:List Int):lu l 0=decide (0<=l.getD 0 (-1)):=by simp[lu]
theorem mX(l:List Int)(k:Nat):lu l (k+1)=(decide (0<=l.getD (k+1) (-1))&&decide (l.getD k (-1)<0)):=by simp[lu]
theorem oo(x:Int)(l:List Int):∀k,dS (x::l) (k+1)=(if 0<=x then 1 else 0)+dS l k-(if 0<=x/\0<=l.getD 0 (-1)/\0<k then 1 else 0)
 |0=>by
  have e:(x::l).getD 0 (-1)=x:=rfl
  rw[dS,dS,mY,e]
  by_cases hx:0<=x<;>simp[hx,dS]
 |k+1=>by
  have h:=oo x l k
  rw[dS,h,mX,ki]
  have e0:dS l (k+1)=dS l k+if lu l k then 1 else 0:=rfl
  rw[e0]
  cases k with
  |zero=>
   have e:(x::l).getD 0 (-1)=x:=rfl
   rw[mY,e]
   generalize l.getD 0 (-1)=y
   by_cases hx:0<=x<;>by_cases hy:0<=y<;>simp[hx,hy]<;>omega
  |succ k=>
   rw[mX,ki]
   simp only[Nat.zero_lt_succ,and_true]
   omega
theorem pe(base x:Int)(rs:List aO):((eO base x rs).length:Int)=rs.length+1-(if(rs.head?.map (·.1))=some (base+1) then 1 else 0):=by
 unfold eO
 cases rs with
 |nil=>simp
 |cons r t=>
  simp only[List.head?_cons,Option.map_some,Option.some.injEq]
  split
  ·simp
  ·simp
theorem om(base:Int)(l:List Int):(((aX base l).head?.map (·.1))=some base)↔0<=l.getD 0 (-1):=by
 cases l with
 |nil=>simp[aX,List.getD]
 |cons x l=>
  have e:(x::l).getD 0 (-1)=x:=rfl
  rw[e]
  unfold aX
  by_cases hx:0<=x
  ·rw[if_pos hx]
   unfold eO
   split
   ·simp[hx]
   ·split<;>simp[hx]
  ·rw[if_neg hx]
   constructor
   ·intro h
    cases hr:aX (base+1) l with
    |nil=>rw[hr]at h;simp at h
    |cons r t=>
     rw[hr]at h
     simp at h
     have:=gO l (base+1) r (by rw[hr];simp)
     omega
   ·intro h;exact(hx h).elim
theorem iW(base x:Int)(l:List Int):aX base (x::l)=if 0<=x then eO base x (aX (base+1) l) else aX (base+1) l:=rfl
theorem df(l:List Int):∀base:Int,((aX base l).length:Int)=dS l l.length:=by
 induction l with
 |nil=>intro base;simp[aX,dS]
 |cons x l ih=>
  intro base
  rw[List.length_cons,oo,<-ih (base+1),iW]
  by_cases hx:0<=x
  ·rw[if_pos hx,if_pos hx,pe]
   have hh:=om (base+1) l
   by_cases hy:0<=l.getD 0 (-1)
   ·rw[if_pos (hh.2 hy),if_pos ⟨hx,hy,by
     cases l with
     |nil=>simp[List.getD]at hy
     |cons a t=>simp⟩]
    omega
   ·rw[if_neg (fun h=>hy (hh.1 h)),if_neg (fun h=>hy h.2.1)]
    omega
  ·rw[if_neg hx,if_neg hx,if_neg (fun h=>hx h.1)]
   omega
def jI(rl:List aO):Nat:=(rl.map fun r=>r.2.length).sum
def jx(l:List Int):Nat:=l.countP fun x=>decide (0<=x)
theorem tE(l:List Int):∀base:Int,jI (aX base l)=jx l:=by
 induction l with
 |nil=>intro base;rfl
 |cons x l ih=>
  intro base
  have h:=ih (base+1)
  unfold jx jI at *
  rw[List.countP_cons,iW]
  by_cases hx:0<=x
  ·rw[if_pos hx]
   simp only[hx,decide_true,if_true]
   rw[<-h]
   unfold eO
   split
   ·rename_i e;simp[e]
   ·rename_i r t e
    rw[e]
    split
    ·simp;omega
    ·simp;omega
  ·rw[if_neg hx]
   simp only[hx,decide_false]
   simpa using h
def gM(first:Int)(items:List Int)(r:aO):Bool:=
 if max first r.1<min (first+items.length) (au r) then
  decide ((r.2.drop (max first r.1-r.1).toNat).take (min (first+items.length) (au r)-max first r.1).toNat=(items.drop (max first r.1-first).toNat).take (min (first+items.length) (au r)-max first r.1).toNat)
 else true
def eb(rl:List aO)(first:Int)(items:List Int):Bool:=rl.all (gM first items)
theorem jL(first:Int)(items:List Int)(r:aO):gM first items r=true↔∀p,first<=p->p<first+items.length->r.1<=p->p<au r->r.2[(p-r.1).toNat]? =items[(p-first).toNat]?:=by
 unfold gM
 generalize hf:max first r.1=f
 generalize ht:min (first+items.length) (au r)=t
 have hb:au r=r.1+r.2.length:=rfl
 by_cases hc:f<t
 ·rw[if_pos hc,decide_eq_true_iff]
  constructor
  ·intro h p h1 h2 h3 h4
   have h5:=congrArg (fun l=>l[(p-f).toNat]?) h
   rw[List.getElem?_take_of_lt (by omega),List.getElem?_take_of_lt (by omega),List.getElem?_drop,List.getElem?_drop]at h5
   have e1:(f-r.1).toNat+(p-f).toNat=(p-r.1).toNat:=by omega
   have e2:(f-first).toNat+(p-f).toNat=(p-first).toNat:=by omega
   rw[e1,e2]at h5
   exact h5
  ·intro h
   apply List.ext_getElem?
   intro i
   rcases Nat.lt_or_ge i (t-f).toNat with hi|hi
   ·rw[List.getElem?_take_of_lt hi,List.getElem?_take_of_lt hi,List.getElem?_drop,List.getElem?_drop]
    have h5:=h (f+i) (by omega) (by omega) (by omega) (by omega)
    have e1:(f+(i:Int)-r.1).toNat=(f-r.1).toNat+i:=by omega
    have e2:(f+(i:Int)-first).toNat=(f-first).toNat+i:=by omega
    rw[e1,e2]at h5
    exact h5
   ·rw[List.getElem?_eq_none (by simp;omega),List.getElem?_eq_none (by simp;omega)]
 ·rw[if_neg hc]
  simp only[true_iff]
  intro p h1 h2 h3 h4
  omega
theorem uk{rl:List aO}(hw:cY rl)(first:Int)(items:List Int):eb rl first items=true↔rp rl first items:=by
 unfold eb
 rw[List.all_eq_true]
 have mem:∀{rl:List aO},cY rl->∀r∈rl,∀p,r.1<=p->p<au r->dB rl p=r.2[(p-r.1).toNat]?:=by
  intro rl hw r hr p h1 h2
  induction rl with
  |nil=>cases hr
  |cons a t ih=>
   rcases List.mem_cons.1 hr with rfl|hr
   ·exact eQ ⟨h1,h2⟩
   ·have:=hw.2.1 r hr
    rw[dK (by omega)]
    exact ih hw.2.2 hr
 constructor
 ·intro h p x h1 h2 h3
  obtain⟨r,hr,h4,h5⟩:=rY h3
  have h6:=(jL first items r).1 (h r hr) p h1 h2 h4 h5
  rw[<-h6,<-mem hw r hr p h4 h5]
  exact h3
 ·intro h r hr
  rw[jL]
  intro p h1 h2 h3 h4
  have h5:=mem hw r hr p h3 h4
  have hb:au r=r.1+r.2.length:=rfl
  rw[lGe (by omega)]at h5⊢
  exact(h p _ h1 h2 h5).symm
def fe(read ofs:Int)(b:List Int):Nat:=(min (max (read-ofs) 0) b.length).toNat
theorem recv_runs(base:Int)(l:List Int)(ofs:Int){b:List Int}(hb:Bytes b):
  (eb (aX base l) (ofs+fe base ofs b) (b.drop (fe base ofs b))=false/\eg l (ofs-base) b b.length=none)\/
  (eb (aX base l) (ofs+fe base ofs b) (b.drop (fe base ofs b))=true/\∃m,eg l (ofs-base) b b.length=some m/\
   dI (aX base l) (ofs+fe base ofs b) (b.drop (fe base ofs b))=aX base m):=by
 have hw:=jG l base
 have hs:(fe base ofs b:Int)=min (max (base-ofs) 0) b.length:=by unfold fe;omega
 generalize hk:fe base ofs b=k at hs⊢
 have hl:((b.drop k).length:Int)=b.length-k:=by simp only[List.length_drop];omega
 have hag:=uk hw (ofs+k) (b.drop k)
 have hpv:∀p,dB (aX base l) p=ij base l p:=oh l base
 have getb:∀j:Nat,j<b.length->b[j]? =some (b.getD j 0):=fun j hj=>by simp[List.getD,lGe hj]
 rcases si base l (ofs-base) hb b.length (Nat.le_refl _) with⟨h1,j,hj,h2,y,h3,h4⟩|⟨h1,m,hm,hv⟩
 ·left
  refine⟨?_,h1⟩
  rw[<-Bool.not_eq_true]
  intro h
  have h5:=(hag.1 h) (base+(ofs-base)+j) y (by omega) (by omega) (by rw[hpv];exact h3)
  rw[List.getElem?_drop]at h5
  have e:k+(base+(ofs-base)+(j:Int)-(ofs+(k:Int))).toNat=j:=by omega
  rw[e,getb j hj]at h5
  exact h4 (by simpa using h5.symm)
 ·right
  have hA:rp (aX base l) (ofs+k) (b.drop k):=by
   intro p x h2 h3 h4
   rw[hpv]at h4
   have hp:base<=p:=by
    unfold ij at h4
    split at h4
    ·assumption
    ·cases h4
   have h5:=h1 (p-ofs).toNat (by omega) (by omega)
   have ep:base+(ofs-base)+((p-ofs).toNat:Int)=p:=by omega
   rw[ep]at h5
   rw[List.getElem?_drop]
   have e:k+(p-(ofs+(k:Int))).toNat=(p-ofs).toNat:=by omega
   rw[e,getb _ (by omega)]
   congr 1
   apply Classical.byContradiction
   intro hne
   exact h5 ⟨x,h4,fun h=>hne h.symm⟩
  refine⟨hag.2 hA,m,hm,?_⟩
  obtain⟨f1,f2⟩:=rH hw hA
  refine qa f1 (jG m base) fun p=>?_
  rw[f2,hpv,oh,hv]
  by_cases hc:ofs+k<=p/\p<ofs+k+((b.drop k).length:Nat)
  ·rw[if_pos hc,if_pos (by omega),List.getElem?_drop]
   congr 1
   omega
  ·rw[if_neg hc]
   by_cases hc2:base<=p/\base+(ofs-base)<=p/\p<base+(ofs-base)+b.length
   ·omega
   ·rw[if_neg hc2]
def bu(rl:List aO)(first behind:Int):Bool:=decide (behind<=first) || rl.any fun r=>decide (r.1<=first)&&decide (behind<=au r)
def cW(rs:List (Int×Int)):List aO:=rs.map fun r=>(r.1,List.replicate (r.2-r.1+1).toNat 0)
def PWf:List (Int×Int)->Prop
 |[]=>True
 |r::t=>r.1<=r.2/\(∀q∈t,r.2+1<q.1)/\PWf t
def InR(rs:List (Int×Int))(p:Int):Prop:=∃r∈rs,r.1<=p/\p<=r.2
theorem ka{rs:List (Int×Int)}(h:PWf rs){r:Int×Int}(hr:r∈rs):r.1<=r.2:=by
 induction rs with
 |nil=>cases hr
 |cons a t ih=>
  rcases List.mem_cons.1 hr with rfl|hr
  ·exact h.1
  ·exact ih h.2.2 hr
theorem gC{a b:List (Int×Int)}:PWf (a++b)↔PWf a/\PWf b/\∀r∈a,∀q∈b,r.2+1<q.1:=by
 induction a with
 |nil=>simp[PWf]
 |cons r t ih=>
  rw[List.cons_append]
  simp only[PWf,ih,List.mem_append,List.mem_cons]
  constructor
  ·rintro⟨h1,h2,h3,h4,h5⟩
   refine⟨⟨h1,fun q hq=>h2 q (.inl hq),h3⟩,h4,?_⟩
   rintro x (rfl|hx) q hq
   ·exact h2 q (.inr hq)
   ·exact h5 x hx q hq
  ·rintro⟨⟨h1,h2,h3⟩,h4,h5⟩
   refine⟨h1,?_,h3,h4,fun x hx q hq=>h5 x (.inr hx) q hq⟩
   rintro q (hq|hq)
   ·exact h2 q hq
   ·exact h5 r (.inl rfl) q hq
theorem iV{r:Int×Int}(h:r.1<=r.2):au (r.1,List.replicate (r.2-r.1+1).toNat 0)=r.2+1:=by
 unfold au
 simp only[List.length_replicate]
 omega
theorem pP{rs:List (Int×Int)}(h:PWf rs):cY (cW rs):=by
 induction rs with
 |nil=>trivial
 |cons r t ih=>
  refine⟨by simp only[List.length_replicate];have:=h.1;omega,fun q hq=>?_,ih h.2.2⟩
  obtain⟨x,hx,rfl⟩:=List.mem_map.1 hq
  have h1:=h.2.1 x hx
  have h2:=h.1
  simp only[List.length_replicate]
  omega
theorem gB{rs:List (Int×Int)}(p:Int):(InR rs p->dB (cW rs) p=some 0)/\(¬InR rs p->dB (cW rs) p=none):=by
 induction rs with
 |nil=>exact⟨fun h=>(by obtain⟨r,hr,_⟩:=h;exact absurd hr (by simp)),fun _=>rfl⟩
 |cons r t ih=>
  have e:cW (r::t)=(r.1,List.replicate (r.2-r.1+1).toNat 0)::cW t:=rfl
  rw[e]
  by_cases hc:r.1<=p/\p<=r.2
  ·rw[eQ (by simp only[List.length_replicate];omega)]
   refine⟨fun _=>?_,fun h=>(h ⟨r,by simp,hc⟩).elim⟩
   simp only
   rw[List.getElem?_replicate,if_pos (by omega)]
  ·rw[dK (by simp only[List.length_replicate];omega)]
   refine⟨fun⟨x,hx,h⟩=>ih.1 ?_,fun h=>ih.2 fun⟨x,hx,h'⟩=>h ⟨x,by simp[hx],h'⟩⟩
   rcases List.mem_cons.1 hx with rfl|hx
   ·exact(hc h).elim
   ·exact⟨x,hx,h⟩
theorem sR{rs:List (Int×Int)}(hw:PWf rs)(n:Int):bu (cW rs) n (n+1)=true↔InR rs n:=by
 unfold bu cW InR
 rw[List.any_map]
 simp only[Bool.or_eq_true,decide_eq_true_iff,List.any_eq_true,Function.comp,Bool.and_eq_true]
 constructor
 ·rintro(h|⟨r,hr,h1,h2⟩)
  ·omega
  ·rw[iV (ka hw hr)]at h2
   exact⟨r,hr,h1,by omega⟩
 ·rintro⟨r,hr,h1,h2⟩
  exact .inr ⟨r,hr,h1,by rw[iV (ka hw hr)];omega⟩
def gr(n:Int)(o:Option mh)(rs:List (Int×Int)):Option mh:=rs.foldl (fun o r=>o.bind fun st=>cT n st r) o
theorem lK(n:Int)(rs:List (Int×Int)):∀k,k<=rs.length->iw n rs k=gr n (some ⟨[],n,n,false⟩) (rs.take k)
 |0,_=>by simp[iw,gr]
 |k+1,h=>by
  rw[iw,lK n rs k (by omega),List.take_add_one,lGe (by omega)]
  unfold gr
  rw[Option.toList_some,List.foldl_append]
  simp[List.getD,lGe (show k<rs.length by omega)]
theorem kC(n:Int)(o:Option mh)(a b:List (Int×Int)):gr n o (a++b)=gr n (gr n o a) b:=by unfold gr;rw[List.foldl_append]
theorem rC(n:Int)(a:List (Int×Int)):gr n none a=none:=by
 induction a with
 |nil=>rfl
 |cons r t ih=>exact ih
theorem comF_low(n:Int){A:List (Int×Int)}(h:∀r∈A,r.1<=r.2/\r.2+1<n):∀st:mh,gr n (some st) A=some {st with all:=st.all++A}:=by
 induction A with
 |nil=>intro st;simp[gr]
 |cons r t ih=>
  intro st
  have h0:=h r (by simp)
  have e:cT n st r=some {st with all:=st.all++[r]}:=by
   unfold cT
   rw[if_neg (by omega),if_neg (by omega),if_neg (by omega),if_neg (by omega)]
  show gr n ((some st).bind fun st=>cT n st r) t=_
  rw[Option.bind_some,e,ih (fun q hq=>h q (by simp[hq]))]
  simp
theorem comF_high(n:Int){B:List (Int×Int)}(h:∀r∈B,r.1<=r.2/\n+1<r.1):∀st:mh,st.inn=true->gr n (some st) B=some {st with all:=st.all++B}:=by
 induction B with
 |nil=>intro st _;simp[gr]
 |cons r t ih=>
  intro st hs
  have h0:=h r (by simp)
  have e:cT n st r=some {st with all:=st.all++[r]}:=by
   unfold cT
   rw[if_neg (by omega),if_neg (by omega),if_neg (by omega),if_neg (by rw[hs];simp)]
  show gr n ((some st).bind fun st=>cT n st r) t=_
  rw[Option.bind_some,e,ih (fun q hq=>h q (by simp[hq])) {st with all:=st.all++[r]} hs]
  simp
theorem comF_last(n:Int){B:List (Int×Int)}(h:∀r∈B,r.1<=r.2/\n+1<r.1)(st:mh)(hs:st.inn=false):∃st',gr n (some st) B=some st'/\kz st'=st.all++(st.lo,st.hi)::B/\st'.lo=st.lo/\st'.hi=st.hi:=by
 cases B with
 |nil=>exact⟨st,rfl,by unfold kz;rw[hs];simp,rfl,rfl⟩
 |cons r t=>
  have h0:=h r (by simp)
  have e:cT n st r=some {st with all:=st.all++[(st.lo,st.hi)]++[r],inn:=true}:=by
   unfold cT
   rw[if_neg (by omega),if_neg (by omega),if_neg (by omega),if_pos ⟨by omega,hs⟩]
  have e2:gr n (some st) (r::t)=gr n (cT n st r) t:=rfl
  rw[e2,e,comF_high n (fun q hq=>h q (by simp[hq])) _ rfl]
  refine⟨_,rfl,?_,rfl,rfl⟩
  unfold kz
  simp
theorem wM(n lo hi:Int)(hn:lo<=n/\n<=hi){A B:List (Int×Int)}(hA:∀r∈A,r.2<n)(hB:∀r∈B,n<r.1):(A++(lo,hi)::B).map (jS n lo hi)=A++(lo,hi)::B:=by
 have key:∀l:List (Int×Int),(∀r∈l,¬(r.1<=n/\n<=r.2))->l.map (jS n lo hi)=l:=by
  intro l h
  induction l with
  |nil=>rfl
  |cons a t ih=>
   rw[List.map_cons,ih (fun r hr=>h r (by simp[hr]))]
   congr 1
   unfold jS
   rw[if_neg (h a (by simp))]
 rw[List.map_append,List.map_cons,key A (fun r hr=>by have:=hA r hr;omega),key B (fun r hr=>by have:=hB r hr;omega)]
 congr 2
 unfold jS
 rw[if_pos hn]
theorem jU{rs:List (Int×Int)}(hw:PWf rs)(n:Int):
  (InR rs n->iw n rs rs.length=none)/\(¬InR rs n->∃st rs',iw n rs rs.length=some st/\(kz st).map (jS n st.lo st.hi)=rs'/\PWf rs'/\dI (cW rs) n [0]=cW rs'/\0<rs'.length/\rs'.length<=rs.length+1/\
   ∀p,InR rs' p↔p=n\/InR rs p):=by
 constructor
 ·rintro⟨r,hr,h1,h2⟩
  rw[lK n rs _ (Nat.le_refl _),List.take_length]
  obtain⟨a,b,rfl⟩:=List.append_of_mem hr
  rw[kC]
  have e:∀o:Option mh,gr n o (r::b)=none:=by
   intro o
   cases o with
   |none=>exact rC n _
   |some st=>
    show gr n (cT n st r) b=none
    unfold cT
    rw[if_pos ⟨h1,h2⟩]
    exact rC n b
  exact e _
 ·intro hn
  rw[lK n rs _ (Nat.le_refl _),List.take_length]
  have s1:=gV (fun q:Int×Int=>decide (q.2+1<n)) rs
  generalize hA:rs.takeWhile (fun q=>decide (q.2+1<n))=A at s1
  generalize hR:rs.dropWhile (fun q=>decide (q.2+1<n))=R at s1
  have hwA:=(gC.1 (s1▸hw)).1
  have hwR:=(gC.1 (s1▸hw)).2.1
  have hAR:=(gC.1 (s1▸hw)).2.2
  have hAl:∀r∈A,r.1<=r.2/\r.2+1<n:=fun r hr=>⟨ka hwA hr,by rw[<-hA]at hr;simpa using gJ hr⟩
  have hout:∀r∈R,¬(r.1<=n/\n<=r.2):=fun r hr h=>hn ⟨r,by rw[s1];simp[hr],h⟩
  have fin:∀(M B:List (Int×Int)) (lo hi:Int),R=M++B->lo<=n->n<=hi->(∀st:mh,st.inn=false->st.lo=n->st.hi=n->gr n (some st) M=some {st with lo:=lo,hi:=hi})->(∀r∈B,n+1<r.1)->
    (∀r∈B,hi+1<r.1)->(∀r∈A,r.2+1<lo)->(∀p,(lo<=p/\p<=hi)↔(p=n\/InR M p))->
    ∃st rs',gr n (some ⟨[],n,n,false⟩) rs=some st/\(kz st).map (jS n st.lo st.hi)=rs'/\PWf rs'/\dI (cW rs) n [0]=cW rs'/\0<rs'.length/\rs'.length<=rs.length+1/\∀p,InR rs' p↔p=n\/InR rs p:=by
   intro M B lo hi hMB hlo hhi hM hB hB2 hA2 hin
   have c1:gr n (some ⟨[],n,n,false⟩) rs=gr n (some ⟨A,lo,hi,false⟩) B:=by
    rw[s1,hMB,kC,comF_low n hAl,kC,hM _ rfl rfl rfl]
    simp
   have hwB:PWf B:=(gC.1 (hMB▸hwR)).2.1
   obtain⟨st',c2,c3,c4,c5⟩:=comF_last n (fun r hr=>⟨ka hwB hr,hB r hr⟩) ⟨A,lo,hi,false⟩ rfl
   have hpw:PWf (A++(lo,hi)::B):=by
    rw[gC]
    refine⟨hwA,⟨by show lo<=hi;omega,fun q hq=>hB2 q hq,hwB⟩,fun r hr q hq=>?_⟩
    rcases List.mem_cons.1 hq with rfl|hq
    ·exact hA2 r hr
    ·exact hAR r hr q (by rw[hMB];simp[hq])
   have hiff:∀p,InR (A++(lo,hi)::B) p↔p=n\/InR rs p:=by
    intro p
    have h1:=hin p
    constructor
    ·rintro⟨r,hr,h2⟩
     rcases List.mem_append.1 hr with hr|hr
     ·exact .inr ⟨r,by rw[s1];simp[hr],h2⟩
     ·rcases List.mem_cons.1 hr with rfl|hr
      ·rcases h1.1 h2 with h3|⟨x,hx,h4⟩
       ·exact .inl h3
       ·exact .inr ⟨x,by rw[s1,hMB];simp[hx],h4⟩
      ·exact .inr ⟨r,by rw[s1,hMB];simp[hr],h2⟩
    ·rintro(h2|⟨r,hr,h2⟩)
     ·exact⟨(lo,hi),by simp,by simp only;omega⟩
     ·rw[s1,hMB]at hr
      rcases List.mem_append.1 hr with hr|hr
      ·exact⟨r,by simp[hr],h2⟩
      ·rcases List.mem_append.1 hr with hr|hr
       ·exact⟨(lo,hi),by simp,h1.2 (.inr ⟨r,hr,h2⟩)⟩
       ·exact⟨r,by simp[hr],h2⟩
   refine⟨st',A++(lo,hi)::B,by rw[c1,c2],?_,hpw,?_,by simp;omega,?_,hiff⟩
   ·rw[c3,c4,c5]
    exact wM n lo hi ⟨hlo,hhi⟩ (fun r hr=>by have:=hAl r hr;omega) (fun r hr=>by have:=hB r hr;omega)
   ·have hag:rp (cW rs) n [0]:=fun p x h1 h2 h3=>by
     have:p=n:=by simp at h2;omega
     subst this
     rw[(gB p).2 hn]at h3
     cases h3
    obtain⟨f1,f2⟩:=rH (pP hw) hag
    refine qa f1 (pP hpw) fun p=>?_
    rw[f2]
    by_cases hp:p=n
    ·subst hp
     rw[if_pos ⟨by omega,by simp;omega⟩,(gB p).1 ((hiff p).2 (.inl rfl))]
     simp
    ·rw[if_neg (by simp;omega)]
     by_cases hi2:InR rs p
     ·rw[(gB p).1 hi2,(gB p).1 ((hiff p).2 (.inr hi2))]
     ·rw[(gB p).2 hi2,(gB p).2 (fun h=>by rcases(hiff p).1 h with h|h;exact hp h;exact hi2 h)]
   ·rw[s1,hMB]
    simp only[List.length_append,List.length_cons]
    omega
  have up:∀(R':List (Int×Int)),PWf R'->(∀r∈R',n<r.1)->∃M B hi,R'=M++B/\n<=hi/\(∀st:mh,st.inn=false->st.hi=n->gr n (some st) M=some {st with hi:=hi})/\(∀r∈B,n+1<r.1)/\(∀r∈B,hi+1<r.1)/\
    (∀p,(n<=p/\p<=hi)↔(p=n\/InR M p)):=by
   intro R' hw' hgt
   have triv:(∀r∈R',n+1<r.1)->∃M B hi,R'=M++B/\n<=hi/\(∀st:mh,st.inn=false->st.hi=n->gr n (some st) M=some {st with hi:=hi})/\(∀r∈B,n+1<r.1)/\(∀r∈B,hi+1<r.1)/\
    (∀p,(n<=p/\p<=hi)↔(p=n\/InR M p)):=fun h=>⟨[],R',n,rfl,Int.le_refl _,fun st _ h2=>by simp[gr,<-h2],h,h,fun p=>⟨fun h=>.inl (by omega),fun h=>by
     rcases h with h|⟨r,hr,_⟩
     ·omega
     ·cases hr⟩⟩
   cases R' with
   |nil=>exact triv (by simp)
   |cons a t=>
    by_cases ha:a.1=n+1
    ·refine⟨[a],t,a.2,rfl,by have:=hw'.1;omega,fun st h1 h2=>?_,fun r hr=>by have:=hw'.2.1 r hr;have:=hw'.1;omega,fun r hr=>hw'.2.1 r hr,fun p=>⟨fun h=>?_,fun h=>?_⟩⟩
     ·show cT n st a=_
      unfold cT
      rw[if_neg (by omega),if_neg (by have:=hw'.1;omega),if_pos ha]
     ·by_cases hp:p=n
      ·exact .inl hp
      ·exact .inr ⟨a,by simp,by omega⟩
     ·rcases h with h|⟨r,hr,h⟩
      ·have:=hw'.1;omega
      ·simp at hr;subst hr;omega
    ·refine triv (fun r hr=>?_)
     have h0:=hgt a (by simp)
     rcases List.mem_cons.1 hr with rfl|hr
     ·omega
     ·have:=hw'.2.1 r hr;have:=hw'.1;omega
  cases R with
  |nil=>
   obtain⟨M,B,hi,h1,h2,h3,h4,h5,h6⟩:=up [] trivial (by simp)
   exact fin M B n hi h1 (Int.le_refl _) h2 (fun st a1 a2 a3=>by rw[h3 st a1 a3,<-a2]) h4 h5 (fun r hr=>(hAl r hr).2) h6
  |cons a t=>
   have ha1:n<=a.2+1:=by have:=gj hR;simpa using this
   have ha2:=hout a (by simp)
   by_cases hb:a.2=n-1
   ·obtain⟨M,B,hi,h1,h2,h3,h4,h5,h6⟩:=up t hwR.2.2 (fun r hr=>by have:=hwR.2.1 r hr;omega)
    refine fin (a::M) B a.1 hi (by rw[h1];rfl) (by have:=hwR.1;omega) h2 (fun st a1 a2 a3=>?_) h4 h5 (fun r hr=>hAR r hr a (by simp)) (fun p=>?_)
    ·show gr n (cT n st a) M=_
     have e:cT n st a=some {st with lo:=a.1}:=by
      unfold cT
      rw[if_neg (by omega),if_pos hb]
     rw[e,h3 {st with lo:=a.1} a1 a3]
    ·have h7:=h6 p
     constructor
     ·intro h
      by_cases hp:n<=p
      ·rcases h7.1 ⟨hp,h.2⟩ with h8|⟨r,hr,h8⟩
       ·exact .inl h8
       ·exact .inr ⟨r,by simp[hr],h8⟩
      ·exact .inr ⟨a,by simp,by omega⟩
     ·rintro(h|⟨r,hr,h⟩)
      ·have:=h7.2 (.inl h);have:=hwR.1;omega
      ·rcases List.mem_cons.1 hr with rfl|hr
       ·omega
       ·have:=h7.2 (.inr ⟨r,hr,h⟩);have:=hwR.1;omega
   ·obtain⟨M,B,hi,h1,h2,h3,h4,h5,h6⟩:=up (a::t) hwR (fun r hr=>by
     have h0:n<a.1:=by omega
     rcases List.mem_cons.1 hr with rfl|hr
     ·exact h0
     ·have:=hwR.2.1 r hr;have:=hwR.1;omega)
    exact fin M B n hi h1 (Int.le_refl _) h2 (fun st a1 a2 a3=>by rw[h3 st a1 a3,<-a2]) h4 h5 (fun r hr=>(hAl r hr).2) h6
theorem iD(x:Int)(l:List Int):bC (x::l)=if 0<=x then bC l+1 else 0:=by
 unfold bC
 rw[List.takeWhile_cons]
 by_cases hx:0<=x<;>simp[hx]
theorem kO(l:List Int):bC l<=l.length:=by
 induction l with
 |nil=>simp[bC]
 |cons x l ih=>rw[iD];split<;>simp<;>omega
theorem gP(l:List Int):∀base:Int,0<bC l->aX base l=(base,l.take (bC l))::aX (base+bC l) (l.drop (bC l)):=by
 induction l with
 |nil=>intro base h;simp[bC]at h
 |cons x l ih=>
  intro base h
  rw[iD]at h⊢
  by_cases hx:0<=x
  ·rw[if_pos hx,iW,if_pos hx]
   by_cases hl:0<bC l
   ·rw[ih (base+1) hl]
    unfold eO
    simp only[if_true,List.take_succ_cons,List.drop_succ_cons]
    congr 2
    omega
   ·have h0:bC l=0:=by omega
    rw[h0]
    have hh:=om (base+1) l
    have hneg:¬0<=l.getD 0 (-1):=by
     cases l with
     |nil=>simp[List.getD]
     |cons y t=>
      rw[iD]at h0
      split at h0
      ·omega
      ·assumption
    unfold eO
    cases hr:aX (base+1) l with
    |nil=>simp[hr]
    |cons r t=>
     rw[hr]at hh
     have:r.1≠base+1:=fun e=>hneg (hh.1 (by simp[e]))
     simp[this,hr]
  ·rw[if_neg hx]at h
   omega
theorem leadS_drop(l:List Int):∀k,k<=bC l->bC (l.drop k)=bC l-k:=by
 induction l with
 |nil=>intro k _;simp[bC]
 |cons x l ih=>
  intro k hk
  cases k with
  |zero=>simp
  |succ k=>
   rw[iD]at hk⊢
   split at hk
   ·rename_i hx
    rw[if_pos hx,List.drop_succ_cons,ih k (by omega)]
    omega
   ·omega
theorem qI(l:List Int)(h:bC l=0)(base:Int):∀q∈aX base l,base<q.1:=by
 cases l with
 |nil=>simp[aX]
 |cons x l=>
  rw[iD]at h
  split at h
  ·omega
  ·rename_i hx
   intro q hq
   rw[iW,if_neg hx]at hq
   have:=gO l (base+1) q hq
   omega
theorem nW(base:Int)(l:List Int)(tz:Int):bu (aX base l) base tz=decide (tz<=base+bC l):=by
 unfold bu
 rw[Bool.eq_iff_iff]
 simp only[Bool.or_eq_true,decide_eq_true_iff,List.any_eq_true,Bool.and_eq_true]
 have hl:=kO l
 by_cases h:0<bC l
 ·have hw:=jG l base
  rw[gP l base h]at hw⊢
  have hb:au (base,l.take (bC l))=base+bC l:=by unfold au;simp only[List.length_take];omega
  constructor
  ·rintro(h1|⟨r,hr,h1,h2⟩)
   ·omega
   ·rcases List.mem_cons.1 hr with rfl|hr
    ·omega
    ·have:=hw.2.1 r hr
     simp only[List.length_take]at this
     omega
  ·intro h1
   exact .inr ⟨_,List.mem_cons_self,Int.le_refl _,by rw[hb];exact h1⟩
 ·have h0:bC l=0:=by omega
  constructor
  ·rintro(h1|⟨r,hr,h1,h2⟩)
   ·omega
   ·have:=qI l h0 base r hr
    omega
  ·intro h1
   exact .inl (by omega)
structure StrInv(gaps:Int)(x:aR):Prop where
 read:0<=x.read
 ent:∀b∈x.bytes,-1<=b/\b<256
 len:x.read+x.bytes.length<=x.highest
 fin:0<=x.final->x.highest=x.final
 fin0:-1<=x.final
 rst:x.reset=true->x.bytes=[]/\0<=x.final
 dn:x.done=true->x.bytes=[]/\0<=x.final/\(x.reset=false->x.read=x.final)
 gaps:dS x.bytes x.bytes.length<=gaps
 cred:x.highest<=x.credit/\x.credit<=1073741823
theorem kb{l:List Int}{d:Int}{b:List Int}:∀{k:Nat} {m:List Int},eg l d b k=some m->l.length<=m.length/\(m.length:Int)<=max (l.length:Int) (d+k)
 |0,m,h=>by
  simp only[eg,Option.some.injEq]at h
  subst h
  omega
 |k+1,m,h=>by
  simp only[eg,Option.bind_eq_some_iff]at h
  obtain⟨m',h1,h2⟩:=h
  have ih:=kb h1
  split at h2
  ·simp only[Option.some.injEq]at h2
   subst h2
   omega
  ·unfold me at h2
   split at h2
   ·cases h2
   ·simp only[Option.some.injEq]at h2
    subst h2
    unfold dJ
    simp only[List.length_set,List.length_append,List.length_replicate]
    omega
theorem pS{l:List Int}{d:Int}{b:List Int}(hb:Bytes b)(hl:∀x∈l,-1<=x/\x<256):∀{k:Nat} {m:List Int},k<=b.length->eg l d b k=some m->∀x∈m,-1<=x/\x<256
 |0,m,_,h=>by
  simp only[eg,Option.some.injEq]at h
  subst h
  exact hl
 |k+1,m,hk,h=>by
  simp only[eg,Option.bind_eq_some_iff]at h
  obtain⟨m',h1,h2⟩:=h
  have ih:=pS hb hl (by omega) h1
  split at h2
  ·simp only[Option.some.injEq]at h2
   subst h2
   exact ih
  ·unfold me at h2
   split at h2
   ·cases h2
   ·simp only[Option.some.injEq]at h2
    subst h2
    intro x hx
    rcases List.mem_or_eq_of_mem_set hx with hx|rfl
    ·unfold dJ at hx
     rcases List.mem_append.1 hx with hx|hx
     ·exact ih x hx
     ·have:=(List.mem_replicate.1 hx).2
      omega
    ·have:=hb b[k] (List.getElem_mem _)
     simp only[List.getD,lGe (show k<b.length by omega),Option.getD_some]
     omega
theorem vP{gaps credit high:Int}{f:dx}{x:aR}(hb:Bytes f.bytes)(ho:0<=f.ofs)(hg:0<=gaps)(hx:StrInv gaps x):StrInv gaps (bf gaps credit high f x).2:=by
 unfold bf
 simp only
 generalize he:f.ofs+(f.bytes.length:Int)=e
 by_cases hbad:lI x e (decide (f.type≠3))=true
 ·rw[if_pos hbad];exact hx
 rw[if_neg hbad]
 by_cases hd:x.done=true
 ·rw[if_pos hd];exact hx
 rw[if_neg hd]
 by_cases hov:gY x e credit high=true
 ·rw[if_pos hov];exact hx
 rw[if_neg hov]
 have hd':x.done=false:=by simpa using hd
 have pass:∀r:aR,r.read=x.read->r.highest=x.highest->r.final=x.final->r.reset=x.reset->r.done=x.done->r.credit=x.credit->(∀b∈r.bytes,-1<=b/\b<256)->r.read+r.bytes.length<=max x.highest e->
   (r.reset=true->r.bytes=[])->dS r.bytes r.bytes.length<=gaps->StrInv gaps (fB f x r):=by
  intro r r1 r2 r3 r4 r5 r6 r7 r8 r9 r10
  have hbad':lI x e (decide (f.type≠3))=false:=by simpa using hbad
  have hov':gY x e credit high=false:=by simpa using hov
  unfold lI at hbad'
  unfold gY at hov'
  simp only[hd',Bool.not_false,Bool.true_and,Bool.or_eq_false_iff,Bool.and_eq_false_iff,decide_eq_false_iff_not]at hbad' hov'
  have hm:x.highest+fW x e=max x.highest e:=by unfold fW;split<;>omega
  have c1:=hx.cred
  have f1:=hx.fin
  have f0:=hx.fin0
  have y:StrInv gaps {r with highest:=x.highest+fW x e,final:=if f.type≠3 then e else r.final}:=by
   refine⟨by rw[r1];exact hx.read,r7,by simp only;rw[hm];exact r8,?_,?_,?_,?_,r10,?_⟩
   ·simp only
    rw[hm,r3]
    by_cases ht:f.type≠3
    ·rw[if_pos ht]
     intro _
     have:¬e<x.highest:=by
      rcases hbad'.2 with h|h
      ·exact absurd h (by simpa using ht)
      ·exact h
     omega
    ·rw[if_neg ht]
     intro h0
     have h1:=f1 h0
     rcases hbad'.1 with h|h
     ·omega
     ·omega
   ·simp only
    split
    ·omega
    ·rw[r3];exact f0
   ·simp only
    intro h
    refine⟨r9 h,?_⟩
    split
    ·omega
    ·rw[r3];exact(hx.rst (r4▸h)).2
   ·simp only
    intro h
    rw[r5,hd']at h
    cases h
   ·simp only
    rw[hm,r6]
    have:=hov'.1
    omega
  have key:∀Y:aR,StrInv gaps Y->(f.type=5->0<=Y.final)->Y.done=false->StrInv gaps (if f.type=5/\wC Y=false then {Y with reset:=true,bytes:=[]} else Y):=by
   intro Y hY h6 h7
   split
   ·rename_i hc
    refine⟨hY.read,by simp,?_,hY.fin,hY.fin0,fun _=>⟨rfl,h6 hc.1⟩,?_,by simpa[dS] using hg,hY.cred⟩
    ·have:=hY.len
     simp only[List.length_nil]at this⊢
     omega
    ·intro h
     rw[h7]at h
     cases h
   ·exact hY
  unfold fB
  simp only[he]
  refine key _ y (fun h=>?_) (by simp only;rw[r5];exact hd')
  simp only
  rw[if_pos (by omega)]
  omega
 by_cases hr:f.type≠5/\x.reset=false
 ·rw[if_pos hr]
  by_cases hc:(dt gaps x f.ofs f.bytes).1≠0
  ·rw[if_pos hc];exact hx
  ·rw[if_neg hc]
   unfold dt at hc⊢
   cases hm:eg x.bytes (f.ofs-x.read) f.bytes f.bytes.length with
   |none=>rw[hm]at hc;simp at hc
   |some m=>
    rw[hm]at hc
    simp only at hc⊢
    split at hc
    ·simp at hc
    ·rename_i hgp
     rw[if_neg hgp]
     have hl:=kb hm
     refine pass _ rfl rfl rfl rfl rfl rfl (pS hb hx.ent (Nat.le_refl _) hm) ?_ (fun h=>?_) (by simp only;omega)
     ·have:=hx.len
      simp only
      omega
     ·simp only at h
      rw[hr.2]at h
      cases h
 ·rw[if_neg hr]
  exact pass x rfl rfl rfl rfl rfl rfl hx.ent (by have:=hx.len;omega) (fun h=>(hx.rst h).1) hx.gaps
end Go.Proofs.YthmdjhlhodpbhaaGreatDoor
namespace Go.Proofs.YthmdjhlhodpbhaaGreatDoor
open Go.RowKit
theorem lQ{ns:List Int}(h:∀n∈ns,0<=n/\n<1073741824)(k:Nat):0<=ns.getD k 0/\ns.getD k 0<=1073741823:=by
 rcases Nat.lt_or_ge k ns.length with h1|h1
 ·have:=h _ (List.getElem_mem h1)
  simp only[List.getD,lGe h1,Option.getD_some]
  omega
 ·simp[List.getD,List.getElem?_eq_none h1]
theorem uB{t:Int}{c:Nat}(h:dj t=some c):(t=0\/t=1\/t=3\/t=4\/t=5\/t=6\/t=7):=by
 unfold dj at h
 repeat' split at h
 all_goals first|omega |(simp at h)
theorem rJ{b:List Int}(hb:Bytes b)(hp:0<b.length){f:dx}{size:Nat}(h:bR b=some (f,size)):oT f/\0<size/\size<=b.length/\f.bytes.length<=b.length:=by
 unfold bR at h
 cases hc:dj (b.getD 0 0) with
 |none=>rw[hc]at h;cases h
 |some c=>
  rw[hc]at h
  simp only at h
  have ht:=uB hc
  cases hn:bI b c with
  |none=>rw[hn]at h;cases c<;>simp at h
  |some x=>
   obtain⟨ns,a⟩:=x
   obtain⟨h1,h2,h3,h4⟩:=j7 hb hp c hn
   rw[hn]at h
   have g0:=lQ h4 0
   have g1:=lQ h4 1
   have g2:=lQ h4 2
   match c,h with
   |0,h=>
    simp only[Option.some.injEq,Prod.mk.injEq]at h
    obtain⟨rfl,rfl⟩:=h
    exact⟨⟨ht,by simp,by simp⟩,by omega,h3,by simp⟩
   |1,h=>
    simp only[Option.some.injEq,Prod.mk.injEq]at h
    obtain⟨rfl,rfl⟩:=h
    exact⟨⟨ht,by simp,by simp⟩,by omega,h3,by simp⟩
   |2,h=>
    simp only[Option.some.injEq,Prod.mk.injEq]at h
    obtain⟨rfl,rfl⟩:=h
    exact⟨⟨ht,g0,g1⟩,by omega,h3,by simp⟩
   |k+3,h=>
    simp only at h
    split at h
    ·cases h
    ·simp only[Option.some.injEq,Prod.mk.injEq]at h
     obtain⟨rfl,rfl⟩:=h
     refine⟨⟨ht,g0,g1⟩,by omega,by omega,?_⟩
     simp only[List.length_take,List.length_drop]
     omega
theorem recvS_ok{gaps:Int}{x:aR}{ofs:Int}{b:List Int}(hx:ku x)(h0:0<=ofs)(h1:ofs+b.length<=1073741823):ku (dt gaps x ofs b).2:=by
 unfold dt
 split
 ·exact hx
 ·next l hl=>
  split
  ·exact hx
  ·have:=kb hl
   have h2:=hx.bytes
   have h3:=hx.read
   exact⟨by simp only;omega,hx.read,hx.highest,hx.credit,hx.final⟩
theorem strDeal_ok{gaps credit high:Int}{f:dx}{x:aR}(hf:oT f)(hx:ku x):ku (bf gaps credit high f x).2:=by
 have hp:∀r:aR,ku r->f.ofs+(f.bytes.length:Int)<=x.credit->ku (fB f x r):=by
  intro r hr he
  have h1:=hx.credit
  have h2:=hx.highest
  have h3:=hf.ofs
  have hm:0<=x.highest+fW x (f.ofs+f.bytes.length)/\x.highest+fW x (f.ofs+f.bytes.length)<=1073741823:=by unfold fW;split<;>omega
  have hfi:-1<=(if f.type≠3 then f.ofs+(f.bytes.length:Int) else r.final)/\(if f.type≠3 then f.ofs+(f.bytes.length:Int) else r.final)<=1073741823:=by
   have:=hr.final
   split<;>omega
  have hy:∀y:aR,ku y->ku (if f.type=5/\wC y=false then {y with reset:=true,bytes:=[]} else y):=by
   intro y hy
   split
   ·exact⟨by simp,hy.read,hy.highest,hy.credit,hy.final⟩
   ·exact hy
  exact hy _ ⟨hr.bytes,hr.read,hm,hr.credit,hfi⟩
 unfold bf
 simp only
 split
 ·exact hx
 ·split
  ·exact hx
  ·split
   ·exact hx
   ·next hov=>
    have hov':¬x.credit<f.ofs+(f.bytes.length:Int):=by
     intro h
     apply hov
     unfold gY
     rw[decide_eq_true h]
     rfl
    have h1:=hx.credit
    split
    ·split
     ·exact hx
     ·exact hp _ (recvS_ok hx hf.ofs.1 (by omega)) (by omega)
    ·exact hp _ hx (by omega)
theorem qM{gaps credit high:Int}{f:dx}{x:aR}:0<=(bf gaps credit high f x).1/\(bf gaps credit high f x).1<=10:=by
 have h1:0<=(dt gaps x f.ofs f.bytes).1/\(dt gaps x f.ofs f.bytes).1<=10:=by
  unfold dt
  split
  ·simp
  ·split<;>simp
 unfold bf
 simp only
 repeat' split
 all_goals first |(simp;done)|exact h1
end Go.Proofs.YthmdjhlhodpbhaaGreatDoor
namespace Go.Proofs.YthmdjhlhodpbhaaGreatDoor
theorem wQ{M gaps:Int}{f:dx}{c:aw}(hf:oT f)(hc:ConOk M c):ConOk M (bG gaps f c).2/\(bG gaps f c).2.cid=c.cid/\(bG gaps f c).2.proven=c.proven:=by
 unfold bG
 split
 ·exact⟨hc,rfl,rfl⟩
 ·next x hx=>
  refine⟨⟨hc.cid,hc.addr,hc.got,hc.sent,hc.heard,hc.runs,hc.credit,by simpa using hc.slen,fun y hy=>?_⟩,rfl,rfl⟩
  simp only at hy
  rcases List.mem_or_eq_of_mem_set hy with h1|h1
  ·exact hc.str y h1
  ·rw[h1]
   exact strDeal_ok hf (hc.str x (lMm hx))
theorem qy{gaps:Int}{f:dx}{c:aw}:0<=(bG gaps f c).1/\(bG gaps f c).1<=10:=by
 unfold bG
 split
 ·simp
 ·exact qM
theorem iU{l:List aw}{i:Nat}{c c':aw}(h:l[i]? =some c)(hc:c'.cid=c.cid):(l.set i c').map (·.cid)=l.map (·.cid):=by
 rw[List.map_set,hc]
 exact e7 (by rw[List.getElem?_map,h];rfl)
end Go.Proofs.YthmdjhlhodpbhaaGreatDoor
