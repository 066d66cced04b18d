/- InOrder, 26 -/
import Derived.BigQuiet
import Derived.Test.YthmdjhlhodpbhaaGreatDoorI25
set_option maxHeartbeats 16000000
set_option maxRecDepth 8000
namespace Go.Proofs.YthmdjhlhodpbhaaGreatDoor
open Go.RowKit
theorem conS_gone{s:ax}{i:Nat}{c:au}{R:ConR}(hg:R.gone=true):conS s i c R = {({s with conns:=s.conns.eraseIdx i}:ax) with last:=if R.con.proven=true/\c.proven=false then s.last+1 else s.last}:=by simp[conS,hg]
theorem conS_same{s:ax}{i:Nat}{c:au}{R:ConR}(hg:R.gone=false)(hp:R.con.proven=c.proven):conS s i c R = {s with conns:=s.conns.set i R.con}:=by
 have:¬(R.con.proven=true/\c.proven=false):=by rw[hp];rintro⟨e1,e2⟩;rw[e1]at e2;cases e2
 unfold conS
 rw[if_neg this,hg]
 simp
theorem conS_new{s:ax}{i:Nat}{c:au}{R:ConR}{x:Int}(hg:R.gone=false)(hp:R.con.proven=true)(hp0:c.proven=false)(hw:R.con.waits=s.last+1):conS s i c R = {({s with conns:=(s.conns.set i {R.con with waits:=x}).set i {R.con with waits:=s.last+1}}:ax) with last:=s.last+1}:=by
 have h1:s.conns.set i R.con=(s.conns.set i {R.con with waits:=x}).set i {R.con with waits:=s.last+1}:=by rw[List.set_set,<-hw]
 rw[<-h1]
 simp[conS,hg,hp,hp0]
theorem conFrames_calm{g:Cfg}{lw:Int}:∀(n:Nat) {c:au} {b:List Int},(aJ g lw c b n).gone=false->dC (aJ g lw c b n) []=[]
 |0,c,b,_=>rfl
 |n+1,c,b,h=>by
  unfold aJ at h⊢
  split at h
  ·next h1=>rw[if_pos h1];rfl
  ·next h1=>
   rw[if_neg h1]
   split at h
   ·cases h
   ·next f size hf=>
    split at h
    ·cases h
    ·next h2=>
     rw[if_neg h2]
     split at h
     ·cases h
     ·next h3=>
      rw[if_neg h3]
      exact conFrames_calm n h
theorem sdeal_any(N sb:Nat)(s:ax)(cm:Nat)(wv:Value)(cbs:List Nat)(xs:List aH)(ws:List Nat)(i cb:Nat)(c:au)(a:aH)(b:List Int)(n:Nat)(bv:Value)(w:World)(h:PSrv N w sb s cm wv cbs xs ws)(hi:s.conns[i]? =some c)(hcb:cbs[i]? =some cb)(ha:xs[i]? =some a){M L:Int}(hI:SrvInv M L s)(hM:M<=1125899906842624)
  (hbv:RdB w bv b) (hby:Bytes b) (hl:b.length<=1073741823) (hn:b.length<=n) (hN:N+b.length<1125899906842624) (hE:∀W,Chg (bg cb a) w W->Env W):
  Calls Tryz.prog 98 #[.pointer (some ⟨sb,0,none⟩),.pointer (some ⟨cb,0,none⟩),bv] w fun e w'=>SOut (N+b.length) w sb cm wv cbs xs (cU s i b [] n) e w':=by
 have hC:=h.con i c cb a hi hcb ha
 have hmem:=List.mem_of_getElem? hi
 have hok:=hI.ok c hmem
 have hcinv:=hI.inv c hmem
 have hc4:=hI.cfg.c4
 have hK:=conFrames_keep (M:=M) (lw:=s.last+1) (by omega:0<=s.c.c4) n hok hcinv hby
 have HP:=ab (cProven_any cb s.c c _ _ _ _ w hC.blk)
 have HD:=ab (cDeal_any N cb s.c c a (s.last+1) b n bv w hC hcinv hI.cfg hok hM hbv hl hn hN hE)
 have hw1000:ws.length<=1000:=by
  have h1:=h.wlen
  have h2:=hI.few
  have h3:=hI.cfg.c0
  omega
 rw[fH n b [] hi]
 have hcalm:=conFrames_calm (g:=s.c) (lw:=s.last+1) (c:=c) (b:=b) n
 generalize aJ s.c (s.last+1) c b n=R at HD hK hcalm⊢
 have hcid:-9223372036854775808<=c.cid/\c.cid<=9223372036854775807:=by have:=hok.cid;omega
 have hsrv:∀w1,Chg (bg cb a) w w1->Chg (cq sb cm wv cbs xs) w w1:=fun w1 hc=>hc.mono fun k _ hk=>fw hcb ha hk
 have HG:Hid (R.gone=true->∀(w1:World) (sv:Value),OutsAt w1 w.heap.size sv (dC R [])->Chg (bg cb a) w w1->(∃c2 plv sm dm past,ConBlk w1 cb s.c c2 plv sm dm past/\c2.cid=c.cid)->Calls Tryz.prog 54 #[.pointer (some ⟨sb,0,none⟩),.pointer (some ⟨cb,0,none⟩)] w1 fun e w2=>e=.returned (.tuple #[])/\SOut (N+b.length) w sb cm wv cbs xs (conS s i c R,dC R []) (.returned sv) w2):=by
  intro hg w1 sv ho hc hb
  have hB:=h.but (Nat.le_add_right N b.length) hi hcb ha hc hb
  have hP1:PSrv N w sb s cm wv cbs xs ws:=h
  refine(sdrop_any _ sb s cm wv cbs xs ws i cb c.cid w1 hB hI.nd hw1000 hcid).mono ?_
  rintro e w2 ⟨rfl,⟨wv',hS2,hat⟩,hc2⟩
  have hO2:OutsAt w2 w.heap.size sv (dC R []):=by
   refine ho.chg hc2 (fun k cur fr hk=>?_) (fun k cur fr hk=>?_)
   ·rintro(e|e|e)
    ·subst e
     have h3:w1.heap[k]? =some (.cells (psrvC s.c s.now cm wv) 101 (0,0)):=hB.blk
     rw[h3]at hk
     simp only[Option.some.injEq,Obj.cells.injEq]at hk
     exact absurd hk.2.1 (by decide)
    ·subst e
     obtain⟨n0,_,hm0⟩:=hB.map
     obtain⟨es,ck,hb⟩:=hm0.is_map
     rw[hb]at hk
     cases hk
    ·exact ar hB.row hk (by decide) e
   ·rintro(e|e|e)
    ·subst e
     have h3:w1.heap[k]? =some (.cells (psrvC s.c s.now cm wv) 101 (0,0)):=hB.blk
     rw[h3]at hk
     simp only[Option.some.injEq,Obj.cells.injEq]at hk
     exact absurd hk.2.1 (by decide)
    ·subst e
     obtain⟨n0,_,hm0⟩:=hB.map
     obtain⟨es,ck,hb⟩:=hm0.is_map
     rw[hb]at hk
     cases hk
    ·exact ar hB.row hk (by decide) e
  refine⟨rfl,SOut.mk1 (cbs':=cbs.eraseIdx i) (xs':=xs.eraseIdx i) (ws':=ws.filter fun b=>b != cb) hP1 hO2 ?_ (SrvF_erase (hat.imp id fun h k hk=>Nat.le_trans hc.size (h k hk))) SrvU_erase ((hsrv w1 hc).trans (hc2.mono fun k _ hk=>SrvF_own hk))⟩
  show PSrv _ _ _ (conS s i c R) _ _ _ _ _
  rw[conS_gone hg]
  exact hS2.last _
 have HS:Hid (R.gone=false->R.con.proven=c.proven->∀(w1:World) (sv:Value) (a':aH),OutsAt w1 w.heap.size sv (dC R [])->Chg (bg cb a) w w1->ConAt (N+b.length) w1 cb s.c R.con a'->(∀k,bg cb a' k->bg cb a k\/w.heap.size<=k)->UIn w.heap.size a a'->SOut (N+b.length) w sb cm wv cbs xs (conS s i c R,dC R []) (.returned sv) w1):=by
  intro hg hp w1 sv a' ho hc hA hin hun
  refine SOut.mk0 (ws':=ws) ho (hcalm hg) ?_ (SrvF_set hcb ha hin) (SrvU_set ha hun) (hsrv w1 hc)
  show PSrv _ _ _ (conS s i c R) _ _ _ _ _
  rw[conS_same hg hp]
  exact h.step (Nat.le_add_right _ _) hi hcb ha hc hA hin hK.cid (hK.same hp)
 have HW:Hid (R.gone=false->R.con.proven=true->c.proven=false->∀(w1:World) (sv:Value) (a':aH),OutsAt w1 w.heap.size sv (dC R [])->Chg (bg cb a) w w1->ConAt (N+b.length) w1 cb s.c R.con a'->(∀k,bg cb a' k->bg cb a k\/w.heap.size<=k)->UIn w.heap.size a a'->Calls Tryz.prog 146 #[.pointer (some ⟨sb,0,none⟩),.pointer (some ⟨cb,0,none⟩)] w1 fun e w2=>e=.returned (.tuple #[])/\SOut (N+b.length) w sb cm wv cbs xs (conS s i c R,dC R []) (.returned sv) w2):=by
  intro hg hp hp0 w1 sv a' ho hc hA hin hun
  have hP1:=h.step (c':={R.con with waits:=c.waits}) (Nat.le_add_right _ _) hi hcb ha hc (hA.waits _) hin hK.cid rfl
  have hcw:=hI.waits c hmem
  have hlw:R.con.waits=s.last+1:=hK.new hp0 hp
  refine(swait_any sb s.c s.now cm wv ws cb w1 hP1.blk hP1.row hw1000).mono ?_
  rintro e w2 ⟨rfl,⟨wv',hS2,ho2,hat⟩,hc2⟩
  have hi1:({s with conns:=s.conns.set i {R.con with waits:=c.waits}}:ax).conns[i]? =some {R.con with waits:=c.waits}:=aI hi
  have hP2:=hP1.more (lw:=s.last+1) hi1 hcb (by have:=hcw.2.2 hp0;show c.waits<=0;omega) (fun d hd=>by
   rcases List.mem_or_eq_of_mem_set hd with h1|h1
   ·have:=hI.waits d h1;omega
   ·rw[h1];show c.waits<_;omega) (by have:=hI.last;omega) hS2 ho2 hc2
  have hcO:Chg (OwnF sb cm wv) w1 w2:=hc2.mono fun k _ e=>e.elim Or.inl (fun e=>Or.inr (Or.inr e))
  refine⟨rfl,SOut.mk0 (wv':=wv') (cbs':=cbs) (ws':=ws++[cb]) (ho.chg hcO (fun k cur fr hk=>OwnF_not hP1 hk (by decide) (by decide)) (fun k cur fr hk=>OwnF_not hP1 hk (by decide) (by decide))) (hcalm hg) ?_ (fun k hk=>?_) (SrvU_set ha hun) ((hsrv w1 hc).trans (hcO.mono fun k _ hk=>SrvF_own hk))⟩
  ·show PSrv _ _ _ (conS s i c R) _ _ _ _ _
   rw[conS_new (x:=c.waits) hg hp hp0 hlw]
   exact hP2.last _
  ·rcases SrvF_wv (hat.imp id fun h k hk=>Nat.le_trans hc.size (h k hk)) k hk with h1|h1
   ·exact SrvF_set hcb ha hin k h1
   ·exact Or.inr h1
 have HKp:=ab hK
 obtain⟨_,_,ba,bc,rfl,_⟩:=id hbv
 generalize (conS s i c R,dC R [])=RES at HG HS HW⊢
 generalize N+b.length=NN at HD HG HS HW⊢
 clear hK h hi hcb ha hI hbv hby hE hC hmem hok hcinv hc4 hw1000 hcid hsrv hM hl hn hN
 go_enter Tryz.func98,Tryz.ntmps98
 go_wp2_with fail
 refine HP.out.mono ?_
 rintro e w1 ⟨rfl,rfl⟩
 clear HP
 go_wp2_with fail
 refine HD.out.mono ?_
 rintro e w1 ⟨⟨sv,rfl,ho⟩,hc1,hcon,hblk⟩
 obtain⟨sa,scap,rfl⟩:=ho.form
 replace ho:=ab ho
 replace hc1:=ab hc1
 replace hcon:=ab hcon
 replace hblk:=ab hblk
 clear HD
 generalize (dC R []).length=sl at ho
 cases hg:R.gone with
 |true=>
  have HG1:=ab (HG.out hg w1 _ ho.out hc1.out hblk.out)
  clear HG HS HW ho hc1 hcon hblk
  go_wp2_with fail
  refine HG1.out.mono ?_
  rintro e w2 ⟨rfl,hS⟩
  replace hS:=ab hS
  clear HG1
  go_wp2_with fail
  go_ret
  exact hS.out
 |false=>
  obtain⟨a',hA,hin,hun⟩:=hcon.out hg
  have HP1:=ab (cProven_any cb s.c R.con _ _ _ _ w1 hA.blk)
  have HA:=ab hA
  have HIn:=ab hin
  have HUn:=ab hun
  clear HG hcon hblk hA hin hun
  cases hp:R.con.proven with
  |false=>
   have hp0:c.proven=false:=by
    cases hc:c.proven with
    |false=>rfl
    |true=>have:=HKp.out.stay hc;rw[hp]at this;cases this
   have HF:=ab (HS.out hg (by rw[hp,hp0]) w1 _ a' ho.out hc1.out HA.out HIn.out HUn.out)
   rw[hp]at HP1
   clear HS HW ho hc1 HA HIn HKp
   go_wp2_with fail
   refine HP1.out.mono ?_
   rintro e w2 ⟨rfl,rfl⟩
   clear HP1
   go_wp2_with fail
   go_ret
   exact HF.out
  |true=>
   rw[hp]at HP1
   cases hp0:c.proven with
   |true=>
    have HF:=ab (HS.out hg (by rw[hp,hp0]) w1 _ a' ho.out hc1.out HA.out HIn.out HUn.out)
    clear HS HW ho hc1 HA HIn HKp
    go_wp2_with fail
    refine HP1.out.mono ?_
    rintro e w2 ⟨rfl,rfl⟩
    clear HP1
    go_wp2_with fail
    go_ret
    exact HF.out
   |false=>
    have HF:=ab (HW.out hg hp hp0 w1 _ a' ho.out hc1.out HA.out HIn.out HUn.out)
    clear HS HW ho hc1 HA HIn HKp
    go_wp2_with fail
    refine HP1.out.mono ?_
    rintro e w2 ⟨rfl,rfl⟩
    clear HP1
    go_wp2_with fail
    refine HF.out.mono ?_
    rintro e w2 ⟨rfl,hS⟩
    replace hS:=ab hS
    clear HF
    go_wp2_with fail
    go_ret
    exact hS.out
theorem run_append_none{P:Program}(w:World)(t ty e:TypeId)(i:TypeInfo)(ht:P.underlying t=some (.slice e))(hi:P.info? e=some i)(ao:Option Addr)(n c:Nat)(h:n<=c):
  (Builtin.append_ #[t,t] ty #[.slice ao n c,.slice none 0 0]).run P w=.ok (.slice ao n c) w:=by
 cases ao with
 |none=>simp[Builtin.append_,run_underlying ht,sizeOf,typeInfo,hi,Builtin.lenOf,h,run_firstCells_none]
 |some a=>simp[Builtin.append_,run_underlying ht,sizeOf,typeInfo,hi,Builtin.lenOf,h,run_firstCells_none,storeCells]
theorem OutOw.append{w:World}{b1 b2:Nat}{a b:List (Int×Value)}{x y:List (Int×List Int)}(h:OutOw w b1 a x)(k:OutOw w b2 b y)(hb:b1<=b2)(hlt:∀(i:Nat) p g,a[i]? =some p->p.2.ownBlock=some g->g<b2):OutOw w b1 (a++b) (x++y):=by
 obtain⟨h1,h2,h3⟩:=h
 obtain⟨k1,k2,k3⟩:=k
 have hge:∀(i:Nat) p g,b[i]? =some p->p.2.ownBlock=some g->b2<=g:=by
  intro i p g hp hg
  have hil:i<y.length:=by rw[<-k1];exact(List.getElem?_eq_some_iff.1 hp).1
  exact((k2 i p y[i] hp (List.getElem?_eq_getElem hil)).2.lt g hg).1
 refine⟨by simp[h1,k1],fun i p q hp hq=>?_,fun i j p q g hij hp hq hg=>?_⟩
 ·rcases Nat.lt_or_ge i a.length with hi|hi
  ·rw[List.getElem?_append_left hi]at hp
   rw[List.getElem?_append_left (by omega)]at hq
   exact h2 i p q hp hq
  ·rw[List.getElem?_append_right hi]at hp
   rw[List.getElem?_append_right (by omega),<-h1]at hq
   have:=k2 _ p q hp hq
   exact⟨this.1,ca this.2 hb⟩
 ·rcases Nat.lt_or_ge i a.length with hi|hi
  ·rw[List.getElem?_append_left hi]at hp
   rcases Nat.lt_or_ge j a.length with hj|hj
   ·rw[List.getElem?_append_left hj]at hq
    exact h3 i j p q g hij hp hq hg
   ·rw[List.getElem?_append_right hj]at hq
    intro e
    have q1:=hlt i p g hp hg
    have q2:=hge _ q g hq e
    omega
  ·rw[List.getElem?_append_right hi]at hp
   rcases Nat.lt_or_ge j a.length with hj|hj
   ·rw[List.getElem?_append_left hj]at hq
    intro e
    have q1:=hlt j q g hq e
    have q2:=hge _ p g hp hg
    omega
   ·rw[List.getElem?_append_right hj]at hq
    exact k3 _ _ p q g (by omega) hp hq hg
theorem OutBy.one_cell{w:World}{ob:Nat}{a:List (Int×Value)}{x:List (Int×List Int)}(h:OutBy w ob a x):∀u∈bU a,u.oneCell'=true:=by
 intro u hu
 unfold bU at hu
 obtain⟨p,hp,hpu⟩:=List.mem_flatMap.1 hu
 obtain⟨j,hj,e⟩:=List.getElem_of_mem hp
 have hxl:j<x.length:=by rw[<-h.1];exact hj
 obtain⟨ao,cap,e2⟩:=aF (h.2 j p x[j] (by rw[List.getElem?_eq_getElem hj,e]) (List.getElem?_eq_getElem hxl)).2
 simp only[List.mem_cons,List.not_mem_nil,or_false]at hpu
 rcases hpu with rfl|rfl
 ·rfl
 ·rw[e2]
  rfl
theorem outs_append2{F A:Nat->Prop}(w0 w:World)(b1:Nat)(v1 v2:Value)(o1 o2:List (Int×List Int))(h0:OutsU A w0 b1 v1 o1)(hch:Chg F w0 w)(hF1:∀k cur fr,w0.heap[k]? =some (.cells cur 60 fr)->¬F k)(hF2:∀k cur fr,w0.heap[k]? =some (.cells cur 5 fr)->¬F k)(h2:OutsU A w w0.heap.size v2 o2)(hl:o1.length+o2.length<=1000)(hb:b1<=w0.heap.size)(ty:TypeId):
  ∃v' w',(Builtin.append_ #[47,47] ty #[v1,v2]).run Tryz.prog w=.ok v' w'/\OutsU A w' b1 v' (o1++o2)/\w.grownBy w' v1.ownBlock:=by
 obtain⟨i0,hi,hz0,hz1,hz2⟩:=info_parts info_sent
 obtain⟨a,ho0,hb0,hof1⟩:=h0
 have hlt:∀(i:Nat) p g,a[i]? =some p->p.2.ownBlock=some g->g<w0.heap.size:=by
  intro i p g hp hg
  have hil:i<o1.length:=by rw[<-hb0.1];exact(List.getElem?_eq_some_iff.1 hp).1
  exact((hb0.2.1 i p o1[i] hp (List.getElem?_eq_getElem hil)).2.lt g hg).2
 have ho1:=ey ho0 hch hF1
 have hb1:=hb0.chg hch hF2
 have hbb:=hb
 replace hb:=Nat.le_trans hb hch.size
 obtain⟨b,ho2,hb2,hof2⟩:=h2
 have hla:=hb1.1
 have hlb:=hb2.1
 obtain⟨_,⟨e2,e2'⟩|⟨g,cap,cur,e2,hrest⟩⟩:=id ho2
 ·subst e2
  obtain rfl:b=[]:=List.length_eq_zero_iff.1 e2'
  obtain rfl:o2=[]:=List.length_eq_zero_iff.1 (by rw[<-hlb];rfl)
  obtain⟨ao,cp,rfl⟩:=aY ho1
  have hcp:a.length<=cp:=by
   rcases ho1.2 with⟨e,e'⟩|⟨g,cap,cur,e,_,_,hc,_⟩
   ·simp only[Value.slice.injEq]at e
    omega
   ·simp only[Value.slice.injEq]at e
    omega
  exact⟨_,w,run_append_none w _ ty 60 i0 Tryz.underlying47 hi ao a.length cp hcp,⟨a,ho1,by rw[List.append_nil];exact hb1,hof1⟩,rfl,rfl,rfl,Nat.le_refl _,fun _ _ _=>rfl⟩
 ·subst e2
  obtain⟨v',w',hrun,r1,r2,_⟩:=ez (P:=Tryz.prog) w b1 47 ty 60 i0 _ 2 32 Tryz.underlying47 hi hz0 hz1 hz2 rfl (by decide) v1 a.length (bU a) ho1 ⟨g,0,none⟩ b.length cap (bU b) (sentCells_length b) (ho2.cells rfl) hb2.by.one_cell (by unfold maxLen;omega) (by omega) hb
  refine⟨v',w',hrun,⟨a++b,?_,?_,fun i p g hp hg=>?_⟩,r2⟩
  ·rw[List.length_append,sentCells_append]
   exact r1
  ·have hc:Chg (fun k=>v1.ownBlock=some k) w w':=⟨r2.os,r2.tape,r2.output,r2.size,fun k hk hne=>r2.block k hk (fun e=>hne e.symm)⟩
   exact(hb1.append hb2 hbb hlt).chg hc (fun k cur fr hk e=>ar ho1 hk (by decide) e)
  ·rcases Nat.lt_or_ge i a.length with hi|hi
   ·rw[List.getElem?_append_left hi]at hp
    exact hof1 i p g hp hg
   ·rw[List.getElem?_append_right hi]at hp
    exact hof2 _ p g hp hg
theorem outs_append{F A:Nat->Prop}(w0 w:World)(b1:Nat)(v1 v2:Value)(o1 o2:List (Int×List Int))(h0:OutsAt w0 b1 v1 o1)(hch:Chg F w0 w)(hF1:∀k cur fr,w0.heap[k]? =some (.cells cur 60 fr)->¬F k)(hF2:∀k cur fr,w0.heap[k]? =some (.cells cur 5 fr)->¬F k)(h2:OutsU A w w0.heap.size v2 o2)(hA:∀k,b1<=k->k<w0.heap.size->¬A k)(hl:o1.length+o2.length<=1000)(hb:b1<=w0.heap.size)(ty:TypeId):
  ∃v' w',(Builtin.append_ #[47,47] ty #[v1,v2]).run Tryz.prog w=.ok v' w'/\OutsU A w' b1 v' (o1++o2)/\w.grownBy w' v1.ownBlock:=
 outs_append2 w0 w b1 v1 v2 o1 o2 (by
  obtain⟨a,ho0,hb0⟩:=h0
  exact⟨a,ho0,hb0,fun i p g hp hg=>hA g (hb0.ge hp hg).1 (hb0.ge hp hg).2⟩) hch hF1 hF2 h2 hl hb ty
theorem PSrv.other{F:Nat->Prop}{N:Nat}{w w':World}{sb:Nat}{s:ax}{cm:Nat}{wv:Value}{cbs:List Nat}{xs:List aH}{ws:List Nat}(h:PSrv N w sb s cm wv cbs xs ws)(hc:Chg F w w')(hF:∀k,F k->∃cur fr,w.heap[k]? =some (.cells cur 60 fr)):PSrv N w' sb s cm wv cbs xs ws:=by
 obtain⟨n,hn,hm⟩:=h.map
 refine⟨h.blk.chg hc (fun hf=>?_),⟨n,hn,hm.same (hc.block cm hm.lt (fun hf=>?_))⟩,h.len1,h.len2,fun i c cb a h1 h2 h3=>?_,bW h.row hc (fun k hk hf=>?_),h.wait,h.apart,h.mne⟩
 ·obtain⟨cur,fr,e⟩:=hF _ hf
  have h3:w.heap[sb]? =some (.cells (psrvC s.c s.now cm wv) 101 (0,0)):=h.blk
  rw[h3]at e
  simp only[Option.some.injEq,Obj.cells.injEq]at e
  exact absurd e.2.1 (by decide)
 ·obtain⟨cur,fr,e⟩:=hF _ hf
  obtain⟨es,ck,hb⟩:=hm.is_map
  rw[hb]at e
  cases e
 ·have hC:=h.con i c cb a h1 h2 h3
  refine hC.chg hc (fun k hk hf=>?_) (fun k cur fr hk hf=>?_)
  ·obtain⟨cur,fr,e⟩:=hF _ hf
   exact cC hC e (by decide) (by decide) (by decide) (by decide) hk
  ·obtain⟨cur',fr',e⟩:=hF _ hf
   rw[hk]at e
   simp only[Option.some.injEq,Obj.cells.injEq]at e
   exact absurd e.2.1 (by decide)
 ·obtain⟨cur,fr,e⟩:=hF _ hf
  exact ar h.row e (by decide) hk
theorem PSrv.snoc{N n:Nat}{w w1 w2:World}{sb:Nat}{s:ax}{cm:Nat}{wv:Value}{cbs:List Nat}{xs:List aH}{ws:List Nat}{cb:Nat}{c:au}{a:aH}(h:PSrv N w sb s cm wv cbs xs ws)(hb:Below w.heap.size w w1)(hA:ConAt 0 w1 cb s.c c a)(hnew:∀k,bg cb a k->w.heap.size<=k)(hw0:c.waits<=0)
  (hn:n<=N+1) (hm:MapIs ej Tryz.prog 3 w2 cm n ((s.conns.map (·.cid)).zip cbs++[(c.cid,cb)])) (hg:w1.grownBy w2 (some cm)):
  PSrv (N+1) w2 sb {s with conns:=s.conns++[c]} cm wv (cbs++[cb]) (xs++[a]) ws:=by
 have h1:=h.below hb
 obtain⟨n0,hn0,hm0⟩:=h.map
 have hc:Chg (fun k=>k=cm) w1 w2:=⟨hg.os,hg.tape,hg.output,hg.size,fun k hk hne=>hg.block k hk (fun e=>hne (Option.some.inj e))⟩
 have hcO:Chg (OwnF sb cm wv) w1 w2:=hc.mono fun k _ e=>Or.inr (Or.inl e)
 obtain⟨es,ck,hmb⟩:=hm0.is_map
 have hmb1:w1.heap[cm]? =some (.map es ck):=by rw[hb.block cm hm0.lt];exact hmb
 have hne:∀k cur e fr,w1.heap[k]? =some (.cells cur e fr)->k≠cm:=by
  intro k cur e fr hk e'
  rw[e',hmb1]at hk
  cases hk
 have hcm:¬bg cb a cm:=fun hF=>by have:=hnew cm hF;have:=hm0.lt;omega
 have hlt:∀(i:Nat) cb' a',cbs[i]? =some cb'->xs[i]? =some a'->∀k,bg cb' a' k->k<w.heap.size:=by
  intro i cb' a' e1 e2 k hk
  obtain⟨d,hd⟩:∃d,s.conns[i]? =some d:=⟨_,List.getElem?_eq_getElem (by rw[<-h.len1];exact(List.getElem?_eq_some_iff.1 e1).1)⟩
  exact ConF_lt (h.con i d cb' a' hd e1 e2) hk
 have hat:∀{α:Type} (l:List α) (x y:α) (i:Nat),l.length=s.conns.length->(l++[x])[i]? =some y->(i<s.conns.length/\l[i]? =some y)\/(i=s.conns.length/\y=x):=by
  intro α l x y i hl hy
  rcases Nat.lt_or_ge i s.conns.length with hi|hi
  ·rw[List.getElem?_append_left (by omega)]at hy
   exact Or.inl ⟨hi,hy⟩
  ·have:=(List.getElem?_eq_some_iff.1 hy).1
   simp at this
   have e:i=s.conns.length:=by omega
   rw[List.getElem?_append_right (by omega),e,hl]at hy
   simp at hy
   exact Or.inr ⟨e,hy.symm⟩
 have hA2:ConAt (N+1) w2 cb s.c c a:=(hA.chg hc (fun k hk e=>hcm (e▸hk)) (fun k cur fr hk=>hne k cur _ fr hk)).mono (by omega)
 obtain⟨cs,hw1,hw2,hw3⟩:=h.wait
 refine⟨h1.blk.chg hc (hne _ _ _ _ h1.blk),⟨n,hn,?_⟩,by simp[h.len1],by simp[h.len2],fun i d db b hd hdb hb'=>?_,bW h1.row hc (fun k hk e=>?_),⟨cs,hw1.same ?_,hw2,fun j b hb'=>?_⟩,fun i j cb1 a1 cb2 a2 hij e1 e2 e3 e4 k hk1 hk2=>?_,fun i db b hdb hb' hF=>?_⟩
 ·show MapIs ej Tryz.prog 3 w2 cm n (((s.conns++[c]).map (·.cid)).zip (cbs++[cb]))
  rw[List.map_append,List.zip_append (by simp[h.len1])]
  exact hm
 ·rcases hat _ _ _ _ rfl hd with⟨h3,h4⟩|⟨h3,h4⟩
  ·rcases hat _ _ _ _ h.len1 hdb with⟨_,h5⟩|⟨h5,_⟩
   ·rcases hat _ _ _ _ h.len2 hb' with⟨_,h6⟩|⟨h6,_⟩
    ·exact(h1.cons hcO h4 h5 h6).mono (by omega)
    ·omega
   ·omega
  ·rcases hat _ _ _ _ h.len1 hdb with⟨h5,_⟩|⟨_,h5⟩
   ·omega
   ·rcases hat _ _ _ _ h.len2 hb' with⟨h6,_⟩|⟨_,h6⟩
    ·omega
    ·subst h4 h5 h6
     exact hA2
 ·obtain⟨c1,e1⟩:=aO h1.row hk
  exact hne _ _ _ _ e1 e
 ·show bY (s.conns++[c])=_
  rw[cJ,fP,if_neg (by omega),List.append_nil]
 ·obtain⟨l,d,h3,h4,h5⟩:=hw3 j b hb'
  exact⟨l,d,by show(s.conns++[c])[l]? =_;rw[List.getElem?_append_left (List.getElem?_eq_some_iff.1 h3).1];exact h3,by rw[List.getElem?_append_left (List.getElem?_eq_some_iff.1 h4).1];exact h4,h5⟩
 ·rcases hat _ _ _ _ h.len1 e1 with⟨f1,g1⟩|⟨f1,g1⟩<;>rcases hat _ _ _ _ h.len2 e2 with⟨f2,g2⟩|⟨f2,g2⟩<;>rcases hat _ _ _ _ h.len1 e3 with⟨f3,g3⟩|⟨f3,g3⟩<;>rcases hat _ _ _ _ h.len2 e4 with⟨f4,g4⟩|⟨f4,g4⟩<;>first
   |omega
   |exact h.apart i j cb1 a1 cb2 a2 hij g1 g2 g3 g4 k hk1 hk2
   |(subst g3 g4;have:=hnew k hk2;have:=hlt i cb1 a1 g1 g2 k hk1;omega)
   |(subst g1 g2;have:=hnew k hk1;have:=hlt j cb2 a2 g3 g4 k hk2;omega)
 ·rcases hat _ _ _ _ h.len1 hdb with⟨f1,g1⟩|⟨f1,g1⟩<;>rcases hat _ _ _ _ h.len2 hb' with⟨f2,g2⟩|⟨f2,g2⟩<;>first
   |omega
   |exact h.mne i db b g1 g2 hF
   |(subst g1 g2;exact hcm hF)
theorem run_mlen{α:Type}{C:MCode α}{P:Program}{K t e:TypeId}(ht:P.underlying t=some (.map K e)){w:World}{b n:Nat}{l:List (Int×α)}(h:MapIs C P K w b n l)(ty:TypeId):
  (Builtin.len_ #[t] ty #[.map (some b)]).run P w=.ok (.int .i64 l.length) w:=by
 obtain⟨D,hown,ok⟩:=h
 have:=hown.len ht ty
 rw[ok.size]at this
 exact this
theorem sopen_full(N:Nat)(sb:Nat)(s:ax)(cm:Nat)(wv:Value)(cbs:List Nat)(xs:List aH)(ws:List Nat)(addr size:Int)(d:DgS)(tv fv:Value)(ok:Bool)(w:World)(h:PSrv N w sb s cm wv cbs xs ws){M L:Int}(hI:SrvInv M L s)(hov:∃ta tl tc,tv=.slice ta tl tc)(hof:∃ta tl tc,fv=.slice ta tl tc)(hfull:fz s=true):
  Calls Tryz.prog 91 #[.pointer (some ⟨sb,0,none⟩),.int .i64 addr,.agg (dgC d size tv fv),.bool ok] w fun e w'=>SOut N w sb cm wv cbs xs (s,[]) e w':=by
 obtain⟨t1,t2,t3,rfl⟩:=hov
 obtain⟨f1,f2,f3,rfl⟩:=hof
 have hcf:=hI.cfg
 have h0:=hcf.c0
 have h1:=hcf.c1
 have h3:=hcf.c3
 have h8:=hcf.c8
 have hfew:=hI.few
 obtain⟨n,hn,hm⟩:=h.map
 have hL:((s.conns.map (·.cid)).zip cbs).length=s.conns.length:=by simp[h.len1]
 have HE:Hid (∀(W:World),Below w.heap.size w W->SOut N w sb cm wv cbs xs (s,[]) (.returned (.slice none 0 0)) W):=fun W hW=>SOut.mk1 h (OutsAt.nil _ _) (h.below hW) (fun k hk=>Or.inl hk) (fun k hk=>hk) (Chg.of_below hW)
 have HMe:Hid (∀W,Below w.heap.size w W->Calls Tryz.prog 28 #[.pointer (some ⟨sb,0,none⟩)] W fun e w'=>e=.returned (.int .i64 (memS s))/\∃n,w'=W.drewN n):=by
  intro W hb
  have h2:=sMemory_any sb s.c s.now cm wv n _ W (h.blk.below hb) (hm.same (hb.block cm hm.lt)) (by omega) (by omega) (by omega)
  rw[hL]at h2
  exact h2
 have HCo:Hid (∀W,Below w.heap.size w W->Calls Tryz.prog 55 #[.pointer (some ⟨sb,0,none⟩)] W fun e w'=>e=.returned (.int .i64 (dS s.c))/\∃n,w'=W.drewN n):=by
  intro W hb
  exact scost_any sb s.c s.now cm wv W (h.blk.below hb) (by omega) (by omega)
 have hcr:0<=dS s.c/\dS s.c<=5000:=by unfold dS;omega
 have hmr:0<=memS s/\memS s<=5000000:=by
  unfold memS
  have hl:(s.conns.length:Int)<=1000:=by omega
  constructor
  ·exact Int.mul_nonneg (by omega) hcr.1
  ·exact Int.le_trans (Int.mul_le_mul hl hcr.2 hcr.1 (by omega)) (by decide)
 have hba:Below w.heap.size w (w.alloc (.cells #[.int .i64 d.kind,.int .i64 size,.int .i64 d.cid,.slice t1 t2 t3,.int .i64 d.num,.slice f1 f2 f3] 107)):=af w _
 have hS0:=h.blk.below hba
 have k0:(w.alloc (.cells #[.int .i64 d.kind,.int .i64 size,.int .i64 d.cid,.slice t1 t2 t3,.int .i64 d.num,.slice f1 f2 f3] 107)).cell? ⟨sb,0,none⟩= some (.int .i64 s.c.c0):=hS0.cell 0
 have k8:(w.alloc (.cells #[.int .i64 d.kind,.int .i64 size,.int .i64 d.cid,.slice t1 t2 t3,.int .i64 d.num,.slice f1 f2 f3] 107)).cell? ⟨sb,8,none⟩= some (.int .i64 s.c.c8):=hS0.cell 8
 have k11:(w.alloc (.cells #[.int .i64 d.kind,.int .i64 size,.int .i64 d.cid,.slice t1 t2 t3,.int .i64 d.num,.slice f1 f2 f3] 107)).cell? ⟨sb,11,none⟩= some (.map (some cm)):=hS0.cell 11
 have klen:∀(q:Nat) (ty:TypeId),(Builtin.len_ #[98] ty #[.map (some cm)]).run Tryz.prog ((w.alloc (.cells #[.int .i64 d.kind,.int .i64 size,.int .i64 d.cid,.slice t1 t2 t3,.int .i64 d.num,.slice f1 f2 f3] 107)).drewN q)=.ok (.int .i64 s.conns.length) ((w.alloc (.cells #[.int .i64 d.kind,.int .i64 size,.int .i64 d.cid,.slice t1 t2 t3,.int .i64 d.num,.slice f1 f2 f3] 107)).drewN q):=by
  intro q ty
  have h2:=run_mlen (e:=97) Tryz.underlying98 (hm.same ((aj hba q).block cm hm.lt)) ty
  rw[hL]at h2
  exact h2
 obtain⟨cst,hcst⟩:∃x,dS s.c=x:=⟨_,rfl⟩
 obtain⟨mem,hmem⟩:∃x,memS s=x:=⟨_,rfl⟩
 have HFu:Hid ((decide (s.c.c0<=(s.conns.length:Int)) || decide (s.c.c8<mem+cst))=true):=by
  rw[<-hmem,<-hcst];exact hfull
 rw[hcst]at HCo hcr
 rw[hmem]at HMe hmr
 have HBa:=ab hba
 unfold dgC
 clear h hI hcf hS0 hba hcst hmem hfull hm hL hn
 obtain⟨hcr1,hcr2⟩:=hcr
 obtain⟨hmr1,hmr2⟩:=hmr
 generalize hW0:w.alloc (.cells #[.int .i64 d.kind,.int .i64 size,.int .i64 d.cid,.slice t1 t2 t3,.int .i64 d.num,.slice f1 f2 f3] 107)=w0 at *
 have HW0:=ab hW0
 clear hW0
 rcases Int.lt_or_le s.conns.length s.c.c0 with hlt|hle
 ·have hd:decide (s.c.c0<=(s.conns.length:Int))=false:=decide_eq_false (by omega)
  have hm:s.c.c8<mem+cst:=by
   have:=HFu.out
   rw[hd]at this
   simpa using this
  go_enter Tryz.func91,Tryz.ntmps91
  go_wp2_with fail
  rw[HW0.out]
  go_quiet (first
   |(go_at_call 28;exact Calls.quiet_of (HMe.out _ (aj HBa.out _)))
   |(go_at_call 55;exact Calls.quiet_of (HCo.out _ (aj HBa.out _))))
  go_wp2_with fail
  go_ret
  exact HE.out _ (aj HBa.out _)
 ·have hd:decide (s.c.c0<=(s.conns.length:Int))=true:=decide_eq_true hle
  go_enter Tryz.func91,Tryz.ntmps91
  go_wp2_with fail
  rw[HW0.out]
  go_quiet (fail)
  go_wp2_with fail
  go_ret
  exact HE.out _ (aj HBa.out _)
section
variable {α : Type} {C : MCode α} {P : Program} {K : TypeId}
end
theorem newsO_append(c:au)(f:List Int)(outs:List (Int×List Int)):cf c f outs=outs++cf c f []:=by
 unfold cf
 split<;>simp
theorem closedO_append(r:ConR)(outs:List (Int×List Int)):dC r outs=outs++dC r []:=by
 unfold dC
 split
 ·simp
 ·exact newsO_append _ _ _
theorem frames_outs{s:ax}{i:Nat}{c:au}(hi:s.conns[i]? =some c)(b:List Int)(outs:List (Int×List Int))(n:Nat):cU s i b outs n=((cU s i b [] n).1,outs++(cU s i b [] n).2):=by
 rw[fH n b outs hi,fH n b [] hi,closedO_append]
theorem frames_few{s:ax}{i:Nat}{c:au}(hi:s.conns[i]? =some c)(b:List Int)(n:Nat):(cU s i b [] n).2.length<=1:=by
 rw[fH n b [] hi]
 simp only
 unfold dC cf
 split
 ·simp
 ·split<;>simp
theorem newsO_few(c:au)(f:List Int):(cf c f []).length<=1:=by
 unfold cf
 split<;>simp
def cZ(s:ax)(cid addr size:Int)(ok:Bool):au:=bu (bA s cid addr size ok) (bh s.c (bA s cid addr size ok))
def dY(s:ax)(cid addr size:Int)(ok:Bool):ax:=
 if ok then {s with last:=s.last+1,conns:=s.conns++[{cZ s cid addr size ok with waits:=s.last+1}]} else {s with conns:=s.conns++[cZ s cid addr size ok]}
def openO(s:ax)(cid addr size:Int)(ok:Bool):List (Int×List Int):=cf (bA s cid addr size ok) (bh s.c (bA s cid addr size ok)) []
theorem openedC_same(s:ax)(cid addr size:Int)(ok:Bool):(cZ s cid addr size ok).cid=cid/\(cZ s cid addr size ok).waits=0/\(cZ s cid addr size ok).proven=ok:=by
 have h:=news_same (bA s cid addr size ok) (bh s.c (bA s cid addr size ok))
 exact⟨h.1,h.2.1,h.2.2.1⟩
theorem openS_is(s:ax)(cid addr size:Int)(b:List Int)(N:Nat):openS s cid addr size b N []=cU (dY s cid addr size false) s.conns.length b (openO s cid addr size false) N:=by
 unfold openS dY
 simp only
 rw[ee]
 rfl
theorem openP_is(s:ax)(cid addr size:Int)(b:List Int)(N:Nat):openP s cid addr size b N []=cU (dY s cid addr size true) s.conns.length b (openO s cid addr size true) N:=by
 have h:=(openedC_same s cid addr size true).2.2
 have h1:provC (s.last+1) (cZ s cid addr size true) = {cZ s cid addr size true with waits:=s.last+1}:=by
  generalize cZ s cid addr size true=X at h⊢
  cases X
  cases h
  rfl
 unfold openP dY provS
 simp only
 rw[ee,ee,if_pos trivial,<-h1]
 rfl
theorem openMid_inv{M L size:Int}{s:ax}{cid addr:Int}{ok:Bool}(h:SrvInv M L s)(hc:0<=cid/\cid<=1073741823)(ha:0<=addr/\addr<256)(hs:0<=size)(hM:0<=M)(hno:cid∉s.conns.map (·.cid))(hf:¬fz s=true):SrvInv (M+size+100) (L+1) (dY s cid addr size ok):=by
 have hla:=h.last
 have hfull:(s.conns.length:Int)<s.c.c0:=by
  unfold fz at hf
  simp at hf
  omega
 obtain⟨k1,k2⟩:=opened_ok ok h hc ha hs hM
 have hn:=openedC_same s cid addr size ok
 unfold dY
 split
 ·refine SrvInv.snoc (h.mono (by omega) (by omega)) ?_ ?_ (by rw[show({cZ s cid addr size ok with waits:=s.last+1}:au).cid=cid from hn.1];exact hno) ⟨by simp only;omega,by simp,fun e=>?_⟩ (by omega) (by omega) hfull
  ·exact⟨k1.cid,k1.addr,k1.got,k1.sent,k1.heard,k1.runs,k1.credit,k1.slen,k1.str⟩
  ·exact⟨k2.str,k2.high,k2.runs,k2.fol⟩
  ·next hok=>
   have:ok=false:=hn.2.2.symm.trans e
   rw[this]at hok
   cases hok
 ·refine SrvInv.snoc (last:=s.last) (h.mono (by omega) (by omega)) k1 k2 (by rw[hn.1];exact hno) ?_ (Int.le_refl _) (by omega) hfull
  refine⟨by rw[hn.2.1];omega,by rw[hn.2.1];omega,fun _=>hn.2.1⟩
theorem openMid_at(s:ax)(cid addr size:Int)(ok:Bool):∃c,(dY s cid addr size ok).conns[s.conns.length]? =some c:=by
 unfold dY
 split
 ·exact⟨_,eW _ _⟩
 ·exact⟨_,eW _ _⟩
theorem SrvF_not{N:Nat}{w:World}{sb:Nat}{s:ax}{cm:Nat}{wv:Value}{cbs:List Nat}{xs:List aH}{ws:List Nat}(h:PSrv N w sb s cm wv cbs xs ws){k:Nat}{cur:Array Value}{e:TypeId}{fr:Nat×Nat}(hk:w.heap[k]? =some (.cells cur e fr))(he:e=60\/e=5):¬cq sb cm wv cbs xs k:=by
 rintro(e'|e'|e'|⟨j,db,b,e1,e2,e3⟩)
 ·exact OwnF_not h hk (by rcases he with rfl|rfl<;>decide) (by rcases he with rfl|rfl<;>decide) (Or.inl e')
 ·exact OwnF_not h hk (by rcases he with rfl|rfl<;>decide) (by rcases he with rfl|rfl<;>decide) (Or.inr (Or.inl e'))
 ·exact OwnF_not h hk (by rcases he with rfl|rfl<;>decide) (by rcases he with rfl|rfl<;>decide) (Or.inr (Or.inr e'))
 ·obtain⟨d,hd⟩:∃d,s.conns[j]? =some d:=⟨_,List.getElem?_eq_getElem (by rw[<-h.len1];exact(List.getElem?_eq_some_iff.1 e1).1)⟩
  have hC:=h.con j d db b hd e1 e2
  exact cC hC hk (by rcases he with rfl|rfl<;>decide) (by rcases he with rfl|rfl<;>decide) (by rcases he with rfl|rfl<;>decide) (by rcases he with rfl|rfl<;>decide) e3
theorem fU{F G:Nat->Prop}{a b c:World}(h:Chg F a b)(k:Chg G b c)(hG:∀x,G x->F x\/a.heap.size<=x):Chg F a c:=
 ⟨k.os.trans h.os,k.tape.trans h.tape,k.output.trans h.output,Nat.le_trans h.size k.size,fun x hx hn=>by
  rw[k.block x (Nat.lt_of_lt_of_le hx h.size) (fun hg=>(hG x hg).elim hn (fun h2=>by omega)),h.block x hx hn]⟩
theorem open_B{N:Nat}{w w3 w6:World}{sb:Nat}{s:ax}{cm:Nat}{wv:Value}{cbs:List Nat}{xs:List aH}{ws:List Nat}{cb:Nat}{a:aH}{cid addr size:Int}{ok:Bool}(hl1:cbs.length=s.conns.length)(hl2:xs.length=s.conns.length)
  (hP:PSrv N w3 sb {s with conns:=s.conns++[bn s.c cid addr ok]} cm wv (cbs++[cb]) (xs++[a]) ws) (hc:Chg (cq sb cm wv cbs xs) w w3) (hnew:∀k,bg cb a k->w.heap.size<=k)
  (hb:ConBlk w6 cb s.c (cZ s cid addr size ok) a.plv a.sm a.dm (bk (bn s.c cid addr ok).streams)) (hc6:Chg (· = cb) w3 w6):
  PSrv N w6 sb {s with conns:=s.conns++[cZ s cid addr size ok]} cm wv (cbs++[cb]) (xs++[a]) ws/\Chg (cq sb cm wv cbs xs) w w6/\ConAt N w6 cb s.c (cZ s cid addr size ok) a:=by
 have g0:(s.conns++[bn s.c cid addr ok])[s.conns.length]? =some (bn s.c cid addr ok):=eW _ _
 have g1:(cbs++[cb])[s.conns.length]? =some cb:=by rw[<-hl1];exact eW _ _
 have g2:(xs++[a])[s.conns.length]? =some a:=by rw[<-hl2];exact eW _ _
 have hA:=hP.con s.conns.length _ cb a g0 g1 g2
 have hn:=news_same (bA s cid addr size ok) (bh s.c (bA s cid addr size ok))
 have hst:(cZ s cid addr size ok).streams=(bn s.c cid addr ok).streams:=by
  unfold cZ bu
  split<;>rfl
 have hru:(cZ s cid addr size ok).runs=(bn s.c cid addr ok).runs:=by
  unfold cZ bu
  split<;>rfl
 have hA6:ConAt N w6 cb s.c (cZ s cid addr size ok) a:=hA.reblk hc6 hb hst hru
 have h1:=hP.step (Nat.le_refl _) g0 g1 g2 (hc6.mono fun k _ e=>Or.inl e) hA6 (fun k hk=>Or.inl hk) hn.1 hn.2.1
 have e1:(s.conns++[bn s.c cid addr ok]).set s.conns.length (cZ s cid addr size ok)=s.conns++[cZ s cid addr size ok]:=ee _ _ _
 have e2:(xs++[a]).set s.conns.length a=xs++[a]:=by rw[<-hl2];exact ee _ _ _
 rw[e2]at h1
 simp only[e1]at h1
 exact⟨h1,fU hc hc6 (fun x hx=>Or.inr (by subst hx;exact hnew _ (Or.inl rfl))),hA6⟩
theorem open_D{N:Nat}{w w7:World}{sb:Nat}{s7:ax}{cm:Nat}{wv wv7:Value}{cbs cbs7:List Nat}{xs xs7:List aH}{ws7:List Nat}{i cb:Nat}{c:au}{a:aH}{b:List Int}{n:Nat}{fv v1:Value}{o1:List (Int×List Int)}{b1:Nat}{M L:Int}{N0:Nat}{s0:ax}{ws0:List Nat}(h0:PSrv N0 w sb s0 cm wv cbs xs ws0)(hu7:∀k,SrvU xs7 k->SrvU xs k)
  (hP:PSrv N w7 sb s7 cm wv7 cbs7 xs7 ws7) (hi:s7.conns[i]? =some c) (g1:cbs7[i]? =some cb) (g2:xs7[i]? =some a) (hI:SrvInv M L s7) (hM:M<=1125899906842624) (hbv:RdB w7 fv b) (hby:Bytes b) (hl:b.length<=1073741823) (hn:b.length<=n) (hN:N+b.length<1125899906842624) (hE:∀W,Chg (bg cb a) w7 W->Env W)
  (hc:Chg (cq sb cm wv cbs xs) w w7) (hin:∀k,cq sb cm wv7 cbs7 xs7 k->cq sb cm wv cbs xs k\/w.heap.size<=k) (ho:OutsAt w7 b1 v1 o1) (hb1:w.heap.size<=b1) (hb2:b1<=w7.heap.size) (hfew:o1.length<=1):
  Calls Tryz.prog 98 #[.pointer (some ⟨sb,0,none⟩),.pointer (some ⟨cb,0,none⟩),fv] w7 fun e w8=>∃v2,e=.returned v2/\(∃ao l c,v2=.slice ao l c)/\∀ty,∃v' w9,(Builtin.append_ #[47,47] ty #[v1,v2]).run Tryz.prog w8=.ok v' w9/\(∃ao l c,v'=.slice ao l c)/\SOut (N+b.length) w sb cm wv cbs xs (cU s7 i b o1 n) (.returned v') w9:=by
 refine(sdeal_any N sb s7 cm wv7 cbs7 xs7 ws7 i cb c a b n fv w7 hP hi g1 g2 hI hM hbv hby hl hn hN hE).mono ?_
 rintro e w8 ⟨⟨v2,wv8,cbs8,xs8,ws8,rfl,ho2,hP8,hin8,hu8⟩,hc8⟩
 have ho':=ho.chg hc8 (fun k cur fr hk=>SrvF_not hP hk (Or.inl rfl)) (fun k cur fr hk=>SrvF_not hP hk (Or.inr rfl))
 have hf2:=frames_few hi b n
 obtain⟨a2,c2,e2⟩:=ho2.at.form
 refine⟨v2,rfl,⟨_,_,_,e2⟩,fun ty=>?_⟩
 obtain⟨v',w9,hrun,ho9,hg9⟩:=outs_append w7 w8 b1 v1 v2 o1 _ ho hc8 (fun k cur fr hk=>SrvF_not hP hk (Or.inl rfl)) (fun k cur fr hk=>SrvF_not hP hk (Or.inr rfl)) ho2 (fun k k1 k2 hA=>by
  rcases hu8 k hA with h1|h1
  ·have:=SrvU_lt h0 (hu7 k h1)
   omega
  ·omega) (by omega) hb2 ty
 obtain⟨a3,c3,e3⟩:=ho9.at.form
 obtain⟨out,hown,_⟩:=ho'
 have hc9:Chg (fun k=>v1.ownBlock=some k) w8 w9:=⟨hg9.os,hg9.tape,hg9.output,hg9.size,fun k hk hne=>hg9.block k hk (fun e=>hne e.symm)⟩
 have hP9:=hP8.other hc9 (fun k hk=>by obtain⟨cs,e⟩:=aO hown hk;exact⟨cs,_,e⟩)
 refine⟨v',w9,hrun,⟨_,_,_,e3⟩,?_⟩
 rw[frames_outs hi b o1 n]
 refine⟨⟨v',wv8,cbs8,xs8,ws8,rfl,ho9.mono hb1,hP9,fun k hk=>?_,fun k hk=>(hu8 k hk).imp (hu7 k) (fun h1=>Nat.le_trans hc.size h1)⟩,?_⟩
 ·rcases hin8 k hk with h1|h1
  ·exact hin k h1
  ·exact Or.inr (Nat.le_trans hc.size h1)
 ·refine fU (fU hc hc8 hin) hc9 (fun k hk=>Or.inr ?_)
  have:=(hown.lt k hk).1
  omega
end Go.Proofs.YthmdjhlhodpbhaaGreatDoor
