/- Comes, part 3 -/
import Derived.Test.YthmdjhlhodpbhaaGreatDoorM02
set_option maxHeartbeats 16000000
set_option maxRecDepth 8000
namespace Go.Proofs.YthmdjhlhodpbhaaGreatDoor
open Go.RowKit
open Go.World renaming cell? → aX, cell?_of_block → cF, drew → cG
open _root_.List renaming getElem?_eq_getElem → am, length_append → aT, getElem?_eq_some_iff → bm, replicate → ak, getElem?_append_right → aF, getElem?_append_left → aw, length_set → b8, getElem?_cons_zero → cz, getElem?_cons_succ → cB, mem_iff_getElem? → cC, replicate_succ' → cD, mem_of_getElem? → bT, length_eraseIdx → cE
open _root_.Array renaming getElem?_eq_some_iff → aO
open _root_.Nat renaming zero_le → aI, le_of_eq → cn, lt_of_lt_of_le → cq, le_trans → cw
open _root_.Or renaming inr → aV, inl → a_
open _root_.Int renaming lt_or_le → bM
open Go.Value renaming oneCell' → bK, ownBlock → ax
open _root_.Ne renaming symm → cH
open _root_.Go.Proofs.Tryz
open _root_.Go.Proofs.Tryz renaming prog → ae
open Go.Value renaming int → af, slice → aj, pointer → ai
open Go.IntKind renaming i64 → ag
variable {w w':World}{ob sb i j base kN n B:Nat}{c:gZ}{out:List (Int×Value)}{gN:List (Int×List Int)}{ov cv v rv ou bv E6:Value}{s:ik}{gP iJ:List Nat}{nk xs:List Value}{F:Nat->Prop}{P:Prop}{x y:jf}
theorem yj{l:List gZ}:∀{k j:Nat},mG l k=some j->j<k
 |0,j,h=>by simp[mG]at h
 |k+1,j,h=>by
  simp only[mG]at h
  split at h
  ·split at h
   ·obtain rfl:=Option.some.inj h;omega
   ·simp at h
  ·next i hi=>
   have:=yj hi
   split at h
   ·obtain rfl:=Option.some.inj h;omega
   ·obtain rfl:=Option.some.inj h;omega
def Oe(w:World)(l:List gZ)(gP:List Nat)(r:Option Nat)(e:Ending)(w':World):Prop:=
 match r with
 |none=>e=.returned (.tuple #[af ag 0,af ag 4])/\Below w.heap.size w w'
 |some j=>∃c cb rv sv,l[j]? =some c/\gP[j]? =some cb/\e=.returned (.tuple #[af ag c.gL,af ag 0])/\ip (· = cb) w w'/\
   w.heap[cb]? =some (.cells (il c rv sv) 249 (0,0))/\w'.heap[cb]? =some (.cells (il {c with waits:=0} rv sv) 249 (0,0))
theorem xp:ae.underlying 244=some (.pointer (ae.pointee 244)):=by kernel_rfl
theorem GQ(w:World):(binOp .eql 244 (ai none) (ai none)).run ae w=.ok (.bool true) w:=run_eql_pointer_nil w 244 none xp
theorem Kq(w:World)(p:Nat):(binOp .eql 244 (ai (some ⟨p,0,none⟩)) (ai none)).run ae w=.ok (.bool false) w:=run_eql_pointer_nil w 244 (some ⟨p,0,none⟩) xp
theorem J'(s:ik)(sb base:Nat)(gP:List Nat)(cv ov:Value)(w:World)(hs:w.heap[sb]? =some (.cells (ij s cv ov) 242 (0,0)))(kE:w.ownsRow base 244 1 cv gP.length (kF gP))(i8:gP.length=s.gG.length)(hn:gP.length<=1000)
  (sZ:∀(i:Nat) c cb,s.gG[i]? =some c->gP[i]? =some cb->∃rv sv,w.heap[cb]? =some (.cells (il c rv sv) 249 (0,0))):
  Calls ae 122 #[ai (some ⟨sb,0,none⟩)] w fun e w'=>Oe w s.gG gP (mG s.gG s.gG.length) e w':=by
 have s11:w.cell? ⟨sb,11,none⟩= some cv:=by simp[aX,hs,ij,jG.cells]
 obtain⟨co,cc,rfl⟩:=i7 kE;have HR:=gE kE;have HC:=gE sZ;clear hs kE sZ;go_enter func122,ntmps122;go_wp2_with fail
 go_loopw [4,5] (fun f i wr=>∃k:Nat,k<=gP.length/\i=af ag k/\f=pT gP (mG s.gG k)/\Below w.heap.size w wr) (fun _ i _=>gP.length-(intOf i).toNat)
 case atStart=>exact⟨0,aI _,rfl,rfl,Below.refl _ _⟩
 case round=>
  obtain⟨k,hk,rfl,rfl,jz⟩:=hrel;have abV:=gF s11 jz;have HB:=gE jz;clear jz;by_cases jp:k<gP.length
  ·obtain⟨g,cc',e1,_,mZ,_⟩:=jP HR.out (by omega);simp only[Value.slice.injEq]at e1;obtain⟨rfl,_,rfl⟩:=e1;obtain⟨p,hp⟩:∃p,gP[k]? =some p:=⟨_,am jp⟩;obtain⟨c,hc⟩:∃c,s.gG[k]? =some c:=⟨_,am (by omega)⟩;obtain⟨rv,sv,jJ⟩:=HC.out k c p hc hp
   have m0:wr.cell? ⟨g,k,none⟩= some (ai (some ⟨p,0,none⟩)):=gF (by
    rw[HR.out.cellAt k (by omega)];simp[kF,AN,hp]) HB.out
   have m10:wr.cell? ⟨p,10,none⟩= some (af ag c.waits):=gF (by simp[aX,jJ,il]) HB.out;have Vs:mj s.gG k=c.waits:=by simp[mj,hc]
   have sJ:pT gP (some k)=ai (some ⟨p,0,none⟩):=by simp[pT,List.getD,hp]
   have HG:=gE sJ;clear sJ jJ
   cases hf:mG s.gG k with
   |none=>
    have HU:Hid (mG s.gG (k+1)=if 0<c.waits then some k else none):=by
     show _=_;simp only[mG,hf,Vs]
    clear hf Vs;rcases bM 0 c.waits with hw|hw
    ·have hd:decide (0<c.waits)=true:=by simpa using hw
     simp only[pT];have E0:=GQ wr;go_wp2_with fail
     go_quiet (fail)
     go_wp2_with fail
     go_roundw
     case rel=>exact⟨k+1,by omega,by go_num,by rw[HU.out,if_pos hw];exact HG.out.symm,gK HB.out _⟩
     case measure=>simp[intOf];omega
    ·have hd:decide (0<c.waits)=false:=by simpa using hw
     simp only[pT];have E0:=GQ wr;go_wp2_with fail
     go_quiet (fail)
     go_wp2_with fail
     go_roundw
     case rel=>exact⟨k+1,by omega,by go_num,by rw[HU.out,if_neg (by omega)],gK HB.out _⟩
     case measure=>simp[intOf];omega
   |some j=>
    have hjk:=yj hf;obtain⟨p',Cc⟩:∃p,gP[j]? =some p:=⟨_,am (by omega)⟩;obtain⟨c',xQ⟩:∃c,s.gG[j]? =some c:=⟨_,am (by omega)⟩;obtain⟨rv',Hm,Gv⟩:=HC.out j c' p' xQ Cc;have aec:wr.cell? ⟨p',10,none⟩= some (af ag c'.waits):=gF (by simp[aX,Gv,il]) HB.out;have ZU:pT gP (some j)=ai (some ⟨p',0,none⟩):=by simp[pT,List.getD,Cc]
    have HU:Hid (mG s.gG (k+1)=if 0<c.waits/\c.waits<c'.waits then some k else some j):=by
     show _=_;have hwj:mj s.gG j=c'.waits:=by simp[mj,xQ]
     simp only[mG,hf,Vs,hwj]
    clear hf Vs Gv;rw[ZU];have E0:=Kq wr p';have HGj:=gE ZU;clear ZU;rcases bM 0 c.waits with hw|hw
    ·have hd:decide (0<c.waits)=true:=by simpa using hw
     rcases bM c.waits c'.waits with hv|hv
     ·have NH:decide (c.waits<c'.waits)=true:=by simpa using hv
      go_wp2_with fail
      go_quiet (fail)
      go_wp2_with fail
      go_roundw
      case rel=>exact⟨k+1,by omega,by go_num,by rw[HU.out,if_pos ⟨hw,hv⟩,HG.out],gK HB.out _⟩
      case measure=>simp[intOf];omega
     ·have NH:decide (c.waits<c'.waits)=false:=by simpa using hv
      go_wp2_with fail
      go_quiet (fail)
      go_wp2_with fail
      go_roundw
      case rel=>exact⟨k+1,by omega,by go_num,by rw[HU.out,if_neg (by omega),HGj.out],gK HB.out _⟩
      case measure=>simp[intOf];omega
    ·have hd:decide (0<c.waits)=false:=by simpa using hw
     go_wp2_with fail
     go_quiet (fail)
     go_wp2_with fail
     go_roundw
     case rel=>exact⟨k+1,by omega,by go_num,by rw[HU.out,if_neg (by omega),HGj.out],gK HB.out _⟩
     case measure=>simp[intOf];omega
  ·obtain rfl:k=gP.length:=by omega
   have HLn:=gE i8
   cases hf:mG s.gG gP.length with
   |none=>
    have HF:=gE hf;clear hf;simp only[pT];go_wp2_with fail
    go_ret2
    rw[<-HLn.out,HF.out];exact⟨rfl,HB.out⟩
   |some j=>
    have hjk:=yj hf;obtain⟨p',Cc⟩:∃p,gP[j]? =some p:=⟨_,am (by omega)⟩;obtain⟨c',xQ⟩:∃c,s.gG[j]? =some c:=⟨_,am (by omega)⟩;obtain⟨rv',Hm,Gv⟩:=HC.out j c' p' xQ Cc;have n10:wr.cell? ⟨p',10,none⟩= some (af ag c'.waits):=gF (by simp[aX,Gv,il]) HB.out;have n0:wr.cell? ⟨p',0,none⟩= some (af ag c'.gL):=gF (by simp[aX,Gv,il]) HB.out
    have mH:wr.heap[p']? =some (.cells (il c' rv' Hm) 249 (0,0)):=by
     rw[HB.out.block p' (aO.1 Gv).1];exact Gv
    have zr:∀q,wr.frozen? ⟨p',q,none⟩= false:=fun q=>frozen_of_row wr p' q _ _ mH
    have KF:=gE mH;clear mH;have ZU:pT gP (some j)=ai (some ⟨p',0,none⟩):=by simp[pT,List.getD,Cc]
    rw[ZU];have HF:=gE hf;have HCb:=gE Gv;clear hf Gv ZU;go_wp2_with fail
    go_ret2
    rw[<-HLn.out,HF.out];exact⟨c',p',rv',Hm,xQ,Cc,rfl,iu HB.out 10 _,HCb.out,(gQ KF.out 10 _).trans rfl⟩
theorem xZ(s:jf)(bv:Value):∀(l:List jf) (nk:List Value),nk.length=l.length->lO (l++[s]) (nk++[bv])=lO l nk++s.cells bv
 |[],[],_=>by simp[lO]
 |a::l,b::nk,h=>by
  have ih:=xZ s bv l nk (by simpa using h);simp[lO,ih]
 |[],b::nk,h=>by simp at h
 |a::l,[],h=>by simp at h
theorem GJ:(ae.info? 252).map (fun i=>(i.zero,i.size,i.bytes))=some (some (.agg #[aj none 0 0,af ag 0,af ag 0,af ag 0,af ag 0,.bool false,.bool false]),7,64):=by kernel_rfl
def aab(cb:Nat)(sv:Value)(k:Nat):Prop:=k=cb\/sv.ownBlock=some k
structure F2(w:World)(base:Nat)(c:gZ)(cb:Nat)(rv sv:Value)(nk:List Value)(l:List jf)(w':World)(Hm:Value)(uq:List Value):Prop where
 iO:ip (aab cb sv) w w'
 kH:w'.heap[cb]? =some (.cells (il {c with gJ:=l} rv Hm) 249 (0,0))
 row:w'.ownsRow base 252 7 Hm l.length (lO l uq)
 len:uq.length=l.length
 news:uq=nk++ak (l.length-c.gJ.length) (aj none 0 0)
 yB:∀g,Hm.ownBlock=some g->g<w.heap.size->sv.ownBlock=some g
def NY(w:World)(a:Addr):Nat:=rA ((w.cell? a).getD (ai none))
theorem FJ(c:gZ)(jm:Int)(Bf:Nat)(sb cb base:Nat)(rv sv:Value)(nk:List Value)(w:World)(s2:w.cell? ⟨sb,2,none⟩= some (af ag jm))(hc:w.heap[cb]? =some (.cells (il c rv sv) 249 (0,0)))
  (kE:w.ownsRow base 252 7 sv c.gJ.length (lO c.gJ nk)) (qQ:nk.length=c.gJ.length) (lE:base<=w.heap.size) (hl:Bf<=1073741823) (js:sb≠cb) (SK:sv.ownBlock≠some sb) (mx:c.gJ.length<=Bf):
  Calls ae 187 #[ai (some ⟨sb,0,none⟩),ai (some ⟨cb,0,none⟩),af ag Bf] w fun e w'=>e=.returned (.tuple #[])/\
   ∃Hm uq,F2 w base c cb rv sv nk (rk jm c.gJ Bf) w' Hm uq:=by
 obtain⟨i0,hi,mB,kS,ln⟩:=info_parts GJ;have yY:sb<w.heap.size:=jh s2;have HC:=gE hc;have HR:=gE kE;clear hc kE;go_enter func187,ntmps187;go_wp2_with fail
 go_loopw [] (fun wr=>∃(k:Nat) (Hm:Value) (uq:List Value),c.gJ.length+k<=Bf/\F2 w base c cb rv sv nk (c.gJ++ak k (jI jm)) wr Hm uq/\wr.cell? ⟨sb,2,none⟩= some (af ag jm)) (fun wr=>Bf-NY wr ⟨cb,9,none⟩)
 case atStart=>
  refine⟨0,sv,nk,by omega,⟨ip.refl _ _,?_,?_,?_,?_,fun g h _=>h⟩,s2⟩
  ·simpa using HC.out
  ·simpa using HR.out
  ·simpa using qQ
  ·simp
 case round=>
  obtain⟨k,Hm,uq,hk,hG,s2r⟩:=hrel;obtain⟨la,lc,rfl⟩:=iA hG.row;have mH:=hG.kH;have T7:(c.gJ++ak k (jI jm)).length=c.gJ.length+k:=by simp
  have HG:=gE hG;clear hG;rw[T7]at mH HG;have c9:wr.cell? ⟨cb,9,none⟩= some (.slice la (c.gJ.length+k) lc):=by simp[aX,mH,il]
  have zc:∀q,wr.frozen? ⟨cb,q,none⟩= false:=fun q=>frozen_of_row wr cb q _ _ mH
  have KF:=gE mH;clear mH;by_cases jp:c.gJ.length+k<Bf
  ·have kE:=HG.out.row;rw[T7]at kE;have yV:=gO kE KF.out (by decide);have XZ:cb<wr.heap.size:=jh c9;have ku:=HG.out.iO.size;have HO:=gE kE;clear kE;go_wp2_with fail
   go_region_law (refine rI rfl (.tmp 17) (.tmp 24) 247 rfl base 252 i0 _ 7 64 underlying247 hi mB kS ln rfl (by decide) (.slice la (c.gJ.length+k) lc) (c.gJ.length+k) (lO (c.gJ++ak k (jI jm)) uq) rfl (HO.out.alloc _) ⟨wr.heap.size,0,none⟩ 1 1 ((jI jm).cells (aj none 0 0)) rfl rfl (iZ wr 252 ((jI jm).cells (aj none 0 0)) (by simp[maxLen,jf.cells])) (by simp[jf.cells,jI,bK]) (by unfold maxLen;omega) (by omega) (by simp[cG];omega) ?_;intro v' w2 j8 jA kP;obtain⟨Db,yy,rfl⟩:=iA j8;have pY:=gU (w:=wr) (World.grownBy.mk jA.os jA.tape jA.output jA.size jA.block);have Ji:=(pY.block cb XZ (cH yV)).trans KF.out;have c9w:w2.cell? ⟨cb,9,none⟩= some (.slice la (c.gJ.length+k) lc):=(by simp[aX,Ji,il]);have z9w:w2.frozen? ⟨cb,9,none⟩= false:=frozen_of_row w2 cb 9 _ _ Ji;replace j8:=gE j8;replace jA:=gE pY;replace kP:=gE kP;replace Ji:=gE Ji;clear pY;refine Hid.out ?_;refine gE ?_)
   all_goals
    go_roundw
    case rel=>
     have yr:=HG.out.iO;have je:=j8.out;have DU:=jA.out;have acX:=gO je Ji.out (by decide);have Bc:=HG.out.len;refine⟨_,_,_,_,_,_,_,_,_,_,_,_,_,_,_,_,_,_,_,_,_,_,?_,rfl⟩;refine⟨k+1,.slice Db (c.gJ.length+k+1) yy,uq++[aj none 0 0],by omega,⟨?_,?_,?_,?_,?_,?_⟩,?_⟩
     ·refine⟨DU.os.trans yr.os,DU.tape.trans yr.tape,DU.output.trans yr.output,?_,fun q hq hn=>?_⟩
      ·rw[World.size_setCell];exact cw ku DU.size
      ·have h1:q≠cb:=fun e=>hn (a_ e)
       rw[heap_setCell_other _ _ _ _ h1,DU.block q (by omega) (fun e=>hn (aV (HG.out.yB q e.symm hq))),yr.block q hq hn]
     ·exact(gQ Ji.out 9 _).trans rfl
     ·rw[cD,<-List.append_assoc,xZ _ _ _ _ Bc,aT,T7];exact ownsRow_setCell_other je acX _
     ·rw[aT,Bc,T7];simp;omega
     ·rw[HG.out.news];simp;rw[show k+1=k+1 from rfl,cD]
     ·intro g hg pY;rcases kP.out with h|h
      ·exact HG.out.yB g (h.symm.trans hg) pY
      ·have:=h g hg;simp[cG]at this;omega
     ·exact(cF (a:=⟨sb,2,none⟩) (heap_setCell_other _ _ _ _ js)).trans <|(cF (a:=⟨sb,2,none⟩) (DU.block sb (by omega) (fun e=>SK (HG.out.yB sb e.symm yY)))).trans s2r
    case measure=>
     have e1:(w2.setCell ⟨cb,9,none⟩ (.slice Db (c.gJ.length+k+1) yy)).cell? ⟨cb,9,none⟩= some (.slice Db (c.gJ.length+k+1) yy):=by
      simp only[aX,gQ Ji.out 9 (.slice Db (c.gJ.length+k+1) yy)]
      rfl
     simp only[NY,e1,c9,Option.getD_some,rA];omega
  ·obtain rfl:Bf=c.gJ.length+k:=by omega
   go_wp2_with fail
   go_end0
   refine⟨rfl,.slice la (c.gJ.length+k) lc,uq,?_⟩;have:rk jm c.gJ (c.gJ.length+k)=c.gJ++ak k (jI jm):=by simp[rk]
   rw[this];exact HG.out
def g_(l:List (Int×Value)):List Value:=l.flatMap fun x=>[af ag x.1,x.2]
theorem nL(l:List (Int×Value)):(g_ l).length=l.length*2:=by
 induction l with
 |nil=>rfl
 |cons a r ih=>simp only[g_,List.flatMap_cons,aT]at ih⊢;rw[ih];simp;omega
theorem mu(a b:List (Int×Value)):g_ (a++b)=g_ a++g_ b:=by simp[g_]
theorem xu:(ae.info? 60).map (fun i=>(i.zero,i.size,i.bytes))=some (some (.agg #[af ag 0,aj none 0 0]),2,32):=by kernel_rfl
def aaw(sb cb:Nat)(ov:Value)(k:Nat):Prop:=k=sb\/k=cb\/ov.ownBlock=some k
structure Ix(w:World)(s:ik)(c:gZ)(sb cb ob:Nat)(cv ov rv sv:Value)(out:List (Int×Value))(b:List Int)(w':World)(bv su:Value):Prop where
 iO:ip (aaw sb cb ov) w w'
 lf:w'.heap[sb]? =some (.cells (ij s cv su) 242 (0,0))
 kH:w'.heap[cb]? =some (.cells (il {c with jb:=c.jb+b.length} rv sv) 249 (0,0))
 row:w'.ownsRow ob 60 2 su (out.length+1) (g_ (out++[(c.addr,bv)]))
 bytes:w'.ownsRow w.heap.size 5 1 bv b.length (U8 b)
 yB:∀g,su.ownBlock=some g->g<w.heap.size->ov.ownBlock=some g
def y'(w:World)(s:ik)(c:gZ)(sb cb ob:Nat)(cv ov rv sv:Value)(out:List (Int×Value))(b:List Int)(w':World):Prop:=
 if oA c b.length then ∃bv su,Ix w s c sb cb ob cv ov rv sv out b w' bv su else Below w.heap.size w w'
theorem Qg(s:ik)(c:gZ)(fl:List Int)(out:List (Int×Value))(sb cb ob bf:Nat)(cv ov rv sv fv:Value)(w:World)(hs:w.heap[sb]? =some (.cells (ij s cv ov) 242 (0,0)))(hc:w.heap[cb]? =some (.cells (il c rv sv) 249 (0,0)))
  (wN:w.ownsRow ob 60 2 ov out.length (g_ out)) (hf:w.ownsRow bf 5 1 fv fl.length (U8 fl)) (BF:0<fl.length/\fl.length<=900) (Eh:ob<=w.heap.size) (kb:0<=c.gL/\c.gL<=1073741823) (zB:0<=c.jc/\c.jc<=1125899906842624) (C8:0<=c.jb/\c.jb<=1125899906842624) (Ca:out.length<=1000000):
  Calls ae 192 #[ai (some ⟨sb,0,none⟩),ai (some ⟨cb,0,none⟩),fv] w fun e w'=>e=.returned (.tuple #[])/\y' w s c sb cb ob cv ov rv sv out (kK c.gL fl) w':=by
 obtain⟨i0,hi,mB,kS,ln⟩:=info_parts xu;have js:=oV hs hc;have yY:sb<w.heap.size:=(aO.1 hs).1;have mx:cb<w.heap.size:=(aO.1 hc).1;have c0:w.cell? ⟨cb,0,none⟩= some (af ag c.gL):=by simp[aX,hc,il]
 obtain⟨fo,fc,rfl⟩:=i7 hf;obtain⟨oo,oc,rfl⟩:=iA wN;have xt:=jS c.gL;have HS:=gE hs;have HC:=gE hc;have HO:=gE wN
 have HW:Hid (∀W:World,W=w.alloc (.cells #[.int .u8 4] 5)->W.ownsRow 0 5 1 (aj (some ⟨w.heap.size,0,none⟩) 1 1) 1 (U8 [4])/\W.ownsRow 0 5 1 (.slice fo fl.length fc) fl.length (U8 fl)/\Below w.heap.size w W):=by
  rintro W rfl;exact⟨iE (o5 w 5 (U8 [4]) (by simp[U8,maxLen])) (aI _),(iE hf (aI _)).alloc _,gH w _⟩
 clear hs hc wN hf;go_enter func192,ntmps192;go_wp2_with fail;obtain⟨C3,Wq,kf⟩:=HW.out _ rfl;clear HW;refine(qm c.gL _ kb.1 kb.2).mono ?_;rintro e w1 ⟨v1,rfl,kJ,im⟩;have sj:=iB C3 im;have hf1:=iB Wq im;have wH:=gI kf im;have Bd:=iE kJ (aI _);clear C3 Wq im kJ kf;go_wp2_with fail;refine(lV [4] (jn c.gL) 0 _ _ w1 sj Bd (by simp) xt.2 (by simp) (by omega)).mono ?_;rintro e w2 ⟨v2,rfl,je,iT⟩;have X7:=iB hf1 iT;have oL:=gI wH iT;have T':=iE je (aI _);clear sj hf1 Bd iT wH je;go_wp2_with fail;refine(lV ([4]++jn c.gL) fl 0 _ _ w2 T' X7 (by simp) BF.1 (by simp;omega) (by omega)).mono ?_;rintro e w3 ⟨v3,rfl,lk,mw⟩;have Av:=gI oL mw;have hB:w3.ownsRow w.heap.size 5 1 v3 (kK c.gL fl).length (U8 (kK c.gL fl)):=iE lk oL.size;have hBl:(kK c.gL fl).length<=1000:=by simp[kK];omega
 clear X7 T' mw oL lk;obtain⟨b,hbe⟩:∃b,kK c.gL fl=b:=⟨_,rfl⟩;rw[hbe]at hB hBl;have HBE:=gE hbe;clear hbe;obtain⟨bo,bc,rfl⟩:=i7 hB;have lj:w3.heap[sb]? =some (.cells (ij s cv (.slice oo out.length oc)) 242 (0,0)):=by rw[Av.block sb yY];exact HS.out
 have mH:w3.heap[cb]? =some (.cells (il c rv sv) 249 (0,0)):=by rw[Av.block cb mx];exact HC.out
 have q2:w3.cell? ⟨cb,2,none⟩= some (.bool c.gT):=by simp[aX,mH,il]
 have q3:w3.cell? ⟨cb,3,none⟩= some (af ag c.jc):=by simp[aX,mH,il]
 have q4:w3.cell? ⟨cb,4,none⟩= some (af ag c.jb):=by simp[aX,mH,il]
 have q1:w3.cell? ⟨cb,1,none⟩= some (af ag c.addr):=by simp[aX,mH,il]
 have z4:w3.frozen? ⟨cb,4,none⟩= false:=frozen_of_row w3 cb 4 _ _ mH;have p13:w3.cell? ⟨sb,13,none⟩= some (.slice oo out.length oc):=by simp[aX,lj,ij,jG.cells]
 have HB:=gE hB;have Ie:=gE Av;have HSr:=gE lj;have KF:=gE mH;clear hB Av lj mH;obtain⟨Fo,pr⟩:=zB;obtain⟨yX,uD⟩:=C8;have HM:Hid (oA c b.length=(c.gT || decide (c.jb+b.length<=3*c.jc))):=rfl;have HOr:=gE (iB HO.out Ie.out)
 have HN:Hid (∀(m:Nat) (W:World),W=(w3.drewN m).setCell ⟨cb,4,none⟩ (af ag (c.jb+b.length))->W.heap[sb]? =some (.cells (ij s cv (.slice oo out.length oc)) 242 (0,0))/\W.heap[cb]? =some (.cells (il {c with jb:=c.jb+b.length} rv sv) 249 (0,0))/\
   W.ownsRow ob 60 2 (.slice oo out.length oc) out.length (g_ out)/\W.ownsRow w.heap.size 5 1 (.slice bo b.length bc) b.length (U8 b)/\ip (· = cb) w W):=by
  rintro m W rfl;refine⟨?_,?_,?_,?_,?_⟩
  ·rw[heap_setCell_other _ _ _ _ js];exact HSr.out
  ·exact(gQ (show(w3.drewN m).heap[cb]? =_ from KF.out) 4 _).trans rfl
  ·exact ownsRow_setCell_other (show(w3.drewN m).ownsRow ob 60 2 (.slice oo out.length oc) out.length (g_ out) from HOr.out) (gO HOr.out KF.out (by decide)) _
  ·exact ownsRow_setCell_other (show(w3.drewN m).ownsRow w.heap.size 5 1 (.slice bo b.length bc) b.length (U8 b) from HB.out) (gO HB.out KF.out (by decide)) _
  ·exact iu (gK Ie.out m) 4 _
 have HT:Hid (∀(W w2:World) (Db:Option Addr) (yy:Nat),ip (· = cb) w W->W.heap[sb]? =some (.cells (ij s cv (.slice oo out.length oc)) 242 (0,0))->W.heap[cb]? =some (.cells (il {c with jb:=c.jb+b.length} rv sv) 249 (0,0))->
   W.ownsRow w.heap.size 5 1 (.slice bo b.length bc) b.length (U8 b)->W.ownsRow ob 60 2 (.slice oo out.length oc) out.length (g_ out)->
   w2.ownsRow ob 60 2 (.slice Db (out.length+1) yy) (out.length+1) (g_ out++[af ag c.addr,.slice bo b.length bc])->W.grownBy w2 (.slice oo out.length oc:Value).ownBlock->((.slice Db (out.length+1) yy:Value).ownBlock=(.slice oo out.length oc:Value).ownBlock\/∀g,(.slice Db (out.length+1) yy:Value).ownBlock=some g->W.heap.size<=g)->
   Ix w s c sb cb ob cv (.slice oo out.length oc) rv sv out b (w2.setCell ⟨sb,13,none⟩ (.slice Db (out.length+1) yy)) (.slice bo b.length bc) (.slice Db (out.length+1) yy)):=by
  intro W w2 Db yy kq hS hC rm ho gY hg kP;have rQ:=gO ho hS (by decide);have uC:=gO ho hC (by decide);have sI:w2.heap[sb]? =_:=(hg.block sb (cq yY kq.size) (cH rQ)).trans hS;have hC2:w2.heap[cb]? =_:=(hg.block cb (cq mx kq.size) (cH uC)).trans hC;have O6:=rm.kept hg (yC rm ho (by decide));refine⟨⟨hg.os.trans kq.os,hg.tape.trans kq.tape,hg.output.trans kq.output,?_,fun q hq hn=>?_⟩,?_,?_,?_,?_,?_⟩
  ·rw[World.size_setCell];exact cw kq.size hg.size
  ·have h1:q≠sb:=fun e=>hn (a_ e)
   have h2:q≠cb:=fun e=>hn (aV (a_ e))
   rw[heap_setCell_other _ _ _ _ h1,hg.block q (cq hq kq.size) (fun e=>hn (aV (aV e.symm))),kq.block q hq h2]
  ·exact(gQ sI 13 _).trans rfl
  ·rw[heap_setCell_other _ _ _ _ (cH js)];exact hC2
  ·rw[mu];exact ownsRow_setCell_other gY (gO gY sI (by decide)) _
  ·exact ownsRow_setCell_other O6 (gO O6 sI (by decide)) _
  ·intro g Il jp;rcases kP with h|h
   ·exact h.symm.trans Il
   ·have:=h g Il;have:=kq.size;omega
 generalize tA:c.gT=pv at q2 HM
 cases pv
 ·rcases bM (3*c.jc) (c.jb+b.length) with T2|uV
  ·have HMf:oA c b.length=false:=by rw[HM.out];simp;omega
   go_wp2_with fail
   go_quiet (fail)
   go_wp2_with fail;refine bodyPost_ret (results_none rfl _ _ _) rfl ?_;refine⟨rfl,?_⟩;unfold y';rw[HBE.out,HMf,if_neg (by decide)];exact gK Ie.out _
  ·have HMt:oA c b.length=true:=by rw[HM.out];simp;omega
   go_wp2_with fail
   go_quiet (fail)
   go_wp2_with fail;obtain⟨k1,k2,k3,k4,k5⟩:=HN.out nq _ rfl;clear HN;generalize (w3.drewN nq).setCell ⟨cb,4,none⟩ (af ag (c.jb+b.length))=W at k1 k2 k3 k4 k5⊢;have r13:W.cell? ⟨sb,13,none⟩= some (.slice oo out.length oc):=by simp[aX,k1,ij,jG.cells]
   have r1:W.cell? ⟨cb,1,none⟩= some (af ag c.addr):=by simp[aX,k2,il]
   have YK:sb<W.heap.size:=jh r13;have hWs:=k5.size;have yV:=gO k3 k1 (by decide);have K1:=gE k1;have K2:=gE k2;have K3:=gE k3;have K4:=gE k4;have K5:=gE k5;clear k1 k2 k3 k4 k5 q1 q2 q3 q4 z4 p13
   go_region_law (refine rI rfl (.tmp 50) (.tmp 57) 47 rfl ob 60 i0 _ 2 32 underlying47 hi mB kS ln rfl (by decide) (.slice oo out.length oc) out.length (g_ out) rfl (K3.out.alloc _) ⟨W.heap.size,0,none⟩ 1 1 [af ag c.addr,.slice bo b.length bc] rfl rfl (iZ W 60 [af ag c.addr,.slice bo b.length bc] (by simp[maxLen])) (by simp[bK]) (by unfold maxLen;omega) (by omega) (by simp[cG];omega) ?_;intro v' w2 j8 jA kP;obtain⟨Db,yy,rfl⟩:=iA j8;have pY:=gU (w:=W) (World.grownBy.mk jA.os jA.tape jA.output jA.size jA.block);have Ji:=(pY.block sb YK (cH yV)).trans K1.out;have aca:w2.cell? ⟨sb,13,none⟩= some (.slice oo out.length oc):=(by simp[aX,Ji,ij,jG.cells]);have adF:w2.frozen? ⟨sb,13,none⟩= false:=frozen_of_row w2 sb 13 _ _ Ji;replace j8:=gE j8;replace jA:=gE pY;replace kP:=gE kP;clear pY Ji;refine Hid.out ?_;refine gE ?_)
   all_goals
    go_end0
    refine⟨rfl,?_⟩;unfold y';rw[HBE.out,HMt,if_pos rfl];refine⟨_,_,HT.out W w2 Db yy K5.out K1.out K2.out K4.out K3.out j8.out jA.out ?_⟩;rcases kP.out with h|h
    ·exact a_ h
    ·refine aV fun g hg=>?_
     have:=h g hg;simp[cG]at this;omega
 ·have HMt:oA c b.length=true:=by rw[HM.out];simp
  go_wp2_with fail
  go_quiet (fail)
  go_wp2_with fail;obtain⟨k1,k2,k3,k4,k5⟩:=HN.out nq _ rfl;clear HN;generalize (w3.drewN nq).setCell ⟨cb,4,none⟩ (af ag (c.jb+b.length))=W at k1 k2 k3 k4 k5⊢;have r13:W.cell? ⟨sb,13,none⟩= some (.slice oo out.length oc):=by simp[aX,k1,ij,jG.cells]
  have r1:W.cell? ⟨cb,1,none⟩= some (af ag c.addr):=by simp[aX,k2,il]
  have YK:sb<W.heap.size:=jh r13;have hWs:=k5.size;have yV:=gO k3 k1 (by decide);have K1:=gE k1;have K2:=gE k2;have K3:=gE k3;have K4:=gE k4;have K5:=gE k5;clear k1 k2 k3 k4 k5 q1 q2 q3 q4 z4 p13
  go_region_law (refine rI rfl (.tmp 50) (.tmp 57) 47 rfl ob 60 i0 _ 2 32 underlying47 hi mB kS ln rfl (by decide) (.slice oo out.length oc) out.length (g_ out) rfl (K3.out.alloc _) ⟨W.heap.size,0,none⟩ 1 1 [af ag c.addr,.slice bo b.length bc] rfl rfl (iZ W 60 [af ag c.addr,.slice bo b.length bc] (by simp[maxLen])) (by simp[bK]) (by unfold maxLen;omega) (by omega) (by simp[cG];omega) ?_;intro v' w2 j8 jA kP;obtain⟨Db,yy,rfl⟩:=iA j8;have pY:=gU (w:=W) (World.grownBy.mk jA.os jA.tape jA.output jA.size jA.block);have Ji:=(pY.block sb YK (cH yV)).trans K1.out;have aca:w2.cell? ⟨sb,13,none⟩= some (.slice oo out.length oc):=(by simp[aX,Ji,ij,jG.cells]);have adF:w2.frozen? ⟨sb,13,none⟩= false:=frozen_of_row w2 sb 13 _ _ Ji;replace j8:=gE j8;replace jA:=gE pY;replace kP:=gE kP;clear pY Ji;refine Hid.out ?_;refine gE ?_)
  all_goals
   go_end0
   refine⟨rfl,?_⟩;unfold y';rw[HBE.out,HMt,if_pos rfl];refine⟨_,_,HT.out W w2 Db yy K5.out K1.out K2.out K4.out K3.out j8.out jA.out ?_⟩;rcases kP.out with h|h
   ·exact a_ h
   ·refine aV fun g hg=>?_
    have:=h g hg;simp[cG]at this;omega
def zb(sb cb sr:Nat)(ov:Value)(k:Nat):Prop:=k=sb\/k=cb\/k=sr\/ov.ownBlock=some k
def tf(sb cb sr ob:Nat)(k:Nat):Prop:=k=sb\/k=cb\/k=sr\/ob<=k
def qZ(w:World)(ob:Nat)(out:List (Int×Value))(gN:List (Int×List Int)):Prop:=
 out.length=gN.length/\∀(i:Nat) x y,out[i]? =some x->gN[i]? =some y->x.1=y.1/\w.ownsRow ob 5 1 x.2 y.2.length (U8 y.2)
theorem qZ.iO(h:qZ w ob out gN)(hc:ip F w w')(hF:∀k cur fr,w.heap[k]? =some (.cells cur 5 fr)->¬F k):qZ w' ob out gN:=
 ⟨h.1,fun i x y hx hy=>⟨(h.2 i x y hx hy).1,jy (h.2 i x y hx hy).2 hc hF⟩⟩
theorem qZ.snoc(h:qZ w ob out gN){a:Int}{l:List Int}(hv:w.ownsRow ob 5 1 v l.length (U8 l)):qZ w ob (out++[(a,v)]) (gN++[(a,l)]):=by
 refine⟨by simp[h.1],fun i x y hx hy=>?_⟩;rcases Nat.lt_trichotomy i out.length with h1|h1|h1
 ·rw[aw h1]at hx;rw[aw (by rw[<-h.1];exact h1)]at hy;exact h.2 i x y hx hy
 ·subst h1;rw[aF (Nat.le_refl _)]at hx;rw[h.1,aF (Nat.le_refl _)]at hy;simp at hx hy;subst hx;subst hy;exact⟨rfl,hv⟩
 ·rw[List.getElem?_eq_none (by simp;omega)]at hx;simp at hx
structure iS(w:World)(s:ik)(sb:Nat)(gP iJ:List Nat)(cv ov:Value)(ob:Nat)(out:List (Int×Value))(gN:List (Int×List Int)):Prop where
 lf:w.heap[sb]? =some (.cells (ij s cv ov) 242 (0,0))
 row:w.ownsRow 0 244 1 cv gP.length (kF gP)
 ng:w.ownsRow ob 60 2 ov out.length (g_ out)
 ur:qZ w ob out gN
 j7:gP.length=s.gG.length
 lA:iJ.length=s.gG.length
 SZ:gP.Nodup
 S3:iJ.Nodup
 kH:∀(i:Nat) c cb sr,s.gG[i]? =some c->gP[i]? =some cb->iJ[i]? =some sr->nC w 0 c cb sr
theorem nC.cb{cb sr:Nat}(h:nC w base c cb sr):∃rv sv,w.heap[cb]? =some (.cells (il c rv sv) 249 (0,0)):=by
 obtain⟨rv,kN,nk,hh,_⟩:=h;exact⟨_,_,hh⟩
theorem nC.sr{cb sr:Nat}(h:nC w base c cb sr):∃cs,w.heap[sr]? =some (.cells cs 252 (0,0)):=by
 obtain⟨rv,kN,nk,_,_,_,ho,_⟩:=h;exact ii ho rfl
theorem nC.iO{cb sr:Nat}(h:nC w base c cb sr)(hc:ip F w w')(h1:¬F cb)(h2:¬F sr)(hR:∀k cur fr,w.heap[k]? =some (.cells cur 294 fr)->¬F k)(hI:∀k cur fr,w.heap[k]? =some (.cells cur 3 fr)->¬F k):nC w' base c cb sr:=by
 obtain⟨rv,kN,nk,hh,hr,hl,ho,hb⟩:=h;refine⟨rv,kN,nk,?_,hr.iO hc hR,hl,jg ho hc (fun g hg=>?_),fun i s bv hs kI=>(hb i s bv hs kI).iO hc hI⟩
 ·rw[hc.block cb (aO.1 hh).1 h1];exact hh
 ·simp only[ax,Option.some.injEq]at hg;subst hg;exact h2
theorem qK{cb sr:Nat}{a b d:Array Value}(hs:w.heap[sb]? =some (.cells a 242 (0,0)))(hc:w.heap[cb]? =some (.cells b 249 (0,0)))(hr:w.heap[sr]? =some (.cells d 252 (0,0)))(ho:w.ownsRow ob 60 2 ov n xs)
  {e:TypeId} (h1:e≠242) (h2:e≠249) (h3:e≠252) (h4:e≠60) (k:Nat) (cur:Array Value) (fr:Nat×Nat) (hk:w.heap[k]? =some (.cells cur e fr)):¬zb sb cb sr ov k:=by
 rintro(rfl|rfl|rfl|h)
 ·rw[hs]at hk;simp only[Option.some.injEq,Obj.cells.injEq]at hk;exact h1 hk.2.1.symm
 ·rw[hc]at hk;simp only[Option.some.injEq,Obj.cells.injEq]at hk;exact h2 hk.2.1.symm
 ·rw[hr]at hk;simp only[Option.some.injEq,Obj.cells.injEq]at hk;exact h3 hk.2.1.symm
 ·exact gO ho hk (fun e=>h4 e.symm) h
theorem iS.Ub{s':ik}(h:iS w s sb gP iJ cv ov ob out gN)
  {i:Nat} {c c':gZ} {cb sr sr':Nat} (hi:s.gG[i]? =some c) (jJ:gP[i]? =some cb) (lj:iJ[i]? =some sr) (kq:ip (zb sb cb sr ov) w w') (lF:s'.gG=s.gG.set i c')
  {su:Value} {mr:List (Int×Value)} {zN:List (Int×List Int)} (MX:w'.heap[sb]? =some (.cells (ij s' cv su) 242 (0,0))) (Sv:w'.ownsRow ob 60 2 su mr.length (g_ mr)) (XX:qZ w' ob mr zN)
  (acc:nC w' 0 c' cb sr') (adm:sr'=sr\/w.heap.size<=sr'):iS w' s' sb gP (iJ.set i sr') cv su ob mr zN:=by
 have hC:=h.kH i c cb sr hi jJ lj;obtain⟨_,_,zx⟩:=hC.cb;obtain⟨_,vO⟩:=hC.sr;have ka:=fun {e:TypeId} h1 h2 h3 h4=>qK (e:=e) h.lf zx vO h.ng h1 h2 h3 h4
 refine⟨MX,jy h.row kq (ka (by decide) (by decide) (by decide) (by decide)),Sv,XX,by rw[h.j7,lF,b8],by rw[lF,b8,b8,h.lA],h.SZ,?_,?_⟩
 ·rcases adm with rfl|h1
  ·rw[jw lj];exact h.S3
  ·refine PT h.S3 (fun hm=>?_) i;obtain⟨j,hj⟩:=cC.1 hm;have qp:=(bm.1 hj).1;obtain⟨_,hx⟩:=(h.kH j _ _ sr' (am (by rw[<-h.lA];exact qp)) (am (by rw[h.j7,<-h.lA];exact qp)) hj).sr;have:=(aO.1 hx).1;omega
 ·intro j cj cbj srj h1 h2 h3;rw[lF]at h1;by_cases C2:j=i
  ·subst C2;rw[getElem?_set_at hi]at h1;rw[getElem?_set_at lj]at h3;rw[jJ]at h2;obtain rfl:=Option.some.inj h1;obtain rfl:=Option.some.inj h2;obtain rfl:=Option.some.inj h3;exact acc
  ·rw[getElem?_set_other C2]at h1 h3;have hJ:=h.kH j cj cbj srj h1 h2 h3;obtain⟨_,_,NK⟩:=hJ.cb;obtain⟨_,DV⟩:=hJ.sr;refine hJ.iO kq ?_ ?_ (ka (by decide) (by decide) (by decide) (by decide)) (ka (by decide) (by decide) (by decide) (by decide))
   ·rintro(rfl|rfl|rfl|h5)
    ·rw[h.lf]at NK;simp at NK
    ·exact JW h.SZ h2 jJ C2 rfl
    ·rw[vO]at NK;simp at NK
    ·exact gO h.ng NK (by decide) h5
   ·rintro(rfl|rfl|rfl|h5)
    ·rw[h.lf]at DV;simp at DV
    ·rw[zx]at DV;simp at DV
    ·exact JW h.S3 h3 lj C2 rfl
    ·exact gO h.ng DV (by decide) h5
theorem iS.below(h:iS w s sb gP iJ cv ov ob out gN)(hb:Below w.heap.size w w'):iS w' s sb gP iJ cv ov ob out gN:=by
 have kq:ip (fun _=>False) w w':=ip.gS hb;have ka:∀{e:TypeId},∀k cur fr,w.heap[k]? =some (.cells cur e fr)->¬(fun _:Nat=>False) k:=fun _ _ _ _ h=>h
 refine⟨by rw[hb.block sb (aO.1 h.lf).1];exact h.lf,jy h.row kq ka,jy h.ng kq ka,h.ur.iO kq ka,h.j7,h.lA,h.SZ,h.S3,fun i c cb sr h1 h2 h3=>(h.kH i c cb sr h1 h2 h3).iO kq (fun h=>h) (fun h=>h) ka ka⟩
theorem ip.call{cb sr:Nat}(h:ip (zb sb cb sr ov) w w')(ho:w.ownsRow ob 60 2 ov n xs):ip (tf sb cb sr ob) w w':=
 h.mono fun k _ hk=>by
  rcases hk with h|h|h|h
  ·exact a_ h
  ·exact aV (a_ h)
  ·exact aV (aV (a_ h))
  ·exact aV (aV (aV (ho.lt k h).1))
def oY(B:Nat)(cv ou:Value):Prop:=∀k,ou.ownBlock=some k->cv.ownBlock=some k\/B<=k
theorem oY.refl(B:Nat)(cv:Value):oY B cv cv:=fun _ h=>a_ h
theorem uH{B':Nat}(h:P/\oY B cv ou)(hB:B'<=B):P/\oY B' cv ou:=⟨h.1,fun k hk=>(h.2 k hk).imp id fun h1=>cw hB h1⟩
theorem sp{Q:Prop}{B2:Nat}{cv1 Ny:Value}(h:P/\oY B cv cv1)(k:Q/\oY B2 cv1 Ny)(hB:B<=B2):Q/\oY B cv Ny:=⟨k.1,fun g hg=>(k.2 g hg).elim (fun h1=>h.2 g h1) (fun h1=>aV (cw hB h1))⟩
def Leaves(w:World)(sb:Nat)(gP iJ:List Nat)(cv0:Value)(cb sr ob:Nat)(s:ik)(gN:List (Int×List Int))(w':World):Prop:=
 ∃cv ov out,iS w' s sb gP iJ cv ov ob out gN/\ip (tf sb cb sr ob) w w'/\(out.length<=gN.length/\oY w.heap.size cv0 cv)
theorem Ki(s:ik)(i:Nat)(c:gZ)(fl:List Int)(sb cb sr ob bf:Nat)(gP iJ:List Nat)(cv ov fv:Value)(out:List (Int×Value))(gN:List (Int×List Int))(w:World)(h:iS w s sb gP iJ cv ov ob out gN)(hi:s.gG[i]? =some c)(jJ:gP[i]? =some cb)(lj:iJ[i]? =some sr)
  (hf:w.ownsRow bf 5 1 fv fl.length (U8 fl)) (BF:0<fl.length/\fl.length<=900) (Eh:ob<=w.heap.size) {M:Int} (jR:ke M c) (hM:M<=1125899906842624) (Ca:gN.length<=1000000):
  Calls ae 192 #[ai (some ⟨sb,0,none⟩),ai (some ⟨cb,0,none⟩),fv] w fun e w'=>e=.returned (.tuple #[])/\Leaves w sb gP iJ cv cb sr ob {s with gG:=s.gG.set i (jK c fl)} (kB c fl gN) w':=by
 have hC:=h.kH i c cb sr hi jJ lj;obtain⟨d,vO⟩:=hC.sr;obtain⟨rv,kN,nk,hh,hr,hl,ho,hb⟩:=hC;have g1:=jR.jc;have g2:=jR.jb;refine(Qg s c fl out sb cb ob bf cv ov rv _ fv w h.lf hh h.ng hf BF Eh jR.gL (by omega) (by omega) (by rw[h.ur.1];exact Ca)).mono ?_;rintro e w' ⟨rfl,hN⟩;refine⟨rfl,?_⟩;unfold y' at hN;by_cases hm:oA c (kK c.gL fl).length=true
 ·rw[if_pos hm]at hN;obtain⟨bv,su,N⟩:=hN
  have kq:ip (zb sb cb sr ov) w w':=N.iO.mono fun k _ hk=>by
   rcases hk with h|h|h
   ·exact a_ h
   ·exact aV (a_ h)
   ·exact aV (aV (aV h))
  have ka:=fun {e:TypeId} h1 h2 h3 h4=>qK (e:=e) h.lf hh vO h.ng h1 h2 h3 h4
  have hE:jK c fl = {c with jb:=c.jb+(kK c.gL fl).length}:=by unfold jK;rw[if_pos hm]
  have hO:kB c fl gN=gN++[(c.addr,kK c.gL fl)]:=by unfold kB;rw[if_pos hm]
  rw[hE,hO];refine⟨cv,su,out++[(c.addr,bv)],?_,kq.call h.ng,by simp[h.ur.1],oY.refl _ _⟩;have C':iJ=iJ.set i sr:=(jw lj).symm;rw[C'];refine h.Ub hi jJ lj kq rfl N.lf ?_ ((h.ur.iO kq (ka (by decide) (by decide) (by decide) (by decide))).snoc (iE N.bytes Eh)) ⟨rv,kN,nk,N.kH,hr.iO kq (ka (by decide) (by decide) (by decide) (by decide)),hl,jg ho N.iO (fun g hg=>?_),fun j x bv hx kI=>(hb j x bv hx kI).iO kq (ka (by decide) (by decide) (by decide) (by decide))⟩ (a_ rfl)
  ·rw[aT];exact N.row
  ·simp only[ax,Option.some.injEq]at hg;subst hg;rintro(rfl|rfl|h5)
   ·rw[h.lf]at vO;simp at vO
   ·rw[hh]at vO;simp at vO
   ·exact gO h.ng vO (by decide) h5
 ·rw[if_neg hm]at hN;have hE:jK c fl=c:=by unfold jK;rw[if_neg hm]
  have hO:kB c fl gN=gN:=by unfold kB;rw[if_neg hm]
  rw[hE,hO,jw hi];exact⟨cv,ov,out,h.below hN,ip.gS hN,cn h.ur.1,oY.refl _ _⟩
theorem zp:∀{l:List Nat} {i:Nat} {a:Nat},l.Nodup->l[i]? =some a->l.filter (· != a)=l.eraseIdx i
 |[],i,a,_,hi=>by simp at hi
 |x::r,0,a,hn,hi=>by
  simp only[cz,Option.some.injEq]at hi;subst hi;simp only[List.nodup_cons]at hn;simp only[List.eraseIdx_cons_zero];rw[List.filter_cons_of_neg (by simp)];rw[List.filter_eq_self];intro y hy;simp only[bne_iff_ne,ne_eq];rintro rfl;exact hn.1 hy
 |x::r,i+1,a,hn,hi=>by
  simp only[cB]at hi;simp only[List.nodup_cons]at hn;simp only[List.eraseIdx_cons_succ];have js:x≠a:=fun e=>hn.1 (e▸bT hi)
  rw[List.filter_cons_of_pos (by simpa using js),zp hn.2 hi]
theorem Fb{α:Type}{l:List α}:(l.eraseIdx i)[j]? =l[if j<i then j else j+1]?:=by
 rw[List.getElem?_eraseIdx]
 split<;>rfl
theorem iS.erase(h:iS w s sb gP iJ cv ov ob out gN){cb:Nat}(jJ:gP[i]? =some cb)(kq:ip (· = sb) w w')
  (MX:w'.heap[sb]? =some (.cells (ij s ou ov) 242 (0,0))) (VG:w'.ownsRow base 244 1 ou (gP.filter (· != cb)).length (kF (gP.filter (· != cb)))):
  iS w' {s with gG:=s.gG.eraseIdx i} sb (gP.eraseIdx i) (iJ.eraseIdx i) ou ov ob out gN:=by
 have ka:∀{e:TypeId},e≠242->∀k cur fr,w.heap[k]? =some (.cells cur e fr)->¬k=sb:=by
  rintro e he k cur fr hk rfl;rw[h.lf]at hk;simp only[Option.some.injEq,Obj.cells.injEq]at hk;exact he hk.2.1.symm
 have jp:=(bm.1 jJ).1;have sj:=h.j7;have rC:=h.lA;rw[zp h.SZ jJ]at VG;refine⟨MX,iE VG (aI _),jy h.ng kq (ka (by decide)),h.ur.iO kq (ka (by decide)),?_,?_,h.SZ.eraseIdx i,h.S3.eraseIdx i,fun j c cbj srj h1 h2 h3=>?_⟩
 ·simp only[cE];split<;>split<;>omega
 ·simp only[cE];split<;>split<;>omega
 ·rw[Fb]at h1 h2 h3;have hJ:=h.kH _ c cbj srj h1 h2 h3;obtain⟨_,_,NK⟩:=hJ.cb;obtain⟨_,DV⟩:=hJ.sr;exact hJ.iO kq (ka (by decide) _ _ _ NK) (ka (by decide) _ _ _ DV) (ka (by decide)) (ka (by decide))
theorem iS.JM(h:iS w s sb gP iJ cv ov ob out gN):∀p∈gP,Rr w p:=by
 intro p hp;obtain⟨j,hj⟩:=cC.1 hp;have sj:=h.j7;have rC:=h.lA;have qp:=(bm.1 hj).1;obtain⟨_,_,hx⟩:=(h.kH j _ p _ (am (by omega)) hj (am (by omega))).cb;exact⟨_,hx⟩
theorem Tn(s:ik)(i:Nat)(sb cb sr ob:Nat)(gP iJ:List Nat)(cv ov:Value)(out:List (Int×Value))(gN:List (Int×List Int))(w:World)(h:iS w s sb gP iJ cv ov ob out gN)(jJ:gP[i]? =some cb)(hn:s.gG.length<=1000):
  Calls ae 194 #[ai (some ⟨sb,0,none⟩),ai (some ⟨cb,0,none⟩)] w fun e w'=>e=.returned (.tuple #[])/\Leaves w sb (gP.eraseIdx i) (iJ.eraseIdx i) cv cb sr ob {s with gG:=s.gG.eraseIdx i} gN w':=by
 refine(FI s sb cb 0 gP cv ov w h.lf h.row (by rw[h.j7];exact hn) (h.JM _ (bT jJ)) h.JM).mono ?_;rintro e w' ⟨rfl,kq,ou,YF,oq⟩;exact⟨rfl,ou,ov,out,h.erase jJ kq YF oq,kq.mono (fun k _ hk=>a_ hk),cn h.ur.1,fun k hk=>aV (oq.lt k hk).1⟩
theorem Dm(s:ik)(i:Nat)(c:gZ)(code:Int)(sb cb sr ob:Nat)(gP iJ:List Nat)(cv ov:Value)(out:List (Int×Value))(gN:List (Int×List Int))(w:World)(h:iS w s sb gP iJ cv ov ob out gN)(hi:s.gG[i]? =some c)(jJ:gP[i]? =some cb)(lj:iJ[i]? =some sr)
  (rP:0<=code/\code<=1073741823) (Eh:ob<=w.heap.size) {M:Int} (jR:ke M c) (hM:M<=1125899906842624) (Ca:gN.length<=1000000) (hn:s.gG.length<=1000):
  Calls ae 164 #[ai (some ⟨sb,0,none⟩),ai (some ⟨cb,0,none⟩),af ag code] w fun e w'=>e=.returned (.tuple #[])/\Leaves w sb (gP.eraseIdx i) (iJ.eraseIdx i) cv cb sr ob {s with gG:=s.gG.eraseIdx i} (kB c ([19]++jn code) gN) w':=by
 have xt:=jS code
 have HW:Hid (∀W:World,W=w.alloc (.cells #[.int .u8 19] 5)->W.ownsRow 0 5 1 (aj (some ⟨w.heap.size,0,none⟩) 1 1) 1 (U8 [19])/\Below w.heap.size w W):=by
  rintro W rfl;exact⟨iE (o5 w 5 (U8 [19]) (by simp[U8,maxLen])) (aI _),gH w _⟩
 have HH:=gE h;clear h;go_enter func164,ntmps164;go_wp2_with fail;obtain⟨C3,kf⟩:=HW.out _ rfl;clear HW;refine(qm code _ rP.1 rP.2).mono ?_;rintro e w1 ⟨v1,rfl,kJ,im⟩;have sj:=iB C3 im;have wH:=gI kf im;have Bd:=iE kJ (aI _);clear C3 im kJ kf;go_wp2_with fail;refine(lV [19] (jn code) 0 _ _ w1 sj Bd (by simp) xt.2 (by simp) (by omega)).mono ?_;rintro e w2 ⟨v2,rfl,je,iT⟩;have oL:=gI wH iT;have h2:=HH.out.below oL;have ku:=oL.size;clear sj Bd iT wH;have HN:=gE (Ki s i c ([19]++jn code) sb cb sr ob w1.heap.size gP iJ cv ov v2 out gN w2 h2 hi jJ lj je (by simp;omega) (by omega) jR hM Ca);clear h2 je;go_wp2_with fail;refine HN.out.mono ?_;rintro e w3 ⟨rfl,We,ov3,Mo,h3,CX,Pg⟩;clear HN;have HG:=gE (Tn {s with gG:=s.gG.set i (jK c ([19]++jn code))} i sb cb sr ob gP iJ We ov3 Mo _ w3 h3 jJ (by simpa using hn));clear h3;go_wp2_with fail;refine HG.out.mono ?_;rintro e w4 ⟨rfl,XI,ov4,adz,h4,R_,hl4⟩;clear HG;go_wp2_with fail
 go_end0
 have hes:(s.gG.set i (jK c ([19]++jn code))).eraseIdx i=s.gG.eraseIdx i:=List.eraseIdx_set_eq;rw[hes]at h4;exact⟨rfl,XI,ov4,adz,h4,((ip.gS oL).trans CX).trans R_,sp (uH Pg oL.size) hl4 (cw oL.size CX.size)⟩
theorem G0(k a c:Int):0<=kc k a c/\kc k a c<=1073741823:=by
 unfold kc;have:=pM (iL k++[255,a]++iL c);omega
theorem xy(x:Int)(l:List Int)(W0 wp:World)(vp:Value)(hb:Below (W0.alloc (.cells #[.int .u8 x] 5)).heap.size (W0.alloc (.cells #[.int .u8 x] 5)) wp)(AB:wp.ownsRow 0 5 1 vp l.length (U8 l))(h0:0<l.length)(h1:l.length<=1000):
  Calls ae 106 #[aj (some ⟨W0.heap.size,0,none⟩) 1 1,vp] wp fun e w'=>∃g cp n,e=.returned (aj (some ⟨g,0,none⟩) n cp)/\Hid (n=([x]++l).length/\w'.ownsRow 0 5 1 (aj (some ⟨g,0,none⟩) n cp) n (U8 ([x]++l)))/\Below wp.heap.size wp w':=by
 have hl:(W0.alloc (.cells #[.int .u8 x] 5)).ownsRow 0 5 1 (aj (some ⟨W0.heap.size,0,none⟩) 1 1) 1 (U8 [x]):=iE (o5 W0 5 (U8 [x]) (by simp[U8,maxLen])) (aI _);refine(lV [x] l 0 _ _ wp (iB hl hb) AB (by simp) h0 (by simp) h1).mono ?_;rintro e w' ⟨v',rfl,ho,DT⟩;obtain⟨g,cp,rfl,_⟩:=jP ho (by simp);exact⟨g,cp,_,rfl,⟨rfl,iE ho (aI _)⟩,DT⟩
theorem qM(s:ik)(c:gZ)(sb cb:Nat)(a b:World)(hb:Below a.heap.size a b)(h:a.cell? ⟨sb,0,none⟩= some (af ag s.c.c0)/\a.cell? ⟨sb,1,none⟩= some (af ag s.c.c1)/\a.cell? ⟨sb,2,none⟩= some (af ag s.c.c2)/\a.cell? ⟨sb,3,none⟩= some (af ag s.c.c3)/\a.cell? ⟨sb,4,none⟩= some (af ag s.c.c4)/\a.cell? ⟨sb,5,none⟩= some (af ag s.c.c5)/\a.cell? ⟨sb,6,none⟩= some (af ag s.c.c6)/\a.cell? ⟨sb,7,none⟩= some (af ag s.c.c7)/\a.cell? ⟨sb,8,none⟩= some (af ag s.c.c8)/\a.cell? ⟨sb,9,none⟩= some (af ag s.c.c9)/\a.cell? ⟨cb,0,none⟩= some (af ag c.gL)/\a.cell? ⟨cb,1,none⟩= some (af ag c.addr)):b.cell? ⟨sb,0,none⟩= some (af ag s.c.c0)/\b.cell? ⟨sb,1,none⟩= some (af ag s.c.c1)/\b.cell? ⟨sb,2,none⟩= some (af ag s.c.c2)/\b.cell? ⟨sb,3,none⟩= some (af ag s.c.c3)/\b.cell? ⟨sb,4,none⟩= some (af ag s.c.c4)/\b.cell? ⟨sb,5,none⟩= some (af ag s.c.c5)/\b.cell? ⟨sb,6,none⟩= some (af ag s.c.c6)/\b.cell? ⟨sb,7,none⟩= some (af ag s.c.c7)/\b.cell? ⟨sb,8,none⟩= some (af ag s.c.c8)/\b.cell? ⟨sb,9,none⟩= some (af ag s.c.c9)/\b.cell? ⟨cb,0,none⟩= some (af ag c.gL)/\b.cell? ⟨cb,1,none⟩= some (af ag c.addr):=by
 obtain⟨h0,h1,h2,h3,h4,h5,h6,h7,h8,h9,RR,US⟩:=h;exact⟨gF h0 hb,gF h1 hb,gF h2 hb,gF h3 hb,gF h4 hb,gF h5 hb,gF h6 hb,gF h7 hb,gF h8 hb,gF h9 hb,gF RR hb,gF US hb⟩
theorem w_(s:ik)(i:Nat)(c:gZ)(sb cb sr ob:Nat)(gP iJ:List Nat)(cv ov:Value)(out:List (Int×Value))(gN:List (Int×List Int))(w:World)(h:iS w s sb gP iJ cv ov ob out gN)(hi:s.gG[i]? =some c)(jJ:gP[i]? =some cb)(lj:iJ[i]? =some sr)
  (hg:nx s.c) (Eh:ob<=w.heap.size) {M:Int} (jR:ke M c) (hM:M<=1125899906842624) (Ca:gN.length<=1000000):
  Calls ae 184 #[ai (some ⟨sb,0,none⟩),ai (some ⟨cb,0,none⟩)] w fun e w'=>e=.returned (.tuple #[])/\Leaves w sb gP iJ cv cb sr ob {s with gG:=s.gG.set i (jK c (ir s.c c))} (kB c (ir s.c c) gN) w':=by
 have hs:=h.lf;obtain⟨rv,sv,hc⟩:=(h.kH i c cb sr hi jJ lj).cb;have k0:w.cell? ⟨sb,0,none⟩= some (af ag s.c.c0):=by simp[aX,hs,ij,jG.cells]
 have k1:w.cell? ⟨sb,1,none⟩= some (af ag s.c.c1):=by simp[aX,hs,ij,jG.cells]
 have k2:w.cell? ⟨sb,2,none⟩= some (af ag s.c.c2):=by simp[aX,hs,ij,jG.cells]
 have k3:w.cell? ⟨sb,3,none⟩= some (af ag s.c.c3):=by simp[aX,hs,ij,jG.cells]
 have k4:w.cell? ⟨sb,4,none⟩= some (af ag s.c.c4):=by simp[aX,hs,ij,jG.cells]
 have k5:w.cell? ⟨sb,5,none⟩= some (af ag s.c.c5):=by simp[aX,hs,ij,jG.cells]
 have k6:w.cell? ⟨sb,6,none⟩= some (af ag s.c.c6):=by simp[aX,hs,ij,jG.cells]
 have k7:w.cell? ⟨sb,7,none⟩= some (af ag s.c.c7):=by simp[aX,hs,ij,jG.cells]
 have k8:w.cell? ⟨sb,8,none⟩= some (af ag s.c.c8):=by simp[aX,hs,ij,jG.cells]
 have k9:w.cell? ⟨sb,9,none⟩= some (af ag s.c.c9):=by simp[aX,hs,ij,jG.cells]
 have j0:w.cell? ⟨cb,0,none⟩= some (af ag c.gL):=by simp[aX,hc,il]
 have j1:w.cell? ⟨cb,1,none⟩= some (af ag c.addr):=by simp[aX,hc,il]
 have yY:sb<w.heap.size:=jh k0;have mx:cb<w.heap.size:=jh j0;have JA:=G0 s.c.c9 c.addr c.gL;have xt:=jS (kc s.c.c9 c.addr c.gL);have Bd:=jS s.c.c1;have T':=jS s.c.c2;have hp3:=jS s.c.c3;have HK:=gE jR;have HG:=gE hg;have HH:=gE h;have HL:Hid (ir s.c c=[20]++jn (kc s.c.c9 c.addr c.gL)++jn s.c.c1++jn s.c.c2++jn s.c.c3):=rfl;clear h hs hc jR hg;obtain⟨ac5,ac7⟩:=JA;go_enter func184,ntmps184
 go_upto_region 0 with fail
 go_cut [4] from 5 to 20 (fun s4 wx=>∃g cp n,s4=aj (some ⟨g,0,none⟩) n cp/\Hid (n=([20]++jn (kc s.c.c9 c.addr c.gL)).length/\wx.ownsRow 0 5 1 (aj (some ⟨g,0,none⟩) n cp) n (U8 ([20]++jn (kc s.c.c9 c.addr c.gL))))/\Below w.heap.size w wx)
 case first=>
  go_region_held3 (fun w'=>w'.cell? ⟨sb,0,none⟩= some (af ag s.c.c0)/\w'.cell? ⟨sb,1,none⟩= some (af ag s.c.c1)/\w'.cell? ⟨sb,2,none⟩= some (af ag s.c.c2)/\w'.cell? ⟨sb,3,none⟩= some (af ag s.c.c3)/\w'.cell? ⟨sb,4,none⟩= some (af ag s.c.c4)/\w'.cell? ⟨sb,5,none⟩= some (af ag s.c.c5)/\w'.cell? ⟨sb,6,none⟩= some (af ag s.c.c6)/\w'.cell? ⟨sb,7,none⟩= some (af ag s.c.c7)/\w'.cell? ⟨sb,8,none⟩= some (af ag s.c.c8)/\w'.cell? ⟨sb,9,none⟩= some (af ag s.c.c9)/\w'.cell? ⟨cb,0,none⟩= some (af ag c.gL)/\w'.cell? ⟨cb,1,none⟩= some (af ag c.addr)) (first|assumption|exact qM s c sb cb _ _ (gH _ _) (by assumption)|go_keep) (first
   |(go_at_call 156;refine(yI s.c.c0 s.c.c1 s.c.c2 s.c.c3 s.c.c4 s.c.c5 s.c.c6 s.c.c7 s.c.c8 s.c.c9 c.addr c.gL _ HG.out.c9.1 HG.out.c9.2 HK.out.addr.1 HK.out.addr.2 HK.out.gL.1 (by have:=HK.out.gL.2;omega)).mono ?_;rintro e wq ⟨rfl,qt⟩;have yU:=qM s c sb cb _ _ qt (by assumption))
   |(go_at_call 155;refine(qm _ _ ac5 ac7).mono ?_;rintro e wp ⟨vp,rfl,AB,TZ⟩;have hSp:=qM s c sb cb _ _ TZ (by assumption))
   |(go_at_call 106;first
    |(have CY:=qt;with_reducible (change Below ((w.alloc (.cells #[.int .u8 20] 5)).drew).heap.size (w.alloc (.cells #[.int .u8 20] 5)).drew wq at CY);have hX:Below (w.alloc (.cells #[.int .u8 20] 5)).heap.size (w.alloc (.cells #[.int .u8 20] 5)) wp:=gI (ib CY) TZ;have hY:=gI (gH w (.cells #[.int .u8 20] 5)) hX;refine(xy 20 (jn (kc s.c.c9 c.addr c.gL)) w wp _ hX (iE AB (aI _)) xt.2 (by omega)).mono ?_;rintro e wj ⟨gj,cj,nj,rfl,hoj,Ik⟩;have pg:=gI hY Ik;have hSj:=qM s c sb cb _ _ Ik (by assumption);replace pg:=gE pg;clear Ik hY)
    |(have CY:=TZ;with_reducible (change Below (wq.alloc (.cells #[.int .u8 20] 5)).heap.size (wq.alloc (.cells #[.int .u8 20] 5)) wp at CY);have hQ:Below w.heap.size w wq:=ib qt;have hY:=gI hQ (gI (gH wq (.cells #[.int .u8 20] 5)) CY);refine(xy 20 (jn (kc s.c.c9 c.addr c.gL)) wq wp _ CY (iE AB (aI _)) xt.2 (by omega)).mono ?_;rintro e wj ⟨gj,cj,nj,rfl,hoj,Ik⟩;have pg:=gI hY Ik;have hSj:=qM s c sb cb _ _ Ik (by assumption);replace pg:=gE pg;clear Ik hY)
    |(have CY:=TZ;with_reducible (change Below wq.heap.size wq wp at CY);have hQ:Below w.heap.size w wq:=ib qt;have hY:=gI (gI hQ CY) (gH wp (.cells #[.int .u8 20] 5));refine(xy 20 (jn (kc s.c.c9 c.addr c.gL)) wp (wp.alloc (.cells #[.int .u8 20] 5)) _ (Below.refl _ _) ((iE AB (aI _)).alloc _) xt.2 (by omega)).mono ?_;rintro e wj ⟨gj,cj,nj,rfl,hoj,Ik⟩;have pg:=gI hY Ik;have hSj:=qM s c sb cb _ _ Ik (by assumption);replace pg:=gE pg;clear Ik hY)))
  all_goals (go_wp2_with fail;go_meet;exact⟨gj,cj,nj,rfl,hoj,pg.out⟩)
 case rest=>
  obtain⟨g,cp,n,rfl,hO,hB⟩:=hcut;have hX:∃b0,[20]++jn (kc s.c.c9 c.addr c.gL)=b0:=⟨_,rfl⟩;obtain⟨b0,kf⟩:=hX;rw[kf]at hO HL
  have acn:0<b0.length/\b0.length<=5:=by
   rw[<-kf,aT,show([20]:List Int).length=1 from rfl];omega
  clear kf;obtain⟨rfl,WB⟩:=hO.out;clear hO;have k1x:=gF k1 hB;have k2x:=gF k2 hB;have k3x:=gF k3 hB;clear k0 k1 k2 k3 k4 k5 k6 k7 k8 k9 j0 j1 xt;have g1:=HG.out.c1;have g2:=HG.out.c2;have g3:=HG.out.c3;go_wp2_with fail;refine(qm s.c.c1 _ (by omega) (by omega)).mono ?_;rintro e w1 ⟨v1,rfl,tP,im⟩;have Sw:=iB WB im;have k2y:=gF k2x im;have k3y:=gF k3x im;have pW:=gI hB im;clear k1x k2x k3x WB hB im;go_wp2_with fail;refine(lV b0 (jn s.c.c1) 0 _ _ w1 Sw (iE tP (aI _)) acn.1 Bd.2 (by omega) (by omega)).mono ?_;rintro e w2 ⟨v2,rfl,yW,iT⟩;have k2z:=gF k2y iT;have k3z:=gF k3y iT;have At:=gI pW iT;have je:=iE yW (aI _);have rC:(b0++jn s.c.c1).length<=9/\0<(b0++jn s.c.c1).length:=by rw[aT];omega
  obtain⟨b2,O2⟩:∃b2,b0++jn s.c.c1=b2:=⟨_,rfl⟩;rw[O2]at je rC HL;clear O2 tP yW k2y k3y iT pW Sw;obtain⟨uZ,ac2,rfl⟩:=i7 je;go_wp2_with fail;refine(qm s.c.c2 _ (by omega) (by omega)).mono ?_;rintro e w3 ⟨v3,rfl,Eg,mw⟩;have lk:=iB je mw;have k3u:=gF k3z mw;have CS:=gI At mw;clear k2z k3z je At mw;go_wp2_with fail;refine(lV b2 (jn s.c.c2) 0 _ _ w3 lk (iE Eg (aI _)) rC.2 T'.2 (by omega) (by omega)).mono ?_;rintro e w4 ⟨v4,rfl,ho4,vK⟩;have k3v:=gF k3u vK;have hB4:=gI CS vK;have ki:=iE ho4 (aI _);have hl4:(b2++jn s.c.c2).length<=13/\0<(b2++jn s.c.c2).length:=by rw[aT];omega
  obtain⟨b4,aaN⟩:∃b4,b2++jn s.c.c2=b4:=⟨_,rfl⟩;rw[aaN]at ki hl4 HL;clear aaN Eg ho4 k3u vK CS lk;obtain⟨ao4,ac4,rfl⟩:=i7 ki;go_wp2_with fail;refine(qm s.c.c3 _ (by omega) (by omega)).mono ?_;rintro e w5 ⟨v5,rfl,Ss,wG⟩;have zD:=iB ki wG;have QO:=gI hB4 wG;clear k3v ki hB4 wG;go_wp2_with fail;refine(lV b4 (jn s.c.c3) 0 _ _ w5 zD (iE Ss (aI _)) hl4.2 hp3.2 (by omega) (by omega)).mono ?_;rintro e w6 ⟨v6,rfl,St,wb⟩;have UU:=gI QO wb;have vM:=iE St (aI _);have Vg:(b4++jn s.c.c3).length<=17/\0<(b4++jn s.c.c3).length:=by rw[aT];omega
  obtain⟨b6,RZ⟩:∃b6,b4++jn s.c.c3=b6:=⟨_,rfl⟩;rw[RZ]at vM Vg HL;clear RZ Ss St wb QO zD;obtain⟨ao6,ac6,rfl⟩:=i7 vM;have ku:=UU.size;have HN:=gE (Ki s i c b6 sb cb sr ob 0 gP iJ cv ov _ out gN w6 (HH.out.below UU) hi jJ lj vM (by omega) (by omega) HK.out hM Ca);have HB6:=gE UU;clear vM UU;go_wp2_with fail;refine HN.out.mono ?_;rintro e w7 ⟨rfl,QL,VD,GR,h7,yq,Vh⟩;clear HN;have H7:=gE h7;clear h7;go_wp2_with fail
  go_end0
  rw[HL.out];exact⟨rfl,QL,VD,GR,H7.out,(ip.gS HB6.out).trans yq,uH Vh HB6.out.size⟩
theorem FG(f:lL)(sb cb:Nat)(ao:Option Addr)(n cap:Nat)(w:World)(ht:f.type=0\/f.type=1):
  Calls ae 190 #[ai (some ⟨sb,0,none⟩),ai (some ⟨cb,0,none⟩),.agg #[af ag f.type,af ag f.id,af ag f.iC,af ag f.code,.slice ao n cap]] w fun e w'=>e=.returned (af ag 0)/\Below w.heap.size w w':=by
 rcases ht with h|h
 all_goals
  rw[h];clear h;go_enter func190,ntmps190;go_wp2_with fail;go_ret;exact⟨rfl,gH w _⟩
theorem vB(s:ik)(c:gZ)(sb cb fb:Nat)(q:Int)(a b:World)(hb:Below a.heap.size a b)(h:a.cell? ⟨sb,0,none⟩= some (af ag s.c.c0)/\a.cell? ⟨sb,1,none⟩= some (af ag s.c.c1)/\a.cell? ⟨sb,2,none⟩= some (af ag s.c.c2)/\a.cell? ⟨sb,3,none⟩= some (af ag s.c.c3)/\a.cell? ⟨sb,4,none⟩= some (af ag s.c.c4)/\a.cell? ⟨sb,5,none⟩= some (af ag s.c.c5)/\a.cell? ⟨sb,6,none⟩= some (af ag s.c.c6)/\a.cell? ⟨sb,7,none⟩= some (af ag s.c.c7)/\a.cell? ⟨sb,8,none⟩= some (af ag s.c.c8)/\a.cell? ⟨sb,9,none⟩= some (af ag s.c.c9)/\a.cell? ⟨cb,0,none⟩= some (af ag c.gL)/\a.cell? ⟨cb,1,none⟩= some (af ag c.addr)/\a.cell? ⟨fb,3,none⟩= some (af ag q)):b.cell? ⟨sb,0,none⟩= some (af ag s.c.c0)/\b.cell? ⟨sb,1,none⟩= some (af ag s.c.c1)/\b.cell? ⟨sb,2,none⟩= some (af ag s.c.c2)/\b.cell? ⟨sb,3,none⟩= some (af ag s.c.c3)/\b.cell? ⟨sb,4,none⟩= some (af ag s.c.c4)/\b.cell? ⟨sb,5,none⟩= some (af ag s.c.c5)/\b.cell? ⟨sb,6,none⟩= some (af ag s.c.c6)/\b.cell? ⟨sb,7,none⟩= some (af ag s.c.c7)/\b.cell? ⟨sb,8,none⟩= some (af ag s.c.c8)/\b.cell? ⟨sb,9,none⟩= some (af ag s.c.c9)/\b.cell? ⟨cb,0,none⟩= some (af ag c.gL)/\b.cell? ⟨cb,1,none⟩= some (af ag c.addr)/\b.cell? ⟨fb,3,none⟩= some (af ag q):=by
 obtain⟨h0,h1,h2,h3,h4,h5,h6,h7,h8,h9,RR,US,UT⟩:=h;exact⟨gF h0 hb,gF h1 hb,gF h2 hb,gF h3 hb,gF h4 hb,gF h5 hb,gF h6 hb,gF h7 hb,gF h8 hb,gF h9 hb,gF RR hb,gF US hb,gF UT hb⟩
theorem Kb(s:ik)(i:Nat)(c:gZ)(f:lL)(sb cb sr ob:Nat)(ao:Option Addr)(n cap:Nat)(gP iJ:List Nat)(cv ov:Value)(out:List (Int×Value))(gN:List (Int×List Int))(w:World)(h:iS w s sb gP iJ cv ov ob out gN)(hi:s.gG[i]? =some c)(jJ:gP[i]? =some cb)(lj:iJ[i]? =some sr)
  (hg:nx s.c) {M:Int} (jR:ke M c) (hl:0<=s.last/\s.last<=1125899906842624) (ht:f.type=7):
  Calls ae 190 #[ai (some ⟨sb,0,none⟩),ai (some ⟨cb,0,none⟩),.agg #[af ag f.type,af ag f.id,af ag f.iC,af ag f.code,.slice ao n cap]] w fun e w'=>e=.returned (af ag (pi s i c f.code).1)/\Leaves w sb gP iJ cv cb sr ob (pi s i c f.code).2 gN w':=by
 rw[ht];clear ht;have hs:=h.lf;obtain⟨rv,sv,hc⟩:=(h.kH i c cb sr hi jJ lj).cb;have k0:w.cell? ⟨sb,0,none⟩= some (af ag s.c.c0):=by simp[aX,hs,ij,jG.cells]
 have k1:w.cell? ⟨sb,1,none⟩= some (af ag s.c.c1):=by simp[aX,hs,ij,jG.cells]
 have k2:w.cell? ⟨sb,2,none⟩= some (af ag s.c.c2):=by simp[aX,hs,ij,jG.cells]
 have k3:w.cell? ⟨sb,3,none⟩= some (af ag s.c.c3):=by simp[aX,hs,ij,jG.cells]
 have k4:w.cell? ⟨sb,4,none⟩= some (af ag s.c.c4):=by simp[aX,hs,ij,jG.cells]
 have k5:w.cell? ⟨sb,5,none⟩= some (af ag s.c.c5):=by simp[aX,hs,ij,jG.cells]
 have k6:w.cell? ⟨sb,6,none⟩= some (af ag s.c.c6):=by simp[aX,hs,ij,jG.cells]
 have k7:w.cell? ⟨sb,7,none⟩= some (af ag s.c.c7):=by simp[aX,hs,ij,jG.cells]
 have k8:w.cell? ⟨sb,8,none⟩= some (af ag s.c.c8):=by simp[aX,hs,ij,jG.cells]
 have k9:w.cell? ⟨sb,9,none⟩= some (af ag s.c.c9):=by simp[aX,hs,ij,jG.cells]
 have j0:w.cell? ⟨cb,0,none⟩= some (af ag c.gL):=by simp[aX,hc,il]
 have j1:w.cell? ⟨cb,1,none⟩= some (af ag c.addr):=by simp[aX,hc,il]
 have j2:w.cell? ⟨cb,2,none⟩= some (.bool c.gT):=by simp[aX,hc,il]
 have yY:sb<w.heap.size:=jh k0;have mx:cb<w.heap.size:=jh j0;obtain⟨p,hp⟩:∃p,kc s.c.c9 c.addr c.gL=p:=⟨_,rfl⟩
 have HP:Hid (pi s i c f.code=if f.code≠p then(10,s) else if c.gT then(0,s) else(0,{s with last:=s.last+1,gG:=s.gG.set i {c with gT:=true,waits:=s.last+1}})):=by
  show _=_;unfold pi;rw[hp]
 have HRp:Hid (∀W,Calls ae 156 #[.agg #[af ag s.c.c0,af ag s.c.c1,af ag s.c.c2,af ag s.c.c3,af ag s.c.c4,af ag s.c.c5,af ag s.c.c6,af ag s.c.c7,af ag s.c.c8,af ag s.c.c9],af ag c.addr,af ag c.gL] W fun e w'=>e=.returned (af ag p)/\Below W.heap.size W w'):=by
  intro W;have kb:=jR.gL;have:=yI s.c.c0 s.c.c1 s.c.c2 s.c.c3 s.c.c4 s.c.c5 s.c.c6 s.c.c7 s.c.c8 s.c.c9 c.addr c.gL W hg.c9.1 hg.c9.2 jR.addr.1 jR.addr.2 kb.1 (by omega);rw[hp]at this;exact this
 have HH:=gE h;clear h hs hc jR hg hp
 have HW:Hid (∀W:World,W=w.alloc (.cells #[af ag 7,af ag f.id,af ag f.iC,af ag f.code,.slice ao n cap] 296)->Below w.heap.size w W/\W.cell? ⟨w.heap.size,0,none⟩= some (af ag 7)/\W.cell? ⟨w.heap.size,3,none⟩= some (af ag f.code)):=by
  rintro W rfl;exact⟨gH w _,by simp,by simp⟩
 go_enter func190,ntmps190
 go_upto_region 6 with fail
 obtain⟨lY,f0,f3⟩:=HW.out _ rfl;generalize w.alloc (.cells #[af ag 7,af ag f.id,af ag f.iC,af ag f.code,.slice ao n cap] 296)=w0 at lY f0 f3⊢;generalize hq:f.code=q at f3 HP;replace k0:=gF k0 lY;replace k1:=gF k1 lY;replace k2:=gF k2 lY;replace k3:=gF k3 lY;replace k4:=gF k4 lY;replace k5:=gF k5 lY;replace k6:=gF k6 lY;replace k7:=gF k7 lY;replace k8:=gF k8 lY;replace k9:=gF k9 lY;replace j0:=gF j0 lY;replace j1:=gF j1 lY;replace j2:=gF j2 lY;have pQ:=gE lY;have HQ:=gE hq;clear lY HW hq;rcases Int.lt_trichotomy q p with jp|heq|T2
 ·have Xt:Hid (pi s i c f.code=(10,s)):=by
   show _=_;rw[HQ.out,HP.out,if_pos (by omega)]
  go_region_held3 (fun w'=>w'.cell? ⟨sb,0,none⟩= some (af ag s.c.c0)/\w'.cell? ⟨sb,1,none⟩= some (af ag s.c.c1)/\w'.cell? ⟨sb,2,none⟩= some (af ag s.c.c2)/\w'.cell? ⟨sb,3,none⟩= some (af ag s.c.c3)/\w'.cell? ⟨sb,4,none⟩= some (af ag s.c.c4)/\w'.cell? ⟨sb,5,none⟩= some (af ag s.c.c5)/\w'.cell? ⟨sb,6,none⟩= some (af ag s.c.c6)/\w'.cell? ⟨sb,7,none⟩= some (af ag s.c.c7)/\w'.cell? ⟨sb,8,none⟩= some (af ag s.c.c8)/\w'.cell? ⟨sb,9,none⟩= some (af ag s.c.c9)/\w'.cell? ⟨cb,0,none⟩= some (af ag c.gL)/\w'.cell? ⟨cb,1,none⟩= some (af ag c.addr)/\w'.cell? ⟨w.heap.size,3,none⟩= some (af ag q)) (first|assumption|go_keep) (first
  |(go_at_call 156;refine(HRp.out _).mono ?_;rintro e wq ⟨rfl,qt⟩;have yU:=vB s c sb cb w.heap.size _ _ _ qt (by assumption);replace qt:=gE (ib qt)))
  clear k0 k1 k2 k3 k4 k5 k6 k7 k8 k9 yU;go_wp2_with fail;go_ret;rw[Xt.out];have hB:=gI pQ.out qt.out;exact⟨rfl,cv,ov,out,HH.out.below hB,ip.gS hB,cn HH.out.ur.1,oY.refl _ _⟩
 ·subst heq
  cases tA:c.gT
  ·have Xt:Hid (pi s i c f.code=(0,{s with last:=s.last+1,gG:=s.gG.set i {c with gT:=true,waits:=s.last+1}})):=by
    show _=_;rw[HQ.out,HP.out,if_neg (by simp),tA];simp
   go_region_held3 (fun w'=>w'.cell? ⟨sb,0,none⟩= some (af ag s.c.c0)/\w'.cell? ⟨sb,1,none⟩= some (af ag s.c.c1)/\w'.cell? ⟨sb,2,none⟩= some (af ag s.c.c2)/\w'.cell? ⟨sb,3,none⟩= some (af ag s.c.c3)/\w'.cell? ⟨sb,4,none⟩= some (af ag s.c.c4)/\w'.cell? ⟨sb,5,none⟩= some (af ag s.c.c5)/\w'.cell? ⟨sb,6,none⟩= some (af ag s.c.c6)/\w'.cell? ⟨sb,7,none⟩= some (af ag s.c.c7)/\w'.cell? ⟨sb,8,none⟩= some (af ag s.c.c8)/\w'.cell? ⟨sb,9,none⟩= some (af ag s.c.c9)/\w'.cell? ⟨cb,0,none⟩= some (af ag c.gL)/\w'.cell? ⟨cb,1,none⟩= some (af ag c.addr)/\w'.cell? ⟨w.heap.size,3,none⟩= some (af ag q)) (first|assumption|go_keep) (first
   |(go_at_call 156;refine(HRp.out _).mono ?_;rintro e wq ⟨rfl,qt⟩;have yU:=vB s c sb cb w.heap.size _ _ _ qt (by assumption);replace qt:=gE (ib qt)))
   clear k0 k1 k2 k3 k4 k5 k6 k7 k8 k9 yU;have hB:=gI pQ.out qt.out;have hA:=HH.out.below hB;have jq:=gF j2 qt.out;rw[tA]at jq;have RS:=hA.kH i c cb sr hi jJ lj;obtain⟨d,vO⟩:=RS.sr;obtain⟨N7,kN,nk,hh,hr,T7,ho,hb⟩:=RS;have V9:=gE (Bl s c sb cb cv ov N7 _ wq hA.lf hh hl)
   have HX:Hid (∀w',ip (fun k=>k=sb\/k=cb) wq w'->w'.heap[sb]? =some (.cells (ij {s with last:=s.last+1} cv ov) 242 (0,0))->w'.heap[cb]? =some (.cells (il {c with gT:=true,waits:=s.last+1} N7 (aj (some ⟨sr,0,none⟩) c.gJ.length kN)) 249 (0,0))->
     iS w' {s with last:=s.last+1,gG:=s.gG.set i {c with gT:=true,waits:=s.last+1}} sb gP iJ cv ov ob out gN/\ip (tf sb cb sr ob) wq w'):=by
    intro w' kq h1 h2
    have rn:ip (zb sb cb sr ov) wq w':=kq.mono fun k _ hk=>by
     rcases hk with h|h
     ·exact a_ h
     ·exact aV (a_ h)
    have ka:=fun {e:TypeId} h1 h2 h3 h4=>qK (e:=e) hA.lf hh vO hA.ng h1 h2 h3 h4
    refine⟨?_,rn.call hA.ng⟩;have C':iJ=iJ.set i sr:=(jw lj).symm;rw[C'];refine hA.Ub hi jJ lj rn rfl h1 (jg hA.ng kq (fun g hg=>?_)) (hA.ur.iO rn (ka (by decide) (by decide) (by decide) (by decide))) ⟨N7,kN,nk,h2,hr.iO rn (ka (by decide) (by decide) (by decide) (by decide)),T7,jg ho kq (fun g hg=>?_),fun j x bv hx kI=>(hb j x bv hx kI).iO rn (ka (by decide) (by decide) (by decide) (by decide))⟩ (a_ rfl)
    ·rintro(rfl|rfl)
     ·exact gO hA.ng hA.lf (by decide) hg
     ·exact gO hA.ng hh (by decide) hg
    ·simp only[ax,Option.some.injEq]at hg;subst hg;rintro(rfl|rfl)
     ·rw[hA.lf]at vO;simp at vO
     ·rw[hh]at vO;simp at vO
   have HB:=gE hB;clear hA hB vO hr ho hb hh;go_wp2_with fail;refine V9.out.mono ?_;rintro e w1 ⟨rfl,kq,h1,h2⟩;clear V9;have hX:=HX.out w1 kq h1 h2;have HY:=gE hX;clear kq h1 h2 hX HX;go_wp2_with fail;go_ret;rw[Xt.out];exact⟨rfl,cv,ov,out,HY.out.1,(ip.gS HB.out).trans HY.out.2,cn HH.out.ur.1,oY.refl _ _⟩
  ·have Xt:Hid (pi s i c f.code=(0,s)):=by
    show _=_;rw[HQ.out,HP.out,if_neg (by simp),tA];simp
   go_region_held3 (fun w'=>w'.cell? ⟨sb,0,none⟩= some (af ag s.c.c0)/\w'.cell? ⟨sb,1,none⟩= some (af ag s.c.c1)/\w'.cell? ⟨sb,2,none⟩= some (af ag s.c.c2)/\w'.cell? ⟨sb,3,none⟩= some (af ag s.c.c3)/\w'.cell? ⟨sb,4,none⟩= some (af ag s.c.c4)/\w'.cell? ⟨sb,5,none⟩= some (af ag s.c.c5)/\w'.cell? ⟨sb,6,none⟩= some (af ag s.c.c6)/\w'.cell? ⟨sb,7,none⟩= some (af ag s.c.c7)/\w'.cell? ⟨sb,8,none⟩= some (af ag s.c.c8)/\w'.cell? ⟨sb,9,none⟩= some (af ag s.c.c9)/\w'.cell? ⟨cb,0,none⟩= some (af ag c.gL)/\w'.cell? ⟨cb,1,none⟩= some (af ag c.addr)/\w'.cell? ⟨w.heap.size,3,none⟩= some (af ag q)) (first|assumption|go_keep) (first
   |(go_at_call 156;refine(HRp.out _).mono ?_;rintro e wq ⟨rfl,qt⟩;have yU:=vB s c sb cb w.heap.size _ _ _ qt (by assumption);replace qt:=gE (ib qt)))
   clear k0 k1 k2 k3 k4 k5 k6 k7 k8 k9 yU;have jq:=gF j2 qt.out;rw[tA]at jq;go_wp2_with fail;go_ret;rw[Xt.out];have hB:=gI pQ.out qt.out;exact⟨rfl,cv,ov,out,HH.out.below hB,ip.gS hB,cn HH.out.ur.1,oY.refl _ _⟩
 ·have Xt:Hid (pi s i c f.code=(10,s)):=by
   show _=_;rw[HQ.out,HP.out,if_pos (by omega)]
  go_region_held3 (fun w'=>w'.cell? ⟨sb,0,none⟩= some (af ag s.c.c0)/\w'.cell? ⟨sb,1,none⟩= some (af ag s.c.c1)/\w'.cell? ⟨sb,2,none⟩= some (af ag s.c.c2)/\w'.cell? ⟨sb,3,none⟩= some (af ag s.c.c3)/\w'.cell? ⟨sb,4,none⟩= some (af ag s.c.c4)/\w'.cell? ⟨sb,5,none⟩= some (af ag s.c.c5)/\w'.cell? ⟨sb,6,none⟩= some (af ag s.c.c6)/\w'.cell? ⟨sb,7,none⟩= some (af ag s.c.c7)/\w'.cell? ⟨sb,8,none⟩= some (af ag s.c.c8)/\w'.cell? ⟨sb,9,none⟩= some (af ag s.c.c9)/\w'.cell? ⟨cb,0,none⟩= some (af ag c.gL)/\w'.cell? ⟨cb,1,none⟩= some (af ag c.addr)/\w'.cell? ⟨w.heap.size,3,none⟩= some (af ag q)) (first|assumption|go_keep) (first
  |(go_at_call 156;refine(HRp.out _).mono ?_;rintro e wq ⟨rfl,qt⟩;have yU:=vB s c sb cb w.heap.size _ _ _ qt (by assumption);replace qt:=gE (ib qt)))
  clear k0 k1 k2 k3 k4 k5 k6 k7 k8 k9 yU;go_wp2_with fail;go_ret;rw[Xt.out];have hB:=gI pQ.out qt.out;exact⟨rfl,cv,ov,out,HH.out.below hB,ip.gS hB,cn HH.out.ur.1,oY.refl _ _⟩
structure tG(w:World)(c:gZ)(cb sr:Nat)(rv:Value)(kN:Nat)(nk:List Value):Prop where
 cell:w.heap[cb]? =some (.cells (il c rv (aj (some ⟨sr,0,none⟩) c.gJ.length kN)) 249 (0,0))
 runs:Ro w 294 rv c.runs.length (iU c.runs)
 len:nk.length=c.gJ.length
 row:w.ownsRow 0 252 7 (aj (some ⟨sr,0,none⟩) c.gJ.length kN) c.gJ.length (lO c.gJ nk)
 bytes:∀(i:Nat) s bv,c.gJ[i]? =some s->nk[i]? =some bv->Ro w 3 bv s.bytes.length (jC s.bytes)
theorem nC.WW{cb sr:Nat}(h:nC w 0 c cb sr):∃rv kN nk,tG w c cb sr rv kN nk:=by
 obtain⟨rv,kN,nk,h1,h2,h3,h4,h5⟩:=h;exact⟨rv,kN,nk,⟨h1,h2,h3,h4,h5⟩⟩
theorem tG.rep{cb sr:Nat}(h:tG w c cb sr rv kN nk):nC w 0 c cb sr:=⟨rv,kN,nk,h.cell,h.runs,h.len,h.row,h.bytes⟩
theorem z':∀{l:List jf} {nk:List Value} {i:Nat} {x y:jf} {bv E6 v:Value} {j:Nat},l[i]? =some x->nk[i]? =some bv->nk.length=l.length->j<7->y.cells E6=(x.cells bv).set j v->(lO l nk).set (i*7+j) v=lO (l.set i y) (nk.set i E6)
 |[],_,_,_,_,_,_,_,_,h,_,_,_,_=>by simp at h
 |a::l,[],_,_,_,_,_,_,_,_,h,_,_,_=>by simp at h
 |a::l,b::nk,0,x,y,bv,E6,v,j,h1,h2,_,hj,hy=>by
  simp only[cz,Option.some.injEq]at h1 h2;subst h1;subst h2;simp only[lO,List.set_cons_zero,Nat.zero_mul,Nat.zero_add];rw[List.set_append_left _ _ (by simpa[jf.cells] using hj),hy]
 |a::l,b::nk,i+1,x,y,bv,E6,v,j,h1,h2,hl,hj,hy=>by
  simp only[cB]at h1 h2;have ih:=z' h1 h2 (by simpa using hl) hj hy;simp only[lO,List.set_cons_succ];rw[List.set_append_right _ _ (by simp[jf.cells];omega),<-ih]
  congr 2
  simp[jf.cells];omega
theorem tG.put{cb sr:Nat}(h:tG w c cb sr rv kN nk)(hx:c.gJ[i]? =some x)(kI:nk[i]? =some bv)(hj:j<7)(hy:y.cells E6=(x.cells bv).set j v)(L1:Ro w 3 E6 y.bytes.length (jC y.bytes)):
  tG (w.setCell ⟨sr,i*7+j,none⟩ v) {c with gJ:=c.gJ.set i y} cb sr rv kN (nk.set i E6)/\ip (· = sr) w (w.setCell ⟨sr,i*7+j,none⟩ v):=by
 have kq:ip (· = sr) w (w.setCell ⟨sr,i*7+j,none⟩ v):=iu (Below.refl _ _) _ _;obtain⟨d,hd⟩:=ii h.row rfl
 have ka:∀{e:TypeId},e≠252->∀k cur fr,w.heap[k]? =some (.cells cur e fr)->¬k=sr:=by
  rintro e he k cur fr hk rfl;rw[hd]at hk;simp only[Option.some.injEq,Obj.cells.injEq]at hk;exact he hk.2.1.symm
 refine⟨⟨?_,h.runs.iO kq (ka (by decide)),by simp[h.len],?_,fun k s b hs hb=>?_⟩,kq⟩
 ·rw[kq.block cb (aO.1 h.cell).1 (ka (by decide) _ _ _ h.cell)];show w.heap[cb]? =some (.cells (il c rv (aj (some ⟨sr,0,none⟩) (c.gJ.set i y).length kN)) 249 (0,0));rw[b8];exact h.cell
 ·have:=(h.row.stored (i*7+j) v).1;rw[z' hx kI h.len hj hy]at this;simpa using this
 ·by_cases hk:k=i
  ·subst hk;simp only at hs;rw[getElem?_set_at hx]at hs;rw[getElem?_set_at kI]at hb;obtain rfl:=Option.some.inj hs;obtain rfl:=Option.some.inj hb;exact L1.iO kq (ka (by decide))
  ·simp only at hs;rw[getElem?_set_other hk]at hs hb;exact(h.bytes k s b hs hb).iO kq (ka (by decide))
theorem tG.below{cb sr:Nat}(h:tG w c cb sr rv kN nk)(hb:Below w.heap.size w w'):tG w' c cb sr rv kN nk:=
 ⟨by rw[hb.block cb (aO.1 h.cell).1];exact h.cell,h.runs.below hb,h.len,iB h.row hb,fun i s bv h1 h2=>(h.bytes i s bv h1 h2).below hb⟩
theorem iS.put{V:World}(h:iS w s sb gP iJ cv ov ob out gN){c':gZ}{cb sr:Nat}(hi:s.gG[i]? =some c)(jJ:gP[i]? =some cb)(lj:iJ[i]? =some sr)
  (hB:Below w.heap.size w V) (kq:ip (· = sr) V w') (xQ:nC w' 0 c' cb sr):iS w' {s with gG:=s.gG.set i c'} sb gP iJ cv ov ob out gN/\ip (tf sb cb sr ob) w w':=by
 have hV:=h.below hB;obtain⟨_,_,zx⟩:=(hV.kH i c cb sr hi jJ lj).cb;obtain⟨_,vO⟩:=(hV.kH i c cb sr hi jJ lj).sr;have rn:ip (zb sb cb sr ov) V w':=kq.mono fun k _ hk=>aV (aV (a_ hk))
 have ka:=fun {e:TypeId} h1 h2 h3 h4=>qK (e:=e) hV.lf zx vO hV.ng h1 h2 h3 h4
 have KQ:sb≠sr:=by
  rintro rfl;have:=hV.lf;rw[vO]at this;simp at this
 refine⟨?_,(ip.gS hB).trans (rn.call hV.ng)⟩;have C':iJ=iJ.set i sr:=(jw lj).symm;rw[C'];refine hV.Ub hi jJ lj rn rfl ?_ (jg hV.ng kq (fun g hg e=>?_)) (hV.ur.iO rn (ka (by decide) (by decide) (by decide) (by decide))) xQ (a_ rfl)
 ·rw[kq.block sb (aO.1 hV.lf).1 KQ];exact hV.lf
 ·subst e;exact gO hV.ng vO (by decide) hg
end Go.Proofs.YthmdjhlhodpbhaaGreatDoor
