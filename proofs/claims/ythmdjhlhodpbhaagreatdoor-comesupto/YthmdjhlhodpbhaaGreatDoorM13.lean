/- Comes, part 13 -/
import Derived.Lib.EndianBits
import Derived.Test.YthmdjhlhodpbhaaGreatDoorM12
set_option maxHeartbeats 16000000
set_option maxRecDepth 8000
namespace Go.Proofs.YthmdjhlhodpbhaaGreatDoor
open Go.RowKit
open _root_.List renaming getElem?_eq_getElem → am
open Go.ByteArray renaming toList_eq → ch
open _root_.Go.Proofs.Tryz
open _root_.Go.Proofs.Tryz renaming prog → ae
open Go.Value renaming int → af, slice → aj
open Go.IntKind renaming i64 → ag
theorem EL(t0 t1 t2 t3:Int)(b off n cap:Nat)(w:World)(hn:4<=n)(h0:w.cell? ⟨b,off,none⟩= some (.int .u8 t0))(h1:w.cell? ⟨b,off+1,none⟩= some (.int .u8 t1))(h2:w.cell? ⟨b,off+2,none⟩= some (.int .u8 t2))(h3:w.cell? ⟨b,off+3,none⟩= some (.int .u8 t3))
  (r0:0<=t0/\t0<256) (r1:0<=t1/\t1<256) (r2:0<=t2/\t2<256) (r3:0<=t3/\t3<256):
  Calls ae 143 #[aj (some ⟨b,off,none⟩) n cap] w fun e w'=>e=.returned (.int .u32 (t0+256*t1+65536*t2+16777216*t3))/\∃q,w'=w.drewN q:=by
 have a0:IntKind.u32.wrap t0=t0:=u32_wrap_id t0 r0.1 (by omega);have a1:IntKind.u32.wrap t1=t1:=u32_wrap_id t1 r1.1 (by omega);have a2:IntKind.u32.wrap t2=t2:=u32_wrap_id t2 r2.1 (by omega);have a3:IntKind.u32.wrap t3=t3:=u32_wrap_id t3 r3.1 (by omega);have s1:IntKind.u32.wrap (t1*256)=t1*256:=u32_wrap_id _ (by omega) (by omega);have s2:IntKind.u32.wrap (t2*65536)=t2*65536:=u32_wrap_id _ (by omega) (by omega);have s3:IntKind.u32.wrap (t3*16777216)=t3*16777216:=u32_wrap_id _ (by omega) (by omega);have o1:bits .or .u32 t0 (t1*256)=t0+t1*256:=u32_or8 t0 _ r0.1 r0.2 (by omega) (by omega) (by omega);have o2:bits .or .u32 (t0+t1*256) (t2*65536)=t0+t1*256+t2*65536:=u32_or16 _ _ (by omega) (by omega) (by omega) (by omega) (by omega);have o3:bits .or .u32 (t0+t1*256+t2*65536) (t3*16777216)=t0+t1*256+t2*65536+t3*16777216:=u32_or24 _ _ (by omega) (by omega) (by omega) (by omega) (by omega);have b1:(1:Int)<(n:Int):=by omega
 have b2:(2:Int)<(n:Int):=by omega
 have b3:(3:Int)<(n:Int):=by omega
 have b0:(0:Int)<(n:Int):=by omega
 have HF:Hid (t0+256*t1+65536*t2+16777216*t3=t0+t1*256+t2*65536+t3*16777216):=by show _=_;omega
 rw[HF.out];go_enter func143,ntmps143;go_wp2_with fail
 go_quiet (fail)
 go_wp2_with fail;go_ret;exact⟨rfl,_,rfl⟩
theorem IH(l r:List Int)(lv rv:Value)(w:World)(hl:me w lv l)(hr:me w rv r)(C3:0<l.length)(rG:0<r.length):
  Calls ae 144 #[lv,rv] w fun e w'=>e=.returned (.bool (decide (l=r)))/\w=w':=by
 obtain⟨qQ,_,la,lc,rfl,_,_,_,hlp⟩:=id hl;obtain⟨mq,_,ra,rc,rfl,_,_,_,hrp⟩:=id hr;obtain⟨lb,lo,_,_,rfl,_,_⟩:=hlp C3;obtain⟨rb,ro,_,_,rfl,_,_⟩:=hrp rG;have v1:=run_convert_bytes_arg w 44 5 underlying44 underlying5 lb lo l.length lc l rfl (fun i hi=>hl.cell i hi) 9 underlying9;have v2:=run_convert_bytes_arg w 44 5 underlying44 underlying5 rb ro r.length rc r rfl (fun i hi=>hr.cell i hi) 9 underlying9
 have Rc:Hid (decide (l=r)=decide (strOfNums l=strOfNums r)):=by
  show _=_;exact decide_eq_decide.2 ⟨fun h=>by rw[h],fun h=>x_ qQ mq h⟩
 generalize strOfNums l=sa at v1 Rc;generalize strOfNums r=sb at v2 Rc;obtain⟨ll,Vi⟩:∃ll,l.length=ll:=⟨_,rfl⟩;obtain⟨rl,pZ⟩:∃rl,r.length=rl:=⟨_,rfl⟩;rw[Vi]at v1⊢;rw[pZ]at v2⊢;rw[Rc.out];clear hl hr Vi pZ C3 rG hlp hrp qQ mq;by_cases T_:sa=sb
 ·have HD:decide (sa=sb)=true:=by simpa using T_
  subst T_;go_enter func144,ntmps144;go_wp2_with fail;go_ret;exact⟨by simp,rfl⟩
 ·have HD:decide (sa=sb)=false:=by simpa using T_
  have HE:¬sa.toList=sb.toList:=fun h=>T_ (by
   rw[ch,ch]at h;exact ByteArray.ext (Array.toList_inj.mp h))
  rw[HD];go_enter func144,ntmps144;go_wp2_with fail;go_ret;exact⟨by simp[HE],rfl⟩
theorem me.vw{w:World}{base:Nat}{v:Value}{n:Nat}{l:List Int}(h:w.ownsRow base 5 1 v n (U8 l))(hb:iF l)(hm:l.length<=140737488355328):me w v l:=by
 have hn:n=l.length:=by have:=h.1;rw[jM]at this;omega
 subst hn;obtain⟨hl,⟨rfl,h0⟩|⟨g,cap,cur,rfl,_,hg,km,nr,_,ht⟩⟩:=h
 ·have hn:l=[]:=List.length_eq_zero_iff.1 h0;subst hn;exact me.nil w
 ·refine⟨hb,hm,_,cap,rfl,km,by unfold maxLen at nr;omega,fun h=>(by simp at h),fun hp=>⟨g,0,cur,_,rfl,hg,fun j hj=>?_⟩⟩
  have h2:cur[0+j]? =(U8 l)[j]?:=by
   rw[Nat.zero_add,<-ht,List.getElem?_take,if_pos (by simp only[Nat.mul_one]at *;omega)];simp
  rw[h2];simp[U8,am hj,List.getD]
theorem BV(c:jG)(now addr:Int)(t:List Int)(tv:Value)(w:World)(ht:me w tv t)(ha:0<=addr/\addr<256)(hk:0<=c.c9/\c.c9<4294967296):
  Calls ae 90 #[af ag c.c9,af ag addr,af ag now,tv] w fun e w'=>e=.returned (.bool (qi c now addr t))/\Below w.heap.size w w':=by
 obtain⟨B8,_,ba,bc,rfl,NE,_,_,hp⟩:=id ht;by_cases h9:t.length=9
 ·obtain⟨tv1,Vp,⟨a1,c1,rfl⟩,kk⟩:=ht.drop (k:=1) (by omega);have sj:(t.drop 1).length=8:=by simp;omega
  obtain⟨_,_,a2,c2,e2,_,_,_,T'⟩:=id Vp;obtain⟨b2,o2,_,_,rfl,_,_⟩:=T' (by omega);simp only[Value.slice.injEq]at e2;obtain⟨rfl,_,rfl⟩:=e2
  have mx:∀j,j<8->w.cell? ⟨b2,o2+j,none⟩= some (.int .u8 (t.getD (j+1) 0)):=by
   intro j hj;have h1:me w (aj (some ⟨b2,o2,none⟩) (t.drop 1).length c1) (t.drop 1):=by rw[sj];rw[h9]at Vp;exact Vp
   have h2:=h1.cell j (by omega);rw[h2]
   congr 2
   simp[List.getD]
  have k0:=mx 0 (by omega);have k1:=mx 1 (by omega);have k2:=mx 2 (by omega);have k3:=mx 3 (by omega);rw[Nat.add_zero]at k0;have r1:=j9 B8 1;have r2:=j9 B8 2;have r3:=j9 B8 3;have r4:=j9 B8 4;have ZA:=gE (EL (t.getD 1 0) (t.getD 2 0) (t.getD 3 0) (t.getD 4 0) b2 o2 8 c1 w (by omega) k0 k1 k2 k3 r1 r2 r3 r4)
  have HG:Hid (qi c now addr t=(decide (kr c.c9 addr (vV t)=t)&&decide (now<=vV t))):=by
   show _=_;simp[qi,h9]
  have Z6:0<=vV t/\vV t<4294967296:=by unfold vV;omega
  have e3:t.getD 1 0+256*t.getD 2 0+65536*t.getD 3 0+16777216*t.getD 4 0=vV t:=rfl;rw[e3]at ZA;obtain⟨tm,abC⟩:∃tm,vV t=tm:=⟨_,rfl⟩;rw[abC]at ZA HG Z6;obtain⟨ado,adp⟩:=Z6;have hwt:IntKind.i64.wrap tm=tm:=by rw[IntKind.wrap_i64];omega
  have Rp:=gE (fun W=>yN c.c9 addr tm W hk.1 hk.2 ha.1 ha.2 ado adp);have HTb:=gE (rZ c.c9 addr tm ha.1 ha.2);have ZD:=gE ht;rw[h9]at kk⊢;replace ZD:Hid (me w (.slice ba 9 bc) t):=by rw[h9]at ZD;exact ZD
  have H9:=gE h9;have e8:(9-1:Nat)=8:=rfl;simp only[e8]at kk;rw[HG.out];clear ht Vp hp T' mx k0 k1 k2 k3 r1 r2 r3 r4 h9 sj abC e3 e8;simp only[Int.natCast_one]at kk;by_cases Va:now<=tm
  ·have hd:decide (now<=tm)=true:=decide_eq_true Va;rw[hd,Bool.and_true];obtain⟨B,hB⟩:∃B,decide (kr c.c9 addr tm=t)=B:=⟨_,rfl⟩;have Ie:=gE hB;rw[hB];clear hB;go_enter func90,ntmps90;go_wp2_with fail;refine ZA.out.mono ?_;rintro e w1 ⟨rfl,q,rfl⟩;clear ZA;go_wp2_with fail;refine(Rp.out _).mono ?_;rintro e w2 ⟨v,rfl,gY,iT⟩;have mw:Below w.heap.size w w2:=⟨iT.os,iT.tape,iT.output,iT.size,iT.block⟩;have ZY:(kr c.c9 addr tm).length=9:=by have:=gY.1;rw[jM]at this;omega
   have HEq:=gE (IH t (kr c.c9 addr tm) (.slice ba 9 bc) v w2 (ZD.out.below mw) (me.vw gY HTb.out (by rw[ZY];decide)) (by rw[H9.out];decide) (by rw[ZY];decide));obtain⟨va,vc,rfl⟩:=i7 gY;have ya:=gE mw
   have Xh:Hid (decide (t=kr c.c9 addr tm)=B):=by
    show _=_;rw[<-Ie.out];exact decide_eq_decide.2 eq_comm
   clear gY iT mw Rp ZY;go_wp2_with fail;refine HEq.out.mono ?_;rintro e w3 ⟨rfl,rfl⟩;rw[Xh.out];clear HEq Xh Ie HG;go_wp2_with fail;go_ret;exact⟨by simp,ya.out⟩
  ·have hd:decide (now<=tm)=false:=decide_eq_false Va;rw[hd,Bool.and_false];go_enter func90,ntmps90;go_wp2_with fail;refine ZA.out.mono ?_;rintro e w1 ⟨rfl,q,rfl⟩;clear ZA;go_wp2_with fail;go_ret;exact⟨rfl,gK (Below.refl _ _) q⟩
 ·have HG:Hid (qi c now addr t=false):=by
   show _=_;simp[qi,h9]
  rw[HG.out];have hb9:((t.length:Int)==9)=false:=beq_eq_false_iff_ne.2 (by omega);clear ht hp;go_enter func90,ntmps90;go_wp2_with fail;go_ret;exact⟨rfl,Below.refl _ _⟩
theorem M9(gL:Int)(tk:List Int)(tv:Value)(w:World)(hc:0<=gL/\gL<=1073741823)(ht:me w tv tk)(h9:tk.length=9):
  Calls ae 147 #[af ag gL,tv] w fun e w'=>∃v,e=.returned v/\w'.ownsRow w.heap.size 5 1 v ([3]++jn gL++jn 9++tk).length (U8 ([3]++jn gL++jn 9++tk))/\Below w.heap.size w w':=by
 obtain⟨i0,hi,mB,kS,ln⟩:=info_parts o4;have xt:=qk gL;obtain⟨B8,_,ba,bc,rfl,NE,_,_,hp⟩:=id ht;obtain⟨tb,to_,_,_,rfl,_,_⟩:=hp (by omega);have ZD:=gE ht;have Z3:jn 9=[9]:=rfl
 have HL:Hid (U8 [3]++U8 (jn gL)++U8 [9]++U8 tk=U8 ([3]++jn gL++jn 9++tk)/\([3]++jn gL++jn 9++tk).length=1+(jn gL).length+1+9):=by
  refine⟨by rw[Z3];simp[U8],by rw[Z3];simp[h9];omega⟩
 obtain⟨L,hL⟩:∃L,[3]++jn gL++jn 9++tk=L:=⟨_,rfl⟩;rw[hL]at HL⊢;clear hL;have HUl:Hid ((U8 tk).length=9):=by show _=_;rw[jM,h9]
 have H9:=gE h9;rw[h9];clear ht hp h9;go_enter func147,ntmps147;go_wp2_with fail;refine(ni gL hc.1 hc.2 w.heap.size _ 1 (U8 [3]) _ (o5 w 5 (U8 [3]) (by simp[U8,maxLen])) (by simp) (by decide)).mono ?_;rintro e w1 ⟨v1,rfl,kJ,pr⟩;have b1:Below w.heap.size w w1:=(gH w _).grown pr (by simp) (fun g hg=>by simp[Value.ownBlock]at hg;omega);obtain⟨a1,c1,rfl⟩:=i7 kJ;have Uv:=gE kJ;have nB:=gE b1;clear kJ pr b1;go_wp2_with fail;refine(ni 9 (by decide) (by decide) w.heap.size _ _ _ w1 Uv.out nB.out.size (by omega)).mono ?_;rintro e w2 ⟨v2,rfl,je,mZ⟩;have b2:Below w.heap.size w w2:=nB.out.grown mZ nB.out.size (fun g hg=>(Uv.out.lt g hg).1);rw[Z3]at je;obtain⟨a2,c2,rfl⟩:=i7 je;have ab_:=gE (ZD.out.below b2)
 have R8:∀(j:Nat) u,(U8 tk)[j]? =some u->w2.cell? ((⟨tb,to_,none⟩:Addr).add j)=some u:=by
  intro j u hj;have qp:=(List.getElem?_eq_some_iff.1 hj).1;rw[jM]at qp;have h1:=ab_.out.cell j qp;simp only[U8,List.getElem?_map,am qp,Option.map_some,Option.some.injEq]at hj;rw[<-hj];rw[Addr.add_lit,h1];simp[List.getD,am qp]
 have Is:=gE R8;have Cq:=gE je;have mc:=gE b2;clear je mZ b2 Uv nB R8;have hz:=mc.out.size;go_wp2_with (at_builtin;refine wpList_append_own _ rfl _ _ 44 rfl w.heap.size 5 i0 (.int .u8 0) 1 1 underlying44 hi mB kS ln rfl (by decide) _ _ _ rfl Cq.out ⟨tb,to_,none⟩ 9 bc (U8 tk) rfl (by rw[HUl.out]) Is.out (pm _) (by unfold maxLen;simp;omega) (by simp;omega) hz ?_;intro v3 w3 lk qa _);have b3:Below w.heap.size w w3:=mc.out.grown qa mc.out.size (fun g hg=>(Cq.out.lt g hg).1);go_ret;refine⟨_,rfl,?_,b3⟩;rw[HL.out.2,<-HL.out.1];exact lk
end Go.Proofs.YthmdjhlhodpbhaaGreatDoor
