/- Apart, 2 -/
import Derived.Test.YthmdjhlhodpbhaaGreatDoorA00
import Derived.Test.YthmdjhlhodpbhaaGreatDoorA01
set_option maxHeartbeats 16000000
set_option maxRecDepth 8000
namespace Go.Proofs.YthmdjhlhodpbhaaGreatDoor
open Go.RowKit
def dL(l:List Int):Nat->Int
 |0=>0
 |1=>l.getD 0 0%64
 |k+2=>dL l (k+1)*256+l.getD (k+1) 0
def gsz(l:List Int):Int:=if l.length=0 then 0 else if(l.length:Int)<eD (l.getD 0 0) then 0 else eD (l.getD 0 0)
def ec(l:List Int):Int:=if gsz l=0 then 0 else dL l (gsz l).toNat
def sX(l:List Int):Int:=if gsz l=0 then 2 else 0
theorem cU{l:List Int}(hl:Bytes l)(k:Nat):0<=l.getD k 0/\l.getD k 0<256:=by
 rcases Nat.lt_or_ge k l.length with h|h
 ·exact hl _ (by simp[List.getD,lGe h])
 ·simp[List.getD,List.getElem?_eq_none h]
theorem ow{l:List Int}(hl:Bytes l):(0<=dL l 1/\dL l 1<64)/\(0<=dL l 2/\dL l 2<16384)/\(0<=dL l 3/\dL l 3<4194304)/\(0<=dL l 4/\dL l 4<1073741824):=by
 have h0:=cU hl 0
 have h1:=cU hl 1
 have h2:=cU hl 2
 have h3:=cU hl 3
 have e1:dL l 1=l.getD 0 0%64:=rfl
 have e2:dL l 2=dL l 1*256+l.getD 1 0:=rfl
 have e3:dL l 3=dL l 2*256+l.getD 2 0:=rfl
 have e4:dL l 4=dL l 3*256+l.getD 3 0:=rfl
 omega
theorem valTo_lt{l:List Int}(hl:Bytes l)(k:Nat)(h1:1<=k)(h2:k<4):0<=dL l k/\dL l k<4194304:=by
 obtain⟨a,b,c,_⟩:=ow hl
 match k,h1,h2 with
 |1,_,_=>omega
 |2,_,_=>omega
 |3,_,_=>omega
theorem g_none{l:List Int}(h:gsz l=0):ec l=0/\sX l=2:=by simp[ec,sX,h]
theorem g_some{l:List Int}{S:Nat}(h:gsz l=S)(hs:0<S):ec l=dL l S/\sX l=0:=by
 have:¬gsz l=0:=by omega
 constructor
 ·unfold ec;rw[if_neg this,h,Int.toNat_natCast]
 ·simp[sX,this]
theorem qh [LoM] (a c:Int)(ha:0<=a)(ha1:a<=9223372036854775807)(hc:0<=c)(hc1:c<=9223372036854775807)(w:World)(he:Env w):Calls Tryz.prog 136 #[.int .i64 a,.int .i64 c] w fun e w'=>∃g,e=.returned (.pointer (some ⟨g,0,none⟩))/\Below w.heap.size w w':=by
 have HE:=ab he
 clear he
 go_enter Tryz.func136,Tryz.ntmps136
 go_wp2_with fail
 refine(mD a ha ha1 w HE.out).mono ?_
 rintro e w1 ⟨s,rfl,hs,hb⟩
 go_wp2_with fail
 refine(mD c hc hc1 w1 (HE.out.below hb)).mono ?_
 rintro e w2 ⟨s2,rfl,hs2,hb2⟩
 have hbb:=ai hb hb2
 clear hb hb2
 go_wp2_with fail
 go_ret
 exact⟨_,rfl,hbb.alloc hbb.size _⟩
theorem kP(ao:Option Addr)(cap:Nat)(w:World):Calls Tryz.prog 154 #[.slice ao 0 cap] w fun e w'=>∃g,e=.returned (.tuple #[.int .i64 0,.iface 158 (.pointer (some ⟨g,0,none⟩))])/\Below w.heap.size w w':=by
 go_enter Tryz.func154,Tryz.ntmps154
 go_wp2
 go_ret2
 exact⟨_,rfl,ag w _⟩
theorem oA(l:List Int)(hp:0<l.length)(b off cap:Nat)(w:World)(hm:l.length<=140737488355328)(hc:w.cell? ⟨b,off,none⟩= some (.int .u8 (l.getD 0 0)))(hz:¬gsz l=0):
  Calls Tryz.prog 154 #[.slice (some ⟨b,off,none⟩) l.length cap] w fun e w'=>e=.returned (.tuple #[.int .i64 (gsz l),.nilIface])/\w=w':=by
 have hlb:((l.length:Int)==0)=false:=beq_eq_false_iff_ne.2 (by omega)
 have e1:gsz l=eD (l.getD 0 0)/\¬(l.length:Int)<eD (l.getD 0 0):=by
  unfold gsz at hz⊢
  rw[if_neg (by omega)]at hz⊢
  by_cases h:(l.length:Int)<eD (l.getD 0 0)
  ·rw[if_pos h]at hz;exact absurd rfl hz
  ·rw[if_neg h];exact⟨rfl,h⟩
 obtain⟨e1,e2⟩:=e1
 rw[e1]at hz⊢
 clear e1
 generalize l.getD 0 0=c at hc hz e2⊢
 have hsb:(eD c==0)=false:=beq_eq_false_iff_ne.2 hz
 go_enter Tryz.func154,Tryz.ntmps154
 go_wp2_with (go_at_call 183;refine(gU _ _).mono ?_;rintro e w' ⟨rfl,rfl⟩)
 go_ret2
 exact⟨rfl,rfl⟩
theorem kk [LoM] (l:List Int)(hl:Bytes l)(hp:0<l.length)(b off cap:Nat)(w:World)(he:Env w)(hm:l.length<=140737488355328)(hc:w.cell? ⟨b,off,none⟩= some (.int .u8 (l.getD 0 0)))(hz:gsz l=0):
  Calls Tryz.prog 154 #[.slice (some ⟨b,off,none⟩) l.length cap] w fun e w'=>∃g,e=.returned (.tuple #[.int .i64 0,.iface 158 (.pointer (some ⟨g,0,none⟩))])/\Below w.heap.size w w':=by
 have hlb:((l.length:Int)==0)=false:=beq_eq_false_iff_ne.2 (by omega)
 have hcr:=cU hl 0
 unfold gsz at hz
 rw[if_neg (by omega)]at hz
 generalize l.getD 0 0=c at hc hz hcr
 obtain⟨hc0,hc1⟩:=hcr
 have HE:=ab he
 clear he
 by_cases h0:eD c=0
 ·have hsb:(eD c==0)=true:=by simp[h0]
  clear hz h0
  go_enter Tryz.func154,Tryz.ntmps154
  go_wp2_with (first |(go_at_call 183;refine(gU _ _).mono ?_;rintro e w' ⟨rfl,rfl⟩))
  refine(mD c hc0 (by omega) w HE.out).mono ?_
  rintro e w1 ⟨s,rfl,hs,hb⟩
  go_wp2_with fail
  go_ret2
  exact⟨_,rfl,hb.alloc hb.size _⟩
 ·have hsb:(eD c==0)=false:=beq_eq_false_iff_ne.2 h0
  have hsh:(l.length:Int)<eD c:=by
   by_cases h:(l.length:Int)<eD c
   ·exact h
   ·rw[if_neg h]at hz;exact absurd hz h0
  have hle:eD c<=4:=by
   unfold eD
   repeat' split
   all_goals omega
  clear hz h0
  have hlo:0<=eD c:=by omega
  go_enter Tryz.func154,Tryz.ntmps154
  go_wp2_with (first |(go_at_call 183;refine(gU _ _).mono ?_;rintro e w' ⟨rfl,rfl⟩))
  refine(qh _ _ (by omega) (by omega) hlo (by omega) w HE.out).mono ?_
  rintro e w1 ⟨g,rfl,hb⟩
  go_wp2_with fail
  go_ret2
  exact⟨g,rfl,hb⟩
theorem Read_nil(ao:Option Addr)(cap:Nat)(w:World):Calls Tryz.prog 102 #[.slice ao 0 cap] w fun e w'=>∃g h,e=.returned (.tuple #[.int .i64 0,.int .i64 0,.iface 155 (.pointer (some ⟨h,0,none⟩))])/\w'.cell? ⟨h,1,none⟩= some (.iface 158 (.pointer (some ⟨g,0,none⟩)))/\Below w.heap.size w w':=by
 go_enter Tryz.func102,Tryz.ntmps102
 go_wp2_with fail
 refine(kP ao cap w).mono ?_
 rintro e w1 ⟨g,rfl,hb⟩
 go_wp2_with fail
 go_ret3
 exact⟨g,w1.heap.size,rfl,by simp,hb.alloc hb.size _⟩
theorem Read_none [LoM] (l:List Int)(hl:Bytes l)(hp:0<l.length)(b off cap:Nat)(w:World)(he:Env w)(hm:l.length<=140737488355328)(hc:w.cell? ⟨b,off,none⟩= some (.int .u8 (l.getD 0 0)))(hz:gsz l=0):
  Calls Tryz.prog 102 #[.slice (some ⟨b,off,none⟩) l.length cap] w fun e w'=>∃g h,e=.returned (.tuple #[.int .i64 0,.int .i64 0,.iface 155 (.pointer (some ⟨h,0,none⟩))])/\w'.cell? ⟨h,1,none⟩= some (.iface 158 (.pointer (some ⟨g,0,none⟩)))/\Below w.heap.size w w':=by
 go_enter Tryz.func102,Tryz.ntmps102
 go_wp2_with fail
 refine(kk l hl hp b off cap w he hm hc hz).mono ?_
 rintro e w1 ⟨g,rfl,hb⟩
 clear hc he hz
 go_wp2_with fail
 go_ret3
 exact⟨g,w1.heap.size,rfl,by simp,hb.alloc hb.size _⟩
theorem rr(l:List Int)(hl:Bytes l)(hp:0<l.length)(b off cap:Nat)(w:World)(hcap:l.length<=cap)(hm:l.length<=140737488355328)(hc:∀j,j<l.length->w.cell? ⟨b,off+j,none⟩= some (.int .u8 (l.getD j 0)))(hz:¬gsz l=0):
  Calls Tryz.prog 102 #[.slice (some ⟨b,off,none⟩) l.length cap] w fun e w'=>e=.returned (.tuple #[.int .i64 (ec l),.int .i64 (gsz l),.nilIface])/\w=w':=by
 have HC:=ab hc
 have h0:=hc 0 hp
 rw[Nat.add_zero]at h0
 clear hc
 obtain⟨S,hS,hS4,hSl⟩:∃S:Nat,gsz l=S/\(1<=S/\S<=4)/\S<=l.length:=by
  unfold gsz at hz⊢
  rw[if_neg (by omega)]at hz⊢
  by_cases h:(l.length:Int)<eD (l.getD 0 0)
  ·rw[if_pos h]at hz;exact absurd rfl hz
  ·rw[if_neg h]at hz⊢
   have hb:0<=eD (l.getD 0 0)/\eD (l.getD 0 0)<=4:=by
    unfold eD
    repeat' split
    all_goals omega
   exact⟨(eD (l.getD 0 0)).toNat,by omega,by omega,by omega⟩
 have hns:=oA l hp b off cap w hm h0 hz
 have hcr:=cU hl 0
 have HV1:Hid (dL l 1=l.getD 0 0%64):=rfl
 generalize l.getD 0 0=c at h0 hcr HV1
 obtain⟨hc0,hc1⟩:=hcr
 have hand:=u8_and63 c hc0 hc1
 have HG:Hid (ec l=dL l S):=(g_some hS (by omega)).1
 rw[hS]at hns⊢
 clear hS hz
 obtain⟨hS1,hS2⟩:=hS4
 by_cases hcap1:cap=1
 ·subst hcap1
  obtain rfl:S=1:=by omega
  go_enter Tryz.func102,Tryz.ntmps102
  go_wp2_with fail
  refine hns.mono ?_
  rintro e w1 ⟨rfl,rfl⟩
  clear hns
  go_wp2_with fail
  refine wp_loop_rounds 1 ?_
  rw[rounds_succ]
  go_wp2
  go_ret3
  exact⟨by rw[HG.out,HV1.out];rfl,rfl⟩
 ·go_enter Tryz.func102,Tryz.ntmps102
  go_wp2_with fail
  refine hns.mono ?_
  rintro e w1 ⟨rfl,rfl⟩
  clear hns
  go_wp2_with fail
  go_loop [2,27] (fun n i=>∃k:Nat,k+1<=S/\i=.int .i64 k/\n=.int .i64 (dL l (k+1))) (fun _ i=>S-(intOf i).toNat)
  case atStart=>exact⟨0,hS1,rfl,by rw[HV1.out]⟩
  case round=>
   obtain⟨k,hk,rfl,rfl⟩:=hrel
   by_cases hlt:k+1<S
   ·have hcell:=HC.out (k+1) (by omega)
    rw[show off+(k+1)=off+1+k from by omega]at hcell
    have hv:=valTo_lt hl (k+1) (by omega) (by omega)
    have hb:=cU hl (k+1)
    have HV:Hid (dL l (k+1+1)=dL l (k+1)*256+l.getD (k+1) 0):=rfl
    generalize dL l (k+1)=n at hv HV⊢
    generalize l.getD (k+1) 0=x at hcell hb HV
    obtain⟨hv0,hv1⟩:=hv
    obtain⟨hb0,hb1⟩:=hb
    have hor:=or8 n x hv0 (by omega) hb0 hb1
    go_wp2
    go_round
    case rel=>exact⟨k+1,by omega,by go_num,by rw[HV.out]⟩
    case measure=>simp[intOf];omega
   ·obtain rfl:S=k+1:=by omega
    go_wp2
    go_ret3
    exact⟨by rw[HG.out];rfl,rfl⟩
def Reads(w:World)(v:Value)(l:List Int):Prop:=
 Bytes l/\l.length<=140737488355328/\((l=[]/\∃ao cap,v=.slice ao 0 cap)\/(0<l.length/\∃b off cap,v=.slice (some ⟨b,off,none⟩) l.length cap/\l.length<=cap/\∀j,j<l.length->w.cell? ⟨b,off+j,none⟩= some (.int .u8 (l.getD j 0))))
theorem qt [LoM] (h g:Nat)(w:World)(he:Env w)(hcause:w.cell? ⟨h,1,none⟩= some (.iface 158 (.pointer (some ⟨g,0,none⟩)))):
  Calls Tryz.prog 46 #[.iface 155 (.pointer (some ⟨h,0,none⟩))] w fun e w'=>e=.returned (.bool true)/\Below w.heap.size w w':=by
 have hb1:Below w.heap.size w (w.alloc (.cells #[.pointer none] 158)):=ag w _
 have HA:=ab (rq h ⟨g,0,none⟩ ⟨w.heap.size,0,none⟩ (w.alloc (.cells #[.pointer none] 158)) (ae he.2 hb1) (ae hcause hb1) (by simp) (by simp))
 clear hcause he
 go_enter Tryz.func46,Tryz.ntmps46
 go_wp2_with fail
 refine HA.out.mono ?_
 rintro e w2 ⟨rfl,hb2⟩
 have hb3:Below w.heap.size w w2:=hb1.trans hb2
 clear hb1 hb2 HA
 go_wp2_with fail
 go_ret
 exact⟨rfl,hb3⟩
theorem jK(w:World):Calls Tryz.prog 46 #[.nilIface] w fun e w'=>e=.returned (.bool false)/\Below w.heap.size w w':=by
 go_enter Tryz.func46,Tryz.ntmps46
 go_wp2_with fail
 refine(As_nil _ _).mono ?_
 rintro e w2 ⟨rfl,rfl⟩
 go_wp2_with fail
 go_ret
 exact⟨rfl,ag w _⟩
theorem Get_err [LoM] (v:Value)(w:World)(he:Env w)
  (hread:Calls Tryz.prog 102 #[v] w fun e w'=>∃g h,e=.returned (.tuple #[.int .i64 0,.int .i64 0,.iface 155 (.pointer (some ⟨h,0,none⟩))])/\w'.cell? ⟨h,1,none⟩= some (.iface 158 (.pointer (some ⟨g,0,none⟩)))/\Below w.heap.size w w'):
  Calls Tryz.prog 56 #[v] w fun e w'=>e=.returned (.tuple #[.int .i64 0,.int .i64 0,.int .i64 2])/\Below w.heap.size w w':=by
 have HR:=ab hread
 have HE:=ab he
 clear hread he
 go_enter Tryz.func56,Tryz.ntmps56
 go_wp2_with fail
 refine HR.out.mono ?_
 rintro e w1 ⟨g,h,rfl,hcause,hb⟩
 clear HR
 have HI:=ab (qt h g w1 (HE.out.below hb) hcause)
 clear hcause
 go_wp2_with fail
 refine HI.out.mono ?_
 rintro e w2 ⟨rfl,hb2⟩
 have hb3:Below w.heap.size w w2:=ai hb hb2
 clear hb hb2 HI
 go_wp2_with fail
 go_ret3
 exact⟨rfl,hb3⟩
theorem Get_ok(l:List Int)(v:Value)(w:World)
  (hread:Calls Tryz.prog 102 #[v] w fun e w'=>e=.returned (.tuple #[.int .i64 (ec l),.int .i64 (gsz l),.nilIface])/\w=w'):
  Calls Tryz.prog 56 #[v] w fun e w'=>e=.returned (.tuple #[.int .i64 (ec l),.int .i64 (gsz l),.int .i64 0])/\Below w.heap.size w w':=by
 have HR:=ab hread
 clear hread
 go_enter Tryz.func56,Tryz.ntmps56
 go_wp2_with fail
 refine HR.out.mono ?_
 rintro e w1 ⟨rfl,rfl⟩
 clear HR
 go_wp2_with fail
 refine(jK _).mono ?_
 rintro e w2 ⟨rfl,hb⟩
 go_wp2_with fail
 go_ret3
 exact⟨rfl,hb⟩
theorem qs [LoM] (l:List Int)(v:Value)(w:World)(he:Env w)(hr:Reads w v l):
  Calls Tryz.prog 56 #[v] w fun e w'=>e=.returned (.tuple #[.int .i64 (ec l),.int .i64 (gsz l),.int .i64 (sX l)])/\Below w.heap.size w w':=by
 obtain⟨hl,hm,h|h⟩:=hr
 ·obtain⟨rfl,ao,cap,rfl⟩:=h
  exact Get_err _ w he (Read_nil ao cap w)
 ·obtain⟨hp,b,off,cap,rfl,hcap,hc⟩:=h
  have h0:=hc 0 hp
  rw[Nat.add_zero]at h0
  by_cases hz:gsz l=0
  ·obtain⟨e1,e2⟩:=g_none hz
   rw[e1,e2,hz]
   exact Get_err _ w he (Read_none l hl hp b off cap w he hm h0 hz)
  ·have e2:sX l=0:=by simp[sX,hz]
   rw[e2]
   exact Get_ok l _ w (rr l hl hp b off cap w hcap hm hc hz)
def pU(c0 c1 c2 c3:Int):Bool:=eL c0 1 8&&(eL c1 8 4096&&(eL c2 8 c1&&eL c3 1 8))
def pV(c4 c5 c6 c7:Int):Bool:=eL c4 1 8&&(eL c5 0 8&&(eL c6 1 1000&&eL c7 1 1000))
def gT(c0 c1 c2 c3 c4 c5 c6 c7 c8 c9:Int):Bool:=pU c0 c1 c2 c3&&(pV c4 c5 c6 c7&&(eL c8 0 100000&&eL c9 0 4294967295))
def gZ(c0 c1 c2 c3 c4 c5 c6 c7 c8 c9:Int):Nat->Int
 |0=>c0
 |1=>c1
 |2=>c2
 |3=>c3
 |4=>c4
 |5=>c5
 |6=>c6
 |7=>c7
 |8=>c8
 |_=>c9
def lA:Nat->Int
 |0=>1
 |1=>8
 |2=>8
 |3=>1
 |4=>1
 |5=>0
 |6=>1
 |7=>1
 |8=>0
 |_=>0
def lz(c1:Int):Nat->Int
 |0=>8
 |1=>4096
 |2=>c1
 |3=>8
 |4=>8
 |5=>8
 |6=>1000
 |7=>1000
 |8=>100000
 |_=>4294967295
def okAt(c0 c1 c2 c3 c4 c5 c6 c7 c8 c9:Int)(k:Nat):Bool:=eL (gZ c0 c1 c2 c3 c4 c5 c6 c7 c8 c9 k) (lA k) (lz c1 k)
def nt(c0 c1 c2 c3 c4 c5 c6 c7 c8 c9:Int):Int:=if gT c0 c1 c2 c3 c4 c5 c6 c7 c8 c9 then 0 else 1
theorem cfgE_all{c0 c1 c2 c3 c4 c5 c6 c7 c8 c9:Int}(h:∀j,j<10->okAt c0 c1 c2 c3 c4 c5 c6 c7 c8 c9 j=true):nt c0 c1 c2 c3 c4 c5 c6 c7 c8 c9=0:=by
 have h0:=h 0 (by decide);have h1:=h 1 (by decide);have h2:=h 2 (by decide);have h3:=h 3 (by decide);have h4:=h 4 (by decide)
 have h5:=h 5 (by decide);have h6:=h 6 (by decide);have h7:=h 7 (by decide);have h8:=h 8 (by decide);have h9:=h 9 (by decide)
 simp only[okAt,gZ,lA,lz]at h0 h1 h2 h3 h4 h5 h6 h7 h8 h9
 simp[nt,gT,pU,pV, *]
theorem cfgE_one{c0 c1 c2 c3 c4 c5 c6 c7 c8 c9:Int}(k:Nat)(hk:k<10)(h:okAt c0 c1 c2 c3 c4 c5 c6 c7 c8 c9 k=false):nt c0 c1 c2 c3 c4 c5 c6 c7 c8 c9=1:=by
 match k,hk with
 |0,_|1,_|2,_|3,_|4,_|5,_|6,_|7,_|8,_|9,_=>
  simp only[okAt,gZ,lA,lz]at h
  simp[nt,gT,pU,pV,h]
theorem oQ{k:IntKind}{a b:Int}(h:a=b):Ending.returned (.int k a)=.returned (.int k b):=by rw[h]
theorem upto_succ{f:Nat->Bool}{k:Nat}(h:∀j,j<k->f j=true)(hk:f k=true):∀j,j<k+1->f j=true:=by
 intro j hj
 rcases Nat.lt_or_ge j k with h1|h1
 ·exact h j h1
 ·obtain rfl:j=k:=by omega
  exact hk
end Go.Proofs.YthmdjhlhodpbhaaGreatDoor
namespace Go.Proofs.YthmdjhlhodpbhaaGreatDoor
structure dx where
 type:Int
 id:Int
 ofs:Int
 code:Int
 bytes:List Int
def bI(b:List Int):Nat->Option (List Int×Nat)
 |0=>some ([],1)
 |k+1=>match bI b k with
  |none=>none
  |some (ns,a)=>if gsz (b.drop a)=0 then none else some (ns++[ec (b.drop a)],a+(gsz (b.drop a)).toNat)
def dj(t:Int):Option Nat:=if t=0\/t=1 then some 0 else if t=3\/t=4 then some 3 else if t=5 then some 2 else if t=6\/t=7 then some 1 else none
def bR(b:List Int):Option (dx×Nat):=
 match dj (b.getD 0 0) with
 |none=>none
 |some c=>match c,bI b c with
  |_,none=>none
  |0,some (_,a)=>some (⟨b.getD 0 0,0,0,0,[]⟩,a)
  |1,some (ns,a)=>some (⟨b.getD 0 0,0,0,ns.getD 0 0,[]⟩,a)
  |2,some (ns,a)=>some (⟨b.getD 0 0,ns.getD 0 0,ns.getD 1 0,0,[]⟩,a)
  |_,some (ns,a)=>if(b.length:Int)<a+ns.getD 2 0 then none else some (⟨b.getD 0 0,ns.getD 0 0,ns.getD 1 0,0,(b.drop a).take (ns.getD 2 0).toNat⟩,a+(ns.getD 2 0).toNat)
structure aR where
 bytes:List Int
 read:Int
 highest:Int
 credit:Int
 final:Int
 reset:Bool
 done:Bool
structure aw where
 cid:Int
 addr:Int
 proven:Bool
 got:Int
 sent:Int
 heard:Int
 mark:Int
 runs:List (Int×Int)
 credit:Int
 streams:List aR
 waits:Int
structure ay where
 c:Cfg
 now:Int
 conns:List aw
 last:Int
def ei(l:List aw)(cid:Int):Option Nat:=l.findIdx? fun c=>c.cid==cid
def dW(c:Cfg):Int:=64+c.c1+32*c.c3
def mL(s:ay):Int:=s.conns.length*dW s.c
def unpS(l:List aw):Int:=(l.countP fun c=>!c.proven:Nat)
def cV(l:List aR):Int:=(l.map (·.highest)).sum
def bC(l:List Int):Nat:=(l.takeWhile fun x=>decide (0<=x)).length
def wC(s:aR):Bool:=decide (0<=s.final)&&decide (s.final<=s.read+bC s.bytes)
def dJ(l:List Int)(p:Nat):List Int:=l++List.replicate (p+1-l.length) (-1)
def me(l:List Int)(p:Nat)(x:Int):Option (List Int):=
 if decide (0<=(dJ l p).getD p (-1))&&decide ((dJ l p).getD p (-1)≠x) then none else some ((dJ l p).set p x)
def eg(l:List Int)(d:Int)(b:List Int):Nat->Option (List Int)
 |0=>some l
 |k+1=>(eg l d b k).bind fun m=>if d+k<0 then some m else me m (d+k).toNat (b.getD k 0)
def lu(l:List Int)(k:Nat):Bool:=decide (0<=l.getD k (-1))&&(decide (k=0) || decide (l.getD (k-1) (-1)<0))
def dS(l:List Int):Nat->Int
 |0=>0
 |k+1=>dS l k+if lu l k then 1 else 0
def dt(gaps:Int)(s:aR)(ofs:Int)(b:List Int):Int×aR:=
 match eg s.bytes (ofs-s.read) b b.length with
 |none=>(9,s)
 |some l=>if gaps<dS l l.length then(8,s) else(0,{s with bytes:=l})
def kY(t:List Int):Int:=t.getD 1 0+256*t.getD 2 0+65536*t.getD 3 0+16777216*t.getD 4 0
def kK(c:Cfg)(now addr:Int)(t:List Int):Bool:=decide (t.length=9)&&decide (bF c.c9 addr (kY t)=t)&&decide (now<=kY t)
structure mh where
 all:List (Int×Int)
 lo:Int
 hi:Int
 inn:Bool
def cT(n:Int)(st:mh)(r:Int×Int):Option mh:=
 if r.1<=n/\n<=r.2 then none
 else if r.2=n-1 then some {st with lo:=r.1}
 else if r.1=n+1 then some {st with hi:=r.2}
 else if n<r.1/\st.inn=false then some {st with all:=st.all++[(st.lo,st.hi)]++[r],inn:=true}
 else some {st with all:=st.all++[r]}
def iw(n:Int)(rs:List (Int×Int)):Nat->Option mh
 |0=>some ⟨[],n,n,false⟩
 |k+1=>(iw n rs k).bind fun st=>cT n st (rs.getD k (0,0))
def kz(st:mh):List (Int×Int):=if st.inn then st.all else st.all++[(st.lo,st.hi)]
def jS(n lo hi:Int)(r:Int×Int):Int×Int:=if r.1<=n/\n<=r.2 then(lo,hi) else r
def jT(mark:Int)(rs:List (Int×Int))(n:Int):Option (Int×List (Int×Int)):=
 if n<mark then none else
 (iw n rs rs.length).map fun st=>
  let l:=(kz st).map (jS n st.lo st.hi)
  if 4<l.length then((l.getD 0 (0,0)).2+1,l.drop 1) else(mark,l)
def eh(l:List aw)(k:Nat):Int:=((l[k]?).map aw.waits).getD 0
def lp(l:List aw):Nat->Option Nat
 |0=>none
 |k+1=>match lp l k with
  |none=>if 0<eh l k then some k else none
  |some j=>if 0<eh l k/\eh l k<eh l j then some k else some j
def aU(piece:Int):aR:=⟨[],0,0,piece,-1,false,false⟩
def lD(piece:Int)(l:List aR)(n:Nat):List aR:=l++List.replicate (n-l.length) (aU piece)
def cg(cid:Int)(f:List Int):List Int:=[4]++az cid++f
def fH(c:aw)(n:Int):Bool:=c.proven || decide (c.sent+n<=3*c.got)
structure ku(x:aR):Prop where
 bytes:x.bytes.length<=1073741823
 read:0<=x.read/\x.read<=1073741823
 highest:0<=x.highest/\x.highest<=1073741823
 credit:0<=x.credit/\x.credit<=1073741823
 final:-1<=x.final/\x.final<=1073741823
structure ConOk(M:Int)(c:aw):Prop where
 cid:0<=c.cid/\c.cid<=1073741823
 addr:0<=c.addr/\c.addr<256
 got:0<=c.got/\c.got<=M
 sent:0<=c.sent/\c.sent<=M
 heard:0<=c.heard/\c.heard<=1000000000
 runs:c.runs.length<=4/\∀r∈c.runs,0<=r.1/\r.1<=r.2/\r.2<=1073741823
 credit:0<=c.credit/\c.credit<=1073741823
 slen:0<c.streams.length/\c.streams.length<=1073741823
 str:∀x∈c.streams,ku x
def bt(c:aw)(f:List Int):aw:=if fH c (cg c.cid f).length then {c with sent:=c.sent+(cg c.cid f).length} else c
def ca(c:aw)(f:List Int)(outs:List (Int×List Int)):List (Int×List Int):=if fH c (cg c.cid f).length then outs++[(c.addr,cg c.cid f)] else outs
def bj(g:Cfg)(c:aw):List Int:=[20]++az (ef g.c9 c.addr c.cid)++az g.c1++az g.c2++az g.c3
structure bM(g:Cfg):Prop where
 c0:1<=g.c0/\g.c0<=8
 c1:8<=g.c1/\g.c1<=4096
 c2:8<=g.c2/\g.c2<=g.c1
 c3:1<=g.c3/\g.c3<=8
 c4:1<=g.c4/\g.c4<=8
 c5:0<=g.c5/\g.c5<=8
 c6:1<=g.c6/\g.c6<=1000
 c7:1<=g.c7/\g.c7<=1000
 c8:0<=g.c8/\g.c8<=100000
 c9:0<=g.c9/\g.c9<4294967296
def tr(s:ay)(i:Nat)(c:aw)(p:Int):Int×ay:=
 if p≠ef s.c.c9 c.addr c.cid then(10,s) else if c.proven then(0,s) else(0,{s with last:=s.last+1,conns:=s.conns.set i {c with proven:=true,waits:=s.last+1}})
def lI(x:aR)(e:Int)(ends:Bool):Bool:=decide (0<=x.final)&&(decide (x.final<e) || ends&&decide (e≠x.final)) || !x.done&&ends&&decide (e<x.highest)
def fW(x:aR)(e:Int):Int:=if x.highest<e then e-x.highest else 0
def gY(x:aR)(e credit high:Int):Bool:=decide (x.credit<e) || decide (credit<high+fW x e)
def fB(f:dx)(x r:aR):aR:=
 let e:=f.ofs+f.bytes.length
 let y:aR:={r with highest:=x.highest+fW x e,final:=if f.type≠3 then e else r.final}
 if f.type=5/\wC y=false then {y with reset:=true,bytes:=[]} else y
def bf(gaps credit high:Int)(f:dx)(x:aR):Int×aR:=
 let e:=f.ofs+f.bytes.length
 if lI x e (decide (f.type≠3)) then(6,x) else if x.done then(0,x) else if gY x e credit high then(3,x) else
 if f.type≠5/\x.reset=false then
  if(dt gaps x f.ofs f.bytes).1≠0 then((dt gaps x f.ofs f.bytes).1,x) else(0,fB f x (dt gaps x f.ofs f.bytes).2)
 else(0,fB f x x)
def bG(gaps:Int)(f:dx)(c:aw):Int×aw:=
 match c.streams[f.id.toNat]? with
 |none=>(4,c)
 |some x=>((bf gaps c.credit (cV c.streams) f x).1,{c with streams:=c.streams.set f.id.toNat (bf gaps c.credit (cV c.streams) f x).2})
structure oT(f:dx):Prop where
 type:f.type=0\/f.type=1\/f.type=3\/f.type=4\/f.type=5\/f.type=6\/f.type=7
 id:0<=f.id/\f.id<=1073741823
 ofs:0<=f.ofs/\f.ofs<=1073741823
structure DealR where
 code:Int
 srv:ay
 gone:Bool
def dH(s:ay)(i:Nat)(c:aw)(f:dx):DealR:=
 if f.type=0\/f.type=1 then⟨0,s,false⟩
 else if f.type=6 then⟨0,{s with conns:=s.conns.eraseIdx i},true⟩
 else if f.type=7 then⟨(tr s i c f.code).1,(tr s i c f.code).2,false⟩
 else⟨(bG s.c.c4 f c).1,{s with conns:=s.conns.set i (bG s.c.c4 f c).2},false⟩
def cG(s:ay)(i:Nat)(b:List Int)(outs:List (Int×List Int)):Nat->ay×List (Int×List Int)
 |0=>(s,outs)
 |n+1=>if b=[] then(s,outs) else
  match s.conns[i]? with
  |none=>(s,outs)
  |some c=>match bR b with
   |none=>({s with conns:=s.conns.eraseIdx i},ca c ([19]++az 7) outs)
   |some (f,size)=>
    if(dH s i c f).code≠0 then({s with conns:=s.conns.eraseIdx i},ca c ([19]++az (dH s i c f).code) outs)
    else if(dH s i c f).gone then((dH s i c f).srv,outs)
    else cG (dH s i c f).srv i (b.drop size) outs n
def gh(s:ay)(i:Nat)(c:aw)(addr size:Int)(outs:List (Int×List Int)):ay×List (Int×List Int):=
 if c.addr≠addr then(s,outs) else
 let c1:aw:={c with got:=c.got+size,heard:=s.now}
 if c.proven then({s with conns:=s.conns.set i c1},outs) else({s with conns:=s.conns.set i (bt c1 (bj s.c c1))},ca c1 (bj s.c c1) outs)
def kT(s:ay)(addr cid:Int):List Int:=[3]++az cid++az 9++bF s.c.c9 addr (s.now+s.c.c7)
def kU(s:ay)(addr cid size:Int)(outs:List (Int×List Int)):List (Int×List Int):=if((kT s addr cid).length:Int)<=3*size then outs++[(addr,kT s addr cid)] else outs
def cK(g:Cfg):ay:=⟨g,0,[],0⟩
def Cfg.right(g:Cfg):Bool:=gT g.c0 g.c1 g.c2 g.c3 g.c4 g.c5 g.c6 g.c7 g.c8 g.c9
def bW(s:ay):Int×Int×ay:=
 match lp s.conns s.conns.length with
 |none=>(0,4,s)
 |some j=>match s.conns[j]? with
  |none=>(0,4,s)
  |some c=>(c.cid,0,{s with conns:=s.conns.set j {c with waits:=0}})
def fz(s:ay):Bool:=decide (s.c.c0<=(s.conns.length:Int)) || decide (s.c.c8<mL s+dW s.c)
def fo(cid addr:Int)(ok:Bool)(size now window:Int):aw:=⟨cid,addr,ok,size,0,now,0,[],window,[],0⟩
def bA(s:ay)(cid addr size:Int)(ok:Bool):aw:={fo cid addr ok size s.now s.c.c1 with streams:=lD s.c.c2 [] s.c.c3.toNat}
def lF(s:ay)(cid addr size:Int)(b:List Int)(N:Nat)(outs:List (Int×List Int)):ay×List (Int×List Int):=
 let c:=bA s cid addr size false
 cG {s with conns:=(s.conns++[c]).set s.conns.length (bt c (bj s.c c))} s.conns.length b (ca c (bj s.c c) outs) N
def oe(n:Int)(c:aw):aw:={c with proven:=true,waits:=n}
def pO(s:ay)(i:Nat)(c:aw):ay:={s with last:=s.last+1,conns:=s.conns.set i (oe (s.last+1) c)}
def kQ(s:ay)(cid addr size:Int)(b:List Int)(N:Nat)(outs:List (Int×List Int)):ay×List (Int×List Int):=
 let c:=bA s cid addr size true
 cG (pO {s with conns:=(s.conns++[c]).set s.conns.length (bt c (bj s.c c))} s.conns.length (bt c (bj s.c c))) s.conns.length b (ca c (bj s.c c) outs) N
def dy(c:aw)(n:Int):Option aw:=(jT c.mark c.runs n).map fun r=>{c with mark:=r.1,runs:=r.2}
def fM(s:ay)(addr cid size:Int)(tok b:List Int)(N:Nat)(outs:List (Int×List Int)):ay×List (Int×List Int):=
 match ei s.conns cid with
 |some k=>match s.conns[k]? with
  |some c=>gh s k c addr size outs
  |none=>(s,outs)
 |none=>
  if 0<tok.length then
   if kK s.c s.now addr tok then if fz s then(s,outs) else kQ s cid addr size b N outs else(s,outs)
  else if s.c.c5<=unpS s.conns then(s,kU s addr cid size outs)
  else if fz s then(s,outs) else lF s cid addr size b N outs
end Go.Proofs.YthmdjhlhodpbhaaGreatDoor
namespace Go.Proofs.YthmdjhlhodpbhaaGreatDoor
open Go.RowKit
theorem ny(l:List Int):0<=gsz l/\gsz l<=4/\gsz l<=l.length:=by
 unfold gsz
 split
 ·omega
 ·split
  ·omega
  ·unfold eD at *
   repeat' split
   all_goals (repeat' split at *)
   all_goals omega
theorem jW{l:List Int}(hl:Bytes l):0<=ec l/\ec l<1073741824:=by
 unfold ec
 split
 ·omega
 ·have h:=ow hl
  have g:=ny l
  have:(gsz l).toNat=1\/(gsz l).toNat=2\/(gsz l).toNat=3\/(gsz l).toNat=4:=by omega
  rcases this with e|e|e|e<;>rw[e]<;>omega
theorem Bytes.drop{l:List Int}(h:Bytes l)(n:Nat):Bytes (l.drop n):=fun x hx=>h x (List.mem_of_mem_drop hx)
theorem Bytes.take{l:List Int}(h:Bytes l)(n:Nat):Bytes (l.take n):=fun x hx=>h x (List.mem_of_mem_take hx)
theorem j7{b:List Int}(hb:Bytes b)(hp:0<b.length):∀(k:Nat) {ns:List Int} {a:Nat},bI b k=some (ns,a)->ns.length=k/\1<=a/\a<=b.length/\∀n∈ns,0<=n/\n<1073741824
 |0,ns,a,h=>by
  simp only[bI,Option.some.injEq,Prod.mk.injEq]at h
  obtain⟨rfl,rfl⟩:=h
  exact⟨rfl,Nat.le_refl _,hp,fun n hn=>by cases hn⟩
 |k+1,ns,a,h=>by
  simp only[bI]at h
  cases hk:bI b k with
  |none=>rw[hk]at h;cases h
  |some x=>
   obtain⟨ns',a'⟩:=x
   rw[hk]at h
   simp only at h
   split at h
   ·cases h
   ·simp only[Option.some.injEq,Prod.mk.injEq]at h
    obtain⟨rfl,rfl⟩:=h
    obtain⟨h1,h2,h3,h4⟩:=j7 hb hp k hk
    have g:=ny (b.drop a')
    have gl:(b.drop a').length=b.length-a':=by simp
    refine⟨by simp[h1],by omega,by omega,fun n hn=>?_⟩
    rcases List.mem_append.1 hn with hn|hn
    ·exact h4 n hn
    ·rw[List.mem_singleton.1 hn]
     exact jW (hb.drop a')
end Go.Proofs.YthmdjhlhodpbhaaGreatDoor
namespace Go.Proofs.YthmdjhlhodpbhaaGreatDoor
structure Rd where
 rest:List Int
 bad:Bool
def Rd.num(r:Rd):Int×Rd:=(ec r.rest,⟨r.rest.drop (gsz r.rest).toNat,r.bad ||(gsz r.rest==0)⟩)
def Rd.byt(r:Rd)(c:Int):List Int×Rd:=if r.bad=true\/(r.rest.length:Int)<c then([],⟨r.rest,true⟩) else(r.rest.take c.toNat,⟨r.rest.drop c.toNat,false⟩)
def Rd.kind(r:Rd):Int×Rd:=if(r.byt 1).2.bad=true then(0,(r.byt 1).2) else((r.byt 1).1.getD 0 0,(r.byt 1).2)
def Rd.fail(r:Rd):Rd:=⟨r.rest,true⟩
structure FrmP where
 type:Int
 id:Int
 ofs:Int
 bytes:List Int
 en:Int
 proof:Int
def kH(b:List Int):FrmP×Rd:=
 let r0:=Rd.kind ⟨b,false⟩
 let t:=r0.1
 if t=0\/t=1 then(⟨t,0,0,[],0,0⟩,r0.2)
 else if t=3\/t=4 then
  let r1:=r0.2.num
  let r2:=r1.2.num
  let r3:=r2.2.num
  let r4:=r3.2.byt r3.1
  (⟨t,r1.1,r2.1,r4.1,r2.1+r4.1.length,0⟩,r4.2)
 else if t=5 then
  let r1:=r0.2.num
  let r2:=r1.2.num
  (⟨t,r1.1,0,[],r2.1,0⟩,r2.2)
 else if t=6 then(⟨t,0,0,[],0,0⟩,r0.2.num.2)
 else if t=7 then(⟨t,0,0,[],0,r0.2.num.1⟩,r0.2.num.2)
 else(⟨t,0,0,[],0,0⟩,r0.2.fail)
def ly(f:dx):FrmP:=
 if f.type=7 then⟨7,0,0,[],0,f.code⟩ else if f.type=6 then⟨6,0,0,[],0,0⟩ else if f.type=5 then⟨5,f.id,0,[],f.ofs,0⟩
 else if f.type=3\/f.type=4 then⟨f.type,f.id,f.ofs,f.bytes,f.ofs+f.bytes.length,0⟩ else⟨f.type,0,0,[],0,0⟩
theorem jz{b:List Int}(hp:0<b.length):Rd.kind ⟨b,false⟩=(b.getD 0 0,⟨b.drop 1,false⟩):=by
 have h:Rd.byt ⟨b,false⟩ 1=(b.take 1,⟨b.drop 1,false⟩):=by
  unfold Rd.byt
  rw[if_neg (by simp;omega)]
  rfl
 unfold Rd.kind
 rw[h]
 cases b with
 |nil=>simp at hp
 |cons a t=>rfl
theorem ls(r:Rd)(h:r.bad=true):r.num.2.bad=true:=by simp[Rd.num,h]
theorem mo(r:Rd)(c:Int)(h:r.bad=true):(r.byt c).2.bad=true:=by unfold Rd.byt;rw[if_pos (Or.inl h)]
theorem eX{b:List Int}{bad:Bool}(h:gsz b=0):(Rd.num ⟨b,bad⟩).2.bad=true:=by simp[Rd.num,h]
theorem eY{b:List Int}(h:¬gsz b=0):Rd.num ⟨b,false⟩=(ec b,⟨b.drop (gsz b).toNat,false⟩):=by simp[Rd.num,h]
theorem fS(b:List Int)(a k:Nat):(b.drop a).drop k=b.drop (a+k):=by rw[List.drop_drop]
theorem frameR_is{b:List Int}(hb:Bytes b)(hp:0<b.length):
  (bR b=none/\(kH b).2.bad=true)\/(∃f size,bR b=some (f,size)/\kH b=(ly f,⟨b.drop size,false⟩)/\f.type=b.getD 0 0):=by
 unfold kH
 rw[jz hp]
 simp only
 generalize ht:b.getD 0 0=t
 by_cases h01:t=0\/t=1
 ·right
  refine⟨⟨t,0,0,0,[]⟩,1,?_,?_,rfl⟩
  ·unfold bR
   rw[ht]
   rcases h01 with rfl|rfl<;>simp[dj,bI]
  ·rw[if_pos h01]
   rcases h01 with rfl|rfl<;>rfl
 rw[if_neg h01]
 have hn1:bI b 1=if gsz (b.drop 1)=0 then none else some ([ec (b.drop 1)],1+(gsz (b.drop 1)).toNat):=by simp[bI]
 by_cases h34:t=3\/t=4
 ·have hc:dj t=some 3:=by rcases h34 with rfl|rfl<;>rfl
  have hfS:bR b=match bI b 3 with
    |none=>none
    |some (ns,a)=>if(b.length:Int)<a+ns.getD 2 0 then none else some (⟨t,ns.getD 0 0,ns.getD 1 0,0,(b.drop a).take (ns.getD 2 0).toNat⟩,a+(ns.getD 2 0).toNat):=by
   unfold bR
   rw[ht,hc]
   simp only
   cases bI b 3 with
   |none=>rfl
   |some x=>rfl
  rw[if_pos h34]
  by_cases g1:gsz (b.drop 1)=0
  ·left
   refine⟨?_,mo _ _ (ls _ (ls _ (eX g1)))⟩
   have:bI b 3=none:=by
    rw[if_pos g1]at hn1
    conv=>lhs;unfold bI;unfold bI
    rw[hn1]
   rw[hfS,this]
  ·rw[eY g1,fS]
   simp only
   generalize hv1:ec (b.drop 1)=v1 at *
   generalize ha1:1+(gsz (b.drop 1)).toNat=a1 at *
   have hn1':bI b 1=some ([v1],a1):=by rw[hn1,if_neg g1]
   have hn2:bI b 2=if gsz (b.drop a1)=0 then none else some ([v1,ec (b.drop a1)],a1+(gsz (b.drop a1)).toNat):=by
    conv=>lhs;unfold bI
    rw[hn1']
    rfl
   by_cases g2:gsz (b.drop a1)=0
   ·left
    refine⟨?_,mo _ _ (ls _ (eX g2))⟩
    rw[if_pos g2]at hn2
    have:bI b 3=none:=by
     conv=>lhs;unfold bI
     rw[hn2]
    rw[hfS,this]
   ·rw[eY g2,fS]
    simp only
    rw[if_neg g2]at hn2
    generalize hv2:ec (b.drop a1)=v2 at *
    generalize ha2:a1+(gsz (b.drop a1)).toNat=a2 at *
    have hn3:bI b 3=if gsz (b.drop a2)=0 then none else some ([v1,v2,ec (b.drop a2)],a2+(gsz (b.drop a2)).toNat):=by
     conv=>lhs;unfold bI
     rw[hn2]
     rfl
    by_cases g3:gsz (b.drop a2)=0
    ·left
     refine⟨?_,mo _ _ (eX g3)⟩
     rw[hfS,hn3,if_pos g3]
    ·have hv3:=jW (hb.drop a2)
     rw[eY g3,fS]
     simp only
     rw[if_neg g3]at hn3
     have hf3:=j7 hb hp 3 hn3
     generalize ec (b.drop a2)=v3 at *
     generalize a2+(gsz (b.drop a2)).toNat=a3 at *
     rw[hfS,hn3]
     simp only[List.getD_cons_zero,List.getD_cons_succ]
     have hl3:((b.drop a3).length:Int)=b.length-a3:=by simp;omega
     by_cases hs:(b.length:Int)<a3+v3
     ·left
      rw[if_pos hs]
      refine⟨rfl,?_⟩
      unfold Rd.byt
      rw[if_pos (Or.inr (by simp only;omega))]
     ·right
      rw[if_neg hs]
      refine⟨_,_,rfl,?_,rfl⟩
      have hbt:Rd.byt ⟨b.drop a3,false⟩ v3=((b.drop a3).take v3.toNat,⟨(b.drop a3).drop v3.toNat,false⟩):=by
       unfold Rd.byt
       rw[if_neg (fun h=>h.elim (by simp) (fun h=>by simp only at h;omega))]
      rw[hbt,fS]
      unfold ly
      simp only
      rw[if_neg (by omega),if_neg (by omega),if_neg (by omega),if_pos h34]
 rw[if_neg h34]
 by_cases h5:t=5
 ·subst h5
  rw[if_pos rfl]
  have hfS:bR b=match bI b 2 with
    |none=>none
    |some (ns,a)=>some (⟨5,ns.getD 0 0,ns.getD 1 0,0,[]⟩,a):=by
   unfold bR
   rw[ht]
   have:dj 5=some 2:=rfl
   rw[this]
   simp only
   cases bI b 2 with
   |none=>rfl
   |some x=>rfl
  by_cases g1:gsz (b.drop 1)=0
  ·left
   refine⟨?_,ls _ (eX g1)⟩
   have:bI b 2=none:=by
    rw[if_pos g1]at hn1
    conv=>lhs;unfold bI
    rw[hn1]
   rw[hfS,this]
  ·rw[eY g1,fS]
   simp only
   rw[if_neg g1]at hn1
   generalize ec (b.drop 1)=v1 at *
   generalize 1+(gsz (b.drop 1)).toNat=a1 at *
   have hn2:bI b 2=if gsz (b.drop a1)=0 then none else some ([v1,ec (b.drop a1)],a1+(gsz (b.drop a1)).toNat):=by
    conv=>lhs;unfold bI
    rw[hn1]
    rfl
   by_cases g2:gsz (b.drop a1)=0
   ·left
    refine⟨?_,eX g2⟩
    rw[hfS,hn2,if_pos g2]
   ·right
    rw[eY g2,fS]
    rw[hfS,hn2,if_neg g2]
    exact⟨_,_,rfl,rfl,rfl⟩
 rw[if_neg h5]
 by_cases h6:t=6
 ·subst h6
  rw[if_pos rfl]
  have hfS:bR b=match bI b 1 with
    |none=>none
    |some (ns,a)=>some (⟨6,0,0,ns.getD 0 0,[]⟩,a):=by
   unfold bR
   rw[ht]
   have:dj 6=some 1:=rfl
   rw[this]
   simp only
   cases bI b 1 with
   |none=>rfl
   |some x=>rfl
  by_cases g1:gsz (b.drop 1)=0
  ·left
   refine⟨?_,eX g1⟩
   rw[hfS,hn1,if_pos g1]
  ·right
   rw[eY g1,fS,hfS,hn1,if_neg g1]
   exact⟨_,_,rfl,rfl,rfl⟩
 rw[if_neg h6]
 by_cases h7:t=7
 ·subst h7
  rw[if_pos rfl]
  have hfS:bR b=match bI b 1 with
    |none=>none
    |some (ns,a)=>some (⟨7,0,0,ns.getD 0 0,[]⟩,a):=by
   unfold bR
   rw[ht]
   have:dj 7=some 1:=rfl
   rw[this]
   simp only
   cases bI b 1 with
   |none=>rfl
   |some x=>rfl
  by_cases g1:gsz (b.drop 1)=0
  ·left
   refine⟨?_,eX g1⟩
   rw[hfS,hn1,if_pos g1]
  ·right
   rw[eY g1,fS,hfS,hn1,if_neg g1]
   exact⟨_,_,rfl,rfl,rfl⟩
 rw[if_neg h7]
 left
 refine⟨?_,rfl⟩
 unfold bR
 rw[ht]
 have:dj t=none:=by
  unfold dj
  rw[if_neg h01,if_neg h34,if_neg h5,if_neg (by omega)]
 rw[this]
structure DgS where
 kind:Int
 cid:Int
 tok:List Int
 num:Int
 frames:List Int
def fK(b:List Int):Option DgS:=
 if b=[] then none else
 let r1:=b.drop 1
 if gsz r1=0 then none else
 let r2:=r1.drop (gsz r1).toNat
 if gsz r2=0 then none else
 let r3:=r2.drop (gsz r2).toNat
 if b.getD 0 0=1 then if(r3.length:Int)<ec r2 then none else some ⟨1,ec r1,r3.take (ec r2).toNat,0,r3.drop (ec r2).toNat⟩
 else if b.getD 0 0=2 then some ⟨2,ec r1,[],ec r2,r3⟩ else none
def jf(b:List Int):DgS×Rd:=
 let r0:=Rd.kind ⟨b,false⟩
 let t:=r0.1
 if t=1 then
  let r1:=r0.2.num
  let r2:=r1.2.num
  let r3:=r2.2.byt r2.1
  (⟨t,r1.1,r3.1,0,r3.2.rest⟩,r3.2)
 else if t=2 then
  let r1:=r0.2.num
  let r2:=r1.2.num
  (⟨t,r1.1,[],r2.1,r2.2.rest⟩,r2.2)
 else(⟨t,0,[],0,r0.2.rest⟩,r0.2.fail)
theorem dgramR_is{b:List Int}:(fK b=none/\(jf b).2.bad=true)\/(∃d,fK b=some d/\(jf b).1=d/\(jf b).2.bad=false):=by
 by_cases h0:b=[]
 ·left
  subst h0
  have hk:Rd.kind ⟨[],false⟩=(0,⟨[],true⟩):=by simp[Rd.kind,Rd.byt]
  refine⟨by simp[fK],?_⟩
  unfold jf
  rw[hk]
  rfl
 ·have hp:0<b.length:=List.length_pos_iff.2 h0
  unfold jf fK
  rw[jz hp,if_neg h0]
  simp only
  by_cases t1:b.getD 0 0=1
  ·rw[if_pos t1,if_pos t1]
   by_cases g1:gsz (b.drop 1)=0
   ·left
    rw[if_pos g1]
    exact⟨rfl,mo _ _ (ls _ (eX g1))⟩
   ·rw[if_neg g1,eY g1]
    simp only
    by_cases g2:gsz ((b.drop 1).drop (gsz (b.drop 1)).toNat)=0
    ·left
     rw[if_pos g2]
     exact⟨rfl,mo _ _ (eX g2)⟩
    ·rw[if_neg g2,eY g2]
     simp only
     generalize ec ((b.drop 1).drop (gsz (b.drop 1)).toNat)=n
     generalize ((b.drop 1).drop (gsz (b.drop 1)).toNat).drop (gsz ((b.drop 1).drop (gsz (b.drop 1)).toNat)).toNat=r3
     unfold Rd.byt
     by_cases hs:(r3.length:Int)<n
     ·left
      rw[if_pos hs,if_pos (Or.inr hs)]
      exact⟨rfl,rfl⟩
     ·right
      rw[if_neg hs,if_neg (by simp;omega)]
      exact⟨_,rfl,by rw[t1],rfl⟩
  ·rw[if_neg t1,if_neg t1]
   by_cases t2:b.getD 0 0=2
   ·rw[if_pos t2,if_pos t2]
    by_cases g1:gsz (b.drop 1)=0
    ·left
     rw[if_pos g1]
     exact⟨rfl,ls _ (eX g1)⟩
    ·rw[if_neg g1,eY g1]
     simp only
     by_cases g2:gsz ((b.drop 1).drop (gsz (b.drop 1)).toNat)=0
     ·left
      rw[if_pos g2]
      exact⟨rfl,eX g2⟩
     ·right
      rw[if_neg g2,eY g2]
      exact⟨_,rfl,by rw[t2],rfl⟩
   ·left
    rw[if_neg t2,if_neg t2]
    refine⟨?_,rfl⟩
    split<;>first|rfl |(split<;>rfl)
end Go.Proofs.YthmdjhlhodpbhaaGreatDoor
