import Derived.Deep.CutBlock
import Derived.Test.YthmdjhlhodpbhaaGreatDoorM08
set_option maxHeartbeats 16000000
set_option maxRecDepth 8000
set_option linter.all false
namespace Go.Proofs.YthmdjhlhodpbhaaGreatDoor
open Go.RowKit Go.Extern Go.Extern.Stop Go.Stop
open Go.World renaming cell?_alloc_lt → aj, frozen?_alloc_old → al, cell? → aD, size_alloc → az, cell?_alloc_at → dW
open _root_.Array renaming getElem?_eq_some_iff → bn, getElem?_eq_none → am
open _root_.Nat renaming le_refl → ar, lt_or_ge → ay
open Go.Instr renaming slice → dI, sliceBounds → dU, sliceBound → dV
open Go.IntKind renaming wrap_i64 → dq
open _root_.Go renaming frozen_of_row → cx, Value → aM, World → aK, heap_alloc_new → cA, Calls → aL, rounds_succ → aR, bodyPost_ret → cz, undef → dX, run_underlying → dM
open _root_.Go.Proofs.Tryz
open _root_.Go.Proofs.Tryz renaming prog → ab
open Go.Value renaming slice → ai, pointer → ag
attribute [local simp] CV CI Bw mc lq io
variable {w b W:World}{a k d i:Nat}{e v q h bv:Value}{l:List Int}{c:Int}{z y8:TypeId}{D x7:Array Value}{L F:Nat->Prop}{x:gs}{y5:Program}{y3 u1:Addr}
set_option maxRecDepth 20000 in
theorem EZ(h:CV b 0 0 (E_))(f:CV b a 1 (.iface 155 (Pt d)))(g:CV b d 1 (Fc y3))(j:b.cell? u1=some (ag none))(n:b.frozen? u1=false):
  aL ab 87 #[.iface 155 (Pt a),.iface 160 (ag (some u1))] b fun l s=>l=.returned (.bool true)/\Below u1.block b s:=by
 have H:=@run_callFunc_extern ab 138 _ (fun k=>ReflectliteValue.unpack (k.getD 0 (.tuple #[]))) func138 (by kernel_rfl) (by kernel_rfl) (by kernel_rfl) (by kernel_rfl);have I:=@run_callFunc_extern ab 139 _ (ReflectliteValue.methodAny (ReflectliteValue.valueError "reflectlite.Value.Type" 0) (fun u1 _ _ _=>ReflectliteType.toType u1)) func139 (by kernel_rfl) (by kernel_rfl) (by kernel_rfl) (by kernel_rfl);have J:=@run_callFunc_extern ab 140 _ (ReflectliteValue.method (ReflectliteValue.valueError "reflectlite.Value.IsNil" 0) ReflectliteValue.isNil) func140 (by kernel_rfl) (by kernel_rfl) (by kernel_rfl) (by kernel_rfl);have C:=@run_callFunc_extern ab 261 _ (ReflectliteType.abiMethod fun u1=>do pure (.int .u8 (<-Rtype.kind u1))) func261 (by kernel_rfl) (by kernel_rfl) (by kernel_rfl) (by kernel_rfl);have E:=@run_callFunc_extern ab 274 _ (ReflectliteType.method ReflectliteType.elem) func274 (by kernel_rfl) (by kernel_rfl) (by kernel_rfl) (by kernel_rfl);have G:=@run_callFunc_extern ab 275 _ (ReflectliteType.relation "Implements" ReflectliteType.implements_) func275 (by kernel_rfl) (by kernel_rfl) (by kernel_rfl) (by kernel_rfl);have z:=@run_callFunc_extern ab 170 _ ReflectliteType.typeOf func170 (by kernel_rfl) (by kernel_rfl) (by kernel_rfl) (by kernel_rfl);have D:=@run_callFunc_extern ab 272 _ (ReflectliteType.relation "AssignableTo" ReflectliteType.assignableTo) func272 (by kernel_rfl) (by kernel_rfl) (by kernel_rfl) (by kernel_rfl);have A:=@run_callFunc_extern ab 171 _ (ReflectliteValue.method (ReflectliteValue.valueError "reflectlite.Value.Elem" 0) ReflectliteValue.elem) func171 (by kernel_rfl) (by kernel_rfl) (by kernel_rfl) (by kernel_rfl);have B:=@run_callFunc_extern ab 172 _ ReflectliteValue.set func172 (by kernel_rfl) (by kernel_rfl) (by kernel_rfl) (by kernel_rfl);have X:=sQ;have V:=qo;have K:=oc;have Z:=ud;have a0:=ue;have R:=lX;have t:=pt;have u:=pu;have a1:=sI;have x:=uf;have y:=Cn;have U:=qk;have S:=qj;have T:=mJ;have Q:=v_;have P:=yE;have v:=vZ;have O:=qi;have W:=yD (gf b 0) u1 (HW b u1) (by simp);have q:0<b.heap.size:=by
  rcases ay 0 b.heap.size with c|c
  ·exact c
  ·simp[aD,am c]at h
 have N:(HW b u1).cell? (Ad 0 0)=some (E_):=by rw[aj _ _ (Ad 0 0) (by simp only[az];omega),aj _ _ (Ad 0 0) q];exact h
 have e:u1.block<b.heap.size:=by
  rcases ay u1.block b.heap.size with c|c
  ·exact c
  ·simp[aD,am c]at j
 have o:a<b.heap.size:=hK f;have L:(J4 b u1).cell? (Ad a 1)=some (.iface 155 (Pt d)):=by rw[aj _ _ (Ad a 1) (by simp;omega),aj _ _ (Ad a 1) (by simp;omega),aj _ _ (Ad a 1) o];exact f
 have p:d<b.heap.size:=hK g;have M:(J4 b u1).cell? (Ad d 1)=some (Fc y3):=by rw[aj _ _ (Ad d 1) (by simp;omega),aj _ _ (Ad d 1) (by simp;omega),aj _ _ (Ad d 1) p];exact g
 have w:=yC (gf b 0) u1 (J4 b u1) (by rw[aj _ _ (gf b 0) (by simp;omega)];simp);have Y:=GD (Ad (b.heap.size+1+1+1) 0) y3 (ag none) ((J4 b u1).alloc (.cells #[ag (some y3)] 158))
  (by rw[dW _ _ _ _ (by simp)];rfl)
  (by rw[aj _ _ u1 (by simp;omega),aj _ _ u1 (by simp;omega),aj _ _ u1 (by simp;omega),aj _ _ u1 e];exact j)
  (by rw[al _ _ u1 (by simp;omega),al _ _ u1 (by simp;omega),al _ _ u1 (by simp;omega),al _ _ u1 (Nat.ne_of_lt e)];exact n)
 go_enter func87,ntmps87;go_wp2;refine wp_loop_rounds 3 ?_;rw[aR];go_wp2;rw[aR];go_wp2;rw[aR];go_wp2;go_ret;refine⟨rfl,?_⟩;have m:u1.block<=b.heap.size:=Nat.le_of_lt e;exact((((((Below.refl u1.block b).alloc m _).alloc (by simp only[az];omega) _).alloc (by simp only[az];omega) _).alloc (by simp only[az];omega) _)).setCell (ar _) _
set_option maxRecDepth 20000 in
theorem E1{f:Nat}(k:CV b 0 0 (E_))(g:CV b a 1 (.iface 155 (Pt d)))(h:CV b d 1 (.iface 155 (Pt f)))(j:CV b f 1 (Fc y3))(l:b.cell? u1=some (ag none))(p:b.frozen? u1=false):
  aL ab 87 #[.iface 155 (Pt a),.iface 160 (ag (some u1))] b fun n v=>n=.returned (.bool true)/\Below u1.block b v:=by
 have K:=@run_callFunc_extern ab 138 _ (fun m=>ReflectliteValue.unpack (m.getD 0 (.tuple #[]))) func138 (by kernel_rfl) (by kernel_rfl) (by kernel_rfl) (by kernel_rfl);have L:=@run_callFunc_extern ab 139 _ (ReflectliteValue.methodAny (ReflectliteValue.valueError "reflectlite.Value.Type" 0) (fun u1 _ _ _=>ReflectliteType.toType u1)) func139 (by kernel_rfl) (by kernel_rfl) (by kernel_rfl) (by kernel_rfl);have M:=@run_callFunc_extern ab 140 _ (ReflectliteValue.method (ReflectliteValue.valueError "reflectlite.Value.IsNil" 0) ReflectliteValue.isNil) func140 (by kernel_rfl) (by kernel_rfl) (by kernel_rfl) (by kernel_rfl);have G:=@run_callFunc_extern ab 261 _ (ReflectliteType.abiMethod fun u1=>do pure (.int .u8 (<-Rtype.kind u1))) func261 (by kernel_rfl) (by kernel_rfl) (by kernel_rfl) (by kernel_rfl);have I:=@run_callFunc_extern ab 274 _ (ReflectliteType.method ReflectliteType.elem) func274 (by kernel_rfl) (by kernel_rfl) (by kernel_rfl) (by kernel_rfl);have J:=@run_callFunc_extern ab 275 _ (ReflectliteType.relation "Implements" ReflectliteType.implements_) func275 (by kernel_rfl) (by kernel_rfl) (by kernel_rfl) (by kernel_rfl);have C:=@run_callFunc_extern ab 170 _ ReflectliteType.typeOf func170 (by kernel_rfl) (by kernel_rfl) (by kernel_rfl) (by kernel_rfl);have H:=@run_callFunc_extern ab 272 _ (ReflectliteType.relation "AssignableTo" ReflectliteType.assignableTo) func272 (by kernel_rfl) (by kernel_rfl) (by kernel_rfl) (by kernel_rfl);have D:=@run_callFunc_extern ab 171 _ (ReflectliteValue.method (ReflectliteValue.valueError "reflectlite.Value.Elem" 0) ReflectliteValue.elem) func171 (by kernel_rfl) (by kernel_rfl) (by kernel_rfl) (by kernel_rfl);have E:=@run_callFunc_extern ab 172 _ ReflectliteValue.set func172 (by kernel_rfl) (by kernel_rfl) (by kernel_rfl) (by kernel_rfl);have a1:=sQ;have Z:=qo;have N:=oc;have a3:=ud;have a4:=ue;have V:=lX;have w:=pt;have x:=pu;have a5:=sI;have A:=uf;have B:=Cn;have Y:=qk;have W:=qj;have X:=mJ;have U:=v_;have T:=yE;have y:=vZ;have S:=qi;have a0:=yD (gf b 0) u1 (HW b u1) (by simp);have u:0<b.heap.size:=by
  rcases ay 0 b.heap.size with c|c
  ·exact c
  ·simp[aD,am c]at k
 have R:(HW b u1).cell? (Ad 0 0)=some (E_):=by rw[aj _ _ (Ad 0 0) (by simp only[az];omega),aj _ _ (Ad 0 0) u];exact k
 have e:u1.block<b.heap.size:=by
  rcases ay u1.block b.heap.size with c|c
  ·exact c
  ·simp[aD,am c]at l
 have q:a<b.heap.size:=hK g;have O:(J4 b u1).cell? (Ad a 1)=some (.iface 155 (Pt d)):=by rw[aj _ _ (Ad a 1) (by simp;omega),aj _ _ (Ad a 1) (by simp;omega),aj _ _ (Ad a 1) q];exact g
 have s:d<b.heap.size:=hK h;have P:(J4 b u1).cell? (Ad d 1)=some (.iface 155 (Pt f)):=by rw[aj _ _ (Ad d 1) (by simp;omega),aj _ _ (Ad d 1) (by simp;omega),aj _ _ (Ad d 1) s];exact h
 have t:f<b.heap.size:=hK j;have Q:(J4 b u1).cell? (Ad f 1)=some (Fc y3):=by rw[aj _ _ (Ad f 1) (by simp;omega),aj _ _ (Ad f 1) (by simp;omega),aj _ _ (Ad f 1) t];exact j
 have z:=yC (gf b 0) u1 (J4 b u1) (by rw[aj _ _ (gf b 0) (by simp;omega)];simp);have a2:=GD (Ad (b.heap.size+1+1+1) 0) y3 (ag none) ((J4 b u1).alloc (.cells #[ag (some y3)] 158))
  (by rw[dW _ _ _ _ (by simp)];rfl)
  (by rw[aj _ _ u1 (by simp;omega),aj _ _ u1 (by simp;omega),aj _ _ u1 (by simp;omega),aj _ _ u1 e];exact l)
  (by rw[al _ _ u1 (by simp;omega),al _ _ u1 (by simp;omega),al _ _ u1 (by simp;omega),al _ _ u1 (Nat.ne_of_lt e)];exact p)
 go_enter func87,ntmps87;go_wp2;refine wp_loop_rounds 4 ?_;rw[aR];go_wp2;rw[aR];go_wp2;rw[aR];go_wp2;rw[aR];go_wp2;go_ret;refine⟨rfl,?_⟩;have o:u1.block<=b.heap.size:=Nat.le_of_lt e;exact((((((Below.refl u1.block b).alloc o _).alloc (by simp only[az];omega) _).alloc (by simp only[az];omega) _).alloc (by simp only[az];omega) _)).setCell (ar _) _
theorem pD{R:Option Addr}{len cap:Nat}(d:y5.underlying z=some (.slice y8))(c:(Go.sizeOf y8).run y5 b=.ok a b)(hi:i<=len):
  (dI z (.slice R len cap) (some (II (i:Int))) none none).run y5 b=.ok (.slice (if cap=i then R else R.map (·.add (i*a))) (len-i) (cap-i)) b:=by
 simp[dI,dU,dV,asIntOf,dM d,c,hi]
theorem nh:(Go.sizeOf 5).run ab b=.ok 1 b:=by kernel_rfl
def pe(w:aK):Nat->aM->Prop
 |0,v=>∃e:Nat,v=.iface 158 (ag (some ⟨e,0,none⟩))
 |k+1,v=>∃(h:Nat) (s c:aM),v=.iface 155 (ag (some ⟨h,0,none⟩))/\w.heap[h]? =some (.cells #[s,c] 157 (0,0))/\pe w k c
theorem pe.gx{F:Nat->Prop}{w w':aK}(hc:gm F w w')(hF:∀k cur fr,w.heap[k]? =some (.cells cur 157 fr)->¬F k):∀{k:Nat} {v:aM},pe w k v->pe w' k v
 |0,v,h=>h
 |k+1,v,⟨h,s,c,e,hb,hn⟩=>⟨h,s,c,e,by rw[hc.block h (bn.1 hb).1 (hF h _ _ hb)];exact hb,pe.gx hc hF hn⟩
theorem pe.below(h:pe w k v)(a:Bw w b):pe b k v:=h.gx (F:=fun _=>False) (gm.fU a) (fun _ _ _ _ h=>h)
theorem pe.form(h:pe w k v):∃a b,v=.iface a b/\(a=158\/a=155):=by
 cases k with
 |zero=>obtain⟨d,rfl⟩:=h;grind
 |succ k=>obtain⟨h,e,c,rfl,_⟩:=h;grind
theorem qy(c:b.heap[a]? =some (.cells #[e,h] 157 (0,0))):b.cell? (Ad a 1)=some h:=by simp only[aD,c];rfl
theorem xC(g:Env b)(w:a=1\/a=2\/a=3)(f:pe b a e):
  aL ab 46 #[e] b fun l j=>l=.returned (.bool true)/\Bw b j:=by
 have c:Bw b (b.alloc (.cells #[ag none] 158)):=fO _ _;have k:Hid (aL ab 87 #[e,.iface 160 (Pt b.heap.size)] (b.alloc (.cells #[ag none] 158)) fun t j=>t=.returned (.bool true)/\Below b.heap.size (b.alloc (.cells #[ag none] 158)) j):=by
  rcases w with rfl|rfl|rfl
  ·obtain⟨n,p,c1,rfl,d,m,rfl⟩:=f;exact Aa (fL g.2 c) (fL (qy d) c) (by simp) (by simp)
  ·obtain⟨n,p,c1,rfl,d,u,x,s,rfl,h,m,rfl⟩:=f;exact EZ (fL g.2 c) (fL (qy d) c) (fL (qy h) c) (by simp) (by simp)
  ·obtain⟨n,p,c1,rfl,d,u,x,s,rfl,h,A,C,z,rfl,q,m,rfl⟩:=f;exact E1 (fL g.2 c) (fL (qy d) c) (fL (qy h) c) (fL (qy q) c) (by simp) (by simp)
 obtain⟨D,B,rfl,_⟩:=f.form;clear f g;go_enter func46,ntmps46;go_wp2_with fail;refine k.out.mono ?_;rintro l y ⟨rfl,o⟩;have v:Bw b y:=c.trans o;clear c o k;go_wp2_with fail;go_ret;exact⟨rfl,v⟩
def ka(w:aK)(v:aM)(l:List Int):Prop:=
 gG l/\l.length<=140737488355328/\∃ao cap,v=.slice ao l.length cap/\l.length<=cap/\cap<=9223372036854775807/\(ao=none->cap=0)/\(0<l.length->∃b off cur fr,ao=some (Ad b off)/\w.heap[b]? =some (.cells cur 5 fr)/\∀j,j<l.length->cur[off+j]? =some (.int .u8 (l.getD j 0)))
theorem ka.nil(w:aK):ka w (ai none 0 0) []:=⟨fun c b=>(by cases b),by simp,none,0,rfl,by simp,by simp,fun _=>rfl,fun a=>absurd a (by simp)⟩
theorem ka.gx(h:ka w v l)(u:gm F w b)(t:∀f a c,w.heap[f]? =some (.cells a 5 c)->¬F f):ka b v l:=by obtain⟨m,n,g,cap,j,o,p,q,s⟩:=h;refine⟨m,n,g,cap,j,o,p,q,fun y=>?_⟩;obtain⟨d,z,a,c,k,e,x⟩:=s y;exact⟨d,z,a,c,k,by rw[u.block d (bn.1 e).1 (t d a c e)];exact e,x⟩
theorem ka.below(h:ka w v l)(a:Bw w b):ka b v l:=h.gx (F:=fun _=>False) (gm.fU a) (fun _ _ _ _ h=>h)
theorem ka.cell{cap:Nat}(h:ka w (ai (some (Ad a d)) l.length cap) l)(j:Nat)(g:j<l.length):w.cell? (Ad a (d+j))=some (.int .u8 (l.getD j 0)):=by obtain⟨_,_,m,o,b,_,_,_,e⟩:=h;simp only[Value.slice.injEq]at b;obtain⟨rfl,_,rfl⟩:=b;obtain⟨n,s,p,q,c,f,k⟩:=e (by omega);simp only[Option.some.injEq,Addr.mk.injEq,and_true]at c;obtain⟨rfl,rfl⟩:=c;simp only[aD,f];exact k j g
theorem ka.reads(h:ka w v l):je w v l:=by
 obtain⟨c,d,m,cap,rfl,e,p,q,f⟩:=id h;refine⟨c,d,?_⟩;rcases Nat.eq_zero_or_pos l.length with a|a
 ·grind
 ·obtain⟨b,k,n,o,rfl,_,_⟩:=f a;exact Or.inr ⟨a,b,k,cap,rfl,e,fun j g=>h.cell j g⟩
theorem ka.ro(h:ka w v l):Ro w 5 v l.length (U8 l):=by obtain⟨s,t,b,cap,rfl,g,u,j,k⟩:=h;refine⟨b,cap,rfl,fun o=>?_,j,g⟩;obtain⟨c,q,d,f,e,m,n⟩:=k o;refine⟨c,q,d,f,e,m,fun p a=>?_⟩;rw[ir]at a;rw[n p a];simp[U8,List.getElem?_eq_getElem a,List.getD]
theorem ka.drop(h:ka w v l)(n:k<=l.length):∃c,ka w c (l.drop k)/\(∃b cap,c=.slice b (l.length-k) cap)/\∀a:aK,(dI 44 v (some (II (k:Int))) none none).run ab a=.ok c a:=by
 obtain⟨g,s,b,cap,rfl,t,u,x,j⟩:=h;have p:∀a:aK,(dI 44 (.slice b l.length cap) (some (II (k:Int))) none none).run ab a=.ok (.slice (if cap=k then b else b.map (·.add (k*1))) (l.length-k) (cap-k)) a:=fun a=>pD underlying44 (nh) n;refine⟨_,?_,⟨_,_,rfl⟩,p⟩;have o:(l.drop k).length=l.length-k:=by simp
 refine⟨g.drop k,by omega,_,_,by rw[o],by omega,by omega,?_,fun C=>?_⟩
 ·intro B;by_cases y:cap=k
  ·omega
  simp_all
 ·obtain⟨d,q,e,f,rfl,m,z⟩:=j (by omega);refine⟨d,q+k,e,f,?_,m,fun D A=>?_⟩
  ·rw[if_neg (by omega)];simp[Addr.add_lit]
  grind
theorem ka.take(h:ka w v l)(p:k<=l.length):∃c,ka w c (l.take k)/\(∃a cap,c=.slice a k cap/\(0<k->∃f t,a=some (Ad f t)))/\∀b:aK,(dI 44 v none (some (II (k:Int))) none).run ab b=.ok c b:=by
 obtain⟨g,y,a,cap,rfl,j,m,n,z⟩:=h;have q:(l.take k).length=k:=by simp;omega
 refine⟨.slice a k cap,⟨g.take k,by omega,a,cap,by rw[q],by omega,m,n,fun s=>?_⟩,⟨a,cap,rfl,fun s=>?_⟩,fun b=>?_⟩
 ·grind
 ·grind
 ·have e:k<=cap:=Nat.le_trans p j;have o:Option.map (fun u:Addr=>u.add 0) a=a:=by
   cases a with
   |none=>rfl
   |some x=>simp[Addr.add]
  by_cases d:cap=0
  ·subst d;simp[dI,dU,dV,asIntOf,dM underlying44,nh,e]
  ·simp[dI,dU,dV,asIntOf,dM underlying44,nh,e,d,o]
structure mb(w:aK)(rb:Nat)(rv ev:aM)(r:Rd):Prop where
 gK:w.heap[rb]? =some (.cells #[rv,ev] 151 (0,0))
 rd:ka w rv r.rest
 ok:r.bad=false->ev=.nilIface
 no:r.bad=true->∃k,(k=1\/k=2)/\pe w k ev
def CZ(w:aK)(rb:Nat)(r:Rd)(w':aK):Prop:=∃rv ev,mb w' rb rv ev r/\gm (· = rb) w w'
theorem mb.c0{b:aM}{r:Rd}(h:mb w a e b r):w.cell? (Ad a 0)=some e:=by simp only[aD,h.gK];rfl
theorem mb.c1{b:aM}{r:Rd}(h:mb w a e b r):w.cell? (Ad a 1)=some b:=by simp only[aD,h.gK];rfl
theorem mb.free{b:aM}{r:Rd}(h:mb w a e b r)(i:Nat):w.frozen? (Ad a i)=false:=cx w a i _ _ h.gK
theorem mb.below{d:aM}{r:Rd}(h:mb w a e d r)(c:Bw w b):mb b a e d r:=
 ⟨by rw[c.block a (bn.1 h.gK).1];exact h.gK,h.rd.below c,h.ok,fun f=>by obtain⟨k,g,j⟩:=h.no f;exact⟨k,g,j.below c⟩⟩
theorem mb.K_{c:aM}{r:Rd}(h:mb w a e c r)(f:ka w q l):ka (w.setCell (Ad a i) v) q l:=by refine f.gx (go (Below.refl _ w) _ _) fun k g j d b=>?_;subst b;rw[h.gK]at d;grind
theorem mb.Ng{c:aM}{r:Rd}(h:mb w a e c r)(f:pe w k q):pe (w.setCell (Ad a i) v) k q:=by refine f.gx (go (Below.refl _ w) _ _) fun k g j d b=>?_;subst b;rw[h.gK]at d;grind
theorem mb.Cq{b:aM}{r:Rd}(h:mb w a e b r)(ht:ka w q l):mb (w.setCell (Ad a 0) q) a q b ⟨l,r.bad⟩:=
 ⟨fT h.gK _ _,h.K_ ht,h.ok,fun c=>by obtain⟨g,d,f⟩:=h.no c;exact⟨g,d,h.Ng f⟩⟩
theorem mb.Oo{b:aM}{r:Rd}(h:mb w a e b r)(d:k=1\/k=2)(ht:pe w k q):mb (w.setCell (Ad a 1) q) a e q ⟨r.rest,true⟩:=
 ⟨fT h.gK _ _,h.K_ h.rd,fun c=>(by cases c),fun _=>⟨k,d,h.Ng ht⟩⟩
theorem mb.sY{c:aM}{r:Rd}(h:mb w a e c r)(f:r.bad=true):∃b:Nat,c=.iface 155 (Pt b):=by
 obtain⟨j,g,d⟩:=h.no f;rcases g with rfl|rfl
 ·obtain⟨b,_,_,rfl,_⟩:=d;grind
 ·obtain⟨b,_,_,rfl,_⟩:=d;grind
theorem pe.BK(h:pe w k v):∃b a,v=.iface b (Pt a):=by
 cases k with
 |zero=>obtain⟨d,rfl⟩:=h;grind
 |succ k=>obtain⟨a,e,c,rfl,_⟩:=h;grind
theorem wi{r:Rd}(j:ByteArray)(g:Nat)(c:mb b a e h r)(m:pe b g q)(y:g=0\/g=1):
  aL ab 135 #[Pt a,.string j,q] b fun t o=>t=.returned (.tuple #[])/\∃u,mb o a e u ⟨r.rest,true⟩/\gm (· = a) b o:=by
 have c1:=c.c1;obtain⟨n,k,rfl⟩:=m.BK;have d:=fK c;have s:=fK m;clear c m;cases f:r.bad with
 |true=>obtain⟨w,rfl⟩:=d.out.sY f;have p:=fK f;clear f;go_enter func135,ntmps135;go_wp2_with fail;go_end0;have c:=d.out;exact⟨rfl,_,mb.mk (r:=⟨r.rest,true⟩) c.gK c.rd (fun c=>(by cases c)) (fun _=>c.no p.out),gm.refl _ _⟩
 |false=>have v:=d.out.ok f;subst v;have z:=(d.out.below (fO b (.cells #[.string j,.iface n (Pt k)] 157))).free 1;have x:=fL c1 (fO b (.cells #[.string j,.iface n (Pt k)] 157));clear f;go_enter func135,ntmps135;go_wp2_with fail;go_end0;have l:=fO b (.cells #[.string j,.iface n (Pt k)] 157);refine⟨rfl,_,(d.out.below l).Oo (k:=g+1) (by omega) ⟨b.heap.size,_,_,rfl,cA b _,s.out.below l⟩,go l _ _⟩
theorem zm{k:List Int}(m:Env b)(a:ka b e k)(o:jk k=0):
  aL ab 102 #[e] b fun c d=>∃h,c=.returned (.tuple #[II 0,II 0,h])/\pe d 1 h/\Bw b d:=by
 have g:Hid (aL ab 154 #[e] b fun c d=>∃f,c=.returned (.tuple #[II 0,.iface 158 (Pt f)])/\Bw b d):=by
  obtain⟨u,v,a|a⟩:=a.reads
  ·obtain⟨rfl,s,cap,rfl⟩:=a;exact sD
  ·obtain⟨n,w,y,cap,rfl,x,t⟩:=a;have j:=t 0 n;rw[Nat.add_zero]at j;exact rO u n m v j o
 obtain⟨_,_,s,cap,rfl,_⟩:=a;clear m o;go_enter func102,ntmps102;go_wp2_with fail;refine g.out.mono ?_;rintro c p ⟨f,rfl,l⟩;have q:=fK l;clear l g;go_wp2_with fail;go_ret3;exact⟨_,rfl,⟨p.heap.size,_,_,rfl,cA p _,f,rfl⟩,fP q.out (fO _ _)⟩
theorem zn{k:List Int}(a:ka b e k)(c:¬jk k=0):
  aL ab 102 #[e] b fun d m=>d=.returned (.tuple #[II (jL k),II (jk k),.nilIface])/\b=m:=by
 obtain⟨h,j,a|a⟩:=a.reads
 ·obtain⟨rfl,n,cap,rfl⟩:=a;exact absurd rfl c
 ·obtain⟨l,o,p,cap,rfl,g,f⟩:=a;exact Af h l g j f c
theorem wT(O v:aM)(r:Rd)(J:ByteArray)(m:aK)(x:Env m)(b:mb m a O v r):
  aL ab 84 #[Pt a,.string J] m fun j S=>j=.returned (II r.num.1)/\CZ m a r.num.2 S:=by
 have c0:=b.c0;obtain⟨_,_,D,cap,rfl,_⟩:=id b.rd;have d:=fK b;by_cases f:jk r.rest=0
 ·have q:r.num.1=0:=(qa f).1;have u:Hid (r.num.2 =⟨r.rest.drop 0,true⟩):=by show _=_;unfold Rd.num;simp[f]
  rw[q];have c:=fK (zm x b.rd f);obtain⟨R,p,⟨P,Q,rfl⟩,o⟩:=b.rd.drop (k:=0) (Nat.zero_le _);have h:=fK p;clear b x f p q;simp only[Int.natCast_zero,Nat.sub_zero]at o h;obtain⟨g,e⟩:∃g,r.rest.length=g:=⟨_,rfl⟩;rw[e]at c o c0 h;replace d:Hid (mb m a (.slice D g cap) v r):=by rw[e]at d;exact d
  clear e;go_enter func84,ntmps84;go_wp2_with fail;refine c.out.mono ?_;rintro j T ⟨V,rfl,z,t⟩;have A:=fK (d.out.below t);have C:=fK (wi J _ A.out z (Or.inr rfl));obtain⟨a1,U,rfl⟩:=z.BK;have M:=fK t;have N:=fK (h.out.below t);clear t z c c0;go_wp2_with fail;refine C.out.mono ?_;rintro j a2 ⟨rfl,Y,s,G⟩;have W:=s.c0;have a4:=s.free 0;have L:=fK s;have B:=fK G;clear s G C;go_wp2_with fail;go_ret;refine⟨rfl,?_⟩;rw[u.out];refine⟨_,_,L.out.Cq (l:=r.rest.drop 0) (N.out.gx B.out fun k X Z y j=>?_),?_⟩
  ·subst j;have:=A.out.gK;rw[this]at y;simp only[Option.some.injEq,Obj.cells.injEq]at y;exact absurd y.2.1 (by decide)
  ·exact((gm.fU M.out).trans B.out).trans (go (Below.refl _ _) _ _)
 ·have H:=lT r.rest;obtain⟨n,w⟩:∃n:Nat,jk r.rest=n:=⟨(jk r.rest).toNat,by omega⟩;have q:r.num.1=jL r.rest:=rfl;have u:Hid (r.num.2 =⟨r.rest.drop n,r.bad⟩):=by show _=_;unfold Rd.num;simp[f];rw[w];simp
  rw[q];have c:=fK (zn b.rd f);rw[w]at c H;have E:n<=r.rest.length:=by omega
  obtain⟨R,p,⟨P,Q,rfl⟩,o⟩:=b.rd.drop E;have h:=fK p;have a3:=b.free 0;clear b x f p q H w E;generalize jL r.rest=a0 at c⊢;obtain⟨g,e⟩:∃g,r.rest.length=g:=⟨_,rfl⟩;obtain⟨K,I⟩:∃K,r.rest.length-n=K:=⟨_,rfl⟩;rw[I]at o h;rw[e]at c o c0;replace d:Hid (mb m a (.slice D g cap) v r):=by rw[e]at d;exact d
  clear e I;go_enter func84,ntmps84;go_wp2_with fail;refine c.out.mono ?_;rintro j T ⟨rfl,rfl⟩;clear c;go_wp2_with fail;go_ret;refine⟨rfl,?_⟩;rw[u.out];exact⟨_,_,d.out.Cq h.out,go (Below.refl _ _) _ _⟩
theorem Fk{r:Rd}(a:r.bad=true\/(r.rest.length:Int)<c):r.nL c=([],⟨r.rest,true⟩):=if_pos a
theorem Hf{r:Rd}(a:r.bad=false)(b:c<=(r.rest.length:Int)):r.nL c=(r.rest.take c.toNat,⟨r.rest.drop c.toNat,false⟩):=if_neg (by rw[a];simp;omega)
structure Nn(w:aK)(rb:Nat)(x:List Int×Rd)(e:Ending)(w':aK):Prop where
 ret:∃bv,e=.returned bv/\ka w' bv x.1
 out:CZ w rb x.2 w'
theorem uo{j:Nat}(S A:aM)(r:Rd)(I:ByteArray)(d:Int)(h:aK)(o:Env h)(b:mb h j S A r)(P:0<=d)(X:d<=1073741823):
  aL ab 85 #[Pt j,.string I,II d] h fun t T=>Nn h j (r.nL d) t T:=by
 have c0:=b.c0;have O:=b.c1;have x:=b.rd.2.1;obtain⟨_,_,s,cap,rfl,w,_⟩:=id b.rd;have c:=fK b;obtain⟨n,f⟩:∃n,r.rest.length=n:=⟨_,rfl⟩;by_cases p:(r.rest.length:Int)<d
 ·have l:=fK (Fk (r:=r) (c:=d) (Or.inr p));have q:=fK (yT (c:=(r.rest.length:Int)) (by omega) (by omega) P (by omega) o);rw[f]at c0 p q;replace c:Hid (mb h j (.slice s n cap) A r):=by rw[f]at c;exact c
  clear b o x f w;go_enter func85,ntmps85;go_wp2_with fail;refine q.out.mono ?_;rintro t a4 ⟨B,rfl,e⟩;have y:=fK (wi I (q:=.iface 158 (Pt B)) 0 (c.out.below e) ⟨B,rfl⟩ (Or.inl rfl));have k:=fK e;clear e q c0 O;go_wp2_with fail;refine y.out.mono ?_;rintro t a5 ⟨rfl,W,g,C⟩;have V:=g.c1;obtain⟨U,rfl⟩:=g.sY rfl;have K:=fK g;have L:=fK C;clear g C y;go_wp2_with fail;go_ret;rw[l.out];exact⟨⟨_,rfl,ka.nil _⟩,_,_,K.out,(gm.fU k.out).trans L.out⟩
 ·cases e:r.bad with
  |true=>
   have l:=fK (Fk (r:=r) (c:=d) (Or.inl e));obtain⟨N,rfl⟩:=b.sY e;rw[f]at c0 p;replace c:Hid (mb h j (.slice s n cap) (.iface 155 (Pt N)) r):=by rw[f]at c;exact c
   have k:=fK e;clear b o x f w e;go_enter func85,ntmps85;go_wp2_with fail;go_ret;rw[l.out];have u:=c.out;exact⟨⟨_,rfl,ka.nil _⟩,_,_,mb.mk (r:=⟨r.rest,true⟩) u.gK u.rd (fun b=>(by cases b)) (fun _=>u.no k.out),gm.refl _ _⟩
  |false=>
   have Q:=b.ok e;subst Q;obtain⟨m,rfl⟩:∃m:Nat,d=m:=⟨d.toNat,by omega⟩;have l:=fK (Hf (r:=r) (c:=(m:Int)) e (by omega));have v:m<=r.rest.length:=by omega
   obtain⟨a0,G,⟨Y,Z,rfl⟩,D⟩:=b.rd.drop v;obtain⟨a3,H,⟨a1,a2,rfl,_⟩,R⟩:=b.rd.take v;have z:=fK G;have M:=fK H;have a6:=b.free 0;obtain⟨J,E⟩:∃J,r.rest.length-m=J:=⟨_,rfl⟩;rw[E]at D z;rw[f]at c0 p D R;replace c:Hid (mb h j (.slice s n cap) .nilIface r):=by rw[f]at c;exact c
   have k:=fK e;clear b o x f w e G H E v;go_enter func85,ntmps85;go_wp2_with fail;go_ret;rw[l.out];have g:=c.out.Cq z.out;rw[k.out]at g;refine⟨⟨_,rfl,c.out.K_ M.out⟩,_,_,g,go (Below.refl _ _) _ _⟩
theorem Bh(l:Nat)(H B:aM)(r:Rd)(w:ByteArray)(p:Env b)(n:mb b l H B r):
  aL ab 83 #[Pt l,.string w] b fun m I=>m=.returned (II r.kind.1)/\CZ b l r.kind.2 I:=by
 have j:=fK (uo _ _ _ w 1 _ p n (by decide) (by decide));clear p n;go_enter func83,ntmps83;go_wp2_with fail;refine j.out.mono ?_;rintro m W ⟨⟨L,rfl,d⟩,V,O,c,f⟩;have N:=c.c1;cases a:(r.nL 1).2.bad with
 |true=>
  have e:Hid (r.kind=(0,(r.nL 1).2)):=by show _=_;unfold Rd.kind;rw[if_pos a]
  obtain⟨J,rfl⟩:=c.sY a;obtain⟨_,_,x,y,rfl,_⟩:=d;have h:=fK c;have k:=fK f;clear c f a j;go_wp2_with fail;go_ret;rw[e.out];exact⟨rfl,_,_,h.out,k.out⟩
 |false=>
  have e:Hid (r.kind=((r.nL 1).1.getD 0 0,(r.nL 1).2)):=by show _=_;unfold Rd.kind;rw[if_neg (by rw[a];decide)]
  have E:=c.ok a;subst E;have q:(r.nL 1).1.length=1:=by
   by_cases s:r.bad=true\/(r.rest.length:Int)<1
   ·rw[Fk s]at a;cases a
   ·have C:r.bad=false:=by
     cases G:r.bad with
     |true=>exact absurd (Or.inl G) s
     |false=>rfl
    have D:(1:Int)<=(r.rest.length:Int):=by omega
    rw[Hf C D];simp;omega
  have u:=iY d.1 0;obtain⟨_,_,x,y,z,Q,_,_,t⟩:=id d;obtain⟨K,U,M,P,A,_⟩:=t (by omega);subst A;subst z;have o:=d.cell 0 (by omega);rw[Nat.add_zero]at o;rw[q];obtain⟨g,v⟩:∃g,(r.nL 1).1.getD 0 0=g:=⟨_,rfl⟩;rw[v]at o u e;obtain⟨S,T⟩:=u;have R:IntKind.i64.wrap g=g:=by rw[dq];omega
  have h:=fK c;have k:=fK f;clear c f a j d t q v;go_wp2_with fail;go_ret;rw[e.out];exact⟨rfl,_,_,h.out,k.out⟩
theorem vq(y t:aM)(r:Rd)(n:ByteArray)(d:Int)(b:aK)(m:Env b)(h:mb b a y t r)(v:0<=d)(w:d<=9223372036854775807):
  aL ab 86 #[Pt a,.string n,II d] b fun c z=>c=.returned (.tuple #[])/\CZ b a r.fail z:=by
 have g:=fK (uP v w m);have q:=fK h;clear h m;go_enter func86,ntmps86;go_wp2_with fail;refine g.out.mono ?_;rintro c D ⟨C,rfl,B,k⟩;have e:=fK k;have f:=fK (fun(s:aK) (x:Bw b s) (u:Nat)=>wi n 0 (q.out.below x) ⟨u,rfl⟩ (Or.inl rfl));clear k g;go_wp2_with fail;refine(f.out _ (fP e.out (fO _ _)) _).mono ?_;rintro c E ⟨rfl,A,j,l⟩;have o:=fK j;have p:=fK l;clear j l f;go_wp2_with fail;go_end0;exact⟨rfl,_,_,o.out,(gm.fU (fP e.out (fO _ _))).trans p.out⟩
theorem heap_drew(a:aK):a.drew.heap=a.heap:=rfl
theorem va{y5:Program}{z:TypeId}{t1:Func}{t0 s9 e:Tmp}(f:t1.results=#[.cell t0 z,.tmp s9,.tmp e])(d:Nat×Nat)(c:TypeDesc)
  (j:D.getD t0 dX=Pt a) (h:b.heap[a]? =some (.cells x7 y8 d))
  (l:y5.underlying z=some c) (g:(match c with|.struct _|.array _ _=>true|_=>false)=true) (hi:(y5.info? z).map (·.size)=some x7.size):
  (results t1 D).run y5 b=.ok (.tuple #[.agg x7,D.getD s9 dX,D.getD e dX]) b:=by
 have k:D[t0]?.getD dX=Pt a:=by simpa using j
 simp[results,f,k,asAddr,run_loadVar_row b a y8 z x7 d c h l g hi]
theorem hQ{y5:Program}{z:TypeId}{t1:Func}{t0 s9 f:Tmp}(j:t1.results=#[.cell t0 z,.tmp s9,.tmp f])(e:Nat)(q:TypeId)(a:Array aM)(d:Nat×Nat)(c:TypeDesc)(g h:aM)
  (m:D.getD t0 dX=Pt e) (o:D.getD s9 dX=g) (p:D.getD f dX=h) (l:b.heap[e]? =some (.cells a q d))
  (n:y5.underlying z=some c) (k:(match c with|.struct _|.array _ _=>true|_=>false)=true) (hi:(y5.info? z).map (·.size)=some a.size):
  (results t1 D).run y5 b=.ok (.tuple #[.agg a,g,h]) b:=by
 rw[<-o,<-p];exact va j d c m l n k hi
theorem ip{y5:Program}{z:TypeId}{t1:Func}{t0 s9:Tmp}(h:t1.results=#[.cell t0 z,.tmp s9])(c:Nat)(f:TypeId)(a:Array aM)(e:Nat×Nat)(d:TypeDesc)(g:aM)
  (l:D.getD t0 dX=Pt c) (o:D.getD s9 dX=g) (k:b.heap[c]? =some (.cells a f e))
  (n:y5.underlying z=some d) (j:(match d with|.struct _|.array _ _=>true|_=>false)=true) (hi:(y5.info? z).map (·.size)=some a.size):
  (results t1 D).run y5 b=.ok (.tuple #[.agg a,g]) b:=by
 have m:D[t0]?.getD dX=Pt c:=by simpa using l
 rw[<-o];simp[results,h,m,asAddr,run_loadVar_row b c f z a e d k n j hi]
structure oj(T:TypeId)(zc:Array aM)(w:aK)(fb:Nat)(r:Rd)(fc:Array aM)(W:aK):Prop where
 wo:Bw w W
 res:W.heap[w.heap.size]? =some (.cells zc T (0,0))
 rd:∃rv ev,mb W (w.heap.size+1) rv ev r
 Hj:W.heap[fb]? =some (.cells fc T (0,0))
 ne:w.heap.size+1<fb
theorem jz{z5:aK}(c:Bw b w)(d:gm (· = a) w z5)(g:b.heap.size<=a):Bw b z5:=
 ⟨d.os.trans c.os,d.tape.trans c.tape,d.output.trans c.output,Nat.le_trans c.size d.size,fun e f=>by rw[d.block e (Nat.lt_of_lt_of_le f c.size) (show e≠a from by omega),c.block e f]⟩
theorem oj.step{r w3:Rd}{d:aK}(h:oj z D w a r x7 b)(j:CZ b (w.heap.size+1) w3 d):oj z D w a w3 x7 d:=by
 obtain⟨k,e,f,c⟩:=j;have g:=h.ne;refine⟨jz h.wo c (by omega),?_,⟨k,e,f⟩,?_,g⟩
 ·rw[c.block _ (bn.1 h.res).1 (show w.heap.size≠w.heap.size+1 from by omega)];exact h.res
 ·rw[c.block _ (bn.1 h.Hj).1 (show a≠w.heap.size+1 from by omega)];exact h.Hj
theorem oj.tp{r:Rd}(o:z≠5)(p:z≠157)(h:oj z D w a r x7 b)(i:Nat)(v:aM):oj z D w a r (x7.setIfInBounds i v) (b.setCell (Ad a i) v):=by
 have t:=h.ne;obtain⟨u,n,g⟩:=h.rd;have j:gm (· = a) b (b.setCell (Ad a i) v):=go (Below.refl _ b) _ _;have l:∀c e f k,b.heap[c]? =some (.cells e k f)->z≠k->¬c=a:=by intro c e f k d x m;subst m;rw[h.Hj]at d;grind
 refine⟨jz h.wo j (by omega),?_,⟨u,n,?_,g.rd.gx j fun c e f d=>l c e f _ d o,g.ok,fun q=>?_⟩,fT h.Hj _ _,t⟩
 ·rw[j.block _ (bn.1 h.res).1 (show w.heap.size≠a from by omega)];exact h.res
 ·rw[j.block _ (bn.1 g.gK).1 (show w.heap.size+1≠a from by omega)];exact g.gK
 ·obtain⟨c,d,s⟩:=g.no q;exact⟨c,d,s.gx j fun c e f d=>l c e f _ d p⟩
theorem oj.cell{r:Rd}(h:oj z D w a r x7 b)(i:Nat):b.cell? (Ad a i)=x7[i]?:=by simp only[aD,h.Hj];rfl
theorem oj.free{r:Rd}(h:oj z D w a r x7 b)(i:Nat):b.frozen? (Ad a i)=false:=cx b a i _ _ h.Hj
def vG(p:E3)(bv:aM):Array aM:=#[II p.type,II p.id,II p.iP,bv,II p.en,II p.proof]
def jE:Array aM:=#[II 0,II 0,II 0,ai none 0 0,II 0,II 0]
structure r_(w:aK)(b:List Int)(x:E3×Rd)(e:Ending)(w':aK):Prop where
 wo:Bw w w'
 bad:x.2.bad=true->∃k c,e=.returned (.tuple #[.agg jE,II 0,c])/\(k=2\/k=3)/\pe w' k c
 ok:x.2.bad=false->∃bv,e=.returned (.tuple #[.agg (vG x.1 bv),II ((b.length:Int)-x.2.rest.length),.nilIface])/\ka w' bv x.1.bytes
theorem r_.drew{b:List Int}{x:E3×Rd}{e:Ending}(h:r_ w b x e W):r_ w b x e W.drew where
 wo:=fQ h.wo 1
 bad:=fun hb=>by obtain⟨k,c,e1,hk,hn⟩:=h.bad hb;exact⟨k,c,e1,hk,hn.below (fQ (Below.refl _ W) 1)⟩
 ok:=fun hb=>by obtain⟨bv,e1,h1⟩:=h.ok hb;exact⟨bv,e1,h1.below (fQ (Below.refl _ W) 1)⟩
theorem qL{r:Rd}(a:gG r.rest):0<=r.num.1/\r.num.1<=1073741823:=by have:=nU a;show 0<=jL r.rest/\jL r.rest<=1073741823;omega
def sy(t:Int)(r0:Rd):E3×Rd:=
 if t=0\/t=1 then(⟨t,0,0,[],0,0⟩,r0)
 else if t=3\/t=4 then(⟨t,r0.num.1,r0.num.2.num.1,(r0.num.2.num.2.num.2.nL r0.num.2.num.2.num.1).1,r0.num.2.num.1+(r0.num.2.num.2.num.2.nL r0.num.2.num.2.num.1).1.length,0⟩,(r0.num.2.num.2.num.2.nL r0.num.2.num.2.num.1).2)
 else if t=5 then(⟨t,r0.num.1,0,[],r0.num.2.num.1,0⟩,r0.num.2.num.2)
 else if t=6 then(⟨t,0,0,[],0,0⟩,r0.num.2)
 else if t=7 then(⟨t,0,0,[],0,r0.num.1⟩,r0.num.2)
 else(⟨t,0,0,[],0,0⟩,r0.fail)
theorem KO{k:List Int}(a:0<k.length):sx k=sy (k.getD 0 0) ⟨k.drop 1,false⟩:=by unfold sx sy;rw[qI a]
theorem yo{r:Rd}(a:gG r.rest):gG r.num.2.rest:=a.drop _
theorem yZ{b:List Int}(he:Env w)(h:ka w bv b)(hp:0<b.length):
  aL ab 181 #[bv] w fun e w'=>r_ w b (sx b) e w':=by
 obtain⟨_,_,ao,cap,rfl,_⟩:=id h;obtain⟨bl,Hm⟩:∃bl,b.length=bl:=⟨_,rfl⟩;have Nr:=fK Hm;have J5:∀W:aK,Bw w W->Env W:=fun W hW=>he.below hW;have wB:Bw w ((w.alloc (.cells jE 286)).alloc (.cells #[.slice ao b.length cap,.nilIface] 151)):=(fO w _).alloc (by simp) _;have HK:=fK (Bh (w.heap.size+1) (.slice ao b.length cap) .nilIface ⟨b,false⟩ ⟨#[116,121,112,101]⟩ (J5 _ wB) ⟨heap_alloc2_new w _ _,h.below wB,fun _=>rfl,fun h=>(by cases h)⟩);rw[qI hp]at HK;have HE:=fK J5;have Rl:=iY h.1 0;have sa:Hid (∀(W:aK) (fb:Nat) (r:Rd) (fc:Array aM) (s:ByteArray),oj 286 jE w fb r fc W->aL ab 84 #[Pt (w.heap.size+1),.string s] W fun e w'=>e=.returned (II r.num.1)/\oj 286 jE w fb r.num.2 fc w'):=by intro W fb r fc s hW;obtain⟨rv,ev,h1⟩:=hW.rd;refine(wT rv ev r s W (J5 W hW.wo) h1).mono ?_;rintro e w' ⟨rfl,ho⟩;exact⟨rfl,hW.step ho⟩
 have HJ:Hid (∀(W:aK) (fb:Nat) (r:Rd) (fc:Array aM) (s:ByteArray) (c:Int),oj 286 jE w fb r fc W->0<=c/\c<=1073741823->aL ab 85 #[Pt (w.heap.size+1),.string s,II c] W fun e w'=>(∃bv,e=.returned bv/\ka w' bv (r.nL c).1)/\oj 286 jE w fb (r.nL c).2 fc w'):=by intro W fb r fc s c hW hc;obtain⟨rv,ev,h1⟩:=hW.rd;refine(uo rv ev r s c W (J5 W hW.wo) h1 hc.1 hc.2).mono ?_;rintro e w' ⟨h2,ho⟩;exact⟨h2,hW.step ho⟩
 have Ke:Hid (∀(W:aK) (fb:Nat) (r:Rd) (fc:Array aM) (s:ByteArray) (c:Int),oj 286 jE w fb r fc W->0<=c/\c<=1073741823->aL ab 86 #[Pt (w.heap.size+1),.string s,II c] W fun e w'=>e=.returned (.tuple #[])/\oj 286 jE w fb r.fail fc w'):=by intro W fb r fc s c hW hc;obtain⟨rv,ev,h1⟩:=hW.rd;refine(vq rv ev r s c W (J5 W hW.wo) h1 hc.1 (by omega)).mono ?_;rintro e w' ⟨rfl,ho⟩;exact⟨rfl,hW.step ho⟩
 have R5:Hid (gG b):=h.1;have tG:=fK (KO hp);have RN:((w.alloc (.cells jE 286)).alloc (.cells #[.slice ao b.length cap,.nilIface] 151)).heap[w.heap.size]? =some (.cells jE 286 (0,0)):=heap_alloc2_old w _ _;have Mc:=fK RN;have wU:=fK wB;rw[Hm]at HK Mc wU⊢;obtain⟨x,hx⟩:∃x,sx b=x:=⟨_,rfl⟩;rw[hx]at tG⊢;clear hx;clear h he wB RN Hm hp J5;unfold jE at HK Mc wU;go_enter func181,ntmps181;go_wp2_with fail;refine HK.out.mono ?_;rintro e w1 ⟨rfl,Rv,QH,h1,Mz⟩;have OD:Hid (∀t:Int,oj 286 jE w w1.heap.size ⟨b.drop 1,false⟩ #[II t,II 0,II 0,ai none 0 0,II 0,II 0] (w1.alloc (.cells #[II t,II 0,II 0,ai none 0 0,II 0,II 0] 286))):=by
  intro t;have IK:w.heap.size+1<w1.heap.size:=by have:=Mz.size;simp at this;omega
  refine⟨fP (jz wU.out Mz (by omega)) (fO _ _),?_,⟨Rv,QH,h1.below (fO _ _)⟩,cA w1 _,IK⟩;rw[Below.heap_alloc _ _ _ (by omega),Mz.block _ (by simp;omega) (show w.heap.size≠w.heap.size+1 from by omega)];exact Mc.out
 clear h1 Mz HK Mc wU;obtain⟨t,ht⟩:∃t,b.getD 0 0=t:=⟨_,rfl⟩;have Tm:=fK ht;rw[ht]at Rl tG⊢;clear ht;have E4:=fK (OD.out t);clear OD;have Hl:gG (Rd.mk (b.drop 1) false).rest:=R5.out.drop 1;generalize Rd.mk (b.drop 1) false=r0 at E4 tG Hl;have Na:=yo Hl;have wB:=yo Na;have g1:=qL Hl;have g2:=qL Na;have g3:=qL wB;have HG:=fK (And.intro g1 (And.intro g2 g3));clear g1 g2 g3 Hl Na wB;go_upto_block 0 with fail;go_cut [6] from 11 to 48 (fun s6 wx=>s6=Pt w1.heap.size/\∃bv,oj 286 jE w w1.heap.size x.2 (vG x.1 bv) wx/\ka wx bv x.1.bytes);case first=>
  by_cases t0:t=0
  ·subst t0;go_wp2_with fail;go_meet;refine⟨rfl,ai none 0 0,?_,?_⟩
   ·rw[tG.out];exact E4.out
   ·rw[tG.out];exact ka.nil _
  by_cases t1:t=1
  ·subst t1;go_wp2_with fail;go_meet;refine⟨rfl,ai none 0 0,?_,?_⟩
   ·rw[tG.out];exact E4.out
   ·rw[tG.out];exact ka.nil _
  by_cases t3:t=3
  ·subst t3;go_wp2_with fail;refine(sa.out _ _ _ _ _ E4.out).mono ?_;rintro e w2 ⟨rfl,h2⟩;have x2:io w2 w1 1 0:=h2.cell 1;have z2:=h2.free 1;have H2:=fK (h2.tp (by decide) (by decide) 1 (II r0.num.1));clear h2;go_wp2_with fail;refine(sa.out _ _ _ _ _ H2.out).mono ?_;rintro e w3 ⟨rfl,h3⟩;have x3:io w3 w1 2 0:=h3.cell 2;have z3:=h3.free 2;have H3:=fK (h3.tp (by decide) (by decide) 2 (II r0.num.2.num.1));clear h3;go_wp2_with fail;refine(sa.out _ _ _ _ _ H3.out).mono ?_;rintro e w4 ⟨rfl,h4⟩;have H4:=fK h4;clear h4;go_wp2_with fail;refine(HJ.out _ _ _ _ _ _ H4.out HG.out.2.2).mono ?_;rintro e w5 ⟨⟨pv,rfl,DL⟩,h5⟩;have x5:lq w5 w1 3 (ai none 0 0):=h5.cell 3;have z5:=h5.free 3;obtain⟨_,MF,pa,pc,rfl,_⟩:=id DL;have H5:=fK (h5.tp (by decide) (by decide) 3 (.slice pa (r0.num.2.num.2.num.2.nL r0.num.2.num.2.num.1).1.length pc));have Hb:=fK (DL.gx (go (cb:=w1.heap.size) (Below.refl _ w5) 3 (.slice pa (r0.num.2.num.2.num.2.nL r0.num.2.num.2.num.1).1.length pc)) fun k cur fr hk e=>by subst e;rw[h5.Hj]at hk;grind);have y2:io (w5.setCell (gf w1 3) (.slice pa (r0.num.2.num.2.num.2.nL r0.num.2.num.2.num.1).1.length pc)) w1 2 r0.num.2.num.1:=H5.out.cell 2;have y3:lq (w5.setCell (gf w1 3) (.slice pa (r0.num.2.num.2.num.2.nL r0.num.2.num.2.num.1).1.length pc)) w1 3 (.slice pa (r0.num.2.num.2.num.2.nL r0.num.2.num.2.num.1).1.length pc):=H5.out.cell 3;have y4:io (w5.setCell (gf w1 3) (.slice pa (r0.num.2.num.2.num.2.nL r0.num.2.num.2.num.1).1.length pc)) w1 4 0:=H5.out.cell 4;have v4:=H5.out.free 4;clear DL h5;have Q0:=HG.out.2.1;obtain⟨pl,FU⟩:∃pl,(r0.num.2.num.2.num.2.nL r0.num.2.num.2.num.1).1.length=pl:=⟨_,rfl⟩;have Qm:=fK FU;rw[FU]at MF y3 y2 y4 v4 H5 Hb⊢;have R0:IntKind.i64.wrap (r0.num.2.num.1+(pl:Int))=r0.num.2.num.1+pl:=by rw[dq];omega
   have Qd:=fK (H5.out.tp (by decide) (by decide) 4 (II (r0.num.2.num.1+pl)));clear MF FU Q0;go_wp2_with fail;go_meet;refine⟨rfl,.slice pa pl pc,?_,?_⟩
   ·rw[tG.out];unfold sy vG;rw[if_neg (by decide),if_pos (by decide)];simp only;rw[Qm.out];exact Qd.out
   ·rw[tG.out];unfold sy;rw[if_neg (by decide),if_pos (by decide)];refine Hb.out.gx (go (cb:=w1.heap.size) (Below.refl _ _) 4 _) fun k cur fr hk e=>?_;subst e;rw[H5.out.Hj]at hk;grind
  by_cases t4:t=4
  ·subst t4;go_wp2_with fail;refine(sa.out _ _ _ _ _ E4.out).mono ?_;rintro e w2 ⟨rfl,h2⟩;have x2:io w2 w1 1 0:=h2.cell 1;have z2:=h2.free 1;have H2:=fK (h2.tp (by decide) (by decide) 1 (II r0.num.1));clear h2;go_wp2_with fail;refine(sa.out _ _ _ _ _ H2.out).mono ?_;rintro e w3 ⟨rfl,h3⟩;have x3:io w3 w1 2 0:=h3.cell 2;have z3:=h3.free 2;have H3:=fK (h3.tp (by decide) (by decide) 2 (II r0.num.2.num.1));clear h3;go_wp2_with fail;refine(sa.out _ _ _ _ _ H3.out).mono ?_;rintro e w4 ⟨rfl,h4⟩;have H4:=fK h4;clear h4;go_wp2_with fail;refine(HJ.out _ _ _ _ _ _ H4.out HG.out.2.2).mono ?_;rintro e w5 ⟨⟨pv,rfl,DL⟩,h5⟩;have x5:lq w5 w1 3 (ai none 0 0):=h5.cell 3;have z5:=h5.free 3;obtain⟨_,MF,pa,pc,rfl,_⟩:=id DL;have H5:=fK (h5.tp (by decide) (by decide) 3 (.slice pa (r0.num.2.num.2.num.2.nL r0.num.2.num.2.num.1).1.length pc));have Hb:=fK (DL.gx (go (cb:=w1.heap.size) (Below.refl _ w5) 3 (.slice pa (r0.num.2.num.2.num.2.nL r0.num.2.num.2.num.1).1.length pc)) fun k cur fr hk e=>by subst e;rw[h5.Hj]at hk;grind);have y2:io (w5.setCell (gf w1 3) (.slice pa (r0.num.2.num.2.num.2.nL r0.num.2.num.2.num.1).1.length pc)) w1 2 r0.num.2.num.1:=H5.out.cell 2;have y3:lq (w5.setCell (gf w1 3) (.slice pa (r0.num.2.num.2.num.2.nL r0.num.2.num.2.num.1).1.length pc)) w1 3 (.slice pa (r0.num.2.num.2.num.2.nL r0.num.2.num.2.num.1).1.length pc):=H5.out.cell 3;have y4:io (w5.setCell (gf w1 3) (.slice pa (r0.num.2.num.2.num.2.nL r0.num.2.num.2.num.1).1.length pc)) w1 4 0:=H5.out.cell 4;have v4:=H5.out.free 4;clear DL h5;have Q0:=HG.out.2.1;obtain⟨pl,FU⟩:∃pl,(r0.num.2.num.2.num.2.nL r0.num.2.num.2.num.1).1.length=pl:=⟨_,rfl⟩;have Qm:=fK FU;rw[FU]at MF y3 y2 y4 v4 H5 Hb⊢;have R0:IntKind.i64.wrap (r0.num.2.num.1+(pl:Int))=r0.num.2.num.1+pl:=by rw[dq];omega
   have Qd:=fK (H5.out.tp (by decide) (by decide) 4 (II (r0.num.2.num.1+pl)));clear MF FU Q0;go_wp2_with fail;go_meet;refine⟨rfl,.slice pa pl pc,?_,?_⟩
   ·rw[tG.out];unfold sy vG;rw[if_neg (by decide),if_pos (by decide)];simp only;rw[Qm.out];exact Qd.out
   ·rw[tG.out];unfold sy;rw[if_neg (by decide),if_pos (by decide)];refine Hb.out.gx (go (cb:=w1.heap.size) (Below.refl _ _) 4 _) fun k cur fr hk e=>?_;subst e;rw[H5.out.Hj]at hk;grind
  by_cases t5:t=5
  ·subst t5;go_wp2_with fail;refine(sa.out _ _ _ _ _ E4.out).mono ?_;rintro e w2 ⟨rfl,h2⟩;have x2:io w2 w1 1 0:=h2.cell 1;have z2:=h2.free 1;have H2:=fK (h2.tp (by decide) (by decide) 1 (II r0.num.1));clear h2;go_wp2_with fail;refine(sa.out _ _ _ _ _ H2.out).mono ?_;rintro e w3 ⟨rfl,h3⟩;have x3:io w3 w1 4 0:=h3.cell 4;have z3:=h3.free 4;have H3:=fK (h3.tp (by decide) (by decide) 4 (II r0.num.2.num.1));clear h3;go_wp2_with fail;go_meet;refine⟨rfl,ai none 0 0,?_,?_⟩
   ·rw[tG.out];exact H3.out
   ·rw[tG.out];exact ka.nil _
  by_cases t6:t=6
  ·subst t6;go_wp2_with fail;refine(sa.out _ _ _ _ _ E4.out).mono ?_;rintro e w2 ⟨rfl,h2⟩;have H2:=fK h2;clear h2;go_wp2_with fail;go_meet;refine⟨rfl,ai none 0 0,?_,?_⟩
   ·rw[tG.out];exact H2.out
   ·rw[tG.out];exact ka.nil _
  by_cases t7:t=7
  ·subst t7;go_wp2_with fail;refine(sa.out _ _ _ _ _ E4.out).mono ?_;rintro e w2 ⟨rfl,h2⟩;have x2:io w2 w1 5 0:=h2.cell 5;have z2:=h2.free 5;have H2:=fK (h2.tp (by decide) (by decide) 5 (II r0.num.1));clear h2;go_wp2_with fail;go_meet;refine⟨rfl,ai none 0 0,?_,?_⟩
   ·rw[tG.out];exact H2.out
   ·rw[tG.out];exact ka.nil _
  have O0:Hid (sy t r0=(⟨t,0,0,[],0,0⟩,r0.fail)):=by show _=_;unfold sy;grind
  have b0:(t==0)=false:=beq_eq_false_iff_ne.2 t0;have b1:(t==1)=false:=beq_eq_false_iff_ne.2 t1;have b3:(t==3)=false:=beq_eq_false_iff_ne.2 t3;have b4:(t==4)=false:=beq_eq_false_iff_ne.2 t4;have b5:(t==5)=false:=beq_eq_false_iff_ne.2 t5;have b6:(t==6)=false:=beq_eq_false_iff_ne.2 t6;have b7:(t==7)=false:=beq_eq_false_iff_ne.2 t7;clear t0 t1 t3 t4 t5 t6 t7;go_wp2_with fail;refine(Ke.out _ _ _ _ _ _ E4.out (by omega)).mono ?_;rintro e w2 ⟨rfl,h2⟩;have H2:=fK h2;clear h2;go_wp2_with fail;go_meet;refine⟨rfl,ai none 0 0,?_,?_⟩
  ·rw[tG.out,O0.out];exact H2.out
  ·rw[tG.out,O0.out];exact ka.nil _
 case rest=>
  obtain⟨rfl,pv,pH,DL⟩:=hcut;obtain⟨Th,Sk,MG⟩:=pH.rd;have k0:wc.cell? (gf w 0)=some (II 0):=(by simp only[aD,pH.res];rfl);have j0:wc.frozen? (gf w 0)=false:=cx wc _ _ _ _ pH.res;have k1:wc.cell? (gf w 1)=some (II 0):=(by simp only[aD,pH.res];rfl);have j1:wc.frozen? (gf w 1)=false:=cx wc _ _ _ _ pH.res;have k2:wc.cell? (gf w 2)=some (II 0):=(by simp only[aD,pH.res];rfl);have j2:wc.frozen? (gf w 2)=false:=cx wc _ _ _ _ pH.res;have k3:wc.cell? (gf w 3)=some (ai none 0 0):=(by simp only[aD,pH.res];rfl);have j3:wc.frozen? (gf w 3)=false:=cx wc _ _ _ _ pH.res;have k4:wc.cell? (gf w 4)=some (II 0):=(by simp only[aD,pH.res];rfl);have j4:wc.frozen? (gf w 4)=false:=cx wc _ _ _ _ pH.res;have k5:wc.cell? (gf w 5)=some (II 0):=(by simp only[aD,pH.res];rfl);have j5:wc.frozen? (gf w 5)=false:=cx wc _ _ _ _ pH.res;have m0:io wc w1 0 x.1.type:=pH.cell 0;have m1:io wc w1 1 x.1.id:=pH.cell 1;have m2:io wc w1 2 x.1.iP:=pH.cell 2;have m3:lq wc w1 3 (pv):=pH.cell 3;have m4:io wc w1 4 x.1.en:=pH.cell 4;have m5:io wc w1 5 x.1.proof:=pH.cell 5;have IK:w.heap.size+1<wc.heap.size:=Nat.lt_trans pH.ne (bn.1 pH.Hj).1;have IH:w.heap.size≠wc.heap.size:=by omega
  have Q8:w.heap.size+1≠wc.heap.size:=by omega
  have SM:=pH.ne;have vu:=fK pH;have Hb:=fK DL;have Bn:=fK MG;have y1:=MG.c1;have y0:=MG.c0;clear pH DL MG;clear sa HJ Ke E4 tG HG;cases hb:x.2.bad with
  |true=>
   obtain⟨a2,rfl⟩:=Bn.out.sY hb;have HB:=fK hb;clear hb;have Ta:=fun(o:Obj)=>fL k0 (fO wc o);have S6:∀o:Obj,(wc.alloc o).frozen? (gf w 0)=false:=fun o=>by rw[al _ _ (gf w 0) IH];exact j0
   have Tb:=fun(o:Obj)=>fL k1 (fO wc o);have S7:∀o:Obj,(wc.alloc o).frozen? (gf w 1)=false:=fun o=>by rw[al _ _ (gf w 1) IH];exact j1
   have Tc:=fun(o:Obj)=>fL k2 (fO wc o);have S8:∀o:Obj,(wc.alloc o).frozen? (gf w 2)=false:=fun o=>by rw[al _ _ (gf w 2) IH];exact j2
   have Td:=fun(o:Obj)=>fL k3 (fO wc o);have S9:∀o:Obj,(wc.alloc o).frozen? (gf w 3)=false:=fun o=>by rw[al _ _ (gf w 3) IH];exact j3
   have Te:=fun(o:Obj)=>fL k4 (fO wc o);have S':∀o:Obj,(wc.alloc o).frozen? (gf w 4)=false:=fun o=>by rw[al _ _ (gf w 4) IH];exact j4
   have Tf:=fun(o:Obj)=>fL k5 (fO wc o);have S_:∀o:Obj,(wc.alloc o).frozen? (gf w 5)=false:=fun o=>by rw[al _ _ (gf w 5) IH];exact j5
   have J8:Bw wc (wc.alloc (xF a2)):=fO wc _;have OY:(wc.alloc (xF a2)).heap[w.heap.size]? =some (.cells #[II 0,II 0,II 0,ai none 0 0,II 0,II 0] 286 (0,0)):=by rw[J8.block _ (by omega)];exact vu.out.res
   have Md:Hid ((((((((wc.alloc (xF a2)).setCell (gf w 0) (II 0)).setCell (gf w 1) (II 0)).setCell (gf w 2) (II 0)).setCell (gf w 3) (ai none 0 0)).setCell (gf w 4) (II 0)).setCell (gf w 5) (II 0)).heap[w.heap.size]? =some (.cells jE 286 (0,0))):=(fT (fT (fT (fT (fT (fT OY 0 (II 0)) 1 (II 0)) 2 (II 0)) 3 (ai none 0 0)) 4 (II 0)) 5 (II 0));have J3:Hid (gm (· = w.heap.size) (wc.alloc (xF a2)) (((((((wc.alloc (xF a2)).setCell (gf w 0) (II 0)).setCell (gf w 1) (II 0)).setCell (gf w 2) (II 0)).setCell (gf w 3) (ai none 0 0)).setCell (gf w 4) (II 0)).setCell (gf w 5) (II 0))):=((((((go (cb:=w.heap.size) (Below.refl _ _) 0 (II 0)).trans (go (cb:=w.heap.size) (Below.refl _ _) 1 (II 0))).trans (go (cb:=w.heap.size) (Below.refl _ _) 2 (II 0))).trans (go (cb:=w.heap.size) (Below.refl _ _) 3 (ai none 0 0))).trans (go (cb:=w.heap.size) (Below.refl _ _) 4 (II 0))).trans (go (cb:=w.heap.size) (Below.refl _ _) 5 (II 0)));have Nq:Hid (Bw wc (wc.alloc (xF a2))):=fO wc _;clear J8 OY;have Qk:Hid ((wc.alloc (xF a2)).heap[wc.heap.size]? =some (.cells #[.string ⟨#[102,114,97,109,101]⟩,.iface 155 (Pt a2)] 157 (0,0))):=cA wc _;have Kd:wc.heap[w.heap.size]? =some (.cells #[II 0,II 0,II 0,ai none 0 0,II 0,II 0] 286 (0,0)):=vu.out.res;have Qp:Hid ((H0 wc w).heap[w.heap.size]? =some (.cells jE 286 (0,0))):=(fT (fT (fT (fT (fT (fT Kd 0 (II 0)) 1 (II 0)) 2 (II 0)) 3 (ai none 0 0)) 4 (II 0)) 5 (II 0));have OS:Hid (gm (· = w.heap.size) wc (H0 wc w)):=((((((go (cb:=w.heap.size) (Below.refl _ _) 0 (II 0)).trans (go (cb:=w.heap.size) (Below.refl _ _) 1 (II 0))).trans (go (cb:=w.heap.size) (Below.refl _ _) 2 (II 0))).trans (go (cb:=w.heap.size) (Below.refl _ _) 3 (ai none 0 0))).trans (go (cb:=w.heap.size) (Below.refl _ _) 4 (II 0))).trans (go (cb:=w.heap.size) (Below.refl _ _) 5 (II 0)));have O2:Hid ((H0 wc w).heap.size=wc.heap.size):=by show _=_;simp only[World.size_setCell]
   have Qt:Hid (((H0 wc w).alloc (xF a2)).heap[wc.heap.size]? =some (.cells #[.string ⟨#[102,114,97,109,101]⟩,.iface 155 (Pt a2)] 157 (0,0))):=by show _=_;have:=cA (H0 wc w) (xF a2);rw[O2.out]at this;exact this
   have Qs:Hid (((H0 wc w).alloc (xF a2)).heap[w.heap.size]? =some (.cells jE 286 (0,0))):=by show _=_;rw[Below.heap_alloc _ _ _ (by rw[O2.out];omega)];exact Qp.out
   clear Kd;clear m0 m1 m2 m3 m4 m5 y0;go_wp2_with fail;go_region;all_goals go_wp2_with fail
   ·refine cz (v:=(.tuple #[.agg jE,II 0,.iface 155 (Pt wc.heap.size)])) ?g1 rfl ?g3;case g1=>refine hQ (y5:=ab) Tryz.results181 w.heap.size 286 _ (0,0) _ _ _ (by kernel_rfl) (by kernel_rfl) (by kernel_rfl) ?gd underlying286 rfl (by kernel_rfl);rw[heap_drew];exact Md.out
    obtain⟨k,hk,hn⟩:=Bn.out.no HB.out;refine r_.drew ⟨jz (fP vu.out.wo Nq.out) J3.out (ar _),fun _=>⟨k+1,_,rfl,by omega,?_⟩,fun h=>by rw[HB.out]at h;cases h⟩;have hF:∀q cur fr,(wc.alloc (xF a2)).heap[q]? =some (.cells cur 157 fr)->¬q=w.heap.size:=by intro q cur fr hq e;subst e;rw[Nq.out.block _ (by omega),vu.out.res]at hq;grind
    exact pe.gx J3.out hF (k:=k+1) ⟨wc.heap.size,_,_,rfl,Qk.out,hn.below Nq.out⟩
   ·refine cz (v:=(.tuple #[.agg jE,II 0,.iface 155 (Pt wc.heap.size)])) ?q1 rfl ?q3;case q1=>refine hQ (y5:=ab) Tryz.results181 w.heap.size 286 _ (0,0) _ _ _ (by kernel_rfl) (by kernel_rfl) (by kernel_rfl) ?qd underlying286 rfl (by kernel_rfl);rw[heap_drew];exact Qs.out
    obtain⟨k,hk,hn⟩:=Bn.out.no HB.out;refine r_.drew ⟨fP (jz vu.out.wo OS.out (ar _)) (fO _ _),fun _=>⟨k+1,_,rfl,by omega,?_⟩,fun h=>by rw[HB.out]at h;cases h⟩;refine⟨wc.heap.size,_,_,rfl,Qt.out,(hn.gx OS.out fun q cur fr hq e=>?_).below (fO _ _)⟩;subst e;rw[vu.out.res]at hq;grind
  |false=>
   have QZ:=Bn.out.ok hb;subst QZ;have HB:=fK hb;clear hb;obtain⟨_,Ra,ra,rc,rfl,_⟩:=id Bn.out.rd;have P8:IntKind.i64.wrap ((bl:Int)-(x.2.rest.length:Int))=(bl:Int)-(x.2.rest.length:Int):=by have:=Nr.out;rw[dq];omega
   obtain⟨_,_,pa,pc,rfl,_⟩:=id Hb.out;have Md:Hid (((((((wc.setCell (gf w 0) (II x.1.type)).setCell (gf w 1) (II x.1.id)).setCell (gf w 2) (II x.1.iP)).setCell (gf w 3) (.slice pa x.1.bytes.length pc)).setCell (gf w 4) (II x.1.en)).setCell (gf w 5) (II x.1.proof)).heap[w.heap.size]? =some (.cells (vG x.1 (.slice pa x.1.bytes.length pc)) 286 (0,0))):=(fT (fT (fT (fT (fT (fT vu.out.res 0 (II x.1.type)) 1 (II x.1.id)) 2 (II x.1.iP)) 3 (.slice pa x.1.bytes.length pc)) 4 (II x.1.en)) 5 (II x.1.proof));have J3:Hid (gm (· = w.heap.size) wc ((((((wc.setCell (gf w 0) (II x.1.type)).setCell (gf w 1) (II x.1.id)).setCell (gf w 2) (II x.1.iP)).setCell (gf w 3) (.slice pa x.1.bytes.length pc)).setCell (gf w 4) (II x.1.en)).setCell (gf w 5) (II x.1.proof))):=((((((go (cb:=w.heap.size) (Below.refl _ _) 0 (II x.1.type)).trans (go (cb:=w.heap.size) (Below.refl _ _) 1 (II x.1.id))).trans (go (cb:=w.heap.size) (Below.refl _ _) 2 (II x.1.iP))).trans (go (cb:=w.heap.size) (Below.refl _ _) 3 (.slice pa x.1.bytes.length pc))).trans (go (cb:=w.heap.size) (Below.refl _ _) 4 (II x.1.en))).trans (go (cb:=w.heap.size) (Below.refl _ _) 5 (II x.1.proof)));go_wp2_with fail;go_region;go_wp2_with fail;refine cz (v:=(.tuple #[.agg (vG x.1 (.slice pa x.1.bytes.length pc)),II ((bl:Int)-(x.2.rest.length:Int)),.nilIface])) ?h1 rfl ?h3;case h1=>refine hQ (y5:=ab) Tryz.results181 w.heap.size 286 _ (0,0) _ _ _ (by kernel_rfl) (by kernel_rfl) (by kernel_rfl) ?d underlying286 rfl (by kernel_rfl);rw[heap_drew];exact Md.out
   refine r_.drew ⟨jz vu.out.wo J3.out (ar _),fun h=>(by rw[HB.out]at h;cases h),fun _=>⟨_,by rw[Nr.out],?_⟩⟩;refine Hb.out.gx J3.out fun q cur fr hq e=>?_;subst e;rw[vu.out.res]at hq;grind
def sX(d:zh)(size:Int)(tv fv:aM):Array aM:=#[II d.kind,II size,II d.fZ,tv,II d.num,fv]
def kO:Array aM:=#[II 0,II 0,II 0,ai none 0 0,II 0,ai none 0 0]
structure Ab(w:aK)(b:List Int)(x:zh×Rd)(e:Ending)(w':aK):Prop where
 wo:Bw w w'
 bad:x.2.bad=true->∃k c,e=.returned (.tuple #[.agg kO,c])/\(k=2\/k=3)/\pe w' k c
 ok:x.2.bad=false->∃tv fv,e=.returned (.tuple #[.agg (sX x.1 b.length tv fv),.nilIface])/\ka w' tv x.1.tok/\ka w' fv x.1.ky
theorem Ab.drew{b:List Int}{x:zh×Rd}{e:Ending}(h:Ab w b x e W):Ab w b x e W.drew where
 wo:=fQ h.wo 1
 bad:=fun hb=>by obtain⟨k,c,e1,hk,hn⟩:=h.bad hb;exact⟨k,c,e1,hk,hn.below (fQ (Below.refl _ W) 1)⟩
 ok:=fun hb=>by obtain⟨tv,fv,e1,h1,h2⟩:=h.ok hb;exact⟨tv,fv,e1,h1.below (fQ (Below.refl _ W) 1),h2.below (fQ (Below.refl _ W) 1)⟩
def vD(t:Int)(r0:Rd):zh×Rd:=
 if t=1 then(⟨t,r0.num.1,(r0.num.2.num.2.nL r0.num.2.num.1).1,0,(r0.num.2.num.2.nL r0.num.2.num.1).2.rest⟩,(r0.num.2.num.2.nL r0.num.2.num.1).2)
 else if t=2 then(⟨t,r0.num.1,[],r0.num.2.num.1,r0.num.2.num.2.rest⟩,r0.num.2.num.2)
 else(⟨t,0,[],0,r0.rest⟩,r0.fail)
theorem Ds{k:List Int}:pZ k=vD (Rd.kind ⟨k,false⟩).1 (Rd.kind ⟨k,false⟩).2:=rfl
theorem Dt{w3:Rd}:(vD c w3).2.rest=(vD c w3).1.ky:=by
 unfold vD;split
 ·rfl
 ·split<;>rfl
theorem F3{k:List Int}(a:gG k):(0<=(Rd.kind ⟨k,false⟩).1/\(Rd.kind ⟨k,false⟩).1<256)/\gG (Rd.kind ⟨k,false⟩).2.rest:=by
 by_cases c:0<k.length
 ·rw[qI c];exact⟨iY a _,a.drop 1⟩
 ·have b:k=[]:=List.length_eq_zero_iff.1 (by omega);subst b;have d:Rd.kind ⟨[],false⟩=(0,⟨[],true⟩):=by simp[Rd.kind,Rd.nL]
  grind
theorem vo{b:List Int}(he:Env w)(h:ka w bv b):
  aL ab 45 #[bv] w fun e w'=>Ab w b (pZ b) e w':=by
 obtain⟨_,_,ao,cap,rfl,_⟩:=id h;obtain⟨bl,Hm⟩:∃bl,b.length=bl:=⟨_,rfl⟩;have Nr:=fK Hm;have J5:∀W:aK,Bw w W->Env W:=fun W hW=>he.below hW;have wB:Bw w ((w.alloc (.cells kO 107)).alloc (.cells #[.slice ao b.length cap,.nilIface] 151)):=(fO w _).alloc (by simp) _;have HK:=fK (Bh (w.heap.size+1) (.slice ao b.length cap) .nilIface ⟨b,false⟩ ⟨#[107,105,110,100]⟩ (J5 _ wB) ⟨heap_alloc2_new w _ _,h.below wB,fun _=>rfl,fun h=>(by cases h)⟩);obtain⟨Rl,Hl⟩:=F3 h.1;have sa:Hid (∀(W:aK) (fb:Nat) (r:Rd) (fc:Array aM) (s:ByteArray),oj 107 kO w fb r fc W->aL ab 84 #[Pt (w.heap.size+1),.string s] W fun e w'=>e=.returned (II r.num.1)/\oj 107 kO w fb r.num.2 fc w'):=by intro W fb r fc s hW;obtain⟨rv,ev,h1⟩:=hW.rd;refine(wT rv ev r s W (J5 W hW.wo) h1).mono ?_;rintro e w' ⟨rfl,ho⟩;exact⟨rfl,hW.step ho⟩
 have HJ:Hid (∀(W:aK) (fb:Nat) (r:Rd) (fc:Array aM) (s:ByteArray) (c:Int),oj 107 kO w fb r fc W->0<=c/\c<=1073741823->aL ab 85 #[Pt (w.heap.size+1),.string s,II c] W fun e w'=>(∃bv,e=.returned bv/\ka w' bv (r.nL c).1)/\oj 107 kO w fb (r.nL c).2 fc w'):=by intro W fb r fc s c hW hc;obtain⟨rv,ev,h1⟩:=hW.rd;refine(uo rv ev r s c W (J5 W hW.wo) h1 hc.1 hc.2).mono ?_;rintro e w' ⟨h2,ho⟩;exact⟨h2,hW.step ho⟩
 have Ke:Hid (∀(W:aK) (fb:Nat) (r:Rd) (fc:Array aM) (s:ByteArray) (c:Int),oj 107 kO w fb r fc W->0<=c/\c<=1073741823->aL ab 86 #[Pt (w.heap.size+1),.string s,II c] W fun e w'=>e=.returned (.tuple #[])/\oj 107 kO w fb r.fail fc w'):=by intro W fb r fc s c hW hc;obtain⟨rv,ev,h1⟩:=hW.rd;refine(vq rv ev r s c W (J5 W hW.wo) h1 hc.1 (by omega)).mono ?_;rintro e w' ⟨rfl,ho⟩;exact⟨rfl,hW.step ho⟩
 have tG:=fK (Ds (k:=b));have OZ:Hid ((pZ b).2.rest=(pZ b).1.ky):=by show _=_;rw[Ds];exact Dt
 have Mc:Hid (((w.alloc (.cells kO 107)).alloc (.cells #[.slice ao b.length cap,.nilIface] 151)).heap[w.heap.size]? =some (.cells kO 107 (0,0))):=heap_alloc2_old w _ _;have wU:=fK wB;rw[Hm]at HK Mc wU⊢;obtain⟨x,hx⟩:∃x,pZ b=x:=⟨_,rfl⟩;rw[hx]at tG OZ⊢;clear h he wB Hm hx J5;generalize (Rd.kind ⟨b,false⟩).1=t at HK tG Rl;generalize (Rd.kind ⟨b,false⟩).2=r0 at HK tG Hl;have Na:=yo Hl;have g1:=qL Hl;have g2:=qL Na;have HG:=fK (And.intro g1 g2);clear g1 g2 Hl Na;unfold kO at HK Mc wU;go_enter func45,ntmps45;go_wp2_with fail;refine HK.out.mono ?_;rintro e w1 ⟨rfl,Rv,QH,h1,Mz⟩;have E4:Hid (oj 107 kO w w1.heap.size r0 #[II t,II bl,II 0,ai none 0 0,II 0,ai none 0 0] (w1.alloc (.cells #[II t,II bl,II 0,ai none 0 0,II 0,ai none 0 0] 107))):=by
  have IK:w.heap.size+1<w1.heap.size:=by have:=Mz.size;simp at this;omega
  refine⟨fP (jz wU.out Mz (by omega)) (fO _ _),?_,⟨Rv,QH,h1.below (fO _ _)⟩,cA w1 _,IK⟩;rw[Below.heap_alloc _ _ _ (by omega),Mz.block _ (by simp;omega) (show w.heap.size≠w.heap.size+1 from by omega)];exact Mc.out
 clear h1 Mz HK Mc wU;go_upto_block 0 with fail;go_cut [5] from 12 to 29 (fun s5 wx=>s5=Pt w1.heap.size/\∃tv,oj 107 kO w w1.heap.size x.2 (sX x.1 bl tv (ai none 0 0)) wx/\ka wx tv x.1.tok);case first=>
  by_cases t1:t=1
  ·subst t1;go_wp2_with fail;refine(sa.out _ _ _ _ _ E4.out).mono ?_;rintro e w2 ⟨rfl,h2⟩;have x2:io w2 w1 2 0:=h2.cell 2;have z2:=h2.free 2;have H2:=fK (h2.tp (by decide) (by decide) 2 (II r0.num.1));clear h2;go_wp2_with fail;refine(sa.out _ _ _ _ _ H2.out).mono ?_;rintro e w3 ⟨rfl,h3⟩;have H3:=fK h3;clear h3;go_wp2_with fail;refine(HJ.out _ _ _ _ _ _ H3.out HG.out.2).mono ?_;rintro e w4 ⟨⟨pv,rfl,DL⟩,h4⟩;have x4:lq w4 w1 3 (ai none 0 0):=h4.cell 3;have z4:=h4.free 3;obtain⟨_,MF,pa,pc,rfl,_⟩:=id DL;have H4:=fK (h4.tp (by decide) (by decide) 3 (.slice pa (r0.num.2.num.2.nL r0.num.2.num.1).1.length pc));have Hb:=fK (DL.gx (go (cb:=w1.heap.size) (Below.refl _ w4) 3 (.slice pa (r0.num.2.num.2.nL r0.num.2.num.1).1.length pc)) fun k cur fr hk e=>by subst e;rw[h4.Hj]at hk;simp only[Option.some.injEq,Obj.cells.injEq]at hk;exact absurd hk.2.1 (by decide));clear DL h4;go_wp2_with fail;go_meet;refine⟨rfl,.slice pa (r0.num.2.num.2.nL r0.num.2.num.1).1.length pc,?_,?_⟩
   ·rw[tG.out];exact H4.out
   ·rw[tG.out];exact Hb.out
  by_cases t2:t=2
  ·subst t2;go_wp2_with fail;refine(sa.out _ _ _ _ _ E4.out).mono ?_;rintro e w2 ⟨rfl,h2⟩;have x2:io w2 w1 2 0:=h2.cell 2;have z2:=h2.free 2;have H2:=fK (h2.tp (by decide) (by decide) 2 (II r0.num.1));clear h2;go_wp2_with fail;refine(sa.out _ _ _ _ _ H2.out).mono ?_;rintro e w3 ⟨rfl,h3⟩;have x3:io w3 w1 4 0:=h3.cell 4;have z3:=h3.free 4;have H3:=fK (h3.tp (by decide) (by decide) 4 (II r0.num.2.num.1));clear h3;go_wp2_with fail;go_meet;refine⟨rfl,ai none 0 0,?_,?_⟩
   ·rw[tG.out];exact H3.out
   ·rw[tG.out];exact ka.nil _
  have O0:Hid (vD t r0=(⟨t,0,[],0,r0.rest⟩,r0.fail)):=by show _=_;unfold vD;rw[if_neg t1,if_neg t2]
  have b1:(t==1)=false:=beq_eq_false_iff_ne.2 t1;have b2:(t==2)=false:=beq_eq_false_iff_ne.2 t2;clear t1 t2;go_wp2_with fail;refine(Ke.out _ _ _ _ _ _ E4.out (by omega)).mono ?_;rintro e w2 ⟨rfl,h2⟩;have H2:=fK h2;clear h2;go_wp2_with fail;go_meet;refine⟨rfl,ai none 0 0,?_,?_⟩
  ·rw[tG.out,O0.out];exact H2.out
  ·rw[tG.out,O0.out];exact ka.nil _
 case rest=>
  obtain⟨rfl,tv,pH,DL⟩:=hcut;obtain⟨Th,Sk,MG⟩:=pH.rd;have k0:wc.cell? (gf w 0)=some (II 0):=(by simp only[aD,pH.res];rfl);have j0:wc.frozen? (gf w 0)=false:=cx wc _ _ _ _ pH.res;have k1:wc.cell? (gf w 1)=some (II 0):=(by simp only[aD,pH.res];rfl);have j1:wc.frozen? (gf w 1)=false:=cx wc _ _ _ _ pH.res;have k2:wc.cell? (gf w 2)=some (II 0):=(by simp only[aD,pH.res];rfl);have j2:wc.frozen? (gf w 2)=false:=cx wc _ _ _ _ pH.res;have k3:wc.cell? (gf w 3)=some (ai none 0 0):=(by simp only[aD,pH.res];rfl);have j3:wc.frozen? (gf w 3)=false:=cx wc _ _ _ _ pH.res;have k4:wc.cell? (gf w 4)=some (II 0):=(by simp only[aD,pH.res];rfl);have j4:wc.frozen? (gf w 4)=false:=cx wc _ _ _ _ pH.res;have k5:wc.cell? (gf w 5)=some (ai none 0 0):=(by simp only[aD,pH.res];rfl);have j5:wc.frozen? (gf w 5)=false:=cx wc _ _ _ _ pH.res;have IK:w.heap.size+1<wc.heap.size:=Nat.lt_trans pH.ne (bn.1 pH.Hj).1;have IH:w.heap.size≠wc.heap.size:=by omega
  have Q8:w.heap.size+1≠wc.heap.size:=by omega
  have SM:=pH.ne;have vu:=fK pH;have Hb:=fK DL;have Bn:=fK MG;have y1:=MG.c1;have y0:=MG.c0;clear pH DL MG;clear sa HJ Ke E4 tG HG;cases hb:x.2.bad with
  |true=>
   obtain⟨a2,rfl⟩:=Bn.out.sY hb;have HB:=fK hb;clear hb;have Ta:=fun(o:Obj)=>fL k0 (fO wc o);have S6:∀o:Obj,(wc.alloc o).frozen? (gf w 0)=false:=fun o=>by rw[al _ _ (gf w 0) IH];exact j0
   have Tb:=fun(o:Obj)=>fL k1 (fO wc o);have S7:∀o:Obj,(wc.alloc o).frozen? (gf w 1)=false:=fun o=>by rw[al _ _ (gf w 1) IH];exact j1
   have Tc:=fun(o:Obj)=>fL k2 (fO wc o);have S8:∀o:Obj,(wc.alloc o).frozen? (gf w 2)=false:=fun o=>by rw[al _ _ (gf w 2) IH];exact j2
   have Td:=fun(o:Obj)=>fL k3 (fO wc o);have S9:∀o:Obj,(wc.alloc o).frozen? (gf w 3)=false:=fun o=>by rw[al _ _ (gf w 3) IH];exact j3
   have Te:=fun(o:Obj)=>fL k4 (fO wc o);have S':∀o:Obj,(wc.alloc o).frozen? (gf w 4)=false:=fun o=>by rw[al _ _ (gf w 4) IH];exact j4
   have Tf:=fun(o:Obj)=>fL k5 (fO wc o);have S_:∀o:Obj,(wc.alloc o).frozen? (gf w 5)=false:=fun o=>by rw[al _ _ (gf w 5) IH];exact j5
   have J8:Bw wc (wc.alloc (.cells (vw a2) 157)):=fO wc _;have OY:(wc.alloc (.cells (vw a2) 157)).heap[w.heap.size]? =some (.cells #[II 0,II 0,II 0,ai none 0 0,II 0,ai none 0 0] 107 (0,0)):=by rw[J8.block _ (by omega)];exact vu.out.res
   have Md:Hid ((((((((wc.alloc (.cells (vw a2) 157)).setCell (gf w 0) (II 0)).setCell (gf w 1) (II 0)).setCell (gf w 2) (II 0)).setCell (gf w 3) (ai none 0 0)).setCell (gf w 4) (II 0)).setCell (gf w 5) (ai none 0 0)).heap[w.heap.size]? =some (.cells kO 107 (0,0))):=(fT (fT (fT (fT (fT (fT OY 0 (II 0)) 1 (II 0)) 2 (II 0)) 3 (ai none 0 0)) 4 (II 0)) 5 (ai none 0 0));have J3:Hid (gm (· = w.heap.size) (wc.alloc (.cells (vw a2) 157)) (((((((wc.alloc (.cells (vw a2) 157)).setCell (gf w 0) (II 0)).setCell (gf w 1) (II 0)).setCell (gf w 2) (II 0)).setCell (gf w 3) (ai none 0 0)).setCell (gf w 4) (II 0)).setCell (gf w 5) (ai none 0 0))):=((((((go (cb:=w.heap.size) (Below.refl _ _) 0 (II 0)).trans (go (cb:=w.heap.size) (Below.refl _ _) 1 (II 0))).trans (go (cb:=w.heap.size) (Below.refl _ _) 2 (II 0))).trans (go (cb:=w.heap.size) (Below.refl _ _) 3 (ai none 0 0))).trans (go (cb:=w.heap.size) (Below.refl _ _) 4 (II 0))).trans (go (cb:=w.heap.size) (Below.refl _ _) 5 (ai none 0 0)));have Nq:Hid (Bw wc (wc.alloc (.cells (vw a2) 157))):=fO wc _;clear J8 OY;have Qk:Hid ((wc.alloc (.cells (vw a2) 157)).heap[wc.heap.size]? =some (.cells (vw a2) 157 (0,0))):=cA wc _;have Kd:wc.heap[w.heap.size]? =some (.cells #[II 0,II 0,II 0,ai none 0 0,II 0,ai none 0 0] 107 (0,0)):=vu.out.res;have Qp:Hid ((HY wc w).heap[w.heap.size]? =some (.cells kO 107 (0,0))):=(fT (fT (fT (fT (fT (fT Kd 0 (II 0)) 1 (II 0)) 2 (II 0)) 3 (ai none 0 0)) 4 (II 0)) 5 (ai none 0 0));have OS:Hid (gm (· = w.heap.size) wc (HY wc w)):=((((((go (cb:=w.heap.size) (Below.refl _ _) 0 (II 0)).trans (go (cb:=w.heap.size) (Below.refl _ _) 1 (II 0))).trans (go (cb:=w.heap.size) (Below.refl _ _) 2 (II 0))).trans (go (cb:=w.heap.size) (Below.refl _ _) 3 (ai none 0 0))).trans (go (cb:=w.heap.size) (Below.refl _ _) 4 (II 0))).trans (go (cb:=w.heap.size) (Below.refl _ _) 5 (ai none 0 0)));have O2:Hid ((HY wc w).heap.size=wc.heap.size):=by show _=_;simp only[World.size_setCell]
   have Qt:Hid (((HY wc w).alloc (.cells (vw a2) 157)).heap[wc.heap.size]? =some (.cells (vw a2) 157 (0,0))):=by show _=_;have:=cA (HY wc w) (.cells (vw a2) 157);rw[O2.out]at this;exact this
   have Qs:Hid (((HY wc w).alloc (.cells (vw a2) 157)).heap[w.heap.size]? =some (.cells kO 107 (0,0))):=by show _=_;rw[Below.heap_alloc _ _ _ (by rw[O2.out];omega)];exact Qp.out
   clear Kd y0;go_wp2_with fail;go_region;all_goals go_wp2_with fail
   ·refine cz (v:=(.tuple #[.agg kO,.iface 155 (Pt wc.heap.size)])) ?g1 rfl ?g3;case g1=>refine ip (y5:=ab) Tryz.results45 w.heap.size 107 _ (0,0) _ _ (by kernel_rfl) (by kernel_rfl) ?gd underlying107 rfl (by kernel_rfl);rw[heap_drew];exact Md.out
    obtain⟨k,hk,hn⟩:=Bn.out.no HB.out;refine Ab.drew ⟨jz (fP vu.out.wo Nq.out) J3.out (ar _),fun _=>⟨k+1,_,rfl,by omega,?_⟩,fun h=>by rw[HB.out]at h;cases h⟩;have hF:∀q cur fr,(wc.alloc (.cells (vw a2) 157)).heap[q]? =some (.cells cur 157 fr)->¬q=w.heap.size:=by intro q cur fr hq e;subst e;rw[Nq.out.block _ (by omega),vu.out.res]at hq;simp only[Option.some.injEq,Obj.cells.injEq]at hq;exact absurd hq.2.1 (by decide)
    exact pe.gx J3.out hF (k:=k+1) ⟨wc.heap.size,_,_,rfl,Qk.out,hn.below Nq.out⟩
   ·refine cz (v:=(.tuple #[.agg kO,.iface 155 (Pt wc.heap.size)])) ?q1 rfl ?q3;case q1=>refine ip (y5:=ab) Tryz.results45 w.heap.size 107 _ (0,0) _ _ (by kernel_rfl) (by kernel_rfl) ?qd underlying107 rfl (by kernel_rfl);rw[heap_drew];exact Qs.out
    obtain⟨k,hk,hn⟩:=Bn.out.no HB.out;refine Ab.drew ⟨fP (jz vu.out.wo OS.out (ar _)) (fO _ _),fun _=>⟨k+1,_,rfl,by omega,?_⟩,fun h=>by rw[HB.out]at h;cases h⟩;refine⟨wc.heap.size,_,_,rfl,Qt.out,(hn.gx OS.out fun q cur fr hq e=>?_).below (fO _ _)⟩;subst e;rw[vu.out.res]at hq;simp only[Option.some.injEq,Obj.cells.injEq]at hq;exact absurd hq.2.1 (by decide)
  |false=>
   have QZ:=Bn.out.ok hb;subst QZ;have HB:=fK hb;clear hb k0 k1 k2 k3 k4 k5 j0 j1 j2 j3 j4 j5;obtain⟨_,_,ra,rc,rfl,_⟩:=id Bn.out.rd;obtain⟨_,_,pa,pc,rfl,_⟩:=id Hb.out;obtain⟨rl,Ra⟩:∃rl,x.2.rest.length=rl:=⟨_,rfl⟩;obtain⟨pl,MF⟩:∃pl,x.1.tok.length=pl:=⟨_,rfl⟩;rw[Ra]at y0 Bn;rw[MF]at vu Hb;have Qo:=fK Bn.out.rd;have n5:lq wc w1 5 (ai none 0 0):=vu.out.cell 5;have v5:=vu.out.free 5;have zd:=fK (vu.out.tp (by decide) (by decide) 5 (.slice ra rl rc));have Q4:∀u l,ka wc u l->ka (wc.setCell (gf w1 5) (.slice ra rl rc)) u l:=by intro u l hu;refine hu.gx (go (cb:=w1.heap.size) (Below.refl _ wc) 5 (.slice ra rl rc)) fun k cur fr hk e=>?_;subst e;rw[vu.out.Hj]at hk;simp only[Option.some.injEq,Obj.cells.injEq]at hk;exact absurd hk.2.1 (by decide)
   have RG:=fK (Q4 _ _ Hb.out);have RI:=fK (Q4 _ _ Qo.out);clear Q4 Ra MF;generalize Ss:wc.setCell (gf w1 5) (.slice ra rl rc)=W5 at zd RG RI;have St:=fK Ss;have m0:io W5 w1 0 x.1.kind:=zd.out.cell 0;have m1:io W5 w1 1 bl:=zd.out.cell 1;have m2:io W5 w1 2 x.1.fZ:=zd.out.cell 2;have m3:lq W5 w1 3 (.slice pa pl pc):=zd.out.cell 3;have m4:io W5 w1 4 x.1.num:=zd.out.cell 4;have m5:lq W5 w1 5 (.slice ra rl rc):=zd.out.cell 5;have k0:W5.cell? (gf w 0)=some (II 0):=(by simp only[aD,zd.out.res];rfl);have j0:W5.frozen? (gf w 0)=false:=cx W5 _ _ _ _ zd.out.res;have k1:W5.cell? (gf w 1)=some (II 0):=(by simp only[aD,zd.out.res];rfl);have j1:W5.frozen? (gf w 1)=false:=cx W5 _ _ _ _ zd.out.res;have k2:W5.cell? (gf w 2)=some (II 0):=(by simp only[aD,zd.out.res];rfl);have j2:W5.frozen? (gf w 2)=false:=cx W5 _ _ _ _ zd.out.res;have k3:W5.cell? (gf w 3)=some (ai none 0 0):=(by simp only[aD,zd.out.res];rfl);have j3:W5.frozen? (gf w 3)=false:=cx W5 _ _ _ _ zd.out.res;have k4:W5.cell? (gf w 4)=some (II 0):=(by simp only[aD,zd.out.res];rfl);have j4:W5.frozen? (gf w 4)=false:=cx W5 _ _ _ _ zd.out.res;have k5:W5.cell? (gf w 5)=some (ai none 0 0):=(by simp only[aD,zd.out.res];rfl);have j5:W5.frozen? (gf w 5)=false:=cx W5 _ _ _ _ zd.out.res;have Md:Hid (((((((W5.setCell (gf w 0) (II x.1.kind)).setCell (gf w 1) (II bl)).setCell (gf w 2) (II x.1.fZ)).setCell (gf w 3) (.slice pa pl pc)).setCell (gf w 4) (II x.1.num)).setCell (gf w 5) (.slice ra rl rc)).heap[w.heap.size]? =some (.cells (sX x.1 bl (.slice pa pl pc) (.slice ra rl rc)) 107 (0,0))):=(fT (fT (fT (fT (fT (fT zd.out.res 0 (II x.1.kind)) 1 (II bl)) 2 (II x.1.fZ)) 3 (.slice pa pl pc)) 4 (II x.1.num)) 5 (.slice ra rl rc));have J3:Hid (gm (· = w.heap.size) W5 ((((((W5.setCell (gf w 0) (II x.1.kind)).setCell (gf w 1) (II bl)).setCell (gf w 2) (II x.1.fZ)).setCell (gf w 3) (.slice pa pl pc)).setCell (gf w 4) (II x.1.num)).setCell (gf w 5) (.slice ra rl rc))):=((((((go (cb:=w.heap.size) (Below.refl _ _) 0 (II x.1.kind)).trans (go (cb:=w.heap.size) (Below.refl _ _) 1 (II bl))).trans (go (cb:=w.heap.size) (Below.refl _ _) 2 (II x.1.fZ))).trans (go (cb:=w.heap.size) (Below.refl _ _) 3 (.slice pa pl pc))).trans (go (cb:=w.heap.size) (Below.refl _ _) 4 (II x.1.num))).trans (go (cb:=w.heap.size) (Below.refl _ _) 5 (.slice ra rl rc)));go_wp2_with fail;refine cz (v:=(.tuple #[.agg (sX x.1 bl (.slice pa pl pc) (.slice ra rl rc)),.nilIface])) ?h1 rfl ?h3;case h1=>refine ip (y5:=ab) Tryz.results45 w.heap.size 107 _ (0,0) _ _ (by kernel_rfl) (by kernel_rfl) ?d underlying107 rfl (by kernel_rfl);exact Md.out
   have hF:∀q cur fr,W5.heap[q]? =some (.cells cur 5 fr)->¬q=w.heap.size:=by intro q cur fr hq e;subst e;rw[zd.out.res]at hq;simp only[Option.some.injEq,Obj.cells.injEq]at hq;exact absurd hq.2.1 (by decide)
   refine⟨jz zd.out.wo J3.out (ar _),fun h=>(by rw[HB.out]at h;cases h),fun _=>⟨_,_,by rw[Nr.out],RG.out.gx J3.out hF,?_⟩⟩;rw[<-OZ.out];exact RI.out.gx J3.out hF
structure jt(U:Nat->Prop)(w:aK)(b:Nat)(lv:aM)(nH:Int)(x:gs):Prop where
 gK:w.heap[b]? =some (.cells #[lv,II x.read,II x.fW,II x.fS,II nH,II (max x.final 0),.bool (decide (0<=x.final)),.bool x.reset] 204 (0,0))
 runs:∃vs,iy w lv vs (hT x.read x.bytes)/\∀v∈vs,rI v.2/\∀g,v.2.ownBlock=some g->U g
theorem jt.lt(h:jt L w a e c x):a<w.heap.size:=(bn.1 h.gK).1
theorem jt.own(h:jt L w a e c x):∃b,w.ownsRow 0 259 2 e b.length (gy b):=by obtain⟨b,d,_⟩:=h.runs;exact⟨b,d.own⟩
theorem jt.cell(h:jt L w a e c x)(i:Nat):w.cell? (Ad a i)=(#[e,II x.read,II x.fW,II x.fS,II c,II (max x.final 0),.bool (decide (0<=x.final)),.bool x.reset]:Array aM)[i]?:=by simp only[aD,h.gK];rfl
theorem jt.gx(h:jt L w a e c x)(d:gm F w b)(h1:¬F a)(h2:∀g,e.ownBlock=some g->¬F g)(m:∀j k l,w.heap[j]? =some (.cells k 5 l)->¬F j):jt L b a e c x:=by obtain⟨s,f,n⟩:=h.runs;refine⟨by rw[d.block a h.lt h1];exact h.gK,s,⟨gM f.own d h2,f.sh,fun i q r o p=>(f.ro i q r o p).gx d m⟩,n⟩
theorem jt.below(h:jt L w a e c x)(d:Bw w b):jt L b a e c x:=h.gx (F:=fun _=>False) (gm.fU d) (fun h=>h) (fun _ _ h=>h) (fun _ _ _ _ h=>h)
theorem jt.mono{u7:Nat->Prop}(h:jt L w a e c x)(k:∀g,L g->u7 g):jt u7 w a e c x:=by obtain⟨n,m,d⟩:=h.runs;exact⟨h.gK,n,m,fun j f=>⟨(d j f).1,fun b l=>k b ((d j f).2 b l)⟩⟩
theorem tT{base:Int}(h0:0<=base)(hl:base+l.length<=1099511627776)(hc:(hT base l).length<=100):kE (hT base l) where
 wf:=qU l base
 tz:=hc
 L5:=fun r hr=>by have h1:=oz l base r hr;have h2:=JE (k:=l) base r hr;omega
theorem iA.fit(h:iA c x)(b:c<=8):kE (hT x.read x.bytes):=by
 refine tT h.read ?_ ?_
 ·have:=h.len;have:=h.rn;omega
 ·have a:=kZ x.bytes x.read;have:=h.qb;omega
theorem ka.cap(h:ka w v l):∀a cap,v=.slice a l.length cap->l.length<=cap/\cap<=9223372036854775807:=by obtain⟨_,_,a,cap,rfl,b,c,_⟩:=h;grind
structure Bk(U F:Nat->Prop)(w:aK)(b:Nat)(lv:aM)(nH:Int)(r:Int×gs)(e:Ending)(w':aK):Prop where
 ret:e=.returned (II r.1)
 gx:gm F w w'
 str:r.1=0->∃rY,jt (fun k=>U k\/(w.heap.size<=k/\k<w'.heap.size)) w' b rY nH r.2/\(rY.ownBlock=lv.ownBlock\/∀g,rY.ownBlock=some g->w.heap.size<=g)
theorem LN{g l u:Int}{P:jJ}{N:gs}{x:Int}(y:jt L b a e c N)(f:iA g N)(Z:N.done=false)(X:u<=l)(O:0<=g/\g<=8)(b1:P.type=3\/P.type=4\/P.type=5)(I:P.type=5->P.bytes=[])(a6:0<=P.iP/\P.iP<=1073741823)(a3:P.bytes.length<=1073741823)(z:ka b h P.bytes):
  aL ab 217 #[Pt a,ox P.type P.id (if P.type=5 then 0 else P.iP) h (P.iP+P.bytes.length) x,II (l-u),II g] b fun H G=>Bk L (fun S=>S=a\/e.ownBlock=some S) b a e c (gt g l u P N) H G:=by
 obtain⟨c9,a8,a1⟩:=y.runs;have j:=Cy (c:=g) (g:=l) (l:=u) (P:=P) z.1 f Z X b1 I a6.1;have m:=Hs f (P:=P) z.1 I;simp only at j m;have Q:0<=(if P.type=5 then 0 else P.iP)/\(if P.type=5 then 0 else P.iP)<=1073741823:=by split<;>omega
 obtain⟨s,a7⟩:∃s,(if P.type=5 then 0 else P.iP)=s:=⟨_,rfl⟩;rw[a7]at j m Q⊢;have c4:=f.len;have c2:=f.rn;have a9:=f.read;have b9:=kZ N.bytes N.read;have c3:=f.qb;obtain⟨r,C⟩:∃r,u' N.reset (hT N.read N.bytes) (s+mQ N.read s P.bytes) (P.bytes.drop (mQ N.read s P.bytes)) g=r:=⟨_,rfl⟩;rw[C]at j m;have M:r.1=0->kE r.2:=by
  intro d;have a4:(r.2.length:Int)<=g:=by rw[<-C]at d⊢;unfold u' at d⊢;grind
  by_cases J:P.type≠5/\N.reset=false
  ·obtain⟨v,k⟩:=m.1 J;have W:=k d;rw[W]at a4⊢;refine tT a9 ?_ (by omega);have b8:((ij g N P.iP P.bytes).2.bytes.length:Int)<=2147483647:=by
    unfold ij;split
    ·simp only;omega
    ·next c6 a5=>
     have:=rE a5;split<;>simp only<;>omega
   omega
  ·rw[m.2 J];exact f.fit O.2
 refine(JP y.gK a8 (f.fit O.2) a1 z.ro z.cap (by omega) Q a3 (by omega) (by omega) rfl rfl C.symm M).mono ?_;rintro H G ⟨rfl,Y,b0⟩;refine⟨by rw[j.1],Y,fun d=>?_⟩;rw[j.1]at d;have A:Du (decide (0<=N.final)) P.type (P.iP+P.bytes.length) N.fW (max N.final 0)=0:=by omega
 rw[if_neg (by rw[A];decide)]at d;have B:pO N.fW N.fS (P.iP+P.bytes.length) (l-u)=0:=by omega
 rw[if_neg (by rw[B];decide)]at d;obtain⟨T,E,n⟩:=b0 A B d;obtain⟨D,b3,U,c7,c8,b4,b5⟩:=j.2 A B d _ rfl;generalize (gt g l u P N).2=V at *
 have o:=n.gK;have q:=n.runs;have b2:kf (if P.type=5/\iJ r.2 N.read (P.iP+P.bytes.length)=false then [] else r.2):=by
  split
  ·exact trivial
  ·exact(M d).wf
 have K:∀t∈E,rI t.2/\∀w,t.2.ownBlock=some w->L w\/(b.heap.size<=w/\w<G.heap.size):=by intro t R;have b6:=n.Kv t R;have b7:=q.pT b2 t R;grind
 have c5:kN P.type=true->(if kN P.type=true then P.iP+(P.bytes.length:Int) else N.final)=P.iP+P.bytes.length:=fun y=>if_pos y;have a0:(if kN P.type=true then P.iP+(P.bytes.length:Int) else max N.final 0)=max V.final 0:=by grind
 have a2:(if kN P.type=true then true else decide (0<=N.final))=decide (0<=V.final):=by grind
 rw[a0,a2,<-b3]at o;by_cases p:P.type=5/\iJ r.2 N.read (P.iP+P.bytes.length)=false
 ·obtain⟨v,k⟩:=b4 p.1 p.2;rw[if_pos p]at o q;refine⟨T,⟨?_,E,?_,K⟩,n.at_⟩
  ·rw[D,U,v];exact o
  ·rw[k];exact q
 ·obtain⟨v,k⟩:=b5 p;rw[if_neg p]at o q;refine⟨T,⟨?_,E,?_,K⟩,n.at_⟩
  ·rw[D,U,v];exact o
  ·rw[D,k];exact q
end Go.Proofs.YthmdjhlhodpbhaaGreatDoor
