/- Apart, 1 -/
import Derived.WalkKit
import Derived.Laws.CopyRow
import Derived.Laws.AppendOwn
import Derived.Laws.IdiomCopy
import Derived.ArgAppend
import Derived.Deep.RegionLaw
import Derived.Deep.QuietTactic
import Derived.BigQuiet
import Derived.Deep.CutRange
import Derived.Deep.RegionHeld3
import Derived.Lib.ItoaLen
import Derived.Test.YthmdjhlhodpbhaaGreatDoorA00
import Derived.Test.YthmdjhlhodpbhaaGreatDoorShelf
set_option maxHeartbeats 16000000
set_option maxRecDepth 8000
namespace Go.Proofs.YthmdjhlhodpbhaaGreatDoor
open Go.RowKit
def ar(l:List Value)(o:Nat)(cs:List Value):List Value:=l.take o++cs++l.drop (o+cs.length)
theorem aG{l:List Value}{o:Nat}{cs:List Value}(h:o+cs.length<=l.length):(ar l o cs).length=l.length:=by
 unfold ar
 simp only[List.length_append,List.length_take,List.length_drop]
 omega
theorem di{l:List Value}{o:Nat}{cs:List Value}(h:o+cs.length<=l.length)(i:Nat):(ar l o cs)[i]? =if o<=i/\i<o+cs.length then cs[i-o]? else l[i]?:=by
 unfold ar
 rw[List.append_assoc]
 rcases Nat.lt_or_ge i o with h1|h1
 ·rw[if_neg (by omega),List.getElem?_append_left (by simp;omega),List.getElem?_take_of_lt h1]
 ·rw[List.getElem?_append_right (by simp;omega),List.length_take,Nat.min_eq_left (by omega)]
  rcases Nat.lt_or_ge (i-o) cs.length with h2|h2
  ·rw[if_pos (by omega),List.getElem?_append_left h2]
  ·rw[if_neg (by omega),List.getElem?_append_right h2,List.getElem?_drop]
   congr 1
   omega
section
variable {P : Program}
theorem bB(w:World)(dT sT ty elem:TypeId)(g o dLen dCap:Nat)(a:Addr)(sLen sCap:Nat)(cur:Array Value)(t:TypeId)(cs:List Value)(sz:Nat)
  (hu:P.underlying dT=some (.slice elem)) (hs:(P.info? elem).map (·.size)=some sz)
  (hg:w.heap[g]? =some (.cells cur t (0,0))) (hn:cs.length=Nat.min sLen dLen*sz)
  (hsrc:∀j v,cs[j]? =some v->w.cell? (a.add j)=some v) (hfit:o+cs.length<=cur.size) (h1:∀v∈cs,v.oneCell'=true):
  (Builtin.copy_ #[dT,sT] ty #[.slice (some ⟨g,o,none⟩) dLen dCap,.slice (some a) sLen sCap]).run P w =
   .ok (goInt (Nat.min sLen dLen)) (w.setRow g (ar cur.toList o cs).toArray):=by
 have hst:=run_storeCells_at P g o t cs 0 cur w hg (by simpa using hfit) h1
 cases hq:P.info? elem with
 |none=>simp[hq]at hs
 |some i=>
  have hi:i.size=sz:=by simpa[hq] using hs
  have hf:=run_firstCells_some (P:=P) w i.size (Nat.min sLen dLen) a sLen sCap cs (by rw[hi];exact hn) hsrc
  simp[Builtin.copy_,run_underlying hu,Builtin.lenOf,sizeOf,typeInfo,hq,hf,hst,ar]
theorem rn(z:Array Value)(n:Nat):(Builtin.zeroCells z n).toList=(List.replicate n z.toList).flatten:=by
 induction n with
 |zero=>simp[Builtin.zeroCells]
 |succ n ih=>
  apply List.ext_getElem?
  intro i
  have hl:(Builtin.zeroCells z (n+1)).toList.length=(n+1)*z.size:=by simp[Builtin.zeroCells]
  have hl2:(List.replicate (n+1) z.toList).flatten.length=(n+1)*z.size:=by simp
  rcases Nat.lt_or_ge i ((n+1)*z.size) with hi|hi
  ·have hz:0<z.size:=by
    rcases Nat.eq_zero_or_pos z.size with h|h
    ·rw[h]at hi;simp at hi
    ·exact h
   have e1:(Builtin.zeroCells z (n+1)).toList[i]? =some z[i%z.size]!:=by
    simp[Builtin.zeroCells,List.getElem?_map,List.getElem?_range hi]
   rw[e1,List.replicate_succ,List.flatten_cons]
   rcases Nat.lt_or_ge i z.size with h1|h1
   ·rw[List.getElem?_append_left (by simpa using h1),Nat.mod_eq_of_lt h1]
    simp[h1]
   ·rw[List.getElem?_append_right (by simpa using h1),<-ih]
    have e2:(Builtin.zeroCells z n).toList[i-z.toList.length]? =some z[(i-z.size)%z.size]!:=by
     have:i-z.size<n*z.size:=by rw[Nat.add_mul]at hi;omega
     simp[Builtin.zeroCells,List.getElem?_map,List.getElem?_range this]
    rw[e2,Nat.mod_eq_sub_mod h1]
  ·rw[List.getElem?_eq_none (by omega),List.getElem?_eq_none (by omega)]
theorem iI(w:World)(t e ty:TypeId)(z:Value)(ht:P.underlying t=some (.slice e))(hv:(zeroValue e).run P w=.ok z w)(g o n c:Nat)(hn:0<n)(cur:Array Value)(et:TypeId)(hg:w.heap[g]? =some (.cells cur et (0,0)))
  (hfit:o+n*z.cells.size<=cur.size) (h1:∀v∈z.cells.toList,v.oneCell'=true):
  (Builtin.clear_ #[t] ty #[.slice (some ⟨g,o,none⟩) n c]).run P w=.ok (.tuple #[]) (w.setRow g (ar cur.toList o (List.replicate n z.cells.toList).flatten).toArray):=by
 have hzc:=rn z.cells n
 have hlen:(List.replicate n z.cells.toList).flatten.length=n*z.cells.size:=by simp
 have hst:=run_storeCells_at P g o et (List.replicate n z.cells.toList).flatten 0 cur w hg (by rw[hlen];simpa using hfit) (by
  intro v hv'
  obtain⟨l,hl,hvl⟩:=List.mem_flatten.1 hv'
  rw[List.eq_of_mem_replicate hl]at hvl
  exact h1 v hvl)
 obtain⟨m,rfl⟩:∃m,n=m+1:=⟨n-1,by omega⟩
 simp only[Nat.add_zero]at hst
 simp[Builtin.clear_,run_underlying ht,hv,hzc,hst,ar]
theorem dF{w:World}{ops:Array Oper}{rest:List Oper}{o:Oper}{a:Act}{Q:Exit->Act->World->Prop}(hgd:o.guard=none)(d s:Operand)(t t':TypeId)
  (ho:o.op=.call {callee:=.builtin .copy,args:=#[d,s],argTypes:=#[t,t']}) (v u:Value) (hd:a.eval d=v) (hs:a.eval s=u) {v':Value} {w':World}
  (hr:(Builtin.copy_ #[t,t'] o.type #[v,u]).run P w=.ok v' w') (h:wpList P ops Q rest (a.put o.dst v') w'):wpList P ops Q (o::rest) a w:=by
 refine wpList_plain hgd fun K hK=>?_
 unfold Oper.wp execOp
 simp only[ho,resolve,invoke,builtin,Sem.run_bind,Sem.run_pure,Result.andThen_ok,List.map_toArray,List.map_cons,List.map_nil,hd,hs,hr]
 exact hK _ _ h
theorem bV{w:World}{ops:Array Oper}{rest:List Oper}{o:Oper}{a:Act}{Q:Exit->Act->World->Prop}(hgd:o.guard=none)(d:Operand)(t:TypeId)
  (ho:o.op=.call {callee:=.builtin .clear,args:=#[d],argTypes:=#[t]}) (v:Value) (hd:a.eval d=v) {v':Value} {w':World}
  (hr:(Builtin.clear_ #[t] o.type #[v]).run P w=.ok v' w') (h:wpList P ops Q rest (a.put o.dst v') w'):wpList P ops Q (o::rest) a w:=by
 refine wpList_plain hgd fun K hK=>?_
 unfold Oper.wp execOp
 simp only[ho,resolve,invoke,builtin,Sem.run_bind,Sem.run_pure,Result.andThen_ok,List.map_toArray,List.map_cons,List.map_nil,hd,hr]
 exact hK _ _ h
theorem aS{w:World}{ops:Array Oper}{rest:List Oper}{o:Oper}{a:Act}{Q:Exit->Act->World->Prop}(hgd:o.guard=none)(s x:Operand)(t tn:TypeId)
  (ho:o.op=.call {callee:=.builtin .append,args:=#[s,x],argTypes:=#[t,tn]}) (vs vx:Value) (hs:a.eval s=vs) (hx:a.eval x=vx)
  {v':Value} {w':World} (hr:(Builtin.append_ #[t,tn] o.type #[vs,vx]).run P w=.ok v' w') (h:wpList P ops Q rest (a.put o.dst v') w'):wpList P ops Q (o::rest) a w:=by
 refine wpList_plain hgd fun K hK=>?_
 unfold Oper.wp execOp
 simp only[ho,resolve,invoke,builtin,Sem.run_bind,Sem.run_pure,Result.andThen_ok,List.map_toArray,List.map_cons,List.map_nil,hs,hx,hr]
 exact hK _ _ h
theorem cq{ops:Array Oper}{o:Oper}{a:Act}{w:World}{K:Act->World->Prop}{Q:Exit->Act->World->Prop}{E:Prop}
  (hg:o.guard=none) (d x:Operand) (dT sT:TypeId) (hop:o.op=Op.call {callee:=Callee.builtin Builtin.copy,args:=#[d,x],argTypes:=#[dT,sT]})
  (v u:Value) (hd:a.eval d=v) (hx:a.eval x=u) {v':Value} {w':World} (hr:(Builtin.copy_ #[dT,sT] o.type #[v,u]).run P w=.ok v' w') (hK:K (a.put o.dst v') w'):
  if Region.wanted o (yielded ops a.tmps)=true then Oper.wp P o a w K Q else E:=by
 have hw:Region.wanted o (yielded ops a.tmps)=true:=by simp[Region.wanted,hg]
 rw[if_pos hw]
 unfold Oper.wp
 simp[execOp,hop,resolve,invoke,builtin,hd,hx,hr,Result.andThen]
 exact hK
theorem fI{ops:Array Oper}{o:Oper}{a:Act}{w:World}{K:Act->World->Prop}{Q:Exit->Act->World->Prop}{E:Prop}
  (hg:o.guard=none) (d x:Operand) (dT sT:TypeId) (hop:o.op=Op.call {callee:=Callee.builtin Builtin.append,args:=#[d,x],argTypes:=#[dT,sT]})
  (v u:Value) (hd:a.eval d=v) (hx:a.eval x=u) {v':Value} {w':World} (hr:(Builtin.append_ #[dT,sT] o.type #[v,u]).run P w=.ok v' w') (hK:K (a.put o.dst v') w'):
  if Region.wanted o (yielded ops a.tmps)=true then Oper.wp P o a w K Q else E:=by
 have hw:Region.wanted o (yielded ops a.tmps)=true:=by simp[Region.wanted,hg]
 rw[if_pos hw]
 unfold Oper.wp
 simp[execOp,hop,resolve,invoke,builtin,hd,hx,hr,Result.andThen]
 exact hK
end
theorem kX{a b:World}(h:a.heap=b.heap)(g:Nat)(r:Array Value):(a.setRow g r).heap=(b.setRow g r).heap:=by simp[World.setRow,h]
abbrev bn:=Int×Value
def aC(l:List bn):List Value:=l.flatMap fun r=>[.int .i64 r.1,r.2]
theorem aE(l:List bn):(aC l).length=l.length*2:=by
 induction l with
 |nil=>rfl
 |cons a r ih=>simp only[aC,List.flatMap_cons,List.length_append]at ih⊢;rw[ih];simp;omega
theorem eG(a b:List bn):aC (a++b)=aC a++aC b:=by simp[aC]
theorem de(a:bn)(b:List bn):aC (a::b)=[.int .i64 a.1,a.2]++aC b:=by simp[aC]
theorem iP(l:List bn):∀i,aC (l.take i)=(aC l).take (i*2):=by
 induction l with
 |nil=>intro i;simp[aC]
 |cons a r ih=>
  intro i
  cases i with
  |zero=>simp[aC]
  |succ i=>rw[List.take_succ_cons,de,de,ih,show(i+1)*2=i*2+2 from by omega];rfl
theorem iO(l:List bn):∀i,aC (l.drop i)=(aC l).drop (i*2):=by
 induction l with
 |nil=>intro i;simp[aC]
 |cons a r ih=>
  intro i
  cases i with
  |zero=>simp
  |succ i=>rw[List.drop_succ_cons,de,ih,show(i+1)*2=i*2+2 from by omega];rfl
theorem eH{l:List bn}:∀{k:Nat} {r:bn},l[k]? =some r->(aC l)[k*2]? =some (.int .i64 r.1)/\(aC l)[k*2+1]? =some r.2:=by
 induction l with
 |nil=>intro k r h;simp at h
 |cons a t ih=>
  intro k r h
  rw[de]
  cases k with
  |zero=>simp at h;subst h;simp
  |succ k=>
   rw[List.getElem?_cons_succ]at h
   obtain⟨h1,h2⟩:=ih h
   refine⟨?_,?_⟩
   ·rw[List.getElem?_append_right (by simp;omega)]
    rw[show(k+1)*2-[Value.int .i64 a.1,a.2].length=k*2 from by simp;omega]
    exact h1
   ·rw[List.getElem?_append_right (by simp;omega)]
    rw[show(k+1)*2+1-[Value.int .i64 a.1,a.2].length=k*2+1 from by simp;omega]
    exact h2
theorem eR{l:List bn}(h:∀r∈l,r.2.oneCell'=true):∀u∈aC l,u.oneCell'=true:=by
 intro u hu
 obtain⟨r,hr,hu⟩:=List.mem_flatMap.1 hu
 simp only[List.mem_cons,List.not_mem_nil,or_false]at hu
 rcases hu with rfl|rfl
 ·rfl
 ·exact h r hr
theorem uZ{cur cs xc:List Value}{a:Nat}(h:cur.take cs.length=cs)(ha:a<=cs.length)(hl:cs.length+xc.length<=cur.length):
  (ar (ar cur (a+xc.length) (cs.drop a)) a xc).take (cs.length+xc.length)=cs.take a++xc++cs.drop a:=by
 have hd:(cs.drop a).length=cs.length-a:=List.length_drop
 have e1:=aG (l:=cur) (o:=a+xc.length) (cs:=cs.drop a) (by rw[hd];omega)
 have hc:∀i,i<cs.length->cur[i]? =cs[i]?:=fun i hi=>by rw[<-h,List.getElem?_take_of_lt hi]
 apply List.ext_getElem?
 intro i
 rcases Nat.lt_or_ge i (cs.length+xc.length) with hi|hi
 ·rw[List.getElem?_take_of_lt hi,di (by rw[e1];omega),di (by rw[hd];omega),List.append_assoc]
  rcases Nat.lt_or_ge i a with h1|h1
  ·rw[if_neg (by omega),if_neg (by omega),List.getElem?_append_left (by simp;omega),List.getElem?_take_of_lt h1]
   exact hc i (by omega)
  ·rw[List.getElem?_append_right (by simp;omega),List.length_take,Nat.min_eq_left ha]
   rcases Nat.lt_or_ge i (a+xc.length) with h2|h2
   ·rw[if_pos ⟨h1,h2⟩,List.getElem?_append_left (by omega)]
   ·rw[if_neg (by omega),if_pos (by rw[hd];omega),List.getElem?_append_right (by omega)]
    congr 1
    omega
 ·rw[List.getElem?_eq_none (by simp;omega),List.getElem?_eq_none (by simp;omega)]
theorem vC{cur cs xc zs:List Value}{a b:Nat}(h:cur.take cs.length=cs)(hab:a+xc.length<=b)(hb:b<=cs.length)(hl:cs.length<=cur.length)(hz:zs.length=b-a-xc.length):
  (ar (ar (ar cur a xc) (a+xc.length) (cs.drop b)) (a+xc.length+(cs.length-b)) zs).take (a+xc.length+(cs.length-b))=cs.take a++xc++cs.drop b:=by
 have hd:(cs.drop b).length=cs.length-b:=List.length_drop
 have e0:=aG (l:=cur) (o:=a) (cs:=xc) (by omega)
 have e1:=aG (l:=ar cur a xc) (o:=a+xc.length) (cs:=cs.drop b) (by rw[hd,e0];omega)
 have hc:∀i,i<cs.length->cur[i]? =cs[i]?:=fun i hi=>by rw[<-h,List.getElem?_take_of_lt hi]
 apply List.ext_getElem?
 intro i
 rcases Nat.lt_or_ge i (a+xc.length+(cs.length-b)) with hi|hi
 ·rw[List.getElem?_take_of_lt hi,di (by rw[e1,e0,hz];omega),if_neg (by omega),di (by rw[hd,e0];omega),di (by omega),List.append_assoc]
  rcases Nat.lt_or_ge i a with h1|h1
  ·rw[if_neg (by omega),if_neg (by omega),List.getElem?_append_left (by simp;omega),List.getElem?_take_of_lt h1]
   exact hc i (by omega)
  ·rw[List.getElem?_append_right (by simp;omega),List.length_take,Nat.min_eq_left (by omega)]
   rcases Nat.lt_or_ge i (a+xc.length) with h2|h2
   ·rw[if_neg (by omega),if_pos ⟨h1,h2⟩,List.getElem?_append_left (by omega)]
   ·rw[if_pos (by rw[hd];omega),List.getElem?_append_right (by omega)]
    congr 1
    omega
 ·rw[List.getElem?_eq_none (by simp;omega),List.getElem?_eq_none (by simp;omega)]
theorem cS{w:World}{a:Addr}{v:Value}(h:w.cell? a=some v):a.block<w.heap.size:=by
 rcases Nat.lt_or_ge a.block w.heap.size with h1|h1
 ·exact h1
 ·simp[World.cell?,Array.getElem?_eq_none h1]at h
structure Chg(F:Nat->Prop)(w w':World):Prop where
 os:w'.os=w.os
 tape:w'.tape=w.tape
 output:w'.output=w.output
 size:w.heap.size<=w'.heap.size
 block:∀k,k<w.heap.size->¬F k->w'.heap[k]? =w.heap[k]?
theorem Chg.refl(F:Nat->Prop)(w:World):Chg F w w:=⟨rfl,rfl,rfl,Nat.le_refl _,fun _ _ _=>rfl⟩
theorem Chg.trans{F:Nat->Prop}{a b c:World}(h:Chg F a b)(k:Chg F b c):Chg F a c:=
 ⟨k.os.trans h.os,k.tape.trans h.tape,k.output.trans h.output,Nat.le_trans h.size k.size,fun i hi hn=>(k.block i (Nat.lt_of_lt_of_le hi h.size) hn).trans (h.block i hi hn)⟩
theorem Chg.of_below{F:Nat->Prop}{w w':World}(h:Below w.heap.size w w'):Chg F w w':=⟨h.os,h.tape,h.output,h.size,fun k hk _=>h.block k hk⟩
theorem Chg.mono{F G:Nat->Prop}{w w':World}(h:Chg F w w')(hfg:∀k,k<w.heap.size->F k->G k):Chg G w w':=⟨h.os,h.tape,h.output,h.size,fun k hk hn=>h.block k hk (fun hf=>hn (hfg k hk hf))⟩
def Ro(w:World)(e:TypeId)(v:Value)(n:Nat)(cs:List Value):Prop:=
 ∃ao cap,v=.slice ao n cap/\(0<n->∃b off cur fr,ao=some ⟨b,off,none⟩/\w.heap[b]? =some (.cells cur e fr)/\∀j,j<cs.length->cur[off+j]? =cs[j]?)/\(ao=none->cap=0)
theorem Ro.chg{F:Nat->Prop}{w w':World}{e:TypeId}{v:Value}{n:Nat}{cs:List Value}(h:Ro w e v n cs)(hc:Chg F w w')(hF:∀k cur fr,w.heap[k]? =some (.cells cur e fr)->¬F k):Ro w' e v n cs:=by
 obtain⟨ao,cap,rfl,hp,hz⟩:=h
 refine⟨ao,cap,rfl,fun hn=>?_,hz⟩
 obtain⟨b,off,cur,fr,rfl,hb,hcs⟩:=hp hn
 exact⟨b,off,cur,fr,rfl,by rw[hc.block b (aLt hb) (hF b cur fr hb)];exact hb,hcs⟩
theorem Ro.below{w w':World}{e:TypeId}{v:Value}{n:Nat}{cs:List Value}(h:Ro w e v n cs)(hb:Below w.heap.size w w'):Ro w' e v n cs:=h.chg (F:=fun _=>False) (Chg.of_below hb) (fun _ _ _ _ h=>h)
theorem Ro.of_own{w:World}{base:Nat}{e:TypeId}{size:Nat}{v:Value}{n:Nat}{xs:List Value}(h:w.ownsRow base e size v n xs):Ro w e v n xs:=by
 obtain⟨hl,⟨rfl,rfl⟩|⟨g,cap,cur,rfl,_,hg,_,_,_,ht⟩⟩:=h
 ·exact⟨none,0,rfl,fun h=>absurd h (by decide),fun _=>rfl⟩
 ·refine⟨_,cap,rfl,fun _=>⟨g,0,cur,_,rfl,hg,fun j hj=>?_⟩,fun h=>by simp at h⟩
  rw[Nat.zero_add,<-ht,List.getElem?_take,if_pos (by omega)]
  simp
def Rx(w:World)(v:Value)(n:Nat)(cs:List Value):Prop:=
 ∃ao cap,v=.slice ao n cap/\(0<n->∃b off cur e fr,ao=some ⟨b,off,none⟩/\w.heap[b]? =some (.cells cur e fr)/\∀j,j<cs.length->cur[off+j]? =cs[j]?)/\(ao=none->cap=0)
theorem Rx.below{w w':World}{v:Value}{n:Nat}{cs:List Value}(h:Rx w v n cs)(hb:Below w.heap.size w w'):Rx w' v n cs:=by
 obtain⟨ao,cap,rfl,hp,hz⟩:=h
 refine⟨ao,cap,rfl,fun hn=>?_,hz⟩
 obtain⟨b,off,cur,e,fr,rfl,hbl,hcs⟩:=hp hn
 exact⟨b,off,cur,e,fr,rfl,by rw[hb.block b (aLt hbl)];exact hbl,hcs⟩
theorem al{w:World}{g:Nat}{cs:Array Value}{t:TypeId}(h:w.heap[g]? =some (.cells cs t (0,0)))(i:Nat)(v:Value):(w.setCell ⟨g,i,none⟩ v).heap[g]? =some (.cells (cs.setIfInBounds i v) t (0,0)):=heap_setCell_same w g i cs t v h
theorem aI{w wr:World}{cb:Nat}(h:Below w.heap.size w wr)(o:Nat)(v:Value):Chg (· = cb) w (wr.setCell ⟨cb,o,none⟩ v):=
 ⟨h.os,h.tape,h.output,by rw[World.size_setCell];exact h.size,fun k hk hne=>by rw[Below.heap_setCell _ _ _ _ hne];exact h.block k hk⟩
theorem ak{B:Nat}{w wr:World}(h:Below B w wr)(n:Nat):Below B w (wr.drewN n):=⟨h.os,h.tape,h.output,h.size,h.block⟩
theorem eJ{P:Program}(w:World)(base:Nat)(t ty e:TypeId)(i:TypeInfo)(z:Value)(size bytes:Nat)(ht:P.underlying t=some (.slice e))(hi:P.info? e=some i)(hz:i.zero=some z)
  (hsize:i.size=size) (hby:i.bytes=bytes) (hzs:z.cells.size=size) (hsz:0<size) (v:Value) (n:Nat) (xs:List Value) (hown:w.ownsRow base e size v n xs)
  (a:Addr) (m c:Nat) (news:List Value) (hl:news.length=m*size) (hnews:∀j u,news[j]? =some u->w.cell? (a.add j)=some u) (h1:∀u∈news,u.oneCell'=true)
  (h63:n+m<=maxLen) (hbytes:(n+m)*bytes<=140737488355328) (hbase:base<=w.heap.size):
  ∃v' w',(Builtin.append_ #[t,t] ty #[v,.slice (some a) m c]).run P w=.ok v' w'/\w'.ownsRow base e size v' (n+m) (xs++news)/\w.grownBy w' v.ownBlock/\(v'.ownBlock=v.ownBlock\/∀g,v'.ownBlock=some g->w.heap.size<=g):=by
 obtain⟨v',w',hrun,r1,r2,_⟩:=run_append_own (P:=P) w base t ty e i z size bytes ht hi hz hsize hby hzs hsz v n xs hown a m c news hl hnews h1 h63 hbytes hbase
 refine⟨v',w',hrun,r1,r2,?_⟩
 obtain⟨hlen,⟨rfl,rfl⟩|⟨g,cap,cur,rfl,hg,hcur,hcap,hmax,hsz',htk⟩⟩:=hown
 ·obtain rfl:xs=[]:=List.length_eq_zero_iff.1 (by simpa using hlen)
  obtain⟨v2,w2,h2,q1,_⟩:=run_append_own (P:=P) w w.heap.size t ty e i z size bytes ht hi hz hsize hby hzs hsz (.slice none 0 0) 0 [] (World.ownsRow_nil _ _ _ _) a m c news hl hnews h1 h63 hbytes (Nat.le_refl _)
  rw[hrun]at h2
  simp only[Result.ok.injEq]at h2
  obtain⟨rfl,rfl⟩:=h2
  exact Or.inr fun k hk=>(q1.lt k hk).1
 ·by_cases hroom:n+m<=cap
  ·subst hsize
   have hin:∀j,j<news.length->n*i.size+j<cur.size:=by
    intro j hj
    rw[hsz']
    have h2:(n+m)*i.size<=cap*i.size:=Nat.mul_le_mul_right _ hroom
    rw[Nat.add_mul]at h2
    omega
   have h2:=run_append_room_cells (P:=P) w t ty e i ht hi g 0 n cap a m c news hl hnews h1 hroom (fun j hj=>by
    rw[Nat.zero_add]
    simp only[World.cell?,hcur]
    have:=hin j hj
    simp[this]) (fun j hj=>frozen_of_row w g _ _ _ hcur)
   rw[hrun]at h2
   simp only[Result.ok.injEq]at h2
   obtain⟨rfl,rfl⟩:=h2
   exact Or.inl rfl
  ·have hold:∀j u,xs[j]? =some u->w.cell? ((⟨g,0,none⟩:Addr).add j)=some u:=by
    intro j u hu
    have hj:=(lLt hu)
    rw[show(⟨g,0,none⟩:Addr).add j =⟨g,j,none⟩ from by simp[Addr.add];intro h;exact h.symm]
    rw[<-htk,List.getElem?_take,if_pos (by omega)]at hu
    simp only[World.cell?,hcur]
    simpa using hu
   obtain⟨v2,w2,h2,q1,_⟩:=run_append_arg_grows (P:=P) w t ty e i z size bytes ht hi hz hsize hby hzs hsz ⟨g,0,none⟩ n cap xs hlen hold a m c news hl hnews (by omega) h63 hbytes
   rw[hrun]at h2
   simp only[Result.ok.injEq]at h2
   obtain⟨rfl,rfl⟩:=h2
   exact Or.inr fun k hk=>(q1.lt k hk).1
theorem oE{P:Program}{ops:Array Oper}{o:Oper}{a:Act}{w:World}{K:Act->World->Prop}{Q:Exit->Act->World->Prop}{E:Prop}
  (hg:o.guard=none) (s x:Operand) (t:TypeId) (hop:o.op=Op.call {callee:=Callee.builtin Builtin.append,args:=#[s,x],argTypes:=#[t,t]})
  (base:Nat) (e:TypeId) (i:TypeInfo) (z:Value) (size bytes:Nat) (h1:P.underlying t=some (.slice e)) (h2:P.info? e=some i) (h3:i.zero=some z) (h4:i.size=size) (h5:i.bytes=bytes) (h6:z.cells.size=size) (h7:0<size)
  (v:Value) (n:Nat) (xs:List Value) (hs:a.eval s=v) (hown:w.ownsRow base e size v n xs)
  (ad:Addr) (m c:Nat) (news:List Value) (hx:a.eval x=.slice (some ad) m c) (hn:news.length=m*size) (hc:∀j u,news[j]? =some u->w.cell? (ad.add j)=some u) (h1c:∀u∈news,u.oneCell'=true)
  (b1:n+m<=maxLen) (b2:(n+m)*bytes<=140737488355328) (hbase:base<=w.heap.size)
  (hK:∀v' w',w'.ownsRow base e size v' (n+m) (xs++news)->w.grownBy w' v.ownBlock->(v'.ownBlock=v.ownBlock\/∀g,v'.ownBlock=some g->w.heap.size<=g)->K (a.put o.dst v') w'):
  if Region.wanted o (yielded ops a.tmps)=true then Oper.wp P o a w K Q else E:=by
 have hw:Region.wanted o (yielded ops a.tmps)=true:=by simp[Region.wanted,hg]
 rw[if_pos hw]
 obtain⟨v',w',hrun,r1,r2,r3⟩:=eJ (P:=P) w base t o.type e i z size bytes h1 h2 h3 h4 h5 h6 h7 v n xs hown ad m c news hn hc h1c b1 b2 hbase
 unfold Oper.wp
 simp[execOp,hop,resolve,invoke,builtin,hs,hx,hrun,Result.andThen]
 exact hK v' w' r1 r2 r3
theorem aQ{w:World}{base:Nat}{e:TypeId}{sz:Nat}{v:Value}{n:Nat}{xs:List Value}(h:w.ownsRow base e sz v n xs){g:Nat}(hv:v.ownBlock=some g):∃cs,w.heap[g]? =some (.cells cs e (0,0)):=by
 obtain⟨_,⟨rfl,_⟩|⟨g',cap,cur,rfl,_,hg,_⟩⟩:=h
 ·simp[Value.ownBlock]at hv
 ·simp only[Value.ownBlock,Option.some.injEq]at hv
  subst hv
  exact⟨cur,hg⟩
theorem ax{w:World}{b1:Nat}{e1 e2:TypeId}{sz:Nat}{v1:Value}{n1:Nat}{x1:List Value}{g:Nat}{cs:Array Value}{fr:Nat×Nat}(h1:w.ownsRow b1 e1 sz v1 n1 x1)(hg:w.heap[g]? =some (.cells cs e2 fr))(he:e1≠e2):v1.ownBlock≠some g:=by
 intro hv
 obtain⟨c1,e1'⟩:=aQ h1 hv
 rw[hg]at e1'
 simp only[Option.some.injEq,Obj.cells.injEq]at e1'
 exact he e1'.2.1.symm
theorem bd{w:World}{base:Nat}{e:TypeId}{sz:Nat}{v:Value}{n:Nat}{xs:List Value}(h:w.ownsRow base e sz v n xs):∃ao cap,v=.slice ao n cap:=by
 obtain⟨_,⟨rfl,rfl⟩|⟨g,cap,cur,rfl,_⟩⟩:=h
 ·exact⟨none,0,rfl⟩
 ·exact⟨_,cap,rfl⟩
theorem pK{w:World}{b1 b2:Nat}{e1 e2:TypeId}{s1 s2:Nat}{v1 v2:Value}{n1 n2:Nat}{x1 x2:List Value}(h1:w.ownsRow b1 e1 s1 v1 n1 x1)(h2:w.ownsRow b2 e2 s2 v2 n2 x2)(he:e1≠e2):v1.ownBlock=none\/v1.ownBlock≠v2.ownBlock:=by
 cases h:v1.ownBlock with
 |none=>exact Or.inl rfl
 |some g=>
  refine Or.inr fun e=>?_
  obtain⟨cs,hc⟩:=aQ h2 e.symm
  exact ax h1 hc he h
theorem bX{F:Nat->Prop}{w w':World}{base:Nat}{e:TypeId}{sz:Nat}{v:Value}{n:Nat}{xs:List Value}(h:w.ownsRow base e sz v n xs)(hc:Chg F w w')(hF:∀g,v.ownBlock=some g->¬F g):w'.ownsRow base e sz v n xs:=by
 refine⟨h.1,?_⟩
 rcases h.2 with hn|⟨g,cap,cur,rfl,hb,hgg,rest⟩
 ·exact .inl hn
 ·exact .inr ⟨g,cap,cur,rfl,hb,by rw[hc.block g (aLt hgg) (hF g rfl)];exact hgg,rest⟩
theorem eI{F:Nat->Prop}{w w':World}{base:Nat}{e:TypeId}{sz:Nat}{v:Value}{n:Nat}{xs:List Value}(h:w.ownsRow base e sz v n xs)(hc:Chg F w w')(hF:∀k cur fr,w.heap[k]? =some (.cells cur e fr)->¬F k):w'.ownsRow base e sz v n xs:=
 bX h hc fun g hg=>by
  obtain⟨cs,hcs⟩:=aQ h hg
  exact hF g cs _ hcs
theorem aD{α:Type}{l:List α}{i j:Nat}{a:α}(h:j≠i):(l.set i a)[j]? =l[j]?:=by
 rw[List.getElem?_set];simp[Ne.symm h]
theorem aK{α:Type}{l:List α}{i:Nat}{a b:α}(h:l[i]? =some b):(l.set i a)[i]? =some a:=by
 have:=(lLt h)
 simp[this]
theorem e7{α:Type}{l:List α}{i:Nat}{a:α}(h:l[i]? =some a):l.set i a=l:=by
 apply List.ext_getElem?
 intro j
 by_cases hj:j=i
 ·subst hj;rw[aK h,h]
 ·rw[aD hj]
theorem aq{w w':World}(h:Below w.drew.heap.size w.drew w'):Below w.heap.size w w':=⟨h.os,h.tape,h.output,h.size,h.block⟩
end Go.Proofs.YthmdjhlhodpbhaaGreatDoor
namespace Go.Proofs.YthmdjhlhodpbhaaGreatDoor
open Go.RowKit Go.Extern.Stop Go.Stop Go.Extern
set_option maxRecDepth 20000 in
theorem wj(hb hx:Nat)(e t:Addr)(w:World)(hg:w.cell? ⟨0,0,none⟩= some (.iface 263 (.agg #[.pointer (some ⟨4,109,none⟩)])))(hcause0:w.cell? ⟨hb,1,none⟩= some (.iface 155 (.pointer (some ⟨hx,0,none⟩))))(hcause1:w.cell? ⟨hx,1,none⟩= some (.iface 158 (.pointer (some e))))(ht0:w.cell? t=some (.pointer none))(hf0:w.frozen? t=false):
  Calls Tryz.prog 87 #[.iface 155 (.pointer (some ⟨hb,0,none⟩)),.iface 160 (.pointer (some t))] w fun ev w'=>ev=.returned (.bool true)/\Below t.block w w':=by
 have h6:=@run_callFunc_extern Tryz.prog 138 _ (fun args=>ReflectliteValue.unpack (args.getD 0 (.tuple #[]))) Tryz.func138 (by kernel_rfl) (by kernel_rfl) (by kernel_rfl) (by kernel_rfl)
 have h7:=@run_callFunc_extern Tryz.prog 139 _ (ReflectliteValue.methodAny (ReflectliteValue.valueError "reflectlite.Value.Type" 0) (fun t _ _ _=>ReflectliteType.toType t)) Tryz.func139 (by kernel_rfl) (by kernel_rfl) (by kernel_rfl) (by kernel_rfl)
 have h8:=@run_callFunc_extern Tryz.prog 140 _ (ReflectliteValue.method (ReflectliteValue.valueError "reflectlite.Value.IsNil" 0) ReflectliteValue.isNil) Tryz.func140 (by kernel_rfl) (by kernel_rfl) (by kernel_rfl) (by kernel_rfl)
 have h27:=@run_callFunc_extern Tryz.prog 261 _ (ReflectliteType.abiMethod fun t=>do pure (.int .u8 (<-Rtype.kind t))) Tryz.func261 (by kernel_rfl) (by kernel_rfl) (by kernel_rfl) (by kernel_rfl)
 have h37:=@run_callFunc_extern Tryz.prog 274 _ (ReflectliteType.method ReflectliteType.elem) Tryz.func274 (by kernel_rfl) (by kernel_rfl) (by kernel_rfl) (by kernel_rfl)
 have h38:=@run_callFunc_extern Tryz.prog 275 _ (ReflectliteType.relation "Implements" ReflectliteType.implements_) Tryz.func275 (by kernel_rfl) (by kernel_rfl) (by kernel_rfl) (by kernel_rfl)
 have h10:=@run_callFunc_extern Tryz.prog 170 _ ReflectliteType.typeOf Tryz.func170 (by kernel_rfl) (by kernel_rfl) (by kernel_rfl) (by kernel_rfl)
 have h35:=@run_callFunc_extern Tryz.prog 272 _ (ReflectliteType.relation "AssignableTo" ReflectliteType.assignableTo) Tryz.func272 (by kernel_rfl) (by kernel_rfl) (by kernel_rfl) (by kernel_rfl)
 have h11:=@run_callFunc_extern Tryz.prog 171 _ (ReflectliteValue.method (ReflectliteValue.valueError "reflectlite.Value.Elem" 0) ReflectliteValue.elem) Tryz.func171 (by kernel_rfl) (by kernel_rfl) (by kernel_rfl) (by kernel_rfl)
 have h12:=@run_callFunc_extern Tryz.prog 172 _ ReflectliteValue.set Tryz.func172 (by kernel_rfl) (by kernel_rfl) (by kernel_rfl) (by kernel_rfl)
 have noAs:=kZ
 have mU:=jm
 have hasU:=gF
 have tN:=lV
 have tW:=lW
 have mA:=eN
 have aN:=iG
 have aW:=iH
 have vN:=kV
 have f6:=lX
 have f7:=tB
 have mK:=jj
 have mE:=ji
 have mI:=fw
 have k27:=nK
 have k25:=pY
 have e27:=nJ
 have i25:=jh
 have n8:=pX ⟨w.heap.size,0,none⟩ t ((w.alloc (.cells #[.pointer (some t)] 160)).alloc (.cells #[.pointer (some ⟨4,160,none⟩),.pointer (some ⟨w.heap.size,0,none⟩),.int .u64 150] 217)) (by simp)
 have hlt:0<w.heap.size:=by
  rcases Nat.lt_or_ge 0 w.heap.size with h|h
  ·exact h
  ·simp[World.cell?,Array.getElem?_eq_none h]at hg
 have hg2:((w.alloc (.cells #[.pointer (some t)] 160)).alloc (.cells #[.pointer (some ⟨4,160,none⟩),.pointer (some ⟨w.heap.size,0,none⟩),.int .u64 150] 217)).cell? ⟨0,0,none⟩= some (.iface 263 (.agg #[.pointer (some ⟨4,109,none⟩)])):=by
  rw[World.cell?_alloc_lt _ _ ⟨0,0,none⟩ (by simp only[World.size_alloc];omega),World.cell?_alloc_lt _ _ ⟨0,0,none⟩ hlt];exact hg
 have htl:t.block<w.heap.size:=by
  rcases Nat.lt_or_ge t.block w.heap.size with h|h
  ·exact h
  ·simp[World.cell?,Array.getElem?_eq_none h]at ht0
 have hhl0:hb<w.heap.size:=cS hcause0
 have hc30:(((w.alloc (.cells #[.pointer (some t)] 160)).alloc (.cells #[.pointer (some ⟨4,160,none⟩),.pointer (some ⟨w.heap.size,0,none⟩),.int .u64 150] 217)).alloc (.cells #[.pointer (some ⟨4,160,none⟩),.pointer (some ⟨w.heap.size,0,none⟩),.int .u64 150] 217)).cell? ⟨hb,1,none⟩= some (.iface 155 (.pointer (some ⟨hx,0,none⟩))):=by
  rw[World.cell?_alloc_lt _ _ ⟨hb,1,none⟩ (by simp;omega),World.cell?_alloc_lt _ _ ⟨hb,1,none⟩ (by simp;omega),World.cell?_alloc_lt _ _ ⟨hb,1,none⟩ hhl0];exact hcause0
 have hhl1:hx<w.heap.size:=cS hcause1
 have hc31:(((w.alloc (.cells #[.pointer (some t)] 160)).alloc (.cells #[.pointer (some ⟨4,160,none⟩),.pointer (some ⟨w.heap.size,0,none⟩),.int .u64 150] 217)).alloc (.cells #[.pointer (some ⟨4,160,none⟩),.pointer (some ⟨w.heap.size,0,none⟩),.int .u64 150] 217)).cell? ⟨hx,1,none⟩= some (.iface 158 (.pointer (some e))):=by
  rw[World.cell?_alloc_lt _ _ ⟨hx,1,none⟩ (by simp;omega),World.cell?_alloc_lt _ _ ⟨hx,1,none⟩ (by simp;omega),World.cell?_alloc_lt _ _ ⟨hx,1,none⟩ hhl1];exact hcause1
 have el:=pW ⟨w.heap.size,0,none⟩ t (((w.alloc (.cells #[.pointer (some t)] 160)).alloc (.cells #[.pointer (some ⟨4,160,none⟩),.pointer (some ⟨w.heap.size,0,none⟩),.int .u64 150] 217)).alloc (.cells #[.pointer (some ⟨4,160,none⟩),.pointer (some ⟨w.heap.size,0,none⟩),.int .u64 150] 217)) (by rw[World.cell?_alloc_lt _ _ ⟨w.heap.size,0,none⟩ (by simp;omega)];simp)
 have st:=rl_set t ⟨w.heap.size+1+1+1,0,none⟩ e (.pointer none) ((((w.alloc (.cells #[.pointer (some t)] 160)).alloc (.cells #[.pointer (some ⟨4,160,none⟩),.pointer (some ⟨w.heap.size,0,none⟩),.int .u64 150] 217)).alloc (.cells #[.pointer (some ⟨4,160,none⟩),.pointer (some ⟨w.heap.size,0,none⟩),.int .u64 150] 217)).alloc (.cells #[.pointer (some e)] 158))
  (by rw[World.cell?_alloc_at _ _ _ _ (by simp)];rfl)
  (by rw[World.cell?_alloc_lt _ _ t (by simp;omega),World.cell?_alloc_lt _ _ t (by simp;omega),World.cell?_alloc_lt _ _ t (by simp;omega),World.cell?_alloc_lt _ _ t htl];exact ht0)
  (by rw[World.frozen?_alloc_old _ _ t (by simp;omega),World.frozen?_alloc_old _ _ t (by simp;omega),World.frozen?_alloc_old _ _ t (by simp;omega),World.frozen?_alloc_old _ _ t (Nat.ne_of_lt htl)];exact hf0)
 go_enter Tryz.func87,Tryz.ntmps87
 go_wp2
 refine wp_loop_rounds 3 ?_
 rw[rounds_succ]
 go_wp2
 rw[rounds_succ]
 go_wp2
 rw[rounds_succ]
 go_wp2
 go_ret
 refine⟨rfl,?_⟩
 have hb0:t.block<=w.heap.size:=Nat.le_of_lt htl
 exact((((((Below.refl t.block w).alloc hb0 _).alloc (by simp only[World.size_alloc];omega) _).alloc (by simp only[World.size_alloc];omega) _).alloc (by simp only[World.size_alloc];omega) _)).setCell (Nat.le_refl _) _
set_option maxRecDepth 20000 in
theorem wk(hb hx hy:Nat)(e t:Addr)(w:World)(hg:w.cell? ⟨0,0,none⟩= some (.iface 263 (.agg #[.pointer (some ⟨4,109,none⟩)])))(hcause0:w.cell? ⟨hb,1,none⟩= some (.iface 155 (.pointer (some ⟨hx,0,none⟩))))(hcause1:w.cell? ⟨hx,1,none⟩= some (.iface 155 (.pointer (some ⟨hy,0,none⟩))))(hcause2:w.cell? ⟨hy,1,none⟩= some (.iface 158 (.pointer (some e))))(ht0:w.cell? t=some (.pointer none))(hf0:w.frozen? t=false):
  Calls Tryz.prog 87 #[.iface 155 (.pointer (some ⟨hb,0,none⟩)),.iface 160 (.pointer (some t))] w fun ev w'=>ev=.returned (.bool true)/\Below t.block w w':=by
 have h6:=@run_callFunc_extern Tryz.prog 138 _ (fun args=>ReflectliteValue.unpack (args.getD 0 (.tuple #[]))) Tryz.func138 (by kernel_rfl) (by kernel_rfl) (by kernel_rfl) (by kernel_rfl)
 have h7:=@run_callFunc_extern Tryz.prog 139 _ (ReflectliteValue.methodAny (ReflectliteValue.valueError "reflectlite.Value.Type" 0) (fun t _ _ _=>ReflectliteType.toType t)) Tryz.func139 (by kernel_rfl) (by kernel_rfl) (by kernel_rfl) (by kernel_rfl)
 have h8:=@run_callFunc_extern Tryz.prog 140 _ (ReflectliteValue.method (ReflectliteValue.valueError "reflectlite.Value.IsNil" 0) ReflectliteValue.isNil) Tryz.func140 (by kernel_rfl) (by kernel_rfl) (by kernel_rfl) (by kernel_rfl)
 have h27:=@run_callFunc_extern Tryz.prog 261 _ (ReflectliteType.abiMethod fun t=>do pure (.int .u8 (<-Rtype.kind t))) Tryz.func261 (by kernel_rfl) (by kernel_rfl) (by kernel_rfl) (by kernel_rfl)
 have h37:=@run_callFunc_extern Tryz.prog 274 _ (ReflectliteType.method ReflectliteType.elem) Tryz.func274 (by kernel_rfl) (by kernel_rfl) (by kernel_rfl) (by kernel_rfl)
 have h38:=@run_callFunc_extern Tryz.prog 275 _ (ReflectliteType.relation "Implements" ReflectliteType.implements_) Tryz.func275 (by kernel_rfl) (by kernel_rfl) (by kernel_rfl) (by kernel_rfl)
 have h10:=@run_callFunc_extern Tryz.prog 170 _ ReflectliteType.typeOf Tryz.func170 (by kernel_rfl) (by kernel_rfl) (by kernel_rfl) (by kernel_rfl)
 have h35:=@run_callFunc_extern Tryz.prog 272 _ (ReflectliteType.relation "AssignableTo" ReflectliteType.assignableTo) Tryz.func272 (by kernel_rfl) (by kernel_rfl) (by kernel_rfl) (by kernel_rfl)
 have h11:=@run_callFunc_extern Tryz.prog 171 _ (ReflectliteValue.method (ReflectliteValue.valueError "reflectlite.Value.Elem" 0) ReflectliteValue.elem) Tryz.func171 (by kernel_rfl) (by kernel_rfl) (by kernel_rfl) (by kernel_rfl)
 have h12:=@run_callFunc_extern Tryz.prog 172 _ ReflectliteValue.set Tryz.func172 (by kernel_rfl) (by kernel_rfl) (by kernel_rfl) (by kernel_rfl)
 have noAs:=kZ
 have mU:=jm
 have hasU:=gF
 have tN:=lV
 have tW:=lW
 have mA:=eN
 have aN:=iG
 have aW:=iH
 have vN:=kV
 have f6:=lX
 have f7:=tB
 have mK:=jj
 have mE:=ji
 have mI:=fw
 have k27:=nK
 have k25:=pY
 have e27:=nJ
 have i25:=jh
 have n8:=pX ⟨w.heap.size,0,none⟩ t ((w.alloc (.cells #[.pointer (some t)] 160)).alloc (.cells #[.pointer (some ⟨4,160,none⟩),.pointer (some ⟨w.heap.size,0,none⟩),.int .u64 150] 217)) (by simp)
 have hlt:0<w.heap.size:=by
  rcases Nat.lt_or_ge 0 w.heap.size with h|h
  ·exact h
  ·simp[World.cell?,Array.getElem?_eq_none h]at hg
 have hg2:((w.alloc (.cells #[.pointer (some t)] 160)).alloc (.cells #[.pointer (some ⟨4,160,none⟩),.pointer (some ⟨w.heap.size,0,none⟩),.int .u64 150] 217)).cell? ⟨0,0,none⟩= some (.iface 263 (.agg #[.pointer (some ⟨4,109,none⟩)])):=by
  rw[World.cell?_alloc_lt _ _ ⟨0,0,none⟩ (by simp only[World.size_alloc];omega),World.cell?_alloc_lt _ _ ⟨0,0,none⟩ hlt];exact hg
 have htl:t.block<w.heap.size:=by
  rcases Nat.lt_or_ge t.block w.heap.size with h|h
  ·exact h
  ·simp[World.cell?,Array.getElem?_eq_none h]at ht0
 have hhl0:hb<w.heap.size:=cS hcause0
 have hc30:(((w.alloc (.cells #[.pointer (some t)] 160)).alloc (.cells #[.pointer (some ⟨4,160,none⟩),.pointer (some ⟨w.heap.size,0,none⟩),.int .u64 150] 217)).alloc (.cells #[.pointer (some ⟨4,160,none⟩),.pointer (some ⟨w.heap.size,0,none⟩),.int .u64 150] 217)).cell? ⟨hb,1,none⟩= some (.iface 155 (.pointer (some ⟨hx,0,none⟩))):=by
  rw[World.cell?_alloc_lt _ _ ⟨hb,1,none⟩ (by simp;omega),World.cell?_alloc_lt _ _ ⟨hb,1,none⟩ (by simp;omega),World.cell?_alloc_lt _ _ ⟨hb,1,none⟩ hhl0];exact hcause0
 have hhl1:hx<w.heap.size:=cS hcause1
 have hc31:(((w.alloc (.cells #[.pointer (some t)] 160)).alloc (.cells #[.pointer (some ⟨4,160,none⟩),.pointer (some ⟨w.heap.size,0,none⟩),.int .u64 150] 217)).alloc (.cells #[.pointer (some ⟨4,160,none⟩),.pointer (some ⟨w.heap.size,0,none⟩),.int .u64 150] 217)).cell? ⟨hx,1,none⟩= some (.iface 155 (.pointer (some ⟨hy,0,none⟩))):=by
  rw[World.cell?_alloc_lt _ _ ⟨hx,1,none⟩ (by simp;omega),World.cell?_alloc_lt _ _ ⟨hx,1,none⟩ (by simp;omega),World.cell?_alloc_lt _ _ ⟨hx,1,none⟩ hhl1];exact hcause1
 have hhl2:hy<w.heap.size:=cS hcause2
 have hc32:(((w.alloc (.cells #[.pointer (some t)] 160)).alloc (.cells #[.pointer (some ⟨4,160,none⟩),.pointer (some ⟨w.heap.size,0,none⟩),.int .u64 150] 217)).alloc (.cells #[.pointer (some ⟨4,160,none⟩),.pointer (some ⟨w.heap.size,0,none⟩),.int .u64 150] 217)).cell? ⟨hy,1,none⟩= some (.iface 158 (.pointer (some e))):=by
  rw[World.cell?_alloc_lt _ _ ⟨hy,1,none⟩ (by simp;omega),World.cell?_alloc_lt _ _ ⟨hy,1,none⟩ (by simp;omega),World.cell?_alloc_lt _ _ ⟨hy,1,none⟩ hhl2];exact hcause2
 have el:=pW ⟨w.heap.size,0,none⟩ t (((w.alloc (.cells #[.pointer (some t)] 160)).alloc (.cells #[.pointer (some ⟨4,160,none⟩),.pointer (some ⟨w.heap.size,0,none⟩),.int .u64 150] 217)).alloc (.cells #[.pointer (some ⟨4,160,none⟩),.pointer (some ⟨w.heap.size,0,none⟩),.int .u64 150] 217)) (by rw[World.cell?_alloc_lt _ _ ⟨w.heap.size,0,none⟩ (by simp;omega)];simp)
 have st:=rl_set t ⟨w.heap.size+1+1+1,0,none⟩ e (.pointer none) ((((w.alloc (.cells #[.pointer (some t)] 160)).alloc (.cells #[.pointer (some ⟨4,160,none⟩),.pointer (some ⟨w.heap.size,0,none⟩),.int .u64 150] 217)).alloc (.cells #[.pointer (some ⟨4,160,none⟩),.pointer (some ⟨w.heap.size,0,none⟩),.int .u64 150] 217)).alloc (.cells #[.pointer (some e)] 158))
  (by rw[World.cell?_alloc_at _ _ _ _ (by simp)];rfl)
  (by rw[World.cell?_alloc_lt _ _ t (by simp;omega),World.cell?_alloc_lt _ _ t (by simp;omega),World.cell?_alloc_lt _ _ t (by simp;omega),World.cell?_alloc_lt _ _ t htl];exact ht0)
  (by rw[World.frozen?_alloc_old _ _ t (by simp;omega),World.frozen?_alloc_old _ _ t (by simp;omega),World.frozen?_alloc_old _ _ t (by simp;omega),World.frozen?_alloc_old _ _ t (Nat.ne_of_lt htl)];exact hf0)
 go_enter Tryz.func87,Tryz.ntmps87
 go_wp2
 refine wp_loop_rounds 4 ?_
 rw[rounds_succ]
 go_wp2
 rw[rounds_succ]
 go_wp2
 rw[rounds_succ]
 go_wp2
 rw[rounds_succ]
 go_wp2
 go_ret
 refine⟨rfl,?_⟩
 have hb0:t.block<=w.heap.size:=Nat.le_of_lt htl
 exact((((((Below.refl t.block w).alloc hb0 _).alloc (by simp only[World.size_alloc];omega) _).alloc (by simp only[World.size_alloc];omega) _).alloc (by simp only[World.size_alloc];omega) _)).setCell (Nat.le_refl _) _
end Go.Proofs.YthmdjhlhodpbhaaGreatDoor
namespace Go.Proofs.YthmdjhlhodpbhaaGreatDoor
open Go.RowKit
structure LoD where
 lo:Nat
 low:Nat->Option Obj
abbrev LoM:=Inhabited LoD
def LoM.lo [h:LoM]:Nat:=h.default.lo
def LoM.low [h:LoM]:Nat->Option Obj:=h.default.low
structure Env [LoM] (w:World):Prop where
 tab:Lib.TabIs Tryz.prog w "internal/strconv.uint64pow10" .u64 Lib.pow10Tab
 err:w.cell? ⟨0,0,none⟩= some (.iface 263 (.agg #[.pointer (some ⟨4,109,none⟩)]))
 lo:LoM.lo<=w.heap.size
 low:∀k,k<LoM.lo->w.heap[k]? =LoM.low k
theorem gPow:Tryz.prog.globalNamed "internal/strconv.uint64pow10" = some 1:=by kernel_rfl
theorem Env.below [LoM] {w w':World}(h:Env w)(hb:Below w.heap.size w w'):Env w':=by
 have hs:=hb.size
 have hl:=h.lo
 refine⟨?_,ae h.err hb,by omega,fun k hk=>by rw[hb.block k (by omega)];exact h.low k hk⟩
 have h1:=h.1
 unfold Lib.TabIs World.var? at *
 rw[gPow]at h1⊢
 simp only[Option.bind_some]at h1⊢
 have hlt:1<w.heap.size:=by
  rcases Nat.lt_or_ge 1 w.heap.size with h|h
  ·exact h
  ·rw[Array.getElem?_eq_none h]at h1
   simp at h1
 rw[hb.block 1 hlt]
 exact h1
theorem pq [LoM] {F:Nat->Prop}{w:World}(h:∀W,Chg F w W->Env W){k:Nat}(hk:F k):LoM.lo<=k:=by
 rcases Nat.lt_or_ge k LoM.lo with hlt|hge
 ·exfalso
  have h0:=h w (Chg.refl _ _)
  have hl:=h0.lo
  have hkw:k<w.heap.size:=by omega
  have go:∀o:Obj,w.heap[k]? =some o:=by
   intro o
   have h1:=(h {w with heap:=w.heap.setIfInBounds k o} ⟨rfl,rfl,rfl,by simp,fun j _ hj=>by
    have hne:k≠j:=fun e=>hj (e▸hk)
    simp only
    rw[Array.getElem?_setIfInBounds_ne hne]⟩).low k hlt
   simp only at h1
   rw[Array.getElem?_setIfInBounds_self_of_lt hkw]at h1
   rw[h0.low k hlt,<-h1]
  have e1:=go (.cells #[] 0)
  have e2:=go (.cells #[.bool true] 0)
  rw[e1]at e2
  simp at e2
 ·exact hge
theorem wE(w:World)(k:Nat)(os:Array Obj):Below w.heap.size w (Sort.grow (w.drewN k) os):=by
 refine⟨?_,?_,?_,?_,?_⟩
 ·rfl
 ·simp[Sort.grow]
 ·rfl
 ·simp[Sort.grow]
 ·intro i hi
  simp[Sort.grow,Array.getElem?_append,hi]
theorem mD [LoM] (n:Int)(h0:0<=n)(h1:n<=9223372036854775807)(w:World)(he:Env w):Calls Tryz.prog 137 #[.int .i64 n] w fun e w'=>∃s:ByteArray,e=.returned (.string s)/\s.size<=21/\Below w.heap.size w w':=by
 refine(Tryz.strconv_Itoa n (by omega) (by omega) w he.1).mono ?_
 rintro e w' ⟨rfl,k,os,rfl⟩
 refine⟨_,rfl,?_,wE w k os⟩
 have:=Lib.itoa_length_le n (by omega) (by omega)
 show(Lib.itoa n).toArray.size<=21
 simpa using this
end Go.Proofs.YthmdjhlhodpbhaaGreatDoor
