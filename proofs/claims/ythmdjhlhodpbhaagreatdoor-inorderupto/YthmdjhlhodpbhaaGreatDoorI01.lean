/- InOrder, 1 -/
import Derived.WalkKit
import Derived.Laws.CopyRow
import Derived.Laws.AppendOwn
import Derived.Laws.IdiomCopy
import Derived.ArgAppend
import Derived.Deep.RegionLaw
import Derived.Deep.QuietTactic
import Derived.BigQuiet
import Derived.Deep.CutRange
import Derived.Deep.RegionHeld3
import Derived.Lib.ItoaLen
import Derived.Test.YthmdjhlhodpbhaaGreatDoorI00
import Derived.Test.YthmdjhlhodpbhaaGreatDoorShelf
set_option maxHeartbeats 16000000
set_option maxRecDepth 8000
namespace Go.Proofs.YthmdjhlhodpbhaaGreatDoor
open Go.RowKit
def an(l:List Value)(o:Nat)(cs:List Value):List Value:=l.take o++cs++l.drop (o+cs.length)
theorem aE{l:List Value}{o:Nat}{cs:List Value}(h:o+cs.length<=l.length):(an l o cs).length=l.length:=by
 unfold an
 simp only[List.length_append,List.length_take,List.length_drop]
 omega
theorem df{l:List Value}{o:Nat}{cs:List Value}(h:o+cs.length<=l.length)(i:Nat):(an l o cs)[i]? =if o<=i/\i<o+cs.length then cs[i-o]? else l[i]?:=by
 unfold an
 rw[List.append_assoc]
 rcases Nat.lt_or_ge i o with h1|h1
 ·rw[if_neg (by omega),List.getElem?_append_left (by simp;omega),List.getElem?_take_of_lt h1]
 ·rw[List.getElem?_append_right (by simp;omega),List.length_take,Nat.min_eq_left (by omega)]
  rcases Nat.lt_or_ge (i-o) cs.length with h2|h2
  ·rw[if_pos (by omega),List.getElem?_append_left h2]
  ·rw[if_neg (by omega),List.getElem?_append_right h2,List.getElem?_drop]
   congr 1
   omega
section
variable {P : Program}
theorem bw(w:World)(dT sT ty elem:TypeId)(g o dLen dCap:Nat)(a:Addr)(sLen sCap:Nat)(cur:Array Value)(t:TypeId)(cs:List Value)(sz:Nat)
  (hu:P.underlying dT=some (.slice elem)) (hs:(P.info? elem).map (·.size)=some sz)
  (hg:w.heap[g]? =some (.cells cur t (0,0))) (hn:cs.length=Nat.min sLen dLen*sz)
  (hsrc:∀j v,cs[j]? =some v->w.cell? (a.add j)=some v) (hfit:o+cs.length<=cur.size) (h1:∀v∈cs,v.oneCell'=true):
  (Builtin.copy_ #[dT,sT] ty #[.slice (some ⟨g,o,none⟩) dLen dCap,.slice (some a) sLen sCap]).run P w =
   .ok (goInt (Nat.min sLen dLen)) (w.setRow g (an cur.toList o cs).toArray):=by
 have hst:=run_storeCells_at P g o t cs 0 cur w hg (by simpa using hfit) h1
 cases hq:P.info? elem with
 |none=>simp[hq]at hs
 |some i=>
  have hi:i.size=sz:=by simpa[hq] using hs
  have hf:=run_firstCells_some (P:=P) w i.size (Nat.min sLen dLen) a sLen sCap cs (by rw[hi];exact hn) hsrc
  simp[Builtin.copy_,run_underlying hu,Builtin.lenOf,sizeOf,typeInfo,hq,hf,hst,an]
theorem zeroCells_rep(z:Array Value)(n:Nat):(Builtin.zeroCells z n).toList=(List.replicate n z.toList).flatten:=by
 induction n with
 |zero=>simp[Builtin.zeroCells]
 |succ n ih=>
  apply List.ext_getElem?
  intro i
  have hl:(Builtin.zeroCells z (n+1)).toList.length=(n+1)*z.size:=by simp[Builtin.zeroCells]
  have hl2:(List.replicate (n+1) z.toList).flatten.length=(n+1)*z.size:=by simp
  rcases Nat.lt_or_ge i ((n+1)*z.size) with hi|hi
  ·have hz:0<z.size:=by
    rcases Nat.eq_zero_or_pos z.size with h|h
    ·rw[h]at hi;simp at hi
    ·exact h
   have e1:(Builtin.zeroCells z (n+1)).toList[i]? =some z[i%z.size]!:=by
    simp[Builtin.zeroCells,List.getElem?_map,List.getElem?_range hi]
   rw[e1,List.replicate_succ,List.flatten_cons]
   rcases Nat.lt_or_ge i z.size with h1|h1
   ·rw[List.getElem?_append_left (by simpa using h1),Nat.mod_eq_of_lt h1]
    simp[h1]
   ·rw[List.getElem?_append_right (by simpa using h1),<-ih]
    have e2:(Builtin.zeroCells z n).toList[i-z.toList.length]? =some z[(i-z.size)%z.size]!:=by
     have:i-z.size<n*z.size:=by rw[Nat.add_mul]at hi;omega
     simp[Builtin.zeroCells,List.getElem?_map,List.getElem?_range this]
    rw[e2,Nat.mod_eq_sub_mod h1]
  ·rw[List.getElem?_eq_none (by omega),List.getElem?_eq_none (by omega)]
theorem run_clear_rowN(w:World)(t e ty:TypeId)(z:Value)(ht:P.underlying t=some (.slice e))(hv:(zeroValue e).run P w=.ok z w)(g o n c:Nat)(hn:0<n)(cur:Array Value)(et:TypeId)(hg:w.heap[g]? =some (.cells cur et (0,0)))
  (hfit:o+n*z.cells.size<=cur.size) (h1:∀v∈z.cells.toList,v.oneCell'=true):
  (Builtin.clear_ #[t] ty #[.slice (some ⟨g,o,none⟩) n c]).run P w=.ok (.tuple #[]) (w.setRow g (an cur.toList o (List.replicate n z.cells.toList).flatten).toArray):=by
 have hzc:=zeroCells_rep z.cells n
 have hlen:(List.replicate n z.cells.toList).flatten.length=n*z.cells.size:=by simp
 have hst:=run_storeCells_at P g o et (List.replicate n z.cells.toList).flatten 0 cur w hg (by rw[hlen];simpa using hfit) (by
  intro v hv'
  obtain⟨l,hl,hvl⟩:=List.mem_flatten.1 hv'
  rw[List.eq_of_mem_replicate hl]at hvl
  exact h1 v hvl)
 obtain⟨m,rfl⟩:∃m,n=m+1:=⟨n-1,by omega⟩
 simp only[Nat.add_zero]at hst
 simp[Builtin.clear_,run_underlying ht,hv,hzc,hst,an]
theorem dB{w:World}{ops:Array Oper}{rest:List Oper}{o:Oper}{a:Act}{Q:Exit->Act->World->Prop}(hgd:o.guard=none)(d s:Operand)(t t':TypeId)
  (ho:o.op=.call {callee:=.builtin .copy,args:=#[d,s],argTypes:=#[t,t']}) (v u:Value) (hd:a.eval d=v) (hs:a.eval s=u) {v':Value} {w':World}
  (hr:(Builtin.copy_ #[t,t'] o.type #[v,u]).run P w=.ok v' w') (h:wpList P ops Q rest (a.put o.dst v') w'):wpList P ops Q (o::rest) a w:=by
 refine wpList_plain hgd fun K hK=>?_
 unfold Oper.wp execOp
 simp only[ho,resolve,invoke,builtin,Sem.run_bind,Sem.run_pure,Result.andThen_ok,List.map_toArray,List.map_cons,List.map_nil,hd,hs,hr]
 exact hK _ _ h
theorem bR{w:World}{ops:Array Oper}{rest:List Oper}{o:Oper}{a:Act}{Q:Exit->Act->World->Prop}(hgd:o.guard=none)(d:Operand)(t:TypeId)
  (ho:o.op=.call {callee:=.builtin .clear,args:=#[d],argTypes:=#[t]}) (v:Value) (hd:a.eval d=v) {v':Value} {w':World}
  (hr:(Builtin.clear_ #[t] o.type #[v]).run P w=.ok v' w') (h:wpList P ops Q rest (a.put o.dst v') w'):wpList P ops Q (o::rest) a w:=by
 refine wpList_plain hgd fun K hK=>?_
 unfold Oper.wp execOp
 simp only[ho,resolve,invoke,builtin,Sem.run_bind,Sem.run_pure,Result.andThen_ok,List.map_toArray,List.map_cons,List.map_nil,hd,hr]
 exact hK _ _ h
theorem aR{w:World}{ops:Array Oper}{rest:List Oper}{o:Oper}{a:Act}{Q:Exit->Act->World->Prop}(hgd:o.guard=none)(s x:Operand)(t tn:TypeId)
  (ho:o.op=.call {callee:=.builtin .append,args:=#[s,x],argTypes:=#[t,tn]}) (vs vx:Value) (hs:a.eval s=vs) (hx:a.eval x=vx)
  {v':Value} {w':World} (hr:(Builtin.append_ #[t,tn] o.type #[vs,vx]).run P w=.ok v' w') (h:wpList P ops Q rest (a.put o.dst v') w'):wpList P ops Q (o::rest) a w:=by
 refine wpList_plain hgd fun K hK=>?_
 unfold Oper.wp execOp
 simp only[ho,resolve,invoke,builtin,Sem.run_bind,Sem.run_pure,Result.andThen_ok,List.map_toArray,List.map_cons,List.map_nil,hs,hx,hr]
 exact hK _ _ h
theorem ch{ops:Array Oper}{o:Oper}{a:Act}{w:World}{K:Act->World->Prop}{Q:Exit->Act->World->Prop}{E:Prop}
  (hg:o.guard=none) (d x:Operand) (dT sT:TypeId) (hop:o.op=Op.call {callee:=Callee.builtin Builtin.copy,args:=#[d,x],argTypes:=#[dT,sT]})
  (v u:Value) (hd:a.eval d=v) (hx:a.eval x=u) {v':Value} {w':World} (hr:(Builtin.copy_ #[dT,sT] o.type #[v,u]).run P w=.ok v' w') (hK:K (a.put o.dst v') w'):
  if Region.wanted o (yielded ops a.tmps)=true then Oper.wp P o a w K Q else E:=by
 have hw:Region.wanted o (yielded ops a.tmps)=true:=by simp[Region.wanted,hg]
 rw[if_pos hw]
 unfold Oper.wp
 simp[execOp,hop,resolve,invoke,builtin,hd,hx,hr,Result.andThen]
 exact hK
theorem fE{ops:Array Oper}{o:Oper}{a:Act}{w:World}{K:Act->World->Prop}{Q:Exit->Act->World->Prop}{E:Prop}
  (hg:o.guard=none) (d x:Operand) (dT sT:TypeId) (hop:o.op=Op.call {callee:=Callee.builtin Builtin.append,args:=#[d,x],argTypes:=#[dT,sT]})
  (v u:Value) (hd:a.eval d=v) (hx:a.eval x=u) {v':Value} {w':World} (hr:(Builtin.append_ #[dT,sT] o.type #[v,u]).run P w=.ok v' w') (hK:K (a.put o.dst v') w'):
  if Region.wanted o (yielded ops a.tmps)=true then Oper.wp P o a w K Q else E:=by
 have hw:Region.wanted o (yielded ops a.tmps)=true:=by simp[Region.wanted,hg]
 rw[if_pos hw]
 unfold Oper.wp
 simp[execOp,hop,resolve,invoke,builtin,hd,hx,hr,Result.andThen]
 exact hK
end
theorem setRow_heap_eq{a b:World}(h:a.heap=b.heap)(g:Nat)(r:Array Value):(a.setRow g r).heap=(b.setRow g r).heap:=by simp[World.setRow,h]
abbrev bm:=Int×Value
def ay(l:List bm):List Value:=l.flatMap fun r=>[.int .i64 r.1,r.2]
theorem aC(l:List bm):(ay l).length=l.length*2:=by
 induction l with
 |nil=>rfl
 |cons a r ih=>simp only[ay,List.flatMap_cons,List.length_append]at ih⊢;rw[ih];simp;omega
theorem eD(a b:List bm):ay (a++b)=ay a++ay b:=by simp[ay]
theorem dd(a:bm)(b:List bm):ay (a::b)=[.int .i64 a.1,a.2]++ay b:=by simp[ay]
theorem cells2_take(l:List bm):∀i,ay (l.take i)=(ay l).take (i*2):=by
 induction l with
 |nil=>intro i;simp[ay]
 |cons a r ih=>
  intro i
  cases i with
  |zero=>simp[ay]
  |succ i=>rw[List.take_succ_cons,dd,dd,ih,show(i+1)*2=i*2+2 from by omega];rfl
theorem cells2_drop(l:List bm):∀i,ay (l.drop i)=(ay l).drop (i*2):=by
 induction l with
 |nil=>intro i;simp[ay]
 |cons a r ih=>
  intro i
  cases i with
  |zero=>simp
  |succ i=>rw[List.drop_succ_cons,dd,ih,show(i+1)*2=i*2+2 from by omega];rfl
theorem eC{l:List bm}:∀{k:Nat} {r:bm},l[k]? =some r->(ay l)[k*2]? =some (.int .i64 r.1)/\(ay l)[k*2+1]? =some r.2:=by
 induction l with
 |nil=>intro k r h;simp at h
 |cons a t ih=>
  intro k r h
  rw[dd]
  cases k with
  |zero=>simp at h;subst h;simp
  |succ k=>
   rw[List.getElem?_cons_succ]at h
   obtain⟨h1,h2⟩:=ih h
   refine⟨?_,?_⟩
   ·rw[List.getElem?_append_right (by simp;omega)]
    rw[show(k+1)*2-[Value.int .i64 a.1,a.2].length=k*2 from by simp;omega]
    exact h1
   ·rw[List.getElem?_append_right (by simp;omega)]
    rw[show(k+1)*2+1-[Value.int .i64 a.1,a.2].length=k*2+1 from by simp;omega]
    exact h2
theorem eV{l:List bm}(h:∀r∈l,r.2.oneCell'=true):∀u∈ay l,u.oneCell'=true:=by
 intro u hu
 obtain⟨r,hr,hu⟩:=List.mem_flatMap.1 hu
 simp only[List.mem_cons,List.not_mem_nil,or_false]at hu
 rcases hu with rfl|rfl
 ·rfl
 ·exact h r hr
theorem ins_room{cur cs xc:List Value}{a:Nat}(h:cur.take cs.length=cs)(ha:a<=cs.length)(hl:cs.length+xc.length<=cur.length):
  (an (an cur (a+xc.length) (cs.drop a)) a xc).take (cs.length+xc.length)=cs.take a++xc++cs.drop a:=by
 have hd:(cs.drop a).length=cs.length-a:=List.length_drop
 have e1:=aE (l:=cur) (o:=a+xc.length) (cs:=cs.drop a) (by rw[hd];omega)
 have hc:∀i,i<cs.length->cur[i]? =cs[i]?:=fun i hi=>by rw[<-h,List.getElem?_take_of_lt hi]
 apply List.ext_getElem?
 intro i
 rcases Nat.lt_or_ge i (cs.length+xc.length) with hi|hi
 ·rw[List.getElem?_take_of_lt hi,df (by rw[e1];omega),df (by rw[hd];omega),List.append_assoc]
  rcases Nat.lt_or_ge i a with h1|h1
  ·rw[if_neg (by omega),if_neg (by omega),List.getElem?_append_left (by simp;omega),List.getElem?_take_of_lt h1]
   exact hc i (by omega)
  ·rw[List.getElem?_append_right (by simp;omega),List.length_take,Nat.min_eq_left ha]
   rcases Nat.lt_or_ge i (a+xc.length) with h2|h2
   ·rw[if_pos ⟨h1,h2⟩,List.getElem?_append_left (by omega)]
   ·rw[if_neg (by omega),if_pos (by rw[hd];omega),List.getElem?_append_right (by omega)]
    congr 1
    omega
 ·rw[List.getElem?_eq_none (by simp;omega),List.getElem?_eq_none (by simp;omega)]
theorem rep_room{cur cs xc zs:List Value}{a b:Nat}(h:cur.take cs.length=cs)(hab:a+xc.length<=b)(hb:b<=cs.length)(hl:cs.length<=cur.length)(hz:zs.length=b-a-xc.length):
  (an (an (an cur a xc) (a+xc.length) (cs.drop b)) (a+xc.length+(cs.length-b)) zs).take (a+xc.length+(cs.length-b))=cs.take a++xc++cs.drop b:=by
 have hd:(cs.drop b).length=cs.length-b:=List.length_drop
 have e0:=aE (l:=cur) (o:=a) (cs:=xc) (by omega)
 have e1:=aE (l:=an cur a xc) (o:=a+xc.length) (cs:=cs.drop b) (by rw[hd,e0];omega)
 have hc:∀i,i<cs.length->cur[i]? =cs[i]?:=fun i hi=>by rw[<-h,List.getElem?_take_of_lt hi]
 apply List.ext_getElem?
 intro i
 rcases Nat.lt_or_ge i (a+xc.length+(cs.length-b)) with hi|hi
 ·rw[List.getElem?_take_of_lt hi,df (by rw[e1,e0,hz];omega),if_neg (by omega),df (by rw[hd,e0];omega),df (by omega),List.append_assoc]
  rcases Nat.lt_or_ge i a with h1|h1
  ·rw[if_neg (by omega),if_neg (by omega),List.getElem?_append_left (by simp;omega),List.getElem?_take_of_lt h1]
   exact hc i (by omega)
  ·rw[List.getElem?_append_right (by simp;omega),List.length_take,Nat.min_eq_left (by omega)]
   rcases Nat.lt_or_ge i (a+xc.length) with h2|h2
   ·rw[if_neg (by omega),if_pos ⟨h1,h2⟩,List.getElem?_append_left (by omega)]
   ·rw[if_pos (by rw[hd];omega),List.getElem?_append_right (by omega)]
    congr 1
    omega
 ·rw[List.getElem?_eq_none (by simp;omega),List.getElem?_eq_none (by simp;omega)]
theorem cS{w:World}{a:Addr}{v:Value}(h:w.cell? a=some v):a.block<w.heap.size:=by
 rcases Nat.lt_or_ge a.block w.heap.size with h1|h1
 ·exact h1
 ·simp[World.cell?,Array.getElem?_eq_none h1]at h
structure Chg(F:Nat->Prop)(w w':World):Prop where
 os:w'.os=w.os
 tape:w'.tape=w.tape
 output:w'.output=w.output
 size:w.heap.size<=w'.heap.size
 block:∀k,k<w.heap.size->¬F k->w'.heap[k]? =w.heap[k]?
theorem Chg.refl(F:Nat->Prop)(w:World):Chg F w w:=⟨rfl,rfl,rfl,Nat.le_refl _,fun _ _ _=>rfl⟩
theorem Chg.trans{F:Nat->Prop}{a b c:World}(h:Chg F a b)(k:Chg F b c):Chg F a c:=
 ⟨k.os.trans h.os,k.tape.trans h.tape,k.output.trans h.output,Nat.le_trans h.size k.size,fun i hi hn=>(k.block i (Nat.lt_of_lt_of_le hi h.size) hn).trans (h.block i hi hn)⟩
theorem Chg.of_below{F:Nat->Prop}{w w':World}(h:Below w.heap.size w w'):Chg F w w':=⟨h.os,h.tape,h.output,h.size,fun k hk _=>h.block k hk⟩
theorem Chg.mono{F G:Nat->Prop}{w w':World}(h:Chg F w w')(hfg:∀k,k<w.heap.size->F k->G k):Chg G w w':=⟨h.os,h.tape,h.output,h.size,fun k hk hn=>h.block k hk (fun hf=>hn (hfg k hk hf))⟩
def Ro(w:World)(e:TypeId)(v:Value)(n:Nat)(cs:List Value):Prop:=
 ∃ao cap,v=.slice ao n cap/\(0<n->∃b off cur fr,ao=some ⟨b,off,none⟩/\w.heap[b]? =some (.cells cur e fr)/\∀j,j<cs.length->cur[off+j]? =cs[j]?)/\(ao=none->cap=0)
theorem Ro.chg{F:Nat->Prop}{w w':World}{e:TypeId}{v:Value}{n:Nat}{cs:List Value}(h:Ro w e v n cs)(hc:Chg F w w')(hF:∀k cur fr,w.heap[k]? =some (.cells cur e fr)->¬F k):Ro w' e v n cs:=by
 obtain⟨ao,cap,rfl,hp,hz⟩:=h
 refine⟨ao,cap,rfl,fun hn=>?_,hz⟩
 obtain⟨b,off,cur,fr,rfl,hb,hcs⟩:=hp hn
 exact⟨b,off,cur,fr,rfl,by rw[hc.block b (Array.getElem?_eq_some_iff.1 hb).1 (hF b cur fr hb)];exact hb,hcs⟩
theorem Ro.below{w w':World}{e:TypeId}{v:Value}{n:Nat}{cs:List Value}(h:Ro w e v n cs)(hb:Below w.heap.size w w'):Ro w' e v n cs:=h.chg (F:=fun _=>False) (Chg.of_below hb) (fun _ _ _ _ h=>h)
theorem Ro.of_own{w:World}{base:Nat}{e:TypeId}{size:Nat}{v:Value}{n:Nat}{xs:List Value}(h:w.ownsRow base e size v n xs):Ro w e v n xs:=by
 obtain⟨hl,⟨rfl,rfl⟩|⟨g,cap,cur,rfl,_,hg,_,_,_,ht⟩⟩:=h
 ·exact⟨none,0,rfl,fun h=>absurd h (by decide),fun _=>rfl⟩
 ·refine⟨_,cap,rfl,fun _=>⟨g,0,cur,_,rfl,hg,fun j hj=>?_⟩,fun h=>by simp at h⟩
  rw[Nat.zero_add,<-ht,List.getElem?_take,if_pos (by omega)]
  simp
theorem ak{w:World}{g:Nat}{cs:Array Value}{t:TypeId}(h:w.heap[g]? =some (.cells cs t (0,0)))(i:Nat)(v:Value):(w.setCell ⟨g,i,none⟩ v).heap[g]? =some (.cells (cs.setIfInBounds i v) t (0,0)):=heap_setCell_same w g i cs t v h
theorem aG{w wr:World}{cb:Nat}(h:Below w.heap.size w wr)(o:Nat)(v:Value):Chg (· = cb) w (wr.setCell ⟨cb,o,none⟩ v):=
 ⟨h.os,h.tape,h.output,by rw[World.size_setCell];exact h.size,fun k hk hne=>by rw[Below.heap_setCell _ _ _ _ hne];exact h.block k hk⟩
theorem aj{B:Nat}{w wr:World}(h:Below B w wr)(n:Nat):Below B w (wr.drewN n):=⟨h.os,h.tape,h.output,h.size,h.block⟩
theorem ez{P:Program}(w:World)(base:Nat)(t ty e:TypeId)(i:TypeInfo)(z:Value)(size bytes:Nat)(ht:P.underlying t=some (.slice e))(hi:P.info? e=some i)(hz:i.zero=some z)
  (hsize:i.size=size) (hby:i.bytes=bytes) (hzs:z.cells.size=size) (hsz:0<size) (v:Value) (n:Nat) (xs:List Value) (hown:w.ownsRow base e size v n xs)
  (a:Addr) (m c:Nat) (news:List Value) (hl:news.length=m*size) (hnews:∀j u,news[j]? =some u->w.cell? (a.add j)=some u) (h1:∀u∈news,u.oneCell'=true)
  (h63:n+m<=maxLen) (hbytes:(n+m)*bytes<=140737488355328) (hbase:base<=w.heap.size):
  ∃v' w',(Builtin.append_ #[t,t] ty #[v,.slice (some a) m c]).run P w=.ok v' w'/\w'.ownsRow base e size v' (n+m) (xs++news)/\w.grownBy w' v.ownBlock/\(v'.ownBlock=v.ownBlock\/∀g,v'.ownBlock=some g->w.heap.size<=g):=by
 obtain⟨v',w',hrun,r1,r2,_⟩:=run_append_own (P:=P) w base t ty e i z size bytes ht hi hz hsize hby hzs hsz v n xs hown a m c news hl hnews h1 h63 hbytes hbase
 refine⟨v',w',hrun,r1,r2,?_⟩
 obtain⟨hlen,⟨rfl,rfl⟩|⟨g,cap,cur,rfl,hg,hcur,hcap,hmax,hsz',htk⟩⟩:=hown
 ·obtain rfl:xs=[]:=List.length_eq_zero_iff.1 (by simpa using hlen)
  obtain⟨v2,w2,h2,q1,_⟩:=run_append_own (P:=P) w w.heap.size t ty e i z size bytes ht hi hz hsize hby hzs hsz (.slice none 0 0) 0 [] (World.ownsRow_nil _ _ _ _) a m c news hl hnews h1 h63 hbytes (Nat.le_refl _)
  rw[hrun]at h2
  simp only[Result.ok.injEq]at h2
  obtain⟨rfl,rfl⟩:=h2
  exact Or.inr fun k hk=>(q1.lt k hk).1
 ·by_cases hroom:n+m<=cap
  ·subst hsize
   have hin:∀j,j<news.length->n*i.size+j<cur.size:=by
    intro j hj
    rw[hsz']
    have h2:(n+m)*i.size<=cap*i.size:=Nat.mul_le_mul_right _ hroom
    rw[Nat.add_mul]at h2
    omega
   have h2:=run_append_room_cells (P:=P) w t ty e i ht hi g 0 n cap a m c news hl hnews h1 hroom (fun j hj=>by
    rw[Nat.zero_add]
    simp only[World.cell?,hcur]
    have:=hin j hj
    simp[this]) (fun j hj=>frozen_of_row w g _ _ _ hcur)
   rw[hrun]at h2
   simp only[Result.ok.injEq]at h2
   obtain⟨rfl,rfl⟩:=h2
   exact Or.inl rfl
  ·have hold:∀j u,xs[j]? =some u->w.cell? ((⟨g,0,none⟩:Addr).add j)=some u:=by
    intro j u hu
    have hj:=(List.getElem?_eq_some_iff.1 hu).1
    rw[show(⟨g,0,none⟩:Addr).add j =⟨g,j,none⟩ from by simp[Addr.add];intro h;exact h.symm]
    rw[<-htk,List.getElem?_take,if_pos (by omega)]at hu
    simp only[World.cell?,hcur]
    simpa using hu
   obtain⟨v2,w2,h2,q1,_⟩:=run_append_arg_grows (P:=P) w t ty e i z size bytes ht hi hz hsize hby hzs hsz ⟨g,0,none⟩ n cap xs hlen hold a m c news hl hnews (by omega) h63 hbytes
   rw[hrun]at h2
   simp only[Result.ok.injEq]at h2
   obtain⟨rfl,rfl⟩:=h2
   exact Or.inr fun k hk=>(q1.lt k hk).1
theorem step_append_own{P:Program}{ops:Array Oper}{o:Oper}{a:Act}{w:World}{K:Act->World->Prop}{Q:Exit->Act->World->Prop}{E:Prop}
  (hg:o.guard=none) (s x:Operand) (t:TypeId) (hop:o.op=Op.call {callee:=Callee.builtin Builtin.append,args:=#[s,x],argTypes:=#[t,t]})
  (base:Nat) (e:TypeId) (i:TypeInfo) (z:Value) (size bytes:Nat) (h1:P.underlying t=some (.slice e)) (h2:P.info? e=some i) (h3:i.zero=some z) (h4:i.size=size) (h5:i.bytes=bytes) (h6:z.cells.size=size) (h7:0<size)
  (v:Value) (n:Nat) (xs:List Value) (hs:a.eval s=v) (hown:w.ownsRow base e size v n xs)
  (ad:Addr) (m c:Nat) (news:List Value) (hx:a.eval x=.slice (some ad) m c) (hn:news.length=m*size) (hc:∀j u,news[j]? =some u->w.cell? (ad.add j)=some u) (h1c:∀u∈news,u.oneCell'=true)
  (b1:n+m<=maxLen) (b2:(n+m)*bytes<=140737488355328) (hbase:base<=w.heap.size)
  (hK:∀v' w',w'.ownsRow base e size v' (n+m) (xs++news)->w.grownBy w' v.ownBlock->(v'.ownBlock=v.ownBlock\/∀g,v'.ownBlock=some g->w.heap.size<=g)->K (a.put o.dst v') w'):
  if Region.wanted o (yielded ops a.tmps)=true then Oper.wp P o a w K Q else E:=by
 have hw:Region.wanted o (yielded ops a.tmps)=true:=by simp[Region.wanted,hg]
 rw[if_pos hw]
 obtain⟨v',w',hrun,r1,r2,r3⟩:=ez (P:=P) w base t o.type e i z size bytes h1 h2 h3 h4 h5 h6 h7 v n xs hown ad m c news hn hc h1c b1 b2 hbase
 unfold Oper.wp
 simp[execOp,hop,resolve,invoke,builtin,hs,hx,hrun,Result.andThen]
 exact hK v' w' r1 r2 r3
theorem aO{w:World}{base:Nat}{e:TypeId}{sz:Nat}{v:Value}{n:Nat}{xs:List Value}(h:w.ownsRow base e sz v n xs){g:Nat}(hv:v.ownBlock=some g):∃cs,w.heap[g]? =some (.cells cs e (0,0)):=by
 obtain⟨_,⟨rfl,_⟩|⟨g',cap,cur,rfl,_,hg,_⟩⟩:=h
 ·simp[Value.ownBlock]at hv
 ·simp only[Value.ownBlock,Option.some.injEq]at hv
  subst hv
  exact⟨cur,hg⟩
theorem ar{w:World}{b1:Nat}{e1 e2:TypeId}{sz:Nat}{v1:Value}{n1:Nat}{x1:List Value}{g:Nat}{cs:Array Value}{fr:Nat×Nat}(h1:w.ownsRow b1 e1 sz v1 n1 x1)(hg:w.heap[g]? =some (.cells cs e2 fr))(he:e1≠e2):v1.ownBlock≠some g:=by
 intro hv
 obtain⟨c1,e1'⟩:=aO h1 hv
 rw[hg]at e1'
 simp only[Option.some.injEq,Obj.cells.injEq]at e1'
 exact he e1'.2.1.symm
theorem aY{w:World}{base:Nat}{e:TypeId}{sz:Nat}{v:Value}{n:Nat}{xs:List Value}(h:w.ownsRow base e sz v n xs):∃ao cap,v=.slice ao n cap:=by
 obtain⟨_,⟨rfl,rfl⟩|⟨g,cap,cur,rfl,_⟩⟩:=h
 ·exact⟨none,0,rfl⟩
 ·exact⟨_,cap,rfl⟩
theorem own_apartT{w:World}{b1 b2:Nat}{e1 e2:TypeId}{s1 s2:Nat}{v1 v2:Value}{n1 n2:Nat}{x1 x2:List Value}(h1:w.ownsRow b1 e1 s1 v1 n1 x1)(h2:w.ownsRow b2 e2 s2 v2 n2 x2)(he:e1≠e2):v1.ownBlock=none\/v1.ownBlock≠v2.ownBlock:=by
 cases h:v1.ownBlock with
 |none=>exact Or.inl rfl
 |some g=>
  refine Or.inr fun e=>?_
  obtain⟨cs,hc⟩:=aO h2 e.symm
  exact ar h1 hc he h
theorem bW{F:Nat->Prop}{w w':World}{base:Nat}{e:TypeId}{sz:Nat}{v:Value}{n:Nat}{xs:List Value}(h:w.ownsRow base e sz v n xs)(hc:Chg F w w')(hF:∀g,v.ownBlock=some g->¬F g):w'.ownsRow base e sz v n xs:=by
 refine⟨h.1,?_⟩
 rcases h.2 with hn|⟨g,cap,cur,rfl,hb,hgg,rest⟩
 ·exact .inl hn
 ·exact .inr ⟨g,cap,cur,rfl,hb,by rw[hc.block g (Array.getElem?_eq_some_iff.1 hgg).1 (hF g rfl)];exact hgg,rest⟩
theorem ey{F:Nat->Prop}{w w':World}{base:Nat}{e:TypeId}{sz:Nat}{v:Value}{n:Nat}{xs:List Value}(h:w.ownsRow base e sz v n xs)(hc:Chg F w w')(hF:∀k cur fr,w.heap[k]? =some (.cells cur e fr)->¬F k):w'.ownsRow base e sz v n xs:=
 bW h hc fun g hg=>by
  obtain⟨cs,hcs⟩:=aO h hg
  exact hF g cs _ hcs
theorem az{α:Type}{l:List α}{i j:Nat}{a:α}(h:j≠i):(l.set i a)[j]? =l[j]?:=by
 rw[List.getElem?_set];simp[Ne.symm h]
theorem aI{α:Type}{l:List α}{i:Nat}{a b:α}(h:l[i]? =some b):(l.set i a)[i]? =some a:=by
 have:=(List.getElem?_eq_some_iff.1 h).1
 simp[this]
theorem eL{α:Type}{l:List α}{i:Nat}{a:α}(h:l[i]? =some a):l.set i a=l:=by
 apply List.ext_getElem?
 intro j
 by_cases hj:j=i
 ·subst hj;rw[aI h,h]
 ·rw[az hj]
theorem al{w w':World}(h:Below w.drew.heap.size w.drew w'):Below w.heap.size w w':=⟨h.os,h.tape,h.output,h.size,h.block⟩
end Go.Proofs.YthmdjhlhodpbhaaGreatDoor
namespace Go.Proofs.YthmdjhlhodpbhaaGreatDoor
open Go.RowKit Go.Extern.Stop Go.Stop Go.Extern
set_option maxRecDepth 20000 in
theorem As_within2(hb hx:Nat)(e t:Addr)(w:World)(hg:w.cell? ⟨0,0,none⟩= some (.iface 263 (.agg #[.pointer (some ⟨4,109,none⟩)])))(hcause0:w.cell? ⟨hb,1,none⟩= some (.iface 155 (.pointer (some ⟨hx,0,none⟩))))(hcause1:w.cell? ⟨hx,1,none⟩= some (.iface 158 (.pointer (some e))))(ht0:w.cell? t=some (.pointer none))(hf0:w.frozen? t=false):
  Calls Tryz.prog 87 #[.iface 155 (.pointer (some ⟨hb,0,none⟩)),.iface 160 (.pointer (some t))] w fun ev w'=>ev=.returned (.bool true)/\Below t.block w w':=by
 have h6:=@run_callFunc_extern Tryz.prog 138 _ (fun args=>ReflectliteValue.unpack (args.getD 0 (.tuple #[]))) Tryz.func138 (by kernel_rfl) (by kernel_rfl) (by kernel_rfl) (by kernel_rfl)
 have h7:=@run_callFunc_extern Tryz.prog 139 _ (ReflectliteValue.methodAny (ReflectliteValue.valueError "reflectlite.Value.Type" 0) (fun t _ _ _=>ReflectliteType.toType t)) Tryz.func139 (by kernel_rfl) (by kernel_rfl) (by kernel_rfl) (by kernel_rfl)
 have h8:=@run_callFunc_extern Tryz.prog 140 _ (ReflectliteValue.method (ReflectliteValue.valueError "reflectlite.Value.IsNil" 0) ReflectliteValue.isNil) Tryz.func140 (by kernel_rfl) (by kernel_rfl) (by kernel_rfl) (by kernel_rfl)
 have h27:=@run_callFunc_extern Tryz.prog 261 _ (ReflectliteType.abiMethod fun t=>do pure (.int .u8 (<-Rtype.kind t))) Tryz.func261 (by kernel_rfl) (by kernel_rfl) (by kernel_rfl) (by kernel_rfl)
 have h37:=@run_callFunc_extern Tryz.prog 274 _ (ReflectliteType.method ReflectliteType.elem) Tryz.func274 (by kernel_rfl) (by kernel_rfl) (by kernel_rfl) (by kernel_rfl)
 have h38:=@run_callFunc_extern Tryz.prog 275 _ (ReflectliteType.relation "Implements" ReflectliteType.implements_) Tryz.func275 (by kernel_rfl) (by kernel_rfl) (by kernel_rfl) (by kernel_rfl)
 have h10:=@run_callFunc_extern Tryz.prog 170 _ ReflectliteType.typeOf Tryz.func170 (by kernel_rfl) (by kernel_rfl) (by kernel_rfl) (by kernel_rfl)
 have h35:=@run_callFunc_extern Tryz.prog 272 _ (ReflectliteType.relation "AssignableTo" ReflectliteType.assignableTo) Tryz.func272 (by kernel_rfl) (by kernel_rfl) (by kernel_rfl) (by kernel_rfl)
 have h11:=@run_callFunc_extern Tryz.prog 171 _ (ReflectliteValue.method (ReflectliteValue.valueError "reflectlite.Value.Elem" 0) ReflectliteValue.elem) Tryz.func171 (by kernel_rfl) (by kernel_rfl) (by kernel_rfl) (by kernel_rfl)
 have h12:=@run_callFunc_extern Tryz.prog 172 _ ReflectliteValue.set Tryz.func172 (by kernel_rfl) (by kernel_rfl) (by kernel_rfl) (by kernel_rfl)
 have noAs:=within_noAs
 have mU:=within_method
 have hasU:=gi
 have tN:=rl_typeOfN
 have tW:=rl_typeOfW
 have mA:=eG
 have aN:=rl_assignableN
 have aW:=rl_assignableW
 have vN:=rl_valueOfN
 have f6:=rl_valueOf
 have f7:=rl_type
 have mK:=rl_methodKind
 have mE:=rl_methodElem
 have mI:=fp
 have k27:=rl_kindPP
 have k25:=rl_kindP
 have e27:=rl_elemPP
 have i25:=rl_implements
 have n8:=rl_isNil ⟨w.heap.size,0,none⟩ t ((w.alloc (.cells #[.pointer (some t)] 160)).alloc (.cells #[.pointer (some ⟨4,160,none⟩),.pointer (some ⟨w.heap.size,0,none⟩),.int .u64 150] 217)) (by simp)
 have hlt:0<w.heap.size:=by
  rcases Nat.lt_or_ge 0 w.heap.size with h|h
  ·exact h
  ·simp[World.cell?,Array.getElem?_eq_none h]at hg
 have hg2:((w.alloc (.cells #[.pointer (some t)] 160)).alloc (.cells #[.pointer (some ⟨4,160,none⟩),.pointer (some ⟨w.heap.size,0,none⟩),.int .u64 150] 217)).cell? ⟨0,0,none⟩= some (.iface 263 (.agg #[.pointer (some ⟨4,109,none⟩)])):=by
  rw[World.cell?_alloc_lt _ _ ⟨0,0,none⟩ (by simp only[World.size_alloc];omega),World.cell?_alloc_lt _ _ ⟨0,0,none⟩ hlt];exact hg
 have htl:t.block<w.heap.size:=by
  rcases Nat.lt_or_ge t.block w.heap.size with h|h
  ·exact h
  ·simp[World.cell?,Array.getElem?_eq_none h]at ht0
 have hhl0:hb<w.heap.size:=cS hcause0
 have hc30:(((w.alloc (.cells #[.pointer (some t)] 160)).alloc (.cells #[.pointer (some ⟨4,160,none⟩),.pointer (some ⟨w.heap.size,0,none⟩),.int .u64 150] 217)).alloc (.cells #[.pointer (some ⟨4,160,none⟩),.pointer (some ⟨w.heap.size,0,none⟩),.int .u64 150] 217)).cell? ⟨hb,1,none⟩= some (.iface 155 (.pointer (some ⟨hx,0,none⟩))):=by
  rw[World.cell?_alloc_lt _ _ ⟨hb,1,none⟩ (by simp;omega),World.cell?_alloc_lt _ _ ⟨hb,1,none⟩ (by simp;omega),World.cell?_alloc_lt _ _ ⟨hb,1,none⟩ hhl0];exact hcause0
 have hhl1:hx<w.heap.size:=cS hcause1
 have hc31:(((w.alloc (.cells #[.pointer (some t)] 160)).alloc (.cells #[.pointer (some ⟨4,160,none⟩),.pointer (some ⟨w.heap.size,0,none⟩),.int .u64 150] 217)).alloc (.cells #[.pointer (some ⟨4,160,none⟩),.pointer (some ⟨w.heap.size,0,none⟩),.int .u64 150] 217)).cell? ⟨hx,1,none⟩= some (.iface 158 (.pointer (some e))):=by
  rw[World.cell?_alloc_lt _ _ ⟨hx,1,none⟩ (by simp;omega),World.cell?_alloc_lt _ _ ⟨hx,1,none⟩ (by simp;omega),World.cell?_alloc_lt _ _ ⟨hx,1,none⟩ hhl1];exact hcause1
 have el:=rl_elemV ⟨w.heap.size,0,none⟩ t (((w.alloc (.cells #[.pointer (some t)] 160)).alloc (.cells #[.pointer (some ⟨4,160,none⟩),.pointer (some ⟨w.heap.size,0,none⟩),.int .u64 150] 217)).alloc (.cells #[.pointer (some ⟨4,160,none⟩),.pointer (some ⟨w.heap.size,0,none⟩),.int .u64 150] 217)) (by rw[World.cell?_alloc_lt _ _ ⟨w.heap.size,0,none⟩ (by simp;omega)];simp)
 have st:=rl_set t ⟨w.heap.size+1+1+1,0,none⟩ e (.pointer none) ((((w.alloc (.cells #[.pointer (some t)] 160)).alloc (.cells #[.pointer (some ⟨4,160,none⟩),.pointer (some ⟨w.heap.size,0,none⟩),.int .u64 150] 217)).alloc (.cells #[.pointer (some ⟨4,160,none⟩),.pointer (some ⟨w.heap.size,0,none⟩),.int .u64 150] 217)).alloc (.cells #[.pointer (some e)] 158))
  (by rw[World.cell?_alloc_at _ _ _ _ (by simp)];rfl)
  (by rw[World.cell?_alloc_lt _ _ t (by simp;omega),World.cell?_alloc_lt _ _ t (by simp;omega),World.cell?_alloc_lt _ _ t (by simp;omega),World.cell?_alloc_lt _ _ t htl];exact ht0)
  (by rw[World.frozen?_alloc_old _ _ t (by simp;omega),World.frozen?_alloc_old _ _ t (by simp;omega),World.frozen?_alloc_old _ _ t (by simp;omega),World.frozen?_alloc_old _ _ t (Nat.ne_of_lt htl)];exact hf0)
 go_enter Tryz.func87,Tryz.ntmps87
 go_wp2
 refine wp_loop_rounds 3 ?_
 rw[rounds_succ]
 go_wp2
 rw[rounds_succ]
 go_wp2
 rw[rounds_succ]
 go_wp2
 go_ret
 refine⟨rfl,?_⟩
 have hb0:t.block<=w.heap.size:=Nat.le_of_lt htl
 exact((((((Below.refl t.block w).alloc hb0 _).alloc (by simp only[World.size_alloc];omega) _).alloc (by simp only[World.size_alloc];omega) _).alloc (by simp only[World.size_alloc];omega) _)).setCell (Nat.le_refl _) _
set_option maxRecDepth 20000 in
theorem As_within3(hb hx hy:Nat)(e t:Addr)(w:World)(hg:w.cell? ⟨0,0,none⟩= some (.iface 263 (.agg #[.pointer (some ⟨4,109,none⟩)])))(hcause0:w.cell? ⟨hb,1,none⟩= some (.iface 155 (.pointer (some ⟨hx,0,none⟩))))(hcause1:w.cell? ⟨hx,1,none⟩= some (.iface 155 (.pointer (some ⟨hy,0,none⟩))))(hcause2:w.cell? ⟨hy,1,none⟩= some (.iface 158 (.pointer (some e))))(ht0:w.cell? t=some (.pointer none))(hf0:w.frozen? t=false):
  Calls Tryz.prog 87 #[.iface 155 (.pointer (some ⟨hb,0,none⟩)),.iface 160 (.pointer (some t))] w fun ev w'=>ev=.returned (.bool true)/\Below t.block w w':=by
 have h6:=@run_callFunc_extern Tryz.prog 138 _ (fun args=>ReflectliteValue.unpack (args.getD 0 (.tuple #[]))) Tryz.func138 (by kernel_rfl) (by kernel_rfl) (by kernel_rfl) (by kernel_rfl)
 have h7:=@run_callFunc_extern Tryz.prog 139 _ (ReflectliteValue.methodAny (ReflectliteValue.valueError "reflectlite.Value.Type" 0) (fun t _ _ _=>ReflectliteType.toType t)) Tryz.func139 (by kernel_rfl) (by kernel_rfl) (by kernel_rfl) (by kernel_rfl)
 have h8:=@run_callFunc_extern Tryz.prog 140 _ (ReflectliteValue.method (ReflectliteValue.valueError "reflectlite.Value.IsNil" 0) ReflectliteValue.isNil) Tryz.func140 (by kernel_rfl) (by kernel_rfl) (by kernel_rfl) (by kernel_rfl)
 have h27:=@run_callFunc_extern Tryz.prog 261 _ (ReflectliteType.abiMethod fun t=>do pure (.int .u8 (<-Rtype.kind t))) Tryz.func261 (by kernel_rfl) (by kernel_rfl) (by kernel_rfl) (by kernel_rfl)
 have h37:=@run_callFunc_extern Tryz.prog 274 _ (ReflectliteType.method ReflectliteType.elem) Tryz.func274 (by kernel_rfl) (by kernel_rfl) (by kernel_rfl) (by kernel_rfl)
 have h38:=@run_callFunc_extern Tryz.prog 275 _ (ReflectliteType.relation "Implements" ReflectliteType.implements_) Tryz.func275 (by kernel_rfl) (by kernel_rfl) (by kernel_rfl) (by kernel_rfl)
 have h10:=@run_callFunc_extern Tryz.prog 170 _ ReflectliteType.typeOf Tryz.func170 (by kernel_rfl) (by kernel_rfl) (by kernel_rfl) (by kernel_rfl)
 have h35:=@run_callFunc_extern Tryz.prog 272 _ (ReflectliteType.relation "AssignableTo" ReflectliteType.assignableTo) Tryz.func272 (by kernel_rfl) (by kernel_rfl) (by kernel_rfl) (by kernel_rfl)
 have h11:=@run_callFunc_extern Tryz.prog 171 _ (ReflectliteValue.method (ReflectliteValue.valueError "reflectlite.Value.Elem" 0) ReflectliteValue.elem) Tryz.func171 (by kernel_rfl) (by kernel_rfl) (by kernel_rfl) (by kernel_rfl)
 have h12:=@run_callFunc_extern Tryz.prog 172 _ ReflectliteValue.set Tryz.func172 (by kernel_rfl) (by kernel_rfl) (by kernel_rfl) (by kernel_rfl)
 have noAs:=within_noAs
 have mU:=within_method
 have hasU:=gi
 have tN:=rl_typeOfN
 have tW:=rl_typeOfW
 have mA:=eG
 have aN:=rl_assignableN
 have aW:=rl_assignableW
 have vN:=rl_valueOfN
 have f6:=rl_valueOf
 have f7:=rl_type
 have mK:=rl_methodKind
 have mE:=rl_methodElem
 have mI:=fp
 have k27:=rl_kindPP
 have k25:=rl_kindP
 have e27:=rl_elemPP
 have i25:=rl_implements
 have n8:=rl_isNil ⟨w.heap.size,0,none⟩ t ((w.alloc (.cells #[.pointer (some t)] 160)).alloc (.cells #[.pointer (some ⟨4,160,none⟩),.pointer (some ⟨w.heap.size,0,none⟩),.int .u64 150] 217)) (by simp)
 have hlt:0<w.heap.size:=by
  rcases Nat.lt_or_ge 0 w.heap.size with h|h
  ·exact h
  ·simp[World.cell?,Array.getElem?_eq_none h]at hg
 have hg2:((w.alloc (.cells #[.pointer (some t)] 160)).alloc (.cells #[.pointer (some ⟨4,160,none⟩),.pointer (some ⟨w.heap.size,0,none⟩),.int .u64 150] 217)).cell? ⟨0,0,none⟩= some (.iface 263 (.agg #[.pointer (some ⟨4,109,none⟩)])):=by
  rw[World.cell?_alloc_lt _ _ ⟨0,0,none⟩ (by simp only[World.size_alloc];omega),World.cell?_alloc_lt _ _ ⟨0,0,none⟩ hlt];exact hg
 have htl:t.block<w.heap.size:=by
  rcases Nat.lt_or_ge t.block w.heap.size with h|h
  ·exact h
  ·simp[World.cell?,Array.getElem?_eq_none h]at ht0
 have hhl0:hb<w.heap.size:=cS hcause0
 have hc30:(((w.alloc (.cells #[.pointer (some t)] 160)).alloc (.cells #[.pointer (some ⟨4,160,none⟩),.pointer (some ⟨w.heap.size,0,none⟩),.int .u64 150] 217)).alloc (.cells #[.pointer (some ⟨4,160,none⟩),.pointer (some ⟨w.heap.size,0,none⟩),.int .u64 150] 217)).cell? ⟨hb,1,none⟩= some (.iface 155 (.pointer (some ⟨hx,0,none⟩))):=by
  rw[World.cell?_alloc_lt _ _ ⟨hb,1,none⟩ (by simp;omega),World.cell?_alloc_lt _ _ ⟨hb,1,none⟩ (by simp;omega),World.cell?_alloc_lt _ _ ⟨hb,1,none⟩ hhl0];exact hcause0
 have hhl1:hx<w.heap.size:=cS hcause1
 have hc31:(((w.alloc (.cells #[.pointer (some t)] 160)).alloc (.cells #[.pointer (some ⟨4,160,none⟩),.pointer (some ⟨w.heap.size,0,none⟩),.int .u64 150] 217)).alloc (.cells #[.pointer (some ⟨4,160,none⟩),.pointer (some ⟨w.heap.size,0,none⟩),.int .u64 150] 217)).cell? ⟨hx,1,none⟩= some (.iface 155 (.pointer (some ⟨hy,0,none⟩))):=by
  rw[World.cell?_alloc_lt _ _ ⟨hx,1,none⟩ (by simp;omega),World.cell?_alloc_lt _ _ ⟨hx,1,none⟩ (by simp;omega),World.cell?_alloc_lt _ _ ⟨hx,1,none⟩ hhl1];exact hcause1
 have hhl2:hy<w.heap.size:=cS hcause2
 have hc32:(((w.alloc (.cells #[.pointer (some t)] 160)).alloc (.cells #[.pointer (some ⟨4,160,none⟩),.pointer (some ⟨w.heap.size,0,none⟩),.int .u64 150] 217)).alloc (.cells #[.pointer (some ⟨4,160,none⟩),.pointer (some ⟨w.heap.size,0,none⟩),.int .u64 150] 217)).cell? ⟨hy,1,none⟩= some (.iface 158 (.pointer (some e))):=by
  rw[World.cell?_alloc_lt _ _ ⟨hy,1,none⟩ (by simp;omega),World.cell?_alloc_lt _ _ ⟨hy,1,none⟩ (by simp;omega),World.cell?_alloc_lt _ _ ⟨hy,1,none⟩ hhl2];exact hcause2
 have el:=rl_elemV ⟨w.heap.size,0,none⟩ t (((w.alloc (.cells #[.pointer (some t)] 160)).alloc (.cells #[.pointer (some ⟨4,160,none⟩),.pointer (some ⟨w.heap.size,0,none⟩),.int .u64 150] 217)).alloc (.cells #[.pointer (some ⟨4,160,none⟩),.pointer (some ⟨w.heap.size,0,none⟩),.int .u64 150] 217)) (by rw[World.cell?_alloc_lt _ _ ⟨w.heap.size,0,none⟩ (by simp;omega)];simp)
 have st:=rl_set t ⟨w.heap.size+1+1+1,0,none⟩ e (.pointer none) ((((w.alloc (.cells #[.pointer (some t)] 160)).alloc (.cells #[.pointer (some ⟨4,160,none⟩),.pointer (some ⟨w.heap.size,0,none⟩),.int .u64 150] 217)).alloc (.cells #[.pointer (some ⟨4,160,none⟩),.pointer (some ⟨w.heap.size,0,none⟩),.int .u64 150] 217)).alloc (.cells #[.pointer (some e)] 158))
  (by rw[World.cell?_alloc_at _ _ _ _ (by simp)];rfl)
  (by rw[World.cell?_alloc_lt _ _ t (by simp;omega),World.cell?_alloc_lt _ _ t (by simp;omega),World.cell?_alloc_lt _ _ t (by simp;omega),World.cell?_alloc_lt _ _ t htl];exact ht0)
  (by rw[World.frozen?_alloc_old _ _ t (by simp;omega),World.frozen?_alloc_old _ _ t (by simp;omega),World.frozen?_alloc_old _ _ t (by simp;omega),World.frozen?_alloc_old _ _ t (Nat.ne_of_lt htl)];exact hf0)
 go_enter Tryz.func87,Tryz.ntmps87
 go_wp2
 refine wp_loop_rounds 4 ?_
 rw[rounds_succ]
 go_wp2
 rw[rounds_succ]
 go_wp2
 rw[rounds_succ]
 go_wp2
 rw[rounds_succ]
 go_wp2
 go_ret
 refine⟨rfl,?_⟩
 have hb0:t.block<=w.heap.size:=Nat.le_of_lt htl
 exact((((((Below.refl t.block w).alloc hb0 _).alloc (by simp only[World.size_alloc];omega) _).alloc (by simp only[World.size_alloc];omega) _).alloc (by simp only[World.size_alloc];omega) _)).setCell (Nat.le_refl _) _
end Go.Proofs.YthmdjhlhodpbhaaGreatDoor
namespace Go.Proofs.YthmdjhlhodpbhaaGreatDoor
open Go.RowKit
def Env(w:World):Prop:=Lib.TabIs Tryz.prog w "internal/strconv.uint64pow10" .u64 Lib.pow10Tab/\w.cell? ⟨0,0,none⟩= some (.iface 263 (.agg #[.pointer (some ⟨4,109,none⟩)]))
theorem gPow:Tryz.prog.globalNamed "internal/strconv.uint64pow10" = some 1:=by kernel_rfl
theorem Env.below{w w':World}(h:Env w)(hb:Below w.heap.size w w'):Env w':=by
 refine⟨?_,ae h.2 hb⟩
 have h1:=h.1
 unfold Lib.TabIs World.var? at *
 rw[gPow]at h1⊢
 simp only[Option.bind_some]at h1⊢
 have hlt:1<w.heap.size:=by
  rcases Nat.lt_or_ge 1 w.heap.size with h|h
  ·exact h
  ·rw[Array.getElem?_eq_none h]at h1
   simp at h1
 rw[hb.block 1 hlt]
 exact h1
theorem below_grow(w:World)(k:Nat)(os:Array Obj):Below w.heap.size w (Sort.grow (w.drewN k) os):=by
 refine⟨?_,?_,?_,?_,?_⟩
 ·rfl
 ·simp[Sort.grow]
 ·rfl
 ·simp[Sort.grow]
 ·intro i hi
  simp[Sort.grow,Array.getElem?_append,hi]
theorem itoa_any(n:Int)(h0:0<=n)(h1:n<=9223372036854775807)(w:World)(he:Env w):Calls Tryz.prog 137 #[.int .i64 n] w fun e w'=>∃s:ByteArray,e=.returned (.string s)/\s.size<=21/\Below w.heap.size w w':=by
 refine(Tryz.strconv_Itoa n (by omega) (by omega) w he.1).mono ?_
 rintro e w' ⟨rfl,k,os,rfl⟩
 refine⟨_,rfl,?_,below_grow w k os⟩
 have:=Lib.itoa_length_le n (by omega) (by omega)
 show(Lib.itoa n).toArray.size<=21
 simpa using this
def dJ(l:List Int):Nat->Int
 |0=>0
 |1=>l.getD 0 0%64
 |k+2=>dJ l (k+1)*256+l.getD (k+1) 0
def gsz(l:List Int):Int:=if l.length=0 then 0 else if(l.length:Int)<ew (l.getD 0 0) then 0 else ew (l.getD 0 0)
def ea(l:List Int):Int:=if gsz l=0 then 0 else dJ l (gsz l).toNat
def gerr(l:List Int):Int:=if gsz l=0 then 2 else 0
theorem cQ{l:List Int}(hl:Bytes l)(k:Nat):0<=l.getD k 0/\l.getD k 0<256:=by
 rcases Nat.lt_or_ge k l.length with h|h
 ·exact hl _ (by simp[List.getD,List.getElem?_eq_getElem h])
 ·simp[List.getD,List.getElem?_eq_none h]
theorem valTo_range{l:List Int}(hl:Bytes l):(0<=dJ l 1/\dJ l 1<64)/\(0<=dJ l 2/\dJ l 2<16384)/\(0<=dJ l 3/\dJ l 3<4194304)/\(0<=dJ l 4/\dJ l 4<1073741824):=by
 have h0:=cQ hl 0
 have h1:=cQ hl 1
 have h2:=cQ hl 2
 have h3:=cQ hl 3
 have e1:dJ l 1=l.getD 0 0%64:=rfl
 have e2:dJ l 2=dJ l 1*256+l.getD 1 0:=rfl
 have e3:dJ l 3=dJ l 2*256+l.getD 2 0:=rfl
 have e4:dJ l 4=dJ l 3*256+l.getD 3 0:=rfl
 omega
theorem valTo_lt{l:List Int}(hl:Bytes l)(k:Nat)(h1:1<=k)(h2:k<4):0<=dJ l k/\dJ l k<4194304:=by
 obtain⟨a,b,c,_⟩:=valTo_range hl
 match k,h1,h2 with
 |1,_,_=>omega
 |2,_,_=>omega
 |3,_,_=>omega
theorem g_none{l:List Int}(h:gsz l=0):ea l=0/\gerr l=2:=by simp[ea,gerr,h]
theorem g_some{l:List Int}{S:Nat}(h:gsz l=S)(hs:0<S):ea l=dJ l S/\gerr l=0:=by
 have:¬gsz l=0:=by omega
 constructor
 ·unfold ea;rw[if_neg this,h,Int.toNat_natCast]
 ·simp[gerr,this]
end Go.Proofs.YthmdjhlhodpbhaaGreatDoor
