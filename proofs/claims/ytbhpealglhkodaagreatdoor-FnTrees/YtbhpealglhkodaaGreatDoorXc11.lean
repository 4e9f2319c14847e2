/- A region that draws its order, by what each operation's value is to be: one step an operat -/
import Derived.Orders
import Derived.OwnWalkIn
import Derived.Great.BuildSlice
import Derived.Great.FillDense
import Derived.Test.YtbhpealglhkodaaGreatDoorXc02
import Derived.OrdersIn
import Derived.Shelf.RegionOpen
namespace Go.Proofs.YtbhpealglhkodaaGreatDoor
set_option linter.all false
set_option maxRecDepth 100000
set_option maxHeartbeats 16000000
section
open Go.RowKit
structure RInv(ops:Array Oper)(fs:List (Nat×Value))(S:World→Prop)(V:Nat→Value→World→Prop)(m:Nat)(ds:List Deferred)(listed:Array Bool)(a:Act)(w:World):Prop where
 sz:a.tmps.size=m
 df:a.defers=ds
 held:S w
 vals:∀i o d,ops[i]?=some o→listed.getD i false=true→o.dst=some d→V i (a.tmps.getD d undef) w
 fix:∀t v,(t,v)∈fs→a.tmps.getD t undef=v
 seen:∀i o,ops[i]?=some o→listed.getD i false=true→∃v,V i v w
theorem getD_put{a:Act}{d t:Nat}{v:Value}(hd:d<a.tmps.size):(a.put (some d) v).tmps.getD t undef=if t=d then v else a.tmps.getD t undef:=by
 simp only[Act.put,Array.getD_eq_getD_getElem?,Array.getElem?_setIfInBounds];by_cases h:d=t
 ·subst h;simp[hd]
 ·simp[h,Ne.symm h]
theorem count_set{listed:Array Bool}{i:Nat}(hi:i<listed.size)(h:listed.getD i true=false):(listed.setIfInBounds i true).toList.count false+1=listed.toList.count false:=by
 have hl:listed[i]=false:=by simpa [hi] using h
 rw[Array.toList_setIfInBounds,List.count_set (by simpa using hi)];have hp:0<listed.toList.count false:=List.count_pos_iff.2 (by rw[←hl];exact Array.mem_toList_iff.2 (Array.getElem_mem hi));simp[hl];have:List.count false listed.toList=Array.count false listed:=by simp
 omega
theorem RInv.at{ops:Array Oper}{fs:List (Nat×Value)}{S:World→Prop}{V:Nat→Value→World→Prop}{m:Nat}{ds:List Deferred}{listed:Array Bool}{a:Act}{w:World}{o oj:Oper}(h:RInv ops fs S V m ds listed a w)
 (hall:∀e∈o.after,Region.binds .any e=true→listed.getD e.on false=true) (j d:Nat) (hj:ops[j]?=some oj) (hd:oj.dst=some d) (ha:(o.after.toList.any fun e=>e.on==j&&Region.binds .any e)=true):V j (a.tmps.getD d undef) w:=by
 rw[List.any_eq_true] at ha;obtain⟨e,he,h2⟩:=ha;rw[Bool.and_eq_true] at h2;have h3:e.on=j:=by simpa using h2.1
 have h4:=hall e (Array.mem_toList_iff.1 he) h2.2;rw[h3] at h4;exact h.vals j oj d hj h4 hd
end
section
open Go.RowKit
section
variable {F:Fence} {n:Nat} {P:Program} {ops:Array Oper} {rest:List Oper} {o:Oper} {a:Act} {w:World} {Q:Exit→Act→World→Prop}
theorem wpListIn_run(hgd:o.guard=none)(hnc:∀c,o.op≠.call c)(hnd:∀c,o.op≠.defer c)(v:Value)(w':World)(hrun:(execOp a.eval o).run P w=.ok (.value v) w')(h:wpListIn F n P ops Q rest (a.put o.dst v) w'):wpListIn F n P ops Q (o::rest) a w:=by
 refine wpListIn_plain hgd fun K hK'=>?_;have hab:o.about P w a.eval=none:=by
  unfold Oper.about;split
  ·rename_i c hc
   exact absurd hc (hnc c)
  ·rfl
 unfold Oper.wpIn;refine⟨?_,?_⟩
 ·simp[hab]
 ·rw[Oper.semAt_plain F _ _ hnd,hrun];exact hK' _ _ h
theorem wpListIn_runS(hgd:o.guard=none)(hnc:∀c,o.op≠.call c)(hnd:∀c,o.op≠.defer c)(w':World)(hrun:(execOp a.eval o).run P w=.ok .skip w')(h:wpListIn F n P ops Q rest (a.put o.dst undef) w'):wpListIn F n P ops Q (o::rest) a w:=by
 refine wpListIn_plain hgd fun K hK'=>?_;have hab:o.about P w a.eval=none:=by
  unfold Oper.about;split
  ·rename_i c hc
   exact absurd hc (hnc c)
  ·rfl
 unfold Oper.wpIn;refine⟨?_,?_⟩
 ·simp[hab]
 ·rw[Oper.semAt_plain F _ _ hnd,hrun];exact hK' _ _ h
theorem wpListIn_load_mid(hgd:o.guard=none)(ty:TypeId)(x:Operand)(ho:o.op=.load ty x)
 (b q:Nat) (hx:a.eval x=.pointer (some ⟨b,q,none⟩)) (cs:List Value) (d:TypeDesc) (hc:w.rangeAt b q cs)
 (hu:P.underlying ty=some d) (hd:d.isRow=true) (hi:(P.info? ty).map (·.size)=some cs.length)
 (h:wpListIn F n P ops Q rest (a.put o.dst (.agg cs.toArray)) w):wpListIn F n P ops Q (o::rest) a w:=by
 refine wpListIn_run hgd (by rw[ho];intro c hc;cases hc) (by rw[ho];intro c hc;cases hc) _ _ ?_ h;unfold execOp;simp only[ho,hx,Sem.run_bind,run_loadAt_mid w b q ty cs d hc hu hd hi,Result.andThen_ok];rfl
end
end
section
open Go.RowKit
def rchkB(ops:Array Oper)(m:Nat)(ks:List Nat):Bool:=
 (List.range ops.size).all fun i=>match ops[i]? with
  |none=>true
  |some o=>(o.after.toList.all fun e=>!(Region.binds .any e)||decide (e.on<i))&&(match o.dst with
   |none=>true
   |some d=>decide (d<m)&&!ks.contains d&&(List.range i).all fun j=>match ops[j]? with
    |none=>true
    |some oj=>!(oj.dst==some d))
theorem rchkB_at{ops:Array Oper}{m:Nat}{ks:List Nat}(h:rchkB ops m ks=true){i:Nat}{o:Oper}(hi:ops[i]?=some o):
 (∀e∈o.after,Region.binds .any e=true→e.on<i)∧∀d,o.dst=some d→d<m∧d∉ks∧∀j oj,j<i→ops[j]?=some oj→oj.dst≠some d:=by
 have hlt:i<ops.size:=(Array.getElem?_eq_some_iff.1 hi).1;unfold rchkB at h;rw[List.all_eq_true] at h;have h1:=h i (List.mem_range.2 hlt);simp only[hi,Bool.and_eq_true] at h1;obtain⟨ha,hb⟩:=h1;refine⟨fun e he hbd=>?_,fun d hd=>?_⟩
 ·rw[List.all_eq_true] at ha;have h9:=ha e (Array.mem_toList_iff.2 he);rw[hbd] at h9;simpa using h9
 ·simp only[hd,Bool.and_eq_true] at hb;obtain⟨⟨h2,h3⟩,h4⟩:=hb;refine⟨of_decide_eq_true h2,by simpa using h3,fun j oj hj hoj e=>?_⟩;rw[List.all_eq_true] at h4;have h5:=h4 j (List.mem_range.2 hj);simp only[hoj,e] at h5;simp at h5
def allB:Nat→List (List Bool)
 |0=>[[]]
 |n+1=>(allB n).flatMap fun l=>[true::l,false::l]
theorem mem_allB:∀(l:List Bool),l∈allB l.length
 |[]=>by simp[allB]
 |b::l=>by
  simp only[List.length_cons,allB,List.mem_flatMap];exact⟨l,mem_allB l,by cases b<;>simp⟩
def lstB(N mm:Nat)(l:List Bool):Array Bool:=(l++List.replicate (N-mm) false).toArray
def closedB(ops:Array Oper)(mm:Nat)(l:List Bool):Bool:=(List.range mm).all fun i=>!(l.getD i false)||(match ops[i]? with|some o=>o.after.toList.all (fun e=>!(Region.binds .any e)||l.getD e.on false)|none=>true)
def readsB(ops:Array Oper)(mm:Nat):Bool:=decide (mm≤ops.size)&&(allB mm).all fun l=>!(closedB ops mm l)||l.all id||(!(Region.ready .any ops (lstB ops.size mm l)).isEmpty&&(Region.ready .any ops (lstB ops.size mm l)).all (fun i=>decide (i<mm)))
theorem readsB_at{ops:Array Oper}{mm:Nat}(h:readsB ops mm=true){l:List Bool}(hl:l.length=mm)(hc:closedB ops mm l=true)(hn:l.all id=false):Region.ready .any ops (lstB ops.size mm l)≠[]∧∀i∈Region.ready .any ops (lstB ops.size mm l),i<mm:=by
 unfold readsB at h;rw[Bool.and_eq_true,List.all_eq_true] at h;have h1:=h.2 l (by rw[←hl];exact mem_allB l);rw[hc,hn] at h1;simp at h1;exact⟨h1.1,h1.2⟩
theorem lst_getD{N mm:Nat}{l:List Bool}(hl:l.length=mm)(i:Nat):(lstB N mm l).getD i false=l.getD i false:=by
 unfold lstB;rw[Array.getD_eq_getD_getElem?];simp only[List.getElem?_toArray,List.getElem?_append,List.getD_eq_getElem?_getD];split
 ·rfl
 ·rw[List.getElem?_replicate];rw[List.getElem?_eq_none (by omega)];split<;>rfl
theorem lst_set{N mm:Nat}{l:List Bool}(hl:l.length=mm){i:Nat}(hi:i<mm):(lstB N mm l).setIfInBounds i true=lstB N mm (l.set i true):=by
 unfold lstB;simp[List.set_append,hl,hi]
theorem wpAnyIn_reads{F:Fence}{n:Nat}{P:Program}{ops:Array Oper}{Q:Exit→Act→World→Prop}(fs:List (Nat×Value))(w:World)(V:Nat→Value)(m:Nat)(ds:List Deferred)(mm:Nat)
 (hB:rchkB ops m (fs.map (·.1))=true) (hchk:readsB ops mm=true)
 (hstep:∀(i:Nat) (o:Oper) (listed:Array Bool) (a:Act),i<mm→ops[i]?=some o→(∀e∈o.after,Region.binds .any e=true→listed.getD e.on false=true)→RInv ops fs (fun w'=>w'=w) (fun i v _=>v=V i) m ds listed a w→
  Region.wanted o (yielded ops a.tmps)=true∧(∀c,o.op≠.call c)∧(∀c,o.op≠.defer c)∧(execOp a.eval o).run P w=.ok (.value (V i)) w)
 (hfin:∀a,RInv ops fs (fun w'=>w'=w) (fun i v _=>v=V i) m ds (lstB ops.size mm (List.replicate mm true)) a w→wpAnyIn F n P .any ops Q (ops.size-mm) (lstB ops.size mm (List.replicate mm true)) a w):
 ∀(k:Nat) (l:List Bool) (a:Act),l.length=mm→closedB ops mm l=true→l.count false=k→RInv ops fs (fun w'=>w'=w) (fun i v _=>v=V i) m ds (lstB ops.size mm l) a w→wpAnyIn F n P .any ops Q (k+(ops.size-mm)) (lstB ops.size mm l) a w
 |0,l,a,hl,hc,hk,hI=>by
  have e:l=List.replicate mm true:=by
   rw[List.eq_replicate_iff];refine⟨hl,fun b hb=>?_⟩;cases b with
   |true=>rfl
   |false=>exact absurd (List.count_pos_iff.2 hb) (by omega)
  subst e;rw[Nat.zero_add];exact hfin a hI
 |k+1,l,a,hl,hc,hk,hI=>by
  have hn:l.all id=false:=by
   have:false∈l:=List.count_pos_iff.1 (by omega);cases e:l.all id with
   |false=>rfl
   |true=>rw[List.all_eq_true] at e;have:=e false this;simp at this
  obtain⟨hne,hlt⟩:=readsB_at hchk hl hc hn;rw[show k+1+(ops.size-mm)=(k+(ops.size-mm))+1 by omega];refine⟨fun h=>absurd h hne,fun i hi=>?_⟩;have him:=hlt i hi;obtain⟨h0,o,ho,hall⟩:=mem_ready.1 hi;have hall':∀e∈o.after,Region.binds .any e=true→(lstB ops.size mm l).getD e.on false=true:=hall;obtain⟨hwt,hnc,hnd,hrun⟩:=hstep i o _ a him ho hall' hI;have hab:o.about P w a.eval=none:=by
   unfold Oper.about;split
   ·rename_i c hc
    exact absurd hc (hnc c)
   ·rfl
  unfold wpOpIn;simp only[ho,hwt,if_true];unfold Oper.wpIn;refine⟨by simp[hab],?_⟩;rw[Oper.semAt_plain F _ _ hnd,hrun];show wpAnyIn F n P .any ops Q (k+(ops.size-mm)) ((lstB ops.size mm l).setIfInBounds i true) (a.put o.dst (V i)) w;rw[lst_set hl him];have hli:l.getD i false=false:=by
   have h1:(lstB ops.size mm l).getD i true=false:=h0;unfold lstB at h1;rw[Array.getD_eq_getD_getElem?,List.getElem?_toArray,List.getElem?_append_left (by omega),List.getElem?_eq_getElem (by omega)] at h1;rw[List.getD_eq_getElem?_getD,List.getElem?_eq_getElem (by omega)];exact h1
  have hget:∀j,(lstB ops.size mm (l.set i true)).getD j false=if j=i then true else(lstB ops.size mm l).getD j false:=fun j=>by
   rw[lst_getD (by simpa using hl),lst_getD hl,List.getD_eq_getElem?_getD,List.getD_eq_getElem?_getD,List.getElem?_set];by_cases e:i=j
   ·subst e;rw[if_pos rfl,if_pos (by omega),if_pos rfl];rfl
   ·rw[if_neg e,if_neg (fun h=>e h.symm)]
  refine wpAnyIn_reads fs w V m ds mm hB hchk hstep hfin k (l.set i true) _ (by simpa using hl) ?_ ?_ ?_
  ·unfold closedB at hc⊢;rw[List.all_eq_true] at hc⊢;intro j hj;have hcj:=hc j hj;have hset:∀x,l.getD x false=true→(l.set i true).getD x false=true:=fun x hx=>by
    rw[List.getD_eq_getElem?_getD,List.getElem?_set];by_cases e:i=x
    ·subst e;rw[if_pos rfl,if_pos (by omega)];rfl
    ·rw[if_neg e];rw[List.getD_eq_getElem?_getD] at hx;exact hx
   by_cases e:j=i
   ·subst e;rw[ho];simp only[Bool.or_eq_true,List.all_eq_true];refine .inr (fun ed he=>?_);cases hbd:Region.binds .any ed with
    |false=>simp
    |true=>
     have h5:=hall' ed (Array.mem_toList_iff.1 he) hbd;rw[lst_getD hl] at h5;exact .inr (hset _ h5)
   ·have hji:(l.set i true).getD j false=l.getD j false:=by
     rw[List.getD_eq_getElem?_getD,List.getD_eq_getElem?_getD,List.getElem?_set,if_neg (fun h=>e h.symm)]
    rw[hji];rw[Bool.or_eq_true] at hcj⊢;rcases hcj with h|h
    ·exact .inl h
    ·refine .inr ?_;cases hoj:ops[j]? with
     |none=>rfl
     |some oj=>
      rw[hoj] at h;simp only[List.all_eq_true,Bool.or_eq_true] at h⊢;intro ed he;rcases h ed he with h6|h6
      ·exact .inl h6
      ·exact .inr (hset _ h6)
  ·have hcs:List.count false (l.set i true)+1=List.count false l:=by
    have hlt2:i<l.length:=(by omega);rw[List.count_set hlt2];have hv:l[i]=false:=(by rw[List.getD_eq_getElem?_getD,List.getElem?_eq_getElem hlt2] at hli;exact hli);have hp:0<l.count false:=(by omega);simp[hv];omega
   omega
  ·cases hd:o.dst with
   |none=>
    refine⟨hI.sz,hI.df,rfl,fun j oj d hj hl2 hjd=>?_,hI.fix,fun j oj hj hl2=>⟨_,rfl⟩⟩;rw[hget] at hl2;by_cases e:j=i
    ·subst e;rw[ho] at hj;cases hj
     rw[hd] at hjd;cases hjd
    ·rw[if_neg e] at hl2;exact hI.vals j oj d hj hl2 hjd
   |some d0=>
    have hf:=(rchkB_at hB ho).2 d0 hd;have hd0:d0<a.tmps.size:=(by rw[hI.sz];exact hf.1);refine⟨by simp[Act.put,hI.sz],by simpa [Act.put] using hI.df,rfl,fun j oj d hj hl2 hjd=>?_,fun t u htu=>?_,fun j oj hj hl2=>⟨_,rfl⟩⟩
    ·rw[hget] at hl2;rw[getD_put hd0];by_cases e:j=i
     ·subst e;rw[ho] at hj;cases hj
      rw[hd] at hjd;cases hjd
      rw[if_pos rfl]
     ·rw[if_neg e] at hl2;have hne2:d≠d0:=fun h=>by
       subst h;rcases Nat.lt_trichotomy j i with h|h|h
       ·exact((rchkB_at hB ho).2 d hd).2.2 j oj h hj hjd
       ·exact e h
       ·exact((rchkB_at hB hj).2 d hjd).2.2 i o h ho hd
      rw[if_neg hne2];exact hI.vals j oj d hj hl2 hjd
    ·rw[getD_put hd0,if_neg (fun h:t=d0=>hf.2.1 (List.mem_map.2 ⟨(t,u),htu,h⟩))];exact hI.fix t u htu
theorem wpAnyIn_readsB{F:Fence}{n:Nat}{P:Program}{ops:Array Oper}{Q:Exit→Act→World→Prop}(fs:List (Nat×Value))(w:World)(V:Nat→Value)(m:Nat)(ds:List Deferred)(mm:Nat)
 (hB:rchkB ops m (fs.map (·.1))=true) (hchk:readsB ops mm=true)
 (hstep:∀(i:Nat) (o:Oper) (listed:Array Bool) (a:Act),i<mm→ops[i]?=some o→(∀e∈o.after,Region.binds .any e=true→listed.getD e.on false=true)→RInv ops fs (fun w'=>w'=w) (fun i v _=>v=V i) m ds listed a w→
  Region.wanted o (yielded ops a.tmps)=true∧(∀c,o.op≠.call c)∧(∀c,o.op≠.defer c)∧(execOp a.eval o).run P w=.ok (.value (V i)) w)
 (hfin:∀a,RInv ops fs (fun w'=>w'=w) (fun i v _=>v=V i) m ds (lstB ops.size mm (List.replicate mm true)) a w→wpAnyIn F n P .any ops Q (ops.size-mm) (lstB ops.size mm (List.replicate mm true)) a w)
 (a:Act) (hsz:a.tmps.size=m) (hdf:a.defers=ds) (hf:∀t v,(t,v)∈fs→a.tmps.getD t undef=v):wpAnyIn F n P .any ops Q ops.size (Array.replicate ops.size false) a w:=by
 have hmm:mm≤ops.size:=by
  unfold readsB at hchk;rw[Bool.and_eq_true] at hchk;exact of_decide_eq_true hchk.1
 have e:Array.replicate ops.size false=lstB ops.size mm (List.replicate mm false):=by
  unfold lstB;rw[List.replicate_append_replicate,show mm+(ops.size-mm)=ops.size by omega];simp
 have h:=wpAnyIn_reads (F:=F) (n:=n) (P:=P) (Q:=Q) fs w V m ds mm hB hchk hstep hfin mm (List.replicate mm false) a (by simp) ?_ (by simp) ⟨hsz,hdf,rfl,fun i o d _ hl _=>?_,hf,fun i o _ hl=>⟨_,rfl⟩⟩
 ·rw[show mm+(ops.size-mm)=ops.size by omega] at h;rw[e];exact h
 ·unfold closedB;rw[List.all_eq_true];intro j hj;have:(List.replicate mm false).getD j false=false:=by rw[List.getD_eq_getElem?_getD,List.getElem?_replicate];split<;>rfl
  rw[this];rfl
 ·rw[lst_getD (by simp)] at hl;have:(List.replicate mm false).getD i false=false:=by rw[List.getD_eq_getElem?_getD,List.getElem?_replicate];split<;>rfl
  rw[this] at hl;cases hl
end
end Go.Proofs.YtbhpealglhkodaaGreatDoor
