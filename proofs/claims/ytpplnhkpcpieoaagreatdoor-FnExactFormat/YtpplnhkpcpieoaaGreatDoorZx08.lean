/- A region that draws its order, by what each operation's value is to be: one step an operat -/
import Derived.Orders
import Derived.Great.BuildSlice
import Derived.Great.FillDense
import Derived.OrdersIn
import Derived.Test.YtpplnhkpcpieoaaGreatDoorZx07
namespace Go.Proofs.YtpplnhkpcpieoaaGreatDoor
open Go.Proofs.Tryz
open _root_.List (count range all_eq_true length_cons replicate getD_eq_getElem?_getD getElem?_set size_toArray length_nil push_toArray nil_append cons_append)
open _root_.Array (getD_eq_getD_getElem? getElem?_eq_getElem replicate_succ replicate_zero ext)
open World (drew)
open _root_.Bool (and_eq_true or_eq_true)
set_option linter.all false
set_option maxRecDepth 100000
set_option maxHeartbeats 16000000
section
open Go.RowKit
structure gW(ops:Array Oper)(fs:List (Nat×Value))(S:World→Prop)(V:Nat→Value→World→Prop)(m:Nat)(ds:List Deferred)(listed:Array Bool)(a:Act)(w:World):Prop where
 sz:a.tmps.size=m
 df:a.defers=ds
 held:S w
 vals:∀i o d,ops[i]?=some o→listed.getD i false=true→o.dst=some d→V i (a.tmps.getD d undef) w
 fix:∀t v,(t,v)∈fs→a.tmps.getD t undef=v
 seen:∀i o,ops[i]?=some o→listed.getD i false=true→∃v,V i v w
theorem nS{a:Act}{d t:Nat}{v:Value}(hd:d<a.tmps.size):(a.put (some d) v).tmps.getD t undef=if t=d then v else a.tmps.getD t undef:=by
 simp only[Act.put,getD_eq_getD_getElem?,Array.getElem?_setIfInBounds];by_cases h:d=t
 ·subst h;simp[hd]
 ·simp[h,Ne.symm h]
theorem mz{listed:Array Bool}{i j:Nat}(hi:i<listed.size):(listed.setIfInBounds i true).getD j false=if j=i then true else listed.getD j false:=by
 simp only[getD_eq_getD_getElem?,Array.getElem?_setIfInBounds];by_cases h:i=j
 ·subst h;simp[hi]
 ·simp[h,Ne.symm h]
theorem count_set{listed:Array Bool}{i:Nat}(hi:i<listed.size)(h:listed.getD i true=false):(listed.setIfInBounds i true).toList.count false+1=listed.toList.count false:=by
 have hl:listed[i]=false:=by simpa [hi] using h
 rw[Array.toList_setIfInBounds,List.count_set (by simpa using hi)];have hp:0<listed.toList.count false:=List.count_pos_iff.2 (by rw[←hl];exact Array.mem_toList_iff.2 (Array.getElem_mem hi));simp[hl];have:count false listed.toList=Array.count false listed:=by simp
 omega
theorem EN{ops:Array Oper}{listed:Array Bool}{md:Region.Mode}(hsz:listed.size=ops.size)(NN:∀(i:Nat) (o:Oper),ops[i]?=some o→∀e∈o.after,e.on<i)(h:Region.ready md ops listed=[]):∀i,i<ops.size→listed.getD i false=true:=by
 intro i;induction i using Nat.strongRecOn with
 |ind i ih=>
  intro hi;cases e:listed.getD i false with
  |true=>rfl
  |false=>
   exfalso;have hm:i∈Region.ready md ops listed:=by
    rw[mem_ready];refine⟨?_,ops[i],getElem?_eq_getElem hi,fun ed he _=>ih ed.on (NN i ops[i] (getElem?_eq_getElem hi) ed he) ?_⟩
    ·rw[getD_eq_getD_getElem?,getElem?_eq_getElem (by omega)] at e⊢;exact e
    ·have:=NN i ops[i] (getElem?_eq_getElem hi) ed he;omega
   rw[h] at hm;cases hm
theorem yc{P:Program}{ops:Array Oper}{Q:Exit→Act→World→Prop}(fs:List (Nat×Value))(S:World→Prop)(V:Nat→Value→World→Prop)(m:Nat)(ds:List Deferred)
 (NN:∀(i:Nat) (o:Oper),ops[i]?=some o→∀e∈o.after,e.on<i)
 (hdst:∀(i j:Nat) (oi oj:Oper) (d:Nat),ops[i]?=some oi→ops[j]?=some oj→oi.dst=some d→oj.dst=some d→i=j)
 (hfix:∀(i:Nat) (o:Oper) (d:Nat),ops[i]?=some o→o.dst=some d→d<m∧∀v,(d,v)∉fs)
 (hstep:∀(i:Nat) (o:Oper) (listed:Array Bool) (a:Act) (w:World),ops[i]?=some o→(∀e∈o.after,Region.binds .any e=true→listed.getD e.on false=true)→gW ops fs S V m ds listed a w→
  Region.wanted o (yielded ops a.tmps)=true∧o.wp P a w (fun a' w'=>∃v,a'=a.put o.dst v∧V i v w'∧S w'∧∀j u,V j u w→V j u w') Q)
 (hfin:∀listed a w,(∀i,i<ops.size→listed.getD i false=true)→gW ops fs S V m ds listed a w→Q .normal a w):
 ∀(fuel:Nat) (listed:Array Bool) (a:Act) (w:World),listed.size=ops.size→listed.toList.count false≤fuel→gW ops fs S V m ds listed a w→wpAny P .any ops Q fuel listed a w
 |0,listed,a,w,hsz,hc,hI=>by
  have hall:∀i,i<ops.size→listed.getD i false=true:=by
   intro i hi;cases e:listed.getD i false with
   |true=>rfl
   |false=>
    have:false∈listed.toList:=by
     rw[getD_eq_getD_getElem?,getElem?_eq_getElem (by omega),Option.getD_some] at e;rw[←e];exact Array.mem_toList_iff.2 (Array.getElem_mem (by omega))
    have:=List.count_pos_iff.2 this;omega
  refine⟨?_,hfin listed a w hall hI⟩;cases e:Region.ready .any ops listed with
  |nil=>rfl
  |cons j l=>
   have hj:j∈Region.ready .any ops listed:=(by rw[e];simp);obtain⟨h0,o,ho,_⟩:=mem_ready.1 hj;have hlt:j<ops.size:=(Array.getElem?_eq_some_iff.1 ho).1;have h1:=hall j hlt;rw[getD_eq_getD_getElem?,getElem?_eq_getElem (by omega)] at h0 h1;simp at h0 h1;rw[h0] at h1;cases h1
 |fuel+1,listed,a,w,hsz,hc,hI=>by
  refine⟨fun h=>hfin listed a w (EN hsz NN h) hI,fun i hi=>?_⟩;obtain⟨h0,o,ho,hall⟩:=mem_ready.1 hi;have hlt:i<ops.size:=(Array.getElem?_eq_some_iff.1 ho).1;have hs:=hstep i o listed a w ho hall hI;unfold wpOp;simp only[ho,hs.1,if_true];refine .inl (Oper.wp_mono ?_ hs.2);rintro a' w' ⟨v,rfl,hv,hS,hk⟩;have hcs:=count_set (listed:=listed) (i:=i) (by omega) h0;refine yc fs S V m ds NN hdst hfix hstep hfin fuel _ _ _ (by simpa using hsz) (by omega) ?_;cases hd:o.dst with
  |none=>
   refine⟨hI.sz,hI.df,hS,fun j oj d hj hl hjd=>?_,hI.fix,fun j oj hj hl=>?_⟩
   ·rw[mz (by omega)] at hl;by_cases e:j=i
    ·subst e;rw[ho] at hj;cases hj
     rw[hd] at hjd;cases hjd
    ·rw[if_neg e] at hl;exact hk j _ (hI.vals j oj d hj hl hjd)
   ·rw[mz (by omega)] at hl;by_cases e:j=i
    ·subst e;exact⟨v,hv⟩
    ·rw[if_neg e] at hl;obtain⟨u,hu⟩:=hI.seen j oj hj hl;exact⟨u,hk j u hu⟩
  |some d0=>
   have hf:=hfix i o d0 ho hd;have hd0:d0<a.tmps.size:=(by rw[hI.sz];exact hf.1);refine⟨by simp[Act.put,hI.sz],by simpa [Act.put] using hI.df,hS,fun j oj d hj hl hjd=>?_,fun t u htu=>?_,fun j oj hj hl=>?_⟩
   ·rw[mz (by omega)] at hl;rw[nS hd0];by_cases e:j=i
    ·subst e;rw[ho] at hj;cases hj
     rw[hd] at hjd;cases hjd
     rw[if_pos rfl];exact hv
    ·rw[if_neg e] at hl;rw[if_neg (fun h=>e (hdst j i oj o d hj ho hjd (by rw[hd,h])))];exact hk j _ (hI.vals j oj d hj hl hjd)
   ·rw[nS hd0,if_neg (fun h:t=d0=>hf.2 u (by rw[←h];exact htu))];exact hI.fix t u htu
   ·rw[mz (by omega)] at hl;by_cases e:j=i
    ·subst e;exact⟨v,hv⟩
    ·rw[if_neg e] at hl;obtain⟨u,hu⟩:=hI.seen j oj hj hl;exact⟨u,hk j u hu⟩
def tU(ops:Array Oper)(m:Nat)(ks:List Nat):Bool:=
 (range ops.size).all fun i=>match ops[i]? with
  |none=>true
  |some o=>(o.after.toList.all fun e=>decide (e.on<i))&&(match o.dst with
   |none=>true
   |some d=>decide (d<m)&&!ks.contains d&&(range i).all fun j=>match ops[j]? with
    |none=>true
    |some oj=>!(oj.dst==some d))
theorem qO{ops:Array Oper}{m:Nat}{ks:List Nat}(h:tU ops m ks=true){i:Nat}{o:Oper}(hi:ops[i]?=some o):
 (∀e∈o.after,e.on<i)∧∀d,o.dst=some d→d<m∧d∉ks∧∀j oj,j<i→ops[j]?=some oj→oj.dst≠some d:=by
 have hlt:i<ops.size:=(Array.getElem?_eq_some_iff.1 hi).1;unfold tU at h;rw[all_eq_true] at h;have h1:=h i (List.mem_range.2 hlt);simp only[hi,and_eq_true] at h1;obtain⟨ha,hb⟩:=h1;refine⟨fun e he=>?_,fun d hd=>?_⟩
 ·rw[all_eq_true] at ha;exact of_decide_eq_true (ha e (Array.mem_toList_iff.2 he))
 ·simp only[hd,and_eq_true] at hb;obtain⟨⟨h2,h3⟩,h4⟩:=hb;refine⟨of_decide_eq_true h2,by simpa using h3,fun j oj hj hoj e=>?_⟩;rw[all_eq_true] at h4;have h5:=h4 j (List.mem_range.2 hj);simp only[hoj,e] at h5;simp at h5
theorem EO{P:Program}{ops:Array Oper}{Q:Exit→Act→World→Prop}(fs:List (Nat×Value))(S:World→Prop)(V:Nat→Value→World→Prop)(m:Nat)(ds:List Deferred)
 (hB:tU ops m (fs.map (·.1))=true)
 (hstep:∀(i:Nat) (o:Oper) (listed:Array Bool) (a:Act) (w:World),ops[i]?=some o→(∀e∈o.after,Region.binds .any e=true→listed.getD e.on false=true)→gW ops fs S V m ds listed a w→
  Region.wanted o (yielded ops a.tmps)=true∧o.wp P a w (fun a' w'=>∃v,a'=a.put o.dst v∧V i v w'∧S w'∧∀j u,V j u w→V j u w') Q)
 (hfin:∀listed a w,(∀i,i<ops.size→listed.getD i false=true)→gW ops fs S V m ds listed a w→Q .normal a w)
 (a:Act) (w:World) (hsz:a.tmps.size=m) (hdf:a.defers=ds) (hS:S w) (hf:∀t v,(t,v)∈fs→a.tmps.getD t undef=v):wpAny P .any ops Q ops.size (Array.replicate ops.size false) a w:=by
 refine yc fs S V m ds (fun i o hi=>(qO hB hi).1) (fun i j oi oj d hi hj h1 h2=>?_) (fun i o d hi hd=>?_) hstep hfin _ _ _ _ (by simp) ?_ ⟨hsz,hdf,hS,fun i o d _ hl _=>?_,hf,fun i o _ hl=>?_⟩
 ·rcases Nat.lt_trichotomy i j with h|h|h
  ·exact absurd h1 (((qO hB hj).2 d h2).2.2 i oi h hi)
  ·exact h
  ·exact absurd h2 (((qO hB hi).2 d h1).2.2 j oj h hj)
 ·have:=(qO hB hi).2 d hd;exact⟨this.1,fun v hv=>this.2.1 (List.mem_map.2 ⟨_,hv,rfl⟩)⟩
 ·rw[Array.toList_replicate,List.count_replicate];simp
 ·simp[getD_eq_getD_getElem?,Array.getElem?_replicate] at hl;split at hl<;>simp at hl
 ·simp[getD_eq_getD_getElem?,Array.getElem?_replicate] at hl;split at hl<;>simp at hl
theorem gW.at{ops:Array Oper}{fs:List (Nat×Value)}{S:World→Prop}{V:Nat→Value→World→Prop}{m:Nat}{ds:List Deferred}{listed:Array Bool}{a:Act}{w:World}{o oj:Oper}(h:gW ops fs S V m ds listed a w)
 (hall:∀e∈o.after,Region.binds .any e=true→listed.getD e.on false=true) (j d:Nat) (hj:ops[j]?=some oj) (hd:oj.dst=some d) (ha:(o.after.toList.any fun e=>e.on==j&&Region.binds .any e)=true):V j (a.tmps.getD d undef) w:=by
 rw[List.any_eq_true] at ha;obtain⟨e,he,h2⟩:=ha;rw[and_eq_true] at h2;have h3:e.on=j:=by simpa using h2.1
 have h4:=hall e (Array.mem_toList_iff.1 he) h2.2;rw[h3] at h4;exact h.vals j oj d hj h4 hd
end
section
open Go.RowKit
section
variable {F:Fence} {n:Nat} {P:Program} {ops:Array Oper} {rest:List Oper} {o:Oper} {a:Act} {w:World} {Q:Exit→Act→World→Prop}
theorem tV(hgd:o.guard=none)(hnc:∀c,o.op≠.call c)(hnd:∀c,o.op≠.defer c)(v:Value)(w':World)(hrun:(execOp a.eval o).run P w=.ok (.value v) w')(h:wpListIn F n P ops Q rest (a.put o.dst v) w'):wpListIn F n P ops Q (o::rest) a w:=by
 refine wpListIn_plain hgd fun K hK'=>?_;have hab:o.about P w a.eval=none:=by
  unfold Oper.about;split
  ·rename_i c hc
   exact absurd hc (hnc c)
  ·rfl
 unfold Oper.wpIn;refine⟨?_,?_⟩
 ·simp[hab]
 ·rw[Oper.semAt_plain F _ _ hnd,hrun];exact hK' _ _ h
theorem EP(hgd:o.guard=none)(hnc:∀c,o.op≠.call c)(hnd:∀c,o.op≠.defer c)(w':World)(hrun:(execOp a.eval o).run P w=.ok .skip w')(h:wpListIn F n P ops Q rest (a.put o.dst undef) w'):wpListIn F n P ops Q (o::rest) a w:=by
 refine wpListIn_plain hgd fun K hK'=>?_;have hab:o.about P w a.eval=none:=by
  unfold Oper.about;split
  ·rename_i c hc
   exact absurd hc (hnc c)
  ·rfl
 unfold Oper.wpIn;refine⟨?_,?_⟩
 ·simp[hab]
 ·rw[Oper.semAt_plain F _ _ hnd,hrun];exact hK' _ _ h
theorem lJ(hgd:o.guard=none)(ty:TypeId)(x:Operand)(ho:o.op=.load ty x)
 (b q:Nat) (hx:a.eval x=.pointer (some ⟨b,q,none⟩)) (cs:List Value) (d:TypeDesc) (hc:w.rangeAt b q cs)
 (hu:P.underlying ty=some d) (hd:d.isRow=true) (hi:(P.info? ty).map (·.size)=some cs.length)
 (h:wpListIn F n P ops Q rest (a.put o.dst (.agg cs.toArray)) w):wpListIn F n P ops Q (o::rest) a w:=by
 refine tV hgd (by rw[ho];intro c hc;cases hc) (by rw[ho];intro c hc;cases hc) _ _ ?_ h;unfold execOp;simp only[ho,hx,Sem.run_bind,run_loadAt_mid w b q ty cs d hc hu hd hi,Result.andThen_ok];rfl
end
end
section
open Go.RowKit
theorem ER{ops:Array Oper}{listed:Array Bool}{md:Region.Mode}(hsz:listed.size=ops.size)(NN:∀(i:Nat) (o:Oper),ops[i]?=some o→∀e∈o.after,Region.binds md e=true→e.on<i)(h:Region.ready md ops listed=[]):∀i,i<ops.size→listed.getD i false=true:=by
 intro i;induction i using Nat.strongRecOn with
 |ind i ih=>
  intro hi;cases e:listed.getD i false with
  |true=>rfl
  |false=>
   exfalso;have hm:i∈Region.ready md ops listed:=by
    rw[mem_ready];refine⟨?_,ops[i],getElem?_eq_getElem hi,fun ed he hb=>ih ed.on (NN i ops[i] (getElem?_eq_getElem hi) ed he hb) ?_⟩
    ·rw[getD_eq_getD_getElem?,getElem?_eq_getElem (by omega)] at e⊢;exact e
    ·have:=NN i ops[i] (getElem?_eq_getElem hi) ed he hb;omega
   rw[h] at hm;cases hm
def pI(ops:Array Oper)(m:Nat)(ks:List Nat):Bool:=
 (range ops.size).all fun i=>match ops[i]? with
  |none=>true
  |some o=>(o.after.toList.all fun e=>!(Region.binds .any e)||decide (e.on<i))&&(match o.dst with
   |none=>true
   |some d=>decide (d<m)&&!ks.contains d&&(range i).all fun j=>match ops[j]? with
    |none=>true
    |some oj=>!(oj.dst==some d))
theorem m6{ops:Array Oper}{m:Nat}{ks:List Nat}(h:pI ops m ks=true){i:Nat}{o:Oper}(hi:ops[i]?=some o):
 (∀e∈o.after,Region.binds .any e=true→e.on<i)∧∀d,o.dst=some d→d<m∧d∉ks∧∀j oj,j<i→ops[j]?=some oj→oj.dst≠some d:=by
 have hlt:i<ops.size:=(Array.getElem?_eq_some_iff.1 hi).1;unfold pI at h;rw[all_eq_true] at h;have h1:=h i (List.mem_range.2 hlt);simp only[hi,and_eq_true] at h1;obtain⟨ha,hb⟩:=h1;refine⟨fun e he hbd=>?_,fun d hd=>?_⟩
 ·rw[all_eq_true] at ha;have h9:=ha e (Array.mem_toList_iff.2 he);rw[hbd] at h9;simpa using h9
 ·simp only[hd,and_eq_true] at hb;obtain⟨⟨h2,h3⟩,h4⟩:=hb;refine⟨of_decide_eq_true h2,by simpa using h3,fun j oj hj hoj e=>?_⟩;rw[all_eq_true] at h4;have h5:=h4 j (List.mem_range.2 hj);simp only[hoj,e] at h5;simp at h5
def pJ:Nat→List (List Bool)
 |0=>[[]]
 |n+1=>(pJ n).flatMap fun l=>[true::l,false::l]
theorem yd:∀(l:List Bool),l∈pJ l.length
 |[]=>by simp[pJ]
 |b::l=>by
  simp only[length_cons,pJ,List.mem_flatMap];exact⟨l,yd l,by cases b<;>simp⟩
def eZ(N mm:Nat)(l:List Bool):Array Bool:=(l++replicate (N-mm) false).toArray
def pK(ops:Array Oper)(mm:Nat)(l:List Bool):Bool:=(range mm).all fun i=>!(l.getD i false)||(match ops[i]? with|some o=>o.after.toList.all (fun e=>!(Region.binds .any e)||l.getD e.on false)|none=>true)
def pL(ops:Array Oper)(mm:Nat):Bool:=decide (mm≤ops.size)&&(pJ mm).all fun l=>!(pK ops mm l)||l.all id||(!(Region.ready .any ops (eZ ops.size mm l)).isEmpty&&(Region.ready .any ops (eZ ops.size mm l)).all (fun i=>decide (i<mm)))
theorem ES{ops:Array Oper}{mm:Nat}(h:pL ops mm=true){l:List Bool}(hl:l.length=mm)(hc:pK ops mm l=true)(hn:l.all id=false):Region.ready .any ops (eZ ops.size mm l)≠[]∧∀i∈Region.ready .any ops (eZ ops.size mm l),i<mm:=by
 unfold pL at h;rw[and_eq_true,all_eq_true] at h;have h1:=h.2 l (by rw[←hl];exact yd l);rw[hc,hn] at h1;simp at h1;exact⟨h1.1,h1.2⟩
theorem qP{N mm:Nat}{l:List Bool}(hl:l.length=mm)(i:Nat):(eZ N mm l).getD i false=l.getD i false:=by
 unfold eZ;rw[getD_eq_getD_getElem?];simp only[List.getElem?_toArray,List.getElem?_append,getD_eq_getElem?_getD];split
 ·rfl
 ·rw[List.getElem?_replicate];rw[List.getElem?_eq_none (by omega)];split<;>rfl
theorem ET{N mm:Nat}{l:List Bool}(hl:l.length=mm){i:Nat}(hi:i<mm):(eZ N mm l).setIfInBounds i true=eZ N mm (l.set i true):=by
 unfold eZ;simp[List.set_append,hl,hi]
theorem ye{F:Fence}{n:Nat}{P:Program}{ops:Array Oper}{Q:Exit→Act→World→Prop}(fs:List (Nat×Value))(w:World)(V:Nat→Value)(m:Nat)(ds:List Deferred)(mm:Nat)
 (hB:pI ops m (fs.map (·.1))=true) (OU:pL ops mm=true)
 (hstep:∀(i:Nat) (o:Oper) (listed:Array Bool) (a:Act),i<mm→ops[i]?=some o→(∀e∈o.after,Region.binds .any e=true→listed.getD e.on false=true)→gW ops fs (fun w'=>w'=w) (fun i v _=>v=V i) m ds listed a w→
  Region.wanted o (yielded ops a.tmps)=true∧(∀c,o.op≠.call c)∧(∀c,o.op≠.defer c)∧(execOp a.eval o).run P w=.ok (.value (V i)) w)
 (hfin:∀a,gW ops fs (fun w'=>w'=w) (fun i v _=>v=V i) m ds (eZ ops.size mm (replicate mm true)) a w→wpAnyIn F n P .any ops Q (ops.size-mm) (eZ ops.size mm (replicate mm true)) a w):
 ∀(k:Nat) (l:List Bool) (a:Act),l.length=mm→pK ops mm l=true→l.count false=k→gW ops fs (fun w'=>w'=w) (fun i v _=>v=V i) m ds (eZ ops.size mm l) a w→wpAnyIn F n P .any ops Q (k+(ops.size-mm)) (eZ ops.size mm l) a w
 |0,l,a,hl,hc,hk,hI=>by
  have e:l=replicate mm true:=by
   rw[List.eq_replicate_iff];refine⟨hl,fun b hb=>?_⟩;cases b with
   |true=>rfl
   |false=>exact absurd (List.count_pos_iff.2 hb) (by omega)
  subst e;rw[Nat.zero_add];exact hfin a hI
 |k+1,l,a,hl,hc,hk,hI=>by
  have hn:l.all id=false:=by
   have:false∈l:=List.count_pos_iff.1 (by omega);cases e:l.all id with
   |false=>rfl
   |true=>rw[all_eq_true] at e;have:=e false this;simp at this
  obtain⟨hne,hlt⟩:=ES OU hl hc hn;rw[show k+1+(ops.size-mm)=(k+(ops.size-mm))+1 by omega];refine⟨fun h=>absurd h hne,fun i hi=>?_⟩;have him:=hlt i hi;obtain⟨h0,o,ho,hall⟩:=mem_ready.1 hi;have St:∀e∈o.after,Region.binds .any e=true→(eZ ops.size mm l).getD e.on false=true:=hall;obtain⟨hwt,hnc,hnd,hrun⟩:=hstep i o _ a him ho St hI;have hab:o.about P w a.eval=none:=by
   unfold Oper.about;split
   ·rename_i c hc
    exact absurd hc (hnc c)
   ·rfl
  unfold wpOpIn;simp only[ho,hwt,if_true];unfold Oper.wpIn;refine⟨by simp[hab],?_⟩;rw[Oper.semAt_plain F _ _ hnd,hrun];show wpAnyIn F n P .any ops Q (k+(ops.size-mm)) ((eZ ops.size mm l).setIfInBounds i true) (a.put o.dst (V i)) w;rw[ET hl him];have hli:l.getD i false=false:=by
   have h1:(eZ ops.size mm l).getD i true=false:=h0;unfold eZ at h1;rw[getD_eq_getD_getElem?,List.getElem?_toArray,List.getElem?_append_left (by omega),List.getElem?_eq_getElem (by omega)] at h1;rw[getD_eq_getElem?_getD,List.getElem?_eq_getElem (by omega)];exact h1
  have hget:∀j,(eZ ops.size mm (l.set i true)).getD j false=if j=i then true else(eZ ops.size mm l).getD j false:=fun j=>by
   rw[qP (by simpa using hl),qP hl,getD_eq_getElem?_getD,getD_eq_getElem?_getD,getElem?_set];by_cases e:i=j
   ·subst e;rw[if_pos rfl,if_pos (by omega),if_pos rfl];rfl
   ·rw[if_neg e,if_neg (fun h=>e h.symm)]
  refine ye fs w V m ds mm hB OU hstep hfin k (l.set i true) _ (by simpa using hl) ?_ ?_ ?_
  ·unfold pK at hc⊢;rw[all_eq_true] at hc⊢;intro j hj;have hcj:=hc j hj;have hset:∀x,l.getD x false=true→(l.set i true).getD x false=true:=fun x hx=>by
    rw[getD_eq_getElem?_getD,getElem?_set];by_cases e:i=x
    ·subst e;rw[if_pos rfl,if_pos (by omega)];rfl
    ·rw[if_neg e];rw[getD_eq_getElem?_getD] at hx;exact hx
   by_cases e:j=i
   ·subst e;rw[ho];simp only[or_eq_true,all_eq_true];refine .inr (fun ed he=>?_);cases hbd:Region.binds .any ed with
    |false=>simp
    |true=>
     have h5:=St ed (Array.mem_toList_iff.1 he) hbd;rw[qP hl] at h5;exact .inr (hset _ h5)
   ·have hji:(l.set i true).getD j false=l.getD j false:=by
     rw[getD_eq_getElem?_getD,getD_eq_getElem?_getD,getElem?_set,if_neg (fun h=>e h.symm)]
    rw[hji];rw[or_eq_true] at hcj⊢;rcases hcj with h|h
    ·exact .inl h
    ·refine .inr ?_;cases hoj:ops[j]? with
     |none=>rfl
     |some oj=>
      rw[hoj] at h;simp only[all_eq_true,or_eq_true] at h⊢;intro ed he;rcases h ed he with h6|h6
      ·exact .inl h6
      ·exact .inr (hset _ h6)
  ·have hcs:count false (l.set i true)+1=count false l:=by
    have hlt2:i<l.length:=(by omega);rw[List.count_set hlt2];have hv:l[i]=false:=(by rw[getD_eq_getElem?_getD,List.getElem?_eq_getElem hlt2] at hli;exact hli);have hp:0<l.count false:=(by omega);simp[hv];omega
   omega
  ·cases hd:o.dst with
   |none=>
    refine⟨hI.sz,hI.df,rfl,fun j oj d hj hl2 hjd=>?_,hI.fix,fun j oj hj hl2=>⟨_,rfl⟩⟩;rw[hget] at hl2;by_cases e:j=i
    ·subst e;rw[ho] at hj;cases hj
     rw[hd] at hjd;cases hjd
    ·rw[if_neg e] at hl2;exact hI.vals j oj d hj hl2 hjd
   |some d0=>
    have hf:=(m6 hB ho).2 d0 hd;have hd0:d0<a.tmps.size:=(by rw[hI.sz];exact hf.1);refine⟨by simp[Act.put,hI.sz],by simpa [Act.put] using hI.df,rfl,fun j oj d hj hl2 hjd=>?_,fun t u htu=>?_,fun j oj hj hl2=>⟨_,rfl⟩⟩
    ·rw[hget] at hl2;rw[nS hd0];by_cases e:j=i
     ·subst e;rw[ho] at hj;cases hj
      rw[hd] at hjd;cases hjd
      rw[if_pos rfl]
     ·rw[if_neg e] at hl2;have hne2:d≠d0:=fun h=>by
       subst h;rcases Nat.lt_trichotomy j i with h|h|h
       ·exact((m6 hB ho).2 d hd).2.2 j oj h hj hjd
       ·exact e h
       ·exact((m6 hB hj).2 d hjd).2.2 i o h ho hd
      rw[if_neg hne2];exact hI.vals j oj d hj hl2 hjd
    ·rw[nS hd0,if_neg (fun h:t=d0=>hf.2.1 (List.mem_map.2 ⟨(t,u),htu,h⟩))];exact hI.fix t u htu
theorem yf{F:Fence}{n:Nat}{P:Program}{ops:Array Oper}{Q:Exit→Act→World→Prop}(fs:List (Nat×Value))(w:World)(V:Nat→Value)(m:Nat)(ds:List Deferred)(mm:Nat)
 (hB:pI ops m (fs.map (·.1))=true) (OU:pL ops mm=true)
 (hstep:∀(i:Nat) (o:Oper) (listed:Array Bool) (a:Act),i<mm→ops[i]?=some o→(∀e∈o.after,Region.binds .any e=true→listed.getD e.on false=true)→gW ops fs (fun w'=>w'=w) (fun i v _=>v=V i) m ds listed a w→
  Region.wanted o (yielded ops a.tmps)=true∧(∀c,o.op≠.call c)∧(∀c,o.op≠.defer c)∧(execOp a.eval o).run P w=.ok (.value (V i)) w)
 (hfin:∀a,gW ops fs (fun w'=>w'=w) (fun i v _=>v=V i) m ds (eZ ops.size mm (replicate mm true)) a w→wpAnyIn F n P .any ops Q (ops.size-mm) (eZ ops.size mm (replicate mm true)) a w)
 (a:Act) (hsz:a.tmps.size=m) (hdf:a.defers=ds) (hf:∀t v,(t,v)∈fs→a.tmps.getD t undef=v):wpAnyIn F n P .any ops Q ops.size (Array.replicate ops.size false) a w:=by
 have hmm:mm≤ops.size:=by
  unfold pL at OU;rw[and_eq_true] at OU;exact of_decide_eq_true OU.1
 have e:Array.replicate ops.size false=eZ ops.size mm (replicate mm false):=by
  unfold eZ;rw[List.replicate_append_replicate,show mm+(ops.size-mm)=ops.size by omega];simp
 have h:=ye (F:=F) (n:=n) (P:=P) (Q:=Q) fs w V m ds mm hB OU hstep hfin mm (replicate mm false) a (by simp) ?_ (by simp) ⟨hsz,hdf,rfl,fun i o d _ hl _=>?_,hf,fun i o _ hl=>⟨_,rfl⟩⟩
 ·rw[show mm+(ops.size-mm)=ops.size by omega] at h;rw[e];exact h
 ·unfold pK;rw[all_eq_true];intro j hj;have:(replicate mm false).getD j false=false:=by rw[getD_eq_getElem?_getD,List.getElem?_replicate];split<;>rfl
  rw[this];rfl
 ·rw[qP (by simp)] at hl;have:(replicate mm false).getD i false=false:=by rw[getD_eq_getElem?_getD,List.getElem?_replicate];split<;>rfl
  rw[this] at hl;cases hl
end
section
open Go.RowKit Go.Shelf
attribute [local go_sem] Oper.semAt_some
theorem yg(lY n₀ z:Nat)(Ty:TypeId→Prop)(J Jx:List TX→World→Prop)(Z:TL)(cnt sz:Nat)(zs:List Int)(C:Array Value)(iv:Value)(w0:World)
 (hT1:¬Ty 108) (ON:¬Ty 175) (hJ:iL z J)
 (hY:∀m pre x W1,J pre W1→jV Z pre x W1→YieldAt Fence.wide m prog lY (TX.enc x) W1 fun e W'=>(e=.returned (.bool true)∧J (pre++[x]) W'∧Kq n₀ z Ty W1 W')∨(e=.returned (.bool false)∧Jx (pre++[x]) W'∧KeepsFrom z W1 W'))
 (hC0:C[0]?=some iv) (Ny:C[1]?=some (.int .i64 (sz:Int))) (hCs:C.size=16) (hR:Rd .u8 w0 iv zs) (hn₀:n₀=w0.heap.size) (hz:zs.length≤1048576) (hbd:∀z∈zs,0≤z∧z<256) (hsz:sz≤262144) (hcnt:cnt=(sz+511)/512):
 ∀lv,lv≤2→tT lY n₀ z Ty J Jx Z cnt zs C w0 lv
 |0,h=>ya lY n₀ z Ty J Jx Z cnt sz zs C iv w0 hT1 ON hJ hY hC0 Ny hCs hR hn₀ hz hbd hsz hcnt 0 h (fun l' e=>by cases e)
 |lv+1,h=>ya lY n₀ z Ty J Jx Z cnt sz zs C iv w0 hT1 ON hJ hY hC0 Ny hCs hR hn₀ hz hbd hsz hcnt (lv+1) h (fun l' e=>by cases e;exact yg lY n₀ z Ty J Jx Z cnt sz zs C iv w0 hT1 ON hJ hY hC0 Ny hCs hR hn₀ hz hbd hsz hcnt lv (by omega))
def bT(j:Nat):Nat:=if j<12 then 0 else if j=12 then 1 else 2
def cq(j:Nat):Nat:=if j<12 then j else 0
def nT(X:Nat)(j:Nat):Array Value:=#[bh (bT j) (cq j),.pointer (some ⟨X,2+j,none⟩)]
theorem EU(n X:Nat)(w:World):
 CallsIn Fence.wide n prog 93 #[.pointer (some ⟨X,1,none⟩)] w fun e w'=>e=.returned (.func (.func 132) #[] #[.pointer (some ⟨w.heap.size,0,none⟩)])∧w'=w.alloc (.cells #[.pointer (some ⟨X,1,none⟩)] 173):=by
 refine callsIn_of_wp func93 rfl trivial ?_ rfl;simp only[ntmps93,size_toArray,length_cons,length_nil,Nat.reduceAdd,Nat.reduceSub,replicate_succ,replicate_zero,push_toArray,List.append_toArray,nil_append,cons_append];gi_wp2
 go_ret;exact⟨rfl,rfl⟩
theorem yh(k:Nat):range k++[k]=range (k+1):=List.range_succ.symm
theorem EV(n Bx X n₀ z:Nat)(Ty:TypeId→Prop)(hTy:¬Ty 173)(W:World)(hBx:af W Bx #[.pointer (some ⟨X,1,none⟩)] 173):
 qD Fence.wide n prog 132 #[.pointer (some ⟨Bx,0,none⟩)] (nT X) (Kq n₀ z Ty) (fun pre x _=>x=pre.length∧x<14) (fun xs=>xs=range 14) (fun _=>True) W:=by
 intro l J Jx hJ hJx hY h0;have hdd:∀k:Nat,(Fence.wide.depth.isSome=true→1≤k):=fun k h=>by cases h
 have HY:=ae (∀(j:Nat) (W1:World),j<14→J (range j) W1→af W1 Bx #[.pointer (some ⟨X,1,none⟩)] 173→YieldAt Fence.wide (n-1) prog l (nT X j) W1 fun e W'=>(e=.returned (.bool true)∧J (range (j+1)) W'∧af W' Bx #[.pointer (some ⟨X,1,none⟩)] 173)∨(e=.returned (.bool false)∧∃pre,Jx pre W')) (fun j W1 hj h1 h2=>by
  have:=hY (range j) j W1 h1 ⟨by simp,hj⟩;exact YieldAt.mono this fun e W' h=>h.elim (fun⟨he,hj2,hk⟩=>.inl ⟨he,by rw[←yh];exact hj2,hk.blk h2 hTy⟩) (fun⟨he,hx,_⟩=>.inr ⟨he,_,hx⟩))
 have H0:=aa (ai h0 hBx);clear hY h0 hBx hJ hJx;refine callsIn_of_wp func132 rfl trivial ?_ rfl;simp only[ntmps132,size_toArray,length_cons,length_nil,Nat.reduceAdd,Nat.reduceSub,replicate_succ,replicate_zero,push_toArray,List.append_toArray,nil_append,cons_append];gi_wp2
 gi_loopw [4] (fun iv wr=>∃i:Nat,i≤12∧iv=.int .i64 (i:Int)∧J (range i) wr∧af wr Bx #[.pointer (some ⟨X,1,none⟩)] 173) (fun iv _=>12-(intOf iv).toNat)
 case atStart=>exact⟨0,by omega,rfl,H0.out.1,H0.out.2⟩
 case round=>
  obtain⟨i,hi,rfl,hj,hb⟩:=hrel;clear H0;have cb:=(hb.cell 0).trans (show _=some (.pointer (some ⟨X,1,none⟩)) from rfl);by_cases hi2:i<12
  ·obtain⟨fn,tmps,assign,body,hy,hR⟩:=HY.out i wr (by omega) hj hb;have Uk:(i:Int)<12:=(by omega);replace hy:(Instr.yield l #[.agg #[.int .i64 0,.int .i64 (i:Int)],.pointer (some ⟨X,2+i,none⟩)]).run prog wr=.ok (.round l fn tmps assign body) wr:=by
    have e:nT X i=#[.agg #[.int .i64 0,.int .i64 (i:Int)],.pointer (some ⟨X,2+i,none⟩)]:=(by unfold nT bT cq bh;rw[if_pos hi2,if_pos hi2];rfl);rw[e] at hy;exact hy
   have HR:=aa hR;clear hR hj hb;gi_wp2
   refine⟨hdd _,?_⟩;refine HR.out.mono ?_;rintro e W3 (⟨rfl,Py,hb3⟩|⟨rfl,pre,hx3⟩)
   ·have H3:=aa (ai Py hb3);clear Py hb3 hy HR cb;gi_wp2
    go_roundw
    case rel=>exact⟨i+1,by omega,by go_num,H3.out.1,H3.out.2⟩
    case measure=>simp[intOf];omega
   ·have H3:=aa hx3;clear hx3 hy HR cb;gi_wp2
    refine bodyPost_ret (results_none rfl _ _ _) rfl ?_;exact⟨⟨_,rfl⟩,.inr ⟨pre,trivial,H3.out⟩⟩
  ·have hi3:i=12:=(by omega);subst hi3;clear hi2;obtain⟨fn,tmps,assign,body,hy,hR⟩:=HY.out 12 wr (by omega) hj hb;replace hy:(Instr.yield l #[.agg #[.int .i64 1,.int .i64 0],.pointer (some ⟨X,14,none⟩)]).run prog wr=.ok (.round l fn tmps assign body) wr:=hy;have HR:=aa hR;clear hR hj hb;gi_wp2
   refine⟨hdd _,?_⟩;refine HR.out.mono ?_;rintro e W3 (⟨rfl,Py,hb3⟩|⟨rfl,pre,hx3⟩)
   ·obtain⟨Yh,Qu,assign2,Qv,hy2,hR2⟩:=HY.out 13 W3 (by omega) Py hb3;replace hy2:(Instr.yield l #[.agg #[.int .i64 2,.int .i64 0],.pointer (some ⟨X,15,none⟩)]).run prog W3=.ok (.round l Yh Qu assign2 Qv) W3:=hy2;have SV:=(hb3.cell 0).trans (show _=some (.pointer (some ⟨X,1,none⟩)) from rfl);have HR2:=aa hR2;clear hR2 Py hb3 hy HR cb;gi_wp2
    refine⟨hdd _,?_⟩;refine HR2.out.mono ?_;rintro e W4 (⟨rfl,U0,hb4⟩|⟨rfl,pre,hx4⟩)
    ·have H4:=aa U0;clear U0 hb4 hy2 HR2 SV;gi_wp2
     go_end0;exact⟨⟨_,rfl⟩,.inl ⟨_,rfl,H4.out⟩⟩
    ·have H4:=aa hx4;clear hx4 hy2 HR2 SV;gi_wp2
     go_end0;exact⟨⟨_,rfl⟩,.inr ⟨pre,trivial,H4.out⟩⟩
   ·have H3:=aa hx3;clear hx3 hy HR cb;gi_wp2
    go_end0;exact⟨⟨_,rfl⟩,.inr ⟨pre,trivial,H3.out⟩⟩
def iS(cnt n:Nat)(W:Int→Nat→Int)(Pv:Nat→Int)(j:Nat):TL:=dO cnt n W (bT j) (cq j) (Pv j)
def fe(cnt n:Nat)(W:Int→Nat→Int)(Pv:Nat→Int):List TL:=(range 14).map (iS cnt n W Pv)
theorem qQ(j:Nat):bT j≤2:=by
 unfold bT;by_cases h1:j<12
 ·rw[if_pos h1];omega
 ·rw[if_neg h1];by_cases h2:j=12
  ·rw[if_pos h2];omega
  ·rw[if_neg h2];omega
theorem pM{j:Nat}(h:j<14):aT (bT j) (cq j)≤100000:=by
 unfold bT cq;by_cases h1:j<12
 ·rw[if_pos h1,if_pos h1];simp[aT];omega
 ·rw[if_neg h1,if_neg h1];by_cases h2:j=12
  ·rw[if_pos h2];simp[aT,bI]
  ·rw[if_neg h2];simp[aT,bI]
theorem EW(W:World):W.grownBy (drew W) none:=⟨rfl,rfl,rfl,aj,fun _ _ _=>rfl⟩
theorem EX{cnt n:Nat}{W:Int→Nat→Int}{Pv:Nat→Int}{j:Nat}(h:j<14):(fe cnt n W Pv)[j]?=some (iS cnt n W Pv j):=by unfold fe;simp[h]
structure mB(lY n₀ z:Nat)(Ty:TypeId→Prop)(J:List TX→World→Prop)(Z:TL)(Ls:List TL)(C:Array Value)(w0 W:World)(X:Nat)(pre:List Nat)(Wx:World):Prop where
 le:pre.length≤14
 inv:J (aY ((Ls.take pre.length).flatMap (·.1))) Wx
 fits:fQ Z ((Ls.take pre.length).flatMap (·.1)) (dz (Ls.drop pre.length))
 good:∀x∈Ls.take pre.length,x.2=false
 tree:af Wx X C 108
 yb:af Wx W.heap.size #[.func (.yield lY) #[] #[]] 246
 fF:Below n₀ w0 Wx
 size:W.heap.size+4≤Wx.heap.size
theorem qR{P:Program}{o:Oper}{a:Act}{w:World}(ty:TypeId)(x:Operand)(ho:o.op=.load ty x)
 (g:Nat) (hx:a.eval x=.pointer (some ⟨g,0,none⟩)) (t:TypeId) (cs:Array Value) (fr:Nat×Nat) (d:TypeDesc) (hg:w.heap[g]?=some (.cells cs t fr))
 (hu:P.underlying ty=some d) (hd:(match d with|.struct _|.array _ _=>true|_=>false)=true) (hi:(P.info? ty).map (·.size)=some cs.size):(execOp a.eval o).run P w=.ok (.value (.agg cs)) w:=by
 unfold execOp;simp only[ho,hx,Instr.loadAt,Instr.sureAddr,Sem.run_bind,Sem.run_pure,Result.andThen_ok,run_loadVar_row w g t ty cs fr d hg hu hd hi]
theorem lK{B:Nat}{W W':World}(hb:Below W.heap.size W W'):KeepsFrom B W W':=⟨hb.size,fun k o _ hk _=>(hb.block k (Array.getElem?_eq_some_iff.1 hk).1).trans hk⟩
theorem kR{A B:World}{r b:Nat}{C:Array Value}{t:TypeId}(h:af A b C t)(hg:A.grownBy B (some r))(hr:∃o,A.heap[r]?=some o∧o.isCells=false):af B b C t:=
 (hg.block b h.lt (fun e=>by
  injection e with e;subst e;obtain⟨o,ho,hc⟩:=hr;rw[h] at ho;cases ho
  cases hc)).trans h
theorem dZ{A B:World}{row:Option Nat}{b z:Nat}{C:Array Value}{t:TypeId}(h:af A b C t)(hg:A.grownBy B row)(hr:∀r,row=some r→z≤r∧∃o,A.heap[r]?=some o∧o.isCells=false):af B b C t:=by
 cases row with
 |none=>exact(hg.block b h.lt (fun e=>by cases e)).trans h
 |some r=>exact kR h hg (hr r rfl).2
theorem lM{w0 A B:World}{row:Option Nat}{n₀ z:Nat}(h:Below n₀ w0 A)(hn:n₀≤z)(hA:n₀≤A.heap.size)(hg:A.grownBy B row)(hr:∀r,row=some r→z≤r∧∃o,A.heap[r]?=some o∧o.isCells=false):Below n₀ w0 B:=
 h.grown hg hA (fun k e=>aK hn (hr k e).1)
theorem mB.dU{lY n₀ z z1:Nat}{Ty:TypeId→Prop}{J:List TX→World→Prop}{Z:TL}{Ls:List TL}{C:Array Value}{w0 W:World}{X:Nat}(hJ:iL z J)(hz:z≤z1)(hn:n₀≤z)(hW:n₀≤W.heap.size):iL z1 (mB lY n₀ z Ty J Z Ls C w0 W X):=by
 intro pre A B row h hg hr;exact⟨h.le,hJ _ _ _ row h.inv hg (fun r e=>⟨aK hz (hr r e).1,(hr r e).2⟩),h.fits,h.good,dZ h.tree hg hr,dZ h.yb hg hr,lM h.fF (aK hn hz) (aK hW (aK (by omega) h.size)) hg hr,aK h.size hg.size⟩
theorem EY(a:Array Value)(h:a.size=17):a=#[a.getD 0 undef,a.getD 1 undef,a.getD 2 undef,a.getD 3 undef,a.getD 4 undef,a.getD 5 undef,a.getD 6 undef,a.getD 7 undef,a.getD 8 undef,a.getD 9 undef,a.getD 10 undef,a.getD 11 undef,a.getD 12 undef,a.getD 13 undef,a.getD 14 undef,a.getD 15 undef,a.getD 16 undef]:=by
 have e:a=((range 17).map fun i=>a.getD i undef).toArray:=ext (by simp[h]) (fun i h1 h2=>by simp[Array.getD,h1]);exact e
theorem tW(n:Nat)(hn:1≤n)(X n₀:Nat)(Ty:TypeId→Prop)(Z:TL)(cnt sz:Nat)(zs:List Int)(C:Array Value)(Pv:Nat→Int)(iv:Value)(w0 W:World)
 (hT1:¬Ty 108) (ON:¬Ty 175) (hT3:¬Ty 173) (hT4:¬Ty 246)
 (hC0:C[0]?=some iv) (Ny:C[1]?=some (.int .i64 (sz:Int))) (Qw:∀j,j<14→C[2+j]?=some (.int .i64 (Pv j))) (hCs:C.size=16) (hR:Rd .u8 w0 iv zs) (hn₀:n₀=w0.heap.size) (hz:zs.length≤1048576) (hbd:∀z∈zs,0≤z∧z<256) (hsz:sz≤262144) (hcnt:cnt=(sz+511)/512)
 (hZ:Z=dz (fe cnt (zs.length/512) (aQ zs) Pv)) (hX:af W X C 108) (hbW:Below n₀ w0 W) (SY:n₀≤W.heap.size):
 qD Fence.wide n prog 145 #[.pointer (some ⟨X,0,none⟩)] TX.enc (Kq n₀ W.heap.size Ty) (jV Z) (fun xs=>(Z.2=false∧xs=aY Z.1)∨(Z.2=true∧∃x,xs=aY Z.1++[x])) (fun _=>True) W:=by
 intro lY J Jx hJ hJx hY h0;have HT:=aa (yg lY n₀ W.heap.size Ty J Jx Z cnt sz zs C iv w0 hT1 ON hJ (fun m pre x W1 h1 h2=>YieldAt.EH m (hY pre x W1 h1 h2)) hC0 Ny hCs hR hn₀ hz hbd hsz hcnt);have HP:=aa (ai Qw hCs);have HX:=aa (ai hX (ai hbW h0));have HJ:=aa (ai hJ hJx);have Yi:=aa (ai hT1 (ai ON (ai hT3 hT4)));have HZ:=aa hZ;clear hY hC0 Ny hR hbd hcnt hX hbW h0 Qw hJ hJx hT1 ON hT3 hT4 hZ hCs;obtain⟨w2,hw2⟩:∃w2,w2=(W.alloc (.cells #[.func (.yield lY) #[] #[]] 246)).alloc (.cells #[.pointer (some ⟨X,1,none⟩)] 173):=⟨_,rfl⟩;have hs2:w2.heap.size=W.heap.size+2:=by rw[hw2];simp
 have B2:=ae (Below W.heap.size W w2) (by rw[hw2];exact(ak.alloc aj _).alloc (by simp) _);have KY:=ae (af w2 W.heap.size #[.func (.yield lY) #[] #[]] 246) (by rw[hw2];exact(af.new W _ _).alloc _);have KR:=ae (af w2 (W.heap.size+1) #[.pointer (some ⟨X,1,none⟩)] 173) (by have h:=af.new (W.alloc (.cells #[.func (.yield lY) #[] #[]] 246)) #[.pointer (some ⟨X,1,none⟩)] 173;rw[World.size_alloc] at h;rw[hw2];exact h);have HW2:=aa hw2;have HS2:=aa hs2;clear hw2 hs2;have hdd:∀k:Nat,(Fence.wide.depth.isSome=true→1≤k):=fun k h=>by cases h
 refine callsIn_of_wp_marks func145 rfl trivial ?_ rfl;simp only[ntmps145,size_toArray,length_cons,length_nil,Nat.reduceAdd,Nat.reduceSub,replicate_succ,replicate_zero,push_toArray,List.append_toArray,nil_append,cons_append];gi_wp2_with (refine⟨trivial,?_⟩;gi_at_call 93;refine(EU _ X _).mono ?_;rintro e w' ⟨rfl,rfl⟩)
 rw[←HW2.out];have hw2s:=HS2.out;have hmx:prog.follows .mixedOrders=true:=by kernel_rfl
 refine mj (α:=Nat) rfl hn (gf:=132) (lb:=#[.pointer (some ⟨W.heap.size+1,0,none⟩)]) rfl trivial (enters_of func132 (by kernel_rfl) rfl) (encs:=nT X) (Kp:=Kq n₀ (w2.heap.size+2) Ty) Kq.trans (fun A o o' ho hc=>Kq.put o' (by omega) (by omega) ho hc)
  (Ok:=fun pre x _=>x=pre.length∧x<14) (S:=fun xs=>xs=range 14) (Sp:=fun _=>True)
  (fun W1 hb1 hs1=>EV (n-1) (W.heap.size+1) X n₀ (w2.heap.size+2) Ty Yi.out.2.2.1 W1 (KR.out.below hb1 KR.out.lt))
  (fun _=>rfl) (mB lY n₀ W.heap.size Ty J Z (fe cnt (zs.length/512) (aQ zs) Pv) C w0 W X)
  (fun c pre Wx=>c=.ret∧((∃p,Jx p Wx)∨(Z.2=true∧∃x,J (aY Z.1++[x]) Wx)))
  (mB.dU HJ.out.1 (by omega) SY SY)
  (fun c pre A B row h hg hr=>⟨h.1,h.2.elim (fun⟨p,hp⟩=>.inl ⟨p,HJ.out.2 _ _ _ row hp hg (fun r e=>⟨by have:=(hr r e).1;omega,(hr r e).2⟩)⟩) (fun⟨h1,x,hx⟩=>.inr ⟨h1,x,HJ.out.1 _ _ _ row hx hg (fun r e=>⟨by have:=(hr r e).1;omega,(hr r e).2⟩)⟩)⟩)
  ?start
  (fun pre x a' Wx=>∃c,a'={tmps:=#[.func (.yield lY) #[] #[],.pointer (some ⟨X,0,none⟩),.pointer (some ⟨W.heap.size,0,none⟩),.pointer (some ⟨c,0,none⟩),.pointer (some ⟨X,2+x,none⟩),.pointer (some ⟨X,1,none⟩),.func (.func 132) #[] #[.pointer (some ⟨W.heap.size+1,0,none⟩)],bh (bT x) (cq x),.pointer (some ⟨X,2+x,none⟩),undef,undef,undef,undef,undef,undef,undef,undef],defers:=[]}∧af Wx c #[.int .i64 (bT x:Int),.int .i64 (cq x:Int)] 175∧mB lY n₀ W.heap.size Ty J Z (fe cnt (zs.length/512) (aQ zs) Pv) C w0 W X pre Wx∧x=pre.length∧x<14) ?ax ?assign ?body ?done ?stop
 case start=>
  intro W' hb hsz';refine⟨by simp,?_,?_,fun x hx=>by simp at hx,?_,KY.out.below hb KY.out.lt,HX.out.2.1.trans ((B2.out.trans (hb.mono (by omega))).mono SY),by omega⟩
  ·have hb3:=B2.out.trans (hb.mono (by omega));exact HJ.out.1 _ _ _ none HX.out.2.2 ⟨hb3.os,hb3.tape,hb3.output,hb3.size,fun k hk _=>hb3.block k hk⟩ (fun r e=>by cases e)
  ·simp only[length_nil,List.take_zero,List.flatMap_nil,List.drop_zero];rw[←HZ.out];exact fQ.all Z
  ·exact(HX.out.1.below B2.out HX.out.1.lt).below hb (by have:=HX.out.1.lt;omega)
 case ax=>
  rintro pre x a' A B ⟨c,h1,h2,h3,h4⟩ hg hr;exact⟨c,h1,kR h2 hg hr,mB.dU HJ.out.1 (z1:=w2.heap.size+1) (by omega) SY SY pre A B _ h3 hg (fun r e=>by cases e;exact⟨aj,hr⟩),h4⟩
 case assign=>
  rintro l pre x Wx K hI ⟨hx1,hx2⟩ hK;have HK:=aa (ai hI (ai hK (ai hx1 hx2)));clear hI hK hx1 hx2;unfold nT;generalize hTL:bT x=tl at HK⊢;generalize hTR:cq x=tr at HK⊢;have Qt:=aa (ai hTL hTR);clear hTL hTR;gi_wp2
  have bA:Below Wx.heap.size Wx (Wx.alloc (.cells #[.int .i64 (tl:Int),.int .i64 (tr:Int)] 175)):=ak.alloc aj _;exact HK.out.2.1 _ _ (lK bA) (Kq.cV bA (by have:=HK.out.1.size;omega)) ⟨_,rfl,af.new _ _ _,mB.dU HJ.out.1 (z1:=W.heap.size) aj SY SY pre _ _ none HK.out.1 ⟨bA.os,bA.tape,bA.output,bA.size,fun k hk _=>bA.block k hk⟩ (fun r e=>by cases e),HK.out.2.2⟩
 case body=>
  rintro l pre x a' Wx ⟨c,rfl,kc,hI,hx1,hx2⟩;have HI:=aa (ai hI (ai hx1 hx2));have c0:=(kc.cell 0).trans (show _=some (.int .i64 (bT x:Int)) from rfl);have c1:=(kc.cell 1).trans (show _=some (.int .i64 (cq x:Int)) from rfl);have cp:=(hI.tree.cell (2+x)).trans (HP.out.1 x hx2);have cy:=(hI.yb.cell 0).trans (show _=some (.func (.yield lY) #[] #[]) from rfl);have Re:=aa (ai hI.tree kc);clear hI hx1 hx2 kc;gi_wp2
  refine wpIn_region_any (by assumption) ?_;change wpAnyIn _ _ _ _ _ _ _ _ _ (drew Wx);have d0:(drew Wx).cell? ⟨c,0,none⟩=some (.int .i64 (bT x:Int)):=c0;have d1:(drew Wx).cell? ⟨c,1,none⟩=some (.int .i64 (cq x:Int)):=c1;have dp:(drew Wx).cell? ⟨X,2+x,none⟩=some (.int .i64 (Pv x)):=cp;have dy:(drew Wx).cell? ⟨W.heap.size,0,none⟩=some (.func (.yield lY) #[] #[]):=cy;refine yf [(0,.func (.yield lY) #[] #[]),(1,.pointer (some ⟨X,0,none⟩)),(2,.pointer (some ⟨W.heap.size,0,none⟩)),(3,.pointer (some ⟨c,0,none⟩)),(4,.pointer (some ⟨X,2+x,none⟩)),(5,.pointer (some ⟨X,1,none⟩)),(6,.func (.func 132) #[] #[.pointer (some ⟨W.heap.size+1,0,none⟩)]),(7,bh (bT x) (cq x)),(8,.pointer (some ⟨X,2+x,none⟩))] (drew Wx) (fun i=>match i with|0=>.agg C|1=>.agg #[.int .i64 (bT x:Int),.int .i64 (cq x:Int)]|2=>.pointer (some ⟨X,2+x,none⟩)|3=>.pointer (some ⟨X,2+x,none⟩)|4=>.int .i64 (Pv x)|_=>.func (.yield lY) #[] #[]) 17 [] 6 (by kernel_rfl) (by kernel_rfl) ?hstep ?hfin _ rfl rfl (by
   intro t v h;simp only[List.mem_cons,List.not_mem_nil,or_false,Prod.mk.injEq] at h;rcases h with⟨rfl,rfl⟩|⟨rfl,rfl⟩|⟨rfl,rfl⟩|⟨rfl,rfl⟩|⟨rfl,rfl⟩|⟨rfl,rfl⟩|⟨rfl,rfl⟩|⟨rfl,rfl⟩|⟨rfl,rfl⟩<;>rfl)
  case hstep=>
   intro i o listed ac him hi hall bL;have f1:ac.tmps.getD 1 undef=.pointer (some ⟨X,0,none⟩):=bL.fix 1 _ (by simp);have f2:ac.tmps.getD 2 undef=.pointer (some ⟨W.heap.size,0,none⟩):=bL.fix 2 _ (by simp);have f3:ac.tmps.getD 3 undef=.pointer (some ⟨c,0,none⟩):=bL.fix 3 _ (by simp);have f4:ac.tmps.getD 4 undef=.pointer (some ⟨X,2+x,none⟩):=bL.fix 4 _ (by simp);match i,him,hi with
   |0,_,hi=>
    obtain rfl:=Option.some.inj hi;exact⟨by rfl,(fun c=>by intro h;cases h),(fun c=>by intro h;cases h),qR (a:=ac) 108 (.tmp 1) rfl X (show ac.eval (.tmp 1)=_ from f1) 108 C (0,0) _ (show(drew Wx).heap[X]?=some (.cells C 108 (0,0)) from Re.out.1) underlying108 rfl (by rw[HP.out.2];exact jm)⟩
   |1,_,hi=>
    obtain rfl:=Option.some.inj hi;exact⟨by rfl,(fun c=>by intro h;cases h),(fun c=>by intro h;cases h),by go_simp⟩
   |2,_,hi=>
    obtain rfl:=Option.some.inj hi;exact⟨by rfl,(fun c=>by intro h;cases h),(fun c=>by intro h;cases h),by go_simp⟩
   |3,_,hi=>
    obtain rfl:=Option.some.inj hi;have v2:ac.tmps.getD 11 undef=.pointer (some ⟨X,2+x,none⟩):=bL.at hall 2 11 rfl rfl (by rfl);exact⟨by rfl,(fun c=>by intro h;cases h),(fun c=>by intro h;cases h),by go_simp⟩
   |4,_,hi=>
    obtain rfl:=Option.some.inj hi;have v3:ac.tmps.getD 12 undef=.pointer (some ⟨X,2+x,none⟩):=bL.at hall 3 12 rfl rfl (by rfl);exact⟨by rfl,(fun c=>by intro h;cases h),(fun c=>by intro h;cases h),by go_simp⟩
   |5,_,hi=>
    obtain rfl:=Option.some.inj hi;exact⟨by rfl,(fun c=>by intro h;cases h),(fun c=>by intro h;cases h),by go_simp⟩
   |k+6,him,_=>exact absurd him (by omega)
  case hfin=>
   rintro ⟨tm,df⟩ bL;have hdf:df=[]:=bL.df;have e:=EY tm bL.sz;have g0:tm.getD 0 undef=.func (.yield lY) #[] #[]:=bL.fix 0 _ (by simp);have g1:tm.getD 1 undef=.pointer (some ⟨X,0,none⟩):=bL.fix 1 _ (by simp);have g2:tm.getD 2 undef=.pointer (some ⟨W.heap.size,0,none⟩):=bL.fix 2 _ (by simp);have g3:tm.getD 3 undef=.pointer (some ⟨c,0,none⟩):=bL.fix 3 _ (by simp);have g4:tm.getD 4 undef=.pointer (some ⟨X,2+x,none⟩):=bL.fix 4 _ (by simp);have g5:tm.getD 5 undef=.pointer (some ⟨X,1,none⟩):=bL.fix 5 _ (by simp);have g6:tm.getD 6 undef=.func (.func 132) #[] #[.pointer (some ⟨W.heap.size+1,0,none⟩)]:=bL.fix 6 _ (by simp);have g7:tm.getD 7 undef=bh (bT x) (cq x):=bL.fix 7 _ (by simp);have g8:tm.getD 8 undef=.pointer (some ⟨X,2+x,none⟩):=bL.fix 8 _ (by simp);have g9:tm.getD 9 undef=.agg C:=bL.vals 0 _ 9 rfl rfl rfl;have g10:tm.getD 10 undef=.agg #[.int .i64 (bT x:Int),.int .i64 (cq x:Int)]:=bL.vals 1 _ 10 rfl rfl rfl;have g11:tm.getD 11 undef=.pointer (some ⟨X,2+x,none⟩):=bL.vals 2 _ 11 rfl rfl rfl;have g12:tm.getD 12 undef=.pointer (some ⟨X,2+x,none⟩):=bL.vals 3 _ 12 rfl rfl rfl;have g13:tm.getD 13 undef=.int .i64 (Pv x):=bL.vals 4 _ 13 rfl rfl rfl;have g14:tm.getD 14 undef=.func (.yield lY) #[] #[]:=bL.vals 5 _ 14 rfl rfl rfl;rw[g0,g1,g2,g3,g4,g5,g6,g7,g8,g9,g10,g11,g12,g13,g14] at e;generalize tm.getD 15 undef=Xd at e;generalize tm.getD 16 undef=u16 at e;clear g0 g1 g2 g3 g4 g5 g6 g7 g8 g9 g10 g11 g12 g13 g14 bL;subst e hdf;refine wpAnyIn_ready (rs:=[6]) (by kernel_rfl) (by simp) ?_;refine AllReadyIn.cons rfl (fun K hK=>?_) AllReadyIn.nil;go_simp;refine⟨trivial,hdd _,?_⟩;have hJd:J (aY (((fe cnt (zs.length/512) (aQ zs) Pv).take pre.length).flatMap (·.1))) (drew Wx):=HJ.out.1 _ _ _ none HI.out.1.inv (EW Wx) (fun r e=>by cases e);have hat:(fe cnt (zs.length/512) (aQ zs) Pv)[pre.length]?=some (iS cnt (zs.length/512) (aQ zs) Pv pre.length):=EX (by have:=HI.out.2;omega);have hfn:=qN (A:=[]) (by rw[nil_append];exact HI.out.1.fits) hat;rw[nil_append,nil_append] at hfn;have hcall:=HT.out (bT x) (qQ x) (n-1-1-1) (cq x) (Pv x) _ (drew Wx) (pM HI.out.2.2) (HI.out.1.fF.drew) (by have:=HI.out.1.size;show n₀≤Wx.heap.size;omega) hJd (by rw[HI.out.2.1];exact hfn.1);refine(CallsIn.inRound l hcall).mono ?_;rintro e W3 ⟨b,rfl,htp⟩;have SX:=aa htp;have Yj:=aa (ai hfn.2 hat);clear htp hcall hfn hJd hat;refine hK _ _ ?_;clear hK K;refine wpAnyIn_ready (rs:=[7]) (by kernel_rfl) (by simp) ?_;refine AllReadyIn.cons rfl (fun K hK=>?_) AllReadyIn.nil;go_simp;refine hK _ _ ?_;clear hK K;refine wpAnyIn_done (by kernel_rfl) ?_ _;have Su:Kq n₀ W.heap.size Ty Wx (drew Wx):=Kq.cV (ak.drew) (by have:=HI.out.1.size;omega);rcases SX.out with⟨rfl,ht,hj,hkq⟩|⟨rfl,hkf,hx⟩
   ·have HN:=ae (Kq n₀ W.heap.size Ty Wx W3∧mB lY n₀ W.heap.size Ty J Z (fe cnt (zs.length/512) (aQ zs) Pv) C w0 W X (pre++[x]) W3) (by
     have hq:=Su.trans hkq;obtain⟨hlt,eL⟩:=List.getElem?_eq_some_iff.1 Yj.out.2;have hx1:=HI.out.2.1;have ht':(iS cnt (zs.length/512) (aQ zs) Pv pre.length).2=false:=(by rw[←hx1];exact ht);refine⟨hq,by simp;have:=HI.out.2;omega,?_,?_,?_,hq.blk HI.out.1.tree Yi.out.1,hq.blk HI.out.1.yb Yi.out.2.2.2,HI.out.1.fF.trans hq.below,aK HI.out.1.size hq.size⟩
     ·rw[List.length_append,List.length_singleton,List.take_succ_eq_append_getElem hlt,eL,List.flatMap_append];have hj':=hj;rw[hx1] at hj';simpa [iS] using hj'
     ·rw[List.length_append,List.length_singleton];exact Yj.out.1 ht'
     ·intro y hy;rw[List.length_append,List.length_singleton,List.take_succ_eq_append_getElem hlt,eL] at hy;rcases List.mem_append.1 hy with hy|hy
      ·exact HI.out.1.good y hy
      ·simp at hy;rw[hy];exact ht')
    clear ht hj hkq Su;gi_wp2
    exact⟨(qE HN.out.1.iM (by omega)),HN.out.1.weak (by omega),HN.out.2⟩
   ·have HN:=ae (KeepsFrom W.heap.size Wx W3∧((∃p,Jx p W3)∨(Z.2=true∧∃x,J (aY Z.1++[x]) W3))) (by
     refine⟨Su.iM.trans hkf,?_⟩;rcases hx with h|⟨h1,y,h2⟩
     ·exact .inl h
     ·refine .inr ?_;have hx1:=HI.out.2.1;rw[hx1] at h1 h2;rw[HZ.out,tR _ pre.length _ HI.out.1.good Yj.out.2 h1];exact⟨rfl,y,h2⟩)
    clear hkf hx Su;gi_wp2
    exact⟨qE HN.out.1 (by omega),rfl,HN.out.2⟩
 case done=>
  rintro xs Wx rfl hI hK;have HI:=aa (ai hI hK);clear hI hK;gi_wp2
  refine⟨by simp,.inl ⟨_,_,rfl,run_takeDeferred HI.out.2,?_⟩⟩;have Yg:(fe cnt (zs.length/512) (aQ zs) Pv).take 14=fe cnt (zs.length/512) (aQ zs) Pv:=List.take_of_length_le (by unfold fe;simp);have hg:=HI.out.1.good;have hi:=HI.out.1.inv;rw[List.length_range,Yg] at hg hi;have hZ2:=HZ.out;rw[nJ _ hg] at hZ2;have hJ2:J (aY Z.1) (Wx.putObj w2.heap.size (.deferred none)):=HJ.out.1 _ _ _ (some w2.heap.size) (by rw[hZ2];exact hi) (grownBy_putObj' _ _ _) (fun r e=>by cases e;exact⟨by omega,_,HI.out.2,rfl⟩);exact⟨_,results_none rfl _ _ _,⟨_,rfl⟩,.inl ⟨_,.inl ⟨by rw[hZ2],rfl⟩,hJ2⟩⟩
 case stop=>
  rintro c pre Wx _ ⟨rfl,hx⟩ hK;have HI:=aa (ai hx hK);clear hx hK;gi_wp2
  refine⟨by simp,.inl ⟨_,_,rfl,run_takeDeferred HI.out.2,?_⟩⟩;refine⟨_,results_none rfl _ _ _,⟨_,rfl⟩,?_⟩;rcases HI.out.1 with⟨p,hp⟩|⟨h1,y,h2⟩
  ·exact .inr ⟨p,trivial,HJ.out.2 _ _ _ (some w2.heap.size) hp (grownBy_putObj' _ _ _) (fun r e=>by cases e;exact⟨by omega,_,HI.out.2,rfl⟩)⟩
  ·exact .inl ⟨_,.inr ⟨h1,y,rfl⟩,HJ.out.1 _ _ _ (some w2.heap.size) h2 (grownBy_putObj' _ _ _) (fun r e=>by cases e;exact⟨by omega,_,HI.out.2,rfl⟩)⟩
end
end Go.Proofs.YtpplnhkpcpieoaaGreatDoor
