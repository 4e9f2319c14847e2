/- A region that draws its order, inside a fence or a round: an invariant, calls among the op -/
import Derived.Test.YtlimollpocagiaaGreatDoorXa10
namespace Go.Proofs.YtlimollpocagiaaGreatDoor
open Go.Proofs.Tryz
set_option linter.all false
set_option maxRecDepth 100000
set_option maxHeartbeats 16000000
section
open Go.RowKit
theorem vl{F:Fence}{n:Nat}{P:Program}{ops:Array Oper}{Q:Exit→Act→World→Prop}(fs:List (Nat×Value))(S:World→Prop)(V:Nat→Value→World→Prop)(m:Nat)(ds:List Deferred)
 (hord:∀(i:Nat) (o:Oper),ops[i]?=some o→∀e∈o.after,Region.binds .any e=true→e.on<i)
 (hdst:∀(i j:Nat) (oi oj:Oper) (d:Nat),ops[i]?=some oi→ops[j]?=some oj→oi.dst=some d→oj.dst=some d→i=j)
 (hfix:∀(i:Nat) (o:Oper) (d:Nat),ops[i]?=some o→o.dst=some d→d<m∧∀v,(d,v)∉fs)
 (hstep:∀(i:Nat) (o:Oper) (listed:Array Bool) (a:Act) (w:World),ops[i]?=some o→(∀e∈o.after,Region.binds .any e=true→listed.getD e.on false=true)→iy ops fs S V m ds listed a w→
  Region.wanted o (yielded ops a.tmps)=true∧∀K:Act→World→Prop,Hid (∀v w',V i v w'→S w'→(∀j u,V j u w→V j u w')→K (a.put o.dst v) w')→Oper.wpIn F n P o a w K Q)
 (hfin:∀listed a w,(∀i,i<ops.size→listed.getD i false=true)→iy ops fs S V m ds listed a w→Q .normal a w):
 ∀(fuel:Nat) (listed:Array Bool) (a:Act) (w:World),listed.size=ops.size→listed.toList.count false≤fuel→iy ops fs S V m ds listed a w→wpAnyIn F n P .any ops Q fuel listed a w
 |0,listed,a,w,hsz,hc,hI=>by
  have hall:∀i,i<ops.size→listed.getD i false=true:=by
   intro i hi;cases e:listed.getD i false with
   |true=>rfl
   |false=>
    have:false∈listed.toList:=by
     rw[Array.getD_eq_getD_getElem?,Array.getElem?_eq_getElem (by omega),Option.getD_some] at e;rw[←e];exact Array.mem_toList_iff.2 (Array.getElem_mem (by omega))
    have:=List.count_pos_iff.2 this;omega
  refine⟨?_,hfin listed a w hall hI⟩;cases e:Region.ready .any ops listed with
  |nil=>rfl
  |cons j l=>
   have hj:j∈Region.ready .any ops listed:=(by rw[e];simp);obtain⟨h0,o,ho,_⟩:=mem_ready.1 hj;have hlt:j<ops.size:=(Array.getElem?_eq_some_iff.1 ho).1;have h1:=hall j hlt;rw[Array.getD_eq_getD_getElem?,Array.getElem?_eq_getElem (by omega)] at h0 h1;simp at h0 h1;rw[h0] at h1;cases h1
 |fuel+1,listed,a,w,hsz,hc,hI=>by
  refine⟨fun h=>hfin listed a w (zW hsz hord h) hI,fun i hi=>?_⟩;obtain⟨h0,o,ho,hall⟩:=mem_ready.1 hi;have hlt:i<ops.size:=(Array.getElem?_eq_some_iff.1 ho).1;obtain⟨hwt,hst⟩:=hstep i o listed a w ho hall hI;unfold wpOpIn;simp only[ho,hwt,if_true];refine hst _ (aa (fun v w' hv hS hk=>?_));have hcs:=count_set (listed:=listed) (i:=i) (by omega) h0;refine vl fs S V m ds hord hdst hfix hstep hfin fuel _ _ _ (by simpa using hsz) (by omega) ?_;cases hd:o.dst with
  |none=>
   refine⟨hI.sz,hI.df,hS,fun j oj d hj hl hjd=>?_,hI.fix,fun j oj hj hl=>?_⟩
   ·rw[nF (by omega)] at hl;by_cases e:j=i
    ·subst e;rw[ho] at hj;cases hj
     rw[hd] at hjd;cases hjd
    ·rw[if_neg e] at hl;exact hk j _ (hI.vals j oj d hj hl hjd)
   ·rw[nF (by omega)] at hl;by_cases e:j=i
    ·subst e;exact⟨v,hv⟩
    ·rw[if_neg e] at hl;obtain⟨u,hu⟩:=hI.seen j oj hj hl;exact⟨u,hk j u hu⟩
  |some d0=>
   have hf:=hfix i o d0 ho hd;have hd0:d0<a.tmps.size:=(by rw[hI.sz];exact hf.1);refine⟨by simp[Act.put,hI.sz],by simpa [Act.put] using hI.df,hS,fun j oj d hj hl hjd=>?_,fun t u htu=>?_,fun j oj hj hl=>?_⟩
   ·rw[nF (by omega)] at hl;rw[nE hd0];by_cases e:j=i
    ·subst e;rw[ho] at hj;cases hj
     rw[hd] at hjd;cases hjd
     rw[if_pos rfl];exact hv
    ·rw[if_neg e] at hl;rw[if_neg (fun h=>e (hdst j i oj o d hj ho hjd (by rw[hd,h])))];exact hk j _ (hI.vals j oj d hj hl hjd)
   ·rw[nE hd0,if_neg (fun h:t=d0=>hf.2 u (by rw[←h];exact htu))];exact hI.fix t u htu
   ·rw[nF (by omega)] at hl;by_cases e:j=i
    ·subst e;exact⟨v,hv⟩
    ·rw[if_neg e] at hl;obtain⟨u,hu⟩:=hI.seen j oj hj hl;exact⟨u,hk j u hu⟩
theorem BK{F:Fence}{n:Nat}{P:Program}{ops:Array Oper}{Q:Exit→Act→World→Prop}(fs:List (Nat×Value))(S:World→Prop)(V:Nat→Value→World→Prop)(m:Nat)(ds:List Deferred)
 (hB:mq ops m (fs.map (·.1))=true)
 (hstep:∀(i:Nat) (o:Oper) (listed:Array Bool) (a:Act) (w:World),ops[i]?=some o→(∀e∈o.after,Region.binds .any e=true→listed.getD e.on false=true)→iy ops fs S V m ds listed a w→
  Region.wanted o (yielded ops a.tmps)=true∧∀K:Act→World→Prop,Hid (∀v w',V i v w'→S w'→(∀j u,V j u w→V j u w')→K (a.put o.dst v) w')→Oper.wpIn F n P o a w K Q)
 (hfin:∀listed a w,(∀i,i<ops.size→listed.getD i false=true)→iy ops fs S V m ds listed a w→Q .normal a w)
 (a:Act) (w:World) (hsz:a.tmps.size=m) (hdf:a.defers=ds) (hS:S w) (hf:∀t v,(t,v)∈fs→a.tmps.getD t undef=v):wpAnyIn F n P .any ops Q ops.size (Array.replicate ops.size false) a w:=by
 refine vl fs S V m ds (fun i o hi=>(ki hB hi).1) (fun i j oi oj d hi hj h1 h2=>?_) (fun i o d hi hd=>?_) hstep hfin _ _ _ _ (by simp) ?_ ⟨hsz,hdf,hS,fun i o d _ hl _=>?_,hf,fun i o _ hl=>?_⟩
 ·rcases Nat.lt_trichotomy i j with h|h|h
  ·exact absurd h1 (((ki hB hj).2 d h2).2.2 i oi h hi)
  ·exact h
  ·exact absurd h2 (((ki hB hi).2 d h1).2.2 j oj h hj)
 ·have:=(ki hB hi).2 d hd;exact⟨this.1,fun v hv=>this.2.1 (List.mem_map.2 ⟨_,hv,rfl⟩)⟩
 ·rw[Array.toList_replicate,List.count_replicate];simp
 ·simp[Array.getD_eq_getD_getElem?,Array.getElem?_replicate] at hl;split at hl<;>simp at hl
 ·simp[Array.getD_eq_getD_getElem?,Array.getElem?_replicate] at hl;split at hl<;>simp at hl
theorem mL{F:Fence}{n:Nat}{P:Program}{w w':World}{o:Oper}{a:Act}{v:Value}{K:Act→World→Prop}{Q:Exit→Act→World→Prop}(hnc:∀c,o.op≠.call c)(hnd:∀c,o.op≠.defer c)(hrun:(execOp a.eval o).run P w=.ok (.value v) w')(h:K (a.put o.dst v) w'):Oper.wpIn F n P o a w K Q:=by
 have hab:o.about P w a.eval=none:=by
  unfold Oper.about;split
  ·rename_i c hc
   exact absurd hc (hnc c)
  ·rfl
 unfold Oper.wpIn;refine⟨by simp[hab],?_⟩;rw[Oper.semAt_plain F _ _ hnd,hrun];exact h
end
end Go.Proofs.YtlimollpocagiaaGreatDoor
