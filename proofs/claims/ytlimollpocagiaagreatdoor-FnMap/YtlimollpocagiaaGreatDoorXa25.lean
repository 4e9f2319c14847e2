/- A flush in memory against the mathematics; the iterator over the spots of the map -/
import Derived.Test.YtlimollpocagiaaGreatDoorXa24
namespace Go.Proofs.YtlimollpocagiaaGreatDoor
open Go.Proofs.Tryz
open _root_.List (getD map_append range length)
set_option linter.all false
set_option maxRecDepth 100000
set_option maxHeartbeats 16000000
section
open Go.RowKit Go.Shelf
attribute [local go_sem] Oper.semAt_some
def aO(m k:Nat):Nat×Nat:=if k<m then(0,k) else(1,0)
structure iG(m:Nat)(bf ol:List Int)(LL:Nat→List Int)(od:List (Nat×Nat))(s:FD):Prop where
 ws:LL 1=s.ws
 bf:LL 0=bf
 g0:∀k,k<m→(LL 5).getD k 0=s.pl.getD k 0
 g0l:(LL 5).length≤m
 g1:(LL 6).getD 0 0=s.pl.getD m 0
 g1l:(LL 6).length≤1
 o0:∀k,k<m→(LL 2).getD k 0=ol.getD k 0
 o1:(LL 3).getD 0 0=ol.getD m 0
 od:od=s.od.map (aO m)
theorem qI{L:List Int}{k:Nat}(h:L.length≤k):L.getD k 0=0:=by simp[getD,List.getElem?_eq_none h]
theorem iG.given{m:Nat}{bf ol:List Int}{LL:Nat→List Int}{od:List (Nat×Nat)}{s:FD}(h:iG m bf ol LL od s){k:Nat}(hk:k<m+1):(LL (5+(aO m k).1)).getD (aO m k).2 0=s.pl.getD k 0:=by
 unfold aO;split
 ·rename_i hm;exact h.g0 k hm
 ·have:k=m:=by omega
  subst this;exact h.g1
theorem iG.was{m:Nat}{bf ol:List Int}{LL:Nat→List Int}{od:List (Nat×Nat)}{s:FD}(h:iG m bf ol LL od s){k:Nat}(hk:k<m+1):(LL (2+(aO m k).1)).getD (aO m k).2 0=ol.getD k 0:=by
 unfold aO;split
 ·rename_i hm;exact h.o0 k hm
 ·have:k=m:=by omega
  subst this;exact h.o1
theorem iG.Bz{m:Nat}{bf ol:List Int}{LL:Nat→List Int}{od:List (Nat×Nat)}{s:FD}(h:iG m bf ol LL od s)(hm:m≤140){k:Nat}(hk:k<m+1):iD LL (aO m k).1 (aO m k).2=dX m bf ol s k:=by
 unfold iD dX;rw[h.given hk,h.was hk];by_cases hkm:k<m
 ·rw[if_pos hkm,show(aO m k)=(0,k) by unfold aO;rw[if_pos hkm],if_pos rfl,h.ws,h.bf]
 ·rw[if_neg hkm,show(aO m k)=(1,0) by unfold aO;rw[if_neg hkm],if_neg (by decide)];congr 2;rw[Bool.eq_iff_iff];unfold fL iC;simp only[decide_eq_true_eq,List.any_eq_true,List.mem_range,Bool.and_eq_true];constructor
  ·intro hne;refine Classical.byContradiction fun hno=>hne ?_;apply List.ext_getElem (by simp);intro i h1 h2;simp only[List.length_map,List.length_range] at h1;simp only[List.getElem_map,List.getElem_range,List.getElem_replicate];show(LL 5).getD (bP 0 0 i) 0=0;have e:bP 0 0 i=12+i:=(by unfold bP;simp);rw[e];rcases Nat.lt_or_ge (12+i) m with h3|h3
   ·rw[h.g0 _ h3];refine Classical.byContradiction fun h4=>hno ⟨12+i,h3,by omega,h4⟩
   ·exact qI (aN h.g0l h3)
  ·rintro ⟨j,hj,hj2,hj3⟩ he;have h1:=congrArg (fun l=>l.getD (j-12) 0) he;have hjl:j-12<128:=(by omega);simp only[getD,List.getElem?_map,List.getElem?_range hjl,Option.map_some,Option.getD_some,List.getElem?_replicate,if_pos hjl] at h1;have e:bP 0 0 (j-12)=j:=(by unfold bP;simp;omega);rw[e] at h1;exact hj3 ((h.g0 j hj).symm.trans h1)
theorem jW(L:List Int)(r j:Nat)(x:Int):(cK L r x).getD j 0=if j=r then x else L.getD j 0:=by
 unfold cK;rw[jN _ _ _ _ (by rw[List.length_append,List.length_replicate];omega)];split
 ·rfl
 ·rcases Nat.lt_or_ge j L.length with h|h
  ·simp[getD,List.getElem?_append_left h]
  ·rw[qI h];simp only[getD];rw[List.getElem?_append_right h,List.getElem?_replicate];split<;>rfl
theorem iG.move{m n:Nat}{bf ol:List Int}{LL:Nat→List Int}{od:List (Nat×Nat)}{s:FD}(h:iG m bf ol LL od s)(hpn:s.pl.length=m+1){k p:Nat}(hk:k<m+1):iG m bf ol (jC LL (aO m k).1 (aO m k).2 p (ol.getD k 0)) (od++[aO m k]) (dW ol s k p):=by
 have hpl:∀j,(dW ol s k p).pl.getD j 0=if j=k then(p:Int) else s.pl.getD j 0:=fun j=>jN _ _ _ _ (by omega);by_cases hkm:k<m
 ·have e:aO m k=(0,k):=by unfold aO;rw[if_pos hkm]
  rw[e];show iG m bf ol (aT (aT LL 5 (cK (LL 5) k (p:Int))) 1 (fe ((LL 1).set p 1) (ol.getD k 0))) (od++[(0,k)]) (dW ol s k p);refine⟨?_,?_,fun j hj=>?_,?_,?_,?_,fun j hj=>?_,?_,?_⟩
  ·rw[bG,h.ws];rfl
  ·rw[aS _ _ _ _ (by omega),aS _ _ _ _ (by omega)];exact h.bf
  ·rw[aS _ _ _ _ (by omega),bG,jW,hpl j,h.g0 j hj]
  ·rw[aS _ _ _ _ (by omega),bG,lF];have:=h.g0l;show max (LL 5).length (k+1)≤m;omega
  ·rw[aS _ _ _ _ (by omega),aS _ _ _ _ (by omega),h.g1,hpl m,if_neg (by omega)]
  ·rw[aS _ _ _ _ (by omega),aS _ _ _ _ (by omega)];exact h.g1l
  ·rw[aS _ _ _ _ (by omega),aS _ _ _ _ (by omega)];exact h.o0 j hj
  ·rw[aS _ _ _ _ (by omega),aS _ _ _ _ (by omega)];exact h.o1
  ·show od++[(0,k)]=(s.od++[k]).map (aO m);rw[map_append,h.od,List.map_singleton,e]
 ·have e:aO m k=(1,0):=by unfold aO;rw[if_neg hkm]
  have hkk:k=m:=by omega
  rw[e];show iG m bf ol (aT (aT LL 6 (cK (LL 6) 0 (p:Int))) 1 (fe ((LL 1).set p 1) (ol.getD k 0))) (od++[(1,0)]) (dW ol s k p);refine⟨?_,?_,fun j hj=>?_,?_,?_,?_,fun j hj=>?_,?_,?_⟩
  ·rw[bG,h.ws];rfl
  ·rw[aS _ _ _ _ (by omega),aS _ _ _ _ (by omega)];exact h.bf
  ·rw[aS _ _ _ _ (by omega),aS _ _ _ _ (by omega),h.g0 j hj,hpl j,if_neg (by omega)]
  ·rw[aS _ _ _ _ (by omega),aS _ _ _ _ (by omega)];exact h.g0l
  ·rw[aS _ _ _ _ (by omega),bG,jW,hpl m,if_pos rfl,if_pos hkk.symm]
  ·rw[aS _ _ _ _ (by omega),bG,lF];have:=h.g1l;show max (LL 6).length (0+1)≤1;omega
  ·rw[aS _ _ _ _ (by omega),aS _ _ _ _ (by omega)];exact h.o0 j hj
  ·rw[aS _ _ _ _ (by omega),aS _ _ _ _ (by omega)];exact h.o1
  ·show od++[(1,0)]=(s.od++[k]).map (aO m);rw[map_append,h.od,List.map_singleton,e]
abbrev ja(m:Nat):={k:Nat//k∈aL m}
def jX{m:Nat}(x:ja m):Array Value:=#[.agg #[.int .i64 ((aO m x.1).1:Int),.int .i64 ((aO m x.1).2:Int)]]
theorem ve(b g n gc:Nat)(w:World)(h:w.cell? ⟨b,1,none⟩=some (.slice (some ⟨g,0,none⟩) n gc))(hn:n≤2048):
 Calls prog 74 #[.pointer (some ⟨b,0,none⟩)] w fun e w'=>e=.returned (.int .i64 (4*(n:Int)))∧w'=w:=by
 go_enter func74,ntmps74;go_wp2;go_ret;exact⟨rfl,rfl⟩
theorem vf(n b:Nat)(w:World):CallsIn Fence.wide n prog 65 #[.pointer (some ⟨b,0,none⟩)] w fun e w'=>e=.returned (.func (.func 98) #[] #[.pointer (some ⟨w.heap.size,0,none⟩)])∧w'=w.alloc (.cells #[.pointer (some ⟨b,0,none⟩)] 60):=by
 refine callsIn_of_wp func65 rfl trivial ?_ rfl;simp only[ntmps65,List.size_toArray,List.length_cons,List.length_nil,Nat.reduceAdd,Nat.reduceSub,Array.replicate_succ,Array.replicate_zero,List.push_toArray,List.append_toArray,List.nil_append,List.cons_append];gi_wp2
 go_ret;exact⟨rfl,rfl⟩
theorem BC{m:Nat}{pre:List (ja m)}{k:Nat}(h:pre.map (·.1)=range k)(hk:k<m):∃x:ja m,x.1=k∧(pre++[x]).map (·.1)=range (k+1)∧(pre++[x]).map (·.1)<+:aL m:=by
 have hm:k∈aL m:=by unfold aL;exact List.mem_append_left _ (List.mem_range.2 hk)
 have e:(pre++[(⟨k,hm⟩:ja m)]).map (·.1)=range (k+1):=by rw[map_append,h,List.range_succ];rfl
 refine⟨⟨k,hm⟩,rfl,e,?_⟩;rw[e];unfold aL;refine List.IsPrefix.trans ?_ (List.prefix_append _ _);rw[List.prefix_iff_eq_take,List.length_range,List.take_range,Nat.min_eq_left (by omega)]
theorem BD(n':Nat)(hn':1≤n')(l X b g n gc m:Nat)(hm:m=(n+127)/128)(hn:n≤2048)(J Jx:List (ja m)→World→Prop)
 (hY:∀pre x W,J pre W→pre.length<(aL m).length→YieldAt Fence.wide (n'-1) prog l (jX x) W fun e W'=>
  (e=.returned (.bool true)∧J (pre++[x]) W'∧True)∨(e=.returned (.bool false)∧Jx (pre++[x]) W'))
 (W:World) (hX:Boxed W X 60 (.pointer (some ⟨b,0,none⟩))) (hw:W.cell? ⟨b,1,none⟩=some (.slice (some ⟨g,0,none⟩) n gc)) (h0:J [] W):
 CallsIn Fence.wide n' prog 98 #[.func (.yield l) #[] #[],.pointer (some ⟨X,0,none⟩)] W fun e W'=>(∃v,e=.returned v)∧
  ((∃ys:List (ja m),ys.map (·.1)=aL m∧J ys W')∨(∃pre:List (ja m),pre.map (·.1)<+:aL m∧Jx pre W')):=by
 have HY:=aa hY;have H0:=aa h0;have c1:=hX.cell;have HW:=aa hw;have HM:=aa hm;have hm2:m≤16:=by omega
 clear hY h0 hX hw hm;refine callsIn_of_wp func98 rfl trivial ?_ rfl;simp only[ntmps98,List.size_toArray,List.length_cons,List.length_nil,Nat.reduceAdd,Nat.reduceSub,Array.replicate_succ,Array.replicate_zero,List.push_toArray,List.append_toArray,List.nil_append,List.cons_append];gi_wp2_with (first
  |(refine⟨trivial,?_⟩;gi_at_call 74;refine(callsIn_wide.2 (ve b g n gc _ HW.out hn)).mono ?_;rintro e w0 ⟨rfl,hw0⟩;rw[hw0];clear hw0 w0)
  |(refine⟨trivial,?_⟩;gi_at_call 49;fail))
 refine⟨trivial,?_⟩;refine(callsIn_wide.2 (p7 (4*(n:Int)) _)).mono ?_;rintro e w0 ⟨⟨y,rfl,hy⟩,hw0⟩;rw[←hw0];have hy2:=hy (by omega) (by omega);have hym:y=(m:Int):=by rw[hy2,HM.out];omega
 subst hym;clear hw0 w0 hy hy2;gi_wp2
 clear c1;gi_loopw [9] (fun i wr=>∃(k:Nat) (pre:List (ja m)),k≤m∧i=.int .i64 (k:Int)∧Hid (pre.map (·.1)=range k∧J pre wr)) (fun i _=>m-(intOf i).toNat)
 case atStart=>exact⟨0,[],by omega,rfl,aa ⟨rfl,H0.out⟩⟩
 case round=>
  obtain⟨k,pre,hk,rfl,HI⟩:=hrel;have hpl:pre.length=k:=by have:=congrArg length HI.out.1;simpa using this
  by_cases hlt:k<m
  ·have hltI:(k:Int)<(m:Int):=(by omega);obtain⟨x,hx,hx1,hx2⟩:=BC HI.out.1 hlt;have HX:=aa (ag hx1 hx2);have hyy:=HY.out pre x wr HI.out.2 (by have:=hx2.length_le;simp at this;omega);have he:jX x=#[.agg #[.int .i64 0,.int .i64 (k:Int)]]:=(by unfold jX aO;rw[hx,if_pos hlt];rfl);rw[he] at hyy;obtain⟨fn,tmps,assign,body,hy,hR⟩:=hyy;have HR:=aa hR;clear hR hx1 hx2 hpl he hx;gi_wp2
   refine HR.out.mono ?_;rintro e W3 (⟨rfl,hJ3,_⟩|⟨rfl,hJx3⟩)
   ·have H3:=aa hJ3;clear hJ3 HR;gi_wp2
    go_roundw
    case rel=>exact⟨k+1,_,by omega,by go_num,aa ⟨HX.out.1,H3.out⟩⟩
    case measure=>simp[intOf];omega
   ·have H3:=aa hJx3;clear hJx3 HR;gi_wp2
    refine bodyPost_ret (results_none rfl _ _ _) rfl ?_;exact⟨⟨_,rfl⟩,.inr ⟨_,HX.out.2,H3.out⟩⟩
  ·have ek:k=m:=(by omega);subst ek;by_cases h12:12<k
   ·have h12I:(12:Int)<(k:Int):=(by omega);have hmem:k∈aL k:=(by unfold aL;rw[if_pos h12];simp);have hall:(pre++[(⟨k,hmem⟩:ja k)]).map (·.1)=aL k:=(by rw[map_append,HI.out.1];exact(show aL k=range k++[k] by unfold aL;rw[if_pos h12]).symm);have hyy:=HY.out pre ⟨k,hmem⟩ wr HI.out.2 (by have:=congrArg length hall;simp at this;omega);have he:jX (⟨k,hmem⟩:ja k)=#[.agg #[.int .i64 1,.int .i64 0]]:=(by unfold jX aO;rw[if_neg (by omega)];rfl);rw[he] at hyy;obtain⟨fn,tmps,assign,body,hy,hR⟩:=hyy;have HR:=aa hR;have HA:=aa hall;clear hR hall he hpl;gi_wp2
    refine HR.out.mono ?_;rintro e W3 (⟨rfl,hJ3,_⟩|⟨rfl,hJx3⟩)
    ·have H3:=aa hJ3;clear hJ3 HR;gi_wp2
     go_end0;exact⟨⟨_,rfl⟩,.inl ⟨_,HA.out,H3.out⟩⟩
    ·have H3:=aa hJx3;clear hJx3 HR;gi_wp2
     go_end0;exact⟨⟨_,rfl⟩,.inr ⟨_,by rw[HA.out];exact List.prefix_refl _,H3.out⟩⟩
   ·have h12I:¬(12:Int)<(k:Int):=(by omega);have HA:=ae (pre.map (·.1)=aL k) (by rw[HI.out.1];exact(show aL k=range k by unfold aL;rw[if_neg h12,List.append_nil]).symm);gi_wp2
    go_end0;exact⟨⟨_,rfl⟩,.inl ⟨_,HA.out,HI.out.2⟩⟩
theorem vg(n':Nat)(hn':1≤n')(X b g n gc m:Nat)(hm:m=(n+127)/128)(hn:n≤2048)(w:World)(hX:Boxed w X 60 (.pointer (some ⟨b,0,none⟩)))(hw:w.cell? ⟨b,1,none⟩=some (.slice (some ⟨g,0,none⟩) n gc)):
 SeqStopsK Fence.wide n' prog 98 #[.pointer (some ⟨X,0,none⟩)] (fun x:ja m=>jX x) (fun _ _=>True) (fun ys=>ys.map (·.1)=aL m) (fun pre=>pre.map (·.1)<+:aL m) (aL m).length w:=fun l J Jx W hW _ _ hY h0=>
 BD n' hn' l X b g n gc m hm hn J Jx hY W ((hW.block X hX.lt).trans hX) ((hW.cell (eN hw)).trans hw) h0
end
section
open Go.RowKit Go.Shelf
attribute [local go_sem] Oper.semAt_some
def jr(Ds:List Nat)(W:World):Prop:=∀D∈Ds,W.heap[D]?=some (.deferred (some []))
def vh(Ds:List Nat):List Deferred:=Ds.map fun D=>{target:=.collected D,args:=#[]}
theorem jr.keep{Ds:List Nat}{W W':World}(h:jr Ds W)(hk:KeepsOthers W W'):jr Ds W':=fun D hD=>hk.same D _ (h D hD) rfl
theorem jr.grown{Ds:List Nat}{W W':World}{row:Option Nat}{B:Nat}(h:jr Ds W)(hl:∀D∈Ds,D<B)(hg:W.grownBy W' row)(hr:∀r,row=some r→B≤r):jr Ds W':=fun D hD=>
 (hg.block D (Array.getElem?_eq_some_iff.1 (h D hD)).1 (fun e=>by have:=hr D e.symm;have:=hl D hD;omega)).trans (h D hD)
theorem qJ{F:Fence}{n:Nat}{P:Program}{fn:Func}{tmps:Array Value}{R:Ending→World→Prop}(m:Nat):∀(Ds:List Nat) (W:World),jr Ds W→Ds.Nodup→(∀D∈Ds,m≤D)→(∀W',Below m W W'→(∀k,k∉Ds→W'.heap[k]?=W.heap[k]?)→LeavesIn F n P fn tmps R [] .returning W')→LeavesInM F n P fn tmps R (vh Ds) .returning W
 |[],W,_,_,_,h=>h W ak (fun _ _=>rfl)
 |D::Ds,W,hM,hN,hl,h=>by
  have hD:=hM D (by simp);have hlt:D<W.heap.size:=(Array.getElem?_eq_some_iff.1 hD).1;refine⟨by simp,.inl ⟨D,W.putObj D (.deferred none),rfl,run_takeDeferred hD,qJ m Ds _ (fun D' h'=>?_) (List.nodup_cons.1 hN).2 (fun D' h'=>hl D' (by simp[h'])) (fun W' hb hk=>h W' ?_ (fun k hk'=>?_))⟩⟩
  ·refine(World.putObj_heap_other (fun e=>?_)).trans (hM D' (by simp[h']));subst e;exact(List.nodup_cons.1 hN).1 h'
  ·exact((Below.refl m W).grown (grownBy_putObj' W D _) (aN (hl D (by simp)) (Nat.le_of_lt hlt)) (fun k e=>by cases e;exact hl D (by simp))).trans hb
  ·simp only[List.mem_cons,not_or] at hk';exact(hk k hk'.2).trans (World.putObj_heap_other hk'.1)
end
end Go.Proofs.YtlimollpocagiaaGreatDoor
