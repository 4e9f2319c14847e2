/- What kinds of blocks a call may turn (as in DkM, for a seat without the device). -/
import Derived.Test.YtlimollpocagiaaGreatDoorXa21
namespace Go.Proofs.YtlimollpocagiaaGreatDoor
open Go.Proofs.Tryz
set_option linter.all false
set_option maxRecDepth 100000
set_option maxHeartbeats 16000000
section
open Go.RowKit
def cW(T:TypeId→Prop)(W W':World):Prop:=∀b,b<W.heap.size→(∀c t s,W.heap[b]?=some (.cells c t s)→¬T t)→W'.heap[b]?=W.heap[b]?
section
variable {T:TypeId→Prop} {W W' W2:World} {base d:Nat}
theorem cW.refl(T:TypeId→Prop)(W:World):cW T W W:=fun _ _ _=>rfl
theorem cW.trans(h:cW T W W')(k:cW T W' W2):cW T W W2:=fun b hb hT=>by
 have e:=h b hb hT;have hb2:b<W'.heap.size:=by
  have h1:W.heap[b]?=some (W.heap[b]):=Array.getElem?_eq_getElem hb;rw[←e] at h1;exact(Array.getElem?_eq_some_iff.1 h1).1
 exact(k b hb2 (fun c t s hc=>hT c t s (by rw[←e];exact hc))).trans e
theorem cW.below(h:cW T W W')(hb:Below W'.heap.size W' W2):cW T W W2:=h.trans (fun b hb' _=>hb.block b hb')
theorem cW.alloc(h:cW T W W')(o:Obj):cW T W (W'.alloc o):=h.below (ak.alloc aj _)
theorem cW.qM{e:TypeId}{sz n:Nat}{v:Value}{xs:List Value}(h:cW T W W')(ho:W'.ownsRow base e sz v n xs)(hT:T e)(hg:W'.grownBy W2 v.ownBlock):cW T W W2:=by
 refine h.trans (fun b hb hT2=>hg.block b hb (fun e'=>?_));rcases ho.2 with⟨rfl,_⟩|⟨g,cap,cur,rfl,_,hgg,_⟩
 ·cases e'
 ·have:b=g:=Option.some.inj e';subst this;exact hT2 _ _ _ hgg hT
theorem cW.setCell{C:Array Value}{t:TypeId}{j:Nat}{u:Value}(h:cW T W W')(hB:af W' d C t)(hT:T t):cW T W (W'.setCell ⟨d,j,none⟩ u):=
 h.trans (fun b hb hT2=>Below.heap_setCell _ _ _ _ (fun e=>by
  have h1:W'.heap[d]?=some (.cells C t (0,0)):=hB;simp only at e;subst e;exact hT2 _ _ _ h1 hT))
theorem cW.own{e:TypeId}{sz n:Nat}{v:Value}{xs:List Value}(h:cW T W W')(ho:W.ownsRow base e sz v n xs)(hT:¬T e):W'.ownsRow base e sz v n xs:=by
 refine⟨ho.1,?_⟩;rcases ho.2 with hn|⟨g,cap,cur,rfl,hb,hgg,rest⟩
 ·exact .inl hn
 ·refine .inr ⟨g,cap,cur,rfl,hb,?_,rest⟩;rw[h g (Array.getElem?_eq_some_iff.1 hgg).1 (fun c t s hc=>by rw[hgg] at hc;injection hc with hc;injection hc with _ hc _;rw[←hc];exact hT)];exact hgg
theorem cW.aW{C:Array Value}{t:TypeId}(h:cW T W W')(hB:af W d C t)(hT:¬T t):af W' d C t:=by
 have h1:W.heap[d]?=some (.cells C t (0,0)):=hB;show W'.heap[d]?=_;rw[h d (Array.getElem?_eq_some_iff.1 h1).1 (fun c t' s hc=>by rw[h1] at hc;injection hc with hc;injection hc with _ hc _;rw[←hc];exact hT)];exact h1
end
end
end Go.Proofs.YtlimollpocagiaaGreatDoor
