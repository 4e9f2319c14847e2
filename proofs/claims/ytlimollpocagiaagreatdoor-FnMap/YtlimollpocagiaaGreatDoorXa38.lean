/- The model's l04Flush in memory -/
import Derived.Test.YtlimollpocagiaaGreatDoorXa37
namespace Go.Proofs.YtlimollpocagiaaGreatDoor
open Go.Proofs.Tryz
set_option linter.all false
set_option maxRecDepth 100000
set_option maxHeartbeats 16000000
section
open Go.RowKit
def fQ(j:Nat):Nat:=if j=0 then 0 else if j=1 then 1 else if j=2 then 11 else if j=3 then 12 else 2
theorem lU{j:Nat}(h:j<5):fQ j<14∧fQ j≠10∧fQ j≠13∧fQ j≠3:=by
 rcases(show j=0∨j=1∨j=2∨j=3∨j=4 by omega) with rfl|rfl|rfl|rfl|rfl<;>decide
theorem we{i j:Nat}(hi:i<5)(hj:j<5)(h:fQ i=fQ j):i=j:=by
 rcases(show i=0∨i=1∨i=2∨i=3∨i=4 by omega) with rfl|rfl|rfl|rfl|rfl<;>rcases(show j=0∨j=1∨j=2∨j=3∨j=4 by omega) with rfl|rfl|rfl|rfl|rfl<;>first|rfl|(exact absurd h (by decide))
structure Fm(W:World)(base b:Nat)(C:Array Value)(R:Nat→Value)(LL:Nat→List Int)(cu sg:Int)(fu:Bool):Prop where
 box:af W b C 77
 size:C.size=14
 at_:∀j,j<5→C[fQ j]?=some (R j)
 row:∀j,j<5→W.ownsRow base 3 1 (R j) (LL j).length ((LL j).map (Value.int .i64))
 apart:∀i j,i<5→j<5→i≠j→(R i).ownBlock=none∨(R i).ownBlock≠(R j).ownBlock
 cur:C[10]?=some (.int .i64 cu)
 sing:C[3]?=some (.int .i64 sg)
 full:C[13]?=some (.bool fu)
section
variable {W W':World} {base b:Nat} {C:Array Value} {R:Nat→Value} {LL:Nat→List Int} {cu sg:Int} {fu:Bool}
theorem Fm.below(h:Fm W base b C R LL cu sg fu)(hb:Below W.heap.size W W'):Fm W' base b C R LL cu sg fu:=
 ⟨h.box.below hb h.box.lt,h.size,h.at_,fun j hj=>aY (h.row j hj) hb,h.apart,h.cur,h.sing,h.full⟩
theorem Fm.gO(h:Fm W base b C R LL cu sg fu){j:Nat}(hj:j<5):(R j).ownBlock≠some b:=eK (h.row j hj) h.box (by decide)
def mQ(b:Nat)(R:Nat→Value)(k:Nat):Prop:=k=b∨∃j,j<5∧(R j).ownBlock=some k
structure cE(w w':World)(b:Nat)(R R':Nat→Value):Prop where
 os:w'.os=w.os
 tape:w'.tape=w.tape
 output:w'.output=w.output
 size:w.heap.size≤w'.heap.size
 block:∀k,k<w.heap.size→¬mQ b R k→w'.heap[k]?=w.heap[k]?
 own:∀k,mQ b R' k→mQ b R k∨w.heap.size≤k
theorem cE.bT(b:Nat)(R:Nat→Value)(h:Below W.heap.size W W'):cE W W' b R R:=⟨h.os,h.tape,h.output,h.size,fun k hk _=>h.block k hk,fun k hk=>.inl hk⟩
theorem cE.trans{w w1 w2:World}{b:Nat}{R R1 R2:Nat→Value}(h:cE w w1 b R R1)(h2:cE w1 w2 b R1 R2):cE w w2 b R R2:=
 ⟨h2.os.trans h.os,h2.tape.trans h.tape,h2.output.trans h.output,aN h.size h2.size,fun k hk hn=>(h2.block k (Nat.lt_of_lt_of_le hk h.size) (fun hm=>by
  rcases h.own k hm with h5|h5
  ·exact hn h5
  ·omega)).trans (h.block k hk hn),fun k hk=>by
  rcases h2.own k hk with h5|h5
  ·exact h.own k h5
  ·exact .inr (aN h.size h5)⟩
theorem cE.below{R':Nat→Value}(h:cE W W' b R R')(hf:Fm W base b C R LL cu sg fu)(hb:base≤b)(hs:base≤W.heap.size):Below base W W':=
 ⟨h.os,h.tape,h.output,h.size,fun k hk=>h.block k (by omega) (fun hm=>by
  rcases hm with rfl|⟨j,hj,e⟩
  ·omega
  ·have:=((hf.row j hj).lt k e).1;omega)⟩
theorem Fm.set(h:Fm W base b C R LL cu sg fu){j g p:Nat}(hj:j<5)(hg:(R j).ownBlock=some g)(x:Int):
 Fm (W.setCell ⟨g,p,none⟩ (.int .i64 x)) base b C R (aT LL j ((LL j).set p x)) cu sg fu∧cE W (W.setCell ⟨g,p,none⟩ (.int .i64 x)) b R R:=by
 have hkeep:∀k,k≠g→(W.setCell ⟨g,p,none⟩ (.int .i64 x)).heap[k]?=W.heap[k]?:=fun k hk=>Below.heap_setCell W ⟨g,p,none⟩ _ k (fun e=>hk e);have hgb:g≠b:=fun e=>h.gO hj (by rw[hg,e]);refine⟨⟨h.box.other _ _ (fun e=>hgb e.symm),h.size,h.at_,fun i hi=>?_,h.apart,h.cur,h.sing,h.full⟩,⟨rfl,rfl,rfl,by simp,fun k hk hn=>hkeep k (fun e=>hn (.inr ⟨j,hj,by rw[hg,e]⟩)),fun k hk=>.inl hk⟩⟩;by_cases e:i=j
 ·subst e;rw[bG,List.length_set,List.map_set];exact lI (h.row i hi) hg p _
 ·rw[aS _ _ _ _ e];exact dh (h.row i hi) (fun k hk=>hkeep k (fun e'=>by
   rcases h.apart i j hi hj e with h5|h5
   ·rw[hk] at h5;cases h5
   ·exact h5 (by rw[hk,hg,e'])))
theorem Fm.wg(h:Fm W base b C R LL cu sg fu)(p:Nat)(v:Value):∀j,j<5→(W.setCell ⟨b,p,none⟩ v).ownsRow base 3 1 (R j) (LL j).length ((LL j).map (Value.int .i64)):=fun j hj=>
 dh (h.row j hj) (fun k hk=>Below.heap_setCell W ⟨b,p,none⟩ _ k (fun e=>h.gO hj (by rw[hk,e])))
theorem cE.box(h:Fm W base b C R LL cu sg fu)(p:Nat)(v:Value):cE W (W.setCell ⟨b,p,none⟩ v) b R R:=
 ⟨rfl,rfl,rfl,by simp,fun k hk hn=>Below.heap_setCell W ⟨b,p,none⟩ _ k (fun e=>hn (.inl e)),fun k hk=>.inl hk⟩
theorem Fm.setCur(h:Fm W base b C R LL cu sg fu)(x:Int):Fm (W.setCell ⟨b,10,none⟩ (.int .i64 x)) base b (C.setIfInBounds 10 (.int .i64 x)) R LL x sg fu:=
 ⟨h.box.set 10 _,by simpa using h.size,fun j hj=>by rw[fA (lU hj).2.1];exact h.at_ j hj,h.wg 10 _,h.apart,by rw[Array.getElem?_setIfInBounds_self_of_lt (by have:=h.size;omega)],by rw[fA (by omega)];exact h.sing,by rw[fA (by omega)];exact h.full⟩
theorem Fm.Df(h:Fm W base b C R LL cu sg fu)(x:Bool):Fm (W.setCell ⟨b,13,none⟩ (.bool x)) base b (C.setIfInBounds 13 (.bool x)) R LL cu sg x:=
 ⟨h.box.set 13 _,by simpa using h.size,fun j hj=>by rw[fA (lU hj).2.2.1];exact h.at_ j hj,h.wg 13 _,h.apart,by rw[fA (by omega)];exact h.cur,by rw[fA (by omega)];exact h.sing,by rw[Array.getElem?_setIfInBounds_self_of_lt (by have:=h.size;omega)]⟩
theorem wh{b k l:Nat}{R:Nat→Value}{sw:Value}(h:mQ b (aT R l sw) k):mQ b R k∨sw.ownBlock=some k:=by
 rcases h with h|⟨j,hj,e⟩
 ·exact .inl (.inl h)
 ·by_cases hl:j=l
  ·subst hl;rw[bG] at e;exact .inr e
  ·rw[aS _ _ _ _ hl] at e;exact .inl (.inr ⟨j,hj,e⟩)
theorem Fm.app(h:Fm W base b C R LL cu sg fu){v':Value}{x:Int}(ho:W'.ownsRow base 3 1 v' ((LL 3).length+1) ((LL 3++[x]).map (Value.int .i64)))(hg:W.grownBy W' (R 3).ownBlock)(hv:v'.ownBlock=(R 3).ownBlock∨∃g,v'.ownBlock=some g∧W.heap.size≤g):
 Fm (W'.setCell ⟨b,12,none⟩ v') base b (C.setIfInBounds 12 v') (aT R 3 v') (aT LL 3 (LL 3++[x])) cu sg fu∧cE W (W'.setCell ⟨b,12,none⟩ v') b R (aT R 3 v'):=by
 have hB:af W' b C 77:=(hg.block b h.box.lt (fun e=>h.gO (j:=3) (by omega) e.symm)).trans h.box;have hk1:∀k,k≠b→(W'.setCell ⟨b,12,none⟩ v').heap[k]?=W'.heap[k]?:=fun k hk=>Below.heap_setCell W' ⟨b,12,none⟩ _ k (fun e=>hk e);have hkeep:∀k,k<W.heap.size→k≠b→(R 3).ownBlock≠some k→(W'.setCell ⟨b,12,none⟩ v').heap[k]?=W.heap[k]?:=fun k hk hkb hr=>(hk1 k hkb).trans (hg.block k hk (fun e=>hr e.symm));have hvb:v'.ownBlock≠some b:=eK ho hB (by decide);refine⟨⟨hB.set 12 _,by simpa using h.size,fun j hj=>?_,fun j hj=>?_,fun i j hi hj hne=>?_,?_,?_,?_⟩,⟨hg.os,hg.tape,hg.output,by simpa using hg.size,fun k hk hn=>hkeep k hk (fun e=>hn (.inl e)) (fun e=>hn (.inr ⟨3,by omega,e⟩)),fun k hk=>?_⟩⟩
 ·by_cases e:j=3
  ·subst e;rw[bG];show(C.setIfInBounds 12 v')[12]?=_;rw[Array.getElem?_setIfInBounds_self_of_lt (by have:=h.size;omega)]
  ·rw[aS _ _ _ _ e,fA (i:=12) (fun e'=>e (we hj (show 3<5 by omega) e'))];exact h.at_ j hj
 ·by_cases e:j=3
  ·subst e;rw[bG,bG,List.length_append];exact dh ho (fun k hk=>hk1 k (fun e'=>hvb (by rw[hk,e'])))
  ·rw[aS _ _ _ _ e,aS _ _ _ _ e];exact dh (h.row j hj) (fun k hk=>hkeep k ((h.row j hj).lt k hk).2 (fun e'=>h.gO hj (by rw[hk,e'])) (fun e'=>by
    rcases h.apart j 3 hj (by omega) e with h5|h5
    ·rw[hk] at h5;cases h5
    ·exact h5 (hk.trans e'.symm)))
 ·have key:∀j,j<5→j≠3→v'.ownBlock=none∨v'.ownBlock≠(R j).ownBlock:=fun j hj hj2=>by
   rcases hv with h3|⟨g,h3,h4⟩
   ·rw[h3];exact h.apart 3 j (by omega) hj (fun e=>hj2 e.symm)
   ·right;rw[h3];intro e';have:=((h.row j hj).lt g e'.symm).2;omega
  by_cases e:i=3
  ·subst e;rw[bG,aS _ _ _ _ (fun e=>hne e.symm)];exact key j hj (fun e=>hne e.symm)
  ·by_cases e2:j=3
   ·subst e2;rw[bG,aS _ _ _ _ e];cases hR:(R i).ownBlock with
    |none=>exact .inl rfl
    |some k=>
     right;intro e';rcases key i hi e with h5|h5
     ·rw[←e'] at h5;cases h5
     ·exact h5 (e'.symm.trans hR.symm)
   ·rw[aS _ _ _ _ e,aS _ _ _ _ e2];exact h.apart i j hi hj hne
 ·rw[fA (by omega)];exact h.cur
 ·rw[fA (by omega)];exact h.sing
 ·rw[fA (by omega)];exact h.full
 ·rcases wh hk with h5|h5
  ·exact .inl h5
  ·rcases hv with h3|⟨g,h3,h4⟩
   ·exact .inl (.inr ⟨3,by omega,h3.symm.trans h5⟩)
   ·rw[h3] at h5;injection h5 with h5;exact .inr (by omega)
end
end
section
open Go.RowKit
theorem Fm.at{W:World}{base b:Nat}{C:Array Value}{R:Nat→Value}{LL:Nat→List Int}{cu sg:Int}{fu:Bool}(h:Fm W base b C R LL cu sg fu){j:Nat}(hj:j<5)(hn:0<(LL j).length):∃g c,R j=.slice (some ⟨g,0,none⟩) (LL j).length c∧(R j).ownBlock=some g∧W.cell? ⟨b,fQ j,none⟩=some (.slice (some ⟨g,0,none⟩) (LL j).length c)∧∀k,k<(LL j).length→W.cell? ⟨g,k,none⟩=some (.int .i64 ((LL j).getD k 0))∧W.frozen? ⟨g,k,none⟩=false:=by
 have hr:=h.row j hj;rcases hr.2 with⟨e0,h0⟩|⟨g,cap,cur,e0,hb,hg,h1,h2,h3,h4⟩
 ·omega
 ·refine⟨g,cap,e0,by rw[e0];rfl,(h.box.cell _).trans (by rw[←e0];exact h.at_ j hj),fun k hk=>⟨?_,?_⟩⟩
  ·have:=hr.cells (g:=g) (by rw[e0];rfl) k (.int .i64 ((LL j).getD k 0)) (by simp[List.getD,hk]);rw[Addr.add_mid,Nat.zero_add] at this;exact this
  ·have hB:af W g cur 3:=hg;exact hB.frozen k
theorem wj(base b k:Nat)(C:Array Value)(R:Nat→Value)(LL:Nat→List Int)(cu sg:Int)(fu:Bool)(w:World)(h:Fm w base b C R LL cu sg fu)(hk:k<(LL 2).length)(hd:(LL 2).getD k 0=0→k<(LL 4).length)(hm:k≤1000):
 Calls prog 84 #[.pointer (some ⟨b,0,none⟩),.int .i64 (k:Int)] w fun e w'=>e=.returned (.int .i64 (if(LL 2).getD k 0=0 then(LL 4).getD k 0 else(LL 2).getD k 0))∧w'=w:=by
 obtain⟨g2,q2,_,_,c11,hc2⟩:=h.at (j:=2) (by omega) (by omega);have c11':w.cell? ⟨b,11,none⟩=some (.slice (some ⟨g2,0,none⟩) (LL 2).length q2):=c11;have e2:=(hc2 k hk).1;have HL:=h.row 2 (by omega);have hl2:(LL 2).length≤maxLen:=by
  rcases HL.2 with⟨_,h0⟩|⟨g,cap,cur,e0,hb,hg,h1,h2,h3,h4⟩
  ·omega
  ·omega
 unfold maxLen at hl2;by_cases hz:(LL 2).getD k 0=0
 ·obtain⟨g4,q4,_,_,c2,hc4⟩:=h.at (j:=4) (by omega) (by have:=hd hz;omega);have c2':w.cell? ⟨b,2,none⟩=some (.slice (some ⟨g4,0,none⟩) (LL 4).length q4):=c2;have e4:=(hc4 k (hd hz)).1;have hk4:=hd hz;have HZ:=aa hz;obtain⟨n2,hn2⟩:∃n2,n2=(LL 2).length:=⟨_,rfl⟩;obtain⟨n4,hn4⟩:∃n4,n4=(LL 4).length:=⟨_,rfl⟩;obtain⟨y,hy⟩:∃y,y=(LL 4).getD k 0:=⟨_,rfl⟩;rw[hz] at e2;rw[←hy] at e4;rw[if_pos hz, ←hy];rw[←hn2] at c11' hk hl2;rw[←hn4] at c2' hk4;have hkI:(k:Int)<(n2:Int):=by omega
  have hkJ:(k:Int)<(n4:Int):=by omega
  clear hc2 hc4 c11 c2 hd h HL hz hn2 hn4 hy;go_enter func84,ntmps84;go_wp2;go_ret;exact⟨rfl,rfl⟩
 ·obtain⟨n2,hn2⟩:∃n2,n2=(LL 2).length:=⟨_,rfl⟩;rw[if_neg hz];obtain⟨y,hy⟩:∃y,y=(LL 2).getD k 0:=⟨_,rfl⟩;rw[←hy] at e2 hz⊢;rw[←hn2] at c11' hk hl2;have hkI:(k:Int)<(n2:Int):=by omega
  clear hc2 c11 hd h HL hn2 hy;go_enter func84,ntmps84;go_wp2;go_ret;exact⟨rfl,rfl⟩
theorem Dg(w:World)(e:TypeId):(w.alloc (.cells #[] e)).ownsRow w.heap.size e 1 (.slice (some ⟨w.heap.size,0,none⟩) 0 0) 0 []:=by
 have h:=World.ownsRow_lit (base:=w.heap.size) (e:=e) (size:=1) w #[] 0 aj (by simp) rfl;simpa using h
theorem wk(z:Int):∀u∈[Value.int .i64 z],u.oneCell'=true:=by intro u hu;simp at hu;subst hu;rfl
def jt(n c k:Nat):List Int:=((List.range k).map (bJ n c)).map fun b:Nat=>(b:Int)
theorem Dh(n c k:Nat):jt n c (k+1)=jt n c k++[((bJ n c k:Nat):Int)]:=by simp[jt,List.range_succ]
theorem Di(n c k i:Nat)(h:i<k):(jt n c k).getD i 0=((bJ n c i:Nat):Int):=by simp[jt,List.getD,h]
theorem Dj(n c:Nat)(w:World)(h2:2≤c)(hc:c<n)(hn:n≤2048):
 Calls prog 105 #[.int .i64 (n:Int),.int .i64 (c:Int)] w fun e w'=>∃v',e=.returned v'∧w'.ownsRow w.heap.size 3 1 v' (n-2) ((jt n c (n-2)).map (Value.int .i64))∧Below w.heap.size w w':=by
 obtain⟨i0,hi,hz0,hz1,hz2⟩:=info_parts eO;have h0:=Dg w 3;have hb0:Below w.heap.size w (w.alloc (.cells #[] 3)):=ak.alloc aj _;have K0:=aa (ag h0 hb0);have HS:=aa (Dh n c);have HA:=ae ((∀k,c+k<n→bJ n c k=c+k)∧(∀k,n≤c+k→bJ n c k=c+k-n+2)) (⟨fun k h=>by unfold bJ;rw[if_pos h],fun k h=>by unfold bJ;rw[if_neg (by omega)]⟩);clear h0 hb0;go_enter func105,ntmps105;go_wp2;go_loopw [5,6] (fun o i wr=>∃k:Nat,c+k≤n∧i=.int .i64 ((c+k:Nat):Int)∧wr.ownsRow w.heap.size 3 1 o k ((jt n c k).map (Value.int .i64))∧Below w.heap.size w wr) (fun _ i _=>n-(intOf i).toNat)
 case atStart=>exact⟨0,by omega,rfl,K0.out.1,K0.out.2⟩
 case round=>
  obtain⟨k,hk,rfl,hown,hb⟩:=hrel;have K1:=aa (ag hown hb);have hsz:=hb.size;clear hown hb K0;obtain⟨q,hq⟩:∃q:Nat,q=c+k:=⟨_,rfl⟩;rw[←hq];have HQ:=aa hq;have hqk:k≤q:=by omega
  have hq2:q≤n:=by omega
  clear hq hk;by_cases hlt:q<n
  ·have HO:=ae (((bJ n c k:Nat):Int)=(q:Int)) (by rw[HA.out.1 k (by have:=HQ.out;omega),HQ.out]);go_wp2_with (at_builtin;go_loud (refine wpList_append_own _ rfl (.tmp 15) (.tmp 17) 29 rfl w.heap.size 3 i0 (.int .i64 0) 1 8 underlying29 hi hz0 hz1 hz2 rfl (by decide) _ _ _ rfl (K1.out.1.alloc _) ⟨wr.heap.size,0,none⟩ 1 1 [.int .i64 (q:Int)] rfl rfl (cell_one_new _ _ _) (wk _) (by unfold maxLen;omega) (by omega) (by simp;omega) ?_);intro v1 w9 hown1 hgr1 _);have HW:=ae (w9.ownsRow w.heap.size 3 1 v1 (k+1) ((jt n c (k+1)).map (Value.int .i64))∧Below w.heap.size w w9) (by
    refine⟨?_,(K1.out.2.alloc hsz _).grown hgr1 (by simp;omega) (fun r h=>(K1.out.1.lt r h).1)⟩;rw[HS.out,List.map_append,HO.out];exact hown1)
   clear hown1 hgr1;go_wp2;go_roundw
   case rel=>exact⟨k+1,by have:=HQ.out;omega,by rw[show c+(k+1)=q+1 by have:=HQ.out;omega];go_num,HW.out.1,HW.out.2⟩
   case measure=>simp[intOf];omega
  ·have hqn:q=n:=(by omega);subst hqn;have HK:=ae (c+k=q) HQ.out.symm;clear hqk hq2 hlt HQ;rename World=>wA
   go_wp2;go_loopw [5,7] (fun o i wr=>∃j:Nat,2≤j∧j≤c∧i=.int .i64 (j:Int)∧wr.ownsRow w.heap.size 3 1 o (q-c+(j-2)) ((jt q c (q-c+(j-2))).map (Value.int .i64))∧Below w.heap.size w wr) (fun _ i _=>c-(intOf i).toNat)
   case atStart=>exact⟨2,by omega,h2,rfl,by rw[show q-c+(2-2)=k by have:=HK.out;omega];exact K1.out.1,K1.out.2⟩
   case round=>
    obtain⟨j,hj2,hjc,rfl,hown,hb⟩:=hrel;have K2:=aa (ag hown hb);have hsz2:=hb.size;clear hown hb K1;by_cases hlt:j<c
    ·have HO:=ae (((bJ q c (q-c+(j-2)):Nat):Int)=(j:Int)) (by rw[HA.out.2 _ (by omega)];omega);obtain⟨z,hz⟩:∃z:Nat,z=q-c+(j-2):=⟨_,rfl⟩;rw[←hz] at K2 HO;have hz2':z≤2048:=(by omega);have HZ:=aa hz;clear hz;go_wp2_with (at_builtin;go_loud (refine wpList_append_own _ rfl (.tmp 24) (.tmp 26) 29 rfl w.heap.size 3 i0 (.int .i64 0) 1 8 underlying29 hi hz0 hz1 hz2 rfl (by decide) _ _ _ rfl (K2.out.1.alloc _) ⟨wr.heap.size,0,none⟩ 1 1 [.int .i64 (j:Int)] rfl rfl (cell_one_new _ _ _) (wk _) (by unfold maxLen;omega) (by omega) (by simp;omega) ?_);intro v1 w9 hown1 hgr1 _);have HW:=ae (w9.ownsRow w.heap.size 3 1 v1 (z+1) ((jt q c (z+1)).map (Value.int .i64))∧Below w.heap.size w w9) (by
      refine⟨?_,(K2.out.2.alloc hsz2 _).grown hgr1 (by simp;omega) (fun r h=>(K2.out.1.lt r h).1)⟩;rw[HS.out,List.map_append,HO.out];exact hown1)
     clear hown1 hgr1;go_wp2;go_roundw
     case rel=>exact⟨j+1,by omega,by omega,by go_num,by rw[show q-c+(j+1-2)=z+1 by have:=HZ.out;omega];exact HW.out.1,HW.out.2⟩
     case measure=>simp[intOf];omega
    ·have hjc2:j=c:=(by omega);subst hjc2;rw[show q-j+(j-2)=q-2 by omega] at K2;go_wp2;go_ret;exact⟨_,rfl,K2.out.1,K2.out.2⟩
theorem Dk(y p:Nat)(i:Bool)(hy:y≤4294967295)(hp:p<32):wrap64 ((y:Int)+wrap64 (((if i then 1 else 0)-(eF y p:Int))*wrap64 ((2:Int)^p)))=(kP y p i:Int)∧((if i then(1:Int) else 0)-(eF y p:Int)).natAbs≤1:=by
 have hs:=(sk y p).2;have hb:=l7 y p;have h1:2^p<2^32:=Nat.pow_lt_pow_right (by decide) hp;have h2:((2:Int)^p)=((2^p:Nat):Int):=by simp
 have hc:=oX y p;rw[h2];unfold kP sj;generalize 2^p=q at*;generalize eG y p=c at*;rcases(show eF y p=0∨eF y p=1 by omega) with h|h<;>rw[h] at hs⊢ <;>cases i<;>unfold wrap64<;>simp at* <;>omega
theorem Dl(y p:Nat)(i:Bool)(w:World)(hy:y≤4294967295)(hp:p<32):
 Calls prog 106 #[.int .i64 (y:Int),.int .i64 (p:Int),.int .i64 (if i then 1 else 0)] w fun e w'=>e=.returned (.int .i64 (kP y p i:Nat))∧∃n,w'=w.drewN n:=by
 have HW:=aa (Dk y p i hy hp).1;have hbl:=l7 y p;have HB:=aa (yq y p);generalize eF y p=q at HW HB hbl;cases i
 all_goals
  simp only[if_true,if_false,Bool.false_eq_true] at HW⊢;go_enter func106,ntmps106;go_wp2;go_quiet ((go_at_call 119;exact Calls.quiet_of_same (HB.out _ hy hp)))
  go_wp2;go_ret;exact⟨fK (by first|exact HW.out|(have h:=HW.out;simp at h⊢;exact h)),_,rfl⟩
theorem Dm(y p:Nat)(i:Bool)(x:Int)(w:World)(hy:y≤4294967295)(hp:p<32)(hx:x=if i then 1 else 0):
 Calls prog 106 #[.int .i64 (y:Int),.int .i64 (p:Int),.int .i64 x] w fun e w'=>e=.returned (.int .i64 (kP y p i:Nat))∧Below w.heap.size w w':=by
 subst hx;refine(Dl y p i w hy hp).mono ?_;rintro e w' ⟨rfl,n,rfl⟩;exact⟨rfl,Go.below_drewN ak n⟩
theorem Dp(z:Int):∀u∈[Value.int .i64 z],u.oneCell'=true:=by
 intro u hu;rw[List.mem_singleton] at hu;subst hu;rfl
end
end Go.Proofs.YtlimollpocagiaaGreatDoor
