/- What a flush in memory becomes by each change -/
import Derived.Test.YtpplnhkpcpieoaaGreatDoorZx15
namespace Go.Proofs.YtpplnhkpcpieoaaGreatDoor
open Go.Proofs.Tryz
open _root_.List (length_set map_set getD)
set_option linter.all false
set_option maxRecDepth 100000
set_option maxHeartbeats 16000000
section
open Go.RowKit
def j7(b:Nat)(R:Nat→Value)(vo:Value)(k:Nat):Prop:=k=b∨(∃j,j<8∧(R j).ownBlock=some k)∨vo.ownBlock=some k
structure cR(w w':World)(b:Nat)(R:Nat→Value)(vo:Value)(R':Nat→Value)(aF:Value):Prop where
 os:w'.os=w.os
 tape:w'.tape=w.tape
 output:w'.output=w.output
 size:w.heap.size≤w'.heap.size
 block:∀k,k<w.heap.size→¬j7 b R vo k→w'.heap[k]?=w.heap[k]?
 own:∀k,j7 b R' aF k→j7 b R vo k∨w.heap.size≤k
theorem cR.cV{w w':World}(b:Nat)(R:Nat→Value)(vo:Value)(h:Below w.heap.size w w'):cR w w' b R vo R vo:=⟨h.os,h.tape,h.output,h.size,fun k hk _=>h.block k hk,fun k hk=>.inl hk⟩
theorem cR.trans{w w1 w2:World}{b:Nat}{R R1 R2:Nat→Value}{vo vo1 vo2:Value}(h:cR w w1 b R vo R1 vo1)(h2:cR w1 w2 b R1 vo1 R2 vo2):cR w w2 b R vo R2 vo2:=
 ⟨h2.os.trans h.os,h2.tape.trans h.tape,h2.output.trans h.output,aK h.size h2.size,
  fun k hk hn=>(h2.block k (Nat.lt_of_lt_of_le hk h.size) (fun ho=>(h.own k ho).elim hn (fun h3=>by omega))).trans (h.block k hk hn),
  fun k hk=>(h2.own k hk).elim (h.own k) (fun h3=>.inr (aK h.size h3))⟩
theorem Fl.low{W:World}{base b:Nat}{C:Array Value}{R:Nat→Value}{LL:Nat→List Int}{vo:Value}{od:List (Nat×Nat)}{cu:Int}(h:Fl W base b C R LL vo od cu)(hb:base≤b){k:Nat}(hk:j7 b R vo k):base≤k∧k<W.heap.size:=by
 rcases hk with rfl|⟨j,hj,e⟩|e
 ·exact⟨hb,h.box.lt⟩
 ·exact(h.row j hj).lt k e
 ·exact h.cA.lt k e
theorem cR.below{w w':World}{base b:Nat}{C:Array Value}{R R':Nat→Value}{LL:Nat→List Int}{vo aF:Value}{od:List (Nat×Nat)}{cu:Int}(h:cR w w' b R vo R' aF)(hf:Fl w base b C R LL vo od cu)(hb:base≤b)(hs:base≤w.heap.size):Below base w w':=
 ⟨h.os,h.tape,h.output,h.size,fun k hk=>h.block k (by omega) (fun ho=>by have:=(hf.low hb ho).1;omega)⟩
theorem eF{w w':World}{base n sz:Nat}{e:TypeId}{v:Value}{xs:List Value}(h:w.ownsRow base e sz v n xs)(hk:∀k,v.ownBlock=some k→w'.heap[k]?=w.heap[k]?):w'.ownsRow base e sz v n xs:=by
 refine⟨h.1,?_⟩;rcases h.2 with hn|⟨g,cap,cur,rfl,hg,hgg,rest⟩
 ·exact .inl hn
 ·exact .inr ⟨g,cap,cur,rfl,hg,by rw[hk g rfl];exact hgg,rest⟩
theorem lO{W:World}{base n b sz:Nat}{e t:TypeId}{v:Value}{xs:List Value}{C:Array Value}(h:W.ownsRow base e sz v n xs)(hb:af W b C t)(ht:t≠e):v.ownBlock≠some b:=fun hv=>by
 rcases h.2 with⟨rfl,_⟩|⟨g,cap,cur,rfl,_,hg,_⟩
 ·cases hv
 ·obtain rfl:g=b:=by simpa [Value.ownBlock] using hv
  have h2:W.heap[g]?=some (.cells C t (0,0)):=hb;rw[hg] at h2;injection h2 with h2;injection h2 with _ h2 _;exact ht h2.symm
theorem Fl.jf{W:World}{base b:Nat}{C:Array Value}{R:Nat→Value}{LL:Nat→List Int}{vo:Value}{od:List (Nat×Nat)}{cu:Int}(h:Fl W base b C R LL vo od cu)(j:Nat)(hj:j<8):(R j).ownBlock≠some b:=lO (h.row j hj) h.box (by decide)
theorem Fl.rF{W:World}{base b:Nat}{C:Array Value}{R:Nat→Value}{LL:Nat→List Int}{vo:Value}{od:List (Nat×Nat)}{cu:Int}(h:Fl W base b C R LL vo od cu):vo.ownBlock≠some b:=lO h.cA h.box (by decide)
theorem Fl.uC{W:World}{base b:Nat}{C:Array Value}{R:Nat→Value}{LL:Nat→List Int}{vo:Value}{od:List (Nat×Nat)}{cu:Int}(h:Fl W base b C R LL vo od cu)(j:Nat)(hj:j<8)(k:Nat):vo.ownBlock=some k→(R j).ownBlock≠some k:=fun e e'=>by
 rcases ng h.cA (h.row j hj) (by decide) with h1|h1
 ·rw[e] at h1;cases h1
 ·exact h1 (e.trans e'.symm)
theorem Gp{b k l:Nat}{R:Nat→Value}{vo sw:Value}(h:j7 b (aO R l sw) vo k):j7 b R vo k∨sw.ownBlock=some k:=by
 rcases h with h|⟨j,hj,e⟩|h
 ·exact .inl (.inl h)
 ·by_cases hl:j=l
  ·subst hl;rw[bY] at e;exact .inr e
  ·rw[aU _ _ _ _ hl] at e;exact .inl (.inr (.inl ⟨j,hj,e⟩))
 ·exact .inl (.inr (.inr h))
theorem fL{C:Array Value}{i j:Nat}{v:Value}(h:j≠i):(C.setIfInBounds i v)[j]?=C[j]?:=Array.getElem?_setIfInBounds_ne (by omega)
theorem Fl.Gq{w w':World}{base b l r:Nat}{C:Array Value}{R:Nat→Value}{LL:Nat→List Int}{vo sw:Value}{od:List (Nat×Nat)}{cu x:Int}(h:Fl w base b C R LL vo od cu)(hl:l<3)
 (h1:dP w' base b 5 (C.setIfInBounds (5+l) sw) 185 (aO (fun l=>R (5+l)) l sw) (aO (fun l=>LL (5+l)) l (dD (LL (5+l)) r x))) (h2:fZ w w' b (R (5+l))) (h3:sw.ownBlock=(R (5+l)).ownBlock∨∃g,sw.ownBlock=some g∧w.heap.size≤g):
 Fl w' base b (C.setIfInBounds (5+l) sw) (aO R (5+l) sw) (aO LL (5+l) (dD (LL (5+l)) r x)) vo od cu∧cR w w' b R vo (aO R (5+l) sw) vo:=by
 have hkeep:∀k,k<w.heap.size→k≠b→(R (5+l)).ownBlock≠some k→w'.heap[k]?=w.heap[k]?:=h2.block;refine⟨⟨h1.box,fun j hj=>?_,fun j hj=>?_,fun i j hi hj hne=>?_,?_,?_,?_⟩,⟨h2.os,h2.tape,h2.output,h2.size,fun k hk hn=>hkeep k hk (fun e=>hn (.inl e)) (fun e=>hn (.inr (.inl ⟨5+l,by omega,e⟩))),fun k hk=>?_⟩⟩
 ·by_cases e:j=5+l
  ·subst e;rw[bY];have:=h1.at_ l hl;rwa [bY] at this
  ·rw[aU _ _ _ _ e,fL e];exact h.at_ j hj
 ·by_cases e:j=5+l
  ·subst e;rw[bY,bY];have:=h1.row l hl;rwa [bY,bY] at this
  ·rw[aU _ _ _ _ e,aU _ _ _ _ e];exact eF (h.row j hj) (fun k hk=>hkeep k ((h.row j hj).lt k hk).2 (fun e'=>h.jf j hj (by rw[hk,e'])) (fun e'=>by
    rcases h.apart j (5+l) hj (by omega) e with h5|h5
    ·rw[hk] at h5;cases h5
    ·exact h5 (hk.trans e'.symm)))
 ·have key:∀j,j<8→j≠5+l→sw.ownBlock=none∨sw.ownBlock≠(R j).ownBlock:=fun j hj hj2=>by
   rcases h3 with h3|⟨g,h3,h4⟩
   ·rw[h3];exact h.apart (5+l) j (by omega) hj (fun e=>hj2 e.symm)
   ·right;rw[h3];intro e';have:=((h.row j hj).lt g e'.symm).2;omega
  by_cases e:i=5+l
  ·subst e;rw[bY,aU _ _ _ _ (fun e=>hne e.symm)];exact key j hj (fun e=>hne e.symm)
  ·by_cases e2:j=5+l
   ·subst e2;rw[bY,aU _ _ _ _ e];cases hR:(R i).ownBlock with
    |none=>exact .inl rfl
    |some k=>
     right;intro e';rcases key i hi e with h5|h5
     ·rw[←e'] at h5;cases h5
     ·exact h5 (e'.symm.trans hR.symm)
   ·rw[aU _ _ _ _ e,aU _ _ _ _ e2];exact h.apart i j hi hj hne
 ·rw[fL (by omega)];exact h.ord
 ·exact eF h.cA (fun k hk=>hkeep k (h.cA.lt k hk).2 (fun e'=>h.rF (by rw[hk,e'])) (fun e'=>h.uC (5+l) (by omega) k hk e'))
 ·rw[fL (by omega)];exact h.cur
 ·rcases Gp hk with h5|h5
  ·exact .inl h5
  ·rcases h3 with h3|⟨g,h3,h4⟩
   ·exact .inl (.inr (.inl ⟨5+l,by omega,h3.symm.trans h5⟩))
   ·rw[h3] at h5;injection h5 with h5;exact .inr (by omega)
theorem uD{w:World}{base:Nat}{e:TypeId}{size:Nat}{v:Value}{n:Nat}{xs:List Value}(h:w.ownsRow base e size v n xs){g:Nat}(hg:v.ownBlock=some g)(o:Nat)(u:Value):(w.setCell ⟨g,o,none⟩ u).ownsRow base e size v n (xs.set o u):=by
 rcases h.2 with⟨rfl,_⟩|⟨g',cap,cur,rfl,hb,hc,hn,hm,hs,ht⟩
 ·cases hg
 ·obtain rfl:g'=g:=by simpa [Value.ownBlock] using hg
  refine⟨by simpa using h.1,.inr ⟨g',cap,cur.setIfInBounds o u,rfl,hb,heap_setCell_same w g' o cur e u hc,hn,hm,by simpa using hs,?_⟩⟩;rw[Array.toList_setIfInBounds,List.take_set,ht]
theorem Fl.zg{w:World}{base b g p:Nat}{C:Array Value}{R:Nat→Value}{LL:Nat→List Int}{vo:Value}{od:List (Nat×Nat)}{cu:Int}(h:Fl w base b C R LL vo od cu)(hg:(R 1).ownBlock=some g)(x:Int):
 Fl (w.setCell ⟨g,p,none⟩ (.int .i64 x)) base b C R (aO LL 1 ((LL 1).set p x)) vo od cu∧cR w (w.setCell ⟨g,p,none⟩ (.int .i64 x)) b R vo R vo:=by
 have hkeep:∀k,k≠g→(w.setCell ⟨g,p,none⟩ (.int .i64 x)).heap[k]?=w.heap[k]?:=fun k hk=>Below.heap_setCell w ⟨g,p,none⟩ _ k (fun e=>hk e);have hgb:g≠b:=fun e=>h.jf 1 (by omega) (by rw[hg,e]);refine⟨⟨h.box.other _ _ (fun e=>hgb e.symm),h.at_,fun j hj=>?_,h.apart,h.ord,eF h.cA (fun k hk=>hkeep k (fun e=>h.uC 1 (by omega) k hk (by rw[hg,e]))),h.cur⟩,⟨rfl,rfl,rfl,by simp,fun k hk hn=>hkeep k (fun e=>hn (.inr (.inl ⟨1,by omega,by rw[hg,e]⟩))),fun k hk=>.inl hk⟩⟩;by_cases e:j=1
 ·subst e;rw[bY,length_set,map_set];exact uD (h.row 1 hj) hg p _
 ·rw[aU _ _ _ _ e];exact eF (h.row j hj) (fun k hk=>hkeep k (fun e'=>by
   rcases h.apart j 1 hj (by omega) e with h5|h5
   ·rw[hk] at h5;cases h5
   ·exact h5 (by rw[hk,hg,e'])))
theorem Fl.rH{w:World}{base b:Nat}{C:Array Value}{R:Nat→Value}{LL:Nat→List Int}{vo:Value}{od:List (Nat×Nat)}{cu:Int}(h:Fl w base b C R LL vo od cu)(x:Int):
 Fl (w.setCell ⟨b,9,none⟩ (.int .i64 x)) base b (C.setIfInBounds 9 (.int .i64 x)) R LL vo od x∧cR w (w.setCell ⟨b,9,none⟩ (.int .i64 x)) b R vo R vo:=by
 have hkeep:∀k,k≠b→(w.setCell ⟨b,9,none⟩ (.int .i64 x)).heap[k]?=w.heap[k]?:=fun k hk=>Below.heap_setCell w ⟨b,9,none⟩ _ k (fun e=>hk e);have hsz:9<C.size:=by
  rcases Nat.lt_or_ge 9 C.size with h1|h1
  ·exact h1
  ·have:=h.cur;rw[Array.getElem?_eq_none h1] at this;cases this
 refine⟨⟨h.box.set 9 _,fun j hj=>?_,fun j hj=>eF (h.row j hj) (fun k hk=>hkeep k (fun e=>h.jf j hj (by rw[hk,e]))),h.apart,?_,eF h.cA (fun k hk=>hkeep k (fun e=>h.rF (by rw[hk,e]))),?_⟩,⟨rfl,rfl,rfl,by simp,fun k hk hn=>hkeep k (fun e=>hn (.inl e)),fun k hk=>.inl hk⟩⟩
 ·rw[fL (by omega)];exact h.at_ j hj
 ·rw[fL (by omega)];exact h.ord
 ·rw[Array.getElem?_setIfInBounds_self_of_lt hsz]
theorem Fl.Gr{w w1:World}{base b l r:Nat}{C:Array Value}{R:Nat→Value}{LL:Nat→List Int}{vo v1:Value}{od:List (Nat×Nat)}{cu:Int}(h:Fl w base b C R LL vo od cu)
 (ho:w1.ownsRow base 175 2 v1 (od.length+1) (jn od++[.int .i64 (l:Int),.int .i64 (r:Int)])) (hg:w.grownBy w1 vo.ownBlock) (hn:v1.ownBlock=vo.ownBlock∨∃g,v1.ownBlock=some g∧w.heap.size≤g):
 Fl (w1.setCell ⟨b,8,none⟩ v1) base b (C.setIfInBounds 8 v1) R LL v1 (od++[(l,r)]) cu∧cR w (w1.setCell ⟨b,8,none⟩ v1) b R vo R v1:=by
 have hk1:∀k,k<w.heap.size→vo.ownBlock≠some k→w1.heap[k]?=w.heap[k]?:=fun k hk hne=>hg.block k hk (fun e=>hne e.symm);have hkeep:∀k,k<w.heap.size→k≠b→vo.ownBlock≠some k→(w1.setCell ⟨b,8,none⟩ v1).heap[k]?=w.heap[k]?:=fun k hk hkb hne=>(Below.heap_setCell w1 ⟨b,8,none⟩ _ k (fun e=>hkb e)).trans (hk1 k hk hne);have hsz:8<C.size:=by
  rcases Nat.lt_or_ge 8 C.size with h1|h1
  ·exact h1
  ·have:=h.ord;rw[Array.getElem?_eq_none h1] at this;cases this
 have PI:af w1 b C 185:=(hk1 b h.box.lt h.rF).trans h.box;have hvb:v1.ownBlock≠some b:=lO ho PI (by decide);refine⟨⟨PI.set 8 _,fun j hj=>?_,fun j hj=>eF (h.row j hj) (fun k hk=>hkeep k ((h.row j hj).lt k hk).2 (fun e=>h.jf j hj (by rw[hk,e])) (fun e=>h.uC j hj k e hk)),h.apart,?_,?_,?_⟩,⟨hg.os,hg.tape,hg.output,by simp[hg.size],fun k hk hn=>hkeep k hk (fun e=>hn (.inl e)) (fun e=>hn (.inr (.inr e))),fun k hk=>?_⟩⟩
 ·rw[fL (by omega)];exact h.at_ j hj
 ·rw[Array.getElem?_setIfInBounds_self_of_lt hsz]
 ·rw[List.length_append,ze];exact eF ho (fun k hk=>Below.heap_setCell w1 ⟨b,8,none⟩ _ k (fun e=>hvb (by rw[hk,show k=b from e])))
 ·rw[fL (by omega)];exact h.cur
 ·rcases hk with hk|hk|hk
  ·exact .inl (.inl hk)
  ·exact .inl (.inr (.inl hk))
  ·rcases hn with hn|⟨g,hn,hgs⟩
   ·exact .inl (.inr (.inr (hn.symm.trans hk)))
   ·rw[hn] at hk;injection hk with hk;exact .inr (by omega)
theorem Gs(z:Int)(h:0≤z∧z<4294967296):bits .andNot .i64 z 1=even z:=by
 obtain⟨y,rfl⟩:∃y:Nat,z=(y:Int):=⟨z.toNat,by omega⟩;have:=Dv y 0 (by omega) (by omega);rw[show((2^0:Nat):Int)=1 from rfl] at this;rw[this];unfold even eX eV;simp only[Nat.pow_zero,Nat.div_one,Nat.mul_one];have:=Nat.mod_lt y (show 0<2 by decide);have:=Nat.mod_le y 2;omega
end
section
open Go.RowKit
def gF(j:Nat):Nat:=if j=0 then 0 else if j=1 then 1 else if j=2 then 11 else if j=3 then 12 else 2
theorem oh{j:Nat}(h:j<5):gF j<14∧gF j≠10∧gF j≠13∧gF j≠3:=by
 rcases(show j=0∨j=1∨j=2∨j=3∨j=4 by omega) with rfl|rfl|rfl|rfl|rfl<;>decide
theorem zh{i j:Nat}(hi:i<5)(hj:j<5)(h:gF i=gF j):i=j:=by
 rcases(show i=0∨i=1∨i=2∨i=3∨i=4 by omega) with rfl|rfl|rfl|rfl|rfl<;>rcases(show j=0∨j=1∨j=2∨j=3∨j=4 by omega) with rfl|rfl|rfl|rfl|rfl<;>first|rfl|(exact absurd h (by decide))
structure Fm(W:World)(base b:Nat)(C:Array Value)(R:Nat→Value)(LL:Nat→List Int)(cu sg:Int)(fu:Bool):Prop where
 box:af W b C 82
 size:C.size=14
 at_:∀j,j<5→C[gF j]?=some (R j)
 row:∀j,j<5→W.ownsRow base 3 1 (R j) (LL j).length ((LL j).map (Value.int .i64))
 apart:∀i j,i<5→j<5→i≠j→(R i).ownBlock=none∨(R i).ownBlock≠(R j).ownBlock
 cur:C[10]?=some (.int .i64 cu)
 OG:C[3]?=some (.int .i64 sg)
 full:C[13]?=some (.bool fu)
section
variable {W W':World} {base b:Nat} {C:Array Value} {R:Nat→Value} {LL:Nat→List Int} {cu sg:Int} {fu:Bool}
theorem Fm.below(h:Fm W base b C R LL cu sg fu)(hb:Below W.heap.size W W'):Fm W' base b C R LL cu sg fu:=
 ⟨h.box.below hb h.box.lt,h.size,h.at_,fun j hj=>bz (h.row j hj) hb,h.apart,h.cur,h.OG,h.full⟩
theorem Fm.jf(h:Fm W base b C R LL cu sg fu){j:Nat}(hj:j<5):(R j).ownBlock≠some b:=lO (h.row j hj) h.box (by decide)
def pS(b:Nat)(R:Nat→Value)(k:Nat):Prop:=k=b∨∃j,j<5∧(R j).ownBlock=some k
structure dF(w w':World)(b:Nat)(R R':Nat→Value):Prop where
 os:w'.os=w.os
 tape:w'.tape=w.tape
 output:w'.output=w.output
 size:w.heap.size≤w'.heap.size
 block:∀k,k<w.heap.size→¬pS b R k→w'.heap[k]?=w.heap[k]?
 own:∀k,pS b R' k→pS b R k∨w.heap.size≤k
theorem dF.cV(b:Nat)(R:Nat→Value)(h:Below W.heap.size W W'):dF W W' b R R:=⟨h.os,h.tape,h.output,h.size,fun k hk _=>h.block k hk,fun k hk=>.inl hk⟩
theorem dF.trans{w w1 w2:World}{b:Nat}{R R1 R2:Nat→Value}(h:dF w w1 b R R1)(h2:dF w1 w2 b R1 R2):dF w w2 b R R2:=
 ⟨h2.os.trans h.os,h2.tape.trans h.tape,h2.output.trans h.output,aK h.size h2.size,fun k hk hn=>(h2.block k (Nat.lt_of_lt_of_le hk h.size) (fun hm=>by
  rcases h.own k hm with h5|h5
  ·exact hn h5
  ·omega)).trans (h.block k hk hn),fun k hk=>by
  rcases h2.own k hk with h5|h5
  ·exact h.own k h5
  ·exact .inr (aK h.size h5)⟩
theorem dF.below{R':Nat→Value}(h:dF W W' b R R')(hf:Fm W base b C R LL cu sg fu)(hb:base≤b)(hs:base≤W.heap.size):Below base W W':=
 ⟨h.os,h.tape,h.output,h.size,fun k hk=>h.block k (by omega) (fun hm=>by
  rcases hm with rfl|⟨j,hj,e⟩
  ·omega
  ·have:=((hf.row j hj).lt k e).1;omega)⟩
theorem Fm.set(h:Fm W base b C R LL cu sg fu){j g p:Nat}(hj:j<5)(hg:(R j).ownBlock=some g)(x:Int):
 Fm (W.setCell ⟨g,p,none⟩ (.int .i64 x)) base b C R (aO LL j ((LL j).set p x)) cu sg fu∧dF W (W.setCell ⟨g,p,none⟩ (.int .i64 x)) b R R:=by
 have hkeep:∀k,k≠g→(W.setCell ⟨g,p,none⟩ (.int .i64 x)).heap[k]?=W.heap[k]?:=fun k hk=>Below.heap_setCell W ⟨g,p,none⟩ _ k (fun e=>hk e);have hgb:g≠b:=fun e=>h.jf hj (by rw[hg,e]);refine⟨⟨h.box.other _ _ (fun e=>hgb e.symm),h.size,h.at_,fun i hi=>?_,h.apart,h.cur,h.OG,h.full⟩,⟨rfl,rfl,rfl,by simp,fun k hk hn=>hkeep k (fun e=>hn (.inr ⟨j,hj,by rw[hg,e]⟩)),fun k hk=>.inl hk⟩⟩;by_cases e:i=j
 ·subst e;rw[bY,length_set,map_set];exact uD (h.row i hi) hg p _
 ·rw[aU _ _ _ _ e];exact eF (h.row i hi) (fun k hk=>hkeep k (fun e'=>by
   rcases h.apart i j hi hj e with h5|h5
   ·rw[hk] at h5;cases h5
   ·exact h5 (by rw[hk,hg,e'])))
theorem Fm.zi(h:Fm W base b C R LL cu sg fu)(p:Nat)(v:Value):∀j,j<5→(W.setCell ⟨b,p,none⟩ v).ownsRow base 3 1 (R j) (LL j).length ((LL j).map (Value.int .i64)):=fun j hj=>
 eF (h.row j hj) (fun k hk=>Below.heap_setCell W ⟨b,p,none⟩ _ k (fun e=>h.jf hj (by rw[hk,e])))
theorem dF.box(h:Fm W base b C R LL cu sg fu)(p:Nat)(v:Value):dF W (W.setCell ⟨b,p,none⟩ v) b R R:=
 ⟨rfl,rfl,rfl,by simp,fun k hk hn=>Below.heap_setCell W ⟨b,p,none⟩ _ k (fun e=>hn (.inl e)),fun k hk=>.inl hk⟩
theorem Fm.setCur(h:Fm W base b C R LL cu sg fu)(x:Int):Fm (W.setCell ⟨b,10,none⟩ (.int .i64 x)) base b (C.setIfInBounds 10 (.int .i64 x)) R LL x sg fu:=
 ⟨h.box.set 10 _,by simpa using h.size,fun j hj=>by rw[fL (oh hj).2.1];exact h.at_ j hj,h.zi 10 _,h.apart,by rw[Array.getElem?_setIfInBounds_self_of_lt (by have:=h.size;omega)],by rw[fL (by omega)];exact h.OG,by rw[fL (by omega)];exact h.full⟩
theorem Fm.Gt(h:Fm W base b C R LL cu sg fu)(x:Bool):Fm (W.setCell ⟨b,13,none⟩ (.bool x)) base b (C.setIfInBounds 13 (.bool x)) R LL cu sg x:=
 ⟨h.box.set 13 _,by simpa using h.size,fun j hj=>by rw[fL (oh hj).2.2.1];exact h.at_ j hj,h.zi 13 _,h.apart,by rw[fL (by omega)];exact h.cur,by rw[fL (by omega)];exact h.OG,by rw[Array.getElem?_setIfInBounds_self_of_lt (by have:=h.size;omega)]⟩
theorem zj{b k l:Nat}{R:Nat→Value}{sw:Value}(h:pS b (aO R l sw) k):pS b R k∨sw.ownBlock=some k:=by
 rcases h with h|⟨j,hj,e⟩
 ·exact .inl (.inl h)
 ·by_cases hl:j=l
  ·subst hl;rw[bY] at e;exact .inr e
  ·rw[aU _ _ _ _ hl] at e;exact .inl (.inr ⟨j,hj,e⟩)
theorem Fm.app(h:Fm W base b C R LL cu sg fu){v':Value}{x:Int}(ho:W'.ownsRow base 3 1 v' ((LL 3).length+1) ((LL 3++[x]).map (Value.int .i64)))(hg:W.grownBy W' (R 3).ownBlock)(hv:v'.ownBlock=(R 3).ownBlock∨∃g,v'.ownBlock=some g∧W.heap.size≤g):
 Fm (W'.setCell ⟨b,12,none⟩ v') base b (C.setIfInBounds 12 v') (aO R 3 v') (aO LL 3 (LL 3++[x])) cu sg fu∧dF W (W'.setCell ⟨b,12,none⟩ v') b R (aO R 3 v'):=by
 have hB:af W' b C 82:=(hg.block b h.box.lt (fun e=>h.jf (j:=3) (by omega) e.symm)).trans h.box;have hk1:∀k,k≠b→(W'.setCell ⟨b,12,none⟩ v').heap[k]?=W'.heap[k]?:=fun k hk=>Below.heap_setCell W' ⟨b,12,none⟩ _ k (fun e=>hk e);have hkeep:∀k,k<W.heap.size→k≠b→(R 3).ownBlock≠some k→(W'.setCell ⟨b,12,none⟩ v').heap[k]?=W.heap[k]?:=fun k hk hkb hr=>(hk1 k hkb).trans (hg.block k hk (fun e=>hr e.symm));have hvb:v'.ownBlock≠some b:=lO ho hB (by decide);refine⟨⟨hB.set 12 _,by simpa using h.size,fun j hj=>?_,fun j hj=>?_,fun i j hi hj hne=>?_,?_,?_,?_⟩,⟨hg.os,hg.tape,hg.output,by simpa using hg.size,fun k hk hn=>hkeep k hk (fun e=>hn (.inl e)) (fun e=>hn (.inr ⟨3,by omega,e⟩)),fun k hk=>?_⟩⟩
 ·by_cases e:j=3
  ·subst e;rw[bY];show(C.setIfInBounds 12 v')[12]?=_;rw[Array.getElem?_setIfInBounds_self_of_lt (by have:=h.size;omega)]
  ·rw[aU _ _ _ _ e,fL (i:=12) (fun e'=>e (zh hj (show 3<5 by omega) e'))];exact h.at_ j hj
 ·by_cases e:j=3
  ·subst e;rw[bY,bY,List.length_append];exact eF ho (fun k hk=>hk1 k (fun e'=>hvb (by rw[hk,e'])))
  ·rw[aU _ _ _ _ e,aU _ _ _ _ e];exact eF (h.row j hj) (fun k hk=>hkeep k ((h.row j hj).lt k hk).2 (fun e'=>h.jf hj (by rw[hk,e'])) (fun e'=>by
    rcases h.apart j 3 hj (by omega) e with h5|h5
    ·rw[hk] at h5;cases h5
    ·exact h5 (hk.trans e'.symm)))
 ·have key:∀j,j<5→j≠3→v'.ownBlock=none∨v'.ownBlock≠(R j).ownBlock:=fun j hj hj2=>by
   rcases hv with h3|⟨g,h3,h4⟩
   ·rw[h3];exact h.apart 3 j (by omega) hj (fun e=>hj2 e.symm)
   ·right;rw[h3];intro e';have:=((h.row j hj).lt g e'.symm).2;omega
  by_cases e:i=3
  ·subst e;rw[bY,aU _ _ _ _ (fun e=>hne e.symm)];exact key j hj (fun e=>hne e.symm)
  ·by_cases e2:j=3
   ·subst e2;rw[bY,aU _ _ _ _ e];cases hR:(R i).ownBlock with
    |none=>exact .inl rfl
    |some k=>
     right;intro e';rcases key i hi e with h5|h5
     ·rw[←e'] at h5;cases h5
     ·exact h5 (e'.symm.trans hR.symm)
   ·rw[aU _ _ _ _ e,aU _ _ _ _ e2];exact h.apart i j hi hj hne
 ·rw[fL (by omega)];exact h.cur
 ·rw[fL (by omega)];exact h.OG
 ·rw[fL (by omega)];exact h.full
 ·rcases zj hk with h5|h5
  ·exact .inl h5
  ·rcases hv with h3|⟨g,h3,h4⟩
   ·exact .inl (.inr ⟨3,by omega,h3.symm.trans h5⟩)
   ·rw[h3] at h5;injection h5 with h5;exact .inr (by omega)
end
end
section
open Go.RowKit
theorem Fm.at{W:World}{base b:Nat}{C:Array Value}{R:Nat→Value}{LL:Nat→List Int}{cu sg:Int}{fu:Bool}(h:Fm W base b C R LL cu sg fu){j:Nat}(hj:j<5)(hn:0<(LL j).length):∃g c,R j=.slice (some ⟨g,0,none⟩) (LL j).length c∧(R j).ownBlock=some g∧W.cell? ⟨b,gF j,none⟩=some (.slice (some ⟨g,0,none⟩) (LL j).length c)∧∀k,k<(LL j).length→W.cell? ⟨g,k,none⟩=some (.int .i64 ((LL j).getD k 0))∧W.frozen? ⟨g,k,none⟩=false:=by
 have hr:=h.row j hj;rcases hr.2 with⟨e0,h0⟩|⟨g,cap,cur,e0,hb,hg,h1,h2,h3,h4⟩
 ·omega
 ·refine⟨g,cap,e0,by rw[e0];rfl,(h.box.cell _).trans (by rw[←e0];exact h.at_ j hj),fun k hk=>⟨?_,?_⟩⟩
  ·have:=hr.cells (g:=g) (by rw[e0];rfl) k (.int .i64 ((LL j).getD k 0)) (by simp[getD,hk]);rw[Addr.add_mid,Nat.zero_add] at this;exact this
  ·have hB:af W g cur 3:=hg;exact hB.frozen k
theorem zk(base b k:Nat)(C:Array Value)(R:Nat→Value)(LL:Nat→List Int)(cu sg:Int)(fu:Bool)(w:World)(h:Fm w base b C R LL cu sg fu)(hk:k<(LL 2).length)(hd:(LL 2).getD k 0=0→k<(LL 4).length)(hm:k≤1000):
 Calls prog 79 #[.pointer (some ⟨b,0,none⟩),.int .i64 (k:Int)] w fun e w'=>e=.returned (.int .i64 (if(LL 2).getD k 0=0 then(LL 4).getD k 0 else(LL 2).getD k 0))∧w'=w:=by
 obtain⟨g2,q2,_,_,c11,hc2⟩:=h.at (j:=2) (by omega) (by omega);have c11':w.cell? ⟨b,11,none⟩=some (.slice (some ⟨g2,0,none⟩) (LL 2).length q2):=c11;have e2:=(hc2 k hk).1;have HL:=h.row 2 (by omega);have hl2:(LL 2).length≤maxLen:=by
  rcases HL.2 with⟨_,h0⟩|⟨g,cap,cur,e0,hb,hg,h1,h2,h3,h4⟩
  ·omega
  ·omega
 unfold maxLen at hl2;by_cases hz:(LL 2).getD k 0=0
 ·obtain⟨g4,q4,_,_,c2,hc4⟩:=h.at (j:=4) (by omega) (by have:=hd hz;omega);have c2':w.cell? ⟨b,2,none⟩=some (.slice (some ⟨g4,0,none⟩) (LL 4).length q4):=c2;have e4:=(hc4 k (hd hz)).1;have hk4:=hd hz;have HZ:=aa hz;obtain⟨n2,hn2⟩:∃n2,n2=(LL 2).length:=⟨_,rfl⟩;obtain⟨n4,hn4⟩:∃n4,n4=(LL 4).length:=⟨_,rfl⟩;obtain⟨y,hy⟩:∃y,y=(LL 4).getD k 0:=⟨_,rfl⟩;rw[hz] at e2;rw[←hy] at e4;rw[if_pos hz, ←hy];rw[←hn2] at c11' hk hl2;rw[←hn4] at c2' hk4;have Oc:(k:Int)<(n2:Int):=by omega
  have hkJ:(k:Int)<(n4:Int):=by omega
  clear hc2 hc4 c11 c2 hd h HL hz hn2 hn4 hy;go_enter func79,ntmps79;go_wp2;go_ret;exact⟨rfl,rfl⟩
 ·obtain⟨n2,hn2⟩:∃n2,n2=(LL 2).length:=⟨_,rfl⟩;rw[if_neg hz];obtain⟨y,hy⟩:∃y,y=(LL 2).getD k 0:=⟨_,rfl⟩;rw[←hy] at e2 hz⊢;rw[←hn2] at c11' hk hl2;have Oc:(k:Int)<(n2:Int):=by omega
  clear hc2 c11 hd h HL hn2 hy;go_enter func79,ntmps79;go_wp2;go_ret;exact⟨rfl,rfl⟩
def lP(LL:Nat→List Int)(l r p:Nat)(o:Int):Nat→List Int:=aO (aO LL (5+l) (dD (LL (5+l)) r (p:Int))) 1 (fO ((LL 1).set p 1) o)
theorem Fl.lt{W:World}{base b:Nat}{C:Array Value}{R:Nat→Value}{LL:Nat→List Int}{vo:Value}{od:List (Nat×Nat)}{cu:Int}(h:Fl W base b C R LL vo od cu){k:Nat}(hk:j7 b R vo k):k<W.heap.size:=by
 rcases hk with rfl|⟨j,hj,e⟩|e
 ·exact h.box.lt
 ·exact((h.row j hj).lt k e).2
 ·exact(h.cA.lt k e).2
theorem Gu:(prog.info? 175).map (fun i=>(i.zero,i.size,i.bytes))=some (some (.agg #[.int .i64 0,.int .i64 0]),2,16):=by kernel_rfl
theorem Gv(w:World)(C:Array Value)(t:TypeId):∀j u,C.toList[j]?=some u→(w.alloc (.cells C t)).cell? (Addr.add ⟨w.heap.size,0,none⟩ j)=some u:=by
 intro j u h;rw[Addr.add_mid,Nat.zero_add,(af.new w C t).cell j];simpa using h
theorem uE{α:Type}(f:Nat→α)(i:Nat)(x y:α):aO (aO f i x) i y=aO f i y:=by
 funext k;unfold aO;split<;>rfl
theorem Fl.nh{W:World}{base b:Nat}{C:Array Value}{R:Nat→Value}{LL:Nat→List Int}{vo:Value}{od:List (Nat×Nat)}{cu:Int}(h:Fl W base b C R LL vo od cu)(hn:0<(LL 1).length):∃g c,R 1=.slice (some ⟨g,0,none⟩) (LL 1).length c∧(R 1).ownBlock=some g∧W.cell? ⟨b,1,none⟩=some (.slice (some ⟨g,0,none⟩) (LL 1).length c)∧∀k,k<(LL 1).length→W.cell? ⟨g,k,none⟩=some (.int .i64 ((LL 1).getD k 0))∧W.frozen? ⟨g,k,none⟩=false:=by
 have hr:=h.row 1 (by omega);obtain⟨a,c,e,e2,hrd⟩:=h.rd 1 (by omega);rcases hr.2 with⟨e0,h0⟩|⟨g,cap,cur,e0,hb,hg,h1,h2,h3,h4⟩
 ·omega
 ·rw[e0] at e;injection e with e5 e6 e7;subst e5;subst e7;refine⟨g,cap,e0,by rw[e0];rfl,(h.box.cell 1).trans e2,fun k hk=>⟨?_,?_⟩⟩
  ·have:=hr.cells (g:=g) (by rw[e0];rfl) k (.int .i64 ((LL 1).getD k 0)) (by simp[getD,hk]);rw[Addr.add_mid,Nat.zero_add] at this;exact this
  ·have hB:af W g cur 3:=hg;exact hB.frozen k
theorem Gw(base b l r p:Nat)(C:Array Value)(R:Nat→Value)(LL:Nat→List Int)(vo:Value)(od:List (Nat×Nat))(cu:Int)(w:World)(h:Fl w base b C R LL vo od cu)(hl:l<2)(hr:r≤700)(n:Nat)(hnn:n=(LL 1).length)(hp:2≤p∧p<n)(hn:n≤2048)(hL:(LL (5+l)).length≤100001)(hod:od.length≤1000)(hbs:base≤w.heap.size)(o:Int)(ho:o=(LL (2+l)).getD r 0)(ho2:0≤o∧o<n)(hwr:∀z∈LL 1,0≤z∧z<4294967296):
 Calls prog 138 #[.pointer (some ⟨b,0,none⟩),bh l r,.int .i64 (p:Int)] w fun e w'=>e=.returned (.tuple #[])∧∃C' R' aF,Fl w' base b C' R' (lP LL l r p o) aF (od++[(l,r)]) (dg n p)∧cR w w' b R vo R' aF:=by
 obtain⟨i0,hi0,hz0,hz1,hz2⟩:=info_parts Gu;obtain⟨W1,hW1⟩:∃W1,W1=w.alloc (.cells #[.int .i64 (l:Int),.int .i64 (r:Int)] 175):=⟨_,rfl⟩;have B1:=ae (Below w.heap.size w W1) (by rw[hW1];exact ak.alloc aj _);have K1:=ae (af W1 w.heap.size #[.int .i64 (l:Int),.int .i64 (r:Int)] 175) (by rw[hW1];exact af.new w _ _);have HW:=aa hW1;have HF:=aa (h.below B1.out);have YC:=ae (¬j7 b R vo w.heap.size) (fun ho=>by have:=h.lt ho;omega);have Ti:=aa (cR.cV b R vo B1.out);have HH:=aa (ai hl (ai hr (ai hL (ai hod (ai hnn (ai ho hwr))))));have PJ:base≤W1.heap.size:=aK hbs B1.out.size;have NL:=ae (∀w' R' aF,cR W1 w' b R vo R' aF→af w' w.heap.size #[.int .i64 (l:Int),.int .i64 (r:Int)] 175) (fun w' R' aF k=>(k.block _ K1.out.lt YC.out).trans K1.out);clear hW1 h hl hr hL hod hnn ho hwr;go_enter func138,ntmps138;unfold bh;go_upto_region 1 with fail;rw[←HW.out];refine bg (fun w'=>af w' w.heap.size #[.int .i64 (l:Int),.int .i64 (r:Int)] 175) (show af W1.drew w.heap.size #[.int .i64 (l:Int),.int .i64 (r:Int)] 175 from K1.out) fun hH=>?_;refine ah 0 (.pointer (some ⟨b,0,none⟩)) rfl hH ?_;refine ah 1 (.pointer (some ⟨b,0,none⟩)) rfl hH ?_;refine ah 2 (.pointer (some ⟨b,5,none⟩)) rfl hH ?_;refine ah 3 (.agg #[.int .i64 (l:Int),.int .i64 (r:Int)]) rfl hH ?_ (yieldsIf_load_mid (by rfl) 175 _ rfl w.heap.size 0 rfl [.int .i64 (l:Int),.int .i64 (r:Int)] _ (fun w' h=>jF h) underlying175 rfl bZ);refine ah 4 (.int .i64 (p:Int)) rfl hH ?_;refine aG 5 rfl fun K hK=>?_;go_simp;refine(uy b 5 l r C 185 _ _ (p:Int) base W1.drew (HF.out.rE.below ak.drew) (by have:=HH.out.1;omega) (by have:=HH.out.2.1;omega) HH.out.2.2.1 (by decide) PJ).mono ?_;rintro e w2 ⟨rfl,sw,h1,h2,h3⟩;obtain⟨f2,k2⟩:=Fl.Gq HF.out (by have:=HH.out.1;omega) h1 ⟨h2.os,h2.tape,h2.output,h2.size,h2.block⟩ h3;have F2:=aa f2;have P2:=aa k2;refine hK.out _ _ (NL.out _ _ _ P2.out) (fun hH=>?_);clear hK K h1 h2 h3 f2 k2;try simp only[Act.put,av,ay,az,aA,aB,aC]
 refine aV ?_;clear hH;have X2:=aa (NL.out _ _ _ P2.out);generalize aO R (5+l) sw=R2 at F2 P2;generalize C.setIfInBounds (5+l) sw=C2 at F2;obtain⟨oa,oc,hoa⟩:=bO F2.out.cA;subst hoa;obtain⟨no,hno⟩:∃no,no=od.length:=⟨_,rfl⟩;have Tj:no≤1000:=by rw[hno];exact HH.out.2.2.2.1
 have N5:=aa hno;rw[←hno] at F2 P2 YC Ti NL;clear hno;have HC8:=ae (∀w',af w' b C2 185→w'.cell? ⟨b,8,none⟩=some (.slice oa no oc)) (fun w' hw=>(hw.cell 8).trans F2.out.ord);have hs2:base≤w2.heap.size:=aK PJ P2.out.size;clear sw;go_upto_region 2 with fail;refine wp_region_noPanic ?_;refine nR (fun w'=>af w' w.heap.size #[.int .i64 (l:Int),.int .i64 (r:Int)] 175∧af w' b C2 185) 8 (by kernel_rfl) ?_;have hH:(fun w'=>af w' w.heap.size #[.int .i64 (l:Int),.int .i64 (r:Int)] 175∧af w' b C2 185) w2.drew:=⟨X2.out,F2.out.box⟩;refine cQ 0 (.pointer (some ⟨b,0,none⟩)) rfl hH ?_;refine cQ 1 (.pointer (some ⟨b,0,none⟩)) rfl hH ?_;refine cQ 2 (.pointer (some ⟨b,0,none⟩)) rfl hH ?_;refine cQ 3 (.pointer (some ⟨b,8,none⟩)) rfl hH ?_;refine cQ 4 (.slice oa no oc) rfl hH ?_ (aH fun w' hw'=>by have hc:=HC8.out w' hw'.2;clear hw';go_simp);refine cQ 5 (.agg #[.int .i64 (l:Int),.int .i64 (r:Int)]) rfl hH ?_ (yieldsIf_load_mid (by rfl) 175 _ rfl w.heap.size 0 rfl [.int .i64 (l:Int),.int .i64 (r:Int)] _ (fun w' h=>jF h.1) underlying175 rfl bZ);refine dY (i:=6) (by kernel_rfl) rfl (fun K hK=>?_);obtain⟨w3,hw3⟩:∃w3,w3=(w2.alloc (.cells #[.int .i64 (l:Int),.int .i64 (r:Int)] 175)).drew:=⟨_,rfl⟩;have B3:=ae (Below w2.heap.size w2 w3) (by rw[hw3];exact(ak.alloc aj _).drew);have F3:=aa (F2.out.below B3.out);have C3:=ae (∀j u,(#[.int .i64 (l:Int),.int .i64 (r:Int)]:Array Value).toList[j]?=some u→w3.cell? (Addr.add ⟨w2.heap.size,0,none⟩ j)=some u) (by rw[hw3];exact Gv w2 #[.int .i64 (l:Int),.int .i64 (r:Int)] 175);have S3:=ae (af w3 w.heap.size #[.int .i64 (l:Int),.int .i64 (r:Int)] 175∧af w3 b C2 185) (ai (X2.out.below B3.out X2.out.lt) F3.out.box);have HW3:=aa hw3;clear hw3 hH;go_simp;rw[←HW3.out];refine hK.out _ _ (fun _ _=>S3.out) ?_;clear hK K;try simp only[Act.put,av,ay,az,aA,aB,aC]
 refine dY (i:=7) (by kernel_rfl) rfl (fun K hK=>?_);rw[if_pos (by rfl)];refine jD (.tmp 17) (.tmp 19) 183 rfl base 175 i0 (.agg #[.int .i64 0,.int .i64 0]) 2 16 underlying183 hi0 hz0 hz1 hz2 rfl (by decide) (.slice oa no oc) no (jn od) rfl (by have:=F3.out.cA;rw[←N5.out] at this;exact this) ⟨w2.heap.size,0,none⟩ 1 1 [.int .i64 (l:Int),.int .i64 (r:Int)] rfl rfl C3.out (by intro y hy;simp at hy;rcases hy with rfl|rfl<;>rfl) (by unfold maxLen;omega) (by omega) (by have:=B3.out.size;omega) ?_;intro v4 w4 o4 g4 n4;obtain⟨va,vc,hva⟩:=bO o4;subst hva;obtain⟨f5,k5⟩:=Fl.Gr (l:=l) (r:=r) F3.out (by rw[←N5.out];exact o4) g4 (n4.imp id (fun e=>⟨_,e,aj⟩));have F5:=aa f5;have P5:=aa (P2.out.trans ((cR.cV b R2 _ B3.out).trans k5));have k4:af w4 b C2 185:=(g4.block _ F3.out.box.lt (fun e=>F3.out.rF e.symm)).trans F3.out.box;have X4:af w4 w.heap.size #[.int .i64 (l:Int),.int .i64 (r:Int)] 175:=(g4.block _ (Nat.lt_of_lt_of_le X2.out.lt B3.out.size) (fun e=>by
  rcases P2.out.own w.heap.size (.inr (.inr e.symm)) with h5|h5
  ·exact YC.out h5
  ·have:=K1.out.lt;omega)).trans S3.out.1
 have c8:=(k4.cell 8).trans F3.out.ord;have f8:=k4.frozen 8;refine hK.out _ _ (fun _ _=>⟨X4,k4⟩) ?_;clear hK K f5 k5 o4 g4 n4 X4 k4;try simp only[Act.put,av,ay,az,aA,aB,aC]
 refine dY (i:=8) (by kernel_rfl) rfl (fun K hK=>?_);go_simp;refine hK.out _ _ (fun h=>absurd rfl h) ?_;clear hK K;try simp only[Act.put,av,ay,az,aA,aB,aC]
 refine dY (i:=9) (by kernel_rfl) rfl (fun K hK=>?_);go_simp;refine hK.out _ _ (fun _ h=>Bool.noConfusion (show true=false from h)) ?_;clear hK K;try simp only[Act.put,av,ay,az,aA,aB,aC]
 refine dY (i:=10) (by kernel_rfl) rfl (fun K hK=>?_);go_simp;refine hK.out _ _ (fun _ h=>Bool.noConfusion (show true=false from h)) ?_;clear hK K c8 f8;try simp only[Act.put,av,ay,az,aA,aB,aC]
 refine m5 (by kernel_rfl) (NoPanic.normal ?_) _;generalize w4.setCell ⟨b,8,none⟩ (.slice va (no+1) vc)=w5 at F5 P5⊢;generalize C2.setIfInBounds 8 (.slice va (no+1) vc)=C5 at F5;clear F2 P2 X2 F3 C3 S3 HW3 B3 HC8 HF hs2;have e1:(aO LL (5+l) (dD (LL (5+l)) r (p:Int))) 1=LL 1:=aU _ _ _ _ (by omega);have e2:(aO LL (5+l) (dD (LL (5+l)) r (p:Int))) (2+l)=LL (2+l):=aU _ _ _ _ (by have:=HH.out.1;omega);have HE:=aa (ai e1 e2);obtain⟨Tk,Tl⟩:∃Tk,Tk=aO LL (5+l) (dD (LL (5+l)) r (p:Int)):=⟨_,rfl⟩;have Vj:=aa Tl;rw[←Tl] at F5 HE;clear e1 e2 Tl;have hn0:0<n:=by omega
 obtain⟨g,gc,NF,hg,x1,hx⟩:=F5.out.nh (by rw[HE.out.1, ←HH.out.2.2.2.2.1];exact hn0);rw[HE.out.1, ←HH.out.2.2.2.2.1] at NF x1 hx;obtain⟨xp,fp⟩:=hx p hp.2;have HG:=aa (ai NF hg);clear NF hg hx;go_upto_region 4 with fail;obtain⟨f6,k6⟩:=F5.out.zg (p:=p) HG.out.2 1;have F6:=aa f6;have P6:=aa (P5.out.trans k6);clear f6 k6 x1 xp fp;generalize w5.setCell ⟨g,p,none⟩ (.int .i64 1)=w6 at F6 P6⊢;have X6:=aa (NL.out _ _ _ P6.out);refine bg (fun w'=>af w' w.heap.size #[.int .i64 (l:Int),.int .i64 (r:Int)] 175) (show af w6.drew w.heap.size #[.int .i64 (l:Int),.int .i64 (r:Int)] 175 from X6.out) fun hH=>?_;refine ah 0 (.pointer (some ⟨b,0,none⟩)) rfl hH ?_;refine ah 1 (.pointer (some ⟨b,0,none⟩)) rfl hH ?_;refine ah 2 (.pointer (some ⟨b,2,none⟩)) rfl hH ?_;refine ah 3 (.agg #[.int .i64 (l:Int),.int .i64 (r:Int)]) rfl hH ?_ (yieldsIf_load_mid (by rfl) 175 _ rfl w.heap.size 0 rfl [.int .i64 (l:Int),.int .i64 (r:Int)] _ (fun w' h=>jF h) underlying175 rfl bZ);refine aG 4 rfl fun K hK=>?_;go_simp;refine(kW b 2 l r C5 185 _ _ base _ (F6.out.old.below ak.drew) (by have:=HH.out.1;omega) (by have:=HH.out.2.1;omega)).mono ?_;rintro e w7 ⟨rfl,b7⟩;have B7:=ae (Below w6.heap.size w6 w7) ((ak.drew).trans b7);have hov:(aO Tk 1 ((Tk 1).set p 1) (2+l)).getD r 0=o:=by rw[aU _ _ _ _ (by omega),HE.out.2, ←HH.out.2.2.2.2.2.1]
 rw[hov];refine hK.out _ _ (X6.out.below B7.out X6.out.lt) (fun hH=>?_);clear hK K b7 hov;try simp only[Act.put,av,ay,az,aA,aB,aC]
 refine aG 5 rfl fun K hK=>?_;go_simp;refine hK.out _ _ (X6.out.below B7.out X6.out.lt) (fun hH=>?_);clear hK K;try simp only[Act.put,av,ay,az,aA,aB,aC]
 refine aV ?_;clear hH;have F7:=aa (F6.out.below B7.out);have P7:=aa (P6.out.trans (cR.cV b R2 _ B7.out));clear F6 P6 X6 B7 F5 P5;obtain⟨oN,Vk⟩:∃k:Nat,o=(k:Int):=⟨o.toNat,by omega⟩;have HON:=aa Vk;obtain⟨W,hWs⟩:∃W:List Int,W=(LL 1).set p 1:=⟨_,rfl⟩;have SD:=aa hWs;rw[HE.out.1, ←hWs] at F7;have NK:W.length=n:=by rw[hWs,length_set, ←HH.out.2.2.2.2.1]
 have hWr:∀z∈W,0≤z∧z<4294967296:=fun z hz=>by
  rw[hWs] at hz;rcases List.mem_or_eq_of_mem_set hz with hz|rfl
  ·exact HH.out.2.2.2.2.2.2 z hz
  ·omega
 have Xn:=aa hWr;have eW:(aO Tk 1 W) 1=W:=bY _ _ _;obtain⟨_,_,NF,hg,x1,hx⟩:=F7.out.nh (by rw[eW,NK];exact hn0);rw[eW,NK] at NF x1 hx;rw[HG.out.1] at NF;injection NF with q1 q2 q3;injection q1 with q1;injection q1 with q1 q4;subst q1;subst q3;have HX:=aa hx;clear hx hWs NK hWr eW q2 q4 hg;by_cases ho0:o=0
 ·have hob:(o !=0)=false:=by simp[ho0]
  go_wp2_with (go_at_call 152;fail);refine(qu (p:Int) n _ (by omega) (by omega)).mono ?_;rintro e w8 ⟨rfl,hw8⟩;rw[hw8];clear hw8 w8;have c9:=(F7.out.box.cell 9).trans F7.out.cur;have f9:=F7.out.box.frozen 9;obtain⟨f8,k8⟩:=F7.out.rH (dg n p);have F8:=aa f8;have P8:=aa (P7.out.trans k8);clear f8 k8;go_wp2;go_end0;refine⟨rfl,C5.setIfInBounds 9 (.int .i64 (dg n p)),R2,_,?_,by rw[←N5.out];exact Ti.out.trans P8.out⟩
  ·have:=F8.out;unfold lP;rw[show fO ((LL 1).set p 1) o=W by unfold fO;rw[if_pos ho0,SD.out], ←Vj.out];exact this
 ·have hob:(o !=0)=true:=by simpa using ho0
  obtain⟨xo,fo⟩:=HX.out oN (by omega);obtain⟨z,hz⟩:∃z,z=W.getD oN 0:=⟨_,rfl⟩;have hzr:0≤z∧z<4294967296:=by rw[hz];exact qy Xn.out oN
  rw[←hz] at xo;have HZ:=aa hz;have hbt:=Gs z hzr;clear hz;subst Vk;have Vl:oN<n:=by omega
  go_upto_region 7 with fail;obtain⟨f8,k8⟩:=F7.out.zg (p:=oN) HG.out.2 (even z);have F8:=aa f8;have P8:=aa (P7.out.trans k8);clear f8 k8 xo fo x1 hbt;generalize w7.setCell ⟨g,oN,none⟩ (.int .i64 (even z))=w8 at F8 P8⊢;have eW:(aO (aO Tk 1 W) 1 ((aO Tk 1 W) 1|>.set oN (even z))) 1=W.set oN (even z):=by rw[bY,bY]
  have NK:W.length=n:=by rw[SD.out,length_set, ←HH.out.2.2.2.2.1]
  obtain⟨_,_,NF,_,x1,_⟩:=F8.out.nh (by rw[eW,length_set,NK];exact hn0);rw[eW,length_set,NK] at NF x1;rw[HG.out.1] at NF;injection NF with q1 q2 q3;injection q1 with q1;injection q1 with q1 q4;subst q1;subst q3;clear q2 q4 eW NK;go_wp2_with (go_at_call 152;fail);refine(qu (p:Int) n _ (by omega) (by omega)).mono ?_;rintro e w9 ⟨rfl,eJ⟩;rw[eJ];clear eJ w9;have c9:=(F8.out.box.cell 9).trans F8.out.cur;have f9:=F8.out.box.frozen 9;obtain⟨f9',k9⟩:=F8.out.rH (dg n p);have F9:=aa f9';have P9:=aa (P8.out.trans k9);clear f9' k9;go_wp2;go_end0;refine⟨rfl,C5.setIfInBounds 9 (.int .i64 (dg n p)),R2,_,?_,by rw[←N5.out];exact Ti.out.trans P9.out⟩;have:=F9.out;rw[uE,bY] at this;unfold lP;rw[show fO ((LL 1).set p 1) (oN:Int)=W.set oN (even z) by unfold fO;rw[if_neg ho0, ←SD.out,Int.toNat_natCast,HZ.out], ←Vj.out];exact this
end
end Go.Proofs.YtpplnhkpcpieoaaGreatDoor
