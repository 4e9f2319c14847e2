/- What a flush in memory becomes by each change -/
import Derived.Test.YtlimollpocagiaaGreatDoorXa22
namespace Go.Proofs.YtlimollpocagiaaGreatDoor
open Go.Proofs.Tryz
open _root_.List (length_set)
set_option linter.all false
set_option maxRecDepth 100000
set_option maxHeartbeats 16000000
section
open Go.RowKit
def iY(b:Nat)(R:Nat→Value)(vo:Value)(k:Nat):Prop:=k=b∨(∃j,j<8∧(R j).ownBlock=some k)∨vo.ownBlock=some k
structure bQ(w w':World)(b:Nat)(R:Nat→Value)(vo:Value)(R':Nat→Value)(vo':Value):Prop where
 os:w'.os=w.os
 tape:w'.tape=w.tape
 output:w'.output=w.output
 size:w.heap.size≤w'.heap.size
 block:∀k,k<w.heap.size→¬iY b R vo k→w'.heap[k]?=w.heap[k]?
 own:∀k,iY b R' vo' k→iY b R vo k∨w.heap.size≤k
theorem bQ.bT{w w':World}(b:Nat)(R:Nat→Value)(vo:Value)(h:Below w.heap.size w w'):bQ w w' b R vo R vo:=⟨h.os,h.tape,h.output,h.size,fun k hk _=>h.block k hk,fun k hk=>.inl hk⟩
theorem bQ.trans{w w1 w2:World}{b:Nat}{R R1 R2:Nat→Value}{vo vo1 vo2:Value}(h:bQ w w1 b R vo R1 vo1)(h2:bQ w1 w2 b R1 vo1 R2 vo2):bQ w w2 b R vo R2 vo2:=
 ⟨h2.os.trans h.os,h2.tape.trans h.tape,h2.output.trans h.output,aN h.size h2.size,
  fun k hk hn=>(h2.block k (Nat.lt_of_lt_of_le hk h.size) (fun ho=>(h.own k ho).elim hn (fun h3=>by omega))).trans (h.block k hk hn),
  fun k hk=>(h2.own k hk).elim (h.own k) (fun h3=>.inr (aN h.size h3))⟩
theorem Fl.low{W:World}{base b:Nat}{C:Array Value}{R:Nat→Value}{LL:Nat→List Int}{vo:Value}{od:List (Nat×Nat)}{cu:Int}(h:Fl W base b C R LL vo od cu)(hb:base≤b){k:Nat}(hk:iY b R vo k):base≤k∧k<W.heap.size:=by
 rcases hk with rfl|⟨j,hj,e⟩|e
 ·exact⟨hb,h.box.lt⟩
 ·exact(h.row j hj).lt k e
 ·exact h.orow.lt k e
theorem bQ.below{w w':World}{base b:Nat}{C:Array Value}{R R':Nat→Value}{LL:Nat→List Int}{vo vo':Value}{od:List (Nat×Nat)}{cu:Int}(h:bQ w w' b R vo R' vo')(hf:Fl w base b C R LL vo od cu)(hb:base≤b)(hs:base≤w.heap.size):Below base w w':=
 ⟨h.os,h.tape,h.output,h.size,fun k hk=>h.block k (by omega) (fun ho=>by have:=(hf.low hb ho).1;omega)⟩
theorem dh{w w':World}{base n sz:Nat}{e:TypeId}{v:Value}{xs:List Value}(h:w.ownsRow base e sz v n xs)(hk:∀k,v.ownBlock=some k→w'.heap[k]?=w.heap[k]?):w'.ownsRow base e sz v n xs:=by
 refine⟨h.1,?_⟩;rcases h.2 with hn|⟨g,cap,cur,rfl,hg,hgg,rest⟩
 ·exact .inl hn
 ·exact .inr ⟨g,cap,cur,rfl,hg,by rw[hk g rfl];exact hgg,rest⟩
theorem eK{W:World}{base n b sz:Nat}{e t:TypeId}{v:Value}{xs:List Value}{C:Array Value}(h:W.ownsRow base e sz v n xs)(hb:af W b C t)(ht:t≠e):v.ownBlock≠some b:=fun hv=>by
 rcases h.2 with⟨rfl,_⟩|⟨g,cap,cur,rfl,_,hg,_⟩
 ·cases hv
 ·obtain rfl:g=b:=by simpa [Value.ownBlock] using hv
  have h2:W.heap[g]?=some (.cells C t (0,0)):=hb;rw[hg] at h2;injection h2 with h2;injection h2 with _ h2 _;exact ht h2.symm
theorem Fl.gO{W:World}{base b:Nat}{C:Array Value}{R:Nat→Value}{LL:Nat→List Int}{vo:Value}{od:List (Nat×Nat)}{cu:Int}(h:Fl W base b C R LL vo od cu)(j:Nat)(hj:j<8):(R j).ownBlock≠some b:=eK (h.row j hj) h.box (by decide)
theorem Fl.nW{W:World}{base b:Nat}{C:Array Value}{R:Nat→Value}{LL:Nat→List Int}{vo:Value}{od:List (Nat×Nat)}{cu:Int}(h:Fl W base b C R LL vo od cu):vo.ownBlock≠some b:=eK h.orow h.box (by decide)
theorem Fl.qG{W:World}{base b:Nat}{C:Array Value}{R:Nat→Value}{LL:Nat→List Int}{vo:Value}{od:List (Nat×Nat)}{cu:Int}(h:Fl W base b C R LL vo od cu)(j:Nat)(hj:j<8)(k:Nat):vo.ownBlock=some k→(R j).ownBlock≠some k:=fun e e'=>by
 rcases lH h.orow (h.row j hj) (by decide) with h1|h1
 ·rw[e] at h1;cases h1
 ·exact h1 (e.trans e'.symm)
theorem Bh{b k l:Nat}{R:Nat→Value}{vo sw:Value}(h:iY b (aT R l sw) vo k):iY b R vo k∨sw.ownBlock=some k:=by
 rcases h with h|⟨j,hj,e⟩|h
 ·exact .inl (.inl h)
 ·by_cases hl:j=l
  ·subst hl;rw[bG] at e;exact .inr e
  ·rw[aS _ _ _ _ hl] at e;exact .inl (.inr (.inl ⟨j,hj,e⟩))
 ·exact .inl (.inr (.inr h))
theorem fA{C:Array Value}{i j:Nat}{v:Value}(h:j≠i):(C.setIfInBounds i v)[j]?=C[j]?:=Array.getElem?_setIfInBounds_ne (by omega)
theorem Fl.Bi{w w':World}{base b l r:Nat}{C:Array Value}{R:Nat→Value}{LL:Nat→List Int}{vo sw:Value}{od:List (Nat×Nat)}{cu x:Int}(h:Fl w base b C R LL vo od cu)(hl:l<3)
 (h1:dF w' base b 5 (C.setIfInBounds (5+l) sw) 113 (aT (fun l=>R (5+l)) l sw) (aT (fun l=>LL (5+l)) l (cK (LL (5+l)) r x))) (h2:fW w w' b (R (5+l))) (h3:sw.ownBlock=(R (5+l)).ownBlock∨∃g,sw.ownBlock=some g∧w.heap.size≤g):
 Fl w' base b (C.setIfInBounds (5+l) sw) (aT R (5+l) sw) (aT LL (5+l) (cK (LL (5+l)) r x)) vo od cu∧bQ w w' b R vo (aT R (5+l) sw) vo:=by
 have hkeep:∀k,k<w.heap.size→k≠b→(R (5+l)).ownBlock≠some k→w'.heap[k]?=w.heap[k]?:=h2.block;refine⟨⟨h1.box,fun j hj=>?_,fun j hj=>?_,fun i j hi hj hne=>?_,?_,?_,?_⟩,⟨h2.os,h2.tape,h2.output,h2.size,fun k hk hn=>hkeep k hk (fun e=>hn (.inl e)) (fun e=>hn (.inr (.inl ⟨5+l,by omega,e⟩))),fun k hk=>?_⟩⟩
 ·by_cases e:j=5+l
  ·subst e;rw[bG];have:=h1.at_ l hl;rwa [bG] at this
  ·rw[aS _ _ _ _ e,fA e];exact h.at_ j hj
 ·by_cases e:j=5+l
  ·subst e;rw[bG,bG];have:=h1.row l hl;rwa [bG,bG] at this
  ·rw[aS _ _ _ _ e,aS _ _ _ _ e];exact dh (h.row j hj) (fun k hk=>hkeep k ((h.row j hj).lt k hk).2 (fun e'=>h.gO j hj (by rw[hk,e'])) (fun e'=>by
    rcases h.apart j (5+l) hj (by omega) e with h5|h5
    ·rw[hk] at h5;cases h5
    ·exact h5 (hk.trans e'.symm)))
 ·have key:∀j,j<8→j≠5+l→sw.ownBlock=none∨sw.ownBlock≠(R j).ownBlock:=fun j hj hj2=>by
   rcases h3 with h3|⟨g,h3,h4⟩
   ·rw[h3];exact h.apart (5+l) j (by omega) hj (fun e=>hj2 e.symm)
   ·right;rw[h3];intro e';have:=((h.row j hj).lt g e'.symm).2;omega
  by_cases e:i=5+l
  ·subst e;rw[bG,aS _ _ _ _ (fun e=>hne e.symm)];exact key j hj (fun e=>hne e.symm)
  ·by_cases e2:j=5+l
   ·subst e2;rw[bG,aS _ _ _ _ e];cases hR:(R i).ownBlock with
    |none=>exact .inl rfl
    |some k=>
     right;intro e';rcases key i hi e with h5|h5
     ·rw[←e'] at h5;cases h5
     ·exact h5 (e'.symm.trans hR.symm)
   ·rw[aS _ _ _ _ e,aS _ _ _ _ e2];exact h.apart i j hi hj hne
 ·rw[fA (by omega)];exact h.ord
 ·exact dh h.orow (fun k hk=>hkeep k (h.orow.lt k hk).2 (fun e'=>h.nW (by rw[hk,e'])) (fun e'=>h.qG (5+l) (by omega) k hk e'))
 ·rw[fA (by omega)];exact h.cur
 ·rcases Bh hk with h5|h5
  ·exact .inl h5
  ·rcases h3 with h3|⟨g,h3,h4⟩
   ·exact .inl (.inr (.inl ⟨5+l,by omega,h3.symm.trans h5⟩))
   ·rw[h3] at h5;injection h5 with h5;exact .inr (by omega)
theorem lI{w:World}{base:Nat}{e:TypeId}{size:Nat}{v:Value}{n:Nat}{xs:List Value}(h:w.ownsRow base e size v n xs){g:Nat}(hg:v.ownBlock=some g)(o:Nat)(u:Value):(w.setCell ⟨g,o,none⟩ u).ownsRow base e size v n (xs.set o u):=by
 rcases h.2 with⟨rfl,_⟩|⟨g',cap,cur,rfl,hb,hc,hn,hm,hs,ht⟩
 ·cases hg
 ·obtain rfl:g'=g:=by simpa [Value.ownBlock] using hg
  refine⟨by simpa using h.1,.inr ⟨g',cap,cur.setIfInBounds o u,rfl,hb,heap_setCell_same w g' o cur e u hc,hn,hm,by simpa using hs,?_⟩⟩;rw[Array.toList_setIfInBounds,List.take_set,ht]
theorem Fl.uY{w:World}{base b g p:Nat}{C:Array Value}{R:Nat→Value}{LL:Nat→List Int}{vo:Value}{od:List (Nat×Nat)}{cu:Int}(h:Fl w base b C R LL vo od cu)(hg:(R 1).ownBlock=some g)(x:Int):
 Fl (w.setCell ⟨g,p,none⟩ (.int .i64 x)) base b C R (aT LL 1 ((LL 1).set p x)) vo od cu∧bQ w (w.setCell ⟨g,p,none⟩ (.int .i64 x)) b R vo R vo:=by
 have hkeep:∀k,k≠g→(w.setCell ⟨g,p,none⟩ (.int .i64 x)).heap[k]?=w.heap[k]?:=fun k hk=>Below.heap_setCell w ⟨g,p,none⟩ _ k (fun e=>hk e);have hgb:g≠b:=fun e=>h.gO 1 (by omega) (by rw[hg,e]);refine⟨⟨h.box.other _ _ (fun e=>hgb e.symm),h.at_,fun j hj=>?_,h.apart,h.ord,dh h.orow (fun k hk=>hkeep k (fun e=>h.qG 1 (by omega) k hk (by rw[hg,e]))),h.cur⟩,⟨rfl,rfl,rfl,by simp,fun k hk hn=>hkeep k (fun e=>hn (.inr (.inl ⟨1,by omega,by rw[hg,e]⟩))),fun k hk=>.inl hk⟩⟩;by_cases e:j=1
 ·subst e;rw[bG,length_set,List.map_set];exact lI (h.row 1 hj) hg p _
 ·rw[aS _ _ _ _ e];exact dh (h.row j hj) (fun k hk=>hkeep k (fun e'=>by
   rcases h.apart j 1 hj (by omega) e with h5|h5
   ·rw[hk] at h5;cases h5
   ·exact h5 (by rw[hk,hg,e'])))
theorem Fl.nX{w:World}{base b:Nat}{C:Array Value}{R:Nat→Value}{LL:Nat→List Int}{vo:Value}{od:List (Nat×Nat)}{cu:Int}(h:Fl w base b C R LL vo od cu)(x:Int):
 Fl (w.setCell ⟨b,9,none⟩ (.int .i64 x)) base b (C.setIfInBounds 9 (.int .i64 x)) R LL vo od x∧bQ w (w.setCell ⟨b,9,none⟩ (.int .i64 x)) b R vo R vo:=by
 have hkeep:∀k,k≠b→(w.setCell ⟨b,9,none⟩ (.int .i64 x)).heap[k]?=w.heap[k]?:=fun k hk=>Below.heap_setCell w ⟨b,9,none⟩ _ k (fun e=>hk e);have hsz:9<C.size:=by
  rcases Nat.lt_or_ge 9 C.size with h1|h1
  ·exact h1
  ·have:=h.cur;rw[Array.getElem?_eq_none h1] at this;cases this
 refine⟨⟨h.box.set 9 _,fun j hj=>?_,fun j hj=>dh (h.row j hj) (fun k hk=>hkeep k (fun e=>h.gO j hj (by rw[hk,e]))),h.apart,?_,dh h.orow (fun k hk=>hkeep k (fun e=>h.nW (by rw[hk,e]))),?_⟩,⟨rfl,rfl,rfl,by simp,fun k hk hn=>hkeep k (fun e=>hn (.inl e)),fun k hk=>.inl hk⟩⟩
 ·rw[fA (by omega)];exact h.at_ j hj
 ·rw[fA (by omega)];exact h.ord
 ·rw[Array.getElem?_setIfInBounds_self_of_lt hsz]
theorem Fl.Bj{w w1:World}{base b l r:Nat}{C:Array Value}{R:Nat→Value}{LL:Nat→List Int}{vo v1:Value}{od:List (Nat×Nat)}{cu:Int}(h:Fl w base b C R LL vo od cu)
 (ho:w1.ownsRow base 123 2 v1 (od.length+1) (gZ od++[.int .i64 (l:Int),.int .i64 (r:Int)])) (hg:w.grownBy w1 vo.ownBlock) (hn:v1.ownBlock=vo.ownBlock∨∃g,v1.ownBlock=some g∧w.heap.size≤g):
 Fl (w1.setCell ⟨b,8,none⟩ v1) base b (C.setIfInBounds 8 v1) R LL v1 (od++[(l,r)]) cu∧bQ w (w1.setCell ⟨b,8,none⟩ v1) b R vo R v1:=by
 have hk1:∀k,k<w.heap.size→vo.ownBlock≠some k→w1.heap[k]?=w.heap[k]?:=fun k hk hne=>hg.block k hk (fun e=>hne e.symm);have hkeep:∀k,k<w.heap.size→k≠b→vo.ownBlock≠some k→(w1.setCell ⟨b,8,none⟩ v1).heap[k]?=w.heap[k]?:=fun k hk hkb hne=>(Below.heap_setCell w1 ⟨b,8,none⟩ _ k (fun e=>hkb e)).trans (hk1 k hk hne);have hsz:8<C.size:=by
  rcases Nat.lt_or_ge 8 C.size with h1|h1
  ·exact h1
  ·have:=h.ord;rw[Array.getElem?_eq_none h1] at this;cases this
 have hbox:af w1 b C 113:=(hk1 b h.box.lt h.nW).trans h.box;have hvb:v1.ownBlock≠some b:=eK ho hbox (by decide);refine⟨⟨hbox.set 8 _,fun j hj=>?_,fun j hj=>dh (h.row j hj) (fun k hk=>hkeep k ((h.row j hj).lt k hk).2 (fun e=>h.gO j hj (by rw[hk,e])) (fun e=>h.qG j hj k e hk)),h.apart,?_,?_,?_⟩,⟨hg.os,hg.tape,hg.output,by simp[hg.size],fun k hk hn=>hkeep k hk (fun e=>hn (.inl e)) (fun e=>hn (.inr (.inr e))),fun k hk=>?_⟩⟩
 ·rw[fA (by omega)];exact h.at_ j hj
 ·rw[Array.getElem?_setIfInBounds_self_of_lt hsz]
 ·rw[List.length_append,uW];exact dh ho (fun k hk=>Below.heap_setCell w1 ⟨b,8,none⟩ _ k (fun e=>hvb (by rw[hk,show k=b from e])))
 ·rw[fA (by omega)];exact h.cur
 ·rcases hk with hk|hk|hk
  ·exact .inl (.inl hk)
  ·exact .inl (.inr (.inl hk))
  ·rcases hn with hn|⟨g,hn,hgs⟩
   ·exact .inl (.inr (.inr (hn.symm.trans hk)))
   ·rw[hn] at hk;injection hk with hk;exact .inr (by omega)
theorem Bk(z:Int)(h:0≤z∧z<4294967296):bits .andNot .i64 z 1=even z:=by
 obtain⟨y,rfl⟩:∃y:Nat,z=(y:Int):=⟨z.toNat,by omega⟩;have:=yw y 0 (by omega) (by omega);rw[show((2^0:Nat):Int)=1 from rfl] at this;rw[this];unfold even eG eF;simp only[Nat.pow_zero,Nat.div_one,Nat.mul_one];have:=Nat.mod_lt y (show 0<2 by decide);have:=Nat.mod_le y 2;omega
def jC(LL:Nat→List Int)(l r p:Nat)(o:Int):Nat→List Int:=aT (aT LL (5+l) (cK (LL (5+l)) r (p:Int))) 1 (fe ((LL 1).set p 1) o)
theorem Fl.lt{W:World}{base b:Nat}{C:Array Value}{R:Nat→Value}{LL:Nat→List Int}{vo:Value}{od:List (Nat×Nat)}{cu:Int}(h:Fl W base b C R LL vo od cu){k:Nat}(hk:iY b R vo k):k<W.heap.size:=by
 rcases hk with rfl|⟨j,hj,e⟩|e
 ·exact h.box.lt
 ·exact((h.row j hj).lt k e).2
 ·exact(h.orow.lt k e).2
theorem Bl:(prog.info? 123).map (fun i=>(i.zero,i.size,i.bytes))=some (some (.agg #[.int .i64 0,.int .i64 0]),2,16):=by kernel_rfl
theorem Bm(w:World)(C:Array Value)(t:TypeId):∀j u,C.toList[j]?=some u→(w.alloc (.cells C t)).cell? (Addr.add ⟨w.heap.size,0,none⟩ j)=some u:=by
 intro j u h;rw[Addr.add_mid,Nat.zero_add,(af.new w C t).cell j];simpa using h
theorem qH{α:Type}(f:Nat→α)(i:Nat)(x y:α):aT (aT f i x) i y=aT f i y:=by
 funext k;unfold aT;split<;>rfl
theorem Fl.ku{W:World}{base b:Nat}{C:Array Value}{R:Nat→Value}{LL:Nat→List Int}{vo:Value}{od:List (Nat×Nat)}{cu:Int}(h:Fl W base b C R LL vo od cu)(hn:0<(LL 1).length):∃g c,R 1=.slice (some ⟨g,0,none⟩) (LL 1).length c∧(R 1).ownBlock=some g∧W.cell? ⟨b,1,none⟩=some (.slice (some ⟨g,0,none⟩) (LL 1).length c)∧∀k,k<(LL 1).length→W.cell? ⟨g,k,none⟩=some (.int .i64 ((LL 1).getD k 0))∧W.frozen? ⟨g,k,none⟩=false:=by
 have hr:=h.row 1 (by omega);obtain⟨a,c,e,e2,hrd⟩:=h.rd 1 (by omega);rcases hr.2 with⟨e0,h0⟩|⟨g,cap,cur,e0,hb,hg,h1,h2,h3,h4⟩
 ·omega
 ·rw[e0] at e;injection e with e5 e6 e7;subst e5;subst e7;refine⟨g,cap,e0,by rw[e0];rfl,(h.box.cell 1).trans e2,fun k hk=>⟨?_,?_⟩⟩
  ·have:=hr.cells (g:=g) (by rw[e0];rfl) k (.int .i64 ((LL 1).getD k 0)) (by simp[List.getD,hk]);rw[Addr.add_mid,Nat.zero_add] at this;exact this
  ·have hB:af W g cur 3:=hg;exact hB.frozen k
theorem Bo(base b l r p:Nat)(C:Array Value)(R:Nat→Value)(LL:Nat→List Int)(vo:Value)(od:List (Nat×Nat))(cu:Int)(w:World)(h:Fl w base b C R LL vo od cu)(hl:l<2)(hr:r≤700)(n:Nat)(hnn:n=(LL 1).length)(hp:2≤p∧p<n)(hn:n≤2048)(hL:(LL (5+l)).length≤100001)(hod:od.length≤1000)(hbs:base≤w.heap.size)(o:Int)(ho:o=(LL (2+l)).getD r 0)(ho2:0≤o∧o<n)(hwr:∀z∈LL 1,0≤z∧z<4294967296):
 Calls prog 100 #[.pointer (some ⟨b,0,none⟩),dD l r,.int .i64 (p:Int)] w fun e w'=>e=.returned (.tuple #[])∧∃C' R' vo',Fl w' base b C' R' (jC LL l r p o) vo' (od++[(l,r)]) (cf n p)∧bQ w w' b R vo R' vo':=by
 obtain⟨i0,hi0,hz0,hz1,hz2⟩:=info_parts Bl;obtain⟨W1,hW1⟩:∃W1,W1=w.alloc (.cells #[.int .i64 (l:Int),.int .i64 (r:Int)] 123):=⟨_,rfl⟩;have B1:=ae (Below w.heap.size w W1) (by rw[hW1];exact ak.alloc aj _);have K1:=ae (af W1 w.heap.size #[.int .i64 (l:Int),.int .i64 (r:Int)] 123) (by rw[hW1];exact af.new w _ _);have HW:=aa hW1;have HF:=aa (h.below B1.out);have HNo:=ae (¬iY b R vo w.heap.size) (fun ho=>by have:=h.lt ho;omega);have HP0:=aa (bQ.bT b R vo B1.out);have HH:=aa (ag hl (ag hr (ag hL (ag hod (ag hnn (ag ho hwr))))));have hbs1:base≤W1.heap.size:=aN hbs B1.out.size;have HBx:=ae (∀w' R' vo',bQ W1 w' b R vo R' vo'→af w' w.heap.size #[.int .i64 (l:Int),.int .i64 (r:Int)] 123) (fun w' R' vo' k=>(k.block _ K1.out.lt HNo.out).trans K1.out);clear hW1 h hl hr hL hod hnn ho hwr;go_enter func100,ntmps100;unfold dD;go_upto_region 1 with fail;rw[←HW.out];refine cr (fun w'=>af w' w.heap.size #[.int .i64 (l:Int),.int .i64 (r:Int)] 123) (show af W1.drew w.heap.size #[.int .i64 (l:Int),.int .i64 (r:Int)] 123 from K1.out) fun hH=>?_;refine ah 0 (.pointer (some ⟨b,0,none⟩)) rfl hH ?_;refine ah 1 (.pointer (some ⟨b,0,none⟩)) rfl hH ?_;refine ah 2 (.pointer (some ⟨b,5,none⟩)) rfl hH ?_;refine ah 3 (.agg #[.int .i64 (l:Int),.int .i64 (r:Int)]) rfl hH ?_ (yieldsIf_load_mid (by rfl) 123 _ rfl w.heap.size 0 rfl [.int .i64 (l:Int),.int .i64 (r:Int)] _ (fun w' h=>iF h) underlying123 rfl ey);refine ah 4 (.int .i64 (p:Int)) rfl hH ?_;refine aG 5 rfl fun K hK=>?_;go_simp;refine(uM b 5 l r C 113 _ _ (p:Int) base W1.drew (HF.out.iM.below ak.drew) (by have:=HH.out.1;omega) (by have:=HH.out.2.1;omega) HH.out.2.2.1 (by decide) hbs1).mono ?_;rintro e w2 ⟨rfl,sw,h1,h2,h3⟩;obtain⟨f2,k2⟩:=Fl.Bi HF.out (by have:=HH.out.1;omega) h1 ⟨h2.os,h2.tape,h2.output,h2.size,h2.block⟩ h3;have F2:=aa f2;have P2:=aa k2;refine hK.out _ _ (HBx.out _ _ _ P2.out) (fun hH=>?_);clear hK K h1 h2 h3 f2 k2;try simp only[Act.put,aq,au,av,ay,az,aA]
 refine bz ?_;clear hH;have X2:=aa (HBx.out _ _ _ P2.out);generalize aT R (5+l) sw=R2 at F2 P2;generalize C.setIfInBounds (5+l) sw=C2 at F2;obtain⟨oa,oc,hoa⟩:=dM F2.out.orow;subst hoa;obtain⟨no,hno⟩:∃no,no=od.length:=⟨_,rfl⟩;have hno2:no≤1000:=by rw[hno];exact HH.out.2.2.2.1
 have HNO:=aa hno;rw[←hno] at F2 P2 HNo HP0 HBx;clear hno;have HC8:=ae (∀w',af w' b C2 113→w'.cell? ⟨b,8,none⟩=some (.slice oa no oc)) (fun w' hw=>(hw.cell 8).trans F2.out.ord);have hs2:base≤w2.heap.size:=aN hbs1 P2.out.size;clear sw;go_upto_region 2 with fail;refine wp_region_noPanic ?_;refine lu (fun w'=>af w' w.heap.size #[.int .i64 (l:Int),.int .i64 (r:Int)] 123∧af w' b C2 113) 8 (by kernel_rfl) ?_;have hH:(fun w'=>af w' w.heap.size #[.int .i64 (l:Int),.int .i64 (r:Int)] 123∧af w' b C2 113) w2.drew:=⟨X2.out,F2.out.box⟩;refine cD 0 (.pointer (some ⟨b,0,none⟩)) rfl hH ?_;refine cD 1 (.pointer (some ⟨b,0,none⟩)) rfl hH ?_;refine cD 2 (.pointer (some ⟨b,0,none⟩)) rfl hH ?_;refine cD 3 (.pointer (some ⟨b,8,none⟩)) rfl hH ?_;refine cD 4 (.slice oa no oc) rfl hH ?_ (aH fun w' hw'=>by have hc:=HC8.out w' hw'.2;clear hw';go_simp);refine cD 5 (.agg #[.int .i64 (l:Int),.int .i64 (r:Int)]) rfl hH ?_ (yieldsIf_load_mid (by rfl) 123 _ rfl w.heap.size 0 rfl [.int .i64 (l:Int),.int .i64 (r:Int)] _ (fun w' h=>iF h.1) underlying123 rfl ey);refine ez (i:=6) (by kernel_rfl) rfl (fun K hK=>?_);obtain⟨w3,hw3⟩:∃w3,w3=(w2.alloc (.cells #[.int .i64 (l:Int),.int .i64 (r:Int)] 123)).drew:=⟨_,rfl⟩;have B3:=ae (Below w2.heap.size w2 w3) (by rw[hw3];exact(ak.alloc aj _).drew);have F3:=aa (F2.out.below B3.out);have C3:=ae (∀j u,(#[.int .i64 (l:Int),.int .i64 (r:Int)]:Array Value).toList[j]?=some u→w3.cell? (Addr.add ⟨w2.heap.size,0,none⟩ j)=some u) (by rw[hw3];exact Bm w2 #[.int .i64 (l:Int),.int .i64 (r:Int)] 123);have S3:=ae (af w3 w.heap.size #[.int .i64 (l:Int),.int .i64 (r:Int)] 123∧af w3 b C2 113) (ag (X2.out.below B3.out X2.out.lt) F3.out.box);have HW3:=aa hw3;clear hw3 hH;go_simp;rw[←HW3.out];refine hK.out _ _ (fun _ _=>S3.out) ?_;clear hK K;try simp only[Act.put,aq,au,av,ay,az,aA]
 refine ez (i:=7) (by kernel_rfl) rfl (fun K hK=>?_);rw[if_pos (by rfl)];refine iA (.tmp 17) (.tmp 19) 111 rfl base 123 i0 (.agg #[.int .i64 0,.int .i64 0]) 2 16 underlying111 hi0 hz0 hz1 hz2 rfl (by decide) (.slice oa no oc) no (gZ od) rfl (by have:=F3.out.orow;rw[←HNO.out] at this;exact this) ⟨w2.heap.size,0,none⟩ 1 1 [.int .i64 (l:Int),.int .i64 (r:Int)] rfl rfl C3.out (by intro y hy;simp at hy;rcases hy with rfl|rfl<;>rfl) (by unfold maxLen;omega) (by omega) (by have:=B3.out.size;omega) ?_;intro v4 w4 o4 g4 n4;obtain⟨va,vc,hva⟩:=dM o4;subst hva;obtain⟨f5,k5⟩:=Fl.Bj (l:=l) (r:=r) F3.out (by rw[←HNO.out];exact o4) g4 (n4.imp id (fun e=>⟨_,e,aj⟩));have F5:=aa f5;have P5:=aa (P2.out.trans ((bQ.bT b R2 _ B3.out).trans k5));have k4:af w4 b C2 113:=(g4.block _ F3.out.box.lt (fun e=>F3.out.nW e.symm)).trans F3.out.box;have X4:af w4 w.heap.size #[.int .i64 (l:Int),.int .i64 (r:Int)] 123:=(g4.block _ (Nat.lt_of_lt_of_le X2.out.lt B3.out.size) (fun e=>by
  rcases P2.out.own w.heap.size (.inr (.inr e.symm)) with h5|h5
  ·exact HNo.out h5
  ·have:=K1.out.lt;omega)).trans S3.out.1
 have c8:=(k4.cell 8).trans F3.out.ord;have f8:=k4.frozen 8;refine hK.out _ _ (fun _ _=>⟨X4,k4⟩) ?_;clear hK K f5 k5 o4 g4 n4 X4 k4;try simp only[Act.put,aq,au,av,ay,az,aA]
 refine ez (i:=8) (by kernel_rfl) rfl (fun K hK=>?_);go_simp;refine hK.out _ _ (fun h=>absurd rfl h) ?_;clear hK K;try simp only[Act.put,aq,au,av,ay,az,aA]
 refine ez (i:=9) (by kernel_rfl) rfl (fun K hK=>?_);go_simp;refine hK.out _ _ (fun _ h=>Bool.noConfusion (show true=false from h)) ?_;clear hK K;try simp only[Act.put,aq,au,av,ay,az,aA]
 refine ez (i:=10) (by kernel_rfl) rfl (fun K hK=>?_);go_simp;refine hK.out _ _ (fun _ h=>Bool.noConfusion (show true=false from h)) ?_;clear hK K c8 f8;try simp only[Act.put,aq,au,av,ay,az,aA]
 refine kg (by kernel_rfl) (NoPanic.normal ?_) _;generalize w4.setCell ⟨b,8,none⟩ (.slice va (no+1) vc)=w5 at F5 P5⊢;generalize C2.setIfInBounds 8 (.slice va (no+1) vc)=C5 at F5;clear F2 P2 X2 F3 C3 S3 HW3 B3 HC8 HF hs2;have e1:(aT LL (5+l) (cK (LL (5+l)) r (p:Int))) 1=LL 1:=aS _ _ _ _ (by omega);have e2:(aT LL (5+l) (cK (LL (5+l)) r (p:Int))) (2+l)=LL (2+l):=aS _ _ _ _ (by have:=HH.out.1;omega);have HE:=aa (ag e1 e2);obtain⟨LL5,hLL5⟩:∃LL5,LL5=aT LL (5+l) (cK (LL (5+l)) r (p:Int)):=⟨_,rfl⟩;have HLL5:=aa hLL5;rw[←hLL5] at F5 HE;clear e1 e2 hLL5;have hn0:0<n:=by omega
 obtain⟨g,gc,hR1,hg,x1,hx⟩:=F5.out.ku (by rw[HE.out.1, ←HH.out.2.2.2.2.1];exact hn0);rw[HE.out.1, ←HH.out.2.2.2.2.1] at hR1 x1 hx;obtain⟨xp,fp⟩:=hx p hp.2;have HG:=aa (ag hR1 hg);clear hR1 hg hx;go_upto_region 4 with fail;obtain⟨f6,k6⟩:=F5.out.uY (p:=p) HG.out.2 1;have F6:=aa f6;have P6:=aa (P5.out.trans k6);clear f6 k6 x1 xp fp;generalize w5.setCell ⟨g,p,none⟩ (.int .i64 1)=w6 at F6 P6⊢;have X6:=aa (HBx.out _ _ _ P6.out);refine cr (fun w'=>af w' w.heap.size #[.int .i64 (l:Int),.int .i64 (r:Int)] 123) (show af w6.drew w.heap.size #[.int .i64 (l:Int),.int .i64 (r:Int)] 123 from X6.out) fun hH=>?_;refine ah 0 (.pointer (some ⟨b,0,none⟩)) rfl hH ?_;refine ah 1 (.pointer (some ⟨b,0,none⟩)) rfl hH ?_;refine ah 2 (.pointer (some ⟨b,2,none⟩)) rfl hH ?_;refine ah 3 (.agg #[.int .i64 (l:Int),.int .i64 (r:Int)]) rfl hH ?_ (yieldsIf_load_mid (by rfl) 123 _ rfl w.heap.size 0 rfl [.int .i64 (l:Int),.int .i64 (r:Int)] _ (fun w' h=>iF h) underlying123 rfl ey);refine aG 4 rfl fun K hK=>?_;go_simp;refine(jz b 2 l r C5 113 _ _ base _ (F6.out.old.below ak.drew) (by have:=HH.out.1;omega) (by have:=HH.out.2.1;omega)).mono ?_;rintro e w7 ⟨rfl,b7⟩;have B7:=ae (Below w6.heap.size w6 w7) ((ak.drew).trans b7);have hov:(aT LL5 1 ((LL5 1).set p 1) (2+l)).getD r 0=o:=by rw[aS _ _ _ _ (by omega),HE.out.2, ←HH.out.2.2.2.2.2.1]
 rw[hov];refine hK.out _ _ (X6.out.below B7.out X6.out.lt) (fun hH=>?_);clear hK K b7 hov;try simp only[Act.put,aq,au,av,ay,az,aA]
 refine aG 5 rfl fun K hK=>?_;go_simp;refine hK.out _ _ (X6.out.below B7.out X6.out.lt) (fun hH=>?_);clear hK K;try simp only[Act.put,aq,au,av,ay,az,aA]
 refine bz ?_;clear hH;have F7:=aa (F6.out.below B7.out);have P7:=aa (P6.out.trans (bQ.bT b R2 _ B7.out));clear F6 P6 X6 B7 F5 P5;obtain⟨oN,hoN⟩:∃k:Nat,o=(k:Int):=⟨o.toNat,by omega⟩;have HON:=aa hoN;obtain⟨W,hWs⟩:∃W:List Int,W=(LL 1).set p 1:=⟨_,rfl⟩;have HWs:=aa hWs;rw[HE.out.1, ←hWs] at F7;have hWl:W.length=n:=by rw[hWs,length_set, ←HH.out.2.2.2.2.1]
 have hWr:∀z∈W,0≤z∧z<4294967296:=fun z hz=>by
  rw[hWs] at hz;rcases List.mem_or_eq_of_mem_set hz with hz|rfl
  ·exact HH.out.2.2.2.2.2.2 z hz
  ·omega
 have HWr:=aa hWr;have eW:(aT LL5 1 W) 1=W:=bG _ _ _;obtain⟨_,_,hR1,hg,x1,hx⟩:=F7.out.ku (by rw[eW,hWl];exact hn0);rw[eW,hWl] at hR1 x1 hx;rw[HG.out.1] at hR1;injection hR1 with q1 q2 q3;injection q1 with q1;injection q1 with q1 q4;subst q1;subst q3;have HX:=aa hx;clear hx hWs hWl hWr eW q2 q4 hg;by_cases ho0:o=0
 ·have hob:(o !=0)=false:=by simp[ho0]
  go_wp2_with (go_at_call 116;fail);refine(mX (p:Int) n _ (by omega) (by omega)).mono ?_;rintro e w8 ⟨rfl,hw8⟩;rw[hw8];clear hw8 w8;have c9:=(F7.out.box.cell 9).trans F7.out.cur;have f9:=F7.out.box.frozen 9;obtain⟨f8,k8⟩:=F7.out.nX (cf n p);have F8:=aa f8;have P8:=aa (P7.out.trans k8);clear f8 k8;go_wp2;go_end0;refine⟨rfl,C5.setIfInBounds 9 (.int .i64 (cf n p)),R2,_,?_,by rw[←HNO.out];exact HP0.out.trans P8.out⟩
  ·have:=F8.out;unfold jC;rw[show fe ((LL 1).set p 1) o=W by unfold fe;rw[if_pos ho0,HWs.out], ←HLL5.out];exact this
 ·have hob:(o !=0)=true:=by simpa using ho0
  obtain⟨xo,fo⟩:=HX.out oN (by omega);obtain⟨z,hz⟩:∃z,z=W.getD oN 0:=⟨_,rfl⟩;have hzr:0≤z∧z<4294967296:=by rw[hz];exact iL HWr.out oN
  rw[←hz] at xo;have HZ:=aa hz;have hbt:=Bk z hzr;clear hz;subst hoN;have hoN2:oN<n:=by omega
  go_upto_region 7 with fail;obtain⟨f8,k8⟩:=F7.out.uY (p:=oN) HG.out.2 (even z);have F8:=aa f8;have P8:=aa (P7.out.trans k8);clear f8 k8 xo fo x1 hbt;generalize w7.setCell ⟨g,oN,none⟩ (.int .i64 (even z))=w8 at F8 P8⊢;have eW:(aT (aT LL5 1 W) 1 ((aT LL5 1 W) 1|>.set oN (even z))) 1=W.set oN (even z):=by rw[bG,bG]
  have hWl:W.length=n:=by rw[HWs.out,length_set, ←HH.out.2.2.2.2.1]
  obtain⟨_,_,hR1,_,x1,_⟩:=F8.out.ku (by rw[eW,length_set,hWl];exact hn0);rw[eW,length_set,hWl] at hR1 x1;rw[HG.out.1] at hR1;injection hR1 with q1 q2 q3;injection q1 with q1;injection q1 with q1 q4;subst q1;subst q3;clear q2 q4 eW hWl;go_wp2_with (go_at_call 116;fail);refine(mX (p:Int) n _ (by omega) (by omega)).mono ?_;rintro e w9 ⟨rfl,hw9⟩;rw[hw9];clear hw9 w9;have c9:=(F8.out.box.cell 9).trans F8.out.cur;have f9:=F8.out.box.frozen 9;obtain⟨f9',k9⟩:=F8.out.nX (cf n p);have F9:=aa f9';have P9:=aa (P8.out.trans k9);clear f9' k9;go_wp2;go_end0;refine⟨rfl,C5.setIfInBounds 9 (.int .i64 (cf n p)),R2,_,?_,by rw[←HNO.out];exact HP0.out.trans P9.out⟩;have:=F9.out;rw[qH,bG] at this;unfold jC;rw[show fe ((LL 1).set p 1) (oN:Int)=W.set oN (even z) by unfold fe;rw[if_neg ho0, ←HWs.out,Int.toNat_natCast,HZ.out], ←HLL5.out];exact this
end
end Go.Proofs.YtlimollpocagiaaGreatDoor
