/- The model takes a tree apart: l03Apart. -/
import Derived.Test.YtlimollpocagiaaGreatDoorXa14
import Derived.Deep.CutRange
import Derived.Maps.AppendAt
namespace Go.Proofs.YtlimollpocagiaaGreatDoor
open Go.Proofs.Tryz
open _root_.List (getD getElem?_append range map_append)
open World (setRow drew ownsRow_nil)
set_option linter.all false
set_option maxRecDepth 100000
set_option maxHeartbeats 16000000
section
open Go.RowKit
theorem fI:(prog.info? 73).map (·.size)=some 8:=by kernel_rfl
abbrev cH(dv:Value)(S X:Int)(iv ov sv wv:Value)(ok:Bool):Array Value:=#[dv,.int .i64 S,.int .i64 X,iv,ov,sv,wv,.bool ok]
abbrev aF:Value:=.slice none 0 0
theorem iW{W:World}{base n b:Nat}{e t:TypeId}{v:Value}{xs:List Value}{C:Array Value}(h:W.ownsRow base e 1 v n xs)(hb:af W b C t)(ht:t≠e):v.ownBlock≠some b:=fun hv=>by
 rcases h.2 with⟨rfl,_⟩|⟨g,cap,cur,rfl,_,hg,_⟩
 ·simp[Value.ownBlock] at hv
 ·simp[Value.ownBlock] at hv;subst hv;rw[hb] at hg;cases hg
  exact ht rfl
theorem jT{W W':World}{base n b:Nat}{e t:TypeId}{v:Value}{xs:List Value}{C:Array Value}(h:W.ownsRow base e 1 v n xs)(hb:af W b C t)(ht:t≠e)(hg:W.grownBy W' v.ownBlock):af W' b C t:=
 (hg.block b hb.lt (fun e'=>iW h hb ht e'.symm)).trans hb
theorem bK{w:World}{base:Nat}{e:TypeId}{v:Value}{n:Nat}{xs:List Value}(h:w.ownsRow base e 1 v n xs):∃a cap,v=.slice a n cap:=by
 rcases h.2 with⟨rfl,rfl⟩|⟨g,cap,_,rfl,_⟩
 ·exact⟨_,_,rfl⟩
 ·exact⟨_,_,rfl⟩
theorem jo{k:IntKind}{w:World}{base:Nat}{e:TypeId}{v:Value}{n:Nat}{zs:List Int}(h:w.ownsRow base e 1 v n (zs.map (Value.int k)))(hn:0<n):∃g cap,v=.slice (some ⟨g,0,none⟩) n cap∧n≤cap∧∀i,i<n→w.cell? ⟨g,i,none⟩=some (.int k (zs.getD i 0)):=by
 have hl:zs.length=n:=by have:=h.1;simpa using this
 rcases h.2 with⟨_,h0⟩|⟨g,cap,cur,rfl,_,hg,hc,_,hcs,ht⟩
 ·omega
 ·refine⟨g,cap,rfl,hc,fun i hi=>?_⟩;have hx:w.cell? ⟨g,i,none⟩=cur[i]?:=cell_of_row w g i cur e (0,0) hg;rw[hx];have h2:cur.toList[i]?=(zs.map (Value.int k))[i]?:=by
   rw[←ht,List.getElem?_take,if_pos (by omega)]
  rw[Array.getElem?_toList] at h2;rw[h2,List.getElem?_map,List.getElem?_eq_getElem (by omega)];simp[getD,show i<zs.length by omega]
def As(n:Nat)(L:List Int)(k:Nat):Prop:=∀j,j<k→be n (L.getD j 0)=true
theorem nK{ds:List Int}{p q:Int}{i:Nat}(hd:ds.length=12)(hi:i<12):(ds++[p,q]).getD i 0=ds.getD i 0:=by
 simp[getD,getElem?_append,hd,hi]
theorem nL{ds:List Int}{p q:Int}(hd:ds.length=12):(ds++[p,q]).getD 12 0=p:=by
 simp[getD,getElem?_append,hd]
theorem nM{ds:List Int}{p q:Int}(hd:ds.length=12):(ds++[p,q]).getD 13 0=q:=by
 simp[getD,getElem?_append,hd]
theorem Au{cnt n:Nat}{Wd:Int→Nat→Int}{ds:List Int}{p q:Int}(hd:ds.length=12)(h:fM cnt n Wd (fun i=>ds.getD i 0) p q)(k:Nat)(hk:k<14):be n ((ds++[p,q]).getD k 0)=true:=by
 by_cases h1:k<12
 ·rw[nK hd h1];exact h.1 k h1
 ·by_cases h2:k=12
  ·subst h2;rw[nL hd];exact h.2.1
  ·have h3:k=13:=(by omega);subst h3;rw[nM hd];exact h.2.2.1
def ur(w:World)(cnt n:Nat)(Wd:Int→Nat→Int)(D:Nat→Int)(S X:Int)(e:Ending)(w':World):Prop:=
 (fM cnt n Wd D S X∧∃dv iv ov sv wv,e=.returned (.agg (cH dv S X iv ov sv wv true))∧(cH dv S X iv ov sv wv true).all (·.oneCell')=true∧w'.ownsRow w.heap.size 3 1 dv cnt (((range cnt).map (bC Wd D S X)).map (Value.int .i64))∧w'.ownsRow w.heap.size 3 1 sv (eI cnt) (((range (eI cnt)).map (aQ Wd X)).map (Value.int .i64))∧(sv.ownBlock≠dv.ownBlock∨sv.ownBlock=none))∨
 (¬fM cnt n Wd D S X∧e=.returned (.agg (cH aF 0 0 aF aF aF aF false)))
structure gm(w:World)(tb:Nat)(R T:Array Value)(W:World):Prop where
 root:af W w.heap.size R 28
 res:af W (w.heap.size+1) (cH aF 0 0 aF aF aF aF false) 73
 tree:af W tb T 73
 old:Below w.heap.size w W
 tb2:w.heap.size+2≤tb
theorem gm.below{w:World}{tb:Nat}{R T:Array Value}{W W':World}(h:gm w tb R T W)(hb:Below W.heap.size W W'):gm w tb R T W':=
 ⟨h.root.below hb h.root.lt,h.res.below hb h.res.lt,h.tree.below hb h.tree.lt,h.old.trans (hb.mono h.old.size),h.tb2⟩
theorem gm.set{w:World}{tb:Nat}{R T:Array Value}{W:World}(h:gm w tb R T W)(k:Nat)(v:Value):gm w tb R (T.setIfInBounds k v) (W.setCell ⟨tb,k,none⟩ v):=
 ⟨h.root.other _ _ (by have:=h.tb2;show w.heap.size≠tb;omega),h.res.other _ _ (by have:=h.tb2;show w.heap.size+1≠tb;omega),h.tree.set k v,h.old.setCell (p:=⟨tb,k,none⟩) (by have:=h.tb2;show w.heap.size≤tb;omega) _,h.tb2⟩
theorem gm.own{w:World}{tb:Nat}{R T:Array Value}{W W':World}{n:Nat}{e:TypeId}{v:Value}{xs:List Value}(h:gm w tb R T W)(ho:W.ownsRow w.heap.size e 1 v n xs)(h1:28≠e)(h2:73≠e)(hg:W.grownBy W' v.ownBlock):gm w tb R T W':=
 ⟨jT ho h.root h1 hg,jT ho h.res h2 hg,jT ho h.tree h2 hg,h.old.grown hg h.old.size (fun k e=>(ho.lt k e).1),h.tb2⟩
structure fm(w:World)(tb:Nat)(R:Array Value)(Wd:Int→Nat→Int)(p q:Int)(iv ov sv wv:Value)(vs:List Value)(k m:Nat)(W:World):Prop where
 b:gm w tb R (cH aF p q iv ov sv wv true) W
 inn:W.ownsRow w.heap.size 3 1 iv 128 (((range 128).map (aQ Wd p)).map (Value.int .i64))
 out:W.ownsRow w.heap.size 3 1 ov 128 (((range 128).map (aQ Wd q)).map (Value.int .i64))
 sec:W.ownsRow w.heap.size 3 1 sv k (((range k).map (aQ Wd q)).map (Value.int .i64))
 wrd:W.ownsRow w.heap.size 29 1 wv m vs
 each:∀j,j<m→∃v,vs[j]?=some v∧W.ownsRow w.heap.size 3 1 v 128 (((range 128).map (aQ Wd (aQ Wd q j))).map (Value.int .i64))∧v.ownBlock≠sv.ownBlock
 a1:iv.ownBlock≠sv.ownBlock
 a2:ov.ownBlock≠sv.ownBlock
theorem aY{w w':World}{base n:Nat}{e:TypeId}{v:Value}{xs:List Value}(h:w.ownsRow base e 1 v n xs)(hb:Below w.heap.size w w'):w'.ownsRow base e 1 v n xs:=
 h.kept (row:=none) ⟨hb.os,hb.tape,hb.output,hb.size,fun k hk _=>hb.block k hk⟩ (by cases v.ownBlock with|none=>exact .inl rfl|some k=>exact .inr (fun h=>by cases h))
theorem dL{w:World}{base n b k:Nat}{e t:TypeId}{v u:Value}{xs:List Value}{C:Array Value}(h:w.ownsRow base e 1 v n xs)(hb:af w b C t)(ht:t≠e):(w.setCell ⟨b,k,none⟩ u).ownsRow base e 1 v n xs:=
 h.kept (row:=some b) ⟨rfl,rfl,rfl,by simp,fun j hj hne=>Below.heap_setCell w ⟨b,k,none⟩ u j (fun e=>hne (by rw[e]))⟩ (.inr (iW h hb ht))
theorem fm.below{w:World}{tb:Nat}{R:Array Value}{Wd:Int→Nat→Int}{p q:Int}{iv ov sv wv:Value}{vs:List Value}{k m:Nat}{W W':World}(h:fm w tb R Wd p q iv ov sv wv vs k m W)(hb:Below W.heap.size W W'):fm w tb R Wd p q iv ov sv wv vs k m W':=
 ⟨h.b.below hb,aY h.inn hb,aY h.out hb,aY h.sec hb,aY h.wrd hb,fun j hj=>by obtain⟨v,h1,h2,h3⟩:=h.each j hj;exact⟨v,h1,aY h2 hb,h3⟩,h.a1,h.a2⟩
theorem ko{w:World}{base n:Nat}{e:TypeId}{v:Value}{xs:List Value}(h:w.ownsRow base e 1 v n xs)(hn:0<n):∃g,v.ownBlock=some g∧base≤g∧g<w.heap.size:=by
 rcases h.2 with⟨_,h0⟩|⟨g,cap,cur,rfl,hb,hg,_⟩
 ·omega
 ·exact⟨g,rfl,(h.lt g rfl).1,(h.lt g rfl).2⟩
theorem fm.nN{w:World}{tb:Nat}{R:Array Value}{Wd:Int→Nat→Int}{p q:Int}{iv ov sv wv:Value}{vs:List Value}{k:Nat}{W W':World}{v':Value}(h:fm w tb R Wd p q iv ov sv wv vs k k W)(ho:W'.ownsRow w.heap.size 3 1 v' (k+1) (((range k).map (aQ Wd q)).map (Value.int .i64)++[.int .i64 (aQ Wd q k)]))(hg:W.grownBy W' sv.ownBlock)(ha:v'.ownBlock=sv.ownBlock∨v'.ownBlock=some W.heap.size):
 fm w tb R Wd p q iv ov v' wv vs (k+1) k (W'.setCell ⟨tb,5,none⟩ v'):=by
 have hB:gm w tb R (cH aF p q iv ov sv wv true) W':=h.b.own h.sec (by decide) (by decide) hg;have keep:∀{u:Value} {L:List Value} {n:Nat} {e:TypeId},W.ownsRow w.heap.size e 1 u n L→u.ownBlock≠sv.ownBlock∨u.ownBlock=none→W'.ownsRow w.heap.size e 1 u n L:=fun hu hne=>hu.kept hg (hne.elim .inr .inl);have apart:∀{u:Value} {L:List Value} {n:Nat} {e:TypeId},W.ownsRow w.heap.size e 1 u n L→0<n→u.ownBlock≠sv.ownBlock→u.ownBlock≠v'.ownBlock:=fun hu hn hne=>by
  obtain⟨g,e1,_,e2⟩:=ko hu hn;rcases ha with e3|e3
  ·rw[e3];exact hne
  ·rw[e3,e1];intro e;injection e with e;omega
 have hw2:wv.ownBlock≠sv.ownBlock∨wv.ownBlock=none:=by
  cases hv:wv.ownBlock with
  |none=>exact .inr rfl
  |some g=>
   refine .inl fun e=>?_;rcases h.wrd.2 with⟨rfl,_⟩|⟨g1,cap,cur,rfl,_,hg1,_⟩
   ·simp[Value.ownBlock] at hv
   ·simp[Value.ownBlock] at hv;subst hv;exact iW h.sec (show af W g1 cur 29 from hg1) (by decide) e.symm
 refine⟨hB.set 5 v',dL (keep h.inn (.inl h.a1)) hB.tree (by decide),dL (keep h.out (.inl h.a2)) hB.tree (by decide),dL (by rw[List.range_succ,map_append,map_append];exact ho) hB.tree (by decide),dL (keep h.wrd hw2) hB.tree (by decide),fun j hj=>?_,apart h.inn (by omega) h.a1,apart h.out (by omega) h.a2⟩;obtain⟨v,h1,h2,h3⟩:=h.each j hj;exact⟨v,h1,dL (keep h2 (.inl h3)) hB.tree (by decide),apart h2 (by omega) h3⟩
theorem fm.mF{w:World}{tb:Nat}{R:Array Value}{Wd:Int→Nat→Int}{p q:Int}{iv ov sv wv:Value}{vs:List Value}{k:Nat}{W W':World}{u v':Value}(h:fm w tb R Wd p q iv ov sv wv vs (k+1) k W)(hu:W.ownsRow w.heap.size 3 1 u 128 (((range 128).map (aQ Wd (aQ Wd q k))).map (Value.int .i64)))(hus:u.ownBlock≠sv.ownBlock)(ho:W'.ownsRow w.heap.size 29 1 v' (k+1) (vs++[u]))(hg:W.grownBy W' wv.ownBlock):
 fm w tb R Wd p q iv ov sv v' (vs++[u]) (k+1) (k+1) (W'.setCell ⟨tb,6,none⟩ v'):=by
 have hB:gm w tb R (cH aF p q iv ov sv wv true) W':=h.b.own h.wrd (by decide) (by decide) hg;have keep:∀{u:Value} {L:List Value} {n:Nat},W.ownsRow w.heap.size 3 1 u n L→W'.ownsRow w.heap.size 3 1 u n L:=fun {u L n} hu=>by
  refine hu.kept hg ?_;cases hv:u.ownBlock with
  |none=>exact .inl rfl
  |some g=>
   refine .inr fun e=>?_;rcases hu.2 with⟨rfl,_⟩|⟨g1,cap,cur,rfl,_,hg1,_⟩
   ·simp[Value.ownBlock] at hv
   ·simp[Value.ownBlock] at hv;subst hv;exact iW h.wrd (show af W g1 cur 3 from hg1) (by decide) e.symm
 have hl:vs.length=k:=by have:=h.wrd.1;simpa using this
 refine⟨hB.set 6 v',dL (keep h.inn) hB.tree (by decide),dL (keep h.out) hB.tree (by decide),dL (keep h.sec) hB.tree (by decide),dL ho hB.tree (by decide),fun j hj=>?_,h.a1,h.a2⟩;by_cases hjk:j<k
 ·obtain⟨v,h1,h2,h3⟩:=h.each j hjk;exact⟨v,by rw[List.getElem?_append_left (by omega)];exact h1,dL (keep h2) hB.tree (by decide),h3⟩
 ·have hj2:j=k:=by omega
  subst hj2;exact⟨u,by rw[List.getElem?_append_right (by omega),hl];simp,dL (keep hu) hB.tree (by decide),hus⟩
structure iz(w:World)(tb:Nat)(R:Array Value)(Wd:Int→Nat→Int)(D:Nat→Int)(p q:Int)(dv iv ov sv wv:Value)(vs:List Value)(m i:Nat)(W:World):Prop where
 b:gm w tb R (cH dv p q iv ov sv wv true) W
 inn:W.ownsRow w.heap.size 3 1 iv 128 (((range 128).map (aQ Wd p)).map (Value.int .i64))
 sec:W.ownsRow w.heap.size 3 1 sv m (((range m).map (aQ Wd q)).map (Value.int .i64))
 wrd:W.ownsRow w.heap.size 29 1 wv m vs
 each:∀j,j<m→∃v,vs[j]?=some v∧W.ownsRow w.heap.size 3 1 v 128 (((range 128).map (aQ Wd (aQ Wd q j))).map (Value.int .i64))∧v.ownBlock≠dv.ownBlock
 dat:W.ownsRow w.heap.size 3 1 dv i (((range i).map (bC Wd D p q)).map (Value.int .i64))
 a1:iv.ownBlock≠dv.ownBlock
 a2:sv.ownBlock≠dv.ownBlock∨sv.ownBlock=none
theorem iz.below{w:World}{tb:Nat}{R:Array Value}{Wd:Int→Nat→Int}{D:Nat→Int}{p q:Int}{dv iv ov sv wv:Value}{vs:List Value}{m i:Nat}{W W':World}(h:iz w tb R Wd D p q dv iv ov sv wv vs m i W)(hb:Below W.heap.size W W'):iz w tb R Wd D p q dv iv ov sv wv vs m i W':=
 ⟨h.b.below hb,aY h.inn hb,aY h.sec hb,aY h.wrd hb,fun j hj=>by obtain⟨v,h1,h2,h3⟩:=h.each j hj;exact⟨v,h1,aY h2 hb,h3⟩,aY h.dat hb,h.a1,h.a2⟩
theorem iz.add{w:World}{tb:Nat}{R:Array Value}{Wd:Int→Nat→Int}{D:Nat→Int}{p q:Int}{dv iv ov sv wv:Value}{vs:List Value}{m i:Nat}{W W':World}{v':Value}(h:iz w tb R Wd D p q dv iv ov sv wv vs m i W)(ho:W'.ownsRow w.heap.size 3 1 v' (i+1) (((range i).map (bC Wd D p q)).map (Value.int .i64)++[.int .i64 (bC Wd D p q i)]))(hg:W.grownBy W' dv.ownBlock)(ha:v'.ownBlock=dv.ownBlock∨v'.ownBlock=some W.heap.size):
 iz w tb R Wd D p q v' iv ov sv wv vs m (i+1) (W'.setCell ⟨tb,0,none⟩ v'):=by
 have hB:gm w tb R (cH dv p q iv ov sv wv true) W':=h.b.own h.dat (by decide) (by decide) hg;have keep:∀{u:Value} {L:List Value} {n:Nat} {e:TypeId},W.ownsRow w.heap.size e 1 u n L→u.ownBlock≠dv.ownBlock∨u.ownBlock=none→W'.ownsRow w.heap.size e 1 u n L:=fun hu hne=>hu.kept hg (hne.elim .inr .inl);have apart:∀{u:Value} {L:List Value} {n:Nat} {e:TypeId},W.ownsRow w.heap.size e 1 u n L→u.ownBlock≠dv.ownBlock∨u.ownBlock=none→u.ownBlock≠v'.ownBlock∨u.ownBlock=none:=fun {u L n e} hu hne=>by
  cases hv:u.ownBlock with
  |none=>exact .inr rfl
  |some g=>
   refine .inl fun e4=>?_;rcases ha with e3|e3
   ·rw[e3] at e4;rcases hne with h5|h5
    ·exact h5 (hv.trans e4)
    ·rw[hv] at h5;cases h5
   ·rw[e3] at e4;injection e4 with e4;have:=(hu.lt g hv).2;omega
 have strong:∀{u:Value} {L:List Value} {n:Nat} {e:TypeId},W.ownsRow w.heap.size e 1 u n L→0<n→u.ownBlock≠dv.ownBlock→u.ownBlock≠v'.ownBlock:=fun hu hn hne=>by
  obtain⟨g,e1,_⟩:=ko hu hn;rcases apart hu (.inl hne) with h5|h5
  ·exact h5
  ·rw[e1] at h5;cases h5
 have hw2:wv.ownBlock≠dv.ownBlock∨wv.ownBlock=none:=by
  cases hv:wv.ownBlock with
  |none=>exact .inr rfl
  |some g=>
   refine .inl fun e=>?_;rcases h.wrd.2 with⟨rfl,_⟩|⟨g1,cap,cur,rfl,_,hg1,_⟩
   ·simp[Value.ownBlock] at hv
   ·simp[Value.ownBlock] at hv;subst hv;exact iW h.dat (show af W g1 cur 29 from hg1) (by decide) e.symm
 refine⟨hB.set 0 v',dL (keep h.inn (.inl h.a1)) hB.tree (by decide),dL (keep h.sec h.a2) hB.tree (by decide),dL (keep h.wrd hw2) hB.tree (by decide),fun j hj=>?_,dL (by rw[List.range_succ,map_append,map_append];exact ho) hB.tree (by decide),strong h.inn (by omega) h.a1,apart h.sec h.a2⟩;obtain⟨v,h1,h2,h3⟩:=h.each j hj;exact⟨v,h1,dL (keep h2 (.inl h3)) hB.tree (by decide),strong h2 (by omega) h3⟩
theorem uu{W:World}{base n:Nat}{e:TypeId}{dv:Value}{xs:List Value}{p q:Int}{a1 a2 a3 a4:Option Addr}{n1 n2 n3 n4 c1 c2 c3 c4:Nat}(h:W.ownsRow base e 1 dv n xs):(cH dv p q (.slice a1 n1 c1) (.slice a2 n2 c2) (.slice a3 n3 c3) (.slice a4 n4 c4) true).all (·.oneCell')=true:=by
 obtain⟨a,c,rfl⟩:=bK h;simp[Value.oneCell']
theorem uv{w:World}{base n b:Nat}{e t:TypeId}{v:Value}{xs:List Value}{C cs:Array Value}(h:w.ownsRow base e 1 v n xs)(hb:af w b C t)(ht:t≠e):(w.setRow b cs).ownsRow base e 1 v n xs:=
 h.kept (row:=some b) ⟨rfl,rfl,rfl,by simp[setRow],fun k hk hne=>by simp[setRow,Array.getElem?_modify,show ¬b=k from fun e=>hne (by rw[e])]⟩ (.inr (iW h hb ht))
theorem Av(i y:Nat)(h:i=y+12)(hy:y<128)(w:World):Calls prog 80 #[.int .i64 (i:Int)] w fun e w'=>e=.returned (iV 1 0 (y:Int) 0)∧Below w.heap.size w w':=by
 subst h;exact Aq y w hy
theorem Aw(i y o n:Nat)(h:i=y+140)(hy:y<372)(ho:o=y/128)(hn:n=y%128)(w:World):Calls prog 80 #[.int .i64 (i:Int)] w fun e w'=>e=.returned (iV 2 (o:Int) (n:Int) 0)∧Below w.heap.size w w':=by
 subst h ho hn;exact Ar y w hy
theorem Ay{w:World}{base:Nat}{e:TypeId}{v:Value}{n:Nat}{vs:List Value}(h:w.ownsRow base e 1 v n vs)(hn:0<n):∃g cap,v=.slice (some ⟨g,0,none⟩) n cap∧∀(i:Nat) (u:Value),vs[i]?=some u→w.cell? ⟨g,i,none⟩=some u:=by
 have hl:vs.length=n:=by have:=h.1;simpa using this
 rcases h.2 with⟨_,h0⟩|⟨g,cap,cur,rfl,_,hg,hc,_,hcs,ht⟩
 ·omega
 ·refine⟨g,cap,rfl,fun i u hu=>?_⟩;have hi:i<n:=by
   rcases Nat.lt_or_ge i vs.length with h|h
   ·omega
   ·rw[List.getElem?_eq_none h] at hu;cases hu
  have hx:w.cell? ⟨g,i,none⟩=cur[i]?:=cell_of_row w g i cur e (0,0) hg;rw[hx, ←hu, ←ht,List.getElem?_take,if_pos (by omega),Array.getElem?_toList]
theorem Az{B:Nat}{w w':World}(h:Below B w w')(n:Nat):Below B w (w'.drewN n):=⟨h.os,h.tape,h.output,h.size,h.block⟩
theorem AA:(prog.info? 29).map (fun i=>(i.zero,i.size,i.bytes))=some (some aF,1,24):=by kernel_rfl
theorem nO{W W':World}{base n m:Nat}{e:TypeId}{u v:Value}{xs ys:List Value}(h:W'.ownsRow (drew W).heap.size e 1 u (m+1) xs)(hv:W.ownsRow base e 1 v n ys):u.ownBlock≠v.ownBlock:=by
 obtain⟨g,e1,e2,_⟩:=ko h (by omega);rw[e1];intro e;have:=(hv.lt g e.symm).2;have e3:W.heap.size≤g:=e2;omega
theorem iA{P:Program}{w:World}{o:Oper}{a:Act}{K:Act→World→Prop}{Q:Exit→Act→World→Prop}(s x:Operand)(t:TypeId)
 (ho:o.op=.call {callee:=.builtin .append,args:=#[s,x],argTypes:=#[t,t]})
 (base:Nat) (e:TypeId) (i:TypeInfo) (z:Value) (size bytes:Nat) (ht:P.underlying t=some (.slice e)) (hi:P.info? e=some i) (hz:i.zero=some z)
 (hsize:i.size=size) (hby:i.bytes=bytes) (hzs:z.cells.size=size) (hsz:0<size)
 (v:Value) (n:Nat) (xs:List Value) (hs:a.eval s=v) (hown:w.ownsRow base e size v n xs)
 (ad:Addr) (m c:Nat) (news:List Value) (hx:a.eval x=.slice (some ad) m c) (hl:news.length=m*size) (hnews:∀j u,news[j]?=some u→w.cell? (ad.add j)=some u) (h1:∀u∈news,u.oneCell'=true)
 (h63:n+m≤maxLen) (hbytes:(n+m)*bytes≤140737488355328) (hbase:base≤w.heap.size)
 (h:∀v' w',w'.ownsRow base e size v' (n+m) (xs++news)→w.grownBy w' v.ownBlock→(v'.ownBlock=v.ownBlock∨v'.ownBlock=some w.heap.size)→K (a.put o.dst v') w'):o.wp P a w K Q:=by
 obtain⟨v',w',hr,h2,h3,h4,h5⟩:=run_append_own_at (P:=P) w base t o.type e i z size bytes ht hi hz hsize hby hzs hsz v n xs hown ad m c news hl hnews h1 h63 hbytes hbase;unfold Oper.wp execOp;simp only[ho,resolve,invoke,builtin,Sem.run_bind,Sem.run_pure,Result.andThen_ok,List.map_toArray,List.map_cons,List.map_nil,hs,hx,hr];exact h v' w' h2 h3 h5
theorem qu(img:Value)(zs:List Int)(sz:Nat)(ds:List Int)(p q:Int)(w:World)(cnt:Nat)(h:Rd .u8 w img zs)(h1:zs.length≤1048576)(hbd:∀z∈zs,0≤z∧z<256)(hd:ds.length=12)(hsz:sz≤262144)(hcnt:cnt=(sz+511)/512):
 Calls prog 33 #[img,.agg (aB (aD (sz:Int) ds p q))] w fun e w'=>ur w cnt (zs.length/512) (aJ zs) (fun i=>ds.getD i 0) p q e w'∧Below w.heap.size w w':=by
 obtain⟨i0,hi,hz0,hz1,hz2⟩:=info_parts eO;have hcn:cnt≤512:=by omega
 have HCN:=aa hcnt;clear hcnt;obtain⟨sa,sc,rfl⟩:=dZ h;have HR:=aa (ag h (ag hbd hd));clear h hbd;obtain⟨R,hR⟩:∃R,R=aB (aD (sz:Int) ds p q):=⟨_,rfl⟩;have hRs:R.size=15:=by rw[hR,fc];exact eR _ _ _ _ hd
 have hR0:R[0]?=some (.int .i64 (sz:Int)):=by rw[hR];simp[aB,aD]
 have hRd:∀i,i<12→R[1+i]?=some (.int .i64 (ds.getD i 0)):=fun i hi=>by
  rw[hR];simp[aB,aD,List.getElem?_cons,hd,hi,getElem?_append,getD]
 have hR13:R[13]?=some (.int .i64 p):=by rw[hR];simp[aB,aD,List.getElem?_cons,hd,getElem?_append]
 have hR14:R[14]?=some (.int .i64 q):=by rw[hR];simp[aB,aD,List.getElem?_cons,hd,getElem?_append]
 have HRc:=aa (ag hRs (ag hR0 (ag hRd (ag hR13 hR14))));rw[←hR];have HRe:=aa hR;clear hR hRs hR0 hRd hR13 hR14 hd;obtain⟨W0,hW0⟩:∃W0,W0=(w.alloc (.cells R 28)).alloc (.cells (cH aF 0 0 aF aF aF aF false) 73):=⟨_,rfl⟩;have k0:af W0 w.heap.size R 28:=by rw[hW0];exact(af.new w _ _).alloc _
 have k13:=(k0.cell 13).trans HRc.out.2.2.2.1;have k14:=(k0.cell 14).trans HRc.out.2.2.2.2;have HB0:=ae (gm w W0.heap.size R (cH aF p q aF aF aF aF true) (W0.alloc (.cells (cH aF p q aF aF aF aF true) 73))) (by
  have h1:=af.new (w.alloc (.cells R 28)) (cH aF 0 0 aF aF aF aF false) 73;rw[World.size_alloc, ←hW0] at h1;have h2:=af.new W0 (cH aF p q aF aF aF aF true) 73;refine⟨k0.alloc _,h1.alloc _,h2,?_,by rw[hW0];simp⟩;have hb:Below w.heap.size w W0:=by rw[hW0];exact(ak.alloc aj _).alloc (by simp) _
  exact hb.alloc (by rw[hW0];simp;omega) _)
 have HS0:=ae (W0.heap.size=w.heap.size+2) (by rw[hW0];simp);have HW0:=aa hW0;clear hW0 k0;go_enter func33,ntmps33;go_upto_region 1 with fail;rw[←HW0.out];go_upto_region 2 with fail;generalize hW1:(W0.alloc (.cells (cH aF p q aF aF aF aF true) 73))=W1 at HB0⊢;have hs0a:W0.heap.size≤w.heap.size+2:=by rw[HS0.out];omega
 have hs0b:w.heap.size+2≤W0.heap.size:=by rw[HS0.out];omega
 clear hW1 k13 k14;go_wp2_with (first
  |(refine wpList_load_row rfl 28 _ rfl w.heap.size rfl 28 R (0,0) _ HB0.out.root underlying28 rfl (by rw[HRc.out.1];exact dr) ?_)
  |(go_at_call 75;rw[HRe.out];refine(th (sz:Int) ds p q _ HR.out.2.2).mono ?_;rw[←HRe.out];rintro e w2 ⟨v2,rfl,o2,b2⟩;obtain⟨g2,cap2,rfl,hc2,hcell2⟩:=jo o2 (by omega);have H2:=aa (ag hcell2 b2);clear o2 b2 hcell2))
 go_loopw [22] (fun kv wr=>∃k:Nat,k≤14∧kv=.int .i64 (k:Int)∧As (zs.length/512) (ds++[p,q]) k∧(∀i,i<14→wr.cell? ⟨g2,i,none⟩=some (.int .i64 ((ds++[p,q]).getD i 0)))∧gm w W0.heap.size R (cH aF p q aF aF aF aF true) wr) (fun kv _=>14-(intOf kv).toNat)
 case atStart=>exact⟨0,by omega,rfl,fun j hj=>absurd hj (by omega),H2.out.1,HB0.out.below H2.out.2⟩
 case round=>
  obtain⟨k,hk,rfl,hgt,hcl,hap⟩:=hrel;clear H2 HB0;have HA:=aa (ag hgt (ag hcl hap));by_cases hk2:k<14
  ·have ck:=hcl k hk2;obtain⟨x,hx⟩:∃x,x=(ds++[p,q]).getD k 0:=⟨_,rfl⟩;rw[←hx] at ck;have HX:=aa hx;have hkI:(k:Int)<14:=(by omega);have c4:=hap.res;clear hgt hcl hap hx;cases hg:be (zs.length/512) x with
   |true=>
    have HGx:=aa hg;clear hg;go_wp2_with (go_at_call 77;refine(jm _ zs x _ (HR.out.1.below HA.out.2.2.old) h1).mono ?_;rintro e w9 ⟨rfl,rfl⟩;rw[HGx.out]);go_roundw
    case rel=>exact⟨k+1,by omega,by go_num,(fun j hj=>by
     rcases Nat.lt_succ_iff_lt_or_eq.1 hj with h|h
     ·exact HA.out.1 j h
     ·rw[h, ←HX.out];exact HGx.out),HA.out.2.1,HA.out.2.2⟩
    case measure=>simp[intOf];omega
   |false=>
    have HGx:=aa hg;clear hg;go_wp2_with (first
     |(go_at_call 77;refine(jm _ zs x _ (HR.out.1.below HA.out.2.2.old) h1).mono ?_;rintro e w9 ⟨rfl,rfl⟩;rw[HGx.out])
     |(refine wpList_store_row rfl 73 _ _ rfl (w.heap.size+1) (cH aF 0 0 aF aF aF aF false) rfl rfl 73 _ HA.out.2.2.res fI rfl (by simp[Value.oneCell']) ?_))
    refine bodyPost_ret (v:=.agg (cH aF 0 0 aF aF aF aF false)) ?_ rfl ⟨.inr ⟨fun hap=>?_,rfl⟩,below_setRow HA.out.2.2.old (by omega) _⟩
    ·exact results_cell_row rfl _ _ (w.heap.size+1) 73 _ (0,0) _ rfl (HA.out.2.2.res.row _) underlying73 rfl fI
    ·have:=Au HR.out.2.2 hap k hk2;rw[←HX.out,HGx.out] at this;cases this
  ·have hk3:k=14:=(by omega);subst hk3;have hap:=HA.out.2.2;clear hk2 hk hgt hcl;have c13:=(hap.root.cell 13).trans HRc.out.2.2.2.1;have c14:=(hap.root.cell 14).trans HRc.out.2.2.2.2;have c0:=(hap.root.cell 0).trans HRc.out.2.1;have HGS:=ae (be (zs.length/512) p=true) (by have:=HA.out.1 12 (by omega);rw[nL HR.out.2.2] at this;exact this);have HGX:=ae (be (zs.length/512) q=true) (by have:=HA.out.1 13 (by omega);rw[nM HR.out.2.2] at this;exact this);have HGD:=ae (∀i,i<12→be (zs.length/512) (ds.getD i 0)=true) (fun i hi=>by have:=HA.out.1 i (by omega);rw[nK HR.out.2.2 hi] at this;exact this);have HAp:=aa hap;clear hap;obtain⟨tb,htb⟩:∃tb,tb=W0.heap.size:=⟨_,rfl⟩;rw[←htb] at HAp⊢;clear htb hs0a hs0b HA;go_upto_region 8 with fail;go_upto_region 9 with(first
    |(go_at_call 78;refine(lj _ zs p _ (HR.out.1.below HAp.out.old) h1 HR.out.2.1 HGS.out).mono ?_;rintro e w3 ⟨iv,rfl,o3,b3⟩;obtain⟨ia,ic,rfl⟩:=bK o3;have B3:=aa (HAp.out.below b3);have O3:=aa (bZ o3 HAp.out.old.size);have t3':=(B3.out.tree.cell 3).trans (show _=some aF from rfl);have f3':=B3.out.tree.frozen 3;clear o3 b3))
   have A3:=aa (B3.out.set 3 (.slice ia 128 ic));have O3b:=aa (dL (k:=3) (u:=.slice ia 128 ic) O3.out B3.out.tree (by decide));generalize hW4:w3.setCell ⟨tb,3,none⟩ (.slice ia 128 ic)=W4 at A3 O3b⊢;clear hW4 t3' f3' c13;have c14':=(A3.out.root.cell 14).trans HRc.out.2.2.2.2;go_upto_region 10 with(first
    |(go_at_call 78;refine(lj _ zs q _ (HR.out.1.below A3.out.old) h1 HR.out.2.1 HGX.out).mono ?_;rintro e w5 ⟨ov,rfl,o5,b5⟩;obtain⟨oa,oc,rfl⟩:=bK o5;have B5:=aa (A3.out.below b5);have O5:=aa (bZ o5 A3.out.old.size);have O3c:=aa (aY O3b.out b5);have t5':=(B5.out.tree.cell 4).trans (show _=some aF from rfl);have f5':=B5.out.tree.frozen 4;clear o5 b5))
   have A5:=aa (B5.out.set 4 (.slice oa 128 oc));have O5b:=aa (dL (k:=4) (u:=.slice oa 128 oc) O5.out B5.out.tree (by decide));have O3d:=aa (dL (k:=4) (u:=.slice oa 128 oc) O3c.out B5.out.tree (by decide));generalize hW6:w5.setCell ⟨tb,4,none⟩ (.slice oa 128 oc)=W6 at A5 O5b O3d⊢;clear hW6 t5' f5' c14' c14 B3 O3 A3 O3b B5 O5 O3c;have HC2:=ae (fm w tb R (aJ zs) p q (.slice ia 128 ic) (.slice oa 128 oc) aF aF [] 0 0 W6) (by
    obtain⟨g1,e1,_⟩:=ko O3d.out (by omega);obtain⟨g2,e2,_⟩:=ko O5b.out (by omega);exact⟨A5.out,O3d.out,O5b.out,ownsRow_nil _ _ _ _,ownsRow_nil _ _ _ _,fun j hj=>absurd hj (by omega),(by rw[e1];intro e;cases e),(by rw[e2];intro e;cases e)⟩)
   have c0':=(A5.out.root.cell 0).trans HRc.out.2.1;clear O3d O5b A5 c0;go_upto_region 11 with(first
    |(go_at_call 79;refine(zm sz _ (by omega)).mono ?_;rintro e w9 ⟨rfl,rfl⟩;rw[←HCN.out]))
   clear c0';go_wp2;go_loopw [9] (fun kv wr=>∃(k:Nat) (sv wv:Value) (vs:List Value),k≤eI cnt∧kv=.int .i64 (k:Int)∧(∀j,j<k→be (zs.length/512) (aQ (aJ zs) q j)=true)∧fm w tb R (aJ zs) p q (.slice ia 128 ic) (.slice oa 128 oc) sv wv vs k k wr) (fun kv _=>128-(intOf kv).toNat)
   case atStart=>exact⟨0,aF,aF,[],Nat.zero_le _,rfl,fun j hj=>absurd hj (by omega),HC2.out⟩
   case round=>
    obtain⟨k,sv,wv,vs,hk,rfl,hgk,hap2⟩:=hrel;clear HC2;have hs3:eI cnt≤3:=(by unfold eI;omega);have hk4:(k:Int)<128:=(by omega);obtain⟨go,co,eo,hco,hcello⟩:=jo hap2.out (by omega);injection eo with eo1 eo2 eo3;subst eo1 eo3;obtain⟨sva,svc,rfl⟩:=bK hap2.sec;obtain⟨wva,wvc,rfl⟩:=bK hap2.wrd;have HA2:=aa (ag hap2 (ag hgk hcello));by_cases hk2:k<eI cnt
    ·have hk5:140+128*(k:Int)<(cnt:Int):=(by have:=pR hk2;omega);have ck:=hcello k (by omega);rw[show((range 128).map (aQ (aJ zs) q)).getD k 0=aQ (aJ zs) q k by simp[getD,show k<128 by omega]] at ck;have t4:=(hap2.b.tree.cell 4).trans (show _=some (.slice (some ⟨go,0,none⟩) 128 oc) from rfl);have t5:=(hap2.b.tree.cell 5).trans (show _=some (.slice sva k svc) from rfl);obtain⟨x,hx⟩:∃x,x=aQ (aJ zs) q k:=⟨_,rfl⟩;rw[←hx] at ck;have HX:=aa hx;clear hx hap2 hgk hcello;cases hg:be (zs.length/512) x with
     |false=>
      have HGx:=aa hg;clear hg;go_wp2_with (first
       |(go_at_call 77;refine(jm _ zs x _ (HR.out.1.below HA2.out.1.b.old) h1).mono ?_;rintro e w9 ⟨rfl,rfl⟩;rw[HGx.out])
       |(refine wpList_store_row rfl 73 _ _ rfl (w.heap.size+1) (cH aF 0 0 aF aF aF aF false) rfl rfl 73 _ HA2.out.1.b.res fI rfl (by simp[Value.oneCell']) ?_))
      refine bodyPost_ret (v:=.agg (cH aF 0 0 aF aF aF aF false)) ?_ rfl ⟨.inr ⟨fun hap=>?_,rfl⟩,below_setRow HA2.out.1.b.old (by omega) _⟩
      ·exact results_cell_row rfl _ _ (w.heap.size+1) 73 _ (0,0) _ rfl (HA2.out.1.b.res.row _) underlying73 rfl fI
      ·have:=hap.2.2.2.1 k (by omega) (pR hk2);rw[←HX.out,HGx.out] at this;cases this
     |true=>
      have HGx:=aa hg;clear hg;go_upto_region 16 with(go_at_call 77;refine(jm _ zs x _ (HR.out.1.below HA2.out.1.b.old) h1).mono ?_;rintro e w9 ⟨rfl,hw9⟩;rw[HGx.out,hw9];clear hw9)
      have bA:Below wr.heap.size wr (drew (wr.alloc (.cells #[.int .i64 x] 3))):=(ak.alloc aj _).drew;have d4:(drew wr).cell? ⟨tb,4,none⟩=some (.slice (some ⟨go,0,none⟩) 128 oc):=t4;have d5:(drew wr).cell? ⟨tb,5,none⟩=some (.slice sva k svc):=t5;have dk:(drew wr).cell? ⟨go,k,none⟩=some (.int .i64 x):=ck;have d5A:=((HA2.out.1.below bA).b.tree.cell 5).trans (show _=some (.slice sva k svc) from rfl);go_cut [] from 65 to 75 (fun w'=>∃v',fm w tb R (aJ zs) p q (.slice ia 128 ic) (.slice (some ⟨go,0,none⟩) 128 oc) v' (.slice wva k wvc) vs (k+1) k w')
      case first Jc Kc hJc hKc=>
       refine cr (fun _=>True) trivial fun _=>?_;refine ah 0 (.pointer (some ⟨tb,5,none⟩)) rfl trivial ?_;refine ah 2 (.pointer (some ⟨tb,4,none⟩)) rfl trivial ?_;refine ah 4 (.int .i64 (k:Int)) rfl trivial ?_;refine wpAnyH_ready (rs:=[1,3]) (by kernel_rfl) (by simp) ?_;refine AllReadyH.cons (o:=_) rfl (fun K hK=>?_) (AllReadyH.cons (o:=_) rfl (fun K hK=>?_) AllReadyH.nil)
       ·go_simp;refine hK.out _ _ trivial (fun _=>?_);clear hK K;try simp only[Act.put,aq,au,av,ay,az,aA]
        refine aG 3 rfl fun K hK=>?_;go_simp;refine hK.out _ _ trivial (fun _=>?_);clear hK K;try simp only[Act.put,aq,au,av,ay,az,aA]
        refine ah 5 (.pointer (some ⟨go,k,none⟩)) rfl trivial ?_;refine aG 6 rfl fun K hK=>?_;go_simp;refine hK.out _ _ trivial (fun _=>?_);clear hK K;try simp only[Act.put,aq,au,av,ay,az,aA]
        refine aG 7 rfl fun K hK=>?_;go_simp;refine hK.out _ _ trivial (fun _=>?_);clear hK K;try simp only[Act.put,aq,au,av,ay,az,aA]
        refine aG 8 rfl fun K hK=>?_;rw[if_pos (by rfl)];refine iA (.tmp 66) (.tmp 72) 29 rfl w.heap.size 3 i0 (.int .i64 0) 1 8 underlying29 hi hz0 hz1 hz2 rfl (by decide) (.slice sva k svc) k _ rfl (aY HA2.out.1.sec bA) ⟨wr.heap.size,0,none⟩ 1 1 [.int .i64 x] rfl rfl (cell_one_new _ _ _) (by simp[Value.oneCell']) (by unfold maxLen;omega) (by omega) (HA2.out.1.below bA).b.old.size ?_;intro v8 w8 o8 g8 a8;have H8:=aa (fm.nN (HA2.out.1.below bA) (by rw[←HX.out];exact o8) g8 a8);have kt8:=((HA2.out.1.below bA).b.own (aY HA2.out.1.sec bA) (by decide) (by decide) g8).tree;have c8:=(kt8.cell 5).trans (show _=some (.slice sva k svc) from rfl);have f8:=kt8.frozen 5;obtain⟨va8,vc8,rfl⟩:=bK o8;clear o8 g8 a8 kt8;refine hK.out _ _ trivial (fun _=>?_);clear hK K;try simp only[Act.put,aq,au,av,ay,az,aA]
        refine ah 9 (.pointer (some ⟨tb,5,none⟩)) rfl trivial ?_;refine aG 10 rfl fun K hK=>?_;go_simp;refine hK.out _ _ trivial (fun _=>?_);clear hK K;try simp only[Act.put,aq,au,av,ay,az,aA]
        refine bz ?_;exact hKc _ _ (Met.intro (hJc _ _ ⟨_,_,_,_,_,_,_,_,_,_,_,⟨_,H8.out⟩,rfl⟩))
       ·go_simp;refine hK.out _ _ trivial (fun _=>?_);clear hK K;try simp only[Act.put,aq,au,av,ay,az,aA]
        refine ah 5 (.pointer (some ⟨go,k,none⟩)) rfl trivial ?_;refine wpAnyH_ready (rs:=[1,6]) (by kernel_rfl) (by simp) ?_;refine AllReadyH.cons (o:=_) rfl (fun K hK=>?_) (AllReadyH.cons (o:=_) rfl (fun K hK=>?_) AllReadyH.nil)
        ·go_simp;refine hK.out _ _ trivial (fun _=>?_);clear hK K;try simp only[Act.put,aq,au,av,ay,az,aA]
         refine aG 6 rfl fun K hK=>?_;go_simp;refine hK.out _ _ trivial (fun _=>?_);clear hK K;try simp only[Act.put,aq,au,av,ay,az,aA]
         refine aG 7 rfl fun K hK=>?_;go_simp;refine hK.out _ _ trivial (fun _=>?_);clear hK K;try simp only[Act.put,aq,au,av,ay,az,aA]
         refine aG 8 rfl fun K hK=>?_;rw[if_pos (by rfl)];refine iA (.tmp 66) (.tmp 72) 29 rfl w.heap.size 3 i0 (.int .i64 0) 1 8 underlying29 hi hz0 hz1 hz2 rfl (by decide) (.slice sva k svc) k _ rfl (aY HA2.out.1.sec bA) ⟨wr.heap.size,0,none⟩ 1 1 [.int .i64 x] rfl rfl (cell_one_new _ _ _) (by simp[Value.oneCell']) (by unfold maxLen;omega) (by omega) (HA2.out.1.below bA).b.old.size ?_;intro v8 w8 o8 g8 a8;have H8:=aa (fm.nN (HA2.out.1.below bA) (by rw[←HX.out];exact o8) g8 a8);have kt8:=((HA2.out.1.below bA).b.own (aY HA2.out.1.sec bA) (by decide) (by decide) g8).tree;have c8:=(kt8.cell 5).trans (show _=some (.slice sva k svc) from rfl);have f8:=kt8.frozen 5;obtain⟨va8,vc8,rfl⟩:=bK o8;clear o8 g8 a8 kt8;refine hK.out _ _ trivial (fun _=>?_);clear hK K;try simp only[Act.put,aq,au,av,ay,az,aA]
         refine ah 9 (.pointer (some ⟨tb,5,none⟩)) rfl trivial ?_;refine aG 10 rfl fun K hK=>?_;go_simp;refine hK.out _ _ trivial (fun _=>?_);clear hK K;try simp only[Act.put,aq,au,av,ay,az,aA]
         refine bz ?_;exact hKc _ _ (Met.intro (hJc _ _ ⟨_,_,_,_,_,_,_,_,_,_,_,⟨_,H8.out⟩,rfl⟩))
        ·go_simp;refine hK.out _ _ trivial (fun _=>?_);clear hK K;try simp only[Act.put,aq,au,av,ay,az,aA]
         refine wpAnyH_ready (rs:=[1,7]) (by kernel_rfl) (by simp) ?_;refine AllReadyH.cons (o:=_) rfl (fun K hK=>?_) (AllReadyH.cons (o:=_) rfl (fun K hK=>?_) AllReadyH.nil)
         ·go_simp;refine hK.out _ _ trivial (fun _=>?_);clear hK K;try simp only[Act.put,aq,au,av,ay,az,aA]
          refine aG 7 rfl fun K hK=>?_;go_simp;refine hK.out _ _ trivial (fun _=>?_);clear hK K;try simp only[Act.put,aq,au,av,ay,az,aA]
          refine aG 8 rfl fun K hK=>?_;rw[if_pos (by rfl)];refine iA (.tmp 66) (.tmp 72) 29 rfl w.heap.size 3 i0 (.int .i64 0) 1 8 underlying29 hi hz0 hz1 hz2 rfl (by decide) (.slice sva k svc) k _ rfl (aY HA2.out.1.sec bA) ⟨wr.heap.size,0,none⟩ 1 1 [.int .i64 x] rfl rfl (cell_one_new _ _ _) (by simp[Value.oneCell']) (by unfold maxLen;omega) (by omega) (HA2.out.1.below bA).b.old.size ?_;intro v8 w8 o8 g8 a8;have H8:=aa (fm.nN (HA2.out.1.below bA) (by rw[←HX.out];exact o8) g8 a8);have kt8:=((HA2.out.1.below bA).b.own (aY HA2.out.1.sec bA) (by decide) (by decide) g8).tree;have c8:=(kt8.cell 5).trans (show _=some (.slice sva k svc) from rfl);have f8:=kt8.frozen 5;obtain⟨va8,vc8,rfl⟩:=bK o8;clear o8 g8 a8 kt8;refine hK.out _ _ trivial (fun _=>?_);clear hK K;try simp only[Act.put,aq,au,av,ay,az,aA]
          refine ah 9 (.pointer (some ⟨tb,5,none⟩)) rfl trivial ?_;refine aG 10 rfl fun K hK=>?_;go_simp;refine hK.out _ _ trivial (fun _=>?_);clear hK K;try simp only[Act.put,aq,au,av,ay,az,aA]
          refine bz ?_;exact hKc _ _ (Met.intro (hJc _ _ ⟨_,_,_,_,_,_,_,_,_,_,_,⟨_,H8.out⟩,rfl⟩))
         ·go_simp;refine hK.out _ _ trivial (fun _=>?_);clear hK K;try simp only[Act.put,aq,au,av,ay,az,aA]
          refine aG 1 rfl fun K hK=>?_;go_simp;refine hK.out _ _ trivial (fun _=>?_);clear hK K;try simp only[Act.put,aq,au,av,ay,az,aA]
          refine aG 8 rfl fun K hK=>?_;rw[if_pos (by rfl)];refine iA (.tmp 66) (.tmp 72) 29 rfl w.heap.size 3 i0 (.int .i64 0) 1 8 underlying29 hi hz0 hz1 hz2 rfl (by decide) (.slice sva k svc) k _ rfl (aY HA2.out.1.sec bA) ⟨wr.heap.size,0,none⟩ 1 1 [.int .i64 x] rfl rfl (cell_one_new _ _ _) (by simp[Value.oneCell']) (by unfold maxLen;omega) (by omega) (HA2.out.1.below bA).b.old.size ?_;intro v8 w8 o8 g8 a8;have H8:=aa (fm.nN (HA2.out.1.below bA) (by rw[←HX.out];exact o8) g8 a8);have kt8:=((HA2.out.1.below bA).b.own (aY HA2.out.1.sec bA) (by decide) (by decide) g8).tree;have c8:=(kt8.cell 5).trans (show _=some (.slice sva k svc) from rfl);have f8:=kt8.frozen 5;obtain⟨va8,vc8,rfl⟩:=bK o8;clear o8 g8 a8 kt8;refine hK.out _ _ trivial (fun _=>?_);clear hK K;try simp only[Act.put,aq,au,av,ay,az,aA]
          refine ah 9 (.pointer (some ⟨tb,5,none⟩)) rfl trivial ?_;refine aG 10 rfl fun K hK=>?_;go_simp;refine hK.out _ _ trivial (fun _=>?_);clear hK K;try simp only[Act.put,aq,au,av,ay,az,aA]
          refine bz ?_;exact hKc _ _ (Met.intro (hJc _ _ ⟨_,_,_,_,_,_,_,_,_,_,_,⟨_,H8.out⟩,rfl⟩))
      case rest=>
       obtain⟨vS,hQ⟩:=hcut;obtain⟨j0,hj,hj0,hj1,hj2⟩:=info_parts AA;have HQ:=aa hQ;have q4:(drew wc).cell? ⟨tb,4,none⟩=some (.slice (some ⟨go,0,none⟩) 128 oc):=(hQ.b.tree.cell 4).trans rfl;have q6:(drew wc).cell? ⟨tb,6,none⟩=some (.slice wva k wvc):=(hQ.b.tree.cell 6).trans rfl;obtain⟨go',co',eo,_,hcello⟩:=jo hQ.out (by omega);injection eo with eo1 eo2 eo3;injection eo1 with eo1;injection eo1 with eo1;subst eo1 eo3;have qk:(drew wc).cell? ⟨go,k,none⟩=some (.int .i64 x):=by
        have:=hcello k (by omega);rw[show((range 128).map (aQ (aJ zs) q)).getD k 0=aQ (aJ zs) q k by simp[getD,show k<128 by omega], ←HX.out] at this;exact this
       clear hQ hcello d4 d5 dk d5A t4 t5 ck bA;go_upto_region 17 with fail;refine cr (fun _=>True) trivial fun _=>?_;refine ah 0 (.pointer (some ⟨tb,6,none⟩)) rfl trivial ?_;refine ah 2 (.slice sa zs.length sc) rfl trivial ?_;refine ah 3 (.pointer (some ⟨tb,4,none⟩)) rfl trivial ?_;refine ah 5 (.int .i64 (k:Int)) rfl trivial ?_;refine wpAnyH_ready (rs:=[1,4]) (by kernel_rfl) (by simp) ?_;refine AllReadyH.cons (o:=_) rfl (fun K hK=>?_) (AllReadyH.cons (o:=_) rfl (fun K hK=>?_) AllReadyH.nil)
       ·go_simp;refine hK.out _ _ trivial (fun _=>?_);clear hK K;try simp only[Act.put,aq,au,av,ay,az,aA]
        refine aG 4 rfl fun K hK=>?_;go_simp;refine hK.out _ _ trivial (fun _=>?_);clear hK K;try simp only[Act.put,aq,au,av,ay,az,aA]
        refine ah 6 (.pointer (some ⟨go,k,none⟩)) rfl trivial ?_;refine aG 7 rfl fun K hK=>?_;go_simp;refine hK.out _ _ trivial (fun _=>?_);clear hK K;try simp only[Act.put,aq,au,av,ay,az,aA]
        refine aG 8 rfl fun K hK=>?_;go_simp;refine(lj _ zs x _ (HR.out.1.below (HQ.out.b.old.drew)) h1 HR.out.2.1 HGx.out).mono ?_;rintro e w8 ⟨u8v,rfl,o8,b8⟩;have B8:=ae (Below wc.heap.size wc w8) ((ak.drew).trans b8);have Q8:=aa (HQ.out.below B8.out);have hus:u8v.ownBlock≠vS.ownBlock:=nO o8 HQ.out.sec;obtain⟨ua,uc,rfl⟩:=bK o8;have O8:=aa (bZ o8 (show w.heap.size≤wc.heap.size from HQ.out.b.old.size));have e6c:=(Q8.out.b.tree.cell 6).trans (show _=some (.slice wva k wvc) from rfl);have bB:Below w8.heap.size w8 (w8.alloc (.cells #[.slice ua 128 uc] 29)):=ak.alloc aj _;have e6A:=((Q8.out.below bB).b.tree.cell 6).trans (show _=some (.slice wva k wvc) from rfl);have HUS:=aa hus;clear o8 b8 hus;refine hK.out _ _ trivial (fun _=>?_);clear hK K;try simp only[Act.put,aq,au,av,ay,az,aA]
        refine aG 9 rfl fun K hK=>?_;go_simp;refine hK.out _ _ trivial (fun _=>?_);clear hK K;try simp only[Act.put,aq,au,av,ay,az,aA]
        refine aG 10 rfl fun K hK=>?_;rw[if_pos (by rfl)];refine iA (.tmp 76) (.tmp 84) 71 rfl w.heap.size 29 j0 aF 1 24 underlying71 hj hj0 hj1 hj2 rfl (by decide) (.slice wva k wvc) k _ rfl (aY Q8.out.wrd bB) ⟨w8.heap.size,0,none⟩ 1 1 [.slice ua 128 uc] rfl rfl (cell_one_new _ _ _) (by simp[Value.oneCell']) (by unfold maxLen;omega) (by omega) (Q8.out.below bB).b.old.size ?_;intro v9 w9 o9 g9 a9;have H9:=aa (fm.mF (Q8.out.below bB) (aY (by rw[←HX.out];exact O8.out) bB) HUS.out o9 g9);have kt9:=((Q8.out.below bB).b.own (aY Q8.out.wrd bB) (by decide) (by decide) g9).tree;have c9:=(kt9.cell 6).trans (show _=some (.slice wva k wvc) from rfl);have f9:=kt9.frozen 6;obtain⟨va9,vc9,rfl⟩:=bK o9;clear o9 g9 a9 kt9;refine hK.out _ _ trivial (fun _=>?_);clear hK K;try simp only[Act.put,aq,au,av,ay,az,aA]
        refine ah 11 (.pointer (some ⟨tb,6,none⟩)) rfl trivial ?_;refine aG 12 rfl fun K hK=>?_;go_simp;refine hK.out _ _ trivial (fun _=>?_);clear hK K;try simp only[Act.put,aq,au,av,ay,az,aA]
        refine bz ?_;go_wp2;go_roundw
        case rel=>exact⟨k+1,vS,_,_,by omega,by go_num,(fun j hj=>by
         rcases Nat.lt_succ_iff_lt_or_eq.1 hj with h|h
         ·exact HA2.out.2.1 j h
         ·rw[h, ←HX.out];exact HGx.out),H9.out⟩
        case measure=>simp[intOf];omega
       ·go_simp;refine hK.out _ _ trivial (fun _=>?_);clear hK K;try simp only[Act.put,aq,au,av,ay,az,aA]
        refine ah 6 (.pointer (some ⟨go,k,none⟩)) rfl trivial ?_;refine wpAnyH_ready (rs:=[1,7]) (by kernel_rfl) (by simp) ?_;refine AllReadyH.cons (o:=_) rfl (fun K hK=>?_) (AllReadyH.cons (o:=_) rfl (fun K hK=>?_) AllReadyH.nil)
        ·go_simp;refine hK.out _ _ trivial (fun _=>?_);clear hK K;try simp only[Act.put,aq,au,av,ay,az,aA]
         refine aG 7 rfl fun K hK=>?_;go_simp;refine hK.out _ _ trivial (fun _=>?_);clear hK K;try simp only[Act.put,aq,au,av,ay,az,aA]
         refine aG 8 rfl fun K hK=>?_;go_simp;refine(lj _ zs x _ (HR.out.1.below (HQ.out.b.old.drew)) h1 HR.out.2.1 HGx.out).mono ?_;rintro e w8 ⟨u8v,rfl,o8,b8⟩;have B8:=ae (Below wc.heap.size wc w8) ((ak.drew).trans b8);have Q8:=aa (HQ.out.below B8.out);have hus:u8v.ownBlock≠vS.ownBlock:=nO o8 HQ.out.sec;obtain⟨ua,uc,rfl⟩:=bK o8;have O8:=aa (bZ o8 (show w.heap.size≤wc.heap.size from HQ.out.b.old.size));have e6c:=(Q8.out.b.tree.cell 6).trans (show _=some (.slice wva k wvc) from rfl);have bB:Below w8.heap.size w8 (w8.alloc (.cells #[.slice ua 128 uc] 29)):=ak.alloc aj _;have e6A:=((Q8.out.below bB).b.tree.cell 6).trans (show _=some (.slice wva k wvc) from rfl);have HUS:=aa hus;clear o8 b8 hus;refine hK.out _ _ trivial (fun _=>?_);clear hK K;try simp only[Act.put,aq,au,av,ay,az,aA]
         refine aG 9 rfl fun K hK=>?_;go_simp;refine hK.out _ _ trivial (fun _=>?_);clear hK K;try simp only[Act.put,aq,au,av,ay,az,aA]
         refine aG 10 rfl fun K hK=>?_;rw[if_pos (by rfl)];refine iA (.tmp 76) (.tmp 84) 71 rfl w.heap.size 29 j0 aF 1 24 underlying71 hj hj0 hj1 hj2 rfl (by decide) (.slice wva k wvc) k _ rfl (aY Q8.out.wrd bB) ⟨w8.heap.size,0,none⟩ 1 1 [.slice ua 128 uc] rfl rfl (cell_one_new _ _ _) (by simp[Value.oneCell']) (by unfold maxLen;omega) (by omega) (Q8.out.below bB).b.old.size ?_;intro v9 w9 o9 g9 a9;have H9:=aa (fm.mF (Q8.out.below bB) (aY (by rw[←HX.out];exact O8.out) bB) HUS.out o9 g9);have kt9:=((Q8.out.below bB).b.own (aY Q8.out.wrd bB) (by decide) (by decide) g9).tree;have c9:=(kt9.cell 6).trans (show _=some (.slice wva k wvc) from rfl);have f9:=kt9.frozen 6;obtain⟨va9,vc9,rfl⟩:=bK o9;clear o9 g9 a9 kt9;refine hK.out _ _ trivial (fun _=>?_);clear hK K;try simp only[Act.put,aq,au,av,ay,az,aA]
         refine ah 11 (.pointer (some ⟨tb,6,none⟩)) rfl trivial ?_;refine aG 12 rfl fun K hK=>?_;go_simp;refine hK.out _ _ trivial (fun _=>?_);clear hK K;try simp only[Act.put,aq,au,av,ay,az,aA]
         refine bz ?_;go_wp2;go_roundw
         case rel=>exact⟨k+1,vS,_,_,by omega,by go_num,(fun j hj=>by
          rcases Nat.lt_succ_iff_lt_or_eq.1 hj with h|h
          ·exact HA2.out.2.1 j h
          ·rw[h, ←HX.out];exact HGx.out),H9.out⟩
         case measure=>simp[intOf];omega
        ·go_simp;refine hK.out _ _ trivial (fun _=>?_);clear hK K;try simp only[Act.put,aq,au,av,ay,az,aA]
         refine wpAnyH_ready (rs:=[1,8]) (by kernel_rfl) (by simp) ?_;refine AllReadyH.cons (o:=_) rfl (fun K hK=>?_) (AllReadyH.cons (o:=_) rfl (fun K hK=>?_) AllReadyH.nil)
         ·go_simp;refine hK.out _ _ trivial (fun _=>?_);clear hK K;try simp only[Act.put,aq,au,av,ay,az,aA]
          refine aG 8 rfl fun K hK=>?_;go_simp;refine(lj _ zs x _ (HR.out.1.below (HQ.out.b.old.drew)) h1 HR.out.2.1 HGx.out).mono ?_;rintro e w8 ⟨u8v,rfl,o8,b8⟩;have B8:=ae (Below wc.heap.size wc w8) ((ak.drew).trans b8);have Q8:=aa (HQ.out.below B8.out);have hus:u8v.ownBlock≠vS.ownBlock:=nO o8 HQ.out.sec;obtain⟨ua,uc,rfl⟩:=bK o8;have O8:=aa (bZ o8 (show w.heap.size≤wc.heap.size from HQ.out.b.old.size));have e6c:=(Q8.out.b.tree.cell 6).trans (show _=some (.slice wva k wvc) from rfl);have bB:Below w8.heap.size w8 (w8.alloc (.cells #[.slice ua 128 uc] 29)):=ak.alloc aj _;have e6A:=((Q8.out.below bB).b.tree.cell 6).trans (show _=some (.slice wva k wvc) from rfl);have HUS:=aa hus;clear o8 b8 hus;refine hK.out _ _ trivial (fun _=>?_);clear hK K;try simp only[Act.put,aq,au,av,ay,az,aA]
          refine aG 9 rfl fun K hK=>?_;go_simp;refine hK.out _ _ trivial (fun _=>?_);clear hK K;try simp only[Act.put,aq,au,av,ay,az,aA]
          refine aG 10 rfl fun K hK=>?_;rw[if_pos (by rfl)];refine iA (.tmp 76) (.tmp 84) 71 rfl w.heap.size 29 j0 aF 1 24 underlying71 hj hj0 hj1 hj2 rfl (by decide) (.slice wva k wvc) k _ rfl (aY Q8.out.wrd bB) ⟨w8.heap.size,0,none⟩ 1 1 [.slice ua 128 uc] rfl rfl (cell_one_new _ _ _) (by simp[Value.oneCell']) (by unfold maxLen;omega) (by omega) (Q8.out.below bB).b.old.size ?_;intro v9 w9 o9 g9 a9;have H9:=aa (fm.mF (Q8.out.below bB) (aY (by rw[←HX.out];exact O8.out) bB) HUS.out o9 g9);have kt9:=((Q8.out.below bB).b.own (aY Q8.out.wrd bB) (by decide) (by decide) g9).tree;have c9:=(kt9.cell 6).trans (show _=some (.slice wva k wvc) from rfl);have f9:=kt9.frozen 6;obtain⟨va9,vc9,rfl⟩:=bK o9;clear o9 g9 a9 kt9;refine hK.out _ _ trivial (fun _=>?_);clear hK K;try simp only[Act.put,aq,au,av,ay,az,aA]
          refine ah 11 (.pointer (some ⟨tb,6,none⟩)) rfl trivial ?_;refine aG 12 rfl fun K hK=>?_;go_simp;refine hK.out _ _ trivial (fun _=>?_);clear hK K;try simp only[Act.put,aq,au,av,ay,az,aA]
          refine bz ?_;go_wp2;go_roundw
          case rel=>exact⟨k+1,vS,_,_,by omega,by go_num,(fun j hj=>by
           rcases Nat.lt_succ_iff_lt_or_eq.1 hj with h|h
           ·exact HA2.out.2.1 j h
           ·rw[h, ←HX.out];exact HGx.out),H9.out⟩
          case measure=>simp[intOf];omega
         ·go_simp;refine(lj _ zs x _ (HR.out.1.below (HQ.out.b.old.drew)) h1 HR.out.2.1 HGx.out).mono ?_;rintro e w8 ⟨u8v,rfl,o8,b8⟩;have B8:=ae (Below wc.heap.size wc w8) ((ak.drew).trans b8);have Q8:=aa (HQ.out.below B8.out);have hus:u8v.ownBlock≠vS.ownBlock:=nO o8 HQ.out.sec;obtain⟨ua,uc,rfl⟩:=bK o8;have O8:=aa (bZ o8 (show w.heap.size≤wc.heap.size from HQ.out.b.old.size));have e6c:=(Q8.out.b.tree.cell 6).trans (show _=some (.slice wva k wvc) from rfl);have bB:Below w8.heap.size w8 (w8.alloc (.cells #[.slice ua 128 uc] 29)):=ak.alloc aj _;have e6A:=((Q8.out.below bB).b.tree.cell 6).trans (show _=some (.slice wva k wvc) from rfl);have HUS:=aa hus;clear o8 b8 hus;refine hK.out _ _ trivial (fun _=>?_);clear hK K;try simp only[Act.put,aq,au,av,ay,az,aA]
          refine wpAnyH_ready (rs:=[1,9]) (by kernel_rfl) (by simp) ?_;refine AllReadyH.cons (o:=_) rfl (fun K hK=>?_) (AllReadyH.cons (o:=_) rfl (fun K hK=>?_) AllReadyH.nil)
          ·go_simp;refine hK.out _ _ trivial (fun _=>?_);clear hK K;try simp only[Act.put,aq,au,av,ay,az,aA]
           refine aG 9 rfl fun K hK=>?_;go_simp;refine hK.out _ _ trivial (fun _=>?_);clear hK K;try simp only[Act.put,aq,au,av,ay,az,aA]
           refine aG 10 rfl fun K hK=>?_;rw[if_pos (by rfl)];refine iA (.tmp 76) (.tmp 84) 71 rfl w.heap.size 29 j0 aF 1 24 underlying71 hj hj0 hj1 hj2 rfl (by decide) (.slice wva k wvc) k _ rfl (aY Q8.out.wrd bB) ⟨w8.heap.size,0,none⟩ 1 1 [.slice ua 128 uc] rfl rfl (cell_one_new _ _ _) (by simp[Value.oneCell']) (by unfold maxLen;omega) (by omega) (Q8.out.below bB).b.old.size ?_;intro v9 w9 o9 g9 a9;have H9:=aa (fm.mF (Q8.out.below bB) (aY (by rw[←HX.out];exact O8.out) bB) HUS.out o9 g9);have kt9:=((Q8.out.below bB).b.own (aY Q8.out.wrd bB) (by decide) (by decide) g9).tree;have c9:=(kt9.cell 6).trans (show _=some (.slice wva k wvc) from rfl);have f9:=kt9.frozen 6;obtain⟨va9,vc9,rfl⟩:=bK o9;clear o9 g9 a9 kt9;refine hK.out _ _ trivial (fun _=>?_);clear hK K;try simp only[Act.put,aq,au,av,ay,az,aA]
           refine ah 11 (.pointer (some ⟨tb,6,none⟩)) rfl trivial ?_;refine aG 12 rfl fun K hK=>?_;go_simp;refine hK.out _ _ trivial (fun _=>?_);clear hK K;try simp only[Act.put,aq,au,av,ay,az,aA]
           refine bz ?_;go_wp2;go_roundw
           case rel=>exact⟨k+1,vS,_,_,by omega,by go_num,(fun j hj=>by
            rcases Nat.lt_succ_iff_lt_or_eq.1 hj with h|h
            ·exact HA2.out.2.1 j h
            ·rw[h, ←HX.out];exact HGx.out),H9.out⟩
           case measure=>simp[intOf];omega
          ·go_simp;refine hK.out _ _ trivial (fun _=>?_);clear hK K;try simp only[Act.put,aq,au,av,ay,az,aA]
           refine aG 1 rfl fun K hK=>?_;go_simp;refine hK.out _ _ trivial (fun _=>?_);clear hK K;try simp only[Act.put,aq,au,av,ay,az,aA]
           refine aG 10 rfl fun K hK=>?_;rw[if_pos (by rfl)];refine iA (.tmp 76) (.tmp 84) 71 rfl w.heap.size 29 j0 aF 1 24 underlying71 hj hj0 hj1 hj2 rfl (by decide) (.slice wva k wvc) k _ rfl (aY Q8.out.wrd bB) ⟨w8.heap.size,0,none⟩ 1 1 [.slice ua 128 uc] rfl rfl (cell_one_new _ _ _) (by simp[Value.oneCell']) (by unfold maxLen;omega) (by omega) (Q8.out.below bB).b.old.size ?_;intro v9 w9 o9 g9 a9;have H9:=aa (fm.mF (Q8.out.below bB) (aY (by rw[←HX.out];exact O8.out) bB) HUS.out o9 g9);have kt9:=((Q8.out.below bB).b.own (aY Q8.out.wrd bB) (by decide) (by decide) g9).tree;have c9:=(kt9.cell 6).trans (show _=some (.slice wva k wvc) from rfl);have f9:=kt9.frozen 6;obtain⟨va9,vc9,rfl⟩:=bK o9;clear o9 g9 a9 kt9;refine hK.out _ _ trivial (fun _=>?_);clear hK K;try simp only[Act.put,aq,au,av,ay,az,aA]
           refine ah 11 (.pointer (some ⟨tb,6,none⟩)) rfl trivial ?_;refine aG 12 rfl fun K hK=>?_;go_simp;refine hK.out _ _ trivial (fun _=>?_);clear hK K;try simp only[Act.put,aq,au,av,ay,az,aA]
           refine bz ?_;go_wp2;go_roundw
           case rel=>exact⟨k+1,vS,_,_,by omega,by go_num,(fun j hj=>by
            rcases Nat.lt_succ_iff_lt_or_eq.1 hj with h|h
            ·exact HA2.out.2.1 j h
            ·rw[h, ←HX.out];exact HGx.out),H9.out⟩
           case measure=>simp[intOf];omega
    ·have hk6:¬(140+128*(k:Int)<(cnt:Int)):=(by have:=ni hcn (show eI cnt≤k by omega);omega);have hk7:k=eI cnt:=(by omega);have HK7:=aa hk7;clear hk7 hk2 hap2 hgk hcello;have HC3:=ae (iz w tb R (aJ zs) (fun i=>ds.getD i 0) p q aF (.slice ia 128 ic) (.slice (some ⟨go,0,none⟩) 128 oc) (.slice sva k svc) (.slice wva k wvc) vs k 0 wr) (by
      have hA:=HA2.out.1;refine⟨hA.b,hA.inn,hA.sec,hA.wrd,fun j hj=>?_,ownsRow_nil _ _ _ _,?_,?_⟩
      ·obtain⟨v,e1,e2,e3⟩:=hA.each j hj;obtain⟨g,e4,_⟩:=ko e2 (by omega);exact⟨v,e1,e2,by rw[e4];intro e;cases e⟩
      ·obtain⟨g,e4,_⟩:=ko hA.inn (by omega);rw[e4];intro e;cases e
      ·cases hv:(Value.slice sva k svc).ownBlock with
       |none=>exact .inr rfl
       |some g=>exact .inl (fun e=>by cases e))
     have HGk:=aa HA2.out.2.1;clear HA2;rename_i wr0 _ _ _
     go_wp2;go_loopw [10] (fun iv' wr=>∃(i:Nat) (dv:Value),i≤cnt∧iv'=.int .i64 (i:Int)∧(∀j,j<i→be (zs.length/512) (bC (aJ zs) (fun i=>ds.getD i 0) p q j)=true)∧iz w tb R (aJ zs) (fun i=>ds.getD i 0) p q dv (.slice ia 128 ic) (.slice (some ⟨go,0,none⟩) 128 oc) (.slice sva k svc) (.slice wva k wvc) vs k i wr) (fun iv' _=>cnt-(intOf iv').toNat)
     case atStart=>exact⟨0,aF,Nat.zero_le _,rfl,fun j hj=>absurd hj (by omega),HC3.out⟩
     case round=>
      obtain⟨i,dv,hi1,rfl,hgi,hap3⟩:=hrel;clear HC3;have HA3:=aa (ag hap3 hgi);by_cases hi2:i<cnt
      ·have hiI:(i:Int)<(cnt:Int):=(by omega);clear hap3;obtain⟨da,dc,rfl⟩:=bK HA3.out.1.dat;obtain⟨x,hx⟩:∃x,x=bC (aJ zs) (fun i=>ds.getD i 0) p q i:=⟨_,rfl⟩;have HXd:=aa hx;clear hx hgi;by_cases h12:i<12
       ·have hxe:x=ds.getD i 0:=(by rw[HXd.out];exact pI h12);have HXe:=aa hxe;clear hxe;go_upto_region 30 with(first
         |(go_at_call 80;refine(Ap i _ h12).mono ?_;rintro e w8 ⟨rfl,b8⟩;simp only[iV];have b9:Below wr.heap.size wr (w8.alloc (.cells #[.int .i64 0,.int .i64 0,.int .i64 (i:Int)] 138)):=b8.alloc b8.size _;have A9:=aa (HA3.out.1.below b9);have kp:=af.new w8 #[.int .i64 0,.int .i64 0,.int .i64 (i:Int)] 138;have p0:=(kp.cell 0).trans rfl;have p1:=(kp.cell 1).trans rfl;have p2:=(kp.cell 2).trans rfl;have cx:=(A9.out.b.root.cell (1+i)).trans (HRc.out.2.2.1 i h12);rw[←HXe.out] at cx;clear b8 b9 kp))
        generalize w8.alloc (.cells #[.int .i64 0,.int .i64 0,.int .i64 (i:Int)] 138)=W9 at A9⊢;clear p0 p1 p2 cx;have bN:Below W9.heap.size W9 (W9.alloc (.cells #[.int .i64 x] 3)):=ak.alloc aj _;have t0:=(A9.out.b.tree.cell 0).trans (show _=some (.slice da i dc) from rfl);cases hg:be (zs.length/512) x with
        |false=>
         have HGx:=aa hg;clear hg t0 bN;go_wp2_with (first
          |(go_at_call 77;refine(jm _ zs x _ (HR.out.1.below A9.out.b.old) h1).mono ?_;rintro e w9 ⟨rfl,hw9⟩;rw[HGx.out,hw9];clear hw9)
          |(refine wpList_store_row rfl 73 _ _ rfl (w.heap.size+1) (cH aF 0 0 aF aF aF aF false) rfl rfl 73 _ A9.out.b.res fI rfl (by simp[Value.oneCell']) ?_))
         refine bodyPost_ret (v:=.agg (cH aF 0 0 aF aF aF aF false)) ?_ rfl ⟨.inr ⟨fun hap=>?_,rfl⟩,below_setRow A9.out.b.old (by omega) _⟩
         ·exact results_cell_row rfl _ _ (w.heap.size+1) 73 _ (0,0) _ rfl (A9.out.b.res.row _) underlying73 rfl fI
         ·have:=hap.2.2.2.2 i hi2;rw[←HXd.out,HGx.out] at this;cases this
        |true=>
         have HGx:=aa hg;clear hg;go_wp2_with (first
          |(go_at_call 77;refine(jm _ zs x _ (HR.out.1.below A9.out.b.old) h1).mono ?_;rintro e w9 ⟨rfl,hw9⟩;rw[HGx.out,hw9];clear hw9)
          |(at_builtin;refine wpList_append_own_at _ rfl (.tmp 132) (.tmp 134) 29 rfl w.heap.size 3 i0 (.int .i64 0) 1 8 underlying29 hi hz0 hz1 hz2 rfl (by decide) (.slice da i dc) i _ rfl (aY A9.out.dat bN) ⟨W9.heap.size,0,none⟩ 1 1 [.int .i64 x] rfl rfl (cell_one_new _ _ _) (by simp[Value.oneCell']) (by unfold maxLen;omega) (by omega) (A9.out.below bN).b.old.size ?_;intro v10 w10 o10 g10 _ a10;have H10:=aa (iz.add (A9.out.below bN) (by rw[←HXd.out];exact o10) g10 a10);have kt10:=((A9.out.below bN).b.own (aY A9.out.dat bN) (by decide) (by decide) g10).tree;have c10:=(kt10.cell 0).trans (show _=some (.slice da i dc) from rfl);have f10:=kt10.frozen 0;obtain⟨va10,vc10,rfl⟩:=bK o10;clear o10 g10 a10 kt10))
         go_roundw
         case rel=>exact⟨i+1,_,by omega,by go_num,(fun j hj=>by
          rcases Nat.lt_succ_iff_lt_or_eq.1 hj with h|h
          ·exact HA3.out.2 j h
          ·rw[h, ←HXd.out];exact HGx.out),H10.out⟩
         case measure=>simp[intOf];omega
       ·by_cases h140:i<140
        ·obtain⟨y,hy0⟩:∃y:Nat,i=y+12:=⟨i-12,by omega⟩;have hy:y<128:=(by omega);have hyI:(y:Int)<128:=(by omega);have HXe:=ae (x=aQ (aJ zs) p y) (by rw[HXd.out,hy0,Nat.add_comm y 12];exact pJ hy);have HY0:=aa hy0;clear hy0;go_upto_region 30 with(first
          |(go_at_call 80;refine(Av i y HY0.out hy _).mono ?_;rintro e w8 ⟨rfl,b8⟩;simp only[iV];have b9:Below wr.heap.size wr (w8.alloc (.cells #[.int .i64 1,.int .i64 0,.int .i64 (y:Int)] 138)):=b8.alloc b8.size _;have A9:=aa (HA3.out.1.below b9);have kp:=af.new w8 #[.int .i64 1,.int .i64 0,.int .i64 (y:Int)] 138;have p0:=(kp.cell 0).trans rfl;have p1:=(kp.cell 1).trans rfl;have p2:=(kp.cell 2).trans rfl;obtain⟨gi,ci,ei,_,hci⟩:=jo A9.out.inn (by omega);injection ei with ei1 ei2 ei3;have cx:=hci y (by omega);rw[show((range 128).map (aQ (aJ zs) p)).getD y 0=aQ (aJ zs) p y by simp[getD,hy], ←HXe.out] at cx;have ti:=(A9.out.b.tree.cell 3).trans (show _=some (.slice ia 128 ic) from rfl);rw[ei1] at ti;clear b8 b9 kp hci ei1 ei2 ei3))
         generalize w8.alloc (.cells #[.int .i64 1,.int .i64 0,.int .i64 (y:Int)] 138)=W9 at A9⊢;clear p0 p1 p2 cx ti;have bN:Below W9.heap.size W9 (W9.alloc (.cells #[.int .i64 x] 3)):=ak.alloc aj _;have t0:=(A9.out.b.tree.cell 0).trans (show _=some (.slice da i dc) from rfl);cases hg:be (zs.length/512) x with
         |false=>
          have HGx:=aa hg;clear hg t0 bN;go_wp2_with (first
           |(go_at_call 77;refine(jm _ zs x _ (HR.out.1.below A9.out.b.old) h1).mono ?_;rintro e w9 ⟨rfl,hw9⟩;rw[HGx.out,hw9];clear hw9)
           |(refine wpList_store_row rfl 73 _ _ rfl (w.heap.size+1) (cH aF 0 0 aF aF aF aF false) rfl rfl 73 _ A9.out.b.res fI rfl (by simp[Value.oneCell']) ?_))
          refine bodyPost_ret (v:=.agg (cH aF 0 0 aF aF aF aF false)) ?_ rfl ⟨.inr ⟨fun hap=>?_,rfl⟩,below_setRow A9.out.b.old (by omega) _⟩
          ·exact results_cell_row rfl _ _ (w.heap.size+1) 73 _ (0,0) _ rfl (A9.out.b.res.row _) underlying73 rfl fI
          ·have:=hap.2.2.2.2 i hi2;rw[←HXd.out,HGx.out] at this;cases this
         |true=>
          have HGx:=aa hg;clear hg;go_wp2_with (first
           |(go_at_call 77;refine(jm _ zs x _ (HR.out.1.below A9.out.b.old) h1).mono ?_;rintro e w9 ⟨rfl,hw9⟩;rw[HGx.out,hw9];clear hw9)
           |(at_builtin;refine wpList_append_own_at _ rfl (.tmp 132) (.tmp 134) 29 rfl w.heap.size 3 i0 (.int .i64 0) 1 8 underlying29 hi hz0 hz1 hz2 rfl (by decide) (.slice da i dc) i _ rfl (aY A9.out.dat bN) ⟨W9.heap.size,0,none⟩ 1 1 [.int .i64 x] rfl rfl (cell_one_new _ _ _) (by simp[Value.oneCell']) (by unfold maxLen;omega) (by omega) (A9.out.below bN).b.old.size ?_;intro v10 w10 o10 g10 _ a10;have H10:=aa (iz.add (A9.out.below bN) (by rw[←HXd.out];exact o10) g10 a10);have kt10:=((A9.out.below bN).b.own (aY A9.out.dat bN) (by decide) (by decide) g10).tree;have c10:=(kt10.cell 0).trans (show _=some (.slice da i dc) from rfl);have f10:=kt10.frozen 0;obtain⟨va10,vc10,rfl⟩:=bK o10;clear o10 g10 a10 kt10))
          go_roundw
          case rel=>exact⟨i+1,_,by omega,by go_num,(fun j hj=>by
           rcases Nat.lt_succ_iff_lt_or_eq.1 hj with h|h
           ·exact HA3.out.2 j h
           ·rw[h, ←HXd.out];exact HGx.out),H10.out⟩
          case measure=>simp[intOf];omega
        ·obtain⟨y,hy0⟩:∃y:Nat,i=y+140:=⟨i-140,by omega⟩;obtain⟨o,ho⟩:∃o:Nat,o=y/128:=⟨_,rfl⟩;obtain⟨n,hn⟩:∃n:Nat,n=y%128:=⟨_,rfl⟩;have hn1:n<128:=(by omega);have hnI:(n:Int)<128:=(by omega);have hok:o<k:=by
          rcases Nat.lt_or_ge o k with h|h
          ·exact h
          ·rw[HK7.out] at h;have:=ni hcn h;omega
         have hoI:(o:Int)<(k:Int):=(by omega);have HXe:=ae (x=aQ (aJ zs) (aQ (aJ zs) q o) n) (by
          rw[HXd.out,hy0,show y+140=140+128*o+n by omega];exact pK hn1)
         have HY0:=aa (ag hy0 (ag ho hn));have hy372:y<372:=(by omega);clear hy0 ho hn;go_upto_region 29 with(first
          |(go_at_call 80;refine(Aw i y o n HY0.out.1 hy372 HY0.out.2.1 HY0.out.2.2 _).mono ?_;rintro e w8 ⟨rfl,b8⟩;simp only[iV];have b9:Below wr.heap.size wr (w8.alloc (.cells #[.int .i64 2,.int .i64 (o:Int),.int .i64 (n:Int)] 138)):=b8.alloc b8.size _;have A9:=aa (HA3.out.1.below b9);have kp:=af.new w8 #[.int .i64 2,.int .i64 (o:Int),.int .i64 (n:Int)] 138;have p0:=(kp.cell 0).trans rfl;have p1:=(kp.cell 1).trans rfl;have p2:=(kp.cell 2).trans rfl;have HKp:=aa kp;clear b8 b9 kp))
         obtain⟨vo,hvo,hvr,_⟩:=A9.out.each o hok;obtain⟨gw,hcw⟩:=Ay A9.out.wrd (show 0<k by omega);obtain⟨cw,ew,hcw⟩:=hcw;injection ew with ew1 ew2 ew3;obtain⟨gv,cv,rfl,_,hcv⟩:=jo hvr (by omega);have cw1:=hcw o _ hvo;have cx:=hcv n hn1;rw[show((range 128).map (aQ (aJ zs) (aQ (aJ zs) q o))).getD n 0=aQ (aJ zs) (aQ (aJ zs) q o) n by simp[getD,hn1], ←HXe.out] at cx;have tw:=(A9.out.b.tree.cell 6).trans (show _=some (.slice wva k wvc) from rfl);rw[ew1] at tw;clear hcw hcv hvr hvo ew1 ew2 ew3;go_quiet (fail)
         go_upto_region 30 with fail;have A9q:=aa (fun nq=>A9.out.below (Az ak nq));clear A9 p0 p1 p2 cx tw cw1;generalize hWd:World.drewN _ _=W9;have A9:=ae (iz w tb R (aJ zs) (fun i=>ds.getD i 0) p q (.slice da i dc) (.slice ia 128 ic) (.slice (some ⟨go,0,none⟩) 128 oc) (.slice sva k svc) (.slice wva k wvc) vs k i W9) (by rw[←hWd];exact A9q.out _);clear hWd A9q;have bN:Below W9.heap.size W9 (W9.alloc (.cells #[.int .i64 x] 3)):=ak.alloc aj _;have t0:=(A9.out.b.tree.cell 0).trans (show _=some (.slice da i dc) from rfl);cases hg:be (zs.length/512) x with
         |false=>
          have HGx:=aa hg;clear hg t0 bN;go_wp2_with (first
           |(go_at_call 77;refine(jm _ zs x _ (HR.out.1.below A9.out.b.old) h1).mono ?_;rintro e w9 ⟨rfl,hw9⟩;rw[HGx.out,hw9];clear hw9)
           |(refine wpList_store_row rfl 73 _ _ rfl (w.heap.size+1) (cH aF 0 0 aF aF aF aF false) rfl rfl 73 _ A9.out.b.res fI rfl (by simp[Value.oneCell']) ?_))
          refine bodyPost_ret (v:=.agg (cH aF 0 0 aF aF aF aF false)) ?_ rfl ⟨.inr ⟨fun hap=>?_,rfl⟩,below_setRow A9.out.b.old (by omega) _⟩
          ·exact results_cell_row rfl _ _ (w.heap.size+1) 73 _ (0,0) _ rfl (A9.out.b.res.row _) underlying73 rfl fI
          ·have:=hap.2.2.2.2 i hi2;rw[←HXd.out,HGx.out] at this;cases this
         |true=>
          have HGx:=aa hg;clear hg;go_wp2_with (first
           |(go_at_call 77;refine(jm _ zs x _ (HR.out.1.below A9.out.b.old) h1).mono ?_;rintro e w9 ⟨rfl,hw9⟩;rw[HGx.out,hw9];clear hw9)
           |(at_builtin;refine wpList_append_own_at _ rfl (.tmp 132) (.tmp 134) 29 rfl w.heap.size 3 i0 (.int .i64 0) 1 8 underlying29 hi hz0 hz1 hz2 rfl (by decide) (.slice da i dc) i _ rfl (aY A9.out.dat bN) ⟨W9.heap.size,0,none⟩ 1 1 [.int .i64 x] rfl rfl (cell_one_new _ _ _) (by simp[Value.oneCell']) (by unfold maxLen;omega) (by omega) (A9.out.below bN).b.old.size ?_;intro v10 w10 o10 g10 _ a10;have H10:=aa (iz.add (A9.out.below bN) (by rw[←HXd.out];exact o10) g10 a10);have kt10:=((A9.out.below bN).b.own (aY A9.out.dat bN) (by decide) (by decide) g10).tree;have c10:=(kt10.cell 0).trans (show _=some (.slice da i dc) from rfl);have f10:=kt10.frozen 0;obtain⟨va10,vc10,rfl⟩:=bK o10;clear o10 g10 a10 kt10))
          go_roundw
          case rel=>exact⟨i+1,_,by omega,by go_num,(fun j hj=>by
           rcases Nat.lt_succ_iff_lt_or_eq.1 hj with h|h
           ·exact HA3.out.2 j h
           ·rw[h, ←HXd.out];exact HGx.out),H10.out⟩
          case measure=>simp[intOf];omega
      ·have hi3:i=cnt:=(by omega);subst hi3;clear hi2 hap3 hgi;go_wp2_with (first
        |(refine wpList_load_row rfl 73 _ rfl tb rfl 73 (cH dv p q (.slice ia 128 ic) (.slice (some ⟨go,0,none⟩) 128 oc) (.slice sva k svc) (.slice wva k wvc) true) (0,0) _ HA3.out.1.b.tree underlying73 rfl fI ?_)
        |(refine wpList_store_row rfl 73 _ _ rfl (w.heap.size+1) (cH dv p q (.slice ia 128 ic) (.slice (some ⟨go,0,none⟩) 128 oc) (.slice sva k svc) (.slice wva k wvc) true) rfl rfl 73 _ HA3.out.1.b.res fI rfl (uu HA3.out.1.dat) ?_))
       refine bodyPost_ret (v:=.agg (cH dv p q (.slice ia 128 ic) (.slice (some ⟨go,0,none⟩) 128 oc) (.slice sva k svc) (.slice wva k wvc) true)) ?_ rfl ⟨.inl ⟨⟨HGD.out,HGS.out,HGX.out,fun j hj hc=>HGk.out j ?_,HA3.out.2⟩,dv,_,_,_,_,rfl,uu HA3.out.1.dat,uv HA3.out.1.dat HA3.out.1.b.res (by decide),by rw[←HK7.out];exact uv HA3.out.1.sec HA3.out.1.b.res (by decide),HA3.out.1.a2⟩,below_setRow HA3.out.1.b.old (by omega) _⟩
       ·exact results_cell_row rfl _ _ (w.heap.size+1) 73 _ (0,0) _ rfl (HA3.out.1.b.res.row _) underlying73 rfl fI
       ·rcases Nat.lt_or_ge j k with h|h
        ·exact h
        ·rw[HK7.out] at h;have:=ni hcn h;omega
end
end Go.Proofs.YtlimollpocagiaaGreatDoor
