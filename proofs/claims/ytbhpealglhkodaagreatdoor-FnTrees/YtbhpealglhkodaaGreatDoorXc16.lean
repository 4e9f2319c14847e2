/- The model takes a tree apart: l03Apart. -/
import Derived.Test.YtbhpealglhkodaaGreatDoorXc15
import Derived.Deep.CutRange
import Derived.Maps.AppendAt
namespace Go.Proofs.YtbhpealglhkodaaGreatDoor
set_option linter.all false
set_option maxRecDepth 100000
set_option maxHeartbeats 16000000
section
open Go.RowKit
theorem infoTr8:(Tryz.prog.info? 93).map (·.size)=some 8:=by kernel_rfl
abbrev treeC(dv:Value)(S X:Int)(iv ov sv wv:Value)(ok:Bool):Array Value:=#[dv,.int .i64 S,.int .i64 X,iv,ov,sv,wv,.bool ok]
abbrev nilV:Value:=.slice none 0 0
theorem blk_off{W:World}{base n b:Nat}{e t:TypeId}{v:Value}{xs:List Value}{C:Array Value}(h:W.ownsRow base e 1 v n xs)(hb:Blk W b C t)(ht:t≠e):v.ownBlock≠some b:=fun hv=>by
 rcases h.2 with⟨rfl,_⟩|⟨g,cap,cur,rfl,_,hg,_⟩
 ·simp[Value.ownBlock] at hv
 ·simp[Value.ownBlock] at hv;subst hv;rw[hb] at hg;cases hg
  exact ht rfl
theorem blk_own{W W':World}{base n b:Nat}{e t:TypeId}{v:Value}{xs:List Value}{C:Array Value}(h:W.ownsRow base e 1 v n xs)(hb:Blk W b C t)(ht:t≠e)(hg:W.grownBy W' v.ownBlock):Blk W' b C t:=
 (hg.block b hb.lt (fun e'=>blk_off h hb ht e'.symm)).trans hb
theorem own_shapeT{w:World}{base:Nat}{e:TypeId}{v:Value}{n:Nat}{xs:List Value}(h:w.ownsRow base e 1 v n xs):∃a cap,v=.slice a n cap:=by
 rcases h.2 with⟨rfl,rfl⟩|⟨g,cap,_,rfl,_⟩
 ·exact⟨_,_,rfl⟩
 ·exact⟨_,_,rfl⟩
theorem own_cellT{k:IntKind}{w:World}{base:Nat}{e:TypeId}{v:Value}{n:Nat}{zs:List Int}(h:w.ownsRow base e 1 v n (zs.map (Value.int k)))(hn:0<n):∃g cap,v=.slice (some ⟨g,0,none⟩) n cap∧n≤cap∧∀i,i<n→w.cell? ⟨g,i,none⟩=some (.int k (zs.getD i 0)):=by
 have hl:zs.length=n:=by have:=h.1;simpa using this
 rcases h.2 with⟨_,h0⟩|⟨g,cap,cur,rfl,_,hg,hc,_,hcs,ht⟩
 ·omega
 ·refine⟨g,cap,rfl,hc,fun i hi=>?_⟩;have hx:w.cell? ⟨g,i,none⟩=cur[i]?:=cell_of_row w g i cur e (0,0) hg;rw[hx];have h2:cur.toList[i]?=(zs.map (Value.int k))[i]?:=by
   rw[←ht,List.getElem?_take,if_pos (by omega)]
  rw[Array.getElem?_toList] at h2;rw[h2,List.getElem?_map,List.getElem?_eq_getElem (by omega)];simp[List.getD,show i<zs.length by omega]
def goodTo(n:Nat)(L:List Int)(k:Nat):Prop:=∀j,j<k→goodP n (L.getD j 0)=true
theorem ptrD{ds:List Int}{p q:Int}{i:Nat}(hd:ds.length=12)(hi:i<12):(ds++[p,q]).getD i 0=ds.getD i 0:=by
 simp[List.getD,List.getElem?_append,hd,hi]
theorem ptr12{ds:List Int}{p q:Int}(hd:ds.length=12):(ds++[p,q]).getD 12 0=p:=by
 simp[List.getD,List.getElem?_append,hd]
theorem ptr13{ds:List Int}{p q:Int}(hd:ds.length=12):(ds++[p,q]).getD 13 0=q:=by
 simp[List.getD,List.getElem?_append,hd]
theorem apart_ptr{cnt n:Nat}{Wd:Int→Nat→Int}{ds:List Int}{p q:Int}(hd:ds.length=12)(h:apartP cnt n Wd (fun i=>ds.getD i 0) p q)(k:Nat)(hk:k<14):goodP n ((ds++[p,q]).getD k 0)=true:=by
 by_cases h1:k<12
 ·rw[ptrD hd h1];exact h.1 k h1
 ·by_cases h2:k=12
  ·subst h2;rw[ptr12 hd];exact h.2.1
  ·have h3:k=13:=(by omega);subst h3;rw[ptr13 hd];exact h.2.2.1
def ApartR(w:World)(cnt n:Nat)(Wd:Int→Nat→Int)(D:Nat→Int)(S X:Int)(e:Ending)(w':World):Prop:=
 (apartP cnt n Wd D S X∧∃dv iv ov sv wv,e=.returned (.agg (treeC dv S X iv ov sv wv true))∧(treeC dv S X iv ov sv wv true).all (·.oneCell')=true∧w'.ownsRow w.heap.size 3 1 dv cnt (((List.range cnt).map (datP Wd D S X)).map (Value.int .i64))∧w'.ownsRow w.heap.size 3 1 sv (secN cnt) (((List.range (secN cnt)).map (hwP Wd X)).map (Value.int .i64))∧(sv.ownBlock≠dv.ownBlock∨sv.ownBlock=none))∨
 (¬apartP cnt n Wd D S X∧e=.returned (.agg (treeC nilV 0 0 nilV nilV nilV nilV false)))
structure ApB(w:World)(tb:Nat)(R T:Array Value)(W:World):Prop where
 root:Blk W w.heap.size R 27
 res:Blk W (w.heap.size+1) (treeC nilV 0 0 nilV nilV nilV nilV false) 93
 tree:Blk W tb T 93
 old:Below w.heap.size w W
 tb2:w.heap.size+2≤tb
theorem ApB.below{w:World}{tb:Nat}{R T:Array Value}{W W':World}(h:ApB w tb R T W)(hb:Below W.heap.size W W'):ApB w tb R T W':=
 ⟨h.root.below hb h.root.lt,h.res.below hb h.res.lt,h.tree.below hb h.tree.lt,h.old.trans (hb.mono h.old.size),h.tb2⟩
theorem ApB.set{w:World}{tb:Nat}{R T:Array Value}{W:World}(h:ApB w tb R T W)(k:Nat)(v:Value):ApB w tb R (T.setIfInBounds k v) (W.setCell ⟨tb,k,none⟩ v):=
 ⟨h.root.other _ _ (by have:=h.tb2;show w.heap.size≠tb;omega),h.res.other _ _ (by have:=h.tb2;show w.heap.size+1≠tb;omega),h.tree.set k v,h.old.setCell (p:=⟨tb,k,none⟩) (by have:=h.tb2;show w.heap.size≤tb;omega) _,h.tb2⟩
theorem ApB.own{w:World}{tb:Nat}{R T:Array Value}{W W':World}{n:Nat}{e:TypeId}{v:Value}{xs:List Value}(h:ApB w tb R T W)(ho:W.ownsRow w.heap.size e 1 v n xs)(h1:27≠e)(h2:93≠e)(hg:W.grownBy W' v.ownBlock):ApB w tb R T W':=
 ⟨blk_own ho h.root h1 hg,blk_own ho h.res h2 hg,blk_own ho h.tree h2 hg,h.old.grown hg h.old.size (fun k e=>(ho.lt k e).1),h.tb2⟩
structure Ap2(w:World)(tb:Nat)(R:Array Value)(Wd:Int→Nat→Int)(p q:Int)(iv ov sv wv:Value)(vs:List Value)(k m:Nat)(W:World):Prop where
 b:ApB w tb R (treeC nilV p q iv ov sv wv true) W
 inn:W.ownsRow w.heap.size 3 1 iv 128 (((List.range 128).map (hwP Wd p)).map (Value.int .i64))
 out:W.ownsRow w.heap.size 3 1 ov 128 (((List.range 128).map (hwP Wd q)).map (Value.int .i64))
 sec:W.ownsRow w.heap.size 3 1 sv k (((List.range k).map (hwP Wd q)).map (Value.int .i64))
 wrd:W.ownsRow w.heap.size 26 1 wv m vs
 each:∀j,j<m→∃v,vs[j]?=some v∧W.ownsRow w.heap.size 3 1 v 128 (((List.range 128).map (hwP Wd (hwP Wd q j))).map (Value.int .i64))∧v.ownBlock≠sv.ownBlock
 a1:iv.ownBlock≠sv.ownBlock
 a2:ov.ownBlock≠sv.ownBlock
theorem own_belowT{w w':World}{base n:Nat}{e:TypeId}{v:Value}{xs:List Value}(h:w.ownsRow base e 1 v n xs)(hb:Below w.heap.size w w'):w'.ownsRow base e 1 v n xs:=
 h.kept (row:=none) ⟨hb.os,hb.tape,hb.output,hb.size,fun k hk _=>hb.block k hk⟩ (by cases v.ownBlock with|none=>exact .inl rfl|some k=>exact .inr (fun h=>by cases h))
theorem own_setT{w:World}{base n b k:Nat}{e t:TypeId}{v u:Value}{xs:List Value}{C:Array Value}(h:w.ownsRow base e 1 v n xs)(hb:Blk w b C t)(ht:t≠e):(w.setCell ⟨b,k,none⟩ u).ownsRow base e 1 v n xs:=
 h.kept (row:=some b) ⟨rfl,rfl,rfl,by simp,fun j hj hne=>Below.heap_setCell w ⟨b,k,none⟩ u j (fun e=>hne (by rw[e]))⟩ (.inr (blk_off h hb ht))
theorem Ap2.below{w:World}{tb:Nat}{R:Array Value}{Wd:Int→Nat→Int}{p q:Int}{iv ov sv wv:Value}{vs:List Value}{k m:Nat}{W W':World}(h:Ap2 w tb R Wd p q iv ov sv wv vs k m W)(hb:Below W.heap.size W W'):Ap2 w tb R Wd p q iv ov sv wv vs k m W':=
 ⟨h.b.below hb,own_belowT h.inn hb,own_belowT h.out hb,own_belowT h.sec hb,own_belowT h.wrd hb,fun j hj=>by obtain⟨v,h1,h2,h3⟩:=h.each j hj;exact⟨v,h1,own_belowT h2 hb,h3⟩,h.a1,h.a2⟩
theorem own_some{w:World}{base n:Nat}{e:TypeId}{v:Value}{xs:List Value}(h:w.ownsRow base e 1 v n xs)(hn:0<n):∃g,v.ownBlock=some g∧base≤g∧g<w.heap.size:=by
 rcases h.2 with⟨_,h0⟩|⟨g,cap,cur,rfl,hb,hg,_⟩
 ·omega
 ·exact⟨g,rfl,(h.lt g rfl).1,(h.lt g rfl).2⟩
theorem Ap2.addS{w:World}{tb:Nat}{R:Array Value}{Wd:Int→Nat→Int}{p q:Int}{iv ov sv wv:Value}{vs:List Value}{k:Nat}{W W':World}{v':Value}(h:Ap2 w tb R Wd p q iv ov sv wv vs k k W)(ho:W'.ownsRow w.heap.size 3 1 v' (k+1) (((List.range k).map (hwP Wd q)).map (Value.int .i64)++[.int .i64 (hwP Wd q k)]))(hg:W.grownBy W' sv.ownBlock)(ha:v'.ownBlock=sv.ownBlock∨v'.ownBlock=some W.heap.size):
 Ap2 w tb R Wd p q iv ov v' wv vs (k+1) k (W'.setCell ⟨tb,5,none⟩ v'):=by
 have hB:ApB w tb R (treeC nilV p q iv ov sv wv true) W':=h.b.own h.sec (by decide) (by decide) hg;have keep:∀{u:Value} {L:List Value} {n:Nat} {e:TypeId},W.ownsRow w.heap.size e 1 u n L→u.ownBlock≠sv.ownBlock∨u.ownBlock=none→W'.ownsRow w.heap.size e 1 u n L:=fun hu hne=>hu.kept hg (hne.elim .inr .inl);have apart:∀{u:Value} {L:List Value} {n:Nat} {e:TypeId},W.ownsRow w.heap.size e 1 u n L→0<n→u.ownBlock≠sv.ownBlock→u.ownBlock≠v'.ownBlock:=fun hu hn hne=>by
  obtain⟨g,e1,_,e2⟩:=own_some hu hn;rcases ha with e3|e3
  ·rw[e3];exact hne
  ·rw[e3,e1];intro e;injection e with e;omega
 have hw2:wv.ownBlock≠sv.ownBlock∨wv.ownBlock=none:=by
  cases hv:wv.ownBlock with
  |none=>exact .inr rfl
  |some g=>
   refine .inl fun e=>?_;rcases h.wrd.2 with⟨rfl,_⟩|⟨g1,cap,cur,rfl,_,hg1,_⟩
   ·simp[Value.ownBlock] at hv
   ·simp[Value.ownBlock] at hv;subst hv;exact blk_off h.sec (show Blk W g1 cur 26 from hg1) (by decide) e.symm
 refine⟨hB.set 5 v',own_setT (keep h.inn (.inl h.a1)) hB.tree (by decide),own_setT (keep h.out (.inl h.a2)) hB.tree (by decide),own_setT (by rw[List.range_succ,List.map_append,List.map_append];exact ho) hB.tree (by decide),own_setT (keep h.wrd hw2) hB.tree (by decide),fun j hj=>?_,apart h.inn (by omega) h.a1,apart h.out (by omega) h.a2⟩;obtain⟨v,h1,h2,h3⟩:=h.each j hj;exact⟨v,h1,own_setT (keep h2 (.inl h3)) hB.tree (by decide),apart h2 (by omega) h3⟩
theorem Ap2.addW{w:World}{tb:Nat}{R:Array Value}{Wd:Int→Nat→Int}{p q:Int}{iv ov sv wv:Value}{vs:List Value}{k:Nat}{W W':World}{u v':Value}(h:Ap2 w tb R Wd p q iv ov sv wv vs (k+1) k W)(hu:W.ownsRow w.heap.size 3 1 u 128 (((List.range 128).map (hwP Wd (hwP Wd q k))).map (Value.int .i64)))(hus:u.ownBlock≠sv.ownBlock)(ho:W'.ownsRow w.heap.size 26 1 v' (k+1) (vs++[u]))(hg:W.grownBy W' wv.ownBlock):
 Ap2 w tb R Wd p q iv ov sv v' (vs++[u]) (k+1) (k+1) (W'.setCell ⟨tb,6,none⟩ v'):=by
 have hB:ApB w tb R (treeC nilV p q iv ov sv wv true) W':=h.b.own h.wrd (by decide) (by decide) hg;have keep:∀{u:Value} {L:List Value} {n:Nat},W.ownsRow w.heap.size 3 1 u n L→W'.ownsRow w.heap.size 3 1 u n L:=fun {u L n} hu=>by
  refine hu.kept hg ?_;cases hv:u.ownBlock with
  |none=>exact .inl rfl
  |some g=>
   refine .inr fun e=>?_;rcases hu.2 with⟨rfl,_⟩|⟨g1,cap,cur,rfl,_,hg1,_⟩
   ·simp[Value.ownBlock] at hv
   ·simp[Value.ownBlock] at hv;subst hv;exact blk_off h.wrd (show Blk W g1 cur 3 from hg1) (by decide) e.symm
 have hl:vs.length=k:=by have:=h.wrd.1;simpa using this
 refine⟨hB.set 6 v',own_setT (keep h.inn) hB.tree (by decide),own_setT (keep h.out) hB.tree (by decide),own_setT (keep h.sec) hB.tree (by decide),own_setT ho hB.tree (by decide),fun j hj=>?_,h.a1,h.a2⟩;by_cases hjk:j<k
 ·obtain⟨v,h1,h2,h3⟩:=h.each j hjk;exact⟨v,by rw[List.getElem?_append_left (by omega)];exact h1,own_setT (keep h2) hB.tree (by decide),h3⟩
 ·have hj2:j=k:=by omega
  subst hj2;exact⟨u,by rw[List.getElem?_append_right (by omega),hl];simp,own_setT (keep hu) hB.tree (by decide),hus⟩
structure Ap3(w:World)(tb:Nat)(R:Array Value)(Wd:Int→Nat→Int)(D:Nat→Int)(p q:Int)(dv iv ov sv wv:Value)(vs:List Value)(m i:Nat)(W:World):Prop where
 b:ApB w tb R (treeC dv p q iv ov sv wv true) W
 inn:W.ownsRow w.heap.size 3 1 iv 128 (((List.range 128).map (hwP Wd p)).map (Value.int .i64))
 sec:W.ownsRow w.heap.size 3 1 sv m (((List.range m).map (hwP Wd q)).map (Value.int .i64))
 wrd:W.ownsRow w.heap.size 26 1 wv m vs
 each:∀j,j<m→∃v,vs[j]?=some v∧W.ownsRow w.heap.size 3 1 v 128 (((List.range 128).map (hwP Wd (hwP Wd q j))).map (Value.int .i64))∧v.ownBlock≠dv.ownBlock
 dat:W.ownsRow w.heap.size 3 1 dv i (((List.range i).map (datP Wd D p q)).map (Value.int .i64))
 a1:iv.ownBlock≠dv.ownBlock
 a2:sv.ownBlock≠dv.ownBlock∨sv.ownBlock=none
theorem Ap3.below{w:World}{tb:Nat}{R:Array Value}{Wd:Int→Nat→Int}{D:Nat→Int}{p q:Int}{dv iv ov sv wv:Value}{vs:List Value}{m i:Nat}{W W':World}(h:Ap3 w tb R Wd D p q dv iv ov sv wv vs m i W)(hb:Below W.heap.size W W'):Ap3 w tb R Wd D p q dv iv ov sv wv vs m i W':=
 ⟨h.b.below hb,own_belowT h.inn hb,own_belowT h.sec hb,own_belowT h.wrd hb,fun j hj=>by obtain⟨v,h1,h2,h3⟩:=h.each j hj;exact⟨v,h1,own_belowT h2 hb,h3⟩,own_belowT h.dat hb,h.a1,h.a2⟩
theorem Ap3.add{w:World}{tb:Nat}{R:Array Value}{Wd:Int→Nat→Int}{D:Nat→Int}{p q:Int}{dv iv ov sv wv:Value}{vs:List Value}{m i:Nat}{W W':World}{v':Value}(h:Ap3 w tb R Wd D p q dv iv ov sv wv vs m i W)(ho:W'.ownsRow w.heap.size 3 1 v' (i+1) (((List.range i).map (datP Wd D p q)).map (Value.int .i64)++[.int .i64 (datP Wd D p q i)]))(hg:W.grownBy W' dv.ownBlock)(ha:v'.ownBlock=dv.ownBlock∨v'.ownBlock=some W.heap.size):
 Ap3 w tb R Wd D p q v' iv ov sv wv vs m (i+1) (W'.setCell ⟨tb,0,none⟩ v'):=by
 have hB:ApB w tb R (treeC dv p q iv ov sv wv true) W':=h.b.own h.dat (by decide) (by decide) hg;have keep:∀{u:Value} {L:List Value} {n:Nat} {e:TypeId},W.ownsRow w.heap.size e 1 u n L→u.ownBlock≠dv.ownBlock∨u.ownBlock=none→W'.ownsRow w.heap.size e 1 u n L:=fun hu hne=>hu.kept hg (hne.elim .inr .inl);have apart:∀{u:Value} {L:List Value} {n:Nat} {e:TypeId},W.ownsRow w.heap.size e 1 u n L→u.ownBlock≠dv.ownBlock∨u.ownBlock=none→u.ownBlock≠v'.ownBlock∨u.ownBlock=none:=fun {u L n e} hu hne=>by
  cases hv:u.ownBlock with
  |none=>exact .inr rfl
  |some g=>
   refine .inl fun e4=>?_;rcases ha with e3|e3
   ·rw[e3] at e4;rcases hne with h5|h5
    ·exact h5 (hv.trans e4)
    ·rw[hv] at h5;cases h5
   ·rw[e3] at e4;injection e4 with e4;have:=(hu.lt g hv).2;omega
 have strong:∀{u:Value} {L:List Value} {n:Nat} {e:TypeId},W.ownsRow w.heap.size e 1 u n L→0<n→u.ownBlock≠dv.ownBlock→u.ownBlock≠v'.ownBlock:=fun hu hn hne=>by
  obtain⟨g,e1,_⟩:=own_some hu hn;rcases apart hu (.inl hne) with h5|h5
  ·exact h5
  ·rw[e1] at h5;cases h5
 have hw2:wv.ownBlock≠dv.ownBlock∨wv.ownBlock=none:=by
  cases hv:wv.ownBlock with
  |none=>exact .inr rfl
  |some g=>
   refine .inl fun e=>?_;rcases h.wrd.2 with⟨rfl,_⟩|⟨g1,cap,cur,rfl,_,hg1,_⟩
   ·simp[Value.ownBlock] at hv
   ·simp[Value.ownBlock] at hv;subst hv;exact blk_off h.dat (show Blk W g1 cur 26 from hg1) (by decide) e.symm
 refine⟨hB.set 0 v',own_setT (keep h.inn (.inl h.a1)) hB.tree (by decide),own_setT (keep h.sec h.a2) hB.tree (by decide),own_setT (keep h.wrd hw2) hB.tree (by decide),fun j hj=>?_,own_setT (by rw[List.range_succ,List.map_append,List.map_append];exact ho) hB.tree (by decide),strong h.inn (by omega) h.a1,apart h.sec h.a2⟩;obtain⟨v,h1,h2,h3⟩:=h.each j hj;exact⟨v,h1,own_setT (keep h2 (.inl h3)) hB.tree (by decide),strong h2 (by omega) h3⟩
theorem treeC_one{W:World}{base n:Nat}{e:TypeId}{dv:Value}{xs:List Value}{p q:Int}{a1 a2 a3 a4:Option Addr}{n1 n2 n3 n4 c1 c2 c3 c4:Nat}(h:W.ownsRow base e 1 dv n xs):(treeC dv p q (.slice a1 n1 c1) (.slice a2 n2 c2) (.slice a3 n3 c3) (.slice a4 n4 c4) true).all (·.oneCell')=true:=by
 obtain⟨a,c,rfl⟩:=own_shapeT h;simp[Value.oneCell']
theorem own_setRowT{w:World}{base n b:Nat}{e t:TypeId}{v:Value}{xs:List Value}{C cs:Array Value}(h:w.ownsRow base e 1 v n xs)(hb:Blk w b C t)(ht:t≠e):(w.setRow b cs).ownsRow base e 1 v n xs:=
 h.kept (row:=some b) ⟨rfl,rfl,rfl,by simp[World.setRow],fun k hk hne=>by simp[World.setRow,Array.getElem?_modify,show ¬b=k from fun e=>hne (by rw[e])]⟩ (.inr (blk_off h hb ht))
theorem specQ_1(i y:Nat)(h:i=y+12)(hy:y<128)(w:World):Calls Tryz.prog 74 #[.int .i64 (i:Int)] w fun e w'=>e=.returned (placeV 1 0 (y:Int) 0)∧Below w.heap.size w w':=by
 subst h;exact specP_1 y w hy
theorem specQ_2(i y o n:Nat)(h:i=y+140)(hy:y<372)(ho:o=y/128)(hn:n=y%128)(w:World):Calls Tryz.prog 74 #[.int .i64 (i:Int)] w fun e w'=>e=.returned (placeV 2 (o:Int) (n:Int) 0)∧Below w.heap.size w w':=by
 subst h ho hn;exact specP_2 y w hy
theorem own_cellS{w:World}{base:Nat}{e:TypeId}{v:Value}{n:Nat}{vs:List Value}(h:w.ownsRow base e 1 v n vs)(hn:0<n):∃g cap,v=.slice (some ⟨g,0,none⟩) n cap∧∀(i:Nat) (u:Value),vs[i]?=some u→w.cell? ⟨g,i,none⟩=some u:=by
 have hl:vs.length=n:=by have:=h.1;simpa using this
 rcases h.2 with⟨_,h0⟩|⟨g,cap,cur,rfl,_,hg,hc,_,hcs,ht⟩
 ·omega
 ·refine⟨g,cap,rfl,fun i u hu=>?_⟩;have hi:i<n:=by
   rcases Nat.lt_or_ge i vs.length with h|h
   ·omega
   ·rw[List.getElem?_eq_none h] at hu;cases hu
  have hx:w.cell? ⟨g,i,none⟩=cur[i]?:=cell_of_row w g i cur e (0,0) hg;rw[hx, ←hu, ←ht,List.getElem?_take,if_pos (by omega),Array.getElem?_toList]
theorem belNT{B:Nat}{w w':World}(h:Below B w w')(n:Nat):Below B w (w'.drewN n):=⟨h.os,h.tape,h.output,h.size,h.block⟩
theorem infoSl:(Tryz.prog.info? 26).map (fun i=>(i.zero,i.size,i.bytes))=some (some nilV,1,24):=by kernel_rfl
theorem ap_new{W W':World}{base n m:Nat}{e:TypeId}{u v:Value}{xs ys:List Value}(h:W'.ownsRow (World.drew W).heap.size e 1 u (m+1) xs)(hv:W.ownsRow base e 1 v n ys):u.ownBlock≠v.ownBlock:=by
 obtain⟨g,e1,e2,_⟩:=own_some h (by omega);rw[e1];intro e;have:=(hv.lt g e.symm).2;have e3:W.heap.size≤g:=e2;omega
theorem wp_append_own_atT{P:Program}{w:World}{o:Oper}{a:Act}{K:Act→World→Prop}{Q:Exit→Act→World→Prop}(s x:Operand)(t:TypeId)
 (ho:o.op=.call {callee:=.builtin .append,args:=#[s,x],argTypes:=#[t,t]})
 (base:Nat) (e:TypeId) (i:TypeInfo) (z:Value) (size bytes:Nat) (ht:P.underlying t=some (.slice e)) (hi:P.info? e=some i) (hz:i.zero=some z)
 (hsize:i.size=size) (hby:i.bytes=bytes) (hzs:z.cells.size=size) (hsz:0<size)
 (v:Value) (n:Nat) (xs:List Value) (hs:a.eval s=v) (hown:w.ownsRow base e size v n xs)
 (ad:Addr) (m c:Nat) (news:List Value) (hx:a.eval x=.slice (some ad) m c) (hl:news.length=m*size) (hnews:∀j u,news[j]?=some u→w.cell? (ad.add j)=some u) (h1:∀u∈news,u.oneCell'=true)
 (h63:n+m≤maxLen) (hbytes:(n+m)*bytes≤140737488355328) (hbase:base≤w.heap.size)
 (h:∀v' w',w'.ownsRow base e size v' (n+m) (xs++news)→w.grownBy w' v.ownBlock→(v'.ownBlock=v.ownBlock∨v'.ownBlock=some w.heap.size)→K (a.put o.dst v') w'):o.wp P a w K Q:=by
 obtain⟨v',w',hr,h2,h3,h4,h5⟩:=run_append_own_at (P:=P) w base t o.type e i z size bytes ht hi hz hsize hby hzs hsz v n xs hown ad m c news hl hnews h1 h63 hbytes hbase;unfold Oper.wp execOp;simp only[ho,resolve,invoke,builtin,Sem.run_bind,Sem.run_pure,Result.andThen_ok,List.map_toArray,List.map_cons,List.map_nil,hs,hx,hr];exact h v' w' h2 h3 h5
theorem apart_any(img:Value)(zs:List Int)(sz:Nat)(ds:List Int)(p q:Int)(w:World)(cnt:Nat)(h:Rd .u8 w img zs)(h1:zs.length≤1048576)(hbd:∀z∈zs,0≤z∧z<256)(hd:ds.length=12)(hsz:sz≤262144)(hcnt:cnt=(sz+511)/512):
 Calls Tryz.prog 45 #[img,.agg (cellsI (rootI (sz:Int) ds p q))] w fun e w'=>ApartR w cnt (zs.length/512) (wrdP zs) (fun i=>ds.getD i 0) p q e w'∧Below w.heap.size w w':=by
 obtain⟨i0,hi,hz0,hz1,hz2⟩:=info_parts infoI64;have hcn:cnt≤512:=by omega
 have HCN:=hide hcnt;clear hcnt;obtain⟨sa,sc,rfl⟩:=rd_shapeT h;have HR:=hide (And.intro h (And.intro hbd hd));clear h hbd;obtain⟨R,hR⟩:∃R,R=cellsI (rootI (sz:Int) ds p q):=⟨_,rfl⟩;have hRs:R.size=15:=by rw[hR,cellsI_size];exact rootI_len _ _ _ _ hd
 have hR0:R[0]?=some (.int .i64 (sz:Int)):=by rw[hR];simp[cellsI,rootI]
 have hRd:∀i,i<12→R[1+i]?=some (.int .i64 (ds.getD i 0)):=fun i hi=>by
  rw[hR];simp[cellsI,rootI,List.getElem?_cons,hd,hi,List.getElem?_append,List.getD]
 have hR13:R[13]?=some (.int .i64 p):=by rw[hR];simp[cellsI,rootI,List.getElem?_cons,hd,List.getElem?_append]
 have hR14:R[14]?=some (.int .i64 q):=by rw[hR];simp[cellsI,rootI,List.getElem?_cons,hd,List.getElem?_append]
 have HRc:=hide (And.intro hRs (And.intro hR0 (And.intro hRd (And.intro hR13 hR14))));rw[←hR];have HRe:=hide hR;clear hR hRs hR0 hRd hR13 hR14 hd;obtain⟨W0,hW0⟩:∃W0,W0=(w.alloc (.cells R 27)).alloc (.cells (treeC nilV 0 0 nilV nilV nilV nilV false) 93):=⟨_,rfl⟩;have k0:Blk W0 w.heap.size R 27:=by rw[hW0];exact(Blk.new w _ _).alloc _
 have k13:=(k0.cell 13).trans HRc.out.2.2.2.1;have k14:=(k0.cell 14).trans HRc.out.2.2.2.2;have HB0:=hide (show ApB w W0.heap.size R (treeC nilV p q nilV nilV nilV nilV true) (W0.alloc (.cells (treeC nilV p q nilV nilV nilV nilV true) 93)) from by
  have h1:=Blk.new (w.alloc (.cells R 27)) (treeC nilV 0 0 nilV nilV nilV nilV false) 93;rw[World.size_alloc, ←hW0] at h1;have h2:=Blk.new W0 (treeC nilV p q nilV nilV nilV nilV true) 93;refine⟨k0.alloc _,h1.alloc _,h2,?_,by rw[hW0];simp⟩;have hb:Below w.heap.size w W0:=by rw[hW0];exact((Below.refl _ _).alloc (Nat.le_refl _) _).alloc (by simp) _
  exact hb.alloc (by rw[hW0];simp;omega) _)
 have HS0:=hide (show W0.heap.size=w.heap.size+2 by rw[hW0];simp);have HW0:=hide hW0;clear hW0 k0;go_enter Tryz.func45,Tryz.ntmps45;go_upto_region 1 with fail;rw[←HW0.out];go_upto_region 2 with fail;generalize hW1:(W0.alloc (.cells (treeC nilV p q nilV nilV nilV nilV true) 93))=W1 at HB0⊢;have hs0a:W0.heap.size≤w.heap.size+2:=by rw[HS0.out];omega
 have hs0b:w.heap.size+2≤W0.heap.size:=by rw[HS0.out];omega
 clear hW1 k13 k14;go_wp2_with (first
  |(refine wpList_load_row rfl 27 _ rfl w.heap.size rfl 27 R (0,0) _ HB0.out.root Tryz.underlying27 rfl (by rw[HRc.out.1];exact info15) ?_)
  |(go_at_call 71;rw[HRe.out];refine(pointers_any (sz:Int) ds p q _ HR.out.2.2).mono ?_;rw[←HRe.out];rintro e w2 ⟨v2,rfl,o2,b2⟩;obtain⟨g2,cap2,rfl,hc2,hcell2⟩:=own_cellT o2 (by omega);have H2:=hide (And.intro hcell2 b2);clear o2 b2 hcell2))
 go_loopw [22] (fun kv wr=>∃k:Nat,k≤14∧kv=.int .i64 (k:Int)∧goodTo (zs.length/512) (ds++[p,q]) k∧(∀i,i<14→wr.cell? ⟨g2,i,none⟩=some (.int .i64 ((ds++[p,q]).getD i 0)))∧ApB w W0.heap.size R (treeC nilV p q nilV nilV nilV nilV true) wr) (fun kv _=>14-(intOf kv).toNat)
 case atStart=>exact⟨0,by omega,rfl,fun j hj=>absurd hj (by omega),H2.out.1,HB0.out.below H2.out.2⟩
 case round=>
  obtain⟨k,hk,rfl,hgt,hcl,hap⟩:=hrel;clear H2 HB0;have HA:=hide (And.intro hgt (And.intro hcl hap));by_cases hk2:k<14
  ·have ck:=hcl k hk2;obtain⟨x,hx⟩:∃x,x=(ds++[p,q]).getD k 0:=⟨_,rfl⟩;rw[←hx] at ck;have HX:=hide hx;have hkI:(k:Int)<14:=(by omega);have c4:=hap.res;clear hgt hcl hap hx;cases hg:goodP (zs.length/512) x with
   |true=>
    have HGx:=hide hg;clear hg;go_wp2_with (go_at_call 72;refine(good_any _ zs x _ (HR.out.1.below HA.out.2.2.old) h1).mono ?_;rintro e w9 ⟨rfl,rfl⟩;rw[HGx.out]);go_roundw
    case rel=>exact⟨k+1,by omega,by go_num,(fun j hj=>by
     rcases Nat.lt_succ_iff_lt_or_eq.1 hj with h|h
     ·exact HA.out.1 j h
     ·rw[h, ←HX.out];exact HGx.out),HA.out.2.1,HA.out.2.2⟩
    case measure=>simp[intOf];omega
   |false=>
    have HGx:=hide hg;clear hg;go_wp2_with (first
     |(go_at_call 72;refine(good_any _ zs x _ (HR.out.1.below HA.out.2.2.old) h1).mono ?_;rintro e w9 ⟨rfl,rfl⟩;rw[HGx.out])
     |(refine wpList_store_row rfl 93 _ _ rfl (w.heap.size+1) (treeC nilV 0 0 nilV nilV nilV nilV false) rfl rfl 93 _ HA.out.2.2.res infoTr8 rfl (by simp[Value.oneCell']) ?_))
    refine bodyPost_ret (v:=.agg (treeC nilV 0 0 nilV nilV nilV nilV false)) ?_ rfl ⟨.inr ⟨fun hap=>?_,rfl⟩,below_setRow HA.out.2.2.old (by omega) _⟩
    ·exact results_cell_row rfl _ _ (w.heap.size+1) 93 _ (0,0) _ rfl (HA.out.2.2.res.row _) Tryz.underlying93 rfl infoTr8
    ·have:=apart_ptr HR.out.2.2 hap k hk2;rw[←HX.out,HGx.out] at this;cases this
  ·have hk3:k=14:=(by omega);subst hk3;have hap:=HA.out.2.2;clear hk2 hk hgt hcl;have c13:=(hap.root.cell 13).trans HRc.out.2.2.2.1;have c14:=(hap.root.cell 14).trans HRc.out.2.2.2.2;have c0:=(hap.root.cell 0).trans HRc.out.2.1;have HGS:=hide (show goodP (zs.length/512) p=true from by have:=HA.out.1 12 (by omega);rw[ptr12 HR.out.2.2] at this;exact this);have HGX:=hide (show goodP (zs.length/512) q=true from by have:=HA.out.1 13 (by omega);rw[ptr13 HR.out.2.2] at this;exact this);have HGD:=hide (show ∀i,i<12→goodP (zs.length/512) (ds.getD i 0)=true from fun i hi=>by have:=HA.out.1 i (by omega);rw[ptrD HR.out.2.2 hi] at this;exact this);have HAp:=hide hap;clear hap;obtain⟨tb,htb⟩:∃tb,tb=W0.heap.size:=⟨_,rfl⟩;rw[←htb] at HAp⊢;clear htb hs0a hs0b HA;go_upto_region 8 with fail;go_upto_region 9 with(first
    |(go_at_call 73;refine(words3_any _ zs p _ (HR.out.1.below HAp.out.old) h1 HR.out.2.1 HGS.out).mono ?_;rintro e w3 ⟨iv,rfl,o3,b3⟩;obtain⟨ia,ic,rfl⟩:=own_shapeT o3;have B3:=hide (HAp.out.below b3);have O3:=hide (own_mono o3 HAp.out.old.size);have t3':=(B3.out.tree.cell 3).trans (show _=some nilV from rfl);have f3':=B3.out.tree.frozen 3;clear o3 b3))
   have A3:=hide (B3.out.set 3 (.slice ia 128 ic));have O3b:=hide (own_setT (k:=3) (u:=.slice ia 128 ic) O3.out B3.out.tree (by decide));generalize hW4:w3.setCell ⟨tb,3,none⟩ (.slice ia 128 ic)=W4 at A3 O3b⊢;clear hW4 t3' f3' c13;have c14':=(A3.out.root.cell 14).trans HRc.out.2.2.2.2;go_upto_region 10 with(first
    |(go_at_call 73;refine(words3_any _ zs q _ (HR.out.1.below A3.out.old) h1 HR.out.2.1 HGX.out).mono ?_;rintro e w5 ⟨ov,rfl,o5,b5⟩;obtain⟨oa,oc,rfl⟩:=own_shapeT o5;have B5:=hide (A3.out.below b5);have O5:=hide (own_mono o5 A3.out.old.size);have O3c:=hide (own_belowT O3b.out b5);have t5':=(B5.out.tree.cell 4).trans (show _=some nilV from rfl);have f5':=B5.out.tree.frozen 4;clear o5 b5))
   have A5:=hide (B5.out.set 4 (.slice oa 128 oc));have O5b:=hide (own_setT (k:=4) (u:=.slice oa 128 oc) O5.out B5.out.tree (by decide));have O3d:=hide (own_setT (k:=4) (u:=.slice oa 128 oc) O3c.out B5.out.tree (by decide));generalize hW6:w5.setCell ⟨tb,4,none⟩ (.slice oa 128 oc)=W6 at A5 O5b O3d⊢;clear hW6 t5' f5' c14' c14 B3 O3 A3 O3b B5 O5 O3c;have HC2:=hide (show Ap2 w tb R (wrdP zs) p q (.slice ia 128 ic) (.slice oa 128 oc) nilV nilV [] 0 0 W6 from by
    obtain⟨g1,e1,_⟩:=own_some O3d.out (by omega);obtain⟨g2,e2,_⟩:=own_some O5b.out (by omega);exact⟨A5.out,O3d.out,O5b.out,World.ownsRow_nil _ _ _ _,World.ownsRow_nil _ _ _ _,fun j hj=>absurd hj (by omega),(by rw[e1];intro e;cases e),(by rw[e2];intro e;cases e)⟩)
   have c0':=(A5.out.root.cell 0).trans HRc.out.2.1;clear O3d O5b A5 c0;go_upto_region 11 with(first
    |(go_at_call 57;refine(count3_any sz _ (by omega)).mono ?_;rintro e w9 ⟨rfl,rfl⟩;rw[←HCN.out]))
   clear c0';go_wp2;go_loopw [9] (fun kv wr=>∃(k:Nat) (sv wv:Value) (vs:List Value),k≤secN cnt∧kv=.int .i64 (k:Int)∧(∀j,j<k→goodP (zs.length/512) (hwP (wrdP zs) q j)=true)∧Ap2 w tb R (wrdP zs) p q (.slice ia 128 ic) (.slice oa 128 oc) sv wv vs k k wr) (fun kv _=>128-(intOf kv).toNat)
   case atStart=>exact⟨0,nilV,nilV,[],Nat.zero_le _,rfl,fun j hj=>absurd hj (by omega),HC2.out⟩
   case round=>
    obtain⟨k,sv,wv,vs,hk,rfl,hgk,hap2⟩:=hrel;clear HC2;have hs3:secN cnt≤3:=(by unfold secN;omega);have hk4:(k:Int)<128:=(by omega);obtain⟨go,co,eo,hco,hcello⟩:=own_cellT hap2.out (by omega);injection eo with eo1 eo2 eo3;subst eo1 eo3;obtain⟨sva,svc,rfl⟩:=own_shapeT hap2.sec;obtain⟨wva,wvc,rfl⟩:=own_shapeT hap2.wrd;have HA2:=hide (And.intro hap2 (And.intro hgk hcello));by_cases hk2:k<secN cnt
    ·have hk5:140+128*(k:Int)<(cnt:Int):=(by have:=sec_lt hk2;omega);have ck:=hcello k (by omega);rw[show((List.range 128).map (hwP (wrdP zs) q)).getD k 0=hwP (wrdP zs) q k by simp[List.getD,show k<128 by omega]] at ck;have t4:=(hap2.b.tree.cell 4).trans (show _=some (.slice (some ⟨go,0,none⟩) 128 oc) from rfl);have t5:=(hap2.b.tree.cell 5).trans (show _=some (.slice sva k svc) from rfl);obtain⟨x,hx⟩:∃x,x=hwP (wrdP zs) q k:=⟨_,rfl⟩;rw[←hx] at ck;have HX:=hide hx;clear hx hap2 hgk hcello;cases hg:goodP (zs.length/512) x with
     |false=>
      have HGx:=hide hg;clear hg;go_wp2_with (first
       |(go_at_call 72;refine(good_any _ zs x _ (HR.out.1.below HA2.out.1.b.old) h1).mono ?_;rintro e w9 ⟨rfl,rfl⟩;rw[HGx.out])
       |(refine wpList_store_row rfl 93 _ _ rfl (w.heap.size+1) (treeC nilV 0 0 nilV nilV nilV nilV false) rfl rfl 93 _ HA2.out.1.b.res infoTr8 rfl (by simp[Value.oneCell']) ?_))
      refine bodyPost_ret (v:=.agg (treeC nilV 0 0 nilV nilV nilV nilV false)) ?_ rfl ⟨.inr ⟨fun hap=>?_,rfl⟩,below_setRow HA2.out.1.b.old (by omega) _⟩
      ·exact results_cell_row rfl _ _ (w.heap.size+1) 93 _ (0,0) _ rfl (HA2.out.1.b.res.row _) Tryz.underlying93 rfl infoTr8
      ·have:=hap.2.2.2.1 k (by omega) (sec_lt hk2);rw[←HX.out,HGx.out] at this;cases this
     |true=>
      have HGx:=hide hg;clear hg;go_upto_region 16 with(go_at_call 72;refine(good_any _ zs x _ (HR.out.1.below HA2.out.1.b.old) h1).mono ?_;rintro e w9 ⟨rfl,hw9⟩;rw[HGx.out,hw9];clear hw9)
      have bA:Below wr.heap.size wr (World.drew (wr.alloc (.cells #[.int .i64 x] 3))):=((Below.refl _ _).alloc (Nat.le_refl _) _).drew;have d4:(World.drew wr).cell? ⟨tb,4,none⟩=some (.slice (some ⟨go,0,none⟩) 128 oc):=t4;have d5:(World.drew wr).cell? ⟨tb,5,none⟩=some (.slice sva k svc):=t5;have dk:(World.drew wr).cell? ⟨go,k,none⟩=some (.int .i64 x):=ck;have d5A:=((HA2.out.1.below bA).b.tree.cell 5).trans (show _=some (.slice sva k svc) from rfl);go_cut [] from 65 to 75 (fun w'=>∃v',Ap2 w tb R (wrdP zs) p q (.slice ia 128 ic) (.slice (some ⟨go,0,none⟩) 128 oc) v' (.slice wva k wvc) vs (k+1) k w')
      case first Jc Kc hJc hKc=>
       refine wp_region_noPanic ?_;refine wp_region_held_drew (S:=fun _=>True) (by kernel_rfl) trivial (fun _=>?_);refine wpAnyH_take (i:=0) (oi:=_) (v:=.pointer (some ⟨tb,5,none⟩)) rfl (by kernel_rfl) (by kernel_rfl) (by kernel_rfl) (fun _ _ _ h=>h) (Or.inl ⟨by rfl,fun w' hw'=>by go_simp⟩) trivial ?_;try simp only[Act.put,List.getElem_toArray,List.getElem_cons_zero,List.getElem_cons_succ,List.setIfInBounds_toArray,List.set_cons_zero,List.set_cons_succ]
       refine wpAnyH_take (i:=2) (oi:=_) (v:=.pointer (some ⟨tb,4,none⟩)) rfl (by kernel_rfl) (by kernel_rfl) (by kernel_rfl) (fun _ _ _ h=>h) (Or.inl ⟨by rfl,fun w' hw'=>by go_simp⟩) trivial ?_;try simp only[Act.put,List.getElem_toArray,List.getElem_cons_zero,List.getElem_cons_succ,List.setIfInBounds_toArray,List.set_cons_zero,List.set_cons_succ]
       refine wpAnyH_take (i:=4) (oi:=_) (v:=.int .i64 (k:Int)) rfl (by kernel_rfl) (by kernel_rfl) (by kernel_rfl) (fun _ _ _ h=>h) (Or.inl ⟨by rfl,fun w' hw'=>by go_simp⟩) trivial ?_;try simp only[Act.put,List.getElem_toArray,List.getElem_cons_zero,List.getElem_cons_succ,List.setIfInBounds_toArray,List.set_cons_zero,List.set_cons_succ]
       refine wpAnyH_ready (rs:=[1,3]) (by kernel_rfl) (by simp) ?_;refine AllReadyH.cons (o:=_) rfl (fun K hK=>?_) (AllReadyH.cons (o:=_) rfl (fun K hK=>?_) AllReadyH.nil)
       ·go_simp;refine hK.out _ _ trivial (fun _=>?_);clear hK K;try simp only[Act.put,List.getElem_toArray,List.getElem_cons_zero,List.getElem_cons_succ,List.setIfInBounds_toArray,List.set_cons_zero,List.set_cons_succ]
        refine wpAnyH_ready (rs:=[3]) (by kernel_rfl) (by simp) ?_;refine AllReadyH.cons (o:=_) rfl (fun K hK=>?_) AllReadyH.nil;go_simp;refine hK.out _ _ trivial (fun _=>?_);clear hK K;try simp only[Act.put,List.getElem_toArray,List.getElem_cons_zero,List.getElem_cons_succ,List.setIfInBounds_toArray,List.set_cons_zero,List.set_cons_succ]
        refine wpAnyH_take (i:=5) (oi:=_) (v:=.pointer (some ⟨go,k,none⟩)) rfl (by kernel_rfl) (by kernel_rfl) (by kernel_rfl) (fun _ _ _ h=>h) (Or.inl ⟨by rfl,fun w' hw'=>by go_simp⟩) trivial ?_;try simp only[Act.put,List.getElem_toArray,List.getElem_cons_zero,List.getElem_cons_succ,List.setIfInBounds_toArray,List.set_cons_zero,List.set_cons_succ]
        refine wpAnyH_ready (rs:=[6]) (by kernel_rfl) (by simp) ?_;refine AllReadyH.cons (o:=_) rfl (fun K hK=>?_) AllReadyH.nil;go_simp;refine hK.out _ _ trivial (fun _=>?_);clear hK K;try simp only[Act.put,List.getElem_toArray,List.getElem_cons_zero,List.getElem_cons_succ,List.setIfInBounds_toArray,List.set_cons_zero,List.set_cons_succ]
        refine wpAnyH_ready (rs:=[7]) (by kernel_rfl) (by simp) ?_;refine AllReadyH.cons (o:=_) rfl (fun K hK=>?_) AllReadyH.nil;go_simp;refine hK.out _ _ trivial (fun _=>?_);clear hK K;try simp only[Act.put,List.getElem_toArray,List.getElem_cons_zero,List.getElem_cons_succ,List.setIfInBounds_toArray,List.set_cons_zero,List.set_cons_succ]
        refine wpAnyH_ready (rs:=[8]) (by kernel_rfl) (by simp) ?_;refine AllReadyH.cons (o:=_) rfl (fun K hK=>?_) AllReadyH.nil;rw[if_pos (by rfl)];refine wp_append_own_atT (.tmp 66) (.tmp 72) 26 rfl w.heap.size 3 i0 (.int .i64 0) 1 8 Tryz.underlying26 hi hz0 hz1 hz2 rfl (by decide) (.slice sva k svc) k _ rfl (own_belowT HA2.out.1.sec bA) ⟨wr.heap.size,0,none⟩ 1 1 [.int .i64 x] rfl rfl (cell_one_new _ _ _) (by simp[Value.oneCell']) (by unfold maxLen;omega) (by omega) (HA2.out.1.below bA).b.old.size ?_;intro v8 w8 o8 g8 a8;have H8:=hide (Ap2.addS (HA2.out.1.below bA) (by rw[←HX.out];exact o8) g8 a8);have kt8:=((HA2.out.1.below bA).b.own (own_belowT HA2.out.1.sec bA) (by decide) (by decide) g8).tree;have c8:=(kt8.cell 5).trans (show _=some (.slice sva k svc) from rfl);have f8:=kt8.frozen 5;obtain⟨va8,vc8,rfl⟩:=own_shapeT o8;clear o8 g8 a8 kt8;refine hK.out _ _ trivial (fun _=>?_);clear hK K;try simp only[Act.put,List.getElem_toArray,List.getElem_cons_zero,List.getElem_cons_succ,List.setIfInBounds_toArray,List.set_cons_zero,List.set_cons_succ]
        refine wpAnyH_take (i:=9) (oi:=_) (v:=.pointer (some ⟨tb,5,none⟩)) rfl (by kernel_rfl) (by kernel_rfl) (by kernel_rfl) (fun _ _ _ h=>h) (Or.inl ⟨by rfl,fun w' hw'=>by go_simp⟩) trivial ?_;try simp only[Act.put,List.getElem_toArray,List.getElem_cons_zero,List.getElem_cons_succ,List.setIfInBounds_toArray,List.set_cons_zero,List.set_cons_succ]
        refine wpAnyH_ready (rs:=[10]) (by kernel_rfl) (by simp) ?_;refine AllReadyH.cons (o:=_) rfl (fun K hK=>?_) AllReadyH.nil;go_simp;refine hK.out _ _ trivial (fun _=>?_);clear hK K;try simp only[Act.put,List.getElem_toArray,List.getElem_cons_zero,List.getElem_cons_succ,List.setIfInBounds_toArray,List.set_cons_zero,List.set_cons_succ]
        refine wpAnyH_done (by kernel_rfl) (NoPanic.normal ?_) _;exact hKc _ _ (Met.intro (hJc _ _ ⟨_,_,_,_,_,_,_,_,_,_,_,⟨_,H8.out⟩,rfl⟩))
       ·go_simp;refine hK.out _ _ trivial (fun _=>?_);clear hK K;try simp only[Act.put,List.getElem_toArray,List.getElem_cons_zero,List.getElem_cons_succ,List.setIfInBounds_toArray,List.set_cons_zero,List.set_cons_succ]
        refine wpAnyH_take (i:=5) (oi:=_) (v:=.pointer (some ⟨go,k,none⟩)) rfl (by kernel_rfl) (by kernel_rfl) (by kernel_rfl) (fun _ _ _ h=>h) (Or.inl ⟨by rfl,fun w' hw'=>by go_simp⟩) trivial ?_;try simp only[Act.put,List.getElem_toArray,List.getElem_cons_zero,List.getElem_cons_succ,List.setIfInBounds_toArray,List.set_cons_zero,List.set_cons_succ]
        refine wpAnyH_ready (rs:=[1,6]) (by kernel_rfl) (by simp) ?_;refine AllReadyH.cons (o:=_) rfl (fun K hK=>?_) (AllReadyH.cons (o:=_) rfl (fun K hK=>?_) AllReadyH.nil)
        ·go_simp;refine hK.out _ _ trivial (fun _=>?_);clear hK K;try simp only[Act.put,List.getElem_toArray,List.getElem_cons_zero,List.getElem_cons_succ,List.setIfInBounds_toArray,List.set_cons_zero,List.set_cons_succ]
         refine wpAnyH_ready (rs:=[6]) (by kernel_rfl) (by simp) ?_;refine AllReadyH.cons (o:=_) rfl (fun K hK=>?_) AllReadyH.nil;go_simp;refine hK.out _ _ trivial (fun _=>?_);clear hK K;try simp only[Act.put,List.getElem_toArray,List.getElem_cons_zero,List.getElem_cons_succ,List.setIfInBounds_toArray,List.set_cons_zero,List.set_cons_succ]
         refine wpAnyH_ready (rs:=[7]) (by kernel_rfl) (by simp) ?_;refine AllReadyH.cons (o:=_) rfl (fun K hK=>?_) AllReadyH.nil;go_simp;refine hK.out _ _ trivial (fun _=>?_);clear hK K;try simp only[Act.put,List.getElem_toArray,List.getElem_cons_zero,List.getElem_cons_succ,List.setIfInBounds_toArray,List.set_cons_zero,List.set_cons_succ]
         refine wpAnyH_ready (rs:=[8]) (by kernel_rfl) (by simp) ?_;refine AllReadyH.cons (o:=_) rfl (fun K hK=>?_) AllReadyH.nil;rw[if_pos (by rfl)];refine wp_append_own_atT (.tmp 66) (.tmp 72) 26 rfl w.heap.size 3 i0 (.int .i64 0) 1 8 Tryz.underlying26 hi hz0 hz1 hz2 rfl (by decide) (.slice sva k svc) k _ rfl (own_belowT HA2.out.1.sec bA) ⟨wr.heap.size,0,none⟩ 1 1 [.int .i64 x] rfl rfl (cell_one_new _ _ _) (by simp[Value.oneCell']) (by unfold maxLen;omega) (by omega) (HA2.out.1.below bA).b.old.size ?_;intro v8 w8 o8 g8 a8;have H8:=hide (Ap2.addS (HA2.out.1.below bA) (by rw[←HX.out];exact o8) g8 a8);have kt8:=((HA2.out.1.below bA).b.own (own_belowT HA2.out.1.sec bA) (by decide) (by decide) g8).tree;have c8:=(kt8.cell 5).trans (show _=some (.slice sva k svc) from rfl);have f8:=kt8.frozen 5;obtain⟨va8,vc8,rfl⟩:=own_shapeT o8;clear o8 g8 a8 kt8;refine hK.out _ _ trivial (fun _=>?_);clear hK K;try simp only[Act.put,List.getElem_toArray,List.getElem_cons_zero,List.getElem_cons_succ,List.setIfInBounds_toArray,List.set_cons_zero,List.set_cons_succ]
         refine wpAnyH_take (i:=9) (oi:=_) (v:=.pointer (some ⟨tb,5,none⟩)) rfl (by kernel_rfl) (by kernel_rfl) (by kernel_rfl) (fun _ _ _ h=>h) (Or.inl ⟨by rfl,fun w' hw'=>by go_simp⟩) trivial ?_;try simp only[Act.put,List.getElem_toArray,List.getElem_cons_zero,List.getElem_cons_succ,List.setIfInBounds_toArray,List.set_cons_zero,List.set_cons_succ]
         refine wpAnyH_ready (rs:=[10]) (by kernel_rfl) (by simp) ?_;refine AllReadyH.cons (o:=_) rfl (fun K hK=>?_) AllReadyH.nil;go_simp;refine hK.out _ _ trivial (fun _=>?_);clear hK K;try simp only[Act.put,List.getElem_toArray,List.getElem_cons_zero,List.getElem_cons_succ,List.setIfInBounds_toArray,List.set_cons_zero,List.set_cons_succ]
         refine wpAnyH_done (by kernel_rfl) (NoPanic.normal ?_) _;exact hKc _ _ (Met.intro (hJc _ _ ⟨_,_,_,_,_,_,_,_,_,_,_,⟨_,H8.out⟩,rfl⟩))
        ·go_simp;refine hK.out _ _ trivial (fun _=>?_);clear hK K;try simp only[Act.put,List.getElem_toArray,List.getElem_cons_zero,List.getElem_cons_succ,List.setIfInBounds_toArray,List.set_cons_zero,List.set_cons_succ]
         refine wpAnyH_ready (rs:=[1,7]) (by kernel_rfl) (by simp) ?_;refine AllReadyH.cons (o:=_) rfl (fun K hK=>?_) (AllReadyH.cons (o:=_) rfl (fun K hK=>?_) AllReadyH.nil)
         ·go_simp;refine hK.out _ _ trivial (fun _=>?_);clear hK K;try simp only[Act.put,List.getElem_toArray,List.getElem_cons_zero,List.getElem_cons_succ,List.setIfInBounds_toArray,List.set_cons_zero,List.set_cons_succ]
          refine wpAnyH_ready (rs:=[7]) (by kernel_rfl) (by simp) ?_;refine AllReadyH.cons (o:=_) rfl (fun K hK=>?_) AllReadyH.nil;go_simp;refine hK.out _ _ trivial (fun _=>?_);clear hK K;try simp only[Act.put,List.getElem_toArray,List.getElem_cons_zero,List.getElem_cons_succ,List.setIfInBounds_toArray,List.set_cons_zero,List.set_cons_succ]
          refine wpAnyH_ready (rs:=[8]) (by kernel_rfl) (by simp) ?_;refine AllReadyH.cons (o:=_) rfl (fun K hK=>?_) AllReadyH.nil;rw[if_pos (by rfl)];refine wp_append_own_atT (.tmp 66) (.tmp 72) 26 rfl w.heap.size 3 i0 (.int .i64 0) 1 8 Tryz.underlying26 hi hz0 hz1 hz2 rfl (by decide) (.slice sva k svc) k _ rfl (own_belowT HA2.out.1.sec bA) ⟨wr.heap.size,0,none⟩ 1 1 [.int .i64 x] rfl rfl (cell_one_new _ _ _) (by simp[Value.oneCell']) (by unfold maxLen;omega) (by omega) (HA2.out.1.below bA).b.old.size ?_;intro v8 w8 o8 g8 a8;have H8:=hide (Ap2.addS (HA2.out.1.below bA) (by rw[←HX.out];exact o8) g8 a8);have kt8:=((HA2.out.1.below bA).b.own (own_belowT HA2.out.1.sec bA) (by decide) (by decide) g8).tree;have c8:=(kt8.cell 5).trans (show _=some (.slice sva k svc) from rfl);have f8:=kt8.frozen 5;obtain⟨va8,vc8,rfl⟩:=own_shapeT o8;clear o8 g8 a8 kt8;refine hK.out _ _ trivial (fun _=>?_);clear hK K;try simp only[Act.put,List.getElem_toArray,List.getElem_cons_zero,List.getElem_cons_succ,List.setIfInBounds_toArray,List.set_cons_zero,List.set_cons_succ]
          refine wpAnyH_take (i:=9) (oi:=_) (v:=.pointer (some ⟨tb,5,none⟩)) rfl (by kernel_rfl) (by kernel_rfl) (by kernel_rfl) (fun _ _ _ h=>h) (Or.inl ⟨by rfl,fun w' hw'=>by go_simp⟩) trivial ?_;try simp only[Act.put,List.getElem_toArray,List.getElem_cons_zero,List.getElem_cons_succ,List.setIfInBounds_toArray,List.set_cons_zero,List.set_cons_succ]
          refine wpAnyH_ready (rs:=[10]) (by kernel_rfl) (by simp) ?_;refine AllReadyH.cons (o:=_) rfl (fun K hK=>?_) AllReadyH.nil;go_simp;refine hK.out _ _ trivial (fun _=>?_);clear hK K;try simp only[Act.put,List.getElem_toArray,List.getElem_cons_zero,List.getElem_cons_succ,List.setIfInBounds_toArray,List.set_cons_zero,List.set_cons_succ]
          refine wpAnyH_done (by kernel_rfl) (NoPanic.normal ?_) _;exact hKc _ _ (Met.intro (hJc _ _ ⟨_,_,_,_,_,_,_,_,_,_,_,⟨_,H8.out⟩,rfl⟩))
         ·go_simp;refine hK.out _ _ trivial (fun _=>?_);clear hK K;try simp only[Act.put,List.getElem_toArray,List.getElem_cons_zero,List.getElem_cons_succ,List.setIfInBounds_toArray,List.set_cons_zero,List.set_cons_succ]
          refine wpAnyH_ready (rs:=[1]) (by kernel_rfl) (by simp) ?_;refine AllReadyH.cons (o:=_) rfl (fun K hK=>?_) AllReadyH.nil;go_simp;refine hK.out _ _ trivial (fun _=>?_);clear hK K;try simp only[Act.put,List.getElem_toArray,List.getElem_cons_zero,List.getElem_cons_succ,List.setIfInBounds_toArray,List.set_cons_zero,List.set_cons_succ]
          refine wpAnyH_ready (rs:=[8]) (by kernel_rfl) (by simp) ?_;refine AllReadyH.cons (o:=_) rfl (fun K hK=>?_) AllReadyH.nil;rw[if_pos (by rfl)];refine wp_append_own_atT (.tmp 66) (.tmp 72) 26 rfl w.heap.size 3 i0 (.int .i64 0) 1 8 Tryz.underlying26 hi hz0 hz1 hz2 rfl (by decide) (.slice sva k svc) k _ rfl (own_belowT HA2.out.1.sec bA) ⟨wr.heap.size,0,none⟩ 1 1 [.int .i64 x] rfl rfl (cell_one_new _ _ _) (by simp[Value.oneCell']) (by unfold maxLen;omega) (by omega) (HA2.out.1.below bA).b.old.size ?_;intro v8 w8 o8 g8 a8;have H8:=hide (Ap2.addS (HA2.out.1.below bA) (by rw[←HX.out];exact o8) g8 a8);have kt8:=((HA2.out.1.below bA).b.own (own_belowT HA2.out.1.sec bA) (by decide) (by decide) g8).tree;have c8:=(kt8.cell 5).trans (show _=some (.slice sva k svc) from rfl);have f8:=kt8.frozen 5;obtain⟨va8,vc8,rfl⟩:=own_shapeT o8;clear o8 g8 a8 kt8;refine hK.out _ _ trivial (fun _=>?_);clear hK K;try simp only[Act.put,List.getElem_toArray,List.getElem_cons_zero,List.getElem_cons_succ,List.setIfInBounds_toArray,List.set_cons_zero,List.set_cons_succ]
          refine wpAnyH_take (i:=9) (oi:=_) (v:=.pointer (some ⟨tb,5,none⟩)) rfl (by kernel_rfl) (by kernel_rfl) (by kernel_rfl) (fun _ _ _ h=>h) (Or.inl ⟨by rfl,fun w' hw'=>by go_simp⟩) trivial ?_;try simp only[Act.put,List.getElem_toArray,List.getElem_cons_zero,List.getElem_cons_succ,List.setIfInBounds_toArray,List.set_cons_zero,List.set_cons_succ]
          refine wpAnyH_ready (rs:=[10]) (by kernel_rfl) (by simp) ?_;refine AllReadyH.cons (o:=_) rfl (fun K hK=>?_) AllReadyH.nil;go_simp;refine hK.out _ _ trivial (fun _=>?_);clear hK K;try simp only[Act.put,List.getElem_toArray,List.getElem_cons_zero,List.getElem_cons_succ,List.setIfInBounds_toArray,List.set_cons_zero,List.set_cons_succ]
          refine wpAnyH_done (by kernel_rfl) (NoPanic.normal ?_) _;exact hKc _ _ (Met.intro (hJc _ _ ⟨_,_,_,_,_,_,_,_,_,_,_,⟨_,H8.out⟩,rfl⟩))
      case rest=>
       obtain⟨vS,hQ⟩:=hcut;obtain⟨j0,hj,hj0,hj1,hj2⟩:=info_parts infoSl;have HQ:=hide hQ;have q4:(World.drew wc).cell? ⟨tb,4,none⟩=some (.slice (some ⟨go,0,none⟩) 128 oc):=(hQ.b.tree.cell 4).trans rfl;have q6:(World.drew wc).cell? ⟨tb,6,none⟩=some (.slice wva k wvc):=(hQ.b.tree.cell 6).trans rfl;obtain⟨go',co',eo,_,hcello⟩:=own_cellT hQ.out (by omega);injection eo with eo1 eo2 eo3;injection eo1 with eo1;injection eo1 with eo1;subst eo1 eo3;have qk:(World.drew wc).cell? ⟨go,k,none⟩=some (.int .i64 x):=by
        have:=hcello k (by omega);rw[show((List.range 128).map (hwP (wrdP zs) q)).getD k 0=hwP (wrdP zs) q k by simp[List.getD,show k<128 by omega], ←HX.out] at this;exact this
       clear hQ hcello d4 d5 dk d5A t4 t5 ck bA;go_upto_region 17 with fail;refine wp_region_noPanic ?_;refine wp_region_held_drew (S:=fun _=>True) (by kernel_rfl) trivial (fun _=>?_);refine wpAnyH_take (i:=0) (oi:=_) (v:=.pointer (some ⟨tb,6,none⟩)) rfl (by kernel_rfl) (by kernel_rfl) (by kernel_rfl) (fun _ _ _ h=>h) (Or.inl ⟨by rfl,fun w' hw'=>by go_simp⟩) trivial ?_;try simp only[Act.put,List.getElem_toArray,List.getElem_cons_zero,List.getElem_cons_succ,List.setIfInBounds_toArray,List.set_cons_zero,List.set_cons_succ]
       refine wpAnyH_take (i:=2) (oi:=_) (v:=.slice sa zs.length sc) rfl (by kernel_rfl) (by kernel_rfl) (by kernel_rfl) (fun _ _ _ h=>h) (Or.inl ⟨by rfl,fun w' hw'=>by go_simp⟩) trivial ?_;try simp only[Act.put,List.getElem_toArray,List.getElem_cons_zero,List.getElem_cons_succ,List.setIfInBounds_toArray,List.set_cons_zero,List.set_cons_succ]
       refine wpAnyH_take (i:=3) (oi:=_) (v:=.pointer (some ⟨tb,4,none⟩)) rfl (by kernel_rfl) (by kernel_rfl) (by kernel_rfl) (fun _ _ _ h=>h) (Or.inl ⟨by rfl,fun w' hw'=>by go_simp⟩) trivial ?_;try simp only[Act.put,List.getElem_toArray,List.getElem_cons_zero,List.getElem_cons_succ,List.setIfInBounds_toArray,List.set_cons_zero,List.set_cons_succ]
       refine wpAnyH_take (i:=5) (oi:=_) (v:=.int .i64 (k:Int)) rfl (by kernel_rfl) (by kernel_rfl) (by kernel_rfl) (fun _ _ _ h=>h) (Or.inl ⟨by rfl,fun w' hw'=>by go_simp⟩) trivial ?_;try simp only[Act.put,List.getElem_toArray,List.getElem_cons_zero,List.getElem_cons_succ,List.setIfInBounds_toArray,List.set_cons_zero,List.set_cons_succ]
       refine wpAnyH_ready (rs:=[1,4]) (by kernel_rfl) (by simp) ?_;refine AllReadyH.cons (o:=_) rfl (fun K hK=>?_) (AllReadyH.cons (o:=_) rfl (fun K hK=>?_) AllReadyH.nil)
       ·go_simp;refine hK.out _ _ trivial (fun _=>?_);clear hK K;try simp only[Act.put,List.getElem_toArray,List.getElem_cons_zero,List.getElem_cons_succ,List.setIfInBounds_toArray,List.set_cons_zero,List.set_cons_succ]
        refine wpAnyH_ready (rs:=[4]) (by kernel_rfl) (by simp) ?_;refine AllReadyH.cons (o:=_) rfl (fun K hK=>?_) AllReadyH.nil;go_simp;refine hK.out _ _ trivial (fun _=>?_);clear hK K;try simp only[Act.put,List.getElem_toArray,List.getElem_cons_zero,List.getElem_cons_succ,List.setIfInBounds_toArray,List.set_cons_zero,List.set_cons_succ]
        refine wpAnyH_take (i:=6) (oi:=_) (v:=.pointer (some ⟨go,k,none⟩)) rfl (by kernel_rfl) (by kernel_rfl) (by kernel_rfl) (fun _ _ _ h=>h) (Or.inl ⟨by rfl,fun w' hw'=>by go_simp⟩) trivial ?_;try simp only[Act.put,List.getElem_toArray,List.getElem_cons_zero,List.getElem_cons_succ,List.setIfInBounds_toArray,List.set_cons_zero,List.set_cons_succ]
        refine wpAnyH_ready (rs:=[7]) (by kernel_rfl) (by simp) ?_;refine AllReadyH.cons (o:=_) rfl (fun K hK=>?_) AllReadyH.nil;go_simp;refine hK.out _ _ trivial (fun _=>?_);clear hK K;try simp only[Act.put,List.getElem_toArray,List.getElem_cons_zero,List.getElem_cons_succ,List.setIfInBounds_toArray,List.set_cons_zero,List.set_cons_succ]
        refine wpAnyH_ready (rs:=[8]) (by kernel_rfl) (by simp) ?_;refine AllReadyH.cons (o:=_) rfl (fun K hK=>?_) AllReadyH.nil;go_simp;refine(words3_any _ zs x _ (HR.out.1.below (HQ.out.b.old.drew)) h1 HR.out.2.1 HGx.out).mono ?_;rintro e w8 ⟨u8v,rfl,o8,b8⟩;have B8:=hide (show Below wc.heap.size wc w8 from((Below.refl _ _).drew).trans b8);have Q8:=hide (HQ.out.below B8.out);have hus:u8v.ownBlock≠vS.ownBlock:=ap_new o8 HQ.out.sec;obtain⟨ua,uc,rfl⟩:=own_shapeT o8;have O8:=hide (own_mono o8 (show w.heap.size≤wc.heap.size from HQ.out.b.old.size));have e6c:=(Q8.out.b.tree.cell 6).trans (show _=some (.slice wva k wvc) from rfl);have bB:Below w8.heap.size w8 (w8.alloc (.cells #[.slice ua 128 uc] 26)):=(Below.refl _ _).alloc (Nat.le_refl _) _;have e6A:=((Q8.out.below bB).b.tree.cell 6).trans (show _=some (.slice wva k wvc) from rfl);have HUS:=hide hus;clear o8 b8 hus;refine hK.out _ _ trivial (fun _=>?_);clear hK K;try simp only[Act.put,List.getElem_toArray,List.getElem_cons_zero,List.getElem_cons_succ,List.setIfInBounds_toArray,List.set_cons_zero,List.set_cons_succ]
        refine wpAnyH_ready (rs:=[9]) (by kernel_rfl) (by simp) ?_;refine AllReadyH.cons (o:=_) rfl (fun K hK=>?_) AllReadyH.nil;go_simp;refine hK.out _ _ trivial (fun _=>?_);clear hK K;try simp only[Act.put,List.getElem_toArray,List.getElem_cons_zero,List.getElem_cons_succ,List.setIfInBounds_toArray,List.set_cons_zero,List.set_cons_succ]
        refine wpAnyH_ready (rs:=[10]) (by kernel_rfl) (by simp) ?_;refine AllReadyH.cons (o:=_) rfl (fun K hK=>?_) AllReadyH.nil;rw[if_pos (by rfl)];refine wp_append_own_atT (.tmp 76) (.tmp 84) 91 rfl w.heap.size 26 j0 nilV 1 24 Tryz.underlying91 hj hj0 hj1 hj2 rfl (by decide) (.slice wva k wvc) k _ rfl (own_belowT Q8.out.wrd bB) ⟨w8.heap.size,0,none⟩ 1 1 [.slice ua 128 uc] rfl rfl (cell_one_new _ _ _) (by simp[Value.oneCell']) (by unfold maxLen;omega) (by omega) (Q8.out.below bB).b.old.size ?_;intro v9 w9 o9 g9 a9;have H9:=hide (Ap2.addW (Q8.out.below bB) (own_belowT (by rw[←HX.out];exact O8.out) bB) HUS.out o9 g9);have kt9:=((Q8.out.below bB).b.own (own_belowT Q8.out.wrd bB) (by decide) (by decide) g9).tree;have c9:=(kt9.cell 6).trans (show _=some (.slice wva k wvc) from rfl);have f9:=kt9.frozen 6;obtain⟨va9,vc9,rfl⟩:=own_shapeT o9;clear o9 g9 a9 kt9;refine hK.out _ _ trivial (fun _=>?_);clear hK K;try simp only[Act.put,List.getElem_toArray,List.getElem_cons_zero,List.getElem_cons_succ,List.setIfInBounds_toArray,List.set_cons_zero,List.set_cons_succ]
        refine wpAnyH_take (i:=11) (oi:=_) (v:=.pointer (some ⟨tb,6,none⟩)) rfl (by kernel_rfl) (by kernel_rfl) (by kernel_rfl) (fun _ _ _ h=>h) (Or.inl ⟨by rfl,fun w' hw'=>by go_simp⟩) trivial ?_;try simp only[Act.put,List.getElem_toArray,List.getElem_cons_zero,List.getElem_cons_succ,List.setIfInBounds_toArray,List.set_cons_zero,List.set_cons_succ]
        refine wpAnyH_ready (rs:=[12]) (by kernel_rfl) (by simp) ?_;refine AllReadyH.cons (o:=_) rfl (fun K hK=>?_) AllReadyH.nil;go_simp;refine hK.out _ _ trivial (fun _=>?_);clear hK K;try simp only[Act.put,List.getElem_toArray,List.getElem_cons_zero,List.getElem_cons_succ,List.setIfInBounds_toArray,List.set_cons_zero,List.set_cons_succ]
        refine wpAnyH_done (by kernel_rfl) (NoPanic.normal ?_) _;go_wp2;go_roundw
        case rel=>exact⟨k+1,vS,_,_,by omega,by go_num,(fun j hj=>by
         rcases Nat.lt_succ_iff_lt_or_eq.1 hj with h|h
         ·exact HA2.out.2.1 j h
         ·rw[h, ←HX.out];exact HGx.out),H9.out⟩
        case measure=>simp[intOf];omega
       ·go_simp;refine hK.out _ _ trivial (fun _=>?_);clear hK K;try simp only[Act.put,List.getElem_toArray,List.getElem_cons_zero,List.getElem_cons_succ,List.setIfInBounds_toArray,List.set_cons_zero,List.set_cons_succ]
        refine wpAnyH_take (i:=6) (oi:=_) (v:=.pointer (some ⟨go,k,none⟩)) rfl (by kernel_rfl) (by kernel_rfl) (by kernel_rfl) (fun _ _ _ h=>h) (Or.inl ⟨by rfl,fun w' hw'=>by go_simp⟩) trivial ?_;try simp only[Act.put,List.getElem_toArray,List.getElem_cons_zero,List.getElem_cons_succ,List.setIfInBounds_toArray,List.set_cons_zero,List.set_cons_succ]
        refine wpAnyH_ready (rs:=[1,7]) (by kernel_rfl) (by simp) ?_;refine AllReadyH.cons (o:=_) rfl (fun K hK=>?_) (AllReadyH.cons (o:=_) rfl (fun K hK=>?_) AllReadyH.nil)
        ·go_simp;refine hK.out _ _ trivial (fun _=>?_);clear hK K;try simp only[Act.put,List.getElem_toArray,List.getElem_cons_zero,List.getElem_cons_succ,List.setIfInBounds_toArray,List.set_cons_zero,List.set_cons_succ]
         refine wpAnyH_ready (rs:=[7]) (by kernel_rfl) (by simp) ?_;refine AllReadyH.cons (o:=_) rfl (fun K hK=>?_) AllReadyH.nil;go_simp;refine hK.out _ _ trivial (fun _=>?_);clear hK K;try simp only[Act.put,List.getElem_toArray,List.getElem_cons_zero,List.getElem_cons_succ,List.setIfInBounds_toArray,List.set_cons_zero,List.set_cons_succ]
         refine wpAnyH_ready (rs:=[8]) (by kernel_rfl) (by simp) ?_;refine AllReadyH.cons (o:=_) rfl (fun K hK=>?_) AllReadyH.nil;go_simp;refine(words3_any _ zs x _ (HR.out.1.below (HQ.out.b.old.drew)) h1 HR.out.2.1 HGx.out).mono ?_;rintro e w8 ⟨u8v,rfl,o8,b8⟩;have B8:=hide (show Below wc.heap.size wc w8 from((Below.refl _ _).drew).trans b8);have Q8:=hide (HQ.out.below B8.out);have hus:u8v.ownBlock≠vS.ownBlock:=ap_new o8 HQ.out.sec;obtain⟨ua,uc,rfl⟩:=own_shapeT o8;have O8:=hide (own_mono o8 (show w.heap.size≤wc.heap.size from HQ.out.b.old.size));have e6c:=(Q8.out.b.tree.cell 6).trans (show _=some (.slice wva k wvc) from rfl);have bB:Below w8.heap.size w8 (w8.alloc (.cells #[.slice ua 128 uc] 26)):=(Below.refl _ _).alloc (Nat.le_refl _) _;have e6A:=((Q8.out.below bB).b.tree.cell 6).trans (show _=some (.slice wva k wvc) from rfl);have HUS:=hide hus;clear o8 b8 hus;refine hK.out _ _ trivial (fun _=>?_);clear hK K;try simp only[Act.put,List.getElem_toArray,List.getElem_cons_zero,List.getElem_cons_succ,List.setIfInBounds_toArray,List.set_cons_zero,List.set_cons_succ]
         refine wpAnyH_ready (rs:=[9]) (by kernel_rfl) (by simp) ?_;refine AllReadyH.cons (o:=_) rfl (fun K hK=>?_) AllReadyH.nil;go_simp;refine hK.out _ _ trivial (fun _=>?_);clear hK K;try simp only[Act.put,List.getElem_toArray,List.getElem_cons_zero,List.getElem_cons_succ,List.setIfInBounds_toArray,List.set_cons_zero,List.set_cons_succ]
         refine wpAnyH_ready (rs:=[10]) (by kernel_rfl) (by simp) ?_;refine AllReadyH.cons (o:=_) rfl (fun K hK=>?_) AllReadyH.nil;rw[if_pos (by rfl)];refine wp_append_own_atT (.tmp 76) (.tmp 84) 91 rfl w.heap.size 26 j0 nilV 1 24 Tryz.underlying91 hj hj0 hj1 hj2 rfl (by decide) (.slice wva k wvc) k _ rfl (own_belowT Q8.out.wrd bB) ⟨w8.heap.size,0,none⟩ 1 1 [.slice ua 128 uc] rfl rfl (cell_one_new _ _ _) (by simp[Value.oneCell']) (by unfold maxLen;omega) (by omega) (Q8.out.below bB).b.old.size ?_;intro v9 w9 o9 g9 a9;have H9:=hide (Ap2.addW (Q8.out.below bB) (own_belowT (by rw[←HX.out];exact O8.out) bB) HUS.out o9 g9);have kt9:=((Q8.out.below bB).b.own (own_belowT Q8.out.wrd bB) (by decide) (by decide) g9).tree;have c9:=(kt9.cell 6).trans (show _=some (.slice wva k wvc) from rfl);have f9:=kt9.frozen 6;obtain⟨va9,vc9,rfl⟩:=own_shapeT o9;clear o9 g9 a9 kt9;refine hK.out _ _ trivial (fun _=>?_);clear hK K;try simp only[Act.put,List.getElem_toArray,List.getElem_cons_zero,List.getElem_cons_succ,List.setIfInBounds_toArray,List.set_cons_zero,List.set_cons_succ]
         refine wpAnyH_take (i:=11) (oi:=_) (v:=.pointer (some ⟨tb,6,none⟩)) rfl (by kernel_rfl) (by kernel_rfl) (by kernel_rfl) (fun _ _ _ h=>h) (Or.inl ⟨by rfl,fun w' hw'=>by go_simp⟩) trivial ?_;try simp only[Act.put,List.getElem_toArray,List.getElem_cons_zero,List.getElem_cons_succ,List.setIfInBounds_toArray,List.set_cons_zero,List.set_cons_succ]
         refine wpAnyH_ready (rs:=[12]) (by kernel_rfl) (by simp) ?_;refine AllReadyH.cons (o:=_) rfl (fun K hK=>?_) AllReadyH.nil;go_simp;refine hK.out _ _ trivial (fun _=>?_);clear hK K;try simp only[Act.put,List.getElem_toArray,List.getElem_cons_zero,List.getElem_cons_succ,List.setIfInBounds_toArray,List.set_cons_zero,List.set_cons_succ]
         refine wpAnyH_done (by kernel_rfl) (NoPanic.normal ?_) _;go_wp2;go_roundw
         case rel=>exact⟨k+1,vS,_,_,by omega,by go_num,(fun j hj=>by
          rcases Nat.lt_succ_iff_lt_or_eq.1 hj with h|h
          ·exact HA2.out.2.1 j h
          ·rw[h, ←HX.out];exact HGx.out),H9.out⟩
         case measure=>simp[intOf];omega
        ·go_simp;refine hK.out _ _ trivial (fun _=>?_);clear hK K;try simp only[Act.put,List.getElem_toArray,List.getElem_cons_zero,List.getElem_cons_succ,List.setIfInBounds_toArray,List.set_cons_zero,List.set_cons_succ]
         refine wpAnyH_ready (rs:=[1,8]) (by kernel_rfl) (by simp) ?_;refine AllReadyH.cons (o:=_) rfl (fun K hK=>?_) (AllReadyH.cons (o:=_) rfl (fun K hK=>?_) AllReadyH.nil)
         ·go_simp;refine hK.out _ _ trivial (fun _=>?_);clear hK K;try simp only[Act.put,List.getElem_toArray,List.getElem_cons_zero,List.getElem_cons_succ,List.setIfInBounds_toArray,List.set_cons_zero,List.set_cons_succ]
          refine wpAnyH_ready (rs:=[8]) (by kernel_rfl) (by simp) ?_;refine AllReadyH.cons (o:=_) rfl (fun K hK=>?_) AllReadyH.nil;go_simp;refine(words3_any _ zs x _ (HR.out.1.below (HQ.out.b.old.drew)) h1 HR.out.2.1 HGx.out).mono ?_;rintro e w8 ⟨u8v,rfl,o8,b8⟩;have B8:=hide (show Below wc.heap.size wc w8 from((Below.refl _ _).drew).trans b8);have Q8:=hide (HQ.out.below B8.out);have hus:u8v.ownBlock≠vS.ownBlock:=ap_new o8 HQ.out.sec;obtain⟨ua,uc,rfl⟩:=own_shapeT o8;have O8:=hide (own_mono o8 (show w.heap.size≤wc.heap.size from HQ.out.b.old.size));have e6c:=(Q8.out.b.tree.cell 6).trans (show _=some (.slice wva k wvc) from rfl);have bB:Below w8.heap.size w8 (w8.alloc (.cells #[.slice ua 128 uc] 26)):=(Below.refl _ _).alloc (Nat.le_refl _) _;have e6A:=((Q8.out.below bB).b.tree.cell 6).trans (show _=some (.slice wva k wvc) from rfl);have HUS:=hide hus;clear o8 b8 hus;refine hK.out _ _ trivial (fun _=>?_);clear hK K;try simp only[Act.put,List.getElem_toArray,List.getElem_cons_zero,List.getElem_cons_succ,List.setIfInBounds_toArray,List.set_cons_zero,List.set_cons_succ]
          refine wpAnyH_ready (rs:=[9]) (by kernel_rfl) (by simp) ?_;refine AllReadyH.cons (o:=_) rfl (fun K hK=>?_) AllReadyH.nil;go_simp;refine hK.out _ _ trivial (fun _=>?_);clear hK K;try simp only[Act.put,List.getElem_toArray,List.getElem_cons_zero,List.getElem_cons_succ,List.setIfInBounds_toArray,List.set_cons_zero,List.set_cons_succ]
          refine wpAnyH_ready (rs:=[10]) (by kernel_rfl) (by simp) ?_;refine AllReadyH.cons (o:=_) rfl (fun K hK=>?_) AllReadyH.nil;rw[if_pos (by rfl)];refine wp_append_own_atT (.tmp 76) (.tmp 84) 91 rfl w.heap.size 26 j0 nilV 1 24 Tryz.underlying91 hj hj0 hj1 hj2 rfl (by decide) (.slice wva k wvc) k _ rfl (own_belowT Q8.out.wrd bB) ⟨w8.heap.size,0,none⟩ 1 1 [.slice ua 128 uc] rfl rfl (cell_one_new _ _ _) (by simp[Value.oneCell']) (by unfold maxLen;omega) (by omega) (Q8.out.below bB).b.old.size ?_;intro v9 w9 o9 g9 a9;have H9:=hide (Ap2.addW (Q8.out.below bB) (own_belowT (by rw[←HX.out];exact O8.out) bB) HUS.out o9 g9);have kt9:=((Q8.out.below bB).b.own (own_belowT Q8.out.wrd bB) (by decide) (by decide) g9).tree;have c9:=(kt9.cell 6).trans (show _=some (.slice wva k wvc) from rfl);have f9:=kt9.frozen 6;obtain⟨va9,vc9,rfl⟩:=own_shapeT o9;clear o9 g9 a9 kt9;refine hK.out _ _ trivial (fun _=>?_);clear hK K;try simp only[Act.put,List.getElem_toArray,List.getElem_cons_zero,List.getElem_cons_succ,List.setIfInBounds_toArray,List.set_cons_zero,List.set_cons_succ]
          refine wpAnyH_take (i:=11) (oi:=_) (v:=.pointer (some ⟨tb,6,none⟩)) rfl (by kernel_rfl) (by kernel_rfl) (by kernel_rfl) (fun _ _ _ h=>h) (Or.inl ⟨by rfl,fun w' hw'=>by go_simp⟩) trivial ?_;try simp only[Act.put,List.getElem_toArray,List.getElem_cons_zero,List.getElem_cons_succ,List.setIfInBounds_toArray,List.set_cons_zero,List.set_cons_succ]
          refine wpAnyH_ready (rs:=[12]) (by kernel_rfl) (by simp) ?_;refine AllReadyH.cons (o:=_) rfl (fun K hK=>?_) AllReadyH.nil;go_simp;refine hK.out _ _ trivial (fun _=>?_);clear hK K;try simp only[Act.put,List.getElem_toArray,List.getElem_cons_zero,List.getElem_cons_succ,List.setIfInBounds_toArray,List.set_cons_zero,List.set_cons_succ]
          refine wpAnyH_done (by kernel_rfl) (NoPanic.normal ?_) _;go_wp2;go_roundw
          case rel=>exact⟨k+1,vS,_,_,by omega,by go_num,(fun j hj=>by
           rcases Nat.lt_succ_iff_lt_or_eq.1 hj with h|h
           ·exact HA2.out.2.1 j h
           ·rw[h, ←HX.out];exact HGx.out),H9.out⟩
          case measure=>simp[intOf];omega
         ·go_simp;refine(words3_any _ zs x _ (HR.out.1.below (HQ.out.b.old.drew)) h1 HR.out.2.1 HGx.out).mono ?_;rintro e w8 ⟨u8v,rfl,o8,b8⟩;have B8:=hide (show Below wc.heap.size wc w8 from((Below.refl _ _).drew).trans b8);have Q8:=hide (HQ.out.below B8.out);have hus:u8v.ownBlock≠vS.ownBlock:=ap_new o8 HQ.out.sec;obtain⟨ua,uc,rfl⟩:=own_shapeT o8;have O8:=hide (own_mono o8 (show w.heap.size≤wc.heap.size from HQ.out.b.old.size));have e6c:=(Q8.out.b.tree.cell 6).trans (show _=some (.slice wva k wvc) from rfl);have bB:Below w8.heap.size w8 (w8.alloc (.cells #[.slice ua 128 uc] 26)):=(Below.refl _ _).alloc (Nat.le_refl _) _;have e6A:=((Q8.out.below bB).b.tree.cell 6).trans (show _=some (.slice wva k wvc) from rfl);have HUS:=hide hus;clear o8 b8 hus;refine hK.out _ _ trivial (fun _=>?_);clear hK K;try simp only[Act.put,List.getElem_toArray,List.getElem_cons_zero,List.getElem_cons_succ,List.setIfInBounds_toArray,List.set_cons_zero,List.set_cons_succ]
          refine wpAnyH_ready (rs:=[1,9]) (by kernel_rfl) (by simp) ?_;refine AllReadyH.cons (o:=_) rfl (fun K hK=>?_) (AllReadyH.cons (o:=_) rfl (fun K hK=>?_) AllReadyH.nil)
          ·go_simp;refine hK.out _ _ trivial (fun _=>?_);clear hK K;try simp only[Act.put,List.getElem_toArray,List.getElem_cons_zero,List.getElem_cons_succ,List.setIfInBounds_toArray,List.set_cons_zero,List.set_cons_succ]
           refine wpAnyH_ready (rs:=[9]) (by kernel_rfl) (by simp) ?_;refine AllReadyH.cons (o:=_) rfl (fun K hK=>?_) AllReadyH.nil;go_simp;refine hK.out _ _ trivial (fun _=>?_);clear hK K;try simp only[Act.put,List.getElem_toArray,List.getElem_cons_zero,List.getElem_cons_succ,List.setIfInBounds_toArray,List.set_cons_zero,List.set_cons_succ]
           refine wpAnyH_ready (rs:=[10]) (by kernel_rfl) (by simp) ?_;refine AllReadyH.cons (o:=_) rfl (fun K hK=>?_) AllReadyH.nil;rw[if_pos (by rfl)];refine wp_append_own_atT (.tmp 76) (.tmp 84) 91 rfl w.heap.size 26 j0 nilV 1 24 Tryz.underlying91 hj hj0 hj1 hj2 rfl (by decide) (.slice wva k wvc) k _ rfl (own_belowT Q8.out.wrd bB) ⟨w8.heap.size,0,none⟩ 1 1 [.slice ua 128 uc] rfl rfl (cell_one_new _ _ _) (by simp[Value.oneCell']) (by unfold maxLen;omega) (by omega) (Q8.out.below bB).b.old.size ?_;intro v9 w9 o9 g9 a9;have H9:=hide (Ap2.addW (Q8.out.below bB) (own_belowT (by rw[←HX.out];exact O8.out) bB) HUS.out o9 g9);have kt9:=((Q8.out.below bB).b.own (own_belowT Q8.out.wrd bB) (by decide) (by decide) g9).tree;have c9:=(kt9.cell 6).trans (show _=some (.slice wva k wvc) from rfl);have f9:=kt9.frozen 6;obtain⟨va9,vc9,rfl⟩:=own_shapeT o9;clear o9 g9 a9 kt9;refine hK.out _ _ trivial (fun _=>?_);clear hK K;try simp only[Act.put,List.getElem_toArray,List.getElem_cons_zero,List.getElem_cons_succ,List.setIfInBounds_toArray,List.set_cons_zero,List.set_cons_succ]
           refine wpAnyH_take (i:=11) (oi:=_) (v:=.pointer (some ⟨tb,6,none⟩)) rfl (by kernel_rfl) (by kernel_rfl) (by kernel_rfl) (fun _ _ _ h=>h) (Or.inl ⟨by rfl,fun w' hw'=>by go_simp⟩) trivial ?_;try simp only[Act.put,List.getElem_toArray,List.getElem_cons_zero,List.getElem_cons_succ,List.setIfInBounds_toArray,List.set_cons_zero,List.set_cons_succ]
           refine wpAnyH_ready (rs:=[12]) (by kernel_rfl) (by simp) ?_;refine AllReadyH.cons (o:=_) rfl (fun K hK=>?_) AllReadyH.nil;go_simp;refine hK.out _ _ trivial (fun _=>?_);clear hK K;try simp only[Act.put,List.getElem_toArray,List.getElem_cons_zero,List.getElem_cons_succ,List.setIfInBounds_toArray,List.set_cons_zero,List.set_cons_succ]
           refine wpAnyH_done (by kernel_rfl) (NoPanic.normal ?_) _;go_wp2;go_roundw
           case rel=>exact⟨k+1,vS,_,_,by omega,by go_num,(fun j hj=>by
            rcases Nat.lt_succ_iff_lt_or_eq.1 hj with h|h
            ·exact HA2.out.2.1 j h
            ·rw[h, ←HX.out];exact HGx.out),H9.out⟩
           case measure=>simp[intOf];omega
          ·go_simp;refine hK.out _ _ trivial (fun _=>?_);clear hK K;try simp only[Act.put,List.getElem_toArray,List.getElem_cons_zero,List.getElem_cons_succ,List.setIfInBounds_toArray,List.set_cons_zero,List.set_cons_succ]
           refine wpAnyH_ready (rs:=[1]) (by kernel_rfl) (by simp) ?_;refine AllReadyH.cons (o:=_) rfl (fun K hK=>?_) AllReadyH.nil;go_simp;refine hK.out _ _ trivial (fun _=>?_);clear hK K;try simp only[Act.put,List.getElem_toArray,List.getElem_cons_zero,List.getElem_cons_succ,List.setIfInBounds_toArray,List.set_cons_zero,List.set_cons_succ]
           refine wpAnyH_ready (rs:=[10]) (by kernel_rfl) (by simp) ?_;refine AllReadyH.cons (o:=_) rfl (fun K hK=>?_) AllReadyH.nil;rw[if_pos (by rfl)];refine wp_append_own_atT (.tmp 76) (.tmp 84) 91 rfl w.heap.size 26 j0 nilV 1 24 Tryz.underlying91 hj hj0 hj1 hj2 rfl (by decide) (.slice wva k wvc) k _ rfl (own_belowT Q8.out.wrd bB) ⟨w8.heap.size,0,none⟩ 1 1 [.slice ua 128 uc] rfl rfl (cell_one_new _ _ _) (by simp[Value.oneCell']) (by unfold maxLen;omega) (by omega) (Q8.out.below bB).b.old.size ?_;intro v9 w9 o9 g9 a9;have H9:=hide (Ap2.addW (Q8.out.below bB) (own_belowT (by rw[←HX.out];exact O8.out) bB) HUS.out o9 g9);have kt9:=((Q8.out.below bB).b.own (own_belowT Q8.out.wrd bB) (by decide) (by decide) g9).tree;have c9:=(kt9.cell 6).trans (show _=some (.slice wva k wvc) from rfl);have f9:=kt9.frozen 6;obtain⟨va9,vc9,rfl⟩:=own_shapeT o9;clear o9 g9 a9 kt9;refine hK.out _ _ trivial (fun _=>?_);clear hK K;try simp only[Act.put,List.getElem_toArray,List.getElem_cons_zero,List.getElem_cons_succ,List.setIfInBounds_toArray,List.set_cons_zero,List.set_cons_succ]
           refine wpAnyH_take (i:=11) (oi:=_) (v:=.pointer (some ⟨tb,6,none⟩)) rfl (by kernel_rfl) (by kernel_rfl) (by kernel_rfl) (fun _ _ _ h=>h) (Or.inl ⟨by rfl,fun w' hw'=>by go_simp⟩) trivial ?_;try simp only[Act.put,List.getElem_toArray,List.getElem_cons_zero,List.getElem_cons_succ,List.setIfInBounds_toArray,List.set_cons_zero,List.set_cons_succ]
           refine wpAnyH_ready (rs:=[12]) (by kernel_rfl) (by simp) ?_;refine AllReadyH.cons (o:=_) rfl (fun K hK=>?_) AllReadyH.nil;go_simp;refine hK.out _ _ trivial (fun _=>?_);clear hK K;try simp only[Act.put,List.getElem_toArray,List.getElem_cons_zero,List.getElem_cons_succ,List.setIfInBounds_toArray,List.set_cons_zero,List.set_cons_succ]
           refine wpAnyH_done (by kernel_rfl) (NoPanic.normal ?_) _;go_wp2;go_roundw
           case rel=>exact⟨k+1,vS,_,_,by omega,by go_num,(fun j hj=>by
            rcases Nat.lt_succ_iff_lt_or_eq.1 hj with h|h
            ·exact HA2.out.2.1 j h
            ·rw[h, ←HX.out];exact HGx.out),H9.out⟩
           case measure=>simp[intOf];omega
    ·have hk6:¬(140+128*(k:Int)<(cnt:Int)):=(by have:=sec_ge hcn (show secN cnt≤k by omega);omega);have hk7:k=secN cnt:=(by omega);have HK7:=hide hk7;clear hk7 hk2 hap2 hgk hcello;have HC3:=hide (show Ap3 w tb R (wrdP zs) (fun i=>ds.getD i 0) p q nilV (.slice ia 128 ic) (.slice (some ⟨go,0,none⟩) 128 oc) (.slice sva k svc) (.slice wva k wvc) vs k 0 wr from by
      have hA:=HA2.out.1;refine⟨hA.b,hA.inn,hA.sec,hA.wrd,fun j hj=>?_,World.ownsRow_nil _ _ _ _,?_,?_⟩
      ·obtain⟨v,e1,e2,e3⟩:=hA.each j hj;obtain⟨g,e4,_⟩:=own_some e2 (by omega);exact⟨v,e1,e2,by rw[e4];intro e;cases e⟩
      ·obtain⟨g,e4,_⟩:=own_some hA.inn (by omega);rw[e4];intro e;cases e
      ·cases hv:(Value.slice sva k svc).ownBlock with
       |none=>exact .inr rfl
       |some g=>exact .inl (fun e=>by cases e))
     have HGk:=hide HA2.out.2.1;clear HA2;rename_i wr0 _ _ _
     go_wp2;go_loopw [10] (fun iv' wr=>∃(i:Nat) (dv:Value),i≤cnt∧iv'=.int .i64 (i:Int)∧(∀j,j<i→goodP (zs.length/512) (datP (wrdP zs) (fun i=>ds.getD i 0) p q j)=true)∧Ap3 w tb R (wrdP zs) (fun i=>ds.getD i 0) p q dv (.slice ia 128 ic) (.slice (some ⟨go,0,none⟩) 128 oc) (.slice sva k svc) (.slice wva k wvc) vs k i wr) (fun iv' _=>cnt-(intOf iv').toNat)
     case atStart=>exact⟨0,nilV,Nat.zero_le _,rfl,fun j hj=>absurd hj (by omega),HC3.out⟩
     case round=>
      obtain⟨i,dv,hi1,rfl,hgi,hap3⟩:=hrel;clear HC3;have HA3:=hide (And.intro hap3 hgi);by_cases hi2:i<cnt
      ·have hiI:(i:Int)<(cnt:Int):=(by omega);clear hap3;obtain⟨da,dc,rfl⟩:=own_shapeT HA3.out.1.dat;obtain⟨x,hx⟩:∃x,x=datP (wrdP zs) (fun i=>ds.getD i 0) p q i:=⟨_,rfl⟩;have HXd:=hide hx;clear hx hgi;by_cases h12:i<12
       ·have hxe:x=ds.getD i 0:=(by rw[HXd.out];exact dat_lo h12);have HXe:=hide hxe;clear hxe;go_upto_region 30 with(first
         |(go_at_call 74;refine(specP_0 i _ h12).mono ?_;rintro e w8 ⟨rfl,b8⟩;simp only[placeV];have b9:Below wr.heap.size wr (w8.alloc (.cells #[.int .i64 0,.int .i64 0,.int .i64 (i:Int)] 131)):=b8.alloc b8.size _;have A9:=hide (HA3.out.1.below b9);have kp:=Blk.new w8 #[.int .i64 0,.int .i64 0,.int .i64 (i:Int)] 131;have p0:=(kp.cell 0).trans rfl;have p1:=(kp.cell 1).trans rfl;have p2:=(kp.cell 2).trans rfl;have cx:=(A9.out.b.root.cell (1+i)).trans (HRc.out.2.2.1 i h12);rw[←HXe.out] at cx;clear b8 b9 kp))
        generalize w8.alloc (.cells #[.int .i64 0,.int .i64 0,.int .i64 (i:Int)] 131)=W9 at A9⊢;clear p0 p1 p2 cx;have bN:Below W9.heap.size W9 (W9.alloc (.cells #[.int .i64 x] 3)):=(Below.refl _ _).alloc (Nat.le_refl _) _;have t0:=(A9.out.b.tree.cell 0).trans (show _=some (.slice da i dc) from rfl);cases hg:goodP (zs.length/512) x with
        |false=>
         have HGx:=hide hg;clear hg t0 bN;go_wp2_with (first
          |(go_at_call 72;refine(good_any _ zs x _ (HR.out.1.below A9.out.b.old) h1).mono ?_;rintro e w9 ⟨rfl,hw9⟩;rw[HGx.out,hw9];clear hw9)
          |(refine wpList_store_row rfl 93 _ _ rfl (w.heap.size+1) (treeC nilV 0 0 nilV nilV nilV nilV false) rfl rfl 93 _ A9.out.b.res infoTr8 rfl (by simp[Value.oneCell']) ?_))
         refine bodyPost_ret (v:=.agg (treeC nilV 0 0 nilV nilV nilV nilV false)) ?_ rfl ⟨.inr ⟨fun hap=>?_,rfl⟩,below_setRow A9.out.b.old (by omega) _⟩
         ·exact results_cell_row rfl _ _ (w.heap.size+1) 93 _ (0,0) _ rfl (A9.out.b.res.row _) Tryz.underlying93 rfl infoTr8
         ·have:=hap.2.2.2.2 i hi2;rw[←HXd.out,HGx.out] at this;cases this
        |true=>
         have HGx:=hide hg;clear hg;go_wp2_with (first
          |(go_at_call 72;refine(good_any _ zs x _ (HR.out.1.below A9.out.b.old) h1).mono ?_;rintro e w9 ⟨rfl,hw9⟩;rw[HGx.out,hw9];clear hw9)
          |(at_builtin;refine wpList_append_own_at _ rfl (.tmp 132) (.tmp 134) 26 rfl w.heap.size 3 i0 (.int .i64 0) 1 8 Tryz.underlying26 hi hz0 hz1 hz2 rfl (by decide) (.slice da i dc) i _ rfl (own_belowT A9.out.dat bN) ⟨W9.heap.size,0,none⟩ 1 1 [.int .i64 x] rfl rfl (cell_one_new _ _ _) (by simp[Value.oneCell']) (by unfold maxLen;omega) (by omega) (A9.out.below bN).b.old.size ?_;intro v10 w10 o10 g10 _ a10;have H10:=hide (Ap3.add (A9.out.below bN) (by rw[←HXd.out];exact o10) g10 a10);have kt10:=((A9.out.below bN).b.own (own_belowT A9.out.dat bN) (by decide) (by decide) g10).tree;have c10:=(kt10.cell 0).trans (show _=some (.slice da i dc) from rfl);have f10:=kt10.frozen 0;obtain⟨va10,vc10,rfl⟩:=own_shapeT o10;clear o10 g10 a10 kt10))
         go_roundw
         case rel=>exact⟨i+1,_,by omega,by go_num,(fun j hj=>by
          rcases Nat.lt_succ_iff_lt_or_eq.1 hj with h|h
          ·exact HA3.out.2 j h
          ·rw[h, ←HXd.out];exact HGx.out),H10.out⟩
         case measure=>simp[intOf];omega
       ·by_cases h140:i<140
        ·obtain⟨y,hy0⟩:∃y:Nat,i=y+12:=⟨i-12,by omega⟩;have hy:y<128:=(by omega);have hyI:(y:Int)<128:=(by omega);have HXe:=hide (show x=hwP (wrdP zs) p y by rw[HXd.out,hy0,Nat.add_comm y 12];exact dat_mid hy);have HY0:=hide hy0;clear hy0;go_upto_region 30 with(first
          |(go_at_call 74;refine(specQ_1 i y HY0.out hy _).mono ?_;rintro e w8 ⟨rfl,b8⟩;simp only[placeV];have b9:Below wr.heap.size wr (w8.alloc (.cells #[.int .i64 1,.int .i64 0,.int .i64 (y:Int)] 131)):=b8.alloc b8.size _;have A9:=hide (HA3.out.1.below b9);have kp:=Blk.new w8 #[.int .i64 1,.int .i64 0,.int .i64 (y:Int)] 131;have p0:=(kp.cell 0).trans rfl;have p1:=(kp.cell 1).trans rfl;have p2:=(kp.cell 2).trans rfl;obtain⟨gi,ci,ei,_,hci⟩:=own_cellT A9.out.inn (by omega);injection ei with ei1 ei2 ei3;have cx:=hci y (by omega);rw[show((List.range 128).map (hwP (wrdP zs) p)).getD y 0=hwP (wrdP zs) p y by simp[List.getD,hy], ←HXe.out] at cx;have ti:=(A9.out.b.tree.cell 3).trans (show _=some (.slice ia 128 ic) from rfl);rw[ei1] at ti;clear b8 b9 kp hci ei1 ei2 ei3))
         generalize w8.alloc (.cells #[.int .i64 1,.int .i64 0,.int .i64 (y:Int)] 131)=W9 at A9⊢;clear p0 p1 p2 cx ti;have bN:Below W9.heap.size W9 (W9.alloc (.cells #[.int .i64 x] 3)):=(Below.refl _ _).alloc (Nat.le_refl _) _;have t0:=(A9.out.b.tree.cell 0).trans (show _=some (.slice da i dc) from rfl);cases hg:goodP (zs.length/512) x with
         |false=>
          have HGx:=hide hg;clear hg t0 bN;go_wp2_with (first
           |(go_at_call 72;refine(good_any _ zs x _ (HR.out.1.below A9.out.b.old) h1).mono ?_;rintro e w9 ⟨rfl,hw9⟩;rw[HGx.out,hw9];clear hw9)
           |(refine wpList_store_row rfl 93 _ _ rfl (w.heap.size+1) (treeC nilV 0 0 nilV nilV nilV nilV false) rfl rfl 93 _ A9.out.b.res infoTr8 rfl (by simp[Value.oneCell']) ?_))
          refine bodyPost_ret (v:=.agg (treeC nilV 0 0 nilV nilV nilV nilV false)) ?_ rfl ⟨.inr ⟨fun hap=>?_,rfl⟩,below_setRow A9.out.b.old (by omega) _⟩
          ·exact results_cell_row rfl _ _ (w.heap.size+1) 93 _ (0,0) _ rfl (A9.out.b.res.row _) Tryz.underlying93 rfl infoTr8
          ·have:=hap.2.2.2.2 i hi2;rw[←HXd.out,HGx.out] at this;cases this
         |true=>
          have HGx:=hide hg;clear hg;go_wp2_with (first
           |(go_at_call 72;refine(good_any _ zs x _ (HR.out.1.below A9.out.b.old) h1).mono ?_;rintro e w9 ⟨rfl,hw9⟩;rw[HGx.out,hw9];clear hw9)
           |(at_builtin;refine wpList_append_own_at _ rfl (.tmp 132) (.tmp 134) 26 rfl w.heap.size 3 i0 (.int .i64 0) 1 8 Tryz.underlying26 hi hz0 hz1 hz2 rfl (by decide) (.slice da i dc) i _ rfl (own_belowT A9.out.dat bN) ⟨W9.heap.size,0,none⟩ 1 1 [.int .i64 x] rfl rfl (cell_one_new _ _ _) (by simp[Value.oneCell']) (by unfold maxLen;omega) (by omega) (A9.out.below bN).b.old.size ?_;intro v10 w10 o10 g10 _ a10;have H10:=hide (Ap3.add (A9.out.below bN) (by rw[←HXd.out];exact o10) g10 a10);have kt10:=((A9.out.below bN).b.own (own_belowT A9.out.dat bN) (by decide) (by decide) g10).tree;have c10:=(kt10.cell 0).trans (show _=some (.slice da i dc) from rfl);have f10:=kt10.frozen 0;obtain⟨va10,vc10,rfl⟩:=own_shapeT o10;clear o10 g10 a10 kt10))
          go_roundw
          case rel=>exact⟨i+1,_,by omega,by go_num,(fun j hj=>by
           rcases Nat.lt_succ_iff_lt_or_eq.1 hj with h|h
           ·exact HA3.out.2 j h
           ·rw[h, ←HXd.out];exact HGx.out),H10.out⟩
          case measure=>simp[intOf];omega
        ·obtain⟨y,hy0⟩:∃y:Nat,i=y+140:=⟨i-140,by omega⟩;obtain⟨o,ho⟩:∃o:Nat,o=y/128:=⟨_,rfl⟩;obtain⟨n,hn⟩:∃n:Nat,n=y%128:=⟨_,rfl⟩;have hn1:n<128:=(by omega);have hnI:(n:Int)<128:=(by omega);have hok:o<k:=by
          rcases Nat.lt_or_ge o k with h|h
          ·exact h
          ·rw[HK7.out] at h;have:=sec_ge hcn h;omega
         have hoI:(o:Int)<(k:Int):=(by omega);have HXe:=hide (show x=hwP (wrdP zs) (hwP (wrdP zs) q o) n by
          rw[HXd.out,hy0,show y+140=140+128*o+n by omega];exact dat_hi hn1)
         have HY0:=hide (And.intro hy0 (And.intro ho hn));have hy372:y<372:=(by omega);clear hy0 ho hn;go_upto_region 29 with(first
          |(go_at_call 74;refine(specQ_2 i y o n HY0.out.1 hy372 HY0.out.2.1 HY0.out.2.2 _).mono ?_;rintro e w8 ⟨rfl,b8⟩;simp only[placeV];have b9:Below wr.heap.size wr (w8.alloc (.cells #[.int .i64 2,.int .i64 (o:Int),.int .i64 (n:Int)] 131)):=b8.alloc b8.size _;have A9:=hide (HA3.out.1.below b9);have kp:=Blk.new w8 #[.int .i64 2,.int .i64 (o:Int),.int .i64 (n:Int)] 131;have p0:=(kp.cell 0).trans rfl;have p1:=(kp.cell 1).trans rfl;have p2:=(kp.cell 2).trans rfl;have HKp:=hide kp;clear b8 b9 kp))
         obtain⟨vo,hvo,hvr,_⟩:=A9.out.each o hok;obtain⟨gw,hcw⟩:=own_cellS A9.out.wrd (show 0<k by omega);obtain⟨cw,ew,hcw⟩:=hcw;injection ew with ew1 ew2 ew3;obtain⟨gv,cv,rfl,_,hcv⟩:=own_cellT hvr (by omega);have cw1:=hcw o _ hvo;have cx:=hcv n hn1;rw[show((List.range 128).map (hwP (wrdP zs) (hwP (wrdP zs) q o))).getD n 0=hwP (wrdP zs) (hwP (wrdP zs) q o) n by simp[List.getD,hn1], ←HXe.out] at cx;have tw:=(A9.out.b.tree.cell 6).trans (show _=some (.slice wva k wvc) from rfl);rw[ew1] at tw;clear hcw hcv hvr hvo ew1 ew2 ew3;go_quiet (fail)
         go_upto_region 30 with fail;have A9q:=hide (fun nq=>A9.out.below (belNT (Below.refl _ _) nq));clear A9 p0 p1 p2 cx tw cw1;generalize hWd:World.drewN _ _=W9;have A9:=hide (show Ap3 w tb R (wrdP zs) (fun i=>ds.getD i 0) p q (.slice da i dc) (.slice ia 128 ic) (.slice (some ⟨go,0,none⟩) 128 oc) (.slice sva k svc) (.slice wva k wvc) vs k i W9 from by rw[←hWd];exact A9q.out _);clear hWd A9q;have bN:Below W9.heap.size W9 (W9.alloc (.cells #[.int .i64 x] 3)):=(Below.refl _ _).alloc (Nat.le_refl _) _;have t0:=(A9.out.b.tree.cell 0).trans (show _=some (.slice da i dc) from rfl);cases hg:goodP (zs.length/512) x with
         |false=>
          have HGx:=hide hg;clear hg t0 bN;go_wp2_with (first
           |(go_at_call 72;refine(good_any _ zs x _ (HR.out.1.below A9.out.b.old) h1).mono ?_;rintro e w9 ⟨rfl,hw9⟩;rw[HGx.out,hw9];clear hw9)
           |(refine wpList_store_row rfl 93 _ _ rfl (w.heap.size+1) (treeC nilV 0 0 nilV nilV nilV nilV false) rfl rfl 93 _ A9.out.b.res infoTr8 rfl (by simp[Value.oneCell']) ?_))
          refine bodyPost_ret (v:=.agg (treeC nilV 0 0 nilV nilV nilV nilV false)) ?_ rfl ⟨.inr ⟨fun hap=>?_,rfl⟩,below_setRow A9.out.b.old (by omega) _⟩
          ·exact results_cell_row rfl _ _ (w.heap.size+1) 93 _ (0,0) _ rfl (A9.out.b.res.row _) Tryz.underlying93 rfl infoTr8
          ·have:=hap.2.2.2.2 i hi2;rw[←HXd.out,HGx.out] at this;cases this
         |true=>
          have HGx:=hide hg;clear hg;go_wp2_with (first
           |(go_at_call 72;refine(good_any _ zs x _ (HR.out.1.below A9.out.b.old) h1).mono ?_;rintro e w9 ⟨rfl,hw9⟩;rw[HGx.out,hw9];clear hw9)
           |(at_builtin;refine wpList_append_own_at _ rfl (.tmp 132) (.tmp 134) 26 rfl w.heap.size 3 i0 (.int .i64 0) 1 8 Tryz.underlying26 hi hz0 hz1 hz2 rfl (by decide) (.slice da i dc) i _ rfl (own_belowT A9.out.dat bN) ⟨W9.heap.size,0,none⟩ 1 1 [.int .i64 x] rfl rfl (cell_one_new _ _ _) (by simp[Value.oneCell']) (by unfold maxLen;omega) (by omega) (A9.out.below bN).b.old.size ?_;intro v10 w10 o10 g10 _ a10;have H10:=hide (Ap3.add (A9.out.below bN) (by rw[←HXd.out];exact o10) g10 a10);have kt10:=((A9.out.below bN).b.own (own_belowT A9.out.dat bN) (by decide) (by decide) g10).tree;have c10:=(kt10.cell 0).trans (show _=some (.slice da i dc) from rfl);have f10:=kt10.frozen 0;obtain⟨va10,vc10,rfl⟩:=own_shapeT o10;clear o10 g10 a10 kt10))
          go_roundw
          case rel=>exact⟨i+1,_,by omega,by go_num,(fun j hj=>by
           rcases Nat.lt_succ_iff_lt_or_eq.1 hj with h|h
           ·exact HA3.out.2 j h
           ·rw[h, ←HXd.out];exact HGx.out),H10.out⟩
          case measure=>simp[intOf];omega
      ·have hi3:i=cnt:=(by omega);subst hi3;clear hi2 hap3 hgi;go_wp2_with (first
        |(refine wpList_load_row rfl 93 _ rfl tb rfl 93 (treeC dv p q (.slice ia 128 ic) (.slice (some ⟨go,0,none⟩) 128 oc) (.slice sva k svc) (.slice wva k wvc) true) (0,0) _ HA3.out.1.b.tree Tryz.underlying93 rfl infoTr8 ?_)
        |(refine wpList_store_row rfl 93 _ _ rfl (w.heap.size+1) (treeC dv p q (.slice ia 128 ic) (.slice (some ⟨go,0,none⟩) 128 oc) (.slice sva k svc) (.slice wva k wvc) true) rfl rfl 93 _ HA3.out.1.b.res infoTr8 rfl (treeC_one HA3.out.1.dat) ?_))
       refine bodyPost_ret (v:=.agg (treeC dv p q (.slice ia 128 ic) (.slice (some ⟨go,0,none⟩) 128 oc) (.slice sva k svc) (.slice wva k wvc) true)) ?_ rfl ⟨.inl ⟨⟨HGD.out,HGS.out,HGX.out,fun j hj hc=>HGk.out j ?_,HA3.out.2⟩,dv,_,_,_,_,rfl,treeC_one HA3.out.1.dat,own_setRowT HA3.out.1.dat HA3.out.1.b.res (by decide),by rw[←HK7.out];exact own_setRowT HA3.out.1.sec HA3.out.1.b.res (by decide),HA3.out.1.a2⟩,below_setRow HA3.out.1.b.old (by omega) _⟩
       ·exact results_cell_row rfl _ _ (w.heap.size+1) 93 _ (0,0) _ rfl (HA3.out.1.b.res.row _) Tryz.underlying93 rfl infoTr8
       ·rcases Nat.lt_or_ge j k with h|h
        ·exact h
        ·rw[HK7.out] at h;have:=sec_ge hcn h;omega
end
end Go.Proofs.YtbhpealglhkodaaGreatDoor
