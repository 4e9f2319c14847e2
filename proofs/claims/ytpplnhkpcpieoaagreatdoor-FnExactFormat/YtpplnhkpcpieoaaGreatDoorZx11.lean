/- The model takes a tree apart: l03Apart. -/
import Derived.Test.YtpplnhkpcpieoaaGreatDoorZx10
import Derived.Deep.CutRange
import Derived.Maps.AppendAt
namespace Go.Proofs.YtpplnhkpcpieoaaGreatDoor
open Go.Proofs.Tryz
open _root_.List (getD getElem?_append range map_append)
open World (setRow drew ownsRow_nil)
set_option linter.all false
set_option maxRecDepth 100000
set_option maxHeartbeats 16000000
section
open Go.RowKit
theorem gZ:(prog.info? 77).map (·.size)=some 8:=by kernel_rfl
abbrev di(dv:Value)(S X:Int)(iv ov sv wv:Value)(ok:Bool):Array Value:=#[dv,.int .i64 S,.int .i64 X,iv,ov,sv,wv,.bool ok]
abbrev aJ:Value:=.slice none 0 0
theorem jB{W:World}{base n b:Nat}{e t:TypeId}{v:Value}{xs:List Value}{C:Array Value}(h:W.ownsRow base e 1 v n xs)(hb:af W b C t)(ht:t≠e):v.ownBlock≠some b:=fun hv=>by
 rcases h.2 with⟨rfl,_⟩|⟨g,cap,cur,rfl,_,hg,_⟩
 ·simp[Value.ownBlock] at hv
 ·simp[Value.ownBlock] at hv;subst hv;rw[hb] at hg;cases hg
  exact ht rfl
theorem nW{W W':World}{base n b:Nat}{e t:TypeId}{v:Value}{xs:List Value}{C:Array Value}(h:W.ownsRow base e 1 v n xs)(hb:af W b C t)(ht:t≠e)(hg:W.grownBy W' v.ownBlock):af W' b C t:=
 (hg.block b hb.lt (fun e'=>jB h hb ht e'.symm)).trans hb
theorem cG{w:World}{base:Nat}{e:TypeId}{v:Value}{n:Nat}{xs:List Value}(h:w.ownsRow base e 1 v n xs):∃a cap,v=.slice a n cap:=by
 rcases h.2 with⟨rfl,rfl⟩|⟨g,cap,_,rfl,_⟩
 ·exact⟨_,_,rfl⟩
 ·exact⟨_,_,rfl⟩
theorem kU{k:IntKind}{w:World}{base:Nat}{e:TypeId}{v:Value}{n:Nat}{zs:List Int}(h:w.ownsRow base e 1 v n (zs.map (Value.int k)))(hn:0<n):∃g cap,v=.slice (some ⟨g,0,none⟩) n cap∧n≤cap∧∀i,i<n→w.cell? ⟨g,i,none⟩=some (.int k (zs.getD i 0)):=by
 have hl:zs.length=n:=by have:=h.1;simpa using this
 rcases h.2 with⟨_,h0⟩|⟨g,cap,cur,rfl,_,hg,hc,_,hcs,ht⟩
 ·omega
 ·refine⟨g,cap,rfl,hc,fun i hi=>?_⟩;have hx:w.cell? ⟨g,i,none⟩=cur[i]?:=cell_of_row w g i cur e (0,0) hg;rw[hx];have h2:cur.toList[i]?=(zs.map (Value.int k))[i]?:=by
   rw[←ht,List.getElem?_take,if_pos (by omega)]
  rw[Array.getElem?_toList] at h2;rw[h2,List.getElem?_map,List.getElem?_eq_getElem (by omega)];simp[getD,show i<zs.length by omega]
def Fh(n:Nat)(L:List Int)(k:Nat):Prop:=∀j,j<k→bM n (L.getD j 0)=true
theorem qU{ds:List Int}{p q:Int}{i:Nat}(hd:ds.length=12)(hi:i<12):(ds++[p,q]).getD i 0=ds.getD i 0:=by
 simp[getD,getElem?_append,hd,hi]
theorem qV{ds:List Int}{p q:Int}(hd:ds.length=12):(ds++[p,q]).getD 12 0=p:=by
 simp[getD,getElem?_append,hd]
theorem qW{ds:List Int}{p q:Int}(hd:ds.length=12):(ds++[p,q]).getD 13 0=q:=by
 simp[getD,getElem?_append,hd]
theorem Fi{cnt n:Nat}{Wd:Int→Nat→Int}{ds:List Int}{p q:Int}(hd:ds.length=12)(h:iK cnt n Wd (fun i=>ds.getD i 0) p q)(k:Nat)(hk:k<14):bM n ((ds++[p,q]).getD k 0)=true:=by
 by_cases h1:k<12
 ·rw[qU hd h1];exact h.1 k h1
 ·by_cases h2:k=12
  ·subst h2;rw[qV hd];exact h.2.1
  ·have h3:k=13:=(by omega);subst h3;rw[qW hd];exact h.2.2.1
def yu(w:World)(cnt n:Nat)(Wd:Int→Nat→Int)(D:Nat→Int)(S X:Int)(e:Ending)(w':World):Prop:=
 (iK cnt n Wd D S X∧∃dv iv ov sv wv,e=.returned (.agg (di dv S X iv ov sv wv true))∧(di dv S X iv ov sv wv true).all (·.oneCell')=true∧w'.ownsRow w.heap.size 3 1 dv cnt (((range cnt).map (cO Wd D S X)).map (Value.int .i64))∧w'.ownsRow w.heap.size 3 1 sv (jy cnt) (((range (jy cnt)).map (bJ Wd X)).map (Value.int .i64))∧(sv.ownBlock≠dv.ownBlock∨sv.ownBlock=none))∨
 (¬iK cnt n Wd D S X∧e=.returned (.agg (di aJ 0 0 aJ aJ aJ aJ false)))
structure iB(w:World)(tb:Nat)(R T:Array Value)(W:World):Prop where
 root:af W w.heap.size R 31
 res:af W (w.heap.size+1) (di aJ 0 0 aJ aJ aJ aJ false) 77
 tree:af W tb T 77
 old:Below w.heap.size w W
 tb2:w.heap.size+2≤tb
theorem iB.below{w:World}{tb:Nat}{R T:Array Value}{W W':World}(h:iB w tb R T W)(hb:Below W.heap.size W W'):iB w tb R T W':=
 ⟨h.root.below hb h.root.lt,h.res.below hb h.res.lt,h.tree.below hb h.tree.lt,h.old.trans (hb.mono h.old.size),h.tb2⟩
theorem iB.set{w:World}{tb:Nat}{R T:Array Value}{W:World}(h:iB w tb R T W)(k:Nat)(v:Value):iB w tb R (T.setIfInBounds k v) (W.setCell ⟨tb,k,none⟩ v):=
 ⟨h.root.other _ _ (by have:=h.tb2;show w.heap.size≠tb;omega),h.res.other _ _ (by have:=h.tb2;show w.heap.size+1≠tb;omega),h.tree.set k v,h.old.setCell (p:=⟨tb,k,none⟩) (by have:=h.tb2;show w.heap.size≤tb;omega) _,h.tb2⟩
theorem iB.own{w:World}{tb:Nat}{R T:Array Value}{W W':World}{n:Nat}{e:TypeId}{v:Value}{xs:List Value}(h:iB w tb R T W)(ho:W.ownsRow w.heap.size e 1 v n xs)(h1:31≠e)(h2:77≠e)(hg:W.grownBy W' v.ownBlock):iB w tb R T W':=
 ⟨nW ho h.root h1 hg,nW ho h.res h2 hg,nW ho h.tree h2 hg,h.old.grown hg h.old.size (fun k e=>(ho.lt k e).1),h.tb2⟩
structure fK(w:World)(tb:Nat)(R:Array Value)(Wd:Int→Nat→Int)(p q:Int)(iv ov sv wv:Value)(vs:List Value)(k m:Nat)(W:World):Prop where
 b:iB w tb R (di aJ p q iv ov sv wv true) W
 QB:W.ownsRow w.heap.size 3 1 iv 128 (((range 128).map (bJ Wd p)).map (Value.int .i64))
 out:W.ownsRow w.heap.size 3 1 ov 128 (((range 128).map (bJ Wd q)).map (Value.int .i64))
 sec:W.ownsRow w.heap.size 3 1 sv k (((range k).map (bJ Wd q)).map (Value.int .i64))
 NO:W.ownsRow w.heap.size 45 1 wv m vs
 each:∀j,j<m→∃v,vs[j]?=some v∧W.ownsRow w.heap.size 3 1 v 128 (((range 128).map (bJ Wd (bJ Wd q j))).map (Value.int .i64))∧v.ownBlock≠sv.ownBlock
 a1:iv.ownBlock≠sv.ownBlock
 a2:ov.ownBlock≠sv.ownBlock
theorem bz{w w':World}{base n:Nat}{e:TypeId}{v:Value}{xs:List Value}(h:w.ownsRow base e 1 v n xs)(hb:Below w.heap.size w w'):w'.ownsRow base e 1 v n xs:=
 h.kept (row:=none) ⟨hb.os,hb.tape,hb.output,hb.size,fun k hk _=>hb.block k hk⟩ (by cases v.ownBlock with|none=>exact .inl rfl|some k=>exact .inr (fun h=>by cases h))
theorem ep{w:World}{base n b k:Nat}{e t:TypeId}{v u:Value}{xs:List Value}{C:Array Value}(h:w.ownsRow base e 1 v n xs)(hb:af w b C t)(ht:t≠e):(w.setCell ⟨b,k,none⟩ u).ownsRow base e 1 v n xs:=
 h.kept (row:=some b) ⟨rfl,rfl,rfl,by simp,fun j hj hne=>Below.heap_setCell w ⟨b,k,none⟩ u j (fun e=>hne (by rw[e]))⟩ (.inr (jB h hb ht))
theorem fK.below{w:World}{tb:Nat}{R:Array Value}{Wd:Int→Nat→Int}{p q:Int}{iv ov sv wv:Value}{vs:List Value}{k m:Nat}{W W':World}(h:fK w tb R Wd p q iv ov sv wv vs k m W)(hb:Below W.heap.size W W'):fK w tb R Wd p q iv ov sv wv vs k m W':=
 ⟨h.b.below hb,bz h.QB hb,bz h.out hb,bz h.sec hb,bz h.NO hb,fun j hj=>by obtain⟨v,h1,h2,h3⟩:=h.each j hj;exact⟨v,h1,bz h2 hb,h3⟩,h.a1,h.a2⟩
theorem m9{w:World}{base n:Nat}{e:TypeId}{v:Value}{xs:List Value}(h:w.ownsRow base e 1 v n xs)(hn:0<n):∃g,v.ownBlock=some g∧base≤g∧g<w.heap.size:=by
 rcases h.2 with⟨_,h0⟩|⟨g,cap,cur,rfl,hb,hg,_⟩
 ·omega
 ·exact⟨g,rfl,(h.lt g rfl).1,(h.lt g rfl).2⟩
theorem fK.qX{w:World}{tb:Nat}{R:Array Value}{Wd:Int→Nat→Int}{p q:Int}{iv ov sv wv:Value}{vs:List Value}{k:Nat}{W W':World}{v':Value}(h:fK w tb R Wd p q iv ov sv wv vs k k W)(ho:W'.ownsRow w.heap.size 3 1 v' (k+1) (((range k).map (bJ Wd q)).map (Value.int .i64)++[.int .i64 (bJ Wd q k)]))(hg:W.grownBy W' sv.ownBlock)(ha:v'.ownBlock=sv.ownBlock∨v'.ownBlock=some W.heap.size):
 fK w tb R Wd p q iv ov v' wv vs (k+1) k (W'.setCell ⟨tb,5,none⟩ v'):=by
 have hB:iB w tb R (di aJ p q iv ov sv wv true) W':=h.b.own h.sec (by decide) (by decide) hg;have keep:∀{u:Value} {L:List Value} {n:Nat} {e:TypeId},W.ownsRow w.heap.size e 1 u n L→u.ownBlock≠sv.ownBlock∨u.ownBlock=none→W'.ownsRow w.heap.size e 1 u n L:=fun hu hne=>hu.kept hg (hne.elim .inr .inl);have apart:∀{u:Value} {L:List Value} {n:Nat} {e:TypeId},W.ownsRow w.heap.size e 1 u n L→0<n→u.ownBlock≠sv.ownBlock→u.ownBlock≠v'.ownBlock:=fun hu hn hne=>by
  obtain⟨g,e1,_,e2⟩:=m9 hu hn;rcases ha with e3|e3
  ·rw[e3];exact hne
  ·rw[e3,e1];intro e;injection e with e;omega
 have hw2:wv.ownBlock≠sv.ownBlock∨wv.ownBlock=none:=by
  cases hv:wv.ownBlock with
  |none=>exact .inr rfl
  |some g=>
   refine .inl fun e=>?_;rcases h.NO.2 with⟨rfl,_⟩|⟨g1,cap,cur,rfl,_,hg1,_⟩
   ·simp[Value.ownBlock] at hv
   ·simp[Value.ownBlock] at hv;subst hv;exact jB h.sec (show af W g1 cur 45 from hg1) (by decide) e.symm
 refine⟨hB.set 5 v',ep (keep h.QB (.inl h.a1)) hB.tree (by decide),ep (keep h.out (.inl h.a2)) hB.tree (by decide),ep (by rw[List.range_succ,map_append,map_append];exact ho) hB.tree (by decide),ep (keep h.NO hw2) hB.tree (by decide),fun j hj=>?_,apart h.QB (by omega) h.a1,apart h.out (by omega) h.a2⟩;obtain⟨v,h1,h2,h3⟩:=h.each j hj;exact⟨v,h1,ep (keep h2 (.inl h3)) hB.tree (by decide),apart h2 (by omega) h3⟩
theorem fK.pQ{w:World}{tb:Nat}{R:Array Value}{Wd:Int→Nat→Int}{p q:Int}{iv ov sv wv:Value}{vs:List Value}{k:Nat}{W W':World}{u v':Value}(h:fK w tb R Wd p q iv ov sv wv vs (k+1) k W)(hu:W.ownsRow w.heap.size 3 1 u 128 (((range 128).map (bJ Wd (bJ Wd q k))).map (Value.int .i64)))(Oz:u.ownBlock≠sv.ownBlock)(ho:W'.ownsRow w.heap.size 45 1 v' (k+1) (vs++[u]))(hg:W.grownBy W' wv.ownBlock):
 fK w tb R Wd p q iv ov sv v' (vs++[u]) (k+1) (k+1) (W'.setCell ⟨tb,6,none⟩ v'):=by
 have hB:iB w tb R (di aJ p q iv ov sv wv true) W':=h.b.own h.NO (by decide) (by decide) hg;have keep:∀{u:Value} {L:List Value} {n:Nat},W.ownsRow w.heap.size 3 1 u n L→W'.ownsRow w.heap.size 3 1 u n L:=fun {u L n} hu=>by
  refine hu.kept hg ?_;cases hv:u.ownBlock with
  |none=>exact .inl rfl
  |some g=>
   refine .inr fun e=>?_;rcases hu.2 with⟨rfl,_⟩|⟨g1,cap,cur,rfl,_,hg1,_⟩
   ·simp[Value.ownBlock] at hv
   ·simp[Value.ownBlock] at hv;subst hv;exact jB h.NO (show af W g1 cur 3 from hg1) (by decide) e.symm
 have hl:vs.length=k:=by have:=h.NO.1;simpa using this
 refine⟨hB.set 6 v',ep (keep h.QB) hB.tree (by decide),ep (keep h.out) hB.tree (by decide),ep (keep h.sec) hB.tree (by decide),ep ho hB.tree (by decide),fun j hj=>?_,h.a1,h.a2⟩;by_cases hjk:j<k
 ·obtain⟨v,h1,h2,h3⟩:=h.each j hjk;exact⟨v,by rw[List.getElem?_append_left (by omega)];exact h1,ep (keep h2) hB.tree (by decide),h3⟩
 ·have hj2:j=k:=by omega
  subst hj2;exact⟨u,by rw[List.getElem?_append_right (by omega),hl];simp,ep (keep hu) hB.tree (by decide),Oz⟩
structure jC(w:World)(tb:Nat)(R:Array Value)(Wd:Int→Nat→Int)(D:Nat→Int)(p q:Int)(dv iv ov sv wv:Value)(vs:List Value)(m i:Nat)(W:World):Prop where
 b:iB w tb R (di dv p q iv ov sv wv true) W
 QB:W.ownsRow w.heap.size 3 1 iv 128 (((range 128).map (bJ Wd p)).map (Value.int .i64))
 sec:W.ownsRow w.heap.size 3 1 sv m (((range m).map (bJ Wd q)).map (Value.int .i64))
 NO:W.ownsRow w.heap.size 45 1 wv m vs
 each:∀j,j<m→∃v,vs[j]?=some v∧W.ownsRow w.heap.size 3 1 v 128 (((range 128).map (bJ Wd (bJ Wd q j))).map (Value.int .i64))∧v.ownBlock≠dv.ownBlock
 dat:W.ownsRow w.heap.size 3 1 dv i (((range i).map (cO Wd D p q)).map (Value.int .i64))
 a1:iv.ownBlock≠dv.ownBlock
 a2:sv.ownBlock≠dv.ownBlock∨sv.ownBlock=none
theorem jC.below{w:World}{tb:Nat}{R:Array Value}{Wd:Int→Nat→Int}{D:Nat→Int}{p q:Int}{dv iv ov sv wv:Value}{vs:List Value}{m i:Nat}{W W':World}(h:jC w tb R Wd D p q dv iv ov sv wv vs m i W)(hb:Below W.heap.size W W'):jC w tb R Wd D p q dv iv ov sv wv vs m i W':=
 ⟨h.b.below hb,bz h.QB hb,bz h.sec hb,bz h.NO hb,fun j hj=>by obtain⟨v,h1,h2,h3⟩:=h.each j hj;exact⟨v,h1,bz h2 hb,h3⟩,bz h.dat hb,h.a1,h.a2⟩
theorem jC.add{w:World}{tb:Nat}{R:Array Value}{Wd:Int→Nat→Int}{D:Nat→Int}{p q:Int}{dv iv ov sv wv:Value}{vs:List Value}{m i:Nat}{W W':World}{v':Value}(h:jC w tb R Wd D p q dv iv ov sv wv vs m i W)(ho:W'.ownsRow w.heap.size 3 1 v' (i+1) (((range i).map (cO Wd D p q)).map (Value.int .i64)++[.int .i64 (cO Wd D p q i)]))(hg:W.grownBy W' dv.ownBlock)(ha:v'.ownBlock=dv.ownBlock∨v'.ownBlock=some W.heap.size):
 jC w tb R Wd D p q v' iv ov sv wv vs m (i+1) (W'.setCell ⟨tb,0,none⟩ v'):=by
 have hB:iB w tb R (di dv p q iv ov sv wv true) W':=h.b.own h.dat (by decide) (by decide) hg;have keep:∀{u:Value} {L:List Value} {n:Nat} {e:TypeId},W.ownsRow w.heap.size e 1 u n L→u.ownBlock≠dv.ownBlock∨u.ownBlock=none→W'.ownsRow w.heap.size e 1 u n L:=fun hu hne=>hu.kept hg (hne.elim .inr .inl);have apart:∀{u:Value} {L:List Value} {n:Nat} {e:TypeId},W.ownsRow w.heap.size e 1 u n L→u.ownBlock≠dv.ownBlock∨u.ownBlock=none→u.ownBlock≠v'.ownBlock∨u.ownBlock=none:=fun {u L n e} hu hne=>by
  cases hv:u.ownBlock with
  |none=>exact .inr rfl
  |some g=>
   refine .inl fun e4=>?_;rcases ha with e3|e3
   ·rw[e3] at e4;rcases hne with h5|h5
    ·exact h5 (hv.trans e4)
    ·rw[hv] at h5;cases h5
   ·rw[e3] at e4;injection e4 with e4;have:=(hu.lt g hv).2;omega
 have strong:∀{u:Value} {L:List Value} {n:Nat} {e:TypeId},W.ownsRow w.heap.size e 1 u n L→0<n→u.ownBlock≠dv.ownBlock→u.ownBlock≠v'.ownBlock:=fun hu hn hne=>by
  obtain⟨g,e1,_⟩:=m9 hu hn;rcases apart hu (.inl hne) with h5|h5
  ·exact h5
  ·rw[e1] at h5;cases h5
 have hw2:wv.ownBlock≠dv.ownBlock∨wv.ownBlock=none:=by
  cases hv:wv.ownBlock with
  |none=>exact .inr rfl
  |some g=>
   refine .inl fun e=>?_;rcases h.NO.2 with⟨rfl,_⟩|⟨g1,cap,cur,rfl,_,hg1,_⟩
   ·simp[Value.ownBlock] at hv
   ·simp[Value.ownBlock] at hv;subst hv;exact jB h.dat (show af W g1 cur 45 from hg1) (by decide) e.symm
 refine⟨hB.set 0 v',ep (keep h.QB (.inl h.a1)) hB.tree (by decide),ep (keep h.sec h.a2) hB.tree (by decide),ep (keep h.NO hw2) hB.tree (by decide),fun j hj=>?_,ep (by rw[List.range_succ,map_append,map_append];exact ho) hB.tree (by decide),strong h.QB (by omega) h.a1,apart h.sec h.a2⟩;obtain⟨v,h1,h2,h3⟩:=h.each j hj;exact⟨v,h1,ep (keep h2 (.inl h3)) hB.tree (by decide),strong h2 (by omega) h3⟩
theorem yw{W:World}{base n:Nat}{e:TypeId}{dv:Value}{xs:List Value}{p q:Int}{a1 a2 a3 a4:Option Addr}{n1 n2 n3 n4 c1 c2 c3 c4:Nat}(h:W.ownsRow base e 1 dv n xs):(di dv p q (.slice a1 n1 c1) (.slice a2 n2 c2) (.slice a3 n3 c3) (.slice a4 n4 c4) true).all (·.oneCell')=true:=by
 obtain⟨a,c,rfl⟩:=cG h;simp[Value.oneCell']
theorem yx{w:World}{base n b:Nat}{e t:TypeId}{v:Value}{xs:List Value}{C cs:Array Value}(h:w.ownsRow base e 1 v n xs)(hb:af w b C t)(ht:t≠e):(w.setRow b cs).ownsRow base e 1 v n xs:=
 h.kept (row:=some b) ⟨rfl,rfl,rfl,by simp[setRow],fun k hk hne=>by simp[setRow,Array.getElem?_modify,show ¬b=k from fun e=>hne (by rw[e])]⟩ (.inr (jB h hb ht))
theorem Fj(i y:Nat)(h:i=y+12)(hy:y<128)(w:World):Calls prog 76 #[.int .i64 (i:Int)] w fun e w'=>e=.returned (j4 1 0 (y:Int) 0)∧Below w.heap.size w w':=by
 subst h;exact Ff y w hy
theorem Fk(i y o n:Nat)(h:i=y+140)(hy:y<372)(ho:o=y/128)(hn:n=y%128)(w:World):Calls prog 76 #[.int .i64 (i:Int)] w fun e w'=>e=.returned (j4 2 (o:Int) (n:Int) 0)∧Below w.heap.size w w':=by
 subst h ho hn;exact Fg y w hy
theorem Fo{w:World}{base:Nat}{e:TypeId}{v:Value}{n:Nat}{vs:List Value}(h:w.ownsRow base e 1 v n vs)(hn:0<n):∃g cap,v=.slice (some ⟨g,0,none⟩) n cap∧∀(i:Nat) (u:Value),vs[i]?=some u→w.cell? ⟨g,i,none⟩=some u:=by
 have hl:vs.length=n:=by have:=h.1;simpa using this
 rcases h.2 with⟨_,h0⟩|⟨g,cap,cur,rfl,_,hg,hc,_,hcs,ht⟩
 ·omega
 ·refine⟨g,cap,rfl,fun i u hu=>?_⟩;have hi:i<n:=by
   rcases Nat.lt_or_ge i vs.length with h|h
   ·omega
   ·rw[List.getElem?_eq_none h] at hu;cases hu
  have hx:w.cell? ⟨g,i,none⟩=cur[i]?:=cell_of_row w g i cur e (0,0) hg;rw[hx, ←hu, ←ht,List.getElem?_take,if_pos (by omega),Array.getElem?_toList]
theorem Fp{B:Nat}{w w':World}(h:Below B w w')(n:Nat):Below B w (w'.drewN n):=⟨h.os,h.tape,h.output,h.size,h.block⟩
theorem Fq:(prog.info? 45).map (fun i=>(i.zero,i.size,i.bytes))=some (some aJ,1,24):=by kernel_rfl
theorem qY{W W':World}{base n m:Nat}{e:TypeId}{u v:Value}{xs ys:List Value}(h:W'.ownsRow (drew W).heap.size e 1 u (m+1) xs)(hv:W.ownsRow base e 1 v n ys):u.ownBlock≠v.ownBlock:=by
 obtain⟨g,e1,e2,_⟩:=m9 h (by omega);rw[e1];intro e;have:=(hv.lt g e.symm).2;have e3:W.heap.size≤g:=e2;omega
theorem jD{P:Program}{w:World}{o:Oper}{a:Act}{K:Act→World→Prop}{Q:Exit→Act→World→Prop}(s x:Operand)(t:TypeId)
 (ho:o.op=.call {callee:=.builtin .append,args:=#[s,x],argTypes:=#[t,t]})
 (base:Nat) (e:TypeId) (i:TypeInfo) (z:Value) (size bytes:Nat) (ht:P.underlying t=some (.slice e)) (hi:P.info? e=some i) (hz:i.zero=some z)
 (hsize:i.size=size) (hby:i.bytes=bytes) (hzs:z.cells.size=size) (hsz:0<size)
 (v:Value) (n:Nat) (xs:List Value) (hs:a.eval s=v) (hown:w.ownsRow base e size v n xs)
 (ad:Addr) (m c:Nat) (news:List Value) (hx:a.eval x=.slice (some ad) m c) (hl:news.length=m*size) (hnews:∀j u,news[j]?=some u→w.cell? (ad.add j)=some u) (h1:∀u∈news,u.oneCell'=true)
 (h63:n+m≤maxLen) (hbytes:(n+m)*bytes≤140737488355328) (hbase:base≤w.heap.size)
 (h:∀v' w',w'.ownsRow base e size v' (n+m) (xs++news)→w.grownBy w' v.ownBlock→(v'.ownBlock=v.ownBlock∨v'.ownBlock=some w.heap.size)→K (a.put o.dst v') w'):o.wp P a w K Q:=by
 obtain⟨v',w',hr,h2,h3,h4,h5⟩:=run_append_own_at (P:=P) w base t o.type e i z size bytes ht hi hz hsize hby hzs hsz v n xs hown ad m c news hl hnews h1 h63 hbytes hbase;unfold Oper.wp execOp;simp only[ho,resolve,invoke,builtin,Sem.run_bind,Sem.run_pure,Result.andThen_ok,List.map_toArray,List.map_cons,List.map_nil,hs,hx,hr];exact h v' w' h2 h3 h5
theorem uj(img:Value)(zs:List Int)(sz:Nat)(ds:List Int)(p q:Int)(w:World)(cnt:Nat)(h:Rd .u8 w img zs)(h1:zs.length≤1048576)(hbd:∀z∈zs,0≤z∧z<256)(hd:ds.length=12)(hsz:sz≤262144)(hcnt:cnt=(sz+511)/512):
 Calls prog 33 #[img,.agg (an (aD (sz:Int) ds p q))] w fun e w'=>yu w cnt (zs.length/512) (aQ zs) (fun i=>ds.getD i 0) p q e w'∧Below w.heap.size w w':=by
 obtain⟨i0,hi,hz0,hz1,hz2⟩:=info_parts fX;have hcn:cnt≤512:=by omega
 have Rs:=aa hcnt;clear hcnt;obtain⟨sa,sc,rfl⟩:=eY h;have HR:=aa (ai h (ai hbd hd));clear h hbd;obtain⟨R,hR⟩:∃R,R=an (aD (sz:Int) ds p q):=⟨_,rfl⟩;have hRs:R.size=15:=by rw[hR,ct];exact dw _ _ _ _ hd
 have hR0:R[0]?=some (.int .i64 (sz:Int)):=by rw[hR];simp[an,aD]
 have Px:∀i,i<12→R[1+i]?=some (.int .i64 (ds.getD i 0)):=fun i hi=>by
  rw[hR];simp[an,aD,List.getElem?_cons,hd,hi,getElem?_append,getD]
 have U7:R[13]?=some (.int .i64 p):=by rw[hR];simp[an,aD,List.getElem?_cons,hd,getElem?_append]
 have U8:R[14]?=some (.int .i64 q):=by rw[hR];simp[an,aD,List.getElem?_cons,hd,getElem?_append]
 have Pz:=aa (ai hRs (ai hR0 (ai Px (ai U7 U8))));rw[←hR];have HRe:=aa hR;clear hR hRs hR0 Px U7 U8 hd;obtain⟨W0,hW0⟩:∃W0,W0=(w.alloc (.cells R 31)).alloc (.cells (di aJ 0 0 aJ aJ aJ aJ false) 77):=⟨_,rfl⟩;have k0:af W0 w.heap.size R 31:=by rw[hW0];exact(af.new w _ _).alloc _
 have k13:=(k0.cell 13).trans Pz.out.2.2.2.1;have k14:=(k0.cell 14).trans Pz.out.2.2.2.2;have HB0:=ae (iB w W0.heap.size R (di aJ p q aJ aJ aJ aJ true) (W0.alloc (.cells (di aJ p q aJ aJ aJ aJ true) 77))) (by
  have h1:=af.new (w.alloc (.cells R 31)) (di aJ 0 0 aJ aJ aJ aJ false) 77;rw[World.size_alloc, ←hW0] at h1;have h2:=af.new W0 (di aJ p q aJ aJ aJ aJ true) 77;refine⟨k0.alloc _,h1.alloc _,h2,?_,by rw[hW0];simp⟩;have hb:Below w.heap.size w W0:=by rw[hW0];exact(ak.alloc aj _).alloc (by simp) _
  exact hb.alloc (by rw[hW0];simp;omega) _)
 have NB:=ae (W0.heap.size=w.heap.size+2) (by rw[hW0];simp);have HW0:=aa hW0;clear hW0 k0;go_enter func33,ntmps33;go_upto_region 1 with fail;rw[←HW0.out];go_upto_region 2 with fail;generalize hW1:(W0.alloc (.cells (di aJ p q aJ aJ aJ aJ true) 77))=W1 at HB0⊢;have Ru:W0.heap.size≤w.heap.size+2:=by rw[NB.out];omega
 have Rv:w.heap.size+2≤W0.heap.size:=by rw[NB.out];omega
 clear hW1 k13 k14;go_wp2_with (first
  |(refine wpList_load_row rfl 31 _ rfl w.heap.size rfl 31 R (0,0) _ HB0.out.root underlying31 rfl (by rw[Pz.out.1];exact dV) ?_)
  |(go_at_call 72;rw[HRe.out];refine(m3 (sz:Int) ds p q _ HR.out.2.2).mono ?_;rw[←HRe.out];rintro e w2 ⟨v2,rfl,o2,b2⟩;obtain⟨g2,cap2,rfl,hc2,hcell2⟩:=kU o2 (by omega);have H2:=aa (ai hcell2 b2);clear o2 b2 hcell2))
 go_loopw [22] (fun kv wr=>∃k:Nat,k≤14∧kv=.int .i64 (k:Int)∧Fh (zs.length/512) (ds++[p,q]) k∧(∀i,i<14→wr.cell? ⟨g2,i,none⟩=some (.int .i64 ((ds++[p,q]).getD i 0)))∧iB w W0.heap.size R (di aJ p q aJ aJ aJ aJ true) wr) (fun kv _=>14-(intOf kv).toNat)
 case atStart=>exact⟨0,by omega,rfl,fun j hj=>absurd hj (by omega),H2.out.1,HB0.out.below H2.out.2⟩
 case round=>
  obtain⟨k,hk,rfl,hgt,hcl,hap⟩:=hrel;clear H2 HB0;have HA:=aa (ai hgt (ai hcl hap));by_cases hk2:k<14
  ·have ck:=hcl k hk2;obtain⟨x,hx⟩:∃x,x=(ds++[p,q]).getD k 0:=⟨_,rfl⟩;rw[←hx] at ck;have HX:=aa hx;have Oc:(k:Int)<14:=(by omega);have c4:=hap.res;clear hgt hcl hap hx;cases hg:bM (zs.length/512) x with
   |true=>
    have cL:=aa hg;clear hg;go_wp2_with (go_at_call 74;refine(kO _ zs x _ (HR.out.1.below HA.out.2.2.old) h1).mono ?_;rintro e w9 ⟨rfl,rfl⟩;rw[cL.out]);go_roundw
    case rel=>exact⟨k+1,by omega,by go_num,(fun j hj=>by
     rcases Nat.lt_succ_iff_lt_or_eq.1 hj with h|h
     ·exact HA.out.1 j h
     ·rw[h, ←HX.out];exact cL.out),HA.out.2.1,HA.out.2.2⟩
    case measure=>simp[intOf];omega
   |false=>
    have cL:=aa hg;clear hg;go_wp2_with (first
     |(go_at_call 74;refine(kO _ zs x _ (HR.out.1.below HA.out.2.2.old) h1).mono ?_;rintro e w9 ⟨rfl,rfl⟩;rw[cL.out])
     |(refine wpList_store_row rfl 77 _ _ rfl (w.heap.size+1) (di aJ 0 0 aJ aJ aJ aJ false) rfl rfl 77 _ HA.out.2.2.res gZ rfl (by simp[Value.oneCell']) ?_))
    refine bodyPost_ret (v:=.agg (di aJ 0 0 aJ aJ aJ aJ false)) ?_ rfl ⟨.inr ⟨fun hap=>?_,rfl⟩,below_setRow HA.out.2.2.old (by omega) _⟩
    ·exact results_cell_row rfl _ _ (w.heap.size+1) 77 _ (0,0) _ rfl (HA.out.2.2.res.row _) underlying77 rfl gZ
    ·have:=Fi HR.out.2.2 hap k hk2;rw[←HX.out,cL.out] at this;cases this
  ·have hk3:k=14:=(by omega);subst hk3;have hap:=HA.out.2.2;clear hk2 hk hgt hcl;have c13:=(hap.root.cell 13).trans Pz.out.2.2.2.1;have c14:=(hap.root.cell 14).trans Pz.out.2.2.2.2;have c0:=(hap.root.cell 0).trans Pz.out.2.1;have HGS:=ae (bM (zs.length/512) p=true) (by have:=HA.out.1 12 (by omega);rw[qV HR.out.2.2] at this;exact this);have HGX:=ae (bM (zs.length/512) q=true) (by have:=HA.out.1 13 (by omega);rw[qW HR.out.2.2] at this;exact this);have Ss:=ae (∀i,i<12→bM (zs.length/512) (ds.getD i 0)=true) (fun i hi=>by have:=HA.out.1 i (by omega);rw[qU HR.out.2.2 hi] at this;exact this);have NV:=aa hap;clear hap;obtain⟨tb,htb⟩:∃tb,tb=W0.heap.size:=⟨_,rfl⟩;rw[←htb] at NV⊢;clear htb Ru Rv HA;go_upto_region 8 with fail;go_upto_region 9 with(first
    |(go_at_call 75;refine(nO _ zs p _ (HR.out.1.below NV.out.old) h1 HR.out.2.1 HGS.out).mono ?_;rintro e w3 ⟨iv,rfl,o3,b3⟩;obtain⟨ia,ic,rfl⟩:=cG o3;have B3:=aa (NV.out.below b3);have O3:=aa (cH o3 NV.out.old.size);have t3':=(B3.out.tree.cell 3).trans (show _=some aJ from rfl);have f3':=B3.out.tree.frozen 3;clear o3 b3))
   have A3:=aa (B3.out.set 3 (.slice ia 128 ic));have Yo:=aa (ep (k:=3) (u:=.slice ia 128 ic) O3.out B3.out.tree (by decide));generalize Pf:w3.setCell ⟨tb,3,none⟩ (.slice ia 128 ic)=W4 at A3 Yo⊢;clear Pf t3' f3' c13;have Yp:=(A3.out.root.cell 14).trans Pz.out.2.2.2.2;go_upto_region 10 with(first
    |(go_at_call 75;refine(nO _ zs q _ (HR.out.1.below A3.out.old) h1 HR.out.2.1 HGX.out).mono ?_;rintro e w5 ⟨ov,rfl,o5,b5⟩;obtain⟨oa,oc,rfl⟩:=cG o5;have B5:=aa (A3.out.below b5);have O5:=aa (cH o5 A3.out.old.size);have O3c:=aa (bz Yo.out b5);have t5':=(B5.out.tree.cell 4).trans (show _=some aJ from rfl);have f5':=B5.out.tree.frozen 4;clear o5 b5))
   have A5:=aa (B5.out.set 4 (.slice oa 128 oc));have Xf:=aa (ep (k:=4) (u:=.slice oa 128 oc) O5.out B5.out.tree (by decide));have Xg:=aa (ep (k:=4) (u:=.slice oa 128 oc) O3c.out B5.out.tree (by decide));generalize Sw:w5.setCell ⟨tb,4,none⟩ (.slice oa 128 oc)=W6 at A5 Xf Xg⊢;clear Sw t5' f5' Yp c14 B3 O3 A3 Yo B5 O5 O3c;have Rf:=ae (fK w tb R (aQ zs) p q (.slice ia 128 ic) (.slice oa 128 oc) aJ aJ [] 0 0 W6) (by
    obtain⟨g1,e1,_⟩:=m9 Xg.out (by omega);obtain⟨g2,e2,_⟩:=m9 Xf.out (by omega);exact⟨A5.out,Xg.out,Xf.out,ownsRow_nil _ _ _ _,ownsRow_nil _ _ _ _,fun j hj=>absurd hj (by omega),(by rw[e1];intro e;cases e),(by rw[e2];intro e;cases e)⟩)
   have c0':=(A5.out.root.cell 0).trans Pz.out.2.1;clear Xg Xf A5 c0;go_upto_region 11 with(first
    |(go_at_call 66;refine(xK sz _ (by omega)).mono ?_;rintro e w9 ⟨rfl,rfl⟩;rw[←Rs.out]))
   clear c0';go_wp2;go_loopw [9] (fun kv wr=>∃(k:Nat) (sv wv:Value) (vs:List Value),k≤jy cnt∧kv=.int .i64 (k:Int)∧(∀j,j<k→bM (zs.length/512) (bJ (aQ zs) q j)=true)∧fK w tb R (aQ zs) p q (.slice ia 128 ic) (.slice oa 128 oc) sv wv vs k k wr) (fun kv _=>128-(intOf kv).toNat)
   case atStart=>exact⟨0,aJ,aJ,[],Nat.zero_le _,rfl,fun j hj=>absurd hj (by omega),Rf.out⟩
   case round=>
    obtain⟨k,sv,wv,vs,hk,rfl,Yq,OA⟩:=hrel;clear Rf;have hs3:jy cnt≤3:=(by unfold jy;omega);have hk4:(k:Int)<128:=(by omega);obtain⟨go,co,eo,hco,Nq⟩:=kU OA.out (by omega);injection eo with eo1 eo2 eo3;subst eo1 eo3;obtain⟨Oo,Oq,rfl⟩:=cG OA.sec;obtain⟨NC,ND,rfl⟩:=cG OA.NO;have HA2:=aa (ai OA (ai Yq Nq));by_cases hk2:k<jy cnt
    ·have hk5:140+128*(k:Int)<(cnt:Int):=(by have:=xu hk2;omega);have ck:=Nq k (by omega);rw[show((range 128).map (bJ (aQ zs) q)).getD k 0=bJ (aQ zs) q k by simp[getD,show k<128 by omega]] at ck;have t4:=(OA.b.tree.cell 4).trans (show _=some (.slice (some ⟨go,0,none⟩) 128 oc) from rfl);have t5:=(OA.b.tree.cell 5).trans (show _=some (.slice Oo k Oq) from rfl);obtain⟨x,hx⟩:∃x,x=bJ (aQ zs) q k:=⟨_,rfl⟩;rw[←hx] at ck;have HX:=aa hx;clear hx OA Yq Nq;cases hg:bM (zs.length/512) x with
     |false=>
      have cL:=aa hg;clear hg;go_wp2_with (first
       |(go_at_call 74;refine(kO _ zs x _ (HR.out.1.below HA2.out.1.b.old) h1).mono ?_;rintro e w9 ⟨rfl,rfl⟩;rw[cL.out])
       |(refine wpList_store_row rfl 77 _ _ rfl (w.heap.size+1) (di aJ 0 0 aJ aJ aJ aJ false) rfl rfl 77 _ HA2.out.1.b.res gZ rfl (by simp[Value.oneCell']) ?_))
      refine bodyPost_ret (v:=.agg (di aJ 0 0 aJ aJ aJ aJ false)) ?_ rfl ⟨.inr ⟨fun hap=>?_,rfl⟩,below_setRow HA2.out.1.b.old (by omega) _⟩
      ·exact results_cell_row rfl _ _ (w.heap.size+1) 77 _ (0,0) _ rfl (HA2.out.1.b.res.row _) underlying77 rfl gZ
      ·have:=hap.2.2.2.1 k (by omega) (xu hk2);rw[←HX.out,cL.out] at this;cases this
     |true=>
      have cL:=aa hg;clear hg;go_upto_region 16 with(go_at_call 74;refine(kO _ zs x _ (HR.out.1.below HA2.out.1.b.old) h1).mono ?_;rintro e w9 ⟨rfl,eJ⟩;rw[cL.out,eJ];clear eJ)
      have bA:Below wr.heap.size wr (drew (wr.alloc (.cells #[.int .i64 x] 3))):=(ak.alloc aj _).drew;have d4:(drew wr).cell? ⟨tb,4,none⟩=some (.slice (some ⟨go,0,none⟩) 128 oc):=t4;have d5:(drew wr).cell? ⟨tb,5,none⟩=some (.slice Oo k Oq):=t5;have dk:(drew wr).cell? ⟨go,k,none⟩=some (.int .i64 x):=ck;have d5A:=((HA2.out.1.below bA).b.tree.cell 5).trans (show _=some (.slice Oo k Oq) from rfl);go_cut [] from 65 to 75 (fun w'=>∃v',fK w tb R (aQ zs) p q (.slice ia 128 ic) (.slice (some ⟨go,0,none⟩) 128 oc) v' (.slice NC k ND) vs (k+1) k w')
      case first Jc Kc Od hKc=>
       refine bg (fun _=>True) trivial fun _=>?_;refine ah 0 (.pointer (some ⟨tb,5,none⟩)) rfl trivial ?_;refine ah 2 (.pointer (some ⟨tb,4,none⟩)) rfl trivial ?_;refine ah 4 (.int .i64 (k:Int)) rfl trivial ?_;refine wpAnyH_ready (rs:=[1,3]) (by kernel_rfl) (by simp) ?_;refine AllReadyH.cons (o:=_) rfl (fun K hK=>?_) (AllReadyH.cons (o:=_) rfl (fun K hK=>?_) AllReadyH.nil)
       ·go_simp;refine hK.out _ _ trivial (fun _=>?_);clear hK K;try simp only[Act.put,av,ay,az,aA,aB,aC]
        refine aG 3 rfl fun K hK=>?_;go_simp;refine hK.out _ _ trivial (fun _=>?_);clear hK K;try simp only[Act.put,av,ay,az,aA,aB,aC]
        refine ah 5 (.pointer (some ⟨go,k,none⟩)) rfl trivial ?_;refine aG 6 rfl fun K hK=>?_;go_simp;refine hK.out _ _ trivial (fun _=>?_);clear hK K;try simp only[Act.put,av,ay,az,aA,aB,aC]
        refine aG 7 rfl fun K hK=>?_;go_simp;refine hK.out _ _ trivial (fun _=>?_);clear hK K;try simp only[Act.put,av,ay,az,aA,aB,aC]
        refine aG 8 rfl fun K hK=>?_;rw[if_pos (by rfl)];refine jD (.tmp 66) (.tmp 72) 45 rfl w.heap.size 3 i0 (.int .i64 0) 1 8 underlying45 hi hz0 hz1 hz2 rfl (by decide) (.slice Oo k Oq) k _ rfl (bz HA2.out.1.sec bA) ⟨wr.heap.size,0,none⟩ 1 1 [.int .i64 x] rfl rfl (cell_one_new _ _ _) (by simp[Value.oneCell']) (by unfold maxLen;omega) (by omega) (HA2.out.1.below bA).b.old.size ?_;intro v8 w8 o8 g8 a8;have H8:=aa (fK.qX (HA2.out.1.below bA) (by rw[←HX.out];exact o8) g8 a8);have OW:=((HA2.out.1.below bA).b.own (bz HA2.out.1.sec bA) (by decide) (by decide) g8).tree;have c8:=(OW.cell 5).trans (show _=some (.slice Oo k Oq) from rfl);have f8:=OW.frozen 5;obtain⟨OC,OE,rfl⟩:=cG o8;clear o8 g8 a8 OW;refine hK.out _ _ trivial (fun _=>?_);clear hK K;try simp only[Act.put,av,ay,az,aA,aB,aC]
        refine ah 9 (.pointer (some ⟨tb,5,none⟩)) rfl trivial ?_;refine aG 10 rfl fun K hK=>?_;go_simp;refine hK.out _ _ trivial (fun _=>?_);clear hK K;try simp only[Act.put,av,ay,az,aA,aB,aC]
        refine aV ?_;exact hKc _ _ (Met.intro (Od _ _ ⟨_,_,_,_,_,_,_,_,_,_,_,⟨_,H8.out⟩,rfl⟩))
       ·go_simp;refine hK.out _ _ trivial (fun _=>?_);clear hK K;try simp only[Act.put,av,ay,az,aA,aB,aC]
        refine ah 5 (.pointer (some ⟨go,k,none⟩)) rfl trivial ?_;refine wpAnyH_ready (rs:=[1,6]) (by kernel_rfl) (by simp) ?_;refine AllReadyH.cons (o:=_) rfl (fun K hK=>?_) (AllReadyH.cons (o:=_) rfl (fun K hK=>?_) AllReadyH.nil)
        ·go_simp;refine hK.out _ _ trivial (fun _=>?_);clear hK K;try simp only[Act.put,av,ay,az,aA,aB,aC]
         refine aG 6 rfl fun K hK=>?_;go_simp;refine hK.out _ _ trivial (fun _=>?_);clear hK K;try simp only[Act.put,av,ay,az,aA,aB,aC]
         refine aG 7 rfl fun K hK=>?_;go_simp;refine hK.out _ _ trivial (fun _=>?_);clear hK K;try simp only[Act.put,av,ay,az,aA,aB,aC]
         refine aG 8 rfl fun K hK=>?_;rw[if_pos (by rfl)];refine jD (.tmp 66) (.tmp 72) 45 rfl w.heap.size 3 i0 (.int .i64 0) 1 8 underlying45 hi hz0 hz1 hz2 rfl (by decide) (.slice Oo k Oq) k _ rfl (bz HA2.out.1.sec bA) ⟨wr.heap.size,0,none⟩ 1 1 [.int .i64 x] rfl rfl (cell_one_new _ _ _) (by simp[Value.oneCell']) (by unfold maxLen;omega) (by omega) (HA2.out.1.below bA).b.old.size ?_;intro v8 w8 o8 g8 a8;have H8:=aa (fK.qX (HA2.out.1.below bA) (by rw[←HX.out];exact o8) g8 a8);have OW:=((HA2.out.1.below bA).b.own (bz HA2.out.1.sec bA) (by decide) (by decide) g8).tree;have c8:=(OW.cell 5).trans (show _=some (.slice Oo k Oq) from rfl);have f8:=OW.frozen 5;obtain⟨OC,OE,rfl⟩:=cG o8;clear o8 g8 a8 OW;refine hK.out _ _ trivial (fun _=>?_);clear hK K;try simp only[Act.put,av,ay,az,aA,aB,aC]
         refine ah 9 (.pointer (some ⟨tb,5,none⟩)) rfl trivial ?_;refine aG 10 rfl fun K hK=>?_;go_simp;refine hK.out _ _ trivial (fun _=>?_);clear hK K;try simp only[Act.put,av,ay,az,aA,aB,aC]
         refine aV ?_;exact hKc _ _ (Met.intro (Od _ _ ⟨_,_,_,_,_,_,_,_,_,_,_,⟨_,H8.out⟩,rfl⟩))
        ·go_simp;refine hK.out _ _ trivial (fun _=>?_);clear hK K;try simp only[Act.put,av,ay,az,aA,aB,aC]
         refine wpAnyH_ready (rs:=[1,7]) (by kernel_rfl) (by simp) ?_;refine AllReadyH.cons (o:=_) rfl (fun K hK=>?_) (AllReadyH.cons (o:=_) rfl (fun K hK=>?_) AllReadyH.nil)
         ·go_simp;refine hK.out _ _ trivial (fun _=>?_);clear hK K;try simp only[Act.put,av,ay,az,aA,aB,aC]
          refine aG 7 rfl fun K hK=>?_;go_simp;refine hK.out _ _ trivial (fun _=>?_);clear hK K;try simp only[Act.put,av,ay,az,aA,aB,aC]
          refine aG 8 rfl fun K hK=>?_;rw[if_pos (by rfl)];refine jD (.tmp 66) (.tmp 72) 45 rfl w.heap.size 3 i0 (.int .i64 0) 1 8 underlying45 hi hz0 hz1 hz2 rfl (by decide) (.slice Oo k Oq) k _ rfl (bz HA2.out.1.sec bA) ⟨wr.heap.size,0,none⟩ 1 1 [.int .i64 x] rfl rfl (cell_one_new _ _ _) (by simp[Value.oneCell']) (by unfold maxLen;omega) (by omega) (HA2.out.1.below bA).b.old.size ?_;intro v8 w8 o8 g8 a8;have H8:=aa (fK.qX (HA2.out.1.below bA) (by rw[←HX.out];exact o8) g8 a8);have OW:=((HA2.out.1.below bA).b.own (bz HA2.out.1.sec bA) (by decide) (by decide) g8).tree;have c8:=(OW.cell 5).trans (show _=some (.slice Oo k Oq) from rfl);have f8:=OW.frozen 5;obtain⟨OC,OE,rfl⟩:=cG o8;clear o8 g8 a8 OW;refine hK.out _ _ trivial (fun _=>?_);clear hK K;try simp only[Act.put,av,ay,az,aA,aB,aC]
          refine ah 9 (.pointer (some ⟨tb,5,none⟩)) rfl trivial ?_;refine aG 10 rfl fun K hK=>?_;go_simp;refine hK.out _ _ trivial (fun _=>?_);clear hK K;try simp only[Act.put,av,ay,az,aA,aB,aC]
          refine aV ?_;exact hKc _ _ (Met.intro (Od _ _ ⟨_,_,_,_,_,_,_,_,_,_,_,⟨_,H8.out⟩,rfl⟩))
         ·go_simp;refine hK.out _ _ trivial (fun _=>?_);clear hK K;try simp only[Act.put,av,ay,az,aA,aB,aC]
          refine aG 1 rfl fun K hK=>?_;go_simp;refine hK.out _ _ trivial (fun _=>?_);clear hK K;try simp only[Act.put,av,ay,az,aA,aB,aC]
          refine aG 8 rfl fun K hK=>?_;rw[if_pos (by rfl)];refine jD (.tmp 66) (.tmp 72) 45 rfl w.heap.size 3 i0 (.int .i64 0) 1 8 underlying45 hi hz0 hz1 hz2 rfl (by decide) (.slice Oo k Oq) k _ rfl (bz HA2.out.1.sec bA) ⟨wr.heap.size,0,none⟩ 1 1 [.int .i64 x] rfl rfl (cell_one_new _ _ _) (by simp[Value.oneCell']) (by unfold maxLen;omega) (by omega) (HA2.out.1.below bA).b.old.size ?_;intro v8 w8 o8 g8 a8;have H8:=aa (fK.qX (HA2.out.1.below bA) (by rw[←HX.out];exact o8) g8 a8);have OW:=((HA2.out.1.below bA).b.own (bz HA2.out.1.sec bA) (by decide) (by decide) g8).tree;have c8:=(OW.cell 5).trans (show _=some (.slice Oo k Oq) from rfl);have f8:=OW.frozen 5;obtain⟨OC,OE,rfl⟩:=cG o8;clear o8 g8 a8 OW;refine hK.out _ _ trivial (fun _=>?_);clear hK K;try simp only[Act.put,av,ay,az,aA,aB,aC]
          refine ah 9 (.pointer (some ⟨tb,5,none⟩)) rfl trivial ?_;refine aG 10 rfl fun K hK=>?_;go_simp;refine hK.out _ _ trivial (fun _=>?_);clear hK K;try simp only[Act.put,av,ay,az,aA,aB,aC]
          refine aV ?_;exact hKc _ _ (Met.intro (Od _ _ ⟨_,_,_,_,_,_,_,_,_,_,_,⟨_,H8.out⟩,rfl⟩))
      case rest=>
       obtain⟨vS,hQ⟩:=hcut;obtain⟨j0,hj,hj0,hj1,hj2⟩:=info_parts Fq;have HQ:=aa hQ;have q4:(drew wc).cell? ⟨tb,4,none⟩=some (.slice (some ⟨go,0,none⟩) 128 oc):=(hQ.b.tree.cell 4).trans rfl;have q6:(drew wc).cell? ⟨tb,6,none⟩=some (.slice NC k ND):=(hQ.b.tree.cell 6).trans rfl;obtain⟨go',co',eo,_,Nq⟩:=kU hQ.out (by omega);injection eo with eo1 eo2 eo3;injection eo1 with eo1;injection eo1 with eo1;subst eo1 eo3;have qk:(drew wc).cell? ⟨go,k,none⟩=some (.int .i64 x):=by
        have:=Nq k (by omega);rw[show((range 128).map (bJ (aQ zs) q)).getD k 0=bJ (aQ zs) q k by simp[getD,show k<128 by omega], ←HX.out] at this;exact this
       clear hQ Nq d4 d5 dk d5A t4 t5 ck bA;go_upto_region 17 with fail;refine bg (fun _=>True) trivial fun _=>?_;refine ah 0 (.pointer (some ⟨tb,6,none⟩)) rfl trivial ?_;refine ah 2 (.slice sa zs.length sc) rfl trivial ?_;refine ah 3 (.pointer (some ⟨tb,4,none⟩)) rfl trivial ?_;refine ah 5 (.int .i64 (k:Int)) rfl trivial ?_;refine wpAnyH_ready (rs:=[1,4]) (by kernel_rfl) (by simp) ?_;refine AllReadyH.cons (o:=_) rfl (fun K hK=>?_) (AllReadyH.cons (o:=_) rfl (fun K hK=>?_) AllReadyH.nil)
       ·go_simp;refine hK.out _ _ trivial (fun _=>?_);clear hK K;try simp only[Act.put,av,ay,az,aA,aB,aC]
        refine aG 4 rfl fun K hK=>?_;go_simp;refine hK.out _ _ trivial (fun _=>?_);clear hK K;try simp only[Act.put,av,ay,az,aA,aB,aC]
        refine ah 6 (.pointer (some ⟨go,k,none⟩)) rfl trivial ?_;refine aG 7 rfl fun K hK=>?_;go_simp;refine hK.out _ _ trivial (fun _=>?_);clear hK K;try simp only[Act.put,av,ay,az,aA,aB,aC]
        refine aG 8 rfl fun K hK=>?_;go_simp;refine(nO _ zs x _ (HR.out.1.below (HQ.out.b.old.drew)) h1 HR.out.2.1 cL.out).mono ?_;rintro e w8 ⟨Td,rfl,o8,b8⟩;have B8:=ae (Below wc.heap.size wc w8) ((ak.drew).trans b8);have Q8:=aa (HQ.out.below B8.out);have Oz:Td.ownBlock≠vS.ownBlock:=qY o8 HQ.out.sec;obtain⟨ua,uc,rfl⟩:=cG o8;have O8:=aa (cH o8 (show w.heap.size≤wc.heap.size from HQ.out.b.old.size));have Yr:=(Q8.out.b.tree.cell 6).trans (show _=some (.slice NC k ND) from rfl);have bB:Below w8.heap.size w8 (w8.alloc (.cells #[.slice ua 128 uc] 45)):=ak.alloc aj _;have Yt:=((Q8.out.below bB).b.tree.cell 6).trans (show _=some (.slice NC k ND) from rfl);have Sy:=aa Oz;clear o8 b8 Oz;refine hK.out _ _ trivial (fun _=>?_);clear hK K;try simp only[Act.put,av,ay,az,aA,aB,aC]
        refine aG 9 rfl fun K hK=>?_;go_simp;refine hK.out _ _ trivial (fun _=>?_);clear hK K;try simp only[Act.put,av,ay,az,aA,aB,aC]
        refine aG 10 rfl fun K hK=>?_;rw[if_pos (by rfl)];refine jD (.tmp 76) (.tmp 84) 75 rfl w.heap.size 45 j0 aJ 1 24 underlying75 hj hj0 hj1 hj2 rfl (by decide) (.slice NC k ND) k _ rfl (bz Q8.out.NO bB) ⟨w8.heap.size,0,none⟩ 1 1 [.slice ua 128 uc] rfl rfl (cell_one_new _ _ _) (by simp[Value.oneCell']) (by unfold maxLen;omega) (by omega) (Q8.out.below bB).b.old.size ?_;intro v9 w9 o9 g9 a9;have H9:=aa (fK.pQ (Q8.out.below bB) (bz (by rw[←HX.out];exact O8.out) bB) Sy.out o9 g9);have Oe:=((Q8.out.below bB).b.own (bz Q8.out.NO bB) (by decide) (by decide) g9).tree;have c9:=(Oe.cell 6).trans (show _=some (.slice NC k ND) from rfl);have f9:=Oe.frozen 6;obtain⟨Xh,Xi,rfl⟩:=cG o9;clear o9 g9 a9 Oe;refine hK.out _ _ trivial (fun _=>?_);clear hK K;try simp only[Act.put,av,ay,az,aA,aB,aC]
        refine ah 11 (.pointer (some ⟨tb,6,none⟩)) rfl trivial ?_;refine aG 12 rfl fun K hK=>?_;go_simp;refine hK.out _ _ trivial (fun _=>?_);clear hK K;try simp only[Act.put,av,ay,az,aA,aB,aC]
        refine aV ?_;go_wp2;go_roundw
        case rel=>exact⟨k+1,vS,_,_,by omega,by go_num,(fun j hj=>by
         rcases Nat.lt_succ_iff_lt_or_eq.1 hj with h|h
         ·exact HA2.out.2.1 j h
         ·rw[h, ←HX.out];exact cL.out),H9.out⟩
        case measure=>simp[intOf];omega
       ·go_simp;refine hK.out _ _ trivial (fun _=>?_);clear hK K;try simp only[Act.put,av,ay,az,aA,aB,aC]
        refine ah 6 (.pointer (some ⟨go,k,none⟩)) rfl trivial ?_;refine wpAnyH_ready (rs:=[1,7]) (by kernel_rfl) (by simp) ?_;refine AllReadyH.cons (o:=_) rfl (fun K hK=>?_) (AllReadyH.cons (o:=_) rfl (fun K hK=>?_) AllReadyH.nil)
        ·go_simp;refine hK.out _ _ trivial (fun _=>?_);clear hK K;try simp only[Act.put,av,ay,az,aA,aB,aC]
         refine aG 7 rfl fun K hK=>?_;go_simp;refine hK.out _ _ trivial (fun _=>?_);clear hK K;try simp only[Act.put,av,ay,az,aA,aB,aC]
         refine aG 8 rfl fun K hK=>?_;go_simp;refine(nO _ zs x _ (HR.out.1.below (HQ.out.b.old.drew)) h1 HR.out.2.1 cL.out).mono ?_;rintro e w8 ⟨Td,rfl,o8,b8⟩;have B8:=ae (Below wc.heap.size wc w8) ((ak.drew).trans b8);have Q8:=aa (HQ.out.below B8.out);have Oz:Td.ownBlock≠vS.ownBlock:=qY o8 HQ.out.sec;obtain⟨ua,uc,rfl⟩:=cG o8;have O8:=aa (cH o8 (show w.heap.size≤wc.heap.size from HQ.out.b.old.size));have Yr:=(Q8.out.b.tree.cell 6).trans (show _=some (.slice NC k ND) from rfl);have bB:Below w8.heap.size w8 (w8.alloc (.cells #[.slice ua 128 uc] 45)):=ak.alloc aj _;have Yt:=((Q8.out.below bB).b.tree.cell 6).trans (show _=some (.slice NC k ND) from rfl);have Sy:=aa Oz;clear o8 b8 Oz;refine hK.out _ _ trivial (fun _=>?_);clear hK K;try simp only[Act.put,av,ay,az,aA,aB,aC]
         refine aG 9 rfl fun K hK=>?_;go_simp;refine hK.out _ _ trivial (fun _=>?_);clear hK K;try simp only[Act.put,av,ay,az,aA,aB,aC]
         refine aG 10 rfl fun K hK=>?_;rw[if_pos (by rfl)];refine jD (.tmp 76) (.tmp 84) 75 rfl w.heap.size 45 j0 aJ 1 24 underlying75 hj hj0 hj1 hj2 rfl (by decide) (.slice NC k ND) k _ rfl (bz Q8.out.NO bB) ⟨w8.heap.size,0,none⟩ 1 1 [.slice ua 128 uc] rfl rfl (cell_one_new _ _ _) (by simp[Value.oneCell']) (by unfold maxLen;omega) (by omega) (Q8.out.below bB).b.old.size ?_;intro v9 w9 o9 g9 a9;have H9:=aa (fK.pQ (Q8.out.below bB) (bz (by rw[←HX.out];exact O8.out) bB) Sy.out o9 g9);have Oe:=((Q8.out.below bB).b.own (bz Q8.out.NO bB) (by decide) (by decide) g9).tree;have c9:=(Oe.cell 6).trans (show _=some (.slice NC k ND) from rfl);have f9:=Oe.frozen 6;obtain⟨Xh,Xi,rfl⟩:=cG o9;clear o9 g9 a9 Oe;refine hK.out _ _ trivial (fun _=>?_);clear hK K;try simp only[Act.put,av,ay,az,aA,aB,aC]
         refine ah 11 (.pointer (some ⟨tb,6,none⟩)) rfl trivial ?_;refine aG 12 rfl fun K hK=>?_;go_simp;refine hK.out _ _ trivial (fun _=>?_);clear hK K;try simp only[Act.put,av,ay,az,aA,aB,aC]
         refine aV ?_;go_wp2;go_roundw
         case rel=>exact⟨k+1,vS,_,_,by omega,by go_num,(fun j hj=>by
          rcases Nat.lt_succ_iff_lt_or_eq.1 hj with h|h
          ·exact HA2.out.2.1 j h
          ·rw[h, ←HX.out];exact cL.out),H9.out⟩
         case measure=>simp[intOf];omega
        ·go_simp;refine hK.out _ _ trivial (fun _=>?_);clear hK K;try simp only[Act.put,av,ay,az,aA,aB,aC]
         refine wpAnyH_ready (rs:=[1,8]) (by kernel_rfl) (by simp) ?_;refine AllReadyH.cons (o:=_) rfl (fun K hK=>?_) (AllReadyH.cons (o:=_) rfl (fun K hK=>?_) AllReadyH.nil)
         ·go_simp;refine hK.out _ _ trivial (fun _=>?_);clear hK K;try simp only[Act.put,av,ay,az,aA,aB,aC]
          refine aG 8 rfl fun K hK=>?_;go_simp;refine(nO _ zs x _ (HR.out.1.below (HQ.out.b.old.drew)) h1 HR.out.2.1 cL.out).mono ?_;rintro e w8 ⟨Td,rfl,o8,b8⟩;have B8:=ae (Below wc.heap.size wc w8) ((ak.drew).trans b8);have Q8:=aa (HQ.out.below B8.out);have Oz:Td.ownBlock≠vS.ownBlock:=qY o8 HQ.out.sec;obtain⟨ua,uc,rfl⟩:=cG o8;have O8:=aa (cH o8 (show w.heap.size≤wc.heap.size from HQ.out.b.old.size));have Yr:=(Q8.out.b.tree.cell 6).trans (show _=some (.slice NC k ND) from rfl);have bB:Below w8.heap.size w8 (w8.alloc (.cells #[.slice ua 128 uc] 45)):=ak.alloc aj _;have Yt:=((Q8.out.below bB).b.tree.cell 6).trans (show _=some (.slice NC k ND) from rfl);have Sy:=aa Oz;clear o8 b8 Oz;refine hK.out _ _ trivial (fun _=>?_);clear hK K;try simp only[Act.put,av,ay,az,aA,aB,aC]
          refine aG 9 rfl fun K hK=>?_;go_simp;refine hK.out _ _ trivial (fun _=>?_);clear hK K;try simp only[Act.put,av,ay,az,aA,aB,aC]
          refine aG 10 rfl fun K hK=>?_;rw[if_pos (by rfl)];refine jD (.tmp 76) (.tmp 84) 75 rfl w.heap.size 45 j0 aJ 1 24 underlying75 hj hj0 hj1 hj2 rfl (by decide) (.slice NC k ND) k _ rfl (bz Q8.out.NO bB) ⟨w8.heap.size,0,none⟩ 1 1 [.slice ua 128 uc] rfl rfl (cell_one_new _ _ _) (by simp[Value.oneCell']) (by unfold maxLen;omega) (by omega) (Q8.out.below bB).b.old.size ?_;intro v9 w9 o9 g9 a9;have H9:=aa (fK.pQ (Q8.out.below bB) (bz (by rw[←HX.out];exact O8.out) bB) Sy.out o9 g9);have Oe:=((Q8.out.below bB).b.own (bz Q8.out.NO bB) (by decide) (by decide) g9).tree;have c9:=(Oe.cell 6).trans (show _=some (.slice NC k ND) from rfl);have f9:=Oe.frozen 6;obtain⟨Xh,Xi,rfl⟩:=cG o9;clear o9 g9 a9 Oe;refine hK.out _ _ trivial (fun _=>?_);clear hK K;try simp only[Act.put,av,ay,az,aA,aB,aC]
          refine ah 11 (.pointer (some ⟨tb,6,none⟩)) rfl trivial ?_;refine aG 12 rfl fun K hK=>?_;go_simp;refine hK.out _ _ trivial (fun _=>?_);clear hK K;try simp only[Act.put,av,ay,az,aA,aB,aC]
          refine aV ?_;go_wp2;go_roundw
          case rel=>exact⟨k+1,vS,_,_,by omega,by go_num,(fun j hj=>by
           rcases Nat.lt_succ_iff_lt_or_eq.1 hj with h|h
           ·exact HA2.out.2.1 j h
           ·rw[h, ←HX.out];exact cL.out),H9.out⟩
          case measure=>simp[intOf];omega
         ·go_simp;refine(nO _ zs x _ (HR.out.1.below (HQ.out.b.old.drew)) h1 HR.out.2.1 cL.out).mono ?_;rintro e w8 ⟨Td,rfl,o8,b8⟩;have B8:=ae (Below wc.heap.size wc w8) ((ak.drew).trans b8);have Q8:=aa (HQ.out.below B8.out);have Oz:Td.ownBlock≠vS.ownBlock:=qY o8 HQ.out.sec;obtain⟨ua,uc,rfl⟩:=cG o8;have O8:=aa (cH o8 (show w.heap.size≤wc.heap.size from HQ.out.b.old.size));have Yr:=(Q8.out.b.tree.cell 6).trans (show _=some (.slice NC k ND) from rfl);have bB:Below w8.heap.size w8 (w8.alloc (.cells #[.slice ua 128 uc] 45)):=ak.alloc aj _;have Yt:=((Q8.out.below bB).b.tree.cell 6).trans (show _=some (.slice NC k ND) from rfl);have Sy:=aa Oz;clear o8 b8 Oz;refine hK.out _ _ trivial (fun _=>?_);clear hK K;try simp only[Act.put,av,ay,az,aA,aB,aC]
          refine wpAnyH_ready (rs:=[1,9]) (by kernel_rfl) (by simp) ?_;refine AllReadyH.cons (o:=_) rfl (fun K hK=>?_) (AllReadyH.cons (o:=_) rfl (fun K hK=>?_) AllReadyH.nil)
          ·go_simp;refine hK.out _ _ trivial (fun _=>?_);clear hK K;try simp only[Act.put,av,ay,az,aA,aB,aC]
           refine aG 9 rfl fun K hK=>?_;go_simp;refine hK.out _ _ trivial (fun _=>?_);clear hK K;try simp only[Act.put,av,ay,az,aA,aB,aC]
           refine aG 10 rfl fun K hK=>?_;rw[if_pos (by rfl)];refine jD (.tmp 76) (.tmp 84) 75 rfl w.heap.size 45 j0 aJ 1 24 underlying75 hj hj0 hj1 hj2 rfl (by decide) (.slice NC k ND) k _ rfl (bz Q8.out.NO bB) ⟨w8.heap.size,0,none⟩ 1 1 [.slice ua 128 uc] rfl rfl (cell_one_new _ _ _) (by simp[Value.oneCell']) (by unfold maxLen;omega) (by omega) (Q8.out.below bB).b.old.size ?_;intro v9 w9 o9 g9 a9;have H9:=aa (fK.pQ (Q8.out.below bB) (bz (by rw[←HX.out];exact O8.out) bB) Sy.out o9 g9);have Oe:=((Q8.out.below bB).b.own (bz Q8.out.NO bB) (by decide) (by decide) g9).tree;have c9:=(Oe.cell 6).trans (show _=some (.slice NC k ND) from rfl);have f9:=Oe.frozen 6;obtain⟨Xh,Xi,rfl⟩:=cG o9;clear o9 g9 a9 Oe;refine hK.out _ _ trivial (fun _=>?_);clear hK K;try simp only[Act.put,av,ay,az,aA,aB,aC]
           refine ah 11 (.pointer (some ⟨tb,6,none⟩)) rfl trivial ?_;refine aG 12 rfl fun K hK=>?_;go_simp;refine hK.out _ _ trivial (fun _=>?_);clear hK K;try simp only[Act.put,av,ay,az,aA,aB,aC]
           refine aV ?_;go_wp2;go_roundw
           case rel=>exact⟨k+1,vS,_,_,by omega,by go_num,(fun j hj=>by
            rcases Nat.lt_succ_iff_lt_or_eq.1 hj with h|h
            ·exact HA2.out.2.1 j h
            ·rw[h, ←HX.out];exact cL.out),H9.out⟩
           case measure=>simp[intOf];omega
          ·go_simp;refine hK.out _ _ trivial (fun _=>?_);clear hK K;try simp only[Act.put,av,ay,az,aA,aB,aC]
           refine aG 1 rfl fun K hK=>?_;go_simp;refine hK.out _ _ trivial (fun _=>?_);clear hK K;try simp only[Act.put,av,ay,az,aA,aB,aC]
           refine aG 10 rfl fun K hK=>?_;rw[if_pos (by rfl)];refine jD (.tmp 76) (.tmp 84) 75 rfl w.heap.size 45 j0 aJ 1 24 underlying75 hj hj0 hj1 hj2 rfl (by decide) (.slice NC k ND) k _ rfl (bz Q8.out.NO bB) ⟨w8.heap.size,0,none⟩ 1 1 [.slice ua 128 uc] rfl rfl (cell_one_new _ _ _) (by simp[Value.oneCell']) (by unfold maxLen;omega) (by omega) (Q8.out.below bB).b.old.size ?_;intro v9 w9 o9 g9 a9;have H9:=aa (fK.pQ (Q8.out.below bB) (bz (by rw[←HX.out];exact O8.out) bB) Sy.out o9 g9);have Oe:=((Q8.out.below bB).b.own (bz Q8.out.NO bB) (by decide) (by decide) g9).tree;have c9:=(Oe.cell 6).trans (show _=some (.slice NC k ND) from rfl);have f9:=Oe.frozen 6;obtain⟨Xh,Xi,rfl⟩:=cG o9;clear o9 g9 a9 Oe;refine hK.out _ _ trivial (fun _=>?_);clear hK K;try simp only[Act.put,av,ay,az,aA,aB,aC]
           refine ah 11 (.pointer (some ⟨tb,6,none⟩)) rfl trivial ?_;refine aG 12 rfl fun K hK=>?_;go_simp;refine hK.out _ _ trivial (fun _=>?_);clear hK K;try simp only[Act.put,av,ay,az,aA,aB,aC]
           refine aV ?_;go_wp2;go_roundw
           case rel=>exact⟨k+1,vS,_,_,by omega,by go_num,(fun j hj=>by
            rcases Nat.lt_succ_iff_lt_or_eq.1 hj with h|h
            ·exact HA2.out.2.1 j h
            ·rw[h, ←HX.out];exact cL.out),H9.out⟩
           case measure=>simp[intOf];omega
    ·have Ul:¬(140+128*(k:Int)<(cnt:Int)):=(by have:=tj hcn (show jy cnt≤k by omega);omega);have hk7:k=jy cnt:=(by omega);have Va:=aa hk7;clear hk7 hk2 OA Yq Nq;have Vb:=ae (jC w tb R (aQ zs) (fun i=>ds.getD i 0) p q aJ (.slice ia 128 ic) (.slice (some ⟨go,0,none⟩) 128 oc) (.slice Oo k Oq) (.slice NC k ND) vs k 0 wr) (by
      have hA:=HA2.out.1;refine⟨hA.b,hA.QB,hA.sec,hA.NO,fun j hj=>?_,ownsRow_nil _ _ _ _,?_,?_⟩
      ·obtain⟨v,e1,e2,e3⟩:=hA.each j hj;obtain⟨g,e4,_⟩:=m9 e2 (by omega);exact⟨v,e1,e2,by rw[e4];intro e;cases e⟩
      ·obtain⟨g,e4,_⟩:=m9 hA.QB (by omega);rw[e4];intro e;cases e
      ·cases hv:(Value.slice Oo k Oq).ownBlock with
       |none=>exact .inr rfl
       |some g=>exact .inl (fun e=>by cases e))
     have HGk:=aa HA2.out.2.1;clear HA2;rename_i wr0 _ _ _
     go_wp2;go_loopw [10] (fun Yu wr=>∃(i:Nat) (dv:Value),i≤cnt∧Yu=.int .i64 (i:Int)∧(∀j,j<i→bM (zs.length/512) (cO (aQ zs) (fun i=>ds.getD i 0) p q j)=true)∧jC w tb R (aQ zs) (fun i=>ds.getD i 0) p q dv (.slice ia 128 ic) (.slice (some ⟨go,0,none⟩) 128 oc) (.slice Oo k Oq) (.slice NC k ND) vs k i wr) (fun Yu _=>cnt-(intOf Yu).toNat)
     case atStart=>exact⟨0,aJ,Nat.zero_le _,rfl,fun j hj=>absurd hj (by omega),Vb.out⟩
     case round=>
      obtain⟨i,dv,hi1,rfl,hgi,Te⟩:=hrel;clear Vb;have Of:=aa (ai Te hgi);by_cases hi2:i<cnt
      ·have Uk:(i:Int)<(cnt:Int):=(by omega);clear Te;obtain⟨da,dc,rfl⟩:=cG Of.out.1.dat;obtain⟨x,hx⟩:∃x,x=cO (aQ zs) (fun i=>ds.getD i 0) p q i:=⟨_,rfl⟩;have Qa:=aa hx;clear hx hgi;by_cases h12:i<12
       ·have hxe:x=ds.getD i 0:=(by rw[Qa.out];exact xh h12);have Vc:=aa hxe;clear hxe;go_upto_region 30 with(first
         |(go_at_call 76;refine(Fe i _ h12).mono ?_;rintro e w8 ⟨rfl,b8⟩;simp only[j4];have b9:Below wr.heap.size wr (w8.alloc (.cells #[.int .i64 0,.int .i64 0,.int .i64 (i:Int)] 141)):=b8.alloc b8.size _;have A9:=aa (Of.out.1.below b9);have kp:=af.new w8 #[.int .i64 0,.int .i64 0,.int .i64 (i:Int)] 141;have p0:=(kp.cell 0).trans rfl;have p1:=(kp.cell 1).trans rfl;have p2:=(kp.cell 2).trans rfl;have cx:=(A9.out.b.root.cell (1+i)).trans (Pz.out.2.2.1 i h12);rw[←Vc.out] at cx;clear b8 b9 kp))
        generalize w8.alloc (.cells #[.int .i64 0,.int .i64 0,.int .i64 (i:Int)] 141)=W9 at A9⊢;clear p0 p1 p2 cx;have bN:Below W9.heap.size W9 (W9.alloc (.cells #[.int .i64 x] 3)):=ak.alloc aj _;have t0:=(A9.out.b.tree.cell 0).trans (show _=some (.slice da i dc) from rfl);cases hg:bM (zs.length/512) x with
        |false=>
         have cL:=aa hg;clear hg t0 bN;go_wp2_with (first
          |(go_at_call 74;refine(kO _ zs x _ (HR.out.1.below A9.out.b.old) h1).mono ?_;rintro e w9 ⟨rfl,eJ⟩;rw[cL.out,eJ];clear eJ)
          |(refine wpList_store_row rfl 77 _ _ rfl (w.heap.size+1) (di aJ 0 0 aJ aJ aJ aJ false) rfl rfl 77 _ A9.out.b.res gZ rfl (by simp[Value.oneCell']) ?_))
         refine bodyPost_ret (v:=.agg (di aJ 0 0 aJ aJ aJ aJ false)) ?_ rfl ⟨.inr ⟨fun hap=>?_,rfl⟩,below_setRow A9.out.b.old (by omega) _⟩
         ·exact results_cell_row rfl _ _ (w.heap.size+1) 77 _ (0,0) _ rfl (A9.out.b.res.row _) underlying77 rfl gZ
         ·have:=hap.2.2.2.2 i hi2;rw[←Qa.out,cL.out] at this;cases this
        |true=>
         have cL:=aa hg;clear hg;go_wp2_with (first
          |(go_at_call 74;refine(kO _ zs x _ (HR.out.1.below A9.out.b.old) h1).mono ?_;rintro e w9 ⟨rfl,eJ⟩;rw[cL.out,eJ];clear eJ)
          |(at_builtin;refine wpList_append_own_at _ rfl (.tmp 132) (.tmp 134) 45 rfl w.heap.size 3 i0 (.int .i64 0) 1 8 underlying45 hi hz0 hz1 hz2 rfl (by decide) (.slice da i dc) i _ rfl (bz A9.out.dat bN) ⟨W9.heap.size,0,none⟩ 1 1 [.int .i64 x] rfl rfl (cell_one_new _ _ _) (by simp[Value.oneCell']) (by unfold maxLen;omega) (by omega) (A9.out.below bN).b.old.size ?_;intro v10 je OF g10 _ Sz;have Og:=aa (jC.add (A9.out.below bN) (by rw[←Qa.out];exact OF) g10 Sz);have NP:=((A9.out.below bN).b.own (bz A9.out.dat bN) (by decide) (by decide) g10).tree;have c10:=(NP.cell 0).trans (show _=some (.slice da i dc) from rfl);have f10:=NP.frozen 0;obtain⟨Vd,Ve,rfl⟩:=cG OF;clear OF g10 Sz NP))
         go_roundw
         case rel=>exact⟨i+1,_,by omega,by go_num,(fun j hj=>by
          rcases Nat.lt_succ_iff_lt_or_eq.1 hj with h|h
          ·exact Of.out.2 j h
          ·rw[h, ←Qa.out];exact cL.out),Og.out⟩
         case measure=>simp[intOf];omega
       ·by_cases h140:i<140
        ·obtain⟨y,hy0⟩:∃y:Nat,i=y+12:=⟨i-12,by omega⟩;have hy:y<128:=(by omega);have hyI:(y:Int)<128:=(by omega);have Vc:=ae (x=bJ (aQ zs) p y) (by rw[Qa.out,hy0,Nat.add_comm y 12];exact xj hy);have SA:=aa hy0;clear hy0;go_upto_region 30 with(first
          |(go_at_call 76;refine(Fj i y SA.out hy _).mono ?_;rintro e w8 ⟨rfl,b8⟩;simp only[j4];have b9:Below wr.heap.size wr (w8.alloc (.cells #[.int .i64 1,.int .i64 0,.int .i64 (y:Int)] 141)):=b8.alloc b8.size _;have A9:=aa (Of.out.1.below b9);have kp:=af.new w8 #[.int .i64 1,.int .i64 0,.int .i64 (y:Int)] 141;have p0:=(kp.cell 0).trans rfl;have p1:=(kp.cell 1).trans rfl;have p2:=(kp.cell 2).trans rfl;obtain⟨gi,ci,ei,_,hci⟩:=kU A9.out.QB (by omega);injection ei with ei1 ei2 ei3;have cx:=hci y (by omega);rw[show((range 128).map (bJ (aQ zs) p)).getD y 0=bJ (aQ zs) p y by simp[getD,hy], ←Vc.out] at cx;have ti:=(A9.out.b.tree.cell 3).trans (show _=some (.slice ia 128 ic) from rfl);rw[ei1] at ti;clear b8 b9 kp hci ei1 ei2 ei3))
         generalize w8.alloc (.cells #[.int .i64 1,.int .i64 0,.int .i64 (y:Int)] 141)=W9 at A9⊢;clear p0 p1 p2 cx ti;have bN:Below W9.heap.size W9 (W9.alloc (.cells #[.int .i64 x] 3)):=ak.alloc aj _;have t0:=(A9.out.b.tree.cell 0).trans (show _=some (.slice da i dc) from rfl);cases hg:bM (zs.length/512) x with
         |false=>
          have cL:=aa hg;clear hg t0 bN;go_wp2_with (first
           |(go_at_call 74;refine(kO _ zs x _ (HR.out.1.below A9.out.b.old) h1).mono ?_;rintro e w9 ⟨rfl,eJ⟩;rw[cL.out,eJ];clear eJ)
           |(refine wpList_store_row rfl 77 _ _ rfl (w.heap.size+1) (di aJ 0 0 aJ aJ aJ aJ false) rfl rfl 77 _ A9.out.b.res gZ rfl (by simp[Value.oneCell']) ?_))
          refine bodyPost_ret (v:=.agg (di aJ 0 0 aJ aJ aJ aJ false)) ?_ rfl ⟨.inr ⟨fun hap=>?_,rfl⟩,below_setRow A9.out.b.old (by omega) _⟩
          ·exact results_cell_row rfl _ _ (w.heap.size+1) 77 _ (0,0) _ rfl (A9.out.b.res.row _) underlying77 rfl gZ
          ·have:=hap.2.2.2.2 i hi2;rw[←Qa.out,cL.out] at this;cases this
         |true=>
          have cL:=aa hg;clear hg;go_wp2_with (first
           |(go_at_call 74;refine(kO _ zs x _ (HR.out.1.below A9.out.b.old) h1).mono ?_;rintro e w9 ⟨rfl,eJ⟩;rw[cL.out,eJ];clear eJ)
           |(at_builtin;refine wpList_append_own_at _ rfl (.tmp 132) (.tmp 134) 45 rfl w.heap.size 3 i0 (.int .i64 0) 1 8 underlying45 hi hz0 hz1 hz2 rfl (by decide) (.slice da i dc) i _ rfl (bz A9.out.dat bN) ⟨W9.heap.size,0,none⟩ 1 1 [.int .i64 x] rfl rfl (cell_one_new _ _ _) (by simp[Value.oneCell']) (by unfold maxLen;omega) (by omega) (A9.out.below bN).b.old.size ?_;intro v10 je OF g10 _ Sz;have Og:=aa (jC.add (A9.out.below bN) (by rw[←Qa.out];exact OF) g10 Sz);have NP:=((A9.out.below bN).b.own (bz A9.out.dat bN) (by decide) (by decide) g10).tree;have c10:=(NP.cell 0).trans (show _=some (.slice da i dc) from rfl);have f10:=NP.frozen 0;obtain⟨Vd,Ve,rfl⟩:=cG OF;clear OF g10 Sz NP))
          go_roundw
          case rel=>exact⟨i+1,_,by omega,by go_num,(fun j hj=>by
           rcases Nat.lt_succ_iff_lt_or_eq.1 hj with h|h
           ·exact Of.out.2 j h
           ·rw[h, ←Qa.out];exact cL.out),Og.out⟩
          case measure=>simp[intOf];omega
        ·obtain⟨y,hy0⟩:∃y:Nat,i=y+140:=⟨i-140,by omega⟩;obtain⟨o,ho⟩:∃o:Nat,o=y/128:=⟨_,rfl⟩;obtain⟨n,hn⟩:∃n:Nat,n=y%128:=⟨_,rfl⟩;have hn1:n<128:=(by omega);have hnI:(n:Int)<128:=(by omega);have hok:o<k:=by
          rcases Nat.lt_or_ge o k with h|h
          ·exact h
          ·rw[Va.out] at h;have:=tj hcn h;omega
         have hoI:(o:Int)<(k:Int):=(by omega);have Vc:=ae (x=bJ (aQ zs) (bJ (aQ zs) q o) n) (by
          rw[Qa.out,hy0,show y+140=140+128*o+n by omega];exact xk hn1)
         have SA:=aa (ai hy0 (ai ho hn));have Vf:y<372:=(by omega);clear hy0 ho hn;go_upto_region 29 with(first
          |(go_at_call 76;refine(Fk i y o n SA.out.1 Vf SA.out.2.1 SA.out.2.2 _).mono ?_;rintro e w8 ⟨rfl,b8⟩;simp only[j4];have b9:Below wr.heap.size wr (w8.alloc (.cells #[.int .i64 2,.int .i64 (o:Int),.int .i64 (n:Int)] 141)):=b8.alloc b8.size _;have A9:=aa (Of.out.1.below b9);have kp:=af.new w8 #[.int .i64 2,.int .i64 (o:Int),.int .i64 (n:Int)] 141;have p0:=(kp.cell 0).trans rfl;have p1:=(kp.cell 1).trans rfl;have p2:=(kp.cell 2).trans rfl;have HKp:=aa kp;clear b8 b9 kp))
         obtain⟨vo,hvo,hvr,_⟩:=A9.out.each o hok;obtain⟨gw,hcw⟩:=Fo A9.out.NO (show 0<k by omega);obtain⟨cw,ew,hcw⟩:=hcw;injection ew with ew1 ew2 ew3;obtain⟨gv,cv,rfl,_,hcv⟩:=kU hvr (by omega);have cw1:=hcw o _ hvo;have cx:=hcv n hn1;rw[show((range 128).map (bJ (aQ zs) (bJ (aQ zs) q o))).getD n 0=bJ (aQ zs) (bJ (aQ zs) q o) n by simp[getD,hn1], ←Vc.out] at cx;have tw:=(A9.out.b.tree.cell 6).trans (show _=some (.slice NC k ND) from rfl);rw[ew1] at tw;clear hcw hcv hvr hvo ew1 ew2 ew3;go_quiet (fail)
         go_upto_region 30 with fail;have A9q:=aa (fun nq=>A9.out.below (Fp ak nq));clear A9 p0 p1 p2 cx tw cw1;generalize hWd:World.drewN _ _=W9;have A9:=ae (jC w tb R (aQ zs) (fun i=>ds.getD i 0) p q (.slice da i dc) (.slice ia 128 ic) (.slice (some ⟨go,0,none⟩) 128 oc) (.slice Oo k Oq) (.slice NC k ND) vs k i W9) (by rw[←hWd];exact A9q.out _);clear hWd A9q;have bN:Below W9.heap.size W9 (W9.alloc (.cells #[.int .i64 x] 3)):=ak.alloc aj _;have t0:=(A9.out.b.tree.cell 0).trans (show _=some (.slice da i dc) from rfl);cases hg:bM (zs.length/512) x with
         |false=>
          have cL:=aa hg;clear hg t0 bN;go_wp2_with (first
           |(go_at_call 74;refine(kO _ zs x _ (HR.out.1.below A9.out.b.old) h1).mono ?_;rintro e w9 ⟨rfl,eJ⟩;rw[cL.out,eJ];clear eJ)
           |(refine wpList_store_row rfl 77 _ _ rfl (w.heap.size+1) (di aJ 0 0 aJ aJ aJ aJ false) rfl rfl 77 _ A9.out.b.res gZ rfl (by simp[Value.oneCell']) ?_))
          refine bodyPost_ret (v:=.agg (di aJ 0 0 aJ aJ aJ aJ false)) ?_ rfl ⟨.inr ⟨fun hap=>?_,rfl⟩,below_setRow A9.out.b.old (by omega) _⟩
          ·exact results_cell_row rfl _ _ (w.heap.size+1) 77 _ (0,0) _ rfl (A9.out.b.res.row _) underlying77 rfl gZ
          ·have:=hap.2.2.2.2 i hi2;rw[←Qa.out,cL.out] at this;cases this
         |true=>
          have cL:=aa hg;clear hg;go_wp2_with (first
           |(go_at_call 74;refine(kO _ zs x _ (HR.out.1.below A9.out.b.old) h1).mono ?_;rintro e w9 ⟨rfl,eJ⟩;rw[cL.out,eJ];clear eJ)
           |(at_builtin;refine wpList_append_own_at _ rfl (.tmp 132) (.tmp 134) 45 rfl w.heap.size 3 i0 (.int .i64 0) 1 8 underlying45 hi hz0 hz1 hz2 rfl (by decide) (.slice da i dc) i _ rfl (bz A9.out.dat bN) ⟨W9.heap.size,0,none⟩ 1 1 [.int .i64 x] rfl rfl (cell_one_new _ _ _) (by simp[Value.oneCell']) (by unfold maxLen;omega) (by omega) (A9.out.below bN).b.old.size ?_;intro v10 je OF g10 _ Sz;have Og:=aa (jC.add (A9.out.below bN) (by rw[←Qa.out];exact OF) g10 Sz);have NP:=((A9.out.below bN).b.own (bz A9.out.dat bN) (by decide) (by decide) g10).tree;have c10:=(NP.cell 0).trans (show _=some (.slice da i dc) from rfl);have f10:=NP.frozen 0;obtain⟨Vd,Ve,rfl⟩:=cG OF;clear OF g10 Sz NP))
          go_roundw
          case rel=>exact⟨i+1,_,by omega,by go_num,(fun j hj=>by
           rcases Nat.lt_succ_iff_lt_or_eq.1 hj with h|h
           ·exact Of.out.2 j h
           ·rw[h, ←Qa.out];exact cL.out),Og.out⟩
          case measure=>simp[intOf];omega
      ·have hi3:i=cnt:=(by omega);subst hi3;clear hi2 Te hgi;go_wp2_with (first
        |(refine wpList_load_row rfl 77 _ rfl tb rfl 77 (di dv p q (.slice ia 128 ic) (.slice (some ⟨go,0,none⟩) 128 oc) (.slice Oo k Oq) (.slice NC k ND) true) (0,0) _ Of.out.1.b.tree underlying77 rfl gZ ?_)
        |(refine wpList_store_row rfl 77 _ _ rfl (w.heap.size+1) (di dv p q (.slice ia 128 ic) (.slice (some ⟨go,0,none⟩) 128 oc) (.slice Oo k Oq) (.slice NC k ND) true) rfl rfl 77 _ Of.out.1.b.res gZ rfl (yw Of.out.1.dat) ?_))
       refine bodyPost_ret (v:=.agg (di dv p q (.slice ia 128 ic) (.slice (some ⟨go,0,none⟩) 128 oc) (.slice Oo k Oq) (.slice NC k ND) true)) ?_ rfl ⟨.inl ⟨⟨Ss.out,HGS.out,HGX.out,fun j hj hc=>HGk.out j ?_,Of.out.2⟩,dv,_,_,_,_,rfl,yw Of.out.1.dat,yx Of.out.1.dat Of.out.1.b.res (by decide),by rw[←Va.out];exact yx Of.out.1.sec Of.out.1.b.res (by decide),Of.out.1.a2⟩,below_setRow Of.out.1.b.old (by omega) _⟩
       ·exact results_cell_row rfl _ _ (w.heap.size+1) 77 _ (0,0) _ rfl (Of.out.1.b.res.row _) underlying77 rfl gZ
       ·rcases Nat.lt_or_ge j k with h|h
        ·exact h
        ·rw[Va.out] at h;have:=tj hcn h;omega
end
end Go.Proofs.YtpplnhkpcpieoaaGreatDoor
