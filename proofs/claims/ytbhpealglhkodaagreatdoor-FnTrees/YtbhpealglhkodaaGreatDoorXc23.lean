/- Slices of structs whose last field is a slice of bytes: what they read as, and what owns t -/
import Derived.Test.YtbhpealglhkodaaGreatDoorXc03
import Derived.Laws.Cover3
namespace Go.Proofs.YtbhpealglhkodaaGreatDoor
set_option linter.all false
set_option maxRecDepth 100000
set_option maxHeartbeats 16000000
section
open Go.RowKit
abbrev NE:=List Value×List Int
def cellsN:List Value→List NE→List Value
 |v::vs,l::L=>l.1++([v]++cellsN vs L)
 |_,_=>[]
theorem cellsN_append:∀(vs:List Value) (L:List NE) (us:List Value) (M:List NE),vs.length=L.length→cellsN (vs++us) (L++M)=cellsN vs L++cellsN us M
 |[],[],us,M,_=>by simp[cellsN]
 |[],_::_,_,_,h=>by simp at h
 |_::_,[],_,_,h=>by simp at h
 |v::vs,l::L,us,M,h=>by
  rw[List.cons_append,List.cons_append,cellsN,cellsN,cellsN_append vs L us M (by simpa using h)];simp[List.append_assoc]
theorem cellsN_get(m:Nat):∀(vs:List Value) (L:List NE),vs.length=L.length→(∀l∈L,l.1.length=m)→∀i j v l,vs[i]?=some v→L[i]?=some l→j<m+1→(cellsN vs L)[i*(m+1)+j]?=(l.1++[v])[j]?
 |[],[],_,_,i,j,v,l,h,_,_=>by simp at h
 |[],_::_,h,_,_,_,_,_,_,_,_=>by simp at h
 |_::_,[],h,_,_,_,_,_,_,_,_=>by simp at h
 |v0::vs,l0::L,h,hp,i,j,v,l,hv,hl,hj=>by
  have h1:=hp l0 (by simp);rw[cellsN, ←List.append_assoc];cases i with
  |zero=>
   simp at hv hl;subst hv;subst hl;rw[Nat.zero_mul,Nat.zero_add,List.getElem?_append_left (by simp[h1];omega)]
  |succ i=>
   have h2:=cellsN_get m vs L (by simpa using h) (fun x hx=>hp x (by simp[hx])) i j v l (by simpa using hv) (by simpa using hl) hj;have e:(i+1)*(m+1)+j=(m+1)+(i*(m+1)+j):=(by rw[Nat.add_mul];omega);rw[e,List.getElem?_append_right (by simp[h1]),show(l0.1++[v0]).length=m+1 by simp[h1],Nat.add_sub_cancel_left];exact h2
theorem cellsN_data:∀(vs:List Value) (L:List NE) (i:Nat) (l:NE) (zs:List Int),L[i]?=some l→cellsN vs (L.set i (l.1,zs))=cellsN vs L
 |[],L,i,l,zs,h=>by cases hL:L.set i (l.1,zs)<;>simp[cellsN]
 |v::vs,[],i,l,zs,h=>by simp at h
 |v::vs,l0::L,0,l,zs,h=>by
  simp at h;subst h;simp[cellsN]
 |v::vs,l0::L,i+1,l,zs,h=>by
  simp only[List.set_cons_succ,cellsN];rw[cellsN_data vs L i l zs (by simpa using h)]
theorem cellsN_pre(m:Nat):∀(vs:List Value) (L:List NE),vs.length=L.length→(∀l∈L,l.1.length=m)→∀i j l u,L[i]?=some l→j<m→(cellsN vs L).set (i*(m+1)+j) u=cellsN vs (L.set i (l.1.set j u,l.2))
 |[],[],_,_,i,j,l,u,h,_=>by simp at h
 |[],_::_,h,_,_,_,_,_,_,_=>by simp at h
 |_::_,[],h,_,_,_,_,_,_,_=>by simp at h
 |v0::vs,l0::L,h,hp,i,j,l,u,hl,hj=>by
  have h1:=hp l0 (by simp);cases i with
  |zero=>
   simp at hl;subst hl;simp only[List.set_cons_zero,cellsN,Nat.zero_mul,Nat.zero_add];rw[List.set_append_left _ _ (by omega)]
  |succ i=>
   have h2:=cellsN_pre m vs L (by simpa using h) (fun x hx=>hp x (by simp[hx])) i j l u (by simpa using hl) hj;have e:(i+1)*(m+1)+j=(m+1)+(i*(m+1)+j):=(by rw[Nat.add_mul];omega);simp only[List.set_cons_succ,cellsN];rw[←List.append_assoc, ←List.append_assoc,e,List.set_append_right _ _ (by simp[h1]),show(l0.1++[v0]).length=m+1 by simp[h1],Nat.add_sub_cancel_left,h2]
theorem cellsN_last(m:Nat):∀(vs:List Value) (L:List NE),vs.length=L.length→(∀l∈L,l.1.length=m)→∀i v,i<L.length→(cellsN vs L).set (i*(m+1)+m) v=cellsN (vs.set i v) L
 |[],[],_,_,i,v,h=>by simp at h
 |[],_::_,h,_,_,_,_=>by simp at h
 |_::_,[],h,_,_,_,_=>by simp at h
 |v0::vs,l0::L,h,hp,i,v,hi=>by
  have h1:=hp l0 (by simp);cases i with
  |zero=>
   simp only[List.set_cons_zero,cellsN,Nat.zero_mul,Nat.zero_add];rw[List.set_append_right _ _ (by omega),h1,Nat.sub_self];rfl
  |succ i=>
   have h2:=cellsN_last m vs L (by simpa using h) (fun x hx=>hp x (by simp[hx])) i v (by simpa using hi);have e:(i+1)*(m+1)+m=(m+1)+(i*(m+1)+m):=(by rw[Nat.add_mul];omega);simp only[List.set_cons_succ,cellsN];rw[←List.append_assoc, ←List.append_assoc,e,List.set_append_right _ _ (by simp[h1]),show(l0.1++[v0]).length=m+1 by simp[h1],Nat.add_sub_cancel_left,h2]
structure RdN(W:World)(m:Nat)(v:Value)(L:List NE)(vs:List Value):Prop where
 len:vs.length=L.length
 pre:∀l∈L,l.1.length=m
 row:∃a cap,v=.slice a L.length cap∧(0<L.length→∃b off,a=some ⟨b,off,none⟩∧b<W.heap.size∧∀(j:Nat) (u:Value),(cellsN vs L)[j]?=some u→W.cell? ⟨b,off+j,none⟩=some u)∧L.length≤cap∧cap≤maxLen
 dat:∀(i:Nat) (u:Value) (l:NE),vs[i]?=some u→L[i]?=some l→Rd .u8 W u l.2
theorem RdN.below{W W':World}{m:Nat}{v:Value}{L:List NE}{vs:List Value}(h:RdN W m v L vs)(hb:Below W.heap.size W W'):RdN W' m v L vs:=by
 obtain⟨a,cap,e,hc,h1,h2⟩:=h.row;refine⟨h.len,h.pre,⟨a,cap,e,fun hn=>?_,h1,h2⟩,fun i u l hu hl=>(h.dat i u l hu hl).below hb⟩;obtain⟨b,off,rfl,hlt,hcell⟩:=hc hn;exact⟨b,off,rfl,Nat.lt_of_lt_of_le hlt hb.size,fun j u hu=>(hb.cell (p:=⟨b,off+j,none⟩) hlt).trans (hcell j u hu)⟩
structure OwnN(W:World)(base:Nat)(e:TypeId)(m:Nat)(v:Value)(L:List NE)(vs:List Value):Prop where
 len:vs.length=L.length
 pre:∀l∈L,l.1.length=m
 row:W.ownsRow base e (m+1) v L.length (cellsN vs L)
 dat:∀(i:Nat) (u:Value) (l:NE),vs[i]?=some u→L[i]?=some l→W.ownsRow base 5 1 u l.2.length (l.2.map (Value.int .u8))
 one:∀(i j:Nat) (u u':Value) (b:Nat),vs[i]?=some u→vs[j]?=some u'→u.ownBlock=some b→u'.ownBlock=some b→i=j
theorem OwnN.below{W W':World}{base:Nat}{e:TypeId}{m:Nat}{v:Value}{L:List NE}{vs:List Value}(h:OwnN W base e m v L vs)(hb:Below W.heap.size W W'):OwnN W' base e m v L vs:=
 ⟨h.len,h.pre,own_below h.row hb,fun i u l hu hl=>own_below (h.dat i u l hu hl) hb,h.one⟩
theorem OwnN.mono{W:World}{base base':Nat}{e:TypeId}{m:Nat}{v:Value}{L:List NE}{vs:List Value}(h:OwnN W base e m v L vs)(hb:base'≤base):OwnN W base' e m v L vs:=
 ⟨h.len,h.pre,own_mono h.row hb,fun i u l hu hl=>own_mono (h.dat i u l hu hl) hb,h.one⟩
theorem OwnN.rd{W:World}{base:Nat}{e:TypeId}{m:Nat}{v:Value}{L:List NE}{vs:List Value}(h:OwnN W base e m v L vs):RdN W m v L vs:=by
 refine⟨h.len,h.pre,?_,fun i u l hu hl=>Rd.own (h.dat i u l hu hl)⟩;have hrow:=h.row;rcases h.row.2 with⟨rfl,h0⟩|⟨g,cap,cur,rfl,hb,hg,h1,h2,h3,h4⟩
 ·exact⟨none,0,by rw[h0],fun hn=>by omega,by omega,by unfold maxLen;omega⟩
 ·refine⟨some ⟨g,0,none⟩,cap,rfl,fun _=>⟨g,0,rfl,(hrow.lt g rfl).2,fun j u hu=>?_⟩,h1,h2⟩;have:=hrow.cells (g:=g) rfl j u hu;rw[Addr.add_mid] at this;exact this
theorem own_apart{W:World}{base base':Nat}{e e':TypeId}{size size':Nat}{v v':Value}{n n':Nat}{xs xs':List Value}(h:W.ownsRow base e size v n xs)(h':W.ownsRow base' e' size' v' n' xs')(he:e≠e'):v.ownBlock=none∨v.ownBlock≠v'.ownBlock:=by
 rcases h.2 with⟨rfl,_⟩|⟨g,cap,cur,rfl,_,hg,_⟩
 ·exact .inl rfl
 ·right;intro hq;rcases h'.2 with⟨rfl,_⟩|⟨g',cap',cur',rfl,_,hg',_⟩
  ·cases hq
  ·obtain rfl:g=g':=Option.some.inj hq;rw[hg] at hg';injection hg' with hg';injection hg' with _ h2;exact he h2
theorem OwnN.nil(W:World)(base:Nat)(e:TypeId)(m:Nat):OwnN W base e m (.slice none 0 0) [] []:=
 ⟨rfl,fun l h=>(by cases h),⟨by simp[cellsN],.inl ⟨rfl,rfl⟩⟩,fun i u l h=>(by simp at h),fun i j u u' b h=>(by simp at h)⟩
theorem OwnN.push{W W':World}{base:Nat}{e:TypeId}{m:Nat}{v v':Value}{L:List NE}{vs:List Value}(h:OwnN W base e m v L vs)(he:e≠5)(l:NE)(u:Value)(hl:l.1.length=m)(hu:W.ownsRow base 5 1 u l.2.length (l.2.map (Value.int .u8)))
 (hnew:∀(i:Nat) (u':Value) (b:Nat),vs[i]?=some u'→u'.ownBlock=some b→u.ownBlock≠some b)
 (ho:W'.ownsRow base e (m+1) v' (L.length+1) (cellsN vs L++(l.1++[u]))) (hg:W.grownBy W' v.ownBlock):OwnN W' base e m v' (L++[l]) (vs++[u]):=by
 have kept:∀(x:Value) (n:Nat) (xs:List Value),W.ownsRow base 5 1 x n xs→W'.ownsRow base 5 1 x n xs:=fun x n xs hx=>hx.kept hg (own_apart hx h.row (Ne.symm he));refine⟨by simp[h.len],fun x hx=>?_,?_,fun i x y hx hy=>?_,fun i j x x' b hx hx' hb hb'=>?_⟩
 ·rw[List.mem_append,List.mem_singleton] at hx;rcases hx with hx|rfl
  ·exact h.pre x hx
  ·exact hl
 ·rw[cellsN_append vs L [u] [l] h.len];simpa [cellsN] using ho
 ·by_cases hi:i<L.length
  ·rw[List.getElem?_append_left (by rw[h.len];exact hi)] at hx;rw[List.getElem?_append_left hi] at hy;exact kept _ _ _ (h.dat i x y hx hy)
  ·have hi2:i=L.length:=by
    have:=(List.getElem?_eq_some_iff.1 hy).1;simp at this;omega
   subst hi2;rw[List.getElem?_append_right (Nat.le_refl _),Nat.sub_self] at hy;rw[←h.len,List.getElem?_append_right (Nat.le_refl _),Nat.sub_self] at hx;simp at hx hy;subst hx;subst hy;exact kept _ _ _ hu
 ·have hcase:∀(k:Nat) (y:Value),(vs++[u])[k]?=some y→(k<vs.length∧vs[k]?=some y)∨(k=vs.length∧y=u):=fun k y hk=>by
   by_cases hk2:k<vs.length
   ·rw[List.getElem?_append_left hk2] at hk;exact .inl ⟨hk2,hk⟩
   ·have hk3:k=vs.length:=by
     have:=(List.getElem?_eq_some_iff.1 hk).1;simp at this;omega
    subst hk3;rw[List.getElem?_append_right (Nat.le_refl _),Nat.sub_self] at hk;simp at hk;exact .inr ⟨rfl,hk.symm⟩
  rcases hcase i x hx with⟨hi,hy⟩|⟨hi,hy⟩
  ·rcases hcase j x' hx' with⟨hj,hy'⟩|⟨hj,hy'⟩
   ·exact h.one i j x x' b hy hy' hb hb'
   ·rw[hy'] at hb';exact absurd hb' (hnew i x b hy hb)
  ·rcases hcase j x' hx' with⟨hj,hy'⟩|⟨hj,hy'⟩
   ·rw[hy] at hb;exact absurd hb (hnew j x' b hy' hb')
   ·omega
theorem OwnN.data{W W':World}{base:Nat}{e:TypeId}{m:Nat}{v:Value}{L:List NE}{vs:List Value}(h:OwnN W base e m v L vs)(he:e≠5)(i:Nat)(u:Value)(l:NE)(zs:List Int)(hu:vs[i]?=some u)(hl:L[i]?=some l)
 (ho:W'.ownsRow base 5 1 u zs.length (zs.map (Value.int .u8))) (hg:W.grownBy W' u.ownBlock):OwnN W' base e m v (L.set i (l.1,zs)) vs:=by
 have hdi:=h.dat i u l hu hl;refine⟨by simp[h.len],fun x hx=>?_,?_,fun j x y hx hy=>?_,h.one⟩
 ·rcases List.mem_or_eq_of_mem_set hx with hx|rfl
  ·exact h.pre x hx
  ·exact h.pre l (List.mem_of_getElem? hl)
 ·rw[List.length_set,cellsN_data vs L i l zs hl];exact h.row.kept hg (own_apart h.row hdi he)
 ·by_cases hij:i=j
  ·subst hij;rw[hu] at hx;cases hx
   rw[List.getElem?_set_self (List.getElem?_eq_some_iff.1 hl).1] at hy;cases hy
   exact ho
  ·rw[List.getElem?_set_ne hij] at hy;refine(h.dat j x y hx hy).kept hg ?_;cases hb:x.ownBlock with
   |none=>exact .inl rfl
   |some b=>exact .inr (fun e=>hij (h.one i j u x b hu hx e.symm hb))
theorem OwnN.field{W:World}{base g:Nat}{e:TypeId}{m:Nat}{v:Value}{L:List NE}{vs:List Value}(h:OwnN W base e m v L vs)(he:e≠5)(i j:Nat)(l:NE)(x:Value)(hl:L[i]?=some l)(hj:j<m)(hv:v.ownBlock=some g):OwnN (W.setCell ⟨g,i*(m+1)+j,none⟩ x) base e m v (L.set i (l.1.set j x,l.2)) vs:=by
 have hg:W.grownBy (W.setCell ⟨g,i*(m+1)+j,none⟩ x) v.ownBlock:=by
  rw[hv];exact⟨rfl,rfl,rfl,by simp[World.setCell],fun k hk hne=>Below.heap_setCell W ⟨g,i*(m+1)+j,none⟩ x k (fun e=>hne (by rw[e]))⟩
 refine⟨by simp[h.len],fun y hy=>?_,?_,fun k y z hy hz=>?_,h.one⟩
 ·rcases List.mem_or_eq_of_mem_set hy with hy|rfl
  ·exact h.pre y hy
  ·simpa using h.pre l (List.mem_of_getElem? hl)
 ·rw[List.length_set, ←cellsN_pre m vs L h.len h.pre i j l x hl hj];rcases h.row.2 with⟨rfl,_⟩|⟨g',cap,cur,rfl,hb,hc,hn,hm,hs,ht⟩
  ·cases hv
  ·obtain rfl:g'=g:=(by simpa [Value.ownBlock] using hv);refine⟨by rw[List.length_set];exact h.row.1,.inr ⟨g',cap,cur.setIfInBounds (i*(m+1)+j) x,rfl,hb,heap_setCell_same W g' _ cur e _ hc,hn,hm,by simpa using hs,?_⟩⟩;rw[Array.toList_setIfInBounds,List.take_set,ht]
 ·have hd:∃z',L[k]?=some z'∧z'.2=z.2:=by
   by_cases hik:i=k
   ·subst hik;rw[List.getElem?_set_self (List.getElem?_eq_some_iff.1 hl).1] at hz;cases hz
    exact⟨l,hl,rfl⟩
   ·rw[List.getElem?_set_ne hik] at hz;exact⟨z,hz,rfl⟩
  obtain⟨z',h1,h2⟩:=hd;have:=h.dat k y z' hy h1;rw[h2] at this;exact this.kept hg (own_apart this h.row (Ne.symm he))
theorem OwnN.last{W:World}{base g:Nat}{e:TypeId}{m:Nat}{v:Value}{L:List NE}{vs:List Value}(h:OwnN W base e m v L vs)(he:e≠5)(i:Nat)(l:NE)(u:Value)(zs:List Int)(hl:L[i]?=some l)(hv:v.ownBlock=some g)(hu:W.ownsRow base 5 1 u zs.length (zs.map (Value.int .u8)))
 (hnew:∀(j:Nat) (u':Value) (b:Nat),vs[j]?=some u'→u'.ownBlock=some b→u.ownBlock≠some b):OwnN (W.setCell ⟨g,i*(m+1)+m,none⟩ u) base e m v (L.set i (l.1,zs)) (vs.set i u):=by
 have hg:W.grownBy (W.setCell ⟨g,i*(m+1)+m,none⟩ u) v.ownBlock:=by
  rw[hv];exact⟨rfl,rfl,rfl,by simp[World.setCell],fun k hk hne=>Below.heap_setCell W ⟨g,i*(m+1)+m,none⟩ u k (fun e=>hne (by rw[e]))⟩
 have hi:i<L.length:=(List.getElem?_eq_some_iff.1 hl).1;have kept:∀(x:Value) (n:Nat) (xs:List Value),W.ownsRow base 5 1 x n xs→(W.setCell ⟨g,i*(m+1)+m,none⟩ u).ownsRow base 5 1 x n xs:=fun x n xs hx=>hx.kept hg (own_apart hx h.row (Ne.symm he));have hvs:∀(k:Nat) (x:Value),(vs.set i u)[k]?=some x→(k=i∧x=u)∨(k≠i∧vs[k]?=some x):=fun k x hx=>by
  by_cases hk:i=k
  ·subst hk;rw[List.getElem?_set_self (by rw[h.len];exact hi)] at hx;cases hx
   exact .inl ⟨rfl,rfl⟩
  ·rw[List.getElem?_set_ne hk] at hx;exact .inr ⟨fun e=>hk e.symm,hx⟩
 refine⟨by simp[h.len],fun y hy=>?_,?_,fun k y z hy hz=>?_,fun k j x x' b hx hx' hb hb'=>?_⟩
 ·rcases List.mem_or_eq_of_mem_set hy with hy|rfl
  ·exact h.pre y hy
  ·exact h.pre l (List.mem_of_getElem? hl)
 ·rw[List.length_set,cellsN_data _ L i l zs hl, ←cellsN_last m vs L h.len h.pre i u hi];rcases h.row.2 with⟨rfl,_⟩|⟨g',cap,cur,rfl,hb,hc,hn,hm,hs,ht⟩
  ·cases hv
  ·obtain rfl:g'=g:=(by simpa [Value.ownBlock] using hv);refine⟨by rw[List.length_set];exact h.row.1,.inr ⟨g',cap,cur.setIfInBounds (i*(m+1)+m) u,rfl,hb,heap_setCell_same W g' _ cur e _ hc,hn,hm,by simpa using hs,?_⟩⟩;rw[Array.toList_setIfInBounds,List.take_set,ht]
 ·rcases hvs k y hy with⟨rfl,rfl⟩|⟨hk,hy⟩
  ·rw[List.getElem?_set_self hi] at hz;cases hz
   exact kept _ _ _ hu
  ·rw[List.getElem?_set_ne (Ne.symm hk)] at hz;exact kept _ _ _ (h.dat k y z hy hz)
 ·rcases hvs k x hx with⟨h1,h2⟩|⟨h1,h2⟩
  ·rcases hvs j x' hx' with⟨h3,h4⟩|⟨h3,h4⟩
   ·omega
   ·rw[h2] at hb;exact absurd hb (hnew j x' b h4 hb')
  ·rcases hvs j x' hx' with⟨h3,h4⟩|⟨h3,h4⟩
   ·rw[h4] at hb';exact absurd hb' (hnew k x b h2 hb)
   ·exact h.one k j x x' b h2 h4 hb hb'
theorem own_shape{w:World}{base:Nat}{e:TypeId}{sz:Nat}{v:Value}{n:Nat}{xs:List Value}(h:w.ownsRow base e sz v n xs):∃a cap,v=.slice a n cap:=by
 rcases h.2 with⟨rfl,rfl⟩|⟨g,cap,_,rfl,_⟩
 ·exact⟨_,_,rfl⟩
 ·exact⟨_,_,rfl⟩
theorem rd_shape{k:IntKind}{w:World}{v:Value}{zs:List Int}(h:Rd k w v zs):∃a cap,v=.slice a zs.length cap:=by
 obtain⟨a,cap,e,_⟩:=h;exact⟨a,cap,e⟩
theorem RdN.at{W:World}{m:Nat}{a:Option Addr}{cap:Nat}{L:List NE}{vs:List Value}(h:RdN W m (.slice a L.length cap) L vs){i:Nat}{l:NE}(hl:L[i]?=some l):∃b off u,a=some ⟨b,off,none⟩∧b<W.heap.size∧vs[i]?=some u∧Rd .u8 W u l.2∧W.rangeAt b (off+i*(m+1)) (l.1++[u]):=by
 have hi:i<L.length:=(List.getElem?_eq_some_iff.1 hl).1;obtain⟨a',cap',e,hc,_⟩:=h.row;injection e with e1 e2 e3;subst e1;obtain⟨b,off,rfl,hb,hcell⟩:=hc (by omega);obtain⟨w0,hu⟩:∃x,vs[i]?=some x:=⟨_,List.getElem?_eq_getElem (by rw[h.len];exact hi)⟩;refine⟨b,off,w0,rfl,hb,hu,h.dat i _ l hu hl,fun j u hj=>?_⟩;have hjl:j<m+1:=by
  have:=(List.getElem?_eq_some_iff.1 hj).1;simp[h.pre l (List.mem_of_getElem? hl)] at this;omega
 have:=hcell (i*(m+1)+j) u ((cellsN_get m vs L h.len h.pre i j _ l hu hl hjl).trans hj);rw[←Nat.add_assoc] at this;exact this
theorem own_emptyN(w:World)(e:TypeId)(sz:Nat):(w.alloc (.cells #[] e)).ownsRow w.heap.size e sz (.slice (some ⟨w.heap.size,0,none⟩) 0 0) 0 []:=
 ⟨by simp,.inr ⟨w.heap.size,0,#[],rfl,Nat.le_refl _,heap_alloc_new w _,Nat.le_refl _,by unfold maxLen;omega,by simp,by simp⟩⟩
theorem run_append_emptyN{P:Program}{w:World}(base:Nat)(t ty e:TypeId)(i:TypeInfo)(size:Nat)(ht:P.underlying t=some (.slice e))(hi:P.info? e=some i)
 (v:Value) (n:Nat) (xs:List Value) (hown:w.ownsRow base e size v n xs) (a:Option Addr) (c:Nat):
 (Builtin.append_ #[t,t] ty #[v,.slice a 0 c]).run P w=.ok v w:=by
 rcases hown.2 with⟨rfl,rfl⟩|⟨g,cap,cur,rfl,_,_,hnc,_⟩
 ·cases a<;>simp[Builtin.append_,run_underlying ht,sizeOf,typeInfo,hi,Builtin.lenOf,Builtin.firstCells,loadCells,loadCellsFrom]
 ·cases a<;>simp[Builtin.append_,run_underlying ht,sizeOf,typeInfo,hi,Builtin.lenOf,Builtin.firstCells,hnc,storeCells,loadCells,loadCellsFrom]
theorem wp_append_emptyN{P:Program}{w:World}{o:Oper}{a:Act}{K:Act→World→Prop}{Q:Exit→Act→World→Prop}(s x:Operand)(t:TypeId)
 (ho:o.op=.call {callee:=.builtin .append,args:=#[s,x],argTypes:=#[t,t]})
 (base:Nat) (e:TypeId) (i:TypeInfo) (size:Nat) (ht:P.underlying t=some (.slice e)) (hi:P.info? e=some i)
 (v:Value) (n:Nat) (xs:List Value) (hs:a.eval s=v) (hown:w.ownsRow base e size v n xs) (ad:Option Addr) (c:Nat) (hx:a.eval x=.slice ad 0 c)
 (h:K (a.put o.dst v) w):o.wp P a w K Q:=by
 have hrun:=run_append_emptyN (P:=P) (w:=w) base t o.type e i size ht hi v n xs hown ad c;unfold Oper.wp;simp[execOp,ho,resolve,invoke,builtin,hs,hx,hrun,Result.andThen];exact h
theorem wp_append_copyN{P:Program}(w:World){o:Oper}{a:Act}{K:Act→World→Prop}{Q:Exit→Act→World→Prop}
 (s x:Operand) (t:TypeId) (hop:o.op=Op.call {callee:=Callee.builtin Builtin.append,args:=#[s,x],argTypes:=#[t,t]})
 (e:TypeId) (i:TypeInfo) (z:Value) (size bytes:Nat) (h1:P.underlying t=some (.slice e)) (h2:P.info? e=some i) (h3:i.zero=some z) (h4:i.size=size) (h5:i.bytes=bytes) (h6:z.cells.size=size) (h7:0<size)
 (base g:Nat) (hO:w.ownsRow base e size (.slice (some ⟨g,0,none⟩) 0 0) 0 []) (hbase:base≤w.heap.size)
 (hs:a.eval s=.slice (some ⟨g,0,none⟩) 0 0) (ad:Option Addr) (m c:Nat) (xs:List Value) (hx:a.eval x=.slice ad m c) (hl:xs.length=m*size)
 (hr:0<m→∃bd off,ad=some ⟨bd,off,none⟩∧bd<w.heap.size∧∀(j:Nat) (u:Value),xs[j]?=some u→w.cell? ⟨bd,off+j,none⟩=some u) (hone:∀u∈xs,u.oneCell'=true) (hm:m≤maxLen) (hb:m*bytes≤140737488355328)
 (hK:∀v' w',w'.ownsRow base e size v' m xs→w.grownBy w' (some g)→K (a.put o.dst v') w'):o.wp P a w K Q:=by
 by_cases hp:0<m
 ·obtain⟨bd,off,rfl,hbd,hc⟩:=hr hp;refine wp_append_own w s x t hop base e i z size bytes h1 h2 h3 h4 h5 h6 h7 _ 0 [] hs hO ⟨bd,off,none⟩ m c xs hx hl (fun j u hj=>?_) hone (by omega) (by rw[Nat.zero_add];exact hb) hbase ?_
  ·rw[Addr.add_mid];exact hc j u hj
  ·intro v' w' r1 r2 _;rw[Nat.zero_add,List.nil_append] at r1;exact hK v' w' r1 r2
 ·obtain rfl:m=0:=by omega
  have hx0:xs=[]:=List.eq_nil_of_length_eq_zero (by omega);subst hx0;refine wp_append_emptyN s x t hop base e i size h1 h2 _ 0 [] hs hO ad c hx ?_;exact hK _ _ hO (World.grownBy.refl _ _)
theorem Rd.srcN{w:World}{a:Option Addr}{cap:Nat}{zs:List Int}(h:Rd .u8 w (.slice a zs.length cap) zs):0<zs.length→∃bd off,a=some ⟨bd,off,none⟩∧bd<w.heap.size∧∀(j:Nat) (u:Value),(zs.map (Value.int .u8))[j]?=some u→w.cell? ⟨bd,off+j,none⟩=some u:=by
 intro hn;obtain⟨bd,off,cp,e,hbw,_,_,hcell⟩:=h.partsC hn;injection e with e1 e2 e3;refine⟨bd,off,e1,hbw,fun j u hu=>?_⟩;rw[List.getElem?_map] at hu;have hj:j<zs.length:=by
  rcases Nat.lt_or_ge j zs.length with h|h
  ·exact h
  ·rw[List.getElem?_eq_none h] at hu;cases hu
 rw[hcell j hj];rw[List.getElem?_eq_getElem hj] at hu;simp at hu;rw[←hu];simp[List.getD,hj]
theorem run_eql_nilN{P:Program}(w:World)(t e:TypeId)(a:Option Addr)(l c:Nat)(h:P.underlying t=some (.slice e)):(binOp .eql t (.slice a l c) (.slice none 0 0)).run P w=.ok (.bool a.isNone) w:=by
 simp[binOp,run_equal_slice_nil w t e a l c h]
theorem clone_any(v:Value)(zs:List Int)(w:World)(h:Rd .u8 w v zs)(hn:zs.length≤1048576):
 Calls Tryz.prog 90 #[v] w fun e w'=>∃v',e=.returned v'∧w'.ownsRow w.heap.size 5 1 v' zs.length (zs.map (Value.int .u8))∧Below w.heap.size w w':=by
 obtain⟨i0,hi,hz0,hz1,hz2⟩:=info_parts infoU8;obtain⟨a,cap,rfl⟩:=rd_shape h;have HR:=hide h.srcN;clear h;cases a with
 |none=>
  have hz:zs=[]:=by
   rcases Nat.eq_zero_or_pos zs.length with h0|h0
   ·exact List.eq_nil_of_length_eq_zero h0
   ·obtain⟨_,_,e,_⟩:=HR.out h0;cases e
  subst hz;go_enter Tryz.func90,Tryz.ntmps90;have hq:=fun w=>run_eql_nilN (P:=Tryz.prog) w 22 5 none 0 cap Tryz.underlying22;go_wp2;go_ret;exact⟨_,rfl,⟨rfl,.inl ⟨rfl,rfl⟩⟩,Below.refl _ _⟩
 |some ad=>
  have HB:=hide (show Below w.heap.size w (w.alloc (.cells #[] 5)) from(Below.refl _ _).alloc (Nat.le_refl _) _);have HO:=hide (own_emptyN w 5 1);have hq:=fun w=>run_eql_nilN (P:=Tryz.prog) w 22 5 (some ad) zs.length cap Tryz.underlying22;go_enter Tryz.func90,Tryz.ntmps90;go_wp2_with (first|(at_builtin;refine wpList_plain rfl fun K hK=>?_;refine wp_append_copyN (w.alloc (.cells #[] 5)) (.tmp 5) (.tmp 6) 22 rfl 5 i0 (.int .u8 0) 1 1 Tryz.underlying22 hi hz0 hz1 hz2 rfl (by decide) w.heap.size w.heap.size HO.out HB.out.size rfl (some ad) zs.length cap (zs.map (Value.int .u8)) rfl (by simp) (fun hp=>by obtain⟨bd,off,e,hlt,hc⟩:=HR.out hp;exact⟨bd,off,e,Nat.lt_of_lt_of_le hlt HB.out.size,fun j u hu=>(HB.out.cell (p:=⟨bd,off+j,none⟩) hlt).trans (hc j u hu)⟩) (ints_oneCell _ _) (by unfold maxLen;omega) (by omega) ?_;intro v1 w1 o1 g1;refine hK _ _ ?_;have O1:=hide o1;have B1:=hide (HB.out.grown g1 HB.out.size (fun k e=>by cases e;exact Nat.le_refl _));clear o1 g1)|fail);go_ret;exact⟨_,rfl,O1.out,B1.out⟩
end
section
open Go.RowKit
def KpY(T:TypeId→Prop)(W W':World):Prop:=∀b,b<W.heap.size→(∀c t s,W.heap[b]?=some (.cells c t s)→¬T t)→W'.heap[b]?=W.heap[b]?
section
variable {T:TypeId→Prop} {W W' W2:World} {base d:Nat}
theorem KpY.refl(T:TypeId→Prop)(W:World):KpY T W W:=fun _ _ _=>rfl
theorem KpY.trans(h:KpY T W W')(k:KpY T W' W2):KpY T W W2:=fun b hb hT=>by
 have e:=h b hb hT;have hb2:b<W'.heap.size:=by
  have h1:W.heap[b]?=some (W.heap[b]):=Array.getElem?_eq_getElem hb;rw[←e] at h1;exact(Array.getElem?_eq_some_iff.1 h1).1
 exact(k b hb2 (fun c t s hc=>hT c t s (by rw[←e];exact hc))).trans e
theorem KpY.below(h:KpY T W W')(hb:Below W'.heap.size W' W2):KpY T W W2:=h.trans (fun b hb' _=>hb.block b hb')
theorem KpY.alloc(h:KpY T W W')(o:Obj):KpY T W (W'.alloc o):=h.below ((Below.refl _ _).alloc (Nat.le_refl _) _)
theorem KpY.ownrow{e:TypeId}{sz n:Nat}{v:Value}{xs:List Value}(h:KpY T W W')(ho:W'.ownsRow base e sz v n xs)(hT:T e)(hg:W'.grownBy W2 v.ownBlock):KpY T W W2:=by
 refine h.trans (fun b hb hT2=>hg.block b hb (fun e'=>?_));rcases ho.2 with⟨rfl,_⟩|⟨g,cap,cur,rfl,_,hgg,_⟩
 ·cases e'
 ·have:b=g:=Option.some.inj e';subst this;exact hT2 _ _ _ hgg hT
theorem KpY.setCell{C:Array Value}{t:TypeId}{j:Nat}{u:Value}(h:KpY T W W')(hB:Blk W' d C t)(hT:T t):KpY T W (W'.setCell ⟨d,j,none⟩ u):=
 h.trans (fun b hb hT2=>Below.heap_setCell _ _ _ _ (fun e=>by
  have h1:W'.heap[d]?=some (.cells C t (0,0)):=hB;simp only at e;subst e;exact hT2 _ _ _ h1 hT))
theorem KpY.own{e:TypeId}{sz n:Nat}{v:Value}{xs:List Value}(h:KpY T W W')(ho:W.ownsRow base e sz v n xs)(hT:¬T e):W'.ownsRow base e sz v n xs:=by
 refine⟨ho.1,?_⟩;rcases ho.2 with hn|⟨g,cap,cur,rfl,hb,hgg,rest⟩
 ·exact .inl hn
 ·refine .inr ⟨g,cap,cur,rfl,hb,?_,rest⟩;rw[h g (Array.getElem?_eq_some_iff.1 hgg).1 (fun c t s hc=>by rw[hgg] at hc;injection hc with hc;injection hc with _ hc _;rw[←hc];exact hT)];exact hgg
theorem KpY.blk{C:Array Value}{t:TypeId}(h:KpY T W W')(hB:Blk W d C t)(hT:¬T t):Blk W' d C t:=by
 have h1:W.heap[d]?=some (.cells C t (0,0)):=hB;show W'.heap[d]?=_;rw[h d (Array.getElem?_eq_some_iff.1 h1).1 (fun c t' s hc=>by rw[h1] at hc;injection hc with hc;injection hc with _ hc _;rw[←hc];exact hT)];exact h1
theorem KpY.ownN{e:TypeId}{m:Nat}{v:Value}{L:List NE}{vs:List Value}(h:KpY T W W')(ho:OwnN W base e m v L vs)(hT:¬T e)(hT2:¬T 5):OwnN W' base e m v L vs:=
 ⟨ho.len,ho.pre,h.own ho.row hT,fun i u l hu hl=>h.own (ho.dat i u l hu hl) hT2,ho.one⟩
end
end
end Go.Proofs.YtbhpealglhkodaaGreatDoor
