/- Slices of structs whose last field is a slice of bytes: what they read as, and what owns t -/
import Derived.Test.YtpplnhkpcpieoaaGreatDoorZx14
namespace Go.Proofs.YtpplnhkpcpieoaaGreatDoor
open Go.Proofs.Tryz
open _root_.List (cons_append append_assoc mem_of_getElem? length_set getElem?_set_self getElem?_set_ne replicate)
open _root_.Nat (zero_mul zero_add add_mul sub_self)
set_option linter.all false
set_option maxRecDepth 100000
set_option maxHeartbeats 16000000
section
open Go.RowKit
abbrev NE:=List Value×List Int
def cY:List Value→List NE→List Value
 |v::vs,l::L=>l.1++([v]++cY vs L)
 |_,_=>[]
theorem rC:∀(vs:List Value) (L:List NE) (us:List Value) (M:List NE),vs.length=L.length→cY (vs++us) (L++M)=cY vs L++cY us M
 |[],[],us,M,_=>by simp[cY]
 |[],_::_,_,_,h=>by simp at h
 |_::_,[],_,_,h=>by simp at h
 |v::vs,l::L,us,M,h=>by
  rw[cons_append,cons_append,cY,cY,rC vs L us M (by simpa using h)];simp[append_assoc]
theorem rD(m:Nat):∀(vs:List Value) (L:List NE),vs.length=L.length→(∀l∈L,l.1.length=m)→∀i j v l,vs[i]?=some v→L[i]?=some l→j<m+1→(cY vs L)[i*(m+1)+j]?=(l.1++[v])[j]?
 |[],[],_,_,i,j,v,l,h,_,_=>by simp at h
 |[],_::_,h,_,_,_,_,_,_,_,_=>by simp at h
 |_::_,[],h,_,_,_,_,_,_,_,_=>by simp at h
 |v0::vs,l0::L,h,hp,i,j,v,l,hv,hl,hj=>by
  have h1:=hp l0 (by simp);rw[cY, ←append_assoc];cases i with
  |zero=>
   simp at hv hl;subst hv;subst hl;rw[zero_mul,zero_add,List.getElem?_append_left (by simp[h1];omega)]
  |succ i=>
   have h2:=rD m vs L (by simpa using h) (fun x hx=>hp x (by simp[hx])) i j v l (by simpa using hv) (by simpa using hl) hj;have e:(i+1)*(m+1)+j=(m+1)+(i*(m+1)+j):=(by rw[add_mul];omega);rw[e,List.getElem?_append_right (by simp[h1]),show(l0.1++[v0]).length=m+1 by simp[h1],Nat.add_sub_cancel_left];exact h2
theorem uB:∀(vs:List Value) (L:List NE) (i:Nat) (l:NE) (zs:List Int),L[i]?=some l→cY vs (L.set i (l.1,zs))=cY vs L
 |[],L,i,l,zs,h=>by cases hL:L.set i (l.1,zs)<;>simp[cY]
 |v::vs,[],i,l,zs,h=>by simp at h
 |v::vs,l0::L,0,l,zs,h=>by
  simp at h;subst h;simp[cY]
 |v::vs,l0::L,i+1,l,zs,h=>by
  simp only[List.set_cons_succ,cY];rw[uB vs L i l zs (by simpa using h)]
theorem zb(m:Nat):∀(vs:List Value) (L:List NE),vs.length=L.length→(∀l∈L,l.1.length=m)→∀i j l u,L[i]?=some l→j<m→(cY vs L).set (i*(m+1)+j) u=cY vs (L.set i (l.1.set j u,l.2))
 |[],[],_,_,i,j,l,u,h,_=>by simp at h
 |[],_::_,h,_,_,_,_,_,_,_=>by simp at h
 |_::_,[],h,_,_,_,_,_,_,_=>by simp at h
 |v0::vs,l0::L,h,hp,i,j,l,u,hl,hj=>by
  have h1:=hp l0 (by simp);cases i with
  |zero=>
   simp at hl;subst hl;simp only[List.set_cons_zero,cY,zero_mul,zero_add];rw[List.set_append_left _ _ (by omega)]
  |succ i=>
   have h2:=zb m vs L (by simpa using h) (fun x hx=>hp x (by simp[hx])) i j l u (by simpa using hl) hj;have e:(i+1)*(m+1)+j=(m+1)+(i*(m+1)+j):=(by rw[add_mul];omega);simp only[List.set_cons_succ,cY];rw[←append_assoc, ←append_assoc,e,List.set_append_right _ _ (by simp[h1]),show(l0.1++[v0]).length=m+1 by simp[h1],Nat.add_sub_cancel_left,h2]
theorem zc(m:Nat):∀(vs:List Value) (L:List NE),vs.length=L.length→(∀l∈L,l.1.length=m)→∀i v,i<L.length→(cY vs L).set (i*(m+1)+m) v=cY (vs.set i v) L
 |[],[],_,_,i,v,h=>by simp at h
 |[],_::_,h,_,_,_,_=>by simp at h
 |_::_,[],h,_,_,_,_=>by simp at h
 |v0::vs,l0::L,h,hp,i,v,hi=>by
  have h1:=hp l0 (by simp);cases i with
  |zero=>
   simp only[List.set_cons_zero,cY,zero_mul,zero_add];rw[List.set_append_right _ _ (by omega),h1,sub_self];rfl
  |succ i=>
   have h2:=zc m vs L (by simpa using h) (fun x hx=>hp x (by simp[hx])) i v (by simpa using hi);have e:(i+1)*(m+1)+m=(m+1)+(i*(m+1)+m):=(by rw[add_mul];omega);simp only[List.set_cons_succ,cY];rw[←append_assoc, ←append_assoc,e,List.set_append_right _ _ (by simp[h1]),show(l0.1++[v0]).length=m+1 by simp[h1],Nat.add_sub_cancel_left,h2]
structure j6(W:World)(m:Nat)(v:Value)(L:List NE)(vs:List Value):Prop where
 len:vs.length=L.length
 pre:∀l∈L,l.1.length=m
 row:∃a cap,v=.slice a L.length cap∧(0<L.length→∃b off,a=some ⟨b,off,none⟩∧b<W.heap.size∧∀(j:Nat) (u:Value),(cY vs L)[j]?=some u→W.cell? ⟨b,off+j,none⟩=some u)∧L.length≤cap∧cap≤maxLen
 dat:∀(i:Nat) (u:Value) (l:NE),vs[i]?=some u→L[i]?=some l→Rd .u8 W u l.2
theorem j6.below{W W':World}{m:Nat}{v:Value}{L:List NE}{vs:List Value}(h:j6 W m v L vs)(hb:Below W.heap.size W W'):j6 W' m v L vs:=by
 obtain⟨a,cap,e,hc,h1,h2⟩:=h.row;refine⟨h.len,h.pre,⟨a,cap,e,fun hn=>?_,h1,h2⟩,fun i u l hu hl=>(h.dat i u l hu hl).below hb⟩;obtain⟨b,off,rfl,hlt,hcell⟩:=hc hn;exact⟨b,off,rfl,Nat.lt_of_lt_of_le hlt hb.size,fun j u hu=>(hb.cell (p:=⟨b,off+j,none⟩) hlt).trans (hcell j u hu)⟩
structure aZ(W:World)(base:Nat)(e:TypeId)(m:Nat)(v:Value)(L:List NE)(vs:List Value):Prop where
 len:vs.length=L.length
 pre:∀l∈L,l.1.length=m
 row:W.ownsRow base e (m+1) v L.length (cY vs L)
 dat:∀(i:Nat) (u:Value) (l:NE),vs[i]?=some u→L[i]?=some l→W.ownsRow base 5 1 u l.2.length (l.2.map (Value.int .u8))
 one:∀(i j:Nat) (u u':Value) (b:Nat),vs[i]?=some u→vs[j]?=some u'→u.ownBlock=some b→u'.ownBlock=some b→i=j
theorem aZ.below{W W':World}{base:Nat}{e:TypeId}{m:Nat}{v:Value}{L:List NE}{vs:List Value}(h:aZ W base e m v L vs)(hb:Below W.heap.size W W'):aZ W' base e m v L vs:=
 ⟨h.len,h.pre,cC h.row hb,fun i u l hu hl=>cC (h.dat i u l hu hl) hb,h.one⟩
theorem aZ.mono{W:World}{base base':Nat}{e:TypeId}{m:Nat}{v:Value}{L:List NE}{vs:List Value}(h:aZ W base e m v L vs)(hb:base'≤base):aZ W base' e m v L vs:=
 ⟨h.len,h.pre,cH h.row hb,fun i u l hu hl=>cH (h.dat i u l hu hl) hb,h.one⟩
theorem aZ.rd{W:World}{base:Nat}{e:TypeId}{m:Nat}{v:Value}{L:List NE}{vs:List Value}(h:aZ W base e m v L vs):j6 W m v L vs:=by
 refine⟨h.len,h.pre,?_,fun i u l hu hl=>Rd.own (h.dat i u l hu hl)⟩;have hrow:=h.row;rcases h.row.2 with⟨rfl,h0⟩|⟨g,cap,cur,rfl,hb,hg,h1,h2,h3,h4⟩
 ·exact⟨none,0,by rw[h0],fun hn=>by omega,by omega,by unfold maxLen;omega⟩
 ·refine⟨some ⟨g,0,none⟩,cap,rfl,fun _=>⟨g,0,rfl,(hrow.lt g rfl).2,fun j u hu=>?_⟩,h1,h2⟩;have:=hrow.cells (g:=g) rfl j u hu;rw[Addr.add_mid] at this;exact this
theorem ng{W:World}{base base':Nat}{e e':TypeId}{size size':Nat}{v v':Value}{n n':Nat}{xs xs':List Value}(h:W.ownsRow base e size v n xs)(h':W.ownsRow base' e' size' v' n' xs')(he:e≠e'):v.ownBlock=none∨v.ownBlock≠v'.ownBlock:=by
 rcases h.2 with⟨rfl,_⟩|⟨g,cap,cur,rfl,_,hg,_⟩
 ·exact .inl rfl
 ·right;intro hq;rcases h'.2 with⟨rfl,_⟩|⟨g',cap',cur',rfl,_,hg',_⟩
  ·cases hq
  ·obtain rfl:g=g':=Option.some.inj hq;rw[hg] at hg';injection hg' with hg';injection hg' with _ h2;exact he h2
theorem aZ.nil(W:World)(base:Nat)(e:TypeId)(m:Nat):aZ W base e m (.slice none 0 0) [] []:=
 ⟨rfl,fun l h=>(by cases h),⟨by simp[cY],.inl ⟨rfl,rfl⟩⟩,fun i u l h=>(by simp at h),fun i j u u' b h=>(by simp at h)⟩
theorem aZ.push{W W':World}{base:Nat}{e:TypeId}{m:Nat}{v v':Value}{L:List NE}{vs:List Value}(h:aZ W base e m v L vs)(he:e≠5)(l:NE)(u:Value)(hl:l.1.length=m)(hu:W.ownsRow base 5 1 u l.2.length (l.2.map (Value.int .u8)))
 (hnew:∀(i:Nat) (u':Value) (b:Nat),vs[i]?=some u'→u'.ownBlock=some b→u.ownBlock≠some b)
 (ho:W'.ownsRow base e (m+1) v' (L.length+1) (cY vs L++(l.1++[u]))) (hg:W.grownBy W' v.ownBlock):aZ W' base e m v' (L++[l]) (vs++[u]):=by
 have kept:∀(x:Value) (n:Nat) (xs:List Value),W.ownsRow base 5 1 x n xs→W'.ownsRow base 5 1 x n xs:=fun x n xs hx=>hx.kept hg (ng hx h.row (Ne.symm he));refine⟨by simp[h.len],fun x hx=>?_,?_,fun i x y hx hy=>?_,fun i j x x' b hx hx' hb hb'=>?_⟩
 ·rw[List.mem_append,List.mem_singleton] at hx;rcases hx with hx|rfl
  ·exact h.pre x hx
  ·exact hl
 ·rw[rC vs L [u] [l] h.len];simpa [cY] using ho
 ·by_cases hi:i<L.length
  ·rw[List.getElem?_append_left (by rw[h.len];exact hi)] at hx;rw[List.getElem?_append_left hi] at hy;exact kept _ _ _ (h.dat i x y hx hy)
  ·have hi2:i=L.length:=by
    have:=(List.getElem?_eq_some_iff.1 hy).1;simp at this;omega
   subst hi2;rw[List.getElem?_append_right aj,sub_self] at hy;rw[←h.len,List.getElem?_append_right aj,sub_self] at hx;simp at hx hy;subst hx;subst hy;exact kept _ _ _ hu
 ·have hcase:∀(k:Nat) (y:Value),(vs++[u])[k]?=some y→(k<vs.length∧vs[k]?=some y)∨(k=vs.length∧y=u):=fun k y hk=>by
   by_cases hk2:k<vs.length
   ·rw[List.getElem?_append_left hk2] at hk;exact .inl ⟨hk2,hk⟩
   ·have hk3:k=vs.length:=by
     have:=(List.getElem?_eq_some_iff.1 hk).1;simp at this;omega
    subst hk3;rw[List.getElem?_append_right aj,sub_self] at hk;simp at hk;exact .inr ⟨rfl,hk.symm⟩
  rcases hcase i x hx with⟨hi,hy⟩|⟨hi,hy⟩
  ·rcases hcase j x' hx' with⟨hj,hy'⟩|⟨hj,hy'⟩
   ·exact h.one i j x x' b hy hy' hb hb'
   ·rw[hy'] at hb';exact absurd hb' (hnew i x b hy hb)
  ·rcases hcase j x' hx' with⟨hj,hy'⟩|⟨hj,hy'⟩
   ·rw[hy] at hb;exact absurd hb (hnew j x' b hy' hb')
   ·omega
theorem aZ.data{W W':World}{base:Nat}{e:TypeId}{m:Nat}{v:Value}{L:List NE}{vs:List Value}(h:aZ W base e m v L vs)(he:e≠5)(i:Nat)(u:Value)(l:NE)(zs:List Int)(hu:vs[i]?=some u)(hl:L[i]?=some l)
 (ho:W'.ownsRow base 5 1 u zs.length (zs.map (Value.int .u8))) (hg:W.grownBy W' u.ownBlock):aZ W' base e m v (L.set i (l.1,zs)) vs:=by
 have hdi:=h.dat i u l hu hl;refine⟨by simp[h.len],fun x hx=>?_,?_,fun j x y hx hy=>?_,h.one⟩
 ·rcases List.mem_or_eq_of_mem_set hx with hx|rfl
  ·exact h.pre x hx
  ·exact h.pre l (mem_of_getElem? hl)
 ·rw[length_set,uB vs L i l zs hl];exact h.row.kept hg (ng h.row hdi he)
 ·by_cases hij:i=j
  ·subst hij;rw[hu] at hx;cases hx
   rw[getElem?_set_self (List.getElem?_eq_some_iff.1 hl).1] at hy;cases hy
   exact ho
  ·rw[getElem?_set_ne hij] at hy;refine(h.dat j x y hx hy).kept hg ?_;cases hb:x.ownBlock with
   |none=>exact .inl rfl
   |some b=>exact .inr (fun e=>hij (h.one i j u x b hu hx e.symm hb))
theorem aZ.field{W:World}{base g:Nat}{e:TypeId}{m:Nat}{v:Value}{L:List NE}{vs:List Value}(h:aZ W base e m v L vs)(he:e≠5)(i j:Nat)(l:NE)(x:Value)(hl:L[i]?=some l)(hj:j<m)(hv:v.ownBlock=some g):aZ (W.setCell ⟨g,i*(m+1)+j,none⟩ x) base e m v (L.set i (l.1.set j x,l.2)) vs:=by
 have hg:W.grownBy (W.setCell ⟨g,i*(m+1)+j,none⟩ x) v.ownBlock:=by
  rw[hv];exact⟨rfl,rfl,rfl,by simp[World.setCell],fun k hk hne=>Below.heap_setCell W ⟨g,i*(m+1)+j,none⟩ x k (fun e=>hne (by rw[e]))⟩
 refine⟨by simp[h.len],fun y hy=>?_,?_,fun k y z hy hz=>?_,h.one⟩
 ·rcases List.mem_or_eq_of_mem_set hy with hy|rfl
  ·exact h.pre y hy
  ·simpa using h.pre l (mem_of_getElem? hl)
 ·rw[length_set, ←zb m vs L h.len h.pre i j l x hl hj];rcases h.row.2 with⟨rfl,_⟩|⟨g',cap,cur,rfl,hb,hc,hn,hm,hs,ht⟩
  ·cases hv
  ·obtain rfl:g'=g:=(by simpa [Value.ownBlock] using hv);refine⟨by rw[length_set];exact h.row.1,.inr ⟨g',cap,cur.setIfInBounds (i*(m+1)+j) x,rfl,hb,heap_setCell_same W g' _ cur e _ hc,hn,hm,by simpa using hs,?_⟩⟩;rw[Array.toList_setIfInBounds,List.take_set,ht]
 ·have hd:∃z',L[k]?=some z'∧z'.2=z.2:=by
   by_cases hik:i=k
   ·subst hik;rw[getElem?_set_self (List.getElem?_eq_some_iff.1 hl).1] at hz;cases hz
    exact⟨l,hl,rfl⟩
   ·rw[getElem?_set_ne hik] at hz;exact⟨z,hz,rfl⟩
  obtain⟨z',h1,h2⟩:=hd;have:=h.dat k y z' hy h1;rw[h2] at this;exact this.kept hg (ng this h.row (Ne.symm he))
theorem aZ.last{W:World}{base g:Nat}{e:TypeId}{m:Nat}{v:Value}{L:List NE}{vs:List Value}(h:aZ W base e m v L vs)(he:e≠5)(i:Nat)(l:NE)(u:Value)(zs:List Int)(hl:L[i]?=some l)(hv:v.ownBlock=some g)(hu:W.ownsRow base 5 1 u zs.length (zs.map (Value.int .u8)))
 (hnew:∀(j:Nat) (u':Value) (b:Nat),vs[j]?=some u'→u'.ownBlock=some b→u.ownBlock≠some b):aZ (W.setCell ⟨g,i*(m+1)+m,none⟩ u) base e m v (L.set i (l.1,zs)) (vs.set i u):=by
 have hg:W.grownBy (W.setCell ⟨g,i*(m+1)+m,none⟩ u) v.ownBlock:=by
  rw[hv];exact⟨rfl,rfl,rfl,by simp[World.setCell],fun k hk hne=>Below.heap_setCell W ⟨g,i*(m+1)+m,none⟩ u k (fun e=>hne (by rw[e]))⟩
 have hi:i<L.length:=(List.getElem?_eq_some_iff.1 hl).1;have kept:∀(x:Value) (n:Nat) (xs:List Value),W.ownsRow base 5 1 x n xs→(W.setCell ⟨g,i*(m+1)+m,none⟩ u).ownsRow base 5 1 x n xs:=fun x n xs hx=>hx.kept hg (ng hx h.row (Ne.symm he));have hvs:∀(k:Nat) (x:Value),(vs.set i u)[k]?=some x→(k=i∧x=u)∨(k≠i∧vs[k]?=some x):=fun k x hx=>by
  by_cases hk:i=k
  ·subst hk;rw[getElem?_set_self (by rw[h.len];exact hi)] at hx;cases hx
   exact .inl ⟨rfl,rfl⟩
  ·rw[getElem?_set_ne hk] at hx;exact .inr ⟨fun e=>hk e.symm,hx⟩
 refine⟨by simp[h.len],fun y hy=>?_,?_,fun k y z hy hz=>?_,fun k j x x' b hx hx' hb hb'=>?_⟩
 ·rcases List.mem_or_eq_of_mem_set hy with hy|rfl
  ·exact h.pre y hy
  ·exact h.pre l (mem_of_getElem? hl)
 ·rw[length_set,uB _ L i l zs hl, ←zc m vs L h.len h.pre i u hi];rcases h.row.2 with⟨rfl,_⟩|⟨g',cap,cur,rfl,hb,hc,hn,hm,hs,ht⟩
  ·cases hv
  ·obtain rfl:g'=g:=(by simpa [Value.ownBlock] using hv);refine⟨by rw[length_set];exact h.row.1,.inr ⟨g',cap,cur.setIfInBounds (i*(m+1)+m) u,rfl,hb,heap_setCell_same W g' _ cur e _ hc,hn,hm,by simpa using hs,?_⟩⟩;rw[Array.toList_setIfInBounds,List.take_set,ht]
 ·rcases hvs k y hy with⟨rfl,rfl⟩|⟨hk,hy⟩
  ·rw[getElem?_set_self hi] at hz;cases hz
   exact kept _ _ _ hu
  ·rw[getElem?_set_ne (Ne.symm hk)] at hz;exact kept _ _ _ (h.dat k y z hy hz)
 ·rcases hvs k x hx with⟨h1,h2⟩|⟨h1,h2⟩
  ·rcases hvs j x' hx' with⟨h3,h4⟩|⟨h3,h4⟩
   ·omega
   ·rw[h2] at hb;exact absurd hb (hnew j x' b h4 hb')
  ·rcases hvs j x' hx' with⟨h3,h4⟩|⟨h3,h4⟩
   ·rw[h4] at hb';exact absurd hb' (hnew k x b h2 hb)
   ·exact h.one k j x x' b h2 h4 hb hb'
theorem bO{w:World}{base:Nat}{e:TypeId}{sz:Nat}{v:Value}{n:Nat}{xs:List Value}(h:w.ownsRow base e sz v n xs):∃a cap,v=.slice a n cap:=by
 rcases h.2 with⟨rfl,rfl⟩|⟨g,cap,_,rfl,_⟩
 ·exact⟨_,_,rfl⟩
 ·exact⟨_,_,rfl⟩
theorem Gk{k:IntKind}{w:World}{v:Value}{zs:List Int}(h:Rd k w v zs):∃a cap,v=.slice a zs.length cap:=by
 obtain⟨a,cap,e,_⟩:=h;exact⟨a,cap,e⟩
theorem j6.at{W:World}{m:Nat}{a:Option Addr}{cap:Nat}{L:List NE}{vs:List Value}(h:j6 W m (.slice a L.length cap) L vs){i:Nat}{l:NE}(hl:L[i]?=some l):∃b off u,a=some ⟨b,off,none⟩∧b<W.heap.size∧vs[i]?=some u∧Rd .u8 W u l.2∧W.rangeAt b (off+i*(m+1)) (l.1++[u]):=by
 have hi:i<L.length:=(List.getElem?_eq_some_iff.1 hl).1;obtain⟨a',cap',e,hc,_⟩:=h.row;injection e with e1 e2 e3;subst e1;obtain⟨b,off,rfl,hb,hcell⟩:=hc (by omega);obtain⟨w0,hu⟩:∃x,vs[i]?=some x:=⟨_,List.getElem?_eq_getElem (by rw[h.len];exact hi)⟩;refine⟨b,off,w0,rfl,hb,hu,h.dat i _ l hu hl,fun j u hj=>?_⟩;have hjl:j<m+1:=by
  have:=(List.getElem?_eq_some_iff.1 hj).1;simp[h.pre l (mem_of_getElem? hl)] at this;omega
 have:=hcell (i*(m+1)+j) u ((rD m vs L h.len h.pre i j _ l hu hl hjl).trans hj);rw[←Nat.add_assoc] at this;exact this
def jn:List (Nat×Nat)→List Value
 |[]=>[]
 |p::L=>.int .i64 (p.1:Int)::.int .i64 (p.2:Int)::jn L
theorem ze:∀A B,jn (A++B)=jn A++jn B
 |[],B=>rfl
 |p::A,B=>by simp only[cons_append,jn,ze A B]
structure Fl(W:World)(base b:Nat)(C:Array Value)(R:Nat→Value)(LL:Nat→List Int)(vo:Value)(od:List (Nat×Nat))(cu:Int):Prop where
 box:af W b C 185
 at_:∀j,j<8→C[j]?=some (R j)
 row:∀j,j<8→W.ownsRow base 3 1 (R j) (LL j).length ((LL j).map (Value.int .i64))
 apart:∀i j,i<8→j<8→i≠j→(R i).ownBlock=none∨(R i).ownBlock≠(R j).ownBlock
 ord:C[8]?=some vo
 cA:W.ownsRow base 175 2 vo od.length (jn od)
 cur:C[9]?=some (.int .i64 cu)
theorem Fl.below{W W':World}{base b:Nat}{C:Array Value}{R:Nat→Value}{LL:Nat→List Int}{vo:Value}{od:List (Nat×Nat)}{cu:Int}(h:Fl W base b C R LL vo od cu)(hb:Below W.heap.size W W'):Fl W' base b C R LL vo od cu:=
 ⟨h.box.below hb h.box.lt,h.at_,fun j hj=>cC (h.row j hj) hb,h.apart,h.ord,cC h.cA hb,h.cur⟩
theorem Fl.old{W:World}{base b:Nat}{C:Array Value}{R:Nat→Value}{LL:Nat→List Int}{vo:Value}{od:List (Nat×Nat)}{cu:Int}(h:Fl W base b C R LL vo od cu):dP W base b 2 C 185 (fun l=>R (2+l)) (fun l=>LL (2+l)):=
 ⟨h.box,fun l hl=>h.at_ (2+l) (by omega),fun l hl=>h.row (2+l) (by omega),fun l m hl hm hne=>h.apart (2+l) (2+m) (by omega) (by omega) (by omega)⟩
theorem Fl.rE{W:World}{base b:Nat}{C:Array Value}{R:Nat→Value}{LL:Nat→List Int}{vo:Value}{od:List (Nat×Nat)}{cu:Int}(h:Fl W base b C R LL vo od cu):dP W base b 5 C 185 (fun l=>R (5+l)) (fun l=>LL (5+l)):=
 ⟨h.box,fun l hl=>h.at_ (5+l) (by omega),fun l hl=>h.row (5+l) (by omega),fun l m hl hm hne=>h.apart (5+l) (5+m) (by omega) (by omega) (by omega)⟩
theorem Fl.rd{W:World}{base b:Nat}{C:Array Value}{R:Nat→Value}{LL:Nat→List Int}{vo:Value}{od:List (Nat×Nat)}{cu:Int}(h:Fl W base b C R LL vo od cu)(j:Nat)(hj:j<8):∃a c,R j=.slice a (LL j).length c∧C[j]?=some (.slice a (LL j).length c)∧Rd .i64 W (.slice a (LL j).length c) (LL j):=by
 obtain⟨a,c,e⟩:=bO (h.row j hj);refine⟨a,c,e,by rw[←e];exact h.at_ j hj,?_⟩;rw[←e];exact Rd.own (h.row j hj)
def jE(LL:Nat→List Int)(l r:Nat):Bool:=decide ((LL (5+l)).getD r 0=0)&&(decide ((LL (2+l)).getD r 0=0)||if l=0 then decide (ej (LL 1) r≠ej (LL 0) r) else decide (gh (fun l=>LL (5+l)) 0 r≠replicate 128 0))
theorem zf{P:Program}{ops:Array Oper}{S:World→Prop}{o:Oper}{a:Act}(hw:Region.wanted o (yielded ops a.tmps)=true)(t u:TypeId)(x y:Operand)(ho:o.op=.binOp .neq t x y u)
 (cs ds:Array Value) (hx:a.eval x=.agg cs) (hy:a.eval y=.agg ds) (hm:P.eqGuardType P.depth t=false) (b:Bool) (hE:∀w,(Op.equalIn 10000 t (.agg cs) (.agg ds)).run P w=.ok b w):YieldsIf P ops S o (.bool (!b)) a:=
 .inl ⟨hw,fun w hw'=>by simp[execOp,ho,hx,hy,run_eqGuard_agg w _ _ _ _ _ _ hm,run_neq_struct,hE w,Result.andThen]⟩
theorem jF{w:World}{g l r:Nat}(h:af w g #[.int .i64 (l:Int),.int .i64 (r:Int)] 175):w.rangeAt g 0 [.int .i64 (l:Int),.int .i64 (r:Int)]:=by
 intro j v hj;rw[zero_add,h.cell j];simpa using hj
theorem Gl:∃Z:Array Value,Z=((replicate 128 (0:Int)).map (Value.int .i64)).toArray∧∀(ρ:Operand→Value) (o:Oper) (w:World),o.op=.build 192 #[]→(execOp ρ o).run prog w=.ok (.value (.agg Z)) w:=by
 refine⟨_,rfl,fun ρ o w ho=>?_⟩;rw[ux];simp only[execOp,ho];kernel_rfl
theorem Gm(base b l r:Nat)(C:Array Value)(R:Nat→Value)(LL:Nat→List Int)(vo:Value)(od:List (Nat×Nat))(cu:Int)(w:World)(h:Fl w base b C R LL vo od cu)(hl:l<2)(hr:r≤700)(hn1:l=0→128*r<(LL 1).length∧128*r<(LL 0).length)(hn2:(LL 0).length≤2048∧(LL 1).length≤2048):
 Calls prog 101 #[.pointer (some ⟨b,0,none⟩),bh l r] w fun e w'=>e=.returned (.bool (jE LL l r))∧Below w.heap.size w w':=by
 obtain⟨W1,hW1⟩:∃W1,W1=w.alloc (.cells #[.int .i64 (l:Int),.int .i64 (r:Int)] 175):=⟨_,rfl⟩;have B1:=ae (Below w.heap.size w W1) (by rw[hW1];exact ak.alloc aj _);have K1:=ae (af W1 w.heap.size #[.int .i64 (l:Int),.int .i64 (r:Int)] 175) (by rw[hW1];exact af.new w _ _);have HW:=aa hW1;have HF:=aa (h.below B1.out);have HH:=aa (ai hl (ai hr (ai hn1 hn2)));obtain⟨x,hx⟩:∃x,x=(LL (5+l)).getD r 0:=⟨_,rfl⟩;obtain⟨y,hy⟩:∃y,y=(LL (2+l)).getD r 0:=⟨_,rfl⟩;have HX:=aa hx;have HY:=aa hy;clear hW1 h hl hr hn1 hn2 hx hy;go_enter func101,ntmps101;unfold bh;go_upto_region 1 with fail;rw[←HW.out];refine bg (fun w'=>af w' w.heap.size #[.int .i64 (l:Int),.int .i64 (r:Int)] 175) (show af W1.drew w.heap.size #[.int .i64 (l:Int),.int .i64 (r:Int)] 175 from K1.out) fun hH=>?_;refine ah 0 (.pointer (some ⟨b,0,none⟩)) rfl hH ?_;refine ah 1 (.pointer (some ⟨b,0,none⟩)) rfl hH ?_;refine ah 2 (.pointer (some ⟨b,5,none⟩)) rfl hH ?_;refine ah 3 (.agg #[.int .i64 (l:Int),.int .i64 (r:Int)]) rfl hH ?_ (yieldsIf_load_mid (by rfl) 175 _ rfl w.heap.size 0 rfl [.int .i64 (l:Int),.int .i64 (r:Int)] _ (fun w' h=>jF h) underlying175 rfl bZ);refine aG 4 rfl fun K hK=>?_;go_simp;refine(kW b 5 l r C 185 _ _ base _ (HF.out.rE.below ak.drew) (by have:=HH.out.1;omega) (by have:=HH.out.2.1;omega)).mono ?_;rintro e w2 ⟨rfl,b2⟩;have B2:=ae (Below W1.heap.size W1 w2) ((ak.drew).trans b2);have K2:=aa (K1.out.below B2.out K1.out.lt);refine hK.out _ _ K2.out (fun hH=>?_);clear hK K b2;try simp only[Act.put,av,ay,az,aA,aB,aC]
 rw[←HX.out];refine ah 5 (.bool (x !=0)) rfl hH ?_;refine aG 6 rfl fun K hK=>?_;go_simp;refine hK.out _ _ K2.out (fun hH=>?_);clear hK K;try simp only[Act.put,av,ay,az,aA,aB,aC]
 refine aV ?_;clear hH;have F2:=aa (HF.out.below B2.out);have Q2:=aa (B1.out.trans (B2.out.mono B1.out.size));clear B2 HF B1 K1 HW;by_cases hx0:x=0
 case neg=>
  have hxb:(x !=0)=true:=by simpa using hx0
  have HR:=ae (jE LL l r=false) (by unfold jE;rw[←HX.out,decide_eq_false hx0];rfl);rw[hxb];clear hx0 hxb;go_wp2;go_ret;exact⟨by rw[HR.out];rfl,Q2.out⟩
 have hxb:(x !=0)=false:=by simp[hx0]
 have HX0:=aa hx0;rw[hxb];clear hx0 hxb;go_upto_region 3 with fail;refine bg (fun w'=>af w' w.heap.size #[.int .i64 (l:Int),.int .i64 (r:Int)] 175) (show af w2.drew w.heap.size #[.int .i64 (l:Int),.int .i64 (r:Int)] 175 from K2.out) fun hH=>?_;refine ah 0 (.pointer (some ⟨b,0,none⟩)) rfl hH ?_;refine ah 1 (.pointer (some ⟨b,0,none⟩)) rfl hH ?_;refine ah 2 (.pointer (some ⟨b,2,none⟩)) rfl hH ?_;refine ah 3 (.agg #[.int .i64 (l:Int),.int .i64 (r:Int)]) rfl hH ?_ (yieldsIf_load_mid (by rfl) 175 _ rfl w.heap.size 0 rfl [.int .i64 (l:Int),.int .i64 (r:Int)] _ (fun w' h=>jF h) underlying175 rfl bZ);refine aG 4 rfl fun K hK=>?_;go_simp;refine(kW b 2 l r C 185 _ _ base _ (F2.out.old.below ak.drew) (by have:=HH.out.1;omega) (by have:=HH.out.2.1;omega)).mono ?_;rintro e w3 ⟨rfl,b3⟩;have B3:=ae (Below w2.heap.size w2 w3) ((ak.drew).trans b3);have K3:=aa (K2.out.below B3.out K2.out.lt);refine hK.out _ _ K3.out (fun hH=>?_);clear hK K b3;try simp only[Act.put,av,ay,az,aA,aB,aC]
 rw[←HY.out];refine ah 5 (.bool (y==0)) rfl hH ?_;refine aG 6 rfl fun K hK=>?_;go_simp;refine hK.out _ _ K3.out (fun hH=>?_);clear hK K;try simp only[Act.put,av,ay,az,aA,aB,aC]
 refine aV ?_;clear hH;have F3:=aa (F2.out.below B3.out);have Q3:=aa (Q2.out.trans (B3.out.mono Q2.out.size));clear B3 F2 Q2 K2;by_cases hy0:y=0
 case pos=>
  have hyb:(y==0)=true:=by simpa using hy0
  have HR:=ae (jE LL l r=true) (by unfold jE;rw[←HX.out, ←HY.out,HX0.out,hy0];rfl);rw[hyb];clear hy0 hyb;go_wp2;go_ret;exact⟨by rw[HR.out];rfl,Q3.out⟩
 have hyb:(y==0)=false:=by simpa using hy0
 have SA:=aa hy0;rw[hyb];clear hy0 hyb;have cS:=(K3.out.cell 0).trans (show _=some (.int .i64 (l:Int)) from rfl);by_cases hl0:l=0
 ·have UY:=aa hl0;have hlb:((l:Int)==0)=true:=by simp[hl0]
  obtain⟨q,hq⟩:∃q,q=decide (ej (LL 1) r=ej (LL 0) r):=⟨_,rfl⟩;have HQ:=aa hq;have HR:=ae (jE LL l r=!q) (by
   rw[hq];unfold jE;rw[←HX.out, ←HY.out,HX0.out,decide_eq_false SA.out,if_pos hl0];simp)
  obtain⟨a1,c1,_,e1,hr1⟩:=F3.out.rd 1 (by omega);obtain⟨a0,c0,_,e0,hr0⟩:=F3.out.rd 0 (by omega);have hN1:=(HH.out.2.2.1 hl0).1;have hN0:=(HH.out.2.2.1 hl0).2;have hM:=HH.out.2.2.2;obtain⟨n1,hn1⟩:∃n,n=(LL 1).length:=⟨_,rfl⟩;obtain⟨n0,hn0⟩:∃n,n=(LL 0).length:=⟨_,rfl⟩;have HN:=aa (ai hn1 hn0);rw[←hn1] at e1 hr1 hN1 hM;rw[←hn0] at e0 hr0 hN0 hM;have R1:=aa hr1;have R0:=aa hr0;have HC:=ae (∀w',af w' b C 185→w'.cell? ⟨b,1,none⟩=some (.slice a1 n1 c1)∧w'.cell? ⟨b,0,none⟩=some (.slice a0 n0 c0)) (fun w' hw=>⟨(hw.cell 1).trans e1,(hw.cell 0).trans e0⟩);clear hq hl0 e1 e0 hr1 hr0 hn1 hn0;go_upto_region 6 with fail;refine bg (fun w'=>af w' w.heap.size #[.int .i64 (l:Int),.int .i64 (r:Int)] 175∧af w' b C 185) ⟨K3.out,F3.out.box⟩ fun hH=>?_;refine ah 0 (.pointer (some ⟨b,0,none⟩)) rfl hH ?_;refine ah 1 (.pointer (some ⟨b,0,none⟩)) rfl hH ?_;refine ah 2 (.pointer (some ⟨b,1,none⟩)) rfl hH ?_;refine ah 3 (.slice a1 n1 c1) rfl hH ?_ (aH fun w' hw'=>by have hc:=(HC.out w' hw'.2).1;clear hw';go_simp);refine ah 4 (.pointer (some ⟨w.heap.size,1,none⟩)) rfl hH ?_;refine ah 5 (.int .i64 (r:Int)) rfl hH ?_ (aH fun w' hw'=>by have hc:=(af.cell hw'.1 1).trans (show _=some (.int .i64 (r:Int)) from rfl);clear hw';go_simp);refine ah 7 (.pointer (some ⟨b,0,none⟩)) rfl hH ?_;refine ah 8 (.pointer (some ⟨b,0,none⟩)) rfl hH ?_;refine ah 9 (.pointer (some ⟨b,0,none⟩)) rfl hH ?_;refine ah 10 (.slice a0 n0 c0) rfl hH ?_ (aH fun w' hw'=>by have hc:=(HC.out w' hw'.2).2;clear hw';go_simp);refine ah 11 (.pointer (some ⟨w.heap.size,1,none⟩)) rfl hH ?_;refine ah 12 (.int .i64 (r:Int)) rfl hH ?_ (aH fun w' hw'=>by have hc:=(af.cell hw'.1 1).trans (show _=some (.int .i64 (r:Int)) from rfl);clear hw';go_simp);refine aG 6 rfl fun K hK=>?_;go_simp;refine(uA a1 n1 c1 r (LL 1) _ (R1.out.below ak.drew) HN.out.1 hN1 hM.2).mono ?_;rintro e w4 ⟨rfl,b4⟩;obtain⟨A1,hA1⟩:∃A,A=((ej (LL 1) r).map (Value.int .i64)).toArray:=⟨_,rfl⟩;rw[←hA1];have HA1:=aa hA1;have B4:=ae (Below w3.heap.size w3 w4) ((ak.drew).trans b4);have S4:=aa (ai (K3.out.below B4.out K3.out.lt) (F3.out.box.below B4.out F3.out.box.lt));refine hK.out _ _ S4.out (fun hH=>?_);clear hK K b4 hA1;try simp only[Act.put,av,ay,az,aA,aB,aC]
  refine aG 13 rfl fun K hK=>?_;go_simp;refine(uA a0 n0 c0 r (LL 0) _ (R0.out.below B4.out) HN.out.2 hN0 hM.1).mono ?_;rintro e w5 ⟨rfl,b5⟩;obtain⟨A0,Uq⟩:∃A,A=((ej (LL 0) r).map (Value.int .i64)).toArray:=⟨_,rfl⟩;rw[←Uq];have HA0:=aa Uq;have B5:=aa (B4.out.trans (b5.mono B4.out.size));have S5:=aa (ai (K3.out.below B5.out K3.out.lt) (F3.out.box.below B5.out F3.out.box.lt));refine hK.out _ _ S5.out (fun hH=>?_);clear hK K b5 Uq S4;try simp only[Act.put,av,ay,az,aA,aB,aC]
  refine ah 14 (.bool (!q)) rfl hH ?_ (zf (by rfl) 192 192 _ _ rfl A1 A0 rfl rfl ri _ (fun w=>by rw[HA1.out,HA0.out,HQ.out];exact uw w _ _ (za _ _) (za _ _)));refine aG 15 rfl fun K hK=>?_;go_simp;refine hK.out _ _ S5.out (fun hH=>?_);clear hK K;try simp only[Act.put,av,ay,az,aA,aB,aC]
  refine aV ?_;clear hH;rw[←HR.out];have Q5:=aa (Q3.out.trans (B5.out.mono Q3.out.size));clear B5 S5 B4;go_wp2;go_ret;exact⟨rfl,Q5.out⟩
 ·have HL1:=ae (l=1) (by have:=HH.out.1;omega);have hlb:((l:Int)==0)=false:=by simpa using hl0
  obtain⟨q,hq⟩:∃q,q=decide (gh (fun l=>LL (5+l)) 0 r=replicate 128 0):=⟨_,rfl⟩;have HQ:=aa hq;have HR:=ae (jE LL l r=!q) (by
   rw[hq];unfold jE;rw[←HX.out, ←HY.out,HX0.out,decide_eq_false SA.out,if_neg hl0];simp)
  obtain⟨Z,hZ,hBd⟩:=Gl;have HZ:=aa hZ;clear hq hl0 hZ;go_upto_region 7 with fail;refine bg (fun w'=>af w' w.heap.size #[.int .i64 (l:Int),.int .i64 (r:Int)] 175) (show af w3.drew w.heap.size #[.int .i64 (l:Int),.int .i64 (r:Int)] 175 from K3.out) fun hH=>?_;refine ah 0 (.pointer (some ⟨b,0,none⟩)) rfl hH ?_;refine ah 1 (.pointer (some ⟨b,0,none⟩)) rfl hH ?_;refine ah 2 (.pointer (some ⟨b,5,none⟩)) rfl hH ?_;refine ah 3 (.agg #[.int .i64 (l:Int),.int .i64 (r:Int)]) rfl hH ?_ (yieldsIf_load_mid (by rfl) 175 _ rfl w.heap.size 0 rfl [.int .i64 (l:Int),.int .i64 (r:Int)] _ (fun w' h=>jF h) underlying175 rfl bZ);refine ah 5 (.agg Z) rfl hH ?_ (kK ⟨by rfl,fun w' hw'=>hBd _ _ _ rfl⟩);refine aG 4 rfl fun K hK=>?_;go_simp;have hsp:(Value.agg #[.int .i64 (l:Int),.int .i64 (r:Int)])=bh (0+1) r:=by rw[HL1.out]
  rw[hsp];refine(rB b 5 0 r C 185 _ _ base _ (F3.out.rE.below ak.drew) (by omega) HH.out.2.1).mono ?_;rintro e w4 ⟨rfl,b4⟩;obtain⟨A1,hA1⟩:∃A,A=((gh (fun l=>LL (5+l)) 0 r).map (Value.int .i64)).toArray:=⟨_,rfl⟩;rw[←hA1];have HA1:=aa hA1;have B4:=ae (Below w3.heap.size w3 w4) ((ak.drew).trans b4);have S4:=aa (K3.out.below B4.out K3.out.lt);refine hK.out _ _ S4.out (fun hH=>?_);clear hK K b4 hA1 hsp;try simp only[Act.put,av,ay,az,aA,aB,aC]
  refine ah 6 (.bool (!q)) rfl hH ?_ (zf (by rfl) 192 192 _ _ rfl A1 Z rfl rfl ri _ (fun w=>by rw[HA1.out,HZ.out,HQ.out];exact uw w _ _ (by simp[gh]) (by simp)));refine aG 7 rfl fun K hK=>?_;go_simp;refine hK.out _ _ S4.out (fun hH=>?_);clear hK K;try simp only[Act.put,av,ay,az,aA,aB,aC]
  refine aV ?_;clear hH;rw[←HR.out];have Q5:=aa (Q3.out.trans (B4.out.mono Q3.out.size));clear B4 S4;go_wp2;go_ret;exact⟨rfl,Q5.out⟩
def bu(p:Int×List Int):NE:=([.int .i64 p.1],p.2)
theorem Gn(P:List (Int×List Int)):∀l∈P.map bu,l.1.length=1:=by
 intro l hl;rw[List.mem_map] at hl;obtain⟨p,_,rfl⟩:=hl;rfl
theorem aZ.zeros{w:World}{base n:Nat}{v:Value}(h:w.ownsRow base 55 2 v n (cY (replicate n (.slice none 0 0)) ((replicate n ((0:Int),([]:List Int))).map bu))):aZ w base 55 1 v ((replicate n ((0:Int),([]:List Int))).map bu) (replicate n (.slice none 0 0)):=by
 refine⟨by simp,Gn _,by simpa using h,fun i u l hu hl=>?_,fun i j u u' b hu _ hb _=>?_⟩
 ·rw[List.getElem?_replicate] at hu;split at hu
  ·cases hu
   rw[List.getElem?_map,List.getElem?_replicate] at hl;split at hl
   ·cases hl
    exact⟨rfl,.inl ⟨rfl,rfl⟩⟩
   ·contradiction
  ·cases hu
 ·rw[List.getElem?_replicate] at hu;split at hu
  ·cases hu
   cases hb
  ·cases hu
structure mC(w w':World)(v:Value)(vs:List Value):Prop where
 os:w'.os=w.os
 tape:w'.tape=w.tape
 output:w'.output=w.output
 size:w.heap.size≤w'.heap.size
 block:∀b,b<w.heap.size→v.ownBlock≠some b→(∀u∈vs,u.ownBlock≠some b)→w'.heap[b]?=w.heap[b]?
theorem mC.refl(w:World)(v:Value)(vs:List Value):mC w w v vs:=⟨rfl,rfl,rfl,aj,fun _ _ _ _=>rfl⟩
theorem mC.row{w w' w2:World}{v:Value}{vs:List Value}(h:mC w w' v vs)(g:w'.grownBy w2 v.ownBlock):mC w w2 v vs:=
 ⟨g.os.trans h.os,g.tape.trans h.tape,g.output.trans h.output,aK h.size g.size,fun b hb h1 h2=>(g.block b (Nat.lt_of_lt_of_le hb h.size) (fun e=>h1 e.symm)).trans (h.block b hb h1 h2)⟩
theorem mC.dat{w w' w2:World}{v:Value}{vs:List Value}(h:mC w w' v vs)(u:Value)(hu:u∈vs)(g:w'.grownBy w2 u.ownBlock):mC w w2 v vs:=
 ⟨g.os.trans h.os,g.tape.trans h.tape,g.output.trans h.output,aK h.size g.size,fun b hb h1 h2=>(g.block b (Nat.lt_of_lt_of_le hb h.size) (fun e=>h2 u hu e.symm)).trans (h.block b hb h1 h2)⟩
end
end Go.Proofs.YtpplnhkpcpieoaaGreatDoor
