/- Slices of structs whose last field is a slice of bytes: what they read as, and what owns t -/
import Derived.Test.YtlimollpocagiaaGreatDoorXa07
namespace Go.Proofs.YtlimollpocagiaaGreatDoor
open Go.Proofs.Tryz
open _root_.List (append_assoc mem_of_getElem? length_set getElem?_set_self getElem?_set_ne)
open _root_.Nat (zero_mul zero_add add_mul sub_self)
set_option linter.all false
set_option maxRecDepth 100000
set_option maxHeartbeats 16000000
section
open Go.RowKit
abbrev NE:=List Value×List Int
def dH:List Value→List NE→List Value
 |v::vs,l::L=>l.1++([v]++dH vs L)
 |_,_=>[]
theorem uT:∀(vs:List Value) (L:List NE) (us:List Value) (M:List NE),vs.length=L.length→dH (vs++us) (L++M)=dH vs L++dH us M
 |[],[],us,M,_=>by simp[dH]
 |[],_::_,_,_,h=>by simp at h
 |_::_,[],_,_,h=>by simp at h
 |v::vs,l::L,us,M,h=>by
  rw[List.cons_append,List.cons_append,dH,dH,uT vs L us M (by simpa using h)];simp[append_assoc]
theorem qE(m:Nat):∀(vs:List Value) (L:List NE),vs.length=L.length→(∀l∈L,l.1.length=m)→∀i j v l,vs[i]?=some v→L[i]?=some l→j<m+1→(dH vs L)[i*(m+1)+j]?=(l.1++[v])[j]?
 |[],[],_,_,i,j,v,l,h,_,_=>by simp at h
 |[],_::_,h,_,_,_,_,_,_,_,_=>by simp at h
 |_::_,[],h,_,_,_,_,_,_,_,_=>by simp at h
 |v0::vs,l0::L,h,hp,i,j,v,l,hv,hl,hj=>by
  have h1:=hp l0 (by simp);rw[dH, ←append_assoc];cases i with
  |zero=>
   simp at hv hl;subst hv;subst hl;rw[zero_mul,zero_add,List.getElem?_append_left (by simp[h1];omega)]
  |succ i=>
   have h2:=qE m vs L (by simpa using h) (fun x hx=>hp x (by simp[hx])) i j v l (by simpa using hv) (by simpa using hl) hj;have e:(i+1)*(m+1)+j=(m+1)+(i*(m+1)+j):=(by rw[add_mul];omega);rw[e,List.getElem?_append_right (by simp[h1]),show(l0.1++[v0]).length=m+1 by simp[h1],Nat.add_sub_cancel_left];exact h2
theorem qF:∀(vs:List Value) (L:List NE) (i:Nat) (l:NE) (zs:List Int),L[i]?=some l→dH vs (L.set i (l.1,zs))=dH vs L
 |[],L,i,l,zs,h=>by cases hL:L.set i (l.1,zs)<;>simp[dH]
 |v::vs,[],i,l,zs,h=>by simp at h
 |v::vs,l0::L,0,l,zs,h=>by
  simp at h;subst h;simp[dH]
 |v::vs,l0::L,i+1,l,zs,h=>by
  simp only[List.set_cons_succ,dH];rw[qF vs L i l zs (by simpa using h)]
theorem uU(m:Nat):∀(vs:List Value) (L:List NE),vs.length=L.length→(∀l∈L,l.1.length=m)→∀i j l u,L[i]?=some l→j<m→(dH vs L).set (i*(m+1)+j) u=dH vs (L.set i (l.1.set j u,l.2))
 |[],[],_,_,i,j,l,u,h,_=>by simp at h
 |[],_::_,h,_,_,_,_,_,_,_=>by simp at h
 |_::_,[],h,_,_,_,_,_,_,_=>by simp at h
 |v0::vs,l0::L,h,hp,i,j,l,u,hl,hj=>by
  have h1:=hp l0 (by simp);cases i with
  |zero=>
   simp at hl;subst hl;simp only[List.set_cons_zero,dH,zero_mul,zero_add];rw[List.set_append_left _ _ (by omega)]
  |succ i=>
   have h2:=uU m vs L (by simpa using h) (fun x hx=>hp x (by simp[hx])) i j l u (by simpa using hl) hj;have e:(i+1)*(m+1)+j=(m+1)+(i*(m+1)+j):=(by rw[add_mul];omega);simp only[List.set_cons_succ,dH];rw[←append_assoc, ←append_assoc,e,List.set_append_right _ _ (by simp[h1]),show(l0.1++[v0]).length=m+1 by simp[h1],Nat.add_sub_cancel_left,h2]
theorem uV(m:Nat):∀(vs:List Value) (L:List NE),vs.length=L.length→(∀l∈L,l.1.length=m)→∀i v,i<L.length→(dH vs L).set (i*(m+1)+m) v=dH (vs.set i v) L
 |[],[],_,_,i,v,h=>by simp at h
 |[],_::_,h,_,_,_,_=>by simp at h
 |_::_,[],h,_,_,_,_=>by simp at h
 |v0::vs,l0::L,h,hp,i,v,hi=>by
  have h1:=hp l0 (by simp);cases i with
  |zero=>
   simp only[List.set_cons_zero,dH,zero_mul,zero_add];rw[List.set_append_right _ _ (by omega),h1,sub_self];rfl
  |succ i=>
   have h2:=uV m vs L (by simpa using h) (fun x hx=>hp x (by simp[hx])) i v (by simpa using hi);have e:(i+1)*(m+1)+m=(m+1)+(i*(m+1)+m):=(by rw[add_mul];omega);simp only[List.set_cons_succ,dH];rw[←append_assoc, ←append_assoc,e,List.set_append_right _ _ (by simp[h1]),show(l0.1++[v0]).length=m+1 by simp[h1],Nat.add_sub_cancel_left,h2]
structure jB(W:World)(m:Nat)(v:Value)(L:List NE)(vs:List Value):Prop where
 len:vs.length=L.length
 pre:∀l∈L,l.1.length=m
 row:∃a cap,v=.slice a L.length cap∧(0<L.length→∃b off,a=some ⟨b,off,none⟩∧b<W.heap.size∧∀(j:Nat) (u:Value),(dH vs L)[j]?=some u→W.cell? ⟨b,off+j,none⟩=some u)∧L.length≤cap∧cap≤maxLen
 dat:∀(i:Nat) (u:Value) (l:NE),vs[i]?=some u→L[i]?=some l→Rd .u8 W u l.2
theorem jB.below{W W':World}{m:Nat}{v:Value}{L:List NE}{vs:List Value}(h:jB W m v L vs)(hb:Below W.heap.size W W'):jB W' m v L vs:=by
 obtain⟨a,cap,e,hc,h1,h2⟩:=h.row;refine⟨h.len,h.pre,⟨a,cap,e,fun hn=>?_,h1,h2⟩,fun i u l hu hl=>(h.dat i u l hu hl).below hb⟩;obtain⟨b,off,rfl,hlt,hcell⟩:=hc hn;exact⟨b,off,rfl,Nat.lt_of_lt_of_le hlt hb.size,fun j u hu=>(hb.cell (p:=⟨b,off+j,none⟩) hlt).trans (hcell j u hu)⟩
structure bL(W:World)(base:Nat)(e:TypeId)(m:Nat)(v:Value)(L:List NE)(vs:List Value):Prop where
 len:vs.length=L.length
 pre:∀l∈L,l.1.length=m
 row:W.ownsRow base e (m+1) v L.length (dH vs L)
 dat:∀(i:Nat) (u:Value) (l:NE),vs[i]?=some u→L[i]?=some l→W.ownsRow base 5 1 u l.2.length (l.2.map (Value.int .u8))
 one:∀(i j:Nat) (u u':Value) (b:Nat),vs[i]?=some u→vs[j]?=some u'→u.ownBlock=some b→u'.ownBlock=some b→i=j
theorem bL.below{W W':World}{base:Nat}{e:TypeId}{m:Nat}{v:Value}{L:List NE}{vs:List Value}(h:bL W base e m v L vs)(hb:Below W.heap.size W W'):bL W' base e m v L vs:=
 ⟨h.len,h.pre,bS h.row hb,fun i u l hu hl=>bS (h.dat i u l hu hl) hb,h.one⟩
theorem bL.mono{W:World}{base base':Nat}{e:TypeId}{m:Nat}{v:Value}{L:List NE}{vs:List Value}(h:bL W base e m v L vs)(hb:base'≤base):bL W base' e m v L vs:=
 ⟨h.len,h.pre,bZ h.row hb,fun i u l hu hl=>bZ (h.dat i u l hu hl) hb,h.one⟩
theorem bL.rd{W:World}{base:Nat}{e:TypeId}{m:Nat}{v:Value}{L:List NE}{vs:List Value}(h:bL W base e m v L vs):jB W m v L vs:=by
 refine⟨h.len,h.pre,?_,fun i u l hu hl=>Rd.own (h.dat i u l hu hl)⟩;have hrow:=h.row;rcases h.row.2 with⟨rfl,h0⟩|⟨g,cap,cur,rfl,hb,hg,h1,h2,h3,h4⟩
 ·exact⟨none,0,by rw[h0],fun hn=>by omega,by omega,by unfold maxLen;omega⟩
 ·refine⟨some ⟨g,0,none⟩,cap,rfl,fun _=>⟨g,0,rfl,(hrow.lt g rfl).2,fun j u hu=>?_⟩,h1,h2⟩;have:=hrow.cells (g:=g) rfl j u hu;rw[Addr.add_mid] at this;exact this
theorem lH{W:World}{base base':Nat}{e e':TypeId}{size size':Nat}{v v':Value}{n n':Nat}{xs xs':List Value}(h:W.ownsRow base e size v n xs)(h':W.ownsRow base' e' size' v' n' xs')(he:e≠e'):v.ownBlock=none∨v.ownBlock≠v'.ownBlock:=by
 rcases h.2 with⟨rfl,_⟩|⟨g,cap,cur,rfl,_,hg,_⟩
 ·exact .inl rfl
 ·right;intro hq;rcases h'.2 with⟨rfl,_⟩|⟨g',cap',cur',rfl,_,hg',_⟩
  ·cases hq
  ·obtain rfl:g=g':=Option.some.inj hq;rw[hg] at hg';injection hg' with hg';injection hg' with _ h2;exact he h2
theorem bL.nil(W:World)(base:Nat)(e:TypeId)(m:Nat):bL W base e m (.slice none 0 0) [] []:=
 ⟨rfl,fun l h=>(by cases h),⟨by simp[dH],.inl ⟨rfl,rfl⟩⟩,fun i u l h=>(by simp at h),fun i j u u' b h=>(by simp at h)⟩
theorem bL.push{W W':World}{base:Nat}{e:TypeId}{m:Nat}{v v':Value}{L:List NE}{vs:List Value}(h:bL W base e m v L vs)(he:e≠5)(l:NE)(u:Value)(hl:l.1.length=m)(hu:W.ownsRow base 5 1 u l.2.length (l.2.map (Value.int .u8)))
 (hnew:∀(i:Nat) (u':Value) (b:Nat),vs[i]?=some u'→u'.ownBlock=some b→u.ownBlock≠some b)
 (ho:W'.ownsRow base e (m+1) v' (L.length+1) (dH vs L++(l.1++[u]))) (hg:W.grownBy W' v.ownBlock):bL W' base e m v' (L++[l]) (vs++[u]):=by
 have kept:∀(x:Value) (n:Nat) (xs:List Value),W.ownsRow base 5 1 x n xs→W'.ownsRow base 5 1 x n xs:=fun x n xs hx=>hx.kept hg (lH hx h.row (Ne.symm he));refine⟨by simp[h.len],fun x hx=>?_,?_,fun i x y hx hy=>?_,fun i j x x' b hx hx' hb hb'=>?_⟩
 ·rw[List.mem_append,List.mem_singleton] at hx;rcases hx with hx|rfl
  ·exact h.pre x hx
  ·exact hl
 ·rw[uT vs L [u] [l] h.len];simpa [dH] using ho
 ·by_cases hi:i<L.length
  ·rw[List.getElem?_append_left (by rw[h.len];exact hi)] at hx;rw[List.getElem?_append_left hi] at hy;exact kept _ _ _ (h.dat i x y hx hy)
  ·have hi2:i=L.length:=by
    have:=(List.getElem?_eq_some_iff.1 hy).1;simp at this;omega
   subst hi2;rw[List.getElem?_append_right aj,sub_self] at hy;rw[←h.len,List.getElem?_append_right aj,sub_self] at hx;simp at hx hy;subst hx;subst hy;exact kept _ _ _ hu
 ·have hcase:∀(k:Nat) (y:Value),(vs++[u])[k]?=some y→(k<vs.length∧vs[k]?=some y)∨(k=vs.length∧y=u):=fun k y hk=>by
   by_cases hk2:k<vs.length
   ·rw[List.getElem?_append_left hk2] at hk;exact .inl ⟨hk2,hk⟩
   ·have hk3:k=vs.length:=by
     have:=(List.getElem?_eq_some_iff.1 hk).1;simp at this;omega
    subst hk3;rw[List.getElem?_append_right aj,sub_self] at hk;simp at hk;exact .inr ⟨rfl,hk.symm⟩
  rcases hcase i x hx with⟨hi,hy⟩|⟨hi,hy⟩
  ·rcases hcase j x' hx' with⟨hj,hy'⟩|⟨hj,hy'⟩
   ·exact h.one i j x x' b hy hy' hb hb'
   ·rw[hy'] at hb';exact absurd hb' (hnew i x b hy hb)
  ·rcases hcase j x' hx' with⟨hj,hy'⟩|⟨hj,hy'⟩
   ·rw[hy] at hb;exact absurd hb (hnew j x' b hy' hb')
   ·omega
theorem bL.data{W W':World}{base:Nat}{e:TypeId}{m:Nat}{v:Value}{L:List NE}{vs:List Value}(h:bL W base e m v L vs)(he:e≠5)(i:Nat)(u:Value)(l:NE)(zs:List Int)(hu:vs[i]?=some u)(hl:L[i]?=some l)
 (ho:W'.ownsRow base 5 1 u zs.length (zs.map (Value.int .u8))) (hg:W.grownBy W' u.ownBlock):bL W' base e m v (L.set i (l.1,zs)) vs:=by
 have hdi:=h.dat i u l hu hl;refine⟨by simp[h.len],fun x hx=>?_,?_,fun j x y hx hy=>?_,h.one⟩
 ·rcases List.mem_or_eq_of_mem_set hx with hx|rfl
  ·exact h.pre x hx
  ·exact h.pre l (mem_of_getElem? hl)
 ·rw[length_set,qF vs L i l zs hl];exact h.row.kept hg (lH h.row hdi he)
 ·by_cases hij:i=j
  ·subst hij;rw[hu] at hx;cases hx
   rw[getElem?_set_self (List.getElem?_eq_some_iff.1 hl).1] at hy;cases hy
   exact ho
  ·rw[getElem?_set_ne hij] at hy;refine(h.dat j x y hx hy).kept hg ?_;cases hb:x.ownBlock with
   |none=>exact .inl rfl
   |some b=>exact .inr (fun e=>hij (h.one i j u x b hu hx e.symm hb))
theorem bL.field{W:World}{base g:Nat}{e:TypeId}{m:Nat}{v:Value}{L:List NE}{vs:List Value}(h:bL W base e m v L vs)(he:e≠5)(i j:Nat)(l:NE)(x:Value)(hl:L[i]?=some l)(hj:j<m)(hv:v.ownBlock=some g):bL (W.setCell ⟨g,i*(m+1)+j,none⟩ x) base e m v (L.set i (l.1.set j x,l.2)) vs:=by
 have hg:W.grownBy (W.setCell ⟨g,i*(m+1)+j,none⟩ x) v.ownBlock:=by
  rw[hv];exact⟨rfl,rfl,rfl,by simp[World.setCell],fun k hk hne=>Below.heap_setCell W ⟨g,i*(m+1)+j,none⟩ x k (fun e=>hne (by rw[e]))⟩
 refine⟨by simp[h.len],fun y hy=>?_,?_,fun k y z hy hz=>?_,h.one⟩
 ·rcases List.mem_or_eq_of_mem_set hy with hy|rfl
  ·exact h.pre y hy
  ·simpa using h.pre l (mem_of_getElem? hl)
 ·rw[length_set, ←uU m vs L h.len h.pre i j l x hl hj];rcases h.row.2 with⟨rfl,_⟩|⟨g',cap,cur,rfl,hb,hc,hn,hm,hs,ht⟩
  ·cases hv
  ·obtain rfl:g'=g:=(by simpa [Value.ownBlock] using hv);refine⟨by rw[length_set];exact h.row.1,.inr ⟨g',cap,cur.setIfInBounds (i*(m+1)+j) x,rfl,hb,heap_setCell_same W g' _ cur e _ hc,hn,hm,by simpa using hs,?_⟩⟩;rw[Array.toList_setIfInBounds,List.take_set,ht]
 ·have hd:∃z',L[k]?=some z'∧z'.2=z.2:=by
   by_cases hik:i=k
   ·subst hik;rw[getElem?_set_self (List.getElem?_eq_some_iff.1 hl).1] at hz;cases hz
    exact⟨l,hl,rfl⟩
   ·rw[getElem?_set_ne hik] at hz;exact⟨z,hz,rfl⟩
  obtain⟨z',h1,h2⟩:=hd;have:=h.dat k y z' hy h1;rw[h2] at this;exact this.kept hg (lH this h.row (Ne.symm he))
theorem bL.last{W:World}{base g:Nat}{e:TypeId}{m:Nat}{v:Value}{L:List NE}{vs:List Value}(h:bL W base e m v L vs)(he:e≠5)(i:Nat)(l:NE)(u:Value)(zs:List Int)(hl:L[i]?=some l)(hv:v.ownBlock=some g)(hu:W.ownsRow base 5 1 u zs.length (zs.map (Value.int .u8)))
 (hnew:∀(j:Nat) (u':Value) (b:Nat),vs[j]?=some u'→u'.ownBlock=some b→u.ownBlock≠some b):bL (W.setCell ⟨g,i*(m+1)+m,none⟩ u) base e m v (L.set i (l.1,zs)) (vs.set i u):=by
 have hg:W.grownBy (W.setCell ⟨g,i*(m+1)+m,none⟩ u) v.ownBlock:=by
  rw[hv];exact⟨rfl,rfl,rfl,by simp[World.setCell],fun k hk hne=>Below.heap_setCell W ⟨g,i*(m+1)+m,none⟩ u k (fun e=>hne (by rw[e]))⟩
 have hi:i<L.length:=(List.getElem?_eq_some_iff.1 hl).1;have kept:∀(x:Value) (n:Nat) (xs:List Value),W.ownsRow base 5 1 x n xs→(W.setCell ⟨g,i*(m+1)+m,none⟩ u).ownsRow base 5 1 x n xs:=fun x n xs hx=>hx.kept hg (lH hx h.row (Ne.symm he));have hvs:∀(k:Nat) (x:Value),(vs.set i u)[k]?=some x→(k=i∧x=u)∨(k≠i∧vs[k]?=some x):=fun k x hx=>by
  by_cases hk:i=k
  ·subst hk;rw[getElem?_set_self (by rw[h.len];exact hi)] at hx;cases hx
   exact .inl ⟨rfl,rfl⟩
  ·rw[getElem?_set_ne hk] at hx;exact .inr ⟨fun e=>hk e.symm,hx⟩
 refine⟨by simp[h.len],fun y hy=>?_,?_,fun k y z hy hz=>?_,fun k j x x' b hx hx' hb hb'=>?_⟩
 ·rcases List.mem_or_eq_of_mem_set hy with hy|rfl
  ·exact h.pre y hy
  ·exact h.pre l (mem_of_getElem? hl)
 ·rw[length_set,qF _ L i l zs hl, ←uV m vs L h.len h.pre i u hi];rcases h.row.2 with⟨rfl,_⟩|⟨g',cap,cur,rfl,hb,hc,hn,hm,hs,ht⟩
  ·cases hv
  ·obtain rfl:g'=g:=(by simpa [Value.ownBlock] using hv);refine⟨by rw[length_set];exact h.row.1,.inr ⟨g',cap,cur.setIfInBounds (i*(m+1)+m) u,rfl,hb,heap_setCell_same W g' _ cur e _ hc,hn,hm,by simpa using hs,?_⟩⟩;rw[Array.toList_setIfInBounds,List.take_set,ht]
 ·rcases hvs k y hy with⟨rfl,rfl⟩|⟨hk,hy⟩
  ·rw[getElem?_set_self hi] at hz;cases hz
   exact kept _ _ _ hu
  ·rw[getElem?_set_ne (Ne.symm hk)] at hz;exact kept _ _ _ (h.dat k y z hy hz)
 ·rcases hvs k x hx with⟨h1,h2⟩|⟨h1,h2⟩
  ·rcases hvs j x' hx' with⟨h3,h4⟩|⟨h3,h4⟩
   ·omega
   ·rw[h2] at hb;exact absurd hb (hnew j x' b h4 hb')
  ·rcases hvs j x' hx' with⟨h3,h4⟩|⟨h3,h4⟩
   ·rw[h4] at hb';exact absurd hb' (hnew k x b h2 hb)
   ·exact h.one k j x x' b h2 h4 hb hb'
theorem dM{w:World}{base:Nat}{e:TypeId}{sz:Nat}{v:Value}{n:Nat}{xs:List Value}(h:w.ownsRow base e sz v n xs):∃a cap,v=.slice a n cap:=by
 rcases h.2 with⟨rfl,rfl⟩|⟨g,cap,_,rfl,_⟩
 ·exact⟨_,_,rfl⟩
 ·exact⟨_,_,rfl⟩
theorem Bd{k:IntKind}{w:World}{v:Value}{zs:List Int}(h:Rd k w v zs):∃a cap,v=.slice a zs.length cap:=by
 obtain⟨a,cap,e,_⟩:=h;exact⟨a,cap,e⟩
theorem jB.at{W:World}{m:Nat}{a:Option Addr}{cap:Nat}{L:List NE}{vs:List Value}(h:jB W m (.slice a L.length cap) L vs){i:Nat}{l:NE}(hl:L[i]?=some l):∃b off u,a=some ⟨b,off,none⟩∧b<W.heap.size∧vs[i]?=some u∧Rd .u8 W u l.2∧W.rangeAt b (off+i*(m+1)) (l.1++[u]):=by
 have hi:i<L.length:=(List.getElem?_eq_some_iff.1 hl).1;obtain⟨a',cap',e,hc,_⟩:=h.row;injection e with e1 e2 e3;subst e1;obtain⟨b,off,rfl,hb,hcell⟩:=hc (by omega);obtain⟨w0,hu⟩:∃x,vs[i]?=some x:=⟨_,List.getElem?_eq_getElem (by rw[h.len];exact hi)⟩;refine⟨b,off,w0,rfl,hb,hu,h.dat i _ l hu hl,fun j u hj=>?_⟩;have hjl:j<m+1:=by
  have:=(List.getElem?_eq_some_iff.1 hj).1;simp[h.pre l (mem_of_getElem? hl)] at this;omega
 have:=hcell (i*(m+1)+j) u ((qE m vs L h.len h.pre i j _ l hu hl hjl).trans hj);rw[←Nat.add_assoc] at this;exact this
end
end Go.Proofs.YtlimollpocagiaaGreatDoor
