/- The blocks of a tree, mathematics: what the program's walk tells, and what the model takes -/
import Derived.Test.YtbhpealglhkodaaGreatDoorXc03
import Derived.Deep.RegionWith
namespace Go.Proofs.YtbhpealglhkodaaGreatDoor
set_option linter.all false
set_option maxRecDepth 100000
set_option maxHeartbeats 16000000
section
abbrev HG:=Nat×Nat×Int
abbrev TL:=List HG×Bool
def thenT(a b:TL):TL:=if a.2=true then a else(a.1++b.1,b.2)
def allT:List TL→TL
 |[]=>([],false)
 |a::L=>thenT a (allT L)
theorem allT_ok:∀(L:List TL),(∀a∈L,a.2=false)→allT L=(L.flatMap (·.1),false)
 |[],_=>rfl
 |a::L,h=>by
  have ha:=h a List.mem_cons_self;have hL:=allT_ok L (fun x hx=>h x (List.mem_cons_of_mem _ hx));unfold allT thenT;rw[ha,hL];simp
theorem allT_bad:∀(L:List TL),(allT L).2=false→∀a∈L,a.2=false
 |[],_,a,ha=>by cases ha
 |b::L,h,a,ha=>by
  unfold allT thenT at h;cases hb:b.2 with
  |true=>rw[hb] at h;simp[hb] at h
  |false=>
   rw[hb] at h;simp at h;rcases List.mem_cons.1 ha with rfl|ha
   ·exact hb
   ·exact allT_bad L h a ha
theorem thenT_ok{a b:TL}(ha:a.2=false)(hb:b.2=false):thenT a b=(a.1++b.1,false):=by unfold thenT;rw[ha,hb];simp
theorem thenT_bad{a b:TL}(h:(thenT a b).2=false):a.2=false∧b.2=false:=by
 unfold thenT at h;cases ha:a.2 with
 |true=>rw[ha] at h;simp[ha] at h
 |false=>rw[ha] at h;simp at h;exact⟨rfl,h⟩
theorem flat_same{α β:Type}:∀(L:List α) (f g:α→List β),(∀x∈L,f x=g x)→L.flatMap f=L.flatMap g
 |[],_,_,_=>rfl
 |a::L,f,g,h=>by rw[List.flatMap_cons,List.flatMap_cons,h a List.mem_cons_self,flat_same L f g (fun x hx=>h x (List.mem_cons_of_mem _ hx))]
def goodP(n:Nat)(p:Int):Bool:=p==0||(decide (2≤p)&&decide (p<(n:Int)))
theorem good_zero(n:Nat):goodP n 0=true:=rfl
section
variable (cnt n:Nat) (W:Int→Nat→Int)
def tell0(r:Nat)(p:Int):TL:=if cnt≤r∨p=0 then([],false) else if goodP n p=false then([],true) else([(0,r,p)],false)
def tell1(r:Nat)(p:Int):TL:=if cnt≤12+r*128∨p=0 then([],false) else if goodP n p=false then([],true) else thenT ([(1,r,p)],false) (allT ((List.range 128).map fun k=>tell0 cnt n (12+r*128+k) (W p k)))
def tell2(p:Int):TL:=if cnt≤140∨p=0 then([],false) else if goodP n p=false then([],true) else thenT ([(2,0,p)],false) (allT ((List.range 128).map fun k=>tell1 cnt n W (1+k) (W p k)))
def tellR(D:Nat→Int)(S X:Int):TL:=thenT (allT ((List.range 12).map fun i=>tell0 cnt n i (D i))) (thenT (tell1 cnt n W 0 S) (tell2 cnt n W X))
def hwP(p:Int)(k:Nat):Int:=if p=0 then 0 else W p k
def datP(D:Nat→Int)(S X:Int)(i:Nat):Int:=if i<12 then D i else if i<140 then hwP W S (i-12) else hwP W (hwP W X ((i-140)/128)) ((i-140)%128)
def apartP(D:Nat→Int)(S X:Int):Prop:=(∀i,i<12→goodP n (D i)=true)∧goodP n S=true∧goodP n X=true∧(∀k,k<128→140+128*k<cnt→goodP n (hwP W X k)=true)∧∀i,i<cnt→goodP n (datP W D S X i)=true
def segP(b m:Nat)(f:Nat→Int):List HG:=(List.range m).flatMap fun k=>if cnt≤b+k∨f k=0 then [] else [(0,b+k,f k)]
def hd1P(r:Nat)(p:Int):List HG:=if cnt≤12+r*128∨p=0 then [] else [(1,r,p)]
def hd2P(p:Int):List HG:=if cnt≤140∨p=0 then [] else [(2,0,p)]
variable {cnt n W}
theorem tell0_ok{r:Nat}{p:Int}(h:r<cnt→goodP n p=true):tell0 cnt n r p=(if cnt≤r∨p=0 then [] else [(0,r,p)],false):=by
 unfold tell0;by_cases h0:cnt≤r∨p=0
 ·rw[if_pos h0,if_pos h0]
 ·rw[if_neg h0,if_neg h0,if_neg (by rw[h (by omega)];decide)]
theorem tell0_bad{r:Nat}{p:Int}(h:(tell0 cnt n r p).2=false)(hr:r<cnt):goodP n p=true:=by
 unfold tell0 at h;by_cases hp:p=0
 ·rw[hp];rfl
 ·rw[if_neg (by omega)] at h;cases hg:goodP n p with
  |true=>rfl
  |false=>rw[if_pos hg] at h;cases h
theorem seg_ok(b m:Nat)(f:Nat→Int)(h:∀k,k<m→b+k<cnt→goodP n (f k)=true):allT ((List.range m).map fun k=>tell0 cnt n (b+k) (f k))=(segP cnt b m f,false):=by
 rw[allT_ok _ (fun a ha=>by
  obtain⟨k,hk,rfl⟩:=List.mem_map.1 ha;rw[tell0_ok (h k (List.mem_range.1 hk))])]
 refine congrArg (fun x=>(x,false)) ?_;unfold segP;rw[List.flatMap_map];refine flat_same _ _ _ (fun k hk=>?_);rw[tell0_ok (h k (List.mem_range.1 hk))]
theorem seg_bad{b m:Nat}{f:Nat→Int}(h:(allT ((List.range m).map fun k=>tell0 cnt n (b+k) (f k))).2=false):∀k,k<m→b+k<cnt→goodP n (f k)=true:=fun k hk hb=>
 tell0_bad (allT_bad _ h _ (List.mem_map.2 ⟨k,List.mem_range.2 hk,rfl⟩)) hb
theorem seg_none{b m:Nat}{f:Nat→Int}(h:cnt≤b∨∀k,f k=0):segP cnt b m f=[]:=by
 unfold segP;rw[List.flatMap_eq_nil_iff];intro k _;rw[if_pos (h.elim (fun h=>.inl (by omega)) (fun h=>.inr (h k)))]
theorem hwP_zero(k:Nat):hwP W 0 k=0:=by unfold hwP;rw[if_pos rfl]
theorem hwP_some{p:Int}(h:p≠0)(k:Nat):hwP W p k=W p k:=by unfold hwP;rw[if_neg h]
def ok1P(cnt n:Nat)(W:Int→Nat→Int)(r:Nat)(p:Int):Prop:=(12+r*128<cnt→goodP n p=true)∧∀k,k<128→12+r*128+k<cnt→goodP n (hwP W p k)=true
theorem tell1_ok{r:Nat}{p:Int}(h:ok1P cnt n W r p):tell1 cnt n W r p=(hd1P cnt r p++segP cnt (12+r*128) 128 (hwP W p),false):=by
 unfold tell1 hd1P;by_cases h0:cnt≤12+r*128∨p=0
 ·rw[if_pos h0,if_pos h0,seg_none (h0.elim .inl (fun e=>.inr (fun k=>by rw[e];exact hwP_zero k)))];rfl
 ·have hp:p≠0:=fun e=>h0 (.inr e);rw[if_neg h0,if_neg h0,if_neg (by rw[h.1 (by omega)];decide)];have e:=seg_ok (n:=n) (cnt:=cnt) (12+r*128) 128 (W p) (fun k hk hb=>by rw[←hwP_some (W:=W) hp k];exact h.2 k hk hb);rw[e,thenT_ok rfl rfl];have:hwP W p=W p:=funext (hwP_some hp);rw[this]
theorem tell1_bad{r:Nat}{p:Int}(h:(tell1 cnt n W r p).2=false):ok1P cnt n W r p:=by
 unfold tell1 at h;by_cases hp:p=0
 ·subst hp;exact⟨fun _=>rfl,fun k _ _=>by rw[hwP_zero];rfl⟩
 ·by_cases hc:cnt≤12+r*128
  ·exact⟨fun h=>absurd h (by omega),fun k _ h=>absurd h (by omega)⟩
  ·rw[if_neg (by omega)] at h;cases hg:goodP n p with
   |false=>rw[if_pos hg] at h;cases h
   |true=>
    rw[if_neg (by rw[hg];decide)] at h;exact⟨fun _=>hg,fun k hk hb=>by rw[hwP_some hp];exact seg_bad (thenT_bad h).2 k hk hb⟩
def ok2P(cnt n:Nat)(W:Int→Nat→Int)(p:Int):Prop:=(140<cnt→goodP n p=true)∧∀k,k<128→ok1P cnt n W (1+k) (hwP W p k)
theorem tell2_ok{p:Int}(h:ok2P cnt n W p):tell2 cnt n W p=(hd2P cnt p++(List.range 128).flatMap (fun k=>hd1P cnt (1+k) (hwP W p k)++segP cnt (12+(1+k)*128) 128 (hwP W (hwP W p k))),false):=by
 unfold tell2 hd2P;by_cases h0:cnt≤140∨p=0
 ·rw[if_pos h0,if_pos h0];have e:(List.range 128).flatMap (fun k=>hd1P cnt (1+k) (hwP W p k)++segP cnt (12+(1+k)*128) 128 (hwP W (hwP W p k)))=[]:=by
   rw[List.flatMap_eq_nil_iff];intro k _;have hz:cnt≤12+(1+k)*128∨hwP W p k=0:=h0.elim (fun h=>.inl (by omega)) (fun e=>.inr (by rw[e];exact hwP_zero k));unfold hd1P;rw[if_pos hz,seg_none (hz.elim .inl (fun e=>.inr (fun j=>by rw[e];exact hwP_zero j)))];rfl
  rw[e];rfl
 ·have hp:p≠0:=fun e=>h0 (.inr e);rw[if_neg h0,if_neg h0,if_neg (by rw[h.1 (by omega)];decide)];have hk:∀k,k<128→tell1 cnt n W (1+k) (W p k)=(hd1P cnt (1+k) (hwP W p k)++segP cnt (12+(1+k)*128) 128 (hwP W (hwP W p k)),false):=fun k hk=>by
   have:=tell1_ok (h.2 k hk);rw[hwP_some hp k] at this⊢;exact this
  rw[allT_ok _ (fun a ha=>by
   obtain⟨k,hk2,rfl⟩:=List.mem_map.1 ha;rw[hk k (List.mem_range.1 hk2)]),thenT_ok rfl rfl,List.flatMap_map]
  refine congrArg (fun x=>(_++x,false)) (flat_same _ _ _ (fun k hk2=>?_));rw[hk k (List.mem_range.1 hk2)]
theorem tell2_bad{p:Int}(h:(tell2 cnt n W p).2=false):ok2P cnt n W p:=by
 unfold tell2 at h;by_cases hp:p=0
 ·subst hp;exact⟨fun _=>rfl,fun k _=>⟨fun _=>by rw[hwP_zero];rfl,fun j _ _=>by rw[hwP_zero,hwP_zero];rfl⟩⟩
 ·by_cases hc:cnt≤140
  ·exact⟨fun h=>absurd h (by omega),fun k _=>⟨fun h=>absurd h (by omega),fun j _ h=>absurd h (by omega)⟩⟩
  ·rw[if_neg (by omega)] at h;cases hg:goodP n p with
   |false=>rw[if_pos hg] at h;cases h
   |true=>
    rw[if_neg (by rw[hg];decide)] at h;exact⟨fun _=>hg,fun k hk=>by rw[hwP_some hp];exact tell1_bad (allT_bad _ (thenT_bad h).2 _ (List.mem_map.2 ⟨k,List.mem_range.2 hk,rfl⟩))⟩
structure RootP(cnt:Nat)(D:Nat→Int)(S X:Int):Prop where
 d:∀i,cnt≤i→D i=0
 s:cnt≤12→S=0
 x:cnt≤140→X=0
 c:cnt≤512
def listR(cnt:Nat)(W:Int→Nat→Int)(D:Nat→Int)(S X:Int):List HG:=segP cnt 0 12 D++(hd1P cnt 0 S++segP cnt 12 128 (hwP W S)++(hd2P cnt X++(List.range 128).flatMap (fun k=>hd1P cnt (1+k) (hwP W X k)++segP cnt (12+(1+k)*128) 128 (hwP W (hwP W X k)))))
theorem tellR_ok{D:Nat→Int}{S X:Int}(h:apartP cnt n W D S X):tellR cnt n W D S X=(listR cnt W D S X,false):=by
 obtain⟨hD,hS,hX,hO,hd⟩:=h;have e0:allT ((List.range 12).map fun i=>tell0 cnt n i (D i))=(segP cnt 0 12 D,false):=by
  have:=seg_ok (cnt:=cnt) (n:=n) 0 12 D (fun k hk _=>hD k hk);simpa using this
 have e1:ok1P cnt n W 0 S:=⟨fun _=>hS,fun k hk hb=>by
  have:=hd (12+k) (by omega);unfold datP at this;rw[if_neg (by omega),if_pos (by omega),Nat.add_sub_cancel_left] at this;exact this⟩
 have e2:ok2P cnt n W X:=⟨fun _=>hX,fun k hk=>⟨fun hc=>hO k hk (by omega),fun j hj hb=>by
  have:=hd (140+128*k+j) (by omega);unfold datP at this;rw[if_neg (by omega),if_neg (by omega),show(140+128*k+j-140)/128=k by omega,show(140+128*k+j-140)%128=j by omega] at this;exact this⟩⟩
 unfold tellR;rw[e0,tell1_ok e1,tell2_ok e2,thenT_ok rfl rfl,thenT_ok rfl rfl];rfl
theorem tellR_bad{D:Nat→Int}{S X:Int}(hR:RootP cnt D S X)(h:(tellR cnt n W D S X).2=false):apartP cnt n W D S X:=by
 have h1:=thenT_bad h;have h2:=thenT_bad h1.2;have o0:∀k,k<12→0+k<cnt→goodP n (D k)=true:=seg_bad (by simpa using h1.1);have o1:=tell1_bad h2.1;have o2:=tell2_bad h2.2;refine⟨fun i hi=>?_,?_,?_,fun k hk hc=>(o2.2 k hk).1 (by omega),fun i hi=>?_⟩
 ·by_cases hc:i<cnt
  ·exact o0 i hi (by omega)
  ·rw[hR.d i (by omega)];rfl
 ·by_cases hc:12<cnt
  ·exact o1.1 (by omega)
  ·rw[hR.s (by omega)];rfl
 ·by_cases hc:140<cnt
  ·exact o2.1 hc
  ·rw[hR.x (by omega)];rfl
 ·unfold datP;by_cases h12:i<12
  ·rw[if_pos h12];exact o0 i h12 (by omega)
  ·rw[if_neg h12];by_cases h140:i<140
   ·rw[if_pos h140];exact o1.2 (i-12) (by omega) (by omega)
   ·rw[if_neg h140];have hc:=hR.c;exact(o2.2 ((i-140)/128) (by omega)).2 ((i-140)%128) (by omega) (by omega)
end
end
section
section
variable {α:Type}
theorem flat_nil(L:List Nat)(g:Nat→List α)(h:∀k∈L,g k=[]):L.flatMap g=[]:=List.flatMap_eq_nil_iff.2 h
theorem flat_cut(m c:Nat)(g:Nat→List α)(h:∀k,c≤k→g k=[]):(List.range m).flatMap g=(List.range (min m c)).flatMap g:=by
 rcases Nat.le_total m c with hm|hm
 ·rw[Nat.min_eq_left hm]
 ·rw[Nat.min_eq_right hm];obtain⟨d,rfl⟩:∃d,m=c+d:=⟨m-c,by omega⟩;rw[List.range_add,List.flatMap_append,List.flatMap_map,flat_nil (List.range d) _ (fun k _=>h _ (by omega)),List.append_nil]
theorem flat_add(a b:Nat)(g:Nat→List α):(List.range (a+b)).flatMap g=(List.range a).flatMap g++(List.range b).flatMap (fun k=>g (a+k)):=by
 rw[List.range_add,List.flatMap_append,List.flatMap_map]
theorem flat_nest(c:Nat)(g:Nat→List α):∀K:Nat,(List.range K).flatMap (fun k=>(List.range 128).flatMap fun j=>g (c+128*k+j))=(List.range (128*K)).flatMap (fun i=>g (c+i))
 |0=>rfl
 |K+1=>by
  rw[flat_add K 1,flat_nest c g K,Nat.mul_succ,flat_add (128*K) 128];refine congrArg (_++·) ?_;rw[show List.range 1=[0] from rfl,List.flatMap_cons,List.flatMap_nil,List.append_nil];exact flat_same _ _ _ (fun j _=>congrArg g (by omega))
end
section
variable {cnt n:Nat} {W:Int→Nat→Int} {D:Nat→Int} {S X:Int}
theorem dat_lo{i:Nat}(h:i<12):datP W D S X i=D i:=by unfold datP;rw[if_pos h]
theorem dat_mid{k:Nat}(h:k<128):datP W D S X (12+k)=hwP W S k:=by unfold datP;rw[if_neg (by omega),if_pos (by omega),Nat.add_sub_cancel_left]
theorem dat_hi{k j:Nat}(h:j<128):datP W D S X (140+128*k+j)=hwP W (hwP W X k) j:=by
 unfold datP;rw[if_neg (by omega),if_neg (by omega),show(140+128*k+j-140)/128=k by omega,show(140+128*k+j-140)%128=j by omega]
def gP(cnt:Nat)(W:Int→Nat→Int)(D:Nat→Int)(S X:Int)(r:Nat):List HG:=if cnt≤r∨datP W D S X r=0 then [] else [(0,r,datP W D S X r)]
theorem seg_g(b m:Nat)(f:Nat→Int)(h:∀k,k<m→datP W D S X (b+k)=f k):segP cnt b m f=(List.range m).flatMap (fun k=>gP cnt W D S X (b+k)):=by
 unfold segP gP;exact flat_same _ _ _ (fun k hk=>by rw[h k (List.mem_range.1 hk)])
theorem seg_level(b m:Nat)(f:Nat→Int):(segP cnt b m f).filter (fun h=>h.1==0)=segP cnt b m f:=by
 rw[List.filter_eq_self];intro x hx;unfold segP at hx;obtain⟨k,_,hk⟩:=List.mem_flatMap.1 hx;by_cases hc:cnt≤b+k∨f k=0
 ·rw[if_pos hc] at hk;cases hk
 ·rw[if_neg hc,List.mem_singleton] at hk;rw[hk];rfl
theorem hd1_level(r:Nat)(p:Int):(hd1P cnt r p).filter (fun h=>h.1==0)=[]:=by unfold hd1P;split<;>rfl
theorem hd2_level(p:Int):(hd2P cnt p).filter (fun h=>h.1==0)=[]:=by unfold hd2P;split<;>rfl
theorem filter_flat{α β:Type}(q:β→Bool)(g:α→List β):∀L:List α,(L.flatMap g).filter q=L.flatMap (fun x=>(g x).filter q)
 |[]=>rfl
 |a::L=>by rw[List.flatMap_cons,List.flatMap_cons,List.filter_append,filter_flat q g L]
def datL(cnt:Nat)(W:Int→Nat→Int)(D:Nat→Int)(S X:Int):List HG:=(List.range cnt).flatMap fun r=>if datP W D S X r=0 then [] else [(0,r,datP W D S X r)]
theorem listR_data(hc:cnt≤512):(listR cnt W D S X).filter (fun h=>h.1==0)=datL cnt W D S X:=by
 unfold listR;rw[List.filter_append,List.filter_append,List.filter_append,List.filter_append,seg_level,hd1_level,seg_level,hd2_level,List.nil_append,List.nil_append,filter_flat];have e0:(List.range 128).flatMap (fun k=>(hd1P cnt (1+k) (hwP W X k)++segP cnt (12+(1+k)*128) 128 (hwP W (hwP W X k))).filter (fun h=>h.1==0))=(List.range (128*128)).flatMap (fun i=>gP cnt W D S X (140+i)):=by
  rw[←flat_nest 140 (gP cnt W D S X) 128];refine flat_same _ _ _ (fun k _=>?_);rw[List.filter_append,hd1_level,List.nil_append,seg_level,seg_g (W:=W) (D:=D) (S:=S) (X:=X) _ _ _ (fun j hj=>by rw[show 12+(1+k)*128+j=140+128*k+j by omega];exact dat_hi hj)];exact flat_same _ _ _ (fun j _=>by rw[show 12+(1+k)*128+j=140+128*k+j by omega])
 rw[e0,seg_g (W:=W) (D:=D) (S:=S) (X:=X) 0 12 D (fun k hk=>by rw[Nat.zero_add];exact dat_lo hk),seg_g (W:=W) (D:=D) (S:=S) (X:=X) 12 128 _ (fun k hk=>dat_mid hk)];have e1:(List.range 12).flatMap (fun k=>gP cnt W D S X (0+k))++((List.range 128).flatMap (fun k=>gP cnt W D S X (12+k))++(List.range (128*128)).flatMap (fun i=>gP cnt W D S X (140+i)))=(List.range (12+128+128*128)).flatMap (gP cnt W D S X):=by
  have e9:(List.range 12).flatMap (fun k=>gP cnt W D S X (0+k))=(List.range 12).flatMap (gP cnt W D S X):=flat_same _ _ _ (fun k _=>by rw[Nat.zero_add]);rw[flat_add (12+128),flat_add 12 128,List.append_assoc,e9]
 rw[e1,flat_cut _ cnt _ (fun k hk=>by unfold gP;rw[if_pos (.inl hk)]),Nat.min_eq_right (by omega)];unfold datL gP;refine flat_same _ _ _ (fun k hk=>?_);have:=List.mem_range.1 hk;by_cases h0:datP W D S X k=0
 ·rw[if_pos h0,if_pos (.inr h0)]
 ·rw[if_neg h0,if_neg (by omega)]
def cutM(L:List Int)(lo hi:Nat):List Int:=(L.drop lo).take (hi-lo)
theorem cut_range(f:Nat→Int)(c lo m:Nat):cutM ((List.range c).map f) lo (lo+m)=(List.range (min m (c-lo))).map (fun k=>f (lo+k)):=by
 unfold cutM;refine List.ext_getElem? (fun i=>?_);rw[Nat.add_sub_cancel_left,List.getElem?_take,List.getElem?_drop,List.getElem?_map,List.getElem?_map];by_cases h1:i<m
 ·rw[if_pos h1];by_cases h2:lo+i<c
  ·rw[List.getElem?_range h2,List.getElem?_range (by omega)];rfl
  ·rw[List.getElem?_eq_none (by rw[List.length_range];omega),List.getElem?_eq_none (by rw[List.length_range];omega)];rfl
 ·rw[if_neg h1,List.getElem?_eq_none (by rw[List.length_range];omega)];rfl
def someM(L:List Int):List Int:=L.filter (fun p=>p !=0)
theorem some_flat(f:Nat→Int):∀L:List Nat,someM (L.map f)=L.flatMap (fun k=>if f k=0 then [] else [f k])
 |[]=>rfl
 |a::L=>by
  have ih:=some_flat f L;unfold someM at ih⊢;rw[List.map_cons,List.flatMap_cons,List.filter_cons,ih];by_cases h:f a=0
  ·rw[if_pos h,if_neg (by simp[h])];rfl
  ·rw[if_neg h,if_pos (by simp[h])];rfl
theorem seg_nums(b m:Nat)(f:Nat→Int)(h:∀k,k<m→datP W D S X (b+k)=f k):(segP cnt b m f).map (fun h=>h.2.2)=someM (cutM ((List.range cnt).map (datP W D S X)) b (b+m)):=by
 rw[cut_range,some_flat];unfold segP;rw[List.map_flatMap,flat_cut m (cnt-b) _ (fun k hk=>by rw[if_pos (.inl (by omega))];rfl)];refine flat_same _ _ _ (fun k hk=>?_);have hk2:=List.mem_range.1 hk;rw[h k (by omega)];by_cases h0:f k=0
 ·rw[if_pos h0,if_pos (.inr h0)];rfl
 ·rw[if_neg h0,if_neg (by omega)];rfl
theorem some_append(A B:List Int):someM (A++B)=someM A++someM B:=List.filter_append ..
theorem some_one(p:Int):someM [p]=if p=0 then [] else [p]:=by
 unfold someM;by_cases h:p=0
 ·rw[if_pos h,h];rfl
 ·rw[if_neg h];simp[h]
def secN(cnt:Nat):Nat:=min 128 ((cnt-140+127)/128)
theorem sec_lt{k:Nat}(h:k<secN cnt):140+128*k<cnt:=by unfold secN at h;omega
theorem sec_ge{k:Nat}(hc:cnt≤512)(h:secN cnt≤k):cnt≤140+128*k:=by unfold secN at h;omega
def allM(cnt:Nat)(W:Int→Nat→Int)(D:Nat→Int)(S X:Int):List Int:=
 let L:=(List.range cnt).map (datP W D S X)
 cutM L 0 12++[S]++cutM L 12 140++[X]++(List.range (secN cnt)).flatMap (fun k=>hwP W X k::cutM L (140+128*k) (268+128*k))
theorem listR_nums(hR:RootP cnt D S X):(listR cnt W D S X).map (fun h=>h.2.2)=someM (allM cnt W D S X):=by
 have hc:=hR.c;unfold listR allM;simp only[List.map_append,some_append];rw[seg_nums (W:=W) (D:=D) (S:=S) (X:=X) 0 12 D (fun k hk=>by rw[Nat.zero_add];exact dat_lo hk),seg_nums (W:=W) (D:=D) (S:=S) (X:=X) 12 128 _ (fun k hk=>dat_mid hk)];have h1:(hd1P cnt 0 S).map (fun h=>h.2.2)=someM [S]:=by
  rw[some_one];unfold hd1P;by_cases h0:S=0
  ·rw[if_pos (.inr h0),if_pos h0];rfl
  ·rw[if_neg (fun e=>e.elim (fun e=>h0 (hR.s (by omega))) h0),if_neg h0];rfl
 have h2:(hd2P cnt X).map (fun h=>h.2.2)=someM [X]:=by
  rw[some_one];unfold hd2P;by_cases h0:X=0
  ·rw[if_pos (.inr h0),if_pos h0];rfl
  ·rw[if_neg (fun e=>e.elim (fun e=>h0 (hR.x e)) h0),if_neg h0];rfl
 have h3:((List.range 128).flatMap (fun k=>hd1P cnt (1+k) (hwP W X k)++segP cnt (12+(1+k)*128) 128 (hwP W (hwP W X k)))).map (fun h=>h.2.2)=someM ((List.range (secN cnt)).flatMap (fun k=>hwP W X k::cutM ((List.range cnt).map (datP W D S X)) (140+128*k) (268+128*k))):=by
  unfold someM;rw[filter_flat,List.map_flatMap];have hs:secN cnt≤128:=by unfold secN;omega
  rw[flat_cut 128 (secN cnt) _ (fun k hk=>by
   have:=sec_ge hc hk;rw[show hd1P cnt (1+k) (hwP W X k)=[] by unfold hd1P;rw[if_pos (.inl (by omega))],seg_none (.inl (by omega))];rfl),Nat.min_eq_right hs]
  refine flat_same _ _ _ (fun k hk=>?_);have hk2:=sec_lt (List.mem_range.1 hk);rw[List.map_append,seg_nums (W:=W) (D:=D) (S:=S) (X:=X) _ _ _ (fun j hj=>by rw[show 12+(1+k)*128+j=140+128*k+j by omega];exact dat_hi hj),show 12+(1+k)*128=140+128*k by omega,show 140+128*k+128=268+128*k by omega];show _=someM ([hwP W X k]++_);rw[some_append,some_one];refine congrArg (·++_) ?_;unfold hd1P;by_cases h0:hwP W X k=0
  ·rw[if_pos (.inr h0),if_pos h0];rfl
  ·rw[if_neg (by omega),if_neg h0];rfl
 rw[h1,h2,h3];simp only[List.append_assoc]
end
end
section
def cpB(out:List Int)(o:Nat)(B:List Int):List Int:=out.take o++B.take (out.length-o)++out.drop (o+min B.length (out.length-o))
theorem cpB_len(out:List Int)(o:Nat)(B:List Int)(h:o≤out.length):(cpB out o B).length=out.length:=by
 unfold cpB;simp only[List.length_append,List.length_take,List.length_drop];omega
def contF(blk:Int→List Int)(out:List Int)(h:HG):List Int:=if h.1=0 then cpB out (h.2.1*512) (blk h.2.2) else out
section
variable {cnt:Nat} {W:Int→Nat→Int} {D:Nat→Int} {S X:Int} {blk:Int→List Int}
theorem cont_filter(L:List HG)(out:List Int):L.foldl (contF blk) out=(L.filter (fun h=>h.1==0)).foldl (contF blk) out:=by
 induction L generalizing out with
 |nil=>rfl
 |cons a L ih=>
  rw[List.filter_cons];by_cases h:a.1=0
  ·rw[if_pos (by simp[h]),List.foldl_cons,List.foldl_cons];exact ih _
  ·rw[if_neg (by simp[h]),List.foldl_cons, ←ih];congr 1;unfold contF;rw[if_neg h]
def bytP(blk:Int→List Int)(W:Int→Nat→Int)(D:Nat→Int)(S X:Int)(i:Nat):List Int:=if datP W D S X i=0 then List.replicate 512 0 else blk (datP W D S X i)
theorem flat_len{g:Nat→List Int}(h:∀i,(g i).length=512):∀r:Nat,((List.range r).flatMap g).length=r*512
 |0=>rfl
 |r+1=>by rw[flat_add r 1,List.length_append,flat_len h r,show List.range 1=[0] from rfl,List.flatMap_cons,List.flatMap_nil,List.append_nil,h];omega
theorem flat_succ(g:Nat→List Int)(r:Nat):(List.range (r+1)).flatMap g=(List.range r).flatMap g++g r:=by rw[flat_add r 1,show List.range 1=[0] from rfl,List.flatMap_cons,List.flatMap_nil,List.append_nil];rfl
theorem cont_upto(hb:∀p,(blk p).length=512)(size:Nat):∀r:Nat,(r=0∨(r-1)*512<size)→
 ((List.range r).flatMap fun r=>if datP W D S X r=0 then [] else [((0:Nat),r,datP W D S X r)]).foldl (contF blk) (List.replicate size 0)=(((List.range r).flatMap (bytP blk W D S X)).take size)++List.replicate (size-r*512) 0
 |0,_=>by simp
 |r+1,h=>by
  have hr:r*512<size:=by
   rcases h with h|h;· cases h
   ·simpa using h
  have hl:∀i,(bytP blk W D S X i).length=512:=fun i=>by
   unfold bytP;split;· exact List.length_replicate ..
   ·exact hb _
  rw[flat_add r 1,show List.range 1=[0] from rfl,List.flatMap_cons,List.flatMap_nil,List.append_nil,List.foldl_append,cont_upto hb size r (by omega),flat_succ];have hM:=flat_len hl r;obtain⟨M,hMe⟩:∃M,M=(List.range r).flatMap (bytP blk W D S X):=⟨_,rfl⟩;rw[←hMe] at hM⊢;rw[List.take_of_length_le (by omega),List.take_append,List.take_of_length_le (l:=M) (by omega),hM,Nat.add_zero];by_cases h0:datP W D S X r=0
  ·rw[if_pos h0,List.foldl_nil];have e:bytP blk W D S X r=List.replicate 512 0:=(by unfold bytP;rw[if_pos h0]);rw[e,List.take_replicate,List.append_assoc,List.replicate_append_replicate];refine congrArg (M++·) (congrArg (List.replicate · 0) (by omega))
  ·rw[if_neg h0,List.foldl_cons,List.foldl_nil];have e:bytP blk W D S X r=blk (datP W D S X r):=(by unfold bytP;rw[if_neg h0]);rw[e];unfold contF;rw[if_pos rfl];unfold cpB;simp only[List.length_append,hM,List.length_replicate,hb];rw[show r*512+(size-r*512)-r*512=size-r*512 by omega,List.take_left' hM];congr 1;rw[List.drop_append,hM,List.drop_eq_nil_of_le (by omega),List.nil_append,List.drop_replicate];exact congrArg (List.replicate · 0) (by omega)
theorem cont_all(hb:∀p,(blk p).length=512)(hc:cnt≤512)(size:Nat)(h1:size≤cnt*512)(h2:cnt=0∨(cnt-1)*512<size):(listR cnt W D S X).foldl (contF blk) (List.replicate size 0)=((List.range cnt).flatMap (bytP blk W D S X)).take size:=by
 rw[cont_filter,listR_data hc];unfold datL;rw[cont_upto hb size cnt h2,show size-cnt*512=0 by omega];simp
end
end
section
open Go.RowKit
structure Rdr(w0 w:World)(b lo:Nat)(ok:Bool)(dv:Value)(zs:List Int)(pos:Nat):Prop where
 ck:Ck w b lo 21 ok
 data:w.cell? ⟨b,2,none⟩=some dv
 at_:w.cell? ⟨b,3,none⟩=some (.int .i64 pos)
 fr:w.frozen? ⟨b,3,none⟩=false
 old:Below b w0 w
 size:w0.heap.size=b
 rd:Rd .u8 w0 dv zs
 le:pos≤zs.length
 lo1:b<lo
 lo2:lo≤w.heap.size
theorem Rdr.read{w0 w:World}{b lo:Nat}{ok:Bool}{dv:Value}{zs:List Int}{pos:Nat}(h:Rdr w0 w b lo ok dv zs pos):Rd .u8 w dv zs:=
 h.rd.below (by rw[h.size];exact h.old)
theorem Rdr.tch{w0 w w':World}{b lo:Nat}{ok ok':Bool}{dv:Value}{zs:List Int}{pos:Nat}(h:Rdr w0 w b lo ok dv zs pos)(hc:Ck w' b lo 21 ok')(ht:Tch b w w'):Rdr w0 w' b lo ok' dv zs pos:=
 ⟨hc,(ht.2.1 2 (by omega)).trans h.data,(ht.2.1 3 (by omega)).trans h.at_,(ht.2.2 3).trans h.fr,ht.under h.old (Nat.le_refl _) (Nat.le_of_lt h.ck.lt),h.size,h.rd,h.le,h.lo1,Nat.le_trans h.lo2 ht.1.size⟩
def unle:List Int→Nat
 |[]=>0
 |z::zs=>z.toNat+256*unle zs
theorem unle_lt(zs:List Int)(h:∀z∈zs,0≤z∧z<256):unle zs<256^zs.length:=by
 induction zs with
 |nil=>simp[unle]
 |cons y ys ih=>
  have h1:=h y (by simp);have h2:=ih (fun z hz=>h z (by simp[hz]));rw[unle,List.length_cons,Nat.pow_succ];have:y.toNat<256:=by omega
  have h3:unle ys+1≤256^ys.length:=h2;have:=Nat.mul_le_mul_left 256 h3;omega
end
end Go.Proofs.YtbhpealglhkodaaGreatDoor
