/- The blocks of a tree, mathematics: what the program's walk tells, and what the model takes -/
import Derived.Test.YtlimollpocagiaaGreatDoorXa01
import Derived.RangeFuncNested
import Derived.RangeFuncBound
import Derived.RangeFuncCalls
import Derived.RangeFuncLeaves
namespace Go.Proofs.YtlimollpocagiaaGreatDoor
open Go.Proofs.Tryz
open _root_.List (flatMap_cons range flatMap_map append_nil flatMap_nil filter_append nil_append append_assoc length_range foldl_cons replicate)
set_option linter.all false
set_option maxRecDepth 100000
set_option maxHeartbeats 16000000
section
abbrev HG:=Nat×Nat×Int
abbrev TL:=List HG×Bool
def bH(a b:TL):TL:=if a.2=true then a else(a.1++b.1,b.2)
def bR:List TL→TL
 |[]=>([],false)
 |a::L=>bH a (bR L)
theorem kV:∀(L:List TL),(∀a∈L,a.2=false)→bR L=(L.flatMap (·.1),false)
 |[],_=>rfl
 |a::L,h=>by
  have ha:=h a List.mem_cons_self;have hL:=kV L (fun x hx=>h x (List.mem_cons_of_mem _ hx));unfold bR bH;rw[ha,hL];simp
theorem pE:∀(L:List TL),(bR L).2=false→∀a∈L,a.2=false
 |[],_,a,ha=>by cases ha
 |b::L,h,a,ha=>by
  unfold bR bH at h;cases hb:b.2 with
  |true=>rw[hb] at h;simp[hb] at h
  |false=>
   rw[hb] at h;simp at h;rcases List.mem_cons.1 ha with rfl|ha
   ·exact hb
   ·exact pE L h a ha
theorem mZ{a b:TL}(ha:a.2=false)(hb:b.2=false):bH a b=(a.1++b.1,false):=by unfold bH;rw[ha,hb];simp
theorem m9{a b:TL}(h:(bH a b).2=false):a.2=false∧b.2=false:=by
 unfold bH at h;cases ha:a.2 with
 |true=>rw[ha] at h;simp[ha] at h
 |false=>rw[ha] at h;simp at h;exact⟨rfl,h⟩
theorem gW{α β:Type}:∀(L:List α) (f g:α→List β),(∀x∈L,f x=g x)→L.flatMap f=L.flatMap g
 |[],_,_,_=>rfl
 |a::L,f,g,h=>by rw[flatMap_cons,flatMap_cons,h a List.mem_cons_self,gW L f g (fun x hx=>h x (List.mem_cons_of_mem _ hx))]
def be(n:Nat)(p:Int):Bool:=p==0||(decide (2≤p)&&decide (p<(n:Int)))
theorem yJ(n:Nat):be n 0=true:=rfl
section
variable (cnt n:Nat) (W:Int→Nat→Int)
def iN(r:Nat)(p:Int):TL:=if cnt≤r∨p=0 then([],false) else if be n p=false then([],true) else([(0,r,p)],false)
def iO(r:Nat)(p:Int):TL:=if cnt≤12+r*128∨p=0 then([],false) else if be n p=false then([],true) else bH ([(1,r,p)],false) (bR ((range 128).map fun k=>iN cnt n (12+r*128+k) (W p k)))
def jO(p:Int):TL:=if cnt≤140∨p=0 then([],false) else if be n p=false then([],true) else bH ([(2,0,p)],false) (bR ((range 128).map fun k=>iO cnt n W (1+k) (W p k)))
def kW(D:Nat→Int)(S X:Int):TL:=bH (bR ((range 12).map fun i=>iN cnt n i (D i))) (bH (iO cnt n W 0 S) (jO cnt n W X))
def aQ(p:Int)(k:Nat):Int:=if p=0 then 0 else W p k
def bC(D:Nat→Int)(S X:Int)(i:Nat):Int:=if i<12 then D i else if i<140 then aQ W S (i-12) else aQ W (aQ W X ((i-140)/128)) ((i-140)%128)
def fM(D:Nat→Int)(S X:Int):Prop:=(∀i,i<12→be n (D i)=true)∧be n S=true∧be n X=true∧(∀k,k<128→140+128*k<cnt→be n (aQ W X k)=true)∧∀i,i<cnt→be n (bC W D S X i)=true
def cZ(b m:Nat)(f:Nat→Int):List HG:=(range m).flatMap fun k=>if cnt≤b+k∨f k=0 then [] else [(0,b+k,f k)]
def dB(r:Nat)(p:Int):List HG:=if cnt≤12+r*128∨p=0 then [] else [(1,r,p)]
def ji(p:Int):List HG:=if cnt≤140∨p=0 then [] else [(2,0,p)]
variable {cnt n W}
theorem sG{r:Nat}{p:Int}(h:r<cnt→be n p=true):iN cnt n r p=(if cnt≤r∨p=0 then [] else [(0,r,p)],false):=by
 unfold iN;by_cases h0:cnt≤r∨p=0
 ·rw[if_pos h0,if_pos h0]
 ·rw[if_neg h0,if_neg h0,if_neg (by rw[h (by omega)];decide)]
theorem yK{r:Nat}{p:Int}(h:(iN cnt n r p).2=false)(hr:r<cnt):be n p=true:=by
 unfold iN at h;by_cases hp:p=0
 ·rw[hp];rfl
 ·rw[if_neg (by omega)] at h;cases hg:be n p with
  |true=>rfl
  |false=>rw[if_pos hg] at h;cases h
theorem sH(b m:Nat)(f:Nat→Int)(h:∀k,k<m→b+k<cnt→be n (f k)=true):bR ((range m).map fun k=>iN cnt n (b+k) (f k))=(cZ cnt b m f,false):=by
 rw[kV _ (fun a ha=>by
  obtain⟨k,hk,rfl⟩:=List.mem_map.1 ha;rw[sG (h k (List.mem_range.1 hk))])]
 refine congrArg (fun x=>(x,false)) ?_;unfold cZ;rw[flatMap_map];refine gW _ _ _ (fun k hk=>?_);rw[sG (h k (List.mem_range.1 hk))]
theorem sI{b m:Nat}{f:Nat→Int}(h:(bR ((range m).map fun k=>iN cnt n (b+k) (f k))).2=false):∀k,k<m→b+k<cnt→be n (f k)=true:=fun k hk hb=>
 yK (pE _ h _ (List.mem_map.2 ⟨k,List.mem_range.2 hk,rfl⟩)) hb
theorem nc{b m:Nat}{f:Nat→Int}(h:cnt≤b∨∀k,f k=0):cZ cnt b m f=[]:=by
 unfold cZ;rw[List.flatMap_eq_nil_iff];intro k _;rw[if_pos (h.elim (fun h=>.inl (by omega)) (fun h=>.inr (h k)))]
theorem jk(k:Nat):aQ W 0 k=0:=by unfold aQ;rw[if_pos rfl]
theorem jv{p:Int}(h:p≠0)(k:Nat):aQ W p k=W p k:=by unfold aQ;rw[if_neg h]
def ng(cnt n:Nat)(W:Int→Nat→Int)(r:Nat)(p:Int):Prop:=(12+r*128<cnt→be n p=true)∧∀k,k<128→12+r*128+k<cnt→be n (aQ W p k)=true
theorem sJ{r:Nat}{p:Int}(h:ng cnt n W r p):iO cnt n W r p=(dB cnt r p++cZ cnt (12+r*128) 128 (aQ W p),false):=by
 unfold iO dB;by_cases h0:cnt≤12+r*128∨p=0
 ·rw[if_pos h0,if_pos h0,nc (h0.elim .inl (fun e=>.inr (fun k=>by rw[e];exact jk k)))];rfl
 ·have hp:p≠0:=fun e=>h0 (.inr e);rw[if_neg h0,if_neg h0,if_neg (by rw[h.1 (by omega)];decide)];have e:=sH (n:=n) (cnt:=cnt) (12+r*128) 128 (W p) (fun k hk hb=>by rw[←jv (W:=W) hp k];exact h.2 k hk hb);rw[e,mZ rfl rfl];have:aQ W p=W p:=funext (jv hp);rw[this]
theorem sK{r:Nat}{p:Int}(h:(iO cnt n W r p).2=false):ng cnt n W r p:=by
 unfold iO at h;by_cases hp:p=0
 ·subst hp;exact⟨fun _=>rfl,fun k _ _=>by rw[jk];rfl⟩
 ·by_cases hc:cnt≤12+r*128
  ·exact⟨fun h=>absurd h (by omega),fun k _ h=>absurd h (by omega)⟩
  ·rw[if_neg (by omega)] at h;cases hg:be n p with
   |false=>rw[if_pos hg] at h;cases h
   |true=>
    rw[if_neg (by rw[hg];decide)] at h;exact⟨fun _=>hg,fun k hk hb=>by rw[jv hp];exact sI (m9 h).2 k hk hb⟩
def pF(cnt n:Nat)(W:Int→Nat→Int)(p:Int):Prop:=(140<cnt→be n p=true)∧∀k,k<128→ng cnt n W (1+k) (aQ W p k)
theorem yL{p:Int}(h:pF cnt n W p):jO cnt n W p=(ji cnt p++(range 128).flatMap (fun k=>dB cnt (1+k) (aQ W p k)++cZ cnt (12+(1+k)*128) 128 (aQ W (aQ W p k))),false):=by
 unfold jO ji;by_cases h0:cnt≤140∨p=0
 ·rw[if_pos h0,if_pos h0];have e:(range 128).flatMap (fun k=>dB cnt (1+k) (aQ W p k)++cZ cnt (12+(1+k)*128) 128 (aQ W (aQ W p k)))=[]:=by
   rw[List.flatMap_eq_nil_iff];intro k _;have hz:cnt≤12+(1+k)*128∨aQ W p k=0:=h0.elim (fun h=>.inl (by omega)) (fun e=>.inr (by rw[e];exact jk k));unfold dB;rw[if_pos hz,nc (hz.elim .inl (fun e=>.inr (fun j=>by rw[e];exact jk j)))];rfl
  rw[e];rfl
 ·have hp:p≠0:=fun e=>h0 (.inr e);rw[if_neg h0,if_neg h0,if_neg (by rw[h.1 (by omega)];decide)];have hk:∀k,k<128→iO cnt n W (1+k) (W p k)=(dB cnt (1+k) (aQ W p k)++cZ cnt (12+(1+k)*128) 128 (aQ W (aQ W p k)),false):=fun k hk=>by
   have:=sJ (h.2 k hk);rw[jv hp k] at this⊢;exact this
  rw[kV _ (fun a ha=>by
   obtain⟨k,hk2,rfl⟩:=List.mem_map.1 ha;rw[hk k (List.mem_range.1 hk2)]),mZ rfl rfl,flatMap_map]
  refine congrArg (fun x=>(_++x,false)) (gW _ _ _ (fun k hk2=>?_));rw[hk k (List.mem_range.1 hk2)]
theorem yM{p:Int}(h:(jO cnt n W p).2=false):pF cnt n W p:=by
 unfold jO at h;by_cases hp:p=0
 ·subst hp;exact⟨fun _=>rfl,fun k _=>⟨fun _=>by rw[jk];rfl,fun j _ _=>by rw[jk,jk];rfl⟩⟩
 ·by_cases hc:cnt≤140
  ·exact⟨fun h=>absurd h (by omega),fun k _=>⟨fun h=>absurd h (by omega),fun j _ h=>absurd h (by omega)⟩⟩
  ·rw[if_neg (by omega)] at h;cases hg:be n p with
   |false=>rw[if_pos hg] at h;cases h
   |true=>
    rw[if_neg (by rw[hg];decide)] at h;exact⟨fun _=>hg,fun k hk=>by rw[jv hp];exact sK (pE _ (m9 h).2 _ (List.mem_map.2 ⟨k,List.mem_range.2 hk,rfl⟩))⟩
structure pG(cnt:Nat)(D:Nat→Int)(S X:Int):Prop where
 d:∀i,cnt≤i→D i=0
 s:cnt≤12→S=0
 x:cnt≤140→X=0
 c:cnt≤512
def fh(cnt:Nat)(W:Int→Nat→Int)(D:Nat→Int)(S X:Int):List HG:=cZ cnt 0 12 D++(dB cnt 0 S++cZ cnt 12 128 (aQ W S)++(ji cnt X++(range 128).flatMap (fun k=>dB cnt (1+k) (aQ W X k)++cZ cnt (12+(1+k)*128) 128 (aQ W (aQ W X k)))))
theorem yN{D:Nat→Int}{S X:Int}(h:fM cnt n W D S X):kW cnt n W D S X=(fh cnt W D S X,false):=by
 obtain⟨hD,hS,hX,hO,hd⟩:=h;have e0:bR ((range 12).map fun i=>iN cnt n i (D i))=(cZ cnt 0 12 D,false):=by
  have:=sH (cnt:=cnt) (n:=n) 0 12 D (fun k hk _=>hD k hk);simpa using this
 have e1:ng cnt n W 0 S:=⟨fun _=>hS,fun k hk hb=>by
  have:=hd (12+k) (by omega);unfold bC at this;rw[if_neg (by omega),if_pos (by omega),Nat.add_sub_cancel_left] at this;exact this⟩
 have e2:pF cnt n W X:=⟨fun _=>hX,fun k hk=>⟨fun hc=>hO k hk (by omega),fun j hj hb=>by
  have:=hd (140+128*k+j) (by omega);unfold bC at this;rw[if_neg (by omega),if_neg (by omega),show(140+128*k+j-140)/128=k by omega,show(140+128*k+j-140)%128=j by omega] at this;exact this⟩⟩
 unfold kW;rw[e0,sJ e1,yL e2,mZ rfl rfl,mZ rfl rfl];rfl
theorem yO{D:Nat→Int}{S X:Int}(hR:pG cnt D S X)(h:(kW cnt n W D S X).2=false):fM cnt n W D S X:=by
 have h1:=m9 h;have h2:=m9 h1.2;have o0:∀k,k<12→0+k<cnt→be n (D k)=true:=sI (by simpa using h1.1);have o1:=sK h2.1;have o2:=yM h2.2;refine⟨fun i hi=>?_,?_,?_,fun k hk hc=>(o2.2 k hk).1 (by omega),fun i hi=>?_⟩
 ·by_cases hc:i<cnt
  ·exact o0 i hi (by omega)
  ·rw[hR.d i (by omega)];rfl
 ·by_cases hc:12<cnt
  ·exact o1.1 (by omega)
  ·rw[hR.s (by omega)];rfl
 ·by_cases hc:140<cnt
  ·exact o2.1 hc
  ·rw[hR.x (by omega)];rfl
 ·unfold bC;by_cases h12:i<12
  ·rw[if_pos h12];exact o0 i h12 (by omega)
  ·rw[if_neg h12];by_cases h140:i<140
   ·rw[if_pos h140];exact o1.2 (i-12) (by omega) (by omega)
   ·rw[if_neg h140];have hc:=hR.c;exact(o2.2 ((i-140)/128) (by omega)).2 ((i-140)%128) (by omega) (by omega)
end
end
section
section
variable {α:Type}
theorem yP(L:List Nat)(g:Nat→List α)(h:∀k∈L,g k=[]):L.flatMap g=[]:=List.flatMap_eq_nil_iff.2 h
theorem pH(m c:Nat)(g:Nat→List α)(h:∀k,c≤k→g k=[]):(range m).flatMap g=(range (min m c)).flatMap g:=by
 rcases Nat.le_total m c with hm|hm
 ·rw[Nat.min_eq_left hm]
 ·rw[Nat.min_eq_right hm];obtain⟨d,rfl⟩:∃d,m=c+d:=⟨m-c,by omega⟩;rw[List.range_add,List.flatMap_append,flatMap_map,yP (range d) _ (fun k _=>h _ (by omega)),append_nil]
theorem j9(a b:Nat)(g:Nat→List α):(range (a+b)).flatMap g=(range a).flatMap g++(range b).flatMap (fun k=>g (a+k)):=by
 rw[List.range_add,List.flatMap_append,flatMap_map]
theorem sL(c:Nat)(g:Nat→List α):∀K:Nat,(range K).flatMap (fun k=>(range 128).flatMap fun j=>g (c+128*k+j))=(range (128*K)).flatMap (fun i=>g (c+i))
 |0=>rfl
 |K+1=>by
  rw[j9 K 1,sL c g K,Nat.mul_succ,j9 (128*K) 128];refine congrArg (_++·) ?_;rw[show range 1=[0] from rfl,flatMap_cons,flatMap_nil,append_nil];exact gW _ _ _ (fun j _=>congrArg g (by omega))
end
section
variable {cnt n:Nat} {W:Int→Nat→Int} {D:Nat→Int} {S X:Int}
theorem pI{i:Nat}(h:i<12):bC W D S X i=D i:=by unfold bC;rw[if_pos h]
theorem pJ{k:Nat}(h:k<128):bC W D S X (12+k)=aQ W S k:=by unfold bC;rw[if_neg (by omega),if_pos (by omega),Nat.add_sub_cancel_left]
theorem pK{k j:Nat}(h:j<128):bC W D S X (140+128*k+j)=aQ W (aQ W X k) j:=by
 unfold bC;rw[if_neg (by omega),if_neg (by omega),show(140+128*k+j-140)/128=k by omega,show(140+128*k+j-140)%128=j by omega]
def gP(cnt:Nat)(W:Int→Nat→Int)(D:Nat→Int)(S X:Int)(r:Nat):List HG:=if cnt≤r∨bC W D S X r=0 then [] else [(0,r,bC W D S X r)]
theorem pL(b m:Nat)(f:Nat→Int)(h:∀k,k<m→bC W D S X (b+k)=f k):cZ cnt b m f=(range m).flatMap (fun k=>gP cnt W D S X (b+k)):=by
 unfold cZ gP;exact gW _ _ _ (fun k hk=>by rw[h k (List.mem_range.1 hk)])
theorem pM(b m:Nat)(f:Nat→Int):(cZ cnt b m f).filter (fun h=>h.1==0)=cZ cnt b m f:=by
 rw[List.filter_eq_self];intro x hx;unfold cZ at hx;obtain⟨k,_,hk⟩:=List.mem_flatMap.1 hx;by_cases hc:cnt≤b+k∨f k=0
 ·rw[if_pos hc] at hk;cases hk
 ·rw[if_neg hc,List.mem_singleton] at hk;rw[hk];rfl
theorem sM(r:Nat)(p:Int):(dB cnt r p).filter (fun h=>h.1==0)=[]:=by unfold dB;split<;>rfl
theorem yQ(p:Int):(ji cnt p).filter (fun h=>h.1==0)=[]:=by unfold ji;split<;>rfl
theorem pN{α β:Type}(q:β→Bool)(g:α→List β):∀L:List α,(L.flatMap g).filter q=L.flatMap (fun x=>(g x).filter q)
 |[]=>rfl
 |a::L=>by rw[flatMap_cons,flatMap_cons,filter_append,pN q g L]
def kX(cnt:Nat)(W:Int→Nat→Int)(D:Nat→Int)(S X:Int):List HG:=(range cnt).flatMap fun r=>if bC W D S X r=0 then [] else [(0,r,bC W D S X r)]
theorem pO(hc:cnt≤512):(fh cnt W D S X).filter (fun h=>h.1==0)=kX cnt W D S X:=by
 unfold fh;rw[filter_append,filter_append,filter_append,filter_append,pM,sM,pM,yQ,nil_append,nil_append,pN];have e0:(range 128).flatMap (fun k=>(dB cnt (1+k) (aQ W X k)++cZ cnt (12+(1+k)*128) 128 (aQ W (aQ W X k))).filter (fun h=>h.1==0))=(range (128*128)).flatMap (fun i=>gP cnt W D S X (140+i)):=by
  rw[←sL 140 (gP cnt W D S X) 128];refine gW _ _ _ (fun k _=>?_);rw[filter_append,sM,nil_append,pM,pL (W:=W) (D:=D) (S:=S) (X:=X) _ _ _ (fun j hj=>by rw[show 12+(1+k)*128+j=140+128*k+j by omega];exact pK hj)];exact gW _ _ _ (fun j _=>by rw[show 12+(1+k)*128+j=140+128*k+j by omega])
 rw[e0,pL (W:=W) (D:=D) (S:=S) (X:=X) 0 12 D (fun k hk=>by rw[Nat.zero_add];exact pI hk),pL (W:=W) (D:=D) (S:=S) (X:=X) 12 128 _ (fun k hk=>pJ hk)];have e1:(range 12).flatMap (fun k=>gP cnt W D S X (0+k))++((range 128).flatMap (fun k=>gP cnt W D S X (12+k))++(range (128*128)).flatMap (fun i=>gP cnt W D S X (140+i)))=(range (12+128+128*128)).flatMap (gP cnt W D S X):=by
  have e9:(range 12).flatMap (fun k=>gP cnt W D S X (0+k))=(range 12).flatMap (gP cnt W D S X):=gW _ _ _ (fun k _=>by rw[Nat.zero_add]);rw[j9 (12+128),j9 12 128,append_assoc,e9]
 rw[e1,pH _ cnt _ (fun k hk=>by unfold gP;rw[if_pos (.inl hk)]),Nat.min_eq_right (by omega)];unfold kX gP;refine gW _ _ _ (fun k hk=>?_);have:=List.mem_range.1 hk;by_cases h0:bC W D S X k=0
 ·rw[if_pos h0,if_pos (.inr h0)]
 ·rw[if_neg h0,if_neg (by omega)]
def dw(L:List Int)(lo hi:Nat):List Int:=(L.drop lo).take (hi-lo)
theorem pP(f:Nat→Int)(c lo m:Nat):dw ((range c).map f) lo (lo+m)=(range (min m (c-lo))).map (fun k=>f (lo+k)):=by
 unfold dw;refine List.ext_getElem? (fun i=>?_);rw[Nat.add_sub_cancel_left,List.getElem?_take,List.getElem?_drop,List.getElem?_map,List.getElem?_map];by_cases h1:i<m
 ·rw[if_pos h1];by_cases h2:lo+i<c
  ·rw[List.getElem?_range h2,List.getElem?_range (by omega)];rfl
  ·rw[List.getElem?_eq_none (by rw[length_range];omega),List.getElem?_eq_none (by rw[length_range];omega)];rfl
 ·rw[if_neg h1,List.getElem?_eq_none (by rw[length_range];omega)];rfl
def dY(L:List Int):List Int:=L.filter (fun p=>p !=0)
theorem sN(f:Nat→Int):∀L:List Nat,dY (L.map f)=L.flatMap (fun k=>if f k=0 then [] else [f k])
 |[]=>rfl
 |a::L=>by
  have ih:=sN f L;unfold dY at ih⊢;rw[List.map_cons,flatMap_cons,List.filter_cons,ih];by_cases h:f a=0
  ·rw[if_pos h,if_neg (by simp[h])];rfl
  ·rw[if_neg h,if_pos (by simp[h])];rfl
theorem pQ(b m:Nat)(f:Nat→Int)(h:∀k,k<m→bC W D S X (b+k)=f k):(cZ cnt b m f).map (fun h=>h.2.2)=dY (dw ((range cnt).map (bC W D S X)) b (b+m)):=by
 rw[pP,sN];unfold cZ;rw[List.map_flatMap,pH m (cnt-b) _ (fun k hk=>by rw[if_pos (.inl (by omega))];rfl)];refine gW _ _ _ (fun k hk=>?_);have hk2:=List.mem_range.1 hk;rw[h k (by omega)];by_cases h0:f k=0
 ·rw[if_pos h0,if_pos (.inr h0)];rfl
 ·rw[if_neg h0,if_neg (by omega)];rfl
theorem nh(A B:List Int):dY (A++B)=dY A++dY B:=filter_append ..
theorem kY(p:Int):dY [p]=if p=0 then [] else [p]:=by
 unfold dY;by_cases h:p=0
 ·rw[if_pos h,h];rfl
 ·rw[if_neg h];simp[h]
def eI(cnt:Nat):Nat:=min 128 ((cnt-140+127)/128)
theorem pR{k:Nat}(h:k<eI cnt):140+128*k<cnt:=by unfold eI at h;omega
theorem ni{k:Nat}(hc:cnt≤512)(h:eI cnt≤k):cnt≤140+128*k:=by unfold eI at h;omega
def allM(cnt:Nat)(W:Int→Nat→Int)(D:Nat→Int)(S X:Int):List Int:=
 let L:=(range cnt).map (bC W D S X)
 dw L 0 12++[S]++dw L 12 140++[X]++(range (eI cnt)).flatMap (fun k=>aQ W X k::dw L (140+128*k) (268+128*k))
theorem yR(hR:pG cnt D S X):(fh cnt W D S X).map (fun h=>h.2.2)=dY (allM cnt W D S X):=by
 have hc:=hR.c;unfold fh allM;simp only[List.map_append,nh];rw[pQ (W:=W) (D:=D) (S:=S) (X:=X) 0 12 D (fun k hk=>by rw[Nat.zero_add];exact pI hk),pQ (W:=W) (D:=D) (S:=S) (X:=X) 12 128 _ (fun k hk=>pJ hk)];have h1:(dB cnt 0 S).map (fun h=>h.2.2)=dY [S]:=by
  rw[kY];unfold dB;by_cases h0:S=0
  ·rw[if_pos (.inr h0),if_pos h0];rfl
  ·rw[if_neg (fun e=>e.elim (fun e=>h0 (hR.s (by omega))) h0),if_neg h0];rfl
 have h2:(ji cnt X).map (fun h=>h.2.2)=dY [X]:=by
  rw[kY];unfold ji;by_cases h0:X=0
  ·rw[if_pos (.inr h0),if_pos h0];rfl
  ·rw[if_neg (fun e=>e.elim (fun e=>h0 (hR.x e)) h0),if_neg h0];rfl
 have h3:((range 128).flatMap (fun k=>dB cnt (1+k) (aQ W X k)++cZ cnt (12+(1+k)*128) 128 (aQ W (aQ W X k)))).map (fun h=>h.2.2)=dY ((range (eI cnt)).flatMap (fun k=>aQ W X k::dw ((range cnt).map (bC W D S X)) (140+128*k) (268+128*k))):=by
  unfold dY;rw[pN,List.map_flatMap];have hs:eI cnt≤128:=by unfold eI;omega
  rw[pH 128 (eI cnt) _ (fun k hk=>by
   have:=ni hc hk;rw[show dB cnt (1+k) (aQ W X k)=[] by unfold dB;rw[if_pos (.inl (by omega))],nc (.inl (by omega))];rfl),Nat.min_eq_right hs]
  refine gW _ _ _ (fun k hk=>?_);have hk2:=pR (List.mem_range.1 hk);rw[List.map_append,pQ (W:=W) (D:=D) (S:=S) (X:=X) _ _ _ (fun j hj=>by rw[show 12+(1+k)*128+j=140+128*k+j by omega];exact pK hj),show 12+(1+k)*128=140+128*k by omega,show 140+128*k+128=268+128*k by omega];show _=dY ([aQ W X k]++_);rw[nh,kY];refine congrArg (·++_) ?_;unfold dB;by_cases h0:aQ W X k=0
  ·rw[if_pos (.inr h0),if_pos h0];rfl
  ·rw[if_neg (by omega),if_neg h0];rfl
 rw[h1,h2,h3];simp only[append_assoc]
end
end
section
def iP(out:List Int)(o:Nat)(B:List Int):List Int:=out.take o++B.take (out.length-o)++out.drop (o+min B.length (out.length-o))
theorem yS(out:List Int)(o:Nat)(B:List Int)(h:o≤out.length):(iP out o B).length=out.length:=by
 unfold iP;simp only[List.length_append,List.length_take,List.length_drop];omega
def fN(aW:Int→List Int)(out:List Int)(h:HG):List Int:=if h.1=0 then iP out (h.2.1*512) (aW h.2.2) else out
section
variable {cnt:Nat} {W:Int→Nat→Int} {D:Nat→Int} {S X:Int} {aW:Int→List Int}
theorem yT(L:List HG)(out:List Int):L.foldl (fN aW) out=(L.filter (fun h=>h.1==0)).foldl (fN aW) out:=by
 induction L generalizing out with
 |nil=>rfl
 |cons a L ih=>
  rw[List.filter_cons];by_cases h:a.1=0
  ·rw[if_pos (by simp[h]),foldl_cons,foldl_cons];exact ih _
  ·rw[if_neg (by simp[h]),foldl_cons, ←ih];congr 1;unfold fN;rw[if_neg h]
def jl(aW:Int→List Int)(W:Int→Nat→Int)(D:Nat→Int)(S X:Int)(i:Nat):List Int:=if bC W D S X i=0 then replicate 512 0 else aW (bC W D S X i)
theorem sO{g:Nat→List Int}(h:∀i,(g i).length=512):∀r:Nat,((range r).flatMap g).length=r*512
 |0=>rfl
 |r+1=>by rw[j9 r 1,List.length_append,sO h r,show range 1=[0] from rfl,flatMap_cons,flatMap_nil,append_nil,h];omega
theorem yU(g:Nat→List Int)(r:Nat):(range (r+1)).flatMap g=(range r).flatMap g++g r:=by rw[j9 r 1,show range 1=[0] from rfl,flatMap_cons,flatMap_nil,append_nil];rfl
theorem sQ(hb:∀p,(aW p).length=512)(size:Nat):∀r:Nat,(r=0∨(r-1)*512<size)→
 ((range r).flatMap fun r=>if bC W D S X r=0 then [] else [((0:Nat),r,bC W D S X r)]).foldl (fN aW) (replicate size 0)=(((range r).flatMap (jl aW W D S X)).take size)++replicate (size-r*512) 0
 |0,_=>by simp
 |r+1,h=>by
  have hr:r*512<size:=by
   rcases h with h|h;· cases h
   ·simpa using h
  have hl:∀i,(jl aW W D S X i).length=512:=fun i=>by
   unfold jl;split;· exact List.length_replicate ..
   ·exact hb _
  rw[j9 r 1,show range 1=[0] from rfl,flatMap_cons,flatMap_nil,append_nil,List.foldl_append,sQ hb size r (by omega),yU];have hM:=sO hl r;obtain⟨M,hMe⟩:∃M,M=(range r).flatMap (jl aW W D S X):=⟨_,rfl⟩;rw[←hMe] at hM⊢;rw[List.take_of_length_le (by omega),List.take_append,List.take_of_length_le (l:=M) (by omega),hM,Nat.add_zero];by_cases h0:bC W D S X r=0
  ·rw[if_pos h0,List.foldl_nil];have e:jl aW W D S X r=replicate 512 0:=(by unfold jl;rw[if_pos h0]);rw[e,List.take_replicate,append_assoc,List.replicate_append_replicate];refine congrArg (M++·) (congrArg (replicate · 0) (by omega))
  ·rw[if_neg h0,foldl_cons,List.foldl_nil];have e:jl aW W D S X r=aW (bC W D S X r):=(by unfold jl;rw[if_neg h0]);rw[e];unfold fN;rw[if_pos rfl];unfold iP;simp only[List.length_append,hM,List.length_replicate,hb];rw[show r*512+(size-r*512)-r*512=size-r*512 by omega,List.take_left' hM];congr 1;rw[List.drop_append,hM,List.drop_eq_nil_of_le (by omega),nil_append,List.drop_replicate];exact congrArg (replicate · 0) (by omega)
theorem yV(hb:∀p,(aW p).length=512)(hc:cnt≤512)(size:Nat)(h1:size≤cnt*512)(h2:cnt=0∨(cnt-1)*512<size):(fh cnt W D S X).foldl (fN aW) (replicate size 0)=((range cnt).flatMap (jl aW W D S X)).take size:=by
 rw[yT,pO hc];unfold kX;rw[sQ hb size cnt h2,show size-cnt*512=0 by omega];simp
end
end
section
open Go.RowKit
def nj(n₀:Nat)(T:Nat→Prop)(A B:World):Prop:=Below n₀ A B∧∀r,T r→B.heap[r]?=A.heap[r]?
theorem nj.trans{n₀:Nat}{T:Nat→Prop}{A B C:World}(h:nj n₀ T A B)(k:nj n₀ T B C):nj n₀ T A C:=⟨h.1.trans k.1,fun r hr=>(k.2 r hr).trans (h.2 r hr)⟩
end
end Go.Proofs.YtlimollpocagiaaGreatDoor
