/- The model's flush and the program's: what they begin and end with is the same. -/
import Derived.Test.YtlimollpocagiaaGreatDoorXa42
namespace Go.Proofs.YtlimollpocagiaaGreatDoor
open Go.Proofs.Tryz
set_option linter.all false
set_option maxRecDepth 100000
set_option maxHeartbeats 16000000
section
open Go.RowKit
theorem rE{l k:Nat}{v:Int}:∀(pre:List TX) (f:Nat→List Int),(∀x∈pre,x.1.1=l→x.1.2.1=k→x.1.2.2=v)→
 (((pre.foldl (fun f x=>aT f x.1.1 (cK (f x.1.1) x.1.2.1 x.1.2.2)) f) l).getD k 0=v∧∃x∈pre,x.1.1=l∧x.1.2.1=k)∨(((pre.foldl (fun f x=>aT f x.1.1 (cK (f x.1.1) x.1.2.1 x.1.2.2)) f) l).getD k 0=(f l).getD k 0∧¬∃x∈pre,x.1.1=l∧x.1.2.1=k)
 |[],f,_=>.inr ⟨rfl,fun⟨x,hx,_⟩=>by cases hx⟩
 |x::pre,f,h=>by
  rw[List.foldl_cons];rcases rE pre (aT f x.1.1 (cK (f x.1.1) x.1.2.1 x.1.2.2)) (fun y hy=>h y (List.mem_cons_of_mem _ hy)) with⟨h1,y,hy,h2⟩|⟨h1,h2⟩
  ·exact .inl ⟨h1,y,List.mem_cons_of_mem _ hy,h2⟩
  ·by_cases hl:x.1.1=l
   ·by_cases hk:x.1.2.1=k
    ·refine .inl ⟨?_,x,List.mem_cons_self,hl,hk⟩;rw[h1, ←hl,bG,jW,if_pos hk.symm];exact h x List.mem_cons_self hl hk
    ·refine .inr ⟨?_,fun⟨y,hy,h3⟩=>?_⟩
     ·rw[h1, ←hl,bG,jW,if_neg (fun e=>hk e.symm)]
     ·rcases List.mem_cons.1 hy with rfl|hy
      ·exact hk h3.2
      ·exact h2 ⟨y,hy,h3⟩
   ·refine .inr ⟨?_,fun⟨y,hy,h3⟩=>?_⟩
    ·rw[h1,aS _ _ _ _ (fun e=>hl e.symm)]
    ·rcases List.mem_cons.1 hy with rfl|hy
     ·exact hl h3.1
     ·exact h2 ⟨y,hy,h3⟩
section
variable {cnt:Nat} {W:Int→Nat→Int} {D:Nat→Int} {S X:Int}
theorem wK(hc:cnt≤512){h:HG}(hm:h∈fh cnt W D S X)(h0:h.1=0):h.2.1<cnt∧h.2.2=bC W D S X h.2.1:=by
 have h1:h∈(fh cnt W D S X).filter (fun h=>h.1==0):=List.mem_filter.2 ⟨hm,by simp[h0]⟩;rw[pO hc] at h1;unfold kX at h1;obtain⟨r,hr,h2⟩:=List.mem_flatMap.1 h1;have hr':=List.mem_range.1 hr;split at h2
 ·cases h2
 ·rw[List.mem_singleton] at h2;subst h2;exact⟨hr',rfl⟩
theorem DK(hc:cnt≤512){k:Nat}(hk:k<cnt)(hn:bC W D S X k≠0):((0,k,bC W D S X k):HG)∈fh cnt W D S X:=by
 have h1:((0,k,bC W D S X k):HG)∈kX cnt W D S X:=by
  unfold kX;refine List.mem_flatMap.2 ⟨k,List.mem_range.2 hk,?_⟩;rw[if_neg hn];exact List.mem_singleton.2 rfl
 rw[←pO hc] at h1;exact(List.mem_filter.1 h1).1
theorem rF{b m:Nat}{f:Nat→Int}{h:HG}(hm:h∈cZ cnt b m f):h.1=0:=by
 unfold cZ at hm;obtain⟨r,hr,h2⟩:=List.mem_flatMap.1 hm;split at h2
 ·cases h2
 ·rw[List.mem_singleton] at h2;rw[h2]
theorem wL{r:Nat}{p:Int}{h:HG}(hm:h∈dB cnt r p):h=(1,r,p):=by
 unfold dB at hm;split at hm
 ·cases hm
 ·exact List.mem_singleton.1 hm
theorem DL{p:Int}{h:HG}(hm:h∈ji cnt p):h.1=2:=by
 unfold ji at hm;split at hm
 ·cases hm
 ·rw[List.mem_singleton.1 hm]
theorem DM{h:HG}(hm:h∈fh cnt W D S X)(h0:h.1=1)(h1:h.2.1=0):h.2.2=S:=by
 unfold fh at hm;rcases List.mem_append.1 hm with hm|hm
 ·have:=rF hm;omega
 rcases List.mem_append.1 hm with hm|hm
 ·rcases List.mem_append.1 hm with hm|hm
  ·rw[wL hm]
  ·have:=rF hm;omega
 rcases List.mem_append.1 hm with hm|hm
 ·have:=DL hm;omega
 obtain⟨r,hr,h2⟩:=List.mem_flatMap.1 hm;rcases List.mem_append.1 h2 with h2|h2
 ·have h3:=wL h2;rw[h3] at h1;simp at h1
 ·have:=rF h2;omega
theorem DN(hc:12<cnt)(hn:S≠0):((1,0,S):HG)∈fh cnt W D S X:=by
 unfold fh;refine List.mem_append.2 (.inr (List.mem_append.2 (.inl (List.mem_append.2 (.inl ?_)))));unfold dB;rw[if_neg (by omega)];exact List.mem_singleton.2 rfl
theorem rH{L:List HG}{x:TX}(h:x∈aM L):x.1∈L:=by
 unfold aM at h;obtain⟨g,hg,rfl⟩:=List.mem_map.1 h;exact hg
theorem wM{L:List HG}{h:HG}(hm:h∈L):(h,Value.nilIface)∈aM L:=by
 unfold aM;exact List.mem_map.2 ⟨h,hm,rfl⟩
theorem DO(hc:cnt≤512)(k:Nat):(dG (aM (fh cnt W D S X)) 0).getD k 0=if k<cnt then bC W D S X k else 0:=by
 unfold dG;rcases rE (l:=0) (k:=k) (v:=bC W D S X k) (aM (fh cnt W D S X)) (fun _=>[]) (fun x hx h0 h1=>by
  have:=(wK hc (rH hx) h0).2;rw[this,h1]) with⟨h1,x,hx,h2,h3⟩|⟨h1,h2⟩
 ·rw[h1,if_pos (by have:=(wK hc (rH hx) h2).1;omega)]
 ·rw[h1];by_cases hk:k<cnt
  ·rw[if_pos hk];by_cases hz:bC W D S X k=0
   ·rw[hz];rfl
   ·exact absurd ⟨_,wM (DK hc hk hz),rfl,rfl⟩ h2
  ·rw[if_neg hk];rfl
theorem DP(hs:cnt≤12→S=0):(dG (aM (fh cnt W D S X)) 1).getD 0 0=S:=by
 unfold dG;rcases rE (l:=1) (k:=0) (v:=S) (aM (fh cnt W D S X)) (fun _=>[]) (fun x hx h0 h1=>DM (rH hx) h0 h1) with⟨h1,_⟩|⟨h1,h2⟩
 ·exact h1
 ·rw[h1];by_cases hz:S=0
  ·rw[hz];rfl
  ·by_cases hc:12<cnt
   ·exact absurd ⟨_,wM (DN hc hz),rfl,rfl⟩ h2
   ·exact absurd (hs (by omega)) hz
end
def lW(zs:List Int)(s:Int)(ds:List Int)(p q:Int):List Int:=(List.range ((s.toNat+511)/512)).map (bC (aJ zs) (fun i=>ds.getD i 0) p q)
theorem DQ(zs:List Int)(s:Int)(ds:List Int)(p q:Int):(lW zs s ds p q).length=(s.toNat+511)/512:=by simp[lW]
theorem DR(zs:List Int)(s:Int)(ds:List Int)(p q:Int)(k:Nat):(lW zs s ds p q).getD k 0=if k<(s.toNat+511)/512 then bC (aJ zs) (fun i=>ds.getD i 0) p q k else 0:=by
 unfold lW;by_cases h:k<(s.toNat+511)/512
 ·rw[if_pos h];simp[List.getD,h]
 ·rw[if_neg h];have h2:((List.range ((s.toNat+511)/512)).map (bC (aJ zs) (fun i=>ds.getD i 0) p q)).length≤k:=by simp;omega
  rw[List.getD_eq_getElem?_getD,List.getElem?_eq_none h2];rfl
theorem DS{zs:List Int}{s:Int}{ds:List Int}{p q:Int}(hd:ds.length=12)(hok:cV zs s ds p q=true)(hz:(ZR zs s ds p q).2=false)(m:Nat):(∀k,k<m→(eB m (eD zs s ds p q)).getD k 0=(lW zs s ds p q).getD k 0)∧(eB m (eD zs s ds p q)).getD m 0=p:=by
 have hr:cA s ds p q=true:=by unfold cV at hok;rw[Bool.and_eq_true] at hok;exact hok.2
 have hR:=qx hd hr;rcases lE hd hok with⟨h1,h2⟩|⟨h1,h2⟩
 ·refine⟨fun k hk=>?_,?_⟩
  ·rw[oD _ hk];unfold eD;rw[h2,DO hR.c,DR]
  ·rw[oE];unfold eD;rw[h2,DP hR.s]
 ·rw[h2] at hz;cases hz
def gS(B:List Int)(k:Nat):List Int:=(List.range k).map fun b=>if 4*b<B.length then gj B b else 0
theorem oL(B:List Int)(k:Nat):(gS B k).length=k:=by simp[gS]
theorem DT(B:List Int)(k:Nat):gS B (k+1)=gS B k++[if 4*k<B.length then gj B k else 0]:=by
 unfold gS;rw[List.range_succ,List.map_append];rfl
theorem DU{zs:List Int}{s:Int}{ds:List Int}{p q:Int}(hbd:∀z∈zs,0≤z∧z<256)(hd:ds.length=12)(hok:cV zs s ds p q=true)(hz:(ZR zs s ds p q).2=false)(n:Nat)(hs:s=0∨s=4*(n:Int)):dO zs s ds p q n=gS (mrB zs s ds p q) n∧(mrB zs s ds p q).length=s.toNat∧∀z∈mrB zs s ds p q,0≤z∧z<256:=by
 have e:mrB zs s ds p q=cR zs s.toNat (aM (ZR zs s ds p q).1):=by rw[←uH hd];unfold gL;rw[if_pos ⟨hok,hz⟩]
 rw[e];have hl:(cR zs s.toNat (aM (ZR zs s ds p q).1)).length=s.toNat:=by
  unfold cR;rw[(qU zs hbd _ _ (fun z hz=>by rw[List.eq_of_mem_replicate hz];omega)).1,List.length_replicate]
 refine⟨?_,hl,qV hbd⟩;unfold dO gS;rw[hl];rcases hs with rfl|rfl
 ·show cm _ (0/4)++List.replicate (n-0/4) 0=_;rw[show 0/4=0 from rfl,Nat.sub_zero];show []++_=_;rw[List.nil_append];refine List.ext_getElem? (fun i=>?_);by_cases hi:i<n
  ·simp[hi]
  ·simp[hi]
 ·have e4:(4*(n:Int)).toNat=4*n:=by omega
  rw[e4,Nat.mul_div_cancel_left _ (by omega),Nat.sub_self,List.replicate_zero,List.append_nil];unfold cm;refine List.map_congr_left (fun k hk=>?_);rw[if_pos (by have:=List.mem_range.1 hk;omega)]
theorem DV{m n:Nat}{bf ol D:List Int}{sg:Int}{s:FD}(hw:bg m n s)(ho:∀k,k<m→ol.getD k 0=D.getD k 0)(hm:ol.getD m 0=sg)(hod:∀j∈s.od,j∈aL m):(∀k,k<m→fH m ol s.pl s.od k=if s.pl.getD k 0=0 then D.getD k 0 else s.pl.getD k 0)∧(12<m→fH m ol s.pl s.od m=if s.pl.getD m 0=0 then sg else s.pl.getD m 0)∧(¬12<m→fH m ol s.pl s.od m=0)∧∀k∈s.od,fH m ol s.pl s.od k=s.pl.getD k 0:=by
 have key:∀k,k∈aL m→fH m ol s.pl s.od k=if s.pl.getD k 0=0 then ol.getD k 0 else s.pl.getD k 0:=fun k hk=>by
  unfold fH fJ;by_cases h:k∈s.od
  ·rw[if_pos h,if_neg ((hw.on k).1 h)]
  ·rw[if_neg h,if_pos hk,if_pos (Classical.byContradiction fun h2=>h ((hw.on k).2 h2))]
 refine⟨fun k hk=>?_,fun h12=>?_,fun h12=>?_,fun k hk=>?_⟩
 ·rw[key k (by unfold aL;exact List.mem_append.2 (.inl (List.mem_range.2 hk))),ho k hk]
 ·rw[key m (by unfold aL;rw[if_pos h12];exact List.mem_append.2 (.inr (List.mem_singleton.2 rfl))),hm]
 ·have hn:m∉aL m:=fun h=>by
   unfold aL at h;rw[if_neg h12,List.append_nil] at h;have:=List.mem_range.1 h;omega
  unfold fH fJ;rw[if_neg (fun h=>hn (hod m h)),if_neg hn]
 ·unfold fH;rw[if_pos hk]
theorem DW(m:Nat)(g g':Nat→Int)(h:∀k,k<m→g k=g' k):jL m g 128=gR m g':=by
 unfold jL gR;refine List.map_congr_left (fun j hj=>?_);by_cases hjm:12+j<m
 ·rw[if_pos hjm,if_pos hjm,h _ hjm]
 ·rw[if_neg hjm,if_neg hjm]
theorem DY(m n:Nat)(g g':Nat→Int)(sp:Int)(h:∀k,k<m→g k=g' k)(h1:12<m→g' m=sp)(h2:¬12<m→g' m=0):gH m n g sp=aB (gr m n g'):=by
 unfold gH;by_cases h12:12<m
 ·rw[if_pos h12];have e:(aB (eE n g 12)).setIfInBounds 13 (.int .i64 sp)=aB ((eE n g 12).set 13 sp):=by unfold aB;simp[List.map_set]
  rw[e];refine congrArg aB ?_;unfold eE gr;rw[List.set_cons_succ,h1 h12];refine congrArg (List.cons _) ?_;refine List.ext_getElem? (fun i=>?_);rw[List.getElem?_set];by_cases h3:12=i
  ·subst h3;simp
  ·rw[if_neg h3];by_cases hi:i<14
   ·simp only[List.getElem?_map,List.getElem?_range hi,Option.map_some];by_cases h4:i<12
    ·rw[if_pos h4,if_pos h4,if_pos (by omega),h i (by omega)]
    ·rw[if_neg h4,if_neg h4,if_neg (fun e=>h3 e.symm)]
   ·simp[hi]
 ·rw[if_neg h12];refine congrArg aB ?_;unfold eE gr;rw[h2 h12];refine congrArg (List.cons _) (List.map_congr_left (fun j hj=>?_));by_cases hj2:j<12
  ·rw[if_pos hj2];by_cases hjm:j<m
   ·rw[if_pos hjm,if_pos hjm,h j hjm]
   ·rw[if_neg hjm,if_neg hjm]
  ·rw[if_neg hj2,if_neg (by omega)];split<;>rfl
end
end Go.Proofs.YtlimollpocagiaaGreatDoor
