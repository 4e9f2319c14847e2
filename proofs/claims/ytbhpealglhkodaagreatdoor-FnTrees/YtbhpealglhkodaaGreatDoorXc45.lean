/- Mathematics: the model's way through a tree's making where nothing was before: level by le -/
import Derived.Test.YtbhpealglhkodaaGreatDoorXc44
namespace Go.Proofs.YtbhpealglhkodaaGreatDoor
set_option linter.all false
set_option maxRecDepth 100000
set_option maxHeartbeats 16000000
section
open Go.RowKit Go.Shelf
theorem JSt.setNow{W0 w:World}{b:Nat}{iv fv:Value}{fs:List Int}{D:RD}(h:JSt W0 w b iv fv fs D)(l r:Nat)(x:Int):JSt W0 w b iv fv fs (D.setNow l r x):=by
 obtain⟨u,pv,vs,h⟩:=h;exact⟨u,pv,vs,h.box,h.puts,h.le,h.st,h.lo,h.low⟩
theorem beg_lo{D0:RD}(h:BegO D0 (fun _=>[]))(l r:Nat):(D0.Lo l).getD r 0=0:=by
 rw[h.lo];split<;>rfl
theorem step_none{zs cs:List Int}{D:RD}(h:∀l r,(D.Lo l).getD r 0=0)(l r:Nat):stepO zs cs D (l,r)=(if zB cs D.Ln l r=true then D else D.fresh (mkB cs D.Ln l r)).setNow l r (if zB cs D.Ln l r=true then 0 else supN D.st):=by
 have he:eB zs cs D.Lo D.Ln l r=false:=by
  cases l with
  |zero=>rw[eB_0];exact decide_eq_false (fun e=>e.1 (h 0 r))
  |succ l=>rw[eB_s];exact decide_eq_false (fun e=>e.1 (h (l+1) r))
 unfold stepO RD.placeO;show(if zB cs D.Ln l r=true then _ else if eB zs cs D.Lo D.Ln l r=true then _ else _)=_;rw[he];cases zB cs D.Ln l r<;>rfl
theorem step_val{zs cs:List Int}{D:RD}(h:∀l r,(D.Lo l).getD r 0=0)(l r l' r':Nat):((stepO zs cs D (l,r)).Ln l').getD r' 0=if l'=l∧r'=r then(if zB cs D.Ln l r=true then 0 else supN D.st) else(D.Ln l').getD r' 0:=by
 have he:eB zs cs D.Lo D.Ln l r=false:=by
  cases l with
  |zero=>rw[eB_0];exact decide_eq_false (fun e=>e.1 (h 0 r))
  |succ l=>rw[eB_s];exact decide_eq_false (fun e=>e.1 (h (l+1) r))
 unfold stepO;rw[placeO_at];simp only;rw[he];cases zB cs D.Ln l r<;>rfl
theorem lo_run{zs cs:List Int}{D0:RD}(h:BegO D0 (fun _=>[]))(Q:List (Nat×Nat))(l r:Nat):((runO zs cs Q D0).Lo l).getD r 0=0:=by rw[run_Lo];exact beg_lo h l r
def spK(l m:Nat):List (Nat×Nat):=(List.range m).map (fun r=>(l,r))
theorem spK_succ(l m:Nat):spK l (m+1)=spK l m++[(l,m)]:=by unfold spK;rw[List.range_succ,List.map_append];rfl
theorem spK_mem{l m:Nat}{p:Nat×Nat}:p∈spK l m↔p.1=l∧p.2<m:=by
 unfold spK;rw[List.mem_map];constructor
 ·rintro ⟨r,h,rfl⟩;exact⟨rfl,List.mem_range.1 h⟩
 ·rintro ⟨rfl,h⟩;exact⟨p.2,List.mem_range.2 h,rfl⟩
def eS(zs cs:List Int)(D0:RD)(k:Nat):RD:=runO zs cs (spK 0 k) D0
def fS(zs cs:List Int)(D0:RD)(m:Nat):RD:=runO zs cs (spK 0 (cntT cs)++spK 1 m) D0
def gS(zs cs:List Int)(D0:RD):RD:=runO zs cs (spL (cntT cs)) D0
section
variable {zs cs:List Int} {D0:RD}
theorem eS_succ(k:Nat):eS zs cs D0 (k+1)=stepO zs cs (eS zs cs D0 k) (0,k):=by unfold eS;rw[spK_succ,run_append];rfl
theorem fS_zero:fS zs cs D0 0=eS zs cs D0 (cntT cs):=by unfold fS eS;rw[show spK 1 0=[] from rfl,List.append_nil]
theorem fS_succ(m:Nat):fS zs cs D0 (m+1)=stepO zs cs (fS zs cs D0 m) (1,m):=by unfold fS;rw[spK_succ, ←List.append_assoc,run_append zs cs (_++_)];rfl
theorem gS_is:gS zs cs D0=runO zs cs (spK 2 (lvN (cntT cs) 2)) (fS zs cs D0 (lvN (cntT cs) 1)):=by
 unfold gS fS;rw[←run_append,List.append_assoc];rfl
theorem gS_big(h:140<cntT cs):gS zs cs D0=stepO zs cs (fS zs cs D0 (lvN (cntT cs) 1)) (2,0):=by
 rw[gS_is,lv2,if_pos h];rfl
theorem gS_small(h:¬140<cntT cs):gS zs cs D0=fS zs cs D0 (lvN (cntT cs) 1):=by
 rw[gS_is,lv2,if_neg h];rfl
theorem runK_zero(h:BegO D0 (fun _=>[])){Q:List (Nat×Nat)}{l r:Nat}(hQ:(l,r)∉Q):((runO zs cs Q D0).Ln l).getD r 0=0:=by
 rw[run_keep _ _ _ _ hQ,h.ln];rfl
theorem eS_lo(h:BegO D0 (fun _=>[]))(k l r:Nat):((eS zs cs D0 k).Lo l).getD r 0=0:=lo_run h _ l r
theorem fS_lo(h:BegO D0 (fun _=>[]))(k l r:Nat):((fS zs cs D0 k).Lo l).getD r 0=0:=lo_run h _ l r
def dataL(N:Nat→List Int)(k:Nat):List Int:=(List.range (max 12 k)).map fun i=>(N 0).getD i 0
theorem dataL_len(N:Nat→List Int)(k:Nat):(dataL N k).length=max 12 k:=by simp[dataL]
theorem dataL_get(N:Nat→List Int)(k i:Nat):(dataL N k).getD i 0=if i<max 12 k then(N 0).getD i 0 else 0:=by
 unfold dataL;simp only[List.getD,List.getElem?_map];by_cases h:i<max 12 k
 ·rw[if_pos h,List.getElem?_range h];rfl
 ·rw[if_neg h,List.getElem?_eq_none (by simp;omega)];rfl
theorem list_ext{A B:List Int}(hl:A.length=B.length)(h:∀i,i<A.length→A.getD i 0=B.getD i 0):A=B:=by
 refine List.ext_getElem hl (fun i h1 h2=>?_);have:=h i h1;simpa [List.getD,h1,h2] using this
theorem dataL_zero(h:BegO D0 (fun _=>[])):dataL (eS zs cs D0 0).Ln 0=List.replicate 12 0:=by
 refine list_ext (by simp[dataL]) (fun i hi=>?_);rw[dataL_get,rep_get];split
 ·exact runK_zero h (by unfold spK;simp)
 ·rfl
def pE(zs cs:List Int)(D0:RD)(k:Nat):Int:=if zB cs (eS zs cs D0 k).Ln 0 k=true then 0 else supN (eS zs cs D0 k).st
theorem dataL_set(h:BegO D0 (fun _=>[])){k:Nat}(hk:k<12):(dataL (eS zs cs D0 k).Ln k).set k (pE zs cs D0 k)=dataL (eS zs cs D0 (k+1)).Ln (k+1):=by
 refine list_ext (by rw[List.length_set,dataL_len,dataL_len];omega) (fun i hi=>?_);rw[List.length_set,dataL_len] at hi;rw[dataL_get,if_pos (by omega),eS_succ,step_val (eS_lo h _)];by_cases e:i=k
 ·rw[if_pos ⟨rfl,e⟩,e];simp[List.getD,List.getElem?_set,dataL_len,show k<max 12 k by omega];rfl
 ·rw[if_neg (fun h=>e h.2)];have e2:((dataL (eS zs cs D0 k).Ln k).set k (pE zs cs D0 k)).getD i 0=(dataL (eS zs cs D0 k).Ln k).getD i 0:=by
   simp only[List.getD];rw[List.getElem?_set_ne (fun h=>e h.symm)]
  rw[e2,dataL_get,if_pos (by omega)]
theorem dataL_app(h:BegO D0 (fun _=>[])){k:Nat}(hk:¬k<12):dataL (eS zs cs D0 k).Ln k++[pE zs cs D0 k]=dataL (eS zs cs D0 (k+1)).Ln (k+1):=by
 refine list_ext (by rw[List.length_append,dataL_len,dataL_len,List.length_singleton];omega) (fun i hi=>?_);rw[List.length_append,dataL_len,List.length_singleton] at hi;rw[dataL_get,if_pos (by omega),eS_succ,step_val (eS_lo h _)];by_cases e:i=k
 ·rw[if_pos ⟨rfl,e⟩,e,app_hi (by rw[dataL_len];omega),dataL_len,show k-max 12 k=0 by omega];rfl
 ·rw[if_neg (fun h=>e h.2),app_lo (by rw[dataL_len];omega),dataL_get,if_pos (by omega)]
theorem words_cut{L:List Int}{N:Nat→List Int}(hL:∀i,L.getD i 0=(N 0).getD i 0)(r:Nat):cutM L (12+128*r) (140+128*r)++List.replicate (128-(cutM L (12+128*r) (140+128*r)).length) 0=wordsN N 0 r∧(cutM L (12+128*r) (140+128*r)).length≤128:=by
 have hl:(cutM L (12+128*r) (140+128*r)).length=min 128 (L.length-(12+128*r)):=by
  unfold cutM;rw[List.length_take,List.length_drop];omega
 refine⟨?_,by omega⟩;refine list_ext (by rw[List.length_append,List.length_replicate,wordsN_len,hl];omega) (fun i hi=>?_);rw[List.length_append,List.length_replicate,hl] at hi;rw[wordsN_get _ _ _ (by omega),belR0, ←hL];by_cases h1:i<(cutM L (12+128*r) (140+128*r)).length
 ·rw[app_lo h1];unfold cutM;simp only[List.getD];rw[List.getElem?_take,if_pos (by omega),List.getElem?_drop,show 12+128*r+i=12+r*128+i by omega]
 ·rw[app_hi (by omega),rep_get];simp only[List.getD];rw[List.getElem?_eq_none (by omega)];rfl
theorem dataL_all(h:BegO D0 (fun _=>[]))(m:Nat)(i:Nat):(dataL (eS zs cs D0 (cntT cs)).Ln (cntT cs)).getD i 0=((fS zs cs D0 m).Ln 0).getD i 0:=by
 have e:((fS zs cs D0 m).Ln 0).getD i 0=((eS zs cs D0 (cntT cs)).Ln 0).getD i 0:=by
  unfold fS eS;rw[run_append,run_keep _ _ _ _ (fun e=>by have:=(spK_mem.1 e).1;simp at this)]
 rw[dataL_get,e];split
 ·rfl
 ·exact(runK_zero h (fun e=>by have:=(spK_mem.1 e).2;simp at this;omega)).symm
def outL(N:Nat→List Int)(k:Nat):List Int:=(List.range 128).map fun j=>if j<k then(N 1).getD (1+j) 0 else 0
theorem outL_len(N:Nat→List Int)(k:Nat):(outL N k).length=128:=by simp[outL]
theorem outL_get(N:Nat→List Int)(k:Nat){j:Nat}(h:j<128):(outL N k).getD j 0=if j<k then(N 1).getD (1+j) 0 else 0:=by unfold outL;simp[List.getD,h]
theorem outL_zero(N:Nat→List Int):outL N 0=List.replicate 128 0:=list_ext (by simp[outL]) (fun i hi=>by rw[outL_len] at hi;rw[outL_get _ _ hi,if_neg (by omega),rep_get])
def pP(D:RD)(l r:Nat):Int:=if decide (wordsN D.Ln l r=List.replicate 128 0)=true then 0 else supN D.st
theorem outL_set(h:BegO D0 (fun _=>[])){k:Nat}(hk:k<128):(outL (fS zs cs D0 (k+1)).Ln k).set k (pP (fS zs cs D0 (k+1)) 0 (k+1))=outL (fS zs cs D0 (k+2)).Ln (k+1):=by
 refine list_ext (by rw[List.length_set,outL_len,outL_len]) (fun i hi=>?_);rw[List.length_set,outL_len] at hi;rw[outL_get _ _ hi,fS_succ (k+1),step_val (fS_lo h _)];by_cases e:i=k
 ·rw[if_pos (by omega),if_pos ⟨rfl,by omega⟩,e];simp[List.getD,List.getElem?_set,outL_len,hk];rfl
 ·have e2:((outL (fS zs cs D0 (k+1)).Ln k).set k (pP (fS zs cs D0 (k+1)) 0 (k+1))).getD i 0=(outL (fS zs cs D0 (k+1)).Ln k).getD i 0:=by
   simp only[List.getD];rw[List.getElem?_set_ne (fun h=>e h.symm)]
  rw[e2,outL_get _ _ hi,if_neg (show ¬(1=1∧1+i=k+1) from fun h=>e (by omega))];by_cases e3:i<k
  ·rw[if_pos e3,if_pos (by omega)]
  ·rw[if_neg e3,if_neg (by omega)]
theorem outL_all(h:BegO D0 (fun _=>[])){k:Nat}(hk:lvN (cntT cs) 1≤k+1):outL (fS zs cs D0 (lvN (cntT cs) 1)).Ln k=wordsN (fS zs cs D0 (lvN (cntT cs) 1)).Ln 1 0:=by
 refine list_ext (by rw[outL_len,wordsN_len]) (fun i hi=>?_);rw[outL_len] at hi;rw[outL_get _ _ hi,wordsN_get _ _ _ hi,belR1,show 1+0*128+i=1+i by omega];split
 ·rfl
 ·unfold fS;refine(runK_zero h (fun e=>?_)).symm;rcases List.mem_append.1 e with e|e
  ·have:=(spK_mem.1 e).1;simp at this
  ·have:=(spK_mem.1 e).2;simp at this;omega
theorem ptr_single(h:BegO D0 (fun _=>[])):pP (eS zs cs D0 (cntT cs)) 0 0=((fS zs cs D0 (min 1 (lvN (cntT cs) 1))).Ln 1).getD 0 0∧(∀{W0 w:World} {b:Nat} {iv fv:Value} {fs:List Int},JSt W0 w b iv fv fs ((eS zs cs D0 (cntT cs)).ptrO (decide (wordsN (eS zs cs D0 (cntT cs)).Ln 0 0=List.replicate 128 0)) (wordsN (eS zs cs D0 (cntT cs)).Ln 0 0))→JSt W0 w b iv fv fs (fS zs cs D0 (min 1 (lvN (cntT cs) 1)))):=by
 by_cases hc:12<cntT cs
 ·have e1:min 1 (lvN (cntT cs) 1)=0+1:=by rw[lv1];omega
  rw[e1,fS_succ,fS_zero];have hz:zB cs (eS zs cs D0 (cntT cs)).Ln 1 0=decide (wordsN (eS zs cs D0 (cntT cs)).Ln 0 0=List.replicate 128 0):=rfl;refine⟨?_,fun hj=>?_⟩
  ·rw[step_val (eS_lo h _),if_pos ⟨rfl,rfl⟩];rfl
  ·rw[step_none (eS_lo h _)];exact JSt.setNow hj _ _ _
 ·have e1:min 1 (lvN (cntT cs) 1)=0:=by rw[lv1];omega
  have hw:wordsN (eS zs cs D0 (cntT cs)).Ln 0 0=List.replicate 128 0:=wordsN_zero (fun k hk=>runK_zero h (fun e=>by have:=(spK_mem.1 e).2;rw[belR0] at this;simp at this;omega));rw[e1,fS_zero];unfold pP;rw[hw];refine⟨?_,fun hj=>by simpa [RD.ptrO] using hj⟩;rw[if_pos (by simp)];exact(runK_zero h (fun e=>by have:=(spK_mem.1 e).1;simp at this)).symm
theorem ptr_outer(h:BegO D0 (fun _=>[]))(k:Nat):∀{W0 w:World} {b:Nat} {iv fv:Value} {fs:List Int},JSt W0 w b iv fv fs ((fS zs cs D0 (k+1)).ptrO (decide (wordsN (fS zs cs D0 (k+1)).Ln 0 (k+1)=List.replicate 128 0)) (wordsN (fS zs cs D0 (k+1)).Ln 0 (k+1)))→JSt W0 w b iv fv fs (fS zs cs D0 (k+2)):=by
 intro W0 w b iv fv fs hj;rw[fS_succ (k+1),step_none (fS_lo h _)];exact JSt.setNow hj _ _ _
theorem ptr_double(h:BegO D0 (fun _=>[]))(hcl:cntT cs≤512):pP (fS zs cs D0 (lvN (cntT cs) 1)) 1 0=((gS zs cs D0).Ln 2).getD 0 0∧(∀{W0 w:World} {b:Nat} {iv fv:Value} {fs:List Int},JSt W0 w b iv fv fs ((fS zs cs D0 (lvN (cntT cs) 1)).ptrO (decide (wordsN (fS zs cs D0 (lvN (cntT cs) 1)).Ln 1 0=List.replicate 128 0)) (wordsN (fS zs cs D0 (lvN (cntT cs) 1)).Ln 1 0))→JSt W0 w b iv fv fs (gS zs cs D0)):=by
 by_cases hc:140<cntT cs
 ·rw[gS_big hc];refine⟨?_,fun hj=>?_⟩
  ·rw[step_val (fS_lo h _),if_pos ⟨rfl,rfl⟩];rfl
  ·rw[step_none (fS_lo h _)];exact JSt.setNow hj _ _ _
 ·have hw:wordsN (fS zs cs D0 (lvN (cntT cs) 1)).Ln 1 0=List.replicate 128 0:=wordsN_zero (fun k hk=>by
   unfold fS;refine runK_zero h (fun e=>?_);rcases List.mem_append.1 e with e|e
   ·have:=(spK_mem.1 e).1;simp at this
   ·have:=(spK_mem.1 e).2;rw[belR1,lv1] at this;simp at this;omega)
  rw[gS_small hc];unfold pP;rw[hw];refine⟨?_,fun hj=>by simpa [RD.ptrO] using hj⟩;rw[if_pos (by simp)];unfold fS;refine(runK_zero h (fun e=>?_)).symm;rcases List.mem_append.1 e with e|e
  ·have:=(spK_mem.1 e).1;simp at this
  ·have:=(spK_mem.1 e).1;simp at this
theorem root_direct(h:BegO D0 (fun _=>[]))(i:Nat):((gS zs cs D0).Ln 0).getD i 0=(dataL (eS zs cs D0 (cntT cs)).Ln (cntT cs)).getD i 0:=by
 rw[dataL_all h (lvN (cntT cs) 1),gS_is,run_keep _ _ _ _ (fun e=>by have:=(spK_mem.1 e).1;simp at this)]
theorem root_single(h:BegO D0 (fun _=>[])):((gS zs cs D0).Ln 1).getD 0 0=((fS zs cs D0 (min 1 (lvN (cntT cs) 1))).Ln 1).getD 0 0:=by
 rw[gS_is,run_keep _ _ _ _ (fun e=>by have:=(spK_mem.1 e).1;simp at this)];by_cases hc:lvN (cntT cs) 1=0
 ·rw[hc];rfl
 ·obtain⟨m,hm⟩:∃m,lvN (cntT cs) 1=1+m:=⟨lvN (cntT cs) 1-1,by omega⟩;rw[hm,show min 1 (1+m)=1 by omega];have e:spK 1 (1+m)=spK 1 1++(List.range m).map (fun r=>(1,1+r)):=by
   unfold spK;rw[List.range_add,List.map_append,List.map_map];rfl
  unfold fS;rw[e, ←List.append_assoc,run_append,run_keep _ _ _ _ (fun e=>by
   obtain⟨r,_,h⟩:=List.mem_map.1 e;have:=congrArg Prod.snd h;simp at this)]
theorem way_good{n:Nat}(hn:0<n∧n≤2048)(hb:∀z∈cs,0≤z∧z<256){fs:List Int}(hf:∀x∈fs,2≤x∧x<(n:Int))(h:BegO D0 (fun _=>[]))(hst:D0.st=some fs)(Q:List (Nat×Nat)):GoodO n (runO zs cs Q D0):=by
 refine good_run hn hb Q D0 (fun l r=>by rw[beg_lo h];omega) ⟨fun l r=>?_,⟨fs,hst,fun x hx=>by have:=hf x hx;omega⟩,fun p hp=>by rw[h.p] at hp;cases hp⟩;have e:(D0.Ln l).getD r 0=0:=by rw[h.ln];rfl
 rw[e];omega
theorem good_words{n:Nat}(hn:n≤2048){D:RD}(h:GoodO n D)(l r:Nat):∀z∈wordsN D.Ln l r,0≤z∧z<4294967296:=by
 intro z hz;unfold wordsN at hz;obtain⟨k,_,rfl⟩:=List.mem_map.1 hz;have:=h.1 l (belR l r k);omega
theorem way_P(h:BegO D0 (fun _=>[])){Q:List (Nat×Nat)}(hQ:∀p∈Q,p.2<513):(runO zs cs Q D0).P.length≤Q.length:=by
 have:=(run_len zs cs Q D0 hQ).2;rw[h.p] at this;simpa using this
theorem spK_len(l m:Nat):(spK l m).length=m:=by simp[spK]
theorem eS_P(h:BegO D0 (fun _=>[])){k:Nat}(hk:k≤512):(eS zs cs D0 k).P.length≤100000:=by
 have:=way_P (zs:=zs) (cs:=cs) h (Q:=spK 0 k) (fun p hp=>by have:=(spK_mem.1 hp).2;omega);rw[spK_len] at this;unfold eS;omega
theorem fS_P(h:BegO D0 (fun _=>[]))(hc:cntT cs≤512){m:Nat}(hm:m≤512):(fS zs cs D0 m).P.length≤100000:=by
 have:=way_P (zs:=zs) (cs:=cs) h (Q:=spK 0 (cntT cs)++spK 1 m) (fun p hp=>by
  rcases List.mem_append.1 hp with hp|hp
  ·have:=(spK_mem.1 hp).2;omega
  ·have:=(spK_mem.1 hp).2;omega)
 rw[List.length_append,spK_len,spK_len] at this;unfold fS;omega
end
theorem allZ_dec(ys:List Int):allZ ys=decide (ys=List.replicate ys.length 0):=by
 unfold allZ;by_cases h:ys=List.replicate ys.length 0
 ·rw[decide_eq_true h,List.all_eq_true];intro x hx;rw[h] at hx;rw[List.eq_of_mem_replicate hx];simp
 ·rw[decide_eq_false h,Bool.eq_false_iff];intro e;rw[List.all_eq_true] at e;exact h (List.eq_replicate_iff.2 ⟨rfl,fun b hb=>by have:=e b hb;simpa using this⟩)
theorem fill_pad{cs:List Int}{k:Nat}(hk:k<cntT cs):((cs++List.replicate (cntT cs*512-cs.length) 0).drop (k*512)).take 512=padB cs k:=by
 rw[padB_map];refine list_ext (by simp;unfold cntT at hk⊢;omega) (fun i hi=>?_);have hi:i<512:=by
  simp at hi;omega
 simp only[List.getD];rw[List.getElem?_take,if_pos hi,List.getElem?_drop,List.getElem?_map,List.getElem?_range hi];by_cases h:k*512+i<cs.length
 ·rw[List.getElem?_append_left h];simp[List.getD,h]
 ·rw[List.getElem?_append_right (by omega),List.getElem?_replicate];split<;>simp[List.getD,List.getElem?_eq_none (show cs.length≤k*512+i by omega)]
end
section
open Go.RowKit
structure NumsOk(n:Nat)(L:List Int):Prop where
 nd:L.Nodup
 rng:∀x∈L,2≤x∧x<(n:Int)
def swL(L:List Int)(k i:Nat):List Int:=(L.set k (L.getD i 0)).set i (L.getD k 0)
def swI(k i t:Nat):Nat:=if t=i then k else if t=k then i else t
theorem swL_len(L:List Int)(k i:Nat):(swL L k i).length=L.length:=by simp[swL]
theorem swL_get(L:List Int){k i t:Nat}(hk:k<L.length)(hi:i<L.length)(ht:t<L.length):(swL L k i).getD t 0=L.getD (swI k i t) 0:=by
 unfold swL swI;simp only[List.getD,List.getElem?_set,List.length_set];by_cases h1:t=i
 ·subst h1;simp[ht,List.getElem?_eq_getElem hk]
 ·rw[if_neg (fun e=>h1 e.symm),if_neg h1];by_cases h2:t=k
  ·subst h2;simp[ht,List.getElem?_eq_getElem hi]
  ·rw[if_neg (fun e=>h2 e.symm),if_neg h2]
theorem swI_lt{k i t n:Nat}(hk:k<n)(hi:i<n)(ht:t<n):swI k i t<n:=by unfold swI;split;exact hk;split;exact hi;exact ht
theorem swI_inj{k i t u:Nat}(h:swI k i t=swI k i u):t=u:=by
 unfold swI at h;split at h<;>split at h<;>(try split at h)<;>(try split at h)<;>omega
theorem nodup_get{L:List Int}:L.Nodup↔∀i j,i<L.length→j<L.length→L.getD i 0=L.getD j 0→i=j:=by
 unfold List.Nodup;rw[List.pairwise_iff_getElem];constructor
 ·intro h i j hi hj e;simp[List.getD,hi,hj] at e;rcases Nat.lt_trichotomy i j with h1|h1|h1
  ·exact absurd e (h i j hi hj h1)
  ·exact h1
  ·exact absurd e.symm (h j i hj hi h1)
 ·intro h i j hi hj hij e;have:=h i j hi hj (by simp[List.getD,hi,hj,e]);omega
theorem NumsOk.swap{n:Nat}{L:List Int}(h:NumsOk n L){k i:Nat}(hk:k<L.length)(hi:i<L.length):NumsOk n (swL L k i):=by
 refine⟨nodup_get.2 (fun t u ht hu e=>?_),fun x hx=>?_⟩
 ·rw[swL_len] at ht hu;rw[swL_get L hk hi ht,swL_get L hk hi hu] at e;exact swI_inj (nodup_get.1 h.nd _ _ (swI_lt hk hi ht) (swI_lt hk hi hu) e)
 ·obtain⟨t,ht,rfl⟩:=List.getElem_of_mem hx;rw[swL_len] at ht;have e:(swL L k i)[t]=(swL L k i).getD t 0:=by simp[List.getD,swL_len,ht]
  rw[e,swL_get L hk hi ht];have h2:swI k i t<L.length:=swI_lt hk hi ht;have e2:L.getD (swI k i t) 0=L[swI k i t]:=by simp[List.getD,h2]
  rw[e2];exact h.rng _ (List.getElem_mem _)
def fromL(k:Nat):List Int:=(List.range k).map fun j=>((2+j:Nat):Int)
theorem fromL_succ(k:Nat):fromL (k+1)=fromL k++[((2+k:Nat):Int)]:=by unfold fromL;rw[List.range_succ,List.map_append];rfl
theorem fromL_len(k:Nat):(fromL k).length=k:=by simp[fromL]
theorem fromL_ok{n k:Nat}(h:k+2≤n):NumsOk n (fromL k):=by
 refine⟨nodup_get.2 (fun i j hi hj e=>?_),fun x hx=>?_⟩
 ·rw[fromL_len] at hi hj;unfold fromL at e;simp[List.getD,hi,hj] at e;omega
 ·unfold fromL at hx;obtain⟨j,hj,rfl⟩:=List.mem_map.1 hx;have:=List.mem_range.1 hj;omega
end
end Go.Proofs.YtbhpealglhkodaaGreatDoor
