/- A content with one block that isn't zeros, renewed over an empty tree: what is put and num -/
import Derived.Test.YtbhpealglhkodaaGreatDoorXc35
namespace Go.Proofs.YtbhpealglhkodaaGreatDoor
set_option linter.all false
set_option maxRecDepth 100000
set_option maxHeartbeats 16000000
section
open Go.RowKit
theorem rng_some(cnt s:Nat)(m:Nat):(List.range m).flatMap (fun k=>if cnt≤s+k then [] else [s+k])=List.range' s (min m (cnt-s)):=by
 induction m with
 |zero=>simp
 |succ m ih=>
  rw[List.range_succ,List.flatMap_append,ih];simp only[List.flatMap_cons,List.flatMap_nil,List.append_nil];by_cases h:cnt≤s+m
  ·rw[if_pos h,List.append_nil,show min (m+1) (cnt-s)=min m (cnt-s) by omega]
  ·rw[if_neg h,show min (m+1) (cnt-s)=m+1 by omega,show min m (cnt-s)=m by omega,List.range'_concat];simp
theorem rng_many(cnt s:Nat)(m:Nat):(List.range m).flatMap (fun k=>List.range' (s+128*k) (min 128 (cnt-(s+128*k))))=List.range' s (min (128*m) (cnt-s)):=by
 induction m with
 |zero=>simp
 |succ m ih=>
  rw[List.range_succ,List.flatMap_append,ih];simp only[List.flatMap_cons,List.flatMap_nil,List.append_nil];by_cases h:cnt≤s+128*m
  ·rw[show min 128 (cnt-(s+128*m))=0 by omega,show min (128*(m+1)) (cnt-s)=min (128*m) (cnt-s) by omega];simp
  ·rw[show min (128*m) (cnt-s)=128*m by omega,show min (128*(m+1)) (cnt-s)=128*m+min 128 (cnt-(s+128*m)) by omega, ←List.range'_append_1]
theorem rng_tops(cnt c s:Nat)(m:Nat):(List.range m).flatMap (fun k=>if cnt≤c+128*k then [] else [s+k])=List.range' s (min m ((cnt-c+127)/128)):=by
 induction m with
 |zero=>simp
 |succ m ih=>
  rw[List.range_succ,List.flatMap_append,ih];simp only[List.flatMap_cons,List.flatMap_nil,List.append_nil];by_cases h:cnt≤c+128*m
  ·rw[if_pos h,List.append_nil,show min (m+1) ((cnt-c+127)/128)=min m ((cnt-c+127)/128) by omega]
  ·rw[if_neg h,show min (m+1) ((cnt-c+127)/128)=m+1 by omega,show min m ((cnt-c+127)/128)=m by omega,List.range'_concat];simp
theorem fir1(r:Nat):firI 1 r=12+r*128:=by simp[firI,belR]
theorem fir2:firI 2 0=140:=by simp[firI,belR]
theorem vis_00(cnt r:Nat):visit cnt 0 0 r=if cnt≤r then [] else [r]:=by
 rw[visit];by_cases h:cnt≤r
 ·rw[if_pos (.inr h),if_pos h]
 ·rw[if_neg (fun h1=>h1.elim (fun h1=>by omega) h),if_neg h]
theorem vis_01(cnt r:Nat):visit cnt 0 1 r=List.range' (12+r*128) (min 128 (cnt-(12+r*128))):=by
 have h0:=fir1 r;rw[visit];by_cases h:cnt≤12+r*128
 ·rw[if_pos (.inr (by rw[h0];exact h)),show cnt-(12+r*128)=0 by omega];simp
 ·rw[if_neg (fun h1=>h1.elim (fun h1=>by omega) (fun h1=>h (by rw[h0] at h1;exact h1))),if_neg (by omega)];rw[←rng_some];congr 1;funext k;rw[vis_00];simp[belR]
theorem vis_02(cnt:Nat):visit cnt 0 2 0=List.range' 140 (min (128*128) (cnt-140)):=by
 have h0:=fir2;rw[visit];by_cases h:cnt≤140
 ·rw[if_pos (.inr (by rw[h0];exact h)),show cnt-140=0 by omega];simp
 ·rw[if_neg (fun h1=>h1.elim (fun h1=>by omega) (fun h1=>h (by rw[h0] at h1;exact h1))),if_neg (by omega)];rw[←rng_many cnt 140 128];congr 1;funext k;rw[vis_01,show 12+belR 1 0 k*128=140+128*k by simp[belR];omega]
theorem vis_11(cnt r:Nat):visit cnt 1 1 r=if cnt≤12+r*128 then [] else [r]:=by
 have h0:=fir1 r;rw[visit];by_cases h:cnt≤12+r*128
 ·rw[if_pos (.inr (by rw[h0];exact h)),if_pos h]
 ·rw[if_neg (fun h1=>h1.elim (fun h1=>by omega) (fun h1=>h (by rw[h0] at h1;exact h1))),if_pos rfl,if_neg h]
theorem vis_12(cnt:Nat):visit cnt 1 2 0=List.range' 1 (min 128 ((cnt-140+127)/128)):=by
 have h0:=fir2;rw[visit];by_cases h:cnt≤140
 ·rw[if_pos (.inr (by rw[h0];exact h)),show min 128 ((cnt-140+127)/128)=0 by omega];simp
 ·rw[if_neg (fun h1=>h1.elim (fun h1=>by omega) (fun h1=>h (by rw[h0] at h1;exact h1))),if_neg (by omega), ←rng_tops];congr 1;funext k;rw[vis_11,show 12+belR 1 0 k*128=140+128*k by simp[belR];omega];simp[belR]
theorem vis_22(cnt:Nat):visit cnt 2 2 0=if 140<cnt then [0] else []:=by
 have h0:=fir2;rw[visit];by_cases h:cnt≤140
 ·rw[if_pos (.inr (by rw[h0];exact h)),if_neg (by omega)]
 ·rw[if_neg (fun h1=>h1.elim (fun h1=>by omega) (fun h1=>h (by rw[h0] at h1;exact h1))),if_pos rfl,if_pos (by omega)]
theorem vis_up(cnt lvl l r:Nat)(h:l<lvl):visit cnt lvl l r=[]:=by
 cases l with
 |zero=>rw[visit,if_pos (.inl h)]
 |succ l=>rw[visit,if_pos (.inl h)]
theorem level_parts(cnt lvl:Nat):levelV cnt lvl 14=(List.range 12).flatMap (fun j=>visit cnt lvl 0 j)++(visit cnt lvl 1 0++visit cnt lvl 2 0):=by
 unfold levelV;rw[show List.range 14=List.range 12++[12,13] from rfl,List.flatMap_append];congr 1;show visit cnt lvl (topL 12) (topR 12)++(visit cnt lvl (topL 13) (topR 13)++[])=_;rw[List.append_nil];rfl
theorem flat_none(n:Nat)(f:Nat→List Nat)(h:∀k,f k=[]):(List.range n).flatMap f=[]:=by
 rw[show f=fun _=>[] from funext h];simp
theorem level_at{cnt:Nat}(h:cnt≤512):levelV cnt 0 14=List.range cnt∧levelV cnt 1 14=List.range ((cnt+115)/128)∧levelV cnt 2 14=if 140<cnt then [0] else []:=by
 refine⟨?_,?_,?_⟩
 ·rw[level_parts,vis_01,vis_02,show(fun j=>visit cnt 0 0 j)=(fun k=>if cnt≤0+k then [] else [0+k]) from by funext k;rw[vis_00];simp,rng_some,List.range_eq_range'];by_cases h1:cnt≤12
  ·rw[show min 12 (cnt-0)=cnt by omega,show min 128 (cnt-(12+0*128))=0 by omega,show min (128*128) (cnt-140)=0 by omega];simp
  ·by_cases h2:cnt≤140
   ·rw[show min 12 (cnt-0)=12 by omega,show min 128 (cnt-(12+0*128))=cnt-12 by omega,show min (128*128) (cnt-140)=0 by omega];have:=List.range'_append_1 (s:=0) (m:=12) (n:=cnt-12);rw[show 12+(cnt-12)=cnt by omega] at this;simpa using this
   ·rw[show min 12 (cnt-0)=12 by omega,show min 128 (cnt-(12+0*128))=128 by omega,show min (128*128) (cnt-140)=cnt-140 by omega];have h3:=List.range'_append_1 (s:=0) (m:=12) (n:=128);have h4:=List.range'_append_1 (s:=0) (m:=140) (n:=cnt-140);rw[show 140+(cnt-140)=cnt by omega] at h4;rw[←h4,show 140=12+128 by rfl, ←h3];simp
 ·rw[level_parts,vis_11,vis_12,flat_none 12 _ (fun k=>vis_up cnt 1 0 k (by omega)),List.nil_append,List.range_eq_range'];by_cases h1:cnt≤12
  ·rw[if_pos (by omega),show min 128 ((cnt-140+127)/128)=0 by omega,show(cnt+115)/128=0 by omega];simp
  ·rw[if_neg (by omega),show min 128 ((cnt-140+127)/128)=(cnt-140+127)/128 by omega];have h3:=List.range'_append_1 (s:=0) (m:=1) (n:=(cnt-140+127)/128);rw[show 1+(cnt-140+127)/128=(cnt+115)/128 by omega] at h3;simpa using h3
 ·rw[level_parts,vis_22,flat_none 12 _ (fun k=>vis_up cnt 2 0 k (by omega)),vis_up cnt 2 1 0 (by omega)];simp
end
section
open Go.RowKit Go.Shelf
theorem own_abideS{A B:World}{row:Option Nat}{base n z sz:Nat}{e:TypeId}{v:Value}{xs:List Value}(h:A.ownsRow base e sz v n xs)(hg:A.grownBy B row)(hr:∀r,row=some r→z≤r∧∃o,A.heap[r]?=some o∧o.isCells=false):B.ownsRow base e sz v n xs:=by
 refine h.kept hg ?_;cases hb:v.ownBlock with
 |none=>exact .inl rfl
 |some k=>
  refine .inr (fun e'=>?_);obtain⟨_,o,ho,hc⟩:=hr k e'.symm;rcases h.2 with⟨rfl,_⟩|⟨g,cap,cur,rfl,_,hgg,_⟩
  ·cases hb
  ·have:g=k:=Option.some.inj hb;subst this;rw[hgg] at ho;cases ho
   cases hc
theorem RSt.abides{W0:World}{b z:Nat}{D:RD}(hz:W0.heap.size≤z){A B:World}{row:Option Nat}(h:RSt W0 A b D)(hg:A.grownBy B row)(hr:∀r,row=some r→z≤r∧∃o,A.heap[r]?=some o∧o.isCells=false):RSt W0 B b D:=by
 obtain⟨C,so,sl,fv,pv,vs,h⟩:=h;refine⟨C,so,sl,fv,pv,vs,⟨h.trs,h.size,h.tr,h.cv,h.old.abide hg hr,h.now.abide hg hr,h.apart,h.fn,?_,h.ps,⟨h.puts.len,h.puts.pre,own_abideS h.puts.row hg hr,fun i u l hu hl=>own_abideS (h.puts.dat i u l hu hl) hg hr,h.puts.one⟩,h.sh,h.lo,below_abide h.low hz h.low.size hg hr⟩⟩;have hs:=h.sup;cases hst:D.st with
 |none=>rw[hst] at hs;exact hs
 |some L=>
  rw[hst] at hs;obtain⟨g,a,cap,e1,e2,e3,e4⟩:=hs;exact⟨g,a,cap,e1,e2,blk_abide e3 hg hr,e4⟩
structure RKp(D0 D:RD)(n:Nat):Prop where
 tr:D.tr=D0.tr
 cv:D.cv=D0.cv
 Lo:D.Lo=D0.Lo
 P:D.P.length≤D0.P.length+n
 Ln:∀l,(D.Ln l).length≤max (D0.Ln l).length 513
theorem RKp.place{D0 D:RD}{n l r:Nat}{z:Bool}{ys:List Int}(h:RKp D0 D n)(hr:r<513):RKp D0 (D.place l r z ys) (n+1):=by
 have hL:∀(x:Int) k,((upd D.Ln l (setN (D.Ln l) r x)) k).length≤max (D0.Ln k).length 513:=fun x k=>by
  by_cases e:k=l
  ·subst e;rw[upd_same,setN_len];have:=h.Ln k;omega
  ·rw[upd_other _ _ _ _ e];exact h.Ln k
 unfold RD.place;split
 ·exact⟨h.tr,h.cv,h.Lo,by have:=h.P;show D.P.length≤_;omega,hL 0⟩
 ·unfold RD.fresh;split
  ·exact⟨h.tr,h.cv,h.Lo,by have:=h.P;show(D.P++[_]).length≤_;rw[List.length_append];simp;omega,hL _⟩
  ·exact⟨h.tr,h.cv,h.Lo,by have:=h.P;show D.P.length≤_;omega,hL _⟩
structure LfI(W0:World)(b:Nat)(D0:RD)(step:RD→Nat→RD)(pre:List Nat)(w:World):Prop where
 st:RSt W0 w b (pre.foldl step D0)
 kp:RKp D0 (pre.foldl step D0) pre.length
theorem lvK_of(W0:World)(b:Nat)(D0:RD)(step:RD→Nat→RD):LvK W0.heap.size b W0 (LfI W0 b D0 step):=by
 refine⟨fun z hz pre A B row h hg hr=>⟨h.st.abides hz hg hr,h.kp⟩,fun pre w h=>?_,fun pre w h l hl v g hv hg=>?_,fun pre w h=>?_,Nat.le_refl _⟩
 ·obtain⟨C,so,sl,fv,pv,vs,hS⟩:=h.st;exact⟨C,hS.now.box⟩
 ·obtain⟨C,so,sl,fv,pv,vs,hS⟩:=h.st;have h1:=(hS.now.box.cell (20+l)).trans (hS.now.at_ l hl);rw[h1] at hv;cases hv
  exact((hS.now.row l hl).lt g hg).2
 ·obtain⟨C,so,sl,fv,pv,vs,hS⟩:=h.st;exact hS.low
theorem pre_len{pre F:List Nat}{r:Nat}(h:pre++[r]<+:F):pre.length<F.length:=by have:=h.length_le;simp at this;omega
end
end Go.Proofs.YtbhpealglhkodaaGreatDoor
