/- The model's passes: mathematics -/
import Derived.Test.YtpplnhkpcpieoaaGreatDoorZx12
namespace Go.Proofs.YtpplnhkpcpieoaaGreatDoor
open Go.Proofs.Tryz
set_option linter.all false
set_option maxRecDepth 100000
set_option maxHeartbeats 16000000
section
open Go.RowKit
def gH(m:Nat)(bf ol:List Int)(s:FD)(k:Nat):FD×Bool:=(List.range k).foldl (bS m bf ol) (s,true)
theorem zm(m:Nat)(bf ol:List Int)(s:FD)(k:Nat):gH m bf ol s (k+1)=bS m bf ol (gH m bf ol s k) k:=by simp[gH,List.range_succ]
theorem uG(k:Nat)(pl:List Int):ja (k+1) pl=(ja k pl||(decide (12≤k)&&decide (pl.getD k 0≠0))):=by
 unfold ja;rw[List.range_succ,List.any_append];simp
theorem GN(ol:List Int)(s:FD)(k b j:Nat)(h:j≠k):(gC ol s k b).pl.getD j 0=s.pl.getD j 0:=by
 show(s.pl.set k _).getD j 0=_;simp only[List.getD,List.getElem?_set];rw[if_neg (fun e=>h e.symm)]
theorem GO(bf ol:List Int)(s:FD)(k j:Nat)(h:j≠k):(jw bf ol s k).1.pl.getD j 0=s.pl.getD j 0:=by
 unfold jw;split
 ·exact GN ol s k _ j h
 ·rfl
theorem uH(m:Nat)(bf ol:List Int)(s:FD×Bool)(k j:Nat)(h:j≠k):(bS m bf ol s k).1.pl.getD j 0=s.1.pl.getD j 0:=by
 unfold bS;split
 ·exact GO bf ol s.1 k j h
 ·rfl
theorem GP(k:Nat)(p q:List Int)(h:∀j,j<k→p.getD j 0=q.getD j 0):ja k p=ja k q:=by
 induction k with
 |zero=>rfl
 |succ k ih=>rw[uG,uG,ih (fun j hj=>h j (by omega)),h k (by omega)]
theorem GQ(m:Nat)(bf ol:List Int)(s:FD×Bool)(k:Nat):ja k (bS m bf ol s k).1.pl=ja k s.1.pl:=GP _ _ _ (fun j hj=>uH m bf ol s k j (by omega))
theorem zq(m:Nat)(bf ol:List Int)(s:FD)(h:¬12<m):cW m bf ol s=gH m bf ol s m:=by
 unfold cW cE gH;rw[if_neg h,List.append_nil]
theorem uI(m:Nat)(bf ol:List Int)(s:FD)(h:12<m):cW m bf ol s=bS m bf ol (gH m bf ol s m) m:=by
 unfold cW cE gH;rw[if_pos h,List.foldl_append];rfl
theorem cF.gH{m n:Nat}{s:FD}(h:cF m n s)(hn:n≤2048)(bf ol:List Int)(k:Nat)(hk:k≤m+1):cF m n (gH m bf ol s k).1∧s.od.length≤(Go.Proofs.YtpplnhkpcpieoaaGreatDoor.gH m bf ol s k).1.od.length:=
 cF.fold hn bf ol (List.range k) (s,true) h (fun j hj=>by have:=List.mem_range.1 hj;omega)
theorem uJ{m:Nat}{bf ol:List Int}{s:FD×Bool}{k:Nat}(h:(bS m bf ol s k).2=true):s.2=true:=by
 cases hs:s.2 with
 |true=>rfl
 |false=>
  exfalso;unfold bS at h;rw[hs] at h;simp[hs] at h
theorem GR{ws bf:List Int}{c b:Nat}(h:fD ws bf c=some b)(h2:2≤c)(hc:c<ws.length):(b:Int)≠0:=by
 have:=qw h2 hc h;omega
theorem GS{m n:Nat}{bf ol:List Int}{s:FD×Bool}{k:Nat}(hw:cF m n s.1)(hk:k<m)(h:(bS m bf ol s k).2=true):(bS m bf ol s k).1.pl.getD k 0≠0∨ol.getD k 0≠0:=by
 have hs:=uJ h;unfold bS at h⊢;by_cases hst:fE m bf ol s.1 k=true
 ·rw[hs,hst,Bool.and_true,if_pos rfl] at h⊢;unfold jw at h⊢;split at h
  ·rename_i b hb
   left;show(s.1.pl.set k (b:Int)).getD k 0≠0;rw[qx _ _ _ _ (by rw[hw.pn];omega),if_pos rfl];exact GR hb hw.cu.1 (by rw[hw.wl];exact hw.cu.2)
  ·exact absurd h (by simp)
 ·rw[hs] at h⊢;have hst':fE m bf ol s.1 k=false:=by simpa using hst
  rw[hst',Bool.and_false,if_neg (by decide)];unfold fE at hst';simp only[Bool.and_eq_false_iff,Bool.or_eq_false_iff,decide_eq_false_iff_not] at hst';rcases hst' with h1|h1
  ·exact .inl h1
  ·exact .inr h1.1
theorem uK{m n:Nat}{bf ol:List Int}{s:FD}(hw:cF m n s)(hn:n≤2048):∀k,k≤m→(gH m bf ol s k).2=true→∀j,j<k→(gH m bf ol s k).1.pl.getD j 0≠0∨ol.getD j 0≠0
 |0,_,_,j,hj=>absurd hj (by omega)
 |k+1,hk,h,j,hj=>by
  rw[zm] at h⊢;by_cases e:j=k
  ·subst e;exact GS (hw.gH hn bf ol j (by omega)).1 (by omega) h
  ·rw[uH _ _ _ _ _ _ e];exact uK hw hn k (by omega) (uJ h) j (by omega)
theorem GU{m n:Nat}{bf ol:List Int}{s:FD}(hw:cF m n s)(hn:n≤2048)(h:(cW m bf ol s).2=true):∀j,j<m→(cW m bf ol s).1.pl.getD j 0≠0∨ol.getD j 0≠0:=by
 by_cases h12:12<m
 ·rw[uI _ _ _ _ h12] at h⊢;intro j hj;rw[uH _ _ _ _ _ _ (by omega)];exact uK hw hn m aj (uJ h) j hj
 ·rw[zq _ _ _ _ h12] at h⊢;exact uK hw hn m aj h
theorem zu{m n:Nat}{bf ol:List Int}(hn:n≤2048):∀(f:Nat) (s:FD),cF m n s→m+2≤f+s.od.length→(fJ m bf ol f s).2=true→∀j,j<m→(fJ m bf ol f s).1.pl.getD j 0≠0∨ol.getD j 0≠0
 |0,s,hw,hf,_=>by have:=hw.jb;omega
 |f+1,s,hw,hf,h=>by
  rw[fJ] at h⊢;split at h
  ·rename_i hc
   rw[if_pos hc];simp only[Bool.and_eq_true,decide_eq_true_eq] at hc;have h1:=hw.pass hn bf ol;exact zu hn f _ h1.1 (by omega) h
  ·rename_i hc
   rw[if_neg hc];exact GU hw hn h
theorem GV{m:Nat}{bf ol:List Int}{s:FD×Bool}{k:Nat}(hk:k∈cE m)(h:∀j∈s.1.od,j∈cE m):∀j∈(bS m bf ol s k).1.od,j∈cE m:=by
 unfold bS;split
 ·unfold jw;split
  ·intro j hj;rcases List.mem_append.1 (show j∈s.1.od++[k] from hj) with hj|hj
   ·exact h j hj
   ·rw[List.mem_singleton] at hj;rw[hj];exact hk
  ·exact h
 ·exact h
theorem zv{m:Nat}{bf ol:List Int}:∀(ks:List Nat) (s:FD×Bool),(∀k∈ks,k∈cE m)→(∀j∈s.1.od,j∈cE m)→∀j∈(ks.foldl (bS m bf ol) s).1.od,j∈cE m
 |[],s,_,h=>h
 |k::ks,s,hk,h=>zv ks _ (fun j hj=>hk j (List.mem_cons_of_mem _ hj)) (GV (hk k (List.mem_cons_self ..)) h)
theorem zx{m:Nat}{bf ol:List Int}:∀(f:Nat) (s:FD),(∀j∈s.od,j∈cE m)→∀j∈(fJ m bf ol f s).1.od,j∈cE m
 |0,s,h=>h
 |f+1,s,h=>by
  have h1:=zv (bf:=bf) (ol:=ol) (cE m) (s,true) (fun k hk=>hk) h;unfold fJ;split
  ·exact zx f _ h1
  ·exact h1
theorem uL{B:Nat}{a w:World}(h:Below B a w)(n:Nat):Below B a (w.drewN n):=h.trans ⟨rfl,rfl,rfl,aj,fun _ _=>rfl⟩
theorem GW(v1 v2:Value)(xs ys:List Int)(w:World)(h1:Rd .i64 w v1 xs)(h2:Rd .i64 w v2 ys):
 Calls prog 77 #[v1,v2] w fun e w'=>e=.returned (.bool (decide (xs=ys)))∧Below w.heap.size w w':=by
 have hm:=h1.len;have hm2:=h2.len;unfold maxLen at hm hm2;by_cases hlen:xs.length=ys.length
 ·have p1:At .i64 w v1 xs.length xs:=h1.parts;have p2:At .i64 w v2 ys.length ys:=h2.parts;rw[←hlen] at p2;have HL:Hid (xs.length=ys.length):=hlen;clear hlen h1 h2 hm2;generalize hn:xs.length=n at*;have HN:Hid (xs.length=n):=hn;clear hn;rcases p1 with⟨a1,Qn,rfl,hlow⟩|⟨b1,off1,Qn,rfl,N2,hcell1⟩<;>rcases p2 with⟨a2,cap2,rfl,UM⟩|⟨b2,off2,cap2,rfl,hbw2,hcell2⟩;all_goals
   go_enter func77,ntmps77;go_wp2;go_loopw [13] (fun i wr=>∃k nq:Nat,k≤n∧i=.int .i64 k∧wr=w.drewN nq∧xs.take k=ys.take k) (fun i _=>n-(intOf i).toNat)
   case atStart=>exact⟨0,0,Nat.zero_le _,rfl,rfl,rfl⟩
   case round=>
    obtain⟨k,nq,hk,rfl,rfl,ht⟩:=hrel;have HT:Hid (xs.take k=ys.take k):=ht;clear ht;by_cases hlt:k<n
    ·first
     |omega
     |(
      have c1:=hcell1 k hlt;have c2:=hcell2 k hlt;have HX:Hid (xs.getD k 0=ys.getD k 0→xs.take (k+1)=ys.take (k+1)):=fun he=>wm xs ys k (by have:=HN.out;omega) (by have:=HL.out;omega) HT.out he;have HY:Hid (xs.getD k 0≠ys.getD k 0→¬xs=ys):=fun he h=>he (by rw[h]);generalize xs.getD k 0=x at c1 HX HY;generalize ys.getD k 0=y at c2 HX HY;have hlt':(k:Int)<(n:Int):=(by omega);clear hcell1 hcell2;by_cases hxy:x=y
      ·have hq:(x !=y)=false:=(by simp[hxy]);have SS:Hid (x=y):=hxy;clear hxy;go_wp2;go_quiet (fail)
       go_wp2;go_roundw
       case rel=>exact⟨k+1,_,by omega,by go_num,rfl,HX.out SS.out⟩
       case measure=>simp[intOf];omega
      ·have hq:(x !=y)=true:=(by simpa using hxy);have SS:Hid (x≠y):=hxy;clear hxy;go_wp2;go_quiet (fail)
       go_wp2;go_ret;exact⟨bX (by have:=HY.out SS.out;simp[this]),uL (uL ak _) _⟩)
    ·go_wp2;go_ret;have:k=n:=(by omega);subst this;have e1:=HT.out;rw[List.take_of_length_le (by have:=HN.out;omega),List.take_of_length_le (by have:=HL.out;omega)] at e1;exact⟨bX (by simp[e1]),uL ak _⟩
 ·obtain⟨a1,Qn,rfl,_,_⟩:=h1;obtain⟨a2,cap2,rfl,_,_⟩:=h2;have hq:((xs.length:Int)==(ys.length:Int))=false:=by simp;omega
  have HF:Hid (¬xs=ys):=fun h=>hlen (by rw[h]);clear hlen;go_enter func77,ntmps77;go_wp2;go_ret;exact⟨bX (by simp[HF.out]),ak⟩
end
end Go.Proofs.YtpplnhkpcpieoaaGreatDoor
