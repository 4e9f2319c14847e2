/- The model's passes: mathematics -/
import Derived.Test.YtlimollpocagiaaGreatDoorXa18
namespace Go.Proofs.YtlimollpocagiaaGreatDoor
open Go.Proofs.Tryz
set_option linter.all false
set_option maxRecDepth 100000
set_option maxHeartbeats 16000000
section
open Go.RowKit
def fR(m:Nat)(bf ol:List Int)(s:FD)(k:Nat):FD×Bool:=(List.range k).foldl (aZ m bf ol) (s,true)
theorem wm(m:Nat)(bf ol:List Int)(s:FD)(k:Nat):fR m bf ol s (k+1)=aZ m bf ol (fR m bf ol s k) k:=by simp[fR,List.range_succ]
theorem ri(k:Nat)(pl:List Int):fL (k+1) pl=(fL k pl||(decide (12≤k)&&decide (pl.getD k 0≠0))):=by
 unfold fL;rw[List.range_succ,List.any_append];simp
theorem Dv(ol:List Int)(s:FD)(k b j:Nat)(h:j≠k):(dW ol s k b).pl.getD j 0=s.pl.getD j 0:=by
 show(s.pl.set k _).getD j 0=_;simp only[List.getD,List.getElem?_set];rw[if_neg (fun e=>h e.symm)]
theorem Dx(bf ol:List Int)(s:FD)(k j:Nat)(h:j≠k):(fT bf ol s k).1.pl.getD j 0=s.pl.getD j 0:=by
 unfold fT;split
 ·exact Dv ol s k _ j h
 ·rfl
theorem rj(m:Nat)(bf ol:List Int)(s:FD×Bool)(k j:Nat)(h:j≠k):(aZ m bf ol s k).1.pl.getD j 0=s.1.pl.getD j 0:=by
 unfold aZ;split
 ·exact Dx bf ol s.1 k j h
 ·rfl
theorem Dy(k:Nat)(p q:List Int)(h:∀j,j<k→p.getD j 0=q.getD j 0):fL k p=fL k q:=by
 induction k with
 |zero=>rfl
 |succ k ih=>rw[ri,ri,ih (fun j hj=>h j (by omega)),h k (by omega)]
theorem Dz(m:Nat)(bf ol:List Int)(s:FD×Bool)(k:Nat):fL k (aZ m bf ol s k).1.pl=fL k s.1.pl:=Dy _ _ _ (fun j hj=>rj m bf ol s k j (by omega))
theorem wu(m:Nat)(bf ol:List Int)(s:FD)(h:¬12<m):bU m bf ol s=fR m bf ol s m:=by
 unfold bU aL fR;rw[if_neg h,List.append_nil]
theorem rq(m:Nat)(bf ol:List Int)(s:FD)(h:12<m):bU m bf ol s=aZ m bf ol (fR m bf ol s m) m:=by
 unfold bU aL fR;rw[if_pos h,List.foldl_append];rfl
theorem bg.fR{m n:Nat}{s:FD}(h:bg m n s)(hn:n≤2048)(bf ol:List Int)(k:Nat)(hk:k≤m+1):bg m n (fR m bf ol s k).1∧s.od.length≤(Go.Proofs.YtlimollpocagiaaGreatDoor.fR m bf ol s k).1.od.length:=
 bg.fold hn bf ol (List.range k) (s,true) h (fun j hj=>by have:=List.mem_range.1 hj;omega)
theorem ru{m:Nat}{bf ol:List Int}{s:FD×Bool}{k:Nat}(h:(aZ m bf ol s k).2=true):s.2=true:=by
 cases hs:s.2 with
 |true=>rfl
 |false=>
  exfalso;unfold aZ at h;rw[hs] at h;simp[hs] at h
theorem DA{ws bf:List Int}{c b:Nat}(h:ff ws bf c=some b)(h2:2≤c)(hc:c<ws.length):(b:Int)≠0:=by
 have:=l8 h2 hc h;omega
theorem DB{m n:Nat}{bf ol:List Int}{s:FD×Bool}{k:Nat}(hw:bg m n s.1)(hk:k<m)(h:(aZ m bf ol s k).2=true):(aZ m bf ol s k).1.pl.getD k 0≠0∨ol.getD k 0≠0:=by
 have hs:=ru h;unfold aZ at h⊢;by_cases hst:dX m bf ol s.1 k=true
 ·rw[hs,hst,Bool.and_true,if_pos rfl] at h⊢;unfold fT at h⊢;split at h
  ·rename_i b hb
   left;show(s.1.pl.set k (b:Int)).getD k 0≠0;rw[jN _ _ _ _ (by rw[hw.pn];omega),if_pos rfl];exact DA hb hw.cu.1 (by rw[hw.wl];exact hw.cu.2)
  ·exact absurd h (by simp)
 ·rw[hs] at h⊢;have hst':dX m bf ol s.1 k=false:=by simpa using hst
  rw[hst',Bool.and_false,if_neg (by decide)];unfold dX at hst';simp only[Bool.and_eq_false_iff,Bool.or_eq_false_iff,decide_eq_false_iff_not] at hst';rcases hst' with h1|h1
  ·exact .inl h1
  ·exact .inr h1.1
theorem ry{m n:Nat}{bf ol:List Int}{s:FD}(hw:bg m n s)(hn:n≤2048):∀k,k≤m→(fR m bf ol s k).2=true→∀j,j<k→(fR m bf ol s k).1.pl.getD j 0≠0∨ol.getD j 0≠0
 |0,_,_,j,hj=>absurd hj (by omega)
 |k+1,hk,h,j,hj=>by
  rw[wm] at h⊢;by_cases e:j=k
  ·subst e;exact DB (hw.fR hn bf ol j (by omega)).1 (by omega) h
  ·rw[rj _ _ _ _ _ _ e];exact ry hw hn k (by omega) (ru h) j (by omega)
theorem DC{m n:Nat}{bf ol:List Int}{s:FD}(hw:bg m n s)(hn:n≤2048)(h:(bU m bf ol s).2=true):∀j,j<m→(bU m bf ol s).1.pl.getD j 0≠0∨ol.getD j 0≠0:=by
 by_cases h12:12<m
 ·rw[rq _ _ _ _ h12] at h⊢;intro j hj;rw[rj _ _ _ _ _ _ (by omega)];exact ry hw hn m aj (ru h) j hj
 ·rw[wu _ _ _ _ h12] at h⊢;exact ry hw hn m aj h
theorem wz{m n:Nat}{bf ol:List Int}(hn:n≤2048):∀(f:Nat) (s:FD),bg m n s→m+2≤f+s.od.length→(eH m bf ol f s).2=true→∀j,j<m→(eH m bf ol f s).1.pl.getD j 0≠0∨ol.getD j 0≠0
 |0,s,hw,hf,_=>by have:=hw.gh;omega
 |f+1,s,hw,hf,h=>by
  rw[eH] at h⊢;split at h
  ·rename_i hc
   rw[if_pos hc];simp only[Bool.and_eq_true,decide_eq_true_eq] at hc;have h1:=hw.pass hn bf ol;exact wz hn f _ h1.1 (by omega) h
  ·rename_i hc
   rw[if_neg hc];exact DC hw hn h
theorem DD{m:Nat}{bf ol:List Int}{s:FD×Bool}{k:Nat}(hk:k∈aL m)(h:∀j∈s.1.od,j∈aL m):∀j∈(aZ m bf ol s k).1.od,j∈aL m:=by
 unfold aZ;split
 ·unfold fT;split
  ·intro j hj;rcases List.mem_append.1 (show j∈s.1.od++[k] from hj) with hj|hj
   ·exact h j hj
   ·rw[List.mem_singleton] at hj;rw[hj];exact hk
  ·exact h
 ·exact h
theorem wB{m:Nat}{bf ol:List Int}:∀(ks:List Nat) (s:FD×Bool),(∀k∈ks,k∈aL m)→(∀j∈s.1.od,j∈aL m)→∀j∈(ks.foldl (aZ m bf ol) s).1.od,j∈aL m
 |[],s,_,h=>h
 |k::ks,s,hk,h=>wB ks _ (fun j hj=>hk j (List.mem_cons_of_mem _ hj)) (DD (hk k (List.mem_cons_self ..)) h)
theorem wG{m:Nat}{bf ol:List Int}:∀(f:Nat) (s:FD),(∀j∈s.od,j∈aL m)→∀j∈(eH m bf ol f s).1.od,j∈aL m
 |0,s,h=>h
 |f+1,s,h=>by
  have h1:=wB (bf:=bf) (ol:=ol) (aL m) (s,true) (fun k hk=>hk) h;unfold eH;split
  ·exact wG f _ h1
  ·exact h1
theorem rz{B:Nat}{a w:World}(h:Below B a w)(n:Nat):Below B a (w.drewN n):=h.trans ⟨rfl,rfl,rfl,aj,fun _ _=>rfl⟩
theorem DE(v1 v2:Value)(xs ys:List Int)(w:World)(h1:Rd .i64 w v1 xs)(h2:Rd .i64 w v2 ys):
 Calls prog 82 #[v1,v2] w fun e w'=>e=.returned (.bool (decide (xs=ys)))∧Below w.heap.size w w':=by
 have hm:=h1.len;have hm2:=h2.len;unfold maxLen at hm hm2;by_cases hlen:xs.length=ys.length
 ·have p1:At .i64 w v1 xs.length xs:=h1.parts;have p2:At .i64 w v2 ys.length ys:=h2.parts;rw[←hlen] at p2;have HL:Hid (xs.length=ys.length):=hlen;clear hlen h1 h2 hm2;generalize hn:xs.length=n at*;have HN:Hid (xs.length=n):=hn;clear hn;rcases p1 with⟨a1,cap1,rfl,hlow⟩|⟨b1,off1,cap1,rfl,hbw1,hcell1⟩<;>rcases p2 with⟨a2,cap2,rfl,hlow2⟩|⟨b2,off2,cap2,rfl,hbw2,hcell2⟩;all_goals
   go_enter func82,ntmps82;go_wp2;go_loopw [13] (fun i wr=>∃k nq:Nat,k≤n∧i=.int .i64 k∧wr=w.drewN nq∧xs.take k=ys.take k) (fun i _=>n-(intOf i).toNat)
   case atStart=>exact⟨0,0,Nat.zero_le _,rfl,rfl,rfl⟩
   case round=>
    obtain⟨k,nq,hk,rfl,rfl,ht⟩:=hrel;have HT:Hid (xs.take k=ys.take k):=ht;clear ht;by_cases hlt:k<n
    ·first
     |omega
     |(
      have c1:=hcell1 k hlt;have c2:=hcell2 k hlt;have HX:Hid (xs.getD k 0=ys.getD k 0→xs.take (k+1)=ys.take (k+1)):=fun he=>ye xs ys k (by have:=HN.out;omega) (by have:=HL.out;omega) HT.out he;have HY:Hid (xs.getD k 0≠ys.getD k 0→¬xs=ys):=fun he h=>he (by rw[h]);generalize xs.getD k 0=x at c1 HX HY;generalize ys.getD k 0=y at c2 HX HY;have hlt':(k:Int)<(n:Int):=(by omega);clear hcell1 hcell2;by_cases hxy:x=y
      ·have hq:(x !=y)=false:=(by simp[hxy]);have HXY:Hid (x=y):=hxy;clear hxy;go_wp2;go_quiet (fail)
       go_wp2;go_roundw
       case rel=>exact⟨k+1,_,by omega,by go_num,rfl,HX.out HXY.out⟩
       case measure=>simp[intOf];omega
      ·have hq:(x !=y)=true:=(by simpa using hxy);have HXY:Hid (x≠y):=hxy;clear hxy;go_wp2;go_quiet (fail)
       go_wp2;go_ret;exact⟨ep (by have:=HY.out HXY.out;simp[this]),rz (rz ak _) _⟩)
    ·go_wp2;go_ret;have:k=n:=(by omega);subst this;have e1:=HT.out;rw[List.take_of_length_le (by have:=HN.out;omega),List.take_of_length_le (by have:=HL.out;omega)] at e1;exact⟨ep (by simp[e1]),rz ak _⟩
 ·obtain⟨a1,cap1,rfl,_,_⟩:=h1;obtain⟨a2,cap2,rfl,_,_⟩:=h2;have hq:((xs.length:Int)==(ys.length:Int))=false:=by simp;omega
  have HF:Hid (¬xs=ys):=fun h=>hlen (by rw[h]);clear hlen;go_enter func82,ntmps82;go_wp2;go_ret;exact⟨ep (by simp[HF.out]),ak⟩
end
end Go.Proofs.YtlimollpocagiaaGreatDoor
