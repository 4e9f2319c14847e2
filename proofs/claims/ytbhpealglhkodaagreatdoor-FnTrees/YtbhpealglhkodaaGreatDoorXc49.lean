/- The program's renewal: count -/
import Derived.Test.YtbhpealglhkodaaGreatDoorXc44
namespace Go.Proofs.YtbhpealglhkodaaGreatDoor
set_option linter.all false
set_option maxRecDepth 100000
set_option maxHeartbeats 16000000
section
open Go.RowKit
theorem count_any(b:Nat)(C:Array Value)(t:TypeId)(sl:Nat→Value)(Ls:Nat→List Int)(base:Nat)(w:World)(h:NumS w base b 20 C t sl Ls)(hLl:∀l,l<3→(Ls l).length≤100001):
 Calls Tryz.prog 49 #[.pointer (some ⟨b,0,none⟩)] w fun e w'=>e=.returned (.int .i64 (cntN Ls 3:Nat))∧w'=w:=by
 obtain⟨a0,c0,e0⟩:=own_shape5 (h.row 0 (by omega));obtain⟨a1,c1,e1⟩:=own_shape5 (h.row 1 (by omega));obtain⟨a2,c2,e2⟩:=own_shape5 (h.row 2 (by omega));have hr0:=Rd.own (k:=.i64) (h.row 0 (by omega));have hr1:=Rd.own (k:=.i64) (h.row 1 (by omega));have hr2:=Rd.own (k:=.i64) (h.row 2 (by omega));rw[e0] at hr0;rw[e1] at hr1;rw[e2] at hr2;obtain⟨L0,hL0⟩:∃L,L=Ls 0:=⟨_,rfl⟩;obtain⟨L1,hL1⟩:∃L,L=Ls 1:=⟨_,rfl⟩;obtain⟨L2,hL2⟩:∃L,L=Ls 2:=⟨_,rfl⟩;rw[←hL0] at hr0 e0;rw[←hL1] at hr1 e1;rw[←hL2] at hr2 e2;have hrg:w.rangeAt b 20 [.slice a0 L0.length c0,.slice a1 L1.length c1,.slice a2 L2.length c2]:=by
  intro j v hj;match j,hj with
  |0,hj=>rw[h.box.cell (20+0),h.at_ 0 (by omega),e0];simpa using hj
  |1,hj=>rw[h.box.cell (20+1),h.at_ 1 (by omega),e1];simpa using hj
  |2,hj=>rw[h.box.cell (20+2),h.at_ 2 (by omega),e2];simpa using hj
  |k+3,hj=>simp at hj
 have HRg:=hide hrg;have l0:L0.length≤100001:=by rw[hL0];exact hLl 0 (by omega)
 have l1:L1.length≤100001:=by rw[hL1];exact hLl 1 (by omega)
 have l2:L2.length≤100001:=by rw[hL2];exact hLl 2 (by omega)
 have HR:=hide (And.intro hr0 (And.intro hr1 hr2));have HE:=hide (And.intro (show cntN Ls 0=0 from rfl) (And.intro (show cntN Ls 1=(someM L0).length from by rw[cntN_succ,hL0];simp[cntN]) (And.intro (show cntN Ls 2=(someM L0).length+(someM L1).length from by rw[cntN_succ,cntN_succ,hL0,hL1];simp[cntN]) (show cntN Ls 3=(someM L0).length+(someM L1).length+(someM L2).length from by rw[cntN_succ,cntN_succ,cntN_succ,hL0,hL1,hL2];simp[cntN]))));have HM:=hide (And.intro (some_len L0) (And.intro (some_len L1) (some_len L2)));clear h hLl e0 e1 e2 hr0 hr1 hr2 hL0 hL1 hL2 hrg;go_enter Tryz.func49,Tryz.ntmps49;go_wp2_with (first
  |(refine wpList_load_mid rfl 77 _ rfl b 20 rfl [.slice a0 L0.length c0,.slice a1 L1.length c1,.slice a2 L2.length c2] _ HRg.out Tryz.underlying77 rfl infoNs ?_))
 go_loopw [12,3] (fun kv nv wr=>∃k n:Nat,k≤3∧kv=.int .i64 (k:Int)∧nv=.int .i64 (n:Int)∧n=cntN Ls k∧w=wr) (fun kv _ _=>3-(intOf kv).toNat)
 case atStart=>exact⟨0,0,by omega,rfl,rfl,rfl,rfl⟩
 case round=>
  obtain⟨k,n,hk,rfl,rfl,hn,rfl⟩:=hrel;have HN:=hide hn;clear hn;by_cases hk3:k<3
  ·have hkc:k=0∨k=1∨k=2:=(by omega);rcases hkc with rfl|rfl|rfl
   ·have hn0:n≤400000:=(by have h1:=HN.out;rw[HE.out.1] at h1;have h2:=HM.out;omega);have hix:=ix0 (.slice a0 L0.length c0) (.slice a1 L1.length c1) (.slice a2 L2.length c2);go_wp2;go_loopw [17,3] (fun jv nv wr=>∃j m:Nat,j≤L0.length∧jv=.int .i64 (j:Int)∧nv=.int .i64 (m:Int)∧m=n+(someM (L0.take j)).length∧w=wr) (fun jv _ _=>L0.length-(intOf jv).toNat)
    case atStart=>exact⟨0,n,by omega,rfl,rfl,by simp[someM],rfl⟩
    case round=>
     obtain⟨j,m,hj,rfl,rfl,hm,rfl⟩:=hrel;have HMj:=hide hm;have hm2:m≤600000:=(by have:=some_len (L0.take j);rw[List.length_take] at this;omega);clear hm;by_cases hj2:j<L0.length
     ·obtain⟨eb,eo,ec,e,_,_,_,hcell⟩:=(HR.out.1).partsC (by omega);injection e with e1 e2 e3;subst e1;have cx:=hcell j hj2;obtain⟨x,hx⟩:∃x,x=L0.getD j 0:=⟨_,rfl⟩;rw[←hx] at cx;have HX:=hide hx;have hjI:(j:Int)<(L0.length:Int):=(by omega);clear hcell hx e2 e3;by_cases hx0:x=0
      ·have hx1:(x !=0)=false:=(by simp[hx0]);go_wp2;go_roundw
       case rel=>exact⟨j+1,m,by omega,by go_num,rfl,by rw[some_snoc L0 j hj2, ←HX.out,if_pos hx0,List.append_nil];exact HMj.out,trivial⟩
       case measure=>simp[intOf];omega
      ·have hx1:(x !=0)=true:=(by simp[hx0]);go_wp2;go_roundw
       case rel=>exact⟨j+1,m+1,by omega,by go_num,by go_num,by rw[some_snoc L0 j hj2, ←HX.out,if_neg hx0,List.length_append];have:=HMj.out;simp;omega,trivial⟩
       case measure=>simp[intOf];omega
     ·have hj3:j=L0.length:=(by omega);have HMe:=hide (show m=cntN Ls (0+1) from by have h1:=HMj.out;rw[hj3,List.take_length] at h1;have h2:=HN.out;rw[HE.out.1] at h2;rw[HE.out.2.1];omega);clear hj3;have hjI:¬(j:Int)<(L0.length:Int):=(by omega);go_wp2;go_roundw
      case rel=>exact⟨1,m,by omega,by go_num,rfl,HMe.out,trivial⟩
      case measure=>simp[intOf]
   ·have hn0:n≤400000:=(by have h1:=HN.out;rw[HE.out.2.1] at h1;have h2:=HM.out;omega);have hix:=ix1 (.slice a0 L0.length c0) (.slice a1 L1.length c1) (.slice a2 L2.length c2);go_wp2;go_loopw [17,3] (fun jv nv wr=>∃j m:Nat,j≤L1.length∧jv=.int .i64 (j:Int)∧nv=.int .i64 (m:Int)∧m=n+(someM (L1.take j)).length∧w=wr) (fun jv _ _=>L1.length-(intOf jv).toNat)
    case atStart=>exact⟨0,n,by omega,rfl,rfl,by simp[someM],rfl⟩
    case round=>
     obtain⟨j,m,hj,rfl,rfl,hm,rfl⟩:=hrel;have HMj:=hide hm;have hm2:m≤600000:=(by have:=some_len (L1.take j);rw[List.length_take] at this;omega);clear hm;by_cases hj2:j<L1.length
     ·obtain⟨eb,eo,ec,e,_,_,_,hcell⟩:=(HR.out.2.1).partsC (by omega);injection e with e1 e2 e3;subst e1;have cx:=hcell j hj2;obtain⟨x,hx⟩:∃x,x=L1.getD j 0:=⟨_,rfl⟩;rw[←hx] at cx;have HX:=hide hx;have hjI:(j:Int)<(L1.length:Int):=(by omega);clear hcell hx e2 e3;by_cases hx0:x=0
      ·have hx1:(x !=0)=false:=(by simp[hx0]);go_wp2;go_roundw
       case rel=>exact⟨j+1,m,by omega,by go_num,rfl,by rw[some_snoc L1 j hj2, ←HX.out,if_pos hx0,List.append_nil];exact HMj.out,trivial⟩
       case measure=>simp[intOf];omega
      ·have hx1:(x !=0)=true:=(by simp[hx0]);go_wp2;go_roundw
       case rel=>exact⟨j+1,m+1,by omega,by go_num,by go_num,by rw[some_snoc L1 j hj2, ←HX.out,if_neg hx0,List.length_append];have:=HMj.out;simp;omega,trivial⟩
       case measure=>simp[intOf];omega
     ·have hj3:j=L1.length:=(by omega);have HMe:=hide (show m=cntN Ls (1+1) from by have h1:=HMj.out;rw[hj3,List.take_length] at h1;have h2:=HN.out;rw[HE.out.2.1] at h2;rw[HE.out.2.2.1];omega);clear hj3;have hjI:¬(j:Int)<(L1.length:Int):=(by omega);go_wp2;go_roundw
      case rel=>exact⟨2,m,by omega,by go_num,rfl,HMe.out,trivial⟩
      case measure=>simp[intOf]
   ·have hn0:n≤400000:=(by have h1:=HN.out;rw[HE.out.2.2.1] at h1;have h2:=HM.out;omega);have hix:=ix2 (.slice a0 L0.length c0) (.slice a1 L1.length c1) (.slice a2 L2.length c2);go_wp2;go_loopw [17,3] (fun jv nv wr=>∃j m:Nat,j≤L2.length∧jv=.int .i64 (j:Int)∧nv=.int .i64 (m:Int)∧m=n+(someM (L2.take j)).length∧w=wr) (fun jv _ _=>L2.length-(intOf jv).toNat)
    case atStart=>exact⟨0,n,by omega,rfl,rfl,by simp[someM],rfl⟩
    case round=>
     obtain⟨j,m,hj,rfl,rfl,hm,rfl⟩:=hrel;have HMj:=hide hm;have hm2:m≤600000:=(by have:=some_len (L2.take j);rw[List.length_take] at this;omega);clear hm;by_cases hj2:j<L2.length
     ·obtain⟨eb,eo,ec,e,_,_,_,hcell⟩:=(HR.out.2.2).partsC (by omega);injection e with e1 e2 e3;subst e1;have cx:=hcell j hj2;obtain⟨x,hx⟩:∃x,x=L2.getD j 0:=⟨_,rfl⟩;rw[←hx] at cx;have HX:=hide hx;have hjI:(j:Int)<(L2.length:Int):=(by omega);clear hcell hx e2 e3;by_cases hx0:x=0
      ·have hx1:(x !=0)=false:=(by simp[hx0]);go_wp2;go_roundw
       case rel=>exact⟨j+1,m,by omega,by go_num,rfl,by rw[some_snoc L2 j hj2, ←HX.out,if_pos hx0,List.append_nil];exact HMj.out,trivial⟩
       case measure=>simp[intOf];omega
      ·have hx1:(x !=0)=true:=(by simp[hx0]);go_wp2;go_roundw
       case rel=>exact⟨j+1,m+1,by omega,by go_num,by go_num,by rw[some_snoc L2 j hj2, ←HX.out,if_neg hx0,List.length_append];have:=HMj.out;simp;omega,trivial⟩
       case measure=>simp[intOf];omega
     ·have hj3:j=L2.length:=(by omega);have HMe:=hide (show m=cntN Ls (2+1) from by have h1:=HMj.out;rw[hj3,List.take_length] at h1;have h2:=HN.out;rw[HE.out.2.2.1] at h2;rw[HE.out.2.2.2];omega);clear hj3;have hjI:¬(j:Int)<(L2.length:Int):=(by omega);go_wp2;go_roundw
      case rel=>exact⟨3,m,by omega,by go_num,rfl,HMe.out,trivial⟩
      case measure=>simp[intOf]
  ·have hk4:k=3:=(by omega);subst hk4;clear hk3;go_wp2;go_ret;exact⟨by rw[←HN.out];rfl,rfl⟩
end
section
open Go.RowKit Go.Shelf
theorem treeNeedO_any(w:World)(ia ca:Option Addr)(il ic n cc cnt:Nat)(zs cs co:List Int)(No:Nat→List Int)(g:Nat→Int)(D:RD)
 (hi:Rd .u8 w (.slice ia il ic) zs) (hz:zs.length≤1048576) (hbd:∀z∈zs,0≤z∧z<256) (hT:TreeAt zs co No) (hgN:g=gN No co.length) (hR:Rd .u8 w (.slice ca n cc) cs) (hn:n=cs.length) (hcs:cs.length≤262144) (hcnt:cnt=cntT cs) (hg:ErrT w)
 (hD:D=runO zs cs (spL cnt) (rDO (.slice ia il ic) (.slice ca n cc) g (numL (upX (lsT zs co No))) none)) (hsh:D.sh=false):
 Calls Tryz.prog 26 #[.slice ia il ic,.agg (rootY g),.slice ca n cc] w fun e w'=>e=.returned (.tuple #[.int .i64 (D.P.length:Int),.int .i64 (cntN D.Ln 3:Int),.int .i64 0])∧Below w.heap.size w w':=by
 obtain⟨W1,hW1⟩:∃W1,W1=w.alloc (.cells (rootY g) 27):=⟨_,rfl⟩;have B1:=hide (show Below w.heap.size w W1 from by rw[hW1];exact(Below.refl _ _).alloc (Nat.le_refl _) _);have K1:=hide (show Blk W1 w.heap.size (rootY g) 27 from by rw[hW1];exact Blk.new w _ _);have HA:=hide (renewT_ok w W1 ia ca il ic n cc cnt 48 #[] zs cs co No none D B1.out hi hz hbd hT hR hn hcs hcnt hg rfl (by rw[hD,hgN]) hsh);rw[←hgN] at HA;have hLn:∀l,l<3→(D.Ln l).length≤100001:=fun l _=>by
  have h:=(run_fits zs cs (show cnt≤512 by rw[hcnt];unfold cntT;omega) (.slice ia il ic) (.slice ca n cc) g (numL (upX (lsT zs co No))) none).1 l;rw[hD];omega
 have HL:=hide hLn;have HW1:=hide hW1;clear hi hz hbd hT hgN hR hn hcs hcnt hg hD hsh hLn hW1;go_enter Tryz.func26,Tryz.ntmps26;go_upto_region 1 with fail;rw[←HW1.out];go_upto_region 4 with(first
  |(refine wpList_load_row rfl 27 _ rfl w.heap.size rfl 27 (rootY g) (0,0) _ K1.out Tryz.underlying27 rfl infoRt15 ?_)
  |(go_at_call 34;refine HA.out.mono ?_;rintro e w2 ⟨b,rfl,r2⟩;have R2:=hide r2;clear r2))
 obtain⟨pa,pc,vs,c24,hpo⟩:=R2.out.puts;obtain⟨pn,hpn⟩:∃pn,pn=D.P.length:=⟨_,rfl⟩;rw[←hpn] at c24;have HPN:=hide hpn;have C24:=hide c24;clear hpo hpn c24;refine wp_region_noPanic ?_;refine wp_region_held_drew (S:=fun w'=>w'.cell? ⟨b,24,none⟩=some (.slice pa pn pc)) (by kernel_rfl) C24.out (fun hH=>?_);refine wpAnyH_take (i:=0) (oi:=_) (v:=.pointer (some ⟨b,0,none⟩)) rfl (by kernel_rfl) (by kernel_rfl) (by kernel_rfl) (fun _ _ _ h=>h) (Or.inl ⟨by rfl,fun w' hw'=>by go_simp⟩) hH ?_;try simp only[Act.put,List.getElem_toArray,List.getElem_cons_zero,List.getElem_cons_succ,List.setIfInBounds_toArray,List.set_cons_zero,List.set_cons_succ]
 refine wpAnyH_take (i:=1) (oi:=_) (v:=.pointer (some ⟨b,0,none⟩)) rfl (by kernel_rfl) (by kernel_rfl) (by kernel_rfl) (fun _ _ _ h=>h) (Or.inl ⟨by rfl,fun w' hw'=>by go_simp⟩) hH ?_;try simp only[Act.put,List.getElem_toArray,List.getElem_cons_zero,List.getElem_cons_succ,List.setIfInBounds_toArray,List.set_cons_zero,List.set_cons_succ]
 refine wpAnyH_take (i:=2) (oi:=_) (v:=.pointer (some ⟨b,24,none⟩)) rfl (by kernel_rfl) (by kernel_rfl) (by kernel_rfl) (fun _ _ _ h=>h) (Or.inl ⟨by rfl,fun w' hw'=>by go_simp⟩) hH ?_;try simp only[Act.put,List.getElem_toArray,List.getElem_cons_zero,List.getElem_cons_succ,List.setIfInBounds_toArray,List.set_cons_zero,List.set_cons_succ]
 refine wpAnyH_take (i:=3) (oi:=_) (v:=.slice pa pn pc) rfl (by kernel_rfl) (by kernel_rfl) (by kernel_rfl) (fun _ _ _ h=>h) (Or.inl ⟨by rfl,fun w' hw'=>by go_simp⟩) hH ?_;try simp only[Act.put,List.getElem_toArray,List.getElem_cons_zero,List.getElem_cons_succ,List.setIfInBounds_toArray,List.set_cons_zero,List.set_cons_succ]
 refine wpAnyH_take (i:=4) (oi:=_) (v:=.int .i64 (pn:Int)) rfl (by kernel_rfl) (by kernel_rfl) (by kernel_rfl) (fun _ _ _ h=>h) (Or.inl ⟨by rfl,fun w' hw'=>by go_simp⟩) hH ?_;try simp only[Act.put,List.getElem_toArray,List.getElem_cons_zero,List.getElem_cons_succ,List.setIfInBounds_toArray,List.set_cons_zero,List.set_cons_succ]
 refine wpAnyH_take (i:=5) (oi:=_) (v:=.pointer (some ⟨b,0,none⟩)) rfl (by kernel_rfl) (by kernel_rfl) (by kernel_rfl) (fun _ _ _ h=>h) (Or.inl ⟨by rfl,fun w' hw'=>by go_simp⟩) hH ?_;try simp only[Act.put,List.getElem_toArray,List.getElem_cons_zero,List.getElem_cons_succ,List.setIfInBounds_toArray,List.set_cons_zero,List.set_cons_succ]
 refine wpAnyH_ready (rs:=[6]) (by kernel_rfl) (by simp) ?_;refine AllReadyH.cons (o:=_) rfl (fun K hK=>?_) AllReadyH.nil;go_simp;obtain⟨C,so,sl,fv,pv,vs2,hS⟩:=R2.out.below ((Below.refl _ _).drew);refine(count_any b C 79 sl D.Ln w.heap.size _ hS.now HL.out).mono ?_;rintro e w3 ⟨rfl,rfl⟩;clear hS;refine hK.out _ _ hH (fun hH=>?_);clear hK K;try simp only[Act.put,List.getElem_toArray,List.getElem_cons_zero,List.getElem_cons_succ,List.setIfInBounds_toArray,List.set_cons_zero,List.set_cons_succ]
 refine wpAnyH_take (i:=7) (oi:=_) (v:=.int .i64 (pn:Int)) rfl (by kernel_rfl) (by kernel_rfl) (by kernel_rfl) (fun _ _ _ h=>h) (Or.inl ⟨by rfl,fun w' hw'=>by go_simp⟩) hH ?_;try simp only[Act.put,List.getElem_toArray,List.getElem_cons_zero,List.getElem_cons_succ,List.setIfInBounds_toArray,List.set_cons_zero,List.set_cons_succ]
 refine wpAnyH_take (i:=8) (oi:=_) (v:=.int .i64 (cntN D.Ln 3:Int)) rfl (by kernel_rfl) (by kernel_rfl) (by kernel_rfl) (fun _ _ _ h=>h) (Or.inl ⟨by rfl,fun w' hw'=>by go_simp⟩) hH ?_;try simp only[Act.put,List.getElem_toArray,List.getElem_cons_zero,List.getElem_cons_succ,List.setIfInBounds_toArray,List.set_cons_zero,List.set_cons_succ]
 refine wpAnyH_take (i:=9) (oi:=_) (v:=.int .i64 0) rfl (by kernel_rfl) (by kernel_rfl) (by kernel_rfl) (fun _ _ _ h=>h) (Or.inl ⟨by rfl,fun w' hw'=>by go_simp⟩) hH ?_;try simp only[Act.put,List.getElem_toArray,List.getElem_cons_zero,List.getElem_cons_succ,List.setIfInBounds_toArray,List.set_cons_zero,List.set_cons_succ]
 refine wpAnyH_done (by kernel_rfl) (NoPanic.normal ?_) _;clear hH;have HB:=hide (show Below w.heap.size w w2.drew from by obtain⟨C,so,sl,fv,pv,vs2,hS⟩:=R2.out;exact hS.low.drew);go_wp2;go_ret3
 exact⟨by rw[HPN.out];rfl,HB.out⟩
end
end Go.Proofs.YtbhpealglhkodaaGreatDoor
