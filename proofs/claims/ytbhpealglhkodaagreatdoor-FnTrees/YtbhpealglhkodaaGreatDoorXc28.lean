/- The program's renewal: renewData -/
import Derived.Test.YtbhpealglhkodaaGreatDoorXc27
import Derived.Test.YtbhpealglhkodaaGreatDoorXc26
namespace Go.Proofs.YtbhpealglhkodaaGreatDoor
set_option linter.all false
set_option maxRecDepth 100000
set_option maxHeartbeats 16000000
section
open Go.RowKit
theorem slice_pieceR{w0:World}{a:Option Addr}{len cap:Nat}{zs:List Int}(h:Rd .u8 w0 (.slice a len cap) zs)(lo hi:Nat)(h1:lo≤hi)(h2:hi≤zs.length):
 ∃a' c',Rd .u8 w0 (.slice a' (hi-lo) c') ((zs.drop lo).take (hi-lo))∧∀wx,(Instr.slice 22 (.slice a len cap) (some (.int .i64 (lo:Int))) (some (.int .i64 (hi:Int))) none).run Tryz.prog wx=.ok (.slice a' (hi-lo) c') wx:=by
 obtain⟨i0,hi0,hz0,hz1,hz2⟩:=info_parts infoU8;obtain⟨a0,cap0,e,hm,hc,hl,hcm⟩:=h;injection e with e1 e2 e3;subst e1 e2 e3;have hlen:((zs.drop lo).take (hi-lo)).length=hi-lo:=by rw[List.length_take,List.length_drop];omega
 have hrun:∀wx,(Instr.slice 22 (.slice a zs.length cap) (some (.int .i64 (lo:Int))) (some (.int .i64 (hi:Int))) none).run Tryz.prog wx=.ok (sliced a lo hi cap 1) wx:=fun wx=>by
  rw[run_slice_lh (P:=Tryz.prog) (w:=wx) 22 a zs.length cap (by rw[Tryz.underlying22];rfl) .i64 .i64 (lo:Int) (hi:Int) (by omega) (by omega) (by omega)];simp[sizeOf,typeInfo,show Tryz.prog.elem 22=5 from by kernel_rfl,hi0,hz1,Result.andThen]
 refine⟨_,_,?_,hrun⟩;refine⟨_,_,by rw[hlen],by omega,fun hne=>?_,by rw[hlen];omega,by omega⟩;have hp:lo<zs.length:=by
  rcases Nat.lt_or_ge lo zs.length with h|h
  ·exact h
  ·exact absurd (by rw[List.drop_eq_nil_of_le h];simp) hne
 obtain⟨b,off,rfl,hb,hcell⟩:=hc (fun e=>by rw[e] at hp;simp at hp);refine⟨b,off+lo,?_,hb,fun i hi2=>?_⟩
 ·rw[if_neg (by omega),Option.map_some,Nat.mul_one,Addr.add_mid]
 ·rw[hlen] at hi2;rw[Nat.add_assoc,hcell (lo+i) (by omega)];simp[List.getD,hi2]
theorem slice_pieceRL{w0:World}{a:Option Addr}{len cap:Nat}{zs:List Int}(h:Rd .u8 w0 (.slice a len cap) zs)(lo:Nat)(h2:lo≤zs.length):
 ∃a' c',Rd .u8 w0 (.slice a' (zs.length-lo) c') (zs.drop lo)∧∀wx,(Instr.slice 22 (.slice a len cap) (some (.int .i64 (lo:Int))) none none).run Tryz.prog wx=.ok (.slice a' (zs.length-lo) c') wx:=by
 obtain⟨a',c',hr,hrun⟩:=slice_pieceR h lo zs.length h2 (Nat.le_refl _);have hl:len=zs.length:=by obtain⟨_,_,e,_⟩:=h;injection e
 obtain⟨_,_,e0,_,_,hl2,hcm⟩:=h;injection e0 with e1 e2 e3;subst e3;rw[List.take_of_length_le (by rw[List.length_drop];omega)] at hr;refine⟨a',c',hr,fun wx=>?_⟩;rw[←hrun wx,run_slice_l (P:=Tryz.prog) (w:=wx) 22 a len cap (by rw[Tryz.underlying22];rfl) .i64 (lo:Int) (by omega) (by omega),run_slice_lh (P:=Tryz.prog) (w:=wx) 22 a len cap (by rw[Tryz.underlying22];rfl) .i64 .i64 (lo:Int) (zs.length:Int) (by omega) (by omega) (by omega)];rw[Int.toNat_natCast,hl,Int.toNat_natCast]
theorem wrapR(z:Int)(h0:0≤z)(h1:z≤100000000):IntKind.i64.wrap z=z:=by rw[IntKind.wrap_i64];omega
def padB(cs:List Int)(r:Nat):List Int:=(cs.drop (r*512)).take 512++List.replicate (512-((cs.drop (r*512)).take 512).length) 0
theorem padB_len(cs:List Int)(r:Nat):(padB cs r).length=512:=by
 unfold padB;have:((cs.drop (r*512)).take 512).length≤512:=by rw[List.length_take];omega
 rw[List.length_append,List.length_replicate];omega
theorem padB_splice(cs:List Int)(r:Nat):splice ((List.replicate 512 (0:Int)).map (Value.int .u8)) 0 (((cs.drop (r*512)).take 512).map (Value.int .u8))=(padB cs r).map (Value.int .u8):=by
 unfold splice padB;rw[List.take_zero,List.nil_append,List.map_append,List.length_map,Nat.zero_add, ←List.map_drop,List.drop_replicate]
theorem blk_range{w:World}{b:Nat}{t:TypeId}{L:List Value}(h:Blk w b L.toArray t):w.rangeAt b 0 L:=by
 intro j v hv;rw[Nat.zero_add,h.cell j];simpa using hv
theorem RStC.range{W0 W:World}{b:Nat}{D:RD}{C:Array Value}{so sl:Nat→Value}{fv pv:Value}{vs:List Value}(h:RStC W0 W b D C so sl fv pv vs){w':World}(hb:Blk w' b C 79):w'.rangeAt b 0 D.tr.toList:=by
 intro j v hv;have hj:j<16:=by
  have h1:j<D.tr.toList.length:=by
   rcases Nat.lt_or_ge j D.tr.toList.length with h|h
   ·exact h
   ·rw[List.getElem?_eq_none h] at hv;cases hv
  rw[Array.length_toList,h.trs] at h1;exact h1
 rw[Nat.zero_add,hb.cell j,h.tr j hj];simpa using hv
theorem infoTrR:(Tryz.prog.info? 75).map (·.size)=some 16:=by kernel_rfl
end
section
open Go.RowKit
def cntT(cs:List Int):Nat:=(cs.length+511)/512
structure TreeAt(zs cs:List Int)(N:Nat→List Int):Prop where
 sz:szOk zs.length=true
 cl:cs.length≤262144
 rng:∀l r,(N l).getD r 0=0∨(2≤(N l).getD r 0∧(N l).getD r 0<((zs.length/512:Nat):Int))
 non0:∀r,cntT cs≤r→(N 0).getD r 0=0
 non1:∀r,(cntT cs+115)/128≤r→(N 1).getD r 0=0
 non2:∀r,cntT cs≤140∨1≤r→(N 2).getD r 0=0
 dat0:∀r,r<cntT cs→(N 0).getD r 0=0→padB cs r=List.replicate 512 0
 dat:∀r,(N 0).getD r 0≠0→blkP zs ((N 0).getD r 0)=padB cs r
 ptr0:∀l r,l<2→(N (l+1)).getD r 0=0→wordsN N l r=List.replicate 128 0
 ptr:∀l r,l<2→(N (l+1)).getD r 0≠0→wrdsP zs ((N (l+1)).getD r 0)=wordsN N l r
def dsN(N:Nat→List Int):List Int:=(List.range 12).map fun i=>(N 0).getD i 0
theorem dsN_len(N:Nat→List Int):(dsN N).length=12:=by simp[dsN]
theorem dsN_at(N:Nat→List Int){j:Nat}(h:j<12):(dsN N).getD j 0=(N 0).getD j 0:=by simp[dsN,List.getD,h]
theorem belR0(r k:Nat):belR 0 r k=12+r*128+k:=rfl
theorem belR1(r k:Nat):belR 1 r k=1+r*128+k:=rfl
theorem wordsN_len(N:Nat→List Int)(l r:Nat):(wordsN N l r).length=128:=by simp[wordsN]
theorem wordsN_get(N:Nat→List Int)(l r:Nat){k:Nat}(h:k<128):(wordsN N l r).getD k 0=(N l).getD (belR l r k) 0:=by unfold wordsN;simp[List.getD,h]
theorem wrdsP_get(zs:List Int)(x:Int){k:Nat}(h:k<128):(wrdsP zs x).getD k 0=wrdP zs x k:=by unfold wrdsP;simp[List.getD,h]
theorem rep_get(n k:Nat):(List.replicate n (0:Int)).getD k 0=0:=by simp[List.getD,List.getElem?_replicate];split<;>rfl
theorem padB_map(cs:List Int)(r:Nat):padB cs r=(List.range 512).map fun j=>cs.getD (r*512+j) 0:=by
 refine List.ext_getElem? (fun i=>?_);unfold padB;rw[List.getElem?_map];by_cases hi:i<512
 ·rw[List.getElem?_range hi];by_cases h2:r*512+i<cs.length
  ·rw[List.getElem?_append_left (by simp;omega),List.getElem?_take,if_pos hi,List.getElem?_drop];simp[List.getD,List.getElem?_eq_getElem h2]
  ·rw[List.getElem?_append_right (by simp;omega),List.getElem?_replicate,if_pos (by simp;omega)];simp[List.getD,List.getElem?_eq_none (Nat.le_of_not_lt h2)]
 ·rw[List.getElem?_eq_none (by simp;omega),List.getElem?_eq_none (by simp;omega)];rfl
theorem pads_flat(cs:List Int):∀m:Nat,(List.range m).flatMap (padB cs)=(List.range (512*m)).map fun j=>cs.getD j 0
 |0=>rfl
 |m+1=>by
  rw[flat_add m 1,pads_flat cs m,Nat.mul_succ,List.range_add,List.map_append,List.map_map,show List.range 1=[0] from rfl,List.flatMap_cons,List.flatMap_nil,List.append_nil,padB_map];refine congrArg (_++·) (List.map_congr_left (fun j _=>?_));show cs.getD ((m+0)*512+j) 0=cs.getD (512*m+j) 0;congr 1;omega
theorem pads_cut{cs:List Int}{m:Nat}(h:cs.length≤512*m):((List.range m).flatMap (padB cs)).take cs.length=cs:=by
 rw[pads_flat];refine List.ext_getElem? (fun i=>?_);rw[List.getElem?_take,List.getElem?_map];by_cases hi:i<cs.length
 ·rw[if_pos hi,List.getElem?_range (by omega)];simp[List.getD,List.getElem?_eq_getElem hi]
 ·rw[if_neg hi,List.getElem?_eq_none (by omega)]
theorem some_get(L:List Int)(m:Nat)(h:∀r,m≤r→L.getD r 0=0):someM L=(List.range m).flatMap fun r=>if L.getD r 0=0 then [] else [L.getD r 0]:=by
 have e:L=(List.range L.length).map fun r=>L.getD r 0:=by
  refine List.ext_getElem? (fun i=>?_);rw[List.getElem?_map];by_cases hi:i<L.length
  ·rw[List.getElem?_range hi];simp[List.getD,List.getElem?_eq_getElem hi]
  ·rw[List.getElem?_eq_none (by omega),List.getElem?_eq_none (by simp;omega)];rfl
 have e2:=some_flat (fun r=>L.getD r 0) (List.range L.length);rw[←e] at e2;rw[e2,flat_cut L.length m _ (fun k hk=>by rw[if_pos (h k hk)]),flat_cut m L.length _ (fun k hk=>by rw[if_pos (by simp[List.getD,List.getElem?_eq_none hk])]),Nat.min_comm]
theorem hd1_mem{cnt r:Nat}{p:Int}{x:HG}:x∈hd1P cnt r p↔12+r*128<cnt∧p≠0∧x=(1,r,p):=by
 unfold hd1P;by_cases h:cnt≤12+r*128∨p=0
 ·rw[if_pos h];constructor
  ·intro hx;cases hx
  ·rintro ⟨h1,h2,_⟩;exact absurd h (by omega)
 ·rw[if_neg h,List.mem_singleton];constructor
  ·intro hx;exact⟨by omega,by omega,hx⟩
  ·rintro ⟨_,_,h3⟩;exact h3
theorem hd2_mem{cnt:Nat}{p:Int}{x:HG}:x∈hd2P cnt p↔140<cnt∧p≠0∧x=(2,0,p):=by
 unfold hd2P;by_cases h:cnt≤140∨p=0
 ·rw[if_pos h];constructor
  ·intro hx;cases hx
  ·rintro ⟨h1,h2,_⟩;exact absurd h (by omega)
 ·rw[if_neg h,List.mem_singleton];constructor
  ·intro hx;exact⟨by omega,by omega,hx⟩
  ·rintro ⟨_,_,h3⟩;exact h3
section
variable {zs cs:List Int} {N:Nat→List Int}
theorem TreeAt.cnt(h:TreeAt zs cs N):cntT cs≤512:=by have:=h.cl;unfold cntT;omega
theorem TreeAt.toNat(h:TreeAt zs cs N):((cs.length:Int).toNat+511)/512=cntT cs:=by unfold cntT;simp
theorem TreeAt.big(h:TreeAt zs cs N):64≤zs.length/512∧zs.length/512≤2048∧zs.length=zs.length/512*512:=by
 have h1:=h.sz;unfold szOk at h1;simp only[Bool.and_eq_true,decide_eq_true_eq] at h1;omega
theorem TreeAt.hw(h:TreeAt zs cs N){l r k:Nat}(hl:l<2)(hk:k<128):hwP (wrdP zs) ((N (l+1)).getD r 0) k=(N l).getD (belR l r k) 0:=by
 by_cases h0:(N (l+1)).getD r 0=0
 ·have e:(wordsN N l r).getD k 0=(List.replicate 128 (0:Int)).getD k 0:=by rw[h.ptr0 l r hl h0]
  rw[wordsN_get _ _ _ hk,rep_get] at e;rw[h0,hwP_zero,e]
 ·have e:(wrdsP zs ((N (l+1)).getD r 0)).getD k 0=(wordsN N l r).getD k 0:=by rw[h.ptr l r hl h0]
  rw[wordsN_get _ _ _ hk,wrdsP_get _ _ hk] at e;rw[hwP_some h0,e]
theorem TreeAt.data(h:TreeAt zs cs N){i:Nat}(hi:i<cntT cs):datP (wrdP zs) (fun i=>(dsN N).getD i 0) ((N 1).getD 0 0) ((N 2).getD 0 0) i=(N 0).getD i 0:=by
 have hc:=h.cnt;unfold datP;by_cases h1:i<12
 ·rw[if_pos h1];exact dsN_at N h1
 ·rw[if_neg h1];by_cases h2:i<140
  ·rw[if_pos h2,h.hw (l:=0) (by omega) (by omega),belR0,show 12+0*128+(i-12)=i by omega]
  ·rw[if_neg h2,h.hw (l:=1) (by omega) (by omega),h.hw (l:=0) (by omega) (by omega),belR0,belR1,show 12+(1+0*128+(i-140)/128)*128+(i-140)%128=i by omega]
theorem TreeAt.good(h:TreeAt zs cs N)(l r:Nat):goodP (zs.length/512) ((N l).getD r 0)=true:=by
 unfold goodP;rcases h.rng l r with h1|⟨h1,h2⟩
 ·rw[h1];rfl
 ·rw[decide_eq_true h1,decide_eq_true h2];simp
theorem TreeAt.apart(h:TreeAt zs cs N):apartP (((cs.length:Int).toNat+511)/512) (zs.length/512) (wrdP zs) (fun i=>(dsN N).getD i 0) ((N 1).getD 0 0) ((N 2).getD 0 0):=by
 rw[h.toNat];refine⟨fun i hi=>?_,h.good _ _,h.good _ _,fun k hk _=>?_,fun i hi=>?_⟩
 ·show goodP _ ((dsN N).getD i 0)=true;rw[dsN_at N hi];exact h.good _ _
 ·rw[h.hw (l:=1) (by omega) hk];exact h.good _ _
 ·rw[h.data hi];exact h.good _ _
theorem TreeAt.right(h:TreeAt zs cs N):rightR (cs.length:Int) (dsN N) ((N 1).getD 0 0) ((N 2).getD 0 0)=true:=by
 have h1:=h.cl;have hb:=h.big;unfold rightR allR;rw[Bool.and_eq_true,Bool.and_eq_true,decide_eq_true_eq,decide_eq_true_eq];refine⟨⟨by omega,by omega⟩,?_⟩;rw[List.all_eq_true];intro i hi;have hi:=List.mem_range.1 hi;have hB:((cs.length:Int)+511)/512=((cntT cs:Nat):Int):=by unfold cntT;omega
 rw[hB];unfold okAt;have key:(dsN N++[(N 1).getD 0 0,(N 2).getD 0 0]).getD i 0=0∨(2≤(dsN N++[(N 1).getD 0 0,(N 2).getD 0 0]).getD i 0∧(dsN N++[(N 1).getD 0 0,(N 2).getD 0 0]).getD i 0<2048∧lst i<((cntT cs:Nat):Int)):=by
  by_cases h3:i<12
  ·rw[app_lo (by rw[dsN_len];exact h3),dsN_at _ h3];by_cases h4:i<cntT cs
   ·rcases h.rng 0 i with h5|⟨h5,h6⟩
    ·exact .inl h5
    ·exact .inr ⟨h5,by omega,by unfold lst;rw[if_neg (by omega)];omega⟩
   ·exact .inl (h.non0 i (by omega))
  ·rw[app_hi (by rw[dsN_len];omega),dsN_len];rcases(show i=12∨i=13 by omega) with rfl|rfl
   ·show(N 1).getD 0 0=0∨(2≤(N 1).getD 0 0∧(N 1).getD 0 0<2048∧_);by_cases h4:12<cntT cs
    ·rcases h.rng 1 0 with h5|⟨h5,h6⟩
     ·exact .inl h5
     ·exact .inr ⟨h5,by omega,by unfold lst;rw[if_neg (by omega)];omega⟩
    ·exact .inl (h.non1 0 (by omega))
   ·show(N 2).getD 0 0=0∨(2≤(N 2).getD 0 0∧(N 2).getD 0 0<2048∧_);by_cases h4:140<cntT cs
    ·rcases h.rng 2 0 with h5|⟨h5,h6⟩
     ·exact .inl h5
     ·exact .inr ⟨h5,by omega,by unfold lst;rw[if_pos rfl];omega⟩
    ·exact .inl (h.non2 0 (.inl (by omega)))
 rcases key with e|⟨k1,k2,k3⟩
 ·rw[e];simp[ptrB]
 ·unfold ptrB;simp only[Bool.and_eq_true,Bool.or_eq_true,decide_eq_true_eq];exact⟨.inr ⟨k1,k2⟩,.inr k3⟩
theorem TreeAt.ok(h:TreeAt zs cs N):okR zs (cs.length:Int) (dsN N) ((N 1).getD 0 0) ((N 2).getD 0 0)=true:=by
 unfold okR;rw[h.sz,h.right];rfl
theorem TreeAt.fault(h:TreeAt zs cs N):faultT zs (cs.length:Int) (dsN N) ((N 1).getD 0 0) ((N 2).getD 0 0)=0:=by
 rw[fault_ok,h.ok];rfl
theorem TreeAt.code(h:TreeAt zs cs N):trC zs (cs.length:Int) (dsN N) ((N 1).getD 0 0) ((N 2).getD 0 0)=0:=by
 rw[trC_same (dsN_len _)];unfold mrC;rw[h.fault,if_neg (by simp),if_pos h.apart]
theorem TreeAt.bytes(h:TreeAt zs cs N):trB zs (cs.length:Int) (dsN N) ((N 1).getD 0 0) ((N 2).getD 0 0)=cs:=by
 rw[trB_same (dsN_len _)];unfold mrB;rw[if_pos ⟨h.fault,h.apart⟩,h.toNat];have e:bytI zs (datP (wrdP zs) (fun i=>(dsN N).getD i 0) ((N 1).getD 0 0) ((N 2).getD 0 0)) (cntT cs)=(List.range (cntT cs)).flatMap (padB cs):=by
  unfold bytI;refine flat_same _ _ _ (fun k hk=>?_);have hk:=List.mem_range.1 hk;rw[h.data hk];unfold datB;by_cases h0:(N 0).getD k 0=0
  ·rw[if_pos h0,h.dat0 k hk h0]
  ·rw[if_neg h0,h.dat k h0]
 rw[e];exact pads_cut (by unfold cntT;omega)
def lsT(zs cs:List Int)(N:Nat→List Int):List HG:=listR (cntT cs) (wrdP zs) (fun i=>(dsN N).getD i 0) ((N 1).getD 0 0) ((N 2).getD 0 0)
theorem TreeAt.zr(h:TreeAt zs cs N):ZR zs (cs.length:Int) (dsN N) ((N 1).getD 0 0) ((N 2).getD 0 0)=(lsT zs cs N,false):=by
 have hc:=h.toNat;rcases ZR_two (dsN_len _) h.ok with⟨h1,h2⟩|⟨h1,h2⟩
 ·rw[h2,hc];rfl
 ·exact absurd h.apart h1
theorem seg_same{cnt b m:Nat}{f g:Nat→Int}(h:∀k,k<m→f k=g k):segP cnt b m f=segP cnt b m g:=by
 unfold segP;exact flat_same _ _ _ (fun k hk=>by rw[h k (List.mem_range.1 hk)])
theorem TreeAt.ls(h:TreeAt zs cs N):lsT zs cs N=segP (cntT cs) 0 12 (fun k=>(N 0).getD k 0)++(hd1P (cntT cs) 0 ((N 1).getD 0 0)++segP (cntT cs) 12 128 (fun k=>(N 0).getD (12+k) 0)++(hd2P (cntT cs) ((N 2).getD 0 0)++(List.range 128).flatMap (fun k=>hd1P (cntT cs) (1+k) ((N 1).getD (1+k) 0)++segP (cntT cs) (12+(1+k)*128) 128 (fun j=>(N 0).getD (12+(1+k)*128+j) 0)))):=by
 unfold lsT listR;have e:(List.range 128).flatMap (fun k=>hd1P (cntT cs) (1+k) (hwP (wrdP zs) ((N 2).getD 0 0) k)++segP (cntT cs) (12+(1+k)*128) 128 (hwP (wrdP zs) (hwP (wrdP zs) ((N 2).getD 0 0) k)))=(List.range 128).flatMap (fun k=>hd1P (cntT cs) (1+k) ((N 1).getD (1+k) 0)++segP (cntT cs) (12+(1+k)*128) 128 (fun j=>(N 0).getD (12+(1+k)*128+j) 0)):=by
  refine flat_same _ _ _ (fun k hk=>?_);have hk:=List.mem_range.1 hk;have e1:hwP (wrdP zs) ((N 2).getD 0 0) k=(N 1).getD (1+k) 0:=by rw[h.hw (l:=1) (by omega) hk,belR1,show 1+0*128+k=1+k by omega]
  rw[e1,seg_same (f:=hwP (wrdP zs) ((N 1).getD (1+k) 0)) (g:=fun j=>(N 0).getD (12+(1+k)*128+j) 0) (fun j hj=>by rw[h.hw (l:=0) (by omega) hj,belR0])]
 rw[e,seg_same (f:=fun i=>(dsN N).getD i 0) (g:=fun k=>(N 0).getD k 0) (fun k hk=>dsN_at N hk),seg_same (f:=hwP (wrdP zs) ((N 1).getD 0 0)) (g:=fun k=>(N 0).getD (12+k) 0) (fun k hk=>by rw[h.hw (l:=0) (by omega) hk,belR0,show 12+0*128+k=12+k by omega])]
theorem TreeAt.mem(h:TreeAt zs cs N){x:HG}(hx:x∈lsT zs cs N):x.1<3∧x.2.2=(N x.1).getD x.2.1 0∧x.2.2≠0:=by
 rw[h.ls] at hx;simp only[List.mem_append,List.mem_flatMap] at hx;rcases hx with hx|(hx|hx)|hx|⟨k,_,hx|hx⟩
 ·obtain⟨j,_,_,h0,rfl⟩:=seg_mem.1 hx;exact⟨by simp,by simp,h0⟩
 ·obtain⟨_,h0,rfl⟩:=hd1_mem.1 hx;exact⟨by simp,rfl,h0⟩
 ·obtain⟨j,_,_,h0,rfl⟩:=seg_mem.1 hx;exact⟨by simp,rfl,h0⟩
 ·obtain⟨_,h0,rfl⟩:=hd2_mem.1 hx;exact⟨by simp,rfl,h0⟩
 ·obtain⟨_,h0,rfl⟩:=hd1_mem.1 hx;exact⟨by simp,rfl,h0⟩
 ·obtain⟨j,_,_,h0,rfl⟩:=seg_mem.1 hx;exact⟨by simp,rfl,h0⟩
theorem TreeAt.has(h:TreeAt zs cs N){l r:Nat}(hl:l<3)(h0:(N l).getD r 0≠0):(l,r,(N l).getD r 0)∈lsT zs cs N:=by
 have hc:=h.cnt;rw[h.ls];simp only[List.mem_append,List.mem_flatMap];match l,hl,h0 with
 |0,_,h0=>
  have hr:r<cntT cs:=Nat.lt_of_not_le (fun e=>h0 (h.non0 r e));by_cases h1:r<12
  ·exact .inl (seg_mem.2 ⟨r,h1,by omega,h0,by simp⟩)
  ·by_cases h2:r<140
   ·exact .inr (.inl (.inr (seg_mem.2 ⟨r-12,by omega,by omega,by rw[show 12+(r-12)=r by omega];exact h0,by rw[show 12+(r-12)=r by omega]⟩)))
   ·have e:12+(1+(r-140)/128)*128+(r-140)%128=r:=(by omega);exact .inr (.inr (.inr ⟨(r-140)/128,List.mem_range.2 (by omega),.inr (seg_mem.2 ⟨(r-140)%128,by omega,by rw[e];exact hr,by rw[e];exact h0,by rw[e]⟩)⟩))
 |1,_,h0=>
  have hr:r<(cntT cs+115)/128:=Nat.lt_of_not_le (fun e=>h0 (h.non1 r e));by_cases h1:r=0
  ·subst h1;exact .inr (.inl (.inl (hd1_mem.2 ⟨by omega,h0,rfl⟩)))
  ·have e:1+(r-1)=r:=(by omega);exact .inr (.inr (.inr ⟨r-1,List.mem_range.2 (by omega),.inl (hd1_mem.2 ⟨by rw[e];omega,by rw[e];exact h0,by rw[e]⟩)⟩))
 |2,_,h0=>
  have hr:¬(cntT cs≤140∨1≤r):=fun e=>h0 (h.non2 r e);have h1:r=0:=by omega
  subst h1;exact .inr (.inr (.inl (hd2_mem.2 ⟨by omega,h0,rfl⟩)))
theorem TreeAt.num(h:TreeAt zs cs N)(l r:Nat):(numL (upX (lsT zs cs N)) l).getD r 0=if l<3 then(N l).getD r 0 else 0:=by
 by_cases hl:l<3
 ·rw[if_pos hl];refine num_val (fun x hx h1 h2=>?_) ?_
  ·rw[(h.mem hx).2.1,h1,h2]
  ·by_cases h0:(N l).getD r 0=0
   ·exact .inl h0
   ·exact .inr ⟨_,h.has hl h0,rfl,rfl⟩
 ·rw[if_neg hl];refine num_val (fun x hx h1 h2=>?_) (.inl rfl);exact absurd (h.mem hx).1 (by omega)
theorem TreeAt.kept(h:TreeAt zs cs N){l r:Nat}(hl:l<3)(h0:(N l).getD r 0≠0):(N l).getD r 0∈mbB zs (cs.length:Int) (dsN N) ((N 1).getD 0 0) ((N 2).getD 0 0):=by
 unfold mbB;rw[if_pos ⟨h.fault,h.apart⟩, ←listR_nums (right_rootP (dsN_len _) h.right),h.toNat];exact List.mem_map.2 ⟨_,h.has hl h0,rfl⟩
theorem TreeAt.count(h:TreeAt zs cs N):(mbB zs (cs.length:Int) (dsN N) ((N 1).getD 0 0) ((N 2).getD 0 0)).length=cntN N 3:=by
 have hc:=h.cnt;have hR:=right_rootP (dsN_len _) h.right;unfold mbB;rw[if_pos ⟨h.fault,h.apart⟩, ←listR_nums hR,h.toNat,List.length_map];have e0:=congrArg List.length (listR_data (W:=wrdP zs) (D:=fun i=>(dsN N).getD i 0) (S:=(N 1).getD 0 0) (X:=(N 2).getD 0 0) hc);have e1:(datL (cntT cs) (wrdP zs) (fun i=>(dsN N).getD i 0) ((N 1).getD 0 0) ((N 2).getD 0 0)).length=(someM (N 0)).length:=by
  rw[some_get (N 0) (cntT cs) (h.non0)];unfold datL;rw[List.length_flatMap,List.length_flatMap];congr 1;refine List.map_congr_left (fun k hk=>?_);rw[h.data (List.mem_range.1 hk)];split<;>rfl
 have e2:=List.length_eq_countP_add_countP (fun x:HG=>x.1==0) (l:=lsT zs cs N);rw[List.countP_eq_length_filter,List.countP_eq_length_filter] at e2;have e3:(lsT zs cs N).filter (fun x=>!(x.1==0))=hd1P (cntT cs) 0 ((N 1).getD 0 0)++(hd2P (cntT cs) ((N 2).getD 0 0)++(List.range 128).flatMap (fun k=>hd1P (cntT cs) (1+k) ((N 1).getD (1+k) 0))):=by
  have hs:∀b m f,(segP (cntT cs) b m f).filter (fun x=>!(x.1==0))=[]:=fun b m f=>by
   rw[List.filter_eq_nil_iff];intro x hx;obtain⟨j,_,_,_,rfl⟩:=seg_mem.1 hx;simp
  have h1:∀r p,(hd1P (cntT cs) r p).filter (fun x=>!(x.1==0))=hd1P (cntT cs) r p:=fun r p=>by unfold hd1P;split<;>rfl
  have h2:∀p,(hd2P (cntT cs) p).filter (fun x=>!(x.1==0))=hd2P (cntT cs) p:=fun p=>by unfold hd2P;split<;>rfl
  rw[h.ls];simp only[List.filter_append,filter_flat,hs,h1,h2,List.nil_append,List.append_nil]
 have e4:(fun x:HG=>decide (¬(x.1==0)=true))=fun x=>!(x.1==0):=by funext x;cases hx:x.1==0<;>simp[hx]
 rw[e4,e3] at e2;have e5:(someM (N 1)).length=(hd1P (cntT cs) 0 ((N 1).getD 0 0)).length+((List.range 128).flatMap (fun k=>hd1P (cntT cs) (1+k) ((N 1).getD (1+k) 0))).length:=by
  rw[some_get (N 1) (1+128) (fun r hr=>h.non1 r (by omega)),flat_add 1 128,List.length_append];congr 1
  ·rw[show List.range 1=[0] from rfl,List.flatMap_cons,List.flatMap_nil,List.append_nil];unfold hd1P;by_cases h0:(N 1).getD 0 0=0
   ·rw[if_pos h0,if_pos (.inr h0)];rfl
   ·have:¬(cntT cs+115)/128≤0:=fun e=>h0 (h.non1 0 e);rw[if_neg h0,if_neg (by omega)];rfl
  ·rw[List.length_flatMap,List.length_flatMap];congr 1;refine List.map_congr_left (fun k hk=>?_);unfold hd1P;by_cases h0:(N 1).getD (1+k) 0=0
   ·rw[if_pos h0,if_pos (.inr h0)];rfl
   ·have:¬(cntT cs+115)/128≤1+k:=fun e=>h0 (h.non1 _ e);rw[if_neg h0,if_neg (by omega)];rfl
 have e6:(someM (N 2)).length=(hd2P (cntT cs) ((N 2).getD 0 0)).length:=by
  rw[some_get (N 2) 1 (fun r hr=>h.non2 r (.inr hr)),show List.range 1=[0] from rfl,List.flatMap_cons,List.flatMap_nil,List.append_nil];unfold hd2P;by_cases h0:(N 2).getD 0 0=0
  ·rw[if_pos h0,if_pos (.inr h0)];rfl
  ·have:¬(cntT cs≤140∨1≤0):=fun e=>h0 (h.non2 0 e);rw[if_neg h0,if_neg (by omega)];rfl
 rw[cntN_succ,cntN_succ,cntN_succ];have e7:cntN N 0=0:=rfl;rw[List.length_append,List.length_append] at e2;show(lsT zs cs N).length=_;have e8:((lsT zs cs N).filter (fun x=>x.1==0)).length=(someM (N 0)).length:=e0.trans e1;omega
end
theorem wordsN_zero{N:Nat→List Int}{l r:Nat}(h:∀k,k<128→(N l).getD (belR l r k) 0=0):wordsN N l r=List.replicate 128 0:=by
 unfold wordsN;refine List.ext_getElem? (fun i=>?_);rw[List.getElem?_map,List.getElem?_replicate];by_cases hi:i<128
 ·rw[List.getElem?_range hi,if_pos hi];show some ((N l).getD (belR l r i) 0)=_;rw[h i hi]
 ·rw[if_neg hi,List.getElem?_eq_none (by simp;omega)];rfl
theorem tree_none{zs:List Int}(h:szOk zs.length=true):TreeAt zs [] (fun _=>[]):=
 ⟨h,by simp,fun _ _=>.inl rfl,fun _ _=>rfl,fun _ _=>rfl,fun _ _=>rfl,fun r hr=>absurd hr (by simp[cntT]),fun _ h=>absurd rfl h,fun l r _ _=>wordsN_zero (fun k _=>rfl),fun _ _ _ h=>absurd rfl h⟩
end
end Go.Proofs.YtbhpealglhkodaaGreatDoor
