/- The program's numbered -/
import Derived.Test.YtbhpealglhkodaaGreatDoorXc21
namespace Go.Proofs.YtbhpealglhkodaaGreatDoor
set_option linter.all false
set_option maxRecDepth 100000
set_option maxHeartbeats 16000000
section
open Go.RowKit Go.Shelf
attribute [local go_sem] Oper.semAt_some
theorem tellG_lv{cnt n:Nat}{W:Int→Nat→Int}:∀(l r:Nat) (p:Int) (h:HG),h∈(tellG cnt n W l r p).1→h.1≤l∧firI h.1 h.2.1<cnt
 |0,r,p,h,hm=>by
  unfold tellG at hm;by_cases h0:cnt≤firI 0 r∨p=0
  ·rw[if_pos h0] at hm;simp at hm
  ·rw[if_neg h0] at hm;cases hg:goodP n p with
   |false=>rw[if_pos hg] at hm;simp at hm
   |true=>
    rw[if_neg (by rw[hg];decide)] at hm;simp at hm;subst hm;exact⟨Nat.le_refl _,by have h1:¬cnt≤firI 0 r:=fun e=>h0 (.inl e);show firI 0 r<cnt;omega⟩
 |l+1,r,p,h,hm=>by
  unfold tellG at hm;by_cases h0:cnt≤firI (l+1) r∨p=0
  ·rw[if_pos h0] at hm;simp at hm
  ·rw[if_neg h0] at hm;cases hg:goodP n p with
   |false=>rw[if_pos hg] at hm;simp at hm
   |true=>
    rw[if_neg (by rw[hg];decide)] at hm;unfold thenT at hm;rw[if_neg (by simp)] at hm;rcases List.mem_append.1 hm with hm|hm
    ·simp at hm;subst hm;exact⟨Nat.le_refl _,by have h1:¬cnt≤firI (l+1) r:=fun e=>h0 (.inl e);show firI (l+1) r<cnt;omega⟩
    ·obtain⟨a,ha,h2⟩:=mem_allT _ h hm;obtain⟨k,_,rfl⟩:=List.mem_map.1 ha;have:=tellG_lv l _ _ h h2;exact⟨by omega,this.2⟩
theorem tops_lv{cnt n:Nat}{W:Int→Nat→Int}{Pv:Nat→Int}{h:HG}(hm:h∈(allT (topsT cnt n W Pv)).1):h.1<3∧h.2.1<cnt:=by
 obtain⟨a,ha,h2⟩:=mem_allT _ h hm;unfold topsT at ha;obtain⟨j,_,rfl⟩:=List.mem_map.1 ha;have h3:=tellG_lv _ _ _ h h2;have h4:=topL_le j;exact⟨by omega,Nat.lt_of_le_of_lt (firI_le h.1 h.2.1) h3.2⟩
theorem numL_fold{cnt:Nat}(l:Nat):∀(A:List TX) (f:Nat→List Int),(f l).length≤cnt→(∀x∈A,x.1.2.1<cnt)→((A.foldl (fun f x=>upd f x.1.1 (setN (f x.1.1) x.1.2.1 x.1.2.2)) f) l).length≤cnt
 |[],f,h,_=>h
 |x::A,f,h,hA=>by
  rw[List.foldl_cons];refine numL_fold l A _ ?_ (fun y hy=>hA y (List.mem_cons_of_mem _ hy));have h2:=hA x List.mem_cons_self;by_cases e:l=x.1.1
  ·subst e;rw[upd_same,setN_len];omega
  ·rw[upd_other _ _ _ _ e];exact h
theorem numL_len{cnt:Nat}(l:Nat)(A:List HG)(hA:∀h∈A,h.2.1<cnt):(numL (upX A) l).length≤cnt:=by
 refine numL_fold l (upX A) _ (by simp) (fun x hx=>?_);unfold upX at hx;obtain⟨h,hh,rfl⟩:=List.mem_map.1 hx;exact hA h hh
theorem Kq.num{n₀ z b base n:Nat}{Ty:TypeId→Prop}{W W':World}{sv:Value}{C:Array Value}{t:TypeId}{xs:List Value}(h:NumF W W' b sv)(hb:Blk W b C t)(ho:W.ownsRow base 3 1 sv n xs)(ht:Ty t)(hi:Ty 3)(hn:n₀≤b)(hn2:n₀≤base):Kq n₀ z Ty W W':=by
 have hlt:=hb.lt;refine⟨⟨h.os,h.tape,h.output,h.size,fun k hk=>h.block k (by omega) (by omega) (fun e=>by have:=(ho.lt k e).1;omega)⟩,fun k cs u fr hk hu=>?_,fun k o hz hk hc=>?_,h.size⟩
 ·refine(h.block k (Array.getElem?_eq_some_iff.1 hk).1 (fun e=>?_) (fun e=>?_)).trans hk
  ·subst e;have hb':W.heap[k]?=some (.cells C t):=hb;rw[hb'] at hk;cases hk
   exact hu ht
  ·obtain⟨_,C',hC⟩:=own_rowB ho e;have hb':W.heap[k]?=some (.cells C' 3):=hC;rw[hb'] at hk;cases hk
   exact hu hi
 ·refine(h.block k (Array.getElem?_eq_some_iff.1 hk).1 (fun e=>?_) (fun e=>?_)).trans hk
  ·subst e;have hb':W.heap[k]?=some (.cells C t):=hb;rw[hb'] at hk;cases hk
   cases hc
  ·obtain⟨_,C',hC⟩:=own_rowB ho e;have hb':W.heap[k]?=some (.cells C' 3):=hC;rw[hb'] at hk;cases hk
   cases hc
structure NbrI(w:World)(C:Array Value)(Z:TL)(pre:List TX)(W:World):Prop where
 told:∃A,pre=upX A∧A<+:Z.1
 nums:∃D sl,D.size=3∧NumS W w.heap.size (w.heap.size+3) 0 D 77 sl (numL pre)
 tree:Blk W w.heap.size C 75
 res1:Blk W (w.heap.size+1) #[.slice none 0 0,.slice none 0 0,.slice none 0 0] 77
 res2:Blk W (w.heap.size+2) #[.nilIface] 67
 old:Below w.heap.size w W
 size:w.heap.size+7≤W.heap.size
theorem NbrI.abides{w:World}{z:Nat}{C:Array Value}{Z:TL}(hz:w.heap.size≤z):AbidesZ z (NbrI w C Z):=by
 intro pre A B row h hg hr;obtain⟨D,sl,h0,h1⟩:=h.nums;exact⟨h.told,⟨D,sl,h0,h1.abide hg hr⟩,blk_abide h.tree hg hr,blk_abide h.res1 hg hr,blk_abide h.res2 hg hr,below_abide h.old hz (by have:=h.size;omega) hg hr,Nat.le_trans h.size hg.size⟩
theorem cell_self{A:World}{a:Addr}{v:Value}(h:A.cell? a=some v){b o:Nat}{u:Value}(hc:A.cell? ⟨b,o,none⟩=some u):(A.setCell a v).cell? ⟨b,o,none⟩=some u:=by
 by_cases e:a=⟨b,o,none⟩
 ·subst e;rw[h] at hc;cases hc
  exact World.cell?_setCell_same _ _ _ h
 ·rw[World.cell?_setCell_other _ _ _ _ e];exact hc
theorem results_nums{fn:Func}{p q:Tmp}(h:fn.results=#[.cell p 77,.cell q 67])(tmps:Array Value)(w:World)(R1 R2:Nat)(D:Array Value)(v2:Value)(hp:tmps.getD p undef=.pointer (some ⟨R1,0,none⟩))(hq:tmps.getD q undef=.pointer (some ⟨R2,0,none⟩))
 (h1:Blk w R1 D 77) (hD:D.size=3) (h2:Blk w R2 #[v2] 67):(results fn tmps).run Tryz.prog w=.ok (.tuple #[.agg D,v2]) w:=by
 have c2:=(h2.cell 0).trans (show _=some v2 from rfl);have hp':tmps[p]?.getD undef=.pointer (some ⟨R1,0,none⟩):=by rw[←Array.getD_eq_getD_getElem?];exact hp
 have hq':tmps[q]?.getD undef=.pointer (some ⟨R2,0,none⟩):=by rw[←Array.getD_eq_getD_getElem?];exact hq
 obtain⟨d0,d1,d2,rfl⟩:∃d0 d1 d2,D=#[d0,d1,d2]:=by
  match D,hD with
  |⟨[d0,d1,d2]⟩,_=>exact⟨d0,d1,d2,rfl⟩
 have c10:=(h1.cell 0).trans (show _=some d0 from rfl);have c11:=(h1.cell 1).trans (show _=some d1 from rfl);have c12:=(h1.cell 2).trans (show _=some d2 from rfl);simp only[results,h];go_simp
end
section
open Go.RowKit
def wordsN(Ls:Nat→List Int)(l r:Nat):List Int:=(List.range 128).map (fun k=>(Ls l).getD (belR l r k) 0)
theorem belowN_any(b off l r:Nat)(C:Array Value)(t:TypeId)(sl:Nat→Value)(Ls:Nat→List Int)(base:Nat)(w:World)(h:NumS w base b off C t sl Ls)(hl:l<2)(hr:r≤700):
 Calls Tryz.prog 91 #[.pointer (some ⟨b,off,none⟩),spotV (l+1) r] w fun e w'=>e=.returned (.agg ((wordsN Ls l r).map (Value.int .i64)).toArray)∧Below w.heap.size w w':=by
 obtain⟨Z1,hZ1,hAl1⟩:=letBw;have HAl:=hide (And.intro hZ1 hAl1);have HN:=hide h;clear h hZ1 hAl1;obtain⟨W3,hW3⟩:∃W3,W3=((w.alloc (.cells #[.int .i64 ((l:Int)+1),.int .i64 (r:Int)] 123)).alloc (.cells Z1 154)).alloc (.cells Z1 154):=⟨_,rfl⟩;have B0:=hide (show Below w.heap.size w W3 from by rw[hW3];exact(((Below.refl _ _).alloc (Nat.le_refl _) _).alloc (by simp) _).alloc (by simp;omega) _);have K0:=hide (show Blk W3 w.heap.size #[.int .i64 ((l:Int)+1),.int .i64 (r:Int)] 123 from by rw[hW3];exact((Blk.new w _ _).alloc _).alloc _);have K1:=hide (show Blk W3 (w.heap.size+1) Z1 154 from by have h:=Blk.new (w.alloc (.cells #[.int .i64 ((l:Int)+1),.int .i64 (r:Int)] 123)) Z1 154;rw[World.size_alloc] at h;rw[hW3];exact h.alloc _);have K2:=hide (show Blk W3 (w.heap.size+2) Z1 154 from by have h:=Blk.new ((w.alloc (.cells #[.int .i64 ((l:Int)+1),.int .i64 (r:Int)] 123)).alloc (.cells Z1 154)) Z1 154;rw[World.size_alloc,World.size_alloc] at h;rw[hW3];exact h);have HW3:=hide hW3;clear hW3;go_enter Tryz.func91,Tryz.ntmps91;go_upto_region 2 with(first
  |(refine Great.wpList_allocTo rfl (some 4) rfl (.pointer (some ⟨w.heap.size+1,0,none⟩)) (.cells Z1 154) (by have e:=HAl.out.2;rw[show w.heap.size+1=(w.alloc (.cells #[.int .i64 ((l:Int)+1),.int .i64 (r:Int)] 123)).heap.size by simp];exact e _ _ _ rfl) ?_)
  |(refine Great.wpList_allocTo rfl (some 5) rfl (.pointer (some ⟨w.heap.size+2,0,none⟩)) (.cells Z1 154) (by have e:=HAl.out.2;rw[show w.heap.size+2=((w.alloc (.cells #[.int .i64 ((l:Int)+1),.int .i64 (r:Int)] 123)).alloc (.cells Z1 154)).heap.size by simp];exact e _ _ _ rfl) ?_))
 rw[←HW3.out];simp only[Act.put,List.setIfInBounds_toArray,List.set_cons_zero,List.set_cons_succ];go_wp2;go_loopw [7] (fun kv wr=>∃(k:Nat) (A:Array Value),k≤128∧kv=.int .i64 (k:Int)∧A.size=128∧(∀j,j<k→A[j]?=some (.int .i64 ((Ls l).getD (belR l r j) 0)))∧Blk wr (w.heap.size+2) A 154∧Blk wr w.heap.size #[.int .i64 ((l:Int)+1),.int .i64 (r:Int)] 123∧Blk wr (w.heap.size+1) Z1 154∧Below w.heap.size w wr) (fun kv _=>128-(intOf kv).toNat)
 case atStart=>exact⟨0,Z1,by omega,rfl,HAl.out.1,fun j hj=>absurd hj (by omega),K2.out,K0.out,K1.out,B0.out⟩
 case round=>
  obtain⟨k,A,hk1,rfl,hA,hAj,kA,kS,kZ,hb⟩:=hrel;have HI:=hide (And.intro hA (And.intro hAj (And.intro kA (And.intro kS (And.intro kZ hb)))));clear hA hAj kA kS kZ hb;by_cases hk2:k<128
  ·have hkI:(k:Int)<128:=(by omega);have HX:=hide (show ∃x,x=(Ls l).getD (belR l r k) 0 from⟨_,rfl⟩);obtain⟨x,hx⟩:=HX.out;clear HX;have HX:=hide hx;clear hx;have HBl:=hide (show belR l r k≤100000 from by unfold belR;split<;>omega);have hrg:wr.rangeAt w.heap.size 0 [.int .i64 ((l:Int)+1),.int .i64 (r:Int)]:=by
    intro j v hj;match j,hj with
    |0,hj=>rw[HI.out.2.2.2.1.cell (0+0)];simpa using hj
    |1,hj=>rw[HI.out.2.2.2.1.cell (0+1)];simpa using hj
    |k+2,hj=>simp at hj
   have HRg:=hide hrg;clear hrg;go_wp2_with (first
    |(refine wpList_load_mid rfl 123 _ rfl w.heap.size 0 rfl [.int .i64 ((l:Int)+1),.int .i64 (r:Int)] _ HRg.out Tryz.underlying123 rfl infoSp ?_)
    |(go_at_call 107;refine(spotBelow_any l r k _ (by omega) (by omega) (by omega)).mono ?_;rintro e w5 ⟨rfl,b5⟩;have B5:=hide b5;clear b5)
    |(go_at_call 69;refine(atS_any b off l (belR l r k) C t sl Ls base _ (HN.out.below (HI.out.2.2.2.2.2.trans (B5.out.mono HI.out.2.2.2.2.2.size))) (by omega) HBl.out).mono ?_;rintro e w6 ⟨rfl,b6⟩;rw[←HX.out];have B6:=hide (B5.out.trans (b6.mono B5.out.size));clear b6;have K6:=hide (HI.out.2.2.1.below B6.out HI.out.2.2.1.lt);have c6:=K6.out.cell k;have f6:=K6.out.frozen k;rw[Array.getElem?_eq_getElem (by have:=HI.out.1;omega)] at c6))
   have hW6:=HI.out.2.2.2.2.2.trans (B6.out.mono HI.out.2.2.2.2.2.size);refine⟨⟨k+1,A.setIfInBounds k (.int .i64 x),by omega,by go_num,by simpa using HI.out.1,fun j hj=>?_,K6.out.set k _,(HI.out.2.2.2.1.below B6.out HI.out.2.2.2.1.lt).other _ _ (by show w.heap.size≠w.heap.size+2;omega),(HI.out.2.2.2.2.1.below B6.out HI.out.2.2.2.2.1.lt).other _ _ (by show w.heap.size+1≠w.heap.size+2;omega),hW6.setCell (p:=⟨w.heap.size+2,k,none⟩) (by show w.heap.size≤w.heap.size+2;omega) _⟩,by simp[intOf];omega⟩;by_cases e:j=k
   ·subst e;rw[Array.getElem?_setIfInBounds_self_of_lt (by have:=HI.out.1;omega),HX.out]
   ·rw[Array.getElem?_setIfInBounds_ne (by omega)];exact HI.out.2.1 j (by omega)
  ·have hk3:k=128:=(by omega);subst hk3;clear hk2;have hAW:A=((wordsN Ls l r).map (Value.int .i64)).toArray:=by
    apply Array.ext_getElem?;intro j;by_cases hj:j<128
    ·rw[HI.out.2.1 j hj];simp[wordsN,hj]
    ·rw[Array.getElem?_eq_none (by have:=HI.out.1;omega),Array.getElem?_eq_none (by simp[wordsN];omega)]
   have HAW:=hide hAW;have HO:=hide (show A.all (·.oneCell')=true from by rw[hAW];exact i64_one _);have HIn:=hide (show(Tryz.prog.info? 154).map (·.size)=some A.size from by rw[HI.out.1];exact infoBw);clear hAW;go_wp2_with (first
    |(refine wpList_load_row rfl 154 _ rfl (w.heap.size+2) rfl 154 A (0,0) _ HI.out.2.2.1 Tryz.underlying154 rfl HIn.out ?_)
    |(refine wpList_store_row rfl 154 _ _ rfl (w.heap.size+1) A rfl rfl 154 Z1 HI.out.2.2.2.2.1 HIn.out (by rw[HI.out.1,HAl.out.1]) HO.out ?_))
   refine bodyPost_ret (v:=.agg A) ?_ rfl ⟨by rw[HAW.out],below_setRow HI.out.2.2.2.2.2 (by omega) _⟩;exact results_cell_row rfl _ _ (w.heap.size+1) 154 _ (0,0) _ rfl (HI.out.2.2.2.2.1.row _) Tryz.underlying154 rfl HIn.out
theorem infoNs:(Tryz.prog.info? 77).map (·.size)=some 3:=by kernel_rfl
theorem ix0(x0 x1 x2:Value)(w:World):(Instr.index 77 (.agg #[x0,x1,x2]) (.int .i64 0)).run Tryz.prog w=.ok x0 w:=by kernel_rfl
theorem ix1(x0 x1 x2:Value)(w:World):(Instr.index 77 (.agg #[x0,x1,x2]) (.int .i64 1)).run Tryz.prog w=.ok x1 w:=by kernel_rfl
theorem ix2(x0 x1 x2:Value)(w:World):(Instr.index 77 (.agg #[x0,x1,x2]) (.int .i64 2)).run Tryz.prog w=.ok x2 w:=by kernel_rfl
def cntN(Ls:Nat→List Int)(k:Nat):Nat:=((List.range k).flatMap (fun l=>someM (Ls l))).length
theorem cntN_succ(Ls:Nat→List Int)(k:Nat):cntN Ls (k+1)=cntN Ls k+(someM (Ls k)).length:=by unfold cntN;rw[List.range_succ,List.flatMap_append];simp
end
end Go.Proofs.YtbhpealglhkodaaGreatDoor
