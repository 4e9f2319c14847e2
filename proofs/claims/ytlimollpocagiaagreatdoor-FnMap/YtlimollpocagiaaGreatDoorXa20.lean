/- The program's numbered -/
import Derived.Test.YtlimollpocagiaaGreatDoorXa19
namespace Go.Proofs.YtlimollpocagiaaGreatDoor
open Go.Proofs.Tryz
open _root_.List (length_drop getD replicate length_map length_take getElem?_map getElem?_eq_none)
set_option linter.all false
set_option maxRecDepth 100000
set_option maxHeartbeats 16000000
section
open Go.RowKit Go.Shelf
attribute [local go_sem] Oper.semAt_some
theorem uO{cnt n:Nat}{W:Int→Nat→Int}:∀(l r:Nat) (p:Int) (h:HG),h∈(cG cnt n W l r p).1→h.1≤l∧cC h.1 h.2.1<cnt
 |0,r,p,h,hm=>by
  unfold cG at hm;by_cases h0:cnt≤cC 0 r∨p=0
  ·rw[if_pos h0] at hm;simp at hm
  ·rw[if_neg h0] at hm;cases hg:be n p with
   |false=>rw[if_pos hg] at hm;simp at hm
   |true=>
    rw[if_neg (by rw[hg];decide)] at hm;simp at hm;subst hm;exact⟨aj,by have h1:¬cnt≤cC 0 r:=fun e=>h0 (.inl e);show cC 0 r<cnt;omega⟩
 |l+1,r,p,h,hm=>by
  unfold cG at hm;by_cases h0:cnt≤cC (l+1) r∨p=0
  ·rw[if_pos h0] at hm;simp at hm
  ·rw[if_neg h0] at hm;cases hg:be n p with
   |false=>rw[if_pos hg] at hm;simp at hm
   |true=>
    rw[if_neg (by rw[hg];decide)] at hm;unfold bH at hm;rw[if_neg (by simp)] at hm;rcases List.mem_append.1 hm with hm|hm
    ·simp at hm;subst hm;exact⟨aj,by have h1:¬cnt≤cC (l+1) r:=fun e=>h0 (.inl e);show cC (l+1) r<cnt;omega⟩
    ·obtain⟨a,ha,h2⟩:=mz _ h hm;obtain⟨k,_,rfl⟩:=List.mem_map.1 ha;have:=uO l _ _ h h2;exact⟨by omega,this.2⟩
theorem A6{cnt n:Nat}{W:Int→Nat→Int}{Pv:Nat→Int}{h:HG}(hm:h∈(bR (dQ cnt n W Pv)).1):h.1<3∧h.2.1<cnt:=by
 obtain⟨a,ha,h2⟩:=mz _ h hm;unfold dQ at ha;obtain⟨j,_,rfl⟩:=List.mem_map.1 ha;have h3:=uO _ _ _ h h2;have h4:=nH j;exact⟨by omega,Nat.lt_of_le_of_lt (jQ h.1 h.2.1) h3.2⟩
theorem uP{cnt:Nat}(l:Nat):∀(A:List TX) (f:Nat→List Int),(f l).length≤cnt→(∀x∈A,x.1.2.1<cnt)→((A.foldl (fun f x=>aT f x.1.1 (cK (f x.1.1) x.1.2.1 x.1.2.2)) f) l).length≤cnt
 |[],f,h,_=>h
 |x::A,f,h,hA=>by
  rw[List.foldl_cons];refine uP l A _ ?_ (fun y hy=>hA y (List.mem_cons_of_mem _ hy));have h2:=hA x List.mem_cons_self;by_cases e:l=x.1.1
  ·subst e;rw[bG,lF];omega
  ·rw[aS _ _ _ _ e];exact h
theorem A8{cnt:Nat}(l:Nat)(A:List HG)(hA:∀h∈A,h.2.1<cnt):(dG (aM A) l).length≤cnt:=by
 refine uP l (aM A) _ (by simp) (fun x hx=>?_);unfold aM at hx;obtain⟨h,hh,rfl⟩:=List.mem_map.1 hx;exact hA h hh
theorem Kq.num{n₀ z b base n:Nat}{Ty:TypeId→Prop}{W W':World}{sv:Value}{C:Array Value}{t:TypeId}{xs:List Value}(h:fW W W' b sv)(hb:af W b C t)(ho:W.ownsRow base 3 1 sv n xs)(ht:Ty t)(hi:Ty 3)(hn:n₀≤b)(hn2:n₀≤base):Kq n₀ z Ty W W':=by
 have hlt:=hb.lt;refine⟨⟨h.os,h.tape,h.output,h.size,fun k hk=>h.block k (by omega) (by omega) (fun e=>by have:=(ho.lt k e).1;omega)⟩,fun k cs u fr hk hu=>?_,fun k o hz hk hc=>?_,h.size⟩
 ·refine(h.block k (Array.getElem?_eq_some_iff.1 hk).1 (fun e=>?_) (fun e=>?_)).trans hk
  ·subst e;have hb':W.heap[k]?=some (.cells C t):=hb;rw[hb'] at hk;cases hk
   exact hu ht
  ·obtain⟨_,C',hC⟩:=mG ho e;have hb':W.heap[k]?=some (.cells C' 3):=hC;rw[hb'] at hk;cases hk
   exact hu hi
 ·refine(h.block k (Array.getElem?_eq_some_iff.1 hk).1 (fun e=>?_) (fun e=>?_)).trans hk
  ·subst e;have hb':W.heap[k]?=some (.cells C t):=hb;rw[hb'] at hk;cases hk
   cases hc
  ·obtain⟨_,C',hC⟩:=mG ho e;have hb':W.heap[k]?=some (.cells C' 3):=hC;rw[hb'] at hk;cases hk
   cases hc
structure jA(w:World)(C:Array Value)(Z:TL)(pre:List TX)(W:World):Prop where
 told:∃A,pre=aM A∧A<+:Z.1
 nums:∃D sl,D.size=3∧dF W w.heap.size (w.heap.size+3) 0 D 106 sl (dG pre)
 tree:af W w.heap.size C 87
 res1:af W (w.heap.size+1) #[.slice none 0 0,.slice none 0 0,.slice none 0 0] 106
 res2:af W (w.heap.size+2) #[.nilIface] 62
 old:Below w.heap.size w W
 size:w.heap.size+7≤W.heap.size
theorem jA.eV{w:World}{z:Nat}{C:Array Value}{Z:TL}(hz:w.heap.size≤z):gy z (jA w C Z):=by
 intro pre A B row h hg hr;obtain⟨D,sl,h0,h1⟩:=h.nums;exact⟨h.told,⟨D,sl,h0,h1.fq hg hr⟩,dx h.tree hg hr,dx h.res1 hg hr,dx h.res2 hg hr,jx h.old hz (by have:=h.size;omega) hg hr,aN h.size hg.size⟩
theorem qC{A:World}{a:Addr}{v:Value}(h:A.cell? a=some v){b o:Nat}{u:Value}(hc:A.cell? ⟨b,o,none⟩=some u):(A.setCell a v).cell? ⟨b,o,none⟩=some u:=by
 by_cases e:a=⟨b,o,none⟩
 ·subst e;rw[h] at hc;cases hc
  exact World.cell?_setCell_same _ _ _ h
 ·rw[World.cell?_setCell_other _ _ _ _ e];exact hc
theorem uQ{fn:Func}{p q:Tmp}(h:fn.results=#[.cell p 106,.cell q 62])(tmps:Array Value)(w:World)(R1 R2:Nat)(D:Array Value)(v2:Value)(hp:tmps.getD p undef=.pointer (some ⟨R1,0,none⟩))(hq:tmps.getD q undef=.pointer (some ⟨R2,0,none⟩))
 (h1:af w R1 D 106) (hD:D.size=3) (h2:af w R2 #[v2] 62):(results fn tmps).run prog w=.ok (.tuple #[.agg D,v2]) w:=by
 have c2:=(h2.cell 0).trans (show _=some v2 from rfl);have hp':tmps[p]?.getD undef=.pointer (some ⟨R1,0,none⟩):=by rw[←Array.getD_eq_getD_getElem?];exact hp
 have hq':tmps[q]?.getD undef=.pointer (some ⟨R2,0,none⟩):=by rw[←Array.getD_eq_getD_getElem?];exact hq
 obtain⟨d0,d1,d2,rfl⟩:∃d0 d1 d2,D=#[d0,d1,d2]:=by
  match D,hD with
  |⟨[d0,d1,d2]⟩,_=>exact⟨d0,d1,d2,rfl⟩
 have c10:=(h1.cell 0).trans (show _=some d0 from rfl);have c11:=(h1.cell 1).trans (show _=some d1 from rfl);have c12:=(h1.cell 2).trans (show _=some d2 from rfl);simp only[results,h];go_simp
end
section
open Go.RowKit
def iC(Ls:Nat→List Int)(l r:Nat):List Int:=(List.range 128).map (fun k=>(Ls l).getD (bP l r k) 0)
theorem uR(b off l r:Nat)(C:Array Value)(t:TypeId)(sl:Nat→Value)(Ls:Nat→List Int)(base:Nat)(w:World)(h:dF w base b off C t sl Ls)(hl:l<2)(hr:r≤700):
 Calls prog 70 #[.pointer (some ⟨b,off,none⟩),dD (l+1) r] w fun e w'=>e=.returned (.agg ((iC Ls l r).map (Value.int .i64)).toArray)∧Below w.heap.size w w':=by
 obtain⟨Z1,hZ1,hAl1⟩:=tC;have HAl:=aa (ag hZ1 hAl1);have HN:=aa h;clear h hZ1 hAl1;obtain⟨W3,hW3⟩:∃W3,W3=((w.alloc (.cells #[.int .i64 ((l:Int)+1),.int .i64 (r:Int)] 123)).alloc (.cells Z1 127)).alloc (.cells Z1 127):=⟨_,rfl⟩;have B0:=ae (Below w.heap.size w W3) (by rw[hW3];exact((ak.alloc aj _).alloc (by simp) _).alloc (by simp;omega) _);have K0:=ae (af W3 w.heap.size #[.int .i64 ((l:Int)+1),.int .i64 (r:Int)] 123) (by rw[hW3];exact((af.new w _ _).alloc _).alloc _);have K1:=ae (af W3 (w.heap.size+1) Z1 127) (by have h:=af.new (w.alloc (.cells #[.int .i64 ((l:Int)+1),.int .i64 (r:Int)] 123)) Z1 127;rw[World.size_alloc] at h;rw[hW3];exact h.alloc _);have K2:=ae (af W3 (w.heap.size+2) Z1 127) (by have h:=af.new ((w.alloc (.cells #[.int .i64 ((l:Int)+1),.int .i64 (r:Int)] 123)).alloc (.cells Z1 127)) Z1 127;rw[World.size_alloc,World.size_alloc] at h;rw[hW3];exact h);have HW3:=aa hW3;clear hW3;go_enter func70,ntmps70;go_upto_region 2 with(first
  |(refine Great.wpList_allocTo rfl (some 4) rfl (.pointer (some ⟨w.heap.size+1,0,none⟩)) (.cells Z1 127) (by have e:=HAl.out.2;rw[show w.heap.size+1=(w.alloc (.cells #[.int .i64 ((l:Int)+1),.int .i64 (r:Int)] 123)).heap.size by simp];exact e _ _ _ rfl) ?_)
  |(refine Great.wpList_allocTo rfl (some 5) rfl (.pointer (some ⟨w.heap.size+2,0,none⟩)) (.cells Z1 127) (by have e:=HAl.out.2;rw[show w.heap.size+2=((w.alloc (.cells #[.int .i64 ((l:Int)+1),.int .i64 (r:Int)] 123)).alloc (.cells Z1 127)).heap.size by simp];exact e _ _ _ rfl) ?_))
 rw[←HW3.out];simp only[Act.put,List.setIfInBounds_toArray,List.set_cons_zero,List.set_cons_succ];go_wp2;go_loopw [7] (fun kv wr=>∃(k:Nat) (A:Array Value),k≤128∧kv=.int .i64 (k:Int)∧A.size=128∧(∀j,j<k→A[j]?=some (.int .i64 ((Ls l).getD (bP l r j) 0)))∧af wr (w.heap.size+2) A 127∧af wr w.heap.size #[.int .i64 ((l:Int)+1),.int .i64 (r:Int)] 123∧af wr (w.heap.size+1) Z1 127∧Below w.heap.size w wr) (fun kv _=>128-(intOf kv).toNat)
 case atStart=>exact⟨0,Z1,by omega,rfl,HAl.out.1,fun j hj=>absurd hj (by omega),K2.out,K0.out,K1.out,B0.out⟩
 case round=>
  obtain⟨k,A,hk1,rfl,hA,hAj,kA,kS,kZ,hb⟩:=hrel;have HI:=aa (ag hA (ag hAj (ag kA (ag kS (ag kZ hb)))));clear hA hAj kA kS kZ hb;by_cases hk2:k<128
  ·have hkI:(k:Int)<128:=(by omega);have HX:=ae (∃x,x=(Ls l).getD (bP l r k) 0) (⟨_,rfl⟩);obtain⟨x,hx⟩:=HX.out;clear HX;have HX:=aa hx;clear hx;have HBl:=ae (bP l r k≤100000) (by unfold bP;split<;>omega);have hrg:wr.rangeAt w.heap.size 0 [.int .i64 ((l:Int)+1),.int .i64 (r:Int)]:=by
    intro j v hj;match j,hj with
    |0,hj=>rw[HI.out.2.2.2.1.cell (0+0)];simpa using hj
    |1,hj=>rw[HI.out.2.2.2.1.cell (0+1)];simpa using hj
    |k+2,hj=>simp at hj
   have HRg:=aa hrg;clear hrg;go_wp2_with (first
    |(refine wpList_load_mid rfl 123 _ rfl w.heap.size 0 rfl [.int .i64 ((l:Int)+1),.int .i64 (r:Int)] _ HRg.out underlying123 rfl ey ?_)
    |(go_at_call 101;refine(ny l r k _ (by omega) (by omega) (by omega)).mono ?_;rintro e w5 ⟨rfl,b5⟩;have B5:=aa b5;clear b5)
    |(go_at_call 71;refine(jz b off l (bP l r k) C t sl Ls base _ (HN.out.below (HI.out.2.2.2.2.2.trans (B5.out.mono HI.out.2.2.2.2.2.size))) (by omega) HBl.out).mono ?_;rintro e w6 ⟨rfl,b6⟩;rw[←HX.out];have B6:=aa (B5.out.trans (b6.mono B5.out.size));clear b6;have K6:=aa (HI.out.2.2.1.below B6.out HI.out.2.2.1.lt);have c6:=K6.out.cell k;have f6:=K6.out.frozen k;rw[Array.getElem?_eq_getElem (by have:=HI.out.1;omega)] at c6))
   have hW6:=HI.out.2.2.2.2.2.trans (B6.out.mono HI.out.2.2.2.2.2.size);refine⟨⟨k+1,A.setIfInBounds k (.int .i64 x),by omega,by go_num,by simpa using HI.out.1,fun j hj=>?_,K6.out.set k _,(HI.out.2.2.2.1.below B6.out HI.out.2.2.2.1.lt).other _ _ (by show w.heap.size≠w.heap.size+2;omega),(HI.out.2.2.2.2.1.below B6.out HI.out.2.2.2.2.1.lt).other _ _ (by show w.heap.size+1≠w.heap.size+2;omega),hW6.setCell (p:=⟨w.heap.size+2,k,none⟩) (by show w.heap.size≤w.heap.size+2;omega) _⟩,by simp[intOf];omega⟩;by_cases e:j=k
   ·subst e;rw[Array.getElem?_setIfInBounds_self_of_lt (by have:=HI.out.1;omega),HX.out]
   ·rw[Array.getElem?_setIfInBounds_ne (by omega)];exact HI.out.2.1 j (by omega)
  ·have hk3:k=128:=(by omega);subst hk3;clear hk2;have hAW:A=((iC Ls l r).map (Value.int .i64)).toArray:=by
    apply Array.ext_getElem?;intro j;by_cases hj:j<128
    ·rw[HI.out.2.1 j hj];simp[iC,hj]
    ·rw[Array.getElem?_eq_none (by have:=HI.out.1;omega),Array.getElem?_eq_none (by simp[iC];omega)]
   have HAW:=aa hAW;have HO:=ae (A.all (·.oneCell')=true) (by rw[hAW];exact jn _);have HIn:=ae ((prog.info? 127).map (·.size)=some A.size) (by rw[HI.out.1];exact lq);clear hAW;go_wp2_with (first
    |(refine wpList_load_row rfl 127 _ rfl (w.heap.size+2) rfl 127 A (0,0) _ HI.out.2.2.1 underlying127 rfl HIn.out ?_)
    |(refine wpList_store_row rfl 127 _ _ rfl (w.heap.size+1) A rfl rfl 127 Z1 HI.out.2.2.2.2.1 HIn.out (by rw[HI.out.1,HAl.out.1]) HO.out ?_))
   refine bodyPost_ret (v:=.agg A) ?_ rfl ⟨by rw[HAW.out],below_setRow HI.out.2.2.2.2.2 (by omega) _⟩;exact results_cell_row rfl _ _ (w.heap.size+1) 127 _ (0,0) _ rfl (HI.out.2.2.2.2.1.row _) underlying127 rfl HIn.out
theorem Ba{w0:World}{a:Option Addr}{len cap:Nat}{zs:List Int}(h:Rd .i64 w0 (.slice a len cap) zs)(lo:Nat)(h2:lo≤zs.length):
 ∃a' c',Rd .i64 w0 (.slice a' (zs.length-lo) c') (zs.drop lo)∧∀wx,(Instr.slice 29 (.slice a len cap) (some (.int .i64 (lo:Int))) none none).run prog wx=.ok (.slice a' (zs.length-lo) c') wx:=by
 obtain⟨i0,hi0,hz0,hz1,hz2⟩:=info_parts eO;obtain⟨a0,cap0,e,hm,hc,hl,hcm⟩:=h;injection e with e1 e2 e3;subst e1 e2 e3;have hlen:(zs.drop lo).length=zs.length-lo:=length_drop;have hrun:∀wx,(Instr.slice 29 (.slice a zs.length cap) (some (.int .i64 (lo:Int))) none none).run prog wx=.ok (sliced a lo zs.length cap 1) wx:=fun wx=>by
  rw[run_slice_l (P:=prog) (w:=wx) 29 a zs.length cap (by rw[underlying29];rfl) .i64 (lo:Int) (by omega) (by omega)];simp[sizeOf,typeInfo,show prog.elem 29=3 by kernel_rfl,hi0,hz1,Result.andThen]
 refine⟨_,_,?_,hrun⟩;refine⟨_,_,by rw[hlen],by omega,fun hne=>?_,by rw[hlen];omega,by omega⟩;have hp:lo<zs.length:=by
  rcases Nat.lt_or_ge lo zs.length with h|h
  ·exact h
  ·exact absurd (by rw[List.drop_eq_nil_of_le h]) hne
 obtain⟨b,off,rfl,hb,hcell⟩:=hc (fun e=>by rw[e] at hp;simp at hp);refine⟨b,off+lo,?_,hb,fun i hi2=>?_⟩
 ·rw[if_neg (by omega),Option.map_some,Nat.mul_one,Addr.add_mid]
 ·rw[hlen] at hi2;rw[Nat.add_assoc,hcell (lo+i) (by omega)];simp[getD,List.getElem?_eq_getElem (show lo+i<zs.length by omega)]
theorem Bb(z:Int)(h0:0≤z)(h1:z≤100000000):IntKind.i64.wrap z=z:=by rw[IntKind.wrap_i64];omega
theorem uS(ws:List Int)(k:Nat):(cq ws k).length=128:=by simp[cq]
theorem Bc(ws:List Int)(k:Nat):splice ((replicate 128 (0:Int)).map (Value.int .i64)) 0 (((ws.drop (128*k)).take 128).map (Value.int .i64))=(cq ws k).map (Value.int .i64):=by
 apply List.ext_getElem?;intro i;unfold splice cq;rw[List.take_zero,List.nil_append,length_map,Nat.zero_add,List.map_map];rcases Nat.lt_or_ge i ((ws.drop (128*k)).take 128).length with h|h
 ·rw[List.getElem?_append_left (by simpa using h)];rw[length_take,length_drop] at h;rw[getElem?_map,List.getElem?_take,if_pos (by omega),List.getElem?_drop,getElem?_map,List.getElem?_range (by omega)];simp[getD,List.getElem?_eq_getElem (show 128*k+i<ws.length by omega)]
 ·rw[List.getElem?_append_right (by simpa using h),length_map,List.getElem?_drop];rw[length_take,length_drop] at h⊢;rcases Nat.lt_or_ge i 128 with h1|h1
  ·rw[getElem?_map,List.getElem?_replicate,if_pos (by omega),getElem?_map,List.getElem?_range h1];simp[getD,getElem?_eq_none (show ws.length≤128*k+i by omega)]
  ·rw[getElem?_eq_none (by simp;omega),getElem?_eq_none (by simp;omega)]
theorem qD(a:Option Addr)(n c k:Nat)(ws:List Int)(w:World)(h:Rd .i64 w (.slice a n c) ws)(hn:n=ws.length)(hk:128*k<n)(hn2:n≤2048):
 Calls prog 69 #[.slice a n c,.int .i64 (k:Int)] w fun e w'=>e=.returned (.agg ((cq ws k).map (Value.int .i64)).toArray)∧Below w.heap.size w w':=by
 obtain⟨Z,hZ,hAl⟩:=tL;have HAl:=aa hAl;have hZs:Z.size=128:=by rw[hZ];simp
 obtain⟨W2,hW2⟩:∃W2,W2=(w.alloc (.cells Z 127)).alloc (.cells Z 127):=⟨_,rfl⟩;have B2:=ae (Below w.heap.size w W2) (by rw[hW2];exact(ak.alloc aj _).alloc (by simp) _);have K2:=ae (af W2 w.heap.size Z 127) (by rw[hW2];exact(af.new w _ _).alloc _);have Z2:=ae (af W2 (w.heap.size+1) ((replicate 128 (0:Int)).map (Value.int .i64)).toArray 127) (by have h:=af.new (w.alloc (.cells Z 127)) Z 127;rw[World.size_alloc] at h;rw[hW2, ←hZ];exact h);obtain⟨sa,sc,hsr,hsl⟩:=Ba h (128*k) (by omega);rw[←hn] at hsr hsl;obtain⟨b2,off2,c2,hsv,hb2,_,_,hcell⟩:=hsr.dj (by rw[length_drop];omega);injection hsv with e1 e2 e3;subst e1;subst e3;clear e2;have hkI:(k:Int)*128<2048:=by omega
 have hsl2:∀(wx:World),(Instr.slice 29 (.slice a n c) (some (.int .i64 ((k:Int)*128))) none none).run prog wx=.ok (.slice (some ⟨b2,off2,none⟩) (n-128*k) sc) wx:=fun wx=>by
  have:=hsl wx;rw[show((128*k:Nat):Int)=(k:Int)*128 by omega] at this;exact this
 have HC:=ae (∀j u,(((ws.drop (128*k)).take 128).map (Value.int .i64))[j]?=some u→W2.drew.cell? ((⟨b2,off2,none⟩:Addr).add j)=some u) (fun j u hj=>by
  have hj8:j<((ws.drop (128*k)).take 128).length:=by
   rcases Nat.lt_or_ge j ((ws.drop (128*k)).take 128).length with h|h
   ·exact h
   ·rw[getElem?_eq_none (by simpa using h)] at hj;cases hj
  rw[length_take] at hj8;rw[Addr.add_mid];refine((B2.out.drew).cell (p:=⟨b2,off2+j,none⟩) hb2).trans ?_;rw[hcell j (by omega)];rw[getElem?_map,List.getElem?_take,if_pos (by omega),List.getElem?_eq_getElem (by omega)] at hj;rw[←Option.some.inj hj];simp only[getD,List.getElem?_eq_getElem (show j<(ws.drop (128*k)).length by omega),Option.getD_some])
 have HLc:=ae ((((ws.drop (128*k)).take 128).map (Value.int .i64)).length=Nat.min (n-128*k) 128) (by rw[length_map,length_take,length_drop,hn];exact Nat.min_comm _ _);have HW2:=aa hW2;have HZS:=aa hZs;clear hW2 h hsr hcell hsl hn hZ hAl hb2 hZs;go_enter func69,ntmps69;go_upto_region 2 with(first
  |(refine Great.wpList_allocTo rfl (some 4) rfl (.pointer (some ⟨w.heap.size,0,none⟩)) (.cells Z 127) (by have e:=HAl.out;exact e _ _ _ rfl) ?_)
  |(refine Great.wpList_allocTo rfl (some 5) rfl (.pointer (some ⟨w.heap.size+1,0,none⟩)) (.cells Z 127) (by have e:=HAl.out;rw[show w.heap.size+1=(w.alloc (.cells Z 127)).heap.size by simp];exact e _ _ _ rfl) ?_))
 rw[←HW2.out];refine cr (fun w'=>True) trivial fun hH=>?_;refine ah 0 (.slice (some ⟨w.heap.size+1,0,none⟩) 128 128) rfl hH ?_;refine ah 1 (.slice a n c) rfl hH ?_;refine ah 2 (.int .i64 (k:Int)) rfl hH ?_;refine ah 3 (.int .i64 ((k:Int)*128)) rfl hH ?_ (aH fun w' hw'=>by have hw6:=Bb ((k:Int)*128) (by omega) (by omega);go_simp);refine ah 4 (.slice (some ⟨b2,off2,none⟩) (n-128*k) sc) rfl hH ?_;refine aG 5 rfl fun K hK=>?_;refine step_copy_splice rfl (.tmp 6) (.tmp 10) 29 29 rfl 3 underlying29 (by kernel_rfl) (some ⟨w.heap.size+1,0,none⟩) (some ⟨b2,off2,none⟩) 128 128 (n-128*k) sc rfl rfl (w.heap.size+1) 0 ((replicate 128 (0:Int)).map (Value.int .i64)) 127 (show _ from Z2.out) (((ws.drop (128*k)).take 128).map (Value.int .i64)) HLc.out (fun hp=>⟨rfl,_,rfl,HC.out⟩) (by rw[HLc.out,length_map,List.length_replicate,Nat.zero_add];exact Nat.min_le_right _ _) (fun u hu=>by obtain⟨z,_,rfl⟩:=List.mem_map.1 hu;rfl) (w.heap.size+1) W2.drew (ak) aj ?_;intro w9 hg9 hb9;obtain⟨A,hA⟩:∃A,A=((cq ws k).map (Value.int .i64)).toArray:=⟨_,rfl⟩;have K9:=ae (af w9 (w.heap.size+1) A 127) (by rw[hA, ←Bc];exact hg9.out);have B9:=ae (Below (w.heap.size+1) W2 w9) (ak.drew.trans hb9);have HA:=aa hA;clear hg9 hb9 hA;refine hK.out _ _ trivial (fun hH=>?_);clear hK K;try simp only[Act.put,aq,au,av,ay,az,aA]
 refine bz ?_;clear hH;have HAs:=ae (A.size=128) (by rw[HA.out];simp[cq]);have HO:=ae (A.all (·.oneCell')=true) (by rw[HA.out];exact jn _);have HIn:=ae ((prog.info? 127).map (·.size)=some A.size) (by rw[HAs.out];exact lq);have K8:=aa (K2.out.below B9.out (by omega));have B8:=ae (Below w.heap.size w w9) (B2.out.trans (B9.out.mono (by omega)));go_wp2_with (first
  |(refine wpList_load_row rfl 127 _ rfl (w.heap.size+1) rfl 127 A (0,0) _ K9.out underlying127 rfl HIn.out ?_)
  |(refine wpList_store_row rfl 127 _ _ rfl w.heap.size A rfl rfl 127 Z K8.out HIn.out (by rw[HAs.out,HZS.out]) HO.out ?_))
 refine bodyPost_ret (v:=.agg A) ?_ rfl ⟨by rw[HA.out],below_setRow B8.out aj _⟩;exact results_cell_row rfl _ _ w.heap.size 127 _ (0,0) _ rfl (K8.out.row _) underlying127 rfl HIn.out
end
end Go.Proofs.YtlimollpocagiaaGreatDoor
