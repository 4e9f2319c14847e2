/- The iterator over the free blocks of a map: its contract -/
import Derived.Shelf.Abstract
import Derived.Shelf.RegionOpen
import Derived.OwnWalkIn
import Derived.TacticsInMore
import Derived.LoopNIn
import Derived.LoopIn
import Derived.Maps.AppendAt
import Derived.Test.YtpplnhkpcpieoaaGreatDoorZx04
namespace Go.Proofs.YtpplnhkpcpieoaaGreatDoor
open Go.Proofs.Tryz
set_option linter.all false
set_option maxRecDepth 100000
set_option maxHeartbeats 16000000
section
open Go.RowKit Go.Shelf
attribute [local go_sem] Oper.semAt_some
def Kf(n₀ X:Nat)(W W':World):Prop:=Below n₀ W W'∧W'.heap[X]?=W.heap[X]?
theorem Kf.box{n₀ X:Nat}{W W':World}{t:TypeId}{v:Value}(h:Kf n₀ X W W')(hb:Boxed W X t v):Boxed W' X t v:=h.2.trans hb
theorem Kf.trans{n₀ X:Nat}{A B C:World}(h:Kf n₀ X A B)(k:Kf n₀ X B C):Kf n₀ X A C:=⟨h.1.trans k.1,k.2.trans h.2⟩
theorem Gx(n:Nat)(hn:1≤n)(l X1 X2 n₀:Nat)(ws:List Int)(c:Nat)(bw off cap:Nat)(h2:2≤c)(hc:c<ws.length)(hl:ws.length≤2048)(hbw:bw<n₀)(J Jx:List Int→World→Prop)
 (hY:∀pre x W,J pre W→pre.length<(kL ws c).length→2≤x∧x<(ws.length:Int)→YieldAt Fence.wide (n-1) prog l #[.int .i64 x] W fun e W'=>
  (e=.returned (.bool true)∧J (pre++[x]) W'∧Kf n₀ X2 W W')∨(e=.returned (.bool false)∧Jx (pre++[x]) W'))
 (W:World) (hX1:Boxed W X1 3 (.int .i64 (c:Int))) (hX2:Boxed W X2 45 (.slice (some ⟨bw,off,none⟩) ws.length cap)) (hcell:∀i,i<ws.length→W.cell? ⟨bw,off+i,none⟩=some (.int .i64 (ws.getD i 0))) (h0:J [] W):
 CallsIn Fence.wide n prog 151 #[.func (.yield l) #[] #[],.pointer (some ⟨X1,0,none⟩),.pointer (some ⟨X2,0,none⟩)] W fun e W'=>(∃v,e=.returned v)∧
  ((∃ys,ys=kL ws c∧J ys W')∨(∃pre,pre<+:kL ws c∧Jx pre W')):=by
 have HN:=aa (wS ws c);have c1:=hX1.cell;have c2:=hX2.cell;have HO:=ae (∀i,i<ws.length-2→(2≤cD ws.length c i∧cD ws.length c i<ws.length)∧((cD ws.length c (i+1):Nat):Int)=dg ws.length (cD ws.length c i:Nat)) (fun i hi=>⟨sY _ _ _ h2 hc hi,Dy _ _ _ h2 hc hl hi⟩);have HZ:=aa (wO ws.length c hc);have HS:=aa (ai hX2 (ai hcell h0));have HF0:=ae (jk ws c 0=[]) rfl;have HY:=aa hY;clear hX1 hX2 hcell h0 hY;refine callsIn_of_wp func151 rfl trivial ?_ rfl;simp only[ntmps151,List.size_toArray,List.length_cons,List.length_nil,Nat.reduceAdd,Nat.reduceSub,Array.replicate_succ,Array.replicate_zero,List.push_toArray,List.append_toArray,List.nil_append,List.cons_append];gi_wp2
 clear c1 c2;gi_loopw [4,9] (fun b i wr=>∃k:Nat,k≤ws.length-2∧i=.int .i64 k∧b=.int .i64 (cD ws.length c k:Nat)∧Boxed wr X2 45 (.slice (some ⟨bw,off,none⟩) ws.length cap)∧(∀i,i<ws.length→wr.cell? ⟨bw,off+i,none⟩=some (.int .i64 (ws.getD i 0)))∧J (jk ws c k) wr)
  (fun _ i _=>ws.length-2-(intOf i).toNat)
 case atStart=>
  exact⟨0,by omega,rfl,by rw[HZ.out],HS.out.1,HS.out.2.1,by rw[HF0.out];exact HS.out.2.2⟩
 case round=>
  obtain⟨k,hk,rfl,rfl,hb2,hcl,hJ⟩:=hrel;have HK:=aa (ai hb2 (ai hcl hJ));clear hb2 hcl hJ HS;by_cases hlt:k<ws.length-2
  ·obtain⟨⟨ho1,ho2⟩,ho3⟩:=HO.out k hlt;have Rh:=aa ho3;have cb:=HK.out.1.cell;have cw:=HK.out.2.1 (cD ws.length c k) ho2;have Vm:=aa (wP ws c k);have Xo:=aa (wQ ws c k);have hlt':(k:Int)<(ws.length:Int)-2:=(by omega);obtain⟨o,ho⟩:∃o,o=cD ws.length c k:=⟨_,rfl⟩;rw[←ho] at ho1 ho2 cw Vm Xo Rh⊢;clear ho ho3;have hc2:=fun(W':World) (h:Kf n₀ X2 wr W')=>(h.box HK.out.1).cell;have Rf:=aa hc2;clear hc2;by_cases hz:ws.getD o 0=0
   ·obtain⟨fn,tmps,assign,body,hy,hR⟩:=HY.out (jk ws c k) (o:Int) wr HK.out.2.2 (by
     have h1:=HN.out (k+1) (ws.length-2) (by omega);rw[Vm.out hz] at h1;have:=h1.length_le;simp at this;unfold kL;omega) (by omega)
    rw[hz] at cw;have HR:=aa hR;have Xp:=aa (Vm.out hz);clear hR hz Vm Xo;gi_wp2
    refine HR.out.mono ?_;rintro e W3 (⟨rfl,hJ3,hk3⟩|⟨rfl,hJx3⟩)
    ·have c3:=Rf.out W3 hk3;have H3:=aa (ai hJ3 hk3);clear hJ3 hk3 cw cb HR;gi_wp2_with (refine⟨trivial,?_⟩;gi_at_call 152;refine(callsIn_wide.2 (qu _ ws.length _ (by omega) (by omega))).mono ?_;rintro e w' ⟨rfl,rfl⟩;rw[←Rh.out])
     go_roundw
     case rel=>exact⟨k+1,by omega,by go_num,rfl,H3.out.2.box HK.out.1,fun i hi=>(H3.out.2.1.cell (p:=⟨bw,off+i,none⟩) hbw).trans (HK.out.2.1 i hi),by rw[Xp.out];exact H3.out.1⟩
     case measure=>simp[intOf];omega
    ·have HX:=aa hJx3;clear hJx3;gi_wp2
     refine bodyPost_ret (results_none rfl _ _ _) rfl ?_;exact⟨⟨_,rfl⟩,.inr ⟨_,by rw[←Xp.out];exact HN.out (k+1) (ws.length-2) (by omega),HX.out⟩⟩
   ·have Xp:=aa (Xo.out hz);have hq:(ws.getD o 0==0)=false:=(by simpa using hz);generalize ws.getD o 0=z at cw hq;clear hz Vm Xo;gi_wp2
    refine⟨fun _ h=>(by cases h),?_⟩;gi_wp2_with (refine⟨trivial,?_⟩;gi_at_call 152;refine(callsIn_wide.2 (qu _ ws.length _ (by omega) (by omega))).mono ?_;rintro e w0 ⟨rfl,hw0⟩;rw[←Rh.out,hw0];clear hw0 w0)
    go_roundw
    case rel=>exact⟨k+1,by omega,by go_num,rfl,HK.out.1,HK.out.2.1,by rw[Xp.out];exact HK.out.2.2⟩
    case measure=>simp[intOf];omega
  ·have ek:k=ws.length-2:=(by omega);gi_wp2
   go_end0;exact⟨⟨_,rfl⟩,.inl ⟨_,rfl,by unfold kL;rw[←ek];exact HK.out.2.2⟩⟩
theorem Gy(n:Nat)(v:Value)(c:Int)(w:World)(a:Option Addr)(len cap:Nat)(hv:v=.slice a len cap):
 CallsIn Fence.wide n prog 137 #[v,.int .i64 c] w fun e w'=>e=.returned (.func (.func 151) #[] #[.pointer (some ⟨w.heap.size+1,0,none⟩),.pointer (some ⟨w.heap.size,0,none⟩)])∧w'=(w.alloc (.cells #[v] 45)).alloc (.cells #[.int .i64 c] 3):=by
 subst hv;refine callsIn_of_wp func137 rfl trivial ?_ rfl;simp only[ntmps137,List.size_toArray,List.length_cons,List.length_nil,Nat.reduceAdd,Nat.reduceSub,Array.replicate_succ,Array.replicate_zero,List.push_toArray,List.append_toArray,List.nil_append,List.cons_append];gi_wp2
 go_ret;exact⟨rfl,rfl⟩
theorem Gz(n:Nat)(hn:1≤n)(X1 X2 n₀:Nat)(ws:List Int)(c:Nat)(bw off cap:Nat)(h2:2≤c)(hc:c<ws.length)(hl:ws.length≤2048)(hbw:bw<n₀)(w:World)(hn₀:n₀≤w.heap.size)
 (hX1:Boxed w X1 3 (.int .i64 (c:Int))) (hX2:Boxed w X2 45 (.slice (some ⟨bw,off,none⟩) ws.length cap)) (hcell:∀i,i<ws.length→w.cell? ⟨bw,off+i,none⟩=some (.int .i64 (ws.getD i 0))):
 SeqStopsK Fence.wide n prog 151 #[.pointer (some ⟨X1,0,none⟩),.pointer (some ⟨X2,0,none⟩)] (fun x:{x:Int//2≤x∧x<(ws.length:Int)}=>#[Value.int .i64 x.1]) (Kf n₀ X2) (fun ys=>ys.map (·.1)=kL ws c) (fun pre=>pre.map (·.1)<+:kL ws c) (kL ws c).length w:=fun l J Jx W hW _ _ hY h0=>by
 refine(Gx n hn l X1 X2 n₀ ws c bw off cap h2 hc hl hbw (fun pre W=>∃q:List {x:Int//2≤x∧x<(ws.length:Int)},q.map (·.1)=pre∧J q W) (fun pre W=>∃q:List {x:Int//2≤x∧x<(ws.length:Int)},q.map (·.1)=pre∧Jx q W) ?_ W ((hW.block X1 hX1.lt).trans hX1) ((hW.block X2 hX2.lt).trans hX2) (fun i hi=>(hW.cell (p:=⟨bw,off+i,none⟩) (Nat.lt_of_lt_of_le hbw hn₀)).trans (hcell i hi)) ⟨[],rfl,h0⟩).mono ?_
 ·rintro pre x W1 ⟨q,hq,hJ⟩ hlen hx;obtain⟨fn,tmps,assign,body,hy,hR⟩:=hY q ⟨x,hx⟩ W1 hJ (by rw[←hq] at hlen;simpa using hlen);refine⟨fn,tmps,assign,body,hy,hR.mono ?_⟩;rintro e W2 (⟨h1,h2,h3⟩|⟨h1,h2⟩)
  ·exact .inl ⟨h1,⟨_,by simp[hq],h2⟩,h3⟩
  ·exact .inr ⟨h1,⟨_,by simp[hq],h2⟩⟩
 ·rintro e W2 ⟨h1,⟨ys,hys,q,hq,hJ⟩|⟨pre,hp,q,hq,hJ⟩⟩
  ·exact⟨h1,.inl ⟨q,hq.trans hys,hJ⟩⟩
  ·exact⟨h1,.inr ⟨q,by show q.map (·.1)<+:_;rw[hq];exact hp,hJ⟩⟩
theorem GA{n₀ X:Nat}{w:World}(hn:n₀≤w.heap.size)(hX:X<w.heap.size)(W:World)(l:Nat)(o o':Obj)(hl:w.heap.size≤l)(h:W.heap[l]?=some o)(h1:o.isCells=false)(h2:o.isWalk=false):Kf n₀ X W (W.putObj l o'):=
 ⟨belowK_b hn W l o o' hl h h1 h2,World.putObj_heap_other (by omega)⟩
end
section
open Go.RowKit
theorem GB(w:World)(e:TypeId):(w.alloc (.cells #[] e)).ownsRow w.heap.size e 1 (.slice (some ⟨w.heap.size,0,none⟩) 0 0) 0 []:=by
 have h:=World.ownsRow_lit (base:=w.heap.size) (e:=e) (size:=1) w #[] 0 aj (by simp) rfl;simpa using h
theorem zl(z:Int):∀u∈[Value.int .i64 z],u.oneCell'=true:=by intro u hu;simp at hu;subst hu;rfl
def kX(n c k:Nat):List Int:=((List.range k).map (cD n c)).map fun b:Nat=>(b:Int)
theorem GC(n c k:Nat):kX n c (k+1)=kX n c k++[((cD n c k:Nat):Int)]:=by simp[kX,List.range_succ]
theorem GD(n c k i:Nat)(h:i<k):(kX n c k).getD i 0=((cD n c i:Nat):Int):=by simp[kX,List.getD,h]
theorem GF(n c:Nat)(w:World)(h2:2≤c)(hc:c<n)(hn:n≤2048):
 Calls prog 114 #[.int .i64 (n:Int),.int .i64 (c:Int)] w fun e w'=>∃v',e=.returned v'∧w'.ownsRow w.heap.size 3 1 v' (n-2) ((kX n c (n-2)).map (Value.int .i64))∧Below w.heap.size w w':=by
 obtain⟨i0,hi,hz0,hz1,hz2⟩:=info_parts fX;have h0:=GB w 3;have hb0:Below w.heap.size w (w.alloc (.cells #[] 3)):=ak.alloc aj _;have K0:=aa (ai h0 hb0);have HS:=aa (GC n c);have HA:=ae ((∀k,c+k<n→cD n c k=c+k)∧(∀k,n≤c+k→cD n c k=c+k-n+2)) (⟨fun k h=>by unfold cD;rw[if_pos h],fun k h=>by unfold cD;rw[if_neg (by omega)]⟩);clear h0 hb0;go_enter func114,ntmps114;go_wp2;go_loopw [5,6] (fun o i wr=>∃k:Nat,c+k≤n∧i=.int .i64 ((c+k:Nat):Int)∧wr.ownsRow w.heap.size 3 1 o k ((kX n c k).map (Value.int .i64))∧Below w.heap.size w wr) (fun _ i _=>n-(intOf i).toNat)
 case atStart=>exact⟨0,by omega,rfl,K0.out.1,K0.out.2⟩
 case round=>
  obtain⟨k,hk,rfl,hown,hb⟩:=hrel;have K1:=aa (ai hown hb);have hsz:=hb.size;clear hown hb K0;obtain⟨q,hq⟩:∃q:Nat,q=c+k:=⟨_,rfl⟩;rw[←hq];have HQ:=aa hq;have hqk:k≤q:=by omega
  have hq2:q≤n:=by omega
  clear hq hk;by_cases hlt:q<n
  ·have HO:=ae (((cD n c k:Nat):Int)=(q:Int)) (by rw[HA.out.1 k (by have:=HQ.out;omega),HQ.out]);go_wp2_with (at_builtin;go_loud (refine wpList_append_own _ rfl (.tmp 15) (.tmp 17) 45 rfl w.heap.size 3 i0 (.int .i64 0) 1 8 underlying45 hi hz0 hz1 hz2 rfl (by decide) _ _ _ rfl (K1.out.1.alloc _) ⟨wr.heap.size,0,none⟩ 1 1 [.int .i64 (q:Int)] rfl rfl (cell_one_new _ _ _) (zl _) (by unfold maxLen;omega) (by omega) (by simp;omega) ?_);intro v1 w9 hown1 aI _);have HW:=ae (w9.ownsRow w.heap.size 3 1 v1 (k+1) ((kX n c (k+1)).map (Value.int .i64))∧Below w.heap.size w w9) (by
    refine⟨?_,(K1.out.2.alloc hsz _).grown aI (by simp;omega) (fun r h=>(K1.out.1.lt r h).1)⟩;rw[HS.out,List.map_append,HO.out];exact hown1)
   clear hown1 aI;go_wp2;go_roundw
   case rel=>exact⟨k+1,by have:=HQ.out;omega,by rw[show c+(k+1)=q+1 by have:=HQ.out;omega];go_num,HW.out.1,HW.out.2⟩
   case measure=>simp[intOf];omega
  ·have Vn:q=n:=(by omega);subst Vn;have HK:=ae (c+k=q) HQ.out.symm;clear hqk hq2 hlt HQ;rename World=>wA
   go_wp2;go_loopw [5,7] (fun o i wr=>∃j:Nat,2≤j∧j≤c∧i=.int .i64 (j:Int)∧wr.ownsRow w.heap.size 3 1 o (q-c+(j-2)) ((kX q c (q-c+(j-2))).map (Value.int .i64))∧Below w.heap.size w wr) (fun _ i _=>c-(intOf i).toNat)
   case atStart=>exact⟨2,by omega,h2,rfl,by rw[show q-c+(2-2)=k by have:=HK.out;omega];exact K1.out.1,K1.out.2⟩
   case round=>
    obtain⟨j,hj2,hjc,rfl,hown,hb⟩:=hrel;have K2:=aa (ai hown hb);have hsz2:=hb.size;clear hown hb K1;by_cases hlt:j<c
    ·have HO:=ae (((cD q c (q-c+(j-2)):Nat):Int)=(j:Int)) (by rw[HA.out.2 _ (by omega)];omega);obtain⟨z,hz⟩:∃z:Nat,z=q-c+(j-2):=⟨_,rfl⟩;rw[←hz] at K2 HO;have hz2':z≤2048:=(by omega);have HZ:=aa hz;clear hz;go_wp2_with (at_builtin;go_loud (refine wpList_append_own _ rfl (.tmp 24) (.tmp 26) 45 rfl w.heap.size 3 i0 (.int .i64 0) 1 8 underlying45 hi hz0 hz1 hz2 rfl (by decide) _ _ _ rfl (K2.out.1.alloc _) ⟨wr.heap.size,0,none⟩ 1 1 [.int .i64 (j:Int)] rfl rfl (cell_one_new _ _ _) (zl _) (by unfold maxLen;omega) (by omega) (by simp;omega) ?_);intro v1 w9 hown1 aI _);have HW:=ae (w9.ownsRow w.heap.size 3 1 v1 (z+1) ((kX q c (z+1)).map (Value.int .i64))∧Below w.heap.size w w9) (by
      refine⟨?_,(K2.out.2.alloc hsz2 _).grown aI (by simp;omega) (fun r h=>(K2.out.1.lt r h).1)⟩;rw[HS.out,List.map_append,HO.out];exact hown1)
     clear hown1 aI;go_wp2;go_roundw
     case rel=>exact⟨j+1,by omega,by omega,by go_num,by rw[show q-c+(j+1-2)=z+1 by have:=HZ.out;omega];exact HW.out.1,HW.out.2⟩
     case measure=>simp[intOf];omega
    ·have YD:j=c:=(by omega);subst YD;rw[show q-j+(j-2)=q-2 by omega] at K2;go_wp2;go_ret;exact⟨_,rfl,K2.out.1,K2.out.2⟩
theorem GG(y p:Nat)(i:Bool)(hy:y≤4294967295)(hp:p<32):wrap64 ((y:Int)+wrap64 (((if i then 1 else 0)-(eV y p:Int))*wrap64 ((2:Int)^p)))=(nH y p i:Int)∧((if i then(1:Int) else 0)-(eV y p:Int)).natAbs≤1:=by
 have hs:=(wK y p).2;have hb:=oZ y p;have h1:2^p<2^32:=Nat.pow_lt_pow_right (by decide) hp;have h2:((2:Int)^p)=((2^p:Nat):Int):=by simp
 have hc:=sU y p;rw[h2];unfold nH wJ;generalize 2^p=q at*;generalize eX y p=c at*;rcases(show eV y p=0∨eV y p=1 by omega) with h|h<;>rw[h] at hs⊢ <;>cases i<;>unfold wrap64<;>simp at* <;>omega
theorem GH(y p:Nat)(i:Bool)(w:World)(hy:y≤4294967295)(hp:p<32):
 Calls prog 115 #[.int .i64 (y:Int),.int .i64 (p:Int),.int .i64 (if i then 1 else 0)] w fun e w'=>e=.returned (.int .i64 (nH y p i:Nat))∧∃n,w'=w.drewN n:=by
 have HW:=aa (GG y p i hy hp).1;have hbl:=oZ y p;have HB:=aa (Dr y p);generalize eV y p=q at HW HB hbl;cases i
 all_goals
  simp only[if_true,if_false,Bool.false_eq_true] at HW⊢;go_enter func115,ntmps115;go_wp2;go_quiet ((go_at_call 143;exact Calls.quiet_of_same (HB.out _ hy hp)))
  go_wp2;go_ret;exact⟨gz (by first|exact HW.out|(have h:=HW.out;simp at h⊢;exact h)),_,rfl⟩
theorem GI(y p:Nat)(i:Bool)(x:Int)(w:World)(hy:y≤4294967295)(hp:p<32)(hx:x=if i then 1 else 0):
 Calls prog 115 #[.int .i64 (y:Int),.int .i64 (p:Int),.int .i64 x] w fun e w'=>e=.returned (.int .i64 (nH y p i:Nat))∧Below w.heap.size w w':=by
 subst hx;refine(GH y p i w hy hp).mono ?_;rintro e w' ⟨rfl,n,rfl⟩;exact⟨rfl,below_drewN ak n⟩
end
end Go.Proofs.YtpplnhkpcpieoaaGreatDoor
