/- The model's lists of a tree: l03Cut, l03Some -/
import Derived.Test.YtlimollpocagiaaGreatDoorXa17
namespace Go.Proofs.YtlimollpocagiaaGreatDoor
open Go.Proofs.Tryz
open _root_.List (length_take getD)
set_option linter.all false
set_option maxRecDepth 100000
set_option maxHeartbeats 16000000
section
open Go.RowKit
theorem qA(L:List Int)(lo hi:Nat):(dw L lo hi).length≤hi-lo:=by unfold dw;rw[length_take];omega
theorem AU(w:World)(a:Option Addr)(c:Nat)(hc:c≤maxLen):Rd .i64 w (.slice a 0 c) []:=⟨a,c,rfl,by simp,fun h=>absurd rfl h,by simp,hc⟩
theorem mH{k:IntKind}{w:World}{a:Option Addr}{n c:Nat}{zs:List Int}(h:Rd k w (.slice a n c) zs):n=zs.length∧n≤c∧c≤maxLen:=by
 obtain⟨a',c',e,_,_,h3,h4⟩:=h;injection e with e1 e2 e3;subst e1 e2 e3;exact⟨rfl,h3,h4⟩
theorem qB{w:World}{a:Option Addr}{cap:Nat}{L:List Int}(h:Rd .i64 w (.slice a L.length cap) L)(lo hi l2 h2:Nat)(e1:l2=min lo L.length)(e2:h2=min hi L.length)(hlh:lo≤hi):
 ∃a',Rd .i64 w (.slice a' (h2-l2) (cap-l2)) (dw L lo hi)∧∀wx,(Instr.slice 29 (.slice a L.length cap) (some (.int .i64 (l2:Int))) (some (.int .i64 (h2:Int))) none).run prog wx=.ok (.slice a' (h2-l2) (cap-l2)) wx:=by
 obtain⟨i0,hi0,hz0,hz1,hz2⟩:=info_parts eO;obtain⟨_,hc1,hc2⟩:=mH h;refine⟨if cap=l2 then a else a.map (·.add (l2*1)),?_,fun wx=>?_⟩
 ·by_cases hm:l2<h2
  ·have hne:0<L.length:=(by omega);obtain⟨b,off,cp,e,hb,hlc,hcm,hcell⟩:=h.dj hne;injection e with e1' e2' e3;subst e1' e3;have hr:=Rd.kL l2 (h2-l2) h (by omega) (by omega);have e4:dw L lo hi=(L.drop l2).take (h2-l2):=by
    unfold dw;have:l2=lo:=(by omega);rw[this,List.take_eq_take_iff,List.length_drop];omega
   rw[e4,if_neg (by omega),Option.map_some,Nat.mul_one,Addr.add_mid];exact hr
  ·have e4:dw L lo hi=[]:=by
    unfold dw;apply List.eq_nil_of_length_eq_zero;rw[length_take,List.length_drop];omega
   rw[e4,show h2-l2=0 by omega];exact AU _ _ _ (by omega)
 ·rw[run_slice_lh (P:=prog) (w:=wx) 29 _ _ cap (by rw[underlying29];rfl) .i64 .i64 (l2:Int) (h2:Int) (by omega) (by omega) (by omega)];simp[sizeOf,typeInfo,show prog.elem 29=3 by kernel_rfl,hi0,hz1,Result.andThen,sliced]
theorem nR(v:Value)(L:List Int)(lo hi:Nat)(w:World)(h:Rd .i64 w v L)(hlh:lo≤hi)(hhi:hi≤1048576)(hl:L.length≤1048576):
 Calls prog 47 #[v,.int .i64 (lo:Int),.int .i64 (hi:Int)] w fun e w'=>∃a n c,e=.returned (.slice a n c)∧Rd .i64 w (.slice a n c) (dw L lo hi)∧w'=w:=by
 obtain⟨a,cap,rfl⟩:=dZ h;have HH:=aa h;clear h;by_cases g1:(L.length:Int)<(lo:Int)
 ·have g2:(L.length:Int)<(hi:Int):=by omega
  obtain⟨a',hr,hsl⟩:=qB HH.out lo hi L.length L.length (by omega) (by omega) hlh;have HP:=aa hr;clear hr hlh;go_enter func47,ntmps47;go_wp2;go_ret;exact⟨_,_,_,rfl,by have:=HP.out;rwa [Nat.sub_self] at this,rfl⟩
 ·by_cases g2:(L.length:Int)<(hi:Int)
  ·obtain⟨a',hr,hsl⟩:=qB HH.out lo hi lo L.length (by omega) (by omega) hlh;have HP:=aa hr;clear hr hlh;go_enter func47,ntmps47;go_wp2;go_ret;exact⟨_,_,_,rfl,HP.out,rfl⟩
  ·obtain⟨a',hr,hsl⟩:=qB HH.out lo hi lo hi (by omega) (by omega) hlh;have HP:=aa hr;clear hr hlh;go_enter func47,ntmps47;go_wp2;go_ret;exact⟨_,_,_,rfl,HP.out,rfl⟩
theorem nS(w:World)(p:Int):Rd .i64 (w.alloc (.cells #[.int .i64 p] 3)) (.slice (some ⟨w.heap.size,0,none⟩) 1 1) [p]:=by
 refine⟨_,_,rfl,by simp[maxLen],fun _=>⟨w.heap.size,0,rfl,by simp,fun i hi=>?_⟩,by simp,by unfold maxLen;omega⟩;have:i=0:=by simpa using hi
 subst this;exact((af.new w #[.int .i64 p] 3).cell 0).trans rfl
theorem jU{P:Program}(w:World){ops:Array Oper}{rest:List Oper}{o:Oper}{a:Act}{Q:Exit→Act→World→Prop}
 (hg:o.guard=none) (s x:Operand) (t:TypeId) (hop:o.op=Op.call {callee:=Callee.builtin Builtin.append,args:=#[s,x],argTypes:=#[t,t]})
 (base:Nat) (e:TypeId) (i:TypeInfo) (h1:P.underlying t=some (.slice e)) (h2:P.info? e=some i) (h3:i.zero=some (.int .i64 0)) (h4:i.size=1) (h5:i.bytes=8)
 (sv:Value) (n:Nat) (xs:List Int) (hs:a.eval s=sv) (hown:w.ownsRow base e 1 sv n (xs.map (Value.int .i64)))
 (v:Value) (zs:List Int) (hx:a.eval x=v) (hr:Rd .i64 w v zs) (hb:n+zs.length≤1000000) (hbase:base≤w.heap.size)
 (hK:∀a' c' m w',m=n+zs.length→w'.ownsRow base e 1 (.slice a' m c') m ((xs++zs).map (Value.int .i64))→Below base w w'→wpList P ops Q rest (a.put o.dst (.slice a' m c')) w'):
 wpList P ops Q (o::rest) a w:=by
 by_cases hz:0<zs.length
 ·obtain⟨bd,off,cp,rfl,hbw,_,_,hcell⟩:=hr.dj hz;refine wpList_append_own_at _ hg s x t hop base e i (.int .i64 0) 1 8 h1 h2 h3 h4 h5 rfl (by decide) sv n _ hs hown ⟨bd,off,none⟩ zs.length cp (zs.map (Value.int .i64)) hx (by simp) (fun j u hj=>?_) (ints_oneCell _ _) (by unfold maxLen;omega) (by omega) hbase ?_
  ·have hjl:j<zs.length:=by
    rcases Nat.lt_or_ge j zs.length with h|h
    ·exact h
    ·rw[List.getElem?_eq_none (by simpa using h)] at hj;cases hj
   rw[Addr.add_mid,hcell j hjl];rw[List.getElem?_map,List.getElem?_eq_getElem hjl] at hj;simp at hj;rw[←hj];simp[getD,hjl]
  ·intro v' w' r1 r2 _ _;obtain⟨a',c',rfl⟩:=bK r1;exact hK a' c' _ w' rfl (by rw[List.map_append];exact r1) (ak.grown r2 hbase (fun r e=>(hown.lt r e).1))
 ·have hz0:zs=[]:=List.eq_nil_of_length_eq_zero (by omega);subst hz0;obtain⟨a3,c3,rfl⟩:∃a3 c3,v=.slice a3 0 c3:=by obtain⟨a3,c3,e3,_⟩:=hr;exact⟨a3,c3,e3⟩
  refine uw hg s x t hop base e i 1 h1 h2 _ n _ hs hown a3 c3 hx ?_;obtain⟨a',c',rfl⟩:=bK hown;exact hK a' c' n w (by simp) (by simpa using hown) ak
theorem nT(L:List Int)(k:Nat)(h:k<L.length):dY (L.take (k+1))=dY (L.take k)++(if L.getD k 0=0 then [] else [L.getD k 0]):=by
 rw[List.take_succ_eq_append_getElem h,nh,kY];simp[getD,h]
theorem AV(L:List Int):(dY L).length≤L.length:=List.length_filter_le _ _
theorem AW(v:Value)(L:List Int)(w:World)(h:Rd .i64 w v L)(hl:L.length≤100000):
 Calls prog 48 #[v] w fun e w'=>∃v',e=.returned v'∧w'.ownsRow w.heap.size 3 1 v' (dY L).length ((dY L).map (Value.int .i64))∧Below w.heap.size w w':=by
 obtain⟨i0,hi,hz0,hz1,hz2⟩:=info_parts eO;obtain⟨a,cap,rfl⟩:=dZ h;have HR:=aa h;have HT:=aa (ag hi (ag hz0 (ag hz1 hz2)));clear h hi hz0 hz1 hz2;go_enter func48,ntmps48;go_upto_region 2 with fail;obtain⟨W5,hW5⟩:∃W5,W5=w.alloc (.cells #[] 3):=⟨_,rfl⟩;rw[←hW5];have B5:=ae (Below w.heap.size w W5) (by rw[hW5];exact ak.alloc aj _);have O5:=ae (W5.ownsRow w.heap.size 3 1 (.slice (some ⟨w.heap.size,0,none⟩) 0 0) 0 []) (by rw[hW5];exact gN w _ _);clear hW5;go_wp2;go_loopw [9,3] (fun kv ou wr=>∃(i M:Nat) (oa:Option Addr) (oc:Nat),M=(dY (L.take i)).length∧i≤L.length∧kv=.int .i64 (i:Int)∧ou=.slice oa M oc∧wr.ownsRow w.heap.size 3 1 ou M ((dY (L.take i)).map (Value.int .i64))∧Below w.heap.size w wr) (fun kv _ _=>L.length-(intOf kv).toNat)
 case atStart=>exact⟨0,0,_,_,rfl,Nat.zero_le _,rfl,rfl,O5.out,B5.out⟩
 case round=>
  obtain⟨i,M,oa,oc,hM,hi1,rfl,rfl,ho,hb⟩:=hrel;clear O5 B5;have hM2:M≤i:=by rw[hM];refine aN (AV _) ?_;rw[length_take];omega
  have HI:=aa (ag ho (ag hM hb));clear ho hM hb;by_cases hi2:i<L.length
  ·obtain⟨b,off,cp,e,_,_,_,hcell⟩:=(HR.out.below HI.out.2.2).dj (by omega);injection e with e1 e2 e3;subst e1 e3;have cx:=hcell i hi2;obtain⟨x,hx⟩:∃x,x=L.getD i 0:=⟨_,rfl⟩;rw[←hx] at cx;have HX:=aa hx;have hiI:(i:Int)<(L.length:Int):=(by omega);clear hcell hx e2;by_cases hx0:x=0
   ·have hx1:(x !=0)=false:=(by simp[hx0]);go_wp2;go_roundw
    case rel=>exact⟨i+1,M,oa,oc,by rw[nT L i hi2, ←HX.out,if_pos hx0,List.append_nil];exact HI.out.2.1,by omega,by go_num,rfl,by rw[nT L i hi2, ←HX.out,if_pos hx0,List.append_nil];exact HI.out.1,HI.out.2.2⟩
    case measure=>simp[intOf];omega
   ·have hx1:(x !=0)=true:=(by simp[hx0]);have HBs:=aa HI.out.2.2.size;go_wp2_with (first
     |(at_builtin;refine jU _ rfl (.tmp 15) (.tmp 17) 29 rfl w.heap.size 3 i0 underlying29 HT.out.1 HT.out.2.1 HT.out.2.2.1 HT.out.2.2.2 (.slice oa M oc) M _ rfl (HI.out.1.alloc _) _ [x] rfl (nS _ _) (by simp;omega) (by have:=HBs.out;simp;omega) ?_;intro va8 vc8 m8 w8 e8 o8 b8;have H8:=aa (ag o8 b8);simp only[List.length_cons,List.length_nil] at e8;have E8:=aa e8;clear o8 b8 e8))
    go_roundw
    case rel=>exact⟨i+1,m8,va8,vc8,by rw[nT L i hi2, ←HX.out,if_neg hx0,List.length_append];have:=HI.out.2.1;have:=E8.out;simp;omega,by omega,by go_num,rfl,by rw[nT L i hi2, ←HX.out,if_neg hx0];exact H8.out.1,(HI.out.2.2.alloc (HBs.out) _).trans H8.out.2⟩
    case measure=>simp[intOf];omega
  ·have hi3:i=L.length:=(by omega);subst hi3;clear hi2;go_wp2;go_ret;have e:=HI.out.2.1;have o:=HI.out.1;rw[List.take_length] at e o;refine⟨_,rfl,?_,HI.out.2.2⟩;rw[←e];exact o
theorem AX(b off l r:Nat)(sv:Value)(L:List Int)(w:World)(hl:l<3)(hr:r≤100000)(hb:b<w.heap.size)(hc:w.cell? ⟨b,off+l,none⟩=some sv)(hR:Rd .i64 w sv L):
 Calls prog 71 #[.pointer (some ⟨b,off,none⟩),dD l r] w fun e w'=>e=.returned (.int .i64 (L.getD r 0))∧Below w.heap.size w w':=by
 obtain⟨sa,sc,rfl⟩:=dZ hR;obtain⟨_,hc1,hc2⟩:=mH hR;have hcm:sc≤9223372036854775807:=by unfold maxLen at hc2;omega
 have HB0:=ae (Below w.heap.size w (w.alloc (.cells #[.int .i64 (l:Int),.int .i64 (r:Int)] 123))) (ak.alloc aj _);have K0:=aa (af.new w #[.int .i64 (l:Int),.int .i64 (r:Int)] 123);have HS:=ae (((w.alloc (.cells #[.int .i64 (l:Int),.int .i64 (r:Int)] 123)).cell? ⟨w.heap.size,0,none⟩=some (.int .i64 (l:Int))∧(w.alloc (.cells #[.int .i64 (l:Int),.int .i64 (r:Int)] 123)).cell? ⟨w.heap.size,1,none⟩=some (.int .i64 (r:Int))∧(w.alloc (.cells #[.int .i64 (l:Int),.int .i64 (r:Int)] 123)).cell? ⟨b,off+l,none⟩=some (.slice sa L.length sc))) (⟨(K0.out.cell 0).trans rfl,(K0.out.cell 1).trans rfl,(HB0.out.cell (p:=⟨b,off+l,none⟩) hb).trans hc⟩);have HRd:=aa (hR.below HB0.out);have hl3:(l:Int)<3:=by omega
 obtain⟨x,hx⟩:∃x,x=L.getD r 0:=⟨_,rfl⟩;rw[←hx];have HX:=aa hx;clear hc hR hb hc1 hc2 hx;go_enter func71,ntmps71;go_upto_region 1 with fail;generalize hW0:w.alloc (.cells #[.int .i64 (l:Int),.int .i64 (r:Int)] 123)=W0 at HB0 HS HRd;clear hW0 K0;refine cr (fun w'=>w'.cell? ⟨w.heap.size,0,none⟩=some (.int .i64 (l:Int))∧w'.cell? ⟨w.heap.size,1,none⟩=some (.int .i64 (r:Int))∧w'.cell? ⟨b,off+l,none⟩=some (.slice sa L.length sc)) HS.out fun hH=>?_;refine ah 0 (.pointer (some ⟨w.heap.size,1,none⟩)) rfl hH ?_ (aH fun w' hw'=>by obtain⟨d0,d1,d2⟩:=hw';go_simp);refine ah 1 (.int .i64 (r:Int)) rfl hH ?_ (aH fun w' hw'=>by obtain⟨d0,d1,d2⟩:=hw';go_simp);refine ah 2 (.pointer (some ⟨b,off,none⟩)) rfl hH ?_ (aH fun w' hw'=>by obtain⟨d0,d1,d2⟩:=hw';go_simp);refine ah 3 (.pointer (some ⟨w.heap.size,0,none⟩)) rfl hH ?_ (aH fun w' hw'=>by obtain⟨d0,d1,d2⟩:=hw';go_simp);refine ah 4 (.int .i64 (l:Int)) rfl hH ?_ (aH fun w' hw'=>by obtain⟨d0,d1,d2⟩:=hw';go_simp);refine ah 5 (.pointer (some ⟨b,off,none⟩)) rfl hH ?_ (aH fun w' hw'=>by obtain⟨d0,d1,d2⟩:=hw';go_simp);refine ah 6 (.pointer (some ⟨b,off+l,none⟩)) rfl hH ?_ (aH fun w' hw'=>by obtain⟨d0,d1,d2⟩:=hw';go_simp);refine ah 7 (.slice sa L.length sc) rfl hH ?_ (aH fun w' hw'=>by obtain⟨d0,d1,d2⟩:=hw';go_simp);refine ah 8 (.int .i64 (L.length:Int)) rfl hH ?_ (aH fun w' hw'=>by obtain⟨d0,d1,d2⟩:=hw';go_simp);refine ah 9 (.bool (decide ((L.length:Int)≤(r:Int)))) rfl hH ?_ (aH fun w' hw'=>by obtain⟨d0,d1,d2⟩:=hw';go_simp);refine bz ?_;clear hH;by_cases hlr:(L.length:Int)≤(r:Int)
 ·have HG:=ae (x=0) (by rw[HX.out,getD,List.getElem?_eq_none (by omega)];rfl);go_wp2;go_ret;exact⟨by rw[HG.out];rfl,HB0.out.drew⟩
 ·obtain⟨eb,eo,ec,e,_,_,_,hcell⟩:=HRd.out.dj (by omega);injection e with e1 e2 e3;subst e1;have hcx:=hcell r (by omega);rw[←HX.out] at hcx;have hrI:(r:Int)<(L.length:Int):=by omega
  have HS2:=aa (ag HS.out.1 (ag HS.out.2.1 (ag HS.out.2.2 hcx)));clear hcell hcx e2 e3;go_upto_region 3 with fail;refine cr (fun w'=>w'.cell? ⟨w.heap.size,0,none⟩=some (.int .i64 (l:Int))∧w'.cell? ⟨w.heap.size,1,none⟩=some (.int .i64 (r:Int))∧w'.cell? ⟨b,off+l,none⟩=some (.slice (some ⟨eb,eo,none⟩) L.length sc)∧w'.cell? ⟨eb,eo+r,none⟩=some (.int .i64 x)) HS2.out fun hH=>?_;refine ah 0 (.pointer (some ⟨b,off,none⟩)) rfl hH ?_ (aH fun w' hw'=>by obtain⟨d0,d1,d2,d3⟩:=hw';go_simp);refine ah 1 (.pointer (some ⟨w.heap.size,0,none⟩)) rfl hH ?_ (aH fun w' hw'=>by obtain⟨d0,d1,d2,d3⟩:=hw';go_simp);refine ah 2 (.int .i64 (l:Int)) rfl hH ?_ (aH fun w' hw'=>by obtain⟨d0,d1,d2,d3⟩:=hw';go_simp);refine ah 3 (.pointer (some ⟨b,off,none⟩)) rfl hH ?_ (aH fun w' hw'=>by obtain⟨d0,d1,d2,d3⟩:=hw';go_simp);refine ah 4 (.pointer (some ⟨b,off+l,none⟩)) rfl hH ?_ (aH fun w' hw'=>by obtain⟨d0,d1,d2,d3⟩:=hw';go_simp);refine ah 5 (.slice (some ⟨eb,eo,none⟩) L.length sc) rfl hH ?_ (aH fun w' hw'=>by obtain⟨d0,d1,d2,d3⟩:=hw';go_simp);refine ah 6 (.pointer (some ⟨w.heap.size,1,none⟩)) rfl hH ?_ (aH fun w' hw'=>by obtain⟨d0,d1,d2,d3⟩:=hw';go_simp);refine ah 7 (.int .i64 (r:Int)) rfl hH ?_ (aH fun w' hw'=>by obtain⟨d0,d1,d2,d3⟩:=hw';go_simp);refine ah 8 (.pointer (some ⟨eb,eo+r,none⟩)) rfl hH ?_ (aH fun w' hw'=>by obtain⟨d0,d1,d2,d3⟩:=hw';go_simp);refine ah 9 (.int .i64 x) rfl hH ?_ (aH fun w' hw'=>by obtain⟨d0,d1,d2,d3⟩:=hw';go_simp);refine ah 10 (.int .i64 x) rfl hH ?_ (aH fun w' hw'=>by obtain⟨d0,d1,d2,d3⟩:=hw';go_simp);refine bz ?_;clear hH;go_wp2;go_ret;exact⟨rfl,HB0.out.drew.drew⟩
end
end Go.Proofs.YtlimollpocagiaaGreatDoor
