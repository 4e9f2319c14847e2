/- The model's lists of a tree: l03Cut, l03Some -/
import Derived.Test.YtbhpealglhkodaaGreatDoorXc18
namespace Go.Proofs.YtbhpealglhkodaaGreatDoor
set_option linter.all false
set_option maxRecDepth 100000
set_option maxHeartbeats 16000000
section
open Go.RowKit
theorem cutM_len(L:List Int)(lo hi:Nat):(cutM L lo hi).length≤hi-lo:=by unfold cutM;rw[List.length_take];omega
theorem rd_emptyI(w:World)(a:Option Addr)(c:Nat)(hc:c≤maxLen):Rd .i64 w (.slice a 0 c) []:=⟨a,c,rfl,by simp,fun h=>absurd rfl h,by simp,hc⟩
theorem rd_capI{k:IntKind}{w:World}{a:Option Addr}{n c:Nat}{zs:List Int}(h:Rd k w (.slice a n c) zs):n=zs.length∧n≤c∧c≤maxLen:=by
 obtain⟨a',c',e,_,_,h3,h4⟩:=h;injection e with e1 e2 e3;subst e1 e2 e3;exact⟨rfl,h3,h4⟩
theorem cut_res{w:World}{a:Option Addr}{cap:Nat}{L:List Int}(h:Rd .i64 w (.slice a L.length cap) L)(lo hi l2 h2:Nat)(e1:l2=min lo L.length)(e2:h2=min hi L.length)(hlh:lo≤hi):
 ∃a',Rd .i64 w (.slice a' (h2-l2) (cap-l2)) (cutM L lo hi)∧∀wx,(Instr.slice 26 (.slice a L.length cap) (some (.int .i64 (l2:Int))) (some (.int .i64 (h2:Int))) none).run Tryz.prog wx=.ok (.slice a' (h2-l2) (cap-l2)) wx:=by
 obtain⟨i0,hi0,hz0,hz1,hz2⟩:=info_parts infoI64;obtain⟨_,hc1,hc2⟩:=rd_capI h;refine⟨if cap=l2 then a else a.map (·.add (l2*1)),?_,fun wx=>?_⟩
 ·by_cases hm:l2<h2
  ·have hne:0<L.length:=(by omega);obtain⟨b,off,cp,e,hb,hlc,hcm,hcell⟩:=h.partsC hne;injection e with e1' e2' e3;subst e1' e3;have hr:=Rd.cut2 l2 (h2-l2) h (by omega) (by omega);have e4:cutM L lo hi=(L.drop l2).take (h2-l2):=by
    unfold cutM;have:l2=lo:=(by omega);rw[this,List.take_eq_take_iff,List.length_drop];omega
   rw[e4,if_neg (by omega),Option.map_some,Nat.mul_one,Addr.add_mid];exact hr
  ·have e4:cutM L lo hi=[]:=by
    unfold cutM;apply List.eq_nil_of_length_eq_zero;rw[List.length_take,List.length_drop];omega
   rw[e4,show h2-l2=0 by omega];exact rd_emptyI _ _ _ (by omega)
 ·rw[run_slice_lh (P:=Tryz.prog) (w:=wx) 26 _ _ cap (by rw[Tryz.underlying26];rfl) .i64 .i64 (l2:Int) (h2:Int) (by omega) (by omega) (by omega)];simp[sizeOf,typeInfo,show Tryz.prog.elem 26=3 from by kernel_rfl,hi0,hz1,Result.andThen,sliced]
theorem cut_any(v:Value)(L:List Int)(lo hi:Nat)(w:World)(h:Rd .i64 w v L)(hlh:lo≤hi)(hhi:hi≤1048576)(hl:L.length≤1048576):
 Calls Tryz.prog 46 #[v,.int .i64 (lo:Int),.int .i64 (hi:Int)] w fun e w'=>∃a n c,e=.returned (.slice a n c)∧Rd .i64 w (.slice a n c) (cutM L lo hi)∧w'=w:=by
 obtain⟨a,cap,rfl⟩:=rd_shapeT h;have HH:=hide h;clear h;by_cases g1:(L.length:Int)<(lo:Int)
 ·have g2:(L.length:Int)<(hi:Int):=by omega
  obtain⟨a',hr,hsl⟩:=cut_res HH.out lo hi L.length L.length (by omega) (by omega) hlh;have HP:=hide hr;clear hr hlh;go_enter Tryz.func46,Tryz.ntmps46;go_wp2;go_ret;exact⟨_,_,_,rfl,by have:=HP.out;rwa [Nat.sub_self] at this,rfl⟩
 ·by_cases g2:(L.length:Int)<(hi:Int)
  ·obtain⟨a',hr,hsl⟩:=cut_res HH.out lo hi lo L.length (by omega) (by omega) hlh;have HP:=hide hr;clear hr hlh;go_enter Tryz.func46,Tryz.ntmps46;go_wp2;go_ret;exact⟨_,_,_,rfl,HP.out,rfl⟩
  ·obtain⟨a',hr,hsl⟩:=cut_res HH.out lo hi lo hi (by omega) (by omega) hlh;have HP:=hide hr;clear hr hlh;go_enter Tryz.func46,Tryz.ntmps46;go_wp2;go_ret;exact⟨_,_,_,rfl,HP.out,rfl⟩
theorem rd_oneI(w:World)(p:Int):Rd .i64 (w.alloc (.cells #[.int .i64 p] 3)) (.slice (some ⟨w.heap.size,0,none⟩) 1 1) [p]:=by
 refine⟨_,_,rfl,by simp[maxLen],fun _=>⟨w.heap.size,0,rfl,by simp,fun i hi=>?_⟩,by simp,by unfold maxLen;omega⟩;have:i=0:=by simpa using hi
 subst this;exact((Blk.new w #[.int .i64 p] 3).cell 0).trans rfl
theorem wpList_append_rdI{P:Program}(w:World){ops:Array Oper}{rest:List Oper}{o:Oper}{a:Act}{Q:Exit→Act→World→Prop}
 (hg:o.guard=none) (s x:Operand) (t:TypeId) (hop:o.op=Op.call {callee:=Callee.builtin Builtin.append,args:=#[s,x],argTypes:=#[t,t]})
 (base:Nat) (e:TypeId) (i:TypeInfo) (h1:P.underlying t=some (.slice e)) (h2:P.info? e=some i) (h3:i.zero=some (.int .i64 0)) (h4:i.size=1) (h5:i.bytes=8)
 (sv:Value) (n:Nat) (xs:List Int) (hs:a.eval s=sv) (hown:w.ownsRow base e 1 sv n (xs.map (Value.int .i64)))
 (v:Value) (zs:List Int) (hx:a.eval x=v) (hr:Rd .i64 w v zs) (hb:n+zs.length≤1000000) (hbase:base≤w.heap.size)
 (hK:∀a' c' m w',m=n+zs.length→w'.ownsRow base e 1 (.slice a' m c') m ((xs++zs).map (Value.int .i64))→Below base w w'→wpList P ops Q rest (a.put o.dst (.slice a' m c')) w'):
 wpList P ops Q (o::rest) a w:=by
 by_cases hz:0<zs.length
 ·obtain⟨bd,off,cp,rfl,hbw,_,_,hcell⟩:=hr.partsC hz;refine wpList_append_own_at _ hg s x t hop base e i (.int .i64 0) 1 8 h1 h2 h3 h4 h5 rfl (by decide) sv n _ hs hown ⟨bd,off,none⟩ zs.length cp (zs.map (Value.int .i64)) hx (by simp) (fun j u hj=>?_) (ints_oneCell _ _) (by unfold maxLen;omega) (by omega) hbase ?_
  ·have hjl:j<zs.length:=by
    rcases Nat.lt_or_ge j zs.length with h|h
    ·exact h
    ·rw[List.getElem?_eq_none (by simpa using h)] at hj;cases hj
   rw[Addr.add_mid,hcell j hjl];rw[List.getElem?_map,List.getElem?_eq_getElem hjl] at hj;simp at hj;rw[←hj];simp[List.getD,hjl]
  ·intro v' w' r1 r2 _ _;obtain⟨a',c',rfl⟩:=own_shapeT r1;exact hK a' c' _ w' rfl (by rw[List.map_append];exact r1) ((Below.refl _ _).grown r2 hbase (fun r e=>(hown.lt r e).1))
 ·have hz0:zs=[]:=List.eq_nil_of_length_eq_zero (by omega);subst hz0;obtain⟨a3,c3,rfl⟩:∃a3 c3,v=.slice a3 0 c3:=by obtain⟨a3,c3,e3,_⟩:=hr;exact⟨a3,c3,e3⟩
  refine wpList_append_emptyM hg s x t hop base e i 1 h1 h2 _ n _ hs hown a3 c3 hx ?_;obtain⟨a',c',rfl⟩:=own_shapeT hown;exact hK a' c' n w (by simp) (by simpa using hown) (Below.refl _ _)
theorem some_snoc(L:List Int)(k:Nat)(h:k<L.length):someM (L.take (k+1))=someM (L.take k)++(if L.getD k 0=0 then [] else [L.getD k 0]):=by
 rw[List.take_succ_eq_append_getElem h,some_append,some_one];simp[List.getD,h]
theorem some_len(L:List Int):(someM L).length≤L.length:=List.length_filter_le _ _
theorem some_any(v:Value)(L:List Int)(w:World)(h:Rd .i64 w v L)(hl:L.length≤100000):
 Calls Tryz.prog 47 #[v] w fun e w'=>∃v',e=.returned v'∧w'.ownsRow w.heap.size 3 1 v' (someM L).length ((someM L).map (Value.int .i64))∧Below w.heap.size w w':=by
 obtain⟨i0,hi,hz0,hz1,hz2⟩:=info_parts infoI64;obtain⟨a,cap,rfl⟩:=rd_shapeT h;have HR:=hide h;have HT:=hide (And.intro hi (And.intro hz0 (And.intro hz1 hz2)));clear h hi hz0 hz1 hz2;go_enter Tryz.func47,Tryz.ntmps47;go_upto_region 2 with fail;obtain⟨W5,hW5⟩:∃W5,W5=w.alloc (.cells #[] 3):=⟨_,rfl⟩;rw[←hW5];have B5:=hide (show Below w.heap.size w W5 from by rw[hW5];exact(Below.refl _ _).alloc (Nat.le_refl _) _);have O5:=hide (show W5.ownsRow w.heap.size 3 1 (.slice (some ⟨w.heap.size,0,none⟩) 0 0) 0 [] from by rw[hW5];exact own_emptyM w _ _);clear hW5;go_wp2;go_loopw [9,3] (fun kv ou wr=>∃(i M:Nat) (oa:Option Addr) (oc:Nat),M=(someM (L.take i)).length∧i≤L.length∧kv=.int .i64 (i:Int)∧ou=.slice oa M oc∧wr.ownsRow w.heap.size 3 1 ou M ((someM (L.take i)).map (Value.int .i64))∧Below w.heap.size w wr) (fun kv _ _=>L.length-(intOf kv).toNat)
 case atStart=>exact⟨0,0,_,_,rfl,Nat.zero_le _,rfl,rfl,O5.out,B5.out⟩
 case round=>
  obtain⟨i,M,oa,oc,hM,hi1,rfl,rfl,ho,hb⟩:=hrel;clear O5 B5;have hM2:M≤i:=by rw[hM];refine Nat.le_trans (some_len _) ?_;rw[List.length_take];omega
  have HI:=hide (And.intro ho (And.intro hM hb));clear ho hM hb;by_cases hi2:i<L.length
  ·obtain⟨b,off,cp,e,_,_,_,hcell⟩:=(HR.out.below HI.out.2.2).partsC (by omega);injection e with e1 e2 e3;subst e1 e3;have cx:=hcell i hi2;obtain⟨x,hx⟩:∃x,x=L.getD i 0:=⟨_,rfl⟩;rw[←hx] at cx;have HX:=hide hx;have hiI:(i:Int)<(L.length:Int):=(by omega);clear hcell hx e2;by_cases hx0:x=0
   ·have hx1:(x !=0)=false:=(by simp[hx0]);go_wp2;go_roundw
    case rel=>exact⟨i+1,M,oa,oc,by rw[some_snoc L i hi2, ←HX.out,if_pos hx0,List.append_nil];exact HI.out.2.1,by omega,by go_num,rfl,by rw[some_snoc L i hi2, ←HX.out,if_pos hx0,List.append_nil];exact HI.out.1,HI.out.2.2⟩
    case measure=>simp[intOf];omega
   ·have hx1:(x !=0)=true:=(by simp[hx0]);have HBs:=hide HI.out.2.2.size;go_wp2_with (first
     |(at_builtin;refine wpList_append_rdI _ rfl (.tmp 15) (.tmp 17) 26 rfl w.heap.size 3 i0 Tryz.underlying26 HT.out.1 HT.out.2.1 HT.out.2.2.1 HT.out.2.2.2 (.slice oa M oc) M _ rfl (HI.out.1.alloc _) _ [x] rfl (rd_oneI _ _) (by simp;omega) (by have:=HBs.out;simp;omega) ?_;intro va8 vc8 m8 w8 e8 o8 b8;have H8:=hide (And.intro o8 b8);simp only[List.length_cons,List.length_nil] at e8;have E8:=hide e8;clear o8 b8 e8))
    go_roundw
    case rel=>exact⟨i+1,m8,va8,vc8,by rw[some_snoc L i hi2, ←HX.out,if_neg hx0,List.length_append];have:=HI.out.2.1;have:=E8.out;simp;omega,by omega,by go_num,rfl,by rw[some_snoc L i hi2, ←HX.out,if_neg hx0];exact H8.out.1,(HI.out.2.2.alloc (HBs.out) _).trans H8.out.2⟩
    case measure=>simp[intOf];omega
  ·have hi3:i=L.length:=(by omega);subst hi3;clear hi2;go_wp2;go_ret;have e:=HI.out.2.1;have o:=HI.out.1;rw[List.take_length] at e o;refine⟨_,rfl,?_,HI.out.2.2⟩;rw[←e];exact o
end
section
open Go.RowKit
open Classical in
noncomputable def mbB (zs:List Int) (s:Int) (ds:List Int) (p q:Int):List Int:=if faultT zs s ds p q=0∧apartP ((s.toNat+511)/512) (zs.length/512) (wrdP zs) (fun i=>ds.getD i 0) p q then someM (allM ((s.toNat+511)/512) (wrdP zs) (fun i=>ds.getD i 0) p q) else []
theorem tbB_same{zs:List Int}{s:Int}{ds:List Int}{p q:Int}(hd:ds.length=12):tbB zs s ds p q=mbB zs s ds p q:=by
 unfold tbB mbB;rw[fault_ok];cases hok:okR zs s ds p q with
 |false=>simp
 |true=>
  have hr:rightR s ds p q=true:=by unfold okR at hok;rw[Bool.and_eq_true] at hok;exact hok.2
  rcases ZR_two hd hok with⟨h1,h2⟩|⟨h1,h2⟩
  ·rw[if_pos ⟨rfl,by rw[h2]⟩,if_pos ⟨by simp,h1⟩,h2, ←listR_nums (right_rootP hd hr)];unfold numX upX;rw[List.map_map];rfl
  ·rw[if_neg (by rw[h2];simp),if_neg (fun h=>h1 h.2)]
def secL(L:List Int)(f:Nat→Int)(k:Nat):List Int:=(List.range k).flatMap (fun j=>f j::cutM L (140+128*j) (268+128*j))
theorem secL_succ(L:List Int)(f:Nat→Int)(k:Nat):secL L f (k+1)=secL L f k++[f k]++cutM L (140+128*k) (268+128*k):=by
 unfold secL;rw[List.range_succ,List.flatMap_append];simp
theorem specTB_any(img:Value)(zs:List Int)(s:Int)(ds:List Int)(p q:Int)(w:World)(h:Rd .u8 w img zs)(h1:zs.length≤1048576)(hbd:∀z∈zs,0≤z∧z<256)(hd:ds.length=12):
 Calls Tryz.prog 25 #[img,.agg (cellsI (rootI s ds p q))] w fun e w'=>∃v,e=.returned (.tuple #[v,.int .i64 (mrC zs s ds p q)])∧w'.ownsRow w.heap.size 3 1 v (mbB zs s ds p q).length ((mbB zs s ds p q).map (Value.int .i64))∧Below w.heap.size w w':=by
 obtain⟨i0,hi,hz0,hz1,hz2⟩:=info_parts infoI64;have HT:=hide (And.intro hi (And.intro hz0 (And.intro hz1 hz2)));clear hi hz0 hz1 hz2;have HR:=hide (And.intro h (And.intro hbd hd));have HZ:=hide (show(cellsI (rootI s ds p q)).size=15 from by rw[cellsI_size];exact rootI_len s ds p q hd);obtain⟨sa,sc,rfl⟩:=rd_shapeT h;clear h hbd hd;have HB0:=hide (show Below w.heap.size w (w.alloc (.cells (cellsI (rootI s ds p q)) 27)) from(Below.refl _ _).alloc (Nat.le_refl _) _);have K0:=hide (Blk.new w (cellsI (rootI s ds p q)) 27);generalize hW0:w.alloc (.cells (cellsI (rootI s ds p q)) 27)=W0 at HB0 K0;have HW0:=hide hW0;clear hW0;rcases fault_two zs s ds p q with hf|hf
 ·obtain⟨hs0,hs1⟩:=fault_right hf;obtain⟨sz,rfl⟩:∃sz:Nat,s=(sz:Int):=⟨s.toNat,by omega⟩;have HF:=hide hf;clear hf hs0;obtain⟨cnt,hcnt⟩:∃cnt,cnt=(sz+511)/512:=⟨_,rfl⟩;have HCn:=hide hcnt;have hcn:cnt≤512:=by omega
  clear hcnt;go_enter Tryz.func25,Tryz.ntmps25;go_upto_region 1 with fail;rw[HW0.out];go_upto_region 4 with(first
   |(refine wpList_load_row rfl 27 _ rfl w.heap.size rfl 27 (cellsI (rootI (sz:Int) ds p q)) (0,0) _ K0.out Tryz.underlying27 rfl (by rw[HZ.out];exact info15) ?_)
   |(go_at_call 31;refine(fault3_any _ zs (sz:Int) ds p q _ (HR.out.1.below HB0.out) h1 HR.out.2.2).mono ?_;rintro e w2 ⟨rfl,b2⟩;rw[HF.out];have H2:=hide b2;have K2:=hide (K0.out.below b2 K0.out.lt);have BW2:=hide (HB0.out.trans (b2.mono HB0.out.size));clear b2))
  go_wp2_with (first
   |(refine wpList_load_row rfl 27 _ rfl w.heap.size rfl 27 (cellsI (rootI (sz:Int) ds p q)) (0,0) _ K2.out Tryz.underlying27 rfl (by rw[HZ.out];exact info15) ?_)
   |(go_at_call 45;fail))
  refine(apart_any _ zs sz ds p q _ cnt (HR.out.1.below BW2.out) h1 HR.out.2.1 HR.out.2.2 (by omega) HCn.out).mono ?_;rintro e w3 ⟨(⟨hap,dv,iv,ov,sv,wv,rfl,hone,o3,o3s,_⟩|⟨hnap,rfl⟩),b3⟩
  ·have BW3:=hide (BW2.out.trans (b3.mono BW2.out.size));obtain⟨da,dc,rfl⟩:=own_shapeT o3;obtain⟨sa2,sc2,rfl⟩:=own_shapeT o3s;have O3:=hide (And.intro (Rd.own (k:=.i64) o3) (Rd.own (k:=.i64) o3s));have HAp:=hide hap;have HOne:=hide hone;clear hap o3 o3s b3 hone;obtain⟨T,hT⟩:∃T,T=treeC (.slice da cnt dc) p q iv ov (.slice sa2 (secN cnt) sc2) wv true:=⟨_,rfl⟩;have HT0:=hide (show T[0]?=some (.slice da cnt dc)∧T[1]?=some (.int .i64 p)∧T[2]?=some (.int .i64 q)∧T[5]?=some (.slice sa2 (secN cnt) sc2)∧T[7]?=some (.bool true)∧T.size=8 from by rw[hT];exact⟨rfl,rfl,rfl,rfl,rfl,rfl⟩);rw[←hT] at HOne⊢;clear hT;go_upto_region 5 with(first
    |(refine wpList_store_row rfl 93 _ _ rfl w3.heap.size T rfl rfl 93 _ (Blk.new w3 _ _) (by rw[HT0.out.2.2.2.2.2];exact infoTr8) (by rw[HT0.out.2.2.2.2.2];rfl) HOne.out ?_))
   generalize hW4:World.setRow _ w3.heap.size T=W4;have K4:=hide (show Blk W4 w3.heap.size T 93 from by rw[←hW4];exact(Blk.new w3 _ _).row _);have B4:=hide (show Below w3.heap.size w3 W4 from by rw[←hW4];exact below_setRow ((Below.refl _ _).alloc (Nat.le_refl _) _) (Nat.le_refl _) _);clear hW4;obtain⟨N,hN⟩:∃N,N=secN cnt:=⟨_,rfl⟩;have hN2:N≤128:=(by rw[hN];unfold secN;omega);obtain⟨L,hL⟩:∃L,L=(List.range cnt).map (datP (wrdP zs) (fun i=>ds.getD i 0) p q):=⟨_,rfl⟩;obtain⟨f,hf⟩:∃f,f=hwP (wrdP zs) q:=⟨_,rfl⟩;have hLl:L.length=cnt:=(by rw[hL];simp);have HAll:=hide (show allM cnt (wrdP zs) (fun i=>ds.getD i 0) p q=cutM L 0 12++[p]++cutM L 12 140++[q]++secL L f N from by rw[hL,hf,hN];rfl);have RD:=hide (show Rd .i64 W4 (.slice da cnt dc) L∧Rd .i64 W4 (.slice sa2 N sc2) ((List.range N).map f) from by rw[hL,hN,hf];exact⟨O3.out.1.below B4.out,O3.out.2.below B4.out⟩);have BW4:=hide (BW3.out.trans (B4.out.mono BW3.out.size));have HC4:=hide (show ∀W',Below W4.heap.size W4 W'→W'.cell? ⟨w3.heap.size,0,none⟩=some (.slice da cnt dc)∧W'.cell? ⟨w3.heap.size,1,none⟩=some (.int .i64 p)∧W'.cell? ⟨w3.heap.size,2,none⟩=some (.int .i64 q)∧W'.cell? ⟨w3.heap.size,5,none⟩=some (.slice sa2 N sc2) from fun W' hb=>by
    have k:=K4.out.below hb K4.out.lt;rw[hN];exact⟨(k.cell 0).trans HT0.out.1,(k.cell 1).trans HT0.out.2.1,(k.cell 2).trans HT0.out.2.2.1,(k.cell 5).trans HT0.out.2.2.2.1⟩)
   have c7:=(K4.out.cell 7).trans HT0.out.2.2.2.2.1;have hcd:cnt≤dc∧N≤sc2:=⟨(rd_capI RD.out.1).2.1,(rd_capI RD.out.2).2.1⟩;clear hN hL hf HT0 HOne;have hc5:=HC4.out (W4.alloc (.cells #[] 3)) ((Below.refl _ _).alloc (Nat.le_refl _) _);have c5:=hc5.1;clear hc5;have B5:=hide (show Below W4.heap.size W4 (W4.alloc (.cells #[] 3)) from(Below.refl _ _).alloc (Nat.le_refl _) _);have hl1:=cutM_len L 0 12;have hl2:=cutM_len L 12 140;go_upto_region 8 with(first
    |(go_at_call 46;refine(show Calls Tryz.prog 46 #[_,.int .i64 0,.int .i64 12] _ _ from cut_any _ L 0 12 _ (RD.out.1.below B5.out) (by omega) (by omega) (by omega)).mono ?_;rintro e wc1 ⟨ca1,cn1,cc1,rfl,hr1,hw1⟩;subst hw1;have R1:=hide hr1;clear hr1)
    |(at_builtin;refine wpList_append_rdI _ rfl (.tmp 23) (.tmp 26) 26 rfl W4.heap.size 3 i0 Tryz.underlying26 HT.out.1 HT.out.2.1 HT.out.2.2.1 HT.out.2.2.2 _ _ [] rfl (own_emptyM W4 _ _) _ (cutM L 0 12) rfl R1.out (by omega) (by simp) ?_;intro a1 c1 m1 v1 e1 o1 b1;have H1:=hide (And.intro o1 (And.intro b1 e1));clear o1 b1 e1))
   clear c5 c7 R1;have G1:=hide (show Below W4.heap.size W4 v1 from B5.out.trans H1.out.2.1);have hm1:m1≤12:=(by have:=H1.out.2.2;omega);have hg1:=G1.out.size;have c81:=(HC4.out v1 G1.out).2.1;go_upto_region 9 with(first
    |(at_builtin;refine wpList_append_rdI _ rfl (.tmp 28) (.tmp 31) 26 rfl W4.heap.size 3 i0 Tryz.underlying26 HT.out.1 HT.out.2.1 HT.out.2.2.1 HT.out.2.2.2 _ _ _ rfl (H1.out.1.alloc _) _ [p] rfl (rd_oneI _ _) (by simp;omega) (by simp;omega) ?_;intro a2 c2 m2 v2 e2 o2 b2;have H2:=hide (And.intro o2 (And.intro b2 e2));clear o2 b2 e2))
   clear c81;have G2:=hide (show Below W4.heap.size W4 v2 from(G1.out.alloc hg1 _).trans H2.out.2.1);have hm2:m2≤13:=(by have:=H2.out.2.2;simp at this;omega);have hg2:=G2.out.size;have c92:=(HC4.out v2 G2.out).1;go_upto_region 10 with(first
    |(go_at_call 46;refine(show Calls Tryz.prog 46 #[_,.int .i64 12,.int .i64 140] _ _ from cut_any _ L 12 140 _ (RD.out.1.below G2.out) (by omega) (by omega) (by omega)).mono ?_;rintro e wc3 ⟨ca3,cn3,cc3,rfl,hr3,hw3⟩;subst hw3;have R3:=hide hr3;clear hr3)
    |(at_builtin;refine wpList_append_rdI _ rfl (.tmp 33) (.tmp 36) 26 rfl W4.heap.size 3 i0 Tryz.underlying26 HT.out.1 HT.out.2.1 HT.out.2.2.1 HT.out.2.2.2 _ _ _ rfl H2.out.1 _ (cutM L 12 140) rfl R3.out (by omega) hg2 ?_;intro a3 c3 m3 v3 e3 o3 b3;have H3:=hide (And.intro o3 (And.intro b3 e3));clear o3 b3 e3))
   clear c92 R3;have G3:=hide (show Below W4.heap.size W4 v3 from G2.out.trans H3.out.2.1);have hm3:m3≤141:=(by have:=H3.out.2.2;omega);have hg3:=G3.out.size;have c103:=(HC4.out v3 G3.out).2.2.1;go_upto_region 11 with(first
    |(at_builtin;refine wpList_append_rdI _ rfl (.tmp 38) (.tmp 41) 26 rfl W4.heap.size 3 i0 Tryz.underlying26 HT.out.1 HT.out.2.1 HT.out.2.2.1 HT.out.2.2.2 _ _ _ rfl (H3.out.1.alloc _) _ [q] rfl (rd_oneI _ _) (by simp;omega) (by simp;omega) ?_;intro a4 c4 m4 v4 e4 o4 b4;have H4:=hide (And.intro o4 (And.intro b4 e4));clear o4 b4 e4))
   clear c103;have G4:=hide (show Below W4.heap.size W4 v4 from(G3.out.alloc hg3 _).trans H4.out.2.1);have hm4:m4≤142:=(by have:=H4.out.2.2;simp at this;omega);have hg4:=G4.out.size;have c114:=(HC4.out v4 G4.out).2.2.2;obtain⟨X,hX⟩:∃X,X=[]++cutM L 0 12++[p]++cutM L 12 140++[q]:=⟨_,rfl⟩;have O4:=hide (show v4.ownsRow W4.heap.size 3 1 (.slice a4 m4 c4) m4 (X.map (Value.int .i64)) from by rw[hX];exact H4.out.1);have HX:=hide (show allM cnt (wrdP zs) (fun i=>ds.getD i 0) p q=X++secL L f N from by rw[HAll.out,hX];simp);clear hX H1 H2 H3 H4 G1 G2 G3 hm1 hm2 hm3 hg1 hg2 hg3 hl1 hl2 HAll;go_wp2;go_loopw [46,8] (fun kv ou wr=>∃(k M:Nat) (oa:Option Addr) (oc:Nat),M≤142+129*k∧k≤N∧kv=.int .i64 (k:Int)∧ou=.slice oa M oc∧wr.ownsRow W4.heap.size 3 1 ou M ((X++secL L f k).map (Value.int .i64))∧Below W4.heap.size W4 wr) (fun kv _ _=>N-(intOf kv).toNat)
   case atStart=>exact⟨0,m4,_,_,by omega,Nat.zero_le _,rfl,rfl,by rw[show secL L f 0=[] from rfl,List.append_nil];exact O4.out,G4.out⟩
   case round=>
    obtain⟨k,M,oa,oc,hM,hk1,rfl,rfl,ho,hb⟩:=hrel;clear O4 G4 c114;have HI:=hide (And.intro ho hb);clear ho hb;have hb4:=HI.out.2.size;by_cases hk2:k<N
    ·obtain⟨b,off,cp,e,_,_,_,hcell⟩:=(RD.out.2.below HI.out.2).partsC (by simp;omega);injection e with e1 e2 e3;subst e1 e3;have cx:=hcell k (by simp;omega);rw[show((List.range N).map f).getD k 0=f k by simp[List.getD,hk2]] at cx;obtain⟨x,hx⟩:∃x,x=f k:=⟨_,rfl⟩;rw[←hx] at cx;have HX2:=hide hx;have hkI:(k:Int)<(N:Int):=(by omega);obtain⟨mm,hmm⟩:∃mm,mm=128*k:=⟨_,rfl⟩;obtain⟨lo,hlo⟩:∃lo,lo=140+128*k:=⟨_,rfl⟩;obtain⟨hh,hhh⟩:∃hh,hh=268+128*k:=⟨_,rfl⟩;have i1:(128:Int)*(k:Int)=(mm:Int):=(by omega);have i2:(140:Int)+(mm:Int)=(lo:Int):=(by omega);have i3:(268:Int)+(mm:Int)=(hh:Int):=(by omega);have hb1:mm≤16384:=(by omega);have hb2:lo≤16524:=(by omega);have hb3:hh≤16652:=(by omega);have hlh:lo≤hh:=(by omega);have HLo:=hide (And.intro hlo hhh);have hl3:=cutM_len L lo hh;have hl4:hh-lo=128:=(by omega);rw[hl4] at hl3;clear hcell hx e2 hmm hlo hhh hl4;go_upto_region 15 with(first
      |(at_builtin;refine wpList_append_rdI _ rfl (.tmp 51) (.tmp 53) 26 rfl W4.heap.size 3 i0 Tryz.underlying26 HT.out.1 HT.out.2.1 HT.out.2.2.1 HT.out.2.2.2 _ _ _ rfl (HI.out.1.alloc _) _ [x] rfl (rd_oneI _ _) (by simp;omega) (by simp;omega) ?_;intro a6 c6 m6 v6 e6 o6 b6;have H6:=hide (And.intro o6 (And.intro b6 e6));clear o6 b6 e6))
     have G6:=hide (show Below W4.heap.size W4 v6 from(HI.out.2.alloc hb4 _).trans H6.out.2.1);have c156:=(HC4.out v6 G6.out).1;have hm6:m6≤M+1:=(by have:=H6.out.2.2;simp at this;omega);go_wp2_with (first
      |(go_at_call 46;refine(show Calls Tryz.prog 46 #[_,.int .i64 (lo:Int),.int .i64 (hh:Int)] _ _ from cut_any _ L lo hh _ (RD.out.1.below G6.out) (by omega) (by omega) (by omega)).mono ?_;rintro e wc7 ⟨ca7,cn7,cc7,rfl,hr7,hw7⟩;subst hw7;have R7:=hide hr7;clear hr7)
      |(at_builtin;refine wpList_append_rdI _ rfl (.tmp 55) (.tmp 64) 26 rfl W4.heap.size 3 i0 Tryz.underlying26 HT.out.1 HT.out.2.1 HT.out.2.2.1 HT.out.2.2.2 _ _ _ rfl H6.out.1 _ (cutM L lo hh) rfl R7.out (by omega) G6.out.size ?_;intro a7 c7 m7 v7 e7 o7 b7;have H7:=hide (And.intro o7 (And.intro b7 e7));clear o7 b7 e7))
     have G7:=hide (show Below W4.heap.size W4 v7 from G6.out.trans H7.out.2.1);have hm7:m7≤142+129*(k+1):=(by have:=H7.out.2.2;omega);go_roundw
     case rel=>exact⟨k+1,m7,a7,c7,hm7,by omega,by go_num,rfl,by rw[secL_succ, ←HX2.out, ←HLo.out.1, ←HLo.out.2, ←List.append_assoc, ←List.append_assoc];exact H7.out.1,G7.out⟩
     case measure=>simp[intOf];omega
    ·have hk3:k=N:=(by omega);subst hk3;clear hk2;have hXl:(X++secL L f k).length≤100000:=by
      have:=HI.out.1.1;rw[List.length_map] at this;omega
     go_wp2_with (go_at_call 47;refine(some_any _ (X++secL L f k) _ (Rd.own HI.out.1) hXl).mono ?_;rintro e w9 ⟨v9,rfl,o9,b9⟩;have H9:=hide (And.intro o9 b9);clear o9 b9);go_ret2;have hap:apartP (((sz:Int).toNat+511)/512) (zs.length/512) (wrdP zs) (fun i=>ds.getD i 0) p q:=(by rw[Int.toNat_natCast, ←HCn.out];exact HAp.out);have e1:mbB zs (sz:Int) ds p q=someM (X++secL L f k):=(by unfold mbB;rw[if_pos ⟨HF.out,hap⟩,Int.toNat_natCast, ←HCn.out,HX.out]);have hbw:=BW4.out.trans (HI.out.2.mono BW4.out.size);refine⟨_,by unfold mrC;rw[if_neg (by rw[HF.out];decide),if_pos hap];rfl,?_,hbw.trans (H9.out.2.mono hbw.size)⟩;rw[e1];exact own_mono H9.out.1 hbw.size
  ·have HNap:=hide hnap;have BW3:=hide (BW2.out.trans (b3.mono BW2.out.size));clear hnap b3;go_upto_region 5 with(first
    |(refine wpList_store_row rfl 93 _ _ rfl w3.heap.size (treeC nilV 0 0 nilV nilV nilV nilV false) rfl rfl 93 _ (Blk.new w3 _ _) infoTr8 rfl (by simp[Value.oneCell']) ?_))
   generalize hW4:World.setRow _ w3.heap.size (treeC nilV 0 0 nilV nilV nilV nilV false)=W4;have K4:=hide (show Blk W4 w3.heap.size (treeC nilV 0 0 nilV nilV nilV nilV false) 93 from by rw[←hW4];exact(Blk.new w3 _ _).row _);have B4:=hide (show Below w3.heap.size w3 W4 from by rw[←hW4];exact below_setRow ((Below.refl _ _).alloc (Nat.le_refl _) _) (Nat.le_refl _) _);clear hW4;have c7:=(K4.out.cell 7).trans (show _=some (.bool false) from rfl);go_wp2;go_ret2;have hnp:¬apartP (((sz:Int).toNat+511)/512) (zs.length/512) (wrdP zs) (fun i=>ds.getD i 0) p q:=(by rw[Int.toNat_natCast, ←HCn.out];exact HNap.out);exact⟨_,by unfold mrC;rw[if_neg (by rw[HF.out];decide),if_neg hnp];rfl,by unfold mbB;rw[if_neg (fun h=>hnp h.2)];exact World.ownsRow_nil _ _ _ _,BW3.out.trans (B4.out.mono BW3.out.size)⟩
 ·have HF:=hide hf;clear hf;go_enter Tryz.func25,Tryz.ntmps25;go_upto_region 1 with fail;rw[HW0.out];go_wp2_with (first
   |(refine wpList_load_row rfl 27 _ rfl w.heap.size rfl 27 (cellsI (rootI s ds p q)) (0,0) _ K0.out Tryz.underlying27 rfl (by rw[HZ.out];exact info15) ?_)
   |(go_at_call 31;refine(fault3_any _ zs s ds p q _ (HR.out.1.below HB0.out) h1 HR.out.2.2).mono ?_;rintro e w2 ⟨rfl,b2⟩;rw[HF.out];have BW2:=hide (HB0.out.trans (b2.mono HB0.out.size));clear b2))
  go_ret2;exact⟨_,by unfold mrC;rw[if_pos (by rw[HF.out];decide)];rfl,by unfold mbB;rw[if_neg (by rw[HF.out];intro h;cases h.1)];exact World.ownsRow_nil _ _ _ _,BW2.out⟩
end
end Go.Proofs.YtbhpealglhkodaaGreatDoor
