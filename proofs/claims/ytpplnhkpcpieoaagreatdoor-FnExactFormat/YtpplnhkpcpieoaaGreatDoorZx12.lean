/- Copies by append to an empty literal -/
import Derived.Test.YtpplnhkpcpieoaaGreatDoorZx11
import Derived.ChangeKeysEq
namespace Go.Proofs.YtpplnhkpcpieoaaGreatDoor
open Go.Proofs.Tryz
open _root_.List (nil_append getElem?_map getElem?_eq_none getD range length_take length_drop length_append map_append replicate append_nil)
open _root_.Bool (and_eq_true)
open _root_.Nat (zero_add lt_or_ge)
set_option linter.all false
set_option maxRecDepth 100000
set_option maxHeartbeats 16000000
section
open Go.RowKit
theorem j5(w:World)(e:TypeId)(sz:Nat):(w.alloc (.cells #[] e)).ownsRow w.heap.size e sz (.slice (some ⟨w.heap.size,0,none⟩) 0 0) 0 []:=
 ⟨by simp,.inr ⟨w.heap.size,0,#[],rfl,aj,heap_alloc_new w _,aj,by simp,by simp,by simp⟩⟩
theorem Fs{P:Program}{w:World}(base:Nat)(t ty e:TypeId)(i:TypeInfo)(size:Nat)(ht:P.underlying t=some (.slice e))(hi:P.info? e=some i)
 (v:Value) (n:Nat) (xs:List Value) (hown:w.ownsRow base e size v n xs) (a:Option Addr) (c:Nat):
 (Builtin.append_ #[t,t] ty #[v,.slice a 0 c]).run P w=.ok v w:=by
 rcases hown.2 with⟨rfl,rfl⟩|⟨g,cap,cur,rfl,_,_,hnc,_⟩
 ·cases a<;>simp[Builtin.append_,run_underlying ht,sizeOf,typeInfo,hi,Builtin.lenOf,Builtin.firstCells,loadCells,loadCellsFrom]
 ·cases a<;>simp[Builtin.append_,run_underlying ht,sizeOf,typeInfo,hi,Builtin.lenOf,Builtin.firstCells,hnc,storeCells,loadCells,loadCellsFrom]
theorem yy{P:Program}{w:World}{ops:Array Oper}{rest:List Oper}{o:Oper}{a:Act}{Q:Exit→Act→World→Prop}(hgd:o.guard=none)(s x:Operand)(t:TypeId)
 (ho:o.op=.call {callee:=.builtin .append,args:=#[s,x],argTypes:=#[t,t]})
 (base:Nat) (e:TypeId) (i:TypeInfo) (size:Nat) (ht:P.underlying t=some (.slice e)) (hi:P.info? e=some i)
 (v:Value) (n:Nat) (xs:List Value) (hs:a.eval s=v) (hown:w.ownsRow base e size v n xs) (ad:Option Addr) (c:Nat) (hx:a.eval x=.slice ad 0 c)
 (h:wpList P ops Q rest (a.put o.dst v) w):wpList P ops Q (o::rest) a w:=by
 refine wpList_plain hgd fun K hK=>?_;have hrun:=Fs (P:=P) (w:=w) base t o.type e i size ht hi v n xs hown ad c;unfold Oper.wp;simp[execOp,ho,resolve,invoke,builtin,hs,hx,hrun,Result.andThen];exact hK _ _ h
theorem Ft{P:Program}(w:World){ops:Array Oper}{rest:List Oper}{o:Oper}{a:Act}{Q:Exit→Act→World→Prop}
 (hg:o.guard=none) (s x:Operand) (t:TypeId) (hop:o.op=Op.call {callee:=Callee.builtin Builtin.append,args:=#[s,x],argTypes:=#[t,t]})
 (e:TypeId) (i:TypeInfo) (z:Value) (size bytes:Nat) (h1:P.underlying t=some (.slice e)) (h2:P.info? e=some i) (h3:i.zero=some z) (h4:i.size=size) (h5:i.bytes=bytes) (h6:z.cells.size=size) (h7:0<size)
 (hs:a.eval s=.slice (some ⟨w.heap.size,0,none⟩) 0 0) (ad:Option Addr) (m c:Nat) (xs:List Value) (hx:a.eval x=.slice ad m c) (hl:xs.length=m*size)
 (hr:0<m→∃bd off,ad=some ⟨bd,off,none⟩∧bd<w.heap.size∧∀j u,xs[j]?=some u→w.cell? ⟨bd,off+j,none⟩=some u) (hone:∀u∈xs,u.oneCell'=true) (hm:m≤maxLen) (hb:m*bytes≤140737488355328)
 (hK:∀v' w',w'.ownsRow w.heap.size e size v' m xs→Below w.heap.size w w'→wpList P ops Q rest (a.put o.dst v') w'):
 wpList P ops Q (o::rest) a (w.alloc (.cells #[] e)):=by
 have hB:Below w.heap.size w (w.alloc (.cells #[] e)):=ak.alloc aj _;have hO:=j5 w e size;by_cases hp:0<m
 ·obtain⟨bd,off,rfl,hbd,hc⟩:=hr hp;refine kP (w.alloc (.cells #[] e)) hg s x t hop w.heap.size e i z size bytes h1 h2 h3 h4 h5 h6 h7 _ 0 [] hs hO ⟨bd,off,none⟩ m c xs hx hl (fun j u hj=>?_) hone hp (by omega) (by rw[zero_add];exact hb) (by simp) ?_
  ·rw[Addr.add_mid];exact(hB.cell (p:=⟨bd,off+j,none⟩) hbd).trans (hc j u hj)
  ·intro v' w' r1 r2 _;rw[zero_add,nil_append] at r1;exact hK v' w' r1 (hB.grown r2 hB.size (fun k e=>by cases e;exact aj))
 ·obtain rfl:m=0:=by omega
  have hx0:xs=[]:=List.eq_nil_of_length_eq_zero (by omega);subst hx0;refine yy hg s x t hop w.heap.size e i size h1 h2 _ 0 [] hs hO ad c hx ?_;exact hK _ _ hO hB
theorem Rd.Fu{w:World}{a:Option Addr}{cap:Nat}{zs:List Int}(h:Rd .u8 w (.slice a zs.length cap) zs):0<zs.length→∃bd off,a=some ⟨bd,off,none⟩∧bd<w.heap.size∧∀j u,(zs.map (Value.int .u8))[j]?=some u→w.cell? ⟨bd,off+j,none⟩=some u:=by
 intro hn;obtain⟨bd,off,cp,e,hbw,_,_,hcell⟩:=h.dJ hn;injection e with e1 e2 e3;refine⟨bd,off,e1,hbw,fun j u hu=>?_⟩;rw[getElem?_map] at hu;have hj:j<zs.length:=by
  rcases lt_or_ge j zs.length with h|h
  ·exact h
  ·rw[getElem?_eq_none h] at hu;cases hu
 rw[hcell j hj];rw[List.getElem?_eq_getElem hj] at hu;simp at hu;rw[←hu];simp[getD,hj]
end
section
open Go.RowKit
theorem yB{W W':World}{b1 b2 n m:Nat}{e1 e2:TypeId}{u v:Value}{L M:List Value}(hu:W.ownsRow b1 e1 1 u n L)(hv:W.ownsRow b2 e2 1 v m M)(hne:e1≠e2)(hg:W.grownBy W' v.ownBlock):W'.ownsRow b1 e1 1 u n L:=by
 refine hu.kept hg ?_;cases hb:u.ownBlock with
 |none=>exact .inl rfl
 |some g=>
  refine .inr fun e=>?_;rcases hu.2 with⟨rfl,_⟩|⟨g1,cap,cur,rfl,_,hg1,_⟩
  ·simp[Value.ownBlock] at hb
  ·simp[Value.ownBlock] at hb;subst hb;exact jB hv (show af W g1 cur e1 from hg1) hne e.symm
def lN(zs:List Int)(D:Nat→Int)(i:Nat):List Int:=(range i).flatMap (fun j=>jY zs (D j))
theorem yC(zs:List Int)(D:Nat→Int)(i:Nat):lN zs D (i+1)=lN zs D i++jY zs (D i):=by
 unfold lN;rw[List.range_succ,List.flatMap_append];simp
theorem qZ{zs:List Int}{p:Int}(h:bM (zs.length/512) p=true):(jY zs p).length=512:=by
 unfold jY;by_cases h0:p=0
 ·rw[if_pos h0,List.length_replicate]
 ·rw[if_neg h0];have:=mZ h h0;unfold bQ;rw[length_take,length_drop];omega
theorem yD{zs:List Int}{D:Nat→Int}:∀(i:Nat),(∀j,j<i→bM (zs.length/512) (D j)=true)→(lN zs D i).length=i*512
 |0,_=>by simp[lN]
 |i+1,h=>by rw[yC,length_append,yD i (fun j hj=>h j (by omega)),qZ (h i (by omega))];omega
theorem Fv{k:IntKind}{w:World}{a:Option Addr}{n c:Nat}{zs:List Int}(h:Rd k w (.slice a n c) zs)(m:Nat)(hm:m≤zs.length):Rd k w (.slice a m c) (zs.take m):=by
 obtain⟨a',c',e,h1,h2,h3,h4⟩:=h;injection e with e1 e2 e3;subst e1 e2 e3;have hl:(zs.take m).length=m:=by rw[length_take];omega
 refine⟨a,c,by rw[hl],by omega,fun hne=>?_,by omega,h4⟩;obtain⟨b,off,hb,hlt,hc⟩:=h2 (fun e=>hne (by rw[e];simp));refine⟨b,off,hb,hlt,fun i hi=>?_⟩;rw[hl] at hi;rw[hc i (by omega)];simp[getD,hi]
theorem Fw{k:IntKind}{w:World}{a:Option Addr}{m c:Nat}{zs:List Int}(h:Rd k w (.slice a m c) zs):(zs.map (Value.int k)).length=m*1:=by
 obtain⟨a',c',e,_⟩:=h;injection e with e1 e2 e3;simp[e2]
theorem Fx{w:World}{a:Option Addr}{m c:Nat}{zs:List Int}(h:Rd .u8 w (.slice a m c) zs):0<m→∃bd off,a=some ⟨bd,off,none⟩∧bd<w.heap.size∧∀j u,(zs.map (Value.int .u8))[j]?=some u→w.cell? ⟨bd,off+j,none⟩=some u:=by
 have e:m=zs.length:=by
  obtain⟨a',c',e,_⟩:=h;injection e
 subst e;exact Rd.Fu h
open Classical in
noncomputable def mrC (zs:List Int) (s:Int) (ds:List Int) (p q:Int):Int:=if iO zs s ds p q≠0 then 7 else if iK ((s.toNat+511)/512) (zs.length/512) (aQ zs) (fun i=>ds.getD i 0) p q then 0 else 21
open Classical in
noncomputable def mrB (zs:List Int) (s:Int) (ds:List Int) (p q:Int):List Int:=if iO zs s ds p q=0∧iK ((s.toNat+511)/512) (zs.length/512) (aQ zs) (fun i=>ds.getD i 0) p q then(lN zs (cO (aQ zs) (fun i=>ds.getD i 0) p q) ((s.toNat+511)/512)).take s.toNat else []
theorem Fy(zs:List Int)(s:Int)(ds:List Int)(p q:Int):iO zs s ds p q=0∨iO zs s ds p q=7:=by unfold iO;split<;>simp
theorem Fz{zs:List Int}{s:Int}{ds:List Int}{p q:Int}(h:iO zs s ds p q=0):0≤s∧s≤262144:=by
 unfold iO at h;split at h
 ·rename_i hr
  have:=hr.2;unfold cJ at this;simp only[and_eq_true,decide_eq_true_eq] at this;exact this.1
 ·cases h
theorem FB(img:Value)(zs:List Int)(s:Int)(ds:List Int)(p q:Int)(w:World)(h:Rd .u8 w img zs)(h1:zs.length≤1048576)(hbd:∀z∈zs,0≤z∧z<256)(hd:ds.length=12):
 Calls prog 34 #[img,.agg (an (aD s ds p q))] w fun e w'=>∃v,e=.returned (.tuple #[v,.int .i64 (mrC zs s ds p q)])∧w'.ownsRow w.heap.size 5 1 v (mrB zs s ds p q).length ((mrB zs s ds p q).map (Value.int .u8))∧Below w.heap.size w w':=by
 obtain⟨i0,hi,hz0,hz1,hz2⟩:=info_parts eO;have HR:=aa (ai h (ai hbd hd));have HZ:=ae ((an (aD s ds p q)).size=15) (by rw[ct];exact dw s ds p q hd);obtain⟨sa,sc,rfl⟩:=eY h;clear h hbd hd;have HB0:=ae (Below w.heap.size w (w.alloc (.cells (an (aD s ds p q)) 31))) (ak.alloc aj _);have K0:=aa (af.new w (an (aD s ds p q)) 31);generalize hW0:w.alloc (.cells (an (aD s ds p q)) 31)=W0 at HB0 K0;have HW0:=aa hW0;clear hW0;rcases Fy zs s ds p q with hf|hf
 ·obtain⟨hs0,hs1⟩:=Fz hf;obtain⟨sz,rfl⟩:∃sz:Nat,s=(sz:Int):=⟨s.toNat,by omega⟩;have HF:=aa hf;clear hf hs0;obtain⟨cnt,hcnt⟩:∃cnt,cnt=(sz+511)/512:=⟨_,rfl⟩;have Tf:=aa hcnt;have hcn:cnt≤512:=by omega
  have hszc:sz≤cnt*512:=by omega
  clear hcnt;go_enter func34,ntmps34;go_upto_region 1 with fail;rw[HW0.out];go_upto_region 4 with(first
   |(refine wpList_load_row rfl 31 _ rfl w.heap.size rfl 31 (an (aD (sz:Int) ds p q)) (0,0) _ K0.out underlying31 rfl (by rw[HZ.out];exact dV) ?_)
   |(go_at_call 28;refine(tJ _ zs (sz:Int) ds p q _ (HR.out.1.below HB0.out) h1 HR.out.2.2).mono ?_;rintro e w2 ⟨rfl,b2⟩;rw[HF.out];have H2:=aa b2;have K2:=aa (K0.out.below b2 K0.out.lt);have PB:=aa (HB0.out.trans (b2.mono HB0.out.size));clear b2))
  go_wp2_with (first
   |(refine wpList_load_row rfl 31 _ rfl w.heap.size rfl 31 (an (aD (sz:Int) ds p q)) (0,0) _ K2.out underlying31 rfl (by rw[HZ.out];exact dV) ?_)
   |(go_at_call 33;fail))
  refine(uj _ zs sz ds p q _ cnt (HR.out.1.below PB.out) h1 HR.out.2.1 HR.out.2.2 (by omega) Tf.out).mono ?_;rintro e w3 ⟨(⟨hap,dv,iv,ov,sv,wv,rfl,hone,o3,_⟩|⟨Oh,rfl⟩),b3⟩
  ·have Qb:=aa (PB.out.trans (b3.mono PB.out.size));have K3:=aa (K2.out.below b3 K2.out.lt);obtain⟨da,dc,rfl⟩:=cG o3;have O3:=aa (cH o3 PB.out.size);have NV:=aa hap;have N3:=aa hone;clear hap o3 b3 hone;obtain⟨T,hT⟩:∃T,T=di (.slice da cnt dc) p q iv ov sv wv true:=⟨_,rfl⟩;have hT0:T[0]?=some (.slice da cnt dc):=(by rw[hT];rfl);have hT7:T[7]?=some (.bool true):=(by rw[hT];rfl);have hTs:T.size=8:=(by rw[hT];rfl);rw[←hT] at N3⊢;have OV:=aa hTs;clear hT hTs;go_upto_region 5 with(first
    |(refine wpList_store_row rfl 77 _ _ rfl w3.heap.size T rfl rfl 77 _ (af.new w3 _ _) (by rw[OV.out];exact gZ) (by rw[OV.out];rfl) N3.out ?_))
   generalize Pf:World.setRow _ w3.heap.size T=W4;have K4:=ae (af W4 w3.heap.size T 77) (by rw[←Pf];exact(af.new w3 _ _).row _);have B4:=ae (Below w3.heap.size w3 W4) (by rw[←Pf];exact below_setRow (ak.alloc aj _) aj _);clear Pf;have c0:=(K4.out.cell 0).trans hT0;have c7:=(K4.out.cell 7).trans hT7;go_upto_region 8 with fail;obtain⟨W5,Ph⟩:∃W5,W5=W4.alloc (.cells #[] 5):=⟨_,rfl⟩;rw[←Ph];have B5:=ae (Below W4.heap.size W4 W5) (by rw[Ph];exact ak.alloc aj _);have O5:=ae (W5.ownsRow W4.heap.size 5 1 (.slice (some ⟨W4.heap.size,0,none⟩) 0 0) 0 []) (by rw[Ph];exact j5 W4 _ _);have Tg:=ae (Below w3.heap.size w3 W5) (B4.out.trans (B5.out.mono B4.out.size));have BW5:=aa (Qb.out.trans (Tg.out.mono Qb.out.size));have K5:=aa (K3.out.below Tg.out K3.out.lt);have O35:=aa (bz O3.out Tg.out);have c0':W5.cell? ⟨w3.heap.size,0,none⟩=some (.slice da cnt dc):=(B5.out.cell (p:=⟨w3.heap.size,0,none⟩) K4.out.lt).trans c0;have hb4:=Qb.out.size;have hb5:=B4.out.size;clear Ph c0 c7 hT0 hT7;go_wp2;go_loopw [27,8] (fun kv ou wr=>∃(i M:Nat) (oa:Option Addr) (oc:Nat),M=i*512∧i≤cnt∧kv=.int .i64 (i:Int)∧ou=.slice oa M oc∧wr.ownsRow w.heap.size 5 1 ou M ((lN zs (cO (aQ zs) (fun i=>ds.getD i 0) p q) i).map (Value.int .u8))∧wr.ownsRow w.heap.size 3 1 (.slice da cnt dc) cnt (((range cnt).map (cO (aQ zs) (fun i=>ds.getD i 0) p q)).map (Value.int .i64))∧af wr w.heap.size (an (aD (sz:Int) ds p q)) 31∧Below w.heap.size w wr) (fun kv _ _=>cnt-(intOf kv).toNat)
   case atStart=>exact⟨0,0,_,_,rfl,Nat.zero_le _,rfl,rfl,cH O5.out (by omega),O35.out,K5.out,BW5.out⟩
   case round=>
    obtain⟨i,M,oa,oc,hM,hi1,rfl,rfl,ho,hdv,hk,hb⟩:=hrel;clear O5 O35 K5 BW5 Tg B5 c0';have HI:=aa (ai ho (ai hdv (ai hk hb)));have HM:=aa hM;have hM2:M≤262144:=(by omega);clear ho hdv hk hb hM;by_cases hi2:i<cnt
    ·obtain⟨gd,cd,ed,_,hcd⟩:=kU HI.out.2.1 (by omega);injection ed with ed1 ed2 ed3;subst ed1;have cx:=hcd i hi2;rw[show((range cnt).map (cO (aQ zs) (fun i=>ds.getD i 0) p q)).getD i 0=(cO (aQ zs) (fun i=>ds.getD i 0) p q) i by simp[getD,hi2]] at cx;obtain⟨x,hx⟩:∃x,x=(cO (aQ zs) (fun i=>ds.getD i 0) p q) i:=⟨_,rfl⟩;rw[←hx] at cx;have HX:=aa hx;have cL:=ae (bM (zs.length/512) x=true) (by rw[hx];exact NV.out.2.2.2.2 i hi2);have Uk:(i:Int)<(cnt:Int):=(by omega);clear hcd hx ed2 ed3;go_wp2_with (first
      |(go_at_call 68;refine(Ez _ zs x _ (HR.out.1.below HI.out.2.2.2) h1 cL.out).mono ?_;rintro e w7 ⟨v7,rfl,r7,b7⟩;obtain⟨bd,off,cp,rfl,hbd,_,_,hcell⟩:=r7.dJ (by rw[qZ cL.out];omega);have H7:=aa (ai hcell b7);have Xj:=qZ cL.out;rw[Xj];have O7:=aa (bz HI.out.1 b7);clear r7 b7 hcell Xj)
      |(at_builtin;refine wpList_append_own_at _ rfl (.tmp 31) (.tmp 34) 22 rfl w.heap.size 5 i0 (.int .u8 0) 1 1 underlying22 hi hz0 hz1 hz2 rfl (by decide) (.slice oa M oc) M _ rfl O7.out ⟨bd,off,none⟩ 512 cp ((jY zs x).map (Value.int .u8)) rfl (by rw[List.length_map,qZ cL.out]) (fun j u hj=>by
       rw[Addr.add_mid];have hjl:j<(jY zs x).length:=by
        rcases lt_or_ge j (jY zs x).length with h|h
        ·exact h
        ·rw[getElem?_eq_none (by simpa using h)] at hj;cases hj
       rw[H7.out.1 j hjl];rw[getElem?_map,List.getElem?_eq_getElem hjl] at hj;simp at hj;rw[←hj];simp[getD,hjl]) (ints_oneCell _ _) (by unfold maxLen;omega) (by omega) (aK HI.out.2.2.2.size H7.out.2.size) ?_;intro v8 w8 o8 g8 _ a8;obtain⟨OC,OE,rfl⟩:=cG o8;have H8:=aa (ai o8 g8);clear o8 g8 a8))
     have HD8:=aa (yB (bz HI.out.2.1 H7.out.2) O7.out (by decide) H8.out.2);have HK8:=aa (nW O7.out (HI.out.2.2.1.below H7.out.2 HI.out.2.2.1.lt) (by decide) H8.out.2);have HB8:=aa ((HI.out.2.2.2.trans (H7.out.2.mono HI.out.2.2.2.size)).grown H8.out.2 (aK HI.out.2.2.2.size H7.out.2.size) (fun r e=>(O7.out.lt r e).1));go_roundw
     case rel=>exact⟨i+1,M+512,OC,OE,by have:=HM.out;omega,by omega,by go_num,rfl,by rw[yC,map_append, ←HX.out];exact H8.out.1,HD8.out,HK8.out,HB8.out⟩
     case measure=>simp[intOf];omega
    ·have hi3:i=cnt:=(by omega);subst hi3;clear hi2;have cz:=((HI.out.2.2.1.alloc (.cells #[] 5)).cell 0).trans (show _=some (.int .i64 (sz:Int)) by simp[an,aD]);have hlen:=yD i NV.out.2.2.2.2;have hocap:M≤oc:=by
      have hr:=Rd.own (k:=.u8) HI.out.1;obtain⟨a',c',e,_,_,hle,_⟩:=hr;injection e with e1 e2 e3;have:=HM.out;omega
     have NQ:=aa (Fv (Rd.own (k:=.u8) HI.out.1) sz (by have:=HM.out;omega));have hszM:(sz:Int)≤(oc:Int):=(by have:=HM.out;omega);have hsz4:sz≤262144:=(by omega);clear hlen;go_wp2_with (first
      |(at_builtin;(refine Ft wr rfl (.tmp 37) (.tmp 41) 22 rfl 5 i0 (.int .u8 0) 1 1 underlying22 hi hz0 hz1 hz2 rfl (by decide) rfl oa sz oc _ rfl (Fw NQ.out) (Fx NQ.out) (ints_oneCell _ _) (by unfold maxLen;omega) (by omega) ?_);intro v9 w9 o9 b9;have H9:=aa (ai o9 b9);clear o9 b9))
     go_ret2;have hap:iK (((sz:Int).toNat+511)/512) (zs.length/512) (aQ zs) (fun i=>ds.getD i 0) p q:=(by rw[Int.toNat_natCast, ←Tf.out];exact NV.out);have e1:mrB zs (sz:Int) ds p q=(lN zs (cO (aQ zs) (fun i=>ds.getD i 0) p q) i).take sz:=(by unfold mrB;rw[if_pos ⟨HF.out,hap⟩,Int.toNat_natCast, ←Tf.out]);have hl:(mrB zs (sz:Int) ds p q).length=sz:=(by rw[e1];have:=H9.out.1.1;simpa using this);refine⟨_,by unfold mrC;rw[if_neg (by rw[HF.out];decide),if_pos hap];rfl,?_,HI.out.2.2.2.trans (H9.out.2.mono HI.out.2.2.2.size)⟩;rw[hl,e1];exact cH H9.out.1 HI.out.2.2.2.size
  ·have Yv:=aa Oh;have Qb:=aa (PB.out.trans (b3.mono PB.out.size));clear Oh b3;go_upto_region 5 with(first
    |(refine wpList_store_row rfl 77 _ _ rfl w3.heap.size (di aJ 0 0 aJ aJ aJ aJ false) rfl rfl 77 _ (af.new w3 _ _) gZ rfl (by simp[Value.oneCell']) ?_))
   generalize Pf:World.setRow _ w3.heap.size (di aJ 0 0 aJ aJ aJ aJ false)=W4;have K4:=ae (af W4 w3.heap.size (di aJ 0 0 aJ aJ aJ aJ false) 77) (by rw[←Pf];exact(af.new w3 _ _).row _);have B4:=ae (Below w3.heap.size w3 W4) (by rw[←Pf];exact below_setRow (ak.alloc aj _) aj _);clear Pf;have c7:=(K4.out.cell 7).trans (show _=some (.bool false) from rfl);go_wp2;go_ret2;have hnp:¬iK (((sz:Int).toNat+511)/512) (zs.length/512) (aQ zs) (fun i=>ds.getD i 0) p q:=(by rw[Int.toNat_natCast, ←Tf.out];exact Yv.out);exact⟨_,by unfold mrC;rw[if_neg (by rw[HF.out];decide),if_neg hnp];rfl,by unfold mrB;rw[if_neg (fun h=>hnp h.2)];exact World.ownsRow_nil _ _ _ _,Qb.out.trans (B4.out.mono Qb.out.size)⟩
 ·have HF:=aa hf;clear hf;go_enter func34,ntmps34;go_upto_region 1 with fail;rw[HW0.out];go_wp2_with (first
   |(refine wpList_load_row rfl 31 _ rfl w.heap.size rfl 31 (an (aD s ds p q)) (0,0) _ K0.out underlying31 rfl (by rw[HZ.out];exact dV) ?_)
   |(go_at_call 28;refine(tJ _ zs s ds p q _ (HR.out.1.below HB0.out) h1 HR.out.2.2).mono ?_;rintro e w2 ⟨rfl,b2⟩;rw[HF.out];have PB:=aa (HB0.out.trans (b2.mono HB0.out.size));clear b2))
  go_ret2;exact⟨_,by unfold mrC;rw[if_pos (by rw[HF.out];decide)];rfl,by unfold mrB;rw[if_neg (by rw[HF.out];intro h;cases h.1)];exact World.ownsRow_nil _ _ _ _,PB.out⟩
end
section
open Go.RowKit
section
variable {cnt n:Nat} {W:Int→Nat→Int}
theorem FG(r:Nat)(p:Int):dO cnt n W 0 r p=jS cnt n r p:=rfl
theorem yE(r:Nat)(p:Int):dO cnt n W 1 r p=jT cnt n W r p:=by
 unfold dO jT;have e:aT (0+1) r=12+r*128:=rfl;rw[e];rfl
theorem FH(p:Int):dO cnt n W 2 0 p=mg cnt n W p:=by
 unfold dO mg;have e:aT (1+1) 0=140:=rfl;rw[e];have e2:(fun k=>dO cnt n W 1 (bI 1 0 k) (W p k))=fun k=>jT cnt n W (1+k) (W p k):=funext fun k=>by
  rw[yE];have:bI 1 0 k=1+k:=by unfold bI;simp
  rw[this]
 rw[e2]
theorem yF:∀(A B:List TL),dz (A++B)=cM (dz A) (dz B)
 |[],B=>(DS _).symm
 |a::A,B=>by
  show cM a (dz (A++B))=_;rw[yF A B];show _=cM (cM a (dz A)) (dz B);rw[tu]
theorem FJ(t:TL):cM t ([],false)=t:=by
 obtain⟨L,b⟩:=t;cases b<;>simp[cM]
theorem FK(Pv:Nat→Int)(D:Nat→Int)(S X:Int)(hD:∀j,j<12→Pv j=D j)(hS:Pv 12=S)(hX:Pv 13=X):dz (fe cnt n W Pv)=nK cnt n W D S X:=by
 unfold fe;rw[show range 14=range 12++[12,13] from rfl,map_append,yF];have e1:(range 12).map (iS cnt n W Pv)=(range 12).map (fun i=>jS cnt n i (D i)):=by
  refine List.map_congr_left (fun j hj=>?_);have hj':=List.mem_range.1 hj;unfold iS bT cq;rw[if_pos hj',if_pos hj',hD j hj',FG]
 have e2:iS cnt n W Pv 12=jT cnt n W 0 S:=by
  unfold iS bT cq;rw[if_neg (by omega),if_pos rfl,if_neg (by omega),hS,yE]
 have e3:iS cnt n W Pv 13=mg cnt n W X:=by
  unfold iS bT cq;rw[if_neg (by omega),if_neg (by omega),if_neg (by omega),hX,FH]
 rw[e1];show cM _ (cM (iS cnt n W Pv 12) (cM (iS cnt n W Pv 13) ([],false)))=_;rw[e2,e3,FJ];rfl
end
theorem FL(zs:List Int)(s:Int)(ds:List Int)(p q:Int)(hd:ds.length=12):ZR zs s ds p q=nK ((s.toNat+511)/512) (zs.length/512) (aQ zs) (fun i=>ds.getD i 0) p q:=
 FK _ _ _ _ (fun j hj=>qU hd hj) (qV hd) (qW hd)
theorem uk{s:Int}{ds:List Int}{p q:Int}(h:cJ s ds p q=true)(k:Nat)(hk:k<14):(ds++[p,q]).getD k 0=0∨fS k<(s+511)/512:=by
 unfold cJ at h;rw[and_eq_true] at h;have h2:=h.2;unfold iN at h2;rw[List.all_eq_true] at h2;have h3:=h2 k (List.mem_range.2 hk);unfold gV at h3;simp only[and_eq_true,Bool.or_eq_true,decide_eq_true_eq] at h3;exact h3.2
theorem yG{s:Int}{ds:List Int}{p q:Int}(hd:ds.length=12)(h:cJ s ds p q=true):xe ((s.toNat+511)/512) (fun i=>ds.getD i 0) p q:=by
 obtain⟨h0,h1⟩:=qT h;refine⟨fun i hi=>?_,fun hc=>?_,fun hc=>?_,by omega⟩
 ·by_cases h12:i<12
  ·rcases uk h i (by omega) with h2|h2
   ·rw[qU hd h12] at h2;exact h2
   ·unfold fS at h2;rw[if_neg (by omega)] at h2;omega
  ·show ds.getD i 0=0;rw[List.getD_eq_getElem?_getD,getElem?_eq_none (by omega)];rfl
 ·rcases uk h 12 (by omega) with h2|h2
  ·rw[qV hd] at h2;exact h2
  ·unfold fS at h2;rw[if_neg (by omega)] at h2;omega
 ·rcases uk h 13 (by omega) with h2|h2
  ·rw[qW hd] at h2;exact h2
  ·unfold fS at h2;rw[if_pos rfl] at h2;omega
theorem FM(zs:List Int)(s:Int)(ds:List Int)(p q:Int):iO zs s ds p q=if fG zs s ds p q=true then 0 else 7:=by
 unfold iO fG;simp only[and_eq_true]
theorem um{zs:List Int}{s:Int}{ds:List Int}{p q:Int}(hd:ds.length=12)(h:fG zs s ds p q=true):
 (iK ((s.toNat+511)/512) (zs.length/512) (aQ zs) (fun i=>ds.getD i 0) p q∧ZR zs s ds p q=(iz ((s.toNat+511)/512) (aQ zs) (fun i=>ds.getD i 0) p q,false))∨
 (¬iK ((s.toNat+511)/512) (zs.length/512) (aQ zs) (fun i=>ds.getD i 0) p q∧(ZR zs s ds p q).2=true):=by
 have hr:cJ s ds p q=true:=by unfold fG at h;rw[and_eq_true] at h;exact h.2
 rw[FL zs s ds p q hd];by_cases hap:iK ((s.toNat+511)/512) (zs.length/512) (aQ zs) (fun i=>ds.getD i 0) p q
 ·exact .inl ⟨hap,DH hap⟩
 ·refine .inr ⟨hap,?_⟩;cases hz:(nK ((s.toNat+511)/512) (zs.length/512) (aQ zs) (fun i=>ds.getD i 0) p q).2 with
  |true=>rfl
  |false=>exact absurd (DI (yG hd hr) hz) hap
theorem yH{α β:Type}(f g:β→α→β):∀(L:List α) (b:β),(∀x∈L,∀b,f b x=g b x)→L.foldl f b=L.foldl g b
 |[],_,_=>rfl
 |a::L,b,h=>by
  rw[List.foldl_cons,List.foldl_cons,h a List.mem_cons_self,yH f g L _ (fun x hx=>h x (List.mem_cons_of_mem _ hx))]
theorem FN{zs:List Int}{p:Int}(h:bM (zs.length/512) p=true)(h0:p≠0):(bQ zs p).length=512:=by
 have:=mZ h h0;unfold bQ;rw[length_take,length_drop];omega
theorem FP{zs:List Int}{s:Int}{ds:List Int}{p q:Int}(hd:ds.length=12):ug zs s ds p q=mrB zs s ds p q:=by
 unfold ug mrB;rw[FM];cases hok:fG zs s ds p q with
 |false=>simp
 |true=>
  have hr:cJ s ds p q=true:=by unfold fG at hok;rw[and_eq_true] at hok;exact hok.2
  obtain⟨hs0,hs1⟩:=qT hr;rcases um hd hok with⟨h1,h2⟩|⟨h1,h2⟩
  ·rw[if_pos ⟨rfl,by rw[h2]⟩,if_pos ⟨by simp,h1⟩];obtain⟨cnt,hcnt⟩:∃cnt,cnt=(s.toNat+511)/512:=⟨_,rfl⟩;rw[←hcnt] at h1 h2⊢;have hmem:∀h∈(ZR zs s ds p q).1,tX cnt (zs.length/512) h:=fun h hm=>(by rw[hcnt];exact tY hm);have hup:((aY (ZR zs s ds p q).1).map (·.1))=(ZR zs s ds p q).1:=by
    unfold aY;rw[List.map_map];have e:((fun x:TX=>x.1)∘fun h:HG=>(h,Value.nilIface))=id:=rfl;rw[e,List.map_id]
   unfold dN;rw[hup];obtain⟨bk,hbk⟩:∃bk:Int→List Int,bk=fun p=>if(bQ zs p).length=512 then bQ zs p else replicate 512 0:=⟨_,rfl⟩;have hb:∀p,(bk p).length=512:=fun p=>by
    rw[hbk];by_cases hl:(bQ zs p).length=512
    ·simp only[hl,if_true]
    ·simp only[hl,if_false,List.length_replicate]
   have hsame:∀p,bM (zs.length/512) p=true→p≠0→bk p=bQ zs p:=fun p h3 h4=>by
    rw[hbk];simp only[FN h3 h4,if_true]
   rw[yH (gD (bQ zs)) (gD bk) _ _ (fun x hx b=>by
    have:=hmem x hx;unfold gD;rw[hsame x.2.2 this.1 this.2.1])]
   rw[h2];rw[DR (W:=aQ zs) (D:=fun i=>ds.getD i 0) (S:=p) (X:=q) hb (by omega) s.toNat (by omega) (by omega)];congr 1;unfold lN;refine kM _ _ _ (fun j hj=>?_);have hj':=List.mem_range.1 hj;have hg:=h1.2.2.2.2 j hj';unfold kN jY;by_cases h0:cO (aQ zs) (fun i=>ds.getD i 0) p q j=0
   ·rw[if_pos h0,if_pos h0]
   ·rw[if_neg h0,if_neg h0,hsame _ hg h0]
  ·rw[if_neg (fun h=>by rw[h2] at h;cases h.2),if_neg (fun h=>h1 h.2)]
end
section
open Go.RowKit Go.Shelf
attribute [local go_sem] Oper.semAt_some
theorem Kq.grown{n₀ z:Nat}{Ty:TypeId→Prop}{W W':World}{row:Option Nat}(hg:W.grownBy W' row)(hn:n₀≤W.heap.size)(hr:∀r,row=some r→n₀≤r∧∃C t,af W r C t∧Ty t):Kq n₀ z Ty W W':=by
 refine⟨ak.grown hg hn (fun k e=>(hr k e).1),fun k cs t fr hk hu=>?_,fun k o hk ho hc=>?_,hg.size⟩
 ·refine(hg.block k (Array.getElem?_eq_some_iff.1 hk).1 (fun e=>?_)).trans hk;obtain⟨_,C,t',hb,ht⟩:=hr k e.symm;have hb':W.heap[k]?=some (.cells C t'):=hb;rw[hb'] at hk;cases hk
  exact hu ht
 ·refine(hg.block k (Array.getElem?_eq_some_iff.1 ho).1 (fun e=>?_)).trans ho;obtain⟨_,C,t',hb,ht⟩:=hr k e.symm;have hb':W.heap[k]?=some (.cells C t'):=hb;rw[hb'] at ho;cases ho
  cases hc
theorem q7{W:World}{base n:Nat}{e:TypeId}{v:Value}{xs:List Value}(h:W.ownsRow base e 1 v n xs){r:Nat}(hr:v.ownBlock=some r):base≤r∧∃C,af W r C e:=by
 rcases h.2 with⟨rfl,_⟩|⟨g,cap,cur,rfl,hb,hg,_⟩
 ·cases hr
 ·cases hr
  exact⟨hb,cur,hg⟩
theorem yI{A B:World}{row:Option Nat}{base n z:Nat}{e:TypeId}{v:Value}{xs:List Value}(h:A.ownsRow base e 1 v n xs)(hg:A.grownBy B row)(hr:∀r,row=some r→z≤r∧∃o,A.heap[r]?=some o∧o.isCells=false):B.ownsRow base e 1 v n xs:=by
 refine h.kept hg ?_;cases hb:v.ownBlock with
 |none=>exact .inl rfl
 |some g=>
  refine .inr fun e=>?_;obtain⟨_,C,hC⟩:=q7 h hb;obtain⟨_,o,ho,hc⟩:=hr g e.symm;have hC':A.heap[g]?=some (.cells C _):=hC;rw[hC'] at ho;cases ho
  cases hc
def FQ(pre:List TX):List Int:=pre.map (fun x=>x.1.2.2)
structure yJ(w:World)(C:Array Value)(Z:TL)(pre:List TX)(W:World):Prop where
 told:∃A,pre=aY A∧A<+:Z.1
 box:∃lv,af W (w.heap.size+3) #[lv] 45∧W.ownsRow w.heap.size 3 1 lv pre.length ((FQ pre).map (Value.int .i64))
 tree:af W w.heap.size C 108
 au:af W (w.heap.size+1) #[.slice none 0 0] 45
 aW:af W (w.heap.size+2) #[.nilIface] 58
 old:Below w.heap.size w W
 size:w.heap.size+7≤W.heap.size
theorem yJ.dU{w:World}{z:Nat}{C:Array Value}{Z:TL}(hz:w.heap.size≤z):iL z (yJ w C Z):=by
 intro pre A B row h hg hr;obtain⟨lv,h1,h2⟩:=h.box;exact⟨h.told,⟨lv,dZ h1 hg hr,yI h2 hg hr⟩,dZ h.tree hg hr,dZ h.au hg hr,dZ h.aW hg hr,lM h.old hz (by have:=h.size;omega) hg hr,aK h.size hg.size⟩
theorem FR(W:World)(v:Value)(t:TypeId):∀j u,[v][j]?=some u→(W.alloc (.cells #[v] t)).cell? ((⟨W.heap.size,0,none⟩:Addr).add j)=some u:=fun j u hj=>by
 cases j with
 |zero=>
  rw[Addr.add_mid];refine((af.new W #[v] t).cell (0+0)).trans ?_;simpa using hj
 |succ j=>simp at hj
end
section
open Go.RowKit
theorem FT(w:World)(a:Option Addr)(c:Nat)(hc:c≤maxLen):Rd .i64 w (.slice a 0 c) []:=⟨a,c,rfl,by simp,fun h=>absurd rfl h,by simp,hc⟩
theorem uo{k:IntKind}{w:World}{a:Option Addr}{n c:Nat}{zs:List Int}(h:Rd k w (.slice a n c) zs):n=zs.length∧n≤c∧c≤maxLen:=by
 obtain⟨a',c',e,_,_,h3,h4⟩:=h;injection e with e1 e2 e3;subst e1 e2 e3;exact⟨rfl,h3,h4⟩
theorem uq{w:World}{a:Option Addr}{cap:Nat}{L:List Int}(h:Rd .i64 w (.slice a L.length cap) L)(lo hi l2 h2:Nat)(e1:l2=min lo L.length)(e2:h2=min hi L.length)(hlh:lo≤hi):
 ∃a',Rd .i64 w (.slice a' (h2-l2) (cap-l2)) (jx L lo hi)∧∀wx,(Instr.slice 45 (.slice a L.length cap) (some (.int .i64 (l2:Int))) (some (.int .i64 (h2:Int))) none).run prog wx=.ok (.slice a' (h2-l2) (cap-l2)) wx:=by
 obtain⟨i0,hi0,hz0,hz1,hz2⟩:=info_parts fX;obtain⟨_,hc1,hc2⟩:=uo h;refine⟨if cap=l2 then a else a.map (·.add (l2*1)),?_,fun wx=>?_⟩
 ·by_cases hm:l2<h2
  ·have hne:0<L.length:=(by omega);obtain⟨b,off,cp,e,hb,hlc,hcm,hcell⟩:=h.dJ hne;injection e with Xk e2' e3;subst Xk e3;have hr:=Rd.mS l2 (h2-l2) h (by omega) (by omega);have e4:jx L lo hi=(L.drop l2).take (h2-l2):=by
    unfold jx;have:l2=lo:=(by omega);rw[this,List.take_eq_take_iff,length_drop];omega
   rw[e4,if_neg (by omega),Option.map_some,Nat.mul_one,Addr.add_mid];exact hr
  ·have e4:jx L lo hi=[]:=by
    unfold jx;apply List.eq_nil_of_length_eq_zero;rw[length_take,length_drop];omega
   rw[e4,show h2-l2=0 by omega];exact FT _ _ _ (by omega)
 ·rw[run_slice_lh (P:=prog) (w:=wx) 45 _ _ cap (by rw[underlying45];rfl) .i64 .i64 (l2:Int) (h2:Int) (by omega) (by omega) (by omega)];simp[sizeOf,typeInfo,show prog.elem 45=3 by kernel_rfl,hi0,hz1,Result.andThen,sliced]
theorem yK(v:Value)(L:List Int)(lo hi:Nat)(w:World)(h:Rd .i64 w v L)(hlh:lo≤hi)(hhi:hi≤1048576)(hl:L.length≤1048576):
 Calls prog 70 #[v,.int .i64 (lo:Int),.int .i64 (hi:Int)] w fun e w'=>∃a n c,e=.returned (.slice a n c)∧Rd .i64 w (.slice a n c) (jx L lo hi)∧w'=w:=by
 obtain⟨a,cap,rfl⟩:=eY h;have HH:=aa h;clear h;by_cases g1:(L.length:Int)<(lo:Int)
 ·have g2:(L.length:Int)<(hi:Int):=by omega
  obtain⟨a',hr,hsl⟩:=uq HH.out lo hi L.length L.length (by omega) (by omega) hlh;have HP:=aa hr;clear hr hlh;go_enter func70,ntmps70;go_wp2;go_ret;exact⟨_,_,_,rfl,by have:=HP.out;rwa [Nat.sub_self] at this,rfl⟩
 ·by_cases g2:(L.length:Int)<(hi:Int)
  ·obtain⟨a',hr,hsl⟩:=uq HH.out lo hi lo L.length (by omega) (by omega) hlh;have HP:=aa hr;clear hr hlh;go_enter func70,ntmps70;go_wp2;go_ret;exact⟨_,_,_,rfl,HP.out,rfl⟩
  ·obtain⟨a',hr,hsl⟩:=uq HH.out lo hi lo hi (by omega) (by omega) hlh;have HP:=aa hr;clear hr hlh;go_enter func70,ntmps70;go_wp2;go_ret;exact⟨_,_,_,rfl,HP.out,rfl⟩
theorem FU(w:World)(p:Int):Rd .i64 (w.alloc (.cells #[.int .i64 p] 3)) (.slice (some ⟨w.heap.size,0,none⟩) 1 1) [p]:=by
 refine⟨_,_,rfl,by simp[maxLen],fun _=>⟨w.heap.size,0,rfl,by simp,fun i hi=>?_⟩,by simp,by unfold maxLen;omega⟩;have:i=0:=by simpa using hi
 subst this;exact((af.new w #[.int .i64 p] 3).cell 0).trans rfl
theorem ur{P:Program}(w:World){ops:Array Oper}{rest:List Oper}{o:Oper}{a:Act}{Q:Exit→Act→World→Prop}
 (hg:o.guard=none) (s x:Operand) (t:TypeId) (hop:o.op=Op.call {callee:=Callee.builtin Builtin.append,args:=#[s,x],argTypes:=#[t,t]})
 (base:Nat) (e:TypeId) (i:TypeInfo) (h1:P.underlying t=some (.slice e)) (h2:P.info? e=some i) (h3:i.zero=some (.int .i64 0)) (h4:i.size=1) (h5:i.bytes=8)
 (sv:Value) (n:Nat) (xs:List Int) (hs:a.eval s=sv) (hown:w.ownsRow base e 1 sv n (xs.map (Value.int .i64)))
 (v:Value) (zs:List Int) (hx:a.eval x=v) (hr:Rd .i64 w v zs) (hb:n+zs.length≤1000000) (hbase:base≤w.heap.size)
 (hK:∀a' c' m w',m=n+zs.length→w'.ownsRow base e 1 (.slice a' m c') m ((xs++zs).map (Value.int .i64))→Below base w w'→wpList P ops Q rest (a.put o.dst (.slice a' m c')) w'):
 wpList P ops Q (o::rest) a w:=by
 by_cases hz:0<zs.length
 ·obtain⟨bd,off,cp,rfl,hbw,_,_,hcell⟩:=hr.dJ hz;refine wpList_append_own_at _ hg s x t hop base e i (.int .i64 0) 1 8 h1 h2 h3 h4 h5 rfl (by decide) sv n _ hs hown ⟨bd,off,none⟩ zs.length cp (zs.map (Value.int .i64)) hx (by simp) (fun j u hj=>?_) (ints_oneCell _ _) (by unfold maxLen;omega) (by omega) hbase ?_
  ·have hjl:j<zs.length:=by
    rcases lt_or_ge j zs.length with h|h
    ·exact h
    ·rw[getElem?_eq_none (by simpa using h)] at hj;cases hj
   rw[Addr.add_mid,hcell j hjl];rw[getElem?_map,List.getElem?_eq_getElem hjl] at hj;simp at hj;rw[←hj];simp[getD,hjl]
  ·intro v' w' r1 r2 _ _;obtain⟨a',c',rfl⟩:=cG r1;exact hK a' c' _ w' rfl (by rw[map_append];exact r1) (ak.grown r2 hbase (fun r e=>(hown.lt r e).1))
 ·have hz0:zs=[]:=List.eq_nil_of_length_eq_zero (by omega);subst hz0;obtain⟨a3,c3,rfl⟩:∃a3 c3,v=.slice a3 0 c3:=by obtain⟨a3,c3,e3,_⟩:=hr;exact⟨a3,c3,e3⟩
  refine yy hg s x t hop base e i 1 h1 h2 _ n _ hs hown a3 c3 hx ?_;obtain⟨a',c',rfl⟩:=cG hown;exact hK a' c' n w (by simp) (by simpa using hown) ak
theorem q8(L:List Int)(k:Nat)(h:k<L.length):jd (L.take (k+1))=jd (L.take k)++(if L.getD k 0=0 then [] else [L.getD k 0]):=by
 rw[List.take_succ_eq_append_getElem h,DM,DN];simp[getD,h]
theorem FV(L:List Int):(jd L).length≤L.length:=List.length_filter_le _ _
theorem FW(v:Value)(L:List Int)(w:World)(h:Rd .i64 w v L)(hl:L.length≤100000):
 Calls prog 142 #[v] w fun e w'=>∃v',e=.returned v'∧w'.ownsRow w.heap.size 3 1 v' (jd L).length ((jd L).map (Value.int .i64))∧Below w.heap.size w w':=by
 obtain⟨i0,hi,hz0,hz1,hz2⟩:=info_parts fX;obtain⟨a,cap,rfl⟩:=eY h;have HR:=aa h;have HT:=aa (ai hi (ai hz0 (ai hz1 hz2)));clear h hi hz0 hz1 hz2;go_enter func142,ntmps142;go_upto_region 2 with fail;obtain⟨W5,Ph⟩:∃W5,W5=w.alloc (.cells #[] 3):=⟨_,rfl⟩;rw[←Ph];have B5:=ae (Below w.heap.size w W5) (by rw[Ph];exact ak.alloc aj _);have O5:=ae (W5.ownsRow w.heap.size 3 1 (.slice (some ⟨w.heap.size,0,none⟩) 0 0) 0 []) (by rw[Ph];exact j5 w _ _);clear Ph;go_wp2;go_loopw [9,3] (fun kv ou wr=>∃(i M:Nat) (oa:Option Addr) (oc:Nat),M=(jd (L.take i)).length∧i≤L.length∧kv=.int .i64 (i:Int)∧ou=.slice oa M oc∧wr.ownsRow w.heap.size 3 1 ou M ((jd (L.take i)).map (Value.int .i64))∧Below w.heap.size w wr) (fun kv _ _=>L.length-(intOf kv).toNat)
 case atStart=>exact⟨0,0,_,_,rfl,Nat.zero_le _,rfl,rfl,O5.out,B5.out⟩
 case round=>
  obtain⟨i,M,oa,oc,hM,hi1,rfl,rfl,ho,hb⟩:=hrel;clear O5 B5;have hM2:M≤i:=by rw[hM];refine aK (FV _) ?_;rw[length_take];omega
  have HI:=aa (ai ho (ai hM hb));clear ho hM hb;by_cases hi2:i<L.length
  ·obtain⟨b,off,cp,e,_,_,_,hcell⟩:=(HR.out.below HI.out.2.2).dJ (by omega);injection e with e1 e2 e3;subst e1 e3;have cx:=hcell i hi2;obtain⟨x,hx⟩:∃x,x=L.getD i 0:=⟨_,rfl⟩;rw[←hx] at cx;have HX:=aa hx;have Uk:(i:Int)<(L.length:Int):=(by omega);clear hcell hx e2;by_cases hx0:x=0
   ·have hx1:(x !=0)=false:=(by simp[hx0]);go_wp2;go_roundw
    case rel=>exact⟨i+1,M,oa,oc,by rw[q8 L i hi2, ←HX.out,if_pos hx0,append_nil];exact HI.out.2.1,by omega,by go_num,rfl,by rw[q8 L i hi2, ←HX.out,if_pos hx0,append_nil];exact HI.out.1,HI.out.2.2⟩
    case measure=>simp[intOf];omega
   ·have hx1:(x !=0)=true:=(by simp[hx0]);have Qc:=aa HI.out.2.2.size;go_wp2_with (first
     |(at_builtin;refine ur _ rfl (.tmp 15) (.tmp 17) 45 rfl w.heap.size 3 i0 underlying45 HT.out.1 HT.out.2.1 HT.out.2.2.1 HT.out.2.2.2 (.slice oa M oc) M _ rfl (HI.out.1.alloc _) _ [x] rfl (FU _ _) (by simp;omega) (by have:=Qc.out;simp;omega) ?_;intro OC OE m8 w8 e8 o8 b8;have H8:=aa (ai o8 b8);simp only[List.length_cons,List.length_nil] at e8;have E8:=aa e8;clear o8 b8 e8))
    go_roundw
    case rel=>exact⟨i+1,m8,OC,OE,by rw[q8 L i hi2, ←HX.out,if_neg hx0,length_append];have:=HI.out.2.1;have:=E8.out;simp;omega,by omega,by go_num,rfl,by rw[q8 L i hi2, ←HX.out,if_neg hx0];exact H8.out.1,(HI.out.2.2.alloc (Qc.out) _).trans H8.out.2⟩
    case measure=>simp[intOf];omega
  ·have hi3:i=L.length:=(by omega);subst hi3;clear hi2;go_wp2;go_ret;have e:=HI.out.2.1;have o:=HI.out.1;rw[List.take_length] at e o;refine⟨_,rfl,?_,HI.out.2.2⟩;rw[←e];exact o
def yL:Value→Nat
 |.slice _ n _=>n
 |_=>0
theorem nX(w:World)(z:Int):∀j u,[Value.int .i64 z][j]?=some u→(w.alloc (.cells #[.int .i64 z] 3)).cell? (Addr.add ⟨w.heap.size,0,none⟩ j)=some u:=by
 intro j u h;rw[Addr.add_mid,zero_add,(af.new w #[.int .i64 z] 3).cell j];simpa using h
theorem FX(ws:List Int)(N k:Nat):(range N).map (fun j=>ws.getD (k+j) 0)=(ws.drop k).take N++replicate (N-((ws.drop k).take N).length) 0:=by
 apply List.ext_getElem?;intro j;rcases lt_or_ge j N with hj|hj
 ·rw[getElem?_map,List.getElem?_range hj,Option.map_some];rcases lt_or_ge (k+j) ws.length with h|h
  ·rw[List.getElem?_append_left (by rw[length_take,length_drop];omega),List.getElem?_take,if_pos (by omega),List.getElem?_drop];simp[getD,h]
  ·rw[List.getElem?_append_right (by rw[length_take,length_drop];omega),List.getElem?_replicate,if_pos (by rw[length_take,length_drop];omega)];simp[getD,getElem?_eq_none h]
 ·rw[getElem?_eq_none (by rw[List.length_map,List.length_range];omega),getElem?_eq_none (by rw[length_append,List.length_replicate,length_take,length_drop];omega)]
theorem FY(ws:List Int)(k:Nat):ej ws k=jx ws (128*k) (128*k+128)++replicate (128-(jx ws (128*k) (128*k+128)).length) 0:=by
 unfold ej jx;rw[show 128*k+128-128*k=128 by omega];exact FX ws 128 (128*k)
theorem uu(v:Value)(ws:List Int)(k:Nat)(w:World)(h:Rd .i64 w v ws)(hk:k≤17)(hl:ws.length≤2048):
 Calls prog 38 #[v,.int .i64 (k:Int)] w fun e w'=>∃v',e=.returned v'∧w'.ownsRow w.heap.size 3 1 v' 128 ((ej ws k).map (Value.int .i64))∧Below w.heap.size w w':=by
 obtain⟨a,cap,rfl⟩:=eY h;obtain⟨i0,hi,hz0,hz1,hz2⟩:=info_parts fX;have HC:=aa (fun(W:World) (hb:Below w.heap.size w W)=>yK (.slice a ws.length cap) ws (128*k) (128*k+128) W (h.below hb) (by omega) (by omega) (by omega));obtain⟨cs,hcs⟩:∃cs,cs=jx ws (128*k) (128*k+128):=⟨_,rfl⟩;rw[←hcs] at HC;have HP:=aa (FY ws k);rw[←hcs] at HP;have hcl:cs.length≤128:=by rw[hcs];unfold jx;rw[length_take];omega
 clear h hcs;obtain⟨lo,hlo⟩:∃lo,lo=128*k:=⟨_,rfl⟩;obtain⟨kl,hkl⟩:∃kl,kl=ws.length:=⟨_,rfl⟩;have B1:=ae (Below w.heap.size w (w.alloc (.cells #[] 3))) (ak.alloc aj _);have HO:=ae ((w.alloc (.cells #[] 3)).ownsRow w.heap.size 3 1 (.slice (some ⟨w.heap.size,0,none⟩) 0 0) 0 (([]:List Int).map (Value.int .i64))) (j5 w 3 1);have Pj:=ae (Calls prog 70 #[.slice a kl cap,.int .i64 (128*(k:Int)),.int .i64 (128*(k:Int)+128)] (w.alloc (.cells #[] 3)) fun e w'=>∃a' n c,e=.returned (.slice a' n c)∧Rd .i64 (w.alloc (.cells #[] 3)) (.slice a' n c) cs∧w'=w.alloc (.cells #[] 3)) (by
  have h:=HC.out _ B1.out;rw[←hkl,show((128*k:Nat):Int)=128*(k:Int) by omega,show((128*k+128:Nat):Int)=128*(k:Int)+128 by omega] at h;exact h)
 rw[←hkl];clear hlo hkl HC hl;go_enter func38,ntmps38;go_upto_region 2 with(first
  |(
   go_at_call 70
   refine Pj.out.mono ?_;rintro e w1 ⟨ca,cn,cc,rfl,hr,hw1⟩;rw[hw1];have Pz:=aa hr;clear hr hw1)
  |(
   at_builtin;refine ur _ rfl (.tmp 6) (.tmp 13) 45 rfl w.heap.size 3 i0 underlying45 hi hz0 hz1 hz2 _ 0 [] rfl HO.out _ cs rfl Pz.out (by omega) (by simp) ?_
   intro ra rc m2 w2 hm2 o2 b2;have H2:=aa (ai hm2 (ai o2 b2));clear hm2 o2 b2)
  |fail)
 go_wp2;go_loopw [5] (fun v wr=>∃(m:Nat) (xa:Option Addr) (xc:Nat),cs.length≤m∧m≤128∧v=.slice xa m xc∧Hid (wr.ownsRow w.heap.size 3 1 (.slice xa m xc) m ((cs++replicate (m-cs.length) 0).map (Value.int .i64))∧Below w.heap.size w wr)) (fun v _=>128-yL v)
 case atStart=>exact⟨m2,ra,rc,by have:=H2.out.1;omega,by have:=H2.out.1;omega,rfl,aa ⟨by have h:=H2.out.2.1;have e:=H2.out.1;rw[show m2-cs.length=0 by omega,List.replicate_zero,append_nil];rw[nil_append] at h;exact h,B1.out.trans H2.out.2.2⟩⟩
 case round=>
  obtain⟨m,xa,xc,hm1,hm2,rfl,HI⟩:=hrel;by_cases hlt:m<128
  ·have N4:(m:Int)<128:=(by omega);have HR:=aa (HI.out.1.alloc (.cells #[.int .i64 0] 3));have B4:=ae (Below w.heap.size w (wr.alloc (.cells #[.int .i64 0] 3))) (HI.out.2.trans ((ak.alloc aj _).mono HI.out.2.size));have hws:w.heap.size≤wr.heap.size:=HI.out.2.size;go_wp2_with (first
    |(
     at_builtin;refine wpList_append_own_at _ rfl (.tmp 18) (.tmp 19) 45 rfl w.heap.size 3 i0 (.int .i64 0) 1 8 underlying45 hi hz0 hz1 hz2 rfl (by decide) (.slice xa m xc) m _ rfl HR.out ⟨wr.heap.size,0,none⟩ 1 1 [.int .i64 0] rfl rfl (nX wr 0) (by intro y hy;simp at hy;rcases hy with rfl;rfl) (by unfold maxLen;omega) (by omega) (by simp;omega) ?_
     intro v4 w4 o4 g4 _ _;obtain⟨va,vc,rfl⟩:=cG o4;have H4:=aa (ai o4 g4);clear o4 g4)
    |fail)
   go_roundw
   case rel=>
    refine⟨m+1,va,vc,by omega,by omega,rfl,aa ⟨?_,B4.out.grown H4.out.2 B4.out.size (fun r e=>(HR.out.lt r e).1)⟩⟩;have h:=H4.out.1;rw[show m+1-cs.length=(m-cs.length)+1 by omega,List.replicate_succ', ←List.append_assoc,map_append];exact h
   case measure=>simp[yL];omega
  ·have N4:¬((m:Int)<128):=(by omega);obtain rfl:m=128:=(by omega);go_wp2;go_ret;exact⟨_,rfl,by have h:=HI.out.1;rw[HP.out];exact h,HI.out.2⟩
end
section
open Go.RowKit
section
variable {P:Program}
theorem q9(w:World){e:TypeId}{k:IntKind}(he:P.underlying e=some (.int k)){xs:Array Value}{off:Nat}{v:Value}(hx:xs[off]?=some v):(part e xs off).run P w=.ok v w:=by
 simp[part,isAgg,run_underlying he,hx]
theorem yM(w:World){d:Nat}{e:TypeId}{c:Nat}{xs ys:Array Value}{i:Nat}{is:List Nat}{a b:Value}{r r':Bool}(h1:(part e xs (i*c)).run P w=.ok a w)(h2:(part e ys (i*c)).run P w=.ok b w)
 (h3:(Op.equalIn d e a b).run P w=.ok r w) (h4:(Op.eqItems d e c xs ys is).run P w=.ok r' w):(Op.eqItems d e c xs ys (i::is)).run P w=.ok (r&&r') w:=by
 simp only[Op.eqItems,Sem.run_bind,h1,h2,h3,Result.andThen_ok];cases r
 ·simp
 ·simpa using h4
end
def dI(ks:List Int)(s:Int)(ds:List Int)(p q:Int):List Int:=ks++aD s ds p q
theorem yN(ks:List Int)(s:Int)(ds:List Int)(p q:Int)(hk:ks.length=9)(hd:ds.length=12):(dI ks s ds p q).length=24:=by
 unfold dI;rw[length_append,dw s ds p q hd,hk]
theorem iC:(prog.info? 33).map (·.size)=some 24:=by kernel_rfl
def rf(l:List Int):Bool:=l.all fun x=>x==0
theorem yO(l:List Int):rf l=true↔∀x∈l,x=0:=by simp[rf]
theorem FZ(k0 k1 k2 k3 k4 k5 k6 k7 k8 s:Int)(ds:List Int)(p q:Int)(hd:ds.length=12){w:World}{b:Nat}{t:TypeId}(h:af w b (an (dI [k0,k1,k2,k3,k4,k5,k6,k7,k8] s ds p q)) t):w.rangeAt b 9 ((aD s ds p q).map (Value.int .i64)):=by
 have hr:=h.range 9 15 (by rw[yN _ _ _ _ _ rfl hd];omega);have e:((dI [k0,k1,k2,k3,k4,k5,k6,k7,k8] s ds p q).drop 9).take 15=aD s ds p q:=by
  have hl:=dw s ds p q hd;simp only[dI,List.drop_append,List.length_cons,List.length_nil,List.drop_succ_cons,List.drop_nil,nil_append,Nat.sub_self,List.drop_zero];exact List.take_of_length_le (by omega)
 rw[e] at hr;exact hr
end
end Go.Proofs.YtpplnhkpcpieoaaGreatDoor
