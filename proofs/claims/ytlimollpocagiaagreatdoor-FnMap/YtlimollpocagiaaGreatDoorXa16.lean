/- Copies by append to an empty literal -/
import Derived.Test.YtlimollpocagiaaGreatDoorXa15
namespace Go.Proofs.YtlimollpocagiaaGreatDoor
open Go.Proofs.Tryz
open _root_.List (getD range length_take)
open _root_.Bool (and_eq_true)
set_option linter.all false
set_option maxRecDepth 100000
set_option maxHeartbeats 16000000
section
open Go.RowKit
theorem gN(w:World)(e:TypeId)(sz:Nat):(w.alloc (.cells #[] e)).ownsRow w.heap.size e sz (.slice (some ⟨w.heap.size,0,none⟩) 0 0) 0 []:=
 ⟨by simp,.inr ⟨w.heap.size,0,#[],rfl,aj,heap_alloc_new w _,aj,by simp,by simp,by simp⟩⟩
theorem AB{P:Program}{w:World}(base:Nat)(t ty e:TypeId)(i:TypeInfo)(size:Nat)(ht:P.underlying t=some (.slice e))(hi:P.info? e=some i)
 (v:Value) (n:Nat) (xs:List Value) (hown:w.ownsRow base e size v n xs) (a:Option Addr) (c:Nat):
 (Builtin.append_ #[t,t] ty #[v,.slice a 0 c]).run P w=.ok v w:=by
 rcases hown.2 with⟨rfl,rfl⟩|⟨g,cap,cur,rfl,_,_,hnc,_⟩
 ·cases a<;>simp[Builtin.append_,run_underlying ht,sizeOf,typeInfo,hi,Builtin.lenOf,Builtin.firstCells,loadCells,loadCellsFrom]
 ·cases a<;>simp[Builtin.append_,run_underlying ht,sizeOf,typeInfo,hi,Builtin.lenOf,Builtin.firstCells,hnc,storeCells,loadCells,loadCellsFrom]
theorem uw{P:Program}{w:World}{ops:Array Oper}{rest:List Oper}{o:Oper}{a:Act}{Q:Exit→Act→World→Prop}(hgd:o.guard=none)(s x:Operand)(t:TypeId)
 (ho:o.op=.call {callee:=.builtin .append,args:=#[s,x],argTypes:=#[t,t]})
 (base:Nat) (e:TypeId) (i:TypeInfo) (size:Nat) (ht:P.underlying t=some (.slice e)) (hi:P.info? e=some i)
 (v:Value) (n:Nat) (xs:List Value) (hs:a.eval s=v) (hown:w.ownsRow base e size v n xs) (ad:Option Addr) (c:Nat) (hx:a.eval x=.slice ad 0 c)
 (h:wpList P ops Q rest (a.put o.dst v) w):wpList P ops Q (o::rest) a w:=by
 refine wpList_plain hgd fun K hK=>?_;have hrun:=AB (P:=P) (w:=w) base t o.type e i size ht hi v n xs hown ad c;unfold Oper.wp;simp[execOp,ho,resolve,invoke,builtin,hs,hx,hrun,Result.andThen];exact hK _ _ h
theorem qv{P:Program}(w:World){ops:Array Oper}{rest:List Oper}{o:Oper}{a:Act}{Q:Exit→Act→World→Prop}
 (hg:o.guard=none) (s x:Operand) (t:TypeId) (hop:o.op=Op.call {callee:=Callee.builtin Builtin.append,args:=#[s,x],argTypes:=#[t,t]})
 (e:TypeId) (i:TypeInfo) (z:Value) (size bytes:Nat) (h1:P.underlying t=some (.slice e)) (h2:P.info? e=some i) (h3:i.zero=some z) (h4:i.size=size) (h5:i.bytes=bytes) (h6:z.cells.size=size) (h7:0<size)
 (hs:a.eval s=.slice (some ⟨w.heap.size,0,none⟩) 0 0) (ad:Option Addr) (m c:Nat) (xs:List Value) (hx:a.eval x=.slice ad m c) (hl:xs.length=m*size)
 (hr:0<m→∃bd off,ad=some ⟨bd,off,none⟩∧bd<w.heap.size∧∀j u,xs[j]?=some u→w.cell? ⟨bd,off+j,none⟩=some u) (hone:∀u∈xs,u.oneCell'=true) (hm:m≤maxLen) (hb:m*bytes≤140737488355328)
 (hK:∀v' w',w'.ownsRow w.heap.size e size v' m xs→Below w.heap.size w w'→wpList P ops Q rest (a.put o.dst v') w'):
 wpList P ops Q (o::rest) a (w.alloc (.cells #[] e)):=by
 have hB:Below w.heap.size w (w.alloc (.cells #[] e)):=ak.alloc aj _;have hO:=gN w e size;by_cases hp:0<m
 ·obtain⟨bd,off,rfl,hbd,hc⟩:=hr hp;refine zA (w.alloc (.cells #[] e)) hg s x t hop w.heap.size e i z size bytes h1 h2 h3 h4 h5 h6 h7 _ 0 [] hs hO ⟨bd,off,none⟩ m c xs hx hl (fun j u hj=>?_) hone hp (by omega) (by rw[Nat.zero_add];exact hb) (by simp) ?_
  ·rw[Addr.add_mid];exact(hB.cell (p:=⟨bd,off+j,none⟩) hbd).trans (hc j u hj)
  ·intro v' w' r1 r2 _;rw[Nat.zero_add,List.nil_append] at r1;exact hK v' w' r1 (hB.grown r2 hB.size (fun k e=>by cases e;exact aj))
 ·obtain rfl:m=0:=by omega
  have hx0:xs=[]:=List.eq_nil_of_length_eq_zero (by omega);subst hx0;refine uw hg s x t hop w.heap.size e i size h1 h2 _ 0 [] hs hO ad c hx ?_;exact hK _ _ hO hB
theorem Rd.ux{w:World}{a:Option Addr}{cap:Nat}{zs:List Int}(h:Rd .u8 w (.slice a zs.length cap) zs):0<zs.length→∃bd off,a=some ⟨bd,off,none⟩∧bd<w.heap.size∧∀j u,(zs.map (Value.int .u8))[j]?=some u→w.cell? ⟨bd,off+j,none⟩=some u:=by
 intro hn;obtain⟨bd,off,cp,e,hbw,_,_,hcell⟩:=h.dj hn;injection e with e1 e2 e3;refine⟨bd,off,e1,hbw,fun j u hu=>?_⟩;rw[List.getElem?_map] at hu;have hj:j<zs.length:=by
  rcases Nat.lt_or_ge j zs.length with h|h
  ·exact h
  ·rw[List.getElem?_eq_none h] at hu;cases hu
 rw[hcell j hj];rw[List.getElem?_eq_getElem hj] at hu;simp at hu;rw[←hu];simp[getD,hj]
end
section
open Go.RowKit
theorem uy{W W':World}{b1 b2 n m:Nat}{e1 e2:TypeId}{u v:Value}{L M:List Value}(hu:W.ownsRow b1 e1 1 u n L)(hv:W.ownsRow b2 e2 1 v m M)(hne:e1≠e2)(hg:W.grownBy W' v.ownBlock):W'.ownsRow b1 e1 1 u n L:=by
 refine hu.kept hg ?_;cases hb:u.ownBlock with
 |none=>exact .inl rfl
 |some g=>
  refine .inr fun e=>?_;rcases hu.2 with⟨rfl,_⟩|⟨g1,cap,cur,rfl,_,hg1,_⟩
  ·simp[Value.ownBlock] at hb
  ·simp[Value.ownBlock] at hb;subst hb;exact iW hv (show af W g1 cur e1 from hg1) hne e.symm
def iX(zs:List Int)(D:Nat→Int)(i:Nat):List Int:=(range i).flatMap (fun j=>iw zs (D j))
theorem uz(zs:List Int)(D:Nat→Int)(i:Nat):iX zs D (i+1)=iX zs D i++iw zs (D i):=by
 unfold iX;rw[List.range_succ,List.flatMap_append];simp
theorem nP{zs:List Int}{p:Int}(h:be (zs.length/512) p=true):(iw zs p).length=512:=by
 unfold iw;by_cases h0:p=0
 ·rw[if_pos h0,List.length_replicate]
 ·rw[if_neg h0];have:=ke h h0;unfold aV;rw[length_take,List.length_drop];omega
theorem uA{zs:List Int}{D:Nat→Int}:∀(i:Nat),(∀j,j<i→be (zs.length/512) (D j)=true)→(iX zs D i).length=i*512
 |0,_=>by simp[iX]
 |i+1,h=>by rw[uz,List.length_append,uA i (fun j hj=>h j (by omega)),nP (h i (by omega))];omega
theorem AD{k:IntKind}{w:World}{a:Option Addr}{n c:Nat}{zs:List Int}(h:Rd k w (.slice a n c) zs)(m:Nat)(hm:m≤zs.length):Rd k w (.slice a m c) (zs.take m):=by
 obtain⟨a',c',e,h1,h2,h3,h4⟩:=h;injection e with e1 e2 e3;subst e1 e2 e3;have hl:(zs.take m).length=m:=by rw[length_take];omega
 refine⟨a,c,by rw[hl],by omega,fun hne=>?_,by omega,h4⟩;obtain⟨b,off,hb,hlt,hc⟩:=h2 (fun e=>hne (by rw[e];simp));refine⟨b,off,hb,hlt,fun i hi=>?_⟩;rw[hl] at hi;rw[hc i (by omega)];simp[getD,hi]
theorem AE{k:IntKind}{w:World}{a:Option Addr}{m c:Nat}{zs:List Int}(h:Rd k w (.slice a m c) zs):(zs.map (Value.int k)).length=m*1:=by
 obtain⟨a',c',e,_⟩:=h;injection e with e1 e2 e3;simp[e2]
theorem AF{w:World}{a:Option Addr}{m c:Nat}{zs:List Int}(h:Rd .u8 w (.slice a m c) zs):0<m→∃bd off,a=some ⟨bd,off,none⟩∧bd<w.heap.size∧∀j u,(zs.map (Value.int .u8))[j]?=some u→w.cell? ⟨bd,off+j,none⟩=some u:=by
 have e:m=zs.length:=by
  obtain⟨a',c',e,_⟩:=h;injection e
 subst e;exact Rd.ux h
open Classical in
noncomputable def mrC (zs:List Int) (s:Int) (ds:List Int) (p q:Int):Int:=if gC zs s ds p q≠0 then 7 else if fM ((s.toNat+511)/512) (zs.length/512) (aJ zs) (fun i=>ds.getD i 0) p q then 0 else 21
open Classical in
noncomputable def mrB (zs:List Int) (s:Int) (ds:List Int) (p q:Int):List Int:=if gC zs s ds p q=0∧fM ((s.toNat+511)/512) (zs.length/512) (aJ zs) (fun i=>ds.getD i 0) p q then(iX zs (bC (aJ zs) (fun i=>ds.getD i 0) p q) ((s.toNat+511)/512)).take s.toNat else []
theorem uB(zs:List Int)(s:Int)(ds:List Int)(p q:Int):gC zs s ds p q=0∨gC zs s ds p q=7:=by unfold gC;split<;>simp
theorem uC{zs:List Int}{s:Int}{ds:List Int}{p q:Int}(h:gC zs s ds p q=0):0≤s∧s≤262144:=by
 unfold gC at h;split at h
 ·rename_i hr
  have:=hr.2;unfold cA at this;simp only[and_eq_true,decide_eq_true_eq] at this;exact this.1
 ·cases h
theorem AG(img:Value)(zs:List Int)(s:Int)(ds:List Int)(p q:Int)(w:World)(h:Rd .u8 w img zs)(h1:zs.length≤1048576)(hbd:∀z∈zs,0≤z∧z<256)(hd:ds.length=12):
 Calls prog 34 #[img,.agg (aB (aD s ds p q))] w fun e w'=>∃v,e=.returned (.tuple #[v,.int .i64 (mrC zs s ds p q)])∧w'.ownsRow w.heap.size 5 1 v (mrB zs s ds p q).length ((mrB zs s ds p q).map (Value.int .u8))∧Below w.heap.size w w':=by
 obtain⟨i0,hi,hz0,hz1,hz2⟩:=info_parts iR;have HR:=aa (ag h (ag hbd hd));have HZ:=ae ((aB (aD s ds p q)).size=15) (by rw[fc];exact eR s ds p q hd);obtain⟨sa,sc,rfl⟩:=dZ h;clear h hbd hd;have HB0:=ae (Below w.heap.size w (w.alloc (.cells (aB (aD s ds p q)) 28))) (ak.alloc aj _);have K0:=aa (af.new w (aB (aD s ds p q)) 28);generalize hW0:w.alloc (.cells (aB (aD s ds p q)) 28)=W0 at HB0 K0;have HW0:=aa hW0;clear hW0;rcases uB zs s ds p q with hf|hf
 ·obtain⟨hs0,hs1⟩:=uC hf;obtain⟨sz,rfl⟩:∃sz:Nat,s=(sz:Int):=⟨s.toNat,by omega⟩;have HF:=aa hf;clear hf hs0;obtain⟨cnt,hcnt⟩:∃cnt,cnt=(sz+511)/512:=⟨_,rfl⟩;have HCn:=aa hcnt;have hcn:cnt≤512:=by omega
  have hszc:sz≤cnt*512:=by omega
  clear hcnt;go_enter func34,ntmps34;go_upto_region 1 with fail;rw[HW0.out];go_upto_region 4 with(first
   |(refine wpList_load_row rfl 28 _ rfl w.heap.size rfl 28 (aB (aD (sz:Int) ds p q)) (0,0) _ K0.out underlying28 rfl (by rw[HZ.out];exact dr) ?_)
   |(go_at_call 46;refine(nw _ zs (sz:Int) ds p q _ (HR.out.1.below HB0.out) h1 HR.out.2.2).mono ?_;rintro e w2 ⟨rfl,b2⟩;rw[HF.out];have H2:=aa b2;have K2:=aa (K0.out.below b2 K0.out.lt);have BW2:=aa (HB0.out.trans (b2.mono HB0.out.size));clear b2))
  go_wp2_with (first
   |(refine wpList_load_row rfl 28 _ rfl w.heap.size rfl 28 (aB (aD (sz:Int) ds p q)) (0,0) _ K2.out underlying28 rfl (by rw[HZ.out];exact dr) ?_)
   |(go_at_call 33;fail))
  refine(qu _ zs sz ds p q _ cnt (HR.out.1.below BW2.out) h1 HR.out.2.1 HR.out.2.2 (by omega) HCn.out).mono ?_;rintro e w3 ⟨(⟨hap,dv,iv,ov,sv,wv,rfl,hone,o3,_⟩|⟨hnap,rfl⟩),b3⟩
  ·have BW3:=aa (BW2.out.trans (b3.mono BW2.out.size));have K3:=aa (K2.out.below b3 K2.out.lt);obtain⟨da,dc,rfl⟩:=bK o3;have O3:=aa (bZ o3 BW2.out.size);have HAp:=aa hap;have HOne:=aa hone;clear hap o3 b3 hone;obtain⟨T,hT⟩:∃T,T=cH (.slice da cnt dc) p q iv ov sv wv true:=⟨_,rfl⟩;have hT0:T[0]?=some (.slice da cnt dc):=(by rw[hT];rfl);have hT7:T[7]?=some (.bool true):=(by rw[hT];rfl);have hTs:T.size=8:=(by rw[hT];rfl);rw[←hT] at HOne⊢;have HTs:=aa hTs;clear hT hTs;go_upto_region 5 with(first
    |(refine wpList_store_row rfl 73 _ _ rfl w3.heap.size T rfl rfl 73 _ (af.new w3 _ _) (by rw[HTs.out];exact fI) (by rw[HTs.out];rfl) HOne.out ?_))
   generalize hW4:World.setRow _ w3.heap.size T=W4;have K4:=ae (af W4 w3.heap.size T 73) (by rw[←hW4];exact(af.new w3 _ _).row _);have B4:=ae (Below w3.heap.size w3 W4) (by rw[←hW4];exact below_setRow (ak.alloc aj _) aj _);clear hW4;have c0:=(K4.out.cell 0).trans hT0;have c7:=(K4.out.cell 7).trans hT7;go_upto_region 8 with fail;obtain⟨W5,hW5⟩:∃W5,W5=W4.alloc (.cells #[] 5):=⟨_,rfl⟩;rw[←hW5];have B5:=ae (Below W4.heap.size W4 W5) (by rw[hW5];exact ak.alloc aj _);have O5:=ae (W5.ownsRow W4.heap.size 5 1 (.slice (some ⟨W4.heap.size,0,none⟩) 0 0) 0 []) (by rw[hW5];exact gN W4 _ _);have B35:=ae (Below w3.heap.size w3 W5) (B4.out.trans (B5.out.mono B4.out.size));have BW5:=aa (BW3.out.trans (B35.out.mono BW3.out.size));have K5:=aa (K3.out.below B35.out K3.out.lt);have O35:=aa (aY O3.out B35.out);have c0':W5.cell? ⟨w3.heap.size,0,none⟩=some (.slice da cnt dc):=(B5.out.cell (p:=⟨w3.heap.size,0,none⟩) K4.out.lt).trans c0;have hb4:=BW3.out.size;have hb5:=B4.out.size;clear hW5 c0 c7 hT0 hT7;go_wp2;go_loopw [27,8] (fun kv ou wr=>∃(i M:Nat) (oa:Option Addr) (oc:Nat),M=i*512∧i≤cnt∧kv=.int .i64 (i:Int)∧ou=.slice oa M oc∧wr.ownsRow w.heap.size 5 1 ou M ((iX zs (bC (aJ zs) (fun i=>ds.getD i 0) p q) i).map (Value.int .u8))∧wr.ownsRow w.heap.size 3 1 (.slice da cnt dc) cnt (((range cnt).map (bC (aJ zs) (fun i=>ds.getD i 0) p q)).map (Value.int .i64))∧af wr w.heap.size (aB (aD (sz:Int) ds p q)) 28∧Below w.heap.size w wr) (fun kv _ _=>cnt-(intOf kv).toNat)
   case atStart=>exact⟨0,0,_,_,rfl,Nat.zero_le _,rfl,rfl,bZ O5.out (by omega),O35.out,K5.out,BW5.out⟩
   case round=>
    obtain⟨i,M,oa,oc,hM,hi1,rfl,rfl,ho,hdv,hk,hb⟩:=hrel;clear O5 O35 K5 BW5 B35 B5 c0';have HI:=aa (ag ho (ag hdv (ag hk hb)));have HM:=aa hM;have hM2:M≤262144:=(by omega);clear ho hdv hk hb hM;by_cases hi2:i<cnt
    ·obtain⟨gd,cd,ed,_,hcd⟩:=jo HI.out.2.1 (by omega);injection ed with ed1 ed2 ed3;subst ed1;have cx:=hcd i hi2;rw[show((range cnt).map (bC (aJ zs) (fun i=>ds.getD i 0) p q)).getD i 0=(bC (aJ zs) (fun i=>ds.getD i 0) p q) i by simp[getD,hi2]] at cx;obtain⟨x,hx⟩:∃x,x=(bC (aJ zs) (fun i=>ds.getD i 0) p q) i:=⟨_,rfl⟩;rw[←hx] at cx;have HX:=aa hx;have HGx:=ae (be (zs.length/512) x=true) (by rw[hx];exact HAp.out.2.2.2.2 i hi2);have hiI:(i:Int)<(cnt:Int):=(by omega);clear hcd hx ed2 ed3;go_wp2_with (first
      |(go_at_call 81;refine(zB _ zs x _ (HR.out.1.below HI.out.2.2.2) h1 HGx.out).mono ?_;rintro e w7 ⟨v7,rfl,r7,b7⟩;obtain⟨bd,off,cp,rfl,hbd,_,_,hcell⟩:=r7.dj (by rw[nP HGx.out];omega);have H7:=aa (ag hcell b7);have hl7:=nP HGx.out;rw[hl7];have O7:=aa (aY HI.out.1 b7);clear r7 b7 hcell hl7)
      |(at_builtin;refine wpList_append_own_at _ rfl (.tmp 31) (.tmp 34) 22 rfl w.heap.size 5 i0 (.int .u8 0) 1 1 underlying22 hi hz0 hz1 hz2 rfl (by decide) (.slice oa M oc) M _ rfl O7.out ⟨bd,off,none⟩ 512 cp ((iw zs x).map (Value.int .u8)) rfl (by rw[List.length_map,nP HGx.out]) (fun j u hj=>by
       rw[Addr.add_mid];have hjl:j<(iw zs x).length:=by
        rcases Nat.lt_or_ge j (iw zs x).length with h|h
        ·exact h
        ·rw[List.getElem?_eq_none (by simpa using h)] at hj;cases hj
       rw[H7.out.1 j hjl];rw[List.getElem?_map,List.getElem?_eq_getElem hjl] at hj;simp at hj;rw[←hj];simp[getD,hjl]) (ints_oneCell _ _) (by unfold maxLen;omega) (by omega) (aN HI.out.2.2.2.size H7.out.2.size) ?_;intro v8 w8 o8 g8 _ a8;obtain⟨va8,vc8,rfl⟩:=bK o8;have H8:=aa (ag o8 g8);clear o8 g8 a8))
     have HD8:=aa (uy (aY HI.out.2.1 H7.out.2) O7.out (by decide) H8.out.2);have HK8:=aa (jT O7.out (HI.out.2.2.1.below H7.out.2 HI.out.2.2.1.lt) (by decide) H8.out.2);have HB8:=aa ((HI.out.2.2.2.trans (H7.out.2.mono HI.out.2.2.2.size)).grown H8.out.2 (aN HI.out.2.2.2.size H7.out.2.size) (fun r e=>(O7.out.lt r e).1));go_roundw
     case rel=>exact⟨i+1,M+512,va8,vc8,by have:=HM.out;omega,by omega,by go_num,rfl,by rw[uz,List.map_append, ←HX.out];exact H8.out.1,HD8.out,HK8.out,HB8.out⟩
     case measure=>simp[intOf];omega
    ·have hi3:i=cnt:=(by omega);subst hi3;clear hi2;have cz:=((HI.out.2.2.1.alloc (.cells #[] 5)).cell 0).trans (show _=some (.int .i64 (sz:Int)) by simp[aB,aD]);have hlen:=uA i HAp.out.2.2.2.2;have hocap:M≤oc:=by
      have hr:=Rd.own (k:=.u8) HI.out.1;obtain⟨a',c',e,_,_,hle,_⟩:=hr;injection e with e1 e2 e3;have:=HM.out;omega
     have HRs:=aa (AD (Rd.own (k:=.u8) HI.out.1) sz (by have:=HM.out;omega));have hszM:(sz:Int)≤(oc:Int):=(by have:=HM.out;omega);have hsz4:sz≤262144:=(by omega);clear hlen;go_wp2_with (first
      |(at_builtin;(refine qv wr rfl (.tmp 37) (.tmp 41) 22 rfl 5 i0 (.int .u8 0) 1 1 underlying22 hi hz0 hz1 hz2 rfl (by decide) rfl oa sz oc _ rfl (AE HRs.out) (AF HRs.out) (ints_oneCell _ _) (by unfold maxLen;omega) (by omega) ?_);intro v9 w9 o9 b9;have H9:=aa (ag o9 b9);clear o9 b9))
     go_ret2;have hap:fM (((sz:Int).toNat+511)/512) (zs.length/512) (aJ zs) (fun i=>ds.getD i 0) p q:=(by rw[Int.toNat_natCast, ←HCn.out];exact HAp.out);have e1:mrB zs (sz:Int) ds p q=(iX zs (bC (aJ zs) (fun i=>ds.getD i 0) p q) i).take sz:=(by unfold mrB;rw[if_pos ⟨HF.out,hap⟩,Int.toNat_natCast, ←HCn.out]);have hl:(mrB zs (sz:Int) ds p q).length=sz:=(by rw[e1];have:=H9.out.1.1;simpa using this);refine⟨_,by unfold mrC;rw[if_neg (by rw[HF.out];decide),if_pos hap];rfl,?_,HI.out.2.2.2.trans (H9.out.2.mono HI.out.2.2.2.size)⟩;rw[hl,e1];exact bZ H9.out.1 HI.out.2.2.2.size
  ·have HNap:=aa hnap;have BW3:=aa (BW2.out.trans (b3.mono BW2.out.size));clear hnap b3;go_upto_region 5 with(first
    |(refine wpList_store_row rfl 73 _ _ rfl w3.heap.size (cH aF 0 0 aF aF aF aF false) rfl rfl 73 _ (af.new w3 _ _) fI rfl (by simp[Value.oneCell']) ?_))
   generalize hW4:World.setRow _ w3.heap.size (cH aF 0 0 aF aF aF aF false)=W4;have K4:=ae (af W4 w3.heap.size (cH aF 0 0 aF aF aF aF false) 73) (by rw[←hW4];exact(af.new w3 _ _).row _);have B4:=ae (Below w3.heap.size w3 W4) (by rw[←hW4];exact below_setRow (ak.alloc aj _) aj _);clear hW4;have c7:=(K4.out.cell 7).trans (show _=some (.bool false) from rfl);go_wp2;go_ret2;have hnp:¬fM (((sz:Int).toNat+511)/512) (zs.length/512) (aJ zs) (fun i=>ds.getD i 0) p q:=(by rw[Int.toNat_natCast, ←HCn.out];exact HNap.out);exact⟨_,by unfold mrC;rw[if_neg (by rw[HF.out];decide),if_neg hnp];rfl,by unfold mrB;rw[if_neg (fun h=>hnp h.2)];exact World.ownsRow_nil _ _ _ _,BW3.out.trans (B4.out.mono BW3.out.size)⟩
 ·have HF:=aa hf;clear hf;go_enter func34,ntmps34;go_upto_region 1 with fail;rw[HW0.out];go_wp2_with (first
   |(refine wpList_load_row rfl 28 _ rfl w.heap.size rfl 28 (aB (aD s ds p q)) (0,0) _ K0.out underlying28 rfl (by rw[HZ.out];exact dr) ?_)
   |(go_at_call 46;refine(nw _ zs s ds p q _ (HR.out.1.below HB0.out) h1 HR.out.2.2).mono ?_;rintro e w2 ⟨rfl,b2⟩;rw[HF.out];have BW2:=aa (HB0.out.trans (b2.mono HB0.out.size));clear b2))
  go_ret2;exact⟨_,by unfold mrC;rw[if_pos (by rw[HF.out];decide)];rfl,by unfold mrB;rw[if_neg (by rw[HF.out];intro h;cases h.1)];exact World.ownsRow_nil _ _ _ _,BW2.out⟩
end
section
open Go.RowKit
section
variable {cnt n:Nat} {W:Int→Nat→Int}
theorem AH(r:Nat)(p:Int):cG cnt n W 0 r p=iN cnt n r p:=rfl
theorem uD(r:Nat)(p:Int):cG cnt n W 1 r p=iO cnt n W r p:=by
 unfold cG iO;have e:cC (0+1) r=12+r*128:=rfl;rw[e];rfl
theorem AI(p:Int):cG cnt n W 2 0 p=jO cnt n W p:=by
 unfold cG jO;have e:cC (1+1) 0=140:=rfl;rw[e];have e2:(fun k=>cG cnt n W 1 (bP 1 0 k) (W p k))=fun k=>iO cnt n W (1+k) (W p k):=funext fun k=>by
  rw[uD];have:bP 1 0 k=1+k:=by unfold bP;simp
  rw[this]
 rw[e2]
theorem uE:∀(A B:List TL),bR (A++B)=bH (bR A) (bR B)
 |[],B=>(yW _).symm
 |a::A,B=>by
  show bH a (bR (A++B))=_;rw[uE A B];show _=bH (bH a (bR A)) (bR B);rw[pS]
theorem AJ(t:TL):bH t ([],false)=t:=by
 obtain⟨L,b⟩:=t;cases b<;>simp[bH]
theorem AK(Pv:Nat→Int)(D:Nat→Int)(S X:Int)(hD:∀j,j<12→Pv j=D j)(hS:Pv 12=S)(hX:Pv 13=X):bR (dQ cnt n W Pv)=kW cnt n W D S X:=by
 unfold dQ;rw[show range 14=range 12++[12,13] from rfl,List.map_append,uE];have e1:(range 12).map (gD cnt n W Pv)=(range 12).map (fun i=>iN cnt n i (D i)):=by
  refine List.map_congr_left (fun j hj=>?_);have hj':=List.mem_range.1 hj;unfold gD cT dg;rw[if_pos hj',if_pos hj',hD j hj',AH]
 have e2:gD cnt n W Pv 12=iO cnt n W 0 S:=by
  unfold gD cT dg;rw[if_neg (by omega),if_pos rfl,if_neg (by omega),hS,uD]
 have e3:gD cnt n W Pv 13=jO cnt n W X:=by
  unfold gD cT dg;rw[if_neg (by omega),if_neg (by omega),if_neg (by omega),hX,AI]
 rw[e1];show bH _ (bH (gD cnt n W Pv 12) (bH (gD cnt n W Pv 13) ([],false)))=_;rw[e2,e3,AJ];rfl
end
theorem AL(zs:List Int)(s:Int)(ds:List Int)(p q:Int)(hd:ds.length=12):ZR zs s ds p q=kW ((s.toNat+511)/512) (zs.length/512) (aJ zs) (fun i=>ds.getD i 0) p q:=
 AK _ _ _ _ (fun j hj=>nK hd hj) (nL hd) (nM hd)
theorem qw{s:Int}{ds:List Int}{p q:Int}(h:cA s ds p q=true)(k:Nat)(hk:k<14):(ds++[p,q]).getD k 0=0∨gz k<(s+511)/512:=by
 unfold cA at h;rw[and_eq_true] at h;have h2:=h.2;unfold gK at h2;rw[List.all_eq_true] at h2;have h3:=h2 k (List.mem_range.2 hk);unfold gl at h3;simp only[and_eq_true,Bool.or_eq_true,decide_eq_true_eq] at h3;exact h3.2
theorem qx{s:Int}{ds:List Int}{p q:Int}(hd:ds.length=12)(h:cA s ds p q=true):pG ((s.toNat+511)/512) (fun i=>ds.getD i 0) p q:=by
 obtain⟨h0,h1⟩:=lD h;refine⟨fun i hi=>?_,fun hc=>?_,fun hc=>?_,by omega⟩
 ·by_cases h12:i<12
  ·rcases qw h i (by omega) with h2|h2
   ·rw[nK hd h12] at h2;exact h2
   ·unfold gz at h2;rw[if_neg (by omega)] at h2;omega
  ·show ds.getD i 0=0;rw[List.getD_eq_getElem?_getD,List.getElem?_eq_none (by omega)];rfl
 ·rcases qw h 12 (by omega) with h2|h2
  ·rw[nL hd] at h2;exact h2
  ·unfold gz at h2;rw[if_neg (by omega)] at h2;omega
 ·rcases qw h 13 (by omega) with h2|h2
  ·rw[nM hd] at h2;exact h2
  ·unfold gz at h2;rw[if_pos rfl] at h2;omega
theorem nQ(zs:List Int)(s:Int)(ds:List Int)(p q:Int):gC zs s ds p q=if cV zs s ds p q=true then 0 else 7:=by
 unfold gC cV;simp only[and_eq_true]
theorem lE{zs:List Int}{s:Int}{ds:List Int}{p q:Int}(hd:ds.length=12)(h:cV zs s ds p q=true):
 (fM ((s.toNat+511)/512) (zs.length/512) (aJ zs) (fun i=>ds.getD i 0) p q∧ZR zs s ds p q=(fh ((s.toNat+511)/512) (aJ zs) (fun i=>ds.getD i 0) p q,false))∨
 (¬fM ((s.toNat+511)/512) (zs.length/512) (aJ zs) (fun i=>ds.getD i 0) p q∧(ZR zs s ds p q).2=true):=by
 have hr:cA s ds p q=true:=by unfold cV at h;rw[and_eq_true] at h;exact h.2
 rw[AL zs s ds p q hd];by_cases hap:fM ((s.toNat+511)/512) (zs.length/512) (aJ zs) (fun i=>ds.getD i 0) p q
 ·exact .inl ⟨hap,yN hap⟩
 ·refine .inr ⟨hap,?_⟩;cases hz:(kW ((s.toNat+511)/512) (zs.length/512) (aJ zs) (fun i=>ds.getD i 0) p q).2 with
  |true=>rfl
  |false=>exact absurd (yO (qx hd hr) hz) hap
theorem uF{zs:List Int}{s:Int}{ds:List Int}{p q:Int}(hd:ds.length=12):fG zs s ds p q=mrC zs s ds p q:=by
 unfold fG mrC;rw[nQ];cases hok:cV zs s ds p q with
 |false=>simp
 |true=>
  rcases lE hd hok with⟨h1,h2⟩|⟨h1,h2⟩
  ·rw[h2,if_neg (by decide),if_neg (by simp),if_neg (by simp),if_pos h1]
  ·rw[if_neg (by decide),if_pos h2,if_neg (by simp),if_neg h1]
theorem uG{α β:Type}(f g:β→α→β):∀(L:List α) (b:β),(∀x∈L,∀b,f b x=g b x)→L.foldl f b=L.foldl g b
 |[],_,_=>rfl
 |a::L,b,h=>by
  rw[List.foldl_cons,List.foldl_cons,h a List.mem_cons_self,uG f g L _ (fun x hx=>h x (List.mem_cons_of_mem _ hx))]
theorem AM{zs:List Int}{p:Int}(h:be (zs.length/512) p=true)(h0:p≠0):(aV zs p).length=512:=by
 have:=ke h h0;unfold aV;rw[length_take,List.length_drop];omega
theorem uH{zs:List Int}{s:Int}{ds:List Int}{p q:Int}(hd:ds.length=12):gL zs s ds p q=mrB zs s ds p q:=by
 unfold gL mrB;rw[nQ];cases hok:cV zs s ds p q with
 |false=>simp
 |true=>
  have hr:cA s ds p q=true:=by unfold cV at hok;rw[and_eq_true] at hok;exact hok.2
  obtain⟨hs0,hs1⟩:=lD hr;rcases lE hd hok with⟨h1,h2⟩|⟨h1,h2⟩
  ·rw[if_pos ⟨rfl,by rw[h2]⟩,if_pos ⟨by simp,h1⟩];obtain⟨cnt,hcnt⟩:∃cnt,cnt=(s.toNat+511)/512:=⟨_,rfl⟩;rw[←hcnt] at h1 h2⊢;have hmem:∀h∈(ZR zs s ds p q).1,qo cnt (zs.length/512) h:=fun h hm=>(by rw[hcnt];exact qp hm);have hup:((aM (ZR zs s ds p q).1).map (·.1))=(ZR zs s ds p q).1:=by
    unfold aM;rw[List.map_map];have e:((fun x:TX=>x.1)∘fun h:HG=>(h,Value.nilIface))=id:=rfl;rw[e,List.map_id]
   unfold cR;rw[hup];obtain⟨bk,hbk⟩:∃bk:Int→List Int,bk=fun p=>if(aV zs p).length=512 then aV zs p else List.replicate 512 0:=⟨_,rfl⟩;have hb:∀p,(bk p).length=512:=fun p=>by
    rw[hbk];by_cases hl:(aV zs p).length=512
    ·simp only[hl,if_true]
    ·simp only[hl,if_false,List.length_replicate]
   have hsame:∀p,be (zs.length/512) p=true→p≠0→bk p=aV zs p:=fun p h3 h4=>by
    rw[hbk];simp only[AM h3 h4,if_true]
   rw[uG (fN (aV zs)) (fN bk) _ _ (fun x hx b=>by
    have:=hmem x hx;unfold fN;rw[hsame x.2.2 this.1 this.2.1])]
   rw[h2];rw[yV (W:=aJ zs) (D:=fun i=>ds.getD i 0) (S:=p) (X:=q) hb (by omega) s.toNat (by omega) (by omega)];congr 1;unfold iX;refine gW _ _ _ (fun j hj=>?_);have hj':=List.mem_range.1 hj;have hg:=h1.2.2.2.2 j hj';unfold jl iw;by_cases h0:bC (aJ zs) (fun i=>ds.getD i 0) p q j=0
   ·rw[if_pos h0,if_pos h0]
   ·rw[if_neg h0,if_neg h0,hsame _ hg h0]
  ·rw[if_neg (fun h=>by rw[h2] at h;cases h.2),if_neg (fun h=>h1 h.2)]
end
end Go.Proofs.YtlimollpocagiaaGreatDoor
