/- The model's writing of a tree: a pointer block, nothing there before -/
import Derived.Test.YtbhpealglhkodaaGreatDoorXc28
import Derived.Test.YtbhpealglhkodaaGreatDoorXc04
namespace Go.Proofs.YtbhpealglhkodaaGreatDoor
set_option linter.all false
set_option maxRecDepth 100000
set_option maxHeartbeats 16000000
section
open Go.RowKit
theorem wpList_append_rdP{P:Program}(w:World){ops:Array Oper}{rest:List Oper}{o:Oper}{a:Act}{Q:Exit→Act→World→Prop}
 (hg:o.guard=none) (s x:Operand) (t:TypeId) (hop:o.op=Op.call {callee:=Callee.builtin Builtin.append,args:=#[s,x],argTypes:=#[t,t]})
 (base:Nat) (e:TypeId) (i:TypeInfo) (h1:P.underlying t=some (.slice e)) (h2:P.info? e=some i) (h3:i.zero=some (.int .u8 0)) (h4:i.size=1) (h5:i.bytes=1)
 (sv:Value) (n:Nat) (xs:List Int) (hs:a.eval s=sv) (hown:w.ownsRow base e 1 sv n (xs.map (Value.int .u8)))
 (v:Value) (zs:List Int) (hx:a.eval x=v) (hr:Rd .u8 w v zs) (hb:n+zs.length≤1000000000) (hbase:base≤w.heap.size)
 (hK:∀a' c' m w',m=n+zs.length→w'.ownsRow base e 1 (.slice a' m c') m ((xs++zs).map (Value.int .u8))→w.grownBy w' sv.ownBlock→wpList P ops Q rest (a.put o.dst (.slice a' m c')) w'):
 wpList P ops Q (o::rest) a w:=by
 by_cases hz:0<zs.length
 ·obtain⟨bd,off,cp,rfl,hbw,_,_,hcell⟩:=hr.partsC hz;refine wpList_append_own_at _ hg s x t hop base e i (.int .u8 0) 1 1 h1 h2 h3 h4 h5 rfl (by decide) sv n _ hs hown ⟨bd,off,none⟩ zs.length cp (zs.map (Value.int .u8)) hx (by simp) (fun j u hj=>?_) (ints_oneCell _ _) (by unfold maxLen;omega) (by omega) hbase ?_
  ·have hjl:j<zs.length:=by
    rcases Nat.lt_or_ge j zs.length with h|h
    ·exact h
    ·rw[List.getElem?_eq_none (by simpa using h)] at hj;cases hj
   rw[Addr.add_mid,hcell j hjl];rw[List.getElem?_map,List.getElem?_eq_getElem hjl] at hj;simp at hj;rw[←hj];simp[List.getD,hjl]
  ·intro v' w' r1 r2 _ _;obtain⟨a',c',rfl⟩:=own_shape r1;exact hK a' c' _ w' rfl (by rw[List.map_append];exact r1) r2
 ·have hz0:zs=[]:=List.eq_nil_of_length_eq_zero (by omega);subst hz0;obtain⟨a3,c3,rfl⟩:∃a3 c3,v=.slice a3 0 c3:=by obtain⟨a3,c3,e3,_⟩:=hr;exact⟨a3,c3,e3⟩
  refine wpList_append_emptyM hg s x t hop base e i 1 h1 h2 _ n _ hs hown a3 c3 hx ?_;obtain⟨a',c',rfl⟩:=own_shape hown;exact hK a' c' n w (by simp) (by simpa using hown) (World.grownBy.refl _ _)
theorem grown_baseP{w w':World}{base n sz:Nat}{e:TypeId}{v:Value}{xs:List Value}(h:w.ownsRow base e sz v n xs)(hg:w.grownBy w' v.ownBlock)(hb:base≤w.heap.size):Below base w w':=(Below.refl _ _).grown hg hb (fun r e=>(h.lt r e).1)
theorem some_nil(ws:List Int):someM ws=[]↔ws=List.replicate ws.length 0:=by
 unfold someM;rw[List.filter_eq_nil_iff];constructor
 ·intro h;exact List.eq_replicate_iff.2 ⟨rfl,fun b hb=>by have:=h b hb;simpa using this⟩
 ·intro h b hb;rw[h] at hb;rw[List.eq_of_mem_replicate hb];simp
theorem zeroJ_any(v:Value)(ws:List Int)(q:Bool)(w:World)(h:Rd .i64 w v ws)(hl:ws.length=128)(hq:q=decide (ws=List.replicate 128 0)):
 Calls Tryz.prog 82 #[v] w fun e w'=>e=.returned (.bool q)∧Below w.heap.size w w':=by
 have HS:=hide (some_any v ws w h (by omega));have HE:=hide (show q=decide (((someM ws).length:Int)=0) from by
  rw[hq];refine decide_eq_decide.2 ?_;rw[←hl, ←some_nil];constructor
  ·intro e;rw[e];rfl
  ·intro e;exact List.eq_nil_of_length_eq_zero (by omega))
 clear h hl hq;go_enter Tryz.func82,Tryz.ntmps82;go_wp2_with (first|(go_at_call 47;refine HS.out.mono ?_;rintro e w1 ⟨v',rfl,o,b⟩;obtain⟨a,c,rfl⟩:=own_shape o;simp only[List.length_map];have HB:=hide b;clear o b)|fail);go_ret;rw[HE.out];exact⟨rfl,HB.out⟩
def RD.ptrO(D:RD)(q:Bool)(ws:List Int):RD:=if q=true then D else D.fresh (encW ws)
theorem goodW_of{ws:List Int}(hl:ws.length=128)(h:∀z∈ws,0≤z∧z<4294967296):goodW ws=true:=by
 unfold goodW;rw[Bool.and_eq_true,decide_eq_true_eq,List.all_eq_true];refine⟨hl,fun x hx=>?_⟩;have:=h x hx;unfold okW;simp only[Bool.and_eq_true,decide_eq_true_eq];omega
theorem infoU8P:(Tryz.prog.info? 5).map (fun i=>(i.zero,i.size,i.bytes))=some (some (.int .u8 0),1,1):=by kernel_rfl
theorem pointersJ_any(W0 w:World)(b ic L:Nat)(ia fa wa:Option Addr)(fl fc wc:Nat)(fs ws:List Int)(ov:Value)(D:RD)(q:Bool)
 (h:JSt W0 w b (.slice ia L ic) (.slice fa fl fc) fs D) (hfl:fl=fs.length) (hf:Rd .i64 W0 (.slice fa fl fc) fs) (hx:∀x∈fs,2≤x∧x<((L/512:Nat):Int)) (hL:L≤1048576) (hfl2:fs.length≤100000) (hP:D.P.length≤100000)
 (hr:Rd .i64 w (.slice wa 128 wc) ws) (hl:ws.length=128) (hw:∀z∈ws,0≤z∧z<4294967296) (hq:q=decide (ws=List.replicate 128 0)):
 Calls Tryz.prog 61 #[.pointer (some ⟨b,0,none⟩),.slice wa 128 wc,.int .i64 0,ov] w fun e w'=>e=.returned (.int .i64 (if q=true then 0 else supN D.st))∧JSt W0 w' b (.slice ia L ic) (.slice fa fl fc) fs (D.ptrO q ws)∧KpY TyJ w w'∧Below W0.heap.size w w':=by
 obtain⟨i8,hi8,hz80,hz81,hz82⟩:=info_parts infoU8P;have HI8:=hide (And.intro hi8 (And.intro hz80 (And.intro hz81 hz82)));have HZ:=hide (zeroJ_any (.slice wa 128 wc) ws q w hr hl hq);have HA:=hide h;have HF:=hide (And.intro hfl (And.intro hf (And.intro hx (And.intro hL (And.intro hfl2 hP)))));have HR:=hide (And.intro hr (And.intro hl hw));have hbw:b<w.heap.size:=by obtain⟨u,pv,vs,hA⟩:=h;exact hA.box.lt
 have hWw:W0.heap.size≤w.heap.size:=by obtain⟨u,pv,vs,hA⟩:=h;exact hA.low.size
 obtain⟨bd,off,cp,ee,hbd,_,_,hcell⟩:=hr.partsC (by omega);have HC:=hide (And.intro hbd hcell);injection ee with e1 e2 e3;subst e1;clear e2 e3 h hfl hf hx hL hfl2 hP hr hl hw hq hbd hcell hi8 hz80 hz81 hz82;cases q with
 |true=>
  go_enter Tryz.func61,Tryz.ntmps61;go_wp2_with (first|(go_at_call 82;refine HZ.out.mono ?_;rintro e w1 ⟨rfl,b1⟩;have B1:=hide b1;clear b1)|fail);go_ret;exact⟨rfl,HA.out.below B1.out,(KpY.refl _ _).below B1.out,(Below.refl _ _).trans (B1.out.mono hWw)⟩
 |false=>
  go_enter Tryz.func61,Tryz.ntmps61;go_wp2_with (first|(go_at_call 82;refine HZ.out.mono ?_;rintro e w1 ⟨rfl,b1⟩;have B1:=hide b1;clear b1)|fail);have O2:=hide (show(w1.alloc (.cells #[] 5)).ownsRow w1.heap.size 5 1 (.slice (some ⟨w1.heap.size,0,none⟩) 0 0) 0 [] from own_emptyM w1 _ 1);have B2:=hide (show Below w1.heap.size w1 (w1.alloc (.cells #[] 5)) from(Below.refl _ _).alloc (Nat.le_refl _) _);go_loopw [9,25] (fun v9 v25 wr=>∃k:Nat,∃a:Option Addr,∃c:Nat,k≤128∧v25=.int .i64 (k:Int)∧v9=.slice a (4*k) c∧wr.ownsRow w1.heap.size 5 1 (.slice a (4*k) c) (4*k) ((bytesW (ws.take k)).map (Value.int .u8))∧Below w1.heap.size w1 wr) (fun _ i _=>128-(intOf i).toNat)
  case atStart=>exact⟨0,_,_,by omega,rfl,rfl,O2.out,B2.out⟩
  case round=>
   obtain⟨k,a,c,hk,rfl,rfl,o5,b5⟩:=hrel;have O5:=hide o5;have B5:=hide b5;clear o5 b5;by_cases hk2:k<128
   ·obtain⟨x,hx⟩:∃x,x=ws.getD k 0:=⟨_,rfl⟩;have hxb:0≤x∧x<4294967296:=(by rw[hx];exact getD_in HR.out.2.2 k);obtain⟨xn,hxn⟩:∃xn:Nat,x=(xn:Int):=⟨x.toNat,by omega⟩;have hcx:wr.cell? ⟨bd,off+k,none⟩=some (.int .i64 x):=by
     rw[(B1.out.trans (B5.out.mono B1.out.size)).cell (p:=⟨bd,off+k,none⟩) HC.out.1,HC.out.2 k (by have:=HR.out.2.1;omega),hx]
    have hkI:(k:Int)<128:=(by omega);have HPu:=hide (fun w1:World=>put_any xn 4 w1 (by omega) (by omega));have HTk:=hide (show bytesW (ws.take (k+1))=bytesW (ws.take k)++le 4 xn from by rw[bytesW_take ws k (by have:=HR.out.2.1;omega), ←hx,hxn];rfl);rw[hxn] at hcx;clear hx hxb hxn;go_wp2_with (first
     |(go_at_call 84;refine(HPu.out _).mono ?_;rintro e w6 ⟨v',rfl,o6,b6⟩;have O6:=hide o6;have B6:=hide (show Below w1.heap.size w1 w6 from B5.out.trans (b6.mono B5.out.size));have O56:=hide (own_below O5.out b6);clear o6 b6)
     |(at_builtin;refine wpList_append_rdP _ rfl (.tmp 29) (.tmp 31) 22 rfl w1.heap.size 5 i8 Tryz.underlying22 HI8.out.1 HI8.out.2.1 HI8.out.2.2.1 HI8.out.2.2.2 _ _ _ rfl O56.out _ _ rfl (Rd.own O6.out) (by rw[le_len];omega) B6.out.size ?_;intro a7 c7 m7 w7 e7 o7 g7;rw[le_len] at e7;subst e7;rw[←HTk.out] at o7;have O7:=hide o7;have B7:=hide (show Below w1.heap.size w1 w7 from B6.out.trans (grown_baseP O56.out g7 B6.out.size));clear o7 g7)
     |fail)
    go_roundw
    case rel=>exact⟨k+1,a7,c7,by omega,by go_num,rfl,O7.out,B7.out⟩
    case measure=>simp[intOf];omega
   ·obtain rfl:k=128:=(by omega);have HRy:=hide (show Rd .u8 wr (.slice a 512 c) (encW ws) from by
     have h:=Rd.own O5.out;have e:bytesW (ws.take 128)=encW ws:=by
      unfold encW;rw[if_pos (goodW_of HR.out.2.1 HR.out.2.2),List.take_of_length_le (by have:=HR.out.2.1;omega)]
     rw[e] at h;exact h)
    have HEl:=hide (encW_len (goodW_of HR.out.2.1 HR.out.2.2));have HB8:=hide (show Below w.heap.size w wr from B1.out.trans (B5.out.mono B1.out.size));have HFr:=hide (freshJ_any W0 wr b ic L ia fa fl fc fs a 512 c (encW ws) D (HA.out.below HB8.out) HF.out.1 HF.out.2.1 HF.out.2.2.1 HF.out.2.2.2.1 HF.out.2.2.2.2.1 HEl.out.symm HRy.out (fun k hk e=>by
     have h1:=O5.out.lt k (by
      cases a with
      |none=>cases hk
      |some a=>simp only[Option.map_some,Option.some.injEq] at hk;show some a.block=some k;rw[hk])
     have h2:=B1.out.size;omega) (by rw[HEl.out];omega) (by rw[HEl.out];omega) HF.out.2.2.2.2.2)
    go_wp2_with (first|(go_at_call 60;refine HFr.out.mono ?_;rintro e w9 ⟨rfl,j9,y9,b9⟩;have R9:=hide (And.intro j9 (And.intro y9 b9));clear j9 y9 b9)|fail);go_ret;exact⟨rfl,R9.out.1,((KpY.refl _ _).below HB8.out).trans R9.out.2.1,((Below.refl _ _).trans (HB8.out.mono hWw)).trans R9.out.2.2⟩
theorem own_setN{w:World}{base g j n sz:Nat}{e:TypeId}{v u:Value}{xs:List Value}(h:w.ownsRow base e sz v n xs)(hne:v.ownBlock≠some g):(w.setCell ⟨g,j,none⟩ u).ownsRow base e sz v n xs:=
 h.kept (row:=some g) ⟨rfl,rfl,rfl,by simp,fun k hk hr=>Below.heap_setCell w ⟨g,j,none⟩ u k (fun e=>hr (by rw[e]))⟩ (.inr hne)
theorem place_rowN{w:World}{base:Nat}{e:TypeId}{sz:Nat}{v:Value}{n:Nat}{xs:List Value}(h:w.ownsRow base e sz v n xs)(hn:0<n):∃g cap,v=.slice (some ⟨g,0,none⟩) n cap:=by
 rcases h.2 with⟨rfl,rfl⟩|⟨g,cap,_,rfl,_⟩
 ·omega
 ·exact⟨_,_,rfl⟩
theorem made_u8(n:Nat):(madeCells (Value.int .u8 0).cells (n*1)).toList=(List.replicate n (0:Int)).map (Value.int .u8):=by
 apply List.ext_getElem (by simp[madeCells]);intro i h1 h2;simp[madeCells,Value.cells,Nat.mod_one]
theorem Byt.naught(n:Nat):Byt (List.replicate n 0):=by
 intro z hz;rw[List.eq_of_mem_replicate hz];omega
theorem image_drawn{w0 W:World}{b:Nat}{cv:Value}{cs:List Int}(h:Sc w0 W b cv cs):
 Calls Tryz.prog 22 #[.pointer (some ⟨b,0,none⟩)] W fun e w'=>∃(v:Value) (zs:List Int) (m:Nat),e=.returned v∧64≤m∧m≤68∧zs.length=m*512∧Byt zs∧w'.ownsRow W.heap.size 5 1 v (m*512) (zs.map (Value.int .u8))∧Sc w0 w' b cv cs∧W.grownBy w' (some b):=by
 obtain⟨i0,hi,hz0,hz1,hz2⟩:=info_parts infoU8;have HD:=hide (Dn.start h);clear h;go_enter Tryz.func22,Tryz.ntmps22;go_wp2_with fail;refine(HD.out.sc.N 5 (by omega) (by omega)).mono ?_;rintro e w1 ⟨z,rfl,hy0,hy1,s1,d1⟩;have H1:=hide (HD.out.draw s1 d1);have hs1:=d1.size;clear s1 d1 HD;obtain⟨m,hm⟩:∃m:Nat,(64:Int)+z=(m:Int):=⟨(64+z).toNat,by omega⟩;have hm1:64≤m∧m≤68:=⟨by omega,by omega⟩;obtain⟨n,hn⟩:∃n:Nat,(m:Int)*512=(n:Int):=⟨m*512,by omega⟩;have HN:=hide (show n=m*512 by omega);have hnb:n≤34816:=by omega
 go_wp2_with (first|(refine wpList_make_full _ rfl _ _ 22 rfl W.heap.size 5 i0 (.int .u8 0) 1 Tryz.underlying22 hi hz0 hz1 .i64 .i64 (n:Int) (n:Int) n rfl rfl rfl rfl (by rw[hz2];omega) (by unfold maxLen;omega) hs1 ?_;intro w3 o3 g3;rw[made_u8] at o3)|fail);have b3:Below w1.heap.size w1 w3:=(Below.refl _ _).grown g3 (Nat.le_refl _) (fun k e=>by cases e);obtain⟨g,hg⟩:∃g,g=w1.heap.size:=⟨_,rfl⟩;have H3:=hide (show Dn w0 W w3 b cv cs∧w3.ownsRow W.heap.size 5 1 (.slice (some ⟨g,0,none⟩) n n) n ((List.replicate n (0:Int)).map (Value.int .u8)) from⟨H1.out.own (b3.mono hs1),by rw[hg];exact o3⟩);have hgl:W.heap.size≤g∧g<w3.heap.size:=by rw[hg];exact⟨hs1,by rw[hg] at H3;exact(H3.out.2.lt _ rfl).2⟩
 rw[←hg];clear o3 g3 b3 hg H1;go_wp2_with fail;refine(H3.out.1.sc.N 6 (by omega) (by omega)).mono ?_;rintro e w4 ⟨t,rfl,ht0,ht1,s4,d4⟩;have H4:=hide (And.intro (H3.out.1.draw s4 d4) (H3.out.1.row H3.out.2 d4 (Nat.le_refl _)));have hs4:=d4.size;clear s4 d4 H3;go_wp2;go_loopw [5] (fun kv wx=>∃(k:Nat) (zs:List Int),k≤5∧kv=.int .i64 (k:Int)∧zs.length=n∧Byt zs∧Dn w0 W wx b cv cs∧wx.ownsRow W.heap.size 5 1 (.slice (some ⟨g,0,none⟩) n n) n (zs.map (Value.int .u8))) (fun kv _=>(intOf kv).toNat)
 case atStart=>exact⟨t.toNat,List.replicate n 0,by omega,by rw[Int.toNat_of_nonneg ht0],by simp,Byt.naught n,H4.out.1,H4.out.2⟩
 case round=>
  clear H4;obtain⟨k,zs,hk,rfl,hl,hB,hd,ho⟩:=hrel;have HK:=hide (And.intro hd ho);have HB:=hide (And.intro hl hB);clear hd ho hl hB;by_cases hk0:0<k
  ·have hkI:(0:Int)<(k:Int):=(by omega);go_wp2_with fail;refine(HK.out.1.sc.N m (by omega) (by omega)).mono ?_;rintro e w5 ⟨p,rfl,hp0,hp1,s5,d5⟩;have H5:=hide (And.intro (HK.out.1.draw s5 d5) (HK.out.1.row HK.out.2 d5 (Nat.le_refl _)));clear s5 d5 HK;obtain⟨q,rfl⟩:∃q:Nat,p=(q:Int):=⟨p.toNat,by omega⟩;have hq:q*512+512≤n:=(by have:=HN.out;omega);go_wp2_with fail;refine(block_drawn H5.out.1.sc).mono ?_;rintro e w6 ⟨yv,Y,rfl,hYl,hYB,o6,s6,d6⟩;obtain⟨gy,cy,rfl⟩:=place_rowN o6 (by omega);have hgy:=o6.lt gy rfl;have hg5:=(H5.out.2.lt g rfl).2;have H6:=hide (show Dn w0 W w6 b cv cs∧w6.ownsRow W.heap.size 5 1 (.slice (some ⟨g,0,none⟩) n n) n (zs.map (Value.int .u8))∧w6.ownsRow w5.heap.size 5 1 (.slice (some ⟨gy,0,none⟩) 512 cy) 512 (Y.map (Value.int .u8)) from⟨H5.out.1.draw s6 d6,H5.out.1.row H5.out.2 d6 (Nat.le_refl _),o6⟩);have HY:=hide (And.intro hYl hYB);have hne:g≠gy:=(by omega);clear s6 d6 o6 H5 hYl hYB hgy hg5;go_wp2;go_loopw [27] (fun iv wx=>∃(i:Nat) (ys:List Int),i≤512∧iv=.int .i64 (i:Int)∧ys.length=n∧Byt ys∧Dn w0 W wx b cv cs∧wx.ownsRow W.heap.size 5 1 (.slice (some ⟨g,0,none⟩) n n) n (ys.map (Value.int .u8))∧wx.ownsRow w5.heap.size 5 1 (.slice (some ⟨gy,0,none⟩) 512 cy) 512 (Y.map (Value.int .u8))) (fun iv _=>512-(intOf iv).toNat)
   case atStart=>exact⟨0,zs,by omega,rfl,HB.out.1,HB.out.2,H6.out.1,H6.out.2.1,H6.out.2.2⟩
   case round=>
    clear H6;obtain⟨i,ys,hi5,rfl,hl,hB,hd,ho,hoy⟩:=hrel;have HX:=hide (And.intro hd (And.intro ho hoy));have HBy:=hide (And.intro hl hB);clear hd ho hoy hl hB;by_cases hlt:i<512
    ·have hiI:(i:Int)<512:=(by omega);obtain⟨y,hy⟩:∃y,y=Y.getD i 0:=⟨_,rfl⟩;have hyb:0≤y∧y<256:=by
      rw[hy];have:=HY.out.2 _ (List.getElem_mem (show i<Y.length by rw[HY.out.1];exact hlt));simpa [List.getD,show i<Y.length by rw[HY.out.1];exact hlt] using this
     have cY:wr.cell? ⟨gy,i,none⟩=some (.int .u8 y):=by
      have:=HX.out.2.2.cells (g:=gy) rfl i (.int .u8 y) (by rw[List.getElem?_map,List.getElem?_eq_getElem (by rw[HY.out.1];exact hlt),hy];simp[List.getD,show i<Y.length by rw[HY.out.1];exact hlt]);rw[Addr.add_mid,Nat.zero_add] at this;exact this
     obtain⟨⟨c,cg⟩,fg⟩:=own_cellB HX.out.2.1 (show q*512+i<n by omega);have H7:=hide (show Dn w0 W (wr.setCell ⟨g,q*512+i,none⟩ (.int .u8 y)) b cv cs∧(wr.setCell ⟨g,q*512+i,none⟩ (.int .u8 y)).ownsRow W.heap.size 5 1 (.slice (some ⟨g,0,none⟩) n n) n ((ys.set (q*512+i) y).map (Value.int .u8))∧(wr.setCell ⟨g,q*512+i,none⟩ (.int .u8 y)).ownsRow w5.heap.size 5 1 (.slice (some ⟨gy,0,none⟩) 512 cy) 512 (Y.map (Value.int .u8)) from⟨HX.out.1.put hgl.1 _,own_setB HX.out.2.1 _,own_setN HX.out.2.2 (fun e=>hne (Option.some.inj e).symm)⟩);have HY7:=hide (show(ys.set (q*512+i) y).length=n∧Byt (ys.set (q*512+i) y) from⟨by rw[List.length_set];exact HBy.out.1,HBy.out.2.put _ hyb.1 hyb.2⟩);clear hy hyb;go_wp2;go_roundw
     case rel=>exact⟨i+1,_,by omega,by go_num,HY7.out.1,HY7.out.2,H7.out.1,H7.out.2.1,H7.out.2.2⟩
     case measure=>simp[intOf];omega
    ·have hi2:i=512:=(by omega);subst hi2;go_wp2;go_roundw
     case rel=>exact⟨k-1,ys,by omega,by go_num,HBy.out.1,HBy.out.2,HX.out.1,HX.out.2.1⟩
     case measure=>simp[intOf];omega
  ·have hk2:k=0:=(by omega);subst hk2;go_wp2;go_ret;exact⟨_,zs,m,rfl,hm1.1,hm1.2,by rw[←HN.out];exact HB.out.1,HB.out.2,by rw[←HN.out];exact HK.out.2,HK.out.1.sc,HK.out.1.gb⟩
theorem cpK_any(v:Value)(zs:List Int)(w:World)(h:Rd .u8 w v zs)(hn:zs.length≤262144):
 Calls Tryz.prog 23 #[v] w fun e w'=>∃a c,e=.returned (.slice a zs.length c)∧w'.ownsRow w.heap.size 5 1 (.slice a zs.length c) zs.length (zs.map (Value.int .u8))∧Below w.heap.size w w':=by
 obtain⟨i8,hi8,hz80,hz81,hz82⟩:=info_parts infoU8P;have HB0:=hide (show Below w.heap.size w (w.alloc (.cells #[] 5)) from(Below.refl _ _).alloc (Nat.le_refl _) _);have HX:=hide (h.below HB0.out);have H0:=hide (own_emptyM w 5 1);obtain⟨va,vc,rfl⟩:=rd_shapeT h;clear h;go_enter Tryz.func23,Tryz.ntmps23;go_wp2_with (at_builtin;refine wpList_append_rdP _ rfl (.tmp 3) (.tmp 4) 22 rfl w.heap.size 5 i8 Tryz.underlying22 hi8 hz80 hz81 hz82 _ 0 [] rfl H0.out _ zs rfl HX.out (by omega) (by simp) ?_;intro a1 c1 m1 w1 e1 o1 g1;rw[Nat.zero_add] at e1;subst e1;rw[List.nil_append] at o1;have H1:=hide (And.intro o1 (HB0.out.grown g1 (by simp) (fun r h=>(H0.out.lt r h).1)));clear o1 g1);go_ret;exact⟨_,_,rfl,H1.out.1,H1.out.2⟩
theorem conv_rdK{w:World}{v:Value}{xs:List Int}(h:Rd .u8 w v xs):(convert 22 9 v).run Tryz.prog w=.ok (.string (strOfNums xs)) w:=by
 obtain⟨a,cap,rfl,hm,hc,h1,h2⟩:=h;by_cases hne:xs=[]
 ·subst hne;rw[run_convert_bytes_string w 22 9 5 _ _ cap Tryz.underlying22 Tryz.underlying5 Tryz.underlying9];cases a with
  |none=>simp[Conv.bytesToString];rfl
  |some ad=>
   exact run_bytesToString w ad 0 cap [] (by simpa using run_loadCells_list (P:=Tryz.prog) w ad [] (by simp))
 ·obtain⟨b,off,rfl,_,hcell⟩:=hc hne;exact run_convert_bytes_arg w 22 5 Tryz.underlying22 Tryz.underlying5 b off xs.length cap xs rfl hcell 9 Tryz.underlying9
theorem wpList_convK{ops:Array Oper}{rest:List Oper}{o:Oper}{a:Act}{w:World}{Q:Exit→Act→World→Prop}(hgd:o.guard=none)(x:Operand)(ho:o.op=.convert 22 9 x)(v:Value)(hx:a.eval x=v)(xs:List Int)(hr:Rd .u8 w v xs)
 (h:wpList Tryz.prog ops Q rest (a.put o.dst (.string (strOfNums xs))) w):wpList Tryz.prog ops Q (o::rest) a w:=by
 refine wpList_plain hgd fun K hK=>?_;unfold Oper.wp execOp;simp only[ho,hx,Sem.run_bind,Sem.run_pure,Result.andThen_ok,conv_rdK hr];exact hK _ _ h
theorem smK_any(v u:Value)(xs ys:List Int)(w:World)(h:Rd .u8 w v xs)(k:Rd .u8 w u ys):
 Calls Tryz.prog 30 #[v,u] w fun e w'=>∃t:Bool,e=.returned (.bool t)∧(xs=ys→t=true)∧w'=w:=by
 have H:=hide h;have K:=hide k;clear h k;go_enter Tryz.func30,Tryz.ntmps30;go_wp2_with (first|(refine wpList_convK rfl _ rfl v rfl xs H.out ?_)|(refine wpList_convK rfl _ rfl u rfl ys K.out ?_)|fail);go_ret;exact⟨_,rfl,fun e=>by subst e;simp,rfl⟩
theorem cells_newP(w:World)(C:Array Value)(e:TypeId):∀(j:Nat) (u:Value),C.toList[j]?=some u→(w.alloc (.cells C e)).cell? (Addr.add ⟨w.heap.size,0,none⟩ j)=some u:=cells_newR w C e
def lenP:Value→Nat
 |.slice _ l _=>l
 |_=>0
theorem fillJ_any(v:Value)(zs:List Int)(n:Nat)(N:Int)(hN:N=(n:Int))(w:World)(h:Rd .u8 w v zs)(h1:zs.length≤n)(h2:n≤300000):
 Calls Tryz.prog 44 #[v,.int .i64 N] w fun e w'=>∃a c,e=.returned (.slice a n c)∧w'.ownsRow w.heap.size 5 1 (.slice a n c) n ((zs++List.replicate (n-zs.length) 0).map (Value.int .u8))∧Below w.heap.size w w':=by
 subst hN;obtain⟨i8,hi8,hz80,hz81,hz82⟩:=info_parts infoU8P;have HB0:=hide (show Below w.heap.size w (w.alloc (.cells #[] 5)) from(Below.refl _ _).alloc (Nat.le_refl _) _);have HX:=hide (h.below HB0.out);have H0:=hide (own_emptyM w 5 1);have hv:∃a c,v=.slice a zs.length c:=rd_shapeT h;obtain⟨va,vc,rfl⟩:=hv;clear h;go_enter Tryz.func44,Tryz.ntmps44;go_wp2_with (at_builtin;refine wpList_append_rdP _ rfl (.tmp 6) (.tmp 7) 22 rfl w.heap.size 5 i8 Tryz.underlying22 hi8 hz80 hz81 hz82 _ 0 [] rfl H0.out _ zs rfl HX.out (by omega) (by simp) ?_;intro a1 c1 m1 w1 e1 o1 g1;rw[Nat.zero_add] at e1;subst e1;rw[List.nil_append] at o1;have H1:=hide (And.intro o1 (HB0.out.grown g1 (by simp) (fun r h=>(H0.out.lt r h).1)));clear o1 g1);go_loopw [5] (fun o wr=>∃j:Nat,∃m:Nat,∃a:Option Addr,∃c:Nat,m=zs.length+j∧m≤n∧o=.slice a m c∧wr.ownsRow w.heap.size 5 1 (.slice a m c) m ((zs++List.replicate j 0).map (Value.int .u8))∧Below w.heap.size w wr) (fun o _=>n-lenP o)
 case atStart=>exact⟨0,_,a1,c1,rfl,h1,rfl,by simpa using H1.out.1,H1.out.2⟩
 case round=>
  clear H1;obtain⟨j,m,a,c,hm,hmn,rfl,hown,hb⟩:=hrel;have hsz:=hb.size;have HO:=hide (And.intro hown hb);have HM:=hide hm;clear hown hb hm;by_cases hlt:m<n
  ·have hltI:(m:Int)<(n:Int):=(by omega);go_wp2_with (at_builtin;refine wpList_append_own _ rfl (.tmp 13) (.tmp 14) 22 rfl w.heap.size 5 i8 (.int .u8 0) 1 1 Tryz.underlying22 hi8 hz80 hz81 hz82 rfl (by decide) _ m _ rfl (HO.out.1.alloc _) ⟨wr.heap.size,0,none⟩ 1 1 [.int .u8 0] rfl rfl (cells_newP wr #[.int .u8 0] 5) (by simp[Value.oneCell']) (by unfold maxLen;omega) (by omega) (by simp;omega) ?_;intro v4 w4 o4 g4 _;obtain⟨a4,c4,rfl⟩:=own_shape o4;have HW:=hide (show w4.ownsRow w.heap.size 5 1 (.slice a4 (m+1) c4) (m+1) ((zs++List.replicate (j+1) 0).map (Value.int .u8))∧Below w.heap.size w w4 from⟨by rw[List.replicate_succ', ←List.append_assoc,List.map_append];exact o4,(HO.out.2.alloc hsz _).grown g4 (by simp;omega) (fun r h=>(HO.out.1.lt r h).1)⟩);clear o4 g4);go_roundw
   case rel=>exact⟨j+1,m+1,a4,c4,by have:=HM.out;omega,by omega,rfl,HW.out.1,HW.out.2⟩
   case measure=>show n-(m+1)<n-m;omega
  ·obtain rfl:m=n:=(by omega);have hltI:¬(m:Int)<(m:Int):=(by omega);go_wp2;go_ret;have e:j=m-zs.length:=(by have:=HM.out;omega);have h3:=HO.out;rw[e] at h3;obtain⟨h31,h32⟩:=h3;rw[List.map_append,List.map_replicate] at h31;exact⟨a,c,rfl,by simpa using h31,h32⟩
end
end Go.Proofs.YtbhpealglhkodaaGreatDoor
