/- The program's look at a root: isPointer, blocksOf, pointersFault, rootFault -/
import Derived.Test.YtbhpealglhkodaaGreatDoorXc07
import Derived.Great.Walk
namespace Go.Proofs.YtbhpealglhkodaaGreatDoor
set_option linter.all false
set_option maxRecDepth 100000
set_option maxHeartbeats 16000000
section
open Go.RowKit
theorem isBlock_any(x n:Int)(w:World):Calls Tryz.prog 37 #[.int .i64 x,.int .i64 n] w fun e w'=>e=.returned (.bool (decide (2≤x)&&decide (x<n)))∧w=w':=by
 by_cases h2:2≤x
 ·have HR:=hide (show(decide (2≤x)&&decide (x<n))=decide (x<n) from by simp[h2]);go_enter Tryz.func37,Tryz.ntmps37;go_wp2;go_ret;exact⟨ret_bool (by rw[HR.out]),rfl⟩
 ·have hq2:decide (2≤x)=false:=by simp;omega
  have HR:=hide (show(decide (2≤x)&&decide (x<n))=false from by rw[hq2];rfl);go_enter Tryz.func37,Tryz.ntmps37;go_wp2;go_ret;exact⟨ret_bool (by first|rfl|rw[HR.out]),rfl⟩
theorem isPointer_any(x n:Int)(w:World):Calls Tryz.prog 116 #[.int .i64 x,.int .i64 n] w fun e w'=>e=.returned (.bool (ptrB x n))∧w=w':=by
 have HP:=hide (show ptrB x n=(decide (x=0)||(decide (2≤x)&&decide (x<n))) from rfl);by_cases h0:x=0
 ·subst h0;go_enter Tryz.func116,Tryz.ntmps116;go_wp2;go_ret;exact⟨rfl,rfl⟩
 ·have hq:(x==0)=false:=by simp[h0]
  have HD:=hide (show ptrB x n=(decide (2≤x)&&decide (x<n)) from by rw[HP.out];simp[h0]);clear h0;go_enter Tryz.func116,Tryz.ntmps116;go_wp2_with (go_at_call 37;refine(isBlock_any x n _).mono ?_;rintro e w' ⟨rfl,rfl⟩);go_ret;exact⟨ret_bool (by rw[HD.out]),rfl⟩
theorem blocksOf_out(x:Int)(w:World):Calls Tryz.prog 103 #[.int .i64 x] w fun e w'=>(∃y,e=.returned (.int .i64 y)∧(0≤x→x≤262144→y=(x+511)/512))∧w=w':=by
 by_cases h0:0≤x∧x≤262144
 ·obtain⟨h0,h1⟩:=h0;have h2:x/512≤512:=by omega
  have h3:0≤x/512:=by omega
  by_cases hr:x%512=0
  ·have hq:(x%512 !=0)=false:=(by simp[hr]);have HR:=hide hr;clear hr;go_enter Tryz.func103,Tryz.ntmps103;go_wp2;go_ret;exact⟨⟨x/512,rfl,fun _ _=>by have:=HR.out;omega⟩,rfl⟩
  ·have hq:(x%512 !=0)=true:=(by simpa using hr);have HR:=hide hr;clear hr;go_enter Tryz.func103,Tryz.ntmps103;go_wp2;go_ret;exact⟨⟨x/512+1,rfl,fun _ _=>by have:=HR.out;omega⟩,rfl⟩
 ·have H:=hide h0;clear h0;go_enter Tryz.func103,Tryz.ntmps103;go_wp2;all_goals go_ret
  all_goals exact⟨⟨_,rfl,fun a b=>absurd ⟨a,b⟩ H.out⟩,rfl⟩
theorem index12(ds:List Int)(k:Nat)(hd:ds.length=12)(hk:k<12)(w:World):(Instr.index 23 (.agg (cellsI ds)) (.int .i64 k)).run Tryz.prog w=.ok (.int .i64 (ds.getD k 0)) w:=by
 have hg:k<ds.length:=by omega
 simp[Instr.index,run_underlying Tryz.underlying23,asIntOf,go_sem,cellsI,hg];intro h;omega
theorem all_take'(f:Int→Bool)(ds:List Int)(k:Nat)(h:k<ds.length):(ds.take (k+1)).all f=((ds.take k).all f&&f (ds.getD k 0)):=by
 rw[List.take_succ_eq_append_getElem h,List.all_append];simp[List.getD,h]
structure Kp(w wr:World)(C:Array Value)(t:TypeId)(code:Int)(ok:Bool):Prop where
 blk:Blk wr w.heap.size C t
 ck:Ck wr (w.heap.size+1) (w.heap.size+1+1) code ok
 old:Below w.heap.size w wr
theorem Kp.lo{w wr:World}{C:Array Value}{t:TypeId}{code:Int}{ok:Bool}(h:Kp w wr C t code ok):w.heap.size+1+1≤wr.heap.size:=h.ck.lt
theorem Kp.tch{w wr w':World}{C:Array Value}{t:TypeId}{code:Int}{ok ok':Bool}(h:Kp w wr C t code ok)(hc:Ck w' (w.heap.size+1) (w.heap.size+1+1) code ok')(ht:Tch (w.heap.size+1) wr w'):Kp w w' C t code ok':=
 ⟨(ht.1.block _ h.blk.lt (by simp)).trans h.blk,hc,ht.under h.old (by omega) (Nat.le_of_lt h.blk.lt)⟩
theorem Kp.fault{w wr:World}{C:Array Value}{t:TypeId}{code:Int}{ok:Bool}(h:Kp w wr C t code ok):∃ev,wr.cell? ⟨w.heap.size+1,1,none⟩=some ev∧FaultIs wr w.heap.size ok ev code:=by
 obtain⟨_,_,ev,c3,c4⟩:=h.ck;refine⟨ev,c3,?_⟩;rcases c4 with c4|⟨c4,n,c5⟩
 ·exact .inl c4
 ·exact .inr ⟨c4,n,c5.mono (by omega)⟩
def ptrsB(ds:List Int)(p q n:Int):Bool:=(ds.all fun x=>ptrB x n)&&ptrB p n&&ptrB q n
theorem pointersFault_any(s:Int)(ds:List Int)(p q n code:Int)(w:World)(hd:ds.length=12):
 Calls Tryz.prog 102 #[.agg (cellsI (rootI s ds p q)),.int .i64 n,.int .i64 code] w fun e w'=>∃ev,e=.returned ev∧FaultIs w' w.heap.size (ptrsB ds p q n) ev code∧Below w.heap.size w w':=by
 have HD:=hide hd;have kB:=(Blk.new w (cellsI (rootI s ds p q)) 27).alloc (.cells #[.int .i64 code,.nilIface] 136);have kC:=Ck.fresh (w.alloc (.cells (cellsI (rootI s ds p q)) 27)) code 136;rw[World.size_alloc] at kC;have hb0:Below w.heap.size w ((w.alloc (.cells (cellsI (rootI s ds p q)) 27)).alloc (.cells #[.int .i64 code,.nilIface] 136)):=((Below.refl _ _).alloc (Nat.le_refl _) _).alloc (by simp) _;have hr:=kB.range 1 12 (by rw[rootI_len _ _ _ _ HD.out];omega);rw[root_range _ _ _ _ HD.out] at hr;have HX:=hide (fun k hk w=>index12 ds k HD.out hk w);have K:=hide (show Kp w ((w.alloc (.cells (cellsI (rootI s ds p q)) 27)).alloc (.cells #[.int .i64 code,.nilIface] 136)) (cellsI (rootI s ds p q)) 27 code true from⟨kB,kC,hb0⟩);have HR:=hide hr;clear hd kB kC hb0 hr;go_enter Tryz.func102,Tryz.ntmps102;go_wp2_with (refine wpList_load_mid rfl 23 _ rfl w.heap.size 1 rfl (ds.map (Value.int .i64)) _ HR.out Tryz.underlying23 rfl (by rw[List.length_map,HD.out];exact info12) ?_);go_loopw [14] (fun i wr=>∃k:Nat,k≤12∧i=.int .i64 k∧Kp w wr (cellsI (rootI s ds p q)) 27 code ((ds.take k).all fun x=>ptrB x n)) (fun i _=>12-(intOf i).toNat)
 case atStart=>exact⟨0,by omega,rfl,K.out⟩
 case round=>
  obtain⟨k,hk,rfl,hkp⟩:=hrel;have HK:=hide hkp;clear hkp K HR;by_cases hlt:k<12
  ·have hix:∀w,(Instr.index 23 (.agg (ds.map (Value.int .i64)).toArray) (.int .i64 k)).run Tryz.prog w=.ok (.int .i64 (ds.getD k 0)) w:=fun w=>HX.out k hlt w;have HT:=hide (all_take' (fun x=>ptrB x n) ds k (by rw[HD.out];exact hlt));generalize ds.getD k 0=z at hix HT;go_wp2_with (first|(go_at_call 116;refine(isPointer_any z n _).mono ?_;rintro e w1 ⟨rfl,rfl⟩)|(go_at_call 76;refine(need_any (w.heap.size+1) (w.heap.size+1+1) _ code _ (ptrB z n) _ HK.out.ck (by omega) HK.out.lo).mono ?_;rintro e w1 ⟨rfl,hc1,ht1⟩));have H1:=hide (HK.out.tch hc1 ht1);clear hc1 ht1;go_roundw
   case rel=>exact⟨k+1,by omega,by go_num,by rw[HT.out];exact H1.out⟩
   case measure=>simp[intOf];omega
  ·have e12:k=12:=(by omega);subst e12;rw[List.take_of_length_le (by rw[HD.out];omega)] at HK;have a13:=(HK.out.blk.cell 13).trans (rootI_get13 s ds p q HD.out);have lt1:=HK.out.lo;go_wp2_with (first|(go_at_call 116;refine(isPointer_any p n _).mono ?_;rintro e w1 ⟨rfl,rfl⟩)|(go_at_call 76;fail));refine(need_any (w.heap.size+1) (w.heap.size+1+1) _ code _ (ptrB p n) _ HK.out.ck (by omega) HK.out.lo).mono ?_;rintro e w1 ⟨rfl,hc1,ht1⟩;have H1:=hide (HK.out.tch hc1 ht1);have a14:=(H1.out.blk.cell 14).trans (rootI_get14 s ds p q HD.out);clear hc1 ht1 a13 lt1;go_wp2_with (first|(go_at_call 116;refine(isPointer_any q n _).mono ?_;rintro e w1' ⟨rfl,rfl⟩)|(go_at_call 76;fail));refine(need_any (w.heap.size+1) (w.heap.size+1+1) _ code _ (ptrB q n) _ H1.out.ck (by omega) H1.out.lo).mono ?_;rintro e w2 ⟨rfl,hc2,ht2⟩;have H2:=hide (H1.out.tch hc2 ht2);obtain⟨ev,c3,hf⟩:=H2.out.fault;have HF:=hide hf;clear hc2 ht2 a14 hf;go_wp2;go_ret;exact⟨ev,rfl,HF.out,H2.out.old⟩
def rightI(s:Int)(ds:List Int)(p q y:Int):Bool:=
 (((((decide (0≤s)&&decide (s≤262144))&&ptrsB ds p q 2048)&&((List.range 12).all fun i=>decide (ds.getD i 0=0)||decide ((i:Int)<y)))&&(decide (p=0)||decide (12<y)))&&(decide (q=0)||decide (140<y)))
theorem right_eq(s:Int)(ds:List Int)(p q y:Int)(hd:ds.length=12)(hy:0≤s→s≤262144→y=(s+511)/512):rightI s ds p q y=rightR s ds p q:=by
 unfold rightI rightR;by_cases h1:0≤s
 ·by_cases h2:s≤262144
  ·rw[hy h1 h2];match ds,hd with
   |[d0,d1,d2,d3,d4,d5,d6,d7,d8,d9,d10,d11],_=>
    simp[ptrsB,allR,okAt,lst,h1,h2,List.range,List.range.loop,List.getD];ac_rfl
  ·simp[h2]
 ·simp[h1]
def belR(l r k:Nat):Nat:=(if l=0 then 12 else 1)+r*128+k
def firI:Nat→Nat→Nat
 |0,r=>r
 |l+1,r=>firI l (belR l r 0)
abbrev spotV(l r:Nat):Value:=.agg #[.int .i64 (l:Int),.int .i64 (r:Int)]
theorem infoSp:(Tryz.prog.info? 123).map (·.size)=some 2:=by kernel_rfl
theorem spotBelow_any(l r k:Nat)(w:World)(hl:l≤4)(hr:r≤100000)(hk:k≤4096):
 Calls Tryz.prog 107 #[spotV (l+1) r,.int .i64 (k:Int)] w fun e w'=>e=.returned (spotV l (belR l r k))∧Below w.heap.size w w':=by
 by_cases h0:l=0
 ·subst h0;have HE:=hide (show((belR 0 r k:Nat):Int)=12+(r:Int)*128+(k:Int) by unfold belR;rw[if_pos rfl];omega);go_enter Tryz.func107,Tryz.ntmps107;go_wp2;refine bodyPost_ret (v:=.agg #[.int .i64 0,.int .i64 (12+(r:Int)*128+(k:Int))]) ?_ rfl ⟨by unfold spotV;rw[HE.out];rfl,((Below.refl _ _).alloc (Nat.le_refl _) _).alloc (by simp) _⟩;exact results_cell_row rfl _ _ (w.heap.size+1) 123 _ (0,0) _ rfl (by have h:=Blk.new (w.alloc (Obj.cells #[Value.int IntKind.i64 1,Value.int IntKind.i64 ↑r] 123)) #[.int .i64 0,.int .i64 (12+(r:Int)*128+(k:Int))] 123;rw[World.size_alloc] at h;exact h) Tryz.underlying123 rfl infoSp
 ·have HE:=hide (show((belR l r k:Nat):Int)=1+(r:Int)*128+(k:Int) by unfold belR;rw[if_neg h0];omega);have h1:((l:Int)==0)=false:=by simp;omega
  go_enter Tryz.func107,Tryz.ntmps107;go_wp2;refine bodyPost_ret (v:=.agg #[.int .i64 (l:Int),.int .i64 (1+(r:Int)*128+(k:Int))]) ?_ rfl ⟨by unfold spotV;rw[HE.out],((Below.refl _ _).alloc (Nat.le_refl _) _).alloc (by simp) _⟩;exact results_cell_row rfl _ _ (w.heap.size+1) 123 _ (0,0) _ rfl (by have h:=Blk.new (w.alloc (Obj.cells #[Value.int IntKind.i64 (↑l+1),Value.int IntKind.i64 ↑r] 123)) #[.int .i64 (l:Int),.int .i64 (1+(r:Int)*128+(k:Int))] 123;rw[World.size_alloc] at h;exact h) Tryz.underlying123 rfl infoSp
def spotM(b:Nat)(wr:World):Nat:=match wr.cell? ⟨b,0,none⟩ with|some (.int _ z)=>z.toNat|_=>0
theorem firI_le:∀(l r:Nat),r≤firI l r
 |0,r=>Nat.le_refl _
 |l+1,r=>Nat.le_trans (by unfold belR;omega) (firI_le l (belR l r 0))
theorem first_any(l r:Nat)(w:World)(hl:l≤4)(hf:firI l r≤100000):
 Calls Tryz.prog 106 #[spotV l r] w fun e w'=>e=.returned (.int .i64 (firI l r:Nat))∧Below w.heap.size w w':=by
 have HF:=hide hf;clear hf;go_enter Tryz.func106,Tryz.ntmps106;go_wp2;go_loopw [6] (fun sv wr=>∃l' r':Nat,l'≤4∧firI l' r'=firI l r∧Blk wr w.heap.size #[.int .i64 (l':Int),.int .i64 (r':Int)] 123∧Below w.heap.size w wr) (fun _ wr=>spotM w.heap.size wr)
 case atStart=>exact⟨l,r,hl,rfl,Blk.new _ _ _,(Below.refl _ _).alloc (Nat.le_refl _) _⟩
 case round=>
  obtain⟨l',r',hl',hfe,kb,hb⟩:=hrel;have c0:=(kb.cell 0).trans (show _=some (.int .i64 (l':Int)) from rfl);have c1:=(kb.cell 1).trans (show _=some (.int .i64 (r':Int)) from rfl);have HK:=hide (And.intro hfe (And.intro kb hb));have HR:=hide (show r'≤100000 from Nat.le_trans (firI_le l' r') (by rw[hfe];exact HF.out));clear hfe kb hb;cases l' with
  |zero=>
   go_wp2;go_ret;exact⟨by rw[←HK.out.1];rfl,HK.out.2.2⟩
  |succ l'=>
   have hp:(0:Int)<(l':Int)+1:=(by omega);have c0':wr.cell? ⟨w.heap.size,0,none⟩=some (.int .i64 ((l':Int)+1)):=(by rw[c0];simp);have hl3:l'≤4:=(by omega);have HN:=hide (show firI l' (belR l' r' 0)=firI l r from HK.out.1);have HMz:=hide c0;clear c0;go_wp2_with (first
    |(go_at_call 107;refine(spotBelow_any l' r' 0 _ hl3 HR.out (by omega)).mono ?_;rintro e w1 ⟨rfl,b1⟩;have B1:=hide b1;have K1:=hide (HK.out.2.1.below b1 HK.out.2.1.lt);clear b1)
    |(refine wpList_store_row rfl 123 _ _ rfl w.heap.size #[.int .i64 (l':Int),.int .i64 (belR l' r' 0:Nat)] rfl rfl 123 _ K1.out infoSp rfl (by simp[Value.oneCell']) ?_))
   go_roundw
   case rel=>exact⟨_,_,_,_,_,⟨l',belR l' r' 0,by omega,HN.out,K1.out.row _,below_setRow (HK.out.2.2.trans (B1.out.mono HK.out.2.2.size)) (Nat.le_refl _) _⟩,rfl⟩
   case measure=>
    have e1:(w1.setRow w.heap.size #[.int .i64 (l':Int),.int .i64 (belR l' r' 0:Nat)]).cell? ⟨w.heap.size,0,none⟩=some (.int .i64 (l':Int)):=((K1.out.row _).cell 0).trans rfl;unfold spotM;rw[e1,HMz.out];simp
theorem infoBk:(Tryz.prog.info? 150).map (·.size)=some 512:=by kernel_rfl
theorem infoBw:(Tryz.prog.info? 154).map (·.size)=some 128:=by kernel_rfl
def zBk:Array Value:=Array.replicate 512 (.int .u8 0)
def zBw:Array Value:=Array.replicate 128 (.int .i64 0)
theorem allocBk(w:World):(Instr.alloc 150 true (.tuple #[])).run Tryz.prog w=.ok (.pointer (some ⟨w.heap.size,0,none⟩)) (w.alloc (.cells zBk 150)):=by kernel_rfl
theorem allocBw(w:World):(Instr.alloc 154 true (.tuple #[])).run Tryz.prog w=.ok (.pointer (some ⟨w.heap.size,0,none⟩)) (w.alloc (.cells zBw 154)):=by kernel_rfl
theorem letBk:∃Z:Array Value,Z.size=512∧∀(ρ:Operand→Value) (o:Oper) (w:World),o.op=.alloc 150→(execOp ρ o).run Tryz.prog w=.ok (.value (.pointer (some ⟨w.heap.size,0,none⟩))) (w.alloc (.cells Z 150)):=
 ⟨zBk,by simp[zBk],fun ρ o w ho=>by simp[execOp,ho,allocBk,Result.andThen]⟩
theorem letBw:∃Z:Array Value,Z.size=128∧∀(ρ:Operand→Value) (o:Oper) (w:World),o.op=.alloc 154→(execOp ρ o).run Tryz.prog w=.ok (.value (.pointer (some ⟨w.heap.size,0,none⟩))) (w.alloc (.cells Z 154)):=
 ⟨zBw,by simp[zBw],fun ρ o w ho=>by simp[execOp,ho,allocBw,Result.andThen]⟩
theorem range_rd{k:IntKind}{w:World}{b off:Nat}{zs:List Int}(hc:∀i,i<zs.length→w.cell? ⟨b,off+i,none⟩=some (.int k (zs.getD i 0))):w.rangeAt b off (zs.map (Value.int k)):=by
 intro j v hj;have hj2:j<zs.length:=by
  rcases Nat.lt_or_ge j zs.length with h|h
  ·exact h
  ·rw[List.getElem?_eq_none (by rw[List.length_map];exact h)] at hj;cases hj
 rw[hc j hj2];rw[List.getElem?_map,List.getElem?_eq_getElem hj2] at hj;simp at hj;rw[←hj];simp[List.getD,hj2]
theorem wpList_arrayT{P:Program}{ops:Array Oper}{rest:List Oper}{op:Oper}{a:Act}{w:World}{Q:Exit→Act→World→Prop}(hw:Region.wanted op (yielded ops a.tmps)=true)(t e:TypeId)(N:Nat)(x:Operand)(ho:op.op=.sliceToArrayPointer t x)
 (ad:Option Addr) (len cap:Nat) (hx:a.eval x=.slice ad len cap) (hu:P.underlying t=some (.array N e)) (hl:N≤len) (h:wpList P ops Q rest (a.put op.dst (.pointer ad)) w):wpList P ops Q (op::rest) a w:=
 Go.BigFrame.wpList_want hw fun K hK=>by
  have hrun:(execOp a.eval op).run P w=.ok (.value (.pointer ad)) w:=by
   simp[execOp,ho,hx,Instr.arrayAt,run_underlying hu,Nat.not_lt.mpr hl,Result.andThen]
  unfold Oper.wp;rw[hrun,Oper.upon_value];exact hK _ _ h
theorem bytesAtT_any(v:Value)(zs:List Int)(q:Nat)(w:World)(h:Rd .u8 w v zs)(hk:q*512+512≤zs.length)(hz:zs.length≤1048576):
 Calls Tryz.prog 109 #[v,.int .i64 (q:Int)] w fun e w'=>∃b off cap,e=.returned (.slice (some ⟨b,off,none⟩) 512 cap)∧Rd .u8 w (.slice (some ⟨b,off,none⟩) 512 cap) (blkP zs (q:Int))∧w=w':=by
 obtain⟨b,off,cap,rfl,hb,hlc,hcm,hcell⟩:=h.partsC (by omega);obtain⟨A,hA⟩:∃A:Nat,A=q*512:=⟨_,rfl⟩;have hA1:(q:Int)*512=(A:Int):=by omega
 obtain⟨B,hB⟩:∃B:Nat,B=A+512:=⟨_,rfl⟩;have hA2:((q:Int)+1)*512=(B:Int):=by omega
 have hAB:B≤zs.length:=by omega
 have HP:=hide (show Rd .u8 w (.slice (some ⟨b,off+A,none⟩) 512 (cap-A)) (blkP zs (q:Int)) from by unfold blkP;rw[Int.toNat_natCast, ←hA];exact Rd.cut2 A 512 h (by omega) (by omega));have hB3:(A:Int)≤(B:Int):=by omega
 have hB4:(B:Int)≤(cap:Int):=by omega
 have hB5:B-A=512:=by omega
 have hq:(q:Int)<4096:=by omega
 clear h hcell hA hB;go_enter Tryz.func109,Tryz.ntmps109;go_wp2;go_ret;exact⟨_,_,_,rfl,HP.out,rfl⟩
theorem u8_one(zs:List Int):(zs.map (Value.int .u8)).toArray.all (·.oneCell')=true:=by simp[Value.oneCell']
theorem i64_one(zs:List Int):(zs.map (Value.int .i64)).toArray.all (·.oneCell')=true:=by simp[Value.oneCell']
theorem blockAt_any(C:Array Value)(v:Value)(zs:List Int)(q:Nat)(w:World)(hC:C[0]?=some v)(h:Rd .u8 w v zs)(hk:q*512+512≤zs.length)(hz:zs.length≤1048576):
 Calls Tryz.prog 88 #[.agg C,.int .i64 (q:Int)] w fun e w'=>e=.returned (.agg ((blkP zs (q:Int)).map (Value.int .u8)).toArray)∧Below w.heap.size w w':=by
 obtain⟨Z,hZ,hAl⟩:=letBk;have HAl:=hide hAl;have HZ:=hide hZ;have hl5:(blkP zs (q:Int)).length=512:=by unfold blkP;rw[List.length_take,List.length_drop,Int.toNat_natCast];omega
 have HL:=hide hl5;have HSZ:=hide (show Z.size=((blkP zs (q:Int)).map (Value.int .u8)).toArray.size by simp[hl5,hZ]);have HIN:=hide (show(Tryz.prog.info? 150).map (·.size)=some ((blkP zs (q:Int)).map (Value.int .u8)).toArray.size by rw[infoBk];simp[hl5]);clear hAl hZ hl5;obtain⟨sa,sc,rfl⟩:=rd_shapeT h;have W2b:Below w.heap.size w ((w.alloc (.cells C 75)).alloc (.cells Z 150)):=((Below.refl _ _).alloc (Nat.le_refl _) _).alloc (by simp) _;have c0:((w.alloc (.cells C 75)).alloc (.cells Z 150)).cell? ⟨w.heap.size,0,none⟩=some (.slice sa zs.length sc):=(((Blk.new w C 75).alloc (.cells Z 150)).cell 0).trans hC;have KZ:=hide (show Blk ((w.alloc (.cells C 75)).alloc (.cells Z 150)) (w.heap.size+1) Z 150 from by have h:=Blk.new (w.alloc (.cells C 75)) Z 150;rw[World.size_alloc] at h;exact h);have HB:=hide W2b;have HR:=hide h;clear h W2b;go_enter Tryz.func88,Tryz.ntmps88;go_wp2_with (first
  |(refine Great.wpList_allocTo rfl (some 4) rfl (.pointer (some ⟨w.heap.size+1,0,none⟩)) (.cells Z 150) (by have e:=HAl.out;rw[show w.heap.size+1=(w.alloc (.cells C 75)).heap.size by simp];exact e _ _ _ rfl) ?_)
  |(go_at_call 109;refine(bytesAtT_any _ zs q _ (HR.out.below HB.out) hk hz).mono ?_;rintro e w9 ⟨b,off,cap,rfl,r1,rfl⟩;obtain⟨b',off',cap',e1,hb,_,_,hcell⟩:=r1.partsC (by rw[HL.out];omega);injection e1 with e1 e2 e3;injection e1 with e1;injection e1 with e1 e4;subst e1 e4;have HRg:=hide (range_rd hcell);clear hcell r1 e2 e3)
  |(refine wpList_arrayT (by rfl) 150 5 512 _ rfl (some ⟨b,off,none⟩) 512 cap rfl Tryz.underlying150 (Nat.le_refl _) ?_)
  |(refine wpList_load_mid rfl 150 _ rfl b off rfl ((blkP zs (q:Int)).map (Value.int .u8)) _ HRg.out Tryz.underlying150 rfl (by rw[List.length_map,HL.out];exact infoBk) ?_)
  |(refine wpList_store_row rfl 150 _ _ rfl (w.heap.size+1) ((blkP zs (q:Int)).map (Value.int .u8)).toArray rfl rfl 150 Z KZ.out HIN.out HSZ.out (u8_one _) ?_))
 refine bodyPost_ret (v:=.agg ((blkP zs (q:Int)).map (Value.int .u8)).toArray) ?_ rfl ⟨rfl,below_setRow HB.out (by omega) _⟩;exact results_cell_row rfl _ _ (w.heap.size+1) 150 _ (0,0) _ rfl (KZ.out.row _) Tryz.underlying150 rfl (by rw[List.size_toArray,List.length_map,HL.out];exact infoBk)
theorem infoTr:(Tryz.prog.info? 75).map (·.size)=some 16:=by kernel_rfl
theorem pointersAt_any(C:Array Value)(v:Value)(zs:List Int)(q:Nat)(w:World)(hC:C[0]?=some v)(hCs:C.size=16)(h:Rd .u8 w v zs)(hk:q*512+512≤zs.length)(hz:zs.length≤1048576)(hbd:∀z∈zs,0≤z∧z<256):
 Calls Tryz.prog 93 #[.agg C,.int .i64 (q:Int)] w fun e w'=>e=.returned (.agg (((List.range 128).map (wrdP zs (q:Int))).map (Value.int .i64)).toArray)∧Below w.heap.size w w':=by
 obtain⟨Z,hZ,hAl⟩:=letBk;obtain⟨Z1,hZ1,hAl1⟩:=letBw;have HAl:=hide hAl;have HAl1:=hide hAl1;have hl5:(blkP zs (q:Int)).length=512:=by unfold blkP;rw[List.length_take,List.length_drop,Int.toNat_natCast];omega
 have HL:=hide hl5;obtain⟨BB,hBB⟩:∃BB,BB=((blkP zs (q:Int)).map (Value.int .u8)).toArray:=⟨_,rfl⟩;have HSZ:=hide (show Z.size=BB.size by simp[hBB,hl5,hZ]);have HIN:=hide (show(Tryz.prog.info? 150).map (·.size)=some BB.size by rw[infoBk];simp[hBB,hl5]);have HB1:=hide (show BB.all (·.oneCell')=true by rw[hBB];exact u8_one _);obtain⟨WW,hWW⟩:∃WW,WW=(List.range 128).map (wrdP zs (q:Int)):=⟨_,rfl⟩;have hWl:WW.length=128:=by rw[hWW];simp
 have HW1:=hide (show Z1.size=(WW.map (Value.int .i64)).toArray.size by simp[hWl,hZ1]);have HIW:=hide (show(Tryz.prog.info? 154).map (·.size)=some (WW.map (Value.int .i64)).toArray.size by rw[infoBw];simp[hWl]);have HWL:=hide hWl;have HE:=hide (show decW (blkP zs (q:Int))=WW from by rw[hWW,wrd_row zs _ hl5]);have HBB:=hide hBB;rw[←hWW];have HBd:=hide (show ∀z∈blkP zs (q:Int),0≤z∧z<256 from fun z hz=>hbd z (List.mem_of_mem_drop (List.mem_of_mem_take hz)));clear hAl hZ hl5 hAl1 hZ1 hBB hWW hWl hbd;obtain⟨sa,sc,rfl⟩:=rd_shapeT h;obtain⟨W2,hW2⟩:∃W2,W2=(w.alloc (.cells C 75)).alloc (.cells Z1 154):=⟨_,rfl⟩;have HB:=hide (show Below w.heap.size w W2 from by rw[hW2];exact((Below.refl _ _).alloc (Nat.le_refl _) _).alloc (by simp) _);have KC:=hide (show Blk W2 w.heap.size C 75 from by rw[hW2];exact(Blk.new w C 75).alloc _);have KZ:=hide (show Blk W2 (w.heap.size+1) Z1 154 from by have h:=Blk.new (w.alloc (.cells C 75)) Z1 154;rw[World.size_alloc] at h;rw[hW2];exact h);have HS2:=hide (show W2.heap.size=w.heap.size+2 by rw[hW2];simp);have HW2:=hide hW2;have HR:=hide (And.intro h (And.intro hC hCs));clear h hC hW2 hCs;go_enter Tryz.func93,Tryz.ntmps93;go_upto_region 1 with(first
  |(refine Great.wpList_allocTo rfl (some 4) rfl (.pointer (some ⟨w.heap.size+1,0,none⟩)) (.cells Z1 154) (by have e:=HAl1.out;rw[show w.heap.size+1=(w.alloc (.cells C 75)).heap.size by simp];exact e _ _ _ rfl) ?_))
 rw[←HW2.out];go_upto_region 2 with(first
  |(refine wpList_load_row rfl 75 _ rfl w.heap.size rfl 75 C (0,0) _ KC.out Tryz.underlying75 rfl (by rw[HR.out.2.2];exact infoTr) ?_)
  |(go_at_call 88;refine(blockAt_any C _ zs q _ HR.out.2.1 (HR.out.1.below HB.out) hk hz).mono ?_;rintro e w9 ⟨rfl,b9⟩;rw[←HBB.out];have B9:=hide b9;clear b9)
  |(refine Great.wpList_allocTo rfl (some 5) rfl (.pointer (some ⟨w9.heap.size,0,none⟩)) (.cells Z 150) (HAl.out _ _ _ rfl) ?_)
  |(refine wpList_store_row rfl 150 _ _ rfl w9.heap.size BB rfl rfl 150 Z (Blk.new w9 _ _) HIN.out HSZ.out HB1.out ?_))
 obtain⟨W3,hW3⟩:∃W3,W3=(w9.alloc (.cells Z 150)).setRow w9.heap.size BB:=⟨_,rfl⟩;have K3:=hide (show Blk W3 w9.heap.size BB 150 from by rw[hW3];exact(Blk.new w9 Z 150).row _);have B3:=hide (show Below w9.heap.size w9 W3 from by rw[hW3];exact below_setRow ((Below.refl _ _).alloc (Nat.le_refl _) _) (Nat.le_refl _) _);rw[←hW3];clear hW3;simp only[Act.put];have hs9:=B9.out.size;have HR3:=hide (show Rd .u8 W3 (.slice (some ⟨w9.heap.size,0,none⟩) 512 512) (blkP zs (q:Int)) from by
  refine⟨_,512,by rw[HL.out],by rw[HL.out];decide,fun hne=>⟨w9.heap.size,0,rfl,K3.out.lt,fun i hi=>?_⟩,by rw[HL.out];omega,by decide⟩;rw[Nat.zero_add,K3.out.cell i,HBB.out];simp[List.getD,hi])
 have KZ3:=hide (show Blk W3 (w.heap.size+1) Z1 154 from(KZ.out.below B9.out KZ.out.lt).below B3.out (by have:=HS2.out;omega));go_wp2_with (first
  |(go_at_call 110;refine(wordsOf_any _ (blkP zs (q:Int)) 128 _ HR3.out HBd.out (by rw[HL.out]) (by omega)).mono ?_;rintro e w4 ⟨v4,rfl,o4,b4⟩;rw[show decTo (blkP zs (q:Int)) 128=WW from by rw[←HE.out];unfold decW;rw[if_pos HL.out]] at o4;have r4:=Rd.own (k:=.i64) (zs:=WW) o4;obtain⟨g4,off4,cap4,rfl,hb4,_,_,hcell4⟩:=r4.partsC (by rw[HWL.out];omega);rw[HWL.out];have H4:=hide (And.intro (range_rd hcell4) b4);have KZ4:=hide (KZ3.out.below b4 KZ3.out.lt);clear b4 o4 hcell4 r4)
  |(refine wpList_arrayT (by rfl) 154 3 128 _ rfl (some ⟨g4,off4,none⟩) 128 cap4 rfl Tryz.underlying154 (Nat.le_refl _) ?_)
  |(refine wpList_load_mid rfl 154 _ rfl g4 off4 rfl (WW.map (Value.int .i64)) _ H4.out.1 Tryz.underlying154 rfl (by rw[List.length_map,HWL.out];exact infoBw) ?_)
  |(refine wpList_store_row rfl 154 _ _ rfl (w.heap.size+1) (WW.map (Value.int .i64)).toArray rfl rfl 154 Z1 KZ4.out HIW.out HW1.out (i64_one _) ?_))
 refine bodyPost_ret (v:=.agg (WW.map (Value.int .i64)).toArray) ?_ rfl ⟨rfl,below_setRow (HB.out.trans ((B9.out.trans ((B3.out.trans (H4.out.2.mono B3.out.size)).mono B9.out.size)).mono HB.out.size)) (by omega) _⟩;exact results_cell_row rfl _ _ (w.heap.size+1) 154 _ (0,0) _ rfl (KZ4.out.row _) Tryz.underlying154 rfl HIW.out
end
end Go.Proofs.YtbhpealglhkodaaGreatDoor
