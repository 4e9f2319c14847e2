/- Spots of a tree: below, firstIndex; the bytes and the words of a block: bytesAt, blockAt,  -/
import Derived.Test.YtlimollpocagiaaGreatDoorXa07
import Derived.Great.Walk
namespace Go.Proofs.YtlimollpocagiaaGreatDoor
open Go.Proofs.Tryz
open _root_.List (length_map getD range replicate)
set_option linter.all false
set_option maxRecDepth 100000
set_option maxHeartbeats 16000000
section
open Go.RowKit
def bP(l r k:Nat):Nat:=(if l=0 then 12 else 1)+r*128+k
def cC:Nat→Nat→Nat
 |0,r=>r
 |l+1,r=>cC l (bP l r 0)
abbrev dD(l r:Nat):Value:=.agg #[.int .i64 (l:Int),.int .i64 (r:Int)]
theorem ey:(prog.info? 123).map (·.size)=some 2:=by kernel_rfl
theorem ny(l r k:Nat)(w:World)(hl:l≤4)(hr:r≤100000)(hk:k≤4096):
 Calls prog 101 #[dD (l+1) r,.int .i64 (k:Int)] w fun e w'=>e=.returned (dD l (bP l r k))∧Below w.heap.size w w':=by
 by_cases h0:l=0
 ·subst h0;have HE:=ae (((bP 0 r k:Nat):Int)=12+(r:Int)*128+(k:Int)) (by unfold bP;rw[if_pos rfl];omega);go_enter func101,ntmps101;go_wp2;refine bodyPost_ret (v:=.agg #[.int .i64 0,.int .i64 (12+(r:Int)*128+(k:Int))]) ?_ rfl ⟨by unfold dD;rw[HE.out];rfl,(ak.alloc aj _).alloc (by simp) _⟩;exact results_cell_row rfl _ _ (w.heap.size+1) 123 _ (0,0) _ rfl (by have h:=af.new (w.alloc (Obj.cells #[Value.int IntKind.i64 1,Value.int IntKind.i64 ↑r] 123)) #[.int .i64 0,.int .i64 (12+(r:Int)*128+(k:Int))] 123;rw[World.size_alloc] at h;exact h) underlying123 rfl ey
 ·have HE:=ae (((bP l r k:Nat):Int)=1+(r:Int)*128+(k:Int)) (by unfold bP;rw[if_neg h0];omega);have h1:((l:Int)==0)=false:=by simp;omega
  go_enter func101,ntmps101;go_wp2;refine bodyPost_ret (v:=.agg #[.int .i64 (l:Int),.int .i64 (1+(r:Int)*128+(k:Int))]) ?_ rfl ⟨by unfold dD;rw[HE.out],(ak.alloc aj _).alloc (by simp) _⟩;exact results_cell_row rfl _ _ (w.heap.size+1) 123 _ (0,0) _ rfl (by have h:=af.new (w.alloc (Obj.cells #[Value.int IntKind.i64 (↑l+1),Value.int IntKind.i64 ↑r] 123)) #[.int .i64 (l:Int),.int .i64 (1+(r:Int)*128+(k:Int))] 123;rw[World.size_alloc] at h;exact h) underlying123 rfl ey
def tA(b:Nat)(wr:World):Nat:=match wr.cell? ⟨b,0,none⟩ with|some (.int _ z)=>z.toNat|_=>0
theorem jQ:∀(l r:Nat),r≤cC l r
 |0,r=>aj
 |l+1,r=>aN (by unfold bP;omega) (jQ l (bP l r 0))
theorem qb(l r:Nat)(w:World)(hl:l≤4)(hf:cC l r≤100000):
 Calls prog 121 #[dD l r] w fun e w'=>e=.returned (.int .i64 (cC l r:Nat))∧Below w.heap.size w w':=by
 have HF:=aa hf;clear hf;go_enter func121,ntmps121;go_wp2;go_loopw [6] (fun sv wr=>∃l' r':Nat,l'≤4∧cC l' r'=cC l r∧af wr w.heap.size #[.int .i64 (l':Int),.int .i64 (r':Int)] 123∧Below w.heap.size w wr) (fun _ wr=>tA w.heap.size wr)
 case atStart=>exact⟨l,r,hl,rfl,af.new _ _ _,ak.alloc aj _⟩
 case round=>
  obtain⟨l',r',hl',hfe,kb,hb⟩:=hrel;have c0:=(kb.cell 0).trans (show _=some (.int .i64 (l':Int)) from rfl);have c1:=(kb.cell 1).trans (show _=some (.int .i64 (r':Int)) from rfl);have HK:=aa (ag hfe (ag kb hb));have HR:=ae (r'≤100000) (aN (jQ l' r') (by rw[hfe];exact HF.out));clear hfe kb hb;cases l' with
  |zero=>
   go_wp2;go_ret;exact⟨by rw[←HK.out.1];rfl,HK.out.2.2⟩
  |succ l'=>
   have hp:(0:Int)<(l':Int)+1:=(by omega);have c0':wr.cell? ⟨w.heap.size,0,none⟩=some (.int .i64 ((l':Int)+1)):=(by rw[c0];simp);have hl3:l'≤4:=(by omega);have HN:=ae (cC l' (bP l' r' 0)=cC l r) HK.out.1;have HMz:=aa c0;clear c0;go_wp2_with (first
    |(go_at_call 101;refine(ny l' r' 0 _ hl3 HR.out (by omega)).mono ?_;rintro e w1 ⟨rfl,b1⟩;have B1:=aa b1;have K1:=aa (HK.out.2.1.below b1 HK.out.2.1.lt);clear b1)
    |(refine wpList_store_row rfl 123 _ _ rfl w.heap.size #[.int .i64 (l':Int),.int .i64 (bP l' r' 0:Nat)] rfl rfl 123 _ K1.out ey rfl (by simp[Value.oneCell']) ?_))
   go_roundw
   case rel=>exact⟨_,_,_,_,_,⟨l',bP l' r' 0,by omega,HN.out,K1.out.row _,below_setRow (HK.out.2.2.trans (B1.out.mono HK.out.2.2.size)) aj _⟩,rfl⟩
   case measure=>
    have e1:(w1.setRow w.heap.size #[.int .i64 (l':Int),.int .i64 (bP l' r' 0:Nat)]).cell? ⟨w.heap.size,0,none⟩=some (.int .i64 (l':Int)):=((K1.out.row _).cell 0).trans rfl;unfold tA;rw[e1,HMz.out];simp
theorem mh:(prog.info? 159).map (·.size)=some 512:=by kernel_rfl
theorem lq:(prog.info? 127).map (·.size)=some 128:=by kernel_rfl
def qc:Array Value:=Array.replicate 512 (.int .u8 0)
def nB:Array Value:=Array.replicate 128 (.int .i64 0)
theorem zG(w:World):(Instr.alloc 159 true (.tuple #[])).run prog w=.ok (.pointer (some ⟨w.heap.size,0,none⟩)) (w.alloc (.cells qc 159)):=by kernel_rfl
theorem tB(w:World):(Instr.alloc 127 true (.tuple #[])).run prog w=.ok (.pointer (some ⟨w.heap.size,0,none⟩)) (w.alloc (.cells nB 127)):=by kernel_rfl
theorem qd:∃Z:Array Value,Z.size=512∧∀(ρ:Operand→Value) (o:Oper) (w:World),o.op=.alloc 159→(execOp ρ o).run prog w=.ok (.value (.pointer (some ⟨w.heap.size,0,none⟩))) (w.alloc (.cells Z 159)):=
 ⟨qc,by simp[qc],fun ρ o w ho=>by simp[execOp,ho,zG,Result.andThen]⟩
theorem tC:∃Z:Array Value,Z.size=128∧∀(ρ:Operand→Value) (o:Oper) (w:World),o.op=.alloc 127→(execOp ρ o).run prog w=.ok (.value (.pointer (some ⟨w.heap.size,0,none⟩))) (w.alloc (.cells Z 127)):=
 ⟨nB,by simp[nB],fun ρ o w ho=>by simp[execOp,ho,tB,Result.andThen]⟩
theorem tD{k:IntKind}{w:World}{b off:Nat}{zs:List Int}(hc:∀i,i<zs.length→w.cell? ⟨b,off+i,none⟩=some (.int k (zs.getD i 0))):w.rangeAt b off (zs.map (Value.int k)):=by
 intro j v hj;have hj2:j<zs.length:=by
  rcases Nat.lt_or_ge j zs.length with h|h
  ·exact h
  ·rw[List.getElem?_eq_none (by rw[length_map];exact h)] at hj;cases hj
 rw[hc j hj2];rw[List.getElem?_map,List.getElem?_eq_getElem hj2] at hj;simp at hj;rw[←hj];simp[getD,hj2]
theorem tF{P:Program}{ops:Array Oper}{rest:List Oper}{op:Oper}{a:Act}{w:World}{Q:Exit→Act→World→Prop}(hw:Region.wanted op (yielded ops a.tmps)=true)(t e:TypeId)(N:Nat)(x:Operand)(ho:op.op=.sliceToArrayPointer t x)
 (ad:Option Addr) (len cap:Nat) (hx:a.eval x=.slice ad len cap) (hu:P.underlying t=some (.array N e)) (hl:N≤len) (h:wpList P ops Q rest (a.put op.dst (.pointer ad)) w):wpList P ops Q (op::rest) a w:=
 Go.BigFrame.wpList_want hw fun K hK=>by
  have hrun:(execOp a.eval op).run P w=.ok (.value (.pointer ad)) w:=by
   simp[execOp,ho,hx,Instr.arrayAt,run_underlying hu,Nat.not_lt.mpr hl,Result.andThen]
  unfold Oper.wp;rw[hrun,Oper.upon_value];exact hK _ _ h
theorem zH(v:Value)(zs:List Int)(q:Nat)(w:World)(h:Rd .u8 w v zs)(hk:q*512+512≤zs.length)(hz:zs.length≤1048576):
 Calls prog 111 #[v,.int .i64 (q:Int)] w fun e w'=>∃b off cap,e=.returned (.slice (some ⟨b,off,none⟩) 512 cap)∧Rd .u8 w (.slice (some ⟨b,off,none⟩) 512 cap) (aV zs (q:Int))∧w=w':=by
 obtain⟨b,off,cap,rfl,hb,hlc,hcm,hcell⟩:=h.dj (by omega);obtain⟨A,hA⟩:∃A:Nat,A=q*512:=⟨_,rfl⟩;have hA1:(q:Int)*512=(A:Int):=by omega
 obtain⟨B,hB⟩:∃B:Nat,B=A+512:=⟨_,rfl⟩;have hA2:((q:Int)+1)*512=(B:Int):=by omega
 have hAB:B≤zs.length:=by omega
 have HP:=ae (Rd .u8 w (.slice (some ⟨b,off+A,none⟩) 512 (cap-A)) (aV zs (q:Int))) (by unfold aV;rw[Int.toNat_natCast, ←hA];exact Rd.kL A 512 h (by omega) (by omega));have hB3:(A:Int)≤(B:Int):=by omega
 have hB4:(B:Int)≤(cap:Int):=by omega
 have hB5:B-A=512:=by omega
 have hq:(q:Int)<4096:=by omega
 clear h hcell hA hB;go_enter func111,ntmps111;go_wp2;go_ret;exact⟨_,_,_,rfl,HP.out,rfl⟩
theorem qf(zs:List Int):(zs.map (Value.int .u8)).toArray.all (·.oneCell')=true:=by simp[Value.oneCell']
theorem jn(zs:List Int):(zs.map (Value.int .i64)).toArray.all (·.oneCell')=true:=by simp[Value.oneCell']
theorem tG(C:Array Value)(v:Value)(zs:List Int)(q:Nat)(w:World)(hC:C[0]?=some v)(h:Rd .u8 w v zs)(hk:q*512+512≤zs.length)(hz:zs.length≤1048576):
 Calls prog 93 #[.agg C,.int .i64 (q:Int)] w fun e w'=>e=.returned (.agg ((aV zs (q:Int)).map (Value.int .u8)).toArray)∧Below w.heap.size w w':=by
 obtain⟨Z,hZ,hAl⟩:=qd;have HAl:=aa hAl;have HZ:=aa hZ;have hl5:(aV zs (q:Int)).length=512:=by unfold aV;rw[List.length_take,List.length_drop,Int.toNat_natCast];omega
 have HL:=aa hl5;have HSZ:=ae (Z.size=((aV zs (q:Int)).map (Value.int .u8)).toArray.size) (by simp[hl5,hZ]);have HIN:=ae ((prog.info? 159).map (·.size)=some ((aV zs (q:Int)).map (Value.int .u8)).toArray.size) (by rw[mh];simp[hl5]);clear hAl hZ hl5;obtain⟨sa,sc,rfl⟩:=dZ h;have W2b:Below w.heap.size w ((w.alloc (.cells C 87)).alloc (.cells Z 159)):=(ak.alloc aj _).alloc (by simp) _;have c0:((w.alloc (.cells C 87)).alloc (.cells Z 159)).cell? ⟨w.heap.size,0,none⟩=some (.slice sa zs.length sc):=(((af.new w C 87).alloc (.cells Z 159)).cell 0).trans hC;have KZ:=ae (af ((w.alloc (.cells C 87)).alloc (.cells Z 159)) (w.heap.size+1) Z 159) (by have h:=af.new (w.alloc (.cells C 87)) Z 159;rw[World.size_alloc] at h;exact h);have HB:=aa W2b;have HR:=aa h;clear h W2b;go_enter func93,ntmps93;go_wp2_with (first
  |(refine Great.wpList_allocTo rfl (some 4) rfl (.pointer (some ⟨w.heap.size+1,0,none⟩)) (.cells Z 159) (by have e:=HAl.out;rw[show w.heap.size+1=(w.alloc (.cells C 87)).heap.size by simp];exact e _ _ _ rfl) ?_)
  |(go_at_call 111;refine(zH _ zs q _ (HR.out.below HB.out) hk hz).mono ?_;rintro e w9 ⟨b,off,cap,rfl,r1,rfl⟩;obtain⟨b',off',cap',e1,hb,_,_,hcell⟩:=r1.dj (by rw[HL.out];omega);injection e1 with e1 e2 e3;injection e1 with e1;injection e1 with e1 e4;subst e1 e4;have HRg:=aa (tD hcell);clear hcell r1 e2 e3)
  |(refine tF (by rfl) 159 5 512 _ rfl (some ⟨b,off,none⟩) 512 cap rfl underlying159 aj ?_)
  |(refine wpList_load_mid rfl 159 _ rfl b off rfl ((aV zs (q:Int)).map (Value.int .u8)) _ HRg.out underlying159 rfl (by rw[length_map,HL.out];exact mh) ?_)
  |(refine wpList_store_row rfl 159 _ _ rfl (w.heap.size+1) ((aV zs (q:Int)).map (Value.int .u8)).toArray rfl rfl 159 Z KZ.out HIN.out HSZ.out (qf _) ?_))
 refine bodyPost_ret (v:=.agg ((aV zs (q:Int)).map (Value.int .u8)).toArray) ?_ rfl ⟨rfl,below_setRow HB.out (by omega) _⟩;exact results_cell_row rfl _ _ (w.heap.size+1) 159 _ (0,0) _ rfl (KZ.out.row _) underlying159 rfl (by rw[List.size_toArray,length_map,HL.out];exact mh)
theorem fU:(prog.info? 87).map (·.size)=some 16:=by kernel_rfl
theorem zI(C:Array Value)(v:Value)(zs:List Int)(q:Nat)(w:World)(hC:C[0]?=some v)(hCs:C.size=16)(h:Rd .u8 w v zs)(hk:q*512+512≤zs.length)(hz:zs.length≤1048576)(hbd:∀z∈zs,0≤z∧z<256):
 Calls prog 122 #[.agg C,.int .i64 (q:Int)] w fun e w'=>e=.returned (.agg (((range 128).map (aJ zs (q:Int))).map (Value.int .i64)).toArray)∧Below w.heap.size w w':=by
 obtain⟨Z,hZ,hAl⟩:=qd;obtain⟨Z1,hZ1,hAl1⟩:=tC;have HAl:=aa hAl;have HAl1:=aa hAl1;have hl5:(aV zs (q:Int)).length=512:=by unfold aV;rw[List.length_take,List.length_drop,Int.toNat_natCast];omega
 have HL:=aa hl5;obtain⟨BB,hBB⟩:∃BB,BB=((aV zs (q:Int)).map (Value.int .u8)).toArray:=⟨_,rfl⟩;have HSZ:=ae (Z.size=BB.size) (by simp[hBB,hl5,hZ]);have HIN:=ae ((prog.info? 159).map (·.size)=some BB.size) (by rw[mh];simp[hBB,hl5]);have HB1:=ae (BB.all (·.oneCell')=true) (by rw[hBB];exact qf _);obtain⟨WW,hWW⟩:∃WW,WW=(range 128).map (aJ zs (q:Int)):=⟨_,rfl⟩;have hWl:WW.length=128:=by rw[hWW];simp
 have HW1:=ae (Z1.size=(WW.map (Value.int .i64)).toArray.size) (by simp[hWl,hZ1]);have HIW:=ae ((prog.info? 127).map (·.size)=some (WW.map (Value.int .i64)).toArray.size) (by rw[lq];simp[hWl]);have HWL:=aa hWl;have HE:=ae (iS (aV zs (q:Int))=WW) (by rw[hWW,tf zs _ hl5]);have HBB:=aa hBB;rw[←hWW];have HBd:=ae (∀z∈aV zs (q:Int),0≤z∧z<256) (fun z hz=>hbd z (List.mem_of_mem_drop (List.mem_of_mem_take hz)));clear hAl hZ hl5 hAl1 hZ1 hBB hWW hWl hbd;obtain⟨sa,sc,rfl⟩:=dZ h;obtain⟨W2,hW2⟩:∃W2,W2=(w.alloc (.cells C 87)).alloc (.cells Z1 127):=⟨_,rfl⟩;have HB:=ae (Below w.heap.size w W2) (by rw[hW2];exact(ak.alloc aj _).alloc (by simp) _);have KC:=ae (af W2 w.heap.size C 87) (by rw[hW2];exact(af.new w C 87).alloc _);have KZ:=ae (af W2 (w.heap.size+1) Z1 127) (by have h:=af.new (w.alloc (.cells C 87)) Z1 127;rw[World.size_alloc] at h;rw[hW2];exact h);have HS2:=ae (W2.heap.size=w.heap.size+2) (by rw[hW2];simp);have HW2:=aa hW2;have HR:=aa (ag h (ag hC hCs));clear h hC hW2 hCs;go_enter func122,ntmps122;go_upto_region 1 with(first
  |(refine Great.wpList_allocTo rfl (some 4) rfl (.pointer (some ⟨w.heap.size+1,0,none⟩)) (.cells Z1 127) (by have e:=HAl1.out;rw[show w.heap.size+1=(w.alloc (.cells C 87)).heap.size by simp];exact e _ _ _ rfl) ?_))
 rw[←HW2.out];go_upto_region 2 with(first
  |(refine wpList_load_row rfl 87 _ rfl w.heap.size rfl 87 C (0,0) _ KC.out underlying87 rfl (by rw[HR.out.2.2];exact fU) ?_)
  |(go_at_call 93;refine(tG C _ zs q _ HR.out.2.1 (HR.out.1.below HB.out) hk hz).mono ?_;rintro e w9 ⟨rfl,b9⟩;rw[←HBB.out];have B9:=aa b9;clear b9)
  |(refine Great.wpList_allocTo rfl (some 5) rfl (.pointer (some ⟨w9.heap.size,0,none⟩)) (.cells Z 159) (HAl.out _ _ _ rfl) ?_)
  |(refine wpList_store_row rfl 159 _ _ rfl w9.heap.size BB rfl rfl 159 Z (af.new w9 _ _) HIN.out HSZ.out HB1.out ?_))
 obtain⟨W3,hW3⟩:∃W3,W3=(w9.alloc (.cells Z 159)).setRow w9.heap.size BB:=⟨_,rfl⟩;have K3:=ae (af W3 w9.heap.size BB 159) (by rw[hW3];exact(af.new w9 Z 159).row _);have B3:=ae (Below w9.heap.size w9 W3) (by rw[hW3];exact below_setRow (ak.alloc aj _) aj _);rw[←hW3];clear hW3;simp only[Act.put];have hs9:=B9.out.size;have HR3:=ae (Rd .u8 W3 (.slice (some ⟨w9.heap.size,0,none⟩) 512 512) (aV zs (q:Int))) (by
  refine⟨_,512,by rw[HL.out],by rw[HL.out];decide,fun hne=>⟨w9.heap.size,0,rfl,K3.out.lt,fun i hi=>?_⟩,by rw[HL.out];omega,by decide⟩;rw[Nat.zero_add,K3.out.cell i,HBB.out];simp[getD,hi])
 have KZ3:=ae (af W3 (w.heap.size+1) Z1 127) ((KZ.out.below B9.out KZ.out.lt).below B3.out (by have:=HS2.out;omega));go_wp2_with (first
  |(go_at_call 62;refine(zl _ (aV zs (q:Int)) 128 _ HR3.out HBd.out (by rw[HL.out]) (by omega)).mono ?_;rintro e w4 ⟨v4,rfl,o4,b4⟩;rw[show cm (aV zs (q:Int)) 128=WW by rw[←HE.out];unfold iS;rw[if_pos HL.out]] at o4;have r4:=Rd.own (k:=.i64) (zs:=WW) o4;obtain⟨g4,off4,cap4,rfl,hb4,_,_,hcell4⟩:=r4.dj (by rw[HWL.out];omega);rw[HWL.out];have H4:=aa (ag (tD hcell4) b4);have KZ4:=aa (KZ3.out.below b4 KZ3.out.lt);clear b4 o4 hcell4 r4)
  |(refine tF (by rfl) 127 3 128 _ rfl (some ⟨g4,off4,none⟩) 128 cap4 rfl underlying127 aj ?_)
  |(refine wpList_load_mid rfl 127 _ rfl g4 off4 rfl (WW.map (Value.int .i64)) _ H4.out.1 underlying127 rfl (by rw[length_map,HWL.out];exact lq) ?_)
  |(refine wpList_store_row rfl 127 _ _ rfl (w.heap.size+1) (WW.map (Value.int .i64)).toArray rfl rfl 127 Z1 KZ4.out HIW.out HW1.out (jn _) ?_))
 refine bodyPost_ret (v:=.agg (WW.map (Value.int .i64)).toArray) ?_ rfl ⟨rfl,below_setRow (HB.out.trans ((B9.out.trans ((B3.out.trans (H4.out.2.mono B3.out.size)).mono B9.out.size)).mono HB.out.size)) (by omega) _⟩;exact results_cell_row rfl _ _ (w.heap.size+1) 127 _ (0,0) _ rfl (KZ4.out.row _) underlying127 rfl HIW.out
theorem qg(k:IntKind)(xs:List Int)(i:Nat)(h:i<xs.length):((xs.map (Value.int k)).toArray)[i]?=some (.int k (xs.getD i 0)):=by
 simp[getD,h]
theorem zJ(n:Nat)(xs ys:List Int)(hx:xs.length=n)(hy:ys.length=n):((range n).all fun i=>xs.getD i 0==ys.getD i 0)=decide (xs=ys):=by
 rw[Bool.eq_iff_iff];simp only[List.all_eq_true,List.mem_range,beq_iff_eq,decide_eq_true_eq];constructor
 ·intro h;apply List.ext_getElem (by omega);intro i h1 h2;have:=h i (by omega);simpa [getD,h1,h2] using this
 ·rintro rfl i _;rfl
theorem tH:prog.eqGuardType prog.depth 127=false:=by kernel_rfl
theorem zK:prog.cellsOf 3=1:=by kernel_rfl
theorem tI(w:World)(d:Nat)(xs ys:List Int):∀(is:List Nat),(∀i∈is,i<xs.length∧i<ys.length)→
 (Op.eqItems (d+1) 3 1 (xs.map (Value.int .i64)).toArray (ys.map (Value.int .i64)).toArray is).run prog w=.ok (is.all fun i=>xs.getD i 0==ys.getD i 0) w
 |[],_=>by simp[Op.eqItems]
 |i::is,h=>by
  have hi:=h i (by simp);exact yI w (sF w underlying3 (by rw[Nat.mul_one];exact qg .i64 xs i hi.1)) (sF w underlying3 (by rw[Nat.mul_one];exact qg .i64 ys i hi.2)) (run_equalIn_int w d 3 .i64 .i64 _ _ underlying3) (tI w d xs ys is (fun j hj=>h j (by simp[hj])))
theorem tJ(w:World)(xs ys:List Int)(hx:xs.length=128)(hy:ys.length=128):(Op.equalIn 10000 127 (.agg (xs.map (Value.int .i64)).toArray) (.agg (ys.map (Value.int .i64)).toArray)).run prog w=.ok (decide (xs=ys)) w:=by
 obtain⟨i0,hi,hz0,hz1,hz2⟩:=info_parts eO;rw[run_equalIn_array w 9999 _ _ underlying127 hi,zK,tI w 9998 xs ys (range 128) (by intro i hi;simp at hi;omega),zJ 128 xs ys hx hy]
theorem tK(n:Nat)(k:IntKind):((replicate n (0:Int)).map (Value.int k)).toArray=Array.replicate n (.int k 0):=by simp
theorem tL:∃Z:Array Value,Z=((replicate 128 (0:Int)).map (Value.int .i64)).toArray∧∀(ρ:Operand→Value) (o:Oper) (w:World),o.op=.alloc 127→(execOp ρ o).run prog w=.ok (.value (.pointer (some ⟨w.heap.size,0,none⟩))) (w.alloc (.cells Z 127)):=
 ⟨_,rfl,fun ρ o w ho=>by rw[show((replicate 128 (0:Int)).map (Value.int .i64)).toArray=nB from tK 128 .i64];simp[execOp,ho,tB,Result.andThen]⟩
theorem zL{w:World}{m n:Nat}{k:IntKind}{t:TypeId}{ms:List Int}(h:af w m (ms.map (Value.int k)).toArray t)(hn:n=ms.length)(hl:ms.length≤1048576):Rd k w (.slice (some ⟨m,0,none⟩) n n) ms:=by
 subst hn;refine⟨some ⟨m,0,none⟩,ms.length,rfl,by unfold maxLen;omega,fun _=>⟨m,0,rfl,h.lt,fun i hi=>?_⟩,aj,by unfold maxLen;omega⟩;rw[Nat.zero_add,h.cell i];exact qg k ms i hi
end
section
section
variable {P:Program} {ops:Array Oper} {Q:Exit→Act→World→Prop} {md:Region.Mode} {S:World→Prop} {m:Nat}
def fj(P:Program)(md:Region.Mode)(ops:Array Oper)(Q:Exit→Act→World→Prop)(S:World→Prop)(m:Nat):Nat→Array Bool→Act→World→Prop
 |0,listed,a,w=>Region.ready md ops listed=[]∧Q .normal a w
 |fuel+1,listed,a,w=>
  (Region.ready md ops listed=[]→Q .normal a w)∧
  ∀i∈Region.ready md ops listed,wpOp P ops Q i (fun a' w'=>(i≠m→listed.getD m true=false→S w')∧fj P md ops Q S m fuel (listed.setIfInBounds i true) a' w') a w
theorem tM:∀(fuel:Nat) (listed:Array Bool) (a:Act) (w:World),fj P md ops Q S m fuel listed a w→wpAny P md ops Q fuel listed a w
 |0,_,_,_,h=>h
 |fuel+1,_,_,_,h=>⟨h.1,fun i hi=>wpOp_mono (fun a' w' h'=>tM fuel _ a' w' h'.2) (h.2 i hi)⟩
theorem zM{i:Nat}{oi om:Oper}{v:Value}(hi:ops[i]?=some oi)(hsel:∀(j:Nat) (o:Oper) cs b,ops[j]?=some o→o.op≠.select cs b)
 (hQ:∀c a w,Q (.panic c) (a.put oi.dst v) w→Q (.panic c) a w) (him:i≠m) (hom:ops[m]?=some om) (hwait:∃e∈om.after,Region.binds md e=true∧e.on=i):
 ∀(fuel:Nat) (listed:Array Bool) (a:Act) (w:World),
  (∀j oj,ops[j]?=some oj→j≠i→listed.getD j true=false→(∀e∈oj.after,Region.binds md e=true→e.on≠i)→oi.apart ops oj=true)→
  i∈Region.ready md ops listed→listed.getD m true=false→YieldsIf P ops S oi v a→S w→
  fj P md ops Q S m fuel (listed.setIfInBounds i true) (a.put oi.dst v) w→fj P md ops Q S m (fuel+1) listed a w:=by
 intro fuel;induction fuel with
 |zero=>
  intro listed a w _ hr hml hy hS H;refine⟨fun h=>(by rw[h] at hr;cases hr),fun j hj=>?_⟩;by_cases hji:j=i
  ·subst hji;exact hy.wpOp hi hS ⟨fun _ _=>hS,H⟩
  ·have:=ready_mono hj hji;rw[H.1] at this;cases this
 |succ fuel ih=>
  intro listed a w hfree hr hml hy hS H;refine⟨fun h=>(by rw[h] at hr;cases hr),fun j hj=>?_⟩;by_cases hji:j=i
  ·subst hji;exact hy.wpOp hi hS ⟨fun _ _=>hS,H⟩
  ·have h1:=H.2 j (ready_mono hj hji);obtain⟨hjun,oj,hoj,hall⟩:=mem_ready.1 hj;have hnot:∀e∈oj.after,Region.binds md e=true→e.on≠i:=fun e he hb heq=>by
    have h1:=hall e he hb;have h0:=(mem_ready.1 hr).1;rw[heq] at h1;rcases Nat.lt_or_ge i listed.size with h'|h'
    ·simp[h'] at h0 h1;rw[h0] at h1;cases h1
    ·simp[Array.getElem?_eq_none h'] at h1
   have hjm:j≠m:=fun e=>by
    subst e;rw[hom] at hoj;cases hoj
    obtain⟨e,he,hb,ho⟩:=hwait;exact hnot e he hb ho
   have h2:=wpOp_putIf hoj (hfree j oj hoj hji hjun hnot) (fun cs b=>hsel i oi cs b hi) (fun cs b=>hsel j oj cs b hoj) hQ hy h1;have hfree':∀k ok,ops[k]?=some ok→k≠i→(listed.setIfInBounds j true).getD k true=false→
    (∀e∈ok.after,Region.binds md e=true→e.on≠i)→oi.apart ops ok=true:=fun k ok hk hki hun hno=>by
    refine hfree k ok hk hki ?_ hno;by_cases hjk:j=k
    ·subst hjk;exact hjun
    ·rw[getD_set_ne true hjk] at hun;exact hun
   have hmi:(listed.setIfInBounds i true).getD m true=false:=(by rw[getD_set_ne true him];exact hml);have hmj:(listed.setIfInBounds j true).getD m true=false:=(by rw[getD_set_ne true hjm];exact hml);refine wpOp_mono (fun a' w' h3=>⟨fun hj' hl'=>h3.2.1 hj' hmi,ih (listed.setIfInBounds j true) a' w' hfree' (ready_mono hr (Ne.symm hji)) hmj h3.1 (h3.2.1 hjm hmi) ?_⟩) h2;rw[Array.setIfInBounds_comm _ _ hji];exact h3.2.2
def nC(md:Region.Mode)(ops:Array Oper)(m i:Nat):Bool:=i !=m&&(match ops[m]? with|some o=>o.after.any (fun e=>Region.binds md e&&e.on==i)|none=>false)
theorem tN{i:Nat}{oi:Oper}{v:Value}{fuel:Nat}{listed:Array Bool}{a:Act}{w:World}(hi:ops[i]?=some oi)
 (hs:Region.noSelect ops=true) (hf:Region.free md ops listed i=true) (hr:(Region.ready md ops listed).contains i=true) (hw:nC md ops m i=true) (hml:listed.getD m true=false)
 (hQ:∀c a w,Q (.panic c) (a.put oi.dst v) w→Q (.panic c) a w) (hy:YieldsIf P ops S oi v a) (hS:S w)
 (h:fj P md ops Q S m fuel (listed.setIfInBounds i true) (a.put oi.dst v) w):fj P md ops Q S m (fuel+1) listed a w:=by
 unfold nC at hw;cases hom:ops[m]? with
 |none=>rw[hom] at hw;simp at hw
 |some om=>
  rw[hom] at hw;simp only[Bool.and_eq_true,bne_iff_ne,ne_eq,Array.any_eq_true'] at hw;obtain⟨h1,e,he,h2⟩:=hw;exact zM hi (Region.noSelect_spec hs) hQ h1 hom ⟨e,he,h2.1,by simpa using h2.2⟩ fuel listed a w (Region.free_spec hi hf) (by simpa using hr) hml hy hS h
theorem cD{oi:Oper}{fuel:Nat}{listed l':Array Bool}{a a':Act}{w:World}(i:Nat)(v:Value)(hi:ops[i]?=some oi)(hS:S w)(h:fj P md ops Q S m fuel l' a' w)
 (hy:YieldsIf P ops S oi v a:=by exact iJ ⟨by rfl,fun w' hw'=>by go_simp⟩)
 (hs:Region.noSelect ops=true:=by kernel_rfl) (hf:Region.free md ops listed i=true:=by kernel_rfl) (hr:(Region.ready md ops listed).contains i=true:=by kernel_rfl)
 (hw:nC md ops m i=true:=by kernel_rfl) (hml:listed.getD m true=false:=by kernel_rfl)
 (hQ:∀c a w,Q (.panic c) (a.put oi.dst v) w→Q (.panic c) a w:=by exact fun _ _ _ h=>h)
 (ha:a.put oi.dst v=a':=by(try simp only[Act.put,aq,au,av,ay,az,aA]);rfl)
 (hl:listed.setIfInBounds i true=l':=by(try simp only[aq,au,av,ay,az,aA]);rfl):fj P md ops Q S m (fuel+1) listed a w:=by
 subst ha hl;exact tN hi hs hf hr hw hml hQ hy hS h
theorem kg{listed:Array Bool}{a:Act}{w:World}(hr:Region.ready md ops listed=[])(h:Q .normal a w):∀fuel,fj P md ops Q S m fuel listed a w
 |0=>⟨hr,h⟩
 |fuel+1=>⟨fun _=>h,fun i hi=>by rw[hr] at hi;cases hi⟩
theorem ez{i:Nat}{o:Oper}{fuel:Nat}{listed:Array Bool}{a:Act}{w:World}(hr:Region.ready md ops listed=[i])(ho:ops[i]?=some o)
 (h:∀K':Act→World→Prop,Shut (∀a w,(i≠m→listed.getD m true=false→S w)→fj P md ops Q S m fuel (listed.setIfInBounds i true) a w→K' a w)→if Region.wanted o (yielded ops a.tmps)=true then Oper.wp P o a w K' Q else K' (a.put o.dst undef) w):fj P md ops Q S m (fuel+1) listed a w:=by
 refine⟨fun h0=>(by rw[h0] at hr;cases hr),fun j hj=>?_⟩;rw[hr] at hj;have:j=i:=by simpa using hj
 subst this;exact wpOp_step ho (fun K' hK=>h K' (fun a w hS hW=>hK a w ⟨hS,hW⟩))
theorem zN{i j:Nat}{oi oj:Oper}{fuel:Nat}{listed:Array Bool}{a:Act}{w:World}(hr:Region.ready md ops listed=[i,j])(hi:ops[i]?=some oi)(hj:ops[j]?=some oj)
 (h:∀K':Act→World→Prop,Shut (∀a w,(i≠m→listed.getD m true=false→S w)→fj P md ops Q S m fuel (listed.setIfInBounds i true) a w→K' a w)→if Region.wanted oi (yielded ops a.tmps)=true then Oper.wp P oi a w K' Q else K' (a.put oi.dst undef) w)
 (h':∀K':Act→World→Prop,Shut (∀a w,(j≠m→listed.getD m true=false→S w)→fj P md ops Q S m fuel (listed.setIfInBounds j true) a w→K' a w)→if Region.wanted oj (yielded ops a.tmps)=true then Oper.wp P oj a w K' Q else K' (a.put oj.dst undef) w):fj P md ops Q S m (fuel+1) listed a w:=by
 refine⟨fun h0=>(by rw[h0] at hr;cases hr),fun k hk=>?_⟩;rw[hr] at hk;have:k=i∨k=j:=by simpa using hk
 rcases this with e|e
 ·subst e;exact wpOp_step hi (fun K' hK=>h K' (fun a w hS hW=>hK a w ⟨hS,hW⟩))
 ·subst e;exact wpOp_step hj (fun K' hK=>h' K' (fun a w hS hW=>hK a w ⟨hS,hW⟩))
theorem lu{id:Nat}{a:Act}{w:World}(S:World→Prop)(m:Nat)(hm:P.follows .mixedOrders=true)
 (h:fj P .any ops Q S m ops.size (Array.replicate ops.size false) a w.drew):(Code.region id ops true).wp P Q a w:=
 wp_region_any hm (tM _ _ _ _ h)
end
end
end Go.Proofs.YtlimollpocagiaaGreatDoor
