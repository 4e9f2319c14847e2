/- DecodeWords, the model's and the program's: both give decW -/
import Derived.Test.YtlimollpocagiaaGreatDoorXa05
import Derived.Laws.Tables
import Derived.Deep.DeepCutAuto
import Derived.Test.YtlimollpocagiaaGreatDoorXa03
namespace Go.Proofs.YtlimollpocagiaaGreatDoor
open Go.Proofs.Tryz
open _root_.List (range replicate map_take getD length_drop)
set_option linter.all false
set_option maxRecDepth 100000
set_option maxHeartbeats 16000000
section
open Go.RowKit
def gj(bs:List Int)(i:Nat):Int:=(dJ ((bs.drop (4*i)).take 4):Nat)
def cm(bs:List Int)(n:Nat):List Int:=(range n).map (gj bs)
def iS(bs:List Int):List Int:=if bs.length=512 then cm bs 128 else []
def me(bs:List Int):Int:=if bs.length=512 then 0 else 21
theorem pW(bs:List Int)(n:Nat):(cm bs n).length=n:=by simp[cm]
theorem ze(bs:List Int)(n:Nat):cm bs (n+1)=cm bs n++[gj bs n]:=by simp[cm,List.range_succ]
theorem sW(bs:List Int)(i:Nat)(h:∀z∈bs,0≤z∧z<256):dJ ((bs.drop (4*i)).take 4)<4294967296:=by
 have h1:=y5 ((bs.drop (4*i)).take 4) (fun z hz=>h z (List.mem_of_mem_drop (List.mem_of_mem_take hz)));have h2:((bs.drop (4*i)).take 4).length≤4:=by simp;omega
 have h3:(256:Nat)^((bs.drop (4*i)).take 4).length≤256^4:=Nat.pow_le_pow_right (by decide) h2;have h4:(256:Nat)^4=4294967296:=by decide
 omega
theorem zf(z:Int):∀u∈[Value.int .i64 z],u.oneCell'=true:=by
 intro u hu;rw[List.mem_singleton] at hu;subst hu;rfl
theorem zg(v:Value)(bs:List Int)(w:World)(h:Rd .u8 w v bs)(hbd:∀z∈bs,0≤z∧z<256):
 Calls prog 104 #[v] w fun e w'=>∃v',e=.returned (.tuple #[v',.int .i64 (me bs)])∧w'.ownsRow w.heap.size 3 1 v' (iS bs).length ((iS bs).map (Value.int .i64))∧Below w.heap.size w w':=by
 obtain⟨i0,hi,hz0,hz1,hz2⟩:=info_parts eO;have hm:=h.len;unfold maxLen at hm;have HB:=aa hbd;clear hbd;by_cases hlen:bs.length=512
 ·obtain⟨b,off,cap,rfl,hbw,hcl,hcm,hcell⟩:=h.dj (by omega);unfold maxLen at hcm;have h0:=pT w 3;have hb0:Below w.heap.size w (w.alloc (.cells #[] 3)):=ak.alloc aj _;have HN:=aa hlen;have HR:=aa h;have HD:=ae (me bs=0∧iS bs=cm bs 128) (by simp[me,iS,hlen]);rw[hlen] at hcell hcl⊢;clear h hlen hm hcell;go_enter func104,ntmps104;go_wp2;go_loopw [4,5] (fun o i wr=>∃k p:Nat,k≤128∧p=4*k∧i=.int .i64 p∧wr.ownsRow w.heap.size 3 1 o k ((cm bs k).map (Value.int .i64))∧Below w.heap.size w wr) (fun _ i _=>512-(intOf i).toNat)
  case atStart=>exact⟨0,0,by omega,rfl,rfl,by simpa [cm] using h0,hb0⟩
  case round=>
   clear h0 hb0;obtain⟨k,p,hk,hp,rfl,hown,hb⟩:=hrel;have hsz:=hb.size;have HP:=aa hp;have hp2:p≤4*k:=(by omega);have hp3:4*k≤p:=(by omega);clear hp;by_cases hlt:p<512
   ·have HC:=ae (Rd .u8 wr (.slice (some ⟨b,off+p,none⟩) 4 (cap-p)) ((bs.drop p).take 4)) ((Rd.kL p 4 HR.out (by omega) (by rw[HN.out];omega)).below hb);have HL:=ae (jP ((bs.drop p).take 4)=dJ ((bs.drop (4*k)).take 4)∧dJ ((bs.drop (4*k)).take 4)<4294967296) (by
     have h1:=sW bs k HB.out;refine⟨?_,h1⟩;rw[HP.out,pV _ (by omega)])
    have HS:=aa (ze bs k);have HO:=aa hown;have hsub:p+4-p=4:=(by omega);clear hown;go_wp2_with fail;refine(sV _ ((bs.drop p).take 4) _ (by first|exact HC.out|(rw[hsub];exact HC.out)) (by simp;omega) (fun z hz=>HB.out z (List.mem_of_mem_drop (List.mem_of_mem_take hz)))).mono ?_;rintro e w1 ⟨rfl,rfl⟩;rw[HL.out.1];generalize hy:dJ ((bs.drop (4*k)).take 4)=y at HL;have HY:=aa hy;clear hy;go_wp2_with (at_builtin;refine wpList_append_own _ rfl (.tmp 14) (.tmp 21) 29 rfl w.heap.size 3 i0 (.int .i64 0) 1 8 underlying29 hi hz0 hz1 hz2 rfl (by decide) _ _ _ rfl (HO.out.alloc _) ⟨wr.heap.size,0,none⟩ 1 1 [.int .i64 (y:Int)] rfl rfl (cell_one_new _ _ _) (zf _) (by unfold maxLen;omega) (by omega) (by simp;omega) ?_;intro v1 w1 hown1 hgr1 _);have HW:=ae (w1.ownsRow w.heap.size 3 1 v1 (k+1) ((cm bs (k+1)).map (Value.int .i64))∧Below w.heap.size w w1) (by
     refine⟨?_,(hb.alloc hsz _).grown hgr1 (by simp;omega) (fun r h=>(HO.out.lt r h).1)⟩;rw[HS.out,List.map_append,show gj bs k=(y:Int) by rw[←HY.out];rfl];exact hown1)
    clear hown1 hgr1 hb HO;go_roundw
    case rel=>exact⟨k+1,p+4,by omega,by omega,by go_num,HW.out.1,HW.out.2⟩
    case measure=>simp[intOf];omega
   ·have hk8:k=128:=(by omega);subst hk8;have HO:=aa hown;clear hown;go_wp2;go_ret2;refine⟨_,by rw[HD.out.1];rfl,?_,hb⟩;rw[HD.out.2,pW];exact HO.out
 ·obtain⟨a,cap,rfl,_,_⟩:=h;have hq:((bs.length:Int)==512)=false:=by simp;omega
  have HG:=ae (me bs=21∧iS bs=[]) (by simp[me,iS,hlen]);clear hlen;go_enter func104,ntmps104;go_wp2;go_ret2;exact⟨_,by rw[HG.out.1];rfl,by rw[HG.out.2];exact World.ownsRow_nil _ _ _ _,ak⟩
theorem sY(bs:List Int)(k n:Nat)(h:k<n)(z:Value)(hz:z=.int .i64 (gj bs k)):
 ((cm bs k).map (Value.int .i64)++replicate (n-k) (Value.int .i64 0)).set k z=(cm bs (k+1)).map (Value.int .i64)++replicate (n-(k+1)) (Value.int .i64 0):=by
 subst hz;have e:(cm bs k).map (Value.int .i64)=((cm bs n).map (Value.int .i64)).take k:=by
  rw[←map_take];congr 1;simp[cm, ←map_take,List.take_range,Nat.min_eq_left (Nat.le_of_lt h)]
 have e2:(cm bs (k+1)).map (Value.int .i64)=((cm bs n).map (Value.int .i64)).take (k+1):=by
  rw[←map_take];congr 1;simp[cm, ←map_take,List.take_range,Nat.min_eq_left (show k+1≤n by omega)]
 rw[e,e2];exact xj _ _ _ k n h (by simp[cm]) (by simp[cm,h])
theorem zh(a b:Nat)(ha:a<256):a|||(b*256)=a+b*256:=by
 rw[Nat.or_comm,Nat.add_comm];have:=Nat.two_pow_add_eq_or_of_lt (i:=8) (b:=a) (by omega) b;rw[show 2^8*b=b*256 by omega] at this;exact this.symm
theorem zi(a b:Nat)(ha:a<65536):a|||(b*65536)=a+b*65536:=by
 rw[Nat.or_comm,Nat.add_comm];have:=Nat.two_pow_add_eq_or_of_lt (i:=16) (b:=a) (by omega) b;rw[show 2^16*b=b*65536 by omega] at this;exact this.symm
theorem zj(a b:Nat)(ha:a<16777216):a|||(b*16777216)=a+b*16777216:=by
 rw[Nat.or_comm,Nat.add_comm];have:=Nat.two_pow_add_eq_or_of_lt (i:=24) (b:=a) (by omega) b;rw[show 2^24*b=b*16777216 by omega] at this;exact this.symm
theorem pX(a b:Nat)(ha:a<4294967296)(hb:b<4294967296):bits .or .i64 (a:Int) (b:Int)=((a|||b:Nat):Int):=by
 show IntKind.i64.wrap ((BitVec.ofInt 64 (a:Int)|||BitVec.ofInt 64 (b:Int)).toNat:Int)=_;have e1:(BitVec.ofInt 64 (a:Int)).toNat=a:=by simp;omega
 have e2:(BitVec.ofInt 64 (b:Int)).toNat=b:=by simp;omega
 rw[BitVec.toNat_or,e1,e2];have:a|||b<2^32:=Nat.or_lt_two_pow ha hb
 generalize a|||b=y at this
 simp[IntKind.wrap,IntKind.bits,IntKind.signed];omega
theorem sZ(x0 x1 x2 x3:Nat)(h0:x0<256)(h1:x1<256)(h2:x2<256)(h3:x3<256):bits .or .i64 (bits .or .i64 (bits .or .i64 (x0:Int) ((x1:Int)*256)) ((x2:Int)*65536)) ((x3:Int)*16777216)=((x0+256*(x1+256*(x2+256*x3)):Nat):Int):=by
 rw[show(x1:Int)*256=((x1*256:Nat):Int) by omega,pX _ _ (by omega) (by omega),zh _ _ h0];rw[show(x2:Int)*65536=((x2*65536:Nat):Int) by omega,pX _ _ (by omega) (by omega),zi _ _ (by omega)];rw[show(x3:Int)*16777216=((x3*16777216:Nat):Int) by omega,pX _ _ (by omega) (by omega),zj _ _ (by omega)];omega
theorem s7(a b c d:Int):dJ [a,b,c,d]=a.toNat+256*(b.toNat+256*(c.toNat+256*d.toNat)):=by simp[dJ]
theorem tc(bs:List Int)(k:Nat)(h:4*k+4≤bs.length):((bs.drop (4*k)).take 4)=[bs.getD (4*k) 0,bs.getD (4*k+1) 0,bs.getD (4*k+2) 0,bs.getD (4*k+3) 0]:=by
 apply List.ext_getElem (by simp;omega);intro j hj hj';simp at hj hj';rw[List.getElem_take,List.getElem_drop];have e:∀i,i<bs.length→bs.getD i 0=bs[i]!:=fun i hi=>by simp[getD,hi]
 match j,hj' with
 |0,_=>simp[getD,show 4*k<bs.length by omega]
 |1,_=>simp[getD,show 4*k+1<bs.length by omega]
 |2,_=>simp[getD,show 4*k+2<bs.length by omega]
 |3,_=>simp[getD,show 4*k+3<bs.length by omega]
 |n+4,h=>omega
theorem zk{w0:World}{a:Option Addr}{len cap:Nat}{zs:List Int}(h:Rd .u8 w0 (.slice a len cap) zs)(lo hi:Nat)(h1:lo≤hi)(h2:hi≤zs.length):
 ∃a' c',Rd .u8 w0 (.slice a' (hi-lo) c') ((zs.drop lo).take (hi-lo))∧∀wx,(Instr.slice 22 (.slice a len cap) (some (.int .i64 (lo:Int))) (some (.int .i64 (hi:Int))) none).run prog wx=.ok (.slice a' (hi-lo) c') wx:=by
 obtain⟨i0,hi0,hz0,hz1,hz2⟩:=info_parts iR;obtain⟨a0,cap0,e,hm,hc,hl,hcm⟩:=h;injection e with e1 e2 e3;subst e1 e2 e3;have hlen:((zs.drop lo).take (hi-lo)).length=hi-lo:=by rw[List.length_take,length_drop];omega
 have hrun:∀wx,(Instr.slice 22 (.slice a zs.length cap) (some (.int .i64 (lo:Int))) (some (.int .i64 (hi:Int))) none).run prog wx=.ok (sliced a lo hi cap 1) wx:=fun wx=>by
  rw[run_slice_lh (P:=prog) (w:=wx) 22 a zs.length cap (by rw[underlying22];rfl) .i64 .i64 (lo:Int) (hi:Int) (by omega) (by omega) (by omega)];simp[sizeOf,typeInfo,show prog.elem 22=5 by kernel_rfl,hi0,hz1,Result.andThen]
 refine⟨_,_,?_,hrun⟩;refine⟨_,_,by rw[hlen],by omega,fun hne=>?_,by rw[hlen];omega,by omega⟩;have hp:lo<zs.length:=by
  rcases Nat.lt_or_ge lo zs.length with h|h
  ·exact h
  ·exact absurd (by rw[List.drop_eq_nil_of_le h];simp) hne
 obtain⟨b,off,rfl,hb,hcell⟩:=hc (fun e=>by rw[e] at hp;simp at hp);refine⟨b,off+lo,?_,hb,fun i hi2=>?_⟩
 ·rw[if_neg (by omega),Option.map_some,Nat.mul_one,Addr.add_mid]
 ·rw[hlen] at hi2;rw[Nat.add_assoc,hcell (lo+i) (by omega)];simp[getD,hi2]
theorem td{w0:World}{a:Option Addr}{len cap:Nat}{zs:List Int}(h:Rd .u8 w0 (.slice a len cap) zs)(lo:Nat)(h2:lo≤zs.length):
 ∃a' c',Rd .u8 w0 (.slice a' (zs.length-lo) c') (zs.drop lo)∧∀wx,(Instr.slice 22 (.slice a len cap) (some (.int .i64 (lo:Int))) none none).run prog wx=.ok (.slice a' (zs.length-lo) c') wx:=by
 obtain⟨a',c',hr,hrun⟩:=zk h lo zs.length h2 aj;have hl:len=zs.length:=by obtain⟨_,_,e,_⟩:=h;injection e
 obtain⟨_,_,e0,_,_,hl2,hcm⟩:=h;injection e0 with e1 e2 e3;subst e3;rw[List.take_of_length_le (by rw[length_drop];omega)] at hr;refine⟨a',c',hr,fun wx=>?_⟩;rw[←hrun wx,run_slice_l (P:=prog) (w:=wx) 22 a len cap (by rw[underlying22];rfl) .i64 (lo:Int) (by omega) (by omega),run_slice_lh (P:=prog) (w:=wx) 22 a len cap (by rw[underlying22];rfl) .i64 .i64 (lo:Int) (zs.length:Int) (by omega) (by omega) (by omega)];rw[Int.toNat_natCast,hl,Int.toNat_natCast]
theorem nu:(prog.info? 161).map (·.size)=some 4:=by kernel_rfl
theorem zl(v:Value)(bs:List Int)(n:Nat)(w:World)(h:Rd .u8 w v bs)(hbd:∀z∈bs,0≤z∧z<256)(hn:bs.length=4*n)(hn2:n≤4096):
 Calls prog 62 #[v] w fun e w'=>∃v',e=.returned v'∧w'.ownsRow w.heap.size 3 1 v' n ((cm bs n).map (Value.int .i64))∧Below w.heap.size w w':=by
 obtain⟨i0,hi,hz0,hz1,hz2⟩:=info_parts eO;have hm:=h.len;unfold maxLen at hm;have HB:=aa hbd;have HR:=aa h;have HN:=aa hn;have HL:=ae ((bs.length:Int)/4=(n:Int)) (by omega);clear hbd;obtain⟨a,cap,rfl,_⟩:=h;generalize hbl:bs.length=bl at*;have HBL:=aa hbl;have hbl2:bl≤16384:=by omega
 clear hbl hn;go_enter func62,ntmps62;go_wp2_with (refine wpList_make_full _ rfl _ _ 29 rfl w.heap.size 3 i0 (.int .i64 0) 1 underlying29 hi hz0 hz1 .i64 .i64 n n n (by rw[←HL.out];rfl) (by rw[←HL.out];rfl) rfl rfl (by rw[hz2];omega) (by unfold maxLen;omega) aj ?_;intro w3 hown3 hgr3;rw[iK _ _ rfl] at hown3);have hb3:Below w.heap.size w w3:=ak.grown hgr3 aj (fun k e=>by cases e);go_loopw [12] (fun i wr=>∃k:Nat,k≤n∧i=.int .i64 k∧Below w.heap.size w wr∧wr.ownsRow w.heap.size 3 1 (.slice (some ⟨w.heap.size,0,none⟩) n n) n ((cm bs k).map (Value.int .i64)++replicate (n-k) (.int .i64 0))) (fun i _=>n-(intOf i).toNat)
 case atStart=>exact⟨0,by omega,rfl,hb3,by simpa [cm] using hown3⟩
 case round=>
  clear hown3 hgr3 hb3;obtain⟨k,hk,rfl,hb,hown⟩:=hrel;by_cases hk8:k<n
  ·have hk4:4*k+4≤bs.length:=(by rw[HBL.out,HN.out];omega);obtain⟨sa,sc,hsr,hsl⟩:=td HR.out (4*k) (by omega);have hF:=tc bs k hk4;obtain⟨b2,off2,c2,hsv,hb2,_,_,hcell⟩:=hsr.dj (by rw[length_drop];omega);injection hsv with e1 e2 e3;subst e1;subst e3;have cellj:∀j,j<4→w.cell? ⟨b2,off2+j,none⟩=some (.int .u8 (bs.getD (4*k+j) 0)):=fun j hj=>by
    rw[hcell j (by rw[length_drop];omega)];simp[getD,List.getElem?_drop]
   have hbx:∀j,j<4→∃x:Nat,bs.getD (4*k+j) 0=(x:Int)∧x<256:=fun j hj=>by
    have hl:4*k+j<bs.length:=(by omega);have:=HB.out _ (List.getElem_mem hl);exact⟨(bs.getD (4*k+j) 0).toNat,by simp[getD,hl];omega,by simp[getD,hl];omega⟩
   obtain⟨x0,hx0,l0⟩:=hbx 0 (by omega);obtain⟨x1,hx1,l1⟩:=hbx 1 (by omega);obtain⟨x2,hx2,l2⟩:=hbx 2 (by omega);obtain⟨x3,hx3,l3⟩:=hbx 3 (by omega);have HW:=ae (gj bs k=((x0+256*(x1+256*(x2+256*x3)):Nat):Int)) (by
    unfold gj;rw[hF,s7,show bs.getD (4*k) 0=(x0:Int) from hx0,hx1,hx2,hx3];simp only[Int.toNat_natCast])
   have HRg:=ae (wr.rangeAt b2 off2 [.int .u8 (x0:Int),.int .u8 (x1:Int),.int .u8 (x2:Int),.int .u8 (x3:Int)]) (by
    intro j y hj;rw[hb.cell (p:=⟨b2,off2+j,none⟩) hb2];match j,hj with
    |0,hj=>rw[cellj 0 (by omega),hx0];simpa using hj
    |1,hj=>rw[cellj 1 (by omega),hx1];simpa using hj
    |2,hj=>rw[cellj 2 (by omega),hx2];simpa using hj
    |3,hj=>rw[cellj 3 (by omega),hx3];simpa using hj
    |n+4,hj=>simp at hj)
   have harr:∀(wx:World),(Instr.arrayAt 161 (.slice (some ⟨b2,off2,none⟩) (bs.length-4*k) sc)).run prog wx=.ok (.pointer (some ⟨b2,off2,none⟩)) wx:=fun wx=>run_arrayAt (w:=wx) 161 5 4 _ _ _ underlying161 (by omega);rw[HBL.out] at hsl harr;have hsl2:∀(wx:World),(Instr.slice 22 (.slice a bl cap) (some (.int .i64 ((k:Int)*4))) none none).run prog wx=.ok (.slice (some ⟨b2,off2,none⟩) (bl-4*k) sc) wx:=fun wx=>by
    have:=hsl wx;rw[show((4*k:Nat):Int)=(k:Int)*4 by omega] at this;exact this
   obtain⟨W3,hW3⟩:∃W3,W3=(wr.alloc (.cells #[.int .u8 0,.int .u8 0,.int .u8 0,.int .u8 0] 161)).setRow wr.heap.size #[.int .u8 (x0:Int),.int .u8 (x1:Int),.int .u8 (x2:Int),.int .u8 (x3:Int)]:=⟨_,rfl⟩;have B3:=ae (Below wr.heap.size wr W3) (by rw[hW3];exact below_setRow (ak.alloc aj _) aj _);have K3:=ae (af W3 wr.heap.size #[.int .u8 (x0:Int),.int .u8 (x1:Int),.int .u8 (x2:Int),.int .u8 (x3:Int)] 161) (by rw[hW3];exact(af.new wr _ 161).row _);have KN:=aa (af.new wr #[.int .u8 0,.int .u8 0,.int .u8 0,.int .u8 0] 161);have cb0:=(K3.out.cell 0).trans (show _=some (.int .u8 (x0:Int)) from rfl);have cb1:=(K3.out.cell 1).trans (show _=some (.int .u8 (x1:Int)) from rfl);have cb2:=(K3.out.cell 2).trans (show _=some (.int .u8 (x2:Int)) from rfl);have cb3:=(K3.out.cell 3).trans (show _=some (.int .u8 (x3:Int)) from rfl);have ho4:=bS hown B3.out;have hst:=ho4.stored k (.int .i64 ((x0+256*(x1+256*(x2+256*x3)):Nat):Int));have hfr:=ho4.frozenAt k;obtain⟨old,hco⟩:∃u,W3.cell? ⟨w.heap.size,k,none⟩=some u:=by
    rw[ho4.cellAt k (by omega)];exact⟨_,List.getElem?_eq_getElem (by simp[pW];omega)⟩
   have hor:=sZ x0 x1 x2 x3 l0 l1 l2 l3;have HX:=ae (Below w.heap.size w (W3.setCell ⟨w.heap.size,k,none⟩ (.int .i64 ((x0+256*(x1+256*(x2+256*x3)):Nat):Int)))∧(W3.setCell ⟨w.heap.size,k,none⟩ (.int .i64 ((x0+256*(x1+256*(x2+256*x3)):Nat):Int))).ownsRow w.heap.size 3 1 (.slice (some ⟨w.heap.size,0,none⟩) n n) n ((cm bs (k+1)).map (Value.int .i64)++replicate (n-(k+1)) (.int .i64 0))) (by
    refine⟨(hb.trans (B3.out.mono hb.size)).setCell (p:=⟨w.heap.size,k,none⟩) aj _,?_⟩;rw[←sY bs k n hk8 _ (by rw[HW.out])];exact hst.1)
   have HW3:=aa hW3;clear hW3 hst ho4 hown hsl hsr hcell cellj hbx hF hx0 hx1 hx2 hx3 hb;go_upto_region 6 with(first
    |(refine wpList_load_mid rfl 161 _ rfl b2 off2 rfl [.int .u8 (x0:Int),.int .u8 (x1:Int),.int .u8 (x2:Int),.int .u8 (x3:Int)] _ HRg.out underlying161 rfl nu ?_)
    |(refine wpList_store_row rfl 161 _ _ rfl wr.heap.size #[.int .u8 (x0:Int),.int .u8 (x1:Int),.int .u8 (x2:Int),.int .u8 (x3:Int)] rfl rfl 161 #[.int .u8 0,.int .u8 0,.int .u8 0,.int .u8 0] KN.out nu rfl (by simp[Value.oneCell']) ?_)
    |fail)
   rw[←HW3.out];go_wp2;go_roundw
   case rel=>exact⟨k+1,by omega,by go_num,HX.out.1,HX.out.2⟩
   case measure=>simp[intOf];omega
  ·have e8:k=n:=(by omega);subst e8;go_wp2;go_ret;refine⟨_,rfl,?_,hb⟩;rw[Nat.sub_self,List.replicate_zero,List.append_nil] at hown;exact hown
theorem dZ{k:IntKind}{w:World}{v:Value}{zs:List Int}(h:Rd k w v zs):∃a cap,v=.slice a zs.length cap:=by
 rcases h.parts with⟨a,cap,e,_⟩|⟨b,off,cap,e,_⟩
 ·exact⟨a,cap,e⟩
 ·exact⟨_,cap,e⟩
def aV(zs:List Int)(p:Int):List Int:=(zs.drop (p.toNat*512)).take 512
def aJ(zs:List Int)(p:Int)(k:Nat):Int:=gj (aV zs p) k
theorem tf(zs:List Int)(p:Int)(hl:(aV zs p).length=512):iS (aV zs p)=(range 128).map (aJ zs p):=by
 unfold iS cm;rw[if_pos hl];rfl
theorem ke{n:Nat}{p:Int}(h:be n p=true)(h0:p≠0):2≤p∧p<(n:Int):=by
 unfold be at h;simp[h0] at h;exact h
theorem jm(v:Value)(zs:List Int)(p:Int)(w:World)(h:Rd .u8 w v zs)(h1:zs.length≤1048576):
 Calls prog 77 #[v,.int .i64 p] w fun e w'=>e=.returned (.bool (be (zs.length/512) p))∧w'=w:=by
 obtain⟨a,cap,rfl⟩:=dZ h;clear h;obtain⟨n,hn⟩:∃n:Nat,(zs.length:Int)/512=(n:Int):=⟨zs.length/512,by omega⟩;have HN:=ae (zs.length/512=n) (by omega);by_cases h0:p=0
 ·subst h0;go_enter func77,ntmps77;go_wp2;go_ret;exact⟨by rw[yJ];rfl,rfl⟩
 ·by_cases h2:2≤p
  ·by_cases h3:p<(n:Int)
   ·go_enter func77,ntmps77;go_wp2;go_ret;exact⟨by rw[HN.out];unfold be;simp[h0,h2,h3],rfl⟩
   ·go_enter func77,ntmps77;go_wp2;go_ret;exact⟨by rw[HN.out];unfold be;simp[h0,h2,h3],rfl⟩
  ·have hb:(p==0)=false:=(by simp[h0]);have h5:¬(2≤p):=h2;have HF:=ae (be (zs.length/512) p=false) (by unfold be;rw[decide_eq_false h5];simp[h0]);go_enter func77,ntmps77;go_wp2;go_ret;exact⟨by rw[HF.out];rfl,rfl⟩
theorem zm(s:Nat)(w:World)(hs:s≤1099511627776):
 Calls prog 79 #[.int .i64 (s:Int)] w fun e w'=>e=.returned (.int .i64 (((s+511)/512:Nat):Int))∧w'=w:=by
 obtain⟨n,hn⟩:∃n:Nat,(s+511)/512=n:=⟨_,rfl⟩;have hn2:((s:Int)+512-1)/512=(n:Int):=by omega
 have hn3:((s:Int)+511)/512=(n:Int):=by omega
 rw[hn];go_enter func79,ntmps79;go_wp2;go_ret;exact⟨by rw[←hn2];rfl,rfl⟩
theorem lj(v:Value)(zs:List Int)(p:Int)(w:World)(h:Rd .u8 w v zs)(h1:zs.length≤1048576)(hbd:∀z∈zs,0≤z∧z<256)(hp:be (zs.length/512) p=true):
 Calls prog 78 #[v,.int .i64 p] w fun e w'=>∃v',e=.returned v'∧w'.ownsRow w.heap.size 3 1 v' 128 (((range 128).map (aQ (aJ zs) p)).map (Value.int .i64))∧Below w.heap.size w w':=by
 obtain⟨i0,hi,hz0,hz1,hz2⟩:=info_parts eO;by_cases h0:p=0
 ·subst h0;obtain⟨a,cap,rfl⟩:=dZ h;clear h;go_enter func78,ntmps78;go_wp2_with (refine wpList_make_full _ rfl _ _ 29 rfl w.heap.size 3 i0 (.int .i64 0) 1 underlying29 hi hz0 hz1 .i64 .i64 128 128 128 rfl rfl rfl rfl (by rw[hz2];omega) (by unfold maxLen;omega) aj ?_;intro w3 o3 g3;rw[iK _ _ rfl] at o3;have O3:=aa (ag o3 g3);clear o3 g3);go_ret;have e:((range 128).map (aQ (aJ zs) 0)).map (Value.int .i64)=replicate 128 (Value.int .i64 0):=by
   rw[show aQ (aJ zs) 0=fun _=>0 from funext (fun k=>jk k)];rfl
  refine⟨_,rfl,?_,ak.grown O3.out.2 aj (fun k e=>by cases e)⟩;rw[e];exact O3.out.1
 ·obtain⟨h2,h3⟩:=ke hp h0;obtain⟨q,rfl⟩:∃q:Nat,p=(q:Int):=⟨p.toNat,by omega⟩;obtain⟨b,off,cap,rfl,hb,hlc,hcm,hcell⟩:=h.dj (by omega);obtain⟨A,hA⟩:∃A:Nat,A=q*512:=⟨_,rfl⟩;have hA1:(q:Int)*512=(A:Int):=by omega
  obtain⟨B,hB⟩:∃B:Nat,B=A+512:=⟨_,rfl⟩;have hA2:((q:Int)+1)*512=(B:Int):=by omega
  have hAB:B≤zs.length:=by omega
  have hl5:(aV zs (q:Int)).length=512:=by unfold aV;rw[List.length_take,length_drop,Int.toNat_natCast];omega
  have HP:=ae (Rd .u8 w (.slice (some ⟨b,off+A,none⟩) 512 (cap-A)) (aV zs (q:Int))) (by unfold aV;rw[Int.toNat_natCast, ←hA];exact Rd.kL A 512 h (by omega) (by omega));have HE:=ae (iS (aV zs (q:Int))=(range 128).map (aQ (aJ zs) (q:Int))) (by rw[tf zs _ hl5,show aQ (aJ zs) (q:Int)=aJ zs (q:Int) from funext (fun k=>jv h0 k)]);have HBd:=ae (∀z∈aV zs (q:Int),0≤z∧z<256) (fun z hz=>hbd z (List.mem_of_mem_drop (List.mem_of_mem_take hz)));have hB3:(A:Int)≤(B:Int):=by omega
  have hB4:(B:Int)≤(cap:Int):=by omega
  have hB5:B-A=512:=by omega
  have hq:(q:Int)<4096:=by omega
  clear h hbd hcell hl5 hA hB;go_enter func78,ntmps78;go_wp2_with fail;refine(zg _ (aV zs (q:Int)) w HP.out HBd.out).mono ?_;rintro e w1 ⟨v1,rfl,o1,b1⟩;rw[HE.out] at o1;have O1:=aa (ag o1 b1);clear o1 b1;go_wp2;go_ret;exact⟨_,rfl,by have:=O1.out.1;simpa using this,O1.out.2⟩
def eu(x n:Int):Bool:=decide (x=0)||(decide (2≤x)&&decide (x<n))
theorem tg(x:Int)(w:World):Calls prog 76 #[.int .i64 x] w fun e w'=>e=.returned (.bool (eu x 2048))∧w=w':=by
 have HP:=ae (eu x 2048=(decide (x=0)||(decide (2≤x)&&decide (x<2048)))) rfl;by_cases h0:x=0
 ·subst h0;go_enter func76,ntmps76;go_wp2;go_ret;exact⟨rfl,rfl⟩
 ·have hq:(x==0)=false:=by simp[h0]
  have HD:=ae (decide (x=0)=false) (by simp[h0]);clear h0;by_cases h2:2≤x
  ·by_cases h3:x<2048;all_goals
    have HR:=ae (eu x 2048=decide (x<2048)) (by rw[HP.out,HD.out];simp[h2]);go_enter func76,ntmps76;go_wp2;go_ret;exact⟨ep (by rw[HR.out];simp;try omega),rfl⟩
  ·have hq2:decide (2≤x)=false:=(by simp;omega);have HR:=ae (eu x 2048=false) (by rw[HP.out,HD.out,hq2];rfl);go_enter func76,ntmps76;go_wp2;go_ret;exact⟨ep (by rw[HR.out]),rfl⟩
theorem th(s:Int)(ds:List Int)(p q:Int)(w:World)(hd:ds.length=12):
 Calls prog 75 #[.agg (aB (aD s ds p q))] w fun e w'=>∃v',e=.returned v'∧w'.ownsRow w.heap.size 3 1 v' 14 ((ds++[p,q]).map (Value.int .i64))∧Below w.heap.size w w':=by
 obtain⟨i0,hi,hz0,hz1,hz2⟩:=info_parts eO;have HD:=aa hd;have kB:=af.new w (aB (aD s ds p q)) 28;have h0:=pT (w.alloc (.cells (aB (aD s ds p q)) 28)) 3;rw[World.size_alloc] at h0;have hr:∀j u,(ds.map (Value.int .i64))[j]?=some u→((w.alloc (.cells (aB (aD s ds p q)) 28)).alloc (.cells #[] 3)).cell? ((⟨w.heap.size,1,none⟩:Addr).add j)=some u:=by
  intro j u hu;have h:=(kB.alloc (.cells #[] 3)).range 1 12 (by rw[eR _ _ _ _ HD.out];omega);rw[pD _ _ _ _ HD.out] at h;rw[Addr.add_mid];exact h j u hu
 have hb0:Below w.heap.size w ((w.alloc (.cells (aB (aD s ds p q)) 28)).alloc (.cells #[] 3)):=(ak.alloc aj _).alloc (by simp) _;have K:=aa (ag h0 (ag hr (ag hb0 (kB.alloc (.cells #[] 3)))));clear hd h0 hr hb0 kB;go_enter func75,ntmps75;go_wp2_with (first|(at_builtin;refine wpList_append_own _ rfl (.tmp 4) (.tmp 6) 29 rfl (w.heap.size+1) 3 i0 (.int .i64 0) 1 8 underlying29 hi hz0 hz1 hz2 rfl (by decide) (.slice (some ⟨w.heap.size+1,0,none⟩) 0 0) 0 [] rfl K.out.1 ⟨w.heap.size,1,none⟩ 12 12 (ds.map (Value.int .i64)) rfl (by rw[List.length_map,HD.out]) K.out.2.1 (ints_oneCell _ _) (by unfold maxLen;omega) (by omega) (by simp) ?_;intro v1 w1 hown1 hgr1 _;have a13:=hgr1.cell (a:=⟨w.heap.size,13,none⟩) ((K.out.2.2.2.cell 13).trans (pC s ds p q HD.out)) (by simp[Value.ownBlock]);have a14:=hgr1.cell (a:=⟨w.heap.size,14,none⟩) ((K.out.2.2.2.cell 14).trans (kU s ds p q HD.out)) (by simp[Value.ownBlock]);have H1:=aa (ag hown1 hgr1);clear hown1 hgr1)|(at_builtin;refine wpList_append_own _ rfl (.tmp 8) (.tmp 13) 29 rfl (w.heap.size+1) 3 i0 (.int .i64 0) 1 8 underlying29 hi hz0 hz1 hz2 rfl (by decide) v1 _ _ rfl (H1.out.1.alloc _) ⟨w1.heap.size,0,none⟩ 2 2 [.int .i64 p,.int .i64 q] rfl rfl (cell_two_new _ _ _ _) (ints_oneCell .i64 [p,q]) (by unfold maxLen;omega) (by omega) (by have:=H1.out.2.size;simp at this⊢;omega) ?_;intro v2 w2 hown2 hgr2 _));go_ret;refine⟨_,rfl,bZ (base:=w.heap.size+1) ?_ (by omega),?_⟩
 ·have e:(ds++[p,q]).map (Value.int .i64)=[]++ds.map (Value.int .i64)++[.int .i64 p,.int .i64 q]:=by simp
  rw[e];exact hown2
 ·have hs1:=H1.out.2.size;have hl1:=H1.out.1.lt;refine(((K.out.2.2.1.grown H1.out.2 (by simp;omega) (fun k h=>by simp[Value.ownBlock] at h;omega)).alloc (by simp at hs1;omega) _).grown hgr2 (by simp at hs1⊢;omega) (fun k h=>by have:=(hl1 k h).1;omega))
end
end Go.Proofs.YtlimollpocagiaaGreatDoor
