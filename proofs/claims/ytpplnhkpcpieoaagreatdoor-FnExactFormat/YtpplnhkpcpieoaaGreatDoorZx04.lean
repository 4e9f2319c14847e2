/- DecodeWords, the model's and the program's: both give decW -/
import Derived.Test.YtpplnhkpcpieoaaGreatDoorZx03
import Derived.Laws.Tables
import Derived.Deep.DeepCutAuto
import Derived.OwnWalk
import Derived.ArgAppend
namespace Go.Proofs.YtpplnhkpcpieoaaGreatDoor
open Go.Proofs.Tryz
open _root_.List (range replicate map_take getD length_drop)
set_option linter.all false
set_option maxRecDepth 100000
set_option maxHeartbeats 16000000
section
open Go.RowKit
def jz(bs:List Int)(i:Nat):Int:=(eP ((bs.drop (4*i)).take 4):Nat)
def dr(bs:List Int)(n:Nat):List Int:=(range n).map (jz bs)
def jX(bs:List Int):List Int:=if bs.length=512 then dr bs 128 else []
def pE(bs:List Int):Int:=if bs.length=512 then 0 else 21
theorem tC(bs:List Int)(n:Nat):(dr bs n).length=n:=by simp[dr]
theorem Eh(bs:List Int)(n:Nat):dr bs (n+1)=dr bs n++[jz bs n]:=by simp[dr,List.range_succ]
theorem xD(bs:List Int)(i:Nat)(h:∀z∈bs,0≤z∧z<256):eP ((bs.drop (4*i)).take 4)<4294967296:=by
 have h1:=Ee ((bs.drop (4*i)).take 4) (fun z hz=>h z (List.mem_of_mem_drop (List.mem_of_mem_take hz)));have h2:((bs.drop (4*i)).take 4).length≤4:=by simp;omega
 have h3:(256:Nat)^((bs.drop (4*i)).take 4).length≤256^4:=Nat.pow_le_pow_right (by decide) h2;have h4:(256:Nat)^4=4294967296:=by decide
 omega
theorem Ei(z:Int):∀u∈[Value.int .i64 z],u.oneCell'=true:=by
 intro u hu;rw[List.mem_singleton] at hu;subst hu;rfl
theorem Ej(v:Value)(bs:List Int)(w:World)(h:Rd .u8 w v bs)(hbd:∀z∈bs,0≤z∧z<256):
 Calls prog 113 #[v] w fun e w'=>∃v',e=.returned (.tuple #[v',.int .i64 (pE bs)])∧w'.ownsRow w.heap.size 3 1 v' (jX bs).length ((jX bs).map (Value.int .i64))∧Below w.heap.size w w':=by
 obtain⟨i0,hi,hz0,hz1,hz2⟩:=info_parts fX;have hm:=h.len;unfold maxLen at hm;have HB:=aa hbd;clear hbd;by_cases hlen:bs.length=512
 ·obtain⟨b,off,cap,rfl,hbw,hcl,hcm,hcell⟩:=h.dJ (by omega);unfold maxLen at hcm;have h0:=nN w 3;have hb0:Below w.heap.size w (w.alloc (.cells #[] 3)):=ak.alloc aj _;have HN:=aa hlen;have HR:=aa h;have HD:=ae (pE bs=0∧jX bs=dr bs 128) (by simp[pE,jX,hlen]);rw[hlen] at hcell hcl⊢;clear h hlen hm hcell;go_enter func113,ntmps113;go_wp2;go_loopw [4,5] (fun o i wr=>∃k p:Nat,k≤128∧p=4*k∧i=.int .i64 p∧wr.ownsRow w.heap.size 3 1 o k ((dr bs k).map (Value.int .i64))∧Below w.heap.size w wr) (fun _ i _=>512-(intOf i).toNat)
  case atStart=>exact⟨0,0,by omega,rfl,rfl,by simpa [dr] using h0,hb0⟩
  case round=>
   clear h0 hb0;obtain⟨k,p,hk,hp,rfl,hown,hb⟩:=hrel;have hsz:=hb.size;have HP:=aa hp;have hp2:p≤4*k:=(by omega);have hp3:4*k≤p:=(by omega);clear hp;by_cases hlt:p<512
   ·have HC:=ae (Rd .u8 wr (.slice (some ⟨b,off+p,none⟩) 4 (cap-p)) ((bs.drop p).take 4)) ((Rd.mS p 4 HR.out (by omega) (by rw[HN.out];omega)).below hb);have HL:=ae (mo ((bs.drop p).take 4)=eP ((bs.drop (4*k)).take 4)∧eP ((bs.drop (4*k)).take 4)<4294967296) (by
     have h1:=xD bs k HB.out;refine⟨?_,h1⟩;rw[HP.out,tB _ (by omega)])
    have HS:=aa (Eh bs k);have HO:=aa hown;have hsub:p+4-p=4:=(by omega);clear hown;go_wp2_with fail;refine(xC _ ((bs.drop p).take 4) _ (by first|exact HC.out|(rw[hsub];exact HC.out)) (by simp;omega) (fun z hz=>HB.out z (List.mem_of_mem_drop (List.mem_of_mem_take hz)))).mono ?_;rintro e w1 ⟨rfl,rfl⟩;rw[HL.out.1];generalize hy:eP ((bs.drop (4*k)).take 4)=y at HL;have HY:=aa hy;clear hy;go_wp2_with (at_builtin;refine wpList_append_own _ rfl (.tmp 14) (.tmp 21) 45 rfl w.heap.size 3 i0 (.int .i64 0) 1 8 underlying45 hi hz0 hz1 hz2 rfl (by decide) _ _ _ rfl (HO.out.alloc _) ⟨wr.heap.size,0,none⟩ 1 1 [.int .i64 (y:Int)] rfl rfl (cell_one_new _ _ _) (Ei _) (by unfold maxLen;omega) (by omega) (by simp;omega) ?_;intro v1 w1 hown1 aI _);have HW:=ae (w1.ownsRow w.heap.size 3 1 v1 (k+1) ((dr bs (k+1)).map (Value.int .i64))∧Below w.heap.size w w1) (by
     refine⟨?_,(hb.alloc hsz _).grown aI (by simp;omega) (fun r h=>(HO.out.lt r h).1)⟩;rw[HS.out,List.map_append,show jz bs k=(y:Int) by rw[←HY.out];rfl];exact hown1)
    clear hown1 aI hb HO;go_roundw
    case rel=>exact⟨k+1,p+4,by omega,by omega,by go_num,HW.out.1,HW.out.2⟩
    case measure=>simp[intOf];omega
   ·have PX:k=128:=(by omega);subst PX;have HO:=aa hown;clear hown;go_wp2;go_ret2;refine⟨_,by rw[HD.out.1];rfl,?_,hb⟩;rw[HD.out.2,tC];exact HO.out
 ·obtain⟨a,cap,rfl,_,_⟩:=h;have hq:((bs.length:Int)==512)=false:=by simp;omega
  have HG:=ae (pE bs=21∧jX bs=[]) (by simp[pE,jX,hlen]);clear hlen;go_enter func113,ntmps113;go_wp2;go_ret2;exact⟨_,by rw[HG.out.1];rfl,by rw[HG.out.2];exact World.ownsRow_nil _ _ _ _,ak⟩
theorem xE(bs:List Int)(k n:Nat)(h:k<n)(z:Value)(hz:z=.int .i64 (jz bs k)):
 ((dr bs k).map (Value.int .i64)++replicate (n-k) (Value.int .i64 0)).set k z=(dr bs (k+1)).map (Value.int .i64)++replicate (n-(k+1)) (Value.int .i64 0):=by
 subst hz;have e:(dr bs k).map (Value.int .i64)=((dr bs n).map (Value.int .i64)).take k:=by
  rw[←map_take];congr 1;simp[dr, ←map_take,List.take_range,Nat.min_eq_left (Nat.le_of_lt h)]
 have e2:(dr bs (k+1)).map (Value.int .i64)=((dr bs n).map (Value.int .i64)).take (k+1):=by
  rw[←map_take];congr 1;simp[dr, ←map_take,List.take_range,Nat.min_eq_left (show k+1≤n by omega)]
 rw[e,e2];exact Cv _ _ _ k n h (by simp[dr]) (by simp[dr,h])
theorem Ek(a b:Nat)(ha:a<256):a|||(b*256)=a+b*256:=by
 rw[Nat.or_comm,Nat.add_comm];have:=Nat.two_pow_add_eq_or_of_lt (i:=8) (b:=a) (by omega) b;rw[show 2^8*b=b*256 by omega] at this;exact this.symm
theorem El(a b:Nat)(ha:a<65536):a|||(b*65536)=a+b*65536:=by
 rw[Nat.or_comm,Nat.add_comm];have:=Nat.two_pow_add_eq_or_of_lt (i:=16) (b:=a) (by omega) b;rw[show 2^16*b=b*65536 by omega] at this;exact this.symm
theorem Em(a b:Nat)(ha:a<16777216):a|||(b*16777216)=a+b*16777216:=by
 rw[Nat.or_comm,Nat.add_comm];have:=Nat.two_pow_add_eq_or_of_lt (i:=24) (b:=a) (by omega) b;rw[show 2^24*b=b*16777216 by omega] at this;exact this.symm
theorem tD(a b:Nat)(ha:a<4294967296)(hb:b<4294967296):bits .or .i64 (a:Int) (b:Int)=((a|||b:Nat):Int):=by
 show IntKind.i64.wrap ((BitVec.ofInt 64 (a:Int)|||BitVec.ofInt 64 (b:Int)).toNat:Int)=_;have e1:(BitVec.ofInt 64 (a:Int)).toNat=a:=by simp;omega
 have e2:(BitVec.ofInt 64 (b:Int)).toNat=b:=by simp;omega
 rw[BitVec.toNat_or,e1,e2];have:a|||b<2^32:=Nat.or_lt_two_pow ha hb
 generalize a|||b=y at this
 simp[IntKind.wrap,IntKind.bits,IntKind.signed];omega
theorem xF(x0 x1 x2 x3:Nat)(h0:x0<256)(h1:x1<256)(h2:x2<256)(h3:x3<256):bits .or .i64 (bits .or .i64 (bits .or .i64 (x0:Int) ((x1:Int)*256)) ((x2:Int)*65536)) ((x3:Int)*16777216)=((x0+256*(x1+256*(x2+256*x3)):Nat):Int):=by
 rw[show(x1:Int)*256=((x1*256:Nat):Int) by omega,tD _ _ (by omega) (by omega),Ek _ _ h0];rw[show(x2:Int)*65536=((x2*65536:Nat):Int) by omega,tD _ _ (by omega) (by omega),El _ _ (by omega)];rw[show(x3:Int)*16777216=((x3*16777216:Nat):Int) by omega,tD _ _ (by omega) (by omega),Em _ _ (by omega)];omega
theorem xG(a b c d:Int):eP [a,b,c,d]=a.toNat+256*(b.toNat+256*(c.toNat+256*d.toNat)):=by simp[eP]
theorem xH(bs:List Int)(k:Nat)(h:4*k+4≤bs.length):((bs.drop (4*k)).take 4)=[bs.getD (4*k) 0,bs.getD (4*k+1) 0,bs.getD (4*k+2) 0,bs.getD (4*k+3) 0]:=by
 apply List.ext_getElem (by simp;omega);intro j hj hj';simp at hj hj';rw[List.getElem_take,List.getElem_drop];have e:∀i,i<bs.length→bs.getD i 0=bs[i]!:=fun i hi=>by simp[getD,hi]
 match j,hj' with
 |0,_=>simp[getD,show 4*k<bs.length by omega]
 |1,_=>simp[getD,show 4*k+1<bs.length by omega]
 |2,_=>simp[getD,show 4*k+2<bs.length by omega]
 |3,_=>simp[getD,show 4*k+3<bs.length by omega]
 |n+4,h=>omega
theorem En{w0:World}{a:Option Addr}{len cap:Nat}{zs:List Int}(h:Rd .u8 w0 (.slice a len cap) zs)(lo hi:Nat)(h1:lo≤hi)(h2:hi≤zs.length):
 ∃a' c',Rd .u8 w0 (.slice a' (hi-lo) c') ((zs.drop lo).take (hi-lo))∧∀wx,(Instr.slice 22 (.slice a len cap) (some (.int .i64 (lo:Int))) (some (.int .i64 (hi:Int))) none).run prog wx=.ok (.slice a' (hi-lo) c') wx:=by
 obtain⟨i0,hi0,hz0,hz1,hz2⟩:=info_parts eO;obtain⟨a0,cap0,e,hm,hc,hl,hcm⟩:=h;injection e with e1 e2 e3;subst e1 e2 e3;have hlen:((zs.drop lo).take (hi-lo)).length=hi-lo:=by rw[List.length_take,length_drop];omega
 have hrun:∀wx,(Instr.slice 22 (.slice a zs.length cap) (some (.int .i64 (lo:Int))) (some (.int .i64 (hi:Int))) none).run prog wx=.ok (sliced a lo hi cap 1) wx:=fun wx=>by
  rw[run_slice_lh (P:=prog) (w:=wx) 22 a zs.length cap (by rw[underlying22];rfl) .i64 .i64 (lo:Int) (hi:Int) (by omega) (by omega) (by omega)];simp[sizeOf,typeInfo,show prog.elem 22=5 by kernel_rfl,hi0,hz1,Result.andThen]
 refine⟨_,_,?_,hrun⟩;refine⟨_,_,by rw[hlen],by omega,fun hne=>?_,by rw[hlen];omega,by omega⟩;have hp:lo<zs.length:=by
  rcases Nat.lt_or_ge lo zs.length with h|h
  ·exact h
  ·exact absurd (by rw[List.drop_eq_nil_of_le h];simp) hne
 obtain⟨b,off,rfl,hb,hcell⟩:=hc (fun e=>by rw[e] at hp;simp at hp);refine⟨b,off+lo,?_,hb,fun i hi2=>?_⟩
 ·rw[if_neg (by omega),Option.map_some,Nat.mul_one,Addr.add_mid]
 ·rw[hlen] at hi2;rw[Nat.add_assoc,hcell (lo+i) (by omega)];simp[getD,hi2]
theorem xI{w0:World}{a:Option Addr}{len cap:Nat}{zs:List Int}(h:Rd .u8 w0 (.slice a len cap) zs)(lo:Nat)(h2:lo≤zs.length):
 ∃a' c',Rd .u8 w0 (.slice a' (zs.length-lo) c') (zs.drop lo)∧∀wx,(Instr.slice 22 (.slice a len cap) (some (.int .i64 (lo:Int))) none none).run prog wx=.ok (.slice a' (zs.length-lo) c') wx:=by
 obtain⟨a',c',hr,hrun⟩:=En h lo zs.length h2 aj;have hl:len=zs.length:=by obtain⟨_,_,e,_⟩:=h;injection e
 obtain⟨_,_,e0,_,_,hl2,hcm⟩:=h;injection e0 with e1 e2 e3;subst e3;rw[List.take_of_length_le (by rw[length_drop];omega)] at hr;refine⟨a',c',hr,fun wx=>?_⟩;rw[←hrun wx,run_slice_l (P:=prog) (w:=wx) 22 a len cap (by rw[underlying22];rfl) .i64 (lo:Int) (by omega) (by omega),run_slice_lh (P:=prog) (w:=wx) 22 a len cap (by rw[underlying22];rfl) .i64 .i64 (lo:Int) (zs.length:Int) (by omega) (by omega) (by omega)];rw[Int.toNat_natCast,hl,Int.toNat_natCast]
theorem qH:(prog.info? 238).map (·.size)=some 4:=by kernel_rfl
theorem Eo(v:Value)(bs:List Int)(n:Nat)(w:World)(h:Rd .u8 w v bs)(hbd:∀z∈bs,0≤z∧z<256)(hn:bs.length=4*n)(hn2:n≤4096):
 Calls prog 98 #[v] w fun e w'=>∃v',e=.returned v'∧w'.ownsRow w.heap.size 3 1 v' n ((dr bs n).map (Value.int .i64))∧Below w.heap.size w w':=by
 obtain⟨i0,hi,hz0,hz1,hz2⟩:=info_parts fX;have hm:=h.len;unfold maxLen at hm;have HB:=aa hbd;have HR:=aa h;have HN:=aa hn;have HL:=ae ((bs.length:Int)/4=(n:Int)) (by omega);clear hbd;obtain⟨a,cap,rfl,_⟩:=h;generalize hbl:bs.length=bl at*;have vX:=aa hbl;have SU:bl≤16384:=by omega
 clear hbl hn;go_enter func98,ntmps98;go_wp2_with (refine wpList_make_full _ rfl _ _ 45 rfl w.heap.size 3 i0 (.int .i64 0) 1 underlying45 hi hz0 hz1 .i64 .i64 n n n (by rw[←HL.out];rfl) (by rw[←HL.out];rfl) rfl rfl (by rw[hz2];omega) (by unfold maxLen;omega) aj ?_;intro w3 hown3 Qo;rw[iJ _ _ rfl] at hown3);have hb3:Below w.heap.size w w3:=ak.grown Qo aj (fun k e=>by cases e);go_loopw [12] (fun i wr=>∃k:Nat,k≤n∧i=.int .i64 k∧Below w.heap.size w wr∧wr.ownsRow w.heap.size 3 1 (.slice (some ⟨w.heap.size,0,none⟩) n n) n ((dr bs k).map (Value.int .i64)++replicate (n-k) (.int .i64 0))) (fun i _=>n-(intOf i).toNat)
 case atStart=>exact⟨0,by omega,rfl,hb3,by simpa [dr] using hown3⟩
 case round=>
  clear hown3 Qo hb3;obtain⟨k,hk,rfl,hb,hown⟩:=hrel;by_cases PX:k<n
  ·have hk4:4*k+4≤bs.length:=(by rw[vX.out,HN.out];omega);obtain⟨sa,sc,OS,hsl⟩:=xI HR.out (4*k) (by omega);have hF:=xH bs k hk4;obtain⟨b2,off2,c2,hsv,hb2,_,_,hcell⟩:=OS.dJ (by rw[length_drop];omega);injection hsv with e1 e2 e3;subst e1;subst e3;have oK:∀j,j<4→w.cell? ⟨b2,off2+j,none⟩=some (.int .u8 (bs.getD (4*k+j) 0)):=fun j hj=>by
    rw[hcell j (by rw[length_drop];omega)];simp[getD,List.getElem?_drop]
   have hbx:∀j,j<4→∃x:Nat,bs.getD (4*k+j) 0=(x:Int)∧x<256:=fun j hj=>by
    have hl:4*k+j<bs.length:=(by omega);have:=HB.out _ (List.getElem_mem hl);exact⟨(bs.getD (4*k+j) 0).toNat,by simp[getD,hl];omega,by simp[getD,hl];omega⟩
   obtain⟨x0,hx0,l0⟩:=hbx 0 (by omega);obtain⟨x1,hx1,l1⟩:=hbx 1 (by omega);obtain⟨x2,hx2,l2⟩:=hbx 2 (by omega);obtain⟨x3,hx3,l3⟩:=hbx 3 (by omega);have HW:=ae (jz bs k=((x0+256*(x1+256*(x2+256*x3)):Nat):Int)) (by
    unfold jz;rw[hF,xG,show bs.getD (4*k) 0=(x0:Int) from hx0,hx1,hx2,hx3];simp only[Int.toNat_natCast])
   have eU:=ae (wr.rangeAt b2 off2 [.int .u8 (x0:Int),.int .u8 (x1:Int),.int .u8 (x2:Int),.int .u8 (x3:Int)]) (by
    intro j y hj;rw[hb.cell (p:=⟨b2,off2+j,none⟩) hb2];match j,hj with
    |0,hj=>rw[oK 0 (by omega),hx0];simpa using hj
    |1,hj=>rw[oK 1 (by omega),hx1];simpa using hj
    |2,hj=>rw[oK 2 (by omega),hx2];simpa using hj
    |3,hj=>rw[oK 3 (by omega),hx3];simpa using hj
    |n+4,hj=>simp at hj)
   have harr:∀(wx:World),(Instr.arrayAt 238 (.slice (some ⟨b2,off2,none⟩) (bs.length-4*k) sc)).run prog wx=.ok (.pointer (some ⟨b2,off2,none⟩)) wx:=fun wx=>run_arrayAt (w:=wx) 238 5 4 _ _ _ underlying238 (by omega);rw[vX.out] at hsl harr;have hsl2:∀(wx:World),(Instr.slice 22 (.slice a bl cap) (some (.int .i64 ((k:Int)*4))) none none).run prog wx=.ok (.slice (some ⟨b2,off2,none⟩) (bl-4*k) sc) wx:=fun wx=>by
    have:=hsl wx;rw[show((4*k:Nat):Int)=(k:Int)*4 by omega] at this;exact this
   obtain⟨W3,hW3⟩:∃W3,W3=(wr.alloc (.cells #[.int .u8 0,.int .u8 0,.int .u8 0,.int .u8 0] 238)).setRow wr.heap.size #[.int .u8 (x0:Int),.int .u8 (x1:Int),.int .u8 (x2:Int),.int .u8 (x3:Int)]:=⟨_,rfl⟩;have B3:=ae (Below wr.heap.size wr W3) (by rw[hW3];exact below_setRow (ak.alloc aj _) aj _);have K3:=ae (af W3 wr.heap.size #[.int .u8 (x0:Int),.int .u8 (x1:Int),.int .u8 (x2:Int),.int .u8 (x3:Int)] 238) (by rw[hW3];exact(af.new wr _ 238).row _);have KN:=aa (af.new wr #[.int .u8 0,.int .u8 0,.int .u8 0,.int .u8 0] 238);have cb0:=(K3.out.cell 0).trans (show _=some (.int .u8 (x0:Int)) from rfl);have cb1:=(K3.out.cell 1).trans (show _=some (.int .u8 (x1:Int)) from rfl);have cb2:=(K3.out.cell 2).trans (show _=some (.int .u8 (x2:Int)) from rfl);have SV:=(K3.out.cell 3).trans (show _=some (.int .u8 (x3:Int)) from rfl);have PY:=cC hown B3.out;have hst:=PY.stored k (.int .i64 ((x0+256*(x1+256*(x2+256*x3)):Nat):Int));have hfr:=PY.frozenAt k;obtain⟨old,hco⟩:∃u,W3.cell? ⟨w.heap.size,k,none⟩=some u:=by
    rw[PY.cellAt k (by omega)];exact⟨_,List.getElem?_eq_getElem (by simp[tC];omega)⟩
   have hor:=xF x0 x1 x2 x3 l0 l1 l2 l3;have HX:=ae (Below w.heap.size w (W3.setCell ⟨w.heap.size,k,none⟩ (.int .i64 ((x0+256*(x1+256*(x2+256*x3)):Nat):Int)))∧(W3.setCell ⟨w.heap.size,k,none⟩ (.int .i64 ((x0+256*(x1+256*(x2+256*x3)):Nat):Int))).ownsRow w.heap.size 3 1 (.slice (some ⟨w.heap.size,0,none⟩) n n) n ((dr bs (k+1)).map (Value.int .i64)++replicate (n-(k+1)) (.int .i64 0))) (by
    refine⟨(hb.trans (B3.out.mono hb.size)).setCell (p:=⟨w.heap.size,k,none⟩) aj _,?_⟩;rw[←xE bs k n PX _ (by rw[HW.out])];exact hst.1)
   have HW3:=aa hW3;clear hW3 hst PY hown hsl OS hcell oK hbx hF hx0 hx1 hx2 hx3 hb;go_upto_region 6 with(first
    |(refine wpList_load_mid rfl 238 _ rfl b2 off2 rfl [.int .u8 (x0:Int),.int .u8 (x1:Int),.int .u8 (x2:Int),.int .u8 (x3:Int)] _ eU.out underlying238 rfl qH ?_)
    |(refine wpList_store_row rfl 238 _ _ rfl wr.heap.size #[.int .u8 (x0:Int),.int .u8 (x1:Int),.int .u8 (x2:Int),.int .u8 (x3:Int)] rfl rfl 238 #[.int .u8 0,.int .u8 0,.int .u8 0,.int .u8 0] KN.out qH rfl (by simp[Value.oneCell']) ?_)
    |fail)
   rw[←HW3.out];go_wp2;go_roundw
   case rel=>exact⟨k+1,by omega,by go_num,HX.out.1,HX.out.2⟩
   case measure=>simp[intOf];omega
  ·have e8:k=n:=(by omega);subst e8;go_wp2;go_ret;refine⟨_,rfl,?_,hb⟩;rw[Nat.sub_self,List.replicate_zero,List.append_nil] at hown;exact hown
theorem eY{k:IntKind}{w:World}{v:Value}{zs:List Int}(h:Rd k w v zs):∃a cap,v=.slice a zs.length cap:=by
 rcases h.parts with⟨a,cap,e,_⟩|⟨b,off,cap,e,_⟩
 ·exact⟨a,cap,e⟩
 ·exact⟨_,cap,e⟩
def bQ(zs:List Int)(p:Int):List Int:=(zs.drop (p.toNat*512)).take 512
def aQ(zs:List Int)(p:Int)(k:Nat):Int:=jz (bQ zs p) k
theorem xJ(zs:List Int)(p:Int)(hl:(bQ zs p).length=512):jX (bQ zs p)=(range 128).map (aQ zs p):=by
 unfold jX dr;rw[if_pos hl];rfl
theorem mZ{n:Nat}{p:Int}(h:bM n p=true)(h0:p≠0):2≤p∧p<(n:Int):=by
 unfold bM at h;simp[h0] at h;exact h
theorem kO(v:Value)(zs:List Int)(p:Int)(w:World)(h:Rd .u8 w v zs)(h1:zs.length≤1048576):
 Calls prog 74 #[v,.int .i64 p] w fun e w'=>e=.returned (.bool (bM (zs.length/512) p))∧w'=w:=by
 obtain⟨a,cap,rfl⟩:=eY h;clear h;obtain⟨n,hn⟩:∃n:Nat,(zs.length:Int)/512=(n:Int):=⟨zs.length/512,by omega⟩;have HN:=ae (zs.length/512=n) (by omega);by_cases h0:p=0
 ·subst h0;go_enter func74,ntmps74;go_wp2;go_ret;exact⟨by rw[DD];rfl,rfl⟩
 ·by_cases h2:2≤p
  ·by_cases h3:p<(n:Int)
   ·go_enter func74,ntmps74;go_wp2;go_ret;exact⟨by rw[HN.out];unfold bM;simp[h0,h2,h3],rfl⟩
   ·go_enter func74,ntmps74;go_wp2;go_ret;exact⟨by rw[HN.out];unfold bM;simp[h0,h2,h3],rfl⟩
  ·have hb:(p==0)=false:=(by simp[h0]);have h5:¬(2≤p):=h2;have HF:=ae (bM (zs.length/512) p=false) (by unfold bM;rw[decide_eq_false h5];simp[h0]);go_enter func74,ntmps74;go_wp2;go_ret;exact⟨by rw[HF.out];rfl,rfl⟩
theorem xK(s:Nat)(w:World)(hs:s≤1099511627776):
 Calls prog 66 #[.int .i64 (s:Int)] w fun e w'=>e=.returned (.int .i64 (((s+511)/512:Nat):Int))∧w'=w:=by
 obtain⟨n,hn⟩:∃n:Nat,(s+511)/512=n:=⟨_,rfl⟩;have hn2:((s:Int)+512-1)/512=(n:Int):=by omega
 have UN:((s:Int)+511)/512=(n:Int):=by omega
 rw[hn];go_enter func66,ntmps66;go_wp2;go_ret;exact⟨by rw[←hn2];rfl,rfl⟩
theorem nO(v:Value)(zs:List Int)(p:Int)(w:World)(h:Rd .u8 w v zs)(h1:zs.length≤1048576)(hbd:∀z∈zs,0≤z∧z<256)(hp:bM (zs.length/512) p=true):
 Calls prog 75 #[v,.int .i64 p] w fun e w'=>∃v',e=.returned v'∧w'.ownsRow w.heap.size 3 1 v' 128 (((range 128).map (bJ (aQ zs) p)).map (Value.int .i64))∧Below w.heap.size w w':=by
 obtain⟨i0,hi,hz0,hz1,hz2⟩:=info_parts fX;by_cases h0:p=0
 ·subst h0;obtain⟨a,cap,rfl⟩:=eY h;clear h;go_enter func75,ntmps75;go_wp2_with (refine wpList_make_full _ rfl _ _ 45 rfl w.heap.size 3 i0 (.int .i64 0) 1 underlying45 hi hz0 hz1 .i64 .i64 128 128 128 rfl rfl rfl rfl (by rw[hz2];omega) (by unfold maxLen;omega) aj ?_;intro w3 o3 g3;rw[iJ _ _ rfl] at o3;have O3:=aa (ai o3 g3);clear o3 g3);go_ret;have e:((range 128).map (bJ (aQ zs) 0)).map (Value.int .i64)=replicate 128 (Value.int .i64 0):=by
   rw[show bJ (aQ zs) 0=fun _=>0 from funext (fun k=>mh k)];rfl
  refine⟨_,rfl,?_,ak.grown O3.out.2 aj (fun k e=>by cases e)⟩;rw[e];exact O3.out.1
 ·obtain⟨h2,h3⟩:=mZ hp h0;obtain⟨q,rfl⟩:∃q:Nat,p=(q:Int):=⟨p.toNat,by omega⟩;obtain⟨b,off,cap,rfl,hb,hlc,hcm,hcell⟩:=h.dJ (by omega);obtain⟨A,hA⟩:∃A:Nat,A=q*512:=⟨_,rfl⟩;have hA1:(q:Int)*512=(A:Int):=by omega
  obtain⟨B,hB⟩:∃B:Nat,B=A+512:=⟨_,rfl⟩;have hA2:((q:Int)+1)*512=(B:Int):=by omega
  have X8:B≤zs.length:=by omega
  have hl5:(bQ zs (q:Int)).length=512:=by unfold bQ;rw[List.length_take,length_drop,Int.toNat_natCast];omega
  have HP:=ae (Rd .u8 w (.slice (some ⟨b,off+A,none⟩) 512 (cap-A)) (bQ zs (q:Int))) (by unfold bQ;rw[Int.toNat_natCast, ←hA];exact Rd.mS A 512 h (by omega) (by omega));have HE:=ae (jX (bQ zs (q:Int))=(range 128).map (bJ (aQ zs) (q:Int))) (by rw[xJ zs _ hl5,show bJ (aQ zs) (q:Int)=aQ zs (q:Int) from funext (fun k=>nL h0 k)]);have Rr:=ae (∀z∈bQ zs (q:Int),0≤z∧z<256) (fun z hz=>hbd z (List.mem_of_mem_drop (List.mem_of_mem_take hz)));have hB3:(A:Int)≤(B:Int):=by omega
  have hB4:(B:Int)≤(cap:Int):=by omega
  have UO:B-A=512:=by omega
  have hq:(q:Int)<4096:=by omega
  clear h hbd hcell hl5 hA hB;go_enter func75,ntmps75;go_wp2_with fail;refine(Ej _ (bQ zs (q:Int)) w HP.out Rr.out).mono ?_;rintro e w1 ⟨v1,rfl,o1,b1⟩;rw[HE.out] at o1;have O1:=aa (ai o1 b1);clear o1 b1;go_wp2;go_ret;exact⟨_,rfl,by have:=O1.out.1;simpa using this,O1.out.2⟩
theorem tF:(prog.info? 29).map (·.size)=some 12:=by kernel_rfl
theorem dV:(prog.info? 31).map (·.size)=some 15:=by kernel_rfl
def aD(s:Int)(ds:List Int)(p q:Int):List Int:=s::(ds++[p,q])
theorem dw(s:Int)(ds:List Int)(p q:Int)(hd:ds.length=12):(aD s ds p q).length=15:=by simp[aD,hd]
theorem qI(s:Int)(ds:List Int)(p q:Int)(hd:ds.length=12):(an (aD s ds p q))[13]?=some (.int .i64 p):=by
 rw[qq _ _ (by rw[dw s ds p q hd];omega)];match ds,hd with|[_,_,_,_,_,_,_,_,_,_,_,_],_=>rfl
theorem m0(s:Int)(ds:List Int)(p q:Int)(hd:ds.length=12):(an (aD s ds p q))[14]?=some (.int .i64 q):=by
 rw[qq _ _ (by rw[dw s ds p q hd];omega)];match ds,hd with|[_,_,_,_,_,_,_,_,_,_,_,_],_=>rfl
theorem qJ(s:Int)(ds:List Int)(p q:Int)(hd:ds.length=12):((aD s ds p q).drop 1).take 12=ds:=by
 match ds,hd with|[_,_,_,_,_,_,_,_,_,_,_,_],_=>rfl
def cI(x n:Int):Bool:=decide (x=0)||(decide (2≤x)&&decide (x<n))
theorem mq(x:Int)(w:World):Calls prog 73 #[.int .i64 x] w fun e w'=>e=.returned (.bool (cI x 2048))∧w=w':=by
 have HP:=ae (cI x 2048=(decide (x=0)||(decide (2≤x)&&decide (x<2048)))) rfl;by_cases h0:x=0
 ·subst h0;go_enter func73,ntmps73;go_wp2;go_ret;exact⟨rfl,rfl⟩
 ·have hq:(x==0)=false:=by simp[h0]
  have HD:=ae (decide (x=0)=false) (by simp[h0]);clear h0;by_cases h2:2≤x
  ·by_cases h3:x<2048;all_goals
    have HR:=ae (cI x 2048=decide (x<2048)) (by rw[HP.out,HD.out];simp[h2]);go_enter func73,ntmps73;go_wp2;go_ret;exact⟨bX (by rw[HR.out];simp;try omega),rfl⟩
  ·have hq2:decide (2≤x)=false:=(by simp;omega);have HR:=ae (cI x 2048=false) (by rw[HP.out,HD.out,hq2];rfl);go_enter func73,ntmps73;go_wp2;go_ret;exact⟨bX (by rw[HR.out]),rfl⟩
theorem m3(s:Int)(ds:List Int)(p q:Int)(w:World)(hd:ds.length=12):
 Calls prog 72 #[.agg (an (aD s ds p q))] w fun e w'=>∃v',e=.returned v'∧w'.ownsRow w.heap.size 3 1 v' 14 ((ds++[p,q]).map (Value.int .i64))∧Below w.heap.size w w':=by
 obtain⟨i0,hi,hz0,hz1,hz2⟩:=info_parts fX;have HD:=aa hd;have kB:=af.new w (an (aD s ds p q)) 31;have h0:=nN (w.alloc (.cells (an (aD s ds p q)) 31)) 3;rw[World.size_alloc] at h0;have hr:∀j u,(ds.map (Value.int .i64))[j]?=some u→((w.alloc (.cells (an (aD s ds p q)) 31)).alloc (.cells #[] 3)).cell? ((⟨w.heap.size,1,none⟩:Addr).add j)=some u:=by
  intro j u hu;have h:=(kB.alloc (.cells #[] 3)).range 1 12 (by rw[dw _ _ _ _ HD.out];omega);rw[qJ _ _ _ _ HD.out] at h;rw[Addr.add_mid];exact h j u hu
 have hb0:Below w.heap.size w ((w.alloc (.cells (an (aD s ds p q)) 31)).alloc (.cells #[] 3)):=(ak.alloc aj _).alloc (by simp) _;have K:=aa (ai h0 (ai hr (ai hb0 (kB.alloc (.cells #[] 3)))));clear hd h0 hr hb0 kB;go_enter func72,ntmps72;go_wp2_with (first|(at_builtin;refine wpList_append_own _ rfl (.tmp 4) (.tmp 6) 45 rfl (w.heap.size+1) 3 i0 (.int .i64 0) 1 8 underlying45 hi hz0 hz1 hz2 rfl (by decide) (.slice (some ⟨w.heap.size+1,0,none⟩) 0 0) 0 [] rfl K.out.1 ⟨w.heap.size,1,none⟩ 12 12 (ds.map (Value.int .i64)) rfl (by rw[List.length_map,HD.out]) K.out.2.1 (ints_oneCell _ _) (by unfold maxLen;omega) (by omega) (by simp) ?_;intro v1 w1 hown1 aI _;have Ra:=aI.cell (a:=⟨w.heap.size,13,none⟩) ((K.out.2.2.2.cell 13).trans (qI s ds p q HD.out)) (by simp[Value.ownBlock]);have Ow:=aI.cell (a:=⟨w.heap.size,14,none⟩) ((K.out.2.2.2.cell 14).trans (m0 s ds p q HD.out)) (by simp[Value.ownBlock]);have H1:=aa (ai hown1 aI);clear hown1 aI)|(at_builtin;refine wpList_append_own _ rfl (.tmp 8) (.tmp 13) 45 rfl (w.heap.size+1) 3 i0 (.int .i64 0) 1 8 underlying45 hi hz0 hz1 hz2 rfl (by decide) v1 _ _ rfl (H1.out.1.alloc _) ⟨w1.heap.size,0,none⟩ 2 2 [.int .i64 p,.int .i64 q] rfl rfl (cell_two_new _ _ _ _) (ints_oneCell .i64 [p,q]) (by unfold maxLen;omega) (by omega) (by have:=H1.out.2.size;simp at this⊢;omega) ?_;intro v2 w2 hown2 OT _));go_ret;refine⟨_,rfl,cH (base:=w.heap.size+1) ?_ (by omega),?_⟩
 ·have e:(ds++[p,q]).map (Value.int .i64)=[]++ds.map (Value.int .i64)++[.int .i64 p,.int .i64 q]:=by simp
  rw[e];exact hown2
 ·have hs1:=H1.out.2.size;have hl1:=H1.out.1.lt;refine(((K.out.2.2.1.grown H1.out.2 (by simp;omega) (fun k h=>by simp[Value.ownBlock] at h;omega)).alloc (by simp at hs1;omega) _).grown OT (by simp at hs1⊢;omega) (fun k h=>by have:=(hl1 k h).1;omega))
def fS(i:Nat):Int:=if i=13 then 140 else i
def gV(B:Int)(i:Nat)(x:Int):Bool:=cI x 2048&&(decide (x=0)||decide (fS i<B))
def iN(s:Int)(pts:List Int)(n:Nat):Bool:=(range n).all fun i=>gV ((s+511)/512) i (pts.getD i 0)
def cJ(s:Int)(ds:List Int)(p q:Int):Bool:=(decide (0≤s)&&decide (s≤262144))&&iN s (ds++[p,q]) 14
theorem Ep(s:Int)(pts:List Int)(n:Nat):iN s pts (n+1)=(iN s pts n&&gV ((s+511)/512) n (pts.getD n 0)):=by simp[iN,List.range_succ]
theorem Er(s:Int)(pts:List Int)(n k:Nat)(hk:k<n)(h:gV ((s+511)/512) k (pts.getD k 0)=false):iN s pts n=false:=by
 unfold iN;rw[List.all_eq_false];exact⟨k,by simpa using hk,by rw[h];simp⟩
theorem Es(s:Int)(k:Nat)(z L:Int)(hp:cI z 2048=true)(hL:fS k=L)(h:(z !=0)=false∨L<(s+512-1)/512):gV ((s+511)/512) k z=true:=by
 unfold gV;rw[hp,hL];have e:s+512-1=s+511:=by omega
 rw[e] at h;rcases h with h|h
 ·simp at h;simp[h]
 ·simp[h]
theorem Et(s:Int)(k:Nat)(z:Int)(hp:cI z 2048=true)(h:z=0):gV ((s+511)/512) k z=true:=by
 unfold gV;rw[hp];simp[h]
theorem okF(s:Int)(k:Nat)(z L:Int)(hL:fS k=L)(h:(z !=0)=true∧(s+512-1)/512≤L):gV ((s+511)/512) k z=false:=by
 unfold gV;have e:s+512-1=s+511:=by omega
 rw[e] at h;rw[hL];have h1:¬z=0:=by simpa using h.1
 have h2:¬L<(s+511)/512:=by omega
 simp[h1,h2]
theorem Eu(k:Nat):(((k:Int)==12)=true∧((k:Int)==13)=false∧fS k=12)∨(((k:Int)==12)=false∧((k:Int)==13)=true∧fS k=140)∨(((k:Int)==12)=false∧((k:Int)==13)=false∧fS k=(k:Int)):=by
 by_cases h12:k=12
 ·subst h12;exact .inl ⟨rfl,rfl,rfl⟩
 ·by_cases UP:k=13
  ·subst UP;exact .inr (.inl ⟨rfl,rfl,rfl⟩)
  ·refine .inr (.inr ⟨by simp;omega,by simp;omega,?_⟩);unfold fS;rw[if_neg UP]
theorem nP(s:Int)(ds:List Int)(p q:Int)(w:World)(hd:ds.length=12):
 Calls prog 32 #[.agg (an (aD s ds p q))] w fun e w'=>e=.returned (.bool (cJ s ds p q))∧Below w.heap.size w w':=by
 have HD:=aa hd;have hb0:Below w.heap.size w (w.alloc (.cells (an (aD s ds p q)) 31)):=ak.alloc aj _;have c0:(w.alloc (.cells (an (aD s ds p q)) 31)).cell? ⟨w.heap.size,0,none⟩=some (.int .i64 s):=by
  rw[(af.new w _ _).cell 0];rfl
 have HZ:=ae ((an (aD s ds p q)).size=15) (by rw[ct];exact dw s ds p q HD.out);clear hd;by_cases h1:0≤s
 ·by_cases h2:s≤262144
  ·have HR:=ae (cJ s ds p q=iN s (ds++[p,q]) 14) (by unfold cJ;simp[h1,h2]);have HL:=ae ((ds++[p,q]).length=14) (by simp[HD.out]);go_enter func32,ntmps32;go_wp2_with (first|(refine wpList_load_row rfl 31 _ rfl w.heap.size rfl 31 (an (aD s ds p q)) (0,0) _ (af.new w _ _) underlying31 rfl (by rw[HZ.out];exact dV) ?_)|(go_at_call 72;fail));refine(m3 s ds p q _ HD.out).mono ?_;rintro e w1 ⟨v1,rfl,o1,b1⟩;obtain⟨bd,off,cap,rfl,hbw,_,_,hcell⟩:=(Rd.own o1).dJ (by rw[HL.out];omega);rw[HL.out] at hcell⊢;have HB:=aa (hb0.trans (b1.mono hb0.size));generalize ds++[p,q]=pts at hcell HR;clear o1 b1 hb0 c0;go_wp2;go_loop [23] (fun i=>∃k:Nat,k≤14∧i=.int .i64 k∧iN s pts k=true) (fun i=>14-(intOf i).toNat)
   case atStart=>exact⟨0,by omega,rfl,rfl⟩
   case round=>
    obtain⟨k,hk,rfl,hall⟩:=hrel;have HA:=aa hall;clear hall;by_cases hlt:k<14
    ·have cz:=hcell k hlt;have HS:=ae (iN s pts (k+1)=(iN s pts k&&gV ((s+511)/512) k (pts.getD k 0))∧(gV ((s+511)/512) k (pts.getD k 0)=false→iN s pts 14=false)) (⟨Ep s pts k,Er s pts 14 k hlt⟩);clear hcell;generalize pts.getD k 0=z at cz HS;have hok:gV ((s+511)/512) k z=(cI z 2048&&(decide (z=0)||decide (fS k<(s+511)/512))):=rfl;cases hpt:cI z 2048 with
     |false=>
      have HF:=aa (HS.out.2 (by rw[hok,hpt];rfl));clear hok;go_wp2_with (go_at_call 73;refine(mq z _).mono ?_;rintro e w' ⟨rfl,rfl⟩;rw[hpt]);all_goals go_ret
      all_goals exact⟨bX (by rw[HR.out,HF.out]),HB.out⟩
     |true=>
      have HP:=aa hpt;clear hok;rcases Eu k with⟨e12,e13,hL⟩|⟨e12,e13,hL⟩|⟨e12,e13,hL⟩;all_goals
       have HLk:=aa hL;clear hL;go_wp2_with (go_at_call 73;refine(mq z _).mono ?_;rintro e w' ⟨rfl,rfl⟩;rw[hpt]);all_goals first
        |(
         have HF:=HS.out.2 (okF s k z _ HLk.out ‹_›);go_ret;exact⟨bX (by rw[HR.out,HF]),HB.out⟩)
        |(
         have hT:gV ((s+511)/512) k z=true:=(by first|exact Et s k z HP.out ‹_›|exact Es s k z _ HP.out HLk.out ‹_›);go_round
         case rel=>exact⟨k+1,by omega,by go_num,by rw[HS.out.1,HA.out,hT];rfl⟩
         case measure=>simp[intOf];omega)
    ·have e14:k=14:=(by omega);subst e14;go_wp2;go_ret;exact⟨bX (by rw[HR.out,HA.out]),HB.out⟩
  ·have HR:=ae (cJ s ds p q=false) (by unfold cJ;simp[h2]);go_enter func32,ntmps32;go_wp2;go_ret;exact⟨bX (by rw[HR.out]),hb0⟩
 ·have HR:=ae (cJ s ds p q=false) (by unfold cJ;simp[h1]);go_enter func32,ntmps32;go_wp2;go_ret;exact⟨bX (by rw[HR.out]),hb0⟩
def okW(v:Int):Bool:=decide (0≤v)&&decide (v≤4294967295)
def dA(ws:List Int):List Int:=ws.flatMap fun v=>le 4 v.toNat
def jA(ws:List Int):Bool:=decide (ws.length=128)&&ws.all okW
def eE(ws:List Int):List Int:=if jA ws=true then dA ws else []
def qK(ws:List Int):Int:=if jA ws=true then 0 else 7
theorem pF(ws:List Int):(dA ws).length=4*ws.length:=by
 unfold dA;induction ws with
 |nil=>rfl
 |cons v ws ih=>rw[List.flatMap_cons,List.length_append,ih,fR,List.length_cons];omega
theorem pG(ws:List Int)(k:Nat)(h:k<ws.length):dA (ws.take (k+1))=dA (ws.take k)++le 4 (ws.getD k 0).toNat:=by
 unfold dA;rw[List.take_succ_eq_append_getElem h,List.flatMap_append];simp[getD,h]
theorem Ev(ws:List Int)(k:Nat)(h:k<ws.length):(ws.take (k+1)).all okW=((ws.take k).all okW&&okW (ws.getD k 0)):=by
 rw[List.take_succ_eq_append_getElem h,List.all_append];simp[getD,h]
theorem kP{P:Program}(w:World){ops:Array Oper}{rest:List Oper}{o:Oper}{a:Act}{Q:Exit→Act→World→Prop}
 (hg:o.guard=none) (s x:Operand) (t:TypeId) (hop:o.op=Op.call {callee:=Callee.builtin Builtin.append,args:=#[s,x],argTypes:=#[t,t]})
 (base:Nat) (e:TypeId) (i:TypeInfo) (z:Value) (size bytes:Nat) (h1:P.underlying t=some (.slice e)) (h2:P.info? e=some i) (h3:i.zero=some z) (h4:i.size=size) (h5:i.bytes=bytes) (h6:z.cells.size=size) (h7:0<size)
 (v:Value) (n:Nat) (xs:List Value) (hs:a.eval s=v) (hown:w.ownsRow base e size v n xs)
 (ad:Addr) (m c:Nat) (news:List Value) (hx:a.eval x=.slice (some ad) m c) (hn:news.length=m*size) (hc:∀j u,news[j]?=some u→w.cell? (ad.add j)=some u) (h1c:∀u∈news,u.oneCell'=true)
 (hm:0<m) (b1:n+m≤maxLen) (b2:(n+m)*bytes≤140737488355328) (b3:base≤w.heap.size)
 (hK:∀v' w',w'.ownsRow base e size v' (n+m) (xs++news)→w.grownBy w' v.ownBlock→(∀k,v'.ownBlock=some k→v.ownBlock=some k∨w.heap.size≤k)→wpList P ops Q rest (a.put o.dst v') w'):
 wpList P ops Q (o::rest) a w:=by
 have weak:∀w',w.grownBy w' none→∀r,w.grownBy w' r:=fun w' h r=>⟨h.os,h.tape,h.output,h.size,fun k hk _=>h.block k hk (by simp)⟩;rcases hown.2 with⟨rfl,rfl⟩|⟨g,cap,cur,rfl,hb,hgr,hnc,hcm,hcs,htake⟩
 ·have hx0:xs=[]:=List.eq_nil_of_length_eq_zero (by simpa using hown.1);subst hx0;refine wpList_append_grows w hg s x t hop e i z size bytes h1 h2 h3 h4 h5 h6 h7 none 0 0 [] hs (fun _=>⟨rfl,rfl⟩) (by simp) (fun b h=>by cases h) ad m c news hx hn hc h1c (by omega) b1 b2 ?_;intro v' w' r1 r2;exact hK v' w' (cH r1 b3) (weak w' r2 _) (fun k hk=>.inr (r1.lt k hk).1)
 ·by_cases hroom:n+m≤cap
  ·refine wpList_append_fits w hg s x t hop base e i size h1 h2 h4 g n cap xs hs hown ad m c news hx hn hc h1c hroom ?_;intro w' r1 r2;exact hK _ w' r1 r2 (fun k hk=>.inl hk)
  ·refine wpList_append_grows w hg s x t hop e i z size bytes h1 h2 h3 h4 h5 h6 h7 (some ⟨g,0,none⟩) n cap xs hs (fun h=>by cases h) hown.1 (fun b h j u hj=>by cases h;exact hown.cells (g:=g) rfl j u hj) ad m c news hx hn hc h1c (by omega) b1 b2 ?_;intro v' w' r1 r2;exact hK v' w' (cH r1 b3) (weak w' r2 _) (fun k hk=>.inr (r1.lt k hk).1)
def dH(s:Int)(ds:List Int)(p q:Int):List Int:=le 8 s.toNat++dA (ds++[p,q])
theorem mu(s:Int)(ds:List Int)(p q:Int)(hd:ds.length=12):(dH s ds p q).length=64:=by
 unfold dH;rw[List.length_append,fR,pF];simp[hd]
theorem tG{s:Int}{ds:List Int}{p q:Int}(hd:ds.length=12)(h:cJ s ds p q=true):(0≤s∧s≤262144)∧∀z∈ds++[p,q],0≤z∧z<2048:=by
 unfold cJ at h;rw[Bool.and_eq_true,Bool.and_eq_true] at h;refine⟨⟨by simpa using h.1.1,by simpa using h.1.2⟩,fun z hz=>?_⟩;obtain⟨i,hi,rfl⟩:=List.getElem_of_mem hz;have h2:=h.2;unfold iN at h2;rw[List.all_eq_true] at h2;have h3:=h2 i (by simp at hi⊢;omega);unfold gV at h3;rw[Bool.and_eq_true] at h3;have h4:=h3.1;have e:(ds++[p,q]).getD i 0=(ds++[p,q])[i]:=by rw[getD,List.getElem?_eq_getElem hi,Option.getD_some]
 rw[e] at h4;unfold cI at h4;simp at h4;omega
theorem Ew(s:Int)(ds:List Int)(p q:Int)(w:World)(hd:ds.length=12)(hs:0≤s∧s≤262144)(hp:∀z∈ds++[p,q],0≤z∧z<2048):
 Calls prog 43 #[.agg (an (aD s ds p q))] w fun e w'=>∃v',e=.returned v'∧w'.ownsRow w.heap.size 5 1 v' 64 ((dH s ds p q).map (Value.int .u8))∧Below w.heap.size w w':=by
 obtain⟨i0,hi,hz0,hz1',hz2⟩:=info_parts eO;have HD:=aa hd;have HZ:=ae ((an (aD s ds p q)).size=15) (by rw[ct];exact dw s ds p q HD.out);have HL:=ae ((ds++[p,q]).length=14) (by simp[HD.out]);obtain⟨n,hn⟩:=Int.eq_ofNat_of_zero_le hs.1;have hn2:n≤262144:=by omega
 have HN:=aa hn;have HP:=aa hp;have c0:(w.alloc (.cells (an (aD s ds p q)) 31)).cell? ⟨w.heap.size,0,none⟩=some (.int .i64 (n:Int)):=by
  rw[(af.new w _ _).cell 0, ←hn];rfl
 have hb0:Below w.heap.size w (w.alloc (.cells (an (aD s ds p q)) 31)):=ak.alloc aj _;clear hd hs hn hp;go_enter func43,ntmps43;go_wp2_with fail;refine(jl n 8 _ (by omega) (by omega) (by omega)).mono ?_;rintro e w1 ⟨g1,X9,rfl,o1,b1⟩;rw[World.size_alloc] at o1;have hs1:w.heap.size+1≤w1.heap.size:=by have:=b1.size;simpa using this
 have K1:=aa (ai o1 (ai (hb0.trans (b1.mono hb0.size)) ((af.new w (an (aD s ds p q)) 31).below b1 (by simp))));clear o1 b1 hb0 c0;go_wp2_with (first|(refine wpList_load_row rfl 31 _ rfl w.heap.size rfl 31 (an (aD s ds p q)) (0,0) _ K1.out.2.2 underlying31 rfl (by rw[HZ.out];exact dV) ?_)|(go_at_call 72;fail));refine(m3 s ds p q _ HD.out).mono ?_;rintro e w2 ⟨v2,rfl,o2,b2⟩;obtain⟨bd,off,cap,rfl,hbw,_,_,hcell⟩:=(Rd.own o2).dJ (by rw[HL.out];omega);rw[HL.out] at hcell⊢;have HB:=aa (K1.out.2.1.trans (b2.mono K1.out.2.1.size));have hbd1:w.heap.size+1≤bd:=by have:=(o2.lt bd rfl).1;omega
 have HO:=aa (cC K1.out.1 b2);have HG:=ae (∀r,(Value.slice (some ⟨g1,0,none⟩) 8 X9).ownBlock=some r→r≠bd) (fun r hr=>by have h1:=(K1.out.1.lt r hr).2;have h2:=(o2.lt bd rfl).1;omega);have HQ:=ae (dH s ds p q=le 8 n++dA (ds++[p,q])) (by unfold dH;rw[HN.out];rfl);generalize ds++[p,q]=pts at hcell HP HL HQ;clear o2 b2 K1;go_wp2;go_loopw [3,12] (fun o i wr=>∃k:Nat,k≤14∧i=.int .i64 k∧bd<wr.heap.size∧(∀r,o.ownBlock=some r→r≠bd)∧(∀j,j<14→wr.cell? ⟨bd,off+j,none⟩=some (.int .i64 (pts.getD j 0)))∧wr.ownsRow (w.heap.size+1) 5 1 o (8+4*k) ((le 8 n++dA (pts.take k)).map (Value.int .u8))∧Below w.heap.size w wr) (fun _ i _=>14-(intOf i).toNat)
 case atStart=>exact⟨0,by omega,rfl,hbw,HG.out,hcell,by simpa [dA] using HO.out,HB.out⟩
 case round=>
  clear hcell hbw HO HB HG;obtain⟨k,hk,rfl,hbw,hne,hcell,hown,hb⟩:=hrel;have hsz:=hb.size;by_cases hlt:k<14
  ·have hkl:k<pts.length:=(by rw[HL.out];exact hlt);have c1:=hcell k hlt;have hz1:=HP.out (pts.getD k 0) (by simp[getD,hkl]);have HT:=aa (pG pts k hkl);have HC:=aa (ai hcell (ai hne (ai hown hb)));clear hcell hne hown hb hkl;generalize pts.getD k 0=z at c1 HT hz1;obtain⟨y,rfl⟩:=Int.eq_ofNat_of_zero_le hz1.1;obtain⟨_,hy2⟩:=hz1;have hy:y<2048:=(by omega);clear hy2;rw[Int.toNat_natCast] at HT;go_wp2_with fail;refine(jl y 4 _ (by omega) (by omega) (by omega)).mono ?_;rintro e w3 ⟨g3,SW,rfl,o3,b3⟩;have hs3:=b3.size;have hop:=cC HC.out.2.2.1 b3;clear c1;go_wp2_with (at_builtin;refine kP _ rfl (.tmp 16) (.tmp 18) 22 rfl (w.heap.size+1) 5 i0 (.int .u8 0) 1 1 underlying22 hi hz0 hz1' hz2 rfl (by decide) _ _ _ rfl hop ⟨g3,0,none⟩ 4 SW ((le 4 y).map (Value.int .u8)) rfl (by simp[fR]) (o3.cells rfl) (ints_oneCell _ _) (by omega) (by unfold maxLen;omega) (by omega) (by omega) ?_;intro v4 w4 o4 g4 f4);have HW:=ae (bd<w4.heap.size∧(∀r,v4.ownBlock=some r→r≠bd)∧(∀j,j<14→w4.cell? ⟨bd,off+j,none⟩=some (.int .i64 (pts.getD j 0)))∧w4.ownsRow (w.heap.size+1) 5 1 v4 (8+4*(k+1)) ((le 8 n++dA (pts.take (k+1))).map (Value.int .u8))∧Below w.heap.size w w4) (by
    have hs4:=g4.size;refine⟨by omega,?_,?_,?_,?_⟩
    ·intro r hr;rcases f4 r hr with h|h
     ·exact HC.out.2.1 r h
     ·omega
    ·intro j hj;have h3:=(b3.cell (p:=⟨bd,off+j,none⟩) hbw).trans (HC.out.1 j hj);exact g4.cell h3 (fun e=>HC.out.2.1 bd e.symm rfl)
    ·rw[HT.out, ←List.append_assoc,List.map_append,show 8+4*(k+1)=8+4*k+4 by omega];exact o4
    ·exact(HC.out.2.2.2.trans (b3.mono hsz)).grown g4 (by omega) (fun r h=>by have:=(hop.lt r h).1;omega))
   clear o3 b3 hop o4 g4 f4;go_roundw
   case rel=>exact⟨k+1,by omega,by go_num,HW.out.1,HW.out.2.1,HW.out.2.2.1,HW.out.2.2.2.1,HW.out.2.2.2.2⟩
   case measure=>simp[intOf];omega
  ·have e14:k=14:=(by omega);subst e14;have HC:=aa (ai hown hb);clear hcell hne hown hb;go_wp2;go_ret;refine⟨_,rfl,?_,HC.out.2⟩;have ho:=HC.out.1;rw[List.take_of_length_le (by rw[HL.out];omega), ←HQ.out] at ho;exact cH ho (by omega)
end
end Go.Proofs.YtpplnhkpcpieoaaGreatDoor
