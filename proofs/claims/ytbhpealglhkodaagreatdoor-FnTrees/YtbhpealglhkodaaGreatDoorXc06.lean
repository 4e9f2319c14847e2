/- The model's number of at most eight bytes: l02Get -/
import Derived.Test.YtbhpealglhkodaaGreatDoorXc05
import Derived.Laws.Tables
import Derived.Deep.DeepCutAuto
import Derived.RangeFuncNested
import Derived.RangeFuncBound
import Derived.RangeFuncCalls
import Derived.RangeFuncLeaves
namespace Go.Proofs.YtbhpealglhkodaaGreatDoor
set_option linter.all false
set_option maxRecDepth 100000
set_option maxHeartbeats 16000000
section
open Go.RowKit
def gval(ts:List Int):Nat:=if 70368744177664≤unle ts/256 then 4611686018427387904 else unle ts
theorem unle_drop(ts:List Int)(j:Nat)(h:j<ts.length):unle (ts.drop j)=(ts.getD j 0).toNat+256*unle (ts.drop (j+1)):=by
 rw[List.drop_eq_getElem_cons h,unle];simp[List.getD,h]
theorem unle_ge(ts:List Int):∀j,1≤j→j≤ts.length→256*unle (ts.drop j)≤unle ts
 |0,h,_=>by omega
 |1,_,h2=>by
  have h:=unle_drop ts 0 (by omega);rw[List.drop_zero,Nat.zero_add] at h;rw[h];omega
 |j+2,_,h2=>by
  have h:=unle_drop ts (j+1) (by omega);have ih:=unle_ge ts (j+1) (by omega) (by omega);have e:j+1+1=j+2:=rfl;rw[e] at h;omega
theorem gval_big(ts:List Int)(j:Nat)(h1:1≤j)(h2:j≤ts.length)(h:70368744177664≤unle (ts.drop j)):gval ts=4611686018427387904:=by
 have:=unle_ge ts j h1 h2;unfold gval;rw[if_pos (by omega)]
theorem gval_small(ts:List Int)(h:unle ts<18014398509481984):gval ts=unle ts:=by
 unfold gval;rw[if_neg (by omega)]
theorem get_any(v:Value)(ts:List Int)(w:World)(h:Rd .u8 w v ts)(hl:ts.length≤8)(hbd:∀z∈ts,0≤z∧z<256):
 Calls Tryz.prog 115 #[v] w fun e w'=>e=.returned (.int .i64 (gval ts))∧w=w':=by
 have HB:=hide hbd;clear hbd;rcases h.parts with⟨a,cap,rfl,hlow⟩|⟨b,off,cap,rfl,hbw,hcell⟩;all_goals
  clear h;go_enter Tryz.func115,Tryz.ntmps115;go_wp2;go_loop [3,4] (fun x i=>∃j q:Nat,j≤ts.length∧i=.int .i64 ((j:Int)-1)∧x=.int .i64 q∧q=unle (ts.drop j)∧q<18014398509481984) (fun _ i=>(intOf i+1).toNat)
  case atStart=>exact⟨ts.length,0,by omega,rfl,rfl,by simp[unle],by omega⟩
  case round=>
   obtain⟨j,q,hj,rfl,rfl,hq,hql⟩:=hrel;have HQ:=hide hq;have HQL:=hide hql;clear hq hql;by_cases hlt:1≤j
   ·obtain⟨i,rfl⟩:∃i,j=i+1:=⟨j-1,by omega⟩;by_cases hbig:(70368744177664:Int)≤(q:Int)
    ·first
     |(exfalso;omega)
     |(
      have HG:=hide (gval_big ts (i+1) hlt hj (by rw[←HQ.out];omega));clear hcell;have e1:(((i+1:Nat):Int)-1)=(i:Int):=(by omega);rw[e1];clear e1;go_wp2;go_ret;exact⟨ret_int (by rw[HG.out];rfl),rfl⟩)
    ·first
     |(exfalso;omega)
     |(
      have e1:(((i+1:Nat):Int)-1)=(i:Int):=(by omega);rw[e1];have c1:=hcell i (by omega);have hz1:=HB.out (ts.getD i 0) (by simp[List.getD,show i<ts.length by omega]);have HT:=hide (unle_drop ts i (by omega));clear hcell e1;generalize ts.getD i 0=z at c1 HT hz1;obtain⟨c,rfl⟩:=Int.eq_ofNat_of_zero_le hz1.1;obtain⟨_,hc2⟩:=hz1;have hc:c<256:=(by omega);clear hc2;rw[Int.toNat_natCast] at HT;go_wp2;go_round
      case rel=>exact⟨i,c+256*q,by omega,by go_num,by go_num,by rw[HT.out,HQ.out],by omega⟩
      case measure=>first|(simp[intOf];done)|(simp[intOf];omega))
   ·have hj0:j=0:=(by omega);subst hj0;have HG:=hide (show gval ts=q from by
     have h1:=HQ.out;rw[List.drop_zero] at h1;have h2:=HQL.out;rw[gval_small ts (by omega), ←h1])
    go_wp2;go_ret;exact⟨ret_int (by rw[HG.out]),rfl⟩
def wordAt(bs:List Int)(i:Nat):Int:=(unle ((bs.drop (4*i)).take 4):Nat)
def decTo(bs:List Int)(n:Nat):List Int:=(List.range n).map (wordAt bs)
def decW(bs:List Int):List Int:=if bs.length=512 then decTo bs 128 else []
def codeD(bs:List Int):Int:=if bs.length=512 then 0 else 21
theorem decTo_len(bs:List Int)(n:Nat):(decTo bs n).length=n:=by simp[decTo]
theorem decTo_succ(bs:List Int)(n:Nat):decTo bs (n+1)=decTo bs n++[wordAt bs n]:=by simp[decTo,List.range_succ]
theorem take4_lt(bs:List Int)(i:Nat)(h:∀z∈bs,0≤z∧z<256):unle ((bs.drop (4*i)).take 4)<4294967296:=by
 have h1:=unle_lt ((bs.drop (4*i)).take 4) (fun z hz=>h z (List.mem_of_mem_drop (List.mem_of_mem_take hz)));have h2:((bs.drop (4*i)).take 4).length≤4:=by simp;omega
 have h3:(256:Nat)^((bs.drop (4*i)).take 4).length≤256^4:=Nat.pow_le_pow_right (by decide) h2;have h4:(256:Nat)^4=4294967296:=by decide
 omega
theorem one_i64(z:Int):∀u∈[Value.int .i64 z],u.oneCell'=true:=by
 intro u hu;rw[List.mem_singleton] at hu;subst hu;rfl
theorem specD_any(v:Value)(bs:List Int)(w:World)(h:Rd .u8 w v bs)(hbd:∀z∈bs,0≤z∧z<256):
 Calls Tryz.prog 100 #[v] w fun e w'=>∃v',e=.returned (.tuple #[v',.int .i64 (codeD bs)])∧w'.ownsRow w.heap.size 3 1 v' (decW bs).length ((decW bs).map (Value.int .i64))∧Below w.heap.size w w':=by
 obtain⟨i0,hi,hz0,hz1,hz2⟩:=info_parts infoI64;have hm:=h.len;unfold maxLen at hm;have HB:=hide hbd;clear hbd;by_cases hlen:bs.length=512
 ·obtain⟨b,off,cap,rfl,hbw,hcl,hcm,hcell⟩:=h.partsC (by omega);unfold maxLen at hcm;have h0:=own_empty w 3;have hb0:Below w.heap.size w (w.alloc (.cells #[] 3)):=(Below.refl _ _).alloc (Nat.le_refl _) _;have HN:=hide hlen;have HR:=hide h;have HD:=hide (show codeD bs=0∧decW bs=decTo bs 128 from by simp[codeD,decW,hlen]);rw[hlen] at hcell hcl⊢;clear h hlen hm hcell;go_enter Tryz.func100,Tryz.ntmps100;go_wp2;go_loopw [4,5] (fun o i wr=>∃k p:Nat,k≤128∧p=4*k∧i=.int .i64 p∧wr.ownsRow w.heap.size 3 1 o k ((decTo bs k).map (Value.int .i64))∧Below w.heap.size w wr) (fun _ i _=>512-(intOf i).toNat)
  case atStart=>exact⟨0,0,by omega,rfl,rfl,by simpa [decTo] using h0,hb0⟩
  case round=>
   clear h0 hb0;obtain⟨k,p,hk,hp,rfl,hown,hb⟩:=hrel;have hsz:=hb.size;have HP:=hide hp;have hp2:p≤4*k:=(by omega);have hp3:4*k≤p:=(by omega);clear hp;by_cases hlt:p<512
   ·have HC:=hide (show Rd .u8 wr (.slice (some ⟨b,off+p,none⟩) 4 (cap-p)) ((bs.drop p).take 4) from(Rd.cut2 p 4 HR.out (by omega) (by rw[HN.out];omega)).below hb);have HL:=hide (show gval ((bs.drop p).take 4)=unle ((bs.drop (4*k)).take 4)∧unle ((bs.drop (4*k)).take 4)<4294967296 from by
     have h1:=take4_lt bs k HB.out;refine⟨?_,h1⟩;rw[HP.out,gval_small _ (by omega)])
    have HS:=hide (decTo_succ bs k);have HO:=hide hown;have hsub:p+4-p=4:=(by omega);clear hown;go_wp2_with fail;refine(get_any _ ((bs.drop p).take 4) _ (by first|exact HC.out|(rw[hsub];exact HC.out)) (by simp;omega) (fun z hz=>HB.out z (List.mem_of_mem_drop (List.mem_of_mem_take hz)))).mono ?_;rintro e w1 ⟨rfl,rfl⟩;rw[HL.out.1];generalize hy:unle ((bs.drop (4*k)).take 4)=y at HL;have HY:=hide hy;clear hy;go_wp2_with (at_builtin;refine wpList_append_own _ rfl (.tmp 14) (.tmp 21) 26 rfl w.heap.size 3 i0 (.int .i64 0) 1 8 Tryz.underlying26 hi hz0 hz1 hz2 rfl (by decide) _ _ _ rfl (HO.out.alloc _) ⟨wr.heap.size,0,none⟩ 1 1 [.int .i64 (y:Int)] rfl rfl (cell_one_new _ _ _) (one_i64 _) (by unfold maxLen;omega) (by omega) (by simp;omega) ?_;intro v1 w1 hown1 hgr1 _);have HW:=hide (show w1.ownsRow w.heap.size 3 1 v1 (k+1) ((decTo bs (k+1)).map (Value.int .i64))∧Below w.heap.size w w1 from by
     refine⟨?_,(hb.alloc hsz _).grown hgr1 (by simp;omega) (fun r h=>(HO.out.lt r h).1)⟩;rw[HS.out,List.map_append,show wordAt bs k=(y:Int) from by rw[←HY.out];rfl];exact hown1)
    clear hown1 hgr1 hb HO;go_roundw
    case rel=>exact⟨k+1,p+4,by omega,by omega,by go_num,HW.out.1,HW.out.2⟩
    case measure=>simp[intOf];omega
   ·have hk8:k=128:=(by omega);subst hk8;have HO:=hide hown;clear hown;go_wp2;go_ret2;refine⟨_,by rw[HD.out.1];rfl,?_,hb⟩;rw[HD.out.2,decTo_len];exact HO.out
 ·obtain⟨a,cap,rfl,_,_⟩:=h;have hq:((bs.length:Int)==512)=false:=by simp;omega
  have HG:=hide (show codeD bs=21∧decW bs=[] from by simp[codeD,decW,hlen]);clear hlen;go_enter Tryz.func100,Tryz.ntmps100;go_wp2;go_ret2;exact⟨_,by rw[HG.out.1];rfl,by rw[HG.out.2];exact World.ownsRow_nil _ _ _ _,Below.refl _ _⟩
theorem set_dec(bs:List Int)(k n:Nat)(h:k<n)(z:Value)(hz:z=.int .i64 (wordAt bs k)):
 ((decTo bs k).map (Value.int .i64)++List.replicate (n-k) (Value.int .i64 0)).set k z=(decTo bs (k+1)).map (Value.int .i64)++List.replicate (n-(k+1)) (Value.int .i64 0):=by
 subst hz;have e:(decTo bs k).map (Value.int .i64)=((decTo bs n).map (Value.int .i64)).take k:=by
  rw[←List.map_take];congr 1;simp[decTo, ←List.map_take,List.take_range,Nat.min_eq_left (Nat.le_of_lt h)]
 have e2:(decTo bs (k+1)).map (Value.int .i64)=((decTo bs n).map (Value.int .i64)).take (k+1):=by
  rw[←List.map_take];congr 1;simp[decTo, ←List.map_take,List.take_range,Nat.min_eq_left (show k+1≤n by omega)]
 rw[e,e2];exact set_fill _ _ _ k n h (by simp[decTo]) (by simp[decTo,h])
theorem or_add8(a b:Nat)(ha:a<256):a|||(b*256)=a+b*256:=by
 rw[Nat.or_comm,Nat.add_comm];have:=Nat.two_pow_add_eq_or_of_lt (i:=8) (b:=a) (by omega) b;rw[show 2^8*b=b*256 by omega] at this;exact this.symm
theorem or_add16(a b:Nat)(ha:a<65536):a|||(b*65536)=a+b*65536:=by
 rw[Nat.or_comm,Nat.add_comm];have:=Nat.two_pow_add_eq_or_of_lt (i:=16) (b:=a) (by omega) b;rw[show 2^16*b=b*65536 by omega] at this;exact this.symm
theorem or_add24(a b:Nat)(ha:a<16777216):a|||(b*16777216)=a+b*16777216:=by
 rw[Nat.or_comm,Nat.add_comm];have:=Nat.two_pow_add_eq_or_of_lt (i:=24) (b:=a) (by omega) b;rw[show 2^24*b=b*16777216 by omega] at this;exact this.symm
theorem or_natW(a b:Nat)(ha:a<4294967296)(hb:b<4294967296):bits .or .i64 (a:Int) (b:Int)=((a|||b:Nat):Int):=by
 show IntKind.i64.wrap ((BitVec.ofInt 64 (a:Int)|||BitVec.ofInt 64 (b:Int)).toNat:Int)=_;have e1:(BitVec.ofInt 64 (a:Int)).toNat=a:=by simp;omega
 have e2:(BitVec.ofInt 64 (b:Int)).toNat=b:=by simp;omega
 rw[BitVec.toNat_or,e1,e2];have:a|||b<2^32:=Nat.or_lt_two_pow ha hb
 generalize a|||b=y at this
 simp[IntKind.wrap,IntKind.bits,IntKind.signed];omega
theorem or4W(x0 x1 x2 x3:Nat)(h0:x0<256)(h1:x1<256)(h2:x2<256)(h3:x3<256):bits .or .i64 (bits .or .i64 (bits .or .i64 (x0:Int) ((x1:Int)*256)) ((x2:Int)*65536)) ((x3:Int)*16777216)=((x0+256*(x1+256*(x2+256*x3)):Nat):Int):=by
 rw[show(x1:Int)*256=((x1*256:Nat):Int) by omega,or_natW _ _ (by omega) (by omega),or_add8 _ _ h0];rw[show(x2:Int)*65536=((x2*65536:Nat):Int) by omega,or_natW _ _ (by omega) (by omega),or_add16 _ _ (by omega)];rw[show(x3:Int)*16777216=((x3*16777216:Nat):Int) by omega,or_natW _ _ (by omega) (by omega),or_add24 _ _ (by omega)];omega
theorem unle4(a b c d:Int):unle [a,b,c,d]=a.toNat+256*(b.toNat+256*(c.toNat+256*d.toNat)):=by simp[unle]
theorem four_of(bs:List Int)(k:Nat)(h:4*k+4≤bs.length):((bs.drop (4*k)).take 4)=[bs.getD (4*k) 0,bs.getD (4*k+1) 0,bs.getD (4*k+2) 0,bs.getD (4*k+3) 0]:=by
 apply List.ext_getElem (by simp;omega);intro j hj hj';simp at hj hj';rw[List.getElem_take,List.getElem_drop];have e:∀i,i<bs.length→bs.getD i 0=bs[i]!:=fun i hi=>by simp[List.getD,hi]
 match j,hj' with
 |0,_=>simp[List.getD,show 4*k<bs.length by omega]
 |1,_=>simp[List.getD,show 4*k+1<bs.length by omega]
 |2,_=>simp[List.getD,show 4*k+2<bs.length by omega]
 |3,_=>simp[List.getD,show 4*k+3<bs.length by omega]
 |n+4,h=>omega
theorem slice_pieceW{w0:World}{a:Option Addr}{len cap:Nat}{zs:List Int}(h:Rd .u8 w0 (.slice a len cap) zs)(lo hi:Nat)(h1:lo≤hi)(h2:hi≤zs.length):
 ∃a' c',Rd .u8 w0 (.slice a' (hi-lo) c') ((zs.drop lo).take (hi-lo))∧∀wx,(Instr.slice 22 (.slice a len cap) (some (.int .i64 (lo:Int))) (some (.int .i64 (hi:Int))) none).run Tryz.prog wx=.ok (.slice a' (hi-lo) c') wx:=by
 obtain⟨i0,hi0,hz0,hz1,hz2⟩:=info_parts infoU8;obtain⟨a0,cap0,e,hm,hc,hl,hcm⟩:=h;injection e with e1 e2 e3;subst e1 e2 e3;have hlen:((zs.drop lo).take (hi-lo)).length=hi-lo:=by rw[List.length_take,List.length_drop];omega
 have hrun:∀wx,(Instr.slice 22 (.slice a zs.length cap) (some (.int .i64 (lo:Int))) (some (.int .i64 (hi:Int))) none).run Tryz.prog wx=.ok (sliced a lo hi cap 1) wx:=fun wx=>by
  rw[run_slice_lh (P:=Tryz.prog) (w:=wx) 22 a zs.length cap (by rw[Tryz.underlying22];rfl) .i64 .i64 (lo:Int) (hi:Int) (by omega) (by omega) (by omega)];simp[sizeOf,typeInfo,show Tryz.prog.elem 22=5 from by kernel_rfl,hi0,hz1,Result.andThen]
 refine⟨_,_,?_,hrun⟩;refine⟨_,_,by rw[hlen],by omega,fun hne=>?_,by rw[hlen];omega,by omega⟩;have hp:lo<zs.length:=by
  rcases Nat.lt_or_ge lo zs.length with h|h
  ·exact h
  ·exact absurd (by rw[List.drop_eq_nil_of_le h];simp) hne
 obtain⟨b,off,rfl,hb,hcell⟩:=hc (fun e=>by rw[e] at hp;simp at hp);refine⟨b,off+lo,?_,hb,fun i hi2=>?_⟩
 ·rw[if_neg (by omega),Option.map_some,Nat.mul_one,Addr.add_mid]
 ·rw[hlen] at hi2;rw[Nat.add_assoc,hcell (lo+i) (by omega)];simp[List.getD,hi2]
theorem slice_pieceWL{w0:World}{a:Option Addr}{len cap:Nat}{zs:List Int}(h:Rd .u8 w0 (.slice a len cap) zs)(lo:Nat)(h2:lo≤zs.length):
 ∃a' c',Rd .u8 w0 (.slice a' (zs.length-lo) c') (zs.drop lo)∧∀wx,(Instr.slice 22 (.slice a len cap) (some (.int .i64 (lo:Int))) none none).run Tryz.prog wx=.ok (.slice a' (zs.length-lo) c') wx:=by
 obtain⟨a',c',hr,hrun⟩:=slice_pieceW h lo zs.length h2 (Nat.le_refl _);have hl:len=zs.length:=by obtain⟨_,_,e,_⟩:=h;injection e
 obtain⟨_,_,e0,_,_,hl2,hcm⟩:=h;injection e0 with e1 e2 e3;subst e3;rw[List.take_of_length_le (by rw[List.length_drop];omega)] at hr;refine⟨a',c',hr,fun wx=>?_⟩;rw[←hrun wx,run_slice_l (P:=Tryz.prog) (w:=wx) 22 a len cap (by rw[Tryz.underlying22];rfl) .i64 (lo:Int) (by omega) (by omega),run_slice_lh (P:=Tryz.prog) (w:=wx) 22 a len cap (by rw[Tryz.underlying22];rfl) .i64 .i64 (lo:Int) (zs.length:Int) (by omega) (by omega) (by omega)];rw[Int.toNat_natCast,hl,Int.toNat_natCast]
theorem infoA4:(Tryz.prog.info? 199).map (·.size)=some 4:=by kernel_rfl
theorem wordsOf_any(v:Value)(bs:List Int)(n:Nat)(w:World)(h:Rd .u8 w v bs)(hbd:∀z∈bs,0≤z∧z<256)(hn:bs.length=4*n)(hn2:n≤4096):
 Calls Tryz.prog 110 #[v] w fun e w'=>∃v',e=.returned v'∧w'.ownsRow w.heap.size 3 1 v' n ((decTo bs n).map (Value.int .i64))∧Below w.heap.size w w':=by
 obtain⟨i0,hi,hz0,hz1,hz2⟩:=info_parts infoI64;have hm:=h.len;unfold maxLen at hm;have HB:=hide hbd;have HR:=hide h;have HN:=hide hn;have HL:=hide (show(bs.length:Int)/4=(n:Int) from by omega);clear hbd;obtain⟨a,cap,rfl,_⟩:=h;generalize hbl:bs.length=bl at*;have HBL:=hide hbl;have hbl2:bl≤16384:=by omega
 clear hbl hn;go_enter Tryz.func110,Tryz.ntmps110;go_wp2_with (refine wpList_make_full _ rfl _ _ 26 rfl w.heap.size 3 i0 (.int .i64 0) 1 Tryz.underlying26 hi hz0 hz1 .i64 .i64 n n n (by rw[←HL.out];rfl) (by rw[←HL.out];rfl) rfl rfl (by rw[hz2];omega) (by unfold maxLen;omega) (Nat.le_refl _) ?_;intro w3 hown3 hgr3;rw[made_one _ _ rfl] at hown3);have hb3:Below w.heap.size w w3:=(Below.refl _ _).grown hgr3 (Nat.le_refl _) (fun k e=>by cases e);go_loopw [12] (fun i wr=>∃k:Nat,k≤n∧i=.int .i64 k∧Below w.heap.size w wr∧wr.ownsRow w.heap.size 3 1 (.slice (some ⟨w.heap.size,0,none⟩) n n) n ((decTo bs k).map (Value.int .i64)++List.replicate (n-k) (.int .i64 0))) (fun i _=>n-(intOf i).toNat)
 case atStart=>exact⟨0,by omega,rfl,hb3,by simpa [decTo] using hown3⟩
 case round=>
  clear hown3 hgr3 hb3;obtain⟨k,hk,rfl,hb,hown⟩:=hrel;by_cases hk8:k<n
  ·have hk4:4*k+4≤bs.length:=(by rw[HBL.out,HN.out];omega);obtain⟨sa,sc,hsr,hsl⟩:=slice_pieceWL HR.out (4*k) (by omega);have hF:=four_of bs k hk4;obtain⟨b2,off2,c2,hsv,hb2,_,_,hcell⟩:=hsr.partsC (by rw[List.length_drop];omega);injection hsv with e1 e2 e3;subst e1;subst e3;have cellj:∀j,j<4→w.cell? ⟨b2,off2+j,none⟩=some (.int .u8 (bs.getD (4*k+j) 0)):=fun j hj=>by
    rw[hcell j (by rw[List.length_drop];omega)];simp[List.getD,List.getElem?_drop]
   have hbx:∀j,j<4→∃x:Nat,bs.getD (4*k+j) 0=(x:Int)∧x<256:=fun j hj=>by
    have hl:4*k+j<bs.length:=(by omega);have:=HB.out _ (List.getElem_mem hl);exact⟨(bs.getD (4*k+j) 0).toNat,by simp[List.getD,hl];omega,by simp[List.getD,hl];omega⟩
   obtain⟨x0,hx0,l0⟩:=hbx 0 (by omega);obtain⟨x1,hx1,l1⟩:=hbx 1 (by omega);obtain⟨x2,hx2,l2⟩:=hbx 2 (by omega);obtain⟨x3,hx3,l3⟩:=hbx 3 (by omega);have HW:=hide (show wordAt bs k=((x0+256*(x1+256*(x2+256*x3)):Nat):Int) from by
    unfold wordAt;rw[hF,unle4,show bs.getD (4*k) 0=(x0:Int) from hx0,hx1,hx2,hx3];simp only[Int.toNat_natCast])
   have HRg:=hide (show wr.rangeAt b2 off2 [.int .u8 (x0:Int),.int .u8 (x1:Int),.int .u8 (x2:Int),.int .u8 (x3:Int)] from by
    intro j y hj;rw[hb.cell (p:=⟨b2,off2+j,none⟩) hb2];match j,hj with
    |0,hj=>rw[cellj 0 (by omega),hx0];simpa using hj
    |1,hj=>rw[cellj 1 (by omega),hx1];simpa using hj
    |2,hj=>rw[cellj 2 (by omega),hx2];simpa using hj
    |3,hj=>rw[cellj 3 (by omega),hx3];simpa using hj
    |n+4,hj=>simp at hj)
   have harr:∀(wx:World),(Instr.arrayAt 199 (.slice (some ⟨b2,off2,none⟩) (bs.length-4*k) sc)).run Tryz.prog wx=.ok (.pointer (some ⟨b2,off2,none⟩)) wx:=fun wx=>run_arrayAt (w:=wx) 199 5 4 _ _ _ Tryz.underlying199 (by omega);rw[HBL.out] at hsl harr;have hsl2:∀(wx:World),(Instr.slice 22 (.slice a bl cap) (some (.int .i64 ((k:Int)*4))) none none).run Tryz.prog wx=.ok (.slice (some ⟨b2,off2,none⟩) (bl-4*k) sc) wx:=fun wx=>by
    have:=hsl wx;rw[show((4*k:Nat):Int)=(k:Int)*4 by omega] at this;exact this
   obtain⟨W3,hW3⟩:∃W3,W3=(wr.alloc (.cells #[.int .u8 0,.int .u8 0,.int .u8 0,.int .u8 0] 199)).setRow wr.heap.size #[.int .u8 (x0:Int),.int .u8 (x1:Int),.int .u8 (x2:Int),.int .u8 (x3:Int)]:=⟨_,rfl⟩;have B3:=hide (show Below wr.heap.size wr W3 from by rw[hW3];exact below_setRow ((Below.refl _ _).alloc (Nat.le_refl _) _) (Nat.le_refl _) _);have K3:=hide (show Blk W3 wr.heap.size #[.int .u8 (x0:Int),.int .u8 (x1:Int),.int .u8 (x2:Int),.int .u8 (x3:Int)] 199 from by rw[hW3];exact(Blk.new wr _ 199).row _);have KN:=hide (Blk.new wr #[.int .u8 0,.int .u8 0,.int .u8 0,.int .u8 0] 199);have cb0:=(K3.out.cell 0).trans (show _=some (.int .u8 (x0:Int)) from rfl);have cb1:=(K3.out.cell 1).trans (show _=some (.int .u8 (x1:Int)) from rfl);have cb2:=(K3.out.cell 2).trans (show _=some (.int .u8 (x2:Int)) from rfl);have cb3:=(K3.out.cell 3).trans (show _=some (.int .u8 (x3:Int)) from rfl);have ho4:=own_below hown B3.out;have hst:=ho4.stored k (.int .i64 ((x0+256*(x1+256*(x2+256*x3)):Nat):Int));have hfr:=ho4.frozenAt k;obtain⟨old,hco⟩:∃u,W3.cell? ⟨w.heap.size,k,none⟩=some u:=by
    rw[ho4.cellAt k (by omega)];exact⟨_,List.getElem?_eq_getElem (by simp[decTo_len];omega)⟩
   have hor:=or4W x0 x1 x2 x3 l0 l1 l2 l3;have HX:=hide (show Below w.heap.size w (W3.setCell ⟨w.heap.size,k,none⟩ (.int .i64 ((x0+256*(x1+256*(x2+256*x3)):Nat):Int)))∧(W3.setCell ⟨w.heap.size,k,none⟩ (.int .i64 ((x0+256*(x1+256*(x2+256*x3)):Nat):Int))).ownsRow w.heap.size 3 1 (.slice (some ⟨w.heap.size,0,none⟩) n n) n ((decTo bs (k+1)).map (Value.int .i64)++List.replicate (n-(k+1)) (.int .i64 0)) from by
    refine⟨(hb.trans (B3.out.mono hb.size)).setCell (p:=⟨w.heap.size,k,none⟩) (Nat.le_refl _) _,?_⟩;rw[←set_dec bs k n hk8 _ (by rw[HW.out])];exact hst.1)
   have HW3:=hide hW3;clear hW3 hst ho4 hown hsl hsr hcell cellj hbx hF hx0 hx1 hx2 hx3 hb;go_upto_region 6 with(first
    |(refine wpList_load_mid rfl 199 _ rfl b2 off2 rfl [.int .u8 (x0:Int),.int .u8 (x1:Int),.int .u8 (x2:Int),.int .u8 (x3:Int)] _ HRg.out Tryz.underlying199 rfl infoA4 ?_)
    |(refine wpList_store_row rfl 199 _ _ rfl wr.heap.size #[.int .u8 (x0:Int),.int .u8 (x1:Int),.int .u8 (x2:Int),.int .u8 (x3:Int)] rfl rfl 199 #[.int .u8 0,.int .u8 0,.int .u8 0,.int .u8 0] KN.out infoA4 rfl (by simp[Value.oneCell']) ?_)
    |fail)
   rw[←HW3.out];go_wp2;go_roundw
   case rel=>exact⟨k+1,by omega,by go_num,HX.out.1,HX.out.2⟩
   case measure=>simp[intOf];omega
  ·have e8:k=n:=(by omega);subst e8;go_wp2;go_ret;refine⟨_,rfl,?_,hb⟩;rw[Nat.sub_self,List.replicate_zero,List.append_nil] at hown;exact hown
theorem rd_shapeT{k:IntKind}{w:World}{v:Value}{zs:List Int}(h:Rd k w v zs):∃a cap,v=.slice a zs.length cap:=by
 rcases h.parts with⟨a,cap,e,_⟩|⟨b,off,cap,e,_⟩
 ·exact⟨a,cap,e⟩
 ·exact⟨_,cap,e⟩
def blkP(zs:List Int)(p:Int):List Int:=(zs.drop (p.toNat*512)).take 512
def wrdP(zs:List Int)(p:Int)(k:Nat):Int:=wordAt (blkP zs p) k
theorem wrd_row(zs:List Int)(p:Int)(hl:(blkP zs p).length=512):decW (blkP zs p)=(List.range 128).map (wrdP zs p):=by
 unfold decW decTo;rw[if_pos hl];rfl
theorem good_pos{n:Nat}{p:Int}(h:goodP n p=true)(h0:p≠0):2≤p∧p<(n:Int):=by
 unfold goodP at h;simp[h0] at h;exact h
theorem good_any(v:Value)(zs:List Int)(p:Int)(w:World)(h:Rd .u8 w v zs)(h1:zs.length≤1048576):
 Calls Tryz.prog 72 #[v,.int .i64 p] w fun e w'=>e=.returned (.bool (goodP (zs.length/512) p))∧w'=w:=by
 obtain⟨a,cap,rfl⟩:=rd_shapeT h;clear h;obtain⟨n,hn⟩:∃n:Nat,(zs.length:Int)/512=(n:Int):=⟨zs.length/512,by omega⟩;have HN:=hide (show zs.length/512=n by omega);by_cases h0:p=0
 ·subst h0;go_enter Tryz.func72,Tryz.ntmps72;go_wp2;go_ret;exact⟨by rw[good_zero];rfl,rfl⟩
 ·by_cases h2:2≤p
  ·by_cases h3:p<(n:Int)
   ·go_enter Tryz.func72,Tryz.ntmps72;go_wp2;go_ret;exact⟨by rw[HN.out];unfold goodP;simp[h0,h2,h3],rfl⟩
   ·go_enter Tryz.func72,Tryz.ntmps72;go_wp2;go_ret;exact⟨by rw[HN.out];unfold goodP;simp[h0,h2,h3],rfl⟩
  ·have hb:(p==0)=false:=(by simp[h0]);have h5:¬(2≤p):=h2;have HF:=hide (show goodP (zs.length/512) p=false by unfold goodP;rw[decide_eq_false h5];simp[h0]);go_enter Tryz.func72,Tryz.ntmps72;go_wp2;go_ret;exact⟨by rw[HF.out];rfl,rfl⟩
theorem count3_any(s:Nat)(w:World)(hs:s≤1099511627776):
 Calls Tryz.prog 57 #[.int .i64 (s:Int)] w fun e w'=>e=.returned (.int .i64 (((s+511)/512:Nat):Int))∧w'=w:=by
 obtain⟨n,hn⟩:∃n:Nat,(s+511)/512=n:=⟨_,rfl⟩;have hn2:((s:Int)+512-1)/512=(n:Int):=by omega
 have hn3:((s:Int)+511)/512=(n:Int):=by omega
 rw[hn];go_enter Tryz.func57,Tryz.ntmps57;go_wp2;go_ret;exact⟨by rw[←hn2];rfl,rfl⟩
theorem words3_any(v:Value)(zs:List Int)(p:Int)(w:World)(h:Rd .u8 w v zs)(h1:zs.length≤1048576)(hbd:∀z∈zs,0≤z∧z<256)(hp:goodP (zs.length/512) p=true):
 Calls Tryz.prog 73 #[v,.int .i64 p] w fun e w'=>∃v',e=.returned v'∧w'.ownsRow w.heap.size 3 1 v' 128 (((List.range 128).map (hwP (wrdP zs) p)).map (Value.int .i64))∧Below w.heap.size w w':=by
 obtain⟨i0,hi,hz0,hz1,hz2⟩:=info_parts infoI64;by_cases h0:p=0
 ·subst h0;obtain⟨a,cap,rfl⟩:=rd_shapeT h;clear h;go_enter Tryz.func73,Tryz.ntmps73;go_wp2_with (refine wpList_make_full _ rfl _ _ 26 rfl w.heap.size 3 i0 (.int .i64 0) 1 Tryz.underlying26 hi hz0 hz1 .i64 .i64 128 128 128 rfl rfl rfl rfl (by rw[hz2];omega) (by unfold maxLen;omega) (Nat.le_refl _) ?_;intro w3 o3 g3;rw[made_one _ _ rfl] at o3;have O3:=hide (And.intro o3 g3);clear o3 g3);go_ret;have e:((List.range 128).map (hwP (wrdP zs) 0)).map (Value.int .i64)=List.replicate 128 (Value.int .i64 0):=by
   rw[show hwP (wrdP zs) 0=fun _=>0 from funext (fun k=>hwP_zero k)];rfl
  refine⟨_,rfl,?_,(Below.refl _ _).grown O3.out.2 (Nat.le_refl _) (fun k e=>by cases e)⟩;rw[e];exact O3.out.1
 ·obtain⟨h2,h3⟩:=good_pos hp h0;obtain⟨q,rfl⟩:∃q:Nat,p=(q:Int):=⟨p.toNat,by omega⟩;obtain⟨b,off,cap,rfl,hb,hlc,hcm,hcell⟩:=h.partsC (by omega);obtain⟨A,hA⟩:∃A:Nat,A=q*512:=⟨_,rfl⟩;have hA1:(q:Int)*512=(A:Int):=by omega
  obtain⟨B,hB⟩:∃B:Nat,B=A+512:=⟨_,rfl⟩;have hA2:((q:Int)+1)*512=(B:Int):=by omega
  have hAB:B≤zs.length:=by omega
  have hl5:(blkP zs (q:Int)).length=512:=by unfold blkP;rw[List.length_take,List.length_drop,Int.toNat_natCast];omega
  have HP:=hide (show Rd .u8 w (.slice (some ⟨b,off+A,none⟩) 512 (cap-A)) (blkP zs (q:Int)) from by unfold blkP;rw[Int.toNat_natCast, ←hA];exact Rd.cut2 A 512 h (by omega) (by omega));have HE:=hide (show decW (blkP zs (q:Int))=(List.range 128).map (hwP (wrdP zs) (q:Int)) from by rw[wrd_row zs _ hl5,show hwP (wrdP zs) (q:Int)=wrdP zs (q:Int) from funext (fun k=>hwP_some h0 k)]);have HBd:=hide (show ∀z∈blkP zs (q:Int),0≤z∧z<256 from fun z hz=>hbd z (List.mem_of_mem_drop (List.mem_of_mem_take hz)));have hB3:(A:Int)≤(B:Int):=by omega
  have hB4:(B:Int)≤(cap:Int):=by omega
  have hB5:B-A=512:=by omega
  have hq:(q:Int)<4096:=by omega
  clear h hbd hcell hl5 hA hB;go_enter Tryz.func73,Tryz.ntmps73;go_wp2_with fail;refine(specD_any _ (blkP zs (q:Int)) w HP.out HBd.out).mono ?_;rintro e w1 ⟨v1,rfl,o1,b1⟩;rw[HE.out] at o1;have O1:=hide (And.intro o1 b1);clear o1 b1;go_wp2;go_ret;exact⟨_,rfl,by have:=O1.out.1;simpa using this,O1.out.2⟩
def KpT(n₀:Nat)(T:Nat→Prop)(A B:World):Prop:=Below n₀ A B∧∀r,T r→B.heap[r]?=A.heap[r]?
theorem KpT.trans{n₀:Nat}{T:Nat→Prop}{A B C:World}(h:KpT n₀ T A B)(k:KpT n₀ T B C):KpT n₀ T A C:=⟨h.1.trans k.1,fun r hr=>(k.2 r hr).trans (h.2 r hr)⟩
end
end Go.Proofs.YtbhpealglhkodaaGreatDoor
