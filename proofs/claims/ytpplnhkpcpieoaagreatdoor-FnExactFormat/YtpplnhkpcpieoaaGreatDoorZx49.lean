/- The model's Format. -/
import Derived.Test.YtpplnhkpcpieoaaGreatDoorZx48
namespace Go.Proofs.YtpplnhkpcpieoaaGreatDoor
open Go.Proofs.Tryz
open _root_.List (length_map length_append map_nil map_set)
set_option linter.all false
set_option maxRecDepth 100000
set_option maxHeartbeats 16000000
section
open Go.RowKit
theorem Cs{W:World}{vs us:List Value}{L M:List NE}(hl:vs.length=L.length)(h:∀(i:Nat) (u:Value) (l:NE),vs[i]?=some u→L[i]?=some l→Rd .u8 W u l.2)(k:∀(i:Nat) (u:Value) (l:NE),us[i]?=some u→M[i]?=some l→Rd .u8 W u l.2):∀(i:Nat) (u:Value) (l:NE),(vs++us)[i]?=some u→(L++M)[i]?=some l→Rd .u8 W u l.2:=by
 intro i u l hu hl2;by_cases hi:i<vs.length
 ·rw[List.getElem?_append_left hi] at hu;rw[List.getElem?_append_left (by omega)] at hl2;exact h i u l hu hl2
 ·rw[List.getElem?_append_right (by omega)] at hu;rw[List.getElem?_append_right (by omega), ←hl] at hl2;exact k _ u l hu hl2
theorem M1{W:World}{b0 b1 b2 b3 tt N:Nat}{ev lg:Int}{ca ua ra:Option Addr}{cc uc rc:Nat}{pv:Value}{us:List Value}(hC:W.ownsRow b0 55 2 (.slice ca (1+tt+2) cc) (1+tt+2) (([.int .i64 2,.slice ua dj.length uc]++cY us ((fy N).map bu))++[.int .i64 0,.slice ra 512 rc,.int .i64 1,.slice ra 512 rc]))(hD:W.ownsRow b1 5 1 (.slice ua dj.length uc) dj.length (dj.map (Value.int .u8)))
 (hV:W.ownsRow b2 5 1 (.slice ra 512 rc) (fA N ev lg).length ((fA N ev lg).map (Value.int .u8))) (hU:aZ W b3 55 1 pv ((fy N).map bu) us) (ht:tt=bR (aL N)):j6 W 1 (.slice ca (1+tt+2) cc) ((jQ N ev lg).map bu) (([.slice ua dj.length uc]++us)++[.slice ra 512 rc,.slice ra 512 rc]):=by
 have WI:us.length=tt:=by rw[hU.len,length_map,mR,ht]
 have hpl:((jQ N ev lg).map bu).length=1+tt+2:=by rw[length_map,we, ←ht];omega
 have hmap:(jQ N ev lg).map bu=(([(2,dj)].map bu)++(fy N).map bu)++([(0,fA N ev lg),(1,fA N ev lg)].map bu):=by unfold jQ;rw[List.map_append,List.map_append]
 have hce:cY (([.slice ua dj.length uc]++us)++[.slice ra 512 rc,.slice ra 512 rc]) ((jQ N ev lg).map bu)=([.int .i64 2,.slice ua dj.length uc]++cY us ((fy N).map bu))++[.int .i64 0,.slice ra 512 rc,.int .i64 1,.slice ra 512 rc]:=by
  rw[hmap,rC _ _ _ _ (by rw[length_append,length_append,WI,length_map,length_map,mR,ht];rfl),rC _ _ _ _ rfl];rfl
 refine⟨by rw[hpl,length_append,length_append,WI];rfl,fun l hl=>?_,⟨ca,cc,by rw[hpl],fun hn=>?_,?_⟩,?_⟩
 ·obtain⟨p,_,rfl⟩:=List.mem_map.1 hl;rfl
 ·rcases hC.2 with⟨e,_⟩|⟨g,cap,cur,e,_⟩
  ·injection e with e1 e2 e3;omega
  ·injection e with e1 e2 e3;subst e1;refine⟨g,0,rfl,(hC.lt g rfl).2,fun j u hu=>?_⟩;rw[hce] at hu;have h:=hC.cells (g:=g) rfl j u hu;rw[Addr.add_mid] at h;exact h
 ·rw[hpl];rcases hC.2 with⟨e,_⟩|⟨g,cap,cur,e,_,_,h1,h2,_⟩
  ·injection e with e1 e2 e3;omega
  ·injection e with e1 e2 e3;subst e3;exact⟨h1,h2⟩
 ·rw[hmap];refine Cs (by rw[length_append,length_append,WI,length_map,length_map,mR,ht];rfl) (Cs rfl (fun i u l hu hl=>?_) (fun i u l hu hl=>Rd.own (hU.dat i u l hu hl))) (fun i u l hu hl=>?_)
  ·match i,hu,hl with
   |0,hu,hl=>
    have e1:u=.slice ua dj.length uc:=(by simpa using hu.symm);have e2:l=bu (2,dj):=(by simpa using hl.symm);subst e1 e2;exact Rd.own hD
   |i+1,hu,hl=>simp at hu
  ·match i,hu,hl with
   |0,hu,hl=>
    have e1:u=.slice ra 512 rc:=(by simpa using hu.symm);have e2:l=bu (0,fA N ev lg):=(by simpa using hl.symm);subst e1 e2;exact Rd.own hV
   |1,hu,hl=>
    have e1:u=.slice ra 512 rc:=(by simpa using hu.symm);have e2:l=bu (1,fA N ev lg):=(by simpa using hl.symm);subst e1 e2;exact Rd.own hV
   |i+2,hu,hl=>simp at hu
theorem Na:prog.builtSlice 33 2 [(0,.agg (an (List.replicate 24 0))),(1,.agg (an (l6 l7 0)))]=some (an fm):=by kernel_rfl
theorem Nb(bl ev lg:Int)(w:World):
 Calls prog 4 #[.int .i64 bl,.int .i64 ev,.int .i64 lg] w fun e w'=>Cm w w' bl ev lg e:=by
 obtain⟨i8,TS,WJ,RV,PK⟩:=info_parts vO;have Sh:=aa (ai TS (ai WJ (ai RV PK)));obtain⟨i0,hi0,hz0,hz1,hz2⟩:=info_parts vQ;have HI0:=aa (ai hi0 (ai hz0 (ai hz1 hz2)));obtain⟨ip,TN,WK,hsp,hbp⟩:=info_parts sE;have OL:=aa (ai TN (ai WK (ai hsp hbp)));clear TS WJ RV PK hi0 hz0 hz1 hz2 TN WK hsp hbp;obtain⟨qa,hqa⟩:∃q,q=wi bl 64 2048:=⟨_,rfl⟩;obtain⟨qb,hqb⟩:∃q,q=wi ev 0 1000:=⟨_,rfl⟩;obtain⟨qd,Su⟩:∃q,q=wi lg 8192 65536:=⟨_,rfl⟩;have HA:=aa (lA bl 64 2048 w);have HB:=aa (lA ev 0 1000 w);have HD:=aa (lA lg 8192 65536 w);rw[←hqa] at HA;rw[←hqb] at HB;rw[←Su] at HD;have HF:=ae (fW bl ev lg=(qa&&qb&&(decide (lg=0)||qd))) (by rw[hqa,hqb,Su];rfl);clear hqa hqb Su;by_cases hok:fW bl ev lg=true
 case neg=>
  have Q0:fW bl ev lg=false:=by simpa using hok
  have NA:=aa Q0;rw[HF.out] at Q0;clear hok;have hcase:qa=false∨(qa=true∧qb=false)∨(qa=true∧qb=true∧(lg !=0)=true∧qd=false):=by
   cases qa<;>cases qb<;>cases qd<;>simp at Q0⊢ <;>exact Q0
  clear Q0;rcases hcase with rfl|⟨rfl,rfl⟩|⟨rfl,rfl,hl0,rfl⟩
  ·go_enter func4,ntmps4;go_wp2_with (go_at_call 9;fail);refine HA.out.mono ?_;rintro e wx ⟨rfl,rfl⟩;go_wp2_with fail;go_ret2;exact⟨_,by rw[if_neg (by rw[NA.out];decide)];rfl,by rw[if_neg (by rw[NA.out];decide)];exact sM _ _,ak⟩
  ·go_enter func4,ntmps4;go_wp2_with (go_at_call 9;fail);refine HA.out.mono ?_;rintro e wx ⟨rfl,rfl⟩;go_wp2_with (go_at_call 9;fail);refine HB.out.mono ?_;rintro e wx ⟨rfl,rfl⟩;go_wp2_with fail;go_ret2;exact⟨_,by rw[if_neg (by rw[NA.out];decide)];rfl,by rw[if_neg (by rw[NA.out];decide)];exact sM _ _,ak⟩
  ·go_enter func4,ntmps4;go_wp2_with (go_at_call 9;fail);refine HA.out.mono ?_;rintro e wx ⟨rfl,rfl⟩;go_wp2_with (go_at_call 9;fail);refine HB.out.mono ?_;rintro e wx ⟨rfl,rfl⟩;go_wp2_with (go_at_call 9;fail);refine HD.out.mono ?_;rintro e wx ⟨rfl,rfl⟩;go_wp2_with fail;go_ret2;exact⟨_,by rw[if_neg (by rw[NA.out];decide)];rfl,by rw[if_neg (by rw[NA.out];decide)];exact sM _ _,ak⟩
 case pos=>
  have hcase:qa=true∧qb=true∧((lg !=0)=false∨((lg !=0)=true∧qd=true)):=by
   have h:=hok;rw[HF.out] at h;by_cases hl:lg=0
   ·subst hl;cases qa<;>cases qb<;>simp at h⊢
   ·cases qa<;>cases qb<;>cases qd<;>simp[hl] at h⊢
  obtain⟨rfl,rfl,hlq⟩:=hcase;obtain⟨N,rfl,hN,hev,Si⟩:=wg hok;have NA:=aa (ai hok (ai hev Si));have HN:=aa hN;obtain⟨hN1,hN2⟩:=hN;clear hok;obtain⟨E,rfl⟩:∃E:Nat,ev=(E:Int):=⟨ev.toNat,by have:=gQ hev;omega⟩;obtain⟨G,rfl⟩:∃G:Nat,lg=(G:Int):=⟨lg.toNat,by unfold gu at Si;simp at Si;omega⟩;clear hev Si;obtain⟨L,hL⟩:∃L:Nat,L=N*512:=⟨_,rfl⟩;have HL:=aa hL;have hLI:(N:Int)*512=(L:Int):=by omega
  have hLb:L≤1048576:=by omega
  have hL3:2<L/512:=by omega
  have HL3:=aa hL3;clear hL hL3;have Zj:=aa hlq;clear hlq;go_enter func4,ntmps4;go_upto_region 1 with fail;go_cut [36] from 20 to 36 (fun v wx=>v=.bool false∧w=wx)
  case first=>
   rcases Zj.out with hl0|⟨hl0,rfl⟩
   ·go_wp2_with (go_at_call 9;fail);refine HA.out.mono ?_;rintro e wx ⟨rfl,rfl⟩;go_wp2_with (go_at_call 9;fail);refine HB.out.mono ?_;rintro e wx ⟨rfl,rfl⟩;go_wp2_with fail;go_meet;exact⟨rfl,rfl⟩
   ·go_wp2_with (go_at_call 9;fail);refine HA.out.mono ?_;rintro e wx ⟨rfl,rfl⟩;go_wp2_with (go_at_call 9;fail);refine HB.out.mono ?_;rintro e wx ⟨rfl,rfl⟩;go_wp2_with (go_at_call 9;fail);refine HD.out.mono ?_;rintro e wx ⟨rfl,rfl⟩;go_wp2_with fail;go_meet;exact⟨rfl,rfl⟩
  case rest=>
  obtain⟨rfl,rfl⟩:=hcut;have hfs:=fun B=>Bp (.int .i64 1) (.slice (some ⟨B,0,none⟩) 2 2);obtain⟨IC,TQ⟩:∃IC,IC=an (l6 l7 0):=⟨_,rfl⟩;have HBtT:=ae (prog.builtSlice 33 2 [(0,.agg #[.int .i64 0,.int .i64 0,.int .i64 0,.int .i64 0,.int .i64 0,.int .i64 0,.int .i64 0,.int .i64 0,.int .i64 0,.int .i64 0,.int .i64 0,.int .i64 0,.int .i64 0,.int .i64 0,.int .i64 0,.int .i64 0,.int .i64 0,.int .i64 0,.int .i64 0,.int .i64 0,.int .i64 0,.int .i64 0,.int .i64 0,.int .i64 0]),(1,.agg IC)]=some (an fm)) (by rw[TQ];exact Na);have nv:=aa (fun W=>Ll l7 none 0 0 0 W);rw[←TQ] at nv;clear TQ;go_upto_region 4 with(first
   |(
    refine wpList_make_full _ rfl _ _ 22 rfl w.heap.size 5 i8 (.int .u8 0) 1 underlying22 Sh.out.1 Sh.out.2.1 Sh.out.2.2.1 .i64 .i64 _ _ L rfl rfl (by go_num) (by go_num) (by rw[Sh.out.2.2.2];omega) (by unfold maxLen;omega) aj ?_;intro w2 o2 g2;have hm:(madeCells (Value.int .u8 0).cells (L*1)).toList=(eG N).map (Value.int .u8):=(by rw[iJ (.int .u8 0) L rfl,HL.out];unfold eG;rw[List.map_replicate]);rw[hm] at o2;have M2:=aa (qg o2);have b2:Below w.heap.size w w2:=ak.grown g2 aj (fun r e=>by cases e);have B2:=aa b2;clear o2 g2 b2 hm)
   |fail)
  go_upto_region 5 with(first
   |(
    go_at_call 12
    refine(Lm _).mono ?_;rintro e w3 ⟨B,rfl,kB,hB,b3⟩;have KN:=aa kB;have B3:=aa (B2.out.trans (b3.mono B2.out.size));have M3:=aa (M2.out.below b3 M2.out.lt);clear kB hB b3)
   |(refine wpList_load_mid rfl 36 _ rfl B 10 rfl [.int .i64 2,.int .i64 2,.int .i64 493,.int .i64 0,.int .i64 0,.int .i64 1,.int .i64 1,.int .i64 1,.int .i64 1,.slice none 0 0] _ (Bl KN.out) underlying36 rfl Bo ?_)
   |(
    go_at_call 11
    refine(nv.out _).mono ?_;rintro e w4 ⟨rfl,b4⟩;have B4:=aa (B3.out.trans (b4.mono B3.out.size));have M4:=aa (M3.out.below b4 M3.out.lt);clear b4)
   |(
    refine Go.Great.wpList_buildSliceTo rfl 41 33 2 _ rfl w4.heap.size rfl _ rfl underlying41 (an fm) (by simp only[List.map_toArray,List.map_cons,map_nil];exact HBtT.out) ?_;have Xb:=aa (Br (af.new w4 (an fm) 33));have B5:=ae (Below w.heap.size w (w4.alloc (.cells (an fm) 33))) (B4.out.alloc B4.out.size _);have M5:=aa (M4.out.alloc (.cells (an fm) 33));generalize w4.alloc (.cells (an fm) 33)=w5 at Xb B5 M5⊢)
   |(
    go_at_call 10
    refine(Lc _ 2 fm w5 Xb.out Bm (by rw[Lu];omega)).mono ?_;rintro e w6 ⟨v',rfl,o6,b6⟩;rw[Lv,nD] at o6;obtain⟨ta,tc,rfl⟩:=bO o6;have T6:=aa o6;have B6:=aa (B5.out.trans (b6.mono B5.out.size));have M6:=aa (M5.out.below b6 M5.out.lt);clear o6 b6)
   |fail)
  obtain⟨Ob,NT⟩:∃Ob,Ob=an (aD 256 aq 0 0):=⟨_,rfl⟩;have QX:=aa NT;have N9:=ae ((prog.info? 31).map (·.size)=some Ob.size) (by rw[NT,ct];exact ku);have NW:=ae (Ob.all (·.oneCell')=true) (by rw[NT];simp[an,Array.all_eq_true,Value.oneCell']);have NQ:=ae (bV.size=Ob.size) (by rw[NT,ct];rfl);clear NT hfs;have XX:=ae (Calls prog 13 #[.slice (some ⟨w.heap.size,0,none⟩) L L,.agg bV,.slice ta 256 tc,.slice (some ⟨w6.heap.size,0,none⟩) 1 1] (w6.alloc (.cells #[.int .i64 2] 3)) fun e w'=>∃pv vs,e=.returned (.tuple #[.agg Ob,pv,.int .i64 0])∧aZ w' (w6.alloc (.cells #[.int .i64 2] 3)).heap.size 55 1 pv ([((2:Int),dj)].map bu) vs∧Below (w6.alloc (.cells #[.int .i64 2] 3)).heap.size (w6.alloc (.cells #[.int .i64 2] 3)) w') (by
   rw[QX.out];have h:=Mq w6.heap.size 0 1 L L 2 (some ⟨w.heap.size,0,none⟩) (.slice ta 256 tc) (eG N) ir (w6.alloc (.cells #[.int .i64 2] 3)) ((af.new w6 #[.int .i64 2] 3).cell 0) (by omega) HL3.out (qj (M6.out.alloc _) (by rw[gS,HL.out]) (by rw[gS];unfold maxLen;omega)) (vG HN.out) (by rw[gS];omega) hLb (sI N) (by have h:=Rd.own (k:=.u8) (cC T6.out (ak.alloc aj (.cells #[.int .i64 2] 3)));exact h) (by rw[nD];omega) (by rw[nD];omega) MN;rw[MM,nD] at h;exact h)
  go_upto_region 6 with(first
   |(
    go_at_call 13
    refine XX.out.mono ?_;rintro e w7 ⟨pv,vs,rfl,o7,b7⟩;obtain⟨pa,pc,hpq⟩:=bO o7.row;subst hpq;have P7:=aa o7;have bq:Below w6.heap.size w6 w7:=(ak.alloc aj _).trans (b7.mono (by simp));have M7:=aa (M6.out.below bq M6.out.lt);have B7:=aa (B6.out.trans (bq.mono B6.out.size));clear o7 b7 bq)
   |(
    refine oV w.heap.size w rfl 31 _ _ rfl w7.heap.size Ob rfl rfl 31 bV (af.new w7 bV 31) N9.out NQ.out NW.out (B7.out.alloc B7.out.size _) B7.out.size ?_;intro w8 k8 b8 s8;have s8:=s8 w7 aj (fun k hk=>Below.heap_alloc w7 _ k hk);have R8:=aa k8;have B8:=aa b8;have M8:=aa (s8.blk M7.out);have P8:=aa (s8.own P7.out);clear k8 b8 s8)
   |fail)
  have hNm:N≤9223372036854775807:=by omega
  go_upto_region 7 with(first
   |(
    refine wpList_make_full _ rfl _ _ 45 rfl w8.heap.size 3 i0 (.int .i64 0) 1 underlying45 HI0.out.1 HI0.out.2.1 HI0.out.2.2.1 .i64 .i64 _ _ N rfl rfl rfl rfl (by rw[HI0.out.2.2.2];omega) (by unfold maxLen;omega) aj ?_;intro w9 o9 g9;have hm:(madeCells (Value.int .i64 0).cells (N*1)).toList=(cU N 0).map (Value.int .i64):=(by rw[iJ (.int .i64 0) N rfl];exact Cr N);rw[hm] at o9;have D9:=aa (qg o9);have b9:Below w8.heap.size w8 w9:=ak.grown g9 aj (fun r e=>by cases e);have BL9:=aa b9;clear o9 g9 b9 hm)
   |fail)
  have cd:=D9.out.cell 0;rw[Array.getElem?_eq_getElem (show 0<((cU N 0).map (Value.int .i64)).toArray.size by simp[cU];omega)] at cd;have fd:=D9.out.frozen 0;have WT:(0:Int)<(N:Int):=by omega
  go_upto_region 8 with fail;clear cd fd WT;have Q1:=ae (af (w9.setCell ⟨w8.heap.size,0,none⟩ (.int .i64 1)) w8.heap.size ((cU N 1).map (Value.int .i64)).toArray 3) (by rw[←pY N 0 (by omega),map_set, ←List.setIfInBounds_toArray];exact D9.out.set 0 _);have Q4:=ae (Below w8.heap.size w8 (w9.setCell ⟨w8.heap.size,0,none⟩ (.int .i64 1))) (BL9.out.setCell (p:=⟨w8.heap.size,0,none⟩) aj _);generalize w9.setCell ⟨w8.heap.size,0,none⟩ (.int .i64 1)=w9a at Q1 Q4⊢;have cd:=Q1.out.cell 1;rw[Array.getElem?_eq_getElem (show 1<((cU N 1).map (Value.int .i64)).toArray.size by simp[cU];omega)] at cd;have fd:=Q1.out.frozen 1;have WT:(1:Int)<(N:Int):=by omega
  go_upto_region 9 with fail;clear cd fd WT;have Q6:=ae (af (w9a.setCell ⟨w8.heap.size,1,none⟩ (.int .i64 1)) w8.heap.size ((cU N 2).map (Value.int .i64)).toArray 3) (by rw[←pY N 1 (by omega),map_set, ←List.setIfInBounds_toArray];exact Q1.out.set 1 _);have Q7:=ae (Below w8.heap.size w8 (w9a.setCell ⟨w8.heap.size,1,none⟩ (.int .i64 1))) (Q4.out.setCell (p:=⟨w8.heap.size,1,none⟩) aj _);generalize w9a.setCell ⟨w8.heap.size,1,none⟩ (.int .i64 1)=w9b at Q6 Q7⊢;have cd:=Q6.out.cell 2;rw[Array.getElem?_eq_getElem (show 2<((cU N 2).map (Value.int .i64)).toArray.size by simp[cU];omega)] at cd;have fd:=Q6.out.frozen 2;have WT:(2:Int)<(N:Int):=by omega
  go_upto_region 10 with fail;clear cd fd WT;have WU:=ae (af (w9b.setCell ⟨w8.heap.size,2,none⟩ (.int .i64 1)) w8.heap.size ((cU N 3).map (Value.int .i64)).toArray 3) (by rw[←pY N 2 (by omega),map_set, ←List.setIfInBounds_toArray];exact Q6.out.set 2 _);have OM:=ae (Below w8.heap.size w8 (w9b.setCell ⟨w8.heap.size,2,none⟩ (.int .i64 1))) (Q7.out.setCell (p:=⟨w8.heap.size,2,none⟩) aj _);generalize w9b.setCell ⟨w8.heap.size,2,none⟩ (.int .i64 1)=w9c at WU OM⊢;have MA:=aa (M8.out.below OM.out M8.out.lt);have RA:=aa (R8.out.below OM.out R8.out.lt);have PA:=aa (P8.out.below OM.out);have BA:=aa (B8.out.trans (OM.out.mono B8.out.size));clear D9 Q1 Q6 BL9 Q4 Q7;have XY:=ae (Calls prog 14 #[.slice (some ⟨w.heap.size,0,none⟩) L L,.agg bV,.slice (some ⟨w8.heap.size,0,none⟩) N N,.int .i64 3] w9c _) ((II (.slice (some ⟨w.heap.size,0,none⟩) L L) (.slice (some ⟨w8.heap.size,0,none⟩) N N) (eG N) (cU N 3) 0 jM 0 0 3 w9c (qj MA.out (by rw[gS,HL.out]) (by rw[gS];unfold maxLen;omega)) (by rw[gS];omega) (sI N) rfl (wh WU.out (jr N 3).symm (by rw[jr];unfold maxLen;omega)) (by rw[jr];omega)).mono fun e w' hh=>Cl HN.out hh);have Sj:(prog.info? 47).map (·.size)=some 18:=fV;go_upto_region 11 with(first
   |(
    go_at_call 14
    refine XY.out.mono ?_;rintro e wD ⟨wv,pv,us,rfl,o9,p9,b9⟩;obtain⟨wa,wc,rfl⟩:=bO o9;obtain⟨ma,mc,hpv⟩:=bO p9.row;rw[length_map,mR] at hpv;subst hpv;obtain⟨MO,Nw⟩:∃MO,MO=((aD (4*(N:Int)) (ey (aL N)) (eA (aL N)) 0).map (Value.int .i64)++([.slice wa N wc,.int .i64 ((3+bR (aL N):Nat):Int),.slice ma (bR (aL N)) mc]:List Value)).toArray:=⟨_,rfl⟩;rw[←Nw];have Qi:=aa Nw;have NY:=ae ((aD (4*(N:Int)) (ey (aL N)) (eA (aL N)) 0).length=15) (dw _ _ _ _ (jN _));have Ou:=ae (MO.size=18) (by rw[Nw,List.size_toArray,length_append,length_map,NY.out];rfl);have HMi:=ae ((prog.info? 47).map (·.size)=some MO.size) (by rw[Ou.out];exact fV);have UQ:=ae (iG.size=MO.size) (by rw[Ou.out];rfl);have HMo:=ae (MO.all (·.oneCell')=true) (by
     rw[Nw];refine all_oneCell_toArray (fun v hv=>?_);rcases List.mem_append.1 hv with hv|hv
     ·obtain⟨z,_,rfl⟩:=List.mem_map.1 hv;rfl
     ·simp at hv;rcases hv with rfl|rfl|rfl<;>rfl)
    have UD:=aa p9;have RD:=aa (RA.out.below b9 RA.out.lt);have MD:=aa (MA.out.below b9 MA.out.lt);have PD:=aa (PA.out.below b9);have BD:=aa (BA.out.trans (b9.mono BA.out.size));clear o9 p9 b9 Nw)
   |(
    refine oV w.heap.size w rfl 47 _ _ rfl wD.heap.size MO rfl rfl 47 iG (af.new wD iG 47) HMi.out UQ.out HMo.out (BD.out.alloc BD.out.size _) BD.out.size ?_;intro wE k10 b10 s10;have s10:=s10 wD aj (fun k hk=>Below.heap_alloc wD _ k hk);have KE:=aa k10;have BE:=aa b10;have RE:=aa (s10.blk RD.out);have ME:=aa (s10.blk MD.out);have PE:=aa (s10.own PD.out);have UE:=aa (s10.own UD.out);clear k10 b10 s10)
   |fail)
  have QY:=ae (MO[16]?=some (.int .i64 ((3+bR (aL N):Nat):Int))) (by rw[Qi.out,List.getElem?_toArray,List.getElem?_append_right (by rw[length_map,NY.out];omega),length_map,NY.out];rfl);have QZ:=ae (MO[17]?=some (.slice ma (bR (aL N)) mc)) (by rw[Qi.out,List.getElem?_toArray,List.getElem?_append_right (by rw[length_map,NY.out];omega),length_map,NY.out];rfl);have WN:=ae (∀(W:World),af W wD.heap.size MO 47→W.rangeAt wD.heap.size 0 ((aD (4*(N:Int)) (ey (aL N)) (eA (aL N)) 0).map (Value.int .i64))) (fun W hB j v hj=>by
   have hj2:j<15:=(by have:=(List.getElem?_eq_some_iff.1 hj).1;rw[length_map,NY.out] at this;exact this);rw[hB.cell (0+j),Nat.zero_add,Qi.out,List.getElem?_toArray,List.getElem?_append_left (by rw[length_map,NY.out];exact hj2), ←hj])
  obtain⟨RL,Sc⟩:∃RL,RL=(aD (4*(N:Int)) (ey (aL N)) (eA (aL N)) 0).map (Value.int .i64):=⟨_,rfl⟩;rw[←Sc] at WN;have HRLi:=ae ((prog.info? 31).map (·.size)=some RL.length) (by rw[Sc,length_map,NY.out];exact ku);obtain⟨FC,Sk⟩:∃FC,FC=an (bC 1 (N:Int) ((3+bR (aL N):Nat):Int) 1 0 (E:Int) (G:Int) 256 aq 0 0 (4*(N:Int)) (ey (aL N)) (eA (aL N)) 0 iX):=⟨_,rfl⟩;have Rn:=ae (prog.built 52 [(0,.int .i64 1),(1,.int .i64 (N:Int)),(2,.int .i64 ((3+bR (aL N):Nat):Int)),(3,.int .i64 1),(5,.int .i64 (E:Int)),(6,.int .i64 (G:Int)),(7,.agg Ob),(8,.agg RL.toArray)]=some FC) (by rw[Sk,Sc,QX.out];exact Cn _ _ _ _ _ _ _ _ (jN _));have HFs:=ae (FC.size=68) (by rw[Sk,ct];exact sq _ _ _ _ _ _ _ _ _ _ _ _ _ _ _ _ rfl (jN _) (by simp[iX]));have XR:=ae ((prog.info? 52).map (·.size)=some FC.size) (by rw[HFs.out];exact vv);have HFo:=ae (FC.all (·.oneCell')=true) (by rw[Sk];simp[an,Array.all_eq_true,Value.oneCell']);have hrf:=Bb HN.out NA.out.2.1 NA.out.2.2;have HEn:=aa (fun(W:World)=>(show Calls prog 15 #[.agg FC] W fun e w'=>∃v',e=.returned (.tuple #[v',.int .i64 0])∧w'.ownsRow W.heap.size 5 1 v' 512 ((fA N (E:Int) (G:Int)).map (Value.int .u8))∧Below W.heap.size W w' by
   have h:=MK 1 (N:Int) ((3+bR (aL N):Nat):Int) 1 0 (E:Int) (G:Int) 256 aq 0 0 (4*(N:Int)) (ey (aL N)) (eA (aL N)) 0 iX W rfl (jN _) (by simp[iX]);rw[show p6 1 (N:Int) ((3+bR (aL N):Nat):Int) 1 0 (E:Int) (G:Int) 256 aq 0 0 (4*(N:Int)) (ey (aL N)) (eA (aL N)) 0 iX=0 by unfold p6;rw[if_pos hrf],show oJ 1 (N:Int) ((3+bR (aL N):Nat):Int) 1 0 (E:Int) (G:Int) 256 aq 0 0 (4*(N:Int)) (ey (aL N)) (eA (aL N)) 0 iX=fA N (E:Int) (G:Int) by unfold oJ fA;rw[if_pos hrf];rfl,qi] at h;rw[Sk];exact h))
  clear Sk Sc hrf;obtain⟨cu,NG⟩:∃cu:Int,cu=((3+bR (aL N):Nat):Int):=⟨_,rfl⟩;rw[←NG] at QY Rn;clear NG;have c16:=(KE.out.cell 16).trans QY.out;go_upto_region 11 with fail;refine wp_region_list ?_;refine wpList_plain rfl (fun K hK=>?_);go_simp;refine hK _ _ ?_;clear hK K;try simp only[Act.put,av,ay,az,aA,aB,aC]
  refine wpList_plain rfl (fun K hK=>?_);go_simp;refine hK _ _ ?_;clear hK K;try simp only[Act.put,av,ay,az,aA,aB,aC]
  refine wpList_plain rfl (fun K hK=>?_);go_simp;refine hK _ _ ?_;clear hK K;try simp only[Act.put,av,ay,az,aA,aB,aC]
  refine wpList_plain rfl (fun K hK=>?_);go_simp;refine hK _ _ ?_;clear hK K;try simp only[Act.put,av,ay,az,aA,aB,aC]
  refine wpList_plain rfl (fun K hK=>?_);go_simp;refine hK _ _ ?_;clear hK K;try simp only[Act.put,av,ay,az,aA,aB,aC]
  refine wpList_load_row rfl 31 _ rfl w7.heap.size rfl 31 Ob (0,0) _ RE.out underlying31 rfl N9.out ?_;try simp only[Act.put,av,ay,az,aA,aB,aC]
  refine wpList_plain rfl (fun K hK=>?_);go_simp;refine hK _ _ ?_;clear hK K;try simp only[Act.put,av,ay,az,aA,aB,aC]
  refine wpList_load_mid rfl 31 _ rfl wD.heap.size 0 rfl RL _ (WN.out _ KE.out) underlying31 rfl HRLi.out ?_;try simp only[Act.put,av,ay,az,aA,aB,aC]
  refine wpList_plain rfl (fun K hK=>?_);unfold Oper.wp;rw[qS 52 _ rfl FC (by simp only[List.map_toArray,List.map_cons,map_nil];exact Rn.out),Oper.upon_value];refine hK _ _ ?_;clear hK K;try simp only[Act.put,av,ay,az,aA,aB,aC]
  refine wpList_plain rfl (fun K hK=>?_);go_simp;refine hK _ _ ?_;clear hK K;try simp only[Act.put,av,ay,az,aA,aB,aC]
  refine oV w.heap.size w rfl 52 _ _ rfl wE.heap.size FC rfl rfl 52 _ (af.new wE _ 52) XR.out (by rw[HFs.out];kernel_rfl) HFo.out (BE.out.alloc BE.out.size _) BE.out.size ?_;intro wF k11 b11 s11;have s11:=s11 wE aj (fun k hk=>Below.heap_alloc wE _ k hk);have FF:=aa k11;have BF:=aa b11;have KF:=aa (s11.blk KE.out);have MF:=aa (s11.blk ME.out);have PF:=aa (s11.own PE.out);have UF:=aa (s11.own UE.out);clear k11 b11 s11;try simp only[Act.put,av,ay,az,aA,aB,aC]
  clear c16;go_upto_region 13 with(first
   |(refine wpList_load_row rfl 52 _ rfl wE.heap.size rfl 52 FC (0,0) _ FF.out underlying52 rfl XR.out ?_)
   |(
    go_at_call 15
    refine(HEn.out _).mono ?_;rintro e wG ⟨rv,rfl,N8,b12⟩;obtain⟨ra,rc,rfl⟩:=bO N8;have VG:=aa N8;have BG:=aa (BF.out.trans (b12.mono BF.out.size));have KG:=aa (KF.out.below b12 KF.out.lt);have MG:=aa (MF.out.below b12 MF.out.lt);have PG:=aa (PF.out.below b12);have UG:=aa (UF.out.below b12);clear N8 b12)
   |fail)
  rcases PG.out.row.2 with⟨e,_⟩|⟨pb,WS,TY,e,hpb,q1,q2,q3,q4,q5⟩
  ·cases e
  injection e with e1 e2 e3;subst e1;clear e2 e3 hpb q1 q2 q3 q4 q5 TY WS;obtain⟨u0,Oz⟩:∃u0,vs=[u0]:=by
   have h:=PG.out.len;match vs,h with
   |[u],_=>exact⟨u,rfl⟩
  subst Oz;obtain⟨ua,uc,rfl⟩:=bO (PG.out.dat 0 u0 _ rfl rfl);have ht0:=(nE HN.out).2.2;have T0:=(nE HN.out).2.1;obtain⟨tt,Sm⟩:∃tt,tt=bR (aL N):=⟨_,rfl⟩;have T2:=aa Sm;have Rq:=ae (wG.ownsRow w9c.heap.size 55 2 (.slice ma tt mc) tt (cY us ((fy N).map bu))) (by have h:=UG.out.row;rw[length_map,mR, ←Sm] at h;exact h);rw[←Sm] at ht0 T0 QZ UG;clear Sm;rcases Rq.out.2 with⟨e,e0⟩|⟨mb,mcp,Ua,e,hmb,q1,q2,q3,q4,q5⟩
  ·omega
  injection e with e1 e2 e3;subst e1;clear e2 e3 hmb q1 q2 q3 q4 q5 Ua mcp;have Pj:=ae (pb<wG.heap.size∧∀j u,([.int .i64 2,.slice ua dj.length uc]:List Value)[j]?=some u→wG.cell? ⟨pb,0+j,none⟩=some u) (⟨(PG.out.row.lt pb rfl).2,fun j u hu=>by have h:=PG.out.row.cells (g:=pb) rfl j u hu;rw[Addr.add_mid] at h;exact h⟩);have Rf:=ae (mb<wG.heap.size∧∀j u,(cY us ((fy N).map bu))[j]?=some u→wG.cell? ⟨mb,0+j,none⟩=some u) (⟨(Rq.out.lt mb rfl).2,fun j u hu=>by have h:=Rq.out.cells (g:=mb) rfl j u hu;rw[Addr.add_mid] at h;exact h⟩);have TG:=aa (Cq UG.out);have Ry:=ae ((cY us ((fy N).map bu)).length=tt*2) Rq.out.1;refine bg (fun w'=>af w' wD.heap.size MO 47) (show af wG.drew _ _ _ from KG.out) fun hH=>?_;have DZ:=ae (Below wG.heap.size wG wG.drew) ak.drew;generalize wG.drew=Z at DZ hH⊢;clear hH;have hH:=KG.out.below DZ.out KG.out.lt;refine ah 1 (.slice (some ⟨pb,0,none⟩) 1 pc) rfl hH ?_;refine ah 3 (.pointer (some ⟨wD.heap.size,17,none⟩)) rfl hH ?_;refine ah 4 (.slice (some ⟨mb,0,none⟩) tt mc) rfl hH ?_ (aH fun w' hw'=>by have c:=(af.cell hw' 17).trans QZ.out;go_simp);refine aG 0 rfl fun K hK=>?_;go_simp;obtain⟨Z1,hZ1⟩:∃Z1,Z1=Z.alloc (.cells #[] 55):=⟨_,rfl⟩;have O1:=ae (Z1.ownsRow Z.heap.size 55 2 (.slice (some ⟨Z.heap.size,0,none⟩) 0 0) 0 []) (by rw[hZ1];exact j5 Z _ 2);have X3:=ae (Below Z.heap.size Z Z1) (by rw[hZ1];exact ak.alloc aj _);have DZ1:=aa (DZ.out.trans (X3.out.mono DZ.out.size));rw[←hZ1];refine hK.out _ _ (KG.out.below DZ1.out KG.out.lt) (fun hH=>?_);clear hK K hZ1;try simp only[Act.put,av,ay,az,aA,aB,aC]
  refine aG 2 rfl fun K hK=>?_;refine wp_append_own _ (.tmp 87) (.tmp 88) 42 rfl Z.heap.size 55 ip (.agg #[.int .i64 0,.slice none 0 0]) 2 32 underlying42 OL.out.1 OL.out.2.1 OL.out.2.2.1 OL.out.2.2.2 rfl (by decide) _ 0 [] rfl O1.out ⟨pb,0,none⟩ 1 pc [.int .i64 2,.slice ua dj.length uc] rfl rfl (fun j u hj=>by rw[Addr.add_mid];exact(DZ1.out.cell (p:=⟨pb,0+j,none⟩) Pj.out.1).trans (Pj.out.2 j u hj)) (by intro y hy;simp at hy;rcases hy with rfl|rfl<;>rfl) (by unfold maxLen;omega) (by omega) X3.out.size ?_;intro v2 Z2 o2 g2 _;rw[Nat.zero_add,List.nil_append] at o2;obtain⟨a2,c2,rfl⟩:=bO o2;have O2:=aa o2;have X5:=ae (Below Z.heap.size Z Z2) (X3.out.grown g2 X3.out.size (fun r e=>(O1.out.lt r e).1));have DZ2:=aa (DZ.out.trans (X5.out.mono DZ.out.size));refine hK.out _ _ (KG.out.below DZ2.out KG.out.lt) (fun hH=>?_);clear hK K o2 g2;try simp only[Act.put,av,ay,az,aA,aB,aC]
  refine aG 5 rfl fun K hK=>?_;refine wp_append_own _ (.tmp 89) (.tmp 91) 42 rfl Z.heap.size 55 ip (.agg #[.int .i64 0,.slice none 0 0]) 2 32 underlying42 OL.out.1 OL.out.2.1 OL.out.2.2.1 OL.out.2.2.2 rfl (by decide) _ 1 _ rfl O2.out ⟨mb,0,none⟩ tt mc (cY us ((fy N).map bu)) rfl Ry.out (fun j u hj=>by rw[Addr.add_mid];exact(DZ2.out.cell (p:=⟨mb,0+j,none⟩) Rf.out.1).trans (Rf.out.2 j u hj)) TG.out (by unfold maxLen;omega) (by omega) X5.out.size ?_;intro v3 Z3 o3 g3 _;obtain⟨a3,c3,rfl⟩:=bO o3;have O3:=aa o3;have WV:=ae (Below Z.heap.size Z Z3) (X5.out.grown g3 X5.out.size (fun r e=>(O2.out.lt r e).1));have DZ3:=aa (DZ.out.trans (WV.out.mono DZ.out.size));refine hK.out _ _ (KG.out.below DZ3.out KG.out.lt) (fun hH=>?_);clear hK K o3 g3;try simp only[Act.put,av,ay,az,aA,aB,aC]
  refine ah 6 (.slice a3 (1+tt) c3) rfl hH ?_;refine aV ?_;clear hH;go_upto_region 15 with(first
   |(
    at_builtin;refine wpList_append_own _ rfl (.tmp 93) (.tmp 98) 42 rfl Z.heap.size 55 ip (.agg #[.int .i64 0,.slice none 0 0]) 2 32 underlying42 OL.out.1 OL.out.2.1 OL.out.2.2.1 OL.out.2.2.2 rfl (by decide) _ (1+tt) _ rfl (cC O3.out (ak.alloc aj _)) ⟨Z3.heap.size,0,none⟩ 2 2 [.int .i64 0,.slice ra 512 rc,.int .i64 1,.slice ra 512 rc] rfl rfl (nu Z3 #[.int .i64 0,.slice ra 512 rc,.int .i64 1,.slice ra 512 rc] 55) (by intro y hy;simp at hy;rcases hy with rfl|rfl|rfl|rfl<;>rfl) (by unfold maxLen;omega) (by omega) (by have h:=WV.out.size;simp;omega) ?_
    intro v4 Z4 o4 g4 _;obtain⟨a4,c4,rfl⟩:=bO o4;have O4:=aa o4;have BZ4:=ae (Below Z.heap.size Z Z4) ((WV.out.alloc WV.out.size _).grown g4 (by have h:=WV.out.size;simp;omega) (fun r e=>(O3.out.lt r e).1));have Ub:=aa (DZ.out.trans (BZ4.out.mono DZ.out.size));clear o4 g4)
   |fail)
  have NV:=aa (My N (.slice (some ⟨w.heap.size,0,none⟩) L L) (eG N) (jQ N (E:Int) (G:Int)) (([.slice ua dj.length uc]++us)++[.slice ra 512 rc,.slice ra 512 rc]) a4 (1+tt+2) c4 Z4 hN2 (by omega) (gS N) (qj (MG.out.below Ub.out MG.out.lt) (by rw[gS,HL.out]) (by rw[gS];unfold maxLen;omega)) (MS HN.out _ _) (by rw[we, ←T2.out];omega) (by rw[we, ←T2.out];omega) (M1 O4.out (cC (PG.out.dat 0 _ _ rfl rfl) Ub.out) (by rw[qi];exact cC VG.out Ub.out) (UG.out.below Ub.out) T2.out));go_wp2_with (first
   |(
    go_at_call 16
    refine NV.out.mono ?_;rintro e Z5 ⟨v5,rfl,o5,b5⟩;have O5:=aa o5;have B5:=ae (Below w.heap.size w Z5) ((BG.out.trans (Ub.out.mono BG.out.size)).trans (b5.mono (aK BG.out.size Ub.out.size)));clear o5 b5)
   |fail)
  go_ret2;refine⟨v5,?_,?_,B5.out⟩
  ·rw[if_pos NA.out.1];rfl
  ·rw[if_pos NA.out.1,Int.toNat_natCast,sL HN.out, ←MT HN.out];exact cH O5.out (aK BG.out.size Ub.out.size)
end
end Go.Proofs.YtpplnhkpcpieoaaGreatDoor
