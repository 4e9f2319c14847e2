/- The program's Format. -/
import Derived.Test.YtpplnhkpcpieoaaGreatDoorZx47
namespace Go.Proofs.YtpplnhkpcpieoaaGreatDoor
open Go.Proofs.Tryz
open _root_.List (length_map)
set_option linter.all false
set_option maxRecDepth 100000
set_option maxHeartbeats 16000000
section
open Go.RowKit
def Cm(w w':World)(bl ev lg:Int)(e:Ending):Prop:=∃v,e=.returned (.tuple #[v,.int .i64 (if fW bl ev lg=true then 0 else 19)])∧w'.ownsRow w.heap.size 5 1 v (if fW bl ev lg=true then kH bl.toNat ev lg else []).length ((if fW bl ev lg=true then kH bl.toNat ev lg else []).map (Value.int .u8))∧Below w.heap.size w w'
theorem sM(w:World)(base:Nat):w.ownsRow base 5 1 (.slice none 0 0) 0 []:=⟨rfl,.inl ⟨rfl,rfl⟩⟩
theorem wg{bl ev lg:Int}(h:fW bl ev lg=true):∃N:Nat,bl=(N:Int)∧(64≤N∧N≤2048)∧wi ev 0 1000=true∧gu lg=true:=by
 unfold fW at h;simp only[Bool.and_eq_true] at h;have h1:=gQ h.1.1;exact⟨bl.toNat,by omega,by omega,h.1.2,h.2⟩
theorem qj{w:World}{g n:Nat}{zs:List Int}(h:af w g (zs.map (Value.int .u8)).toArray 5)(hn:n=zs.length)(hl:zs.length≤maxLen):Rd .u8 w (.slice (some ⟨g,0,none⟩) n n) zs:=by
 subst hn;exact⟨_,_,rfl,hl,fun _=>⟨g,0,rfl,h.lt,fun i hi=>(h.cell (0+i)).trans (by rw[Nat.zero_add];simp[List.getElem?_eq_getElem hi,List.getD])⟩,aj,hl⟩
theorem wh{w:World}{g n:Nat}{zs:List Int}(h:af w g (zs.map (Value.int .i64)).toArray 3)(hn:n=zs.length)(hl:zs.length≤maxLen):Rd .i64 w (.slice (some ⟨g,0,none⟩) n n) zs:=by
 subst hn;exact BP h hl
theorem Cn(n cu ev lg s p q:Int):∀(ds:List Int),ds.length=12→prog.built 52 [(0,.int .i64 1),(1,.int .i64 n),(2,.int .i64 cu),(3,.int .i64 1),(5,.int .i64 ev),(6,.int .i64 lg),(7,.agg (an (aD 256 aq 0 0))),(8,.agg (an (aD s ds p q)))]=some (an (bC 1 n cu 1 0 ev lg 256 aq 0 0 s ds p q iX))
 |[_,_,_,_,_,_,_,_,_,_,_,_],_=>by kernel_rfl
def l8(u r:Value)(k:Nat):List Value:=[.int .i64 2,u]++(if k=0 then [] else if k=1 then [.int .i64 0,r] else [.int .i64 0,r,.int .i64 1,r])
theorem MU(u r:Value):∀k,k<2→l8 u r (k+1)=l8 u r k++[.int .i64 (k:Int),r]
 |0,_=>rfl
 |1,_=>rfl
theorem MV{w w1 w2:World}{pb:Nat}{v:Value}(h:w.grownBy w1 (some pb))(g:w1.grownBy w2 v.ownBlock)(hv:v.ownBlock=some pb∨∃q,w.heap.size≤q∧v.ownBlock=some q):w.grownBy w2 (some pb):=by
 rcases hv with e|⟨q,hq,e⟩
 ·rw[e] at g;exact⟨g.os.trans h.os,g.tape.trans h.tape,g.output.trans h.output,aK h.size g.size,fun k hk hr=>(g.block k (Nat.lt_of_lt_of_le hk h.size) hr).trans (h.block k hk hr)⟩
 ·rw[e] at g;exact BC h g hq
theorem oY{W W':World}{base n sz g:Nat}{e:TypeId}{v:Value}{xs:List Value}(h:W.ownsRow base e sz v n xs)(hg:g<base)(k:W.grownBy W' (some g)):W'.ownsRow base e sz v n xs:=
 eF h (fun q hq=>k.block q (h.lt q hq).2 (fun e=>by have e2:q=g:=Option.some.inj e;have:=(h.lt q hq).1;omega))
theorem Co{W W':World}{base m g:Nat}{e:TypeId}{v:Value}{L:List NE}{vs:List Value}(h:aZ W base e m v L vs)(hg:g<base)(k:W.grownBy W' (some g)):aZ W' base e m v L vs:=
 ⟨h.len,h.pre,oY h.row hg k,fun i u l hu hl=>oY (h.dat i u l hu hl) hg k,h.one⟩
theorem Cp:∀(vs:List Value) (ps:List (Int×List Int)),(∀v∈vs,v.oneCell'=true)→∀u∈cY vs (ps.map bu),u.oneCell'=true
 |[],ps,_,u,hu=>by cases hps:ps.map bu<;>simp[hps,cY] at hu
 |v::vs,[],_,u,hu=>by simp[cY] at hu
 |v::vs,p::ps,h,u,hu=>by
  rw[List.map_cons,cY] at hu;rcases List.mem_append.1 hu with hu|hu
  ·have:u=.int .i64 p.1:=(by simpa [bu] using hu);subst this;rfl
  ·rcases List.mem_append.1 hu with hu|hu
   ·have:u=v:=(by simpa using hu);subst this;exact h u (List.mem_cons_self ..)
   ·exact Cp vs ps (fun x hx=>h x (List.mem_cons_of_mem _ hx)) u hu
theorem Cq{W:World}{base:Nat}{e:TypeId}{v:Value}{ps:List (Int×List Int)}{vs:List Value}(h:aZ W base e 1 v (ps.map bu) vs):∀u∈cY vs (ps.map bu),u.oneCell'=true:=by
 refine Cp vs ps (fun u hu=>?_);obtain⟨i,hi,rfl⟩:=List.getElem_of_mem hu;have hl:i<(ps.map bu).length:=by rw[←h.len];exact hi
 obtain⟨a,c,e⟩:=bO (h.dat i _ _ (List.getElem?_eq_getElem hi) (List.getElem?_eq_getElem hl));rw[e];rfl
theorem MW{W:World}{b0 b1 b2 b3 tt N:Nat}{ev lg:Int}{ca ua ra:Option Addr}{cc uc rc:Nat}{pv:Value}{us:List Value}(hC:W.ownsRow b0 55 2 (.slice ca (3+tt) cc) (3+tt) (l8 (.slice ua dj.length uc) (.slice ra 512 rc) 2++cY us ((fy N).map bu)))(hD:W.ownsRow b1 5 1 (.slice ua dj.length uc) dj.length (dj.map (Value.int .u8)))
 (hV:W.ownsRow b2 5 1 (.slice ra 512 rc) (fA N ev lg).length ((fA N ev lg).map (Value.int .u8))) (hU:aZ W b3 55 1 pv ((fy N).map bu) us) (ht:tt=bR (aL N)):j6 W 1 (.slice ca (3+tt) cc) ((jj N ev lg).map bu) ([.slice ua dj.length uc,.slice ra 512 rc,.slice ra 512 rc]++us):=by
 have WI:us.length=tt:=by rw[hU.len,length_map,mR,ht]
 have hpl:((jj N ev lg).map bu).length=3+tt:=by rw[length_map,vZ,ht]
 have hce:cY ([.slice ua dj.length uc,.slice ra 512 rc,.slice ra 512 rc]++us) ((jj N ev lg).map bu)=l8 (.slice ua dj.length uc) (.slice ra 512 rc) 2++cY us ((fy N).map bu):=rfl;refine⟨by rw[List.length_append,WI,hpl];rfl,fun l hl=>?_,⟨ca,cc,by rw[hpl],fun hn=>?_,?_⟩,fun i u l hu hl=>?_⟩
 ·obtain⟨p,_,rfl⟩:=List.mem_map.1 hl;rfl
 ·rcases hC.2 with⟨e,_⟩|⟨g,cap,cur,e,_⟩
  ·injection e with e1 e2 e3;omega
  ·injection e with e1 e2 e3;subst e1;refine⟨g,0,rfl,(hC.lt g rfl).2,fun j u hu=>?_⟩;rw[hce] at hu;have h:=hC.cells (g:=g) rfl j u hu;rw[Addr.add_mid] at h;exact h
 ·rw[hpl];rcases hC.2 with⟨e,_⟩|⟨g,cap,cur,e,_,_,h1,h2,_⟩
  ·injection e with e1 e2 e3;omega
  ·injection e with e1 e2 e3;subst e3;exact⟨h1,h2⟩
 ·match i with
  |0=>
   have e1:u=.slice ua dj.length uc:=(by simpa using hu.symm);have e2:l=bu (2,dj):=(by simpa [jj] using hl.symm);subst e1 e2;exact Rd.own hD
  |1=>
   have e1:u=.slice ra 512 rc:=(by simpa using hu.symm);have e2:l=bu (0,fA N ev lg):=(by simpa [jj] using hl.symm);subst e1 e2;exact Rd.own hV
  |2=>
   have e1:u=.slice ra 512 rc:=(by simpa using hu.symm);have e2:l=bu (1,fA N ev lg):=(by simpa [jj] using hl.symm);subst e1 e2;exact Rd.own hV
  |i+3=>
   have e1:us[i]?=some u:=(by simpa using hu);have e2:((fy N).map bu)[i]?=some l:=(by simpa [jj] using hl);exact Rd.own (hU.dat i u l e1 e2)
theorem MY{w:World}{base g L:Nat}{zs ys:List Int}(h:af w g (zs.map (Value.int .u8)).toArray 5)(hl:ys.length=L)(he:ys=zs)(hb:base≤g)(hm:ys.length≤maxLen):w.ownsRow base 5 1 (.slice (some ⟨g,0,none⟩) L L) ys.length (ys.map (Value.int .u8)):=by
 subst he;subst hl;exact⟨by simp,.inr ⟨g,_,_,rfl,hb,h,aj,hm,by simp,by rw[Nat.mul_one];exact List.take_of_length_le (by simp)⟩⟩
theorem Cr(N:Nat):List.replicate N (Value.int .i64 0)=(cU N 0).map (Value.int .i64):=by
 refine List.ext_getElem (by simp[cU]) (fun i h1 h2=>?_);simp[cU]
theorem MZ(ia ca fa:Option Addr)(ic cc fc N L:Nat)(w:World)(h:64≤N∧N≤2048)(hi:Rd .u8 w (.slice ia L ic) (eG N))(hL:L=N*512)(hR:Rd .u8 w (.slice ca 256 cc) ir)(hf:Rd .i64 w (.slice fa 1 fc) [2])(hg:eM w):
 Calls prog 19 #[.slice ia L ic,.agg bV,.slice ca 256 cc,.slice fa 1 fc] w fun e w'=>∃pa pc vs,e=.returned (.tuple #[.agg (an (aD 256 aq 0 0)),.slice pa 1 pc,.int .i64 0])∧aZ w' w.heap.size 55 1 (.slice pa 1 pc) ([((2:Int),dj)].map bu) vs∧Below w.heap.size w w':=by
 obtain⟨h1,h2,h3⟩:=Ly (.slice ia L ic) (.slice ca 256 cc);have hz:=gS N;refine(Mp w ia ca fa L ic 256 cc 1 fc 1 (eG N) ir [2] _ hi (by rw[hz];exact hL) (by rw[hz];omega) (sI N) (vG h) hR nD.symm (by rw[nD];omega) rfl hg hf rfl rfl h2 (by rw[h1];simp) (fun x hx=>?_)).mono ?_
 ·rw[h1] at hx;have:x=(2,dj):=by simpa using hx
  subst this;rw[hz,Nat.mul_div_cancel _ (by omega)];simp;omega
 ·rintro e w' ⟨pa,pc,vs,rfl,ho,hb⟩;rw[h1] at ho;rw[h3,h1];exact⟨pa,pc,vs,rfl,ho,hb⟩
theorem M0(bl ev lg:Int)(w:World)(hg:eM w)(hL:lE w):
 Calls prog 5 #[.int .i64 bl,.int .i64 ev,.int .i64 lg] w fun e w'=>Cm w w' bl ev lg e:=by
 obtain⟨i8,TS,WJ,RV,PK⟩:=info_parts vO;have Sh:=aa (ai TS (ai WJ (ai RV PK)));obtain⟨i0,hi0,hz0,hz1,hz2⟩:=info_parts vQ;have HI0:=aa (ai hi0 (ai hz0 (ai hz1 hz2)));obtain⟨ip,TN,WK,hsp,hbp⟩:=info_parts sE;have OL:=aa (ai TN (ai WK (ai hsp hbp)));have HG:=aa (ai hg hL);clear TS WJ RV PK hi0 hz0 hz1 hz2 TN WK hsp hbp hg hL;go_enter func5,ntmps5;go_wp2_with (go_at_call 17;fail);refine(Lt bl ev lg w).mono ?_;rintro e w1 ⟨fv,rfl,hf,b1⟩;have B1:=aa b1;clear b1;rcases hf with⟨hok,rfl⟩|⟨hok,m,hfl⟩
 case inr=>
  obtain⟨t',x',rfl⟩:=hfl.iface;have HF:=aa hfl;clear hfl;go_wp2_with (first
   |(
    go_at_call 18
    refine(ql m _ 19 _ _ HF.out (HG.out.1.below B1.out)).mono ?_;rintro e w3 ⟨rfl,b3⟩;have B3:=aa (B1.out.trans (b3.mono B1.out.size));clear b3)
   |fail)
  go_ret2;exact⟨_,by rw[if_neg (by rw[hok];decide)];rfl,by rw[if_neg (by rw[hok];decide)];exact sM _ _,B3.out⟩
 case inl=>
  obtain⟨N,rfl,hN,hev,Si⟩:=wg hok;have NA:=aa (ai hok (ai hev Si));have HN:=aa hN;obtain⟨hN1,hN2⟩:=hN;clear hok;obtain⟨E,rfl⟩:∃E:Nat,ev=(E:Int):=⟨ev.toNat,by have:=gQ hev;omega⟩;obtain⟨G,rfl⟩:∃G:Nat,lg=(G:Int):=⟨lg.toNat,by unfold gu at Si;simp at Si;omega⟩;clear hev Si;obtain⟨L,hL⟩:∃L:Nat,L=N*512:=⟨_,rfl⟩;have HL:=aa hL;have hLI:(N:Int)*512=(L:Int):=by omega
  have hLb:L≤1048576:=by omega
  clear hL;go_upto_region 5 with(first
   |(
    refine wpList_make_full _ rfl _ _ 22 rfl w1.heap.size 5 i8 (.int .u8 0) 1 underlying22 Sh.out.1 Sh.out.2.1 Sh.out.2.2.1 .i64 .i64 _ _ L rfl rfl (by go_num) (by go_num) (by rw[Sh.out.2.2.2];omega) (by unfold maxLen;omega) aj ?_;intro w2 o2 g2;have hm:(madeCells (Value.int .u8 0).cells (L*1)).toList=(eG N).map (Value.int .u8):=(by rw[iJ (.int .u8 0) L rfl,HL.out];unfold eG;rw[List.map_replicate]);rw[hm] at o2;have M2:=aa (qg o2);have b2:Below w1.heap.size w1 w2:=ak.grown g2 aj (fun r e=>by cases e);have B2:=aa (B1.out.trans (b2.mono B1.out.size));have S2:=aa b2.size;clear o2 g2 b2 hm)
   |fail)
  obtain⟨Ob,NT⟩:∃Ob,Ob=an (aD 256 aq 0 0):=⟨_,rfl⟩;have QX:=aa NT;have N9:=ae ((prog.info? 31).map (·.size)=some Ob.size) (by rw[NT,ct];exact ku);have NW:=ae (Ob.all (·.oneCell')=true) (by rw[NT];simp[an,Array.all_eq_true,Value.oneCell']);have NQ:=ae (bV.size=Ob.size) (by rw[NT,ct];rfl);clear NT;go_upto_region 8 with(first
   |(
    go_at_call 20
    refine(LG _).mono ?_;rintro e w3 ⟨tv,rfl,o3,b3⟩;rw[nD] at o3;obtain⟨ta,tc,rfl⟩:=bO o3;have T3:=aa o3;have M3:=aa (M2.out.below b3 M2.out.lt);have B3:=aa (B2.out.trans (b3.mono B2.out.size));have M3lt:=ae (w1.heap.size<w3.heap.size) (Nat.lt_of_lt_of_le M2.out.lt b3.size);have S3:=aa (aK S2.out b3.size);have XX:=ae (Calls prog 19 #[.slice (some ⟨w1.heap.size,0,none⟩) L L,.agg bV,.slice ta 256 tc,.slice (some ⟨w3.heap.size,0,none⟩) 1 1] (w3.alloc (.cells #[.int .i64 2] 3)) fun e w'=>∃pa pc vs,e=.returned (.tuple #[.agg Ob,.slice pa 1 pc,.int .i64 0])∧aZ w' (w3.alloc (.cells #[.int .i64 2] 3)).heap.size 55 1 (.slice pa 1 pc) ([((2:Int),dj)].map bu) vs∧Below (w3.alloc (.cells #[.int .i64 2] 3)).heap.size (w3.alloc (.cells #[.int .i64 2] 3)) w') (by
     rw[QX.out];exact MZ _ _ _ L tc 1 N L _ HN.out (qj (M3.out.alloc _) (by rw[gS,HL.out]) (by rw[gS];unfold maxLen;omega)) HL.out (by have h:=Rd.own (k:=.u8) (cC T3.out (ak.alloc aj (.cells #[.int .i64 2] 3)));exact h) (wh (zs:=[2]) (af.new w3 #[.int .i64 2] 3) rfl (by simp[maxLen])) (HG.out.1.below (B3.out.alloc B3.out.size _)))
    clear o3 b3)
   |(
    go_at_call 19
    refine XX.out.mono ?_;rintro e w5 ⟨pa,pc,vs,rfl,o5,b5⟩;have P5:=aa o5;have bq:Below w3.heap.size w3 w5:=(ak.alloc aj _).trans (b5.mono (by simp));have M5:=aa (M3.out.below bq M3.out.lt);have B5:=aa (B3.out.trans (bq.mono B3.out.size));have S5:=ae (w3.heap.size≤w5.heap.size) bq.size;clear o5 b5 bq)
   |(
    refine oV w.heap.size w rfl 31 _ _ rfl w5.heap.size Ob rfl rfl 31 bV (af.new w5 bV 31) N9.out NQ.out NW.out (B5.out.alloc B5.out.size _) B5.out.size ?_;intro w6 k6 b6 s6;have s6:=s6 w5 aj (fun k hk=>Below.heap_alloc w5 _ k hk);have R6:=aa k6;have B6:=aa b6;have M6:=aa (s6.blk M5.out);have P6:=aa (s6.own P5.out);have S6:=aa s6.1;clear k6 b6 s6)
   |fail)
  have hNm:N≤9223372036854775807:=by omega
  go_upto_region 9 with(first
   |(
    refine wpList_make_full _ rfl _ _ 45 rfl w6.heap.size 3 i0 (.int .i64 0) 1 underlying45 HI0.out.1 HI0.out.2.1 HI0.out.2.2.1 .i64 .i64 _ _ N rfl rfl rfl rfl (by rw[HI0.out.2.2.2];omega) (by unfold maxLen;omega) aj ?_;intro w7 o7 g7;have hm:(madeCells (Value.int .i64 0).cells (N*1)).toList=(cU N 0).map (Value.int .i64):=(by rw[iJ (.int .i64 0) N rfl];exact Cr N);rw[hm] at o7;have D7:=aa (qg o7);have b7:Below w6.heap.size w6 w7:=ak.grown g7 aj (fun r e=>by cases e);have B7:=aa (B6.out.trans (b7.mono B6.out.size));have M7:=aa (M6.out.below b7 M6.out.lt);have R7:=aa (R6.out.below b7 R6.out.lt);have P7:=aa (P6.out.below b7);have S7:=aa b7.size;have BL7:=aa b7;clear o7 g7 b7 hm)
   |fail)
  go_wp2;go_loopw [43] (fun i wr=>∃k:Nat,k≤3∧i=.int .i64 (k:Int)∧af wr w6.heap.size ((cU N k).map (Value.int .i64)).toArray 3∧Below w6.heap.size w6 wr) (fun i _=>3-(intOf i).toNat)
  case atStart=>exact⟨0,by omega,rfl,D7.out,BL7.out⟩
  case round=>
   obtain⟨k,hk,rfl,hD,hB⟩:=hrel;have HD:=aa hD;have HB:=aa hB;clear hD hB;by_cases hk3:k<3
   ·have Oc:(k:Int)<3:=(by omega);have hkN:(k:Int)<(N:Int):=(by omega);have cd:=HD.out.cell k;have hkl:k<((cU N k).map (Value.int .i64)).toArray.size:=(by simp[cU];omega);rw[Array.getElem?_eq_getElem hkl] at cd;have fd:=HD.out.frozen k;go_wp2;go_roundw
    case rel=>exact⟨k+1,by omega,by go_num,by rw[←pY N k (by omega),List.map_set, ←List.setIfInBounds_toArray];exact HD.out.set k _,HB.out.setCell (p:=⟨w6.heap.size,k,none⟩) aj _⟩
    case measure=>simp[intOf];omega
   ·obtain rfl:k=3:=(by omega);rename World=>w8
    have M8:=aa (M6.out.below HB.out M6.out.lt);have R8:=aa (R6.out.below HB.out R6.out.lt);have P8:=aa (P6.out.below HB.out);have B8:=aa (B6.out.trans (HB.out.mono B6.out.size));have S8:=aa HB.out.size;have S58:=ae (w5.heap.size≤w8.heap.size) (aK S6.out HB.out.size);clear M7 R7 P7 B7 S7 D7 BL7;have XY:=ae (Calls prog 21 #[.slice (some ⟨w1.heap.size,0,none⟩) L L,.agg bV,.slice (some ⟨w6.heap.size,0,none⟩) N N,.int .i64 3] w8 _) ((Ij (.slice (some ⟨w1.heap.size,0,none⟩) L L) (.slice (some ⟨w6.heap.size,0,none⟩) N N) (eG N) (cU N 3) 0 jM 0 0 3 w8 (qj M8.out (by rw[gS,HL.out]) (by rw[gS];unfold maxLen;omega)) (by rw[gS];omega) (sI N) rfl (wh HD.out (jr N 3).symm (by rw[jr];unfold maxLen;omega)) (by rw[jr];omega) (HG.out.1.below B8.out)).mono fun e w' hh=>Cl HN.out hh);have Sj:(prog.info? 47).map (·.size)=some 18:=fV;go_upto_region 15 with(first
     |(
      go_at_call 21
      go_loud (refine XY.out.mono ?_)
      go_loud (rintro e w9 ⟨wv,pv,us,rfl,o9,p9,b9⟩)
      obtain⟨wa,wc,rfl⟩:=bO o9;obtain⟨ma,mc,hpv⟩:=bO p9.row;rw[length_map,mR] at hpv;go_loud (subst hpv)
      obtain⟨MO,Nw⟩:∃MO,MO=((aD (4*(N:Int)) (ey (aL N)) (eA (aL N)) 0).map (Value.int .i64)++([.slice wa N wc,.int .i64 ((3+bR (aL N):Nat):Int),.slice ma (bR (aL N)) mc]:List Value)).toArray:=⟨_,rfl⟩;go_loud (rw[←Nw])
      have Qi:=aa Nw;have NY:=ae ((aD (4*(N:Int)) (ey (aL N)) (eA (aL N)) 0).length=15) (dw _ _ _ _ (jN _));have Ou:=ae (MO.size=18) (by rw[Nw,List.size_toArray,List.length_append,length_map,NY.out];rfl);have HMi:=ae ((prog.info? 47).map (·.size)=some MO.size) (by rw[Ou.out];exact fV);have UQ:=ae (iG.size=MO.size) (by rw[Ou.out];rfl);have HMo:=ae (MO.all (·.oneCell')=true) (by
       rw[Nw];refine all_oneCell_toArray (fun v hv=>?_);rcases List.mem_append.1 hv with hv|hv
       ·obtain⟨z,_,rfl⟩:=List.mem_map.1 hv;rfl
       ·simp at hv;rcases hv with rfl|rfl|rfl<;>rfl)
      have U9:=aa p9;have M9:=aa (M8.out.below b9 M8.out.lt);have R9:=aa (R8.out.below b9 R8.out.lt);have P9:=aa (P8.out.below b9);have B9:=aa (B8.out.trans (b9.mono B8.out.size));have S9:=aa b9.size;have S89:=aa b9.size;clear o9 p9 b9 Nw)
     |(
      refine oV w.heap.size w rfl 47 _ _ rfl w9.heap.size MO rfl rfl 47 iG (af.new w9 iG 47) HMi.out UQ.out HMo.out (B9.out.alloc B9.out.size _) B9.out.size ?_;intro je k10 b10 s10;have s10:=s10 w9 aj (fun k hk=>Below.heap_alloc w9 _ k hk);have WM:=aa k10;have B10:=aa b10;have M10:=aa (s10.blk M9.out);have UI:=aa (s10.blk R9.out);have P10:=aa (s10.own P9.out);have U10:=aa (s10.own U9.out);have S10:=aa s10.1;clear k10 b10 s10)
     |fail)
    go_upto_region 17 with fail;have QY:=ae (MO[16]?=some (.int .i64 ((3+bR (aL N):Nat):Int))) (by rw[Qi.out,List.getElem?_toArray,List.getElem?_append_right (by rw[length_map,NY.out];omega),length_map,NY.out];rfl);have QZ:=ae (MO[17]?=some (.slice ma (bR (aL N)) mc)) (by rw[Qi.out,List.getElem?_toArray,List.getElem?_append_right (by rw[length_map,NY.out];omega),length_map,NY.out];rfl);obtain⟨RM,UK⟩:∃RM,RM=an (aD (4*(N:Int)) (ey (aL N)) (eA (aL N)) 0):=⟨_,rfl⟩;have PS:=aa UK;have WN:=ae (∀(W:World),af W w9.heap.size MO 47→W.rangeAt w9.heap.size 0 RM.toList) (fun W hB j v hj=>by
     have hj2:j<15:=(by have:=(List.getElem?_eq_some_iff.1 hj).1;rw[UK,Array.length_toList,ct,NY.out] at this;exact this);rw[hB.cell (0+j),Nat.zero_add,Qi.out,List.getElem?_toArray,List.getElem?_append_left (by rw[length_map,NY.out];exact hj2), ←hj,UK];simp[an])
    have HMri:=ae ((prog.info? 31).map (·.size)=some RM.toList.length) (by rw[UK,Array.length_toList,ct,NY.out];exact ku);obtain⟨FC,Sk⟩:∃FC,FC=an (bC 1 (N:Int) ((3+bR (aL N):Nat):Int) 1 0 (E:Int) (G:Int) 256 aq 0 0 (4*(N:Int)) (ey (aL N)) (eA (aL N)) 0 iX):=⟨_,rfl⟩;have Rn:=ae (prog.built 52 [(0,.int .i64 1),(1,.int .i64 (N:Int)),(2,.int .i64 ((3+bR (aL N):Nat):Int)),(3,.int .i64 1),(5,.int .i64 (E:Int)),(6,.int .i64 (G:Int)),(7,.agg Ob),(8,.agg RM)]=some FC) (by rw[Sk,UK,QX.out];exact Cn _ _ _ _ _ _ _ _ (jN _));have SR:=AZ _ _ _ _ _ _ _ _ _ _ _ _ _ _ _ _ rfl (jN _) (Bb HN.out NA.out.2.1 NA.out.2.2);have WO:=aa (fun(W:World) (hL:lE W)=>(show Calls prog 22 #[.agg FC] W _ by
     rw[Sk];exact Kn 1 N (3+bR (aL N)) 1 0 E G 256 aq 0 0 (4*(N:Int)) (ey (aL N)) (eA (aL N)) 0 iX W rfl (jN _) (by simp[iX]) (by omega) (by omega) (by have:=nE HN.out;omega) (by omega) (by omega) (by have:=SR.g5;omega) (by have:=SR.g6;omega) SR.r1 SR.q1 SR.r2 SR.q2 SR.sn (vF _ _ _ _ _ _ _ _ _ _ _ _ _ _ _ _) hL))
    clear UK Sk SR;obtain⟨cu,NG⟩:∃cu:Int,cu=((3+bR (aL N):Nat):Int):=⟨_,rfl⟩;rw[←NG] at QY Rn;have HCu:=aa NG;clear NG;refine bg (fun w'=>af w' w5.heap.size Ob 31∧af w' w9.heap.size MO 47) ⟨(show af je.drew _ _ _ from UI.out),(show af je.drew _ _ _ from WM.out)⟩ fun hH=>?_;refine ah 0 (.int .i64 (N:Int)) rfl hH ?_;refine ah 1 (.pointer (some ⟨w9.heap.size,16,none⟩)) rfl hH ?_;refine ah 2 (.int .i64 cu) rfl hH ?_ (aH fun w' hw'=>by have c:=(af.cell hw'.2 16).trans QY.out;go_simp);refine ah 5 (.int .i64 (E:Int)) rfl hH ?_;refine ah 6 (.int .i64 (G:Int)) rfl hH ?_;refine ah 7 (.agg Ob) rfl hH ?_ (yieldsIf_load_mid (by rfl) 31 _ rfl w5.heap.size 0 rfl Ob.toList _ (fun w' h=>vP h.1) underlying31 rfl (by rw[Array.length_toList];exact N9.out));refine ah 8 (.pointer (some ⟨w9.heap.size,0,none⟩)) rfl hH ?_;refine ah 9 (.agg RM) rfl hH ?_ (yieldsIf_load_mid (by rfl) 31 _ rfl w9.heap.size 0 rfl RM.toList _ (fun w' h=>WN.out w' h.2) underlying31 rfl HMri.out);refine aG 3 rfl fun K hK=>?_;go_simp;refine(Bk _).mono ?_;rintro e NX ⟨B,rfl,kB,hB,b11⟩;have b11:Below je.heap.size je NX:=(ak.drew).trans b11;have B11:=aa (B10.out.trans (b11.mono B10.out.size));have M11:=aa (M10.out.below b11 M10.out.lt);have WQ:=aa (UI.out.below b11 UI.out.lt);have WR:=aa (WM.out.below b11 WM.out.lt);have P11:=aa (P10.out.below b11);have U11:=aa (U10.out.below b11);have S11:=aa b11.size;have S911:=ae (w9.heap.size<NX.heap.size) (Nat.lt_of_lt_of_le WM.out.lt b11.size);clear kB hB b11;refine hK.out _ _ ⟨WQ.out,WR.out⟩ (fun hH=>?_);clear hK K;try simp only[Act.put,av,ay,az,aA,aB,aC]
    refine ah 4 (.int .i64 1) rfl hH ?_ (aH fun w' hw'=>by have hf:=Lz (.int .i64 1) (.slice (some ⟨B,0,none⟩) 2 2);go_simp);refine aG 10 rfl fun K hK=>?_;unfold Oper.wp;rw[qS 52 _ rfl FC (by simp only[List.map_toArray,List.map_cons,List.map_nil];exact Rn.out),Oper.upon_value];refine hK.out _ _ ⟨WQ.out,WR.out⟩ (fun hH=>?_);clear hK K;try simp only[Act.put,av,ay,az,aA,aB,aC]
    refine aG 11 rfl fun K hK=>?_;go_simp;refine(WO.out _ (HG.out.2.below B11.out)).mono ?_;rintro e nx ⟨rv,rfl,N8,b12⟩;obtain⟨ra,rc,rfl⟩:=bO N8;have V12:=aa N8;have Pp:=aa (B11.out.trans (b12.mono B11.out.size));have M12:=aa (M11.out.below b12 M11.out.lt);have R12:=aa (WQ.out.below b12 WQ.out.lt);have K12:=aa (WR.out.below b12 WR.out.lt);have UL:=aa (P11.out.below b12);have U12:=aa (U11.out.below b12);have S12:=aa b12.size;clear N8 b12;refine hK.out _ _ ⟨R12.out,K12.out⟩ (fun hH=>?_);clear hK K;try simp only[Act.put,av,ay,az,aA,aB,aC]
    refine ah 12 (.slice ra 512 rc) rfl hH ?_;refine aV ?_;clear hH;clear M2 M3 M5 M6 M8 M9 M10 M11 R6 R8 R9 UI WQ WM WR P6 P8 P9 P10 P11 U9 U10 U11 T3 XX XY WO Rn WN;rcases UL.out.row.2 with⟨e,_⟩|⟨pb,WS,TY,e,hpb,q1,q2,q3,q4,q5⟩
    ·cases e
    injection e with e1 e2 e3;subst e1;subst e3;clear e2 q1 q2 q3 q4 q5 TY;obtain⟨u0,Oz⟩:∃u0,vs=[u0]:=by
     have h:=UL.out.len;match vs,h with
     |[u],_=>exact⟨u,rfl⟩
    subst Oz;have HPb:=aa (ai (show w3.heap.size+1≤pb by simpa using hpb) (P5.out.row.lt pb rfl).2);have PR12:=ae (nx.ownsRow w.heap.size 55 2 (.slice (some ⟨pb,0,none⟩) 1 pc) 1 (l8 u0 (.slice ra 512 rc) 0)) (cH UL.out.row (by have h1:=B3.out.size;simp;omega));clear hpb;go_wp2;go_loopw [11,72] (fun v i wr=>∃k:Nat,k≤2∧i=.int .i64 (k:Int)∧wr.ownsRow w.heap.size 55 2 v (1+k) (l8 u0 (.slice ra 512 rc) k)∧nx.grownBy wr (some pb)∧(v.ownBlock=some pb∨∃q,nx.heap.size≤q∧v.ownBlock=some q)) (fun _ i _=>2-(intOf i).toNat)
    case atStart=>exact⟨0,by omega,rfl,PR12.out,World.grownBy.refl _ _,.inl rfl⟩
    case round=>
     obtain⟨k,hk,rfl,ho,hgb,hbk⟩:=hrel;obtain⟨va,vc,rfl⟩:=bO ho;have HO:=aa ho;have QM:=aa hgb;have XM:=aa hbk;clear ho hgb hbk;by_cases hk2:k<2
     ·have Oc:(k:Int)<2:=(by omega);go_wp2_with (first
       |(
        at_builtin;refine wpList_append_own_at _ rfl (.tmp 75) (.tmp 79) 42 rfl w.heap.size 55 ip (.agg #[.int .i64 0,.slice none 0 0]) 2 32 underlying42 OL.out.1 OL.out.2.1 OL.out.2.2.1 OL.out.2.2.2 rfl (by decide) _ (1+k) _ rfl (cC HO.out (ak.alloc aj _)) ⟨wr.heap.size,0,none⟩ 1 1 [.int .i64 (k:Int),.slice ra 512 rc] rfl rfl (nu wr #[.int .i64 (k:Int),.slice ra 512 rc] 55) (by intro y hy;simp at hy;rcases hy with rfl|rfl<;>rfl) (by unfold maxLen;omega) (by omega) (by have h1:=Pp.out.size;have h2:=QM.out.size;simp;omega) ?_
        intro v3 w3' o3 g3 _ hb3;obtain⟨Sa,Sb,rfl⟩:=bO o3;have Rh:=ae (w3'.ownsRow w.heap.size 55 2 (.slice Sa (1+(k+1)) Sb) (1+(k+1)) (l8 u0 (.slice ra 512 rc) (k+1))) (by rw[MU _ _ k hk2];exact o3);have HG3:=aa (MV (Bv QM.out (.cells #[.int .i64 (k:Int),.slice ra 512 rc] 55)) g3 XM.out);have HB3:=ae ((Value.slice Sa (1+(k+1)) Sb).ownBlock=some pb∨∃q,nx.heap.size≤q∧(Value.slice Sa (1+(k+1)) Sb).ownBlock=some q) (by
         rcases hb3 with e|e
         ·have e2:(Value.slice Sa (1+(k+1)) Sb).ownBlock=(Value.slice va (1+k) vc).ownBlock:=e;rw[e2];exact XM.out
         ·exact .inr ⟨_,by have h2:=QM.out.size;simp;omega,e⟩)
        clear o3 g3 hb3)
       |fail)
      go_roundw
      case rel=>exact⟨k+1,by omega,by go_num,Rh.out,HG3.out,HB3.out⟩
      case measure=>simp[intOf];omega
     ·obtain rfl:k=2:=(by omega);rename World=>OI
      have hg1:w1.heap.size<w3.heap.size:=M3lt.out;have hpb5:pb<w5.heap.size:=HPb.out.2;have h35:w3.heap.size≤w5.heap.size:=S5.out;have h58:w5.heap.size≤w8.heap.size:=S58.out;have h89:w8.heap.size≤w9.heap.size:=S89.out;have h911:w9.heap.size<NX.heap.size:=S911.out;have M13:=ae (af OI w1.heap.size ((eG N).map (Value.int .u8)).toArray 5) ((QM.out.block _ M12.out.lt (fun e=>by have:=Option.some.inj e;have:=HPb.out.1;omega)).trans M12.out);have K13:=ae (af OI w9.heap.size MO 47) ((QM.out.block _ K12.out.lt (fun e=>by have:=Option.some.inj e;omega)).trans K12.out);have V13:=aa (oY V12.out (show pb<NX.heap.size by omega) QM.out);have XZ:=aa (Co U12.out (show pb<w8.heap.size by omega) QM.out);have D13:=ae (OI.ownsRow (w3.alloc (.cells #[.int .i64 2] 3)).heap.size 5 1 u0 dj.length (dj.map (Value.int .u8))) ((UL.out.dat 0 u0 _ rfl rfl).kept QM.out (ng (UL.out.dat 0 u0 _ rfl rfl) UL.out.row (by decide)));have Ux:=ae (Below w.heap.size w OI) (vU Pp.out QM.out (by have h1:=B3.out.size;have h2:=HPb.out.1;omega));obtain⟨ua,uc,rfl⟩:=bO D13.out;rcases HO.out.2 with⟨e,_⟩|⟨vb,vcp,vcur,e,hvb,q1,q2,q3,q4,q5⟩
      ·cases e
      injection e with e1 e2 e3;subst e1;subst e3;clear e2 q1 q2 q3 q4 q5 vcur hvb;have ht0:=(nE HN.out).2.2;have T0:=(nE HN.out).2.1;obtain⟨tt,Sm⟩:∃tt,tt=bR (aL N):=⟨_,rfl⟩;have T2:=aa Sm;have Rq:=ae (OI.ownsRow w8.heap.size 55 2 (.slice ma tt mc) tt (cY us ((fy N).map bu))) (by have h:=XZ.out.row;rw[length_map,mR, ←Sm] at h;exact h);rw[←Sm] at ht0 T0 QZ XZ;clear Sm;rcases Rq.out.2 with⟨e,e0⟩|⟨mb,mcp,Ua,e,hmb,q1,q2,q3,q4,q5⟩
      ·omega
      injection e with e1 e2 e3;subst e1;subst e3;clear e2 q1 q2 q3 q4 q5 Ua hmb;obtain⟨X0,Sn⟩:∃X0,X0=OI.alloc (.cells #[.slice (some ⟨vb,0,none⟩) 3 vc,.slice (some ⟨mb,0,none⟩) tt mc] 42):=⟨_,rfl⟩;have b14:Below OI.heap.size OI X0:=(by rw[Sn];exact ak.alloc aj _);have HCc:=aa (LP OI.heap.size vb 0 3 vc mb 0 tt mc (l8 (.slice ua dj.length uc) (.slice ra 512 rc) 2) (cY us ((fy N).map bu)) X0 (by rw[Sn];exact af.new _ _ _) rfl (Rq.out.1)
       ⟨Nat.lt_of_lt_of_le (HO.out.lt vb rfl).2 b14.size,fun j u hu=>(b14.cell (p:=⟨vb,0+j,none⟩) (HO.out.lt vb rfl).2).trans (by have h:=HO.out.cells (g:=vb) rfl j u hu;rw[Addr.add_mid] at h;exact h)⟩
       ⟨Nat.lt_of_lt_of_le (Rq.out.lt mb rfl).2 b14.size,fun j u hu=>(b14.cell (p:=⟨mb,0+j,none⟩) (Rq.out.lt mb rfl).2).trans (by have h:=Rq.out.cells (g:=mb) rfl j u hu;rw[Addr.add_mid] at h;exact h)⟩
       (by intro u hu;simp[l8] at hu;rcases hu with rfl|rfl|rfl|rfl|rfl|rfl<;>rfl) (Cq XZ.out) (by omega) (by omega))
      have D14:=aa (cC D13.out b14);have V14:=aa (cC V13.out b14);have U14:=aa (XZ.out.below b14);have M14:=aa (M13.out.below b14 M13.out.lt);have XC:=aa (Ux.out.trans (b14.mono Ux.out.size));have S14:=aa b14.size;have c17:=(K13.out.cell 17).trans QZ.out;have HW14:=aa Sn;clear Sn b14;go_wp2_with (first
       |(
        go_at_call 25
        rw[←HW14.out];refine HCc.out.mono ?_;rintro e j8 ⟨cv,rfl,o15,b15⟩;obtain⟨ca,cc,rfl⟩:=bO o15;have C15:=aa o15;have D15:=aa (cC D14.out b15);have V15:=aa (cC V14.out b15);have U15:=aa (U14.out.below b15);have M15:=aa (M14.out.below b15 M14.out.lt);have PO:=aa (XC.out.trans (b15.mono XC.out.size));clear o15 b15)
       |(
        go_at_call 24
        go_loud (have HPd:=Mu w1.heap.size N (eG N) (jj N (E:Int) (G:Int)) ([.slice ua dj.length uc,.slice ra 512 rc,.slice ra 512 rc]++us) ca (3+tt) cc j8 hN2 (gS N) M15.out (Cj HN.out _ _) (by rw[vZ,T2.out]) (by rw[vZ, ←T2.out];omega) (fun W' hW'=>MW (oY C15.out (by have h1:=S14.out;have h2:=M13.out.lt;omega) hW') (oY D15.out (by simp;omega) hW') (by have h:=oY V15.out (show w1.heap.size<NX.heap.size by omega) hW';rw[qi];exact h) (Co U15.out (show w1.heap.size<w8.heap.size by omega) hW') T2.out))
        go_loud (rw[←HL.out] at HPd)
        go_loud (refine HPd.mono ?_)
        rintro e w16 ⟨rfl,k16,g16⟩;have M16:=aa k16;have PR:=aa (vU PO.out g16 (by have h1:=B1.out.size;exact h1));clear k16 g16)
       |fail)
      go_ret2;refine⟨.slice (some ⟨w1.heap.size,0,none⟩) L L,?_,?_,PR.out⟩
      ·rw[if_pos NA.out.1];rfl
      ·rw[if_pos NA.out.1];exact MY M16.out (by rw[Int.toNat_natCast,sL HN.out,HL.out]) (by rw[Int.toNat_natCast];rfl) B1.out.size (by rw[Int.toNat_natCast,sL HN.out];unfold maxLen;omega)
end
end Go.Proofs.YtpplnhkpcpieoaaGreatDoor
