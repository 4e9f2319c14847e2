/- What MapFlush answers, in one form for both ways -/
import Derived.Test.YtlimollpocagiaaGreatDoorXa44
namespace Go.Proofs.YtlimollpocagiaaGreatDoor
open Go.Proofs.Tryz
open _root_.List (length_map getElem?_eq_getElem getD)
set_option linter.all false
set_option maxRecDepth 100000
set_option maxHeartbeats 16000000
section
open Go.RowKit
def gT(zs:List Int)(s:Int)(ds:List Int)(p q:Int)(ws:List Int)(cu:Int):List Int:=if cU zs s ds p q ws cu=0 then gr ((ws.length+127)/128) ws.length (fD zs s ds p q ws cu) else List.replicate 15 0
def fS(zs:List Int)(s:Int)(ds:List Int)(p q:Int)(ws:List Int)(cu:Int):List Int:=if cU zs s ds p q ws cu=0 then(cI zs s ds p q ws cu).1.ws else []
def j5(zs:List Int)(s:Int)(ds:List Int)(p q:Int)(ws:List Int)(cu:Int):Int:=if cU zs s ds p q ws cu=0 then((cI zs s ds p q ws cu).1.cu:Int) else 0
def fZ(zs:List Int)(s:Int)(ds:List Int)(p q:Int)(ws:List Int)(cu:Int):List (Int×List Int):=if cU zs s ds p q ws cu=0 then(cI zs s ds p q ws cu).1.od.map (bM ((ws.length+127)/128) (cI zs s ds p q ws cu).1.ws (fD zs s ds p q ws cu)) else []
def oM(c U:Int)(RL W:List Int)(PP:List (Int×List Int))(w w':World)(e:Ending):Prop:=∃wv pv vs,e=.returned (.tuple #[.agg (cJ RL wv U pv),.int .i64 c])∧w'.ownsRow w.heap.size 3 1 wv W.length (W.map (Value.int .i64))∧bL w' w.heap.size 44 1 pv (PP.map dz) vs∧Below w.heap.size w w'
theorem oJ.mo{w w':World}{zs:List Int}{s:Int}{ds:List Int}{p q:Int}{ws:List Int}{cu:Int}{e:Ending}(h:oJ w w' zs s ds p q ws cu e):oM (cU zs s ds p q ws cu) (j5 zs s ds p q ws cu) (gT zs s ds p q ws cu) (fS zs s ds p q ws cu) (fZ zs s ds p q ws cu) w w' e:=by
 obtain⟨h,hb⟩:=h;rcases h with⟨h1,h2⟩|⟨h1,wv,pv,vs,h2,h3,h4⟩
 ·refine⟨.slice none 0 0,.slice none 0 0,[],?_,?_,?_,hb⟩
  ·rw[h2];unfold gT j5;rw[if_neg h1,if_neg h1];rfl
  ·unfold fS;rw[if_neg h1];exact World.ownsRow_nil _ _ _ _
  ·unfold fZ;rw[if_neg h1];exact bL.nil _ _ _ _
 ·refine⟨wv,pv,vs,?_,?_,?_,hb⟩
  ·rw[h2,h1];unfold gT j5;rw[if_pos h1,if_pos h1];rfl
  ·unfold fS;rw[if_pos h1];have h5:=h3.1;rw[length_map,Nat.mul_one] at h5;rw[h5];exact h3
  ·unfold fZ;rw[if_pos h1];exact h4
theorem Eb(ws:List Int):(dK ws).length≤512:=by
 unfold dK;split
 ·rename_i h
  unfold eU at h;rw[Bool.and_eq_true,decide_eq_true_eq] at h;rw[kf,h.1];omega
 ·simp
theorem wQ{zs:List Int}{s:Int}{ds:List Int}{p q:Int}{ws:List Int}{cu:Int}(hw:ws.length≤1048576):(gT zs s ds p q ws cu).length=15∧(fS zs s ds p q ws cu).length≤1048576∧(fZ zs s ds p q ws cu).length≤17∧∀x∈fZ zs s ds p q ws cu,x.2.length≤512:=by
 by_cases hc:cU zs s ds p q ws cu=0
 ·have hok:dS zs s ds p q ws cu=true:=by
   cases h:dS zs s ds p q ws cu with
   |true=>rfl
   |false=>unfold cU at hc;rw[if_pos h] at hc;cases hc
  obtain⟨hsa,hsb,hnz,hsn,hcu⟩:=lO hok;have hrm:dP ws=true:=by unfold dS at hok;simp only[Bool.and_eq_true] at hok;exact hok.1.1.1.2
  have hlen:=oY ws hrm;have hwf:bg ((ws.length+127)/128) ws.length (cI zs s ds p q ws cu).1:=bg.run hlen.2 _ _ _ _ (oG rfl (oH hrm) hcu);have ho:=hwf.gh;unfold gT fS fZ;rw[if_pos hc,if_pos hc,if_pos hc];refine⟨by simp[gr],by rw[hwf.wl];exact hw,by rw[length_map];omega,fun x hx=>?_⟩;obtain⟨k,_,rfl⟩:=List.mem_map.1 hx;exact Eb _
 ·unfold gT fS fZ;rw[if_neg hc,if_neg hc,if_neg hc];exact⟨by simp,by simp,by simp,fun x hx=>by cases hx⟩
theorem gU{RL:List Int}(h:RL.length=15)(a1 a2:Option Addr)(n1 n2 c1 c2:Nat)(U:Int):(prog.info? 34).map (·.size)=some (cJ RL (.slice a1 n1 c1) U (.slice a2 n2 c2)).size∧cM.size=(cJ RL (.slice a1 n1 c1) U (.slice a2 n2 c2)).size∧(cJ RL (.slice a1 n1 c1) U (.slice a2 n2 c2)).all (·.oneCell')=true:=by
 refine⟨by rw[rJ h];exact fX,by rw[rJ h];rfl,?_⟩;unfold cJ;rw[List.all_toArray,List.all_append,List.all_map];simp[Value.oneCell']
theorem j6{w:World}{b:Nat}{RL:List Int}(h:RL.length=15){wv pv:Value}{U:Int}(k:af w b (cJ RL wv U pv) 34):w.cell? ⟨b,15,none⟩=some wv∧w.cell? ⟨b,16,none⟩=some (.int .i64 U)∧w.cell? ⟨b,17,none⟩=some pv∧w.rangeAt b 0 (RL.map (Value.int .i64)):=by
 have e:∀j:Nat,15≤j→(cJ RL wv U pv)[j]?=[wv,.int .i64 U,pv][j-15]?:=fun j hj=>by
  unfold cJ;rw[List.getElem?_toArray,List.getElem?_append_right (by simp[h];exact hj)];simp[h]
 refine⟨(k.cell 15).trans (e 15 (by omega)),(k.cell 16).trans (e 16 (by omega)),(k.cell 17).trans (e 17 (by omega)),fun j v hv=>?_⟩;have hj:j<15:=by have:=(List.getElem?_eq_some_iff.1 hv).1;simpa [h] using this
 rw[k.cell (0+j),Nat.zero_add];unfold cJ;rw[List.getElem?_toArray,List.getElem?_append_left (by simp[h];exact hj)];exact hv
theorem bL.Ec{W:World}{base b:Nat}{v:Value}{L:List NE}{vs:List Value}{C:Array Value}(h:bL W base 44 1 v L vs)(hb:af W b C 34)(cs:Array Value):bL (W.setRow b cs) base 44 1 v L vs:=
 ⟨h.len,h.pre,dh h.row (fun k hk=>l6 W b cs k (fun e=>eK h.row hb (by decide) (e▸hk))),fun i u l hu hl=>dh (h.dat i u l hu hl) (fun k hk=>l6 W b cs k (fun e=>eK (h.dat i u l hu hl) hb (by decide) (e▸hk))),h.one⟩
theorem lX{W:World}{a b:Nat}{C D:Array Value}{t u:TypeId}(h:af W a C t)(k:af W b D u)(htu:t≠u):a≠b:=fun e=>by
 subst e;have h1:W.heap[a]?=some (.cells C t (0,0)):=h;have h2:W.heap[a]?=some (.cells D u (0,0)):=k;rw[h1] at h2;injection h2 with h2;injection h2 with _ h2 _;exact htu h2
def dI(WB:World)(mc U:Int)(RL WW:List Int)(PP:List (Int×List Int))(v12 v13:Value)(wx:World):Prop:=
 ∃bx xa xc ya yc us,v12=.pointer (some ⟨bx,0,none⟩)∧v13=.int .i64 mc∧af wx bx (cJ RL (.slice xa WW.length xc) U (.slice ya PP.length yc)) 34∧Rd .i64 wx (.slice xa WW.length xc) WW∧jB wx 1 (.slice ya PP.length yc) (PP.map dz) us∧Below WB.heap.size WB wx
theorem dI.made{WB W:World}{mc U:Int}{RL WW:List Int}{PP:List (Int×List Int)}{bx base base2:Nat}{xa ya:Option Addr}{xc yc:Nat}{us:List Value}{M:Array Value}(hM:M=cJ RL (.slice xa WW.length xc) U (.slice ya PP.length yc))(hB:af W bx cM 34)(hx:WB.heap.size≤bx)(ho:W.ownsRow base 3 1 (.slice xa WW.length xc) WW.length (WW.map (Value.int .i64)))(hp:bL W base2 44 1 (.slice ya PP.length yc) (PP.map dz) us)(hY:Below WB.heap.size WB W):
 dI WB mc U RL WW PP (.pointer (some ⟨bx,0,none⟩)) (.int .i64 mc) (W.setRow bx M):=
 ⟨bx,xa,xc,ya,yc,us,rfl,rfl,by rw[←hM];exact hB.row _,Rd.own (dh ho (fun k hk=>l6 W bx M k (fun e=>eK ho hB (by decide) (e▸hk)))),(hp.Ec hB M).rd,below_setRow hY hx _⟩
theorem dI.below{WB wx:World}{mc U:Int}{RL WW:List Int}{PP:List (Int×List Int)}{v12 v13:Value}(h:dI WB mc U RL WW PP v12 v13 wx):Below WB.heap.size WB wx:=by
 obtain⟨_,_,_,_,_,_,_,_,_,_,_,h⟩:=h;exact h
theorem wR:(prog.info? 44).map (·.size)=some 2:=by kernel_rfl
theorem wS{W:World}{a:Option Addr}{n cap:Nat}{ps:List (Int×List Int)}{vs:List Value}(h:jB W 1 (.slice a n cap) (ps.map dz) vs)(k:Nat)(hk:k<ps.length):∃b off x ys v,n=ps.length∧a=some ⟨b,off,none⟩∧b<W.heap.size∧ps[k]?=some (x,ys)∧W.rangeAt b (off+k*2) [.int .i64 x,v]∧Rd .u8 W v ys:=by
 obtain⟨a',cap',e,hc,_,_⟩:=h.row;have hlen:(ps.map dz).length=ps.length:=by simp
 rw[hlen] at e hc;injection e with e1 e2 e3;subst e1;subst e3;obtain⟨b,off,rfl,hlt,hcell⟩:=hc (by omega);have hv:k<vs.length:=by rw[h.len,hlen];exact hk
 have h1:(ps.map dz)[k]?=some (dz ps[k]):=by simp[hk]
 have h2:vs[k]?=some vs[k]:=getElem?_eq_getElem hv;refine⟨b,off,ps[k].1,ps[k].2,vs[k],e2,rfl,hlt,by simp[hk],?_,h.dat k _ _ h2 h1⟩;intro j u hj;have hj2:j<2:=(List.getElem?_eq_some_iff.1 hj).1;have h3:=qE 1 vs (ps.map dz) h.len h.pre k j vs[k] (dz ps[k]) h2 h1 (by omega);rw[Nat.add_assoc];refine hcell _ _ (h3.trans ?_);rw[←hj];rfl
theorem Ed(zs:List Int)(ps:List (Int×List Int))(k:Nat)(p:Int×List Int)(h:ps[k]?=some p):ee zs (ps.take (k+1))=jE (ee zs (ps.take k)) p:=by
 obtain⟨hk,he⟩:=List.getElem?_eq_some_iff.1 h;rw[List.take_succ_eq_append_getElem hk,Cm,he,mM];rfl
theorem Ee(X ys:List Int)(o j:Nat)(hj:j<ys.length)(hf:o+ys.length≤X.length):(over X o (ys.take j)).set (o+j) (ys.getD j 0)=over X o (ys.take (j+1)):=by
 have hg:ys.getD j 0=ys[j]:=by simp only[getD,getElem?_eq_getElem hj,Option.getD_some]
 have l1:(ys.take j).length=j:=by rw[List.length_take];omega
 have l2:(ys.take (j+1)).length=j+1:=by rw[List.length_take];omega
 refine List.ext_getElem? (fun i=>?_);rw[List.getElem?_set,qP _ _ _ (by rw[l1];omega),qP _ _ _ (by rw[l2];omega),l1,l2,si _ _ _ (by rw[l1];omega),hg];by_cases h1:o+j=i
 ·subst h1;rw[if_pos rfl,if_pos (by omega),if_pos (by omega),List.getElem?_take,if_pos (by omega),Nat.add_sub_cancel_left,getElem?_eq_getElem hj]
 ·rw[if_neg h1];by_cases h2:o≤i∧i<o+j
  ·rw[if_pos h2,if_pos (by omega),List.getElem?_take,List.getElem?_take,if_pos (by omega),if_pos (by omega)]
  ·rw[if_neg h2,if_neg (by omega)]
theorem Ef(X ys:List Int)(o:Nat):over X o (ys.take 0)=X:=by
 unfold over;simp
theorem Eg:(prog.info? 5).map (fun i=>(i.zero,i.size,i.bytes))=some (some (.int .u8 0),1,1):=by kernel_rfl
theorem wT(N:Nat)(iv:Value)(zs:List Int)(ps:List (Int×List Int))(vs:List Value)(a:Option Addr)(n cap:Nat)(w:World)
 (hN:N≤2048) (hN0:0<N) (hz:zs.length=N*512) (hi:Rd .u8 w iv zs) (hp:∀p∈ps,gF N p) (hn:n=ps.length) (hl:ps.length≤100000)
 (HR:jB w 1 (.slice a n cap) (ps.map dz) vs):
 Calls prog 11 #[iv,.slice a n cap] w fun e w'=>∃v',e=.returned v'∧w'.ownsRow w.heap.size 5 1 v' (N*512) ((ee zs ps).map (Value.int .u8))∧Below w.heap.size w w':=by
 obtain⟨i0,hi0,hz0,hz1,hz2⟩:=info_parts Eg;obtain⟨ib,io,ic,rfl,hib,_,_,hic⟩:=hi.dj (by omega);have HI:=aa (ag hib hic);have HH:=aa HR;have HP:=aa hp;have HZ:=aa hz;obtain⟨L,hL⟩:∃L,L=N*512:=⟨_,rfl⟩;have HL:=aa hL;rw[show zs.length=L by rw[hz,hL], ←hL];have HN:=aa hn;have hnb:n≤100000:=by omega
 have hLb:L≤1048576:=by omega
 clear hi hib hic HR hp hz hL hn hl;go_enter func11,ntmps11;go_upto_region 2 with(first
  |(
   at_builtin;refine wpList_append_own _ rfl (.tmp 10) (.tmp 11) 22 rfl w.heap.size 5 i0 (.int .u8 0) 1 1 underlying22 hi0 hz0 hz1 hz2 rfl (by decide) _ 0 [] rfl (gN w _ 1) ⟨ib,io,none⟩ L ic (zs.map (Value.int .u8)) rfl (by rw[length_map,HZ.out,HL.out,Nat.mul_one]) (by
    intro j u hj;have hjl:j<zs.length:=(by simpa using(List.getElem?_eq_some_iff.1 hj).1);rw[Addr.add_mid];refine(((Below.refl w.heap.size w).alloc aj _).cell (p:=⟨ib,io+j,none⟩) HI.out.1).trans ?_;rw[HI.out.2 j hjl, ←hj,List.getElem?_map,getElem?_eq_getElem hjl];simp[getD,hjl]) (by intro u hu;obtain⟨z,_,rfl⟩:=List.mem_map.1 hu;rfl) (by unfold maxLen;omega) (by omega) (by simp) ?_
   intro v1 W1 o1 g1 _;rw[Nat.zero_add,List.nil_append] at o1;have O1:=aa o1;have B1:=ae (Below w.heap.size w W1) ((ak.alloc aj _).grown g1 (by simp) (fun r e=>by have e2:w.heap.size=r:=Option.some.inj e;omega));clear o1 g1)
  |fail)
 rcases O1.out.2 with⟨e,e0⟩|⟨g,gc,cur,e,hgb,q1,q2,q3,q4,q5⟩
 ·rw[HL.out] at e0;omega
 subst e;clear q1 q3 q4 q5;have HG:=aa hgb;have hgc:(L:Int)≤(gc:Int):=by omega
 clear hgb q2 cur;go_wp2;go_loopw [15] (fun i wr=>∃k:Nat,k≤n∧i=.int .i64 (k:Int)∧wr.ownsRow w.heap.size 5 1 (.slice (some ⟨g,0,none⟩) L gc) L ((ee zs (ps.take k)).map (Value.int .u8))∧Below w.heap.size w wr) (fun i _=>n-(intOf i).toNat)
 case atStart=>exact⟨0,Nat.zero_le _,rfl,O1.out,B1.out⟩
 case round=>
  obtain⟨k,hk,rfl,ho,hb⟩:=hrel;rename World=>wA
  have HO:=aa ho;have HB:=aa hb;clear ho hb O1 B1;by_cases hkn:k<n
  ·have hkI:(k:Int)<(n:Int):=(by omega);obtain⟨b,off,x,ys,v,hnp,rfl,hbl,hpk,hrg0,hrd⟩:=wS HH.out k (by rw[←HN.out];exact hkn);clear hnp;have hrg:wA.rangeAt b (off+k*2) [.int .i64 x,v]:=fun j u hj=>(HB.out.cell (p:=⟨b,off+k*2+j,none⟩) hbl).trans (hrg0 j u hj);clear hrg0;obtain⟨hpk1,hpk2⟩:=List.getElem?_eq_some_iff.1 hpk;have hok:gF N (x,ys):=(by rw[←hpk2];exact HP.out _ (List.getElem_mem hpk1));obtain⟨q,rfl⟩:∃q:Nat,x=(q:Int):=⟨x.toNat,by have:=hok.1;simp only at this;omega⟩;have hqN:q<N:=(by have:=hok.2.1;simp only at this;omega);have hyl:ys.length=512:=hok.2.2.1;obtain⟨X,hX⟩:∃X,X=ee zs (ps.take k):=⟨_,rfl⟩;have HXl:=ae (X.length=N*512) (by rw[hX];exact qQ _ _ (fun p hp=>HP.out p (List.mem_of_mem_take hp)) HZ.out);have HN2:=ae (ee zs (ps.take (k+1))=over X (q*512) ys) (by rw[Ed zs ps k _ hpk, ←hX];rfl);rw[←hX] at HO;obtain⟨b2,off2,c2,hv,hb2,_,_,hcell⟩:=hrd.dj (by omega);rw[hyl] at hv;have HYl:=aa hyl;have HRg:=aa hrg;have HCe:=aa (ag hb2 hcell);have HQ:=aa hqN;obtain⟨Q,hQ⟩:∃Q:Nat,Q=q*512:=⟨_,rfl⟩;have hqI:(q:Int)*512=(Q:Int):=(by omega);have hQL:Q+512≤L:=(by rw[HL.out];omega);have HQ2:=aa hQ;obtain⟨W3,hW3⟩:∃W3,W3=wA.alloc (.cells #[.int .i64 (q:Int),.slice (some ⟨b2,off2,none⟩) 512 c2] 44):=⟨_,rfl⟩;have K3:=ae (af W3 wA.heap.size #[.int .i64 (q:Int),.slice (some ⟨b2,off2,none⟩) 512 c2] 44) (by rw[hW3];exact af.new _ _ _);have b3:Below wA.heap.size wA W3:=(by rw[hW3];exact ak.alloc aj _);have HO3:=aa (bS HO.out b3);have HB3:=aa (HB.out.trans (b3.mono HB.out.size));have HW3:=aa hW3;have HGA:=ae (g<wA.heap.size) ((HO.out.lt g rfl).2);subst hv;clear hrg hW3 hrd hcell hb2 hok hpk hpk2 hX hbl hyl hqN hQ b3;go_upto_region 5 with(first|(refine wpList_load_mid rfl 44 _ rfl b (off+k*2) rfl [.int .i64 (q:Int),.slice (some ⟨b2,off2,none⟩) 512 c2] _ HRg.out underlying44 rfl wR ?_)|fail)
   rw[←HW3.out];have k1:=K3.out.cell 1;simp at k1;go_wp2;clear k1;go_loopw [22] (fun i wr=>∃j:Nat,j≤512∧i=.int .i64 (j:Int)∧wr.ownsRow w.heap.size 5 1 (.slice (some ⟨g,0,none⟩) L gc) L ((over X Q (ys.take j)).map (Value.int .u8))∧Below w.heap.size w wr∧af wr wA.heap.size #[.int .i64 (q:Int),.slice (some ⟨b2,off2,none⟩) 512 c2] 44) (fun i _=>512-(intOf i).toNat)
   case atStart=>exact⟨0,Nat.zero_le _,rfl,by rw[Ef];exact HO3.out,HB3.out,K3.out⟩
   case round=>
    obtain⟨j,hj,rfl,ho,hb,hk3⟩:=hrel;have HOj:=aa ho;have HBj:=aa hb;have HKj:=aa hk3;clear ho hb hk3;by_cases hj5:j<512
    ·have hjI:(j:Int)<512:=(by omega);have cj:=(HBj.out.cell (p:=⟨b2,off2+j,none⟩) HCe.out.1).trans (HCe.out.2 j (by rw[HYl.out];exact hj5));have HStep:=aa (Ee X ys Q j (by rw[HYl.out];exact hj5) (by rw[HYl.out,HXl.out, ←HL.out];exact hQL));generalize ys.getD j 0=y at cj HStep;obtain⟨M,hM⟩:∃M:Nat,M=Q+j:=⟨_,rfl⟩;rw[←hM] at HStep;have hMI:(Q:Int)+(j:Int)=(M:Int):=(by omega);have hML:(M:Int)<(L:Int):=(by omega);have hM2:M<L:=(by omega);have k0:=HKj.out.cell 0;simp at k0;obtain⟨cur,kb,hcs⟩:∃cur,af wr g cur 5∧M<cur.size:=by
      rcases HOj.out.2 with⟨e,_⟩|⟨g',cp,cur,e,_,hg,hnc,_,hcs,_⟩
      ·cases e
      ·injection e with e1 e2 e3;injection e1 with e1;injection e1 with e1 _;subst e1;exact⟨cur,hg,by omega⟩
     have cg:=kb.cell M;rw[Array.getElem?_eq_getElem hcs] at cg;have fg:=kb.frozen M;have HKb:=aa kb;clear hM kb hM2;go_wp2;go_roundw
     case rel=>exact⟨j+1,by omega,by go_num,by rw[←HStep.out,List.map_set];exact lI HOj.out rfl M (.int .u8 y),HBj.out.setCell (p:=⟨g,M,none⟩) HG.out _,HKj.out.other _ _ (by have h1:=HKb.out.lt;show wA.heap.size≠g;have:=HGA.out;omega)⟩
     case measure=>simp[intOf];omega
    ·obtain rfl:j=512:=(by omega);go_wp2;go_roundw
     case rel=>exact⟨k+1,by omega,by go_num,by rw[HN2.out, ←HQ2.out];have h:=HOj.out;rw[List.take_of_length_le (by rw[HYl.out];exact aj)] at h;exact h,HBj.out⟩
     case measure=>simp[intOf];omega
  ·obtain rfl:k=n:=(by omega);have q1:¬((k:Int)<(k:Int)):=(by omega);go_wp2;go_ret;have e:ps.take k=ps:=List.take_of_length_le (by rw[HN.out];exact aj);rw[e] at HO;exact⟨_,rfl,HO.out,HB.out⟩
def Src(W:World)(b:Nat)(v:Value)(n:Nat):Prop:=∃(i:Nat) (x:Int),i≤n∧0≤x∧x<18446744073709551616∧af W b #[v,.int .i64 (i:Int),.int .u64 x] 58
theorem Src.lt{W:World}{b:Nat}{v:Value}{n:Nat}(h:Src W b v n):b<W.heap.size:=by obtain⟨_,_,_,_,_,h⟩:=h;exact h.lt
theorem Src.below{W W':World}{b B:Nat}{v:Value}{n:Nat}(h:Src W b v n)(hb:Below B W W')(hB:b<B):Src W' b v n:=by
 obtain⟨i,x,h1,h2,h3,h4⟩:=h;exact⟨i,x,h1,h2,h3,h4.below hb hB⟩
def Dw(b:Nat)(W W':World):Prop:=W.grownBy W' (some b)∧W'.heap.size=W.heap.size
theorem Dw.trans{b:Nat}{A B C:World}(h:Dw b A B)(k:Dw b B C):Dw b A C:=⟨l5 h.1 k.1,k.2.trans h.2⟩
theorem Dw.under{b:Nat}{w0 w w':World}(h:Dw b w w')(h0:Below w0.heap.size w0 w)(hB:w0.heap.size≤b):Below w0.heap.size w0 w':=h0.grown h.1 h0.size (fun k e=>by cases e;exact hB)
theorem Dw.own{b:Nat}{W W':World}{base:Nat}{e:TypeId}{v:Value}{n:Nat}{xs:List Value}(h:Dw b W W')(hr:W.ownsRow base e 1 v n xs)(hb:b<base):W'.ownsRow base e 1 v n xs:=
 hr.kept h.1 (by
  cases hv:v.ownBlock with
  |none=>exact .inl rfl
  |some k=>exact .inr (fun e=>by have:=(hr.lt k hv).1;injection e with e;omega))
theorem Dw.rd{b:Nat}{k:IntKind}{W W':World}{v:Value}{zs:List Int}(w0:World)(h:Dw b W W')(hr:Rd k w0 v zs)(h0:Below w0.heap.size w0 W)(hb:w0.heap.size≤b):Rd k W' v zs:=hr.below (h.under h0 hb)
theorem Eh(v:Value)(zs:List Int)(w:World)(h:Rd .u8 w v zs)(hn:zs.length≤1048576):
 Calls prog 5 #[v] w fun e w'=>e=.returned (.pointer (some ⟨w.heap.size,0,none⟩))∧Src w' w.heap.size v zs.length∧Below w.heap.size w w'∧w'.heap.size=w.heap.size+1:=by
 obtain⟨a,cap,rfl,_⟩:=h;have HS:=ae (∀x:Int,0≤x→x<18446744073709551616→Src (w.alloc (.cells #[.slice a zs.length cap,.int .i64 0,.int .u64 x] 58)) w.heap.size (.slice a zs.length cap) zs.length) (fun x h0 h1=>⟨0,x,by omega,h0,h1,af.new w _ _⟩);go_enter func5,ntmps5;go_wp2;go_ret;refine⟨rfl,?_,ak.alloc aj _,by simp⟩;exact HS.out _ (by omega) (by omega)
theorem iH(n:Int):0≤IntKind.u64.wrap n∧IntKind.u64.wrap n<18446744073709551616:=by
 have:IntKind.u64.wrap n=n%18446744073709551616:=by simp[IntKind.wrap,IntKind.bits,IntKind.signed]
 rw[this];omega
theorem oO(y:Int)(k:Nat)(h0:0≤y)(h1:y<18446744073709551616)(hk0:1≤k)(hk:k≤1000000):wrap64 ((y/8589934592).tmod (k:Int))=((((y/8589934592)%(k:Int)).toNat:Nat):Int)∧((y/8589934592)%(k:Int)).toNat<k:=by
 have h2:0≤y/8589934592:=by omega
 have e:(y/8589934592).tmod (k:Int)=(y/8589934592)%(k:Int):=Int.tmod_eq_emod_of_nonneg h2;rw[e];have h3:0≤(y/8589934592)%(k:Int):=Int.emod_nonneg _ (by omega);have h4:(y/8589934592)%(k:Int)<(k:Int):=Int.emod_lt_of_pos _ (by omega);generalize (y/8589934592)%(k:Int)=q at h3 h4;unfold wrap64;omega
theorem Dw.one(b n:Nat)(w:World)(u:Value)(o:Nat):Dw b w ((w.drewN n).setCell ⟨b,o,none⟩ u):=
 ⟨⟨rfl,rfl,rfl,by simp,fun k hk hne=>Below.heap_setCell (w.drewN n) ⟨b,o,none⟩ u k (fun e=>hne (by rw[e]))⟩,by simp⟩
theorem Dw.more{b:Nat}{w w':World}(h:Dw b w w')(u:Value)(o:Nat):Dw b w (w'.setCell ⟨b,o,none⟩ u):=h.trans (Dw.one b 0 w' u o)
theorem wU(b:Nat)(k:Nat)(v:Value)(zs:List Int)(w:World)(h:Src w b v zs.length)(hr:Rd .u8 w v zs)(hbd:∀z∈zs,0≤z∧z<256)(hn:zs.length≤1048576)(hk0:1≤k)(hk:k≤1000000)
 (hne:0<zs.length→∀c,v.ownBlock=some c→c≠b):
 Calls prog 6 #[.pointer (some ⟨b,0,none⟩),.int .i64 (k:Int)] w fun e w'=>∃r:Nat,e=.returned (.int .i64 (r:Int))∧r<k∧Src w' b v zs.length∧Dw b w w':=by
 obtain⟨i,x,hi,hx0,hx1,hB⟩:=h;have c0:=(hB.cell 0).trans (show(#[v,.int .i64 (i:Int),.int .u64 x]:Array Value)[0]?=some v from rfl);have c1:=(hB.cell 1).trans (show(#[v,.int .i64 (i:Int),.int .u64 x]:Array Value)[1]?=some (.int .i64 (i:Int)) from rfl);have c2:=(hB.cell 2).trans (show(#[v,.int .i64 (i:Int),.int .u64 x]:Array Value)[2]?=some (.int .u64 x) from rfl);have f1:=hB.frozen 1;have f2:=hB.frozen 2;have KB:=aa hB;clear hB;by_cases hlt:i<zs.length
 ·obtain⟨cb,off,cap,rfl,hbw,_,_,hcell⟩:=hr.dj (by omega);have hcb:cb≠b:=hne (by omega) cb rfl;have cz:=hcell i hlt;have hz:=hbd (zs.getD i 0) (by rw[List.getD_eq_getElem?_getD,getElem?_eq_getElem hlt,Option.getD_some];exact List.getElem_mem _);generalize zs.getD i 0=z at cz hz;obtain⟨hz0,hz1⟩:=hz;clear hcell hr hbd hne;have HF:=ae (∀(n:Nat) (y:Int),Src (((w.drewN n).setCell ⟨b,1,none⟩ (.int .i64 ((i:Int)+1))).setCell ⟨b,2,none⟩ (.int .u64 (IntKind.u64.wrap y))) b (.slice (some ⟨cb,off,none⟩) zs.length cap) zs.length∧Dw b w (((w.drewN n).setCell ⟨b,1,none⟩ (.int .i64 ((i:Int)+1))).setCell ⟨b,2,none⟩ (.int .u64 (IntKind.u64.wrap y)))) (fun n y=>
   ⟨⟨
    i+1,_,by omega,(iH y).1,(iH y).2,by
    have h1:af (w.drewN n) b _ 58:=KB.out;exact(h1.set 1 (.int .i64 ((i:Int)+1))).set 2 (.int .u64 (IntKind.u64.wrap y))⟩,(Dw.one b n w _ 1).more _ 2⟩)
  by_cases hk1:k=1
  ·subst hk1;go_enter func6,ntmps6;go_wp2;go_quiet (fail)
   go_wp2;go_quiet (fail)
   go_wp2;go_ret;exact⟨0,rfl,by omega,(HF.out _ _).1,(HF.out _ _).2⟩
  ·have hk2:1<(k:Int):=(by omega);go_enter func6,ntmps6;go_wp2;go_quiet (fail)
   go_wp2;go_quiet (fail)
   go_wp2;go_ret;exact⟨_,fK (oO _ k (iH _).1 (iH _).2 hk0 hk).1,(oO _ k (iH _).1 (iH _).2 hk0 hk).2,(HF.out _ _).1,(HF.out _ _).2⟩
 ·have hsh:∃a cap,v=.slice a zs.length cap:=by obtain⟨a,cap,h1,_⟩:=hr;exact⟨a,cap,h1⟩
  obtain⟨a,cap,rfl⟩:=hsh;have HF:=ae (∀(n:Nat) (y:Int),Src ((w.drewN n).setCell ⟨b,2,none⟩ (.int .u64 (IntKind.u64.wrap y))) b (.slice a zs.length cap) zs.length∧Dw b w ((w.drewN n).setCell ⟨b,2,none⟩ (.int .u64 (IntKind.u64.wrap y)))) (fun n y=>
   ⟨⟨
    i,_,by omega,(iH y).1,(iH y).2,by
    have h1:af (w.drewN n) b _ 58:=KB.out;exact h1.set 2 (.int .u64 (IntKind.u64.wrap y))⟩,Dw.one b n w _ 2⟩)
  have hlt':¬(i:Int)<(zs.length:Int):=by omega
  clear hr hbd hne;by_cases hk1:k=1
  ·subst hk1;go_enter func6,ntmps6;go_wp2;go_quiet (fail)
   go_wp2;go_ret;exact⟨0,rfl,by omega,(HF.out _ _).1,(HF.out _ _).2⟩
  ·have hk2:1<(k:Int):=(by omega);go_enter func6,ntmps6;go_wp2;go_quiet (fail)
   go_wp2;go_ret;exact⟨_,fK (oO _ k (iH _).1 (iH _).2 hk0 hk).1,(oO _ k (iH _).1 (iH _).2 hk0 hk).2,(HF.out _ _).1,(HF.out _ _).2⟩
structure Sc(w0 W:World)(b:Nat)(cv:Value)(cs:List Int):Prop where
 src:Src W b cv cs.length
 hb:w0.heap.size≤b
 low:Below w0.heap.size w0 W
 rd:Rd .u8 w0 cv cs
 bd:∀z∈cs,0≤z∧z<256
 len:cs.length≤1048576
theorem Sc.own{w0 W W':World}{b B:Nat}{cv:Value}{cs:List Int}(h:Sc w0 W b cv cs)(hb:Below B W W')(hB:b<B):Sc w0 W' b cv cs:=
 ⟨h.src.below hb hB,h.hb,h.low.trans (hb.mono (by have:=h.hb;omega)),h.rd,h.bd,h.len⟩
theorem Sc.drawn{w0 W W':World}{b:Nat}{cv:Value}{cs:List Int}(h:Sc w0 W b cv cs)(hd:W.grownBy W' (some b))(hs:Src W' b cv cs.length):Sc w0 W' b cv cs:=
 ⟨hs,h.hb,h.low.grown hd h.low.size (fun k e=>by cases e;exact h.hb),h.rd,h.bd,h.len⟩
theorem Sc.ne{w0 W:World}{b:Nat}{cv:Value}{cs:List Int}(h:Sc w0 W b cv cs):0<cs.length→∀c,cv.ownBlock=some c→c≠b:=by
 intro h0 c hc;obtain⟨a,cap,rfl,_,hcell,_⟩:=h.rd;obtain⟨b',off,ea,hlt,_⟩:=hcell (by intro e;rw[e] at h0;simp at h0);subst ea;have:b'=c:=Option.some.inj hc;have:=h.hb;omega
theorem Sc.N{w0 W:World}{b:Nat}{cv:Value}{cs:List Int}(h:Sc w0 W b cv cs)(k:Nat)(hk0:1≤k)(hk:k≤1000000):
 Calls prog 6 #[.pointer (some ⟨b,0,none⟩),.int .i64 (k:Int)] W fun e w'=>∃z:Int,e=.returned (.int .i64 z)∧0≤z∧z<k∧Sc w0 w' b cv cs∧W.grownBy w' (some b):=by
 refine(wU b k cv cs W h.src (h.rd.below h.low) h.bd h.len hk0 hk h.ne).mono ?_;rintro e w' ⟨r,rfl,hr2,hs,hd⟩;exact⟨r,rfl,by omega,by omega,h.drawn hd.1 hs,hd.1⟩
structure Dn(w0 W wr:World)(b:Nat)(cv:Value)(cs:List Int):Prop where
 sc:Sc w0 wr b cv cs
 gb:W.grownBy wr (some b)
 lt:b<W.heap.size
theorem Dn.start{w0 W:World}{b:Nat}{cv:Value}{cs:List Int}(h:Sc w0 W b cv cs):Dn w0 W W b cv cs:=⟨h,World.grownBy.refl _ _,h.src.lt⟩
theorem Dn.own{w0 W wr wr':World}{b:Nat}{cv:Value}{cs:List Int}(h:Dn w0 W wr b cv cs)(hb:Below W.heap.size wr wr'):Dn w0 W wr' b cv cs:=
 ⟨h.sc.own hb h.lt,⟨hb.os.trans h.gb.os,hb.tape.trans h.gb.tape,hb.output.trans h.gb.output,aN h.gb.size hb.size,fun k hk hne=>(hb.block k hk).trans (h.gb.block k hk hne)⟩,h.lt⟩
theorem Dn.draw{w0 W wr wr':World}{b:Nat}{cv:Value}{cs:List Int}(h:Dn w0 W wr b cv cs)(hs:Sc w0 wr' b cv cs)(hg:wr.grownBy wr' (some b)):Dn w0 W wr' b cv cs:=⟨hs,l5 h.gb hg,h.lt⟩
theorem af.drawn{wr w':World}{g b:Nat}{c:Array Value}{t:TypeId}(h:af wr g c t)(hg:wr.grownBy w' (some b))(hne:g≠b):af w' g c t:=(hg.block g h.lt (fun e=>hne (Option.some.inj e))).trans h
theorem Dn.aW{w0 W wr wr':World}{g b:Nat}{cv:Value}{cs:List Int}{c:Array Value}{t:TypeId}(h:Dn w0 W wr b cv cs)(k:af wr g c t)(hg:wr.grownBy wr' (some b))(hge:W.heap.size≤g):af wr' g c t:=k.drawn hg (by have:=h.lt;omega)
theorem Dn.row{w0 W wr wr':World}{b base:Nat}{cv:Value}{cs:List Int}{e:TypeId}{sz n:Nat}{v:Value}{xs:List Value}(h:Dn w0 W wr b cv cs)(o:wr.ownsRow base e sz v n xs)(hg:wr.grownBy wr' (some b))(hb:W.heap.size≤base):wr'.ownsRow base e sz v n xs:=
 o.kept hg (by
  cases hv:v.ownBlock with
  |none=>exact .inl rfl
  |some k=>exact .inr (fun e=>by have:=(o.lt k hv).1;have:=h.lt;injection e with e;omega))
theorem Dn.jb{w0 W wr w7:World}{b base:Nat}{cv:Value}{cs:List Int}{e:TypeId}{sz n:Nat}{v:Value}{xs:List Value}{ob:Obj}(h:Dn w0 W wr b cv cs)(o:wr.ownsRow base e sz v n xs)(hg:(wr.alloc ob).grownBy w7 v.ownBlock)(hb:W.heap.size≤base):Dn w0 W w7 b cv cs:=
 h.own ((ak.alloc h.gb.size _).grown hg (by have:=h.gb.size;simp;omega) (fun k e=>aN hb (o.lt k e).1))
def rL:Value→Nat
 |.slice _ n _=>n
 |_=>0
theorem Ej{w:World}{base:Nat}{e:TypeId}{sz:Nat}{v:Value}{n:Nat}{xs:List Value}(h:w.ownsRow base e sz v n xs):rL v=n:=by
 rcases h.2 with⟨rfl,rfl⟩|⟨g,cap,_,rfl,_⟩<;>rfl
theorem ej{w:World}{base:Nat}{e:TypeId}{sz:Nat}{v:Value}{n:Nat}{xs:List Value}(h:w.ownsRow base e sz v n xs):∃a cap,v=.slice a n cap:=by
 rcases h.2 with⟨rfl,rfl⟩|⟨g,cap,_,rfl,_⟩
 ·exact⟨_,_,rfl⟩
 ·exact⟨_,_,rfl⟩
theorem lZ{w:World}{base:Nat}{e:TypeId}{sz:Nat}{v:Value}{n:Nat}{xs:List Value}(h:w.ownsRow base e sz v n xs)(hn:0<n):∃g cap,v=.slice (some ⟨g,0,none⟩) n cap:=by
 rcases h.2 with⟨rfl,rfl⟩|⟨g,cap,_,rfl,_⟩
 ·omega
 ·exact⟨_,_,rfl⟩
end
end Go.Proofs.YtlimollpocagiaaGreatDoor
