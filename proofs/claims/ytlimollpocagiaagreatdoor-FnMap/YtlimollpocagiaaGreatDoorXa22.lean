/- A map in the writing, in memory; the program's isStale -/
import Derived.Test.YtlimollpocagiaaGreatDoorXa20
import Derived.Test.YtlimollpocagiaaGreatDoorXa21
namespace Go.Proofs.YtlimollpocagiaaGreatDoor
open Go.Proofs.Tryz
open _root_.List (replicate)
set_option linter.all false
set_option maxRecDepth 100000
set_option maxHeartbeats 16000000
section
open Go.RowKit
def gZ:List (Nat×Nat)→List Value
 |[]=>[]
 |p::L=>.int .i64 (p.1:Int)::.int .i64 (p.2:Int)::gZ L
theorem uW:∀A B,gZ (A++B)=gZ A++gZ B
 |[],B=>rfl
 |p::A,B=>by simp only[List.cons_append,gZ,uW A B]
structure Fl(W:World)(base b:Nat)(C:Array Value)(R:Nat→Value)(LL:Nat→List Int)(vo:Value)(od:List (Nat×Nat))(cu:Int):Prop where
 box:af W b C 113
 at_:∀j,j<8→C[j]?=some (R j)
 row:∀j,j<8→W.ownsRow base 3 1 (R j) (LL j).length ((LL j).map (Value.int .i64))
 apart:∀i j,i<8→j<8→i≠j→(R i).ownBlock=none∨(R i).ownBlock≠(R j).ownBlock
 ord:C[8]?=some vo
 orow:W.ownsRow base 123 2 vo od.length (gZ od)
 cur:C[9]?=some (.int .i64 cu)
theorem Fl.below{W W':World}{base b:Nat}{C:Array Value}{R:Nat→Value}{LL:Nat→List Int}{vo:Value}{od:List (Nat×Nat)}{cu:Int}(h:Fl W base b C R LL vo od cu)(hb:Below W.heap.size W W'):Fl W' base b C R LL vo od cu:=
 ⟨h.box.below hb h.box.lt,h.at_,fun j hj=>bS (h.row j hj) hb,h.apart,h.ord,bS h.orow hb,h.cur⟩
theorem Fl.old{W:World}{base b:Nat}{C:Array Value}{R:Nat→Value}{LL:Nat→List Int}{vo:Value}{od:List (Nat×Nat)}{cu:Int}(h:Fl W base b C R LL vo od cu):dF W base b 2 C 113 (fun l=>R (2+l)) (fun l=>LL (2+l)):=
 ⟨h.box,fun l hl=>h.at_ (2+l) (by omega),fun l hl=>h.row (2+l) (by omega),fun l m hl hm hne=>h.apart (2+l) (2+m) (by omega) (by omega) (by omega)⟩
theorem Fl.iM{W:World}{base b:Nat}{C:Array Value}{R:Nat→Value}{LL:Nat→List Int}{vo:Value}{od:List (Nat×Nat)}{cu:Int}(h:Fl W base b C R LL vo od cu):dF W base b 5 C 113 (fun l=>R (5+l)) (fun l=>LL (5+l)):=
 ⟨h.box,fun l hl=>h.at_ (5+l) (by omega),fun l hl=>h.row (5+l) (by omega),fun l m hl hm hne=>h.apart (5+l) (5+m) (by omega) (by omega) (by omega)⟩
theorem Fl.rd{W:World}{base b:Nat}{C:Array Value}{R:Nat→Value}{LL:Nat→List Int}{vo:Value}{od:List (Nat×Nat)}{cu:Int}(h:Fl W base b C R LL vo od cu)(j:Nat)(hj:j<8):∃a c,R j=.slice a (LL j).length c∧C[j]?=some (.slice a (LL j).length c)∧Rd .i64 W (.slice a (LL j).length c) (LL j):=by
 obtain⟨a,c,e⟩:=dM (h.row j hj);refine⟨a,c,e,by rw[←e];exact h.at_ j hj,?_⟩;rw[←e];exact Rd.own (h.row j hj)
def iD(LL:Nat→List Int)(l r:Nat):Bool:=decide ((LL (5+l)).getD r 0=0)&&(decide ((LL (2+l)).getD r 0=0)||if l=0 then decide (cq (LL 1) r≠cq (LL 0) r) else decide (iC (fun l=>LL (5+l)) 0 r≠replicate 128 0))
theorem uX{P:Program}{ops:Array Oper}{S:World→Prop}{o:Oper}{a:Act}(hw:Region.wanted o (yielded ops a.tmps)=true)(t u:TypeId)(x y:Operand)(ho:o.op=.binOp .neq t x y u)
 (cs ds:Array Value) (hx:a.eval x=.agg cs) (hy:a.eval y=.agg ds) (hm:P.eqGuardType P.depth t=false) (b:Bool) (hE:∀w,(Op.equalIn 10000 t (.agg cs) (.agg ds)).run P w=.ok b w):YieldsIf P ops S o (.bool (!b)) a:=
 .inl ⟨hw,fun w hw'=>by simp[execOp,ho,hx,hy,run_eqGuard_agg w _ _ _ _ _ _ hm,run_neq_struct,hE w,Result.andThen]⟩
theorem iF{w:World}{g l r:Nat}(h:af w g #[.int .i64 (l:Int),.int .i64 (r:Int)] 123):w.rangeAt g 0 [.int .i64 (l:Int),.int .i64 (r:Int)]:=by
 intro j v hj;rw[Nat.zero_add,h.cell j];simpa using hj
theorem Be:∃Z:Array Value,Z=((replicate 128 (0:Int)).map (Value.int .i64)).toArray∧∀(ρ:Operand→Value) (o:Oper) (w:World),o.op=.build 127 #[]→(execOp ρ o).run prog w=.ok (.value (.agg Z)) w:=by
 refine⟨_,rfl,fun ρ o w ho=>?_⟩;rw[tK];simp only[execOp,ho];kernel_rfl
theorem Bf(base b l r:Nat)(C:Array Value)(R:Nat→Value)(LL:Nat→List Int)(vo:Value)(od:List (Nat×Nat))(cu:Int)(w:World)(h:Fl w base b C R LL vo od cu)(hl:l<2)(hr:r≤700)(hn1:l=0→128*r<(LL 1).length∧128*r<(LL 0).length)(hn2:(LL 0).length≤2048∧(LL 1).length≤2048):
 Calls prog 66 #[.pointer (some ⟨b,0,none⟩),dD l r] w fun e w'=>e=.returned (.bool (iD LL l r))∧Below w.heap.size w w':=by
 obtain⟨W1,hW1⟩:∃W1,W1=w.alloc (.cells #[.int .i64 (l:Int),.int .i64 (r:Int)] 123):=⟨_,rfl⟩;have B1:=ae (Below w.heap.size w W1) (by rw[hW1];exact ak.alloc aj _);have K1:=ae (af W1 w.heap.size #[.int .i64 (l:Int),.int .i64 (r:Int)] 123) (by rw[hW1];exact af.new w _ _);have HW:=aa hW1;have HF:=aa (h.below B1.out);have HH:=aa (ag hl (ag hr (ag hn1 hn2)));obtain⟨x,hx⟩:∃x,x=(LL (5+l)).getD r 0:=⟨_,rfl⟩;obtain⟨y,hy⟩:∃y,y=(LL (2+l)).getD r 0:=⟨_,rfl⟩;have HX:=aa hx;have HY:=aa hy;clear hW1 h hl hr hn1 hn2 hx hy;go_enter func66,ntmps66;unfold dD;go_upto_region 1 with fail;rw[←HW.out];refine cr (fun w'=>af w' w.heap.size #[.int .i64 (l:Int),.int .i64 (r:Int)] 123) (show af W1.drew w.heap.size #[.int .i64 (l:Int),.int .i64 (r:Int)] 123 from K1.out) fun hH=>?_;refine ah 0 (.pointer (some ⟨b,0,none⟩)) rfl hH ?_;refine ah 1 (.pointer (some ⟨b,0,none⟩)) rfl hH ?_;refine ah 2 (.pointer (some ⟨b,5,none⟩)) rfl hH ?_;refine ah 3 (.agg #[.int .i64 (l:Int),.int .i64 (r:Int)]) rfl hH ?_ (yieldsIf_load_mid (by rfl) 123 _ rfl w.heap.size 0 rfl [.int .i64 (l:Int),.int .i64 (r:Int)] _ (fun w' h=>iF h) underlying123 rfl ey);refine aG 4 rfl fun K hK=>?_;go_simp;refine(jz b 5 l r C 113 _ _ base _ (HF.out.iM.below ak.drew) (by have:=HH.out.1;omega) (by have:=HH.out.2.1;omega)).mono ?_;rintro e w2 ⟨rfl,b2⟩;have B2:=ae (Below W1.heap.size W1 w2) ((ak.drew).trans b2);have K2:=aa (K1.out.below B2.out K1.out.lt);refine hK.out _ _ K2.out (fun hH=>?_);clear hK K b2;try simp only[Act.put,aq,au,av,ay,az,aA]
 rw[←HX.out];refine ah 5 (.bool (x !=0)) rfl hH ?_;refine aG 6 rfl fun K hK=>?_;go_simp;refine hK.out _ _ K2.out (fun hH=>?_);clear hK K;try simp only[Act.put,aq,au,av,ay,az,aA]
 refine bz ?_;clear hH;have F2:=aa (HF.out.below B2.out);have Q2:=aa (B1.out.trans (B2.out.mono B1.out.size));clear B2 HF B1 K1 HW;by_cases hx0:x=0
 case neg=>
  have hxb:(x !=0)=true:=by simpa using hx0
  have HR:=ae (iD LL l r=false) (by unfold iD;rw[←HX.out,decide_eq_false hx0];rfl);rw[hxb];clear hx0 hxb;go_wp2;go_ret;exact⟨by rw[HR.out];rfl,Q2.out⟩
 have hxb:(x !=0)=false:=by simp[hx0]
 have HX0:=aa hx0;rw[hxb];clear hx0 hxb;go_upto_region 3 with fail;refine cr (fun w'=>af w' w.heap.size #[.int .i64 (l:Int),.int .i64 (r:Int)] 123) (show af w2.drew w.heap.size #[.int .i64 (l:Int),.int .i64 (r:Int)] 123 from K2.out) fun hH=>?_;refine ah 0 (.pointer (some ⟨b,0,none⟩)) rfl hH ?_;refine ah 1 (.pointer (some ⟨b,0,none⟩)) rfl hH ?_;refine ah 2 (.pointer (some ⟨b,2,none⟩)) rfl hH ?_;refine ah 3 (.agg #[.int .i64 (l:Int),.int .i64 (r:Int)]) rfl hH ?_ (yieldsIf_load_mid (by rfl) 123 _ rfl w.heap.size 0 rfl [.int .i64 (l:Int),.int .i64 (r:Int)] _ (fun w' h=>iF h) underlying123 rfl ey);refine aG 4 rfl fun K hK=>?_;go_simp;refine(jz b 2 l r C 113 _ _ base _ (F2.out.old.below ak.drew) (by have:=HH.out.1;omega) (by have:=HH.out.2.1;omega)).mono ?_;rintro e w3 ⟨rfl,b3⟩;have B3:=ae (Below w2.heap.size w2 w3) ((ak.drew).trans b3);have K3:=aa (K2.out.below B3.out K2.out.lt);refine hK.out _ _ K3.out (fun hH=>?_);clear hK K b3;try simp only[Act.put,aq,au,av,ay,az,aA]
 rw[←HY.out];refine ah 5 (.bool (y==0)) rfl hH ?_;refine aG 6 rfl fun K hK=>?_;go_simp;refine hK.out _ _ K3.out (fun hH=>?_);clear hK K;try simp only[Act.put,aq,au,av,ay,az,aA]
 refine bz ?_;clear hH;have F3:=aa (F2.out.below B3.out);have Q3:=aa (Q2.out.trans (B3.out.mono Q2.out.size));clear B3 F2 Q2 K2;by_cases hy0:y=0
 case pos=>
  have hyb:(y==0)=true:=by simpa using hy0
  have HR:=ae (iD LL l r=true) (by unfold iD;rw[←HX.out, ←HY.out,HX0.out,hy0];rfl);rw[hyb];clear hy0 hyb;go_wp2;go_ret;exact⟨by rw[HR.out];rfl,Q3.out⟩
 have hyb:(y==0)=false:=by simpa using hy0
 have HY0:=aa hy0;rw[hyb];clear hy0 hyb;have cS:=(K3.out.cell 0).trans (show _=some (.int .i64 (l:Int)) from rfl);by_cases hl0:l=0
 ·have HL0:=aa hl0;have hlb:((l:Int)==0)=true:=by simp[hl0]
  obtain⟨q,hq⟩:∃q,q=decide (cq (LL 1) r=cq (LL 0) r):=⟨_,rfl⟩;have HQ:=aa hq;have HR:=ae (iD LL l r=!q) (by
   rw[hq];unfold iD;rw[←HX.out, ←HY.out,HX0.out,decide_eq_false HY0.out,if_pos hl0];simp)
  obtain⟨a1,c1,_,e1,hr1⟩:=F3.out.rd 1 (by omega);obtain⟨a0,c0,_,e0,hr0⟩:=F3.out.rd 0 (by omega);have hN1:=(HH.out.2.2.1 hl0).1;have hN0:=(HH.out.2.2.1 hl0).2;have hM:=HH.out.2.2.2;obtain⟨n1,hn1⟩:∃n,n=(LL 1).length:=⟨_,rfl⟩;obtain⟨n0,hn0⟩:∃n,n=(LL 0).length:=⟨_,rfl⟩;have HN:=aa (ag hn1 hn0);rw[←hn1] at e1 hr1 hN1 hM;rw[←hn0] at e0 hr0 hN0 hM;have R1:=aa hr1;have R0:=aa hr0;have HC:=ae (∀w',af w' b C 113→w'.cell? ⟨b,1,none⟩=some (.slice a1 n1 c1)∧w'.cell? ⟨b,0,none⟩=some (.slice a0 n0 c0)) (fun w' hw=>⟨(hw.cell 1).trans e1,(hw.cell 0).trans e0⟩);clear hq hl0 e1 e0 hr1 hr0 hn1 hn0;go_upto_region 6 with fail;refine cr (fun w'=>af w' w.heap.size #[.int .i64 (l:Int),.int .i64 (r:Int)] 123∧af w' b C 113) ⟨K3.out,F3.out.box⟩ fun hH=>?_;refine ah 0 (.pointer (some ⟨b,0,none⟩)) rfl hH ?_;refine ah 1 (.pointer (some ⟨b,0,none⟩)) rfl hH ?_;refine ah 2 (.pointer (some ⟨b,1,none⟩)) rfl hH ?_;refine ah 3 (.slice a1 n1 c1) rfl hH ?_ (aH fun w' hw'=>by have hc:=(HC.out w' hw'.2).1;clear hw';go_simp);refine ah 4 (.pointer (some ⟨w.heap.size,1,none⟩)) rfl hH ?_;refine ah 5 (.int .i64 (r:Int)) rfl hH ?_ (aH fun w' hw'=>by have hc:=(af.cell hw'.1 1).trans (show _=some (.int .i64 (r:Int)) from rfl);clear hw';go_simp);refine ah 7 (.pointer (some ⟨b,0,none⟩)) rfl hH ?_;refine ah 8 (.pointer (some ⟨b,0,none⟩)) rfl hH ?_;refine ah 9 (.pointer (some ⟨b,0,none⟩)) rfl hH ?_;refine ah 10 (.slice a0 n0 c0) rfl hH ?_ (aH fun w' hw'=>by have hc:=(HC.out w' hw'.2).2;clear hw';go_simp);refine ah 11 (.pointer (some ⟨w.heap.size,1,none⟩)) rfl hH ?_;refine ah 12 (.int .i64 (r:Int)) rfl hH ?_ (aH fun w' hw'=>by have hc:=(af.cell hw'.1 1).trans (show _=some (.int .i64 (r:Int)) from rfl);clear hw';go_simp);refine aG 6 rfl fun K hK=>?_;go_simp;refine(qD a1 n1 c1 r (LL 1) _ (R1.out.below ak.drew) HN.out.1 hN1 hM.2).mono ?_;rintro e w4 ⟨rfl,b4⟩;obtain⟨A1,hA1⟩:∃A,A=((cq (LL 1) r).map (Value.int .i64)).toArray:=⟨_,rfl⟩;rw[←hA1];have HA1:=aa hA1;have B4:=ae (Below w3.heap.size w3 w4) ((ak.drew).trans b4);have S4:=aa (ag (K3.out.below B4.out K3.out.lt) (F3.out.box.below B4.out F3.out.box.lt));refine hK.out _ _ S4.out (fun hH=>?_);clear hK K b4 hA1;try simp only[Act.put,aq,au,av,ay,az,aA]
  refine aG 13 rfl fun K hK=>?_;go_simp;refine(qD a0 n0 c0 r (LL 0) _ (R0.out.below B4.out) HN.out.2 hN0 hM.1).mono ?_;rintro e w5 ⟨rfl,b5⟩;obtain⟨A0,hA0⟩:∃A,A=((cq (LL 0) r).map (Value.int .i64)).toArray:=⟨_,rfl⟩;rw[←hA0];have HA0:=aa hA0;have B5:=aa (B4.out.trans (b5.mono B4.out.size));have S5:=aa (ag (K3.out.below B5.out K3.out.lt) (F3.out.box.below B5.out F3.out.box.lt));refine hK.out _ _ S5.out (fun hH=>?_);clear hK K b5 hA0 S4;try simp only[Act.put,aq,au,av,ay,az,aA]
  refine ah 14 (.bool (!q)) rfl hH ?_ (uX (by rfl) 127 127 _ _ rfl A1 A0 rfl rfl tH _ (fun w=>by rw[HA1.out,HA0.out,HQ.out];exact tJ w _ _ (uS _ _) (uS _ _)));refine aG 15 rfl fun K hK=>?_;go_simp;refine hK.out _ _ S5.out (fun hH=>?_);clear hK K;try simp only[Act.put,aq,au,av,ay,az,aA]
  refine bz ?_;clear hH;rw[←HR.out];have Q5:=aa (Q3.out.trans (B5.out.mono Q3.out.size));clear B5 S5 B4;go_wp2;go_ret;exact⟨rfl,Q5.out⟩
 ·have HL1:=ae (l=1) (by have:=HH.out.1;omega);have hlb:((l:Int)==0)=false:=by simpa using hl0
  obtain⟨q,hq⟩:∃q,q=decide (iC (fun l=>LL (5+l)) 0 r=replicate 128 0):=⟨_,rfl⟩;have HQ:=aa hq;have HR:=ae (iD LL l r=!q) (by
   rw[hq];unfold iD;rw[←HX.out, ←HY.out,HX0.out,decide_eq_false HY0.out,if_neg hl0];simp)
  obtain⟨Z,hZ,hBd⟩:=Be;have HZ:=aa hZ;clear hq hl0 hZ;go_upto_region 7 with fail;refine cr (fun w'=>af w' w.heap.size #[.int .i64 (l:Int),.int .i64 (r:Int)] 123) (show af w3.drew w.heap.size #[.int .i64 (l:Int),.int .i64 (r:Int)] 123 from K3.out) fun hH=>?_;refine ah 0 (.pointer (some ⟨b,0,none⟩)) rfl hH ?_;refine ah 1 (.pointer (some ⟨b,0,none⟩)) rfl hH ?_;refine ah 2 (.pointer (some ⟨b,5,none⟩)) rfl hH ?_;refine ah 3 (.agg #[.int .i64 (l:Int),.int .i64 (r:Int)]) rfl hH ?_ (yieldsIf_load_mid (by rfl) 123 _ rfl w.heap.size 0 rfl [.int .i64 (l:Int),.int .i64 (r:Int)] _ (fun w' h=>iF h) underlying123 rfl ey);refine ah 5 (.agg Z) rfl hH ?_ (iJ ⟨by rfl,fun w' hw'=>hBd _ _ _ rfl⟩);refine aG 4 rfl fun K hK=>?_;go_simp;have hsp:(Value.agg #[.int .i64 (l:Int),.int .i64 (r:Int)])=dD (0+1) r:=by rw[HL1.out]
  rw[hsp];refine(uR b 5 0 r C 113 _ _ base _ (F3.out.iM.below ak.drew) (by omega) HH.out.2.1).mono ?_;rintro e w4 ⟨rfl,b4⟩;obtain⟨A1,hA1⟩:∃A,A=((iC (fun l=>LL (5+l)) 0 r).map (Value.int .i64)).toArray:=⟨_,rfl⟩;rw[←hA1];have HA1:=aa hA1;have B4:=ae (Below w3.heap.size w3 w4) ((ak.drew).trans b4);have S4:=aa (K3.out.below B4.out K3.out.lt);refine hK.out _ _ S4.out (fun hH=>?_);clear hK K b4 hA1 hsp;try simp only[Act.put,aq,au,av,ay,az,aA]
  refine ah 6 (.bool (!q)) rfl hH ?_ (uX (by rfl) 127 127 _ _ rfl A1 Z rfl rfl tH _ (fun w=>by rw[HA1.out,HZ.out,HQ.out];exact tJ w _ _ (by simp[iC]) (by simp)));refine aG 7 rfl fun K hK=>?_;go_simp;refine hK.out _ _ S4.out (fun hH=>?_);clear hK K;try simp only[Act.put,aq,au,av,ay,az,aA]
  refine bz ?_;clear hH;rw[←HR.out];have Q5:=aa (Q3.out.trans (B4.out.mono Q3.out.size));clear B4 S4;go_wp2;go_ret;exact⟨rfl,Q5.out⟩
def dz(p:Int×List Int):NE:=([.int .i64 p.1],p.2)
theorem Bg(P:List (Int×List Int)):∀l∈P.map dz,l.1.length=1:=by
 intro l hl;rw[List.mem_map] at hl;obtain⟨p,_,rfl⟩:=hl;rfl
theorem bL.EA{w:World}{base n:Nat}{v:Value}(h:w.ownsRow base 44 2 v n (dH (replicate n (.slice none 0 0)) ((replicate n ((0:Int),([]:List Int))).map dz))):bL w base 44 1 v ((replicate n ((0:Int),([]:List Int))).map dz) (replicate n (.slice none 0 0)):=by
 refine⟨by simp,Bg _,by simpa using h,fun i u l hu hl=>?_,fun i j u u' b hu _ hb _=>?_⟩
 ·rw[List.getElem?_replicate] at hu;split at hu
  ·cases hu
   rw[List.getElem?_map,List.getElem?_replicate] at hl;split at hl
   ·cases hl
    exact⟨rfl,.inl ⟨rfl,rfl⟩⟩
   ·contradiction
  ·cases hu
 ·rw[List.getElem?_replicate] at hu;split at hu
  ·cases hu
   cases hb
  ·cases hu
structure jV(w w':World)(v:Value)(vs:List Value):Prop where
 os:w'.os=w.os
 tape:w'.tape=w.tape
 output:w'.output=w.output
 size:w.heap.size≤w'.heap.size
 block:∀b,b<w.heap.size→v.ownBlock≠some b→(∀u∈vs,u.ownBlock≠some b)→w'.heap[b]?=w.heap[b]?
theorem jV.refl(w:World)(v:Value)(vs:List Value):jV w w v vs:=⟨rfl,rfl,rfl,aj,fun _ _ _ _=>rfl⟩
theorem jV.row{w w' w2:World}{v:Value}{vs:List Value}(h:jV w w' v vs)(g:w'.grownBy w2 v.ownBlock):jV w w2 v vs:=
 ⟨g.os.trans h.os,g.tape.trans h.tape,g.output.trans h.output,aN h.size g.size,fun b hb h1 h2=>(g.block b (Nat.lt_of_lt_of_le hb h.size) (fun e=>h1 e.symm)).trans (h.block b hb h1 h2)⟩
theorem jV.dat{w w' w2:World}{v:Value}{vs:List Value}(h:jV w w' v vs)(u:Value)(hu:u∈vs)(g:w'.grownBy w2 u.ownBlock):jV w w2 v vs:=
 ⟨g.os.trans h.os,g.tape.trans h.tape,g.output.trans h.output,aN h.size g.size,fun b hb h1 h2=>(g.block b (Nat.lt_of_lt_of_le hb h.size) (fun e=>h2 u hu e.symm)).trans (h.block b hb h1 h2)⟩
end
end Go.Proofs.YtlimollpocagiaaGreatDoor
