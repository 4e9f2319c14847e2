/- The model's pass. -/
import Derived.Test.YtlimollpocagiaaGreatDoorXa39
import Derived.Test.YtlimollpocagiaaGreatDoorXa40
namespace Go.Proofs.YtlimollpocagiaaGreatDoor
open Go.Proofs.Tryz
set_option linter.all false
set_option maxRecDepth 100000
set_option maxHeartbeats 16000000
section
open Go.RowKit
def fY(W:World)(base b:Nat)(bf D:List Int)(sg:Int)(s:FD×Bool)(R:Nat→Value):Prop:=∃C LL,Fm W base b C R LL (s.1.cu:Int) sg (!s.2)∧LL 0=s.1.ws∧LL 1=bf∧LL 2=s.1.pl∧LL 3=(s.1.od.map fun k:Nat=>(k:Int))∧LL 4=D
theorem fY.below{W W':World}{base b:Nat}{bf D:List Int}{sg:Int}{s:FD×Bool}{R:Nat→Value}(h:fY W base b bf D sg s R)(hb:Below W.heap.size W W'):fY W' base b bf D sg s R:=by
 obtain⟨C,LL,h1,h2⟩:=h;exact⟨C,LL,h1.below hb,h2⟩
theorem rh.step{base b n m k:Nat}{R:Nat→Value}{LL:Nat→List Int}{s:FD}{bf ol D:List Int}{sg was:Int}{w w':World}{e:Ending}(h:rh base b n k R LL s.cu sg was w w' e)(hw:bg m n s)(hn:n≤2048)(e0:LL 0=s.ws)(e1:LL 1=bf)(e2:LL 2=s.pl)(e3:LL 3=(s.od.map fun k:Nat=>(k:Int)))(e4:LL 4=D)(ho:was=ol.getD k 0):e=.returned (.tuple #[])∧∃R',fY w' base b bf D sg (fT bf ol s k) R'∧cE w w' b R R':=by
 obtain⟨h1,h2⟩:=h;refine⟨h1,?_⟩;rw[e0,e1] at h2;unfold fT;cases hp:ff s.ws bf s.cu with
 |none=>
  rw[hp] at h2;obtain⟨C',hf,hk⟩:=h2;exact⟨R,⟨C',LL,hf,e0,e1,e2,e3,e4⟩,hk⟩
 |some q=>
  rw[hp] at h2;obtain⟨C',R',hf,hk⟩:=h2;have hq:=l8 hw.cu.1 (by rw[hw.wl];exact hw.cu.2) hp;rw[hw.wl] at hq;refine⟨R',⟨C',jK LL k q was,?_,?_,?_,?_,?_,?_⟩,hk⟩
  ·show Fm w' base b C' R' _ (((cf s.ws.length q).toNat:Nat):Int) sg false;rw[hw.wl, ←(pA hq.1 hq.2.1 hn).1];exact hf
  ·unfold jK;rw[aS _ _ _ _ (by omega),aS _ _ _ _ (by omega),bG,e0,ho];rfl
  ·unfold jK;rw[aS _ _ _ _ (by omega),aS _ _ _ _ (by omega),aS _ _ _ _ (by omega),e1]
  ·unfold jK;rw[aS _ _ _ _ (by omega),bG,e2];rfl
  ·unfold jK;rw[bG,e3];show _=(s.od++[k]).map _;rw[List.map_append];rfl
  ·unfold jK;rw[aS _ _ _ _ (by omega),aS _ _ _ _ (by omega),aS _ _ _ _ (by omega),e4]
structure rB(m n:Nat)(bf ol D:List Int)(sg:Int):Prop where
 mm:m=(n+127)/128
 nn:n≤2048
 bl:bf.length=n
 od:∀k,k<m→ol.getD k 0=D.getD k 0
 os:ol.getD m 0=sg
 ob:∀k,k<m+1→0≤ol.getD k 0∧ol.getD k 0<(n:Int)
 dl:D.length≤100000
theorem fY.step{base b n m k:Nat}{R:Nat→Value}{s:FD×Bool}{bf ol D:List Int}{sg:Int}{w:World}(h:fY w base b bf D sg s R)(hw:bg m n s.1)(hc:rB m n bf ol D sg)(hk:k<m+1)(hf:s.2=true)(hs:dX m bf ol s.1 k=true)(hbs:base≤w.heap.size):
 Calls prog 83 #[.pointer (some ⟨b,0,none⟩),.int .i64 (k:Int),.int .i64 (ol.getD k 0)] w fun e w'=>e=.returned (.tuple #[])∧∃R',fY w' base b bf D sg (aZ m bf ol s k) R'∧cE w w' b R R':=by
 obtain⟨C,LL,h1,e0,e1,e2,e3,e4⟩:=h;have hm:=hc.mm;have hn:=hc.nn;have ho:=hw.gh;rw[hf] at h1;refine(Du base b n k s.1.cu C R LL sg (ol.getD k 0) w h1 (by rw[e0];exact hw.wl) (by rw[e1];exact hc.bl) (by rw[e2,hw.pn];exact hk) (by rw[e2,hw.pn];omega) (by rw[e3,List.length_map];omega) hw.cu hn (hc.ob k hk) (by rw[e0];exact hw.wr) hbs).mono fun e w' hG=>?_;have h2:=hG.step (ol:=ol) hw hn e0 e1 e2 e3 e4 rfl;refine⟨h2.1,?_⟩;unfold aZ;rw[hf,hs];exact h2.2
theorem DF(base b m n:Nat)(bf ol D:List Int)(sg:Int)(R:Nat→Value)(s:FD)(w:World)(h:fY w base b bf D sg (s,true) R)(hw:bg m n s)(hc:rB m n bf ol D sg)(hbs:base≤w.heap.size):
 Calls prog 36 #[.pointer (some ⟨b,0,none⟩),.int .i64 (m:Int)] w fun e w'=>e=.returned (.bool ((bU m bf ol s).2&&decide ((bU m bf ol s).1.od.length≠s.od.length)))∧∃R',fY w' base b bf D sg (bU m bf ol s) R'∧cE w w' b R R':=by
 have hm16:m≤16:=by have:=hc.mm;have:=hc.nn;omega
 obtain⟨N0,hN0⟩:∃N,N=s.od.length:=⟨_,rfl⟩;have hNb:N0≤17:=by have:=hw.gh;omega
 have HN0:=aa hN0;have y12:∃a c,w.cell? ⟨b,12,none⟩=some (.slice a N0 c):=by
  obtain⟨C,LL,h1,_,_,_,e3,_⟩:=h;obtain⟨a,c,hR⟩:=bK (h1.row 3 (by omega));rw[e3,List.length_map, ←hN0] at hR;exact⟨a,c,h1.slot (j:=3) (by omega) hR⟩
 obtain⟨a12,c12,y12⟩:=y12;have H:=aa (ag h (ag hw hc));obtain⟨ans,hans⟩:∃ans,ans=((bU m bf ol s).2&&decide ((bU m bf ol s).1.od.length≠s.od.length)):=⟨_,rfl⟩;rw[←hans];have HA:=aa hans;have hw0:w.heap.size≤w.heap.size:=aj;clear h hw hc hN0 hans;go_enter func36,ntmps36;go_wp2;go_loopw [6,7,8] (fun f i u wr=>∃(k:Nat) (fb:Bool),k≤m∧i=.int .i64 (k:Int)∧f=.bool fb∧Hid (fb=fL k (fR m bf ol s k).1.pl∧∃R',fY wr base b bf D sg (fR m bf ol s k) R'∧cE w wr b R R')) (fun _ i _ _=>m-(intOf i).toNat)
 case atStart=>exact⟨0,false,Nat.zero_le _,rfl,rfl,aa ⟨rfl,R,H.out.1,cE.bT b R ak⟩⟩
 case round=>
  obtain⟨k,fb,hk,rfl,rfl,HI⟩:=hrel;clear y12 hw0;obtain⟨s1,hs1⟩:∃s1,s1=fR m bf ol s k:=⟨_,rfl⟩;have HS1:=aa hs1;have HW1:=ae (bg m n s1.1) (by rw[hs1];exact(H.out.2.1.fR H.out.2.2.nn bf ol k (by omega)).1);rw[←hs1] at HI;clear hs1;obtain⟨hfb,R1,hFS,hKP⟩:=HI.out;have HFS:=aa (ag hfb (ag hFS hKP));have hbs1:base≤wr.heap.size:=aN hbs hKP.size;obtain⟨C,LL,hF,e0,e1,e2,e3,e4⟩:=hFS;have F1:=aa hF;have HE:=aa (ag e0 (ag e1 (ag e2 (ag e3 e4))));obtain⟨fl,hfl⟩:∃fl,fl=s1.2:=⟨_,rfl⟩;have HFL:=aa hfl;have l2:(LL 2).length=m+1:=by rw[e2,HW1.out.pn]
  obtain⟨g2,c2,R2,o2,_,_⟩:=hF.at (j:=2) (by omega) (by omega);rw[l2] at R2;have HR2:=aa (ag R2 (ag o2 l2));clear hfb hKP hF e0 e1 e2 e3 e4 hfl HI R2 o2 l2;by_cases hkm:k<m
  ·have hkI:(k:Int)<(m:Int):=(by omega);obtain⟨wa,hwa⟩:∃wa,wa=ol.getD k 0:=⟨_,rfl⟩;have HWA:=ae (wa=ol.getD k 0∧wa=D.getD k 0∧(0≤wa∧wa<(n:Int))) (⟨hwa,by rw[hwa];exact H.out.2.2.od k hkm,by rw[hwa];exact H.out.2.2.ob k (by omega)⟩);obtain⟨dl,hdl⟩:∃dl,dl=D.length:=⟨_,rfl⟩;have HDL:=aa hdl;have hdl2:dl≤100000:=(by rw[hdl];exact H.out.2.2.dl);obtain⟨da,dc,hRd⟩:=bK (F1.out.row 4 (by omega));rw[HE.out.2.2.2.2, ←hdl] at hRd;have y2:wr.cell? ⟨b,2,none⟩=some (.slice da dl dc):=F1.out.slot (j:=4) (by omega) hRd;have HRD:=aa hRd;clear hwa hdl hRd;go_upto_if 26 with fail;go_cut [8] from 14 to 85 (fun v wx=>v=.int .i64 wa∧wx=wr)
   case first=>
    by_cases hkd:k<dl
    ·have hkdI:(k:Int)<(dl:Int):=(by omega);obtain⟨g4,c4,R4,o4,_,h4⟩:=F1.out.at (j:=4) (by omega) (by rw[HE.out.2.2.2.2, ←HDL.out];omega);rw[HRD.out] at R4;injection R4 with r1 r2 r3;subst r1;have x4:=(h4 k (by rw[HE.out.2.2.2.2, ←HDL.out];omega)).1;rw[HE.out.2.2.2.2, ←HWA.out.2.1] at x4;clear r2 r3 h4 o4;go_wp2_with fail;go_meet;exact⟨rfl,rfl⟩
    ·have hkdI:¬((k:Int)<(dl:Int)):=(by omega);have e:wa=0:=(by rw[HWA.out.2.1];simp[List.getD,List.getElem?_eq_none (show D.length≤k by rw[←HDL.out];omega)]);go_wp2_with fail;go_meet;exact⟨by rw[e],rfl⟩
   case rest=>
   obtain⟨rfl,hwc⟩:=hcut;rw[hwc];clear hwc y2;obtain⟨st,hst⟩:∃st,st=(s1.2&&dX m bf ol s1.1 k):=⟨_,rfl⟩;obtain⟨pz,hpz⟩:∃pz,pz=(LL 2).getD k 0:=⟨_,rfl⟩;have HST:=ae (st=(fl&&(decide (pz=0)&&(decide (wa=0)||decide (cq (LL 0) k≠cq (LL 1) k))))) (by
    rw[hst,HFL.out,hpz];unfold dX;rw[if_pos hkm,HE.out.1,HE.out.2.1,HE.out.2.2.1,HWA.out.1])
   have HST2:=aa hst;have HV:=ae (∀w',af w' b C 77∧w'.heap[g2]?=wr.heap[g2]?→w'.cell? ⟨b,11,none⟩=some (.slice (some ⟨g2,0,none⟩) (m+1) c2)∧w'.cell? ⟨b,13,none⟩=some (.bool (!fl))∧w'.cell? ⟨g2,k,none⟩=some (.int .i64 pz)) (fun w' h=>⟨(h.1.cell 11).trans (by rw[←HR2.out.1];exact F1.out.at_ 2 (by omega)),(h.1.cell 13).trans (by rw[HFL.out];exact F1.out.full),(World.cell?_of_block (a:=⟨g2,k,none⟩) h.2).trans (by rw[hpz];exact(F1.out.val (j:=2) (by omega) HR2.out.2.1 (by rw[HR2.out.2.2];omega)).1)⟩);have S0:=ae (af wr.drew b C 77∧wr.drew.heap[g2]?=wr.heap[g2]?) (⟨F1.out.box,rfl⟩);have hkI2:(k:Int)<(m:Int)+1:=(by omega);clear hst hpz;go_upto_region 9 with fail;go_cut [69] from 14 to 85 (fun v wx=>v=.bool st∧Below wr.heap.size wr wx)
   case first Jc Kc hJc hKc=>
    by_cases hpz0:pz=0
    ·have hpb:(pz==0)=true:=(by simp[hpz0]);cases hfl1:fl with
     |false=>
      have hflb:(!fl)=true:=(by rw[hfl1];rfl);refine cr (fun w'=>af w' b C 77∧w'.heap[g2]?=wr.heap[g2]?) S0.out fun hH=>?_;refine ah 0 (.pointer (some ⟨b,0,none⟩)) rfl hH ?_;refine ah 1 (.pointer (some ⟨b,0,none⟩)) rfl hH ?_;refine ah 2 (.pointer (some ⟨b,11,none⟩)) rfl hH ?_;refine ah 3 (.slice (some ⟨g2,0,none⟩) (m+1) c2) rfl hH ?_ (aH fun w' hw'=>by have hc:=(HV.out w' hw').1;clear hw';go_simp);refine ah 4 (.int .i64 (k:Int)) rfl hH ?_;refine ah 5 (.pointer (some ⟨g2,k,none⟩)) rfl hH ?_;refine ah 6 (.int .i64 pz) rfl hH ?_ (aH fun w' hw'=>by have hc:=(HV.out w' hw').2.2;clear hw';go_simp);refine ah 7 (.bool (pz==0)) rfl hH ?_;rw[hpb];refine ah 8 (.bool true) rfl hH ?_;refine ah 9 (.pointer (some ⟨b,0,none⟩)) rfl hH ?_;refine ah 10 (.pointer (some ⟨b,0,none⟩)) rfl hH ?_;refine ah 11 (.pointer (some ⟨b,13,none⟩)) rfl hH ?_;refine ah 12 (.bool true) rfl hH ?_ (aH fun w' hw'=>by have hc:=(HV.out w' hw').2.1;clear hw';rw[hflb] at hc;go_simp);refine ah 13 (.bool false) rfl hH ?_;refine ah 14 (.bool false) rfl hH ?_;refine ah 15 (.bool false) rfl hH ?_;refine bq 16 rfl hH ?_;refine bq 17 rfl hH ?_;refine bq 18 rfl hH ?_;refine bq 19 rfl hH ?_;refine bq 20 rfl hH ?_;refine bq 21 rfl hH ?_;refine bq 22 rfl hH ?_;refine bq 23 rfl hH ?_;refine bq 24 rfl hH ?_;refine bq 25 rfl hH ?_;refine bq 26 rfl hH ?_;refine bq 27 rfl hH ?_;refine bq 28 rfl hH ?_;refine bq 29 rfl hH ?_;refine bq 30 rfl hH ?_;refine bq 31 rfl hH ?_;refine bq 32 rfl hH ?_;refine bq 33 rfl hH ?_;refine ah 34 (.bool false) rfl hH ?_;refine bz ?_;refine hKc _ _ (Met.intro (hJc _ _ ?_));(repeat apply Exists.intro)
      exact⟨⟨by rw[show st=false by rw[HST.out,hfl1,Bool.false_and]],ak.drew⟩,rfl⟩
     |true=>
      have hflb:(!fl)=false:=(by rw[hfl1];rfl);by_cases hwz:wa=0
      ·have hwb:(wa==0)=true:=(by simp[hwz]);refine cr (fun w'=>af w' b C 77∧w'.heap[g2]?=wr.heap[g2]?) S0.out fun hH=>?_;refine ah 0 (.pointer (some ⟨b,0,none⟩)) rfl hH ?_;refine ah 1 (.pointer (some ⟨b,0,none⟩)) rfl hH ?_;refine ah 2 (.pointer (some ⟨b,11,none⟩)) rfl hH ?_;refine ah 3 (.slice (some ⟨g2,0,none⟩) (m+1) c2) rfl hH ?_ (aH fun w' hw'=>by have hc:=(HV.out w' hw').1;clear hw';go_simp);refine ah 4 (.int .i64 (k:Int)) rfl hH ?_;refine ah 5 (.pointer (some ⟨g2,k,none⟩)) rfl hH ?_;refine ah 6 (.int .i64 pz) rfl hH ?_ (aH fun w' hw'=>by have hc:=(HV.out w' hw').2.2;clear hw';go_simp);refine ah 7 (.bool (pz==0)) rfl hH ?_;rw[hpb];refine ah 8 (.bool true) rfl hH ?_;refine ah 9 (.pointer (some ⟨b,0,none⟩)) rfl hH ?_;refine ah 10 (.pointer (some ⟨b,0,none⟩)) rfl hH ?_;refine ah 11 (.pointer (some ⟨b,13,none⟩)) rfl hH ?_;refine ah 12 (.bool false) rfl hH ?_ (aH fun w' hw'=>by have hc:=(HV.out w' hw').2.1;clear hw';rw[hflb] at hc;go_simp);refine ah 13 (.bool true) rfl hH ?_;refine ah 14 (.bool true) rfl hH ?_;refine ah 15 (.bool true) rfl hH ?_;refine ah 16 (.int .i64 wa) rfl hH ?_;refine ah 17 (.bool (wa==0)) rfl hH ?_;rw[hwb];refine ah 18 (.bool true) rfl hH ?_;refine bq 19 rfl hH ?_;refine bq 20 rfl hH ?_;refine bq 21 rfl hH ?_;refine bq 22 rfl hH ?_;refine bq 23 rfl hH ?_;refine bq 24 rfl hH ?_;refine bq 25 rfl hH ?_;refine bq 26 rfl hH ?_;refine bq 27 rfl hH ?_;refine bq 28 rfl hH ?_;refine bq 29 rfl hH ?_;refine bq 30 rfl hH ?_;refine bq 31 rfl hH ?_;refine bq 32 rfl hH ?_;refine ah 33 (.bool true) rfl hH ?_;refine ah 34 (.bool true) rfl hH ?_;refine bz ?_;refine hKc _ _ (Met.intro (hJc _ _ ?_));(repeat apply Exists.intro)
       exact⟨⟨by rw[show st=true by rw[HST.out,hfl1,decide_eq_true hpz0,decide_eq_true hwz];rfl],ak.drew⟩,rfl⟩
      ·have hwb:(wa==0)=false:=(by simpa using hwz);have l0:(LL 0).length=n:=(by rw[HE.out.1,HW1.out.wl]);have l1:(LL 1).length=n:=(by rw[HE.out.2.1,H.out.2.2.bl]);have hn0:0<n:=(by have:=HW1.out.cu;omega);obtain⟨g0,c0,R0,_,_,_⟩:=F1.out.at (j:=0) (by omega) (by omega);obtain⟨g1,c1,R1',_,_,_⟩:=F1.out.at (j:=1) (by omega) (by omega);rw[l0] at R0;rw[l1] at R1';have hg2:g2<wr.heap.size:=((F1.out.row 2 (by omega)).lt g2 HR2.out.2.1).2;have HV2:=ae (∀w',af w' b C 77∧w'.heap[g2]?=wr.heap[g2]?→w'.cell? ⟨b,0,none⟩=some (.slice (some ⟨g0,0,none⟩) n c0)∧w'.cell? ⟨b,1,none⟩=some (.slice (some ⟨g1,0,none⟩) n c1)) (fun w' h=>⟨(h.1.cell 0).trans (by rw[←R0];exact F1.out.at_ 0 (by omega)),(h.1.cell 1).trans (by rw[←R1'];exact F1.out.at_ 1 (by omega))⟩);have HRd:=ae (Rd .i64 wr (.slice (some ⟨g0,0,none⟩) n c0) (LL 0)∧Rd .i64 wr (.slice (some ⟨g1,0,none⟩) n c1) (LL 1)) (⟨by rw[←R0];exact Rd.own (F1.out.row 0 (by omega)),by rw[←R1'];exact Rd.own (F1.out.row 1 (by omega))⟩);have HL01:=aa (ag l0 l1);clear l0 l1 R0 R1';refine cr (fun w'=>af w' b C 77∧w'.heap[g2]?=wr.heap[g2]?) S0.out fun hH=>?_;refine ah 0 (.pointer (some ⟨b,0,none⟩)) rfl hH ?_;refine ah 1 (.pointer (some ⟨b,0,none⟩)) rfl hH ?_;refine ah 2 (.pointer (some ⟨b,11,none⟩)) rfl hH ?_;refine ah 3 (.slice (some ⟨g2,0,none⟩) (m+1) c2) rfl hH ?_ (aH fun w' hw'=>by have hc:=(HV.out w' hw').1;clear hw';go_simp);refine ah 4 (.int .i64 (k:Int)) rfl hH ?_;refine ah 5 (.pointer (some ⟨g2,k,none⟩)) rfl hH ?_;refine ah 6 (.int .i64 pz) rfl hH ?_ (aH fun w' hw'=>by have hc:=(HV.out w' hw').2.2;clear hw';go_simp);refine ah 7 (.bool (pz==0)) rfl hH ?_;rw[hpb];refine ah 8 (.bool true) rfl hH ?_;refine ah 9 (.pointer (some ⟨b,0,none⟩)) rfl hH ?_;refine ah 10 (.pointer (some ⟨b,0,none⟩)) rfl hH ?_;refine ah 11 (.pointer (some ⟨b,13,none⟩)) rfl hH ?_;refine ah 12 (.bool false) rfl hH ?_ (aH fun w' hw'=>by have hc:=(HV.out w' hw').2.1;clear hw';rw[hflb] at hc;go_simp);refine ah 13 (.bool true) rfl hH ?_;refine ah 14 (.bool true) rfl hH ?_;refine ah 15 (.bool true) rfl hH ?_;refine ah 16 (.int .i64 wa) rfl hH ?_;refine ah 17 (.bool (wa==0)) rfl hH ?_;rw[hwb];refine ah 18 (.bool false) rfl hH ?_;refine ah 19 (.pointer (some ⟨b,0,none⟩)) rfl hH ?_;refine ah 20 (.pointer (some ⟨b,0,none⟩)) rfl hH ?_;refine ah 21 (.pointer (some ⟨b,0,none⟩)) rfl hH ?_;refine ah 22 (.slice (some ⟨g0,0,none⟩) n c0) rfl hH ?_ (aH fun w' hw'=>by have hc:=(HV2.out w' hw').1;clear hw';go_simp);refine ah 23 (.int .i64 (k:Int)) rfl hH ?_;refine ah 25 (.pointer (some ⟨b,0,none⟩)) rfl hH ?_;refine ah 26 (.pointer (some ⟨b,0,none⟩)) rfl hH ?_;refine ah 27 (.pointer (some ⟨b,1,none⟩)) rfl hH ?_;refine ah 28 (.slice (some ⟨g1,0,none⟩) n c1) rfl hH ?_ (aH fun w' hw'=>by have hc:=(HV2.out w' hw').2;clear hw';go_simp);refine ah 29 (.int .i64 (k:Int)) rfl hH ?_;refine aG 24 rfl fun K hK=>?_;go_simp;refine(rf (.slice (some ⟨g0,0,none⟩) n c0) (LL 0) k wr.drew (HRd.out.1.below (ak.drew)) (by omega) (by rw[HL01.out.1];exact H.out.2.2.nn)).mono ?_;rintro e w3 ⟨v3,rfl,o3,b3⟩;have B3:=ae (Below wr.heap.size wr w3) ((ak.drew).trans b3);have O3:=aa o3;refine hK.out _ _ ⟨(F1.out.below B3.out).box,B3.out.block g2 hg2⟩ (fun hH=>?_);clear hK K b3 o3;try simp only[Act.put,aq,au,av,ay,az,aA]
       refine aG 30 rfl fun K hK=>?_;go_simp;refine(rf (.slice (some ⟨g1,0,none⟩) n c1) (LL 1) k w3 (HRd.out.2.below B3.out) (by omega) (by rw[HL01.out.2];exact H.out.2.2.nn)).mono ?_;rintro e w4 ⟨v4,rfl,o4,b4⟩;have B4:=ae (Below wr.heap.size wr w4) (B3.out.trans (b4.mono B3.out.size));have R3:=aa (Rd.own (aY O3.out b4));have R4:=aa (Rd.own o4);refine hK.out _ _ ⟨(F1.out.below B4.out).box,B4.out.block g2 hg2⟩ (fun hH=>?_);clear hK K b4 o4 O3;try simp only[Act.put,aq,au,av,ay,az,aA]
       refine aG 31 rfl fun K hK=>?_;go_simp;refine(DE v3 v4 _ _ w4 R3.out R4.out).mono ?_;rintro e w5 ⟨rfl,b5⟩;have B5:=ae (Below wr.heap.size wr w5) (B4.out.trans (b5.mono B4.out.size));refine hK.out _ _ ⟨(F1.out.below B5.out).box,B5.out.block g2 hg2⟩ (fun hH=>?_);clear hK K b5 R3 R4;generalize hsb:decide (cq (LL 0) k=cq (LL 1) k)=sb;try simp only[Act.put,aq,au,av,ay,az,aA]
       refine ah 32 (.bool (!sb)) rfl hH ?_;refine ah 33 (.bool (!sb)) rfl hH ?_;refine ah 34 (.bool (!sb)) rfl hH ?_;refine bz ?_;refine hKc _ _ (Met.intro (hJc _ _ ?_));(repeat apply Exists.intro)
       refine⟨⟨?_,B5.out⟩,rfl⟩;have hr:st=!sb:=(by rw[HST.out,hfl1,hpz0,decide_eq_true rfl,decide_eq_false hwz, ←hsb,decide_not];rfl);rw[hr]
    ·have hpb:(pz==0)=false:=(by simpa using hpz0);refine cr (fun w'=>af w' b C 77∧w'.heap[g2]?=wr.heap[g2]?) S0.out fun hH=>?_;refine ah 0 (.pointer (some ⟨b,0,none⟩)) rfl hH ?_;refine ah 1 (.pointer (some ⟨b,0,none⟩)) rfl hH ?_;refine ah 2 (.pointer (some ⟨b,11,none⟩)) rfl hH ?_;refine ah 3 (.slice (some ⟨g2,0,none⟩) (m+1) c2) rfl hH ?_ (aH fun w' hw'=>by have hc:=(HV.out w' hw').1;clear hw';go_simp);refine ah 4 (.int .i64 (k:Int)) rfl hH ?_;refine ah 5 (.pointer (some ⟨g2,k,none⟩)) rfl hH ?_;refine ah 6 (.int .i64 pz) rfl hH ?_ (aH fun w' hw'=>by have hc:=(HV.out w' hw').2.2;clear hw';go_simp);refine ah 7 (.bool (pz==0)) rfl hH ?_;rw[hpb];refine ah 8 (.bool false) rfl hH ?_;refine bq 9 rfl hH ?_;refine bq 10 rfl hH ?_;refine bq 11 rfl hH ?_;refine bq 12 rfl hH ?_;refine bq 13 rfl hH ?_;refine ah 14 (.bool false) rfl hH ?_;refine ah 15 (.bool false) rfl hH ?_;refine bq 16 rfl hH ?_;refine bq 17 rfl hH ?_;refine bq 18 rfl hH ?_;refine bq 19 rfl hH ?_;refine bq 20 rfl hH ?_;refine bq 21 rfl hH ?_;refine bq 22 rfl hH ?_;refine bq 23 rfl hH ?_;refine bq 24 rfl hH ?_;refine bq 25 rfl hH ?_;refine bq 26 rfl hH ?_;refine bq 27 rfl hH ?_;refine bq 28 rfl hH ?_;refine bq 29 rfl hH ?_;refine bq 30 rfl hH ?_;refine bq 31 rfl hH ?_;refine bq 32 rfl hH ?_;refine bq 33 rfl hH ?_;refine ah 34 (.bool false) rfl hH ?_;refine bz ?_;refine hKc _ _ (Met.intro (hJc _ _ ?_));(repeat apply Exists.intro)
     exact⟨⟨by rw[show st=false by rw[HST.out,decide_eq_false hpz0,Bool.false_and,Bool.and_false]],ak.drew⟩,rfl⟩
   case rest=>
   obtain⟨rfl,hbel⟩:=hcut;have B2:=aa hbel;have FS2:=aa (HFS.out.2.1.below hbel);have K2:=aa (HFS.out.2.2.trans (cE.bT b R1 hbel));have hbs2:base≤wc.heap.size:=aN hbs1 hbel.size;clear hbel;rename World=>w2
   obtain⟨s2,hs2⟩:∃s2,s2=aZ m bf ol s1 k:=⟨_,rfl⟩;have HS2:=aa hs2;clear hs2;go_upto_if 69 with fail;go_cut [] from 14 to 85 (fun wx=>∃R2,fY wx base b bf D sg s2 R2∧cE w wx b R R2)
   case first=>
    cases hst:st with
    |false=>
     go_wp2_with fail;go_meet;refine⟨R1,?_,K2.out⟩;rw[HS2.out];unfold aZ;rw[←HST2.out,hst];exact FS2.out
    |true=>
     have h2:s1.2=true∧dX m bf ol s1.1 k=true:=(by have:=HST2.out;rw[hst] at this;exact Bool.and_eq_true_iff.1 this.symm);have HG:=aa (FS2.out.step HW1.out H.out.2.2 (by omega:k<m+1) h2.1 h2.2 hbs2);rw[←HWA.out.1, ←HS2.out] at HG;clear h2;go_wp2_with (go_at_call 83;refine HG.out.mono ?_;rintro e w3 ⟨rfl,R3,hf3,hk3⟩;have H3:=aa (ag hf3 (K2.out.trans hk3));clear hf3 hk3);go_meet;exact⟨R3,H3.out⟩
   case rest=>
   obtain⟨R3,hf3,hk3⟩:=hcut;rename World=>w3
   have H3:=aa (ag hf3 hk3);have HW2:=ae (bg m n s2.1) (by rw[HS2.out];exact(HW1.out.step H.out.2.2.nn bf ol (by omega)).1);obtain⟨C3,L3,f3,e30,e31,e32,e33,e34⟩:=hf3;have l2:(L3 2).length=m+1:=(by rw[e32,HW2.out.pn]);obtain⟨g3,c3,R2',o2',_,h5⟩:=f3.at (j:=2) (by omega) (by omega);rw[l2] at R2';have y11:w3.cell? ⟨b,11,none⟩=some (.slice (some ⟨g3,0,none⟩) (m+1) c3):=f3.slot (j:=2) (by omega) R2';obtain⟨py,hpy⟩:∃py,py=s2.1.pl.getD k 0:=⟨_,rfl⟩;have x2:w3.cell? ⟨g3,k,none⟩=some (.int .i64 py):=(by rw[hpy, ←e32];exact(h5 k (by omega)).1);have HFar:=ae (fL (k+1) s2.1.pl=(fb||(decide (12≤k)&&decide (py≠0)))) (by
    rw[ri, ←hpy,HS2.out,Dz, ←HFS.out.1])
   have HNx:=ae (fR m bf ol s (k+1)=s2) (by rw[wm, ←HS1.out,HS2.out]);clear hk3 f3 e30 e31 e32 e33 e34 l2 R2' o2' h5 hpy;by_cases hpy0:py=0
   ·have hpb:(py !=0)=false:=(by simp[hpy0]);have HF2:=ae (fb=fL (k+1) s2.1.pl) (by rw[HFar.out,hpy0];simp);clear hpy0;go_wp2;go_roundw
    case rel=>exact⟨k+1,fb,by omega,by go_num,rfl,aa ⟨by rw[HNx.out];exact HF2.out,R3,by rw[HNx.out];exact H3.out.1,H3.out.2⟩⟩
    case measure=>simp[intOf];omega
   ·have hpb:(py !=0)=true:=(by simpa using hpy0);by_cases hk12:12≤k
    ·have hk12I:(12:Int)≤(k:Int):=(by omega);have HF2:=ae (true=fL (k+1) s2.1.pl) (by rw[HFar.out,decide_eq_true hk12,decide_eq_true hpy0];simp);clear hpy0;go_wp2;go_roundw
     case rel=>exact⟨k+1,true,by omega,by go_num,rfl,aa ⟨by rw[HNx.out];exact HF2.out,R3,by rw[HNx.out];exact H3.out.1,H3.out.2⟩⟩
     case measure=>simp[intOf];omega
    ·have hk12I:¬((12:Int)≤(k:Int)):=(by omega);have HF2:=ae (fb=fL (k+1) s2.1.pl) (by rw[HFar.out,decide_eq_false hk12];simp);clear hpy0;go_wp2;go_roundw
     case rel=>exact⟨k+1,fb,by omega,by go_num,rfl,aa ⟨by rw[HNx.out];exact HF2.out,R3,by rw[HNx.out];exact H3.out.1,H3.out.2⟩⟩
     case measure=>simp[intOf];omega
  ·obtain rfl:m=k:=(by omega);have hkI:¬((m:Int)<(m:Int)):=(by omega);obtain⟨pz,hpz⟩:∃pz,pz=(LL 2).getD m 0:=⟨_,rfl⟩;obtain⟨gb,hgb⟩:∃gb,gb=(decide (12<m)&&(s1.2&&dX m bf ol s1.1 m)):=⟨_,rfl⟩;have HGB:=ae (gb=(decide (12<m)&&(fl&&(decide (pz=0)&&(decide (sg=0)||fb))))) (by
    rw[hgb,HFL.out,hpz];unfold dX;rw[if_neg (by omega),HE.out.2.2.1,H.out.2.2.os,HFS.out.1])
   have HGB2:=aa hgb;have x2:wr.cell? ⟨g2,m,none⟩=some (.int .i64 pz):=(by rw[hpz];exact(F1.out.val (j:=2) (by omega) HR2.out.2.1 (by rw[HR2.out.2.2];omega)).1);have y11:wr.cell? ⟨b,11,none⟩=some (.slice (some ⟨g2,0,none⟩) (m+1) c2):=F1.out.slot (j:=2) (by omega) HR2.out.1;have y13:wr.cell? ⟨b,13,none⟩=some (.bool (!fl)):=(by rw[HFL.out];exact(F1.out.box.cell 13).trans F1.out.full);have y3:wr.cell? ⟨b,3,none⟩=some (.int .i64 sg):=(F1.out.box.cell 3).trans F1.out.sing;have HPS:=ae (gb=false→bU m bf ol s=s1) (fun h=>by
    by_cases h12:12<m
    ·rw[rq _ _ _ _ h12, ←HS1.out];have h2:(s1.2&&dX m bf ol s1.1 m)=false:=(by have:=HGB2.out;rw[h,decide_eq_true h12,Bool.true_and] at this;exact this.symm);unfold aZ;rw[h2,if_neg (by decide)]
    ·rw[wu _ _ _ _ h12, ←HS1.out])
   clear hpz hgb;have hmI:(m:Int)<(m:Int)+1:=(by omega);go_upto_region 13 with fail;go_cut [6,115] from 86 to 137 (fun v6 v wx=>v6=.bool fb∧v=.bool gb∧wx=wr)
   case first=>
    by_cases h12:12<m
    ·have h12I:(12:Int)<(m:Int):=(by omega);by_cases hpz0:pz=0
     ·have hpb:(pz==0)=true:=(by simp[hpz0]);cases hfl1:fl with
      |false=>
       rw[hfl1] at y13;go_wp2_with fail;go_meet;exact⟨by first|rfl|rw[hfb1],by rw[show gb=false by rw[HGB.out,hfl1];simp],rfl⟩
      |true=>
       rw[hfl1] at y13;cases hfb1:fb with
       |true=>
        go_wp2_with fail;go_meet;exact⟨by first|rfl|rw[hfb1],by rw[show gb=true by rw[HGB.out,hfl1,hfb1,decide_eq_true h12,decide_eq_true hpz0];simp],rfl⟩
       |false=>
        by_cases hsg:sg=0
        ·have hsb:(sg==0)=true:=(by simp[hsg]);go_wp2_with fail;go_meet;exact⟨by first|rfl|rw[hfb1],by rw[show gb=true by rw[HGB.out,hfl1,hfb1,decide_eq_true h12,decide_eq_true hpz0,decide_eq_true hsg];simp],rfl⟩
        ·have hsb:(sg==0)=false:=(by simpa using hsg);go_wp2_with fail;go_meet;exact⟨by first|rfl|rw[hfb1],by rw[show gb=false by rw[HGB.out,hfb1,decide_eq_false hsg];simp],rfl⟩
     ·have hpb:(pz==0)=false:=(by simpa using hpz0);go_wp2_with fail;go_meet;exact⟨by first|rfl|rw[hfb1],by rw[show gb=false by rw[HGB.out,decide_eq_false hpz0];simp],rfl⟩
    ·have h12I:¬((12:Int)<(m:Int)):=(by omega);go_wp2_with fail;go_meet;exact⟨by first|rfl|rw[hfb1],by rw[show gb=false by rw[HGB.out,decide_eq_false h12];simp],rfl⟩
   case rest=>
   obtain⟨rfl,rfl,hwc⟩:=hcut;rw[hwc];clear hwc y11 y13 x2;obtain⟨s2,hs2⟩:∃s2,s2=bU m bf ol s:=⟨_,rfl⟩;have HS2:=aa hs2;clear hs2;go_upto_if 115 with fail;go_cut [] from 86 to 137 (fun wx=>∃R2,fY wx base b bf D sg s2 R2∧cE w wx b R R2)
   case first=>
    cases hst:gb with
    |false=>
     go_wp2_with fail;go_meet;exact⟨R1,by rw[HS2.out,HPS.out hst];exact HFS.out.2.1,HFS.out.2.2⟩
    |true=>
     have h2:12<m∧s1.2=true∧dX m bf ol s1.1 m=true:=(by have:=HGB2.out;rw[hst] at this;have h3:=Bool.and_eq_true_iff.1 this.symm;exact⟨of_decide_eq_true h3.1,Bool.and_eq_true_iff.1 h3.2⟩);have HG:=aa (HFS.out.2.1.step HW1.out H.out.2.2 (by omega:m<m+1) h2.2.1 h2.2.2 hbs1);rw[H.out.2.2.os,show aZ m bf ol s1 m=s2 by rw[HS2.out,rq _ _ _ _ h2.1, ←HS1.out]] at HG;clear h2;go_wp2_with (go_at_call 83;refine HG.out.mono ?_;rintro e w3 ⟨rfl,R3,hf3,hk3⟩;have H3:=aa (ag hf3 (HFS.out.2.2.trans hk3));clear hf3 hk3);go_meet;exact⟨R3,H3.out⟩
   case rest=>
   obtain⟨R3,hf3,hk3⟩:=hcut;rename World=>w3
   have H3:=aa (ag hf3 hk3);obtain⟨C3,L3,f3,e30,e31,e32,e33,e34⟩:=hf3;obtain⟨N1,hN1⟩:∃N,N=s2.1.od.length:=⟨_,rfl⟩;obtain⟨a3,c3,hR3⟩:=bK (f3.row 3 (by omega));rw[e33,List.length_map, ←hN1] at hR3;have y12:w3.cell? ⟨b,12,none⟩=some (.slice a3 N1 c3):=f3.slot (j:=3) (by omega) hR3;obtain⟨f2,hf2⟩:∃f2,f2=s2.2:=⟨_,rfl⟩;have y13:w3.cell? ⟨b,13,none⟩=some (.bool (!f2)):=(by rw[hf2];exact(f3.box.cell 13).trans f3.full);have HAn:=ae (ans=(f2&&decide (N1≠N0))) (by rw[HA.out, ←HS2.out,hf2,hN1,HN0.out]);have hle:N0≤N1:=(by rw[hN1,HN0.out,HS2.out];exact(H.out.2.1.pass H.out.2.2.nn bf ol).2);have hN1b:N1≤17:=(by rw[hN1,HS2.out];have:=(H.out.2.1.pass H.out.2.2.nn bf ol).1.gh;omega);clear f3 e30 e31 e32 e33 e34 hR3 hN1 hf2 hk3;by_cases hgt:N0<N1
   ·have hgtI:(N0:Int)<(N1:Int):=(by omega);cases hf21:f2 with
    |true=>
     rw[hf21] at y13;go_wp2;go_ret;have hr:ans=true:=(by rw[HAn.out,hf21,decide_eq_true (by omega:N1≠N0)];rfl);rw[hr];exact⟨rfl,R3,by rw[←HS2.out];exact H3.out.1,H3.out.2⟩
    |false=>
     rw[hf21] at y13;go_wp2;go_ret;have hr:ans=false:=(by rw[HAn.out,hf21];rfl);rw[hr];exact⟨rfl,R3,by rw[←HS2.out];exact H3.out.1,H3.out.2⟩
   ·have hgtI:¬((N0:Int)<(N1:Int)):=(by omega);go_wp2;go_ret;have hr:ans=false:=(by rw[HAn.out,decide_eq_false (by omega:¬N1≠N0),Bool.and_false]);rw[hr];exact⟨rfl,R3,by rw[←HS2.out];exact H3.out.1,H3.out.2⟩
end
end Go.Proofs.YtlimollpocagiaaGreatDoor
