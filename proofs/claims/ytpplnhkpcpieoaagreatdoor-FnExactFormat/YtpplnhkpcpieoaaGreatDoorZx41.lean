/- slices.Grow and slices.Concat over puts. -/
import Derived.Test.YtpplnhkpcpieoaaGreatDoorZx40
import Derived.Lib.AppendZeros
namespace Go.Proofs.YtpplnhkpcpieoaaGreatDoor
open Go.Proofs.Tryz
set_option linter.all false
set_option maxRecDepth 100000
set_option maxHeartbeats 16000000
section
open Go.RowKit
theorem Bw(z:Array Value)(n:Nat):(Builtin.zeroCells z n).size=n*z.size:=by simp[Builtin.zeroCells]
theorem LO(n:Nat)(w:World)(h0:0<n)(hn:n≤100000):
 Calls prog 64 #[.slice none 0 0,.int .i64 (n:Int)] w fun e w'=>∃g c,e=.returned (.slice (some ⟨g,0,none⟩) 0 c)∧w'.ownsRow w.heap.size 55 2 (.slice (some ⟨g,0,none⟩) 0 c) 0 []∧Below w.heap.size w w':=by
 obtain⟨i0,hi,hz0,hz1,hz2⟩:=info_parts sE;have hrun:=Go.Lib.run_append_nil_zeros (P:=prog) w 42 3 42 55 i0 (.agg #[.int .i64 0,.slice none 0 0]) .i64 .i64 underlying42 underlying3 hi hz0 n h0 (by rw[hz1];omega) (by omega) (by rw[hz2];omega);have HC:=aa (ai (grownCap_ge w n 0 55) (grownCap_le_maxLen w n 0 55 (by unfold maxLen;omega)));generalize grownCap w n 0 55=c at hrun HC;obtain⟨Z,hZ⟩:∃Z,Z=Builtin.zeroCells (Value.agg #[.int .i64 0,.slice none 0 0]).cells n++Builtin.zeroCells (Value.agg #[.int .i64 0,.slice none 0 0]).cells (c-n):=⟨_,rfl⟩;rw[←hZ] at hrun;have HZ:=aa hZ;clear hZ hi hz0 hz1 hz2;have q1:¬((n:Int)<0):=by omega
 have q2:(0:Int)<(n:Int):=by omega
 go_enter func64,ntmps64;go_wp2_with (first|(at_builtin;refine Go.Lib.wpList_append_run _ rfl (.tmp 20) (.tmp 21) 42 3 rfl _ _ rfl rfl _ _ hrun ?_)|fail);go_ret;refine⟨_,_,rfl,⟨rfl,.inr ⟨w.heap.size,c,Z,rfl,aj,?_,Nat.zero_le _,HC.out.2,?_,rfl⟩⟩,?_⟩
 ·exact heap_alloc_new w.drew _
 ·rw[HZ.out,Array.size_append,Bw,Bw];have:=HC.out.1;show n*2+(c-n)*2=c*2;omega
 ·exact(ak.drew).alloc aj _
def jP(n1 n2 k:Nat):Nat:=if k=0 then 0 else if k=1 then n1 else n1+n2
def oU(QT Sd:List Value)(k:Nat):List Value:=if k=0 then [] else if k=1 then QT else QT++Sd
theorem LP(B b1 o1 n1 c1 b2 o2 n2 c2:Nat)(QT Sd:List Value)(w:World)(hB:af w B #[.slice (some ⟨b1,o1,none⟩) n1 c1,.slice (some ⟨b2,o2,none⟩) n2 c2] 42)
 (l1:QT.length=n1*2) (l2:Sd.length=n2*2) (k1:b1<w.heap.size∧∀j u,QT[j]?=some u→w.cell? ⟨b1,o1+j,none⟩=some u) (k2:b2<w.heap.size∧∀j u,Sd[j]?=some u→w.cell? ⟨b2,o2+j,none⟩=some u)
 (e1:∀u∈QT,u.oneCell'=true) (e2:∀u∈Sd,u.oneCell'=true) (h0:0<n1) (hn:n1+n2≤100000):
 Calls prog 25 #[.slice (some ⟨B,0,none⟩) 2 2] w fun e w'=>∃v',e=.returned v'∧w'.ownsRow w.heap.size 55 2 v' (n1+n2) (QT++Sd)∧Below w.heap.size w w':=by
 obtain⟨i0,hi,hz0,hz1,hz2⟩:=info_parts sE;have HB:=aa hB;have H1:=aa (ai l1 (ai k1 e1));have H2:=aa (ai l2 (ai k2 e2));have HI:=aa (ai hi (ai hz0 (ai hz1 hz2)));obtain⟨s,hs⟩:∃s,s=n1+n2:=⟨_,rfl⟩;have hsi:(n1:Int)+(n2:Int)=(s:Int):=by omega
 have hsb:s≤100000:=by omega
 have HS:=aa (ai hs (show 0<s by omega));rw[←hs];clear l1 k1 e1 l2 k2 e2 hi hz0 hz1 hz2 hs;have c0:=hB.cell 0;have c1':=hB.cell 1;simp at c0 c1';have HC0:=aa c0;have Pj:=aa c1';have Qd:=aa hB.lt;clear hB;go_enter func25,ntmps25;go_wp2;go_loop [3,5,11] (fun a x i=>∃k:Nat,k≤2∧i=.int .i64 (k:Int)∧a=.int .i64 (jP n1 n2 k:Int)) (fun _ _ i=>2-(intOf i).toNat)
 case atStart=>exact⟨0,by omega,rfl,rfl⟩
 case round=>
  obtain⟨k,hk,rfl,ha⟩:=hrel;rcases(show k=0∨k=1∨k=2 by omega) with rfl|rfl|rfl
  ·rw[show jP n1 n2 0=0 from rfl] at ha;subst ha;go_wp2;go_round
   case rel=>exact⟨1,by omega,by go_num,by simp[jP]⟩
   case measure=>simp[intOf]
  ·rw[show jP n1 n2 1=n1 from rfl] at ha;subst ha;go_wp2;go_round
   case rel=>exact⟨2,by omega,by go_num,by simp[jP];omega⟩
   case measure=>simp[intOf]
  ·rw[show jP n1 n2 2=n1+n2 from rfl, ←HS.out.1] at ha;subst ha;go_upto_region 10 with(first|(go_at_call 64;refine(LO s _ HS.out.2 hsb).mono ?_;rintro e w1 ⟨g,c,rfl,o,b⟩;have O1:=aa o;have B1:=aa b;clear o b)|fail)
   go_wp2;clear c0 c1';go_loopw [6,8,27] (fun st x i wr=>∃k:Nat,k≤2∧i=.int .i64 (k:Int)∧wr.ownsRow w.heap.size 55 2 st (jP n1 n2 k) (oU QT Sd k)∧Below w.heap.size w wr) (fun _ _ i _=>2-(intOf i).toNat)
   case atStart=>exact⟨0,by omega,rfl,O1.out,B1.out⟩
   case round=>
    obtain⟨k,hk,rfl,ho,hbw⟩:=hrel;have HJ:=aa (ai ho hbw);clear ho hbw;rcases(show k=0∨k=1∨k=2 by omega) with rfl|rfl|rfl
    ·have HO:=ae (wr.ownsRow w.heap.size 55 2 u6 0 []) (by have:=HJ.out.1;simpa [jP,oU] using this);have cc:=(HJ.out.2.cell (p:=⟨B,0,none⟩) Qd.out).trans HC0.out;go_wp2_with (first|(at_builtin;refine wpList_append_own _ rfl (.tmp 31) (.tmp 32) 42 rfl w.heap.size 55 i0 (.agg #[.int .i64 0,.slice none 0 0]) 2 32 underlying42 HI.out.1 HI.out.2.1 HI.out.2.2.1 HI.out.2.2.2 rfl (by decide) _ _ _ rfl HO.out ⟨b1,o1,none⟩ n1 c1 QT rfl H1.out.1 (by intro j u hj;rw[Addr.add_mid];exact(HJ.out.2.cell (p:=⟨b1,o1+j,none⟩) H1.out.2.1.1).trans (H1.out.2.1.2 j u hj)) H1.out.2.2 (by unfold maxLen;omega) (by omega) HJ.out.2.size ?_;intro v3 w3 o3 g3 _;have J3:=aa (ai o3 (HJ.out.2.grown g3 HJ.out.2.size (fun r e=>(HO.out.lt r e).1)));clear o3 g3)|fail);go_roundw
     case rel=>exact⟨1,by omega,by go_num,by have:=J3.out.1;simpa [jP,oU] using this,J3.out.2⟩
     case measure=>simp[intOf]
    ·have HO:=ae (wr.ownsRow w.heap.size 55 2 u6 n1 QT) (by have:=HJ.out.1;simpa [jP,oU] using this);have cc:=(HJ.out.2.cell (p:=⟨B,1,none⟩) Qd.out).trans Pj.out;go_wp2_with (first|(at_builtin;refine wpList_append_own _ rfl (.tmp 31) (.tmp 32) 42 rfl w.heap.size 55 i0 (.agg #[.int .i64 0,.slice none 0 0]) 2 32 underlying42 HI.out.1 HI.out.2.1 HI.out.2.2.1 HI.out.2.2.2 rfl (by decide) _ _ _ rfl HO.out ⟨b2,o2,none⟩ n2 c2 Sd rfl H2.out.1 (by intro j u hj;rw[Addr.add_mid];exact(HJ.out.2.cell (p:=⟨b2,o2+j,none⟩) H2.out.2.1.1).trans (H2.out.2.1.2 j u hj)) H2.out.2.2 (by unfold maxLen;omega) (by omega) HJ.out.2.size ?_;intro v3 w3 o3 g3 _;have J3:=aa (ai o3 (HJ.out.2.grown g3 HJ.out.2.size (fun r e=>(HO.out.lt r e).1)));clear o3 g3)|fail);go_roundw
     case rel=>exact⟨2,by omega,by go_num,by have:=J3.out.1;simpa [jP,oU] using this,J3.out.2⟩
     case measure=>simp[intOf]
    ·have HO:=ae (wr.ownsRow w.heap.size 55 2 u6 s (QT++Sd)) (by rw[HS.out.1];have:=HJ.out.1;simpa [jP,oU] using this);go_wp2;go_ret;exact⟨_,rfl,HO.out,HJ.out.2⟩
end
end Go.Proofs.YtpplnhkpcpieoaaGreatDoor
