/- A right map, as the model and the program look at it: L04Right, mapFault -/
import Derived.Test.YtpplnhkpcpieoaaGreatDoorZx01
import Derived.Laws.BitsLemmas
namespace Go.Proofs.YtpplnhkpcpieoaaGreatDoor
open Go.Proofs.Tryz
open _root_.List (getD range mem_singleton flatMap_cons flatMap_map filter_append nil_append)
open _root_.Bool (and_eq_true)
set_option linter.all false
set_option maxRecDepth 100000
set_option maxHeartbeats 16000000
section
open Go.RowKit
def iy(z:Int):Bool:=decide (0≤z)&&decide (z≤4294967295)
def gU(i:Nat)(z:Int):Bool:=decide (2≤i)||decide (z=1)
def eN(ws:List Int):Nat→Bool
 |0=>true
 |k+1=>eN ws k&&(iy (ws.getD k 0)&&gU k (ws.getD k 0))
def jR(n:Nat):Bool:=decide (64≤n)&&decide (n≤2048)
def eD(ws:List Int):Bool:=jR ws.length&&eN ws ws.length
theorem Dm(v:Value)(ws:List Int)(w:World)(h:Rd .i64 w v ws):
 Calls prog 96 #[v] w fun e w'=>∃ev,e=.returned ev∧fB w' w.heap.size (eD ws) ev 7∧Below w.heap.size w w':=by
 have hm:=h.len;unfold maxLen at hm;have hb0:Below w.heap.size w (w.alloc (.cells #[.int .i64 7,.nilIface] 93)):=ak.alloc aj _;have K:=aa (ai (Ck.fresh w 7 93) hb0);have HS:=ae (jR ws.length=(decide ((64:Int)≤(ws.length:Int))&&decide ((ws.length:Int)≤2048))) (by unfold jR;congr 1<;>(apply decide_eq_decide.2;omega));have HR:=ae (∀b,eN ws ws.length=b→eD ws=(jR ws.length&&b)) (fun b hb=>by unfold eD;rw[hb]);have HO:=ae (∀k,eN ws (k+1)=(eN ws k&&(iy (ws.getD k 0)&&gU k (ws.getD k 0)))) (fun k=>rfl);have H0:=ae (eN ws 0=true) rfl;clear hb0;rcases h.parts with⟨a,cap,rfl,hlow⟩|⟨b,off,cap,rfl,hbw,hcell⟩;all_goals
  clear h;go_enter func96,ntmps96;go_wp2_with (go_at_call 45;fail);refine(nF w.heap.size (w.heap.size+1) _ 7 _ 64 2048 true _ K.out.1 (by omega) (by simp)).mono ?_;rintro e w1 ⟨rfl,hc1,ht1⟩;rw[Bool.true_and, ←HS.out] at hc1;have H1:=aa (ai hc1 (ht1.under K.out.2 aj (by simp)));clear hc1 ht1 K;go_wp2;go_loopw [12] (fun i wr=>∃k:Nat,k≤ws.length∧i=.int .i64 k∧Ck wr w.heap.size (w.heap.size+1) 7 (jR ws.length&&eN ws k)∧Below w.heap.size w wr) (fun i _=>ws.length-(intOf i).toNat)
  case atStart=>exact⟨0,by omega,rfl,by rw[H0.out,Bool.and_true];exact H1.out.1,H1.out.2⟩
  case round=>
   obtain⟨k,hk,rfl,hck,hbel⟩:=hrel;have HK:=aa (ai hck hbel);have hlt1:=hck.lt;clear hck hbel H1;by_cases hlt:k<ws.length
   ·first
    |omega
    |(
     have c1:=(HK.out.2.cell (p:=⟨b,off+k,none⟩) hbw).trans (hcell k hlt);have HT:=aa (HO.out k);clear hcell;generalize ws.getD k 0=z at c1 HT;go_wp2_with (go_at_call 45;fail);refine(nF w.heap.size (w.heap.size+1) _ 7 z 0 4294967295 _ _ HK.out.1 (by omega) (by omega)).mono ?_;rintro e w2 ⟨rfl,hc2,ht2⟩;have H2:=aa (ai hc2 (ht2.under HK.out.2 aj (by omega)));have hlt2:=hc2.lt;clear hc2 ht2 HK c1;by_cases h2:2≤k
     ·have HH:=ae (gU k z=true) (by simp[gU,h2]);go_wp2_with (go_at_call 46;refine(eB w.heap.size (w.heap.size+1) _ 7 _ true _ H2.out.1 (by omega) (by omega)).mono ?_;rintro e w3 ⟨rfl,hc3,ht3⟩);have H3:=aa (ai hc3 (ht3.under H2.out.2 aj (by omega)));clear hc3 ht3;go_roundw
      case rel=>exact⟨k+1,by omega,by go_num,by rw[HT.out,HH.out, ←Bool.and_assoc, ←Bool.and_assoc];exact H3.out.1,H3.out.2⟩
      case measure=>simp[intOf];omega
     ·have HH:=ae (gU k z=(decide ((2:Int)≤(k:Int))||z==1)) (by unfold gU;congr 1;apply decide_eq_decide.2;omega);go_wp2_with (go_at_call 46;refine(eB w.heap.size (w.heap.size+1) _ 7 _ _ _ H2.out.1 (by omega) (by omega)).mono ?_;rintro e w3 ⟨rfl,hc3,ht3⟩);have H3:=aa (ai hc3 (ht3.under H2.out.2 aj (by omega)));clear hc3 ht3;go_roundw
      case rel=>exact⟨k+1,by omega,by go_num,by rw[HT.out,HH.out, ←Bool.and_assoc, ←Bool.and_assoc];exact H3.out.1,H3.out.2⟩
      case measure=>simp[intOf];omega)
   ·have ek:k=ws.length:=(by omega);obtain⟨ev,c3,hf⟩:=HK.out.1.fault;have HF:=aa (ai hf (ai HK.out.2 ek));clear hf ek HK;go_wp2;go_ret;refine⟨ev,rfl,?_,HF.out.2.1⟩;have h:=HF.out.1;rw[HF.out.2.2] at h;exact h.mono (by omega)
theorem sS(ws:List Int):∀(n k:Nat),k≤n→eN ws n=true→eN ws k=true
 |0,k,hk,h=>by
  have:k=0:=by omega
  subst this;exact h
 |n+1,k,hk,h=>by
  by_cases e:k=n+1
  ·subst e;exact h
  ·have h':(eN ws n&&(iy (ws.getD n 0)&&gU n (ws.getD n 0)))=true:=h;rw[and_eq_true] at h';exact sS ws n k (by omega) h'.1
theorem Dn(ws:List Int)(n k:Nat)(hk:k<n)(h:(iy (ws.getD k 0)&&gU k (ws.getD k 0))=false):eN ws n=false:=by
 cases e:eN ws n with
 |false=>rfl
 |true=>
  have h1:=sS ws n (k+1) (by omega) e;have h2:(eN ws k&&(iy (ws.getD k 0)&&gU k (ws.getD k 0)))=true:=h1;rw[h,Bool.and_false] at h2;cases h2
theorem Dp(v:Value)(ws:List Int)(w:World)(h:Rd .i64 w v ws):
 Calls prog 31 #[v] w fun e w'=>e=.returned (.bool (eD ws))∧w'=w:=by
 have hm:=h.len;unfold maxLen at hm;by_cases h1:ws.length<64
 ·have HR:=ae (eD ws=false) (by simp[eD,jR];omega);obtain⟨a,cap,rfl,_⟩:=h;go_enter func31,ntmps31;go_wp2;go_ret;exact⟨bX HR.out.symm,rfl⟩
 ·by_cases h2:2048<ws.length
  ·have HR:=ae (eD ws=false) (by simp[eD,jR];omega);obtain⟨a,cap,rfl,_⟩:=h;go_enter func31,ntmps31;go_wp2;go_ret;exact⟨bX HR.out.symm,rfl⟩
  ·obtain⟨b,off,cap,rfl,hbw,_,_,hcell⟩:=h.dJ (by omega);have HZ:=ae (eD ws=eN ws ws.length) (by
    have e:jR ws.length=true:=(by simp[jR];omega);rw[eD,e,Bool.true_and])
   have HF:=aa (Dn ws ws.length);have HO:=ae (∀k,eN ws (k+1)=(eN ws k&&(iy (ws.getD k 0)&&gU k (ws.getD k 0)))) (fun k=>rfl);have c0:=hcell 0 (by omega);have c1:=hcell 1 (by omega);rw[Nat.add_zero] at c0;by_cases h3:ws.getD 0 0=1
   ·by_cases h4:ws.getD 1 0=1
    ·rw[h3] at c0;rw[h4] at c1;have HH:=ae (∀k,gU k (ws.getD k 0)=true) (fun k=>by
      unfold gU;by_cases hk:2≤k
      ·simp[hk]
      ·have:k=0∨k=1:=(by omega);rcases this with rfl|rfl
       ·rw[h3];simp
       ·rw[h4];simp)
     have H0:=ae (eN ws 0=true) rfl;have HC:=aa hcell;clear h3 h4 hcell h;go_enter func31,ntmps31;go_wp2;go_loop [27] (fun i=>∃k:Nat,k≤ws.length∧i=.int .i64 k∧eN ws k=true) (fun i=>ws.length-(intOf i).toNat)
     case atStart=>exact⟨0,by omega,rfl,H0.out⟩
     case round=>
      obtain⟨k,hk,rfl,hok⟩:=hrel;have HK:=aa hok;clear hok c0 c1;by_cases hlt:k<ws.length
      ·have ck:=HC.out k hlt;have HT:=aa (HO.out k);have HE:=aa (HF.out k hlt);rw[HH.out k,Bool.and_true] at HT HE;generalize ws.getD k 0=z at ck HT HE;by_cases hz0:z<0
       ·have hw:=ae (iy z=false) (by simp[iy];omega);go_wp2;go_ret;exact⟨bX (by rw[HZ.out,HE.out hw.out]),rfl⟩
       ·by_cases hz1:4294967295<z
        ·have hw:=ae (iy z=false) (by simp[iy];omega);go_wp2;go_ret;exact⟨bX (by rw[HZ.out,HE.out hw.out]),rfl⟩
        ·have hw:=ae (iy z=true) (by simp[iy];omega);go_wp2;go_round
         case rel=>exact⟨k+1,by omega,by go_num,by rw[HT.out,HK.out,hw.out];rfl⟩
         case measure=>simp[intOf];omega
      ·have ek:k=ws.length:=(by omega);have HE:=ae (eN ws ws.length=true) (by rw[←ek];exact HK.out);clear ek;go_wp2;go_ret;exact⟨bX (by rw[HZ.out,HE.out]),rfl⟩
    ·have HR:=ae (eN ws ws.length=false) (HF.out 1 (by omega) (by simp[gU];intro _;exact h4));have hq:(ws.getD 1 0 !=1)=true:=(by simpa using h4);rw[h3] at c0;generalize ws.getD 1 0=z1 at c1 hq;clear h3 h4 hcell h;go_enter func31,ntmps31;go_wp2;go_ret;exact⟨bX (by rw[HZ.out,HR.out]),rfl⟩
   ·have HR:=ae (eN ws ws.length=false) (HF.out 0 (by omega) (by simp[gU];intro _;exact h3));have hq:(ws.getD 0 0 !=1)=true:=(by simpa using h3);generalize ws.getD 0 0=z0 at c0 hq;clear h3 hcell h c1;go_enter func31,ntmps31;go_wp2;go_ret;exact⟨bX (by rw[HZ.out,HR.out]),rfl⟩
def eV(z p:Nat):Nat:=z/2^p%2
theorem Dq(n:Int)(h0:0≤n)(h1:n<2^63):IntKind.i64.wrap n=n:=by rw[IntKind.wrap_i64];omega
theorem Dr(z p:Nat)(w:World)(hz:z≤4294967295)(hp:p<32):
 Calls prog 143 #[.int .i64 (z:Int),.int .i64 (p:Int)] w fun e w'=>e=.returned (.int .i64 (eV z p:Nat))∧w'=w:=by
 have H0:=ae (z/2^0=z) (by simp);have HS:=ae (∀k,z/2^(k+1)=z/2^k/2) (fun k=>by rw[Nat.pow_succ,Nat.div_div_eq_div_mul]);have HL:=ae (∀k,z/2^k≤4294967295) (fun k=>aK (Nat.div_le_self _ _) hz);have HB:=ae (eV z p=z/2^p%2) rfl;go_enter func143,ntmps143;go_wp2;go_loop [0,5] (fun a i=>∃k y:Nat,k≤p∧i=.int .i64 k∧a=.int .i64 y∧y=z/2^k) (fun _ i=>p-(intOf i).toNat)
 case atStart=>exact⟨0,z,by omega,rfl,rfl,H0.out.symm⟩
 case round=>
  obtain⟨k,y,hk,rfl,rfl,hy⟩:=hrel;have hyl:y≤4294967295:=by rw[hy];exact HL.out k
  have HY:=aa hy;clear hy hz;by_cases hlt:k<p
  ·go_wp2;go_round
   case rel=>exact⟨k+1,y/2,by omega,by go_num,by go_num,by rw[HS.out, ←HY.out]⟩
   case measure=>simp[intOf];omega
  ·have ek:k=p:=(by omega);subst ek;go_wp2;go_ret;exact⟨gz (by rw[HB.out, ←HY.out];omega),rfl⟩
def eX(y p:Nat):Nat:=y-eV y p*2^p
def wJ(y p:Nat):Nat:=eX y p+2^p
theorem oZ(y p:Nat):eV y p<2:=Nat.mod_lt _ (by decide)
theorem nG(x p:Nat):x.testBit p=decide (eV x p=1):=Nat.testBit_eq_decide_div_mod_eq
theorem Dt(x p:Nat)(h:eV x p=0)(i:Nat):(2^p+x).testBit i=(x.testBit i||decide (p=i)):=by
 rcases Nat.lt_trichotomy i p with hi|rfl|hi
 ·rw[Nat.testBit_two_pow_add_gt hi,decide_eq_false (by omega),Bool.or_false]
 ·rw[Nat.testBit_two_pow_add_eq,nG,h];simp
 ·rw[nG,nG,decide_eq_false (show ¬p=i by omega),Bool.or_false];have e:(2^p+x)/2^i=x/2^i:=by
   have hp:2^i=2^p*(2*2^(i-p-1)):=by
    rw[←Nat.pow_succ', ←Nat.pow_add];congr 1;omega
   rw[hp, ←Nat.div_div_eq_div_mul, ←Nat.div_div_eq_div_mul, ←Nat.div_div_eq_div_mul, ←Nat.div_div_eq_div_mul];congr 1;rw[Nat.add_div_left _ (Nat.two_pow_pos p)];unfold eV at h;generalize x/2^p=q at h;omega
  unfold eV;rw[e]
theorem wK(y p:Nat):eV (eX y p) p=0∧y=eX y p+eV y p*2^p:=by
 have hb:=oZ y p;have hd:=Nat.div_mul_le_self y (2^p);have hle:eV y p*2^p≤y:=aK (Nat.mul_le_mul_right _ (Nat.mod_le _ _)) hd;refine⟨?_,by unfold eX;omega⟩;rcases(show eV y p=0∨eV y p=1 by omega) with h|h
 ·unfold eX;rw[h];simpa using h
 ·have e:y=2^p+eX y p:=by unfold eX;rw[h] at hle⊢;omega
  have h2:y.testBit p=true:=by rw[nG,h];rfl
  rw[e,Nat.testBit_two_pow_add_eq,nG] at h2;have:=oZ (eX y p) p;simp at h2;omega
theorem sU(y p:Nat):eX y p≤y:=Nat.sub_le _ _
theorem Du(y p:Nat)(hy:y<2^64)(hp:p<64):y&&& (2^64-(2^p+1))=eX y p:=by
 apply Nat.eq_of_testBit_eq;intro i;have h2:2^p<2^64:=Nat.pow_lt_pow_right (by decide) hp;have hs:=wK y p;have hc:=sU y p;have hz:(eX y p).testBit p=false:=by rw[nG,hs.1];rfl
 rw[Nat.testBit_and,Nat.testBit_two_pow_sub_succ h2,Nat.testBit_two_pow];by_cases hi:i<64
 ·have hy2:y.testBit i=((eX y p).testBit i||(decide (p=i)&&decide (eV y p=1))):=by
   rcases(show eV y p=0∨eV y p=1 by have:=oZ y p;omega) with h|h
   ·have e:eX y p=y:=(by unfold eX;rw[h];simp);rw[e,h];simp
   ·have e:y=2^p+eX y p:=(by have:=hs.2;rw[h] at this;omega);have:=Dt (eX y p) p hs.1 i;rw[←e] at this;rw[this,h];simp
  rw[hy2];by_cases hpi:p=i
  ·subst hpi;rw[hz];simp
  ·simp[hpi,hi]
 ·have h64:2^64≤2^i:=Nat.pow_le_pow_right (by decide) (by omega);rw[Nat.testBit_lt_two_pow (show y<2^i by omega),Nat.testBit_lt_two_pow (show eX y p<2^i by omega)];rfl
theorem Dv(y p:Nat)(hy:y≤4294967295)(hp:p<32):bits .andNot .i64 (y:Int) ((2^p:Nat):Int)=(eX y p:Int):=by
 have h2:2^p<2^64:=Nat.pow_lt_pow_right (by decide) (by omega);have hy':y%2^64=y:=Nat.mod_eq_of_lt (by omega);have hp':2^p%2^64=2^p:=Nat.mod_eq_of_lt h2;have e:=Du y p (by omega) (by omega);have hc:=sU y p;have eb:IntKind.i64.bits=64:=rfl;have:(BitVec.ofInt IntKind.i64.bits (y:Int)&&& ~~~ BitVec.ofInt IntKind.i64.bits ((2^p:Nat):Int)).toNat=eX y p:=by
  rw[eb,BitVec.ofInt_natCast,BitVec.ofInt_natCast,BitVec.toNat_and,BitVec.toNat_not,BitVec.toNat_ofNat,BitVec.toNat_ofNat,hy',hp', ←e];congr 1;omega
 show IntKind.i64.wrap ((BitVec.ofInt IntKind.i64.bits (y:Int)&&& ~~~ BitVec.ofInt IntKind.i64.bits ((2^p:Nat):Int)).toNat:Int)=_;rw[this];exact Dq _ (by omega) (by omega)
def l9(n:Nat)(z:Int):Bool:=decide (2≤z)&&decide (z<n)
def nH(y p:Nat)(i:Bool):Nat:=if i then wJ y p else eX y p
theorem Dw(ws:List Int)(hr:eD ws=true)(k:Nat)(hk:k<ws.length):∃y:Nat,ws.getD k 0=(y:Int)∧y≤4294967295:=by
 unfold eD at hr;rw[and_eq_true] at hr;have h1:=sS ws ws.length (k+1) (by omega) hr.2;have h2:(eN ws k&&(iy (ws.getD k 0)&&gU k (ws.getD k 0)))=true:=h1;simp only[and_eq_true] at h2;have h3:=h2.2.1;generalize ws.getD k 0=z at h3;simp[iy] at h3;exact⟨z.toNat,by omega,by omega⟩
theorem wL(ws:List Int)(hr:eD ws=true):64≤ws.length∧ws.length≤2048:=by
 unfold eD jR at hr;simp at hr;omega
theorem wM(z:Int)(n:Nat)(w:World):
 Calls prog 51 #[.int .i64 z,.int .i64 (n:Int)] w fun e w'=>e=.returned (.bool (l9 n z))∧w'=w:=by
 by_cases h1:2≤z<;>by_cases h2:z<(n:Int);all_goals
  have HI:=ae (l9 n z=(decide (2≤z)&&decide (z<(n:Int)))) rfl;go_enter func51,ntmps51;go_wp2;go_ret;exact⟨bX (by rw[HI.out];simp[h1,h2]),rfl⟩
theorem sV{w:World}{g n:Nat}{e:TypeId}{xs:List Value}(h:w.heap[g]?=some (.cells xs.toArray e (0,0)))(hn:xs.length=n)(hm:n≤maxLen)(base:Nat)(hb:base≤g):w.ownsRow base e 1 (.slice (some ⟨g,0,none⟩) n n) n xs:=
 ⟨by omega,.inr ⟨g,n,xs.toArray,rfl,hb,h,aj,hm,by simp[hn],by rw[Nat.mul_one];exact List.take_of_length_le (by simp;omega)⟩⟩
theorem sW{w:World}{base g n:Nat}{e:TypeId}{xs:List Value}(h:w.ownsRow base e 1 (.slice (some ⟨g,0,none⟩) n n) n xs):w.heap[g]?=some (.cells xs.toArray e (0,0)):=by
 rcases h.2 with⟨h1,_⟩|⟨g',cap,cur,e1,hb,hg,hnc,hcm,hcs,htake⟩
 ·cases h1
 ·injection e1 with e1 e2 e3;injection e1 with e1;injection e1 with e1;subst e1 e3;rw[hg];have:cur=xs.toArray:=by
   apply Array.ext';rw[←htake,List.take_of_length_le (by simp;omega)]
  rw[this]
theorem Dx{α:Type}(L X:List α)(h:L.length=X.length):splice L 0 X=X:=by
 unfold splice;rw[List.drop_of_length_le (by omega)];simp
theorem wN(v:Value)(ws:List Int)(w:World)(h:Rd .i64 w v ws)(hn:ws.length≤1048576):
 Calls prog 99 #[v] w fun e w'=>e=.returned (.slice (some ⟨w.heap.size,0,none⟩) ws.length ws.length)∧w'.ownsRow w.heap.size 3 1 (.slice (some ⟨w.heap.size,0,none⟩) ws.length ws.length) ws.length (ws.map (Value.int .i64))∧Below w.heap.size w w':=by
 obtain⟨i0,hi,hz0,hz1,hz2⟩:=info_parts fX;have hm:=h.len;have HN:=ae (ws.length≤maxLen) hm;unfold maxLen at hm;obtain⟨X,hX⟩:∃X,X=ws.map (Value.int .i64):=⟨_,rfl⟩;have HX:=ae (X.length=ws.length∧(∀v∈X,v.oneCell'=true)) (by subst hX;refine⟨by simp,?_⟩;intro v hv;simp at hv;obtain⟨z,_,rfl⟩:=hv;rfl);have X7:=ae (∀a cap,v=.slice a ws.length cap→0<X.length→∃ad,a=some ad∧∀j u,X[j]?=some u→w.cell? (ad.add j)=some u) (by
  intro a cap e hpos;obtain⟨b,off,cap',rfl,hbw,_,_,hcell⟩:=h.dJ (by subst hX;simpa using hpos);injection e with e1 e2 e3;subst e1;refine⟨_,rfl,fun j u hu=>?_⟩;have hj:j<ws.length:=by
   rcases Nat.lt_or_ge j ws.length with h1|h1
   ·exact h1
   ·rw[hX,List.getElem?_eq_none (by simp;omega)] at hu;cases hu
  have ea:(⟨b,off,none⟩:Addr).add j=⟨b,off+j,none⟩:=by
   unfold Addr.add;split
   ·rename_i h;subst h;rfl
   ·rfl
  rw[ea];rw[hcell j hj];rw[hX] at hu;simp[hj] at hu;rw[←hu];simp[getD,hj])
 have hsh:∃a cap,v=.slice a ws.length cap:=by obtain⟨a,cap,h1,_⟩:=h;exact⟨a,cap,h1⟩
 obtain⟨a0,cap0,rfl⟩:=hsh;rw[←hX];clear h hX;go_enter func99,ntmps99;go_wp2_with (first
  |(refine wpList_make_full _ rfl (.tmp 5) (.tmp 5) 45 rfl w.heap.size 3 i0 (.int .i64 0) 1 underlying45 hi hz0 hz1 .i64 .i64 ws.length ws.length ws.length rfl rfl rfl rfl (by rw[hz2];omega) (by unfold maxLen;omega) aj ?_;intro w1 hown hgrow;rw[iJ _ _ rfl] at hown;have H1:=aa (ai hown hgrow);clear hown hgrow)
  |(refine wpList_copy_splice rfl (.tmp 7) (.tmp 8) 45 45 rfl 3 underlying45 (by rw[hi];exact congrArg some hz1) (some ⟨w.heap.size,0,none⟩) a0 ws.length ws.length ws.length cap0 rfl rfl w.heap.size 0 (List.replicate ws.length (.int .i64 0)) 3 (sW H1.out.1) X (by rw[HX.out.1];exact(Nat.min_self _).symm) (fun hpos=>⟨rfl,?_⟩) (by rw[HX.out.1,List.length_replicate,Nat.zero_add];exact aj) HX.out.2 w.heap.size w (ak.grown H1.out.2 aj (fun k h=>by cases h)) aj ?_))
 ·obtain⟨ad,e,hc⟩:=X7.out _ _ rfl hpos;refine⟨ad,e,fun j v hv=>?_⟩;exact((ak.grown H1.out.2 aj (fun k h=>by cases h)).cell (eu (hc j v hv))).trans (hc j v hv)
 ·intro w2 h2 hb2;have H2:=aa (ai h2 hb2);clear h2 hb2;go_wp2;go_ret;refine⟨rfl,sV ?_ HX.out.1 HN.out _ aj,H2.out.2⟩;have h:=H2.out.1.out;rw[Dx _ _ (by rw[HX.out.1];simp)] at h;exact h
def cD(n c i:Nat):Nat:=if c+i<n then c+i else c+i-n+2
def dg(n:Nat)(x:Int):Int:=if x=(n:Int)-1 then 2 else wrap64 (x+1)
theorem sY(n c i:Nat)(h2:2≤c)(hc:c<n)(hi:i<n-2):2≤cD n c i∧cD n c i<n:=by
 unfold cD;split<;>omega
theorem wO(n c:Nat)(hc:c<n):cD n c 0=c:=by unfold cD;rw[if_pos (by omega)];rfl
theorem Dy(n c i:Nat)(h2:2≤c)(hc:c<n)(hn:n≤2048)(hi:i<n-2):((cD n c (i+1):Nat):Int)=dg n (cD n c i:Nat):=by
 unfold dg cD wrap64;split<;>split<;>split<;>omega
def nI(ws:List Int)(b:Nat):Bool:=decide (ws.getD b 0=0)
def jk(ws:List Int)(c k:Nat):List Int:=(((range k).map (cD ws.length c)).filter (nI ws)).map fun b:Nat=>(b:Int)
theorem wP(ws:List Int)(c k:Nat)(h:ws.getD (cD ws.length c k) 0=0):jk ws c (k+1)=jk ws c k++[((cD ws.length c k:Nat):Int)]:=by
 have e:nI ws (cD ws.length c k)=true:=by unfold nI;rw[h];rfl
 simp[jk,List.range_succ,List.filter_cons,e]
theorem wQ(ws:List Int)(c k:Nat)(h:¬ws.getD (cD ws.length c k) 0=0):jk ws c (k+1)=jk ws c k:=by
 have e:nI ws (cD ws.length c k)=false:=by unfold nI;exact decide_eq_false h
 simp[jk,List.range_succ,List.filter_cons,e]
theorem wS(ws:List Int)(c k:Nat):∀m,k≤m→jk ws c k<+:jk ws c m
 |0,h=>by
  have:k=0:=by omega
  subst this;exact List.prefix_refl _
 |m+1,h=>by
  by_cases e:k=m+1
  ·subst e;exact List.prefix_refl _
  ·have h1:=wS ws c k m (by omega);by_cases hz:ws.getD (cD ws.length c m) 0=0
   ·rw[wP ws c m hz];exact h1.trans (List.prefix_append _ _)
   ·rw[wQ ws c m hz];exact h1
def kL(ws:List Int)(c:Nat):List Int:=jk ws c (ws.length-2)
theorem qu(x:Int)(n:Nat)(w:World)(hn:2≤n)(hn2:n≤1048576):
 Calls prog 152 #[.int .i64 x,.int .i64 (n:Int)] w fun e w'=>e=.returned (.int .i64 (dg n x))∧w'=w:=by
 by_cases h:x=(n:Int)-1
 ·have HB:=ae (dg n x=2) (by unfold dg;rw[if_pos h]);subst h;go_enter func152,ntmps152;go_wp2;go_ret;exact⟨gz (by rw[HB.out]),rfl⟩
 ·have HB:=ae (dg n x=wrap64 (x+1)) (by unfold dg;rw[if_neg h]);have hq:(x==(n:Int)-1)=false:=by simpa using h
  go_enter func152,ntmps152;go_wp2;go_ret;exact⟨gz (by rw[HB.out]),rfl⟩
theorem wT(x:Int)(n:Nat)(w:World)(hn:2≤n)(hn2:n≤1048576):
 Calls prog 116 #[.int .i64 (n:Int),.int .i64 x] w fun e w'=>e=.returned (.int .i64 (dg n x))∧w'=w:=by
 by_cases h:x=(n:Int)-1
 ·have HB:=ae (dg n x=2) (by unfold dg;rw[if_pos h]);subst h;go_enter func116,ntmps116;go_wp2;go_ret;exact⟨gz (by rw[HB.out]),rfl⟩
 ·have HB:=ae (dg n x=wrap64 (x+1)) (by unfold dg;rw[if_neg h]);have hq:(x==(n:Int)-1)=false:=by simpa using h
  go_enter func116,ntmps116;go_wp2;go_ret;exact⟨gz (by rw[HB.out]),rfl⟩
structure FD where
 ws:List Int
 pl:List Int
 od:List Nat
 cu:Nat
def ej(ws:List Int)(k:Nat):List Int:=(range 128).map fun j=>ws.getD (128*k+j) 0
def even(z:Int):Int:=z-z%2
def fO(ws:List Int)(o:Int):List Int:=if o=0 then ws else ws.set o.toNat (even (ws.getD o.toNat 0))
def fD(ws bf:List Int)(c:Nat):Option Nat:=((range (ws.length-2)).map (cD ws.length c)).find? fun b=>decide (ws.getD b 0=0)&&decide (bf.getD b 0=0)
def gC(ol:List Int)(s:FD)(k b:Nat):FD:=⟨fO (s.ws.set b 1) (ol.getD k 0),s.pl.set k (b:Int),s.od++[k],(dg s.ws.length b).toNat⟩
def ja(m:Nat)(pl:List Int):Bool:=(range m).any fun k=>decide (12≤k)&&decide (pl.getD k 0≠0)
def fE(m:Nat)(bf ol:List Int)(s:FD)(k:Nat):Bool:=decide (s.pl.getD k 0=0)&&(decide (ol.getD k 0=0)||if k<m then decide (ej s.ws k≠ej bf k) else ja m s.pl)
def jw(bf ol:List Int)(s:FD)(k:Nat):FD×Bool:=match fD s.ws bf s.cu with
 |some b=>(gC ol s k b,true)
 |none=>(s,false)
def bS(m:Nat)(bf ol:List Int)(s:FD×Bool)(k:Nat):FD×Bool:=if s.2&&fE m bf ol s.1 k then jw bf ol s.1 k else s
def cE(m:Nat):List Nat:=range m++if 12<m then [m] else []
def cW(m:Nat)(bf ol:List Int)(s:FD):FD×Bool:=(cE m).foldl (bS m bf ol) (s,true)
def fJ(m:Nat)(bf ol:List Int):Nat→FD→FD×Bool
 |0,s=>(s,true)
 |f+1,s=>if(cW m bf ol s).2&&decide ((cW m bf ol s).1.od.length≠s.od.length) then fJ m bf ol f (cW m bf ol s).1 else cW m bf ol s
structure cF(m n:Nat)(s:FD):Prop where
 wl:s.ws.length=n
 wr:∀z∈s.ws,0≤z∧z<4294967296
 pn:s.pl.length=m+1
 pr:∀k,s.pl.getD k 0=0∨(2≤s.pl.getD k 0∧s.pl.getD k 0<n)
 on:∀k,k∈s.od↔s.pl.getD k 0≠0
 od:s.od.Nodup
 cu:2≤s.cu∧s.cu<n
theorem cF.qv{m n:Nat}{s:FD}(h:cF m n s):∀k∈s.od,k<m+1:=fun k hk=>by
 have h1:=(h.on k).1 hk;rcases Nat.lt_or_ge k (m+1) with h2|h2
 ·exact h2
 ·exact absurd (by simp[getD,List.getElem?_eq_none (by rw[h.pn];exact h2)]) h1
theorem Dz:∀(l:List Nat) (n:Nat),l.Nodup→(∀k∈l,k<n)→l.length≤n:=by
 intro l n h1 h2;have h3:l ⊆ range n:=fun k hk=>List.mem_range.2 (h2 k hk);have h4:=List.Nodup.length_le_of_subset h1 h3;simpa using h4
theorem cF.jb{m n:Nat}{s:FD}(h:cF m n s):s.od.length≤m+1:=Dz _ _ h.od h.qv
theorem qw{ws bf:List Int}{c b:Nat}(h2:2≤c)(hc:c<ws.length)(h:fD ws bf c=some b):2≤b∧b<ws.length∧ws.getD b 0=0∧bf.getD b 0=0:=by
 unfold fD at h;have h1:=List.mem_of_find?_eq_some h;have h3:=List.find?_some h;obtain⟨i,hi,rfl⟩:=List.mem_map.1 h1;have h4:=sY ws.length c i h2 hc (List.mem_range.1 hi);simp only[and_eq_true,decide_eq_true_eq] at h3;exact⟨h4.1,h4.2,h3⟩
theorem sZ{n b:Nat}(h2:2≤b)(hb:b<n)(hn:n≤2048):dg n b=((dg n b).toNat:Int)∧2≤(dg n b).toNat∧(dg n b).toNat<n:=by
 unfold dg wrap64;split<;>omega
theorem qx(l:List Int)(i j:Nat)(x:Int)(hi:i<l.length):(l.set i x).getD j 0=if j=i then x else l.getD j 0:=by
 simp only[getD,List.getElem?_set];by_cases h:i=j
 ·subst h;simp[hi]
 ·rw[if_neg h,if_neg (fun e=>h e.symm)]
theorem DA{z:Int}(h:0≤z∧z<4294967296):0≤even z∧even z<4294967296:=by unfold even;omega
theorem DB(ws:List Int)(o:Int):(fO ws o).length=ws.length:=by unfold fO;split<;>simp
theorem qy{ws:List Int}(h:∀z∈ws,0≤z∧z<4294967296)(k:Nat):0≤ws.getD k 0∧ws.getD k 0<4294967296:=by
 rcases Nat.lt_or_ge k ws.length with hk|hk
 ·have:ws.getD k 0=ws[k]:=by simp[getD,hk]
  rw[this];exact h _ (List.getElem_mem hk)
 ·simp[getD,List.getElem?_eq_none hk]
theorem DC{ws:List Int}(h:∀z∈ws,0≤z∧z<4294967296)(o:Int):∀z∈fO ws o,0≤z∧z<4294967296:=by
 intro z hz;unfold fO at hz;split at hz
 ·exact h z hz
 ·rcases List.mem_or_eq_of_mem_set hz with hz|rfl
  ·exact h z hz
  ·exact DA (qy h _)
theorem cF.move{m n:Nat}{s:FD}(h:cF m n s)(hn:n≤2048)(ol:List Int){k b:Nat}(hk:k<m+1)(h0:s.pl.getD k 0=0)(hb:2≤b∧b<n):cF m n (gC ol s k b):=by
 have hkl:k<s.pl.length:=by rw[h.pn];exact hk
 have e:∀j,(gC ol s k b).pl.getD j 0=if j=k then(b:Int) else s.pl.getD j 0:=fun j=>qx _ _ _ _ hkl;refine⟨?_,?_,?_,fun j=>?_,fun j=>?_,?_,?_⟩
 ·show(fO (s.ws.set b 1) _).length=n;rw[DB,List.length_set,h.wl]
 ·refine DC (fun z hz=>?_) _;rcases List.mem_or_eq_of_mem_set hz with hz|rfl
  ·exact h.wr z hz
  ·omega
 ·show(s.pl.set k _).length=_;rw[List.length_set,h.pn]
 ·rw[e j];split
  ·right;omega
  ·exact h.pr j
 ·rw[e j];show j∈s.od++[k]↔_;rw[List.mem_append,mem_singleton,h.on j];by_cases hj:j=k
  ·subst hj;rw[if_pos rfl];simp;omega
  ·rw[if_neg hj];simp[hj]
 ·show(s.od++[k]).Nodup;rw[List.nodup_append];refine⟨h.od,by simp,fun x hx y hy=>?_⟩;rw[mem_singleton] at hy;subst hy;rintro rfl;exact(h.on _).1 hx h0
 ·show 2≤(dg s.ws.length b).toNat∧(dg s.ws.length b).toNat<n;rw[h.wl];exact(sZ hb.1 hb.2 hn).2
theorem wU{m:Nat}{bf ol:List Int}{s:FD}{k:Nat}(h:fE m bf ol s k=true):s.pl.getD k 0=0:=by
 unfold fE at h;simp only[and_eq_true,decide_eq_true_eq] at h;exact h.1
theorem s4{m k:Nat}(h:k∈cE m):k<m+1:=by
 unfold cE at h;rcases List.mem_append.1 h with h|h
 ·have:=List.mem_range.1 h;omega
 ·split at h
  ·rw[mem_singleton] at h;omega
  ·cases h
theorem cF.step{m n:Nat}{s:FD×Bool}(h:cF m n s.1)(hn:n≤2048)(bf ol:List Int){k:Nat}(hk:k<m+1):cF m n (bS m bf ol s k).1∧s.1.od.length≤(bS m bf ol s k).1.od.length:=by
 unfold bS;split
 ·rename_i hs
  simp only[and_eq_true] at hs;unfold jw;split
  ·rename_i b hb
   have h1:=qw h.cu.1 (by rw[h.wl];exact h.cu.2) hb;rw[h.wl] at h1;exact⟨h.move hn ol hk (wU hs.2) ⟨h1.1,h1.2.1⟩,by show _≤(s.1.od++[k]).length;simp⟩
  ·exact⟨h,aj⟩
 ·exact⟨h,aj⟩
theorem cF.fold{m n:Nat}(hn:n≤2048)(bf ol:List Int):∀(ks:List Nat) (s:FD×Bool),cF m n s.1→(∀k∈ks,k<m+1)→cF m n (ks.foldl (bS m bf ol) s).1∧s.1.od.length≤(ks.foldl (bS m bf ol) s).1.od.length
 |[],s,h,_=>⟨h,aj⟩
 |k::ks,s,h,hk=>by
  have h1:=h.step hn bf ol (hk k (by simp));have h2:=cF.fold hn bf ol ks _ h1.1 (fun j hj=>hk j (by simp[hj]));exact⟨h2.1,aK h1.2 h2.2⟩
theorem cF.pass{m n:Nat}{s:FD}(h:cF m n s)(hn:n≤2048)(bf ol:List Int):cF m n (cW m bf ol s).1∧s.od.length≤(cW m bf ol s).1.od.length:=cF.fold hn bf ol (cE m) (s,true) h (fun k hk=>s4 hk)
end
section
abbrev HG:=Nat×Nat×Int
abbrev TL:=List HG×Bool
def cM(a b:TL):TL:=if a.2=true then a else(a.1++b.1,b.2)
def dz:List TL→TL
 |[]=>([],false)
 |a::L=>cM a (dz L)
theorem nJ:∀(L:List TL),(∀a∈L,a.2=false)→dz L=(L.flatMap (·.1),false)
 |[],_=>rfl
 |a::L,h=>by
  have ha:=h a List.mem_cons_self;have hL:=nJ L (fun x hx=>h x (List.mem_cons_of_mem _ hx));unfold dz cM;rw[ha,hL];simp
theorem s9:∀(L:List TL),(dz L).2=false→∀a∈L,a.2=false
 |[],_,a,ha=>by cases ha
 |b::L,h,a,ha=>by
  unfold dz cM at h;cases hb:b.2 with
  |true=>rw[hb] at h;simp[hb] at h
  |false=>
   rw[hb] at h;simp at h;rcases List.mem_cons.1 ha with rfl|ha
   ·exact hb
   ·exact s9 L h a ha
theorem qz{a b:TL}(ha:a.2=false)(hb:b.2=false):cM a b=(a.1++b.1,false):=by unfold cM;rw[ha,hb];simp
theorem qA{a b:TL}(h:(cM a b).2=false):a.2=false∧b.2=false:=by
 unfold cM at h;cases ha:a.2 with
 |true=>rw[ha] at h;simp[ha] at h
 |false=>rw[ha] at h;simp at h;exact⟨rfl,h⟩
theorem kM{α β:Type}:∀(L:List α) (f g:α→List β),(∀x∈L,f x=g x)→L.flatMap f=L.flatMap g
 |[],_,_,_=>rfl
 |a::L,f,g,h=>by rw[flatMap_cons,flatMap_cons,h a List.mem_cons_self,kM L f g (fun x hx=>h x (List.mem_cons_of_mem _ hx))]
def bM(n:Nat)(p:Int):Bool:=p==0||(decide (2≤p)&&decide (p<(n:Int)))
theorem DD(n:Nat):bM n 0=true:=rfl
section
variable (cnt n:Nat) (W:Int→Nat→Int)
def jS(r:Nat)(p:Int):TL:=if cnt≤r∨p=0 then([],false) else if bM n p=false then([],true) else([(0,r,p)],false)
def jT(r:Nat)(p:Int):TL:=if cnt≤12+r*128∨p=0 then([],false) else if bM n p=false then([],true) else cM ([(1,r,p)],false) (dz ((range 128).map fun k=>jS cnt n (12+r*128+k) (W p k)))
def mg(p:Int):TL:=if cnt≤140∨p=0 then([],false) else if bM n p=false then([],true) else cM ([(2,0,p)],false) (dz ((range 128).map fun k=>jT cnt n W (1+k) (W p k)))
def nK(D:Nat→Int)(S X:Int):TL:=cM (dz ((range 12).map fun i=>jS cnt n i (D i))) (cM (jT cnt n W 0 S) (mg cnt n W X))
def bJ(p:Int)(k:Nat):Int:=if p=0 then 0 else W p k
def cO(D:Nat→Int)(S X:Int)(i:Nat):Int:=if i<12 then D i else if i<140 then bJ W S (i-12) else bJ W (bJ W X ((i-140)/128)) ((i-140)%128)
def iK(D:Nat→Int)(S X:Int):Prop:=(∀i,i<12→bM n (D i)=true)∧bM n S=true∧bM n X=true∧(∀k,k<128→140+128*k<cnt→bM n (bJ W X k)=true)∧∀i,i<cnt→bM n (cO W D S X i)=true
def fP(b m:Nat)(f:Nat→Int):List HG:=(range m).flatMap fun k=>if cnt≤b+k∨f k=0 then [] else [(0,b+k,f k)]
def jc(r:Nat)(p:Int):List HG:=if cnt≤12+r*128∨p=0 then [] else [(1,r,p)]
def mV(p:Int):List HG:=if cnt≤140∨p=0 then [] else [(2,0,p)]
variable {cnt n W}
theorem wV{r:Nat}{p:Int}(h:r<cnt→bM n p=true):jS cnt n r p=(if cnt≤r∨p=0 then [] else [(0,r,p)],false):=by
 unfold jS;by_cases h0:cnt≤r∨p=0
 ·rw[if_pos h0,if_pos h0]
 ·rw[if_neg h0,if_neg h0,if_neg (by rw[h (by omega)];decide)]
theorem DE{r:Nat}{p:Int}(h:(jS cnt n r p).2=false)(hr:r<cnt):bM n p=true:=by
 unfold jS at h;by_cases hp:p=0
 ·rw[hp];rfl
 ·rw[if_neg (by omega)] at h;cases hg:bM n p with
  |true=>rfl
  |false=>rw[if_pos hg] at h;cases h
theorem wW(b m:Nat)(f:Nat→Int)(h:∀k,k<m→b+k<cnt→bM n (f k)=true):dz ((range m).map fun k=>jS cnt n (b+k) (f k))=(fP cnt b m f,false):=by
 rw[nJ _ (fun a ha=>by
  obtain⟨k,hk,rfl⟩:=List.mem_map.1 ha;rw[wV (h k (List.mem_range.1 hk))])]
 refine congrArg (fun x=>(x,false)) ?_;unfold fP;rw[flatMap_map];refine kM _ _ _ (fun k hk=>?_);rw[wV (h k (List.mem_range.1 hk))]
theorem wY{b m:Nat}{f:Nat→Int}(h:(dz ((range m).map fun k=>jS cnt n (b+k) (f k))).2=false):∀k,k<m→b+k<cnt→bM n (f k)=true:=fun k hk hb=>
 DE (s9 _ h _ (List.mem_map.2 ⟨k,List.mem_range.2 hk,rfl⟩)) hb
theorem wZ{b m:Nat}{f:Nat→Int}(h:cnt≤b∨∀k,f k=0):fP cnt b m f=[]:=by
 unfold fP;rw[List.flatMap_eq_nil_iff];intro k _;rw[if_pos (h.elim (fun h=>.inl (by omega)) (fun h=>.inr (h k)))]
theorem mh(k:Nat):bJ W 0 k=0:=by unfold bJ;rw[if_pos rfl]
theorem nL{p:Int}(h:p≠0)(k:Nat):bJ W p k=W p k:=by unfold bJ;rw[if_neg h]
def qB(cnt n:Nat)(W:Int→Nat→Int)(r:Nat)(p:Int):Prop:=(12+r*128<cnt→bM n p=true)∧∀k,k<128→12+r*128+k<cnt→bM n (bJ W p k)=true
theorem xb{r:Nat}{p:Int}(h:qB cnt n W r p):jT cnt n W r p=(jc cnt r p++fP cnt (12+r*128) 128 (bJ W p),false):=by
 unfold jT jc;by_cases h0:cnt≤12+r*128∨p=0
 ·rw[if_pos h0,if_pos h0,wZ (h0.elim .inl (fun e=>.inr (fun k=>by rw[e];exact mh k)))];rfl
 ·have hp:p≠0:=fun e=>h0 (.inr e);rw[if_neg h0,if_neg h0,if_neg (by rw[h.1 (by omega)];decide)];have e:=wW (n:=n) (cnt:=cnt) (12+r*128) 128 (W p) (fun k hk hb=>by rw[←nL (W:=W) hp k];exact h.2 k hk hb);rw[e,qz rfl rfl];have:bJ W p=W p:=funext (nL hp);rw[this]
theorem xd{r:Nat}{p:Int}(h:(jT cnt n W r p).2=false):qB cnt n W r p:=by
 unfold jT at h;by_cases hp:p=0
 ·subst hp;exact⟨fun _=>rfl,fun k _ _=>by rw[mh];rfl⟩
 ·by_cases hc:cnt≤12+r*128
  ·exact⟨fun h=>absurd h (by omega),fun k _ h=>absurd h (by omega)⟩
  ·rw[if_neg (by omega)] at h;cases hg:bM n p with
   |false=>rw[if_pos hg] at h;cases h
   |true=>
    rw[if_neg (by rw[hg];decide)] at h;exact⟨fun _=>hg,fun k hk hb=>by rw[nL hp];exact wY (qA h).2 k hk hb⟩
def td(cnt n:Nat)(W:Int→Nat→Int)(p:Int):Prop:=(140<cnt→bM n p=true)∧∀k,k<128→qB cnt n W (1+k) (bJ W p k)
theorem DF{p:Int}(h:td cnt n W p):mg cnt n W p=(mV cnt p++(range 128).flatMap (fun k=>jc cnt (1+k) (bJ W p k)++fP cnt (12+(1+k)*128) 128 (bJ W (bJ W p k))),false):=by
 unfold mg mV;by_cases h0:cnt≤140∨p=0
 ·rw[if_pos h0,if_pos h0];have e:(range 128).flatMap (fun k=>jc cnt (1+k) (bJ W p k)++fP cnt (12+(1+k)*128) 128 (bJ W (bJ W p k)))=[]:=by
   rw[List.flatMap_eq_nil_iff];intro k _;have hz:cnt≤12+(1+k)*128∨bJ W p k=0:=h0.elim (fun h=>.inl (by omega)) (fun e=>.inr (by rw[e];exact mh k));unfold jc;rw[if_pos hz,wZ (hz.elim .inl (fun e=>.inr (fun j=>by rw[e];exact mh j)))];rfl
  rw[e];rfl
 ·have hp:p≠0:=fun e=>h0 (.inr e);rw[if_neg h0,if_neg h0,if_neg (by rw[h.1 (by omega)];decide)];have hk:∀k,k<128→jT cnt n W (1+k) (W p k)=(jc cnt (1+k) (bJ W p k)++fP cnt (12+(1+k)*128) 128 (bJ W (bJ W p k)),false):=fun k hk=>by
   have:=xb (h.2 k hk);rw[nL hp k] at this⊢;exact this
  rw[nJ _ (fun a ha=>by
   obtain⟨k,hk2,rfl⟩:=List.mem_map.1 ha;rw[hk k (List.mem_range.1 hk2)]),qz rfl rfl,flatMap_map]
  refine congrArg (fun x=>(_++x,false)) (kM _ _ _ (fun k hk2=>?_));rw[hk k (List.mem_range.1 hk2)]
theorem DG{p:Int}(h:(mg cnt n W p).2=false):td cnt n W p:=by
 unfold mg at h;by_cases hp:p=0
 ·subst hp;exact⟨fun _=>rfl,fun k _=>⟨fun _=>by rw[mh];rfl,fun j _ _=>by rw[mh,mh];rfl⟩⟩
 ·by_cases hc:cnt≤140
  ·exact⟨fun h=>absurd h (by omega),fun k _=>⟨fun h=>absurd h (by omega),fun j _ h=>absurd h (by omega)⟩⟩
  ·rw[if_neg (by omega)] at h;cases hg:bM n p with
   |false=>rw[if_pos hg] at h;cases h
   |true=>
    rw[if_neg (by rw[hg];decide)] at h;exact⟨fun _=>hg,fun k hk=>by rw[nL hp];exact xd (s9 _ (qA h).2 _ (List.mem_map.2 ⟨k,List.mem_range.2 hk,rfl⟩))⟩
structure xe(cnt:Nat)(D:Nat→Int)(S X:Int):Prop where
 d:∀i,cnt≤i→D i=0
 s:cnt≤12→S=0
 x:cnt≤140→X=0
 c:cnt≤512
def iz(cnt:Nat)(W:Int→Nat→Int)(D:Nat→Int)(S X:Int):List HG:=fP cnt 0 12 D++(jc cnt 0 S++fP cnt 12 128 (bJ W S)++(mV cnt X++(range 128).flatMap (fun k=>jc cnt (1+k) (bJ W X k)++fP cnt (12+(1+k)*128) 128 (bJ W (bJ W X k)))))
theorem DH{D:Nat→Int}{S X:Int}(h:iK cnt n W D S X):nK cnt n W D S X=(iz cnt W D S X,false):=by
 obtain⟨hD,hS,hX,hO,hd⟩:=h;have e0:dz ((range 12).map fun i=>jS cnt n i (D i))=(fP cnt 0 12 D,false):=by
  have:=wW (cnt:=cnt) (n:=n) 0 12 D (fun k hk _=>hD k hk);simpa using this
 have e1:qB cnt n W 0 S:=⟨fun _=>hS,fun k hk hb=>by
  have:=hd (12+k) (by omega);unfold cO at this;rw[if_neg (by omega),if_pos (by omega),Nat.add_sub_cancel_left] at this;exact this⟩
 have e2:td cnt n W X:=⟨fun _=>hX,fun k hk=>⟨fun hc=>hO k hk (by omega),fun j hj hb=>by
  have:=hd (140+128*k+j) (by omega);unfold cO at this;rw[if_neg (by omega),if_neg (by omega),show(140+128*k+j-140)/128=k by omega,show(140+128*k+j-140)%128=j by omega] at this;exact this⟩⟩
 unfold nK;rw[e0,xb e1,DF e2,qz rfl rfl,qz rfl rfl];rfl
theorem DI{D:Nat→Int}{S X:Int}(hR:xe cnt D S X)(h:(nK cnt n W D S X).2=false):iK cnt n W D S X:=by
 have h1:=qA h;have h2:=qA h1.2;have o0:∀k,k<12→0+k<cnt→bM n (D k)=true:=wY (by simpa using h1.1);have o1:=xd h2.1;have o2:=DG h2.2;refine⟨fun i hi=>?_,?_,?_,fun k hk hc=>(o2.2 k hk).1 (by omega),fun i hi=>?_⟩
 ·by_cases hc:i<cnt
  ·exact o0 i hi (by omega)
  ·rw[hR.d i (by omega)];rfl
 ·by_cases hc:12<cnt
  ·exact o1.1 (by omega)
  ·rw[hR.s (by omega)];rfl
 ·by_cases hc:140<cnt
  ·exact o2.1 hc
  ·rw[hR.x (by omega)];rfl
 ·unfold cO;by_cases h12:i<12
  ·rw[if_pos h12];exact o0 i h12 (by omega)
  ·rw[if_neg h12];by_cases h140:i<140
   ·rw[if_pos h140];exact o1.2 (i-12) (by omega) (by omega)
   ·rw[if_neg h140];have hc:=hR.c;exact(o2.2 ((i-140)/128) (by omega)).2 ((i-140)%128) (by omega) (by omega)
end
end
section
section
variable {α:Type}
theorem DJ(L:List Nat)(g:Nat→List α)(h:∀k∈L,g k=[]):L.flatMap g=[]:=List.flatMap_eq_nil_iff.2 h
theorem DK(m c:Nat)(g:Nat→List α)(h:∀k,c≤k→g k=[]):(range m).flatMap g=(range (min m c)).flatMap g:=by
 rcases Nat.le_total m c with hm|hm
 ·rw[Nat.min_eq_left hm]
 ·rw[Nat.min_eq_right hm];obtain⟨d,rfl⟩:∃d,m=c+d:=⟨m-c,by omega⟩;rw[List.range_add,List.flatMap_append,flatMap_map,DJ (range d) _ (fun k _=>h _ (by omega)),List.append_nil]
theorem mW(a b:Nat)(g:Nat→List α):(range (a+b)).flatMap g=(range a).flatMap g++(range b).flatMap (fun k=>g (a+k)):=by
 rw[List.range_add,List.flatMap_append,flatMap_map]
theorem xg(c:Nat)(g:Nat→List α):∀K:Nat,(range K).flatMap (fun k=>(range 128).flatMap fun j=>g (c+128*k+j))=(range (128*K)).flatMap (fun i=>g (c+i))
 |0=>rfl
 |K+1=>by
  rw[mW K 1,xg c g K,Nat.mul_succ,mW (128*K) 128];refine congrArg (_++·) ?_;rw[show range 1=[0] from rfl,flatMap_cons,List.flatMap_nil,List.append_nil];exact kM _ _ _ (fun j _=>congrArg g (by omega))
end
section
variable {cnt n:Nat} {W:Int→Nat→Int} {D:Nat→Int} {S X:Int}
theorem xh{i:Nat}(h:i<12):cO W D S X i=D i:=by unfold cO;rw[if_pos h]
theorem xj{k:Nat}(h:k<128):cO W D S X (12+k)=bJ W S k:=by unfold cO;rw[if_neg (by omega),if_pos (by omega),Nat.add_sub_cancel_left]
theorem xk{k j:Nat}(h:j<128):cO W D S X (140+128*k+j)=bJ W (bJ W X k) j:=by
 unfold cO;rw[if_neg (by omega),if_neg (by omega),show(140+128*k+j-140)/128=k by omega,show(140+128*k+j-140)%128=j by omega]
def gP(cnt:Nat)(W:Int→Nat→Int)(D:Nat→Int)(S X:Int)(r:Nat):List HG:=if cnt≤r∨cO W D S X r=0 then [] else [(0,r,cO W D S X r)]
theorem tf(b m:Nat)(f:Nat→Int)(h:∀k,k<m→cO W D S X (b+k)=f k):fP cnt b m f=(range m).flatMap (fun k=>gP cnt W D S X (b+k)):=by
 unfold fP gP;exact kM _ _ _ (fun k hk=>by rw[h k (List.mem_range.1 hk)])
theorem tg(b m:Nat)(f:Nat→Int):(fP cnt b m f).filter (fun h=>h.1==0)=fP cnt b m f:=by
 rw[List.filter_eq_self];intro x hx;unfold fP at hx;obtain⟨k,_,hk⟩:=List.mem_flatMap.1 hx;by_cases hc:cnt≤b+k∨f k=0
 ·rw[if_pos hc] at hk;cases hk
 ·rw[if_neg hc,mem_singleton] at hk;rw[hk];rfl
theorem xm(r:Nat)(p:Int):(jc cnt r p).filter (fun h=>h.1==0)=[]:=by unfold jc;split<;>rfl
theorem DL(p:Int):(mV cnt p).filter (fun h=>h.1==0)=[]:=by unfold mV;split<;>rfl
theorem xq{α β:Type}(q:β→Bool)(g:α→List β):∀L:List α,(L.flatMap g).filter q=L.flatMap (fun x=>(g x).filter q)
 |[]=>rfl
 |a::L=>by rw[flatMap_cons,flatMap_cons,filter_append,xq q g L]
def nM(cnt:Nat)(W:Int→Nat→Int)(D:Nat→Int)(S X:Int):List HG:=(range cnt).flatMap fun r=>if cO W D S X r=0 then [] else [(0,r,cO W D S X r)]
theorem th(hc:cnt≤512):(iz cnt W D S X).filter (fun h=>h.1==0)=nM cnt W D S X:=by
 unfold iz;rw[filter_append,filter_append,filter_append,filter_append,tg,xm,tg,DL,nil_append,nil_append,xq];have e0:(range 128).flatMap (fun k=>(jc cnt (1+k) (bJ W X k)++fP cnt (12+(1+k)*128) 128 (bJ W (bJ W X k))).filter (fun h=>h.1==0))=(range (128*128)).flatMap (fun i=>gP cnt W D S X (140+i)):=by
  rw[←xg 140 (gP cnt W D S X) 128];refine kM _ _ _ (fun k _=>?_);rw[filter_append,xm,nil_append,tg,tf (W:=W) (D:=D) (S:=S) (X:=X) _ _ _ (fun j hj=>by rw[show 12+(1+k)*128+j=140+128*k+j by omega];exact xk hj)];exact kM _ _ _ (fun j _=>by rw[show 12+(1+k)*128+j=140+128*k+j by omega])
 rw[e0,tf (W:=W) (D:=D) (S:=S) (X:=X) 0 12 D (fun k hk=>by rw[Nat.zero_add];exact xh hk),tf (W:=W) (D:=D) (S:=S) (X:=X) 12 128 _ (fun k hk=>xj hk)];have e1:(range 12).flatMap (fun k=>gP cnt W D S X (0+k))++((range 128).flatMap (fun k=>gP cnt W D S X (12+k))++(range (128*128)).flatMap (fun i=>gP cnt W D S X (140+i)))=(range (12+128+128*128)).flatMap (gP cnt W D S X):=by
  have e9:(range 12).flatMap (fun k=>gP cnt W D S X (0+k))=(range 12).flatMap (gP cnt W D S X):=kM _ _ _ (fun k _=>by rw[Nat.zero_add]);rw[mW (12+128),mW 12 128,List.append_assoc,e9]
 rw[e1,DK _ cnt _ (fun k hk=>by unfold gP;rw[if_pos (.inl hk)]),Nat.min_eq_right (by omega)];unfold nM gP;refine kM _ _ _ (fun k hk=>?_);have:=List.mem_range.1 hk;by_cases h0:cO W D S X k=0
 ·rw[if_pos h0,if_pos (.inr h0)]
 ·rw[if_neg h0,if_neg (by omega)]
def jx(L:List Int)(lo hi:Nat):List Int:=(L.drop lo).take (hi-lo)
def jd(L:List Int):List Int:=L.filter (fun p=>p !=0)
theorem DM(A B:List Int):jd (A++B)=jd A++jd B:=filter_append ..
theorem DN(p:Int):jd [p]=if p=0 then [] else [p]:=by
 unfold jd;by_cases h:p=0
 ·rw[if_pos h,h];rfl
 ·rw[if_neg h];simp[h]
def jy(cnt:Nat):Nat:=min 128 ((cnt-140+127)/128)
theorem xu{k:Nat}(h:k<jy cnt):140+128*k<cnt:=by unfold jy at h;omega
theorem tj{k:Nat}(hc:cnt≤512)(h:jy cnt≤k):cnt≤140+128*k:=by unfold jy at h;omega
end
end
end Go.Proofs.YtpplnhkpcpieoaaGreatDoor
