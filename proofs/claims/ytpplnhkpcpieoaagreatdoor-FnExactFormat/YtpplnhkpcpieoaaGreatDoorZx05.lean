/- The model joins byte strings and fills them up: l02Join, l02Fill -/
import Derived.Test.YtpplnhkpcpieoaaGreatDoorZx04
import Derived.BigFrame
import Derived.Great.Walk
namespace Go.Proofs.YtpplnhkpcpieoaaGreatDoor
open Go.Proofs.Tryz
open _root_.List (getD getElem?_map replicate length_map range)
open World (size_alloc)
set_option linter.all false
set_option maxRecDepth 100000
set_option maxHeartbeats 16000000
section
open Go.RowKit
def dB(w:World):List Value→List (List Int)→Prop
 |[],[]=>True
 |v::vs,b::bs=>Rd .u8 w v b∧dB w vs bs
 |_,_=>False
theorem dB.below{w w':World}(hb:Below w.heap.size w w'):∀{vs:List Value} {bs:List (List Int)},dB w vs bs→dB w' vs bs
 |[],[],_=>trivial
 |_::_,_::_,h=>⟨h.1.below hb,dB.below hb h.2⟩
 |[],_::_,h=>h.elim
 |_::_,[],h=>h.elim
theorem dB.snoc{w:World}{v:Value}{b:List Int}(hv:Rd .u8 w v b):∀{vs:List Value} {bs:List (List Int)},dB w vs bs→dB w (vs++[v]) (bs++[b])
 |[],[],_=>⟨hv,trivial⟩
 |_::_,_::_,h=>⟨h.1,dB.snoc hv h.2⟩
 |[],_::_,h=>h.elim
 |_::_,[],h=>h.elim
theorem dB.next{w w':World}{base:Nat}{e:TypeId}{n:Nat}{v:Value}{b:List Int}{vs:List Value}{bs:List (List Int)}(h:dB w vs bs)(ho:w'.ownsRow base e 1 v n (b.map (Value.int .u8)))(hb:Below w.heap.size w w'):dB w' (vs++[v]) (bs++[b]):=
 (h.below hb).snoc (Rd.own ho)
theorem dB.len{w:World}:∀{vs:List Value} {bs:List (List Int)},dB w vs bs→vs.length=bs.length
 |[],[],_=>rfl
 |_::_,_::_,h=>by simp[dB.len h.2]
 |[],_::_,h=>h.elim
 |_::_,[],h=>h.elim
theorem dB.at{w:World}:∀{vs:List Value} {bs:List (List Int)} (k:Nat),dB w vs bs→k<bs.length→∃v,vs[k]?=some v∧Rd .u8 w v (bs.getD k [])
 |v::vs,b::bs,0,h,_=>⟨v,rfl,h.1⟩
 |v::vs,b::bs,k+1,h,hk=>by
  obtain⟨u,h1,h2⟩:=dB.at k h.2 (by simpa using hk);exact⟨u,by simpa using h1,by simpa using h2⟩
 |[],[],k,_,hk=>by simp at hk
 |[],_::_,_,h,_=>h.elim
 |_::_,[],_,h,_=>h.elim
theorem Ex{α:Type}(bs:List (List α))(k:Nat)(h:k<bs.length):(bs.take (k+1)).flatten=(bs.take k).flatten++bs.getD k []:=by
 rw[List.take_succ_eq_append_getElem h,List.flatten_append];simp[getD,h]
theorem Ey{α:Type}(bs:List (List α))(k:Nat):(bs.take k).flatten.length≤bs.flatten.length:=by
 conv=>rhs;rw[←List.take_append_drop k bs,List.flatten_append,List.length_append]
 omega
theorem xL(g n c:Nat)(vs:List Value)(bs:List (List Int))(w:World)(hcell:∀j v,vs[j]?=some v→w.cell? ⟨g,j,none⟩=some v)(hall:dB w vs bs)(hn:bs.length=n)(hn2:n≤1000)(hpos:∀b∈bs,0<b.length)(htot:bs.flatten.length≤100000)(hg:g<w.heap.size):
 Calls prog 42 #[.slice (some ⟨g,0,none⟩) n c] w fun e w'=>∃v',e=.returned v'∧w'.ownsRow w.heap.size 5 1 v' bs.flatten.length (bs.flatten.map (Value.int .u8))∧Below w.heap.size w w':=by
 obtain⟨i0,hi,hz0,hz1',hz2⟩:=info_parts eO;have HC:=aa (ai hcell (ai hall (ai hpos (ai hn htot))));have H0:=aa (nN w 5);have hb0:=ae (Below w.heap.size w (w.alloc (.cells #[] 5))) (ak.alloc aj _);clear hcell hall hpos hn htot;go_enter func42,ntmps42;go_wp2;go_loopw [3,9] (fun o i wr=>∃k:Nat,k≤n∧i=.int .i64 k∧wr.ownsRow w.heap.size 5 1 o (bs.take k).flatten.length ((bs.take k).flatten.map (Value.int .u8))∧Below w.heap.size w wr) (fun _ i _=>n-(intOf i).toNat)
 case atStart=>exact⟨0,by omega,rfl,by simpa using H0.out,hb0.out⟩
 case round=>
  clear H0 hb0;obtain⟨k,hk,rfl,hown,hb⟩:=hrel;have hsz:=hb.size;by_cases hlt:k<n
  ·obtain⟨v,hv,hr⟩:=HC.out.2.1.at k (by rw[HC.out.2.2.2.1];exact hlt);have hbk:0<(bs.getD k []).length:=HC.out.2.2.1 _ (by
    have:=HC.out.2.2.2.1;have hk2:k<bs.length:=(by omega);simp[getD,hk2])
   have HT:=aa (Ex bs k (by rw[HC.out.2.2.2.1];exact hlt));have hle:(bs.take k).flatten.length+(bs.getD k []).length≤100000:=by
    have h1:=Ey bs (k+1);rw[HT.out,List.length_append] at h1;have:=HC.out.2.2.2.2;omega
   have c1:wr.cell? ⟨g,k,none⟩=some v:=(hb.cell (p:=⟨g,k,none⟩) hg).trans (HC.out.1 k v hv);generalize bs.getD k []=z at hr HT hbk hle;obtain⟨bd,off,cp,rfl,hbw,_,_,NM⟩:=(hr.below hb).dJ hbk;have HX:=ae (∀(j:Nat) (u:Value),(z.map (Value.int .u8))[j]?=some u→wr.cell? ((⟨bd,off,none⟩:Addr).add j)=some u) (fun j u hj=>by
    have hjl:j<z.length:=by
     rcases Nat.lt_or_ge j z.length with h|h
     ·exact h
     ·rw[List.getElem?_eq_none (by simpa using h)] at hj;cases hj
    have ea:(⟨bd,off,none⟩:Addr).add j=⟨bd,off+j,none⟩:=(by unfold Addr.add;split<;>simp_all);rw[ea,NM j hjl];rw[getElem?_map,List.getElem?_eq_getElem hjl] at hj;simp at hj;rw[←hj];simp[getD,hjl])
   have HO:=aa (ai hown hb);clear NM hr hown hb hv;go_wp2_with (at_builtin;refine kP _ rfl (.tmp 13) (.tmp 14) 22 rfl w.heap.size 5 i0 (.int .u8 0) 1 1 underlying22 hi hz0 hz1' hz2 rfl (by decide) _ _ _ rfl HO.out.1 ⟨bd,off,none⟩ z.length cp (z.map (Value.int .u8)) rfl (by simp) HX.out (ints_oneCell _ _) hbk (by unfold maxLen;omega) (by omega) (by omega) ?_;intro v4 w4 o4 g4 f4);have HW:=ae (w4.ownsRow w.heap.size 5 1 v4 (bs.take (k+1)).flatten.length ((bs.take (k+1)).flatten.map (Value.int .u8))∧Below w.heap.size w w4) (by
    refine⟨?_,HO.out.2.grown g4 (by omega) (fun r h=>(HO.out.1.lt r h).1)⟩;rw[HT.out,List.map_append,List.length_append];exact o4)
   clear o4 g4 f4;go_roundw
   case rel=>exact⟨k+1,by omega,by go_num,HW.out.1,HW.out.2⟩
   case measure=>simp[intOf];omega
  ·have HO:=aa (ai hown hb);have e:k=n:=(by omega);clear hown hb;go_wp2;go_ret;have h2:=HO.out;rw[List.take_of_length_le (by rw[HC.out.2.2.2.1];omega)] at h2;exact⟨_,rfl,h2.1,h2.2⟩
theorem tH(v:Value)(zs:List Int)(n:Nat)(w:World)(h:Rd .u8 w v zs)(h0:0<zs.length)(h1:zs.length≤n)(h2:n≤100000):
 Calls prog 65 #[v,.int .i64 n] w fun e w'=>∃v',e=.returned v'∧w'.ownsRow w.heap.size 5 1 v' n ((zs++replicate (n-zs.length) 0).map (Value.int .u8))∧Below w.heap.size w w':=by
 obtain⟨i0,hi,hz0,hz1',hz2⟩:=info_parts eO;obtain⟨bd,off,cp,rfl,hbw,_,_,NM⟩:=h.dJ h0;have HB0:=ae (Below w.heap.size w (w.alloc (.cells #[] 5))) (ak.alloc aj _);have HX:=ae (∀(j:Nat) (u:Value),(zs.map (Value.int .u8))[j]?=some u→(w.alloc (.cells #[] 5)).cell? ((⟨bd,off,none⟩:Addr).add j)=some u) (fun j u hj=>by
  have hjl:j<zs.length:=by
   rcases Nat.lt_or_ge j zs.length with h|h
   ·exact h
   ·rw[List.getElem?_eq_none (by simpa using h)] at hj;cases hj
  have ea:(⟨bd,off,none⟩:Addr).add j=⟨bd,off+j,none⟩:=by unfold Addr.add;split<;>simp_all
  rw[ea,HB0.out.cell (p:=⟨bd,off+j,none⟩) hbw,NM j hjl];rw[getElem?_map,List.getElem?_eq_getElem hjl] at hj;simp at hj;rw[←hj];simp[getD,hjl])
 have H0:=aa (nN w 5);clear h NM;go_enter func65,ntmps65;go_wp2_with (at_builtin;refine kP _ rfl (.tmp 6) (.tmp 7) 22 rfl w.heap.size 5 i0 (.int .u8 0) 1 1 underlying22 hi hz0 hz1' hz2 rfl (by decide) _ _ _ rfl H0.out ⟨bd,off,none⟩ zs.length cp (zs.map (Value.int .u8)) rfl (by simp) HX.out (ints_oneCell _ _) h0 (by unfold maxLen;omega) (by omega) (by simp) ?_;intro v1 w1 o1 g1 f1);have H1:=ae (w1.ownsRow w.heap.size 5 1 v1 zs.length (zs.map (Value.int .u8))∧Below w.heap.size w w1) (⟨by simpa using o1,HB0.out.grown g1 (by simp) (fun r h=>(H0.out.lt r h).1)⟩);clear o1 g1 f1;go_loopw [5] (fun o wr=>∃j:Nat,zs.length+j≤n∧wr.ownsRow w.heap.size 5 1 o (zs.length+j) ((zs++replicate j 0).map (Value.int .u8))∧Below w.heap.size w wr) (fun o _=>n-(match o with|.slice _ l _=>l|_=>0))
 case atStart=>exact⟨0,by omega,by simpa using H1.out.1,H1.out.2⟩
 case round=>
  clear H1;obtain⟨j,hj,hown,hb⟩:=hrel;have hsz:=hb.size;rcases hown.2 with⟨rfl,hn0⟩|⟨g,cap,cur,rfl,_⟩
  ·omega
  ·by_cases hlt:zs.length+j<n
   ·have HO:=aa (ai hown hb);clear hown hb;go_wp2_with (at_builtin;refine kP _ rfl (.tmp 13) (.tmp 14) 22 rfl w.heap.size 5 i0 (.int .u8 0) 1 1 underlying22 hi hz0 hz1' hz2 rfl (by decide) _ _ _ rfl (HO.out.1.alloc _) ⟨wr.heap.size,0,none⟩ 1 1 [.int .u8 0] rfl rfl (cell_one_new _ _ _) (mX _) (by omega) (by unfold maxLen;omega) (by omega) (by simp;omega) ?_;intro v4 w4 o4 g4 f4);have HW:=ae (w4.ownsRow w.heap.size 5 1 v4 (zs.length+(j+1)) ((zs++replicate (j+1) 0).map (Value.int .u8))∧Below w.heap.size w w4) (by
     refine⟨?_,(HO.out.2.alloc hsz _).grown g4 (by simp;omega) (fun r h=>(HO.out.1.lt r h).1)⟩;rw[List.replicate_succ', ←List.append_assoc,List.map_append];exact o4)
    have hlen:∃a c,v4=.slice a (zs.length+(j+1)) c:=by
     rcases HW.out.1.2 with⟨rfl,hn0⟩|⟨g,cap,cur,rfl,_⟩
     ·omega
     ·exact⟨_,_,rfl⟩
    obtain⟨a4,c4,rfl⟩:=hlen;clear o4 g4 f4;go_roundw
    case rel=>exact⟨j+1,by omega,HW.out.1,HW.out.2⟩
    case measure=>show n-(zs.length+(j+1))<n-(zs.length+j);omega
   ·have HO:=aa (ai hown hb);clear hown hb;go_wp2;go_ret;have h3:=HO.out;have e:j=n-zs.length:=(by omega);rw[show zs.length+j=n by omega,e] at h3;exact⟨_,rfl,by rw[show zs.length+j=n by omega];exact h3.1,h3.2⟩
def dx(n:Nat):Bool:=decide (n%512=0)&&(decide (64≤n/512)&&decide (n/512≤2048))
theorem xM(v:Value)(zs:List Int)(w:World)(h:Rd .u8 w v zs)(hz:zs.length≤140737488355328):
 Calls prog 121 #[v] w fun e w'=>e=.returned (.bool (dx zs.length))∧w=w':=by
 obtain⟨a,cap,rfl⟩:∃a cap,v=.slice a zs.length cap:=by obtain⟨a,cap,h1,_⟩:=h;exact⟨a,cap,h1⟩
 clear h;generalize zs.length=n at hz⊢;by_cases h1:n%512=0
 ·have hq1:((n:Int)%512==0)=true:=by simp;omega
  by_cases h2:64≤n/512
  ·have hq2:decide ((64:Int)≤(n:Int)/512)=true:=(by simp;omega);have HR:=ae (dx n=decide ((n:Int)/512≤2048)) (by unfold dx;rw[decide_eq_true h1,decide_eq_true h2,Bool.true_and,Bool.true_and,decide_eq_decide];omega);clear h1 h2;go_enter func121,ntmps121;go_wp2;go_ret;exact⟨bX (by rw[HR.out]),rfl⟩
  ·have hq2:decide ((64:Int)≤(n:Int)/512)=false:=(by simp;omega);have HR:=ae (dx n=false) (by unfold dx;rw[decide_eq_false h2,Bool.false_and,Bool.and_false]);clear h1 h2;go_enter func121,ntmps121;go_wp2;go_ret;exact⟨bX (by first|rfl|rw[HR.out]),rfl⟩
 ·have hq1:((n:Int)%512==0)=false:=by simp;omega
  have HR:=ae (dx n=false) (by unfold dx;rw[decide_eq_false h1,Bool.false_and]);clear h1;go_enter func121,ntmps121;go_wp2;go_ret;exact⟨bX (by first|rfl|rw[HR.out]),rfl⟩
theorem tI(v:Value)(zs:List Int)(w:World)(h:Rd .u8 w v zs)(hz:zs.length≤140737488355328):
 Calls prog 30 #[v] w fun e w'=>e=.returned (.int .i64 (if dx zs.length=true then((zs.length/512:Nat):Int) else 0))∧w=w':=by
 obtain⟨a,cap,rfl⟩:∃a cap,v=.slice a zs.length cap:=by obtain⟨a,cap,h1,_⟩:=h;exact⟨a,cap,h1⟩
 clear h;generalize zs.length=n at hz⊢;obtain⟨m,hm⟩:∃m,m=n/512:=⟨_,rfl⟩;have e1:(n:Int)/512=(m:Int):=by omega
 rw[←hm];by_cases h1:n%512=0
 ·have hq1:(((m:Int)*512) !=(n:Int))=false:=by simp;omega
  by_cases h2:64≤n/512
  ·have hq2:decide ((m:Int)<64)=false:=(by simp;omega);by_cases h3:n/512≤2048
   ·have hq3:decide ((2048:Int)<(m:Int))=false:=(by simp;omega);have HR:=ae ((if dx n=true then((m:Nat):Int) else 0)=(m:Int)) (by unfold dx;rw[decide_eq_true h1,decide_eq_true h2,decide_eq_true h3];rfl);rw[HR.out];have Ya:m≤2048:=(by omega);clear h1 h2 h3 hm;go_enter func30,ntmps30;go_wp2;go_ret;exact⟨rfl,rfl⟩
   ·have hq3:decide ((2048:Int)<(m:Int))=true:=(by simp;omega);have HR:=ae ((if dx n=true then((m:Nat):Int) else 0)=0) (by unfold dx;rw[decide_eq_false h3,Bool.and_false,Bool.and_false];rfl);rw[HR.out];have Ya:m≤300000000000:=(by omega);clear h1 h2 h3 hm;go_enter func30,ntmps30;go_wp2;go_ret;exact⟨rfl,rfl⟩
  ·have hq2:decide ((m:Int)<64)=true:=(by simp;omega);have HR:=ae ((if dx n=true then((m:Nat):Int) else 0)=0) (by unfold dx;rw[decide_eq_false h2,Bool.false_and,Bool.and_false];rfl);rw[HR.out];have Ya:m≤2048:=(by omega);clear h1 h2 hm;go_enter func30,ntmps30;go_wp2;go_ret;exact⟨rfl,rfl⟩
 ·have hq1:(((m:Int)*512) !=(n:Int))=true:=by simp;omega
  have HR:=ae ((if dx n=true then((m:Nat):Int) else 0)=0) (by unfold dx;rw[decide_eq_false h1,Bool.false_and];rfl);rw[HR.out];have Ya:m≤300000000000:=by omega
  clear h1 hm;go_enter func30,ntmps30;go_wp2;go_ret;exact⟨rfl,rfl⟩
theorem lH{P:Program}{ops:Array Oper}{rest:List Oper}{o:Oper}{a:Act}{w:World}{Q:Exit→Act→World→Prop}(hw:Region.wanted o (yielded ops a.tmps)=true)(ty:TypeId)(x:Operand)(ho:o.op=.load ty x)
 (g:Nat) (hx:a.eval x=.pointer (some ⟨g,0,none⟩)) (t:TypeId) (cs:Array Value) (fr:Nat×Nat) (d:TypeDesc) (hg:w.heap[g]?=some (.cells cs t fr))
 (hu:P.underlying ty=some d) (hd:(match d with|.struct _|.array _ _=>true|_=>false)=true) (hi:(P.info? ty).map (·.size)=some cs.size)
 (h:wpList P ops Q rest (a.put o.dst (.agg cs)) w):wpList P ops Q (o::rest) a w:=
 Go.BigFrame.wpList_want hw fun _ hK=>wp_load_row ty x ho g hx t cs fr d hg hu hd hi (hK _ _ h)
def jY(zs:List Int)(p:Int):List Int:=if p=0 then replicate 512 0 else bQ zs p
theorem Ez(v:Value)(zs:List Int)(p:Int)(w:World)(h:Rd .u8 w v zs)(h1:zs.length≤1048576)(hp:bM (zs.length/512) p=true):
 Calls prog 68 #[v,.int .i64 p] w fun e w'=>∃v',e=.returned v'∧Rd .u8 w' v' (jY zs p)∧Below w.heap.size w w':=by
 obtain⟨i0,hi,hz0,hz1,hz2⟩:=info_parts eO;by_cases h0:p=0
 ·subst h0;obtain⟨a,cap,rfl⟩:=eY h;clear h;go_enter func68,ntmps68;go_wp2_with (refine wpList_make_full _ rfl _ _ 22 rfl w.heap.size 5 i0 (.int .u8 0) 1 underlying22 hi hz0 hz1 .i64 .i64 512 512 512 rfl rfl rfl rfl (by rw[hz2];omega) (by unfold maxLen;omega) aj ?_;intro w3 o3 g3;rw[iJ _ _ rfl] at o3;have O3:=aa (ai o3 g3);clear o3 g3);go_ret;refine⟨_,rfl,?_,ak.grown O3.out.2 aj (fun k e=>by cases e)⟩;rw[show jY zs 0=replicate 512 0 from if_pos rfl];have e:w3.ownsRow w.heap.size 5 1 (.slice (some ⟨w.heap.size,0,none⟩) 512 512) 512 ((replicate 512 (0:Int)).map (Value.int .u8)):=by rw[List.map_replicate];exact O3.out.1
  exact Rd.own e
 ·obtain⟨h2,h3⟩:=mZ hp h0;obtain⟨q,rfl⟩:∃q:Nat,p=(q:Int):=⟨p.toNat,by omega⟩;obtain⟨b,off,cap,rfl,hb,hlc,hcm,hcell⟩:=h.dJ (by omega);obtain⟨A,hA⟩:∃A:Nat,A=q*512:=⟨_,rfl⟩;have hA1:(q:Int)*512=(A:Int):=by omega
  obtain⟨B,hB⟩:∃B:Nat,B=A+512:=⟨_,rfl⟩;have hA2:((q:Int)+1)*512=(B:Int):=by omega
  have X8:B≤zs.length:=by omega
  have HP:=ae (Rd .u8 w (.slice (some ⟨b,off+A,none⟩) 512 (cap-A)) (bQ zs (q:Int))) (by unfold bQ;rw[Int.toNat_natCast, ←hA];exact Rd.mS A 512 h (by omega) (by omega));have hB3:(A:Int)≤(B:Int):=by omega
  have hB4:(B:Int)≤(cap:Int):=by omega
  have UO:B-A=512:=by omega
  have hq:(q:Int)<4096:=by omega
  clear h hcell hA hB;go_enter func68,ntmps68;go_wp2;go_ret;refine⟨_,rfl,?_,ak⟩;rw[show jY zs (q:Int)=bQ zs (q:Int) from if_neg h0];exact HP.out
def iO(zs:List Int)(s:Int)(ds:List Int)(p q:Int):Int:=if dx zs.length=true∧cJ s ds p q=true then 0 else 7
theorem tJ(v:Value)(zs:List Int)(s:Int)(ds:List Int)(p q:Int)(w:World)(h:Rd .u8 w v zs)(h1:zs.length≤1048576)(hd:ds.length=12):
 Calls prog 28 #[v,.agg (an (aD s ds p q))] w fun e w'=>e=.returned (.int .i64 (iO zs s ds p q))∧Below w.heap.size w w':=by
 have HD:=aa hd;have HZ:=ae ((an (aD s ds p q)).size=15) (by rw[ct];exact dw s ds p q HD.out);have hb0:Below w.heap.size w (w.alloc (.cells (an (aD s ds p q)) 31)):=ak.alloc aj _;have HB0:=aa hb0;obtain⟨a,cap,rfl⟩:=eY h;have HR:=aa h;clear hd hb0 h;cases hsz:dx zs.length with
 |false=>
  have HS:=aa hsz;clear hsz;go_enter func28,ntmps28;go_wp2_with fail;refine(tI _ zs _ (HR.out.below HB0.out) (by omega)).mono ?_;rintro e w1 ⟨rfl,rfl⟩;rw[HS.out];go_wp2;go_ret;exact⟨by unfold iO;rw[HS.out,if_neg (by simp)];rfl,HB0.out⟩
 |true=>
  have HS:=aa hsz;have hn:((zs.length/512:Nat):Int)≠0:=by unfold dx at hsz;simp at hsz;omega
  obtain⟨n,hn2⟩:∃n:Nat,zs.length/512=n:=⟨_,rfl⟩;rw[hn2] at hn;have UN:((n:Int)==0)=false:=by simp;omega
  have HN:=aa hn2;clear hsz hn2;go_enter func28,ntmps28;go_wp2_with fail;refine(tI _ zs _ (HR.out.below HB0.out) (by omega)).mono ?_;rintro e w1 ⟨rfl,rfl⟩;rw[HS.out,HN.out,if_pos rfl];go_wp2_with (refine lH (by rfl) 31 _ rfl w.heap.size rfl 31 (an (aD s ds p q)) (0,0) _ (af.new w _ _) underlying31 rfl (by rw[HZ.out];exact dV) ?_);refine(nP s ds p q _ HD.out).mono ?_;rintro e w1 ⟨rfl,b1⟩;have HB1:=aa (HB0.out.trans (b1.mono HB0.out.size));clear b1;cases hr:cJ s ds p q with
  |false=>
   have HR2:=aa hr;clear hr;go_wp2;go_ret;exact⟨by unfold iO;rw[HR2.out,if_neg (by simp)];rfl,HB1.out⟩
  |true=>
   have HR2:=aa hr;clear hr;go_wp2;go_ret;exact⟨by unfold iO;rw[HR2.out,HS.out,if_pos ⟨rfl,rfl⟩];rfl,HB1.out⟩
theorem xN(x n:Int)(w:World):Calls prog 51 #[.int .i64 x,.int .i64 n] w fun e w'=>e=.returned (.bool (decide (2≤x)&&decide (x<n)))∧w=w':=by
 by_cases h2:2≤x
 ·have HR:=ae ((decide (2≤x)&&decide (x<n))=decide (x<n)) (by simp[h2]);go_enter func51,ntmps51;go_wp2;go_ret;exact⟨bX (by rw[HR.out]),rfl⟩
 ·have hq2:decide (2≤x)=false:=by simp;omega
  have HR:=ae ((decide (2≤x)&&decide (x<n))=false) (by rw[hq2];rfl);go_enter func51,ntmps51;go_wp2;go_ret;exact⟨bX (by first|rfl|rw[HR.out]),rfl⟩
theorem pH(x n:Int)(w:World):Calls prog 154 #[.int .i64 x,.int .i64 n] w fun e w'=>e=.returned (.bool (cI x n))∧w=w':=by
 have HP:=ae (cI x n=(decide (x=0)||(decide (2≤x)&&decide (x<n)))) rfl;by_cases h0:x=0
 ·subst h0;go_enter func154,ntmps154;go_wp2;go_ret;exact⟨rfl,rfl⟩
 ·have hq:(x==0)=false:=by simp[h0]
  have HD:=ae (cI x n=(decide (2≤x)&&decide (x<n))) (by rw[HP.out];simp[h0]);clear h0;go_enter func154,ntmps154;go_wp2_with (go_at_call 51;refine(xN x n _).mono ?_;rintro e w' ⟨rfl,rfl⟩);go_ret;exact⟨bX (by rw[HD.out]),rfl⟩
theorem tK(x:Int)(w:World):Calls prog 136 #[.int .i64 x] w fun e w'=>(∃y,e=.returned (.int .i64 y)∧(0≤x→x≤262144→y=(x+511)/512))∧w=w':=by
 by_cases h0:0≤x∧x≤262144
 ·obtain⟨h0,h1⟩:=h0;have h2:x/512≤512:=by omega
  have h3:0≤x/512:=by omega
  by_cases hr:x%512=0
  ·have hq:(x%512 !=0)=false:=(by simp[hr]);have HR:=aa hr;clear hr;go_enter func136,ntmps136;go_wp2;go_ret;exact⟨⟨x/512,rfl,fun _ _=>by have:=HR.out;omega⟩,rfl⟩
  ·have hq:(x%512 !=0)=true:=(by simpa using hr);have HR:=aa hr;clear hr;go_enter func136,ntmps136;go_wp2;go_ret;exact⟨⟨x/512+1,rfl,fun _ _=>by have:=HR.out;omega⟩,rfl⟩
 ·have H:=aa h0;clear h0;go_enter func136,ntmps136;go_wp2;all_goals go_ret
  all_goals exact⟨⟨_,rfl,fun a b=>absurd ⟨a,b⟩ H.out⟩,rfl⟩
theorem tL(ds:List Int)(k:Nat)(hd:ds.length=12)(hk:k<12)(w:World):(Instr.index 29 (.agg (an ds)) (.int .i64 k)).run prog w=.ok (.int .i64 (ds.getD k 0)) w:=by
 have hg:k<ds.length:=by omega
 simp[Instr.index,run_underlying underlying29,asIntOf,go_sem,an,hg];intro h;omega
theorem tM(f:Int→Bool)(ds:List Int)(k:Nat)(h:k<ds.length):(ds.take (k+1)).all f=((ds.take k).all f&&f (ds.getD k 0)):=by
 rw[List.take_succ_eq_append_getElem h,List.all_append];simp[getD,h]
structure Kp(w wr:World)(C:Array Value)(t:TypeId)(code:Int)(ok:Bool):Prop where
 blk:af wr w.heap.size C t
 ck:Ck wr (w.heap.size+1) (w.heap.size+1+1) code ok
 old:Below w.heap.size w wr
theorem Kp.lo{w wr:World}{C:Array Value}{t:TypeId}{code:Int}{ok:Bool}(h:Kp w wr C t code ok):w.heap.size+1+1≤wr.heap.size:=h.ck.lt
theorem Kp.iA{w wr w':World}{C:Array Value}{t:TypeId}{code:Int}{ok ok':Bool}(h:Kp w wr C t code ok)(hc:Ck w' (w.heap.size+1) (w.heap.size+1+1) code ok')(ht:eI (w.heap.size+1) wr w'):Kp w w' C t code ok':=
 ⟨(ht.1.block _ h.blk.lt (by simp)).trans h.blk,hc,ht.under h.old (by omega) (Nat.le_of_lt h.blk.lt)⟩
theorem Kp.fault{w wr:World}{C:Array Value}{t:TypeId}{code:Int}{ok:Bool}(h:Kp w wr C t code ok):∃ev,wr.cell? ⟨w.heap.size+1,1,none⟩=some ev∧fB wr w.heap.size ok ev code:=by
 obtain⟨_,_,ev,c3,c4⟩:=h.ck;refine⟨ev,c3,?_⟩;rcases c4 with c4|⟨c4,n,c5⟩
 ·exact .inl c4
 ·exact .inr ⟨c4,n,c5.mono (by omega)⟩
def gE(ds:List Int)(p q n:Int):Bool:=(ds.all fun x=>cI x n)&&cI p n&&cI q n
theorem EA(s:Int)(ds:List Int)(p q n code:Int)(w:World)(hd:ds.length=12):
 Calls prog 144 #[.agg (an (aD s ds p q)),.int .i64 n,.int .i64 code] w fun e w'=>∃ev,e=.returned ev∧fB w' w.heap.size (gE ds p q n) ev code∧Below w.heap.size w w':=by
 have HD:=aa hd;have kB:=(af.new w (an (aD s ds p q)) 31).alloc (.cells #[.int .i64 code,.nilIface] 93);have kC:=Ck.fresh (w.alloc (.cells (an (aD s ds p q)) 31)) code 93;rw[size_alloc] at kC;have hb0:Below w.heap.size w ((w.alloc (.cells (an (aD s ds p q)) 31)).alloc (.cells #[.int .i64 code,.nilIface] 93)):=(ak.alloc aj _).alloc (by simp) _;have hr:=kB.range 1 12 (by rw[dw _ _ _ _ HD.out];omega);rw[qJ _ _ _ _ HD.out] at hr;have HX:=aa (fun k hk w=>tL ds k HD.out hk w);have K:=ae (Kp w ((w.alloc (.cells (an (aD s ds p q)) 31)).alloc (.cells #[.int .i64 code,.nilIface] 93)) (an (aD s ds p q)) 31 code true) (⟨kB,kC,hb0⟩);have HR:=aa hr;clear hd kB kC hb0 hr;go_enter func144,ntmps144;go_wp2_with (refine wpList_load_mid rfl 29 _ rfl w.heap.size 1 rfl (ds.map (Value.int .i64)) _ HR.out underlying29 rfl (by rw[length_map,HD.out];exact tF) ?_);go_loopw [14] (fun i wr=>∃k:Nat,k≤12∧i=.int .i64 k∧Kp w wr (an (aD s ds p q)) 31 code ((ds.take k).all fun x=>cI x n)) (fun i _=>12-(intOf i).toNat)
 case atStart=>exact⟨0,by omega,rfl,K.out⟩
 case round=>
  obtain⟨k,hk,rfl,hkp⟩:=hrel;have HK:=aa hkp;clear hkp K HR;by_cases hlt:k<12
  ·have hix:∀w,(Instr.index 29 (.agg (ds.map (Value.int .i64)).toArray) (.int .i64 k)).run prog w=.ok (.int .i64 (ds.getD k 0)) w:=fun w=>HX.out k hlt w;have HT:=aa (tM (fun x=>cI x n) ds k (by rw[HD.out];exact hlt));generalize ds.getD k 0=z at hix HT;go_wp2_with (first|(go_at_call 154;refine(pH z n _).mono ?_;rintro e w1 ⟨rfl,rfl⟩)|(go_at_call 46;refine(eB (w.heap.size+1) (w.heap.size+1+1) _ code _ (cI z n) _ HK.out.ck (by omega) HK.out.lo).mono ?_;rintro e w1 ⟨rfl,hc1,ht1⟩));have H1:=aa (HK.out.iA hc1 ht1);clear hc1 ht1;go_roundw
   case rel=>exact⟨k+1,by omega,by go_num,by rw[HT.out];exact H1.out⟩
   case measure=>simp[intOf];omega
  ·have e12:k=12:=(by omega);subst e12;rw[List.take_of_length_le (by rw[HD.out];omega)] at HK;have Ra:=(HK.out.blk.cell 13).trans (qI s ds p q HD.out);have lt1:=HK.out.lo;go_wp2_with (first|(go_at_call 154;refine(pH p n _).mono ?_;rintro e w1 ⟨rfl,rfl⟩)|(go_at_call 46;fail));refine(eB (w.heap.size+1) (w.heap.size+1+1) _ code _ (cI p n) _ HK.out.ck (by omega) HK.out.lo).mono ?_;rintro e w1 ⟨rfl,hc1,ht1⟩;have H1:=aa (HK.out.iA hc1 ht1);have Ow:=(H1.out.blk.cell 14).trans (m0 s ds p q HD.out);clear hc1 ht1 Ra lt1;go_wp2_with (first|(go_at_call 154;refine(pH q n _).mono ?_;rintro e w1' ⟨rfl,rfl⟩)|(go_at_call 46;fail));refine(eB (w.heap.size+1) (w.heap.size+1+1) _ code _ (cI q n) _ H1.out.ck (by omega) H1.out.lo).mono ?_;rintro e w2 ⟨rfl,hc2,ht2⟩;have H2:=aa (H1.out.iA hc2 ht2);obtain⟨ev,c3,hf⟩:=H2.out.fault;have HF:=aa hf;clear hc2 ht2 Ow hf;go_wp2;go_ret;exact⟨ev,rfl,HF.out,H2.out.old⟩
def nQ(s:Int)(ds:List Int)(p q y:Int):Bool:=
 (((((decide (0≤s)&&decide (s≤262144))&&gE ds p q 2048)&&((range 12).all fun i=>decide (ds.getD i 0=0)||decide ((i:Int)<y)))&&(decide (p=0)||decide (12<y)))&&(decide (q=0)||decide (140<y)))
theorem right_eq(s:Int)(ds:List Int)(p q y:Int)(hd:ds.length=12)(hy:0≤s→s≤262144→y=(s+511)/512):nQ s ds p q y=cJ s ds p q:=by
 unfold nQ cJ;by_cases h1:0≤s
 ·by_cases h2:s≤262144
  ·rw[hy h1 h2];match ds,hd with
   |[d0,d1,d2,d3,d4,d5,d6,d7,d8,d9,d10,d11],_=>
    simp[gE,iN,gV,fS,h1,h2,range,List.range.loop,getD];ac_rfl
  ·simp[h2]
 ·simp[h1]
def bI(l r k:Nat):Nat:=(if l=0 then 12 else 1)+r*128+k
def aT:Nat→Nat→Nat
 |0,r=>r
 |l+1,r=>aT l (bI l r 0)
abbrev bh(l r:Nat):Value:=.agg #[.int .i64 (l:Int),.int .i64 (r:Int)]
theorem bZ:(prog.info? 175).map (·.size)=some 2:=by kernel_rfl
theorem m4(l r k:Nat)(w:World)(hl:l≤4)(hr:r≤100000)(hk:k≤4096):
 Calls prog 139 #[bh (l+1) r,.int .i64 (k:Int)] w fun e w'=>e=.returned (bh l (bI l r k))∧Below w.heap.size w w':=by
 by_cases h0:l=0
 ·subst h0;have HE:=ae (((bI 0 r k:Nat):Int)=12+(r:Int)*128+(k:Int)) (by unfold bI;rw[if_pos rfl];omega);go_enter func139,ntmps139;go_wp2;refine bodyPost_ret (v:=.agg #[.int .i64 0,.int .i64 (12+(r:Int)*128+(k:Int))]) ?_ rfl ⟨by unfold bh;rw[HE.out];rfl,(ak.alloc aj _).alloc (by simp) _⟩;exact results_cell_row rfl _ _ (w.heap.size+1) 175 _ (0,0) _ rfl (by have h:=af.new (w.alloc (Obj.cells #[Value.int IntKind.i64 1,Value.int IntKind.i64 ↑r] 175)) #[.int .i64 0,.int .i64 (12+(r:Int)*128+(k:Int))] 175;rw[size_alloc] at h;exact h) underlying175 rfl bZ
 ·have HE:=ae (((bI l r k:Nat):Int)=1+(r:Int)*128+(k:Int)) (by unfold bI;rw[if_neg h0];omega);have h1:((l:Int)==0)=false:=by simp;omega
  go_enter func139,ntmps139;go_wp2;refine bodyPost_ret (v:=.agg #[.int .i64 (l:Int),.int .i64 (1+(r:Int)*128+(k:Int))]) ?_ rfl ⟨by unfold bh;rw[HE.out],(ak.alloc aj _).alloc (by simp) _⟩;exact results_cell_row rfl _ _ (w.heap.size+1) 175 _ (0,0) _ rfl (by have h:=af.new (w.alloc (Obj.cells #[Value.int IntKind.i64 (↑l+1),Value.int IntKind.i64 ↑r] 175)) #[.int .i64 (l:Int),.int .i64 (1+(r:Int)*128+(k:Int))] 175;rw[size_alloc] at h;exact h) underlying175 rfl bZ
def xO(b:Nat)(wr:World):Nat:=match wr.cell? ⟨b,0,none⟩ with|some (.int _ z)=>z.toNat|_=>0
theorem fY:∀(l r:Nat),r≤aT l r
 |0,r=>aj
 |l+1,r=>aK (by unfold bI;omega) (fY l (bI l r 0))
theorem iP(l r:Nat)(w:World)(hl:l≤4)(hf:aT l r≤100000):
 Calls prog 147 #[bh l r] w fun e w'=>e=.returned (.int .i64 (aT l r:Nat))∧Below w.heap.size w w':=by
 have HF:=aa hf;clear hf;go_enter func147,ntmps147;go_wp2;go_loopw [6] (fun sv wr=>∃l' r':Nat,l'≤4∧aT l' r'=aT l r∧af wr w.heap.size #[.int .i64 (l':Int),.int .i64 (r':Int)] 175∧Below w.heap.size w wr) (fun _ wr=>xO w.heap.size wr)
 case atStart=>exact⟨l,r,hl,rfl,af.new _ _ _,ak.alloc aj _⟩
 case round=>
  obtain⟨l',r',hl',hfe,kb,hb⟩:=hrel;have c0:=(kb.cell 0).trans (show _=some (.int .i64 (l':Int)) from rfl);have c1:=(kb.cell 1).trans (show _=some (.int .i64 (r':Int)) from rfl);have HK:=aa (ai hfe (ai kb hb));have HR:=ae (r'≤100000) (aK (fY l' r') (by rw[hfe];exact HF.out));clear hfe kb hb;cases l' with
  |zero=>
   go_wp2;go_ret;exact⟨by rw[←HK.out.1];rfl,HK.out.2.2⟩
  |succ l'=>
   have hp:(0:Int)<(l':Int)+1:=(by omega);have c0':wr.cell? ⟨w.heap.size,0,none⟩=some (.int .i64 ((l':Int)+1)):=(by rw[c0];simp);have hl3:l'≤4:=(by omega);have HN:=ae (aT l' (bI l' r' 0)=aT l r) HK.out.1;have UQ:=aa c0;clear c0;go_wp2_with (first
    |(go_at_call 139;refine(m4 l' r' 0 _ hl3 HR.out (by omega)).mono ?_;rintro e w1 ⟨rfl,b1⟩;have B1:=aa b1;have K1:=aa (HK.out.2.1.below b1 HK.out.2.1.lt);clear b1)
    |(refine wpList_store_row rfl 175 _ _ rfl w.heap.size #[.int .i64 (l':Int),.int .i64 (bI l' r' 0:Nat)] rfl rfl 175 _ K1.out bZ rfl (by simp[Value.oneCell']) ?_))
   go_roundw
   case rel=>exact⟨_,_,_,_,_,⟨l',bI l' r' 0,by omega,HN.out,K1.out.row _,below_setRow (HK.out.2.2.trans (B1.out.mono HK.out.2.2.size)) aj _⟩,rfl⟩
   case measure=>
    have e1:(w1.setRow w.heap.size #[.int .i64 (l':Int),.int .i64 (bI l' r' 0:Nat)]).cell? ⟨w.heap.size,0,none⟩=some (.int .i64 (l':Int)):=((K1.out.row _).cell 0).trans rfl;unfold xO;rw[e1,UQ.out];simp
theorem mw:(prog.info? 229).map (·.size)=some 512:=by kernel_rfl
theorem kQ:(prog.info? 192).map (·.size)=some 128:=by kernel_rfl
def qL:Array Value:=Array.replicate 512 (.int .u8 0)
def qM:Array Value:=Array.replicate 128 (.int .i64 0)
theorem xP(w:World):(Instr.alloc 229 true (.tuple #[])).run prog w=.ok (.pointer (some ⟨w.heap.size,0,none⟩)) (w.alloc (.cells qL 229)):=by kernel_rfl
theorem xQ(w:World):(Instr.alloc 192 true (.tuple #[])).run prog w=.ok (.pointer (some ⟨w.heap.size,0,none⟩)) (w.alloc (.cells qM 192)):=by kernel_rfl
theorem tN:∃Z:Array Value,Z.size=512∧∀(ρ:Operand→Value) (o:Oper) (w:World),o.op=.alloc 229→(execOp ρ o).run prog w=.ok (.value (.pointer (some ⟨w.heap.size,0,none⟩))) (w.alloc (.cells Z 229)):=
 ⟨qL,by simp[qL],fun ρ o w ho=>by simp[execOp,ho,xP,Result.andThen]⟩
theorem xR:∃Z:Array Value,Z.size=128∧∀(ρ:Operand→Value) (o:Oper) (w:World),o.op=.alloc 192→(execOp ρ o).run prog w=.ok (.value (.pointer (some ⟨w.heap.size,0,none⟩))) (w.alloc (.cells Z 192)):=
 ⟨qM,by simp[qM],fun ρ o w ho=>by simp[execOp,ho,xQ,Result.andThen]⟩
theorem xS{k:IntKind}{w:World}{b off:Nat}{zs:List Int}(hc:∀i,i<zs.length→w.cell? ⟨b,off+i,none⟩=some (.int k (zs.getD i 0))):w.rangeAt b off (zs.map (Value.int k)):=by
 intro j v hj;have hj2:j<zs.length:=by
  rcases Nat.lt_or_ge j zs.length with h|h
  ·exact h
  ·rw[List.getElem?_eq_none (by rw[length_map];exact h)] at hj;cases hj
 rw[hc j hj2];rw[getElem?_map,List.getElem?_eq_getElem hj2] at hj;simp at hj;rw[←hj];simp[getD,hj2]
theorem xU{P:Program}{ops:Array Oper}{rest:List Oper}{op:Oper}{a:Act}{w:World}{Q:Exit→Act→World→Prop}(hw:Region.wanted op (yielded ops a.tmps)=true)(t e:TypeId)(N:Nat)(x:Operand)(ho:op.op=.sliceToArrayPointer t x)
 (ad:Option Addr) (len cap:Nat) (hx:a.eval x=.slice ad len cap) (hu:P.underlying t=some (.array N e)) (hl:N≤len) (h:wpList P ops Q rest (a.put op.dst (.pointer ad)) w):wpList P ops Q (op::rest) a w:=
 Go.BigFrame.wpList_want hw fun K hK=>by
  have hrun:(execOp a.eval op).run P w=.ok (.value (.pointer ad)) w:=by
   simp[execOp,ho,hx,Instr.arrayAt,run_underlying hu,Nat.not_lt.mpr hl,Result.andThen]
  unfold Oper.wp;rw[hrun,Oper.upon_value];exact hK _ _ h
theorem EB(v:Value)(zs:List Int)(q:Nat)(w:World)(h:Rd .u8 w v zs)(hk:q*512+512≤zs.length)(hz:zs.length≤1048576):
 Calls prog 63 #[v,.int .i64 (q:Int)] w fun e w'=>∃b off cap,e=.returned (.slice (some ⟨b,off,none⟩) 512 cap)∧Rd .u8 w (.slice (some ⟨b,off,none⟩) 512 cap) (bQ zs (q:Int))∧w=w':=by
 obtain⟨b,off,cap,rfl,hb,hlc,hcm,hcell⟩:=h.dJ (by omega);obtain⟨A,hA⟩:∃A:Nat,A=q*512:=⟨_,rfl⟩;have hA1:(q:Int)*512=(A:Int):=by omega
 obtain⟨B,hB⟩:∃B:Nat,B=A+512:=⟨_,rfl⟩;have hA2:((q:Int)+1)*512=(B:Int):=by omega
 have X8:B≤zs.length:=by omega
 have HP:=ae (Rd .u8 w (.slice (some ⟨b,off+A,none⟩) 512 (cap-A)) (bQ zs (q:Int))) (by unfold bQ;rw[Int.toNat_natCast, ←hA];exact Rd.mS A 512 h (by omega) (by omega));have hB3:(A:Int)≤(B:Int):=by omega
 have hB4:(B:Int)≤(cap:Int):=by omega
 have UO:B-A=512:=by omega
 have hq:(q:Int)<4096:=by omega
 clear h hcell hA hB;go_enter func63,ntmps63;go_wp2;go_ret;exact⟨_,_,_,rfl,HP.out,rfl⟩
theorem tO(zs:List Int):(zs.map (Value.int .u8)).toArray.all (·.oneCell')=true:=by simp[Value.oneCell']
theorem lI(zs:List Int):(zs.map (Value.int .i64)).toArray.all (·.oneCell')=true:=by simp[Value.oneCell']
theorem xV(C:Array Value)(v:Value)(zs:List Int)(q:Nat)(w:World)(hC:C[0]?=some v)(h:Rd .u8 w v zs)(hk:q*512+512≤zs.length)(hz:zs.length≤1048576):
 Calls prog 127 #[.agg C,.int .i64 (q:Int)] w fun e w'=>e=.returned (.agg ((bQ zs (q:Int)).map (Value.int .u8)).toArray)∧Below w.heap.size w w':=by
 obtain⟨Z,hZ,NI⟩:=tN;have Nx:=aa NI;have HZ:=aa hZ;have hl5:(bQ zs (q:Int)).length=512:=by unfold bQ;rw[List.length_take,List.length_drop,Int.toNat_natCast];omega
 have HL:=aa hl5;have Pt:=ae (Z.size=((bQ zs (q:Int)).map (Value.int .u8)).toArray.size) (by simp[hl5,hZ]);have UR:=ae ((prog.info? 229).map (·.size)=some ((bQ zs (q:Int)).map (Value.int .u8)).toArray.size) (by rw[mw];simp[hl5]);clear NI hZ hl5;obtain⟨sa,sc,rfl⟩:=eY h;have W2b:Below w.heap.size w ((w.alloc (.cells C 108)).alloc (.cells Z 229)):=(ak.alloc aj _).alloc (by simp) _;have c0:((w.alloc (.cells C 108)).alloc (.cells Z 229)).cell? ⟨w.heap.size,0,none⟩=some (.slice sa zs.length sc):=(((af.new w C 108).alloc (.cells Z 229)).cell 0).trans hC;have KZ:=ae (af ((w.alloc (.cells C 108)).alloc (.cells Z 229)) (w.heap.size+1) Z 229) (by have h:=af.new (w.alloc (.cells C 108)) Z 229;rw[size_alloc] at h;exact h);have HB:=aa W2b;have HR:=aa h;clear h W2b;go_enter func127,ntmps127;go_wp2_with (first
  |(refine Great.wpList_allocTo rfl (some 4) rfl (.pointer (some ⟨w.heap.size+1,0,none⟩)) (.cells Z 229) (by have e:=Nx.out;rw[show w.heap.size+1=(w.alloc (.cells C 108)).heap.size by simp];exact e _ _ _ rfl) ?_)
  |(go_at_call 63;refine(EB _ zs q _ (HR.out.below HB.out) hk hz).mono ?_;rintro e w9 ⟨b,off,cap,rfl,r1,rfl⟩;obtain⟨b',off',cap',e1,hb,_,_,hcell⟩:=r1.dJ (by rw[HL.out];omega);injection e1 with e1 e2 e3;injection e1 with e1;injection e1 with e1 e4;subst e1 e4;have eU:=aa (xS hcell);clear hcell r1 e2 e3)
  |(refine xU (by rfl) 229 5 512 _ rfl (some ⟨b,off,none⟩) 512 cap rfl underlying229 aj ?_)
  |(refine wpList_load_mid rfl 229 _ rfl b off rfl ((bQ zs (q:Int)).map (Value.int .u8)) _ eU.out underlying229 rfl (by rw[length_map,HL.out];exact mw) ?_)
  |(refine wpList_store_row rfl 229 _ _ rfl (w.heap.size+1) ((bQ zs (q:Int)).map (Value.int .u8)).toArray rfl rfl 229 Z KZ.out UR.out Pt.out (tO _) ?_))
 refine bodyPost_ret (v:=.agg ((bQ zs (q:Int)).map (Value.int .u8)).toArray) ?_ rfl ⟨rfl,below_setRow HB.out (by omega) _⟩;exact results_cell_row rfl _ _ (w.heap.size+1) 229 _ (0,0) _ rfl (KZ.out.row _) underlying229 rfl (by rw[List.size_toArray,length_map,HL.out];exact mw)
theorem jm:(prog.info? 108).map (·.size)=some 16:=by kernel_rfl
theorem EC(C:Array Value)(v:Value)(zs:List Int)(q:Nat)(w:World)(hC:C[0]?=some v)(hCs:C.size=16)(h:Rd .u8 w v zs)(hk:q*512+512≤zs.length)(hz:zs.length≤1048576)(hbd:∀z∈zs,0≤z∧z<256):
 Calls prog 131 #[.agg C,.int .i64 (q:Int)] w fun e w'=>e=.returned (.agg (((range 128).map (aQ zs (q:Int))).map (Value.int .i64)).toArray)∧Below w.heap.size w w':=by
 obtain⟨Z,hZ,NI⟩:=tN;obtain⟨Z1,hZ1,Qp⟩:=xR;have Nx:=aa NI;have Yb:=aa Qp;have hl5:(bQ zs (q:Int)).length=512:=by unfold bQ;rw[List.length_take,List.length_drop,Int.toNat_natCast];omega
 have HL:=aa hl5;obtain⟨BB,Qq⟩:∃BB,BB=((bQ zs (q:Int)).map (Value.int .u8)).toArray:=⟨_,rfl⟩;have Pt:=ae (Z.size=BB.size) (by simp[Qq,hl5,hZ]);have UR:=ae ((prog.info? 229).map (·.size)=some BB.size) (by rw[mw];simp[Qq,hl5]);have HB1:=ae (BB.all (·.oneCell')=true) (by rw[Qq];exact tO _);obtain⟨WW,W7⟩:∃WW,WW=(range 128).map (aQ zs (q:Int)):=⟨_,rfl⟩;have NK:WW.length=128:=by rw[W7];simp
 have HW1:=ae (Z1.size=(WW.map (Value.int .i64)).toArray.size) (by simp[NK,hZ1]);have HIW:=ae ((prog.info? 192).map (·.size)=some (WW.map (Value.int .i64)).toArray.size) (by rw[kQ];simp[NK]);have Ox:=aa NK;have HE:=ae (jX (bQ zs (q:Int))=WW) (by rw[W7,xJ zs _ hl5]);have Pu:=aa Qq;rw[←W7];have Rr:=ae (∀z∈bQ zs (q:Int),0≤z∧z<256) (fun z hz=>hbd z (List.mem_of_mem_drop (List.mem_of_mem_take hz)));clear NI hZ hl5 Qp hZ1 Qq W7 NK hbd;obtain⟨sa,sc,rfl⟩:=eY h;obtain⟨W2,hW2⟩:∃W2,W2=(w.alloc (.cells C 108)).alloc (.cells Z1 192):=⟨_,rfl⟩;have HB:=ae (Below w.heap.size w W2) (by rw[hW2];exact(ak.alloc aj _).alloc (by simp) _);have KC:=ae (af W2 w.heap.size C 108) (by rw[hW2];exact(af.new w C 108).alloc _);have KZ:=ae (af W2 (w.heap.size+1) Z1 192) (by have h:=af.new (w.alloc (.cells C 108)) Z1 192;rw[size_alloc] at h;rw[hW2];exact h);have HS2:=ae (W2.heap.size=w.heap.size+2) (by rw[hW2];simp);have HW2:=aa hW2;have HR:=aa (ai h (ai hC hCs));clear h hC hW2 hCs;go_enter func131,ntmps131;go_upto_region 1 with(first
  |(refine Great.wpList_allocTo rfl (some 4) rfl (.pointer (some ⟨w.heap.size+1,0,none⟩)) (.cells Z1 192) (by have e:=Yb.out;rw[show w.heap.size+1=(w.alloc (.cells C 108)).heap.size by simp];exact e _ _ _ rfl) ?_))
 rw[←HW2.out];go_upto_region 2 with(first
  |(refine wpList_load_row rfl 108 _ rfl w.heap.size rfl 108 C (0,0) _ KC.out underlying108 rfl (by rw[HR.out.2.2];exact jm) ?_)
  |(go_at_call 127;refine(xV C _ zs q _ HR.out.2.1 (HR.out.1.below HB.out) hk hz).mono ?_;rintro e w9 ⟨rfl,b9⟩;rw[←Pu.out];have B9:=aa b9;clear b9)
  |(refine Great.wpList_allocTo rfl (some 5) rfl (.pointer (some ⟨w9.heap.size,0,none⟩)) (.cells Z 229) (Nx.out _ _ _ rfl) ?_)
  |(refine wpList_store_row rfl 229 _ _ rfl w9.heap.size BB rfl rfl 229 Z (af.new w9 _ _) UR.out Pt.out HB1.out ?_))
 obtain⟨W3,hW3⟩:∃W3,W3=(w9.alloc (.cells Z 229)).setRow w9.heap.size BB:=⟨_,rfl⟩;have K3:=ae (af W3 w9.heap.size BB 229) (by rw[hW3];exact(af.new w9 Z 229).row _);have B3:=ae (Below w9.heap.size w9 W3) (by rw[hW3];exact below_setRow (ak.alloc aj _) aj _);rw[←hW3];clear hW3;simp only[Act.put];have hs9:=B9.out.size;have HR3:=ae (Rd .u8 W3 (.slice (some ⟨w9.heap.size,0,none⟩) 512 512) (bQ zs (q:Int))) (by
  refine⟨_,512,by rw[HL.out],by rw[HL.out];decide,fun hne=>⟨w9.heap.size,0,rfl,K3.out.lt,fun i hi=>?_⟩,by rw[HL.out];omega,by decide⟩;rw[Nat.zero_add,K3.out.cell i,Pu.out];simp[getD,hi])
 have KZ3:=ae (af W3 (w.heap.size+1) Z1 192) ((KZ.out.below B9.out KZ.out.lt).below B3.out (by have:=HS2.out;omega));go_wp2_with (first
  |(go_at_call 98;refine(Eo _ (bQ zs (q:Int)) 128 _ HR3.out Rr.out (by rw[HL.out]) (by omega)).mono ?_;rintro e w4 ⟨v4,rfl,o4,b4⟩;rw[show dr (bQ zs (q:Int)) 128=WW by rw[←HE.out];unfold jX;rw[if_pos HL.out]] at o4;have r4:=Rd.own (k:=.i64) (zs:=WW) o4;obtain⟨g4,US,cap4,rfl,hb4,_,_,Qr⟩:=r4.dJ (by rw[Ox.out];omega);rw[Ox.out];have H4:=aa (ai (xS Qr) b4);have Sr:=aa (KZ3.out.below b4 KZ3.out.lt);clear b4 o4 Qr r4)
  |(refine xU (by rfl) 192 3 128 _ rfl (some ⟨g4,US,none⟩) 128 cap4 rfl underlying192 aj ?_)
  |(refine wpList_load_mid rfl 192 _ rfl g4 US rfl (WW.map (Value.int .i64)) _ H4.out.1 underlying192 rfl (by rw[length_map,Ox.out];exact kQ) ?_)
  |(refine wpList_store_row rfl 192 _ _ rfl (w.heap.size+1) (WW.map (Value.int .i64)).toArray rfl rfl 192 Z1 Sr.out HIW.out HW1.out (lI _) ?_))
 refine bodyPost_ret (v:=.agg (WW.map (Value.int .i64)).toArray) ?_ rfl ⟨rfl,below_setRow (HB.out.trans ((B9.out.trans ((B3.out.trans (H4.out.2.mono B3.out.size)).mono B9.out.size)).mono HB.out.size)) (by omega) _⟩;exact results_cell_row rfl _ _ (w.heap.size+1) 192 _ (0,0) _ rfl (Sr.out.row _) underlying192 rfl HIW.out
end
end Go.Proofs.YtpplnhkpcpieoaaGreatDoor
