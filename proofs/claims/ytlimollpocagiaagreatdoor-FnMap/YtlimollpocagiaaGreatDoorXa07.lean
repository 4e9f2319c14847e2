/- The model's look at a root, whole: l02Root; its bytes: l02RootBytes; EncodeRoot -/
import Derived.Test.YtlimollpocagiaaGreatDoorXa06
import Derived.OwnWalk
import Derived.ArgAppend
import Derived.BigFrame
namespace Go.Proofs.YtlimollpocagiaaGreatDoor
open Go.Proofs.Tryz
open _root_.List (range getD replicate)
set_option linter.all false
set_option maxRecDepth 100000
set_option maxHeartbeats 16000000
section
open Go.RowKit
def gz(i:Nat):Int:=if i=13 then 140 else i
def gl(B:Int)(i:Nat)(x:Int):Bool:=eu x 2048&&(decide (x=0)||decide (gz i<B))
def gK(s:Int)(pts:List Int)(n:Nat):Bool:=(range n).all fun i=>gl ((s+511)/512) i (pts.getD i 0)
def cA(s:Int)(ds:List Int)(p q:Int):Bool:=(decide (0≤s)&&decide (s≤262144))&&gK s (ds++[p,q]) 14
theorem zq(s:Int)(pts:List Int)(n:Nat):gK s pts (n+1)=(gK s pts n&&gl ((s+511)/512) n (pts.getD n 0)):=by simp[gK,List.range_succ]
theorem zu(s:Int)(pts:List Int)(n k:Nat)(hk:k<n)(h:gl ((s+511)/512) k (pts.getD k 0)=false):gK s pts n=false:=by
 unfold gK;rw[List.all_eq_false];exact⟨k,by simpa using hk,by rw[h];simp⟩
theorem zv(s:Int)(k:Nat)(z L:Int)(hp:eu z 2048=true)(hL:gz k=L)(h:(z !=0)=false∨L<(s+512-1)/512):gl ((s+511)/512) k z=true:=by
 unfold gl;rw[hp,hL];have e:s+512-1=s+511:=by omega
 rw[e] at h;rcases h with h|h
 ·simp at h;simp[h]
 ·simp[h]
theorem zx(s:Int)(k:Nat)(z:Int)(hp:eu z 2048=true)(h:z=0):gl ((s+511)/512) k z=true:=by
 unfold gl;rw[hp];simp[h]
theorem okF(s:Int)(k:Nat)(z L:Int)(hL:gz k=L)(h:(z !=0)=true∧(s+512-1)/512≤L):gl ((s+511)/512) k z=false:=by
 unfold gl;have e:s+512-1=s+511:=by omega
 rw[e] at h;rw[hL];have h1:¬z=0:=by simpa using h.1
 have h2:¬L<(s+511)/512:=by omega
 simp[h1,h2]
theorem zy(k:Nat):(((k:Int)==12)=true∧((k:Int)==13)=false∧gz k=12)∨(((k:Int)==12)=false∧((k:Int)==13)=true∧gz k=140)∨(((k:Int)==12)=false∧((k:Int)==13)=false∧gz k=(k:Int)):=by
 by_cases h12:k=12
 ·subst h12;exact .inl ⟨rfl,rfl,rfl⟩
 ·by_cases h13:k=13
  ·subst h13;exact .inr (.inl ⟨rfl,rfl,rfl⟩)
  ·refine .inr (.inr ⟨by simp;omega,by simp;omega,?_⟩);unfold gz;rw[if_neg h13]
theorem tj(s:Int)(ds:List Int)(p q:Int)(w:World)(hd:ds.length=12):
 Calls prog 32 #[.agg (aB (aD s ds p q))] w fun e w'=>e=.returned (.bool (cA s ds p q))∧Below w.heap.size w w':=by
 have HD:=aa hd;have hb0:Below w.heap.size w (w.alloc (.cells (aB (aD s ds p q)) 28)):=ak.alloc aj _;have c0:(w.alloc (.cells (aB (aD s ds p q)) 28)).cell? ⟨w.heap.size,0,none⟩=some (.int .i64 s):=by
  rw[(af.new w _ _).cell 0];rfl
 have HZ:=ae ((aB (aD s ds p q)).size=15) (by rw[fc];exact eR s ds p q HD.out);clear hd;by_cases h1:0≤s
 ·by_cases h2:s≤262144
  ·have HR:=ae (cA s ds p q=gK s (ds++[p,q]) 14) (by unfold cA;simp[h1,h2]);have HL:=ae ((ds++[p,q]).length=14) (by simp[HD.out]);go_enter func32,ntmps32;go_wp2_with (first|(refine wpList_load_row rfl 28 _ rfl w.heap.size rfl 28 (aB (aD s ds p q)) (0,0) _ (af.new w _ _) underlying28 rfl (by rw[HZ.out];exact dr) ?_)|(go_at_call 75;fail));refine(th s ds p q _ HD.out).mono ?_;rintro e w1 ⟨v1,rfl,o1,b1⟩;obtain⟨bd,off,cap,rfl,hbw,_,_,hcell⟩:=(Rd.own o1).dj (by rw[HL.out];omega);rw[HL.out] at hcell⊢;have HB:=aa (hb0.trans (b1.mono hb0.size));generalize ds++[p,q]=pts at hcell HR;clear o1 b1 hb0 c0;go_wp2;go_loop [23] (fun i=>∃k:Nat,k≤14∧i=.int .i64 k∧gK s pts k=true) (fun i=>14-(intOf i).toNat)
   case atStart=>exact⟨0,by omega,rfl,rfl⟩
   case round=>
    obtain⟨k,hk,rfl,hall⟩:=hrel;have HA:=aa hall;clear hall;by_cases hlt:k<14
    ·have cz:=hcell k hlt;have HS:=ae (gK s pts (k+1)=(gK s pts k&&gl ((s+511)/512) k (pts.getD k 0))∧(gl ((s+511)/512) k (pts.getD k 0)=false→gK s pts 14=false)) (⟨zq s pts k,zu s pts 14 k hlt⟩);clear hcell;generalize pts.getD k 0=z at cz HS;have hok:gl ((s+511)/512) k z=(eu z 2048&&(decide (z=0)||decide (gz k<(s+511)/512))):=rfl;cases hpt:eu z 2048 with
     |false=>
      have HF:=aa (HS.out.2 (by rw[hok,hpt];rfl));clear hok;go_wp2_with (go_at_call 76;refine(tg z _).mono ?_;rintro e w' ⟨rfl,rfl⟩;rw[hpt]);all_goals go_ret
      all_goals exact⟨ep (by rw[HR.out,HF.out]),HB.out⟩
     |true=>
      have HP:=aa hpt;clear hok;rcases zy k with⟨e12,e13,hL⟩|⟨e12,e13,hL⟩|⟨e12,e13,hL⟩;all_goals
       have HLk:=aa hL;clear hL;go_wp2_with (go_at_call 76;refine(tg z _).mono ?_;rintro e w' ⟨rfl,rfl⟩;rw[hpt]);all_goals first
        |(
         have HF:=HS.out.2 (okF s k z _ HLk.out ‹_›);go_ret;exact⟨ep (by rw[HR.out,HF]),HB.out⟩)
        |(
         have hT:gl ((s+511)/512) k z=true:=(by first|exact zx s k z HP.out ‹_›|exact zv s k z _ HP.out HLk.out ‹_›);go_round
         case rel=>exact⟨k+1,by omega,by go_num,by rw[HS.out.1,HA.out,hT];rfl⟩
         case measure=>simp[intOf];omega)
    ·have e14:k=14:=(by omega);subst e14;go_wp2;go_ret;exact⟨ep (by rw[HR.out,HA.out]),HB.out⟩
  ·have HR:=ae (cA s ds p q=false) (by unfold cA;simp[h2]);go_enter func32,ntmps32;go_wp2;go_ret;exact⟨ep (by rw[HR.out]),hb0⟩
 ·have HR:=ae (cA s ds p q=false) (by unfold cA;simp[h1]);go_enter func32,ntmps32;go_wp2;go_ret;exact⟨ep (by rw[HR.out]),hb0⟩
def okW(v:Int):Bool:=decide (0≤v)&&decide (v≤4294967295)
def bO(ws:List Int):List Int:=ws.flatMap fun v=>le 4 v.toNat
def eU(ws:List Int):Bool:=decide (ws.length=128)&&ws.all okW
def dK(ws:List Int):List Int:=if eU ws=true then bO ws else []
def nv(ws:List Int):Int:=if eU ws=true then 0 else 7
theorem kf(ws:List Int):(bO ws).length=4*ws.length:=by
 unfold bO;induction ws with
 |nil=>rfl
 |cons v ws ih=>rw[List.flatMap_cons,List.length_append,ih,ld,List.length_cons];omega
theorem pY(ws:List Int)(k:Nat)(h:k<ws.length):bO (ws.take (k+1))=bO (ws.take k)++le 4 (ws.getD k 0).toNat:=by
 unfold bO;rw[List.take_succ_eq_append_getElem h,List.flatMap_append];simp[getD,h]
theorem zz(ws:List Int)(k:Nat)(h:k<ws.length):(ws.take (k+1)).all okW=((ws.take k).all okW&&okW (ws.getD k 0)):=by
 rw[List.take_succ_eq_append_getElem h,List.all_append];simp[getD,h]
theorem zA{P:Program}(w:World){ops:Array Oper}{rest:List Oper}{o:Oper}{a:Act}{Q:Exit→Act→World→Prop}
 (hg:o.guard=none) (s x:Operand) (t:TypeId) (hop:o.op=Op.call {callee:=Callee.builtin Builtin.append,args:=#[s,x],argTypes:=#[t,t]})
 (base:Nat) (e:TypeId) (i:TypeInfo) (z:Value) (size bytes:Nat) (h1:P.underlying t=some (.slice e)) (h2:P.info? e=some i) (h3:i.zero=some z) (h4:i.size=size) (h5:i.bytes=bytes) (h6:z.cells.size=size) (h7:0<size)
 (v:Value) (n:Nat) (xs:List Value) (hs:a.eval s=v) (hown:w.ownsRow base e size v n xs)
 (ad:Addr) (m c:Nat) (news:List Value) (hx:a.eval x=.slice (some ad) m c) (hn:news.length=m*size) (hc:∀j u,news[j]?=some u→w.cell? (ad.add j)=some u) (h1c:∀u∈news,u.oneCell'=true)
 (hm:0<m) (b1:n+m≤maxLen) (b2:(n+m)*bytes≤140737488355328) (b3:base≤w.heap.size)
 (hK:∀v' w',w'.ownsRow base e size v' (n+m) (xs++news)→w.grownBy w' v.ownBlock→(∀k,v'.ownBlock=some k→v.ownBlock=some k∨w.heap.size≤k)→wpList P ops Q rest (a.put o.dst v') w'):
 wpList P ops Q (o::rest) a w:=by
 have weak:∀w',w.grownBy w' none→∀r,w.grownBy w' r:=fun w' h r=>⟨h.os,h.tape,h.output,h.size,fun k hk _=>h.block k hk (by simp)⟩;rcases hown.2 with⟨rfl,rfl⟩|⟨g,cap,cur,rfl,hb,hgr,hnc,hcm,hcs,htake⟩
 ·have hx0:xs=[]:=List.eq_nil_of_length_eq_zero (by simpa using hown.1);subst hx0;refine wpList_append_grows w hg s x t hop e i z size bytes h1 h2 h3 h4 h5 h6 h7 none 0 0 [] hs (fun _=>⟨rfl,rfl⟩) (by simp) (fun b h=>by cases h) ad m c news hx hn hc h1c (by omega) b1 b2 ?_;intro v' w' r1 r2;exact hK v' w' (bZ r1 b3) (weak w' r2 _) (fun k hk=>.inr (r1.lt k hk).1)
 ·by_cases hroom:n+m≤cap
  ·refine wpList_append_fits w hg s x t hop base e i size h1 h2 h4 g n cap xs hs hown ad m c news hx hn hc h1c hroom ?_;intro w' r1 r2;exact hK _ w' r1 r2 (fun k hk=>.inl hk)
  ·refine wpList_append_grows w hg s x t hop e i z size bytes h1 h2 h3 h4 h5 h6 h7 (some ⟨g,0,none⟩) n cap xs hs (fun h=>by cases h) hown.1 (fun b h j u hj=>by cases h;exact hown.cells (g:=g) rfl j u hj) ad m c news hx hn hc h1c (by omega) b1 b2 ?_;intro v' w' r1 r2;exact hK v' w' (bZ r1 b3) (weak w' r2 _) (fun k hk=>.inr (r1.lt k hk).1)
def fO(w:World):List Value→List (List Int)→Prop
 |[],[]=>True
 |v::vs,b::bs=>Rd .u8 w v b∧fO w vs bs
 |_,_=>False
theorem fO.below{w w':World}(hb:Below w.heap.size w w'):∀{vs:List Value} {bs:List (List Int)},fO w vs bs→fO w' vs bs
 |[],[],_=>trivial
 |_::_,_::_,h=>⟨h.1.below hb,fO.below hb h.2⟩
 |[],_::_,h=>h.elim
 |_::_,[],h=>h.elim
theorem fO.snoc{w:World}{v:Value}{b:List Int}(hv:Rd .u8 w v b):∀{vs:List Value} {bs:List (List Int)},fO w vs bs→fO w (vs++[v]) (bs++[b])
 |[],[],_=>⟨hv,trivial⟩
 |_::_,_::_,h=>⟨h.1,fO.snoc hv h.2⟩
 |[],_::_,h=>h.elim
 |_::_,[],h=>h.elim
theorem fO.next{w w':World}{base:Nat}{e:TypeId}{n:Nat}{v:Value}{b:List Int}{vs:List Value}{bs:List (List Int)}(h:fO w vs bs)(ho:w'.ownsRow base e 1 v n (b.map (Value.int .u8)))(hb:Below w.heap.size w w'):fO w' (vs++[v]) (bs++[b]):=
 (h.below hb).snoc (Rd.own ho)
theorem fO.len{w:World}:∀{vs:List Value} {bs:List (List Int)},fO w vs bs→vs.length=bs.length
 |[],[],_=>rfl
 |_::_,_::_,h=>by simp[fO.len h.2]
 |[],_::_,h=>h.elim
 |_::_,[],h=>h.elim
theorem fO.at{w:World}:∀{vs:List Value} {bs:List (List Int)} (k:Nat),fO w vs bs→k<bs.length→∃v,vs[k]?=some v∧Rd .u8 w v (bs.getD k [])
 |v::vs,b::bs,0,h,_=>⟨v,rfl,h.1⟩
 |v::vs,b::bs,k+1,h,hk=>by
  obtain⟨u,h1,h2⟩:=fO.at k h.2 (by simpa using hk);exact⟨u,by simpa using h1,by simpa using h2⟩
 |[],[],k,_,hk=>by simp at hk
 |[],_::_,_,h,_=>h.elim
 |_::_,[],_,h,_=>h.elim
def cF(n:Nat):Bool:=decide (n%512=0)&&(decide (64≤n/512)&&decide (n/512≤2048))
theorem tn(v:Value)(zs:List Int)(w:World)(h:Rd .u8 w v zs)(hz:zs.length≤140737488355328):
 Calls prog 85 #[v] w fun e w'=>e=.returned (.bool (cF zs.length))∧w=w':=by
 obtain⟨a,cap,rfl⟩:∃a cap,v=.slice a zs.length cap:=by obtain⟨a,cap,h1,_⟩:=h;exact⟨a,cap,h1⟩
 clear h;generalize zs.length=n at hz⊢;by_cases h1:n%512=0
 ·have hq1:((n:Int)%512==0)=true:=by simp;omega
  by_cases h2:64≤n/512
  ·have hq2:decide ((64:Int)≤(n:Int)/512)=true:=(by simp;omega);have HR:=ae (cF n=decide ((n:Int)/512≤2048)) (by unfold cF;rw[decide_eq_true h1,decide_eq_true h2,Bool.true_and,Bool.true_and,decide_eq_decide];omega);clear h1 h2;go_enter func85,ntmps85;go_wp2;go_ret;exact⟨ep (by rw[HR.out]),rfl⟩
  ·have hq2:decide ((64:Int)≤(n:Int)/512)=false:=(by simp;omega);have HR:=ae (cF n=false) (by unfold cF;rw[decide_eq_false h2,Bool.false_and,Bool.and_false]);clear h1 h2;go_enter func85,ntmps85;go_wp2;go_ret;exact⟨ep (by first|rfl|rw[HR.out]),rfl⟩
 ·have hq1:((n:Int)%512==0)=false:=by simp;omega
  have HR:=ae (cF n=false) (by unfold cF;rw[decide_eq_false h1,Bool.false_and]);clear h1;go_enter func85,ntmps85;go_wp2;go_ret;exact⟨ep (by first|rfl|rw[HR.out]),rfl⟩
theorem pZ(v:Value)(zs:List Int)(w:World)(h:Rd .u8 w v zs)(hz:zs.length≤140737488355328):
 Calls prog 30 #[v] w fun e w'=>e=.returned (.int .i64 (if cF zs.length=true then((zs.length/512:Nat):Int) else 0))∧w=w':=by
 obtain⟨a,cap,rfl⟩:∃a cap,v=.slice a zs.length cap:=by obtain⟨a,cap,h1,_⟩:=h;exact⟨a,cap,h1⟩
 clear h;generalize zs.length=n at hz⊢;obtain⟨m,hm⟩:∃m,m=n/512:=⟨_,rfl⟩;have e1:(n:Int)/512=(m:Int):=by omega
 rw[←hm];by_cases h1:n%512=0
 ·have hq1:(((m:Int)*512) !=(n:Int))=false:=by simp;omega
  by_cases h2:64≤n/512
  ·have hq2:decide ((m:Int)<64)=false:=(by simp;omega);by_cases h3:n/512≤2048
   ·have hq3:decide ((2048:Int)<(m:Int))=false:=(by simp;omega);have HR:=ae ((if cF n=true then((m:Nat):Int) else 0)=(m:Int)) (by unfold cF;rw[decide_eq_true h1,decide_eq_true h2,decide_eq_true h3];rfl);rw[HR.out];have hm9:m≤2048:=(by omega);clear h1 h2 h3 hm;go_enter func30,ntmps30;go_wp2;go_ret;exact⟨rfl,rfl⟩
   ·have hq3:decide ((2048:Int)<(m:Int))=true:=(by simp;omega);have HR:=ae ((if cF n=true then((m:Nat):Int) else 0)=0) (by unfold cF;rw[decide_eq_false h3,Bool.and_false,Bool.and_false];rfl);rw[HR.out];have hm9:m≤300000000000:=(by omega);clear h1 h2 h3 hm;go_enter func30,ntmps30;go_wp2;go_ret;exact⟨rfl,rfl⟩
  ·have hq2:decide ((m:Int)<64)=true:=(by simp;omega);have HR:=ae ((if cF n=true then((m:Nat):Int) else 0)=0) (by unfold cF;rw[decide_eq_false h2,Bool.false_and,Bool.and_false];rfl);rw[HR.out];have hm9:m≤2048:=(by omega);clear h1 h2 hm;go_enter func30,ntmps30;go_wp2;go_ret;exact⟨rfl,rfl⟩
 ·have hq1:(((m:Int)*512) !=(n:Int))=true:=by simp;omega
  have HR:=ae ((if cF n=true then((m:Nat):Int) else 0)=0) (by unfold cF;rw[decide_eq_false h1,Bool.false_and];rfl);rw[HR.out];have hm9:m≤300000000000:=by omega
  clear h1 hm;go_enter func30,ntmps30;go_wp2;go_ret;exact⟨rfl,rfl⟩
theorem jw{P:Program}{ops:Array Oper}{rest:List Oper}{o:Oper}{a:Act}{w:World}{Q:Exit→Act→World→Prop}(hw:Region.wanted o (yielded ops a.tmps)=true)(ty:TypeId)(x:Operand)(ho:o.op=.load ty x)
 (g:Nat) (hx:a.eval x=.pointer (some ⟨g,0,none⟩)) (t:TypeId) (cs:Array Value) (fr:Nat×Nat) (d:TypeDesc) (hg:w.heap[g]?=some (.cells cs t fr))
 (hu:P.underlying ty=some d) (hd:(match d with|.struct _|.array _ _=>true|_=>false)=true) (hi:(P.info? ty).map (·.size)=some cs.size)
 (h:wpList P ops Q rest (a.put o.dst (.agg cs)) w):wpList P ops Q (o::rest) a w:=
 Go.BigFrame.wpList_want hw fun _ hK=>wp_load_row ty x ho g hx t cs fr d hg hu hd hi (hK _ _ h)
def iw(zs:List Int)(p:Int):List Int:=if p=0 then replicate 512 0 else aV zs p
theorem zB(v:Value)(zs:List Int)(p:Int)(w:World)(h:Rd .u8 w v zs)(h1:zs.length≤1048576)(hp:be (zs.length/512) p=true):
 Calls prog 81 #[v,.int .i64 p] w fun e w'=>∃v',e=.returned v'∧Rd .u8 w' v' (iw zs p)∧Below w.heap.size w w':=by
 obtain⟨i0,hi,hz0,hz1,hz2⟩:=info_parts iR;by_cases h0:p=0
 ·subst h0;obtain⟨a,cap,rfl⟩:=dZ h;clear h;go_enter func81,ntmps81;go_wp2_with (refine wpList_make_full _ rfl _ _ 22 rfl w.heap.size 5 i0 (.int .u8 0) 1 underlying22 hi hz0 hz1 .i64 .i64 512 512 512 rfl rfl rfl rfl (by rw[hz2];omega) (by unfold maxLen;omega) aj ?_;intro w3 o3 g3;rw[iK _ _ rfl] at o3;have O3:=aa (ag o3 g3);clear o3 g3);go_ret;refine⟨_,rfl,?_,ak.grown O3.out.2 aj (fun k e=>by cases e)⟩;rw[show iw zs 0=replicate 512 0 from if_pos rfl];have e:w3.ownsRow w.heap.size 5 1 (.slice (some ⟨w.heap.size,0,none⟩) 512 512) 512 ((replicate 512 (0:Int)).map (Value.int .u8)):=by rw[List.map_replicate];exact O3.out.1
  exact Rd.own e
 ·obtain⟨h2,h3⟩:=ke hp h0;obtain⟨q,rfl⟩:∃q:Nat,p=(q:Int):=⟨p.toNat,by omega⟩;obtain⟨b,off,cap,rfl,hb,hlc,hcm,hcell⟩:=h.dj (by omega);obtain⟨A,hA⟩:∃A:Nat,A=q*512:=⟨_,rfl⟩;have hA1:(q:Int)*512=(A:Int):=by omega
  obtain⟨B,hB⟩:∃B:Nat,B=A+512:=⟨_,rfl⟩;have hA2:((q:Int)+1)*512=(B:Int):=by omega
  have hAB:B≤zs.length:=by omega
  have HP:=ae (Rd .u8 w (.slice (some ⟨b,off+A,none⟩) 512 (cap-A)) (aV zs (q:Int))) (by unfold aV;rw[Int.toNat_natCast, ←hA];exact Rd.kL A 512 h (by omega) (by omega));have hB3:(A:Int)≤(B:Int):=by omega
  have hB4:(B:Int)≤(cap:Int):=by omega
  have hB5:B-A=512:=by omega
  have hq:(q:Int)<4096:=by omega
  clear h hcell hA hB;go_enter func81,ntmps81;go_wp2;go_ret;refine⟨_,rfl,?_,ak⟩;rw[show iw zs (q:Int)=aV zs (q:Int) from if_neg h0];exact HP.out
def gC(zs:List Int)(s:Int)(ds:List Int)(p q:Int):Int:=if cF zs.length=true∧cA s ds p q=true then 0 else 7
theorem nw(v:Value)(zs:List Int)(s:Int)(ds:List Int)(p q:Int)(w:World)(h:Rd .u8 w v zs)(h1:zs.length≤1048576)(hd:ds.length=12):
 Calls prog 46 #[v,.agg (aB (aD s ds p q))] w fun e w'=>e=.returned (.int .i64 (gC zs s ds p q))∧Below w.heap.size w w':=by
 have HD:=aa hd;have HZ:=ae ((aB (aD s ds p q)).size=15) (by rw[fc];exact eR s ds p q HD.out);have hb0:Below w.heap.size w (w.alloc (.cells (aB (aD s ds p q)) 28)):=ak.alloc aj _;have HB0:=aa hb0;obtain⟨a,cap,rfl⟩:=dZ h;have HR:=aa h;clear hd hb0 h;cases hsz:cF zs.length with
 |false=>
  have HS:=aa hsz;clear hsz;go_enter func46,ntmps46;go_wp2_with fail;refine(pZ _ zs _ (HR.out.below HB0.out) (by omega)).mono ?_;rintro e w1 ⟨rfl,rfl⟩;rw[HS.out];go_wp2;go_ret;exact⟨by unfold gC;rw[HS.out,if_neg (by simp)];rfl,HB0.out⟩
 |true=>
  have HS:=aa hsz;have hn:((zs.length/512:Nat):Int)≠0:=by unfold cF at hsz;simp at hsz;omega
  obtain⟨n,hn2⟩:∃n:Nat,zs.length/512=n:=⟨_,rfl⟩;rw[hn2] at hn;have hn3:((n:Int)==0)=false:=by simp;omega
  have HN:=aa hn2;clear hsz hn2;go_enter func46,ntmps46;go_wp2_with fail;refine(pZ _ zs _ (HR.out.below HB0.out) (by omega)).mono ?_;rintro e w1 ⟨rfl,rfl⟩;rw[HS.out,HN.out,if_pos rfl];go_wp2_with (refine jw (by rfl) 28 _ rfl w.heap.size rfl 28 (aB (aD s ds p q)) (0,0) _ (af.new w _ _) underlying28 rfl (by rw[HZ.out];exact dr) ?_);refine(tj s ds p q _ HD.out).mono ?_;rintro e w1 ⟨rfl,b1⟩;have HB1:=aa (HB0.out.trans (b1.mono HB0.out.size));clear b1;cases hr:cA s ds p q with
  |false=>
   have HR2:=aa hr;clear hr;go_wp2;go_ret;exact⟨by unfold gC;rw[HR2.out,if_neg (by simp)];rfl,HB1.out⟩
  |true=>
   have HR2:=aa hr;clear hr;go_wp2;go_ret;exact⟨by unfold gC;rw[HR2.out,HS.out,if_pos ⟨rfl,rfl⟩];rfl,HB1.out⟩
theorem zC(x n:Int)(w:World):Calls prog 59 #[.int .i64 x,.int .i64 n] w fun e w'=>e=.returned (.bool (decide (2≤x)&&decide (x<n)))∧w=w':=by
 by_cases h2:2≤x
 ·have HR:=ae ((decide (2≤x)&&decide (x<n))=decide (x<n)) (by simp[h2]);go_enter func59,ntmps59;go_wp2;go_ret;exact⟨ep (by rw[HR.out]),rfl⟩
 ·have hq2:decide (2≤x)=false:=by simp;omega
  have HR:=ae ((decide (2≤x)&&decide (x<n))=false) (by rw[hq2];rfl);go_enter func59,ntmps59;go_wp2;go_ret;exact⟨ep (by first|rfl|rw[HR.out]),rfl⟩
theorem mg(x n:Int)(w:World):Calls prog 120 #[.int .i64 x,.int .i64 n] w fun e w'=>e=.returned (.bool (eu x n))∧w=w':=by
 have HP:=ae (eu x n=(decide (x=0)||(decide (2≤x)&&decide (x<n)))) rfl;by_cases h0:x=0
 ·subst h0;go_enter func120,ntmps120;go_wp2;go_ret;exact⟨rfl,rfl⟩
 ·have hq:(x==0)=false:=by simp[h0]
  have HD:=ae (eu x n=(decide (2≤x)&&decide (x<n))) (by rw[HP.out];simp[h0]);clear h0;go_enter func120,ntmps120;go_wp2_with (go_at_call 59;refine(zC x n _).mono ?_;rintro e w' ⟨rfl,rfl⟩);go_ret;exact⟨ep (by rw[HD.out]),rfl⟩
theorem p7(x:Int)(w:World):Calls prog 49 #[.int .i64 x] w fun e w'=>(∃y,e=.returned (.int .i64 y)∧(0≤x→x≤262144→y=(x+511)/512))∧w=w':=by
 by_cases h0:0≤x∧x≤262144
 ·obtain⟨h0,h1⟩:=h0;have h2:x/512≤512:=by omega
  have h3:0≤x/512:=by omega
  by_cases hr:x%512=0
  ·have hq:(x%512 !=0)=false:=(by simp[hr]);have HR:=aa hr;clear hr;go_enter func49,ntmps49;go_wp2;go_ret;exact⟨⟨x/512,rfl,fun _ _=>by have:=HR.out;omega⟩,rfl⟩
  ·have hq:(x%512 !=0)=true:=(by simpa using hr);have HR:=aa hr;clear hr;go_enter func49,ntmps49;go_wp2;go_ret;exact⟨⟨x/512+1,rfl,fun _ _=>by have:=HR.out;omega⟩,rfl⟩
 ·have H:=aa h0;clear h0;go_enter func49,ntmps49;go_wp2;all_goals go_ret
  all_goals exact⟨⟨_,rfl,fun a b=>absurd ⟨a,b⟩ H.out⟩,rfl⟩
theorem tu(ds:List Int)(k:Nat)(hd:ds.length=12)(hk:k<12)(w:World):(Instr.index 26 (.agg (aB ds)) (.int .i64 k)).run prog w=.ok (.int .i64 (ds.getD k 0)) w:=by
 have hg:k<ds.length:=by omega
 simp[Instr.index,run_underlying underlying26,asIntOf,go_sem,aB,hg];intro h;omega
theorem zD(f:Int→Bool)(ds:List Int)(k:Nat)(h:k<ds.length):(ds.take (k+1)).all f=((ds.take k).all f&&f (ds.getD k 0)):=by
 rw[List.take_succ_eq_append_getElem h,List.all_append];simp[getD,h]
structure Kp(w wr:World)(C:Array Value)(t:TypeId)(code:Int)(ok:Bool):Prop where
 aW:af wr w.heap.size C t
 ck:Ck wr (w.heap.size+1) (w.heap.size+1+1) code ok
 old:Below w.heap.size w wr
theorem Kp.lo{w wr:World}{C:Array Value}{t:TypeId}{code:Int}{ok:Bool}(h:Kp w wr C t code ok):w.heap.size+1+1≤wr.heap.size:=h.ck.lt
theorem Kp.cQ{w wr w':World}{C:Array Value}{t:TypeId}{code:Int}{ok ok':Bool}(h:Kp w wr C t code ok)(hc:Ck w' (w.heap.size+1) (w.heap.size+1+1) code ok')(ht:dU (w.heap.size+1) wr w'):Kp w w' C t code ok':=
 ⟨(ht.1.block _ h.aW.lt (by simp)).trans h.aW,hc,ht.under h.old (by omega) (Nat.le_of_lt h.aW.lt)⟩
theorem Kp.fault{w wr:World}{C:Array Value}{t:TypeId}{code:Int}{ok:Bool}(h:Kp w wr C t code ok):∃ev,wr.cell? ⟨w.heap.size+1,1,none⟩=some ev∧fa wr w.heap.size ok ev code:=by
 obtain⟨_,_,ev,c3,c4⟩:=h.ck;refine⟨ev,c3,?_⟩;rcases c4 with c4|⟨c4,n,c5⟩
 ·exact .inl c4
 ·exact .inr ⟨c4,n,c5.mono (by omega)⟩
def nx(ds:List Int)(p q n:Int):Bool:=(ds.all fun x=>eu x n)&&eu p n&&eu q n
theorem zE(s:Int)(ds:List Int)(p q n code:Int)(w:World)(hd:ds.length=12):
 Calls prog 108 #[.agg (aB (aD s ds p q)),.int .i64 n,.int .i64 code] w fun e w'=>∃ev,e=.returned ev∧fa w' w.heap.size (nx ds p q n) ev code∧Below w.heap.size w w':=by
 have HD:=aa hd;have kB:=(af.new w (aB (aD s ds p q)) 28).alloc (.cells #[.int .i64 code,.nilIface] 100);have kC:=Ck.fresh (w.alloc (.cells (aB (aD s ds p q)) 28)) code 100;rw[World.size_alloc] at kC;have hb0:Below w.heap.size w ((w.alloc (.cells (aB (aD s ds p q)) 28)).alloc (.cells #[.int .i64 code,.nilIface] 100)):=(ak.alloc aj _).alloc (by simp) _;have hr:=kB.range 1 12 (by rw[eR _ _ _ _ HD.out];omega);rw[pD _ _ _ _ HD.out] at hr;have HX:=aa (fun k hk w=>tu ds k HD.out hk w);have K:=ae (Kp w ((w.alloc (.cells (aB (aD s ds p q)) 28)).alloc (.cells #[.int .i64 code,.nilIface] 100)) (aB (aD s ds p q)) 28 code true) (⟨kB,kC,hb0⟩);have HR:=aa hr;clear hd kB kC hb0 hr;go_enter func108,ntmps108;go_wp2_with (refine wpList_load_mid rfl 26 _ rfl w.heap.size 1 rfl (ds.map (Value.int .i64)) _ HR.out underlying26 rfl (by rw[List.length_map,HD.out];exact sE) ?_);go_loopw [14] (fun i wr=>∃k:Nat,k≤12∧i=.int .i64 k∧Kp w wr (aB (aD s ds p q)) 28 code ((ds.take k).all fun x=>eu x n)) (fun i _=>12-(intOf i).toNat)
 case atStart=>exact⟨0,by omega,rfl,K.out⟩
 case round=>
  obtain⟨k,hk,rfl,hkp⟩:=hrel;have HK:=aa hkp;clear hkp K HR;by_cases hlt:k<12
  ·have hix:∀w,(Instr.index 26 (.agg (ds.map (Value.int .i64)).toArray) (.int .i64 k)).run prog w=.ok (.int .i64 (ds.getD k 0)) w:=fun w=>HX.out k hlt w;have HT:=aa (zD (fun x=>eu x n) ds k (by rw[HD.out];exact hlt));generalize ds.getD k 0=z at hix HT;go_wp2_with (first|(go_at_call 120;refine(mg z n _).mono ?_;rintro e w1 ⟨rfl,rfl⟩)|(go_at_call 58;refine(dV (w.heap.size+1) (w.heap.size+1+1) _ code _ (eu z n) _ HK.out.ck (by omega) HK.out.lo).mono ?_;rintro e w1 ⟨rfl,hc1,ht1⟩));have H1:=aa (HK.out.cQ hc1 ht1);clear hc1 ht1;go_roundw
   case rel=>exact⟨k+1,by omega,by go_num,by rw[HT.out];exact H1.out⟩
   case measure=>simp[intOf];omega
  ·have e12:k=12:=(by omega);subst e12;rw[List.take_of_length_le (by rw[HD.out];omega)] at HK;have a13:=(HK.out.aW.cell 13).trans (pC s ds p q HD.out);have lt1:=HK.out.lo;go_wp2_with (first|(go_at_call 120;refine(mg p n _).mono ?_;rintro e w1 ⟨rfl,rfl⟩)|(go_at_call 58;fail));refine(dV (w.heap.size+1) (w.heap.size+1+1) _ code _ (eu p n) _ HK.out.ck (by omega) HK.out.lo).mono ?_;rintro e w1 ⟨rfl,hc1,ht1⟩;have H1:=aa (HK.out.cQ hc1 ht1);have a14:=(H1.out.aW.cell 14).trans (kU s ds p q HD.out);clear hc1 ht1 a13 lt1;go_wp2_with (first|(go_at_call 120;refine(mg q n _).mono ?_;rintro e w1' ⟨rfl,rfl⟩)|(go_at_call 58;fail));refine(dV (w.heap.size+1) (w.heap.size+1+1) _ code _ (eu q n) _ H1.out.ck (by omega) H1.out.lo).mono ?_;rintro e w2 ⟨rfl,hc2,ht2⟩;have H2:=aa (H1.out.cQ hc2 ht2);obtain⟨ev,c3,hf⟩:=H2.out.fault;have HF:=aa hf;clear hc2 ht2 a14 hf;go_wp2;go_ret;exact⟨ev,rfl,HF.out,H2.out.old⟩
def lp(s:Int)(ds:List Int)(p q y:Int):Bool:=
 (((((decide (0≤s)&&decide (s≤262144))&&nx ds p q 2048)&&((range 12).all fun i=>decide (ds.getD i 0=0)||decide ((i:Int)<y)))&&(decide (p=0)||decide (12<y)))&&(decide (q=0)||decide (140<y)))
theorem zF(s:Int)(ds:List Int)(p q y:Int)(hd:ds.length=12)(hy:0≤s→s≤262144→y=(s+511)/512):lp s ds p q y=cA s ds p q:=by
 unfold lp cA;by_cases h1:0≤s
 ·by_cases h2:s≤262144
  ·rw[hy h1 h2];match ds,hd with
   |[d0,d1,d2,d3,d4,d5,d6,d7,d8,d9,d10,d11],_=>
    simp[nx,gK,gl,gz,h1,h2,range,List.range.loop,getD];ac_rfl
  ·simp[h2]
 ·simp[h1]
end
end Go.Proofs.YtlimollpocagiaaGreatDoor
