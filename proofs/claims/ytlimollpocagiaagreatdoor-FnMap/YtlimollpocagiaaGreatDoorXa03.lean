/- A plane set in a map: the program's MapPlane -/
import Derived.Test.YtlimollpocagiaaGreatDoorXa02
import Derived.ChangeKeysEq
namespace Go.Proofs.YtlimollpocagiaaGreatDoor
open Go.Proofs.Tryz
open _root_.List (getD range length_set)
open _root_.Bool (and_eq_true)
set_option linter.all false
set_option maxRecDepth 100000
set_option maxHeartbeats 16000000
section
open Go.RowKit
theorem sq(z:Int)(n:Nat)(w:World):
 Calls prog 59 #[.int .i64 z,.int .i64 (n:Int)] w fun e w'=>e=.returned (.bool (j8 n z))∧w'=w:=by
 by_cases h1:2≤z<;>by_cases h2:z<(n:Int);all_goals
  have HI:=ae (j8 n z=(decide (2≤z)&&decide (z<(n:Int)))) rfl;go_enter func59,ntmps59;go_wp2;go_ret;exact⟨ep (by rw[HI.out];simp[h1,h2]),rfl⟩
theorem oZ{w:World}{g n:Nat}{e:TypeId}{xs:List Value}(h:w.heap[g]?=some (.cells xs.toArray e (0,0)))(hn:xs.length=n)(hm:n≤maxLen)(base:Nat)(hb:base≤g):w.ownsRow base e 1 (.slice (some ⟨g,0,none⟩) n n) n xs:=
 ⟨by omega,.inr ⟨g,n,xs.toArray,rfl,hb,h,aj,hm,by simp[hn],by rw[Nat.mul_one];exact List.take_of_length_le (by simp;omega)⟩⟩
theorem pg{w:World}{base g n:Nat}{e:TypeId}{xs:List Value}(h:w.ownsRow base e 1 (.slice (some ⟨g,0,none⟩) n n) n xs):w.heap[g]?=some (.cells xs.toArray e (0,0)):=by
 rcases h.2 with⟨h1,_⟩|⟨g',cap,cur,e1,hb,hg,hnc,hcm,hcs,htake⟩
 ·cases h1
 ·injection e1 with e1 e2 e3;injection e1 with e1;injection e1 with e1;subst e1 e3;rw[hg];have:cur=xs.toArray:=by
   apply Array.ext';rw[←htake,List.take_of_length_le (by simp;omega)]
  rw[this]
theorem yy{α:Type}(L X:List α)(h:L.length=X.length):splice L 0 X=X:=by
 unfold splice;rw[List.drop_of_length_le (by omega)];simp
theorem sr(v:Value)(ws:List Int)(w:World)(h:Rd .i64 w v ws)(hn:ws.length≤1048576):
 Calls prog 63 #[v] w fun e w'=>e=.returned (.slice (some ⟨w.heap.size,0,none⟩) ws.length ws.length)∧w'.ownsRow w.heap.size 3 1 (.slice (some ⟨w.heap.size,0,none⟩) ws.length ws.length) ws.length (ws.map (Value.int .i64))∧Below w.heap.size w w':=by
 obtain⟨i0,hi,hz0,hz1,hz2⟩:=info_parts eO;have hm:=h.len;have HN:=ae (ws.length≤maxLen) hm;unfold maxLen at hm;obtain⟨X,hX⟩:∃X,X=ws.map (Value.int .i64):=⟨_,rfl⟩;have HX:=ae (X.length=ws.length∧(∀v∈X,v.oneCell'=true)) (by subst hX;refine⟨by simp,?_⟩;intro v hv;simp at hv;obtain⟨z,_,rfl⟩:=hv;rfl);have HSrc:=ae (∀a cap,v=.slice a ws.length cap→0<X.length→∃ad,a=some ad∧∀j u,X[j]?=some u→w.cell? (ad.add j)=some u) (by
  intro a cap e hpos;obtain⟨b,off,cap',rfl,hbw,_,_,hcell⟩:=h.dj (by subst hX;simpa using hpos);injection e with e1 e2 e3;subst e1;refine⟨_,rfl,fun j u hu=>?_⟩;have hj:j<ws.length:=by
   rcases Nat.lt_or_ge j ws.length with h1|h1
   ·exact h1
   ·rw[hX,List.getElem?_eq_none (by simp;omega)] at hu;cases hu
  have ea:(⟨b,off,none⟩:Addr).add j=⟨b,off+j,none⟩:=by
   unfold Addr.add;split
   ·rename_i h;subst h;rfl
   ·rfl
  rw[ea];rw[hcell j hj];rw[hX] at hu;simp[hj] at hu;rw[←hu];simp[getD,hj])
 have hsh:∃a cap,v=.slice a ws.length cap:=by obtain⟨a,cap,h1,_⟩:=h;exact⟨a,cap,h1⟩
 obtain⟨a0,cap0,rfl⟩:=hsh;rw[←hX];clear h hX;go_enter func63,ntmps63;go_wp2_with (first
  |(refine wpList_make_full _ rfl (.tmp 5) (.tmp 5) 29 rfl w.heap.size 3 i0 (.int .i64 0) 1 underlying29 hi hz0 hz1 .i64 .i64 ws.length ws.length ws.length rfl rfl rfl rfl (by rw[hz2];omega) (by unfold maxLen;omega) aj ?_;intro w1 hown hgrow;rw[iK _ _ rfl] at hown;have H1:=aa (ag hown hgrow);clear hown hgrow)
  |(refine wpList_copy_splice rfl (.tmp 7) (.tmp 8) 29 29 rfl 3 underlying29 (by rw[hi];exact congrArg some hz1) (some ⟨w.heap.size,0,none⟩) a0 ws.length ws.length ws.length cap0 rfl rfl w.heap.size 0 (List.replicate ws.length (.int .i64 0)) 3 (pg H1.out.1) X (by rw[HX.out.1];exact(Nat.min_self _).symm) (fun hpos=>⟨rfl,?_⟩) (by rw[HX.out.1,List.length_replicate,Nat.zero_add];exact aj) HX.out.2 w.heap.size w (ak.grown H1.out.2 aj (fun k h=>by cases h)) aj ?_))
 ·obtain⟨ad,e,hc⟩:=HSrc.out _ _ rfl hpos;refine⟨ad,e,fun j v hv=>?_⟩;exact((ak.grown H1.out.2 aj (fun k h=>by cases h)).cell (eN (hc j v hv))).trans (hc j v hv)
 ·intro w2 h2 hb2;have H2:=aa (ag h2 hb2);clear h2 hb2;go_wp2;go_ret;refine⟨rfl,oZ ?_ HX.out.1 HN.out _ aj,H2.out.2⟩;have h:=H2.out.1.out;rw[yy _ _ (by rw[HX.out.1];simp)] at h;exact h
def bJ(n c i:Nat):Nat:=if c+i<n then c+i else c+i-n+2
def cf(n:Nat)(x:Int):Int:=if x=(n:Int)-1 then 2 else wrap64 (x+1)
theorem pq(n c i:Nat)(h2:2≤c)(hc:c<n)(hi:i<n-2):2≤bJ n c i∧bJ n c i<n:=by
 unfold bJ;split<;>omega
theorem yA(n c:Nat)(hc:c<n):bJ n c 0=c:=by unfold bJ;rw[if_pos (by omega)];rfl
theorem yB(n c i:Nat)(h2:2≤c)(hc:c<n)(hn:n≤2048)(hi:i<n-2):((bJ n c (i+1):Nat):Int)=cf n (bJ n c i:Nat):=by
 unfold cf bJ wrap64;split<;>split<;>split<;>omega
def kQ(ws:List Int)(b:Nat):Bool:=decide (ws.getD b 0=0)
def gV(ws:List Int)(c k:Nat):List Int:=(((range k).map (bJ ws.length c)).filter (kQ ws)).map fun b:Nat=>(b:Int)
theorem su(ws:List Int)(c k:Nat)(h:ws.getD (bJ ws.length c k) 0=0):gV ws c (k+1)=gV ws c k++[((bJ ws.length c k:Nat):Int)]:=by
 have e:kQ ws (bJ ws.length c k)=true:=by unfold kQ;rw[h];rfl
 simp[gV,List.range_succ,List.filter_cons,e]
theorem sx(ws:List Int)(c k:Nat)(h:¬ws.getD (bJ ws.length c k) 0=0):gV ws c (k+1)=gV ws c k:=by
 have e:kQ ws (bJ ws.length c k)=false:=by unfold kQ;exact decide_eq_false h
 simp[gV,List.range_succ,List.filter_cons,e]
theorem sy(ws:List Int)(c k:Nat):∀m,k≤m→gV ws c k<+:gV ws c m
 |0,h=>by
  have:k=0:=by omega
  subst this;exact List.prefix_refl _
 |m+1,h=>by
  by_cases e:k=m+1
  ·subst e;exact List.prefix_refl _
  ·have h1:=sy ws c k m (by omega);by_cases hz:ws.getD (bJ ws.length c m) 0=0
   ·rw[su ws c m hz];exact h1.trans (List.prefix_append _ _)
   ·rw[sx ws c m hz];exact h1
def jh(ws:List Int)(c:Nat):List Int:=gV ws c (ws.length-2)
theorem mX(x:Int)(n:Nat)(w:World)(hn:2≤n)(hn2:n≤1048576):
 Calls prog 116 #[.int .i64 x,.int .i64 (n:Int)] w fun e w'=>e=.returned (.int .i64 (cf n x))∧w'=w:=by
 by_cases h:x=(n:Int)-1
 ·have HB:=ae (cf n x=2) (by unfold cf;rw[if_pos h]);subst h;go_enter func116,ntmps116;go_wp2;go_ret;exact⟨fK (by rw[HB.out]),rfl⟩
 ·have HB:=ae (cf n x=wrap64 (x+1)) (by unfold cf;rw[if_neg h]);have hq:(x==(n:Int)-1)=false:=by simpa using h
  go_enter func116,ntmps116;go_wp2;go_ret;exact⟨fK (by rw[HB.out]),rfl⟩
theorem sA(x:Int)(n:Nat)(w:World)(hn:2≤n)(hn2:n≤1048576):
 Calls prog 107 #[.int .i64 (n:Int),.int .i64 x] w fun e w'=>e=.returned (.int .i64 (cf n x))∧w'=w:=by
 by_cases h:x=(n:Int)-1
 ·have HB:=ae (cf n x=2) (by unfold cf;rw[if_pos h]);subst h;go_enter func107,ntmps107;go_wp2;go_ret;exact⟨fK (by rw[HB.out]),rfl⟩
 ·have HB:=ae (cf n x=wrap64 (x+1)) (by unfold cf;rw[if_neg h]);have hq:(x==(n:Int)-1)=false:=by simpa using h
  go_enter func107,ntmps107;go_wp2;go_ret;exact⟨fK (by rw[HB.out]),rfl⟩
structure FD where
 ws:List Int
 pl:List Int
 od:List Nat
 cu:Nat
def cq(ws:List Int)(k:Nat):List Int:=(range 128).map fun j=>ws.getD (128*k+j) 0
def even(z:Int):Int:=z-z%2
def fe(ws:List Int)(o:Int):List Int:=if o=0 then ws else ws.set o.toNat (even (ws.getD o.toNat 0))
def ff(ws bf:List Int)(c:Nat):Option Nat:=((range (ws.length-2)).map (bJ ws.length c)).find? fun b=>decide (ws.getD b 0=0)&&decide (bf.getD b 0=0)
def dW(ol:List Int)(s:FD)(k b:Nat):FD:=⟨fe (s.ws.set b 1) (ol.getD k 0),s.pl.set k (b:Int),s.od++[k],(cf s.ws.length b).toNat⟩
def fL(m:Nat)(pl:List Int):Bool:=(range m).any fun k=>decide (12≤k)&&decide (pl.getD k 0≠0)
def dX(m:Nat)(bf ol:List Int)(s:FD)(k:Nat):Bool:=decide (s.pl.getD k 0=0)&&(decide (ol.getD k 0=0)||if k<m then decide (cq s.ws k≠cq bf k) else fL m s.pl)
def fT(bf ol:List Int)(s:FD)(k:Nat):FD×Bool:=match ff s.ws bf s.cu with
 |some b=>(dW ol s k b,true)
 |none=>(s,false)
def aZ(m:Nat)(bf ol:List Int)(s:FD×Bool)(k:Nat):FD×Bool:=if s.2&&dX m bf ol s.1 k then fT bf ol s.1 k else s
def aL(m:Nat):List Nat:=range m++if 12<m then [m] else []
def bU(m:Nat)(bf ol:List Int)(s:FD):FD×Bool:=(aL m).foldl (aZ m bf ol) (s,true)
def eH(m:Nat)(bf ol:List Int):Nat→FD→FD×Bool
 |0,s=>(s,true)
 |f+1,s=>if(bU m bf ol s).2&&decide ((bU m bf ol s).1.od.length≠s.od.length) then eH m bf ol f (bU m bf ol s).1 else bU m bf ol s
structure bg(m n:Nat)(s:FD):Prop where
 wl:s.ws.length=n
 wr:∀z∈s.ws,0≤z∧z<4294967296
 pn:s.pl.length=m+1
 pr:∀k,s.pl.getD k 0=0∨(2≤s.pl.getD k 0∧s.pl.getD k 0<n)
 on:∀k,k∈s.od↔s.pl.getD k 0≠0
 od:s.od.Nodup
 cu:2≤s.cu∧s.cu<n
theorem bg.mY{m n:Nat}{s:FD}(h:bg m n s):∀k∈s.od,k<m+1:=fun k hk=>by
 have h1:=(h.on k).1 hk;rcases Nat.lt_or_ge k (m+1) with h2|h2
 ·exact h2
 ·exact absurd (by simp[getD,List.getElem?_eq_none (by rw[h.pn];exact h2)]) h1
theorem yC:∀(l:List Nat) (n:Nat),l.Nodup→(∀k∈l,k<n)→l.length≤n:=by
 intro l n h1 h2;have h3:l ⊆ range n:=fun k hk=>List.mem_range.2 (h2 k hk);have h4:=List.Nodup.length_le_of_subset h1 h3;simpa using h4
theorem bg.gh{m n:Nat}{s:FD}(h:bg m n s):s.od.length≤m+1:=yC _ _ h.od h.mY
theorem l8{ws bf:List Int}{c b:Nat}(h2:2≤c)(hc:c<ws.length)(h:ff ws bf c=some b):2≤b∧b<ws.length∧ws.getD b 0=0∧bf.getD b 0=0:=by
 unfold ff at h;have h1:=List.mem_of_find?_eq_some h;have h3:=List.find?_some h;obtain⟨i,hi,rfl⟩:=List.mem_map.1 h1;have h4:=pq ws.length c i h2 hc (List.mem_range.1 hi);simp only[and_eq_true,decide_eq_true_eq] at h3;exact⟨h4.1,h4.2,h3⟩
theorem pA{n b:Nat}(h2:2≤b)(hb:b<n)(hn:n≤2048):cf n b=((cf n b).toNat:Int)∧2≤(cf n b).toNat∧(cf n b).toNat<n:=by
 unfold cf wrap64;split<;>omega
theorem jN(l:List Int)(i j:Nat)(x:Int)(hi:i<l.length):(l.set i x).getD j 0=if j=i then x else l.getD j 0:=by
 simp only[getD,List.getElem?_set];by_cases h:i=j
 ·subst h;simp[hi]
 ·rw[if_neg h,if_neg (fun e=>h e.symm)]
theorem yD{z:Int}(h:0≤z∧z<4294967296):0≤even z∧even z<4294967296:=by unfold even;omega
theorem yE(ws:List Int)(o:Int):(fe ws o).length=ws.length:=by unfold fe;split<;>simp
theorem iL{ws:List Int}(h:∀z∈ws,0≤z∧z<4294967296)(k:Nat):0≤ws.getD k 0∧ws.getD k 0<4294967296:=by
 rcases Nat.lt_or_ge k ws.length with hk|hk
 ·have:ws.getD k 0=ws[k]:=by simp[getD,hk]
  rw[this];exact h _ (List.getElem_mem hk)
 ·simp[getD,List.getElem?_eq_none hk]
theorem yF{ws:List Int}(h:∀z∈ws,0≤z∧z<4294967296)(o:Int):∀z∈fe ws o,0≤z∧z<4294967296:=by
 intro z hz;unfold fe at hz;split at hz
 ·exact h z hz
 ·rcases List.mem_or_eq_of_mem_set hz with hz|rfl
  ·exact h z hz
  ·exact yD (iL h _)
theorem bg.move{m n:Nat}{s:FD}(h:bg m n s)(hn:n≤2048)(ol:List Int){k b:Nat}(hk:k<m+1)(h0:s.pl.getD k 0=0)(hb:2≤b∧b<n):bg m n (dW ol s k b):=by
 have hkl:k<s.pl.length:=by rw[h.pn];exact hk
 have e:∀j,(dW ol s k b).pl.getD j 0=if j=k then(b:Int) else s.pl.getD j 0:=fun j=>jN _ _ _ _ hkl;refine⟨?_,?_,?_,fun j=>?_,fun j=>?_,?_,?_⟩
 ·show(fe (s.ws.set b 1) _).length=n;rw[yE,length_set,h.wl]
 ·refine yF (fun z hz=>?_) _;rcases List.mem_or_eq_of_mem_set hz with hz|rfl
  ·exact h.wr z hz
  ·omega
 ·show(s.pl.set k _).length=_;rw[length_set,h.pn]
 ·rw[e j];split
  ·right;omega
  ·exact h.pr j
 ·rw[e j];show j∈s.od++[k]↔_;rw[List.mem_append,List.mem_singleton,h.on j];by_cases hj:j=k
  ·subst hj;rw[if_pos rfl];simp;omega
  ·rw[if_neg hj];simp[hj]
 ·show(s.od++[k]).Nodup;rw[List.nodup_append];refine⟨h.od,by simp,fun x hx y hy=>?_⟩;rw[List.mem_singleton] at hy;subst hy;rintro rfl;exact(h.on _).1 hx h0
 ·show 2≤(cf s.ws.length b).toNat∧(cf s.ws.length b).toNat<n;rw[h.wl];exact(pA hb.1 hb.2 hn).2
theorem pB{m:Nat}{bf ol:List Int}{s:FD}{k:Nat}(h:dX m bf ol s k=true):s.pl.getD k 0=0:=by
 unfold dX at h;simp only[and_eq_true,decide_eq_true_eq] at h;exact h.1
theorem kR{m k:Nat}(h:k∈aL m):k<m+1:=by
 unfold aL at h;rcases List.mem_append.1 h with h|h
 ·have:=List.mem_range.1 h;omega
 ·split at h
  ·rw[List.mem_singleton] at h;omega
  ·cases h
theorem bg.step{m n:Nat}{s:FD×Bool}(h:bg m n s.1)(hn:n≤2048)(bf ol:List Int){k:Nat}(hk:k<m+1):bg m n (aZ m bf ol s k).1∧s.1.od.length≤(aZ m bf ol s k).1.od.length:=by
 unfold aZ;split
 ·rename_i hs
  simp only[and_eq_true] at hs;unfold fT;split
  ·rename_i b hb
   have h1:=l8 h.cu.1 (by rw[h.wl];exact h.cu.2) hb;rw[h.wl] at h1;exact⟨h.move hn ol hk (pB hs.2) ⟨h1.1,h1.2.1⟩,by show _≤(s.1.od++[k]).length;simp⟩
  ·exact⟨h,aj⟩
 ·exact⟨h,aj⟩
theorem bg.fold{m n:Nat}(hn:n≤2048)(bf ol:List Int):∀(ks:List Nat) (s:FD×Bool),bg m n s.1→(∀k∈ks,k<m+1)→bg m n (ks.foldl (aZ m bf ol) s).1∧s.1.od.length≤(ks.foldl (aZ m bf ol) s).1.od.length
 |[],s,h,_=>⟨h,aj⟩
 |k::ks,s,h,hk=>by
  have h1:=h.step hn bf ol (hk k (by simp));have h2:=bg.fold hn bf ol ks _ h1.1 (fun j hj=>hk j (by simp[hj]));exact⟨h2.1,aN h1.2 h2.2⟩
theorem bg.pass{m n:Nat}{s:FD}(h:bg m n s)(hn:n≤2048)(bf ol:List Int):bg m n (bU m bf ol s).1∧s.od.length≤(bU m bf ol s).1.od.length:=bg.fold hn bf ol (aL m) (s,true) h (fun k hk=>kR hk)
structure ju(n:Nat)(bf ol:List Int):Prop where
 use:∀k,ol.getD k 0≠0→2≤ol.getD k 0∧ol.getD k 0<n∧bf.getD (ol.getD k 0).toNat 0%2=1
 one:∀j k,ol.getD j 0=ol.getD k 0→ol.getD j 0≠0→j=k
structure er(m:Nat)(bf ol ws0:List Int)(s:FD):Prop where
 iM:∀k,s.pl.getD k 0≠0→s.ws.getD (s.pl.getD k 0).toNat 0=1∧ws0.getD (s.pl.getD k 0).toNat 0=0∧bf.getD (s.pl.getD k 0).toNat 0=0
 one:∀j k,s.pl.getD j 0=s.pl.getD k 0→s.pl.getD j 0≠0→j=k
 oth:∀b:Nat,(∀k,s.pl.getD k 0≠0→(b:Int)≠s.pl.getD k 0∧((b:Int)=ol.getD k 0→ol.getD k 0=0))→s.ws.getD b 0=ws0.getD b 0
 up:∀k,s.pl.getD k 0≠0→ol.getD k 0≠0→s.ws.getD (ol.getD k 0).toNat 0%2=0
 pos:∀k,s.pl.getD k 0≠0→k∈aL m
theorem yG(z:Int):even z%2=0:=by unfold even;omega
theorem yH(ws:List Int)(o:Int)(h:o≠0→o.toNat<ws.length)(i:Nat):(fe ws o).getD i 0=if o≠0∧i=o.toNat then even (ws.getD i 0) else ws.getD i 0:=by
 unfold fe;by_cases ho:o=0
 ·rw[if_pos ho,if_neg (fun e=>e.1 ho)]
 ·rw[if_neg ho,jN _ _ _ _ (h ho)];by_cases hi:i=o.toNat
  ·rw[if_pos hi,if_pos ⟨ho,hi⟩,hi]
  ·rw[if_neg hi,if_neg (fun e=>hi e.2)]
theorem er.free{m n:Nat}{bf ol ws0:List Int}{s:FD}(h:er m bf ol ws0 s)(ho:ju n bf ol){b:Nat}(hw:s.ws.getD b 0=0)(hb:bf.getD b 0=0):ws0.getD b 0=0:=by
 rw[←h.oth b (fun k hk=>⟨fun e=>?_,fun e=>?_⟩),hw]
 ·have h1:=(h.iM k hk).1;rw[←e,Int.toNat_natCast,hw] at h1;omega
 ·by_cases h0:ol.getD k 0=0
  ·exact h0
  ·have h1:=(ho.use k h0).2.2;rw[←e,Int.toNat_natCast,hb] at h1;omega
theorem er.move{m n:Nat}{bf ol ws0:List Int}{s:FD}(h:er m bf ol ws0 s)(hW:bg m n s)(ho:ju n bf ol){k b:Nat}(hk:k∈aL m)(h0:s.pl.getD k 0=0)(hb:2≤b∧b<n)(hw:s.ws.getD b 0=0)(hbf:bf.getD b 0=0):er m bf ol ws0 (dW ol s k b):=by
 have hkl:k<s.pl.length:=by rw[hW.pn];exact kR hk
 have e:∀j,(dW ol s k b).pl.getD j 0=if j=k then(b:Int) else s.pl.getD j 0:=fun j=>jN _ _ _ _ hkl;have en:∀j,j≠k→(dW ol s k b).pl.getD j 0=s.pl.getD j 0:=fun j hj=>by rw[e,if_neg hj]
 have ek:(dW ol s k b).pl.getD k 0=(b:Int):=by rw[e,if_pos rfl]
 have hbl:b<s.ws.length:=by rw[hW.wl];exact hb.2
 have hol:∀j,ol.getD j 0≠0→(ol.getD j 0).toNat≠b∧(ol.getD j 0).toNat<n∧0≤ol.getD j 0:=fun j hj=>by
  have h1:=ho.use j hj;refine⟨fun e2=>?_,by omega,by omega⟩;have h2:=h1.2.2;rw[e2,hbf] at h2;omega
 have w:∀i,(dW ol s k b).ws.getD i 0=if ol.getD k 0≠0∧i=(ol.getD k 0).toNat then even (s.ws.getD i 0) else if i=b then 1 else s.ws.getD i 0:=fun i=>by
  show(fe (s.ws.set b 1) (ol.getD k 0)).getD i 0=_;rw[yH _ _ (fun hh=>by rw[length_set,hW.wl];exact(hol k hh).2.1),jN _ _ _ _ hbl];by_cases hc:ol.getD k 0≠0∧i=(ol.getD k 0).toNat
  ·rw[if_pos hc,if_pos hc,if_neg (by rw[hc.2];exact(hol k hc.1).1)]
  ·rw[if_neg hc,if_neg hc]
 have hpb:∀j,s.pl.getD j 0≠0→s.pl.getD j 0≠(b:Int):=fun j hj e2=>by
  have h1:=(h.iM j hj).1;rw[e2,Int.toNat_natCast,hw] at h1;omega
 have hp0:∀j,0≤s.pl.getD j 0:=fun j=>by rcases hW.pr j with h1|h1<;>omega
 refine⟨fun j hj=>?_,fun i j hij hi=>?_,fun c hc=>?_,fun j hj hoj=>?_,fun j hj=>?_⟩
 ·by_cases hjk:j=k
  ·subst hjk;rw[ek,Int.toNat_natCast,w];refine⟨?_,h.free ho hw hbf,hbf⟩;rw[if_neg (fun hh=>(hol j hh.1).1 hh.2.symm),if_pos rfl]
  ·rw[en j hjk] at hj⊢;have h1:=h.iM j hj;have h2:=hpb j hj;have h3:=hp0 j;refine⟨?_,h1.2⟩;rw[w,if_neg,if_neg (by omega)]
   ·exact h1.1
   ·rintro ⟨hh1,hh2⟩;have h4:=(ho.use k hh1).2.2;rw[←hh2,h1.2.2] at h4;omega
 ·by_cases hi1:i=k<;>by_cases hj1:j=k
  ·rw[hi1,hj1]
  ·subst hi1;rw[ek,en j hj1] at hij;exact absurd hij.symm (hpb j (by omega))
  ·subst hj1;rw[ek,en i hi1] at hij;exact absurd hij (hpb i (by omega))
  ·rw[en i hi1,en j hj1] at hij;rw[en i hi1] at hi;exact h.one i j hij hi
 ·have h1:=hc k (by rw[ek];omega);rw[ek] at h1;rw[w,if_neg,if_neg (by omega)]
  ·refine h.oth c (fun j hj=>?_);have hjk:j≠k:=fun e2=>hj (by rw[e2];exact h0);have h2:=hc j (by rw[en j hjk];exact hj);rw[en j hjk] at h2;exact h2
  ·rintro ⟨hh1,hh2⟩;have h3:=(hol k hh1).2.2;exact hh1 (h1.2 (by omega))
 ·rw[w];split
  ·exact yG _
  ·rename_i hn
   rw[if_neg (hol j hoj).1];by_cases hjk:j=k
   ·subst hjk;exact absurd ⟨hoj,rfl⟩ hn
   ·rw[en j hjk] at hj;exact h.up j hj hoj
 ·by_cases hjk:j=k
  ·rw[hjk];exact hk
  ·rw[en j hjk] at hj;exact h.pos j hj
theorem er.step{m n:Nat}{bf ol ws0:List Int}{s:FD×Bool}(h:er m bf ol ws0 s.1)(hW:bg m n s.1)(ho:ju n bf ol){k:Nat}(hk:k∈aL m):er m bf ol ws0 (aZ m bf ol s k).1:=by
 unfold aZ;split
 ·rename_i hs
  simp only[and_eq_true] at hs;unfold fT;split
  ·rename_i b hb
   have h1:=l8 hW.cu.1 (by rw[hW.wl];exact hW.cu.2) hb;rw[hW.wl] at h1;exact h.move hW ho hk (pB hs.2) ⟨h1.1,h1.2.1⟩ h1.2.2.1 h1.2.2.2
  ·exact h
 ·exact h
theorem er.fold{m n:Nat}{bf ol ws0:List Int}(hn:n≤2048)(ho:ju n bf ol):∀(ks:List Nat) (s:FD×Bool),er m bf ol ws0 s.1→bg m n s.1→(∀k∈ks,k∈aL m)→er m bf ol ws0 (ks.foldl (aZ m bf ol) s).1
 |[],s,h,_,_=>h
 |k::ks,s,h,hW,hk=>er.fold hn ho ks _ (h.step hW ho (hk k (by simp))) (hW.step hn bf ol (kR (hk k (by simp)))).1 (fun j hj=>hk j (by simp[hj]))
theorem er.run{m n:Nat}{bf ol ws0:List Int}(hn:n≤2048)(ho:ju n bf ol):∀(f:Nat) (s:FD),er m bf ol ws0 s→bg m n s→er m bf ol ws0 (eH m bf ol f s).1
 |0,s,h,_=>h
 |f+1,s,h,hW=>by
  have h1:=er.fold (m:=m) hn ho (aL m) (s,true) h hW (fun k hk=>hk);have h2:=(hW.pass hn bf ol).1;unfold eH;split
  ·exact er.run hn ho f _ h1 h2
  ·exact h1
theorem sB{m:Nat}{bf ol:List Int}(s:FD):∀(ks:List Nat),(ks.foldl (aZ m bf ol) (s,false))=(s,false)
 |[]=>rfl
 |k::ks=>by
  rw[List.foldl_cons];have e:aZ m bf ol (s,false) k=(s,false):=by unfold aZ;simp
  rw[e];exact sB s ks
theorem sC{m n:Nat}{bf ol:List Int}(hn:n≤2048):∀(ks:List Nat) (s:FD),bg m n s→(∀k∈ks,k<m+1)→(ks.foldl (aZ m bf ol) (s,true)).2=true→(ks.foldl (aZ m bf ol) (s,true)).1.od.length=s.od.length→(ks.foldl (aZ m bf ol) (s,true))=(s,true)∧∀k∈ks,dX m bf ol s k=false
 |[],s,_,_,_,_=>⟨rfl,fun k hk=>by cases hk⟩
 |k::ks,s,hW,hk,h1,h2=>by
  rw[List.foldl_cons] at h1 h2⊢;cases hs:dX m bf ol s k with
  |false=>
   have e:aZ m bf ol (s,true) k=(s,true):=(by unfold aZ;simp[hs]);rw[e] at h1 h2⊢;have h3:=sC hn ks s hW (fun j hj=>hk j (by simp[hj])) h1 h2;refine⟨h3.1,fun j hj=>?_⟩;rcases List.mem_cons.1 hj with rfl|hj
   ·exact hs
   ·exact h3.2 j hj
  |true=>
   exfalso;have hst:=hW.step (s:=(s,true)) hn bf ol (hk k (by simp));have e:aZ m bf ol (s,true) k=fT bf ol s k:=(by unfold aZ;simp[hs]);rw[e] at h1 h2 hst;cases hp:ff s.ws bf s.cu with
   |none=>
    have e2:fT bf ol s k=(s,false):=(by unfold fT;rw[hp]);rw[e2,sB] at h1;cases h1
   |some b=>
    have e2:fT bf ol s k=(dW ol s k b,true):=(by unfold fT;rw[hp]);rw[e2] at h2 hst;have h3:=(bg.fold hn bf ol ks (dW ol s k b,true) hst.1 (fun j hj=>hk j (by simp[hj]))).2;rw[h2] at h3;have h4:(dW ol s k b).od.length=s.od.length+1:=(by show(s.od++[k]).length=_;simp);have h5:(dW ol s k b,true).1.od.length=s.od.length+1:=h4;omega
theorem sD{m n:Nat}{bf ol:List Int}(hn:n≤2048):∀(f:Nat) (s:FD),bg m n s→m+2≤f+s.od.length→(eH m bf ol f s).2=true→∀k∈aL m,dX m bf ol (eH m bf ol f s).1 k=false
 |0,s,hW,hf,_=>by have:=hW.gh;omega
 |f+1,s,hW,hf,h=>by
  rw[eH] at h⊢;have h1:=hW.pass hn bf ol;split
  ·rename_i hc
   rw[if_pos hc] at h;simp only[and_eq_true,decide_eq_true_eq] at hc;exact sD hn f _ h1.1 (by omega) h
  ·rename_i hc
   rw[if_neg hc] at h;have hl:(bU m bf ol s).1.od.length=s.od.length:=by
    rw[h] at hc;simpa using hc
   have h2:=sC (m:=m) (bf:=bf) (ol:=ol) hn (aL m) s hW (fun k hk=>kR hk) h hl;have e:bU m bf ol s=(s,true):=h2.1;rw[e];exact h2.2
theorem er.start{m:Nat}{bf ol ws0:List Int}{s:FD}(hw:s.ws=ws0)(hp:∀k,s.pl.getD k 0=0):er m bf ol ws0 s:=
 ⟨fun k hk=>absurd (hp k) hk,fun j k _ hj=>absurd (hp j) hj,fun b _=>by rw[hw],fun k hk=>absurd (hp k) hk,fun k hk=>absurd (hp k) hk⟩
theorem sE:(prog.info? 26).map (·.size)=some 12:=by kernel_rfl
theorem dr:(prog.info? 28).map (·.size)=some 15:=by kernel_rfl
def aD(s:Int)(ds:List Int)(p q:Int):List Int:=s::(ds++[p,q])
theorem eR(s:Int)(ds:List Int)(p q:Int)(hd:ds.length=12):(aD s ds p q).length=15:=by simp[aD,hd]
theorem pC(s:Int)(ds:List Int)(p q:Int)(hd:ds.length=12):(aB (aD s ds p q))[13]?=some (.int .i64 p):=by
 rw[rZ _ _ (by rw[eR s ds p q hd];omega)];match ds,hd with|[_,_,_,_,_,_,_,_,_,_,_,_],_=>rfl
theorem kU(s:Int)(ds:List Int)(p q:Int)(hd:ds.length=12):(aB (aD s ds p q))[14]?=some (.int .i64 q):=by
 rw[rZ _ _ (by rw[eR s ds p q hd];omega)];match ds,hd with|[_,_,_,_,_,_,_,_,_,_,_,_],_=>rfl
theorem pD(s:Int)(ds:List Int)(p q:Int)(hd:ds.length=12):((aD s ds p q).drop 1).take 12=ds:=by
 match ds,hd with|[_,_,_,_,_,_,_,_,_,_,_,_],_=>rfl
end
section
open Go.RowKit
section
variable {P:Program}
theorem sF(w:World){e:TypeId}{k:IntKind}(he:P.underlying e=some (.int k)){xs:Array Value}{off:Nat}{v:Value}(hx:xs[off]?=some v):(part e xs off).run P w=.ok v w:=by
 simp[part,isAgg,run_underlying he,hx]
theorem yI(w:World){d:Nat}{e:TypeId}{c:Nat}{xs ys:Array Value}{i:Nat}{is:List Nat}{a b:Value}{r r':Bool}(h1:(part e xs (i*c)).run P w=.ok a w)(h2:(part e ys (i*c)).run P w=.ok b w)
 (h3:(Op.equalIn d e a b).run P w=.ok r w) (h4:(Op.eqItems d e c xs ys is).run P w=.ok r' w):(Op.eqItems d e c xs ys (i::is)).run P w=.ok (r&&r') w:=by
 simp only[Op.eqItems,Sem.run_bind,h1,h2,h3,Result.andThen_ok];cases r
 ·simp
 ·simpa using h4
end
end
end Go.Proofs.YtlimollpocagiaaGreatDoor
