/- A map written anew, mathematics: what holds of it at the end -/
import Derived.Test.YtlimollpocagiaaGreatDoorXa28
namespace Go.Proofs.YtlimollpocagiaaGreatDoor
open Go.Proofs.Tryz
open _root_.List (size_toArray length_cons length_nil push_toArray nil_append cons_append range replicate)
set_option linter.all false
set_option maxRecDepth 100000
set_option maxHeartbeats 16000000
section
open Go.RowKit
structure gQ(m n:Nat)(bf ol ws0:List Int)(s:FD)(g:Nat→Int):Prop where
 rng:∀k∈aL m,2≤g k∧g k<n
 non:∀k,k∉aL m→g k=0
 one:∀j∈aL m,∀k∈aL m,g j=g k→j=k
 odd:∀k∈aL m,s.ws.getD (g k).toNat 0%2=1
 sub:∀k∈s.od,k∈aL m
 put:∀k∈s.od,ws0.getD (g k).toNat 0=0∧bf.getD (g k).toNat 0=0
 kept:∀k∈aL m,k∉s.od→g k=ol.getD k 0∧(k<m→cq s.ws k=cq bf k)∧(¬k<m→∀j,12≤j→j<m→j∉s.od)
 oth:∀b:Nat,(∀k∈aL m,(b:Int)≠g k)→(∀k∈aL m,(b:Int)=ol.getD k 0→ol.getD k 0=0)→s.ws.getD b 0=ws0.getD b 0
 up:∀k∈aL m,ol.getD k 0≠0→(∀j∈aL m,g j≠ol.getD k 0)→s.ws.getD (ol.getD k 0).toNat 0%2=0
theorem BR(ol:List Int)(pre:List Nat){k:Nat}(h:k∈pre):fJ ol pre k=ol.getD k 0:=if_pos h
theorem BS(ol:List Int)(pre:List Nat){k:Nat}(h:k∉pre):fJ ol pre k=0:=if_neg h
theorem BT{m:Nat}{bf ol:List Int}{s:FD}{k:Nat}(h:dX m bf ol s k=false)(h0:s.pl.getD k 0=0):ol.getD k 0≠0∧(k<m→cq s.ws k=cq bf k)∧(¬k<m→fL m s.pl=false):=by
 unfold dX at h;rw[h0] at h;simp only[decide_true,Bool.true_and,Bool.or_eq_false_iff,decide_eq_false_iff_not] at h;refine⟨h.1,fun hk=>?_,fun hk=>?_⟩
 ·have h2:=h.2;rw[if_pos hk] at h2;simpa using h2
 ·have h2:=h.2;rwa [if_neg hk] at h2
theorem BU{m:Nat}{pl:List Int}(h:fL m pl=false){j:Nat}(h1:12≤j)(h2:j<m):pl.getD j 0=0:=by
 unfold fL at h;rw[List.any_eq_false] at h;have h3:=h j (List.mem_range.2 h2);simp only[Bool.and_eq_true,decide_eq_true_eq,not_and] at h3;have h4:=h3 h1;omega
theorem BV{m n:Nat}{bf ol ws0:List Int}{s:FD}(hW:bg m n s)(h:er m bf ol ws0 s)(ho:ju n bf ol)(hodd:∀k,ol.getD k 0≠0→ws0.getD (ol.getD k 0).toNat 0%2=1)(hs:∀k∈aL m,dX m bf ol s k=false):gQ m n bf ol ws0 s (fH m ol s.pl s.od):=by
 have gg:∀k,k∈s.od→fH m ol s.pl s.od k=s.pl.getD k 0:=fun k hk=>if_pos hk;have gk:∀k,k∈aL m→k∉s.od→fH m ol s.pl s.od k=ol.getD k 0:=fun k hk hn=>by unfold fH;rw[if_neg hn];exact BR _ _ hk
 have hz:∀k,k∉s.od→s.pl.getD k 0=0:=fun k hk=>Classical.byContradiction fun hh=>hk ((hW.on k).2 hh);have hst:∀k,k∈aL m→k∉s.od→ol.getD k 0≠0∧(k<m→cq s.ws k=cq bf k)∧(¬k<m→fL m s.pl=false):=fun k hk hn=>BT (hs k hk) (hz k hn);have hpl:∀k,k∈s.od→2≤s.pl.getD k 0∧s.pl.getD k 0<n:=fun k hk=>by
  rcases hW.pr k with h1|h1
  ·exact absurd h1 ((hW.on k).1 hk)
  ·exact h1
 have hne:∀j k,j∈s.od→ol.getD k 0≠0→s.pl.getD j 0≠ol.getD k 0:=fun j k hj hk e=>by
  have h1:=(h.iM j ((hW.on j).1 hj)).2.2;have h2:=(ho.use k hk).2.2;rw[←e,h1] at h2;omega
 refine⟨fun k hk=>?_,fun k hk=>?_,fun j hj k hk e=>?_,fun k hk=>?_,fun k hk=>h.pos k ((hW.on k).1 hk),fun k hk=>?_,fun k hk hn=>?_,fun b h1 h2=>?_,fun k hk h1 h2=>?_⟩
 ·by_cases hm:k∈s.od
  ·rw[gg k hm];exact hpl k hm
  ·rw[gk k hk hm];have h1:=ho.use k (hst k hk hm).1;exact⟨h1.1,h1.2.1⟩
 ·have hm:k∉s.od:=fun e=>hk (h.pos k ((hW.on k).1 e));unfold fH;rw[if_neg hm];exact BS _ _ hk
 ·by_cases hjm:j∈s.od<;>by_cases hkm:k∈s.od
  ·rw[gg j hjm,gg k hkm] at e;exact h.one j k e ((hW.on j).1 hjm)
  ·rw[gg j hjm,gk k hk hkm] at e;exact absurd e (hne j k hjm (hst k hk hkm).1)
  ·rw[gk j hj hjm,gg k hkm] at e;exact absurd e.symm (hne k j hkm (hst j hj hjm).1)
  ·rw[gk j hj hjm,gk k hk hkm] at e;exact ho.one j k e (hst j hj hjm).1
 ·by_cases hm:k∈s.od
  ·rw[gg k hm,(h.iM k ((hW.on k).1 hm)).1];rfl
  ·have h0:=(hst k hk hm).1;have hu:=ho.use k h0;rw[gk k hk hm,h.oth _ (fun j hj=>⟨fun e=>?_,fun e=>?_⟩)]
   ·exact hodd k h0
   ·have hjm:=(hW.on j).2 hj;exact hne j k hjm h0 (by omega)
   ·by_cases hj0:ol.getD j 0=0
    ·exact hj0
    ·have hjk:=ho.one j k (by omega) hj0;subst hjk;exact absurd hj (by rw[hz j hm];simp)
 ·rw[gg k hk];exact(h.iM k ((hW.on k).1 hk)).2
 ·have h1:=hst k hk hn;refine⟨gk k hk hn,h1.2.1,fun hkm j hj1 hj2 hj3=>?_⟩;exact(hW.on j).1 hj3 (BU (h1.2.2 hkm) hj1 hj2)
 ·refine h.oth b (fun k hk=>⟨fun e=>?_,fun e=>?_⟩)
  ·exact h1 k (h.pos k hk) (by rw[gg k ((hW.on k).2 hk)];exact e)
  ·exact h2 k (h.pos k hk) e
 ·refine h.up k ?_ h1;by_cases hm:k∈s.od
  ·exact(hW.on k).1 hm
  ·exact absurd (gk k hk hm) (h2 k hk)
end
section
open Go.RowKit Go.Shelf
attribute [local go_sem] Oper.semAt_some
def lK(X:Nat)(j:Nat):Array Value:=#[dD (cT j) (dg j),.pointer (some ⟨X,1+j,none⟩)]
theorem BY(n X:Nat)(w:World):
 CallsIn Fence.wide n prog 103 #[.pointer (some ⟨X,0,none⟩)] w fun e w'=>e=.returned (.func (.func 118) #[] #[.pointer (some ⟨w.heap.size,0,none⟩)])∧w'=w.alloc (.cells #[.pointer (some ⟨X,0,none⟩)] 183):=by
 refine callsIn_of_wp func103 rfl trivial ?_ rfl;simp only[ntmps103,size_toArray,length_cons,length_nil,Nat.reduceAdd,Nat.reduceSub,Array.replicate_succ,Array.replicate_zero,push_toArray,List.append_toArray,nil_append,cons_append];gi_wp2
 go_ret;exact⟨rfl,rfl⟩
theorem BZ(n Bx X n₀ z:Nat)(Ty:TypeId→Prop)(hTy:¬Ty 183)(W:World)(hBx:af W Bx #[.pointer (some ⟨X,0,none⟩)] 183):
 nk Fence.wide n prog 118 #[.pointer (some ⟨Bx,0,none⟩)] (lK X) (Kq n₀ z Ty) (fun pre x _=>x=pre.length∧x<14) (fun xs=>xs=range 14) (fun _=>True) W:=by
 intro l J Jx hJ hJx hY h0;have hdd:∀k:Nat,(Fence.wide.depth.isSome=true→1≤k):=fun k h=>by cases h
 have HY:=ae (∀(j:Nat) (W1:World),j<14→J (range j) W1→af W1 Bx #[.pointer (some ⟨X,0,none⟩)] 183→YieldAt Fence.wide (n-1) prog l (lK X j) W1 fun e W'=>(e=.returned (.bool true)∧J (range (j+1)) W'∧af W' Bx #[.pointer (some ⟨X,0,none⟩)] 183)∨(e=.returned (.bool false)∧∃pre,Jx pre W')) (fun j W1 hj h1 h2=>by
  have:=hY (range j) j W1 h1 ⟨by simp,hj⟩;exact YieldAt.mono this fun e W' h=>h.elim (fun⟨he,hj2,hk⟩=>.inl ⟨he,by rw[←tX];exact hj2,hk.aW h2 hTy⟩) (fun⟨he,hx,_⟩=>.inr ⟨he,_,hx⟩))
 have H0:=aa (ag h0 hBx);clear hY h0 hBx hJ hJx;refine callsIn_of_wp func118 rfl trivial ?_ rfl;simp only[ntmps118,size_toArray,length_cons,length_nil,Nat.reduceAdd,Nat.reduceSub,Array.replicate_succ,Array.replicate_zero,push_toArray,List.append_toArray,nil_append,cons_append];gi_wp2
 gi_loopw [4] (fun iv wr=>∃i:Nat,i≤12∧iv=.int .i64 (i:Int)∧J (range i) wr∧af wr Bx #[.pointer (some ⟨X,0,none⟩)] 183) (fun iv _=>12-(intOf iv).toNat)
 case atStart=>exact⟨0,by omega,rfl,H0.out.1,H0.out.2⟩
 case round=>
  obtain⟨i,hi,rfl,hj,hb⟩:=hrel;clear H0;have cb:=(hb.cell 0).trans (show _=some (.pointer (some ⟨X,0,none⟩)) from rfl);by_cases hi2:i<12
  ·obtain⟨fn,tmps,assign,body,hy,hR⟩:=HY.out i wr (by omega) hj hb;have hiI:(i:Int)<12:=(by omega);replace hy:(Instr.yield l #[.agg #[.int .i64 0,.int .i64 (i:Int)],.pointer (some ⟨X,1+i,none⟩)]).run prog wr=.ok (.round l fn tmps assign body) wr:=by
    have e:lK X i=#[.agg #[.int .i64 0,.int .i64 (i:Int)],.pointer (some ⟨X,1+i,none⟩)]:=(by unfold lK cT dg dD;rw[if_pos hi2,if_pos hi2];rfl);rw[e] at hy;exact hy
   have HR:=aa hR;clear hR hj hb;gi_wp2
   refine⟨hdd _,?_⟩;refine HR.out.mono ?_;rintro e W3 (⟨rfl,hj3,hb3⟩|⟨rfl,pre,hx3⟩)
   ·have H3:=aa (ag hj3 hb3);clear hj3 hb3 hy HR cb;gi_wp2
    go_roundw
    case rel=>exact⟨i+1,by omega,by go_num,H3.out.1,H3.out.2⟩
    case measure=>simp[intOf];omega
   ·have H3:=aa hx3;clear hx3 hy HR cb;gi_wp2
    refine bodyPost_ret (results_none rfl _ _ _) rfl ?_;exact⟨⟨_,rfl⟩,.inr ⟨pre,trivial,H3.out⟩⟩
  ·have hi3:i=12:=(by omega);subst hi3;clear hi2;obtain⟨fn,tmps,assign,body,hy,hR⟩:=HY.out 12 wr (by omega) hj hb;replace hy:(Instr.yield l #[.agg #[.int .i64 1,.int .i64 0],.pointer (some ⟨X,13,none⟩)]).run prog wr=.ok (.round l fn tmps assign body) wr:=hy;have HR:=aa hR;clear hR hj hb;gi_wp2
   refine⟨hdd _,?_⟩;refine HR.out.mono ?_;rintro e W3 (⟨rfl,hj3,hb3⟩|⟨rfl,pre,hx3⟩)
   ·obtain⟨fn2,tmps2,assign2,body2,hy2,hR2⟩:=HY.out 13 W3 (by omega) hj3 hb3;replace hy2:(Instr.yield l #[.agg #[.int .i64 2,.int .i64 0],.pointer (some ⟨X,14,none⟩)]).run prog W3=.ok (.round l fn2 tmps2 assign2 body2) W3:=hy2;have cb3:=(hb3.cell 0).trans (show _=some (.pointer (some ⟨X,0,none⟩)) from rfl);have HR2:=aa hR2;clear hR2 hj3 hb3 hy HR cb;gi_wp2
    refine⟨hdd _,?_⟩;refine HR2.out.mono ?_;rintro e W4 (⟨rfl,hj4,hb4⟩|⟨rfl,pre,hx4⟩)
    ·have H4:=aa hj4;clear hj4 hb4 hy2 HR2 cb3;gi_wp2
     go_end0;exact⟨⟨_,rfl⟩,.inl ⟨_,rfl,H4.out⟩⟩
    ·have H4:=aa hx4;clear hx4 hy2 HR2 cb3;gi_wp2
     go_end0;exact⟨⟨_,rfl⟩,.inr ⟨pre,trivial,H4.out⟩⟩
   ·have H3:=aa hx3;clear hx3 hy HR cb;gi_wp2
    go_end0;exact⟨⟨_,rfl⟩,.inr ⟨pre,trivial,H3.out⟩⟩
end
section
open Go.RowKit Go.Shelf
attribute [local go_sem] Oper.semAt_some
def oh(Ls:Nat→List Int)(j:Nat):Int:=(Ls (cT j)).getD (dg j) 0
def gE(Ls:Nat→List Int)(n k:Nat):Array Value:=aB ((n:Int)::(range 14).map (fun j=>if j<k then oh Ls j else 0))
theorem oq(Ls:Nat→List Int)(n k:Nat):(gE Ls n k).size=15:=by simp[gE,fc]
theorem Ca(Ls:Nat→List Int)(n k:Nat)(h:k<14):(gE Ls n k).setIfInBounds (1+k) (.int .i64 (oh Ls k))=gE Ls n (k+1):=by
 apply Array.ext_getElem?;intro i;rw[Array.getElem?_setIfInBounds,oq];cases i with
 |zero=>
  rw[if_neg (by omega)];simp[gE,aB]
 |succ j=>
  by_cases e:1+k=j+1
  ·rw[if_pos e,if_pos (by omega)];obtain rfl:k=j:=(by omega);simp[gE,aB,h]
  ·rw[if_neg e];by_cases hj:j<14
   ·simp only[gE,aB,List.getElem?_toArray,List.map_cons,List.getElem?_cons_succ,List.getElem?_map,List.getElem?_range hj,Option.map_some];by_cases hjk:j<k
    ·rw[if_pos hjk,if_pos (by omega)]
    ·rw[if_neg hjk,if_neg (by omega)]
   ·simp[gE,aB,hj]
theorem ot:(prog.info? 28).map (·.size)=some 15:=by kernel_rfl
structure jD(b off:Nat)(Ls:Nat→List Int)(n:Nat)(w:World)(pre:List Nat)(W:World):Prop where
 le:pre.length≤14
 bp:af W w.heap.size #[.pointer (some ⟨b,off,none⟩)] 177
 br:af W (w.heap.size+1) (aB (replicate 15 0)) 28
 bx:af W (w.heap.size+1+1) (gE Ls n pre.length) 28
 low:Below w.heap.size w W
 size:w.heap.size+6≤W.heap.size
theorem jD.eV{b off n z:Nat}{Ls:Nat→List Int}{w:World}(hz:w.heap.size≤z):gy z (jD b off Ls n w):=by
 intro pre A B row h hg hr;exact⟨h.le,dx h.bp hg hr,dx h.br hg hr,dx h.bx hg hr,jx h.low hz h.low.size hg hr,aN h.size hg.size⟩
theorem ox{w:World}{b:Nat}{t:TypeId}{x y:Value}(h:af w b #[x,y] t):w.rangeAt b 0 [x,y]:=by
 intro j v hj;match j,hj with
 |0,hj=>rw[h.cell (0+0)];simpa using hj
 |1,hj=>rw[h.cell (0+1)];simpa using hj
 |k+2,hj=>simp at hj
theorem Kq.nX{n₀ z:Nat}{Ty:TypeId→Prop}{W:World}{g j:Nat}{c:Array Value}{t:TypeId}{v:Value}(h:af W g c t)(ht:Ty t)(hn:n₀≤g):Kq n₀ z Ty W (W.setCell ⟨g,j,none⟩ v):=by
 refine Kq.grown (row:=some g) ⟨rfl,rfl,rfl,by simp[World.setCell],fun k hk hne=>Below.heap_setCell W ⟨g,j,none⟩ v k (fun e=>hne (by rw[e]))⟩ (by have:=h.lt;omega) (fun r e=>by cases e;exact⟨hn,c,t,h,ht⟩)
theorem Cc(b off n base:Nat)(t:TypeId)(C:Array Value)(sl:Nat→Value)(Ls:Nat→List Int)(w:World)(h:dF w base b off C t sl Ls):
 Calls prog 73 #[.pointer (some ⟨b,off,none⟩),.int .i64 (n:Int)] w fun e w'=>e=.returned (.agg (gE Ls n 14))∧Below w.heap.size w w':=by
 have HN:=aa h;obtain⟨ZR,hZR⟩:∃ZR,ZR=aB (replicate 15 0):=⟨_,rfl⟩;obtain⟨R0,hR0⟩:∃R0,R0=gE Ls n 0:=⟨_,rfl⟩;obtain⟨Wa,hWa⟩:∃Wa,Wa=((w.alloc (.cells #[.pointer (some ⟨b,off,none⟩)] 177)).alloc (.cells ZR 28)).alloc (.cells R0 28):=⟨_,rfl⟩;have hZe:ZR=#[.int .i64 0,.int .i64 0,.int .i64 0,.int .i64 0,.int .i64 0,.int .i64 0,.int .i64 0,.int .i64 0,.int .i64 0,.int .i64 0,.int .i64 0,.int .i64 0,.int .i64 0,.int .i64 0,.int .i64 0]:=by rw[hZR];rfl
 have hRe:R0=#[.int .i64 (n:Int),.int .i64 0,.int .i64 0,.int .i64 0,.int .i64 0,.int .i64 0,.int .i64 0,.int .i64 0,.int .i64 0,.int .i64 0,.int .i64 0,.int .i64 0,.int .i64 0,.int .i64 0,.int .i64 0]:=by rw[hR0];rfl
 have sa:Wa.heap.size=w.heap.size+3:=by rw[hWa];simp
 have BA:=ae (Below w.heap.size w Wa) (by rw[hWa];exact(((ak.alloc aj _).alloc (by simp) _).alloc (by simp;omega) _));have K0:=ae (af Wa w.heap.size #[.pointer (some ⟨b,off,none⟩)] 177) (by rw[hWa];exact((af.new w _ _).alloc _).alloc _);have K1:=ae (af Wa (w.heap.size+1) ZR 28) (by have h:=af.new (w.alloc (.cells #[.pointer (some ⟨b,off,none⟩)] 177)) ZR 28;rw[World.size_alloc] at h;rw[hWa];exact h.alloc _);have K2:=ae (af Wa (w.heap.size+1+1) R0 28) (by have h:=af.new ((w.alloc (.cells #[.pointer (some ⟨b,off,none⟩)] 177)).alloc (.cells ZR 28)) R0 28;rw[World.size_alloc,World.size_alloc] at h;rw[hWa];exact h);obtain⟨WL,hWL⟩:∃WL,WL=Wa.alloc (.cells #[.pointer (some ⟨w.heap.size+1+1,0,none⟩)] 183):=⟨_,rfl⟩;have hsL:WL.heap.size=w.heap.size+4:=by rw[hWL];simp[sa]
 have BL:=ae (Below Wa.heap.size Wa WL) (by rw[hWL];exact ak.alloc aj _);have HBx:=ae (af WL Wa.heap.size #[.pointer (some ⟨w.heap.size+1+1,0,none⟩)] 183) (by rw[hWL];exact af.new Wa _ _);have I0:=ae (∀W',Below WL.heap.size WL W'→WL.heap.size+2≤W'.heap.size→jD b off Ls n w [] W') (fun W' hb hs'=>by
  have hb0:Below Wa.heap.size Wa W':=BL.out.trans (hb.mono (by omega));exact⟨by simp,K0.out.below hb0 K0.out.lt,by rw[←hZR];exact K1.out.below hb0 K1.out.lt,by rw[length_nil, ←hR0];exact K2.out.below hb0 K2.out.lt,BA.out.trans (hb0.mono (by omega)),by omega⟩)
 rw[hZe,hRe] at hWa;have HWa:=aa hWa;have HWL:=aa hWL;have hsa1:Wa.heap.size≤w.heap.size+3:=by omega
 have hsa2:w.heap.size+3≤Wa.heap.size:=by omega
 have hsL1:WL.heap.size≤w.heap.size+4:=by omega
 have hsL2:w.heap.size+4≤WL.heap.size:=by omega
 clear h hWa hWL sa hsL hZR hR0 hZe hRe;refine(callsIn_wide (n:=6)).1 ?_;refine callsIn_of_wp_marks func73 rfl trivial ?_ rfl;simp only[ntmps73,size_toArray,length_cons,length_nil,Nat.reduceAdd,Nat.reduceSub,Array.replicate_succ,Array.replicate_zero,push_toArray,List.append_toArray,nil_append,cons_append];gi_upto_region 2 with fail
 rw[←HWa.out];refine wpIn_wide.2 ?_;go_wp2_with (first
  |(go_at_call 103;refine(callsIn_wide.1 (BY 0 _ _)).mono ?_;rintro e w' ⟨rfl,rfl⟩))
 gi_wp2
 rw[←HWL.out];have hmx:prog.follows .mixedOrders=true:=by kernel_rfl
 refine l9 (α:=Nat) rfl (by decide) (gf:=118) (lb:=#[.pointer (some ⟨Wa.heap.size,0,none⟩)]) rfl trivial (enters_of func118 (by kernel_rfl) rfl) (encs:=lK (w.heap.size+1+1)) (Kp:=(Kq w.heap.size (WL.heap.size+2) (fun t=>t=28))) Kq.trans (fun A o o' ho hc=>Kq.put o' (by omega) (by omega) ho hc)
  (Ok:=fun pre x _=>x=pre.length∧x<14) (S:=fun xs=>xs=range 14) (Sp:=fun _=>True)
  (fun W1 hb1 hs1=>by
   have:=BZ 5 Wa.heap.size (w.heap.size+1+1) w.heap.size (WL.heap.size+2) (fun t=>t=28) (by decide) W1 (HBx.out.below hb1 HBx.out.lt);exact this)
  (fun _=>rfl) (jD b off Ls n w) (fun c pre W=>False) (jD.eV (by omega)) (by rintro c pre A B row h hg hr;exact h)
  (fun W' hb hs'=>I0.out W' hb (by omega))
  (fun pre x a' Wx=>∃c,a'={tmps:=#[.pointer (some ⟨b,off,none⟩),.int .i64 (n:Int),.pointer (some ⟨w.heap.size,0,none⟩),undef,.pointer (some ⟨w.heap.size+1,0,none⟩),.pointer (some ⟨w.heap.size+1+1,0,none⟩),.pointer (some ⟨c,0,none⟩),.pointer (some ⟨w.heap.size+1+1,1+x,none⟩),.int .i64 (n:Int),.agg #[.int .i64 (n:Int),.int .i64 0,.int .i64 0,.int .i64 0,.int .i64 0,.int .i64 0,.int .i64 0,.int .i64 0,.int .i64 0,.int .i64 0,.int .i64 0,.int .i64 0,.int .i64 0,.int .i64 0,.int .i64 0],.func (.func 118) #[] #[.pointer (some ⟨Wa.heap.size,0,none⟩)],dD (cT x) (dg x),.pointer (some ⟨w.heap.size+1+1,1+x,none⟩),undef,undef,undef,undef,undef,undef],defers:=[]}∧af Wx c #[.int .i64 (cT x:Int),.int .i64 (dg x:Int)] 123∧jD b off Ls n w pre Wx∧x=pre.length∧x<14) ?ax ?assign ?body ?done ?stop
 case ax=>
  rintro pre x a' A B ⟨c,h1,h2,h3,h4⟩ hg hr;exact⟨c,h1,kj h2 hg hr,jD.eV (z:=WL.heap.size+1) (by omega) pre A B _ h3 hg (fun r e=>by cases e;exact⟨aj,hr⟩),h4⟩
 case assign=>
  rintro l pre x Wx K hI hok hK;have HKx:=aa (ag hI (ag hok hK));clear hI hok hK;unfold lK;gi_wp2
  have bA:Below Wx.heap.size Wx (Wx.alloc (.cells #[.int .i64 (cT x:Int),.int .i64 (dg x:Int)] 123)):=ak.alloc aj _;have gA:Wx.grownBy (Wx.alloc (.cells #[.int .i64 (cT x:Int),.int .i64 (dg x:Int)] 123)) none:=⟨bA.os,bA.tape,bA.output,bA.size,fun k hk _=>bA.block k hk⟩;exact HKx.out.2.2 _ _ (lA bA) (Kq.bT bA (by have:=HKx.out.1.size;omega)) ⟨_,rfl,af.new _ _ _,jD.eV (z:=w.heap.size) aj pre _ _ none HKx.out.1 gA (fun r e=>by cases e),HKx.out.2.1⟩
 case body=>
  rintro l pre x a' Wx ⟨c,rfl,kc,hI,hx,hx14⟩;have HX:=aa (ag hI (ag kc hx));have HRg:=aa (ox kc);have c0:=(hI.bp.cell 0).trans (show _=some (.pointer (some ⟨b,off,none⟩)) from rfl);clear hI kc hx;gi_wp2_with (first
   |(refine mj rfl 123 _ rfl c 0 rfl [.int .i64 (cT x:Int),.int .i64 (dg x:Int)] _ HRg.out underlying123 rfl ey ?_)
   |(refine⟨trivial,?_⟩;gi_at_call 71;refine(CallsIn.inRound l (callsIn_wide.2 (jz b off (cT x) (dg x) C t sl Ls base _ (HN.out.below HX.out.1.low) (by have:=nH x;omega) (aN (jQ _ _) (tY hx14))))).mono ?_;rintro e w9 ⟨rfl,b9⟩;have H9:=aa b9;clear b9;have k9:af w9 (w.heap.size+1+1) (gE Ls n pre.length) 28:=HX.out.1.bx.below H9.out HX.out.1.bx.lt;have c9:=k9.cell (1+x);have f9:=k9.frozen (1+x);rw[Array.getElem?_eq_getElem (by rw[oq];omega)] at c9;have K9:=aa k9;clear k9))
  clear c9 f9;have kF:∀z,Kq w.heap.size z (fun t=>t=28) Wx (w9.setCell ⟨w.heap.size+1+1,1+x,none⟩ (.int .i64 ((Ls (cT x)).getD (dg x) 0))):=fun z=>(Kq.bT H9.out (by have:=HX.out.1.size;omega)).trans (Kq.nX K9.out rfl (by omega));have hne1:w.heap.size≠w.heap.size+1+1:=by omega
  have hne2:w.heap.size+1≠w.heap.size+1+1:=by omega
  have HNx:=ae (jD b off Ls n w (pre++[x]) (w9.setCell ⟨w.heap.size+1+1,1+x,none⟩ (.int .i64 ((Ls (cT x)).getD (dg x) 0)))) (⟨by rw[List.length_append,List.length_singleton, ←HX.out.2.2];omega,(HX.out.1.bp.below H9.out HX.out.1.bp.lt).other _ _ hne1,(HX.out.1.br.below H9.out HX.out.1.br.lt).other _ _ hne2,by
   have:=K9.out.set (1+x) (.int .i64 (oh Ls x));rw[←HX.out.2.2,Ca Ls n x hx14] at this;rw[List.length_append,List.length_singleton, ←HX.out.2.2];exact this,HX.out.1.low.trans (kF 0).below,aN HX.out.1.size (kF 0).size⟩)
  exact⟨(kF _).ir,kF _,HNx.out⟩
 case done=>
  rintro xs Wx hS hI hK;subst hS;have hx:=hI.bx;rw[List.length_range] at hx;have HX:=aa (ag hx (ag hI.br (ag hI.low hK)));obtain⟨RF,hRF⟩:∃RF,RF=gE Ls n 14:=⟨_,rfl⟩;rw[←hRF] at HX;have HRF:=aa hRF;have HIn:=ae ((prog.info? 28).map (·.size)=some RF.size) (by rw[hRF,oq];exact ot);have HO:=ae (RF.all (·.oneCell')=true) (by rw[hRF];exact jn _);have HSz:=ae ((aB (replicate 15 0)).size=RF.size) (by rw[hRF,oq];rfl);clear hI hK hx hRF;gi_upto_region 6 with fail
  refine wpIn_wide.2 ?_;go_wp2_with (first
   |(refine wpList_load_row rfl 28 _ rfl (w.heap.size+1+1) rfl 28 RF (0,0) _ HX.out.1 underlying28 rfl HIn.out ?_)
   |(refine wpList_store_row rfl 28 _ _ rfl (w.heap.size+1) RF rfl rfl 28 (aB (replicate 15 0)) HX.out.2.1 HIn.out HSz.out HO.out ?_))
  gi_wp2
  have hD:(Wx.setRow (w.heap.size+1) RF).heap[WL.heap.size]?=some (.deferred (some [])):=(setRow_other Wx (w.heap.size+1) WL.heap.size RF (by omega)).trans HX.out.2.2.2;have hg:af (Wx.setRow (w.heap.size+1) RF) (w.heap.size+1) RF 28:=HX.out.2.1.row _;have hbE:Below w.heap.size w (Wx.setRow (w.heap.size+1) RF):=below_setRow HX.out.2.2.1 (by omega) _;refine⟨by simp,.inl ⟨_,_,rfl,run_takeDeferred hD,?_⟩⟩;refine⟨_,results_cell_row rfl _ _ (w.heap.size+1) 28 _ (0,0) _ rfl (fV _ hg hD rfl) underlying28 rfl HIn.out,by rw[HRF.out],?_⟩;exact hbE.trans (belowK_b (w:=w) aj _ WL.heap.size _ (.deferred none) (by omega) hD rfl rfl)
 case stop=>
  rintro c pre W _ hf;exact hf.elim
end
section
open Go.RowKit
theorem Cd(v:Value)(w:World):Calls prog 41 #[v,.nilIface] w fun e w'=>e=.returned (.tuple #[v,.int .i64 0])∧w=w':=by
 go_enter func41,ntmps41;go_wp2;go_ret2;exact⟨rfl,rfl⟩
theorem Ce(v ev:Value)(n lo:Nat)(c:Int)(w:World)(hv:bj w lo n ev c)(hg:eZ w):
 Calls prog 41 #[v,ev] w fun e w'=>e=.returned (.tuple #[.slice none 0 0,.int .i64 c])∧Below w.heap.size w w':=by
 obtain⟨t',x',rfl⟩:=hv.iface;have HV:=aa (ag hv hg);clear hv hg;go_enter func41,ntmps41;go_wp2_with (go_at_call 27;refine(kN n _ c lo _ HV.out.1 HV.out.2).mono ?_;rintro e w' ⟨rfl,hb⟩);go_ret2;exact⟨rfl,hb⟩
def j4(ws:List Int):List Int:=ws.flatMap fun v=>le 4 (v%4294967296).toNat
theorem Cf(ws:List Int)(k:Nat)(h:k<ws.length):j4 (ws.take (k+1))=j4 (ws.take k)++le 4 (ws.getD k 0%4294967296).toNat:=by
 unfold j4;rw[List.take_succ_eq_append_getElem h,List.flatMap_append];simp[List.getD,h]
theorem Cg(ws:List Int)(h:ws.all okW=true):j4 ws=bO ws:=by
 unfold j4 bO;induction ws with
 |nil=>rfl
 |cons v ws ih=>
  rw[List.all_cons,Bool.and_eq_true] at h;rw[List.flatMap_cons,List.flatMap_cons,ih h.2];have:=h.1;simp only[okW,Bool.and_eq_true,decide_eq_true_eq] at this;rw[Int.emod_eq_of_lt this.1 (by omega)]
theorem Ch(v:Value)(ws:List Int)(w:World)(h:Rd .i64 w v ws)(hg:eZ w):
 Calls prog 102 #[v] w fun e w'=>∃v',e=.returned (.tuple #[v',.int .i64 (nv ws)])∧w'.ownsRow w.heap.size 5 1 v' (dK ws).length ((dK ws).map (Value.int .u8))∧Below w.heap.size w w':=by
 obtain⟨i0,hi,hz0,hz1,hz2⟩:=info_parts iR;have hm:=h.len;unfold maxLen at hm;have hb0:Below w.heap.size w (w.alloc (.cells #[.int .i64 7,.nilIface] 100)):=ak.alloc aj _;have hck:=aa (Ck.fresh w 7 100);have HG:=aa hg;clear hg;by_cases hlen:ws.length=128
 ·rcases h.parts with⟨a,cap,rfl,hlow⟩|⟨b,off,cap,rfl,hbw,hcell⟩
  ·omega
  ·have HN:Hid (ws.length=128):=hlen;rw[hlen] at hcell⊢;clear h hlen hm;go_enter func102,ntmps102;go_wp2_with fail;refine(dV w.heap.size (w.heap.size+1) _ 7 true true _ hck.out (by omega) (by simp)).mono ?_;rintro e w1 ⟨rfl,hc1,ht1⟩;have hbw1:=ht1.under hb0 aj (by simp);have hB1:=hc1.lt;have e1:w1.cell? ⟨w.heap.size,1,none⟩=some .nilIface:=by
    obtain⟨_,_,ev,e2,e3⟩:=hc1;rcases e3 with⟨_,rfl⟩|⟨e3,_⟩
    ·exact e2
    ·cases e3
   have HC1:=aa (hc1.yf (lo':=w1.heap.size+1));have HB1:=aa hbw1;clear hc1 ht1 hck hb0 hbw1;go_wp2_with (refine wpList_make_own _ rfl _ _ 22 rfl w1.heap.size 5 i0 (.int .u8 0) 1 underlying22 hi hz0 hz1 .i64 .i64 512 512 rfl rfl rfl (by rw[hz2];omega) (by unfold maxLen;omega) aj ?_;intro w2 hown2 hgr2);have hs2:=hgr2.size;have hG2:=(hown2.lt w1.heap.size rfl).2;have HB2:=aa (HB1.out.grown hgr2 (by omega) (fun k h=>by cases h));have HC2:=aa (HC1.out.keep (hgr2.block w.heap.size hB1 (by simp)) (fun k hk _=>hgr2.block k hk (by simp)));clear hgr2 HB1 HC1 e1;go_loopw [5,22] (fun o i wr=>∃k:Nat,k≤128∧i=.int .i64 k∧o=.slice (some ⟨w1.heap.size,0,none⟩) (4*k) 512∧w1.heap.size<wr.heap.size∧wr.ownsRow w1.heap.size 5 1 (.slice (some ⟨w1.heap.size,0,none⟩) (4*k) 512) (4*k) ((j4 (ws.take k)).map (Value.int .u8))∧Ck wr w.heap.size (w1.heap.size+1) 7 ((ws.take k).all okW)∧Below w.heap.size w wr) (fun _ i _=>128-(intOf i).toNat)
   case atStart=>exact⟨0,by omega,rfl,rfl,hG2,by simpa [j4] using hown2,by simpa using HC2.out,HB2.out⟩
   case round=>
    clear hown2 HC2 HB2 hs2 hG2;obtain⟨k,hk,rfl,rfl,hGr,hown,hck,hb⟩:=hrel;by_cases hlt:k<128
    ·have hkl:k<ws.length:=(by rw[HN.out];exact hlt);have c1:wr.cell? ⟨b,off+k,none⟩=some (.int .i64 (ws.getD k 0)):=(hb.cell (p:=⟨b,off+k,none⟩) hbw).trans (hcell k hlt);have HT:=aa (ag (Cf ws k hkl) (zz ws k hkl));clear hcell hkl;generalize ws.getD k 0=z at c1 HT;obtain⟨q,hq⟩:∃q:Nat,z%4294967296=(q:Int):=⟨(z%4294967296).toNat,by omega⟩;have hql:q<4294967296:=(by omega);rw[hq,Int.toNat_natCast] at HT;have HK:=aa (ag hck (ag hown hb));clear hck hown hb;go_wp2_with fail;refine(mV w.heap.size (w1.heap.size+1) _ 7 z 0 4294967295 _ _ HK.out.1 (by omega) (by omega)).mono ?_;rintro e w3 ⟨rfl,hc3,ht3⟩;have ho3:=HK.out.2.1.kept ht3.1 (.inr (by simp[Value.ownBlock];omega));have hs3:=ht3.1.size;have HB3:=aa (ht3.under HK.out.2.2 aj (by omega));have HC3:=aa hc3;clear hc3 ht3 HK;go_wp2_with fail;refine(yZ w1.heap.size w1.heap.size (4*k) 512 q _ _ ho3 (by omega) (by omega) hql).mono ?_;rintro e w4 ⟨rfl,ho4,hg4⟩;have hs4:=hg4.size;have HW:=ae (w4.ownsRow w1.heap.size 5 1 (.slice (some ⟨w1.heap.size,0,none⟩) (4*(k+1)) 512) (4*(k+1)) ((j4 (ws.take (k+1))).map (Value.int .u8))∧Ck w4 w.heap.size (w1.heap.size+1) 7 ((ws.take (k+1)).all okW)∧Below w.heap.size w w4) (by
      refine⟨?_,?_,HB3.out.grown hg4 (by omega) (fun r h=>by cases h;omega)⟩
      ·rw[HT.out.1,List.map_append,show 4*(k+1)=4*k+4 by omega];exact ho4
      ·rw[HT.out.2];exact HC3.out.grown hg4 (by omega) (by omega))
     clear ho3 ho4 hg4 HB3 HC3 hq;go_wp2;go_roundw
     case rel=>exact⟨k+1,by omega,by go_num,by rw[show 4*(k+1)=4*k+4 by omega],by omega,HW.out.1,HW.out.2.1,HW.out.2.2⟩
     case measure=>simp[intOf];omega
    ·have hk8:k=128:=(by omega);subst hk8;have ht:ws.take 128=ws:=List.take_of_length_le (by rw[HN.out];omega);rw[ht] at hown hck;obtain⟨c1,c2,ev,c3,c4⟩:=hck;rcases c4 with⟨hal,rfl⟩|⟨hal,n,c4⟩
     ·have HGd:=ae (eU ws=true) (by unfold eU;simp[HN.out,hal]);have HM:=aa (Cg ws hal);have HO:=aa hown;clear hal hown ht hcell;go_wp2_with (go_at_call 41;refine(Cd _ _).mono ?_;rintro e w5 ⟨rfl,rfl⟩);go_ret2;refine⟨_,by rw[nv,HGd.out];rfl,?_,hb⟩;rw[dK,if_pos HGd.out,kf,HN.out, ←HM.out];exact bZ HO.out (by omega)
     ·have HGd:=ae (eU ws=false) (by unfold eU;simp[hal]);obtain⟨t',x',rfl⟩:=c4.iface;have H4:=aa c4;clear hal hown ht hcell c4;go_wp2_with (go_at_call 41;refine(Ce _ _ n _ 7 _ H4.out (HG.out.below hb)).mono ?_;rintro e w5 ⟨rfl,hb5⟩);go_ret2;exact⟨_,by rw[nv,HGd.out];rfl,by rw[dK,HGd.out];exact World.ownsRow_nil _ _ _ _,hb.trans (hb5.mono hb.size)⟩
 ·obtain⟨a,cap,rfl,_,_⟩:=h;have hq:((ws.length:Int)==128)=false:=by simp;omega
  have HB:=ae (eU ws=false) (by unfold eU;simp[hlen]);clear hlen;go_enter func102,ntmps102;go_wp2_with fail;refine(dV w.heap.size (w.heap.size+1) _ 7 true false _ hck.out (by omega) (by simp)).mono ?_;rintro e w1 ⟨rfl,hc1,ht1⟩;have hbw1:=ht1.under hb0 aj (by simp);obtain⟨c1,c2,ev,c3,c4⟩:=hc1;rcases c4 with⟨c4,_⟩|⟨_,n,c4⟩
  ·cases c4
  ·obtain⟨t',x',rfl⟩:=c4.iface;have H4:=aa c4;clear c4 ht1;go_wp2_with (go_at_call 27;refine(kN n _ 7 _ _ H4.out (HG.out.below hbw1)).mono ?_;rintro e w2 ⟨rfl,hb2⟩);go_ret2;exact⟨_,by rw[nv,HB.out];rfl,by rw[dK,HB.out];exact World.ownsRow_nil _ _ _ _,hbw1.trans (hb2.mono hbw1.size)⟩
theorem vr(ms:List Int)(w:World)(hl:ms.length=128)(hg:eZ w):
 Calls prog 72 #[.agg (ms.map (Value.int .i64)).toArray] w fun e w'=>∃v',e=.returned v'∧w'.ownsRow w.heap.size 5 1 v' (dK ms).length ((dK ms).map (Value.int .u8))∧Below w.heap.size w w':=by
 obtain⟨W1,hW1⟩:∃W1,W1=w.alloc (.cells (ms.map (Value.int .i64)).toArray 127):=⟨_,rfl⟩;have B1:=ae (Below w.heap.size w W1) (by rw[hW1];exact ak.alloc aj _);have HR:=ae (Rd .i64 W1 (.slice (some ⟨w.heap.size,0,none⟩) 128 128) ms) (by rw[hW1];exact zL (n:=128) (af.new w _ _) hl.symm (by omega));have HG:=aa (hg.below B1.out);obtain⟨M,hM⟩:∃M,M=(ms.map (Value.int .i64)).toArray:=⟨_,rfl⟩;rw[←hM] at hW1⊢;have HW1:=aa hW1;clear hW1 hl hg hM;go_enter func72,ntmps72;go_upto_region 1 with fail;rw[←HW1.out];go_wp2_with (go_at_call 102;refine(Ch _ ms _ HR.out HG.out).mono ?_;rintro e w1 ⟨v1,rfl,o1,b1⟩;have O1:=aa (ag o1 b1);clear o1 b1);go_ret;exact⟨_,rfl,bZ O1.out.1 B1.out.size,B1.out.trans (O1.out.2.mono B1.out.size)⟩
end
end Go.Proofs.YtlimollpocagiaaGreatDoor
