/- The model's flush: rows turned, what it leaves alone -/
import Derived.Test.YtpplnhkpcpieoaaGreatDoorZx20
namespace Go.Proofs.YtpplnhkpcpieoaaGreatDoor
open Go.Proofs.Tryz
open _root_.List (range map_append size_toArray length_cons length_nil push_toArray nil_append cons_append replicate)
open World (size_alloc alloc)
set_option linter.all false
set_option maxRecDepth 100000
set_option maxHeartbeats 16000000
section
open Go.RowKit
section
variable {W W':World} {base b:Nat} {C:Array Value} {R:Nat→Value} {LL:Nat→List Int} {cu sg:Int} {fu:Bool}
theorem Fm.put(h:Fm W base b C R LL cu sg fu){l:Nat}(hl:l<5){v':Value}{L':List Int}(ho:W'.ownsRow base 3 1 v' L'.length (L'.map (Value.int .i64)))(hg:W.grownBy W' (R l).ownBlock)(hv:v'.ownBlock=(R l).ownBlock∨∃g,v'.ownBlock=some g∧W.heap.size≤g):
 Fm (W'.setCell ⟨b,gF l,none⟩ v') base b (C.setIfInBounds (gF l) v') (aO R l v') (aO LL l L') cu sg fu∧dF W (W'.setCell ⟨b,gF l,none⟩ v') b R (aO R l v'):=by
 have hB:af W' b C 82:=(hg.block b h.box.lt (fun e=>h.jf (j:=l) hl e.symm)).trans h.box;have hk1:∀k,k≠b→(W'.setCell ⟨b,gF l,none⟩ v').heap[k]?=W'.heap[k]?:=fun k hk=>Below.heap_setCell W' ⟨b,gF l,none⟩ _ k (fun e=>hk e);have hkeep:∀k,k<W.heap.size→k≠b→(R l).ownBlock≠some k→(W'.setCell ⟨b,gF l,none⟩ v').heap[k]?=W.heap[k]?:=fun k hk hkb hr=>(hk1 k hkb).trans (hg.block k hk (fun e=>hr e.symm));have hvb:v'.ownBlock≠some b:=lO ho hB (by decide);refine⟨⟨hB.set (gF l) _,by simpa using h.size,fun j hj=>?_,fun j hj=>?_,fun i j hi hj hne=>?_,?_,?_,?_⟩,⟨hg.os,hg.tape,hg.output,by simpa using hg.size,fun k hk hn=>hkeep k hk (fun e=>hn (.inl e)) (fun e=>hn (.inr ⟨l,hl,e⟩)),fun k hk=>?_⟩⟩
 ·by_cases e:j=l
  ·subst e;rw[bY];rw[Array.getElem?_setIfInBounds_self_of_lt (by have:=h.size;have:=oh hj;omega)]
  ·rw[aU _ _ _ _ e,fL (fun e'=>e (zh hj hl e'))];exact h.at_ j hj
 ·by_cases e:j=l
  ·subst e;rw[bY,bY];exact eF ho (fun k hk=>hk1 k (fun e'=>hvb (by rw[hk,e'])))
  ·rw[aU _ _ _ _ e,aU _ _ _ _ e];exact eF (h.row j hj) (fun k hk=>hkeep k ((h.row j hj).lt k hk).2 (fun e'=>h.jf hj (by rw[hk,e'])) (fun e'=>by
    rcases h.apart j l hj hl e with h5|h5
    ·rw[hk] at h5;cases h5
    ·exact h5 (hk.trans e'.symm)))
 ·have key:∀j,j<5→j≠l→v'.ownBlock=none∨v'.ownBlock≠(R j).ownBlock:=fun j hj hj2=>by
   rcases hv with h3|⟨g,h3,h4⟩
   ·rw[h3];exact h.apart l j hl hj (fun e=>hj2 e.symm)
   ·right;rw[h3];intro e';have:=((h.row j hj).lt g e'.symm).2;omega
  by_cases e:i=l
  ·subst e;rw[bY,aU _ _ _ _ (fun e=>hne e.symm)];exact key j hj (fun e=>hne e.symm)
  ·by_cases e2:j=l
   ·subst e2;rw[bY,aU _ _ _ _ e];cases hR:(R i).ownBlock with
    |none=>exact .inl rfl
    |some k=>
     right;intro e';rcases key i hi e with h5|h5
     ·rw[←e'] at h5;cases h5
     ·exact h5 (e'.symm.trans hR.symm)
   ·rw[aU _ _ _ _ e,aU _ _ _ _ e2];exact h.apart i j hi hj hne
 ·rw[fL (fun e=>(oh hl).2.1 e.symm)];exact h.cur
 ·rw[fL (fun e=>(oh hl).2.2.2 e.symm)];exact h.OG
 ·rw[fL (fun e=>(oh hl).2.2.1 e.symm)];exact h.full
 ·rcases zj hk with h5|h5
  ·exact .inl h5
  ·rcases hv with h3|⟨g,h3,h4⟩
   ·exact .inl (.inr ⟨l,hl,h3.symm.trans h5⟩)
   ·rw[h3] at h5;injection h5 with h5;exact .inr (by omega)
theorem dF.other{R':Nat→Value}(hk:dF W W' b R R')(h:Fm W base b C R LL cu sg fu){b1 n:Nat}{e:TypeId}{u:Value}{L:List Value}(hu:W.ownsRow b1 e 1 u n L)(he:e≠3)(he2:82≠e):W'.ownsRow b1 e 1 u n L:=
 eF hu (fun k hk2=>hk.block k (hu.lt k hk2).2 (fun hm=>by
  rcases hm with rfl|⟨j,hj,e3⟩
  ·exact jB hu h.box he2 hk2
  ·rcases ng hu (h.row j hj) he with h5|h5
   ·rw[hk2] at h5;cases h5
   ·exact h5 (hk2.trans e3.symm)))
end
def uN(b:Nat)(W:World):Nat:=match W.cell? ⟨b,12,none⟩ with
 |some (.slice _ n _)=>n
 |_=>0
theorem zy{W:World}{base b:Nat}{bf D:List Int}{sg:Int}{s:FD×Bool}{R:Nat→Value}(h:ig W base b bf D sg s R):uN b W=s.1.od.length:=by
 obtain⟨C,LL,h1,_,_,_,e3,_⟩:=h;obtain⟨a,c,hR⟩:=cG (h1.row 3 (by omega));have h2:W.cell? ⟨b,12,none⟩=some (.slice a (LL 3).length c):=h1.slot (j:=3) (by omega) hR;unfold uN;rw[h2,e3];simp
theorem ig.GY{W W':World}{base b:Nat}{bf D:List Int}{sg:Int}{s:FD×Bool}{R R':Nat→Value}(h:ig W base b bf D sg s R)(hk:dF W W' b R R')(hb:base≤b)(hs:base≤W.heap.size):Below base W W':=by
 obtain⟨C,LL,h1,_⟩:=h;exact hk.below h1 hb hs
end
section
open Go.RowKit
def gM(LL:Nat→List Int):Nat→Int:=fun k=>if(LL 2).getD k 0=0 then(LL 4).getD k 0 else(LL 2).getD k 0
def lR(m:Nat)(g:Nat→Int)(N:Nat):List Int:=(range N).map fun j=>if 12+j<m then g (12+j) else 0
theorem zz(m:Nat)(g:Nat→Int)(N:Nat):lR m g (N+1)=lR m g N++[if 12+N<m then g (12+N) else 0]:=by
 unfold lR;rw[List.range_succ,map_append];rfl
theorem GZ(base b m:Nat)(C:Array Value)(R:Nat→Value)(LL:Nat→List Int)(cu sg:Int)(fu:Bool)(w:World)(h:Fm w base b C R LL cu sg fu)(hp:(LL 2).length=m+1)(hd:∀k,k<m→(LL 2).getD k 0=0→k<(LL 4).length)(hm:m≤16):
 Calls prog 39 #[.pointer (some ⟨b,0,none⟩),.int .i64 (m:Int)] w fun e w'=>∃v',e=.returned v'∧w'.ownsRow w.heap.size 3 1 v' 128 ((lR m (gM LL) 128).map (Value.int .i64))∧Below w.heap.size w w':=by
 obtain⟨i0,hi,hz0,hz1,hz2⟩:=info_parts fX;have B1:=ae (Below w.heap.size w (w.alloc (.cells #[] 3))) (ak.alloc aj _);have HO:=ae ((w.alloc (.cells #[] 3)).ownsRow w.heap.size 3 1 (.slice (some ⟨w.heap.size,0,none⟩) 0 0) 0 ((lR m (gM LL) 0).map (Value.int .i64))) (j5 w 3 1);have Tp:=ae (∀W,Below w.heap.size w W→∀k:Nat,k<m→Calls prog 79 #[.pointer (some ⟨b,0,none⟩),.int .i64 (k:Int)] W fun e w'=>e=.returned (.int .i64 (gM LL k))∧w'=W) (fun W hW k hk=>zk base b k C R LL cu sg fu W (h.below hW) (by omega) (hd k hk) (by omega));clear h hp hd;go_enter func39,ntmps39;go_wp2;go_loopw [5,6] (fun v i wr=>∃(k:Nat) (xa:Option Addr) (xc:Nat),k≤128∧i=.int .i64 ((12+k:Nat):Int)∧v=.slice xa k xc∧Hid (wr.ownsRow w.heap.size 3 1 (.slice xa k xc) k ((lR m (gM LL) k).map (Value.int .i64))∧Below w.heap.size w wr)) (fun _ i _=>140-(intOf i).toNat)
 case atStart=>exact⟨0,_,_,by omega,rfl,rfl,aa ⟨HO.out,B1.out⟩⟩
 case round=>
  obtain⟨k,xa,xc,hk,rfl,rfl,HI⟩:=hrel;obtain⟨q,hq⟩:∃q:Nat,q=12+k:=⟨_,rfl⟩;rw[←hq];have hq1:12≤q:=by omega
  have HQ:=aa hq;have hws:w.heap.size≤wr.heap.size:=HI.out.2.size;by_cases hlt:q<140
  ·have N4:(q:Int)<140:=(by omega);have hk2:k<128:=(by omega);by_cases hqm:q<m
   ·have YG:(q:Int)<(m:Int):=(by omega);obtain⟨y,hy⟩:∃y,y=gM LL q:=⟨_,rfl⟩;have HY:=aa hy;have Vu:=aa (Tp.out wr HI.out.2 q hqm);rw[←hy] at Vu;have HR:=aa (HI.out.1.alloc (.cells #[.int .i64 y] 3));have B4:=ae (Below w.heap.size w (wr.alloc (.cells #[.int .i64 y] 3))) (HI.out.2.trans ((ak.alloc aj _).mono HI.out.2.size));clear hq hy;go_wp2_with (first
     |(
      go_at_call 79
      refine Vu.out.mono ?_;rintro e w3 ⟨rfl,hw3⟩;rw[hw3];clear hw3)
     |(
      at_builtin;refine wpList_append_own_at _ rfl (.tmp 15) (.tmp 19) 45 rfl w.heap.size 3 i0 (.int .i64 0) 1 8 underlying45 hi hz0 hz1 hz2 rfl (by decide) (.slice xa k xc) k _ rfl HR.out ⟨wr.heap.size,0,none⟩ 1 1 [.int .i64 y] rfl rfl (nX wr y) (by intro z hz;simp at hz;rcases hz with rfl;rfl) (by unfold maxLen;omega) (by omega) (by simp;omega) ?_
      intro v4 w4 o4 g4 _ _;obtain⟨va,vc,rfl⟩:=cG o4;have H4:=aa (ai o4 g4);clear o4 g4)
     |fail)
    go_roundw
    case rel=>
     refine⟨k+1,va,vc,by omega,by have:=HQ.out;rw[show 12+(k+1)=q+1 by omega];go_num,rfl,aa ⟨?_,B4.out.grown H4.out.2 B4.out.size (fun r e=>(HR.out.lt r e).1)⟩⟩;have h:=H4.out.1;rw[zz, ←HQ.out,if_pos hqm, ←HY.out,map_append];exact h
    case measure=>simp[intOf];omega
   ·have YG:¬((q:Int)<(m:Int)):=(by omega);have HR:=aa (HI.out.1.alloc (.cells #[.int .i64 0] 3));have B4:=ae (Below w.heap.size w (wr.alloc (.cells #[.int .i64 0] 3))) (HI.out.2.trans ((ak.alloc aj _).mono HI.out.2.size));clear hq;go_wp2_with (first
     |(
      at_builtin;refine wpList_append_own_at _ rfl (.tmp 21) (.tmp 22) 45 rfl w.heap.size 3 i0 (.int .i64 0) 1 8 underlying45 hi hz0 hz1 hz2 rfl (by decide) (.slice xa k xc) k _ rfl HR.out ⟨wr.heap.size,0,none⟩ 1 1 [.int .i64 0] rfl rfl (nX wr 0) (by intro z hz;simp at hz;rcases hz with rfl;rfl) (by unfold maxLen;omega) (by omega) (by simp;omega) ?_
      intro v4 w4 o4 g4 _ _;obtain⟨va,vc,rfl⟩:=cG o4;have H4:=aa (ai o4 g4);clear o4 g4)
     |fail)
    go_roundw
    case rel=>
     refine⟨k+1,va,vc,by omega,by have:=HQ.out;rw[show 12+(k+1)=q+1 by omega];go_num,rfl,aa ⟨?_,B4.out.grown H4.out.2 B4.out.size (fun r e=>(HR.out.lt r e).1)⟩⟩;have h:=H4.out.1;rw[zz, ←HQ.out,if_neg hqm,map_append];exact h
    case measure=>simp[intOf];omega
  ·have N4:¬((q:Int)<140):=(by omega);obtain rfl:k=128:=(by omega);clear hq;go_wp2;go_ret;exact⟨_,rfl,HI.out.1,HI.out.2⟩
end
section
open Go.RowKit Go.Shelf
attribute [local go_sem] Oper.semAt_some
def jG(X:Nat)(j:Nat):Array Value:=#[bh (bT j) (cq j),.pointer (some ⟨X,1+j,none⟩)]
theorem rI(n X:Nat)(w:World):
 CallsIn Fence.wide n prog 93 #[.pointer (some ⟨X,0,none⟩)] w fun e w'=>e=.returned (.func (.func 132) #[] #[.pointer (some ⟨w.heap.size,0,none⟩)])∧w'=w.alloc (.cells #[.pointer (some ⟨X,0,none⟩)] 173):=by
 refine callsIn_of_wp func93 rfl trivial ?_ rfl;simp only[ntmps93,size_toArray,length_cons,length_nil,Nat.reduceAdd,Nat.reduceSub,Array.replicate_succ,Array.replicate_zero,push_toArray,List.append_toArray,nil_append,cons_append];gi_wp2
 go_ret;exact⟨rfl,rfl⟩
theorem rJ(n Bx X n₀ z:Nat)(Ty:TypeId→Prop)(hTy:¬Ty 173)(W:World)(hBx:af W Bx #[.pointer (some ⟨X,0,none⟩)] 173):
 qD Fence.wide n prog 132 #[.pointer (some ⟨Bx,0,none⟩)] (jG X) (Kq n₀ z Ty) (fun pre x _=>x=pre.length∧x<14) (fun xs=>xs=range 14) (fun _=>True) W:=by
 intro l J Jx hJ hJx hY h0;have hdd:∀k:Nat,(Fence.wide.depth.isSome=true→1≤k):=fun k h=>by cases h
 have HY:=ae (∀(j:Nat) (W1:World),j<14→J (range j) W1→af W1 Bx #[.pointer (some ⟨X,0,none⟩)] 173→YieldAt Fence.wide (n-1) prog l (jG X j) W1 fun e W'=>(e=.returned (.bool true)∧J (range (j+1)) W'∧af W' Bx #[.pointer (some ⟨X,0,none⟩)] 173)∨(e=.returned (.bool false)∧∃pre,Jx pre W')) (fun j W1 hj h1 h2=>by
  have:=hY (range j) j W1 h1 ⟨by simp,hj⟩;exact YieldAt.mono this fun e W' h=>h.elim (fun⟨he,hj2,hk⟩=>.inl ⟨he,by rw[←yh];exact hj2,hk.blk h2 hTy⟩) (fun⟨he,hx,_⟩=>.inr ⟨he,_,hx⟩))
 have H0:=aa (ai h0 hBx);clear hY h0 hBx hJ hJx;refine callsIn_of_wp func132 rfl trivial ?_ rfl;simp only[ntmps132,size_toArray,length_cons,length_nil,Nat.reduceAdd,Nat.reduceSub,Array.replicate_succ,Array.replicate_zero,push_toArray,List.append_toArray,nil_append,cons_append];gi_wp2
 gi_loopw [4] (fun iv wr=>∃i:Nat,i≤12∧iv=.int .i64 (i:Int)∧J (range i) wr∧af wr Bx #[.pointer (some ⟨X,0,none⟩)] 173) (fun iv _=>12-(intOf iv).toNat)
 case atStart=>exact⟨0,by omega,rfl,H0.out.1,H0.out.2⟩
 case round=>
  obtain⟨i,hi,rfl,hj,hb⟩:=hrel;clear H0;have cb:=(hb.cell 0).trans (show _=some (.pointer (some ⟨X,0,none⟩)) from rfl);by_cases hi2:i<12
  ·obtain⟨fn,tmps,assign,body,hy,hR⟩:=HY.out i wr (by omega) hj hb;have Uk:(i:Int)<12:=(by omega);replace hy:(Instr.yield l #[.agg #[.int .i64 0,.int .i64 (i:Int)],.pointer (some ⟨X,1+i,none⟩)]).run prog wr=.ok (.round l fn tmps assign body) wr:=by
    have e:jG X i=#[.agg #[.int .i64 0,.int .i64 (i:Int)],.pointer (some ⟨X,1+i,none⟩)]:=(by unfold jG bT cq bh;rw[if_pos hi2,if_pos hi2];rfl);rw[e] at hy;exact hy
   have HR:=aa hR;clear hR hj hb;gi_wp2
   refine⟨hdd _,?_⟩;refine HR.out.mono ?_;rintro e W3 (⟨rfl,Py,hb3⟩|⟨rfl,pre,hx3⟩)
   ·have H3:=aa (ai Py hb3);clear Py hb3 hy HR cb;gi_wp2
    go_roundw
    case rel=>exact⟨i+1,by omega,by go_num,H3.out.1,H3.out.2⟩
    case measure=>simp[intOf];omega
   ·have H3:=aa hx3;clear hx3 hy HR cb;gi_wp2
    refine bodyPost_ret (results_none rfl _ _ _) rfl ?_;exact⟨⟨_,rfl⟩,.inr ⟨pre,trivial,H3.out⟩⟩
  ·have hi3:i=12:=(by omega);subst hi3;clear hi2;obtain⟨fn,tmps,assign,body,hy,hR⟩:=HY.out 12 wr (by omega) hj hb;replace hy:(Instr.yield l #[.agg #[.int .i64 1,.int .i64 0],.pointer (some ⟨X,13,none⟩)]).run prog wr=.ok (.round l fn tmps assign body) wr:=hy;have HR:=aa hR;clear hR hj hb;gi_wp2
   refine⟨hdd _,?_⟩;refine HR.out.mono ?_;rintro e W3 (⟨rfl,Py,hb3⟩|⟨rfl,pre,hx3⟩)
   ·obtain⟨Yh,Qu,assign2,Qv,hy2,hR2⟩:=HY.out 13 W3 (by omega) Py hb3;replace hy2:(Instr.yield l #[.agg #[.int .i64 2,.int .i64 0],.pointer (some ⟨X,14,none⟩)]).run prog W3=.ok (.round l Yh Qu assign2 Qv) W3:=hy2;have SV:=(hb3.cell 0).trans (show _=some (.pointer (some ⟨X,0,none⟩)) from rfl);have HR2:=aa hR2;clear hR2 Py hb3 hy HR cb;gi_wp2
    refine⟨hdd _,?_⟩;refine HR2.out.mono ?_;rintro e W4 (⟨rfl,U0,hb4⟩|⟨rfl,pre,hx4⟩)
    ·have H4:=aa U0;clear U0 hb4 hy2 HR2 SV;gi_wp2
     go_end0;exact⟨⟨_,rfl⟩,.inl ⟨_,rfl,H4.out⟩⟩
    ·have H4:=aa hx4;clear hx4 hy2 HR2 SV;gi_wp2
     go_end0;exact⟨⟨_,rfl⟩,.inr ⟨pre,trivial,H4.out⟩⟩
   ·have H3:=aa hx3;clear hx3 hy HR cb;gi_wp2
    go_end0;exact⟨⟨_,rfl⟩,.inr ⟨pre,trivial,H3.out⟩⟩
end
section
open Go.RowKit Go.Shelf
attribute [local go_sem] Oper.semAt_some
def rK(Ls:Nat→List Int)(j:Nat):Int:=(Ls (bT j)).getD (cq j) 0
def gj(Ls:Nat→List Int)(n k:Nat):Array Value:=an ((n:Int)::(range 14).map (fun j=>if j<k then rK Ls j else 0))
theorem oq(Ls:Nat→List Int)(n k:Nat):(gj Ls n k).size=15:=by simp[gj,ct]
theorem G0(Ls:Nat→List Int)(n k:Nat)(h:k<14):(gj Ls n k).setIfInBounds (1+k) (.int .i64 (rK Ls k))=gj Ls n (k+1):=by
 apply Array.ext_getElem?;intro i;rw[Array.getElem?_setIfInBounds,oq];cases i with
 |zero=>
  rw[if_neg (by omega)];simp[gj,an]
 |succ j=>
  by_cases e:1+k=j+1
  ·rw[if_pos e,if_pos (by omega)];obtain rfl:k=j:=(by omega);simp[gj,an,h]
  ·rw[if_neg e];by_cases hj:j<14
   ·simp only[gj,an,List.getElem?_toArray,List.map_cons,List.getElem?_cons_succ,List.getElem?_map,List.getElem?_range hj,Option.map_some];by_cases hjk:j<k
    ·rw[if_pos hjk,if_pos (by omega)]
    ·rw[if_neg hjk,if_neg (by omega)]
   ·simp[gj,an,hj]
theorem rL:(prog.info? 31).map (·.size)=some 15:=by kernel_rfl
structure lS(b off:Nat)(Ls:Nat→List Int)(n:Nat)(w:World)(pre:List Nat)(W:World):Prop where
 le:pre.length≤14
 bp:af W w.heap.size #[.pointer (some ⟨b,off,none⟩)] 169
 br:af W (w.heap.size+1) (an (replicate 15 0)) 31
 bx:af W (w.heap.size+1+1) (gj Ls n pre.length) 31
 low:Below w.heap.size w W
 size:w.heap.size+6≤W.heap.size
theorem lS.dU{b off n z:Nat}{Ls:Nat→List Int}{w:World}(hz:w.heap.size≤z):iL z (lS b off Ls n w):=by
 intro pre A B row h hg hr;exact⟨h.le,dZ h.bp hg hr,dZ h.br hg hr,dZ h.bx hg hr,lM h.low hz h.low.size hg hr,aK h.size hg.size⟩
theorem rM{w:World}{b:Nat}{t:TypeId}{x y:Value}(h:af w b #[x,y] t):w.rangeAt b 0 [x,y]:=by
 intro j v hj;match j,hj with
 |0,hj=>rw[h.cell (0+0)];simpa using hj
 |1,hj=>rw[h.cell (0+1)];simpa using hj
 |k+2,hj=>simp at hj
theorem Kq.rH{n₀ z:Nat}{Ty:TypeId→Prop}{W:World}{g j:Nat}{c:Array Value}{t:TypeId}{v:Value}(h:af W g c t)(ht:Ty t)(hn:n₀≤g):Kq n₀ z Ty W (W.setCell ⟨g,j,none⟩ v):=by
 refine Kq.grown (row:=some g) ⟨rfl,rfl,rfl,by simp[World.setCell],fun k hk hne=>Below.heap_setCell W ⟨g,j,none⟩ v k (fun e=>hne (by rw[e]))⟩ (by have:=h.lt;omega) (fun r e=>by cases e;exact⟨hn,c,t,h,ht⟩)
theorem zA(b off n base:Nat)(t:TypeId)(C:Array Value)(sl:Nat→Value)(Ls:Nat→List Int)(w:World)(h:dP w base b off C t sl Ls):
 Calls prog 52 #[.pointer (some ⟨b,off,none⟩),.int .i64 (n:Int)] w fun e w'=>e=.returned (.agg (gj Ls n 14))∧Below w.heap.size w w':=by
 have HN:=aa h;obtain⟨ZR,YT⟩:∃ZR,ZR=an (replicate 15 0):=⟨_,rfl⟩;obtain⟨R0,hR0⟩:∃R0,R0=gj Ls n 0:=⟨_,rfl⟩;obtain⟨Wa,hWa⟩:∃Wa,Wa=((w.alloc (.cells #[.pointer (some ⟨b,off,none⟩)] 169)).alloc (.cells ZR 31)).alloc (.cells R0 31):=⟨_,rfl⟩;have hZe:ZR=#[.int .i64 0,.int .i64 0,.int .i64 0,.int .i64 0,.int .i64 0,.int .i64 0,.int .i64 0,.int .i64 0,.int .i64 0,.int .i64 0,.int .i64 0,.int .i64 0,.int .i64 0,.int .i64 0,.int .i64 0]:=by rw[YT];rfl
 have hRe:R0=#[.int .i64 (n:Int),.int .i64 0,.int .i64 0,.int .i64 0,.int .i64 0,.int .i64 0,.int .i64 0,.int .i64 0,.int .i64 0,.int .i64 0,.int .i64 0,.int .i64 0,.int .i64 0,.int .i64 0,.int .i64 0]:=by rw[hR0];rfl
 have sa:Wa.heap.size=w.heap.size+3:=by rw[hWa];simp
 have BA:=ae (Below w.heap.size w Wa) (by rw[hWa];exact(((ak.alloc aj _).alloc (by simp) _).alloc (by simp;omega) _));have K0:=ae (af Wa w.heap.size #[.pointer (some ⟨b,off,none⟩)] 169) (by rw[hWa];exact((af.new w _ _).alloc _).alloc _);have K1:=ae (af Wa (w.heap.size+1) ZR 31) (by have h:=af.new (w.alloc (.cells #[.pointer (some ⟨b,off,none⟩)] 169)) ZR 31;rw[size_alloc] at h;rw[hWa];exact h.alloc _);have K2:=ae (af Wa (w.heap.size+1+1) R0 31) (by have h:=af.new ((w.alloc (.cells #[.pointer (some ⟨b,off,none⟩)] 169)).alloc (.cells ZR 31)) R0 31;rw[size_alloc,size_alloc] at h;rw[hWa];exact h);obtain⟨WL,cK⟩:∃WL,WL=Wa.alloc (.cells #[.pointer (some ⟨w.heap.size+1+1,0,none⟩)] 173):=⟨_,rfl⟩;have hsL:WL.heap.size=w.heap.size+4:=by rw[cK];simp[sa]
 have BL:=ae (Below Wa.heap.size Wa WL) (by rw[cK];exact ak.alloc aj _);have NL:=ae (af WL Wa.heap.size #[.pointer (some ⟨w.heap.size+1+1,0,none⟩)] 173) (by rw[cK];exact af.new Wa _ _);have I0:=ae (∀W',Below WL.heap.size WL W'→WL.heap.size+2≤W'.heap.size→lS b off Ls n w [] W') (fun W' hb hs'=>by
  have hb0:Below Wa.heap.size Wa W':=BL.out.trans (hb.mono (by omega));exact⟨by simp,K0.out.below hb0 K0.out.lt,by rw[←YT];exact K1.out.below hb0 K1.out.lt,by rw[length_nil, ←hR0];exact K2.out.below hb0 K2.out.lt,BA.out.trans (hb0.mono (by omega)),by omega⟩)
 rw[hZe,hRe] at hWa;have Tq:=aa hWa;have Ox:=aa cK;have Tr:Wa.heap.size≤w.heap.size+3:=by omega
 have Ts:w.heap.size+3≤Wa.heap.size:=by omega
 have Tt:WL.heap.size≤w.heap.size+4:=by omega
 have Tu:w.heap.size+4≤WL.heap.size:=by omega
 clear h hWa cK sa hsL YT hR0 hZe hRe;refine(callsIn_wide (n:=6)).1 ?_;refine callsIn_of_wp_marks func52 rfl trivial ?_ rfl;simp only[ntmps52,size_toArray,length_cons,length_nil,Nat.reduceAdd,Nat.reduceSub,Array.replicate_succ,Array.replicate_zero,push_toArray,List.append_toArray,nil_append,cons_append];gi_upto_region 2 with fail
 rw[←Tq.out];refine wpIn_wide.2 ?_;go_wp2_with (first
  |(go_at_call 93;refine(callsIn_wide.1 (rI 0 _ _)).mono ?_;rintro e w' ⟨rfl,rfl⟩))
 gi_wp2
 rw[←Ox.out];have hmx:prog.follows .mixedOrders=true:=by kernel_rfl
 refine mj (α:=Nat) rfl (by decide) (gf:=132) (lb:=#[.pointer (some ⟨Wa.heap.size,0,none⟩)]) rfl trivial (enters_of func132 (by kernel_rfl) rfl) (encs:=jG (w.heap.size+1+1)) (Kp:=(Kq w.heap.size (WL.heap.size+2) (fun t=>t=31))) Kq.trans (fun A o o' ho hc=>Kq.put o' (by omega) (by omega) ho hc)
  (Ok:=fun pre x _=>x=pre.length∧x<14) (S:=fun xs=>xs=range 14) (Sp:=fun _=>True)
  (fun W1 hb1 hs1=>by
   have:=rJ 5 Wa.heap.size (w.heap.size+1+1) w.heap.size (WL.heap.size+2) (fun t=>t=31) (by decide) W1 (NL.out.below hb1 NL.out.lt);exact this)
  (fun _=>rfl) (lS b off Ls n w) (fun c pre W=>False) (lS.dU (by omega)) (by rintro c pre A B row h hg hr;exact h)
  (fun W' hb hs'=>I0.out W' hb (by omega))
  (fun pre x a' Wx=>∃c,a'={tmps:=#[.pointer (some ⟨b,off,none⟩),.int .i64 (n:Int),.pointer (some ⟨w.heap.size,0,none⟩),undef,.pointer (some ⟨w.heap.size+1,0,none⟩),.pointer (some ⟨w.heap.size+1+1,0,none⟩),.pointer (some ⟨c,0,none⟩),.pointer (some ⟨w.heap.size+1+1,1+x,none⟩),.int .i64 (n:Int),.agg #[.int .i64 (n:Int),.int .i64 0,.int .i64 0,.int .i64 0,.int .i64 0,.int .i64 0,.int .i64 0,.int .i64 0,.int .i64 0,.int .i64 0,.int .i64 0,.int .i64 0,.int .i64 0,.int .i64 0,.int .i64 0],.func (.func 132) #[] #[.pointer (some ⟨Wa.heap.size,0,none⟩)],bh (bT x) (cq x),.pointer (some ⟨w.heap.size+1+1,1+x,none⟩),undef,undef,undef,undef,undef,undef],defers:=[]}∧af Wx c #[.int .i64 (bT x:Int),.int .i64 (cq x:Int)] 175∧lS b off Ls n w pre Wx∧x=pre.length∧x<14) ?ax ?assign ?body ?done ?stop
 case ax=>
  rintro pre x a' A B ⟨c,h1,h2,h3,h4⟩ hg hr;exact⟨c,h1,kR h2 hg hr,lS.dU (z:=WL.heap.size+1) (by omega) pre A B _ h3 hg (fun r e=>by cases e;exact⟨aj,hr⟩),h4⟩
 case assign=>
  rintro l pre x Wx K hI hok hK;have Oj:=aa (ai hI (ai hok hK));clear hI hok hK;unfold jG;gi_wp2
  have bA:Below Wx.heap.size Wx (Wx.alloc (.cells #[.int .i64 (bT x:Int),.int .i64 (cq x:Int)] 175)):=ak.alloc aj _;have gA:Wx.grownBy (Wx.alloc (.cells #[.int .i64 (bT x:Int),.int .i64 (cq x:Int)] 175)) none:=⟨bA.os,bA.tape,bA.output,bA.size,fun k hk _=>bA.block k hk⟩;exact Oj.out.2.2 _ _ (lK bA) (Kq.cV bA (by have:=Oj.out.1.size;omega)) ⟨_,rfl,af.new _ _ _,lS.dU (z:=w.heap.size) aj pre _ _ none Oj.out.1 gA (fun r e=>by cases e),Oj.out.2.1⟩
 case body=>
  rintro l pre x a' Wx ⟨c,rfl,kc,hI,hx,NR⟩;have HX:=aa (ai hI (ai kc hx));have eU:=aa (rM kc);have c0:=(hI.bp.cell 0).trans (show _=some (.pointer (some ⟨b,off,none⟩)) from rfl);clear hI kc hx;gi_wp2_with (first
   |(refine lJ rfl 175 _ rfl c 0 rfl [.int .i64 (bT x:Int),.int .i64 (cq x:Int)] _ eU.out underlying175 rfl bZ ?_)
   |(refine⟨trivial,?_⟩;gi_at_call 94;refine(CallsIn.inRound l (callsIn_wide.2 (kW b off (bT x) (cq x) C t sl Ls base _ (HN.out.below HX.out.1.low) (by have:=qQ x;omega) (aK (fY _ _) (pM NR))))).mono ?_;rintro e w9 ⟨rfl,b9⟩;have H9:=aa b9;clear b9;have k9:af w9 (w.heap.size+1+1) (gj Ls n pre.length) 31:=HX.out.1.bx.below H9.out HX.out.1.bx.lt;have c9:=k9.cell (1+x);have f9:=k9.frozen (1+x);rw[Array.getElem?_eq_getElem (by rw[oq];omega)] at c9;have K9:=aa k9;clear k9))
  clear c9 f9;have kF:∀z,Kq w.heap.size z (fun t=>t=31) Wx (w9.setCell ⟨w.heap.size+1+1,1+x,none⟩ (.int .i64 ((Ls (bT x)).getD (cq x) 0))):=fun z=>(Kq.cV H9.out (by have:=HX.out.1.size;omega)).trans (Kq.rH K9.out rfl (by omega));have hne1:w.heap.size≠w.heap.size+1+1:=by omega
  have hne2:w.heap.size+1≠w.heap.size+1+1:=by omega
  have SF:=ae (lS b off Ls n w (pre++[x]) (w9.setCell ⟨w.heap.size+1+1,1+x,none⟩ (.int .i64 ((Ls (bT x)).getD (cq x) 0)))) (⟨by rw[List.length_append,List.length_singleton, ←HX.out.2.2];omega,(HX.out.1.bp.below H9.out HX.out.1.bp.lt).other _ _ hne1,(HX.out.1.br.below H9.out HX.out.1.br.lt).other _ _ hne2,by
   have:=K9.out.set (1+x) (.int .i64 (rK Ls x));rw[←HX.out.2.2,G0 Ls n x NR] at this;rw[List.length_append,List.length_singleton, ←HX.out.2.2];exact this,HX.out.1.low.trans (kF 0).below,aK HX.out.1.size (kF 0).size⟩)
  exact⟨(kF _).iM,kF _,SF.out⟩
 case done=>
  rintro xs Wx hS hI hK;subst hS;have hx:=hI.bx;rw[List.length_range] at hx;have HX:=aa (ai hx (ai hI.br (ai hI.low hK)));obtain⟨RF,Nr⟩:∃RF,RF=gj Ls n 14:=⟨_,rfl⟩;rw[←Nr] at HX;have RJ:=aa Nr;have nv:=ae ((prog.info? 31).map (·.size)=some RF.size) (by rw[Nr,oq];exact rL);have HO:=ae (RF.all (·.oneCell')=true) (by rw[Nr];exact lI _);have O0:=ae ((an (replicate 15 0)).size=RF.size) (by rw[Nr,oq];rfl);clear hI hK hx Nr;gi_upto_region 6 with fail
  refine wpIn_wide.2 ?_;go_wp2_with (first
   |(refine wpList_load_row rfl 31 _ rfl (w.heap.size+1+1) rfl 31 RF (0,0) _ HX.out.1 underlying31 rfl nv.out ?_)
   |(refine wpList_store_row rfl 31 _ _ rfl (w.heap.size+1) RF rfl rfl 31 (an (replicate 15 0)) HX.out.2.1 nv.out O0.out HO.out ?_))
  gi_wp2
  have hD:(Wx.setRow (w.heap.size+1) RF).heap[WL.heap.size]?=some (.deferred (some [])):=(setRow_other Wx (w.heap.size+1) WL.heap.size RF (by omega)).trans HX.out.2.2.2;have hg:af (Wx.setRow (w.heap.size+1) RF) (w.heap.size+1) RF 31:=HX.out.2.1.row _;have Ta:Below w.heap.size w (Wx.setRow (w.heap.size+1) RF):=below_setRow HX.out.2.2.1 (by omega) _;refine⟨by simp,.inl ⟨_,_,rfl,run_takeDeferred hD,?_⟩⟩;refine⟨_,results_cell_row rfl _ _ (w.heap.size+1) 31 _ (0,0) _ rfl (gY _ hg hD rfl) underlying31 rfl nv.out,by rw[RJ.out],?_⟩;exact Ta.trans (belowK_b (w:=w) aj _ WL.heap.size _ (.deferred none) (by omega) hD rfl rfl)
 case stop=>
  rintro c pre W _ hf;exact hf.elim
end
section
open Go.RowKit
def eR(n:Nat)(g:Nat→Int)(k:Nat):List Int:=(4*(n:Int))::(range 14).map (fun j=>if j<k then g j else 0)
theorem ni(n:Nat)(g:Nat→Int)(k:Nat):(an (eR n g k)).size=15:=by simp[eR,ct]
theorem G1(n:Nat)(g:Nat→Int)(k:Nat)(h:k<14):(an (eR n g k)).setIfInBounds (1+k) (.int .i64 (g k))=an (eR n g (k+1)):=by
 apply Array.ext_getElem?;intro i;rw[Array.getElem?_setIfInBounds,ni];cases i with
 |zero=>
  rw[if_neg (by omega)];simp[eR,an]
 |succ j=>
  by_cases e:1+k=j+1
  ·rw[if_pos e,if_pos (by omega)];obtain rfl:k=j:=(by omega);simp[eR,an,h]
  ·rw[if_neg e];by_cases hj:j<14
   ·simp only[eR,an,List.getElem?_toArray,List.map_cons,List.getElem?_cons_succ,List.getElem?_map,List.getElem?_range hj,Option.map_some];by_cases hjk:j<k
    ·rw[if_pos hjk,if_pos (by omega)]
    ·rw[if_neg hjk,if_neg (by omega)]
   ·simp[eR,an,hj]
def iT(m n:Nat)(g:Nat→Int)(sp:Int):Array Value:=if 12<m then(an (eR n g 12)).setIfInBounds 13 (.int .i64 sp) else an (eR n g m)
theorem uO(m n:Nat)(g:Nat→Int)(sp:Int):(iT m n g sp).all (·.oneCell')=true:=by
 have h:∀(L:List Int),(an L).all (·.oneCell')=true:=fun L=>lI _;unfold iT;split
 ·have e:(an (eR n g 12)).setIfInBounds 13 (.int .i64 sp)=an ((eR n g 12).set 13 sp):=by unfold an;simp[List.map_set]
  rw[e];exact h _
 ·exact h _
theorem G5(base b m n:Nat)(C:Array Value)(R:Nat→Value)(LL:Nat→List Int)(cu sg:Int)(fu:Bool)(w:World)(h:Fm w base b C R LL cu sg fu)(hp:(LL 2).length=m+1)(hd:∀k,k<m→(LL 2).getD k 0=0→k<(LL 4).length)(hm:m≤16)(hn:n≤2048):
 Calls prog 37 #[.pointer (some ⟨b,0,none⟩),.int .i64 (n:Int),.int .i64 (m:Int)] w fun e w'=>e=.returned (.agg (iT m n (gM LL) (if(LL 2).getD m 0=0 then sg else(LL 2).getD m 0)))∧Below w.heap.size w w':=by
 obtain⟨sp,hsp⟩:∃sp,sp=if(LL 2).getD m 0=0 then sg else(LL 2).getD m 0:=⟨_,rfl⟩;rw[←hsp];have Rk:=aa hsp;have Tp:=ae (∀W,Below w.heap.size w W→∀k:Nat,k<m→Calls prog 79 #[.pointer (some ⟨b,0,none⟩),.int .i64 (k:Int)] W fun e w'=>e=.returned (.int .i64 (gM LL k))∧w'=W) (fun W hW k hk=>zk base b k C R LL cu sg fu W (h.below hW) (by omega) (hd k hk) (by omega));have H:=aa (ai h hp);obtain⟨W2,hW2⟩:∃W2,W2=(w.alloc (.cells (an (replicate 15 0)) 31)).alloc (.cells (an (eR n (gM LL) 0)) 31):=⟨_,rfl⟩;clear h hp hd hsp;go_enter func37,ntmps37;go_upto_region 3 with fail;generalize hW:alloc (alloc w _) _=Wx;have HW:=ae (∃Z0:Array Value,Z0.size=15∧af Wx w.heap.size Z0 31∧af Wx (w.heap.size+1) (an (eR n (gM LL) 0)) 31∧Below w.heap.size w Wx) (by
  rw[←hW];refine⟨_,rfl,(af.new w _ _).alloc _,?_,(ak.alloc aj _).alloc (by simp) _⟩;have h:=af.new (w.alloc (.cells #[.int .i64 0,.int .i64 0,.int .i64 0,.int .i64 0,.int .i64 0,.int .i64 0,.int .i64 0,.int .i64 0,.int .i64 0,.int .i64 0,.int .i64 0,.int .i64 0,.int .i64 0,.int .i64 0,.int .i64 0] 31)) (an (eR n (gM LL) 0)) 31;rw[size_alloc] at h;exact h)
 clear hW hW2 W2;obtain⟨Z0,hz0,k0,k1,b0⟩:=HW.out;have H0:=aa (ai k0 (ai k1 b0));have HZ0:=aa hz0;clear HW hz0 k0 k1 b0;go_wp2;go_loopw [8] (fun i wr=>∃k:Nat,k≤m∧k≤12∧i=.int .i64 (k:Int)∧Hid (af wr w.heap.size Z0 31∧af wr (w.heap.size+1) (an (eR n (gM LL) k)) 31∧Below w.heap.size w wr)) (fun i _=>12-(intOf i).toNat)
 case atStart=>exact⟨0,by omega,by omega,rfl,H0⟩
 case round=>
  obtain⟨k,hk1,hk2,rfl,HI⟩:=hrel;have hws:w.heap.size≤wr.heap.size:=HI.out.2.2.size;by_cases hkm:k<m
  ·have YU:(k:Int)<(m:Int):=(by omega);by_cases hk12:k<12
   ·have Oc:(k:Int)<12:=(by omega);obtain⟨y,hy⟩:∃y,y=gM LL k:=⟨_,rfl⟩;have HY:=aa hy;have Vu:=aa (Tp.out wr HI.out.2.2 k hkm);rw[←hy] at Vu;have ck:∃v,wr.cell? ⟨w.heap.size+1,1+k,none⟩=some v:=⟨_,(HI.out.2.1.cell (1+k)).trans (Array.getElem?_eq_getElem (by rw[ni];omega))⟩;obtain⟨v0,ck⟩:=ck;have fk:=HI.out.2.1.frozen (1+k);clear hy;go_wp2_with (first
     |(
      go_at_call 79
      refine Vu.out.mono ?_;rintro e w3 ⟨rfl,hw3⟩;rw[hw3];clear hw3)
     |fail)
    go_roundw
    case rel=>
     refine⟨k+1,by omega,by omega,by go_num,aa ⟨HI.out.1.other _ _ (show w.heap.size≠w.heap.size+1 by omega),?_,HI.out.2.2.setCell (p:=⟨w.heap.size+1,1+k,none⟩) (by simp) _⟩⟩;have h:=HI.out.2.1.set (1+k) (.int .i64 y);rw[HY.out,G1 _ _ _ (by omega)] at h;rw[HY.out];exact h
    case measure=>simp[intOf];omega
   ·have Oc:¬((k:Int)<12):=(by omega);obtain rfl:k=12:=(by omega);have Vt:(12:Int)<(m:Int):=(by omega);have hF:=H.out.1.below HI.out.2.2;have hpl:=H.out.2;obtain⟨g2,q2,_,hg2,c11,hc2⟩:=hF.at (j:=2) (by omega) (by omega);have c11':wr.cell? ⟨b,11,none⟩=some (.slice (some ⟨g2,0,none⟩) (m+1) q2):=(by rw[←hpl];exact c11);have c3:wr.cell? ⟨b,3,none⟩=some (.int .i64 sg):=(hF.box.cell 3).trans hF.OG;have em:=(hc2 m (by omega)).1;have hb1:b≠w.heap.size+1:=fun e=>(by have:=H.out.1.box.lt;omega);have hg1:g2≠w.heap.size+1:=fun e=>(by have:=((H.out.1.row 2 (by omega)).lt g2 hg2).2;omega);have ck:∃v,wr.cell? ⟨w.heap.size+1,13,none⟩=some v:=⟨_,(HI.out.2.1.cell 13).trans (Array.getElem?_eq_getElem (by rw[ni];omega))⟩;obtain⟨v0,ck⟩:=ck;have fk:=HI.out.2.1.frozen 13;obtain⟨y,hy⟩:∃y,y=(LL 2).getD m 0:=⟨_,rfl⟩;have HY:=aa hy;rw[←hy] at em;obtain⟨w4,hw4⟩:∃w4,w4=wr.setCell ⟨w.heap.size+1,13,none⟩ (.int .i64 sg):=⟨_,rfl⟩;have d11:w4.cell? ⟨b,11,none⟩=some (.slice (some ⟨g2,0,none⟩) (m+1) q2):=(by rw[hw4];exact(World.cell?_of_block (a:=⟨b,11,none⟩) (Below.heap_setCell wr _ _ b (fun e=>hb1 e))).trans c11');have dm:w4.cell? ⟨g2,m,none⟩=some (.int .i64 y):=(by rw[hw4];exact(World.cell?_of_block (a:=⟨g2,m,none⟩) (Below.heap_setCell wr _ _ g2 (fun e=>hg1 e))).trans em);have K4:=ae (af w4 w.heap.size Z0 31∧af w4 (w.heap.size+1) ((an (eR n (gM LL) 12)).setIfInBounds 13 (.int .i64 sg)) 31∧Below w.heap.size w w4) (by
     rw[hw4];exact⟨HI.out.1.other _ _ (show w.heap.size≠w.heap.size+1 by omega),HI.out.2.1.set 13 _,HI.out.2.2.setCell (p:=⟨w.heap.size+1,13,none⟩) (by simp) _⟩)
    have HW4:=aa hw4;clear hy hF hc2 c11 hw4 hpl;go_upto_region 8 with fail;rw[←HW4.out];clear c11' c3 em ck fk;by_cases hy0:y=0
    ·have hq:(y !=0)=false:=(by simp[hy0]);have NB:=ae (sp=sg) (by rw[Rk.out, ←HY.out,if_pos hy0]);clear hy0;obtain⟨RF,Nr⟩:∃RF,RF=iT m n (gM LL) sp:=⟨_,rfl⟩;have RJ:=aa Nr;have NQ:=ae (RF.size=15) (by rw[Nr];unfold iT;split<;>simp[ni]);have nv:=ae ((prog.info? 31).map (·.size)=some RF.size) (by rw[NQ.out];exact rL);have Vv:=ae (RF.all (·.oneCell')=true) (by rw[Nr];exact uO _ _ _ _);have HF:=ae (af w4 w.heap.size Z0 31∧af w4 (w.heap.size+1) RF 31∧Below w.heap.size w w4) (⟨K4.out.1,by rw[Nr];unfold iT;rw[if_pos (by omega),NB.out];exact K4.out.2.1,K4.out.2.2⟩);clear Nr;go_wp2_with (first
     |(refine wpList_load_row rfl 31 _ rfl (w.heap.size+1) rfl 31 RF (0,0) _ HF.out.2.1 underlying31 rfl nv.out ?_)
     |(refine wpList_store_row rfl 31 _ _ rfl w.heap.size RF rfl rfl 31 Z0 HF.out.1 nv.out (by rw[HZ0.out,NQ.out]) Vv.out ?_)
     |fail)
     refine bodyPost_ret (v:=.agg RF) (results_cell_row rfl _ _ w.heap.size 31 _ (0,0) _ rfl (HF.out.1.row _) underlying31 rfl nv.out) rfl ⟨by rw[RJ.out],below_setRow HF.out.2.2 aj _⟩
    ·have hq:(y !=0)=true:=(by simpa using hy0);have NB:=ae (sp=y) (by rw[Rk.out, ←HY.out,if_neg hy0]);have ck:∃v,w4.cell? ⟨w.heap.size+1,13,none⟩=some v:=⟨_,(K4.out.2.1.cell 13).trans (Array.getElem?_eq_getElem (by rw[Array.size_setIfInBounds,ni];omega))⟩;obtain⟨v1,ck⟩:=ck;have fk:=K4.out.2.1.frozen 13;clear hy0;go_upto_region 10 with fail;obtain⟨w5,QD⟩:∃w5,w5=w4.setCell ⟨w.heap.size+1,13,none⟩ (.int .i64 y):=⟨_,rfl⟩;rw[←QD];have K5:=ae (af w5 w.heap.size Z0 31∧af w5 (w.heap.size+1) ((an (eR n (gM LL) 12)).setIfInBounds 13 (.int .i64 y)) 31∧Below w.heap.size w w5) (by
      rw[QD];refine⟨K4.out.1.other _ _ (show w.heap.size≠w.heap.size+1 by omega),?_,K4.out.2.2.setCell (p:=⟨w.heap.size+1,13,none⟩) (by simp) _⟩;have h:=K4.out.2.1.set 13 (.int .i64 y);rw[show((an (eR n (gM LL) 12)).setIfInBounds 13 (.int .i64 sg)).setIfInBounds 13 (.int .i64 y)=(an (eR n (gM LL) 12)).setIfInBounds 13 (.int .i64 y) by simp] at h;exact h)
     clear QD ck fk d11 dm;obtain⟨RF,Nr⟩:∃RF,RF=iT m n (gM LL) sp:=⟨_,rfl⟩;have RJ:=aa Nr;have NQ:=ae (RF.size=15) (by rw[Nr];unfold iT;split<;>simp[ni]);have nv:=ae ((prog.info? 31).map (·.size)=some RF.size) (by rw[NQ.out];exact rL);have Vv:=ae (RF.all (·.oneCell')=true) (by rw[Nr];exact uO _ _ _ _);have HF:=ae (af w5 w.heap.size Z0 31∧af w5 (w.heap.size+1) RF 31∧Below w.heap.size w w5) (⟨K5.out.1,by rw[Nr];unfold iT;rw[if_pos (by omega),NB.out];exact K5.out.2.1,K5.out.2.2⟩);clear Nr;go_wp2_with (first
     |(refine wpList_load_row rfl 31 _ rfl (w.heap.size+1) rfl 31 RF (0,0) _ HF.out.2.1 underlying31 rfl nv.out ?_)
     |(refine wpList_store_row rfl 31 _ _ rfl w.heap.size RF rfl rfl 31 Z0 HF.out.1 nv.out (by rw[HZ0.out,NQ.out]) Vv.out ?_)
     |fail)
     refine bodyPost_ret (v:=.agg RF) (results_cell_row rfl _ _ w.heap.size 31 _ (0,0) _ rfl (HF.out.1.row _) underlying31 rfl nv.out) rfl ⟨by rw[RJ.out],below_setRow HF.out.2.2 aj _⟩
  ·have YU:¬((k:Int)<(m:Int)):=(by omega);obtain rfl:k=m:=(by omega);have hg12:¬((12:Int)<(k:Int)):=(by omega);obtain⟨RF,Nr⟩:∃RF,RF=iT k n (gM LL) sp:=⟨_,rfl⟩;have RJ:=aa Nr;have NQ:=ae (RF.size=15) (by rw[Nr];unfold iT;split<;>simp[ni]);have nv:=ae ((prog.info? 31).map (·.size)=some RF.size) (by rw[NQ.out];exact rL);have Vv:=ae (RF.all (·.oneCell')=true) (by rw[Nr];exact uO _ _ _ _);have HF:=ae (af wr w.heap.size Z0 31∧af wr (w.heap.size+1) RF 31∧Below w.heap.size w wr) (⟨HI.out.1,by rw[Nr];unfold iT;rw[if_neg (by omega)];exact HI.out.2.1,HI.out.2.2⟩);clear Nr;go_wp2_with (first
    |(refine wpList_load_row rfl 31 _ rfl (w.heap.size+1) rfl 31 RF (0,0) _ HF.out.2.1 underlying31 rfl nv.out ?_)
    |(refine wpList_store_row rfl 31 _ _ rfl w.heap.size RF rfl rfl 31 Z0 HF.out.1 nv.out (by rw[HZ0.out,NQ.out]) Vv.out ?_)
    |fail)
   refine bodyPost_ret (v:=.agg RF) (results_cell_row rfl _ _ w.heap.size 31 _ (0,0) _ rfl (HF.out.1.row _) underlying31 rfl nv.out) rfl ⟨by rw[RJ.out],below_setRow HF.out.2.2 aj _⟩
end
end Go.Proofs.YtpplnhkpcpieoaaGreatDoor
