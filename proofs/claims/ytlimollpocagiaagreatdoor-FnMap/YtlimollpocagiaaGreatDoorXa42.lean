/- The model's flush: rows turned, what it leaves alone -/
import Derived.Test.YtlimollpocagiaaGreatDoorXa41
namespace Go.Proofs.YtlimollpocagiaaGreatDoor
open Go.Proofs.Tryz
set_option linter.all false
set_option maxRecDepth 100000
set_option maxHeartbeats 16000000
section
open Go.RowKit
section
variable {W W':World} {base b:Nat} {C:Array Value} {R:Nat→Value} {LL:Nat→List Int} {cu sg:Int} {fu:Bool}
theorem Fm.put(h:Fm W base b C R LL cu sg fu){l:Nat}(hl:l<5){v':Value}{L':List Int}(ho:W'.ownsRow base 3 1 v' L'.length (L'.map (Value.int .i64)))(hg:W.grownBy W' (R l).ownBlock)(hv:v'.ownBlock=(R l).ownBlock∨∃g,v'.ownBlock=some g∧W.heap.size≤g):
 Fm (W'.setCell ⟨b,fQ l,none⟩ v') base b (C.setIfInBounds (fQ l) v') (aT R l v') (aT LL l L') cu sg fu∧cE W (W'.setCell ⟨b,fQ l,none⟩ v') b R (aT R l v'):=by
 have hB:af W' b C 77:=(hg.block b h.box.lt (fun e=>h.gO (j:=l) hl e.symm)).trans h.box;have hk1:∀k,k≠b→(W'.setCell ⟨b,fQ l,none⟩ v').heap[k]?=W'.heap[k]?:=fun k hk=>Below.heap_setCell W' ⟨b,fQ l,none⟩ _ k (fun e=>hk e);have hkeep:∀k,k<W.heap.size→k≠b→(R l).ownBlock≠some k→(W'.setCell ⟨b,fQ l,none⟩ v').heap[k]?=W.heap[k]?:=fun k hk hkb hr=>(hk1 k hkb).trans (hg.block k hk (fun e=>hr e.symm));have hvb:v'.ownBlock≠some b:=eK ho hB (by decide);refine⟨⟨hB.set (fQ l) _,by simpa using h.size,fun j hj=>?_,fun j hj=>?_,fun i j hi hj hne=>?_,?_,?_,?_⟩,⟨hg.os,hg.tape,hg.output,by simpa using hg.size,fun k hk hn=>hkeep k hk (fun e=>hn (.inl e)) (fun e=>hn (.inr ⟨l,hl,e⟩)),fun k hk=>?_⟩⟩
 ·by_cases e:j=l
  ·subst e;rw[bG];rw[Array.getElem?_setIfInBounds_self_of_lt (by have:=h.size;have:=lU hj;omega)]
  ·rw[aS _ _ _ _ e,fA (fun e'=>e (we hj hl e'))];exact h.at_ j hj
 ·by_cases e:j=l
  ·subst e;rw[bG,bG];exact dh ho (fun k hk=>hk1 k (fun e'=>hvb (by rw[hk,e'])))
  ·rw[aS _ _ _ _ e,aS _ _ _ _ e];exact dh (h.row j hj) (fun k hk=>hkeep k ((h.row j hj).lt k hk).2 (fun e'=>h.gO hj (by rw[hk,e'])) (fun e'=>by
    rcases h.apart j l hj hl e with h5|h5
    ·rw[hk] at h5;cases h5
    ·exact h5 (hk.trans e'.symm)))
 ·have key:∀j,j<5→j≠l→v'.ownBlock=none∨v'.ownBlock≠(R j).ownBlock:=fun j hj hj2=>by
   rcases hv with h3|⟨g,h3,h4⟩
   ·rw[h3];exact h.apart l j hl hj (fun e=>hj2 e.symm)
   ·right;rw[h3];intro e';have:=((h.row j hj).lt g e'.symm).2;omega
  by_cases e:i=l
  ·subst e;rw[bG,aS _ _ _ _ (fun e=>hne e.symm)];exact key j hj (fun e=>hne e.symm)
  ·by_cases e2:j=l
   ·subst e2;rw[bG,aS _ _ _ _ e];cases hR:(R i).ownBlock with
    |none=>exact .inl rfl
    |some k=>
     right;intro e';rcases key i hi e with h5|h5
     ·rw[←e'] at h5;cases h5
     ·exact h5 (e'.symm.trans hR.symm)
   ·rw[aS _ _ _ _ e,aS _ _ _ _ e2];exact h.apart i j hi hj hne
 ·rw[fA (fun e=>(lU hl).2.1 e.symm)];exact h.cur
 ·rw[fA (fun e=>(lU hl).2.2.2 e.symm)];exact h.sing
 ·rw[fA (fun e=>(lU hl).2.2.1 e.symm)];exact h.full
 ·rcases wh hk with h5|h5
  ·exact .inl h5
  ·rcases hv with h3|⟨g,h3,h4⟩
   ·exact .inl (.inr ⟨l,hl,h3.symm.trans h5⟩)
   ·rw[h3] at h5;injection h5 with h5;exact .inr (by omega)
theorem cE.other{R':Nat→Value}(hk:cE W W' b R R')(h:Fm W base b C R LL cu sg fu){b1 n:Nat}{e:TypeId}{u:Value}{L:List Value}(hu:W.ownsRow b1 e 1 u n L)(he:e≠3)(he2:77≠e):W'.ownsRow b1 e 1 u n L:=
 dh hu (fun k hk2=>hk.block k (hu.lt k hk2).2 (fun hm=>by
  rcases hm with rfl|⟨j,hj,e3⟩
  ·exact iW hu h.box he2 hk2
  ·rcases lH hu (h.row j hj) he with h5|h5
   ·rw[hk2] at h5;cases h5
   ·exact h5 (hk2.trans e3.symm)))
end
def rC(b:Nat)(W:World):Nat:=match W.cell? ⟨b,12,none⟩ with
 |some (.slice _ n _)=>n
 |_=>0
theorem wI{W:World}{base b:Nat}{bf D:List Int}{sg:Int}{s:FD×Bool}{R:Nat→Value}(h:fY W base b bf D sg s R):rC b W=s.1.od.length:=by
 obtain⟨C,LL,h1,_,_,_,e3,_⟩:=h;obtain⟨a,c,hR⟩:=bK (h1.row 3 (by omega));have h2:W.cell? ⟨b,12,none⟩=some (.slice a (LL 3).length c):=h1.slot (j:=3) (by omega) hR;unfold rC;rw[h2,e3];simp
theorem fY.DG{W W':World}{base b:Nat}{bf D:List Int}{sg:Int}{s:FD×Bool}{R R':Nat→Value}(h:fY W base b bf D sg s R)(hk:cE W W' b R R')(hb:base≤b)(hs:base≤W.heap.size):Below base W W':=by
 obtain⟨C,LL,h1,_⟩:=h;exact hk.below h1 hb hs
end
section
open Go.RowKit
def gM(LL:Nat→List Int):Nat→Int:=fun k=>if(LL 2).getD k 0=0 then(LL 4).getD k 0 else(LL 2).getD k 0
def jL(m:Nat)(g:Nat→Int)(N:Nat):List Int:=(List.range N).map fun j=>if 12+j<m then g (12+j) else 0
theorem wJ(m:Nat)(g:Nat→Int)(N:Nat):jL m g (N+1)=jL m g N++[if 12+N<m then g (12+N) else 0]:=by
 unfold jL;rw[List.range_succ,List.map_append];rfl
theorem DH(base b m:Nat)(C:Array Value)(R:Nat→Value)(LL:Nat→List Int)(cu sg:Int)(fu:Bool)(w:World)(h:Fm w base b C R LL cu sg fu)(hp:(LL 2).length=m+1)(hd:∀k,k<m→(LL 2).getD k 0=0→k<(LL 4).length)(hm:m≤16):
 Calls prog 39 #[.pointer (some ⟨b,0,none⟩),.int .i64 (m:Int)] w fun e w'=>∃v',e=.returned v'∧w'.ownsRow w.heap.size 3 1 v' 128 ((jL m (gM LL) 128).map (Value.int .i64))∧Below w.heap.size w w':=by
 obtain⟨i0,hi,hz0,hz1,hz2⟩:=info_parts eO;have B1:=ae (Below w.heap.size w (w.alloc (.cells #[] 3))) (ak.alloc aj _);have HO:=ae ((w.alloc (.cells #[] 3)).ownsRow w.heap.size 3 1 (.slice (some ⟨w.heap.size,0,none⟩) 0 0) 0 ((jL m (gM LL) 0).map (Value.int .i64))) (gN w 3 1);have HNow:=ae (∀W,Below w.heap.size w W→∀k:Nat,k<m→Calls prog 84 #[.pointer (some ⟨b,0,none⟩),.int .i64 (k:Int)] W fun e w'=>e=.returned (.int .i64 (gM LL k))∧w'=W) (fun W hW k hk=>wj base b k C R LL cu sg fu W (h.below hW) (by omega) (hd k hk) (by omega));clear h hp hd;go_enter func39,ntmps39;go_wp2;go_loopw [5,6] (fun v i wr=>∃(k:Nat) (xa:Option Addr) (xc:Nat),k≤128∧i=.int .i64 ((12+k:Nat):Int)∧v=.slice xa k xc∧Hid (wr.ownsRow w.heap.size 3 1 (.slice xa k xc) k ((jL m (gM LL) k).map (Value.int .i64))∧Below w.heap.size w wr)) (fun _ i _=>140-(intOf i).toNat)
 case atStart=>exact⟨0,_,_,by omega,rfl,rfl,aa ⟨HO.out,B1.out⟩⟩
 case round=>
  obtain⟨k,xa,xc,hk,rfl,rfl,HI⟩:=hrel;obtain⟨q,hq⟩:∃q:Nat,q=12+k:=⟨_,rfl⟩;rw[←hq];have hq1:12≤q:=by omega
  have HQ:=aa hq;have hws:w.heap.size≤wr.heap.size:=HI.out.2.size;by_cases hlt:q<140
  ·have hltI:(q:Int)<140:=(by omega);have hk2:k<128:=(by omega);by_cases hqm:q<m
   ·have hqI:(q:Int)<(m:Int):=(by omega);obtain⟨y,hy⟩:∃y,y=gM LL q:=⟨_,rfl⟩;have HY:=aa hy;have HCa:=aa (HNow.out wr HI.out.2 q hqm);rw[←hy] at HCa;have HR:=aa (HI.out.1.alloc (.cells #[.int .i64 y] 3));have B4:=ae (Below w.heap.size w (wr.alloc (.cells #[.int .i64 y] 3))) (HI.out.2.trans ((ak.alloc aj _).mono HI.out.2.size));clear hq hy;go_wp2_with (first
     |(
      go_at_call 84
      refine HCa.out.mono ?_;rintro e w3 ⟨rfl,hw3⟩;rw[hw3];clear hw3)
     |(
      at_builtin;refine wpList_append_own_at _ rfl (.tmp 15) (.tmp 19) 29 rfl w.heap.size 3 i0 (.int .i64 0) 1 8 underlying29 hi hz0 hz1 hz2 rfl (by decide) (.slice xa k xc) k _ rfl HR.out ⟨wr.heap.size,0,none⟩ 1 1 [.int .i64 y] rfl rfl (lT wr y) (by intro z hz;simp at hz;rcases hz with rfl;rfl) (by unfold maxLen;omega) (by omega) (by simp;omega) ?_
      intro v4 w4 o4 g4 _ _;obtain⟨va,vc,rfl⟩:=bK o4;have H4:=aa (ag o4 g4);clear o4 g4)
     |fail)
    go_roundw
    case rel=>
     refine⟨k+1,va,vc,by omega,by have:=HQ.out;rw[show 12+(k+1)=q+1 by omega];go_num,rfl,aa ⟨?_,B4.out.grown H4.out.2 B4.out.size (fun r e=>(HR.out.lt r e).1)⟩⟩;have h:=H4.out.1;rw[wJ, ←HQ.out,if_pos hqm, ←HY.out,List.map_append];exact h
    case measure=>simp[intOf];omega
   ·have hqI:¬((q:Int)<(m:Int)):=(by omega);have HR:=aa (HI.out.1.alloc (.cells #[.int .i64 0] 3));have B4:=ae (Below w.heap.size w (wr.alloc (.cells #[.int .i64 0] 3))) (HI.out.2.trans ((ak.alloc aj _).mono HI.out.2.size));clear hq;go_wp2_with (first
     |(
      at_builtin;refine wpList_append_own_at _ rfl (.tmp 21) (.tmp 22) 29 rfl w.heap.size 3 i0 (.int .i64 0) 1 8 underlying29 hi hz0 hz1 hz2 rfl (by decide) (.slice xa k xc) k _ rfl HR.out ⟨wr.heap.size,0,none⟩ 1 1 [.int .i64 0] rfl rfl (lT wr 0) (by intro z hz;simp at hz;rcases hz with rfl;rfl) (by unfold maxLen;omega) (by omega) (by simp;omega) ?_
      intro v4 w4 o4 g4 _ _;obtain⟨va,vc,rfl⟩:=bK o4;have H4:=aa (ag o4 g4);clear o4 g4)
     |fail)
    go_roundw
    case rel=>
     refine⟨k+1,va,vc,by omega,by have:=HQ.out;rw[show 12+(k+1)=q+1 by omega];go_num,rfl,aa ⟨?_,B4.out.grown H4.out.2 B4.out.size (fun r e=>(HR.out.lt r e).1)⟩⟩;have h:=H4.out.1;rw[wJ, ←HQ.out,if_neg hqm,List.map_append];exact h
    case measure=>simp[intOf];omega
  ·have hltI:¬((q:Int)<140):=(by omega);obtain rfl:k=128:=(by omega);clear hq;go_wp2;go_ret;exact⟨_,rfl,HI.out.1,HI.out.2⟩
def eE(n:Nat)(g:Nat→Int)(k:Nat):List Int:=(4*(n:Int))::(List.range 14).map (fun j=>if j<k then g j else 0)
theorem kH(n:Nat)(g:Nat→Int)(k:Nat):(aB (eE n g k)).size=15:=by simp[eE,fc]
theorem DI(n:Nat)(g:Nat→Int)(k:Nat)(h:k<14):(aB (eE n g k)).setIfInBounds (1+k) (.int .i64 (g k))=aB (eE n g (k+1)):=by
 apply Array.ext_getElem?;intro i;rw[Array.getElem?_setIfInBounds,kH];cases i with
 |zero=>
  rw[if_neg (by omega)];simp[eE,aB]
 |succ j=>
  by_cases e:1+k=j+1
  ·rw[if_pos e,if_pos (by omega)];obtain rfl:k=j:=(by omega);simp[eE,aB,h]
  ·rw[if_neg e];by_cases hj:j<14
   ·simp only[eE,aB,List.getElem?_toArray,List.map_cons,List.getElem?_cons_succ,List.getElem?_map,List.getElem?_range hj,Option.map_some];by_cases hjk:j<k
    ·rw[if_pos hjk,if_pos (by omega)]
    ·rw[if_neg hjk,if_neg (by omega)]
   ·simp[eE,aB,hj]
def gH(m n:Nat)(g:Nat→Int)(sp:Int):Array Value:=if 12<m then(aB (eE n g 12)).setIfInBounds 13 (.int .i64 sp) else aB (eE n g m)
theorem rD(m n:Nat)(g:Nat→Int)(sp:Int):(gH m n g sp).all (·.oneCell')=true:=by
 have h:∀(L:List Int),(aB L).all (·.oneCell')=true:=fun L=>jn _;unfold gH;split
 ·have e:(aB (eE n g 12)).setIfInBounds 13 (.int .i64 sp)=aB ((eE n g 12).set 13 sp):=by unfold aB;simp[List.map_set]
  rw[e];exact h _
 ·exact h _
theorem DJ(base b m n:Nat)(C:Array Value)(R:Nat→Value)(LL:Nat→List Int)(cu sg:Int)(fu:Bool)(w:World)(h:Fm w base b C R LL cu sg fu)(hp:(LL 2).length=m+1)(hd:∀k,k<m→(LL 2).getD k 0=0→k<(LL 4).length)(hm:m≤16)(hn:n≤2048):
 Calls prog 37 #[.pointer (some ⟨b,0,none⟩),.int .i64 (n:Int),.int .i64 (m:Int)] w fun e w'=>e=.returned (.agg (gH m n (gM LL) (if(LL 2).getD m 0=0 then sg else(LL 2).getD m 0)))∧Below w.heap.size w w':=by
 obtain⟨sp,hsp⟩:∃sp,sp=if(LL 2).getD m 0=0 then sg else(LL 2).getD m 0:=⟨_,rfl⟩;rw[←hsp];have HSP:=aa hsp;have HNow:=ae (∀W,Below w.heap.size w W→∀k:Nat,k<m→Calls prog 84 #[.pointer (some ⟨b,0,none⟩),.int .i64 (k:Int)] W fun e w'=>e=.returned (.int .i64 (gM LL k))∧w'=W) (fun W hW k hk=>wj base b k C R LL cu sg fu W (h.below hW) (by omega) (hd k hk) (by omega));have H:=aa (ag h hp);obtain⟨W2,hW2⟩:∃W2,W2=(w.alloc (.cells (aB (List.replicate 15 0)) 28)).alloc (.cells (aB (eE n (gM LL) 0)) 28):=⟨_,rfl⟩;clear h hp hd hsp;go_enter func37,ntmps37;go_upto_region 3 with fail;generalize hW:World.alloc (World.alloc w _) _=Wx;have HW:=ae (∃Z0:Array Value,Z0.size=15∧af Wx w.heap.size Z0 28∧af Wx (w.heap.size+1) (aB (eE n (gM LL) 0)) 28∧Below w.heap.size w Wx) (by
  rw[←hW];refine⟨_,rfl,(af.new w _ _).alloc _,?_,(ak.alloc aj _).alloc (by simp) _⟩;have h:=af.new (w.alloc (.cells #[.int .i64 0,.int .i64 0,.int .i64 0,.int .i64 0,.int .i64 0,.int .i64 0,.int .i64 0,.int .i64 0,.int .i64 0,.int .i64 0,.int .i64 0,.int .i64 0,.int .i64 0,.int .i64 0,.int .i64 0] 28)) (aB (eE n (gM LL) 0)) 28;rw[World.size_alloc] at h;exact h)
 clear hW hW2 W2;obtain⟨Z0,hz0,k0,k1,b0⟩:=HW.out;have H0:=aa (ag k0 (ag k1 b0));have HZ0:=aa hz0;clear HW hz0 k0 k1 b0;go_wp2;go_loopw [8] (fun i wr=>∃k:Nat,k≤m∧k≤12∧i=.int .i64 (k:Int)∧Hid (af wr w.heap.size Z0 28∧af wr (w.heap.size+1) (aB (eE n (gM LL) k)) 28∧Below w.heap.size w wr)) (fun i _=>12-(intOf i).toNat)
 case atStart=>exact⟨0,by omega,by omega,rfl,H0⟩
 case round=>
  obtain⟨k,hk1,hk2,rfl,HI⟩:=hrel;have hws:w.heap.size≤wr.heap.size:=HI.out.2.2.size;by_cases hkm:k<m
  ·have hkmI:(k:Int)<(m:Int):=(by omega);by_cases hk12:k<12
   ·have hkI:(k:Int)<12:=(by omega);obtain⟨y,hy⟩:∃y,y=gM LL k:=⟨_,rfl⟩;have HY:=aa hy;have HCa:=aa (HNow.out wr HI.out.2.2 k hkm);rw[←hy] at HCa;have ck:∃v,wr.cell? ⟨w.heap.size+1,1+k,none⟩=some v:=⟨_,(HI.out.2.1.cell (1+k)).trans (Array.getElem?_eq_getElem (by rw[kH];omega))⟩;obtain⟨v0,ck⟩:=ck;have fk:=HI.out.2.1.frozen (1+k);clear hy;go_wp2_with (first
     |(
      go_at_call 84
      refine HCa.out.mono ?_;rintro e w3 ⟨rfl,hw3⟩;rw[hw3];clear hw3)
     |fail)
    go_roundw
    case rel=>
     refine⟨k+1,by omega,by omega,by go_num,aa ⟨HI.out.1.other _ _ (show w.heap.size≠w.heap.size+1 by omega),?_,HI.out.2.2.setCell (p:=⟨w.heap.size+1,1+k,none⟩) (by simp) _⟩⟩;have h:=HI.out.2.1.set (1+k) (.int .i64 y);rw[HY.out,DI _ _ _ (by omega)] at h;rw[HY.out];exact h
    case measure=>simp[intOf];omega
   ·have hkI:¬((k:Int)<12):=(by omega);obtain rfl:k=12:=(by omega);have hmI:(12:Int)<(m:Int):=(by omega);have hF:=H.out.1.below HI.out.2.2;have hpl:=H.out.2;obtain⟨g2,q2,_,hg2,c11,hc2⟩:=hF.at (j:=2) (by omega) (by omega);have c11':wr.cell? ⟨b,11,none⟩=some (.slice (some ⟨g2,0,none⟩) (m+1) q2):=(by rw[←hpl];exact c11);have c3:wr.cell? ⟨b,3,none⟩=some (.int .i64 sg):=(hF.box.cell 3).trans hF.sing;have em:=(hc2 m (by omega)).1;have hb1:b≠w.heap.size+1:=fun e=>(by have:=H.out.1.box.lt;omega);have hg1:g2≠w.heap.size+1:=fun e=>(by have:=((H.out.1.row 2 (by omega)).lt g2 hg2).2;omega);have ck:∃v,wr.cell? ⟨w.heap.size+1,13,none⟩=some v:=⟨_,(HI.out.2.1.cell 13).trans (Array.getElem?_eq_getElem (by rw[kH];omega))⟩;obtain⟨v0,ck⟩:=ck;have fk:=HI.out.2.1.frozen 13;obtain⟨y,hy⟩:∃y,y=(LL 2).getD m 0:=⟨_,rfl⟩;have HY:=aa hy;rw[←hy] at em;obtain⟨w4,hw4⟩:∃w4,w4=wr.setCell ⟨w.heap.size+1,13,none⟩ (.int .i64 sg):=⟨_,rfl⟩;have d11:w4.cell? ⟨b,11,none⟩=some (.slice (some ⟨g2,0,none⟩) (m+1) q2):=(by rw[hw4];exact(World.cell?_of_block (a:=⟨b,11,none⟩) (Below.heap_setCell wr _ _ b (fun e=>hb1 e))).trans c11');have dm:w4.cell? ⟨g2,m,none⟩=some (.int .i64 y):=(by rw[hw4];exact(World.cell?_of_block (a:=⟨g2,m,none⟩) (Below.heap_setCell wr _ _ g2 (fun e=>hg1 e))).trans em);have K4:=ae (af w4 w.heap.size Z0 28∧af w4 (w.heap.size+1) ((aB (eE n (gM LL) 12)).setIfInBounds 13 (.int .i64 sg)) 28∧Below w.heap.size w w4) (by
     rw[hw4];exact⟨HI.out.1.other _ _ (show w.heap.size≠w.heap.size+1 by omega),HI.out.2.1.set 13 _,HI.out.2.2.setCell (p:=⟨w.heap.size+1,13,none⟩) (by simp) _⟩)
    have HW4:=aa hw4;clear hy hF hc2 c11 hw4 hpl;go_upto_region 8 with fail;rw[←HW4.out];clear c11' c3 em ck fk;by_cases hy0:y=0
    ·have hq:(y !=0)=false:=(by simp[hy0]);have HS0:=ae (sp=sg) (by rw[HSP.out, ←HY.out,if_pos hy0]);clear hy0;obtain⟨RF,hRF⟩:∃RF,RF=gH m n (gM LL) sp:=⟨_,rfl⟩;have HRF:=aa hRF;have HRs:=ae (RF.size=15) (by rw[hRF];unfold gH;split<;>simp[kH]);have HIn:=ae ((prog.info? 28).map (·.size)=some RF.size) (by rw[HRs.out];exact ot);have HO1:=ae (RF.all (·.oneCell')=true) (by rw[hRF];exact rD _ _ _ _);have HF:=ae (af w4 w.heap.size Z0 28∧af w4 (w.heap.size+1) RF 28∧Below w.heap.size w w4) (⟨K4.out.1,by rw[hRF];unfold gH;rw[if_pos (by omega),HS0.out];exact K4.out.2.1,K4.out.2.2⟩);clear hRF;go_wp2_with (first
     |(refine wpList_load_row rfl 28 _ rfl (w.heap.size+1) rfl 28 RF (0,0) _ HF.out.2.1 underlying28 rfl HIn.out ?_)
     |(refine wpList_store_row rfl 28 _ _ rfl w.heap.size RF rfl rfl 28 Z0 HF.out.1 HIn.out (by rw[HZ0.out,HRs.out]) HO1.out ?_)
     |fail)
     refine bodyPost_ret (v:=.agg RF) (results_cell_row rfl _ _ w.heap.size 28 _ (0,0) _ rfl (HF.out.1.row _) underlying28 rfl HIn.out) rfl ⟨by rw[HRF.out],below_setRow HF.out.2.2 aj _⟩
    ·have hq:(y !=0)=true:=(by simpa using hy0);have HS0:=ae (sp=y) (by rw[HSP.out, ←HY.out,if_neg hy0]);have ck:∃v,w4.cell? ⟨w.heap.size+1,13,none⟩=some v:=⟨_,(K4.out.2.1.cell 13).trans (Array.getElem?_eq_getElem (by rw[Array.size_setIfInBounds,kH];omega))⟩;obtain⟨v1,ck⟩:=ck;have fk:=K4.out.2.1.frozen 13;clear hy0;go_upto_region 10 with fail;obtain⟨w5,hw5⟩:∃w5,w5=w4.setCell ⟨w.heap.size+1,13,none⟩ (.int .i64 y):=⟨_,rfl⟩;rw[←hw5];have K5:=ae (af w5 w.heap.size Z0 28∧af w5 (w.heap.size+1) ((aB (eE n (gM LL) 12)).setIfInBounds 13 (.int .i64 y)) 28∧Below w.heap.size w w5) (by
      rw[hw5];refine⟨K4.out.1.other _ _ (show w.heap.size≠w.heap.size+1 by omega),?_,K4.out.2.2.setCell (p:=⟨w.heap.size+1,13,none⟩) (by simp) _⟩;have h:=K4.out.2.1.set 13 (.int .i64 y);rw[show((aB (eE n (gM LL) 12)).setIfInBounds 13 (.int .i64 sg)).setIfInBounds 13 (.int .i64 y)=(aB (eE n (gM LL) 12)).setIfInBounds 13 (.int .i64 y) by simp] at h;exact h)
     clear hw5 ck fk d11 dm;obtain⟨RF,hRF⟩:∃RF,RF=gH m n (gM LL) sp:=⟨_,rfl⟩;have HRF:=aa hRF;have HRs:=ae (RF.size=15) (by rw[hRF];unfold gH;split<;>simp[kH]);have HIn:=ae ((prog.info? 28).map (·.size)=some RF.size) (by rw[HRs.out];exact ot);have HO1:=ae (RF.all (·.oneCell')=true) (by rw[hRF];exact rD _ _ _ _);have HF:=ae (af w5 w.heap.size Z0 28∧af w5 (w.heap.size+1) RF 28∧Below w.heap.size w w5) (⟨K5.out.1,by rw[hRF];unfold gH;rw[if_pos (by omega),HS0.out];exact K5.out.2.1,K5.out.2.2⟩);clear hRF;go_wp2_with (first
     |(refine wpList_load_row rfl 28 _ rfl (w.heap.size+1) rfl 28 RF (0,0) _ HF.out.2.1 underlying28 rfl HIn.out ?_)
     |(refine wpList_store_row rfl 28 _ _ rfl w.heap.size RF rfl rfl 28 Z0 HF.out.1 HIn.out (by rw[HZ0.out,HRs.out]) HO1.out ?_)
     |fail)
     refine bodyPost_ret (v:=.agg RF) (results_cell_row rfl _ _ w.heap.size 28 _ (0,0) _ rfl (HF.out.1.row _) underlying28 rfl HIn.out) rfl ⟨by rw[HRF.out],below_setRow HF.out.2.2 aj _⟩
  ·have hkmI:¬((k:Int)<(m:Int)):=(by omega);obtain rfl:k=m:=(by omega);have hg12:¬((12:Int)<(k:Int)):=(by omega);obtain⟨RF,hRF⟩:∃RF,RF=gH k n (gM LL) sp:=⟨_,rfl⟩;have HRF:=aa hRF;have HRs:=ae (RF.size=15) (by rw[hRF];unfold gH;split<;>simp[kH]);have HIn:=ae ((prog.info? 28).map (·.size)=some RF.size) (by rw[HRs.out];exact ot);have HO1:=ae (RF.all (·.oneCell')=true) (by rw[hRF];exact rD _ _ _ _);have HF:=ae (af wr w.heap.size Z0 28∧af wr (w.heap.size+1) RF 28∧Below w.heap.size w wr) (⟨HI.out.1,by rw[hRF];unfold gH;rw[if_neg (by omega)];exact HI.out.2.1,HI.out.2.2⟩);clear hRF;go_wp2_with (first
    |(refine wpList_load_row rfl 28 _ rfl (w.heap.size+1) rfl 28 RF (0,0) _ HF.out.2.1 underlying28 rfl HIn.out ?_)
    |(refine wpList_store_row rfl 28 _ _ rfl w.heap.size RF rfl rfl 28 Z0 HF.out.1 HIn.out (by rw[HZ0.out,HRs.out]) HO1.out ?_)
    |fail)
   refine bodyPost_ret (v:=.agg RF) (results_cell_row rfl _ _ w.heap.size 28 _ (0,0) _ rfl (HF.out.1.row _) underlying28 rfl HIn.out) rfl ⟨by rw[HRF.out],below_setRow HF.out.2.2 aj _⟩
end
end Go.Proofs.YtlimollpocagiaaGreatDoor
