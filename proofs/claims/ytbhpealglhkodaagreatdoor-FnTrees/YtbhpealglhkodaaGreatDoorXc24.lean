/- The program's renewal: the supply of numbers, the renewal in memory, fresh -/
import Derived.Test.YtbhpealglhkodaaGreatDoorXc22
import Derived.Test.YtbhpealglhkodaaGreatDoorXc23
namespace Go.Proofs.YtbhpealglhkodaaGreatDoor
set_option linter.all false
set_option maxRecDepth 100000
set_option maxHeartbeats 16000000
section
open Go.RowKit
def Sup(W0 W:World)(fv:Value):Option (List Int)→Prop
 |none=>fv=.func (.func 48) #[] #[]
 |some L=>∃g a cap,fv=.func (.func 66) #[] #[.pointer (some ⟨g,0,none⟩)]∧W0.heap.size≤g∧Blk W g #[.slice a L.length cap] 26∧Rd .i64 W0 (.slice a L.length cap) L
def supN:Option (List Int)→Int
 |none=> -1
 |some []=>0
 |some (x::_)=>x
def supB:Option (List Int)→Bool
 |none=>true
 |some []=>false
 |some (_::_)=>true
def supT:Option (List Int)→Option (List Int)
 |none=>none
 |some []=>some []
 |some (_::xs)=>some xs
theorem unlike_any(w:World):Calls Tryz.prog 48 #[] w fun e w'=>e=.returned (.tuple #[.int .i64 (-1),.bool true])∧w=w':=by
 go_enter Tryz.func48,Tryz.ntmps48;go_wp2;go_ret2;exact⟨rfl,rfl⟩
theorem supply_none(g:Nat)(a:Option Addr)(cap:Nat)(w:World)(h:Blk w g #[.slice a 0 cap] 26):Calls Tryz.prog 66 #[.pointer (some ⟨g,0,none⟩)] w fun e w'=>e=.returned (.tuple #[.int .i64 0,.bool false])∧w=w':=by
 have c0:=(h.cell 0).trans (show _=some (.slice a 0 cap) from rfl);clear h;go_enter Tryz.func66,Tryz.ntmps66;go_wp2;go_ret2;exact⟨rfl,rfl⟩
theorem supply_some(g bd off n cap:Nat)(x:Int)(w:World)(h:Blk w g #[.slice (some ⟨bd,off,none⟩) (n+1) cap] 26)(hc:n+1≤cap)(hm:cap≤maxLen)(hx:w.cell? ⟨bd,off,none⟩=some (.int .i64 x)):
 Calls Tryz.prog 66 #[.pointer (some ⟨g,0,none⟩)] w fun e w'=>e=.returned (.tuple #[.int .i64 x,.bool true])∧∃a',(cap≠1→a'=some ⟨bd,off+1,none⟩)∧w'=w.setCell ⟨g,0,none⟩ (.slice a' n (cap-1)):=by
 have c0:=(h.cell 0).trans (show _=some (.slice (some ⟨bd,off,none⟩) (n+1) cap) from rfl);have f0:=h.frozen 0;unfold maxLen at hm;clear h;go_enter Tryz.func66,Tryz.ntmps66;by_cases hc1:cap=1
 ·subst hc1;obtain rfl:n=0:=by omega
  go_wp2;go_ret2;exact⟨rfl,_,fun h=>absurd rfl h,rfl⟩
 ·go_wp2;go_ret2;exact⟨rfl,_,fun _=>rfl,rfl⟩
def neR(x:Int×List Int):NE:=([.int .i64 x.1],x.2)
structure RD where
 tr:Array Value
 cv:Value
 Lo:Nat→List Int
 Ln:Nat→List Int
 P:List (Int×List Int)
 sh:Bool
 st:Option (List Int)
structure RStC(W0 W:World)(b:Nat)(D:RD)(C:Array Value)(so sl:Nat→Value)(fv pv:Value)(vs:List Value):Prop where
 trs:D.tr.size=16
 size:C.size=26
 tr:∀i,i<16→C[i]?=D.tr[i]?
 cv:C[16]?=some D.cv
 old:NumS W W0.heap.size b 17 C 79 so D.Lo
 now:NumS W W0.heap.size b 20 C 79 sl D.Ln
 apart:∀l m,l<3→m<3→(so l).ownBlock=none∨(so l).ownBlock≠(sl m).ownBlock
 fn:C[23]?=some fv
 sup:Sup W0 W fv D.st
 ps:C[24]?=some pv
 puts:OwnN W W0.heap.size 57 1 pv (D.P.map neR) vs
 sh:C[25]?=some (.bool D.sh)
 lo:W0.heap.size≤b
 low:Below W0.heap.size W0 W
def RSt(W0 W:World)(b:Nat)(D:RD):Prop:=∃C so sl fv pv vs,RStC W0 W b D C so sl fv pv vs
theorem Sup.below{W0 W W':World}{fv:Value}{st:Option (List Int)}(h:Sup W0 W fv st)(hb:Below W.heap.size W W'):Sup W0 W' fv st:=by
 cases st with
 |none=>exact h
 |some L=>
  obtain⟨g,a,cap,h1,h2,h3,h4⟩:=h;exact⟨g,a,cap,h1,h2,h3.below hb h3.lt,h4⟩
theorem RStC.below{W0 W W':World}{b:Nat}{D:RD}{C:Array Value}{so sl:Nat→Value}{fv pv:Value}{vs:List Value}(h:RStC W0 W b D C so sl fv pv vs)(hb:Below W.heap.size W W'):RStC W0 W' b D C so sl fv pv vs:=
 ⟨h.trs,h.size,h.tr,h.cv,h.old.below hb,h.now.below hb,h.apart,h.fn,h.sup.below hb,h.ps,h.puts.below hb,h.sh,h.lo,h.low.trans (hb.mono h.low.size)⟩
theorem RSt.below{W0 W W':World}{b:Nat}{D:RD}(h:RSt W0 W b D)(hb:Below W.heap.size W W'):RSt W0 W' b D:=by
 obtain⟨C,so,sl,fv,pv,vs,h⟩:=h;exact⟨C,so,sl,fv,pv,vs,h.below hb⟩
theorem NumS.kpy{T:TypeId→Prop}{W W':World}{base b off:Nat}{C C':Array Value}{t:TypeId}{sl:Nat→Value}{Ls:Nat→List Int}(h:NumS W base b off C t sl Ls)(k:KpY T W W')(hT:¬T 3)(hB:Blk W' b C' t)(hC:∀l,l<3→C'[off+l]?=C[off+l]?):NumS W' base b off C' t sl Ls:=
 ⟨hB,fun l hl=>(hC l hl).trans (h.at_ l hl),fun l hl=>k.own (h.row l hl) hT,h.apart⟩
def TyF(t:TypeId):Prop:=t=79∨t=26∨t=57
def TyR(t:TypeId):Prop:=t=79∨t=26∨t=57∨t=3
theorem KpY.weaker{T T':TypeId→Prop}{W W':World}(h:KpY T W W')(hT:∀t,T t→T' t):KpY T' W W':=fun b hb hn=>h b hb (fun c t s hc ht=>hn c t s hc (hT t ht))
def Apt(w:World)(b X:Nat):Prop:=∀l,l<3→∀v,w.cell? ⟨b,20+l,none⟩=some v→v.ownBlock≠some X
def FrR(b:Nat)(w w':World):Prop:=KpY TyR w w'∧(b<w.heap.size→b<w'.heap.size∧∀X C,Blk w X C 3→Apt w b X→Blk w' X C 3∧Apt w' b X)∧(w'.os=w.os∧w'.tape=w.tape∧w'.output=w.output∧w.heap.size≤w'.heap.size)
theorem FrR.refl(b:Nat)(w:World):FrR b w w:=⟨KpY.refl _ _,fun h=>⟨h,fun X C h1 h2=>⟨h1,h2⟩⟩,rfl,rfl,rfl,Nat.le_refl _⟩
theorem FrR.trans{b:Nat}{w w' w2:World}(h:FrR b w w')(k:FrR b w' w2):FrR b w w2:=
 ⟨h.1.trans k.1,fun hb=>by
  obtain⟨h1,h2⟩:=h.2.1 hb;obtain⟨k1,k2⟩:=k.2.1 h1;exact⟨k1,fun X C x1 x2=>k2 X C (h2 X C x1 x2).1 (h2 X C x1 x2).2⟩,k.2.2.1.trans h.2.2.1,k.2.2.2.1.trans h.2.2.2.1,k.2.2.2.2.1.trans h.2.2.2.2.1,Nat.le_trans h.2.2.2.2.2 k.2.2.2.2.2⟩
theorem FrR.of_below{b:Nat}{w w':World}(h:Below w.heap.size w w'):FrR b w w':=
 ⟨(KpY.refl _ _).below h,fun hb=>⟨Nat.lt_of_lt_of_le hb h.size,fun X C h1 h2=>⟨h1.below h h1.lt,fun l hl v hv=>h2 l hl v ((h.cell (p:=⟨b,20+l,none⟩) hb).symm.trans hv)⟩⟩,h.os,h.tape,h.output,h.size⟩
theorem FrR.below{b:Nat}{w w' w2:World}(h:FrR b w w')(k:Below w'.heap.size w' w2):FrR b w w2:=h.trans (FrR.of_below k)
theorem FrR.blk{b d:Nat}{w w':World}{C:Array Value}{t:TypeId}(h:FrR b w w')(hB:Blk w d C t)(hT:¬TyR t):Blk w' d C t:=h.1.blk hB hT
theorem FrR.of_fresh{b:Nat}{w w':World}(h:KpY TyF w w'){n:Nat}(hs:Below n w w')(hc:∀l,l<3→w'.cell? ⟨b,20+l,none⟩=w.cell? ⟨b,20+l,none⟩):FrR b w w':=
 ⟨h.weaker (fun t ht=>by unfold TyR;unfold TyF at ht;rcases ht with ht|ht|ht<;>simp[ht]),fun hb=>⟨Nat.lt_of_lt_of_le hb hs.size,fun X C h1 h2=>⟨h.blk h1 (by unfold TyF;decide),fun l hl v hv=>h2 l hl v ((hc l hl).symm.trans hv)⟩⟩,hs.os,hs.tape,hs.output,hs.size⟩
theorem FrR.kq{b n₀ z:Nat}{w0 w w':World}(h:FrR b w w')(h1:Below n₀ w0 w)(h2:Below n₀ w0 w'):Kq n₀ z TyR w w':=
 ⟨⟨h.2.2.1,h.2.2.2.1,h.2.2.2.2.1,h.2.2.2.2.2,fun k hk=>(h2.block k hk).trans (h1.block k hk).symm⟩,fun k cs t fr hk ht=>(h.1 k (Array.getElem?_eq_some_iff.1 hk).1 (fun c t' s hc=>by rw[hk] at hc;cases hc;exact ht)).trans hk,fun k o hz hk hc=>(h.1 k (Array.getElem?_eq_some_iff.1 hk).1 (fun c t' s hc'=>by rw[hk] at hc';cases hc';cases hc)).trans hk,h.2.2.2.2.2⟩
def RD.fresh(D:RD)(ys:List Int):RD:=if supB D.st=true then {D with P:=D.P++[(supN D.st,ys)],st:=supT D.st} else {D with sh:=true,st:=supT D.st}
theorem infoPut:(Tryz.prog.info? 57).map (fun i=>(i.zero,i.size,i.bytes))=some (some (.agg #[.int .i64 0,.slice none 0 0]),2,32):=by kernel_rfl
theorem OwnN.ltR{W:World}{base:Nat}{e:TypeId}{m:Nat}{v:Value}{L:List NE}{vs:List Value}(h:OwnN W base e m v L vs){i:Nat}{u:Value}{b:Nat}(hu:vs[i]?=some u)(hb:u.ownBlock=some b):base≤b∧b<W.heap.size:=by
 have hi:i<L.length:=by rw[←h.len];exact(List.getElem?_eq_some_iff.1 hu).1
 exact(h.dat i u L[i] hu (List.getElem?_eq_getElem hi)).lt b hb
theorem cells_newR(w:World)(C:Array Value)(t:TypeId):∀j u,C.toList[j]?=some u→(w.alloc (.cells C t)).cell? (Addr.add ⟨w.heap.size,0,none⟩ j)=some u:=by
 intro j u h;rw[Addr.add_mid,Nat.zero_add,(Blk.new w C t).cell j];simpa using h
theorem blk_same{w:World}{b d:Nat}{C C':Array Value}{t t':TypeId}(h:Blk w b C t)(k:Blk w d C' t')(e:b=d):t=t':=by
 subst e;have h1:w.heap[b]?=some (.cells C t (0,0)):=h;have h2:w.heap[b]?=some (.cells C' t' (0,0)):=k;rw[h1] at h2;injection h2 with h2;injection h2 with _ h2 _
theorem blk_over{w w1:World}{b g:Nat}{C G:Array Value}{t u:TypeId}{v:Value}(hw:w1=w.setCell ⟨g,0,none⟩ v)(hg:Blk w g G u)(h:Blk w b C t)(ht:t≠u):Blk w1 b C t:=by
 rw[hw];exact h.other _ _ (fun e=>ht (blk_same h hg e))
theorem sup_tail{W:World}{bd off:Nat}{x:Int}{xs:List Int}{cap:Nat}{a':Option Addr}(h:Rd .i64 W (.slice (some ⟨bd,off,none⟩) (x::xs).length cap) (x::xs))(ha:cap≠1→a'=some ⟨bd,off+1,none⟩):Rd .i64 W (.slice a' xs.length (cap-1)) xs:=by
 obtain⟨bd',off',cap',e,h1,h2,h3,h4⟩:=h.partsC (by simp);injection e with e1 e2 e3;subst e3;rcases Nat.eq_zero_or_pos xs.length with h0|h0
 ·obtain rfl:xs=[]:=List.eq_nil_of_length_eq_zero h0;exact⟨a',cap-1,rfl,by simp,fun h=>absurd rfl h,by simp,by omega⟩
 ·simp at h2;have hc:=ha (by omega);subst hc;have hh:=Rd.cut2 1 xs.length h h0 (by simp;omega);simpa using hh
theorem Sup.kpyG{W0 W A E:World}{fv:Value}{L:List Int}{b:Nat}{C:Array Value}{v:Value}(h:Sup W0 W fv (some L))(k:Blk A b C 79)(y:KpY TyF E (A.setCell ⟨b,24,none⟩ v))(y4:KpY (fun t=>t=57) E A)(hb:Below W.heap.size W E):Sup W0 (A.setCell ⟨b,24,none⟩ v) fv (some L):=by
 obtain⟨g,a,cap,h1,h2,h3,h4⟩:=h;have k3:=y4.blk (h3.below hb h3.lt) (by decide);exact⟨g,a,cap,h1,h2,k3.other _ _ (fun e=>absurd (blk_same k3 k e) (by decide)),h4⟩
theorem fresh_any(W0 wA w:World)(b:Nat)(D:RD)(da:Option Addr)(n dc:Nat)(ys:List Int)(h:RSt W0 wA b D)(hb:Below wA.heap.size wA w)(hn:n=ys.length)(hd:w.ownsRow wA.heap.size 5 1 (.slice da ys.length dc) ys.length (ys.map (Value.int .u8)))(hP:D.P.length≤100000):
 Calls Tryz.prog 108 #[.pointer (some ⟨b,0,none⟩),.slice da n dc] w fun e w'=>e=.returned (.int .i64 (supN D.st))∧RSt W0 w' b (D.fresh ys)∧KpY TyF w w'∧Below W0.heap.size w w'∧(∀l,l<3→w'.cell? ⟨b,20+l,none⟩=w.cell? ⟨b,20+l,none⟩):=by
 obtain⟨tr,cv,Lo,Ln,P,sh,st⟩:=D;obtain⟨C,so,sl,fv,pv,vs,hA⟩:=h;have HA:=hide hA;have HS:=hide (hA.below hb);clear hA;obtain⟨i0,hi,hz0,hz1,hz2⟩:=info_parts infoPut;obtain⟨pa,pc,rfl⟩:=own_shape HS.out.puts.row;obtain⟨pn,hpn⟩:∃pn,pn=P.length:=⟨_,rfl⟩;have hP2:pn≤100000:=by rw[hpn];exact hP
 simp only[List.length_map, ←hpn] at HA HS;have c24:=(HS.out.now.box.cell 24).trans HS.out.ps;have c25:=(HS.out.now.box.cell 25).trans HS.out.sh;have f25:=HS.out.now.box.frozen 25;have c23:=(HS.out.now.box.cell 23).trans HS.out.fn;have HN:=hide hn;have HPN:=hide hpn;clear hP hn hpn;cases st with
 |none=>
  have hfv:fv=.func (.func 48) #[] #[]:=HS.out.sup;subst hfv;have HS1:=hide HS.out;have HY1:=hide (KpY.refl TyF w);have HB1:=hide (Below.refl W0.heap.size w);go_enter Tryz.func108,Tryz.ntmps108;go_upto_region 5 with(first|(go_at_call 48;refine(unlike_any _).mono ?_;rintro e w' ⟨rfl,rfl⟩)|fail)
  clear c23 c24 c25 f25;have hS1:=HS1.out;have hsz1:wA.heap.size≤w.heap.size:=Nat.le_trans hb.size HB1.out.size;have hlo1:=hS1.low.size;have c24:=(hS1.now.box.cell 24).trans hS1.ps;have HD1:=hide (show w.ownsRow wA.heap.size 5 1 (.slice da ys.length dc) ys.length (ys.map (Value.int .u8)) from HY1.out.own hd (by unfold TyF;decide));have B2:=hide (show Below w.heap.size w (w.alloc (.cells #[.int .i64 (-1),.slice da n dc] 57)) from(Below.refl _ _).alloc (Nat.le_refl _) _);have S2:=hide (hS1.below B2.out);have R2:=hide S2.out.puts.row;rw[List.length_map, ←HPN.out] at R2;clear hS1;go_wp2_with (first
   |(at_builtin;go_loud (refine wpList_append_own_at _ rfl (.tmp 24) (.tmp 28) 28 rfl W0.heap.size 57 i0 (.agg #[.int .i64 0,.slice none 0 0]) 2 32 Tryz.underlying28 hi hz0 hz1 hz2 rfl (by decide) (.slice pa pn pc) pn _ rfl R2.out ⟨w.heap.size,0,none⟩ 1 1 [.int .i64 (-1),.slice da n dc] rfl rfl (cells_newR w #[.int .i64 (-1),.slice da n dc] 57) (by intro y hy;simp at hy;rcases hy with rfl|rfl<;>rfl) (by unfold maxLen;omega) (by omega) (by simp;omega) ?_;intro v4 w4 o4 g4 _ _;obtain⟨va4,vc4,rfl⟩:=own_shape o4;have O4:=hide (And.intro o4 g4);have k4:Blk w4 b C 79:=(KpY.ownrow (T:=fun t=>t=57) (KpY.refl _ _) R2.out rfl g4).blk S2.out.now.box (by decide);have c4:=k4.cell 24;have f4:=k4.frozen 24;rw[Array.getElem?_eq_getElem (by have:=HS.out.size;omega)] at c4;have K4:=hide k4;clear o4 g4 k4))
   |fail)
  clear c4 f4;have Y4:=hide (show KpY (fun t=>t=57) (w.alloc (.cells #[.int .i64 (-1),.slice da n dc] 57)) w4 from(KpY.refl _ _).ownrow R2.out rfl O4.out.2);have A4:=hide (show OwnN w4 W0.heap.size 57 1 (.slice va4 (pn+1) vc4) ((P++[((-1),ys)]).map neR) (vs++[.slice da n dc]) from by
   rw[List.map_append];show OwnN _ _ _ _ _ (_++[neR ((-1),ys)]) _;have hh:=S2.out.puts.push (by decide) (neR ((-1),ys)) (.slice da n dc) rfl (by have:=own_below (own_mono HD1.out (by have:=HA.out.low.size;omega)) B2.out;have e:=HN.out;subst e;exact this) (fun j x k hx hk e=>by have h1:=(HD1.out.lt k (by rw[←e,HN.out])).1;have h2:=(HA.out.puts.ltR hx hk).2;omega) (by rw[List.length_map, ←HPN.out];exact O4.out.1) O4.out.2;exact hh)
  have K5:=hide (K4.out.set 24 (.slice va4 (pn+1) vc4));have Y5:=hide (show KpY TyF w (w4.setCell ⟨b,24,none⟩ (.slice va4 (pn+1) vc4)) from(((HY1.out.below B2.out).trans (Y4.out.weaker (fun t h=>.inr (.inr h)))).setCell K4.out (.inl rfl)));have Y5b:=hide (show KpY (fun t=>t=79) w4 (w4.setCell ⟨b,24,none⟩ (.slice va4 (pn+1) vc4)) from(KpY.refl _ _).setCell K4.out rfl);have Y5c:=hide (show KpY TyF (w.alloc (.cells #[.int .i64 (-1),.slice da n dc] 57)) (w4.setCell ⟨b,24,none⟩ (.slice va4 (pn+1) vc4)) from((Y4.out.weaker (fun t h=>.inr (.inr h))).setCell K4.out (.inl rfl)));have B5:=hide (show Below W0.heap.size w (w4.setCell ⟨b,24,none⟩ (.slice va4 (pn+1) vc4)) from(((HB1.out.trans (B2.out.mono (by omega))).grown O4.out.2 (by simp;omega) (fun r e=>(R2.out.lt r e).1))).setCell (p:=⟨b,24,none⟩) HS.out.lo _);go_wp2;go_ret;refine⟨rfl,⟨C.setIfInBounds 24 (.slice va4 (pn+1) vc4),so,sl,.func (.func 48) #[] #[],.slice va4 (pn+1) vc4,vs++[.slice da n dc],⟨HS.out.trs,by rw[Array.size_setIfInBounds];exact HS.out.size,fun i hi=>?_,?_,?_,?_,HS.out.apart,?_,?_,?_,?_,?_,HS.out.lo,HS.out.low.trans B5.out⟩⟩,Y5.out,B5.out,fun l hl=>((K5.out.cell (20+l)).trans (Array.getElem?_setIfInBounds_ne (by omega))).trans (HS.out.now.box.cell (20+l)).symm⟩
  ·rw[Array.getElem?_setIfInBounds_ne (by omega)];exact HS.out.tr i hi
  ·rw[Array.getElem?_setIfInBounds_ne (by omega)];exact HS.out.cv
  ·exact S2.out.old.kpy Y5c.out (by unfold TyF;decide) K5.out (fun l hl=>Array.getElem?_setIfInBounds_ne (by omega))
  ·exact S2.out.now.kpy Y5c.out (by unfold TyF;decide) K5.out (fun l hl=>Array.getElem?_setIfInBounds_ne (by omega))
  ·rw[Array.getElem?_setIfInBounds_ne (by omega)];exact HS.out.fn
  ·rfl
  ·rw[Array.getElem?_setIfInBounds_self_of_lt (by have:=HS.out.size;omega)]
  ·exact Y5b.out.ownN A4.out (by decide) (by decide)
  ·rw[Array.getElem?_setIfInBounds_ne (by omega)];exact HS.out.sh
 |some L=>
  obtain⟨g,la,lc,rfl,hg,hgB,hgR⟩:=HS.out.sup;have HG:=hide (And.intro hg (And.intro hgB hgR));cases L with
  |nil=>
   clear hg hgB hgR;have hb0:Blk w g #[.slice la 0 lc] 26:=HG.out.2.1;have HB0:=hide hb0;clear hb0;have K5:=hide (HS.out.now.box.set 25 (.bool true));have Y5:=hide (show KpY TyF w (w.setCell ⟨b,25,none⟩ (.bool true)) from(KpY.refl _ _).setCell HS.out.now.box (.inl rfl));have B5:=hide (show Below W0.heap.size w (w.setCell ⟨b,25,none⟩ (.bool true)) from(Below.refl _ _).setCell (p:=⟨b,25,none⟩) HS.out.lo _);go_enter Tryz.func108,Tryz.ntmps108;go_wp2_with (first|(go_at_call 66;refine(supply_none _ _ _ _ HB0.out).mono ?_;rintro e w' ⟨rfl,rfl⟩)|fail);go_ret;refine⟨rfl,⟨C.setIfInBounds 25 (.bool true),so,sl,.func (.func 66) #[] #[.pointer (some ⟨g,0,none⟩)],.slice pa pn pc,vs,⟨HS.out.trs,by rw[Array.size_setIfInBounds];exact HS.out.size,fun i hi=>?_,?_,?_,?_,HS.out.apart,?_,?_,?_,?_,?_,HS.out.lo,HS.out.low.trans B5.out⟩⟩,Y5.out,B5.out,fun l hl=>((K5.out.cell (20+l)).trans (Array.getElem?_setIfInBounds_ne (by omega))).trans (HS.out.now.box.cell (20+l)).symm⟩
   ·rw[Array.getElem?_setIfInBounds_ne (by omega)];exact HS.out.tr i hi
   ·rw[Array.getElem?_setIfInBounds_ne (by omega)];exact HS.out.cv
   ·exact HS.out.old.kpy Y5.out (by unfold TyF;decide) K5.out (fun l hl=>Array.getElem?_setIfInBounds_ne (by omega))
   ·exact HS.out.now.kpy Y5.out (by unfold TyF;decide) K5.out (fun l hl=>Array.getElem?_setIfInBounds_ne (by omega))
   ·rw[Array.getElem?_setIfInBounds_ne (by omega)];exact HS.out.fn
   ·exact⟨g,la,lc,rfl,HG.out.1,HB0.out.other _ _ (fun e=>absurd (blk_same HB0.out HS.out.now.box e) (by decide)),HG.out.2.2⟩
   ·rw[Array.getElem?_setIfInBounds_ne (by omega)];exact HS.out.ps
   ·exact(KpY.setCell (T:=fun t=>t=79) (KpY.refl _ _) HS.out.now.box rfl).ownN HS.out.puts (by decide) (by decide)
   ·rw[Array.getElem?_setIfInBounds_self_of_lt (by have:=HS.out.size;omega)];rfl
  |cons x xs=>
   obtain⟨bd,off,cp,ee,hbw,hcl,hcm,hcell⟩:=hgR.partsC (by simp);injection ee with e1 e2 e3;subst e1 e3;have hgR0:=hgR;obtain⟨xl,hxl⟩:∃xl,xl=xs.length:=⟨_,rfl⟩;have hb0:Blk w g #[.slice (some ⟨bd,off,none⟩) (xl+1) lc] 26:=(by rw[hxl];exact HG.out.2.1);have HB0:=hide hb0;have HX:=hide (show w.cell? ⟨bd,off,none⟩=some (.int .i64 x) from(HS.out.low.cell (p:=⟨bd,off,none⟩) hbw).trans (by simpa using hcell 0 (by simp)));have HCl:=hide (show xl+1≤lc from by rw[hxl];simpa using hcl);have HXL:=hide hxl;have HCM:=hide hcm;clear hg hgB hgR hb0 hcell hcl e2 hxl hcm hgR0;go_enter Tryz.func108,Tryz.ntmps108;go_upto_region 1 with fail;go_wp2_with (go_at_call 66;fail);refine(supply_some g bd off xl lc x w HB0.out HCl.out HCM.out HX.out).mono ?_;rintro e w1 ⟨rfl,a1,ha1,hw1⟩;have HY1:=hide (show KpY TyF w w1 from by rw[hw1];exact(KpY.refl _ _).setCell HB0.out (.inr (.inl rfl)));have HB1:=hide (show Below W0.heap.size w w1 from by rw[hw1];exact(Below.refl _ _).setCell (p:=⟨g,0,none⟩) HG.out.1 _);have HSup:=hide (show Sup W0 w1 (.func (.func 66) #[] #[.pointer (some ⟨g,0,none⟩)]) (some xs) from⟨g,a1,lc-1,rfl,HG.out.1,by rw[hw1, ←HXL.out];exact HB0.out.set 0 _,sup_tail HG.out.2.2 ha1⟩);have HS1:=hide (show RStC W0 w1 b {tr,cv,Lo,Ln,P,sh,st:=some xs} C so sl _ _ vs from⟨HS.out.trs,HS.out.size,HS.out.tr,HS.out.cv,HS.out.old.kpy HY1.out (by unfold TyF;decide) (blk_over hw1 HB0.out HS.out.now.box (by decide)) (fun l hl=>rfl),HS.out.now.kpy HY1.out (by unfold TyF;decide) (blk_over hw1 HB0.out HS.out.now.box (by decide)) (fun l hl=>rfl),HS.out.apart,HS.out.fn,HSup.out,HS.out.ps,(show KpY (fun t=>t=26) w w1 from by rw[hw1];exact(KpY.refl _ _).setCell HB0.out rfl).ownN HS.out.puts (by decide) (by decide),HS.out.sh,HS.out.lo,HS.out.low.trans HB1.out⟩);clear hw1 ha1 c23 c24 c25 f25 HX HCl HCM HXL HB0;go_upto_region 5 with fail;have hS1:=HS1.out;have hsz1:wA.heap.size≤w1.heap.size:=Nat.le_trans hb.size HB1.out.size;have hlo1:=hS1.low.size;have c24:=(hS1.now.box.cell 24).trans hS1.ps;have HD1:=hide (show w1.ownsRow wA.heap.size 5 1 (.slice da ys.length dc) ys.length (ys.map (Value.int .u8)) from HY1.out.own hd (by unfold TyF;decide));have B2:=hide (show Below w1.heap.size w1 (w1.alloc (.cells #[.int .i64 x,.slice da n dc] 57)) from(Below.refl _ _).alloc (Nat.le_refl _) _);have S2:=hide (hS1.below B2.out);have R2:=hide S2.out.puts.row;rw[List.length_map, ←HPN.out] at R2;clear hS1;go_wp2_with (first
    |(at_builtin;go_loud (refine wpList_append_own_at _ rfl (.tmp 24) (.tmp 28) 28 rfl W0.heap.size 57 i0 (.agg #[.int .i64 0,.slice none 0 0]) 2 32 Tryz.underlying28 hi hz0 hz1 hz2 rfl (by decide) (.slice pa pn pc) pn _ rfl R2.out ⟨w1.heap.size,0,none⟩ 1 1 [.int .i64 x,.slice da n dc] rfl rfl (cells_newR w1 #[.int .i64 x,.slice da n dc] 57) (by intro y hy;simp at hy;rcases hy with rfl|rfl<;>rfl) (by unfold maxLen;omega) (by omega) (by simp;omega) ?_;intro v4 w4 o4 g4 _ _;obtain⟨va4,vc4,rfl⟩:=own_shape o4;have O4:=hide (And.intro o4 g4);have k4:Blk w4 b C 79:=(KpY.ownrow (T:=fun t=>t=57) (KpY.refl _ _) R2.out rfl g4).blk S2.out.now.box (by decide);have c4:=k4.cell 24;have f4:=k4.frozen 24;rw[Array.getElem?_eq_getElem (by have:=HS.out.size;omega)] at c4;have K4:=hide k4;clear o4 g4 k4))
    |fail)
   clear c4 f4;have Y4:=hide (show KpY (fun t=>t=57) (w1.alloc (.cells #[.int .i64 x,.slice da n dc] 57)) w4 from(KpY.refl _ _).ownrow R2.out rfl O4.out.2);have A4:=hide (show OwnN w4 W0.heap.size 57 1 (.slice va4 (pn+1) vc4) ((P++[(x,ys)]).map neR) (vs++[.slice da n dc]) from by
    rw[List.map_append];show OwnN _ _ _ _ _ (_++[neR (x,ys)]) _;have hh:=S2.out.puts.push (by decide) (neR (x,ys)) (.slice da n dc) rfl (by have:=own_below (own_mono HD1.out (by have:=HA.out.low.size;omega)) B2.out;have e:=HN.out;subst e;exact this) (fun j x k hx hk e=>by have h1:=(HD1.out.lt k (by rw[←e,HN.out])).1;have h2:=(HA.out.puts.ltR hx hk).2;omega) (by rw[List.length_map, ←HPN.out];exact O4.out.1) O4.out.2;exact hh)
   have K5:=hide (K4.out.set 24 (.slice va4 (pn+1) vc4));have Y5:=hide (show KpY TyF w (w4.setCell ⟨b,24,none⟩ (.slice va4 (pn+1) vc4)) from(((HY1.out.below B2.out).trans (Y4.out.weaker (fun t h=>.inr (.inr h)))).setCell K4.out (.inl rfl)));have Y5b:=hide (show KpY (fun t=>t=79) w4 (w4.setCell ⟨b,24,none⟩ (.slice va4 (pn+1) vc4)) from(KpY.refl _ _).setCell K4.out rfl);have Y5c:=hide (show KpY TyF (w1.alloc (.cells #[.int .i64 x,.slice da n dc] 57)) (w4.setCell ⟨b,24,none⟩ (.slice va4 (pn+1) vc4)) from((Y4.out.weaker (fun t h=>.inr (.inr h))).setCell K4.out (.inl rfl)));have B5:=hide (show Below W0.heap.size w (w4.setCell ⟨b,24,none⟩ (.slice va4 (pn+1) vc4)) from(((HB1.out.trans (B2.out.mono (by omega))).grown O4.out.2 (by simp;omega) (fun r e=>(R2.out.lt r e).1))).setCell (p:=⟨b,24,none⟩) HS.out.lo _);go_wp2;go_ret;refine⟨rfl,⟨C.setIfInBounds 24 (.slice va4 (pn+1) vc4),so,sl,.func (.func 66) #[] #[.pointer (some ⟨g,0,none⟩)],.slice va4 (pn+1) vc4,vs++[.slice da n dc],⟨HS.out.trs,by rw[Array.size_setIfInBounds];exact HS.out.size,fun i hi=>?_,?_,?_,?_,HS.out.apart,?_,?_,?_,?_,?_,HS.out.lo,HS.out.low.trans B5.out⟩⟩,Y5.out,B5.out,fun l hl=>((K5.out.cell (20+l)).trans (Array.getElem?_setIfInBounds_ne (by omega))).trans (HS.out.now.box.cell (20+l)).symm⟩
   ·rw[Array.getElem?_setIfInBounds_ne (by omega)];exact HS.out.tr i hi
   ·rw[Array.getElem?_setIfInBounds_ne (by omega)];exact HS.out.cv
   ·exact S2.out.old.kpy Y5c.out (by unfold TyF;decide) K5.out (fun l hl=>Array.getElem?_setIfInBounds_ne (by omega))
   ·exact S2.out.now.kpy Y5c.out (by unfold TyF;decide) K5.out (fun l hl=>Array.getElem?_setIfInBounds_ne (by omega))
   ·rw[Array.getElem?_setIfInBounds_ne (by omega)];exact HS.out.fn
   ·exact HSup.out.kpyG K4.out Y5c.out Y4.out B2.out
   ·rw[Array.getElem?_setIfInBounds_self_of_lt (by have:=HS.out.size;omega)]
   ·exact Y5b.out.ownN A4.out (by decide) (by decide)
   ·rw[Array.getElem?_setIfInBounds_ne (by omega)];exact HS.out.sh
end
end Go.Proofs.YtbhpealglhkodaaGreatDoor
