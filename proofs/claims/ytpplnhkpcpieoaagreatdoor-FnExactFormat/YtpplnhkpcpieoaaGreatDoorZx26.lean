/- openTree, whose fault is said to be new -/
import Derived.Test.YtpplnhkpcpieoaaGreatDoorZx14
namespace Go.Proofs.YtpplnhkpcpieoaaGreatDoor
open Go.Proofs.Tryz
open World (size_alloc drew setRow)
set_option linter.all false
set_option maxRecDepth 100000
set_option maxHeartbeats 16000000
section
open Go.RowKit Go.Shelf
theorem Ic(img:Value)(zs:List Int)(s:Int)(ds:List Int)(p q:Int)(w:World)(h:Rd .u8 w img zs)(hz:zs.length≤1048576)(hd:ds.length=12):
 Calls prog 87 #[img,.agg (an (aD s ds p q))] w fun e w'=>∃ev,e=.returned (.tuple #[.agg (fT img (aD s ds p q)),ev])∧fB w' w.heap.size (dx zs.length&&cJ s ds p q) ev 7∧Below w.heap.size w w':=by
 obtain⟨sa,sc,rfl⟩:=eY h;have HR:=aa (ai h hd);have hRl:=dw s ds p q hd;have U6:=aa (yq sa zs.length sc (aD s ds p q) hRl);have HZ:=ae ((an (aD s ds p q)).size=15) (by rw[ct];exact hRl);have OV:=aa (uf (.slice sa zs.length sc) _ hRl);clear h hd hRl;go_enter func87,ntmps87;go_upto_region 2 with fail;generalize hW1:World.alloc _ (Obj.cells #[.int .i64 7,.nilIface] 93)=W1;have HW:=ae (∃Z0:Array Value,Z0.size=16∧af W1 w.heap.size (an (aD s ds p q)) 31∧af W1 (w.heap.size+1) Z0 108∧Ck W1 (w.heap.size+2) (w.heap.size+3) 7 true∧Below w.heap.size w W1∧W1.heap.size=w.heap.size+3) (by
  rw[←hW1];refine⟨j3.toArray,rfl,((af.new w _ _).alloc _).alloc _,?_,?_,?_,?_⟩
  ·have h:=af.new (w.alloc (.cells (an (aD s ds p q)) 31)) j3.toArray 108;rw[size_alloc] at h;exact h.alloc _
  ·have h:=Ck.fresh ((w.alloc (.cells (an (aD s ds p q)) 31)).alloc (.cells j3.toArray 108)) 7 93;rw[size_alloc,size_alloc] at h;exact h
  ·exact((ak.alloc aj _).alloc (by simp) _).alloc (by simp;omega) _
  ·simp)
 clear hW1;obtain⟨Z0,Qx,k0,k1,ck,bb,hs1⟩:=HW.out;have H1:=aa (ai Qx (ai k0 (ai k1 (ai ck (ai bb hs1)))));clear HW Qx k0 k1 ck bb hs1;go_upto_region 3 with(first
  |(go_at_call 121;refine(xM _ zs _ (HR.out.1.below H1.out.2.2.2.2.1) (by omega)).mono ?_;rintro e w9 ⟨rfl,eJ⟩;rw[←eJ];clear eJ)
  |(go_at_call 46;refine(eB (w.heap.size+2) (w.heap.size+3) _ 7 true (dx zs.length) _ H1.out.2.2.2.1 (by omega) (by rw[H1.out.2.2.2.2.2];omega)).mono ?_;rintro e w2 ⟨rfl,ck2,t2⟩;rw[Bool.true_and] at ck2;have H2:=aa (ai ck2 t2);clear ck2 t2))
 have HB2:=aa (H2.out.2.under H1.out.2.2.2.2.1 (by omega) H1.out.2.2.2.2.1.size);have hs2:w.heap.size+3≤w2.heap.size:=by have:=H2.out.2.1.size;rw[H1.out.2.2.2.2.2] at this;exact this
 have K0:=ae (af w2 w.heap.size (an (aD s ds p q)) 31) ((H2.out.2.1.block _ H1.out.2.1.lt (by simp)).trans H1.out.2.1);have K1:=ae (af w2 (w.heap.size+1) Z0 108) ((H2.out.2.1.block _ H1.out.2.2.1.lt (by simp)).trans H1.out.2.2.1);go_upto_region 4 with(first
  |(refine wpList_load_row rfl 31 _ rfl w.heap.size rfl 31 (an (aD s ds p q)) (0,0) _ K0.out underlying31 rfl (by rw[HZ.out];exact dV) ?_)
  |(go_at_call 122;refine(ym s ds p q 7 _ HR.out.2).mono ?_;rintro e w3 ⟨Ym,rfl,f3,b3⟩;have H3:=aa (ai f3 b3);clear f3 b3)
  |(go_at_call 82;refine(qp (w.heap.size+2) (w.heap.size+3) _ 7 (dx zs.length) (cJ s ds p q) Ym _ (H2.out.1.below H3.out.2) (H3.out.1.mono hs2) (by omega) (aK hs2 H3.out.2.size)).mono ?_;rintro e w4 ⟨rfl,Rw,t4⟩;have H4:=aa (ai Rw t4);clear Rw t4))
 have hs3:=H3.out.2.size;have Pw:=aa (H4.out.2.under (HB2.out.trans (H3.out.2.mono HB2.out.size)) (by omega) (aK HB2.out.size hs3));have L0:af w4 w.heap.size (an (aD s ds p q)) 31:=(H4.out.2.1.block _ (Nat.lt_of_lt_of_le K0.out.lt hs3) (by simp)).trans (K0.out.below H3.out.2 K0.out.lt);have L1:=ae (af w4 (w.heap.size+1) Z0 108) ((H4.out.2.1.block _ (Nat.lt_of_lt_of_le K1.out.lt hs3) (by simp)).trans (K1.out.below H3.out.2 K1.out.lt));obtain⟨ev,ce,hfe⟩:=H4.out.1.fault;have Yn:=aa hfe;clear hfe;refine bg (fun w'=>af w' w.heap.size (an (aD s ds p q)) 31∧w'.cell? ⟨w.heap.size+2,1,none⟩=some ev) ⟨L0,ce⟩ fun hH=>?_;refine ah 0 (.slice sa zs.length sc) rfl hH ?_;refine ah 1 (.agg (an (aD s ds p q))) rfl hH ?_ (kK ⟨by rfl,fun w' hw'=>qR (a:=_) 31 (.tmp 3) rfl w.heap.size rfl 31 _ (0,0) _ hw'.1 underlying31 rfl (by rw[HZ.out];exact dV)⟩);refine ah 2 (.agg (fT (.slice sa zs.length sc) (aD s ds p q))) rfl hH ?_ (kK ⟨by rfl,fun w' hw'=>qS 108 _ rfl _ (by simp only[List.map_toArray,List.map_cons,List.map_nil];exact U6.out)⟩);refine ah 3 (.pointer (some ⟨w.heap.size+2,1,none⟩)) rfl hH ?_;refine ah 4 ev rfl hH ?_ (aH fun w' hw'=>by have c9:=hw'.2;go_simp);have D1:af (drew w4) (w.heap.size+1) Z0 108:=L1.out;have hgr:(drew w4).grownBy ((drew w4).setRow (w.heap.size+1) (fT (.slice sa zs.length sc) (aD s ds p q))) (some (w.heap.size+1)):=⟨rfl,rfl,rfl,by simp[setRow],fun k hk hne=>by simp[setRow,Array.getElem?_modify,show ¬w.heap.size+1=k from fun e=>hne (by rw[e])]⟩;refine aG 5 rfl fun K hK=>?_;rw[if_pos (by rfl)];refine wp_store_row 108 (.tmp 4) (.tmp 16) rfl (w.heap.size+1) (fT (.slice sa zs.length sc) (aD s ds p q)) rfl rfl 108 Z0 D1 (by rw[OV.out];exact jm) (by rw[OV.out];exact H1.out.1) (ue _) ?_;have Tc:=H4.out.1.lt;refine hK.out _ _ ⟨(hgr.block _ L0.lt (by simp)).trans L0,(World.cell?_of_block (a:=⟨w.heap.size+2,1,none⟩) (hgr.block _ (show w.heap.size+2<w4.heap.size from Tc) (by simp))).trans ce⟩ (fun hH2=>?_);clear hK K;try simp only[Act.put,av,ay,az,aA,aB,aC]
 refine ah 6 ev rfl hH2 ?_;refine aV ?_;go_wp2;refine bodyPost_ret (v:=.tuple #[.agg (fT (.slice sa zs.length sc) (aD s ds p q)),ev]) ?_ rfl ⟨ev,rfl,?_,below_setRow (Pw.out.drew) (by omega) _⟩
 ·exact jv rfl _ _ (w.heap.size+1) 108 _ (0,0) _ _ rfl rfl (D1.row _) underlying108 rfl (by rw[OV.out];exact jm)
 ·rcases Yn.out with⟨h1,h2⟩|⟨h1,m,h2⟩
  ·exact .inl ⟨h1,h2⟩
  ·refine .inr ⟨h1,m,bU.mono (lo:=w.heap.size+3) (by omega) (bU.keep (fun b o u hb hc=>?_) h2)⟩;have hlt:=eu hc;exact(World.cell?_of_block (a:=⟨b,o,none⟩) (hgr.block b (show b<w4.heap.size from hlt) (by simp;omega))).trans hc
end
section
open Go.RowKit Go.Shelf
attribute [local go_sem] Oper.semAt_some
theorem Ie(cnt sz:Nat)(zs:List Int)(C:Array Value)(Pv:Nat→Int)(iv:Value)(w:World)(Z:TL)
 (hC0:C[0]?=some iv) (Ny:C[1]?=some (.int .i64 (sz:Int))) (Qw:∀j,j<14→C[2+j]?=some (.int .i64 (Pv j))) (hCs:C.size=16) (hR:Rd .u8 w iv zs) (hz:zs.length≤1048576) (hbd:∀z∈zs,0≤z∧z<256) (hsz:sz≤262144) (hcnt:cnt=(sz+511)/512)
 (hZ:Z=dz (fe cnt (zs.length/512) (aQ zs) Pv)):
 Calls prog 88 #[.agg C] w fun e w'=>∃D ev,e=.returned (.tuple #[.agg D,ev])∧D.size=3∧((Z.2=false∧ev=.nilIface∧∃b sl,dP w' w.heap.size b 0 D 110 sl (dR (aY Z.1)))∨(Z.2=true∧D.all (·.oneCell')=true∧∃n,bU w' 0 n ev 21))∧Below w.heap.size w w':=by
 have HC:=aa (ai hC0 (ai Ny (ai Qw hCs)));have HR:=aa (ai hR hbd);have HZ:=aa hZ;have Vg:=ae (∀h∈Z.1,h.1<3∧h.2.1<cnt) (fun h hm=>by rw[hZ] at hm;exact yX hm);clear hC0 Ny Qw hCs hR hbd hZ;obtain⟨W0,hW0⟩:∃W0,W0=(((w.alloc (.cells C 108)).alloc (.cells #[.slice none 0 0,.slice none 0 0,.slice none 0 0] 110)).alloc (.cells #[.nilIface] 58)).alloc (.cells #[.slice none 0 0,.slice none 0 0,.slice none 0 0] 110):=⟨_,rfl⟩;have hs0:W0.heap.size=w.heap.size+4:=by rw[hW0];simp
 have B0:=ae (Below w.heap.size w W0) (by rw[hW0];exact(((ak.alloc aj _).alloc (by simp) _).alloc (by simp;omega) _).alloc (by simp;omega) _);have K0:=ae (af W0 w.heap.size C 108) (by rw[hW0];exact(((af.new w C _).alloc _).alloc _).alloc _);have K1:=ae (af W0 (w.heap.size+1) #[.slice none 0 0,.slice none 0 0,.slice none 0 0] 110) (by have h:=af.new (w.alloc (.cells C 108)) #[.slice none 0 0,.slice none 0 0,.slice none 0 0] 110;rw[size_alloc] at h;rw[hW0];exact(h.alloc _).alloc _);have K2:=ae (af W0 (w.heap.size+2) #[.nilIface] 58) (by have h:=af.new ((w.alloc (.cells C 108)).alloc (.cells #[.slice none 0 0,.slice none 0 0,.slice none 0 0] 110)) #[.nilIface] 58;rw[size_alloc,size_alloc] at h;rw[hW0];exact h.alloc _);have K3:=ae (af W0 (w.heap.size+3) #[.slice none 0 0,.slice none 0 0,.slice none 0 0] 110) (by have h:=af.new (((w.alloc (.cells C 108)).alloc (.cells #[.slice none 0 0,.slice none 0 0,.slice none 0 0] 110)).alloc (.cells #[.nilIface] 58)) #[.slice none 0 0,.slice none 0 0,.slice none 0 0] 110;rw[size_alloc,size_alloc,size_alloc] at h;rw[hW0];exact h);have HW0:=aa hW0;have NB:=aa hs0;clear hW0 hs0;obtain⟨WL,cK⟩:∃WL,WL=W0.alloc (.cells C 108):=⟨_,rfl⟩;have Ru:W0.heap.size≤w.heap.size+4:=by rw[NB.out];omega
 have Rv:w.heap.size+4≤W0.heap.size:=by rw[NB.out];omega
 have Th:Below W0.heap.size W0 WL:=by rw[cK];exact ak.alloc aj _
 have OY:WL.heap.size=W0.heap.size+1:=by rw[cK];simp
 have Yx:WL.heap.size≤W0.heap.size+1:=by rw[OY];omega
 have Yy:W0.heap.size+1≤WL.heap.size:=by rw[OY];omega
 clear OY;have I0:=ae (∀W',Below WL.heap.size WL W'→WL.heap.size+2≤W'.heap.size→iD w C Z [] W') (fun W' hb hs'=>by
  have hb0:Below W0.heap.size W0 W':=Th.trans (hb.mono (by omega));refine⟨⟨[],rfl,List.nil_prefix⟩,⟨_,fun _=>.slice none 0 0,rfl,K3.out.below hb0 K3.out.lt,fun l hl=>?_,fun l hl=>World.ownsRow_nil _ _ _ _,fun l m _ _ _=>.inl rfl⟩,K0.out.below hb0 K0.out.lt,K1.out.below hb0 K1.out.lt,K2.out.below hb0 K2.out.lt,B0.out.trans (hb0.mono (by omega)),by omega⟩;rw[Nat.zero_add];match l,hl with
  |0,_=>rfl
  |1,_=>rfl
  |2,_=>rfl)
 have HX:=ae (af WL W0.heap.size C 108) (by rw[cK];exact af.new W0 C 108);have vX:=ae (Below w.heap.size w WL) (B0.out.trans (Th.mono (by omega)));have Ox:=aa cK;clear cK Th;refine(callsIn_wide (n:=6)).1 ?_;refine callsIn_of_wp_marks func88 rfl trivial ?_ rfl;simp only[ntmps88,List.size_toArray,List.length_cons,List.length_nil,Nat.reduceAdd,Nat.reduceSub,Array.replicate_succ,Array.replicate_zero,List.push_toArray,List.append_toArray,List.nil_append,List.cons_append];gi_upto_region 2 with fail
 rw[←HW0.out];refine wpIn_wide.2 ?_;go_wp2_with (first
  |(refine wpList_load_row rfl 108 _ rfl w.heap.size rfl 108 C (0,0) _ K0.out underlying108 rfl (by rw[HC.out.2.2.2];exact jm) ?_)
  |(go_at_call 123;refine(callsIn_wide.1 (ud 0 C _)).mono ?_;rintro e w' ⟨rfl,rfl⟩))
 gi_wp2
 rw[←Ox.out];have hmx:prog.follows .mixedOrders=true:=by kernel_rfl
 refine mj (α:=TX) rfl (by decide) (gf:=145) (lb:=#[.pointer (some ⟨W0.heap.size,0,none⟩)]) rfl trivial (enters_of func145 (by kernel_rfl) rfl) (encs:=TX.enc) (Kp:=(Kq w.heap.size (WL.heap.size+2) (fun t=>t=110∨t=3))) Kq.trans (fun A o o' ho hc=>Kq.put o' (by omega) (by omega) ho hc)
  (Ok:=jV Z) (S:=fun xs=>(Z.2=false∧xs=aY Z.1)∨(Z.2=true∧∃x,xs=aY Z.1++[x])) (Sp:=fun _=>True)
  (fun W1 hb1 hs1=>by
   have:=tW 5 (by omega) W0.heap.size w.heap.size (fun t=>t=110∨t=3) Z cnt sz zs C Pv iv w W1 (by decide) (by decide) (by decide) (by decide) HC.out.1 HC.out.2.1 HC.out.2.2.1 HC.out.2.2.2 HR.out.1 rfl hz HR.out.2 hsz hcnt HZ.out (HX.out.below hb1 HX.out.lt) (vX.out.trans (hb1.mono (by omega))) (by omega);rw[hs1] at this;exact this)
  (fun _=>rfl) (iD w C Z)
  (fun c pre Wx=>c=.ret∧Z.2=true∧(∃v,af Wx (w.heap.size+1) #[.slice none 0 0,.slice none 0 0,.slice none 0 0] 110∧af Wx (w.heap.size+2) #[v] 58∧∃n,bU Wx 0 n v 21)∧Below w.heap.size w Wx)
  (iD.dU (by omega))
  (by
   rintro c pre A B row ⟨h1,h2,⟨v,h3,h4,n,h5⟩,h6⟩ hg hr;exact⟨h1,h2,⟨v,dZ h3 hg hr,dZ h4 hg hr,n,m7 h5 hg hr⟩,lM h6 (by omega) h6.size hg hr⟩)
  (fun W' hb hs'=>I0.out W' hb (by omega))
  (fun pre x a' Wx=>∃c,a'={tmps:=#[.agg C,.pointer (some ⟨w.heap.size,0,none⟩),.pointer (some ⟨w.heap.size+1,0,none⟩),.pointer (some ⟨w.heap.size+1+1,0,none⟩),.pointer (some ⟨w.heap.size+1+1+1,0,none⟩),.pointer (some ⟨c,0,none⟩),x.2,.agg C,.func (.func 145) #[] #[.pointer (some ⟨W0.heap.size,0,none⟩)],.agg #[.int .i64 (x.1.1:Int),.int .i64 (x.1.2.1:Int),.int .i64 x.1.2.2],x.2,undef,undef,undef,undef,undef,undef,undef,undef,undef,undef],defers:=[]}∧af Wx c #[.int .i64 (x.1.1:Int),.int .i64 (x.1.2.1:Int),.int .i64 x.1.2.2] 225∧w.heap.size+7≤c∧(iD w C Z) pre Wx∧jV Z pre x Wx) ?ax ?assign ?body ?done ?stop
 case ax=>
  rintro pre x a' A B ⟨c,h1,h2,Yz,h3,h4⟩ hg hr;exact⟨c,h1,kR h2 hg hr,Yz,iD.dU (z:=WL.heap.size+1) (by omega) pre A B _ h3 hg (fun r e=>by cases e;exact⟨aj,hr⟩),nU (z:=0) h4 hg (fun r e=>by cases e;exact⟨Nat.zero_le _,hr⟩)⟩
 case assign=>
  rintro l pre ⟨⟨lv,rk,p⟩,ev⟩ Wx K hI hok hK;have HK:=aa (ai hI (ai hok hK));clear hI hok hK;unfold TX.enc;gi_wp2
  have bA:Below Wx.heap.size Wx (Wx.alloc (.cells #[.int .i64 (lv:Int),.int .i64 (rk:Int),.int .i64 p] 225)):=ak.alloc aj _;have gA:Wx.grownBy (Wx.alloc (.cells #[.int .i64 (lv:Int),.int .i64 (rk:Int),.int .i64 p] 225)) none:=⟨bA.os,bA.tape,bA.output,bA.size,fun k hk _=>bA.block k hk⟩;exact HK.out.2.2 _ _ (lK bA) (Kq.cV bA (by have:=HK.out.1.size;omega)) ⟨_,rfl,af.new _ _ _,HK.out.1.size,iD.dU (z:=w.heap.size) aj pre _ _ none HK.out.1 gA (fun r e=>by cases e),nU (z:=0) HK.out.2.1 gA (fun r e=>by cases e)⟩
 case body=>
  rintro l pre ⟨⟨lv,rk,p⟩,ev⟩ a' Wx ⟨c,rfl,kc,hcs,hI,hok⟩;dsimp only at kc⊢
  have hIs:=hI.size;rcases hok with⟨hev,A,hA,hpre⟩|⟨hx0,A,hA,Sv,nf,hfl⟩
  ·dsimp only at hev
   subst hev;have HT2:=ae (∃A',pre++[((lv,rk,p),Value.nilIface)]=aY A'∧A'<+:Z.1) (⟨A++[(lv,rk,p)],by rw[qF,hA],hpre⟩);have PC:=ae (lv<3∧rk<cnt) (Vg.out _ (tZ hpre));have SB:=ae ((dR pre lv).length≤cnt) (by rw[hA];exact yZ lv A (fun h hh=>(Vg.out h (hpre.subset (by simp[hh]))).2));obtain⟨D,sl,hD3,hns⟩:=hI.nums;have HI:=aa (ai hI (ai kc (ai hD3 hns)));have c2:=(kc.cell 2).trans (show _=some (.int .i64 p) from rfl);have hrg:Wx.rangeAt c 0 [.int .i64 (lv:Int),.int .i64 (rk:Int)]:=by
    intro j v hj;match j,hj with
    |0,hj=>rw[(kc.cell (0+0))];simpa using hj
    |1,hj=>rw[(kc.cell (0+1))];simpa using hj
    |k+2,hj=>simp at hj
   have eU:=aa hrg;have Vh:cnt≤512:=(by omega);clear hI kc hpre hA hD3 hns hrg;gi_wp2_with (first
    |(refine lJ rfl 175 _ rfl c 0 rfl [.int .i64 (lv:Int),.int .i64 (rk:Int)] _ eU.out underlying175 rfl bZ ?_)
    |(refine⟨trivial,?_⟩;gi_at_call 124;refine(CallsIn.inRound l (callsIn_wide.2 (uz (w.heap.size+3) 0 lv rk D 110 sl (dR pre) p w.heap.size _ HI.out.2.2.2 PC.out.1 (by have:=PC.out.2;omega) (by have:=SB.out;omega) (by decide) (by omega)))).mono ?_;rintro e w9 ⟨rfl,sw,n9,f9⟩;have H9:=aa (ai n9 f9);clear n9 f9))
   have kF:∀z,Kq w.heap.size z (fun t=>t=110∨t=3) Wx w9:=fun z=>Kq.num H9.out.2 HI.out.2.2.2.box (HI.out.2.2.2.row lv PC.out.1) (.inl rfl) (.inr rfl) (by omega) aj;have HN:=ae (iD w C Z (pre++[((lv,rk,p),Value.nilIface)]) w9) (⟨HT2.out,⟨D.setIfInBounds (0+lv) sw,aO sl lv sw,by simpa using HI.out.2.2.1,by rw[yV];exact H9.out.1⟩,H9.out.2.blk (HI.out.2.2.2.row lv PC.out.1) HI.out.1.tree (by omega) (by decide),H9.out.2.blk (HI.out.2.2.2.row lv PC.out.1) HI.out.1.au (by omega) (by decide),H9.out.2.blk (HI.out.2.2.2.row lv PC.out.1) HI.out.1.aW (by omega) (by decide),HI.out.1.old.trans (kF 0).below,aK HI.out.1.size (kF 0).size⟩);exact⟨(kF _).iM,kF _,HN.out⟩
  ·obtain⟨t',x',rfl⟩:=hfl.iface;have HI:=aa (ai hI hfl);have c1:=(hI.au.cell 0).trans (show _=some (.slice none 0 0) from rfl);have c11:=(hI.au.cell 1).trans (show _=some (.slice none 0 0) from rfl);have c12:=(hI.au.cell 2).trans (show _=some (.slice none 0 0) from rfl);have f1:=hI.au.frozen 0;have f11:=hI.au.frozen 1;have f12:=hI.au.frozen 2;have c2:=(hI.aW.cell 0).trans (show _=some .nilIface from rfl);have f2:=hI.aW.frozen 0;have U3:=ae (Z.2=true) (by rw[Sv]);clear hI hfl hA Sv;gi_wp2
   obtain⟨WE,vg⟩:∃WE,WE=(((Wx.setCell ⟨w.heap.size+1,0,none⟩ (.slice none 0 0)).setCell ⟨w.heap.size+1,1,none⟩ (.slice none 0 0)).setCell ⟨w.heap.size+1,2,none⟩ (.slice none 0 0)).setCell ⟨w.heap.size+1+1,0,none⟩ (.iface t' (.pointer (some x'))):=⟨_,rfl⟩;rw[←vg];have k1:=HI.out.1.au;have s1:=k1.set 0 (.slice none 0 0);have s2:=s1.set 1 (.slice none 0 0);have s3:=s2.set 2 (.slice none 0 0);have r2:=((HI.out.1.aW.other ⟨w.heap.size+1,0,none⟩ (.slice none 0 0) (by show w.heap.size+2≠w.heap.size+1;omega)).other ⟨w.heap.size+1,1,none⟩ (.slice none 0 0) (by show w.heap.size+2≠w.heap.size+1;omega)).other ⟨w.heap.size+1,2,none⟩ (.slice none 0 0) (by show w.heap.size+2≠w.heap.size+1;omega);have g1:af WE (w.heap.size+1) #[.slice none 0 0,.slice none 0 0,.slice none 0 0] 110:=(by rw[vg];exact s3.other _ _ (by show w.heap.size+1≠w.heap.size+1+1;omega));have g2:af WE (w.heap.size+2) #[.iface t' (.pointer (some x'))] 58:=(by rw[vg];exact r2.set 0 _);have fl:bU WE 0 nf (.iface t' (.pointer (some x'))) 21:=by
    rw[vg];refine pO r2 (by intro k z h;cases h) _ ?_;refine bU.keep (fun b o u _ hc=>nZ ((s2.cell 2).trans rfl) hc) ?_;refine bU.keep (fun b o u _ hc=>nZ ((s1.cell 1).trans rfl) hc) ?_;exact bU.keep (fun b o u _ hc=>nZ ((k1.cell 0).trans rfl) hc) HI.out.2
   have hold:Below w.heap.size w WE:=by
    rw[vg];exact(((HI.out.1.old.setCell (p:=⟨w.heap.size+1,0,none⟩) (by show w.heap.size≤w.heap.size+1;omega) _).setCell (p:=⟨w.heap.size+1,1,none⟩) (by show w.heap.size≤w.heap.size+1;omega) _).setCell (p:=⟨w.heap.size+1,2,none⟩) (by show w.heap.size≤w.heap.size+1;omega) _).setCell (p:=⟨w.heap.size+1+1,0,none⟩) (by show w.heap.size≤w.heap.size+1+1;omega) _
   have hko:KeepsOthers Wx WE:=(by rw[vg];exact(((KeepsOthers.setCell _ _ _).trans (KeepsOthers.setCell _ _ _)).trans (KeepsOthers.setCell _ _ _)).trans (KeepsOthers.setCell _ _ _));exact⟨hko.from _,⟨rfl,U3.out,⟨g1,_,g2,nf,fl⟩,hold⟩⟩
 case done=>
  rintro xs Wx hS hI hK;obtain⟨D,sl,hD3,hns⟩:=hI.nums;obtain⟨a0,q0,e0⟩:=nV (hns.row 0 (by omega));obtain⟨a1,q1,e1⟩:=nV (hns.row 1 (by omega));obtain⟨a2,q2,e2⟩:=nV (hns.row 2 (by omega));obtain⟨n0,hn0⟩:∃n0,n0=(dR xs 0).length:=⟨_,rfl⟩;obtain⟨n1,hn1⟩:∃n1,n1=(dR xs 1).length:=⟨_,rfl⟩;obtain⟨n2,hn2⟩:∃n2,n2=(dR xs 2).length:=⟨_,rfl⟩;obtain rfl:D=#[.slice a0 n0 q0,.slice a1 n1 q1,.slice a2 n2 q2]:=by
   match D,hD3,hns.at_ 0 (by omega),hns.at_ 1 (by omega),hns.at_ 2 (by omega) with
   |⟨[d0,d1,d2]⟩,_,h0,h1,h2=>
    have h0':d0=sl 0:=(by simpa using h0);have h1':d1=sl 1:=(by simpa using h1);have h2':d2=sl 2:=(by simpa using h2);rw[h0',h1',h2',e0,e1,e2,hn0,hn1,hn2]
  have HI:=aa (ai hI (ai hK hns));have U4:=aa hS;have b0:Wx.cell? ⟨w.heap.size+1+1+1,0,none⟩=some (.slice a0 n0 q0):=(hns.box.cell 0).trans rfl;have b1:Wx.cell? ⟨w.heap.size+1+1+1,1,none⟩=some (.slice a1 n1 q1):=(hns.box.cell 1).trans rfl;have b2:Wx.cell? ⟨w.heap.size+1+1+1,2,none⟩=some (.slice a2 n2 q2):=(hns.box.cell 2).trans rfl;have c10:=(hI.au.cell 0).trans (show _=some (.slice none 0 0) from rfl);have c11:=(hI.au.cell 1).trans (show _=some (.slice none 0 0) from rfl);have c12:=(hI.au.cell 2).trans (show _=some (.slice none 0 0) from rfl);have f1:=hI.au.frozen 0;have f11:=hI.au.frozen 1;have f12:=hI.au.frozen 2;have c2:=(hI.aW.cell 0).trans (show _=some .nilIface from rfl);have f2:=hI.aW.frozen 0;clear hI hK hS hns e0 e1 e2 hn0 hn1 hn2 hD3;gi_wp2
  have Qx:Z.2=false∧xs=aY Z.1:=by
   rcases U4.out with h|⟨h,x,hx⟩
   ·exact h
   ·exfalso;obtain⟨A,hA,hp⟩:=HI.out.1.told;have h1:=congrArg List.length (hx.symm.trans hA);have h2:=hp.length_le;unfold aY at h1;simp at h1;omega
  obtain⟨hZ1,rfl⟩:=Qx;obtain⟨WE,vg⟩:∃WE,WE=(((Wx.setCell ⟨w.heap.size+1,0,none⟩ (.slice a0 n0 q0)).setCell ⟨w.heap.size+1,1,none⟩ (.slice a1 n1 q1)).setCell ⟨w.heap.size+1,2,none⟩ (.slice a2 n2 q2)).setCell ⟨w.heap.size+1+1,0,none⟩ .nilIface:=⟨_,rfl⟩;rw[←vg];have k1:=HI.out.1.au;have s1:=k1.set 0 (.slice a0 n0 q0);have s2:=s1.set 1 (.slice a1 n1 q1);have s3:=s2.set 2 (.slice a2 n2 q2);have r2:=((HI.out.1.aW.other ⟨w.heap.size+1,0,none⟩ (.slice a0 n0 q0) (by show w.heap.size+2≠w.heap.size+1;omega)).other ⟨w.heap.size+1,1,none⟩ (.slice a1 n1 q1) (by show w.heap.size+2≠w.heap.size+1;omega)).other ⟨w.heap.size+1,2,none⟩ (.slice a2 n2 q2) (by show w.heap.size+2≠w.heap.size+1;omega);have g1:af WE (w.heap.size+1) #[.slice a0 n0 q0,.slice a1 n1 q1,.slice a2 n2 q2] 110:=by rw[vg];exact s3.other _ _ (by show w.heap.size+1≠w.heap.size+1+1;omega)
  have g2:af WE (w.heap.size+1+1) #[.nilIface] 58:=by rw[vg];exact r2.set 0 _
  have hns:dP WE w.heap.size (w.heap.size+1) 0 #[.slice a0 n0 q0,.slice a1 n1 q1,.slice a2 n2 q2] 110 sl (dR (aY Z.1)):=⟨g1,HI.out.2.2.at_,fun l hl=>by rw[vg];exact ep (ep (ep (ep (HI.out.2.2.row l hl) k1 (by decide)) s1 (by decide)) s2 (by decide)) r2 (by decide),HI.out.2.2.apart⟩;have hD:WE.heap[WL.heap.size]?=some (.deferred (some [])):=by rw[vg];exact(KeepsOthers.setCell _ _ _).same _ _ ((KeepsOthers.setCell _ _ _).same _ _ ((KeepsOthers.setCell _ _ _).same _ _ ((KeepsOthers.setCell _ _ _).same _ _ HI.out.2.1 rfl) rfl) rfl) rfl
  have Ta:Below w.heap.size w WE:=by
   rw[vg];exact(((HI.out.1.old.setCell (p:=⟨w.heap.size+1,0,none⟩) (by show w.heap.size≤w.heap.size+1;omega) _).setCell (p:=⟨w.heap.size+1,1,none⟩) (by show w.heap.size≤w.heap.size+1;omega) _).setCell (p:=⟨w.heap.size+1,2,none⟩) (by show w.heap.size≤w.heap.size+1;omega) _).setCell (p:=⟨w.heap.size+1+1,0,none⟩) (by show w.heap.size≤w.heap.size+1+1;omega) _
  refine⟨by simp,.inl ⟨_,_,rfl,run_takeDeferred hD,?_⟩⟩;refine⟨_,rz rfl _ _ (w.heap.size+1) (w.heap.size+1+1) _ _ rfl rfl (gY _ g1 hD rfl) rfl (gY _ g2 hD rfl),_,_,rfl,rfl,.inl ⟨hZ1,rfl,w.heap.size+1,sl,?_⟩,?_⟩
  ·exact hns.fH (z:=0) (grownBy_putObj' _ _ _) (fun r e=>by cases e;exact⟨Nat.zero_le _,_,hD,rfl⟩)
  ·exact Ta.trans (belowK_b (w:=w) aj WE WL.heap.size _ (.deferred none) (by omega) hD rfl rfl)
 case stop=>
  rintro c pre Wx _ ⟨rfl,hZ2,⟨v,h3,h4,n,h5⟩,h6⟩ hK;have HI:=aa (ai hZ2 (ai h3 (ai h4 (ai h5 (ai h6 hK)))));clear hZ2 h3 h4 h5 h6 hK;gi_wp2
  have hD:=HI.out.2.2.2.2.2;refine⟨by simp,.inl ⟨_,_,rfl,run_takeDeferred hD,?_⟩⟩;refine⟨_,rz rfl _ _ (w.heap.size+1) (w.heap.size+1+1) _ _ rfl rfl (gY _ HI.out.2.1 hD rfl) rfl (gY _ HI.out.2.2.1 hD rfl),_,_,rfl,rfl,.inr ⟨HI.out.1,by simp only[List.all_toArray,List.all_cons,List.all_nil];rfl,n,?_⟩,?_⟩
  ·exact m7 (z:=0) HI.out.2.2.2.1 (grownBy_putObj' _ _ _) (fun r e=>by cases e;exact⟨Nat.zero_le _,_,hD,rfl⟩)
  ·exact HI.out.2.2.2.2.1.trans (belowK_b (w:=w) aj Wx WL.heap.size _ (.deferred none) (by omega) hD rfl rfl)
end
section
open Go.RowKit
theorem zS(v:Value)(bs:List Int)(n:Nat)(w:World)(h:Rd .u8 w v bs)(hbd:∀z∈bs,0≤z∧z<256)(hn:bs.length/4=n)(hn2:n≤65536):
 Calls prog 98 #[v] w fun e w'=>∃v',e=.returned v'∧w'.ownsRow w.heap.size 3 1 v' n ((dr bs n).map (Value.int .i64))∧Below w.heap.size w w':=by
 obtain⟨i0,hi,hz0,hz1,hz2⟩:=info_parts fX;have hm:=h.len;unfold maxLen at hm;have HB:=aa hbd;have HR:=aa h;have HN:=aa hn;have HL:=ae ((bs.length:Int)/4=(n:Int)) (by omega);clear hbd;obtain⟨a,cap,rfl,_⟩:=h;generalize hbl:bs.length=bl at*;have vX:=aa hbl;have SU:bl≤262147:=by omega
 clear hbl hn;go_enter func98,ntmps98;go_wp2_with (refine wpList_make_full _ rfl _ _ 45 rfl w.heap.size 3 i0 (.int .i64 0) 1 underlying45 hi hz0 hz1 .i64 .i64 n n n (by rw[←HL.out];rfl) (by rw[←HL.out];rfl) rfl rfl (by rw[hz2];omega) (by unfold maxLen;omega) aj ?_;intro w3 hown3 Qo;rw[iJ _ _ rfl] at hown3);have hb3:Below w.heap.size w w3:=ak.grown Qo aj (fun k e=>by cases e);go_loopw [12] (fun i wr=>∃k:Nat,k≤n∧i=.int .i64 k∧Below w.heap.size w wr∧wr.ownsRow w.heap.size 3 1 (.slice (some ⟨w.heap.size,0,none⟩) n n) n ((dr bs k).map (Value.int .i64)++List.replicate (n-k) (.int .i64 0))) (fun i _=>n-(intOf i).toNat)
 case atStart=>exact⟨0,by omega,rfl,hb3,by simpa [dr] using hown3⟩
 case round=>
  clear hown3 Qo hb3;obtain⟨k,hk,rfl,hb,hown⟩:=hrel;by_cases PX:k<n
  ·have hk4:4*k+4≤bs.length:=(by have:=HN.out;rw[vX.out];omega);obtain⟨sa,sc,OS,hsl⟩:=xI HR.out (4*k) (by omega);have hF:=xH bs k hk4;obtain⟨b2,off2,c2,hsv,hb2,_,_,hcell⟩:=OS.dJ (by rw[List.length_drop];omega);injection hsv with e1 e2 e3;subst e1;subst e3;have oK:∀j,j<4→w.cell? ⟨b2,off2+j,none⟩=some (.int .u8 (bs.getD (4*k+j) 0)):=fun j hj=>by
    rw[hcell j (by rw[List.length_drop];omega)];simp[List.getD,List.getElem?_drop]
   have hbx:∀j,j<4→∃x:Nat,bs.getD (4*k+j) 0=(x:Int)∧x<256:=fun j hj=>by
    have hl:4*k+j<bs.length:=(by omega);have:=HB.out _ (List.getElem_mem hl);exact⟨(bs.getD (4*k+j) 0).toNat,by simp[List.getD,hl];omega,by simp[List.getD,hl];omega⟩
   obtain⟨x0,hx0,l0⟩:=hbx 0 (by omega);obtain⟨x1,hx1,l1⟩:=hbx 1 (by omega);obtain⟨x2,hx2,l2⟩:=hbx 2 (by omega);obtain⟨x3,hx3,l3⟩:=hbx 3 (by omega);have HW:=ae (jz bs k=((x0+256*(x1+256*(x2+256*x3)):Nat):Int)) (by
    unfold jz;rw[hF,xG,show bs.getD (4*k) 0=(x0:Int) from hx0,hx1,hx2,hx3];simp only[Int.toNat_natCast])
   have eU:=ae (wr.rangeAt b2 off2 [.int .u8 (x0:Int),.int .u8 (x1:Int),.int .u8 (x2:Int),.int .u8 (x3:Int)]) (by
    intro j y hj;rw[hb.cell (p:=⟨b2,off2+j,none⟩) hb2];match j,hj with
    |0,hj=>rw[oK 0 (by omega),hx0];simpa using hj
    |1,hj=>rw[oK 1 (by omega),hx1];simpa using hj
    |2,hj=>rw[oK 2 (by omega),hx2];simpa using hj
    |3,hj=>rw[oK 3 (by omega),hx3];simpa using hj
    |n+4,hj=>simp at hj)
   have harr:∀(wx:World),(Instr.arrayAt 238 (.slice (some ⟨b2,off2,none⟩) (bs.length-4*k) sc)).run prog wx=.ok (.pointer (some ⟨b2,off2,none⟩)) wx:=fun wx=>run_arrayAt (w:=wx) 238 5 4 _ _ _ underlying238 (by omega);rw[vX.out] at hsl harr;have hsl2:∀(wx:World),(Instr.slice 22 (.slice a bl cap) (some (.int .i64 ((k:Int)*4))) none none).run prog wx=.ok (.slice (some ⟨b2,off2,none⟩) (bl-4*k) sc) wx:=fun wx=>by
    have:=hsl wx;rw[show((4*k:Nat):Int)=(k:Int)*4 by omega] at this;exact this
   obtain⟨W3,hW3⟩:∃W3,W3=(wr.alloc (.cells #[.int .u8 0,.int .u8 0,.int .u8 0,.int .u8 0] 238)).setRow wr.heap.size #[.int .u8 (x0:Int),.int .u8 (x1:Int),.int .u8 (x2:Int),.int .u8 (x3:Int)]:=⟨_,rfl⟩;have B3:=ae (Below wr.heap.size wr W3) (by rw[hW3];exact below_setRow (ak.alloc aj _) aj _);have K3:=ae (af W3 wr.heap.size #[.int .u8 (x0:Int),.int .u8 (x1:Int),.int .u8 (x2:Int),.int .u8 (x3:Int)] 238) (by rw[hW3];exact(af.new wr _ 238).row _);have KN:=aa (af.new wr #[.int .u8 0,.int .u8 0,.int .u8 0,.int .u8 0] 238);have cb0:=(K3.out.cell 0).trans (show _=some (.int .u8 (x0:Int)) from rfl);have cb1:=(K3.out.cell 1).trans (show _=some (.int .u8 (x1:Int)) from rfl);have cb2:=(K3.out.cell 2).trans (show _=some (.int .u8 (x2:Int)) from rfl);have SV:=(K3.out.cell 3).trans (show _=some (.int .u8 (x3:Int)) from rfl);have PY:=cC hown B3.out;have hst:=PY.stored k (.int .i64 ((x0+256*(x1+256*(x2+256*x3)):Nat):Int));have hfr:=PY.frozenAt k;obtain⟨old,hco⟩:∃u,W3.cell? ⟨w.heap.size,k,none⟩=some u:=by
    rw[PY.cellAt k (by omega)];exact⟨_,List.getElem?_eq_getElem (by simp[tC];omega)⟩
   have hor:=xF x0 x1 x2 x3 l0 l1 l2 l3;have HX:=ae (Below w.heap.size w (W3.setCell ⟨w.heap.size,k,none⟩ (.int .i64 ((x0+256*(x1+256*(x2+256*x3)):Nat):Int)))∧(W3.setCell ⟨w.heap.size,k,none⟩ (.int .i64 ((x0+256*(x1+256*(x2+256*x3)):Nat):Int))).ownsRow w.heap.size 3 1 (.slice (some ⟨w.heap.size,0,none⟩) n n) n ((dr bs (k+1)).map (Value.int .i64)++List.replicate (n-(k+1)) (.int .i64 0))) (by
    refine⟨(hb.trans (B3.out.mono hb.size)).setCell (p:=⟨w.heap.size,k,none⟩) aj _,?_⟩;rw[←xE bs k n PX _ (by rw[HW.out])];exact hst.1)
   have HW3:=aa hW3;clear hW3 hst PY hown hsl OS hcell oK hbx hF hx0 hx1 hx2 hx3 hb;go_upto_region 6 with(first
    |(refine wpList_load_mid rfl 238 _ rfl b2 off2 rfl [.int .u8 (x0:Int),.int .u8 (x1:Int),.int .u8 (x2:Int),.int .u8 (x3:Int)] _ eU.out underlying238 rfl qH ?_)
    |(refine wpList_store_row rfl 238 _ _ rfl wr.heap.size #[.int .u8 (x0:Int),.int .u8 (x1:Int),.int .u8 (x2:Int),.int .u8 (x3:Int)] rfl rfl 238 #[.int .u8 0,.int .u8 0,.int .u8 0,.int .u8 0] KN.out qH rfl (by simp[Value.oneCell']) ?_)
    |fail)
   rw[←HW3.out];go_wp2;go_roundw
   case rel=>exact⟨k+1,by omega,by go_num,HX.out.1,HX.out.2⟩
   case measure=>simp[intOf];omega
  ·have e8:k=n:=(by omega);subst e8;go_wp2;go_ret;refine⟨_,rfl,?_,hb⟩;rw[Nat.sub_self,List.replicate_zero,List.append_nil] at hown;exact hown
end
end Go.Proofs.YtpplnhkpcpieoaaGreatDoor
