/- numbered, with what it answers where it fails -/
import Derived.Test.YtlimollpocagiaaGreatDoorXa20
namespace Go.Proofs.YtlimollpocagiaaGreatDoor
open Go.Proofs.Tryz
open World (size_alloc)
set_option linter.all false
set_option maxRecDepth 100000
set_option maxHeartbeats 16000000
section
open Go.RowKit Go.Shelf
attribute [local go_sem] Oper.semAt_some
theorem CI(cnt sz:Nat)(zs:List Int)(C:Array Value)(Pv:Nat→Int)(iv:Value)(w:World)(Z:TL)
 (hC0:C[0]?=some iv) (hC1:C[1]?=some (.int .i64 (sz:Int))) (hCP:∀j,j<14→C[2+j]?=some (.int .i64 (Pv j))) (hCs:C.size=16) (hR:Rd .u8 w iv zs) (hz:zs.length≤1048576) (hbd:∀z∈zs,0≤z∧z<256) (hsz:sz≤262144) (hcnt:cnt=(sz+511)/512)
 (hZ:Z=bR (dQ cnt (zs.length/512) (aJ zs) Pv)):
 Calls prog 60 #[.agg C] w fun e w'=>∃D ev,e=.returned (.tuple #[.agg D,ev])∧D.size=3∧((Z.2=false∧ev=.nilIface∧∃b sl,dF w' w.heap.size b 0 D 106 sl (dG (aM Z.1)))∨(Z.2=true∧D.all (·.oneCell')=true∧∃n,bj w' 0 n ev 21))∧Below w.heap.size w w':=by
 have HC:=aa (ag hC0 (ag hC1 (ag hCP hCs)));have HR:=aa (ag hR hbd);have HZ:=aa hZ;have HZl:=ae (∀h∈Z.1,h.1<3∧h.2.1<cnt) (fun h hm=>by rw[hZ] at hm;exact A6 hm);clear hC0 hC1 hCP hCs hR hbd hZ;obtain⟨W0,hW0⟩:∃W0,W0=(((w.alloc (.cells C 87)).alloc (.cells #[.slice none 0 0,.slice none 0 0,.slice none 0 0] 106)).alloc (.cells #[.nilIface] 62)).alloc (.cells #[.slice none 0 0,.slice none 0 0,.slice none 0 0] 106):=⟨_,rfl⟩;have hs0:W0.heap.size=w.heap.size+4:=by rw[hW0];simp
 have B0:=ae (Below w.heap.size w W0) (by rw[hW0];exact(((ak.alloc aj _).alloc (by simp) _).alloc (by simp;omega) _).alloc (by simp;omega) _);have K0:=ae (af W0 w.heap.size C 87) (by rw[hW0];exact(((af.new w C _).alloc _).alloc _).alloc _);have K1:=ae (af W0 (w.heap.size+1) #[.slice none 0 0,.slice none 0 0,.slice none 0 0] 106) (by have h:=af.new (w.alloc (.cells C 87)) #[.slice none 0 0,.slice none 0 0,.slice none 0 0] 106;rw[size_alloc] at h;rw[hW0];exact(h.alloc _).alloc _);have K2:=ae (af W0 (w.heap.size+2) #[.nilIface] 62) (by have h:=af.new ((w.alloc (.cells C 87)).alloc (.cells #[.slice none 0 0,.slice none 0 0,.slice none 0 0] 106)) #[.nilIface] 62;rw[size_alloc,size_alloc] at h;rw[hW0];exact h.alloc _);have K3:=ae (af W0 (w.heap.size+3) #[.slice none 0 0,.slice none 0 0,.slice none 0 0] 106) (by have h:=af.new (((w.alloc (.cells C 87)).alloc (.cells #[.slice none 0 0,.slice none 0 0,.slice none 0 0] 106)).alloc (.cells #[.nilIface] 62)) #[.slice none 0 0,.slice none 0 0,.slice none 0 0] 106;rw[size_alloc,size_alloc,size_alloc] at h;rw[hW0];exact h);have HW0:=aa hW0;have HS0:=aa hs0;clear hW0 hs0;obtain⟨WL,hWL⟩:∃WL,WL=W0.alloc (.cells C 87):=⟨_,rfl⟩;have hs0a:W0.heap.size≤w.heap.size+4:=by rw[HS0.out];omega
 have hs0b:w.heap.size+4≤W0.heap.size:=by rw[HS0.out];omega
 have b0L:Below W0.heap.size W0 WL:=by rw[hWL];exact ak.alloc aj _
 have hsLe:WL.heap.size=W0.heap.size+1:=by rw[hWL];simp
 have hsLa:WL.heap.size≤W0.heap.size+1:=by rw[hsLe];omega
 have hsLb:W0.heap.size+1≤WL.heap.size:=by rw[hsLe];omega
 clear hsLe;have I0:=ae (∀W',Below WL.heap.size WL W'→WL.heap.size+2≤W'.heap.size→jA w C Z [] W') (fun W' hb hs'=>by
  have hb0:Below W0.heap.size W0 W':=b0L.trans (hb.mono (by omega));refine⟨⟨[],rfl,List.nil_prefix⟩,⟨_,fun _=>.slice none 0 0,rfl,K3.out.below hb0 K3.out.lt,fun l hl=>?_,fun l hl=>World.ownsRow_nil _ _ _ _,fun l m _ _ _=>.inl rfl⟩,K0.out.below hb0 K0.out.lt,K1.out.below hb0 K1.out.lt,K2.out.below hb0 K2.out.lt,B0.out.trans (hb0.mono (by omega)),by omega⟩;rw[Nat.zero_add];match l,hl with
  |0,_=>rfl
  |1,_=>rfl
  |2,_=>rfl)
 have HX:=ae (af WL W0.heap.size C 87) (by rw[hWL];exact af.new W0 C 87);have HBL:=ae (Below w.heap.size w WL) (B0.out.trans (b0L.mono (by omega)));have HWL:=aa hWL;clear hWL b0L;refine(callsIn_wide (n:=6)).1 ?_;refine callsIn_of_wp_marks func60 rfl trivial ?_ rfl;simp only[ntmps60,List.size_toArray,List.length_cons,List.length_nil,Nat.reduceAdd,Nat.reduceSub,Array.replicate_succ,Array.replicate_zero,List.push_toArray,List.append_toArray,List.nil_append,List.cons_append];gi_upto_region 2 with fail
 rw[←HW0.out];refine wpIn_wide.2 ?_;go_wp2_with (first
  |(refine wpList_load_row rfl 87 _ rfl w.heap.size rfl 87 C (0,0) _ K0.out underlying87 rfl (by rw[HC.out.2.2.2];exact fU) ?_)
  |(go_at_call 87;refine(callsIn_wide.1 (qq 0 C _)).mono ?_;rintro e w' ⟨rfl,rfl⟩))
 gi_wp2
 rw[←HWL.out];have hmx:prog.follows .mixedOrders=true:=by kernel_rfl
 refine l9 (α:=TX) rfl (by decide) (gf:=109) (lb:=#[.pointer (some ⟨W0.heap.size,0,none⟩)]) rfl trivial (enters_of func109 (by kernel_rfl) rfl) (encs:=TX.enc) (Kp:=(Kq w.heap.size (WL.heap.size+2) (fun t=>t=106∨t=3))) Kq.trans (fun A o o' ho hc=>Kq.put o' (by omega) (by omega) ho hc)
  (Ok:=iQ Z) (S:=fun xs=>(Z.2=false∧xs=aM Z.1)∨(Z.2=true∧∃x,xs=aM Z.1++[x])) (Sp:=fun _=>True)
  (fun W1 hb1 hs1=>by
   have:=qn 5 (by omega) W0.heap.size w.heap.size (fun t=>t=106∨t=3) Z cnt sz zs C Pv iv w W1 (by decide) (by decide) (by decide) (by decide) HC.out.1 HC.out.2.1 HC.out.2.2.1 HC.out.2.2.2 HR.out.1 rfl hz HR.out.2 hsz hcnt HZ.out (HX.out.below hb1 HX.out.lt) (HBL.out.trans (hb1.mono (by omega))) (by omega);rw[hs1] at this;exact this)
  (fun _=>rfl) (jA w C Z)
  (fun c pre Wx=>c=.ret∧Z.2=true∧(∃v,af Wx (w.heap.size+1) #[.slice none 0 0,.slice none 0 0,.slice none 0 0] 106∧af Wx (w.heap.size+2) #[v] 62∧∃n,bj Wx 0 n v 21)∧Below w.heap.size w Wx)
  (jA.eV (by omega))
  (by
   rintro c pre A B row ⟨h1,h2,⟨v,h3,h4,n,h5⟩,h6⟩ hg hr;exact⟨h1,h2,⟨v,dx h3 hg hr,dx h4 hg hr,n,kn h5 hg hr⟩,jx h6 (by omega) h6.size hg hr⟩)
  (fun W' hb hs'=>I0.out W' hb (by omega))
  (fun pre x a' Wx=>∃c,a'={tmps:=#[.agg C,.pointer (some ⟨w.heap.size,0,none⟩),.pointer (some ⟨w.heap.size+1,0,none⟩),.pointer (some ⟨w.heap.size+1+1,0,none⟩),.pointer (some ⟨w.heap.size+1+1+1,0,none⟩),.pointer (some ⟨c,0,none⟩),x.2,.agg C,.func (.func 109) #[] #[.pointer (some ⟨W0.heap.size,0,none⟩)],.agg #[.int .i64 (x.1.1:Int),.int .i64 (x.1.2.1:Int),.int .i64 x.1.2.2],x.2,undef,undef,undef,undef,undef,undef,undef,undef,undef,undef],defers:=[]}∧af Wx c #[.int .i64 (x.1.1:Int),.int .i64 (x.1.2.1:Int),.int .i64 x.1.2.2] 149∧w.heap.size+7≤c∧(jA w C Z) pre Wx∧iQ Z pre x Wx) ?ax ?assign ?body ?done ?stop
 case ax=>
  rintro pre x a' A B ⟨c,h1,h2,h2c,h3,h4⟩ hg hr;exact⟨c,h1,kj h2 hg hr,h2c,jA.eV (z:=WL.heap.size+1) (by omega) pre A B _ h3 hg (fun r e=>by cases e;exact⟨aj,hr⟩),lC (z:=0) h4 hg (fun r e=>by cases e;exact⟨Nat.zero_le _,hr⟩)⟩
 case assign=>
  rintro l pre ⟨⟨lv,rk,p⟩,ev⟩ Wx K hI hok hK;have HK:=aa (ag hI (ag hok hK));clear hI hok hK;unfold TX.enc;gi_wp2
  have bA:Below Wx.heap.size Wx (Wx.alloc (.cells #[.int .i64 (lv:Int),.int .i64 (rk:Int),.int .i64 p] 149)):=ak.alloc aj _;have gA:Wx.grownBy (Wx.alloc (.cells #[.int .i64 (lv:Int),.int .i64 (rk:Int),.int .i64 p] 149)) none:=⟨bA.os,bA.tape,bA.output,bA.size,fun k hk _=>bA.block k hk⟩;exact HK.out.2.2 _ _ (lA bA) (Kq.bT bA (by have:=HK.out.1.size;omega)) ⟨_,rfl,af.new _ _ _,HK.out.1.size,jA.eV (z:=w.heap.size) aj pre _ _ none HK.out.1 gA (fun r e=>by cases e),lC (z:=0) HK.out.2.1 gA (fun r e=>by cases e)⟩
 case body=>
  rintro l pre ⟨⟨lv,rk,p⟩,ev⟩ a' Wx ⟨c,rfl,kc,hcs,hI,hok⟩;dsimp only at kc⊢
  have hIs:=hI.size;rcases hok with⟨hev,A,hA,hpre⟩|⟨hx0,A,hA,hZt,nf,hfl⟩
  ·dsimp only at hev
   subst hev;have HT2:=ae (∃A',pre++[((lv,rk,p),Value.nilIface)]=aM A'∧A'<+:Z.1) (⟨A++[(lv,rk,p)],by rw[nt,hA],hpre⟩);have HLv:=ae (lv<3∧rk<cnt) (HZl.out _ (ud hpre));have HLn:=ae ((dG pre lv).length≤cnt) (by rw[hA];exact A8 lv A (fun h hh=>(HZl.out h (hpre.subset (by simp[hh]))).2));obtain⟨D,sl,hD3,hns⟩:=hI.nums;have HI:=aa (ag hI (ag kc (ag hD3 hns)));have c2:=(kc.cell 2).trans (show _=some (.int .i64 p) from rfl);have hrg:Wx.rangeAt c 0 [.int .i64 (lv:Int),.int .i64 (rk:Int)]:=by
    intro j v hj;match j,hj with
    |0,hj=>rw[(kc.cell (0+0))];simpa using hj
    |1,hj=>rw[(kc.cell (0+1))];simpa using hj
    |k+2,hj=>simp at hj
   have HRg:=aa hrg;have hcnt2:cnt≤512:=(by omega);clear hI kc hpre hA hD3 hns hrg;gi_wp2_with (first
    |(refine mj rfl 123 _ rfl c 0 rfl [.int .i64 (lv:Int),.int .i64 (rk:Int)] _ HRg.out underlying123 rfl ey ?_)
    |(refine⟨trivial,?_⟩;gi_at_call 92;refine(CallsIn.inRound l (callsIn_wide.2 (uN (w.heap.size+3) 0 lv rk D 106 sl (dG pre) p w.heap.size _ HI.out.2.2.2 HLv.out.1 (by have:=HLv.out.2;omega) (by have:=HLn.out;omega) (by decide) (by omega)))).mono ?_;rintro e w9 ⟨rfl,sw,n9,f9⟩;have H9:=aa (ag n9 f9);clear n9 f9))
   have kF:∀z,Kq w.heap.size z (fun t=>t=106∨t=3) Wx w9:=fun z=>Kq.num H9.out.2 HI.out.2.2.2.box (HI.out.2.2.2.row lv HLv.out.1) (.inl rfl) (.inr rfl) (by omega) aj;have HN:=ae (jA w C Z (pre++[((lv,rk,p),Value.nilIface)]) w9) (⟨HT2.out,⟨D.setIfInBounds (0+lv) sw,aT sl lv sw,by simpa using HI.out.2.2.1,by rw[A4];exact H9.out.1⟩,H9.out.2.aW (HI.out.2.2.2.row lv HLv.out.1) HI.out.1.tree (by omega) (by decide),H9.out.2.aW (HI.out.2.2.2.row lv HLv.out.1) HI.out.1.res1 (by omega) (by decide),H9.out.2.aW (HI.out.2.2.2.row lv HLv.out.1) HI.out.1.res2 (by omega) (by decide),HI.out.1.old.trans (kF 0).below,aN HI.out.1.size (kF 0).size⟩);exact⟨(kF _).ir,kF _,HN.out⟩
  ·obtain⟨t',x',rfl⟩:=hfl.iface;have HI:=aa (ag hI hfl);have c1:=(hI.res1.cell 0).trans (show _=some (.slice none 0 0) from rfl);have c11:=(hI.res1.cell 1).trans (show _=some (.slice none 0 0) from rfl);have c12:=(hI.res1.cell 2).trans (show _=some (.slice none 0 0) from rfl);have f1:=hI.res1.frozen 0;have f11:=hI.res1.frozen 1;have f12:=hI.res1.frozen 2;have c2:=(hI.res2.cell 0).trans (show _=some .nilIface from rfl);have f2:=hI.res2.frozen 0;have HZt:=ae (Z.2=true) (by rw[hZt]);clear hI hfl hA hZt;gi_wp2
   obtain⟨WE,hWE⟩:∃WE,WE=(((Wx.setCell ⟨w.heap.size+1,0,none⟩ (.slice none 0 0)).setCell ⟨w.heap.size+1,1,none⟩ (.slice none 0 0)).setCell ⟨w.heap.size+1,2,none⟩ (.slice none 0 0)).setCell ⟨w.heap.size+1+1,0,none⟩ (.iface t' (.pointer (some x'))):=⟨_,rfl⟩;rw[←hWE];have k1:=HI.out.1.res1;have s1:=k1.set 0 (.slice none 0 0);have s2:=s1.set 1 (.slice none 0 0);have s3:=s2.set 2 (.slice none 0 0);have r2:=((HI.out.1.res2.other ⟨w.heap.size+1,0,none⟩ (.slice none 0 0) (by show w.heap.size+2≠w.heap.size+1;omega)).other ⟨w.heap.size+1,1,none⟩ (.slice none 0 0) (by show w.heap.size+2≠w.heap.size+1;omega)).other ⟨w.heap.size+1,2,none⟩ (.slice none 0 0) (by show w.heap.size+2≠w.heap.size+1;omega);have g1:af WE (w.heap.size+1) #[.slice none 0 0,.slice none 0 0,.slice none 0 0] 106:=(by rw[hWE];exact s3.other _ _ (by show w.heap.size+1≠w.heap.size+1+1;omega));have g2:af WE (w.heap.size+2) #[.iface t' (.pointer (some x'))] 62:=(by rw[hWE];exact r2.set 0 _);have fl:bj WE 0 nf (.iface t' (.pointer (some x'))) 21:=by
    rw[hWE];refine lB r2 (by intro k z h;cases h) _ ?_;refine bj.keep (fun b o u _ hc=>qC ((s2.cell 2).trans rfl) hc) ?_;refine bj.keep (fun b o u _ hc=>qC ((s1.cell 1).trans rfl) hc) ?_;exact bj.keep (fun b o u _ hc=>qC ((k1.cell 0).trans rfl) hc) HI.out.2
   have hold:Below w.heap.size w WE:=by
    rw[hWE];exact(((HI.out.1.old.setCell (p:=⟨w.heap.size+1,0,none⟩) (by show w.heap.size≤w.heap.size+1;omega) _).setCell (p:=⟨w.heap.size+1,1,none⟩) (by show w.heap.size≤w.heap.size+1;omega) _).setCell (p:=⟨w.heap.size+1,2,none⟩) (by show w.heap.size≤w.heap.size+1;omega) _).setCell (p:=⟨w.heap.size+1+1,0,none⟩) (by show w.heap.size≤w.heap.size+1+1;omega) _
   have hko:KeepsOthers Wx WE:=(by rw[hWE];exact(((KeepsOthers.setCell _ _ _).trans (KeepsOthers.setCell _ _ _)).trans (KeepsOthers.setCell _ _ _)).trans (KeepsOthers.setCell _ _ _));exact⟨hko.from _,⟨rfl,HZt.out,⟨g1,_,g2,nf,fl⟩,hold⟩⟩
 case done=>
  rintro xs Wx hS hI hK;obtain⟨D,sl,hD3,hns⟩:=hI.nums;obtain⟨a0,q0,e0⟩:=jS (hns.row 0 (by omega));obtain⟨a1,q1,e1⟩:=jS (hns.row 1 (by omega));obtain⟨a2,q2,e2⟩:=jS (hns.row 2 (by omega));obtain⟨n0,hn0⟩:∃n0,n0=(dG xs 0).length:=⟨_,rfl⟩;obtain⟨n1,hn1⟩:∃n1,n1=(dG xs 1).length:=⟨_,rfl⟩;obtain⟨n2,hn2⟩:∃n2,n2=(dG xs 2).length:=⟨_,rfl⟩;obtain rfl:D=#[.slice a0 n0 q0,.slice a1 n1 q1,.slice a2 n2 q2]:=by
   match D,hD3,hns.at_ 0 (by omega),hns.at_ 1 (by omega),hns.at_ 2 (by omega) with
   |⟨[d0,d1,d2]⟩,_,h0,h1,h2=>
    have h0':d0=sl 0:=(by simpa using h0);have h1':d1=sl 1:=(by simpa using h1);have h2':d2=sl 2:=(by simpa using h2);rw[h0',h1',h2',e0,e1,e2,hn0,hn1,hn2]
  have HI:=aa (ag hI (ag hK hns));have HSx:=aa hS;have b0:Wx.cell? ⟨w.heap.size+1+1+1,0,none⟩=some (.slice a0 n0 q0):=(hns.box.cell 0).trans rfl;have b1:Wx.cell? ⟨w.heap.size+1+1+1,1,none⟩=some (.slice a1 n1 q1):=(hns.box.cell 1).trans rfl;have b2:Wx.cell? ⟨w.heap.size+1+1+1,2,none⟩=some (.slice a2 n2 q2):=(hns.box.cell 2).trans rfl;have c10:=(hI.res1.cell 0).trans (show _=some (.slice none 0 0) from rfl);have c11:=(hI.res1.cell 1).trans (show _=some (.slice none 0 0) from rfl);have c12:=(hI.res1.cell 2).trans (show _=some (.slice none 0 0) from rfl);have f1:=hI.res1.frozen 0;have f11:=hI.res1.frozen 1;have f12:=hI.res1.frozen 2;have c2:=(hI.res2.cell 0).trans (show _=some .nilIface from rfl);have f2:=hI.res2.frozen 0;clear hI hK hS hns e0 e1 e2 hn0 hn1 hn2 hD3;gi_wp2
  have hZ0:Z.2=false∧xs=aM Z.1:=by
   rcases HSx.out with h|⟨h,x,hx⟩
   ·exact h
   ·exfalso;obtain⟨A,hA,hp⟩:=HI.out.1.told;have h1:=congrArg List.length (hx.symm.trans hA);have h2:=hp.length_le;unfold aM at h1;simp at h1;omega
  obtain⟨hZ1,rfl⟩:=hZ0;obtain⟨WE,hWE⟩:∃WE,WE=(((Wx.setCell ⟨w.heap.size+1,0,none⟩ (.slice a0 n0 q0)).setCell ⟨w.heap.size+1,1,none⟩ (.slice a1 n1 q1)).setCell ⟨w.heap.size+1,2,none⟩ (.slice a2 n2 q2)).setCell ⟨w.heap.size+1+1,0,none⟩ .nilIface:=⟨_,rfl⟩;rw[←hWE];have k1:=HI.out.1.res1;have s1:=k1.set 0 (.slice a0 n0 q0);have s2:=s1.set 1 (.slice a1 n1 q1);have s3:=s2.set 2 (.slice a2 n2 q2);have r2:=((HI.out.1.res2.other ⟨w.heap.size+1,0,none⟩ (.slice a0 n0 q0) (by show w.heap.size+2≠w.heap.size+1;omega)).other ⟨w.heap.size+1,1,none⟩ (.slice a1 n1 q1) (by show w.heap.size+2≠w.heap.size+1;omega)).other ⟨w.heap.size+1,2,none⟩ (.slice a2 n2 q2) (by show w.heap.size+2≠w.heap.size+1;omega);have g1:af WE (w.heap.size+1) #[.slice a0 n0 q0,.slice a1 n1 q1,.slice a2 n2 q2] 106:=by rw[hWE];exact s3.other _ _ (by show w.heap.size+1≠w.heap.size+1+1;omega)
  have g2:af WE (w.heap.size+1+1) #[.nilIface] 62:=by rw[hWE];exact r2.set 0 _
  have hns:dF WE w.heap.size (w.heap.size+1) 0 #[.slice a0 n0 q0,.slice a1 n1 q1,.slice a2 n2 q2] 106 sl (dG (aM Z.1)):=⟨g1,HI.out.2.2.at_,fun l hl=>by rw[hWE];exact dL (dL (dL (dL (HI.out.2.2.row l hl) k1 (by decide)) s1 (by decide)) s2 (by decide)) r2 (by decide),HI.out.2.2.apart⟩;have hD:WE.heap[WL.heap.size]?=some (.deferred (some [])):=by rw[hWE];exact(KeepsOthers.setCell _ _ _).same _ _ ((KeepsOthers.setCell _ _ _).same _ _ ((KeepsOthers.setCell _ _ _).same _ _ ((KeepsOthers.setCell _ _ _).same _ _ HI.out.2.1 rfl) rfl) rfl) rfl
  have hbE:Below w.heap.size w WE:=by
   rw[hWE];exact(((HI.out.1.old.setCell (p:=⟨w.heap.size+1,0,none⟩) (by show w.heap.size≤w.heap.size+1;omega) _).setCell (p:=⟨w.heap.size+1,1,none⟩) (by show w.heap.size≤w.heap.size+1;omega) _).setCell (p:=⟨w.heap.size+1,2,none⟩) (by show w.heap.size≤w.heap.size+1;omega) _).setCell (p:=⟨w.heap.size+1+1,0,none⟩) (by show w.heap.size≤w.heap.size+1+1;omega) _
  refine⟨by simp,.inl ⟨_,_,rfl,run_takeDeferred hD,?_⟩⟩;refine⟨_,uQ rfl _ _ (w.heap.size+1) (w.heap.size+1+1) _ _ rfl rfl (fV _ g1 hD rfl) rfl (fV _ g2 hD rfl),_,_,rfl,rfl,.inl ⟨hZ1,rfl,w.heap.size+1,sl,?_⟩,?_⟩
  ·exact hns.fq (z:=0) (grownBy_putObj' _ _ _) (fun r e=>by cases e;exact⟨Nat.zero_le _,_,hD,rfl⟩)
  ·exact hbE.trans (belowK_b (w:=w) aj WE WL.heap.size _ (.deferred none) (by omega) hD rfl rfl)
 case stop=>
  rintro c pre Wx _ ⟨rfl,hZ2,⟨v,h3,h4,n,h5⟩,h6⟩ hK;have HI:=aa (ag hZ2 (ag h3 (ag h4 (ag h5 (ag h6 hK)))));clear hZ2 h3 h4 h5 h6 hK;gi_wp2
  have hD:=HI.out.2.2.2.2.2;refine⟨by simp,.inl ⟨_,_,rfl,run_takeDeferred hD,?_⟩⟩;refine⟨_,uQ rfl _ _ (w.heap.size+1) (w.heap.size+1+1) _ _ rfl rfl (fV _ HI.out.2.1 hD rfl) rfl (fV _ HI.out.2.2.1 hD rfl),_,_,rfl,rfl,.inr ⟨HI.out.1,by simp only[List.all_toArray,List.all_cons,List.all_nil];rfl,n,?_⟩,?_⟩
  ·exact kn (z:=0) HI.out.2.2.2.1 (grownBy_putObj' _ _ _) (fun r e=>by cases e;exact⟨Nat.zero_le _,_,hD,rfl⟩)
  ·exact HI.out.2.2.2.2.1.trans (belowK_b (w:=w) aj Wx WL.heap.size _ (.deferred none) (by omega) hD rfl rfl)
end
section
open Go.RowKit
theorem vJ(v:Value)(bs:List Int)(n:Nat)(w:World)(h:Rd .u8 w v bs)(hbd:∀z∈bs,0≤z∧z<256)(hn:bs.length/4=n)(hn2:n≤65536):
 Calls prog 62 #[v] w fun e w'=>∃v',e=.returned v'∧w'.ownsRow w.heap.size 3 1 v' n ((cm bs n).map (Value.int .i64))∧Below w.heap.size w w':=by
 obtain⟨i0,hi,hz0,hz1,hz2⟩:=info_parts eO;have hm:=h.len;unfold maxLen at hm;have HB:=aa hbd;have HR:=aa h;have HN:=aa hn;have HL:=ae ((bs.length:Int)/4=(n:Int)) (by omega);clear hbd;obtain⟨a,cap,rfl,_⟩:=h;generalize hbl:bs.length=bl at*;have HBL:=aa hbl;have hbl2:bl≤262147:=by omega
 clear hbl hn;go_enter func62,ntmps62;go_wp2_with (refine wpList_make_full _ rfl _ _ 29 rfl w.heap.size 3 i0 (.int .i64 0) 1 underlying29 hi hz0 hz1 .i64 .i64 n n n (by rw[←HL.out];rfl) (by rw[←HL.out];rfl) rfl rfl (by rw[hz2];omega) (by unfold maxLen;omega) aj ?_;intro w3 hown3 hgr3;rw[iK _ _ rfl] at hown3);have hb3:Below w.heap.size w w3:=ak.grown hgr3 aj (fun k e=>by cases e);go_loopw [12] (fun i wr=>∃k:Nat,k≤n∧i=.int .i64 k∧Below w.heap.size w wr∧wr.ownsRow w.heap.size 3 1 (.slice (some ⟨w.heap.size,0,none⟩) n n) n ((cm bs k).map (Value.int .i64)++List.replicate (n-k) (.int .i64 0))) (fun i _=>n-(intOf i).toNat)
 case atStart=>exact⟨0,by omega,rfl,hb3,by simpa [cm] using hown3⟩
 case round=>
  clear hown3 hgr3 hb3;obtain⟨k,hk,rfl,hb,hown⟩:=hrel;by_cases hk8:k<n
  ·have hk4:4*k+4≤bs.length:=(by have:=HN.out;rw[HBL.out];omega);obtain⟨sa,sc,hsr,hsl⟩:=td HR.out (4*k) (by omega);have hF:=tc bs k hk4;obtain⟨b2,off2,c2,hsv,hb2,_,_,hcell⟩:=hsr.dj (by rw[List.length_drop];omega);injection hsv with e1 e2 e3;subst e1;subst e3;have cellj:∀j,j<4→w.cell? ⟨b2,off2+j,none⟩=some (.int .u8 (bs.getD (4*k+j) 0)):=fun j hj=>by
    rw[hcell j (by rw[List.length_drop];omega)];simp[List.getD,List.getElem?_drop]
   have hbx:∀j,j<4→∃x:Nat,bs.getD (4*k+j) 0=(x:Int)∧x<256:=fun j hj=>by
    have hl:4*k+j<bs.length:=(by omega);have:=HB.out _ (List.getElem_mem hl);exact⟨(bs.getD (4*k+j) 0).toNat,by simp[List.getD,hl];omega,by simp[List.getD,hl];omega⟩
   obtain⟨x0,hx0,l0⟩:=hbx 0 (by omega);obtain⟨x1,hx1,l1⟩:=hbx 1 (by omega);obtain⟨x2,hx2,l2⟩:=hbx 2 (by omega);obtain⟨x3,hx3,l3⟩:=hbx 3 (by omega);have HW:=ae (gj bs k=((x0+256*(x1+256*(x2+256*x3)):Nat):Int)) (by
    unfold gj;rw[hF,s7,show bs.getD (4*k) 0=(x0:Int) from hx0,hx1,hx2,hx3];simp only[Int.toNat_natCast])
   have HRg:=ae (wr.rangeAt b2 off2 [.int .u8 (x0:Int),.int .u8 (x1:Int),.int .u8 (x2:Int),.int .u8 (x3:Int)]) (by
    intro j y hj;rw[hb.cell (p:=⟨b2,off2+j,none⟩) hb2];match j,hj with
    |0,hj=>rw[cellj 0 (by omega),hx0];simpa using hj
    |1,hj=>rw[cellj 1 (by omega),hx1];simpa using hj
    |2,hj=>rw[cellj 2 (by omega),hx2];simpa using hj
    |3,hj=>rw[cellj 3 (by omega),hx3];simpa using hj
    |n+4,hj=>simp at hj)
   have harr:∀(wx:World),(Instr.arrayAt 161 (.slice (some ⟨b2,off2,none⟩) (bs.length-4*k) sc)).run prog wx=.ok (.pointer (some ⟨b2,off2,none⟩)) wx:=fun wx=>run_arrayAt (w:=wx) 161 5 4 _ _ _ underlying161 (by omega);rw[HBL.out] at hsl harr;have hsl2:∀(wx:World),(Instr.slice 22 (.slice a bl cap) (some (.int .i64 ((k:Int)*4))) none none).run prog wx=.ok (.slice (some ⟨b2,off2,none⟩) (bl-4*k) sc) wx:=fun wx=>by
    have:=hsl wx;rw[show((4*k:Nat):Int)=(k:Int)*4 by omega] at this;exact this
   obtain⟨W3,hW3⟩:∃W3,W3=(wr.alloc (.cells #[.int .u8 0,.int .u8 0,.int .u8 0,.int .u8 0] 161)).setRow wr.heap.size #[.int .u8 (x0:Int),.int .u8 (x1:Int),.int .u8 (x2:Int),.int .u8 (x3:Int)]:=⟨_,rfl⟩;have B3:=ae (Below wr.heap.size wr W3) (by rw[hW3];exact below_setRow (ak.alloc aj _) aj _);have K3:=ae (af W3 wr.heap.size #[.int .u8 (x0:Int),.int .u8 (x1:Int),.int .u8 (x2:Int),.int .u8 (x3:Int)] 161) (by rw[hW3];exact(af.new wr _ 161).row _);have KN:=aa (af.new wr #[.int .u8 0,.int .u8 0,.int .u8 0,.int .u8 0] 161);have cb0:=(K3.out.cell 0).trans (show _=some (.int .u8 (x0:Int)) from rfl);have cb1:=(K3.out.cell 1).trans (show _=some (.int .u8 (x1:Int)) from rfl);have cb2:=(K3.out.cell 2).trans (show _=some (.int .u8 (x2:Int)) from rfl);have cb3:=(K3.out.cell 3).trans (show _=some (.int .u8 (x3:Int)) from rfl);have ho4:=bS hown B3.out;have hst:=ho4.stored k (.int .i64 ((x0+256*(x1+256*(x2+256*x3)):Nat):Int));have hfr:=ho4.frozenAt k;obtain⟨old,hco⟩:∃u,W3.cell? ⟨w.heap.size,k,none⟩=some u:=by
    rw[ho4.cellAt k (by omega)];exact⟨_,List.getElem?_eq_getElem (by simp[pW];omega)⟩
   have hor:=sZ x0 x1 x2 x3 l0 l1 l2 l3;have HX:=ae (Below w.heap.size w (W3.setCell ⟨w.heap.size,k,none⟩ (.int .i64 ((x0+256*(x1+256*(x2+256*x3)):Nat):Int)))∧(W3.setCell ⟨w.heap.size,k,none⟩ (.int .i64 ((x0+256*(x1+256*(x2+256*x3)):Nat):Int))).ownsRow w.heap.size 3 1 (.slice (some ⟨w.heap.size,0,none⟩) n n) n ((cm bs (k+1)).map (Value.int .i64)++List.replicate (n-(k+1)) (.int .i64 0))) (by
    refine⟨(hb.trans (B3.out.mono hb.size)).setCell (p:=⟨w.heap.size,k,none⟩) aj _,?_⟩;rw[←sY bs k n hk8 _ (by rw[HW.out])];exact hst.1)
   have HW3:=aa hW3;clear hW3 hst ho4 hown hsl hsr hcell cellj hbx hF hx0 hx1 hx2 hx3 hb;go_upto_region 6 with(first
    |(refine wpList_load_mid rfl 161 _ rfl b2 off2 rfl [.int .u8 (x0:Int),.int .u8 (x1:Int),.int .u8 (x2:Int),.int .u8 (x3:Int)] _ HRg.out underlying161 rfl nu ?_)
    |(refine wpList_store_row rfl 161 _ _ rfl wr.heap.size #[.int .u8 (x0:Int),.int .u8 (x1:Int),.int .u8 (x2:Int),.int .u8 (x3:Int)] rfl rfl 161 #[.int .u8 0,.int .u8 0,.int .u8 0,.int .u8 0] KN.out nu rfl (by simp[Value.oneCell']) ?_)
    |fail)
   rw[←HW3.out];go_wp2;go_roundw
   case rel=>exact⟨k+1,by omega,by go_num,HX.out.1,HX.out.2⟩
   case measure=>simp[intOf];omega
  ·have e8:k=n:=(by omega);subst e8;go_wp2;go_ret;refine⟨_,rfl,?_,hb⟩;rw[Nat.sub_self,List.replicate_zero,List.append_nil] at hown;exact hown
end
end Go.Proofs.YtlimollpocagiaaGreatDoor
