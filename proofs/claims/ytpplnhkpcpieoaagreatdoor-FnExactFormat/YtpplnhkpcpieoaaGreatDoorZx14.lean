/- The program's numbered -/
import Derived.Test.YtpplnhkpcpieoaaGreatDoorZx13
namespace Go.Proofs.YtpplnhkpcpieoaaGreatDoor
open Go.Proofs.Tryz
open _root_.List (length_drop getD replicate length_map length_take getElem?_map getElem?_eq_none)
open World (size_alloc)
open _root_.Nat (zero_add zero_le lt_or_ge)
set_option linter.all false
set_option maxRecDepth 100000
set_option maxHeartbeats 16000000
section
open Go.RowKit Go.Shelf
attribute [local go_sem] Oper.semAt_some
theorem yW{cnt n:Nat}{W:Int→Nat→Int}:∀(l r:Nat) (p:Int) (h:HG),h∈(dO cnt n W l r p).1→h.1≤l∧aT h.1 h.2.1<cnt
 |0,r,p,h,hm=>by
  unfold dO at hm;by_cases h0:cnt≤aT 0 r∨p=0
  ·rw[if_pos h0] at hm;simp at hm
  ·rw[if_neg h0] at hm;cases hg:bM n p with
   |false=>rw[if_pos hg] at hm;simp at hm
   |true=>
    rw[if_neg (by rw[hg];decide)] at hm;simp at hm;subst hm;exact⟨aj,by have h1:¬cnt≤aT 0 r:=fun e=>h0 (.inl e);show aT 0 r<cnt;omega⟩
 |l+1,r,p,h,hm=>by
  unfold dO at hm;by_cases h0:cnt≤aT (l+1) r∨p=0
  ·rw[if_pos h0] at hm;simp at hm
  ·rw[if_neg h0] at hm;cases hg:bM n p with
   |false=>rw[if_pos hg] at hm;simp at hm
   |true=>
    rw[if_neg (by rw[hg];decide)] at hm;unfold cM at hm;rw[if_neg (by simp)] at hm;rcases List.mem_append.1 hm with hm|hm
    ·simp at hm;subst hm;exact⟨aj,by have h1:¬cnt≤aT (l+1) r:=fun e=>h0 (.inl e);show aT (l+1) r<cnt;omega⟩
    ·obtain⟨a,ha,h2⟩:=pN _ h hm;obtain⟨k,_,rfl⟩:=List.mem_map.1 ha;have:=yW l _ _ h h2;exact⟨by omega,this.2⟩
theorem yX{cnt n:Nat}{W:Int→Nat→Int}{Pv:Nat→Int}{h:HG}(hm:h∈(dz (fe cnt n W Pv)).1):h.1<3∧h.2.1<cnt:=by
 obtain⟨a,ha,h2⟩:=pN _ h hm;unfold fe at ha;obtain⟨j,_,rfl⟩:=List.mem_map.1 ha;have h3:=yW _ _ _ h h2;have h4:=qQ j;exact⟨by omega,Nat.lt_of_le_of_lt (fY h.1 h.2.1) h3.2⟩
theorem yY{cnt:Nat}(l:Nat):∀(A:List TX) (f:Nat→List Int),(f l).length≤cnt→(∀x∈A,x.1.2.1<cnt)→((A.foldl (fun f x=>aO f x.1.1 (dD (f x.1.1) x.1.2.1 x.1.2.2)) f) l).length≤cnt
 |[],f,h,_=>h
 |x::A,f,h,hA=>by
  rw[List.foldl_cons];refine yY l A _ ?_ (fun y hy=>hA y (List.mem_cons_of_mem _ hy));have h2:=hA x List.mem_cons_self;by_cases e:l=x.1.1
  ·subst e;rw[bY,nY];omega
  ·rw[aU _ _ _ _ e];exact h
theorem yZ{cnt:Nat}(l:Nat)(A:List HG)(hA:∀h∈A,h.2.1<cnt):(dR (aY A) l).length≤cnt:=by
 refine yY l (aY A) _ (by simp) (fun x hx=>?_);unfold aY at hx;obtain⟨h,hh,rfl⟩:=List.mem_map.1 hx;exact hA h hh
theorem Kq.num{n₀ z b base n:Nat}{Ty:TypeId→Prop}{W W':World}{sv:Value}{C:Array Value}{t:TypeId}{xs:List Value}(h:fZ W W' b sv)(hb:af W b C t)(ho:W.ownsRow base 3 1 sv n xs)(ht:Ty t)(hi:Ty 3)(hn:n₀≤b)(hn2:n₀≤base):Kq n₀ z Ty W W':=by
 have hlt:=hb.lt;refine⟨⟨h.os,h.tape,h.output,h.size,fun k hk=>h.block k (by omega) (by omega) (fun e=>by have:=(ho.lt k e).1;omega)⟩,fun k cs u fr hk hu=>?_,fun k o hz hk hc=>?_,h.size⟩
 ·refine(h.block k (Array.getElem?_eq_some_iff.1 hk).1 (fun e=>?_) (fun e=>?_)).trans hk
  ·subst e;have hb':W.heap[k]?=some (.cells C t):=hb;rw[hb'] at hk;cases hk
   exact hu ht
  ·obtain⟨_,C',hC⟩:=q7 ho e;have hb':W.heap[k]?=some (.cells C' 3):=hC;rw[hb'] at hk;cases hk
   exact hu hi
 ·refine(h.block k (Array.getElem?_eq_some_iff.1 hk).1 (fun e=>?_) (fun e=>?_)).trans hk
  ·subst e;have hb':W.heap[k]?=some (.cells C t):=hb;rw[hb'] at hk;cases hk
   cases hc
  ·obtain⟨_,C',hC⟩:=q7 ho e;have hb':W.heap[k]?=some (.cells C' 3):=hC;rw[hb'] at hk;cases hk
   cases hc
structure iD(w:World)(C:Array Value)(Z:TL)(pre:List TX)(W:World):Prop where
 told:∃A,pre=aY A∧A<+:Z.1
 nums:∃D sl,D.size=3∧dP W w.heap.size (w.heap.size+3) 0 D 110 sl (dR pre)
 tree:af W w.heap.size C 108
 au:af W (w.heap.size+1) #[.slice none 0 0,.slice none 0 0,.slice none 0 0] 110
 aW:af W (w.heap.size+2) #[.nilIface] 58
 old:Below w.heap.size w W
 size:w.heap.size+7≤W.heap.size
theorem iD.dU{w:World}{z:Nat}{C:Array Value}{Z:TL}(hz:w.heap.size≤z):iL z (iD w C Z):=by
 intro pre A B row h hg hr;obtain⟨D,sl,h0,h1⟩:=h.nums;exact⟨h.told,⟨D,sl,h0,h1.fH hg hr⟩,dZ h.tree hg hr,dZ h.au hg hr,dZ h.aW hg hr,lM h.old hz (by have:=h.size;omega) hg hr,aK h.size hg.size⟩
theorem nZ{A:World}{a:Addr}{v:Value}(h:A.cell? a=some v){b o:Nat}{u:Value}(hc:A.cell? ⟨b,o,none⟩=some u):(A.setCell a v).cell? ⟨b,o,none⟩=some u:=by
 by_cases e:a=⟨b,o,none⟩
 ·subst e;rw[h] at hc;cases hc
  exact World.cell?_setCell_same _ _ _ h
 ·rw[World.cell?_setCell_other _ _ _ _ e];exact hc
theorem rz{fn:Func}{p q:Tmp}(h:fn.results=#[.cell p 110,.cell q 58])(tmps:Array Value)(w:World)(R1 R2:Nat)(D:Array Value)(v2:Value)(hp:tmps.getD p undef=.pointer (some ⟨R1,0,none⟩))(hq:tmps.getD q undef=.pointer (some ⟨R2,0,none⟩))
 (h1:af w R1 D 110) (hD:D.size=3) (h2:af w R2 #[v2] 58):(results fn tmps).run prog w=.ok (.tuple #[.agg D,v2]) w:=by
 have c2:=(h2.cell 0).trans (show _=some v2 from rfl);have hp':tmps[p]?.getD undef=.pointer (some ⟨R1,0,none⟩):=by rw[←Array.getD_eq_getD_getElem?];exact hp
 have hq':tmps[q]?.getD undef=.pointer (some ⟨R2,0,none⟩):=by rw[←Array.getD_eq_getD_getElem?];exact hq
 obtain⟨d0,d1,d2,rfl⟩:∃d0 d1 d2,D=#[d0,d1,d2]:=by
  match D,hD with
  |⟨[d0,d1,d2]⟩,_=>exact⟨d0,d1,d2,rfl⟩
 have c10:=(h1.cell 0).trans (show _=some d0 from rfl);have c11:=(h1.cell 1).trans (show _=some d1 from rfl);have c12:=(h1.cell 2).trans (show _=some d2 from rfl);simp only[results,h];go_simp
theorem Gg(cnt sz:Nat)(zs:List Int)(C:Array Value)(Pv:Nat→Int)(iv:Value)(w:World)(Z:TL)
 (hC0:C[0]?=some iv) (Ny:C[1]?=some (.int .i64 (sz:Int))) (Qw:∀j,j<14→C[2+j]?=some (.int .i64 (Pv j))) (hCs:C.size=16) (hR:Rd .u8 w iv zs) (hz:zs.length≤1048576) (hbd:∀z∈zs,0≤z∧z<256) (hsz:sz≤262144) (hcnt:cnt=(sz+511)/512)
 (hZ:Z=dz (fe cnt (zs.length/512) (aQ zs) Pv)):
 Calls prog 88 #[.agg C] w fun e w'=>∃D ev,e=.returned (.tuple #[.agg D,ev])∧D.size=3∧((Z.2=false∧ev=.nilIface∧∃b sl,dP w' w.heap.size b 0 D 110 sl (dR (aY Z.1)))∨(Z.2=true∧∃n,bU w' 0 n ev 21))∧Below w.heap.size w w':=by
 have HC:=aa (ai hC0 (ai Ny (ai Qw hCs)));have HR:=aa (ai hR hbd);have HZ:=aa hZ;have Vg:=ae (∀h∈Z.1,h.1<3∧h.2.1<cnt) (fun h hm=>by rw[hZ] at hm;exact yX hm);clear hC0 Ny Qw hCs hR hbd hZ;obtain⟨W0,hW0⟩:∃W0,W0=(((w.alloc (.cells C 108)).alloc (.cells #[.slice none 0 0,.slice none 0 0,.slice none 0 0] 110)).alloc (.cells #[.nilIface] 58)).alloc (.cells #[.slice none 0 0,.slice none 0 0,.slice none 0 0] 110):=⟨_,rfl⟩;have hs0:W0.heap.size=w.heap.size+4:=by rw[hW0];simp
 have B0:=ae (Below w.heap.size w W0) (by rw[hW0];exact(((ak.alloc aj _).alloc (by simp) _).alloc (by simp;omega) _).alloc (by simp;omega) _);have K0:=ae (af W0 w.heap.size C 108) (by rw[hW0];exact(((af.new w C _).alloc _).alloc _).alloc _);have K1:=ae (af W0 (w.heap.size+1) #[.slice none 0 0,.slice none 0 0,.slice none 0 0] 110) (by have h:=af.new (w.alloc (.cells C 108)) #[.slice none 0 0,.slice none 0 0,.slice none 0 0] 110;rw[size_alloc] at h;rw[hW0];exact(h.alloc _).alloc _);have K2:=ae (af W0 (w.heap.size+2) #[.nilIface] 58) (by have h:=af.new ((w.alloc (.cells C 108)).alloc (.cells #[.slice none 0 0,.slice none 0 0,.slice none 0 0] 110)) #[.nilIface] 58;rw[size_alloc,size_alloc] at h;rw[hW0];exact h.alloc _);have K3:=ae (af W0 (w.heap.size+3) #[.slice none 0 0,.slice none 0 0,.slice none 0 0] 110) (by have h:=af.new (((w.alloc (.cells C 108)).alloc (.cells #[.slice none 0 0,.slice none 0 0,.slice none 0 0] 110)).alloc (.cells #[.nilIface] 58)) #[.slice none 0 0,.slice none 0 0,.slice none 0 0] 110;rw[size_alloc,size_alloc,size_alloc] at h;rw[hW0];exact h);have HW0:=aa hW0;have NB:=aa hs0;clear hW0 hs0;obtain⟨WL,cK⟩:∃WL,WL=W0.alloc (.cells C 108):=⟨_,rfl⟩;have Ru:W0.heap.size≤w.heap.size+4:=by rw[NB.out];omega
 have Rv:w.heap.size+4≤W0.heap.size:=by rw[NB.out];omega
 have Th:Below W0.heap.size W0 WL:=by rw[cK];exact ak.alloc aj _
 have OY:WL.heap.size=W0.heap.size+1:=by rw[cK];simp
 have Yx:WL.heap.size≤W0.heap.size+1:=by rw[OY];omega
 have Yy:W0.heap.size+1≤WL.heap.size:=by rw[OY];omega
 clear OY;have I0:=ae (∀W',Below WL.heap.size WL W'→WL.heap.size+2≤W'.heap.size→iD w C Z [] W') (fun W' hb hs'=>by
  have hb0:Below W0.heap.size W0 W':=Th.trans (hb.mono (by omega));refine⟨⟨[],rfl,List.nil_prefix⟩,⟨_,fun _=>.slice none 0 0,rfl,K3.out.below hb0 K3.out.lt,fun l hl=>?_,fun l hl=>World.ownsRow_nil _ _ _ _,fun l m _ _ _=>.inl rfl⟩,K0.out.below hb0 K0.out.lt,K1.out.below hb0 K1.out.lt,K2.out.below hb0 K2.out.lt,B0.out.trans (hb0.mono (by omega)),by omega⟩;rw[zero_add];match l,hl with
  |0,_=>rfl
  |1,_=>rfl
  |2,_=>rfl)
 have HX:=ae (af WL W0.heap.size C 108) (by rw[cK];exact af.new W0 C 108);have vX:=ae (Below w.heap.size w WL) (B0.out.trans (Th.mono (by omega)));have Ox:=aa cK;clear cK Th;refine(callsIn_wide (n:=6)).1 ?_;refine callsIn_of_wp_marks func88 rfl trivial ?_ rfl;simp only[ntmps88,List.size_toArray,List.length_cons,List.length_nil,Nat.reduceAdd,Nat.reduceSub,Array.replicate_succ,Array.replicate_zero,List.push_toArray,List.append_toArray,List.nil_append,List.cons_append];gi_upto_region 2 with fail
 rw[←HW0.out];refine wpIn_wide.2 ?_;go_wp2_with (first
  |(refine wpList_load_row rfl 108 _ rfl w.heap.size rfl 108 C (0,0) _ K0.out underlying108 rfl (by rw[HC.out.2.2.2];exact jm) ?_)
  |(go_at_call 123;refine(callsIn_wide.1 (ud 0 C _)).mono ?_;rintro e w' ⟨rfl,rfl⟩))
 gi_wp2
 rw[←Ox.out];have hmx:prog.follows .mixedOrders=true:=by kernel_rfl
 refine mj (α:=TX) rfl (by decide) (gf:=145) (lb:=#[.pointer (some ⟨W0.heap.size,0,none⟩)]) rfl trivial (enters_of func145 (by kernel_rfl) rfl) (encs:=TX.enc) (Kp:=(Kq w.heap.size (WL.heap.size+2) (fun t=>t=110∨t=3))) Kq.trans (fun A o o' ho hc=>Kq.put o' (by omega) (by omega) ho hc)
  (Ok:=jV Z) (S:=fun xs=>(Z.2=false∧xs=aY Z.1)∨(Z.2=true∧∃x,xs=aY Z.1++[x])) (Sp:=fun _=>True)
  (fun W1 hb1 hs1=>by
   have:=tW 5 (by omega) W0.heap.size w.heap.size (fun t=>t=110∨t=3) Z cnt sz zs C Pv iv w W1 (by decide) (by decide) (by decide) (by decide) HC.out.1 HC.out.2.1 HC.out.2.2.1 HC.out.2.2.2 HR.out.1 rfl hz HR.out.2 hsz hcnt HZ.out (HX.out.below hb1 HX.out.lt) (vX.out.trans (hb1.mono (by omega))) (by omega);rw[hs1] at this;exact this)
  (fun _=>rfl) (iD w C Z)
  (fun c pre Wx=>c=.ret∧Z.2=true∧(∃v,af Wx (w.heap.size+1) #[.slice none 0 0,.slice none 0 0,.slice none 0 0] 110∧af Wx (w.heap.size+2) #[v] 58∧∃n,bU Wx 0 n v 21)∧Below w.heap.size w Wx)
  (iD.dU (by omega))
  (by
   rintro c pre A B row ⟨h1,h2,⟨v,h3,h4,n,h5⟩,h6⟩ hg hr;exact⟨h1,h2,⟨v,dZ h3 hg hr,dZ h4 hg hr,n,m7 h5 hg hr⟩,lM h6 (by omega) h6.size hg hr⟩)
  (fun W' hb hs'=>I0.out W' hb (by omega))
  (fun pre x a' Wx=>∃c,a'={tmps:=#[.agg C,.pointer (some ⟨w.heap.size,0,none⟩),.pointer (some ⟨w.heap.size+1,0,none⟩),.pointer (some ⟨w.heap.size+1+1,0,none⟩),.pointer (some ⟨w.heap.size+1+1+1,0,none⟩),.pointer (some ⟨c,0,none⟩),x.2,.agg C,.func (.func 145) #[] #[.pointer (some ⟨W0.heap.size,0,none⟩)],.agg #[.int .i64 (x.1.1:Int),.int .i64 (x.1.2.1:Int),.int .i64 x.1.2.2],x.2,undef,undef,undef,undef,undef,undef,undef,undef,undef,undef],defers:=[]}∧af Wx c #[.int .i64 (x.1.1:Int),.int .i64 (x.1.2.1:Int),.int .i64 x.1.2.2] 225∧w.heap.size+7≤c∧(iD w C Z) pre Wx∧jV Z pre x Wx) ?ax ?assign ?body ?done ?stop
 case ax=>
  rintro pre x a' A B ⟨c,h1,h2,Yz,h3,h4⟩ hg hr;exact⟨c,h1,kR h2 hg hr,Yz,iD.dU (z:=WL.heap.size+1) (by omega) pre A B _ h3 hg (fun r e=>by cases e;exact⟨aj,hr⟩),nU (z:=0) h4 hg (fun r e=>by cases e;exact⟨zero_le _,hr⟩)⟩
 case assign=>
  rintro l pre ⟨⟨lv,rk,p⟩,ev⟩ Wx K hI hok hK;have HK:=aa (ai hI (ai hok hK));clear hI hok hK;unfold TX.enc;gi_wp2
  have bA:Below Wx.heap.size Wx (Wx.alloc (.cells #[.int .i64 (lv:Int),.int .i64 (rk:Int),.int .i64 p] 225)):=ak.alloc aj _;have gA:Wx.grownBy (Wx.alloc (.cells #[.int .i64 (lv:Int),.int .i64 (rk:Int),.int .i64 p] 225)) none:=⟨bA.os,bA.tape,bA.output,bA.size,fun k hk _=>bA.block k hk⟩;exact HK.out.2.2 _ _ (lK bA) (Kq.cV bA (by have:=HK.out.1.size;omega)) ⟨_,rfl,af.new _ _ _,HK.out.1.size,iD.dU (z:=w.heap.size) aj pre _ _ none HK.out.1 gA (fun r e=>by cases e),nU (z:=0) HK.out.2.1 gA (fun r e=>by cases e)⟩
 case body=>
  rintro l pre ⟨⟨lv,rk,p⟩,ev⟩ a' Wx ⟨c,rfl,kc,hcs,hI,hok⟩;dsimp only at kc⊢
  have hIs:=hI.size;rcases hok with⟨hev,A,hA,hpre⟩|⟨hx0,A,hA,Sv,nf,hfl⟩
  ·dsimp only at hev
   subst hev;have HT2:=ae (∃A',pre++[((lv,rk,p),Value.nilIface)]=aY A'∧A'<+:Z.1) (⟨A++[(lv,rk,p)],by rw[qF,hA],hpre⟩);have PC:=ae (lv<3∧rk<cnt) (Vg.out _ (tZ hpre));have SB:=ae ((dR pre lv).length≤cnt) (by rw[hA];exact yZ lv A (fun h hh=>(Vg.out h (hpre.subset (by simp[hh]))).2));obtain⟨D,sl,hD3,hns⟩:=hI.nums;have HI:=aa (ai hI (ai kc (ai hD3 hns)));have c2:=(kc.cell 2).trans (show _=some (.int .i64 p) from rfl);have hrg:Wx.rangeAt c 0 [.int .i64 (lv:Int),.int .i64 (rk:Int)]:=by
    intro j v hj;match j,hj with
    |0,hj=>rw[(kc.cell (0+0))];simpa using hj
    |1,hj=>rw[(kc.cell (0+1))];simpa using hj
    |k+2,hj=>simp at hj
   have eU:=aa hrg;have Vh:cnt≤512:=(by omega);clear hI kc hpre hA hD3 hns hrg;gi_wp2_with (first
    |(refine lJ rfl 175 _ rfl c 0 rfl [.int .i64 (lv:Int),.int .i64 (rk:Int)] _ eU.out underlying175 rfl bZ ?_)
    |(refine⟨trivial,?_⟩;gi_at_call 124;refine(CallsIn.inRound l (callsIn_wide.2 (uz (w.heap.size+3) 0 lv rk D 110 sl (dR pre) p w.heap.size _ HI.out.2.2.2 PC.out.1 (by have:=PC.out.2;omega) (by have:=SB.out;omega) (by decide) (by omega)))).mono ?_;rintro e w9 ⟨rfl,sw,n9,f9⟩;have H9:=aa (ai n9 f9);clear n9 f9))
   have kF:∀z,Kq w.heap.size z (fun t=>t=110∨t=3) Wx w9:=fun z=>Kq.num H9.out.2 HI.out.2.2.2.box (HI.out.2.2.2.row lv PC.out.1) (.inl rfl) (.inr rfl) (by omega) aj;have HN:=ae (iD w C Z (pre++[((lv,rk,p),Value.nilIface)]) w9) (⟨HT2.out,⟨D.setIfInBounds (0+lv) sw,aO sl lv sw,by simpa using HI.out.2.2.1,by rw[yV];exact H9.out.1⟩,H9.out.2.blk (HI.out.2.2.2.row lv PC.out.1) HI.out.1.tree (by omega) (by decide),H9.out.2.blk (HI.out.2.2.2.row lv PC.out.1) HI.out.1.au (by omega) (by decide),H9.out.2.blk (HI.out.2.2.2.row lv PC.out.1) HI.out.1.aW (by omega) (by decide),HI.out.1.old.trans (kF 0).below,aK HI.out.1.size (kF 0).size⟩);exact⟨(kF _).iM,kF _,HN.out⟩
  ·obtain⟨t',x',rfl⟩:=hfl.iface;have HI:=aa (ai hI hfl);have c1:=(hI.au.cell 0).trans (show _=some (.slice none 0 0) from rfl);have c11:=(hI.au.cell 1).trans (show _=some (.slice none 0 0) from rfl);have c12:=(hI.au.cell 2).trans (show _=some (.slice none 0 0) from rfl);have f1:=hI.au.frozen 0;have f11:=hI.au.frozen 1;have f12:=hI.au.frozen 2;have c2:=(hI.aW.cell 0).trans (show _=some .nilIface from rfl);have f2:=hI.aW.frozen 0;have U3:=ae (Z.2=true) (by rw[Sv]);clear hI hfl hA Sv;gi_wp2
   obtain⟨WE,vg⟩:∃WE,WE=(((Wx.setCell ⟨w.heap.size+1,0,none⟩ (.slice none 0 0)).setCell ⟨w.heap.size+1,1,none⟩ (.slice none 0 0)).setCell ⟨w.heap.size+1,2,none⟩ (.slice none 0 0)).setCell ⟨w.heap.size+1+1,0,none⟩ (.iface t' (.pointer (some x'))):=⟨_,rfl⟩;rw[←vg];have k1:=HI.out.1.au;have s1:=k1.set 0 (.slice none 0 0);have s2:=s1.set 1 (.slice none 0 0);have s3:=s2.set 2 (.slice none 0 0);have r2:=((HI.out.1.aW.other ⟨w.heap.size+1,0,none⟩ (.slice none 0 0) (by show w.heap.size+2≠w.heap.size+1;omega)).other ⟨w.heap.size+1,1,none⟩ (.slice none 0 0) (by show w.heap.size+2≠w.heap.size+1;omega)).other ⟨w.heap.size+1,2,none⟩ (.slice none 0 0) (by show w.heap.size+2≠w.heap.size+1;omega);have g1:af WE (w.heap.size+1) #[.slice none 0 0,.slice none 0 0,.slice none 0 0] 110:=(by rw[vg];exact s3.other _ _ (by show w.heap.size+1≠w.heap.size+1+1;omega));have g2:af WE (w.heap.size+2) #[.iface t' (.pointer (some x'))] 58:=(by rw[vg];exact r2.set 0 _);have fl:bU WE 0 nf (.iface t' (.pointer (some x'))) 21:=by
    rw[vg];refine pO r2 (by intro k z h;cases h) _ ?_;refine bU.keep (fun b o u _ hc=>nZ ((s2.cell 2).trans rfl) hc) ?_;refine bU.keep (fun b o u _ hc=>nZ ((s1.cell 1).trans rfl) hc) ?_;exact bU.keep (fun b o u _ hc=>nZ ((k1.cell 0).trans rfl) hc) HI.out.2
   have hold:Below w.heap.size w WE:=by
    rw[vg];exact(((HI.out.1.old.setCell (p:=⟨w.heap.size+1,0,none⟩) (by show w.heap.size≤w.heap.size+1;omega) _).setCell (p:=⟨w.heap.size+1,1,none⟩) (by show w.heap.size≤w.heap.size+1;omega) _).setCell (p:=⟨w.heap.size+1,2,none⟩) (by show w.heap.size≤w.heap.size+1;omega) _).setCell (p:=⟨w.heap.size+1+1,0,none⟩) (by show w.heap.size≤w.heap.size+1+1;omega) _
   have hko:KeepsOthers Wx WE:=(by rw[vg];exact(((KeepsOthers.setCell _ _ _).trans (KeepsOthers.setCell _ _ _)).trans (KeepsOthers.setCell _ _ _)).trans (KeepsOthers.setCell _ _ _));exact⟨hko.from _,⟨rfl,U3.out,⟨g1,_,g2,nf,fl⟩,hold⟩⟩
 case done=>
  rintro xs Wx hS hI hK;obtain⟨D,sl,hD3,hns⟩:=hI.nums;obtain⟨a0,q0,e0⟩:=nV (hns.row 0 (by omega));obtain⟨a1,q1,e1⟩:=nV (hns.row 1 (by omega));obtain⟨a2,q2,e2⟩:=nV (hns.row 2 (by omega));obtain⟨n0,hn0⟩:∃n0,n0=(dR xs 0).length:=⟨_,rfl⟩;obtain⟨n1,hn1⟩:∃n1,n1=(dR xs 1).length:=⟨_,rfl⟩;obtain⟨n2,hn2⟩:∃n2,n2=(dR xs 2).length:=⟨_,rfl⟩;obtain rfl:D=#[.slice a0 n0 q0,.slice a1 n1 q1,.slice a2 n2 q2]:=by
   match D,hD3,hns.at_ 0 (by omega),hns.at_ 1 (by omega),hns.at_ 2 (by omega) with
   |⟨[d0,d1,d2]⟩,_,h0,h1,h2=>
    have h0':d0=sl 0:=(by simpa using h0);have h1':d1=sl 1:=(by simpa using h1);have h2':d2=sl 2:=(by simpa using h2);rw[h0',h1',h2',e0,e1,e2,hn0,hn1,hn2]
  have HI:=aa (ai hI (ai hK hns));have U4:=aa hS;have b0:Wx.cell? ⟨w.heap.size+1+1+1,0,none⟩=some (.slice a0 n0 q0):=(hns.box.cell 0).trans rfl;have b1:Wx.cell? ⟨w.heap.size+1+1+1,1,none⟩=some (.slice a1 n1 q1):=(hns.box.cell 1).trans rfl;have b2:Wx.cell? ⟨w.heap.size+1+1+1,2,none⟩=some (.slice a2 n2 q2):=(hns.box.cell 2).trans rfl;have c10:=(hI.au.cell 0).trans (show _=some (.slice none 0 0) from rfl);have c11:=(hI.au.cell 1).trans (show _=some (.slice none 0 0) from rfl);have c12:=(hI.au.cell 2).trans (show _=some (.slice none 0 0) from rfl);have f1:=hI.au.frozen 0;have f11:=hI.au.frozen 1;have f12:=hI.au.frozen 2;have c2:=(hI.aW.cell 0).trans (show _=some .nilIface from rfl);have f2:=hI.aW.frozen 0;clear hI hK hS hns e0 e1 e2 hn0 hn1 hn2 hD3;gi_wp2
  have Qx:Z.2=false∧xs=aY Z.1:=by
   rcases U4.out with h|⟨h,x,hx⟩
   ·exact h
   ·exfalso;obtain⟨A,hA,hp⟩:=HI.out.1.told;have h1:=congrArg List.length (hx.symm.trans hA);have h2:=hp.length_le;unfold aY at h1;simp at h1;omega
  obtain⟨hZ1,rfl⟩:=Qx;obtain⟨WE,vg⟩:∃WE,WE=(((Wx.setCell ⟨w.heap.size+1,0,none⟩ (.slice a0 n0 q0)).setCell ⟨w.heap.size+1,1,none⟩ (.slice a1 n1 q1)).setCell ⟨w.heap.size+1,2,none⟩ (.slice a2 n2 q2)).setCell ⟨w.heap.size+1+1,0,none⟩ .nilIface:=⟨_,rfl⟩;rw[←vg];have k1:=HI.out.1.au;have s1:=k1.set 0 (.slice a0 n0 q0);have s2:=s1.set 1 (.slice a1 n1 q1);have s3:=s2.set 2 (.slice a2 n2 q2);have r2:=((HI.out.1.aW.other ⟨w.heap.size+1,0,none⟩ (.slice a0 n0 q0) (by show w.heap.size+2≠w.heap.size+1;omega)).other ⟨w.heap.size+1,1,none⟩ (.slice a1 n1 q1) (by show w.heap.size+2≠w.heap.size+1;omega)).other ⟨w.heap.size+1,2,none⟩ (.slice a2 n2 q2) (by show w.heap.size+2≠w.heap.size+1;omega);have g1:af WE (w.heap.size+1) #[.slice a0 n0 q0,.slice a1 n1 q1,.slice a2 n2 q2] 110:=by rw[vg];exact s3.other _ _ (by show w.heap.size+1≠w.heap.size+1+1;omega)
  have g2:af WE (w.heap.size+1+1) #[.nilIface] 58:=by rw[vg];exact r2.set 0 _
  have hns:dP WE w.heap.size (w.heap.size+1) 0 #[.slice a0 n0 q0,.slice a1 n1 q1,.slice a2 n2 q2] 110 sl (dR (aY Z.1)):=⟨g1,HI.out.2.2.at_,fun l hl=>by rw[vg];exact ep (ep (ep (ep (HI.out.2.2.row l hl) k1 (by decide)) s1 (by decide)) s2 (by decide)) r2 (by decide),HI.out.2.2.apart⟩;have hD:WE.heap[WL.heap.size]?=some (.deferred (some [])):=by rw[vg];exact(KeepsOthers.setCell _ _ _).same _ _ ((KeepsOthers.setCell _ _ _).same _ _ ((KeepsOthers.setCell _ _ _).same _ _ ((KeepsOthers.setCell _ _ _).same _ _ HI.out.2.1 rfl) rfl) rfl) rfl
  have Ta:Below w.heap.size w WE:=by
   rw[vg];exact(((HI.out.1.old.setCell (p:=⟨w.heap.size+1,0,none⟩) (by show w.heap.size≤w.heap.size+1;omega) _).setCell (p:=⟨w.heap.size+1,1,none⟩) (by show w.heap.size≤w.heap.size+1;omega) _).setCell (p:=⟨w.heap.size+1,2,none⟩) (by show w.heap.size≤w.heap.size+1;omega) _).setCell (p:=⟨w.heap.size+1+1,0,none⟩) (by show w.heap.size≤w.heap.size+1+1;omega) _
  refine⟨by simp,.inl ⟨_,_,rfl,run_takeDeferred hD,?_⟩⟩;refine⟨_,rz rfl _ _ (w.heap.size+1) (w.heap.size+1+1) _ _ rfl rfl (gY _ g1 hD rfl) rfl (gY _ g2 hD rfl),_,_,rfl,rfl,.inl ⟨hZ1,rfl,w.heap.size+1,sl,?_⟩,?_⟩
  ·exact hns.fH (z:=0) (grownBy_putObj' _ _ _) (fun r e=>by cases e;exact⟨zero_le _,_,hD,rfl⟩)
  ·exact Ta.trans (belowK_b (w:=w) aj WE WL.heap.size _ (.deferred none) (by omega) hD rfl rfl)
 case stop=>
  rintro c pre Wx _ ⟨rfl,hZ2,⟨v,h3,h4,n,h5⟩,h6⟩ hK;have HI:=aa (ai hZ2 (ai h3 (ai h4 (ai h5 (ai h6 hK)))));clear hZ2 h3 h4 h5 h6 hK;gi_wp2
  have hD:=HI.out.2.2.2.2.2;refine⟨by simp,.inl ⟨_,_,rfl,run_takeDeferred hD,?_⟩⟩;refine⟨_,rz rfl _ _ (w.heap.size+1) (w.heap.size+1+1) _ _ rfl rfl (gY _ HI.out.2.1 hD rfl) rfl (gY _ HI.out.2.2.1 hD rfl),_,_,rfl,rfl,.inr ⟨HI.out.1,n,?_⟩,?_⟩
  ·exact m7 (z:=0) HI.out.2.2.2.1 (grownBy_putObj' _ _ _) (fun r e=>by cases e;exact⟨zero_le _,_,hD,rfl⟩)
  ·exact HI.out.2.2.2.2.1.trans (belowK_b (w:=w) aj Wx WL.heap.size _ (.deferred none) (by omega) hD rfl rfl)
end
section
open Go.RowKit
def gh(Ls:Nat→List Int)(l r:Nat):List Int:=(List.range 128).map (fun k=>(Ls l).getD (bI l r k) 0)
theorem rB(b off l r:Nat)(C:Array Value)(t:TypeId)(sl:Nat→Value)(Ls:Nat→List Int)(base:Nat)(w:World)(h:dP w base b off C t sl Ls)(hl:l<2)(hr:r≤700):
 Calls prog 105 #[.pointer (some ⟨b,off,none⟩),bh (l+1) r] w fun e w'=>e=.returned (.agg ((gh Ls l r).map (Value.int .i64)).toArray)∧Below w.heap.size w w':=by
 obtain⟨Z1,hZ1,Qp⟩:=xR;have Nx:=aa (ai hZ1 Qp);have HN:=aa h;clear h hZ1 Qp;obtain⟨W3,hW3⟩:∃W3,W3=((w.alloc (.cells #[.int .i64 ((l:Int)+1),.int .i64 (r:Int)] 175)).alloc (.cells Z1 192)).alloc (.cells Z1 192):=⟨_,rfl⟩;have B0:=ae (Below w.heap.size w W3) (by rw[hW3];exact((ak.alloc aj _).alloc (by simp) _).alloc (by simp;omega) _);have K0:=ae (af W3 w.heap.size #[.int .i64 ((l:Int)+1),.int .i64 (r:Int)] 175) (by rw[hW3];exact((af.new w _ _).alloc _).alloc _);have K1:=ae (af W3 (w.heap.size+1) Z1 192) (by have h:=af.new (w.alloc (.cells #[.int .i64 ((l:Int)+1),.int .i64 (r:Int)] 175)) Z1 192;rw[size_alloc] at h;rw[hW3];exact h.alloc _);have K2:=ae (af W3 (w.heap.size+2) Z1 192) (by have h:=af.new ((w.alloc (.cells #[.int .i64 ((l:Int)+1),.int .i64 (r:Int)] 175)).alloc (.cells Z1 192)) Z1 192;rw[size_alloc,size_alloc] at h;rw[hW3];exact h);have HW3:=aa hW3;clear hW3;go_enter func105,ntmps105;go_upto_region 2 with(first
  |(refine Great.wpList_allocTo rfl (some 4) rfl (.pointer (some ⟨w.heap.size+1,0,none⟩)) (.cells Z1 192) (by have e:=Nx.out.2;rw[show w.heap.size+1=(w.alloc (.cells #[.int .i64 ((l:Int)+1),.int .i64 (r:Int)] 175)).heap.size by simp];exact e _ _ _ rfl) ?_)
  |(refine Great.wpList_allocTo rfl (some 5) rfl (.pointer (some ⟨w.heap.size+2,0,none⟩)) (.cells Z1 192) (by have e:=Nx.out.2;rw[show w.heap.size+2=((w.alloc (.cells #[.int .i64 ((l:Int)+1),.int .i64 (r:Int)] 175)).alloc (.cells Z1 192)).heap.size by simp];exact e _ _ _ rfl) ?_))
 rw[←HW3.out];simp only[Act.put,List.setIfInBounds_toArray,List.set_cons_zero,List.set_cons_succ];go_wp2;go_loopw [7] (fun kv wr=>∃(k:Nat) (A:Array Value),k≤128∧kv=.int .i64 (k:Int)∧A.size=128∧(∀j,j<k→A[j]?=some (.int .i64 ((Ls l).getD (bI l r j) 0)))∧af wr (w.heap.size+2) A 192∧af wr w.heap.size #[.int .i64 ((l:Int)+1),.int .i64 (r:Int)] 175∧af wr (w.heap.size+1) Z1 192∧Below w.heap.size w wr) (fun kv _=>128-(intOf kv).toNat)
 case atStart=>exact⟨0,Z1,by omega,rfl,Nx.out.1,fun j hj=>absurd hj (by omega),K2.out,K0.out,K1.out,B0.out⟩
 case round=>
  obtain⟨k,A,hk1,rfl,hA,hAj,kA,kS,kZ,hb⟩:=hrel;have HI:=aa (ai hA (ai hAj (ai kA (ai kS (ai kZ hb)))));clear hA hAj kA kS kZ hb;by_cases hk2:k<128
  ·have Oc:(k:Int)<128:=(by omega);have HX:=ae (∃x,x=(Ls l).getD (bI l r k) 0) (⟨_,rfl⟩);obtain⟨x,hx⟩:=HX.out;clear HX;have HX:=aa hx;clear hx;have Qd:=ae (bI l r k≤100000) (by unfold bI;split<;>omega);have hrg:wr.rangeAt w.heap.size 0 [.int .i64 ((l:Int)+1),.int .i64 (r:Int)]:=by
    intro j v hj;match j,hj with
    |0,hj=>rw[HI.out.2.2.2.1.cell (0+0)];simpa using hj
    |1,hj=>rw[HI.out.2.2.2.1.cell (0+1)];simpa using hj
    |k+2,hj=>simp at hj
   have eU:=aa hrg;clear hrg;go_wp2_with (first
    |(refine wpList_load_mid rfl 175 _ rfl w.heap.size 0 rfl [.int .i64 ((l:Int)+1),.int .i64 (r:Int)] _ eU.out underlying175 rfl bZ ?_)
    |(go_at_call 139;refine(m4 l r k _ (by omega) (by omega) (by omega)).mono ?_;rintro e w5 ⟨rfl,b5⟩;have B5:=aa b5;clear b5)
    |(go_at_call 94;refine(kW b off l (bI l r k) C t sl Ls base _ (HN.out.below (HI.out.2.2.2.2.2.trans (B5.out.mono HI.out.2.2.2.2.2.size))) (by omega) Qd.out).mono ?_;rintro e w6 ⟨rfl,b6⟩;rw[←HX.out];have B6:=aa (B5.out.trans (b6.mono B5.out.size));clear b6;have K6:=aa (HI.out.2.2.1.below B6.out HI.out.2.2.1.lt);have c6:=K6.out.cell k;have f6:=K6.out.frozen k;rw[Array.getElem?_eq_getElem (by have:=HI.out.1;omega)] at c6))
   have Sw:=HI.out.2.2.2.2.2.trans (B6.out.mono HI.out.2.2.2.2.2.size);refine⟨⟨k+1,A.setIfInBounds k (.int .i64 x),by omega,by go_num,by simpa using HI.out.1,fun j hj=>?_,K6.out.set k _,(HI.out.2.2.2.1.below B6.out HI.out.2.2.2.1.lt).other _ _ (by show w.heap.size≠w.heap.size+2;omega),(HI.out.2.2.2.2.1.below B6.out HI.out.2.2.2.2.1.lt).other _ _ (by show w.heap.size+1≠w.heap.size+2;omega),Sw.setCell (p:=⟨w.heap.size+2,k,none⟩) (by show w.heap.size≤w.heap.size+2;omega) _⟩,by simp[intOf];omega⟩;by_cases e:j=k
   ·subst e;rw[Array.getElem?_setIfInBounds_self_of_lt (by have:=HI.out.1;omega),HX.out]
   ·rw[Array.getElem?_setIfInBounds_ne (by omega)];exact HI.out.2.1 j (by omega)
  ·have hk3:k=128:=(by omega);subst hk3;clear hk2;have YA:A=((gh Ls l r).map (Value.int .i64)).toArray:=by
    apply Array.ext_getElem?;intro j;by_cases hj:j<128
    ·rw[HI.out.2.1 j hj];simp[gh,hj]
    ·rw[Array.getElem?_eq_none (by have:=HI.out.1;omega),Array.getElem?_eq_none (by simp[gh];omega)]
   have HAW:=aa YA;have HO:=ae (A.all (·.oneCell')=true) (by rw[YA];exact lI _);have nv:=ae ((prog.info? 192).map (·.size)=some A.size) (by rw[HI.out.1];exact kQ);clear YA;go_wp2_with (first
    |(refine wpList_load_row rfl 192 _ rfl (w.heap.size+2) rfl 192 A (0,0) _ HI.out.2.2.1 underlying192 rfl nv.out ?_)
    |(refine wpList_store_row rfl 192 _ _ rfl (w.heap.size+1) A rfl rfl 192 Z1 HI.out.2.2.2.2.1 nv.out (by rw[HI.out.1,Nx.out.1]) HO.out ?_))
   refine bodyPost_ret (v:=.agg A) ?_ rfl ⟨by rw[HAW.out],below_setRow HI.out.2.2.2.2.2 (by omega) _⟩;exact results_cell_row rfl _ _ (w.heap.size+1) 192 _ (0,0) _ rfl (HI.out.2.2.2.2.1.row _) underlying192 rfl nv.out
theorem Gh{w0:World}{a:Option Addr}{len cap:Nat}{zs:List Int}(h:Rd .i64 w0 (.slice a len cap) zs)(lo:Nat)(h2:lo≤zs.length):
 ∃a' c',Rd .i64 w0 (.slice a' (zs.length-lo) c') (zs.drop lo)∧∀wx,(Instr.slice 45 (.slice a len cap) (some (.int .i64 (lo:Int))) none none).run prog wx=.ok (.slice a' (zs.length-lo) c') wx:=by
 obtain⟨i0,hi0,hz0,hz1,hz2⟩:=info_parts fX;obtain⟨a0,cap0,e,hm,hc,hl,hcm⟩:=h;injection e with e1 e2 e3;subst e1 e2 e3;have hlen:(zs.drop lo).length=zs.length-lo:=length_drop;have hrun:∀wx,(Instr.slice 45 (.slice a zs.length cap) (some (.int .i64 (lo:Int))) none none).run prog wx=.ok (sliced a lo zs.length cap 1) wx:=fun wx=>by
  rw[run_slice_l (P:=prog) (w:=wx) 45 a zs.length cap (by rw[underlying45];rfl) .i64 (lo:Int) (by omega) (by omega)];simp[sizeOf,typeInfo,show prog.elem 45=3 by kernel_rfl,hi0,hz1,Result.andThen]
 refine⟨_,_,?_,hrun⟩;refine⟨_,_,by rw[hlen],by omega,fun hne=>?_,by rw[hlen];omega,by omega⟩;have hp:lo<zs.length:=by
  rcases lt_or_ge lo zs.length with h|h
  ·exact h
  ·exact absurd (by rw[List.drop_eq_nil_of_le h]) hne
 obtain⟨b,off,rfl,hb,hcell⟩:=hc (fun e=>by rw[e] at hp;simp at hp);refine⟨b,off+lo,?_,hb,fun i hi2=>?_⟩
 ·rw[if_neg (by omega),Option.map_some,Nat.mul_one,Addr.add_mid]
 ·rw[hlen] at hi2;rw[Nat.add_assoc,hcell (lo+i) (by omega)];simp[getD,List.getElem?_eq_getElem (show lo+i<zs.length by omega)]
theorem Gi(z:Int)(h0:0≤z)(h1:z≤100000000):IntKind.i64.wrap z=z:=by rw[IntKind.wrap_i64];omega
theorem za(ws:List Int)(k:Nat):(ej ws k).length=128:=by simp[ej]
theorem Gj(ws:List Int)(k:Nat):splice ((replicate 128 (0:Int)).map (Value.int .i64)) 0 (((ws.drop (128*k)).take 128).map (Value.int .i64))=(ej ws k).map (Value.int .i64):=by
 apply List.ext_getElem?;intro i;unfold splice ej;rw[List.take_zero,List.nil_append,length_map,zero_add,List.map_map];rcases lt_or_ge i ((ws.drop (128*k)).take 128).length with h|h
 ·rw[List.getElem?_append_left (by simpa using h)];rw[length_take,length_drop] at h;rw[getElem?_map,List.getElem?_take,if_pos (by omega),List.getElem?_drop,getElem?_map,List.getElem?_range (by omega)];simp[getD,List.getElem?_eq_getElem (show 128*k+i<ws.length by omega)]
 ·rw[List.getElem?_append_right (by simpa using h),length_map,List.getElem?_drop];rw[length_take,length_drop] at h⊢;rcases lt_or_ge i 128 with h1|h1
  ·rw[getElem?_map,List.getElem?_replicate,if_pos (by omega),getElem?_map,List.getElem?_range h1];simp[getD,getElem?_eq_none (show ws.length≤128*k+i by omega)]
  ·rw[getElem?_eq_none (by simp;omega),getElem?_eq_none (by simp;omega)]
theorem uA(a:Option Addr)(n c k:Nat)(ws:List Int)(w:World)(h:Rd .i64 w (.slice a n c) ws)(hn:n=ws.length)(hk:128*k<n)(hn2:n≤2048):
 Calls prog 104 #[.slice a n c,.int .i64 (k:Int)] w fun e w'=>e=.returned (.agg ((ej ws k).map (Value.int .i64)).toArray)∧Below w.heap.size w w':=by
 obtain⟨Z,hZ,NI⟩:=rq;have Nx:=aa NI;have hZs:Z.size=128:=by rw[hZ];simp
 obtain⟨W2,hW2⟩:∃W2,W2=(w.alloc (.cells Z 192)).alloc (.cells Z 192):=⟨_,rfl⟩;have B2:=ae (Below w.heap.size w W2) (by rw[hW2];exact(ak.alloc aj _).alloc (by simp) _);have K2:=ae (af W2 w.heap.size Z 192) (by rw[hW2];exact(af.new w _ _).alloc _);have Z2:=ae (af W2 (w.heap.size+1) ((replicate 128 (0:Int)).map (Value.int .i64)).toArray 192) (by have h:=af.new (w.alloc (.cells Z 192)) Z 192;rw[size_alloc] at h;rw[hW2, ←hZ];exact h);obtain⟨sa,sc,OS,hsl⟩:=Gh h (128*k) (by omega);rw[←hn] at OS hsl;obtain⟨b2,off2,c2,hsv,hb2,_,_,hcell⟩:=OS.dJ (by rw[length_drop];omega);injection hsv with e1 e2 e3;subst e1;subst e3;clear e2;have Oc:(k:Int)*128<2048:=by omega
 have hsl2:∀(wx:World),(Instr.slice 45 (.slice a n c) (some (.int .i64 ((k:Int)*128))) none none).run prog wx=.ok (.slice (some ⟨b2,off2,none⟩) (n-128*k) sc) wx:=fun wx=>by
  have:=hsl wx;rw[show((128*k:Nat):Int)=(k:Int)*128 by omega] at this;exact this
 have HC:=ae (∀j u,(((ws.drop (128*k)).take 128).map (Value.int .i64))[j]?=some u→W2.drew.cell? ((⟨b2,off2,none⟩:Addr).add j)=some u) (fun j u hj=>by
  have YB:j<((ws.drop (128*k)).take 128).length:=by
   rcases lt_or_ge j ((ws.drop (128*k)).take 128).length with h|h
   ·exact h
   ·rw[getElem?_eq_none (by simpa using h)] at hj;cases hj
  rw[length_take] at YB;rw[Addr.add_mid];refine((B2.out.drew).cell (p:=⟨b2,off2+j,none⟩) hb2).trans ?_;rw[hcell j (by omega)];rw[getElem?_map,List.getElem?_take,if_pos (by omega),List.getElem?_eq_getElem (by omega)] at hj;rw[←Option.some.inj hj];simp only[getD,List.getElem?_eq_getElem (show j<(ws.drop (128*k)).length by omega),Option.getD_some])
 have Up:=ae ((((ws.drop (128*k)).take 128).map (Value.int .i64)).length=Nat.min (n-128*k) 128) (by rw[length_map,length_take,length_drop,hn];exact Nat.min_comm _ _);have HW2:=aa hW2;have HZS:=aa hZs;clear hW2 h OS hcell hsl hn hZ NI hb2 hZs;go_enter func104,ntmps104;go_upto_region 2 with(first
  |(refine Great.wpList_allocTo rfl (some 4) rfl (.pointer (some ⟨w.heap.size,0,none⟩)) (.cells Z 192) (by have e:=Nx.out;exact e _ _ _ rfl) ?_)
  |(refine Great.wpList_allocTo rfl (some 5) rfl (.pointer (some ⟨w.heap.size+1,0,none⟩)) (.cells Z 192) (by have e:=Nx.out;rw[show w.heap.size+1=(w.alloc (.cells Z 192)).heap.size by simp];exact e _ _ _ rfl) ?_))
 rw[←HW2.out];refine bg (fun w'=>True) trivial fun hH=>?_;refine ah 0 (.slice (some ⟨w.heap.size+1,0,none⟩) 128 128) rfl hH ?_;refine ah 1 (.slice a n c) rfl hH ?_;refine ah 2 (.int .i64 (k:Int)) rfl hH ?_;refine ah 3 (.int .i64 ((k:Int)*128)) rfl hH ?_ (aH fun w' hw'=>by have Qe:=Gi ((k:Int)*128) (by omega) (by omega);go_simp);refine ah 4 (.slice (some ⟨b2,off2,none⟩) (n-128*k) sc) rfl hH ?_;refine aG 5 rfl fun K hK=>?_;refine step_copy_splice rfl (.tmp 6) (.tmp 10) 45 45 rfl 3 underlying45 (by kernel_rfl) (some ⟨w.heap.size+1,0,none⟩) (some ⟨b2,off2,none⟩) 128 128 (n-128*k) sc rfl rfl (w.heap.size+1) 0 ((replicate 128 (0:Int)).map (Value.int .i64)) 192 (show _ from Z2.out) (((ws.drop (128*k)).take 128).map (Value.int .i64)) Up.out (fun hp=>⟨rfl,_,rfl,HC.out⟩) (by rw[Up.out,length_map,List.length_replicate,zero_add];exact Nat.min_le_right _ _) (fun u hu=>by obtain⟨z,_,rfl⟩:=List.mem_map.1 hu;rfl) (w.heap.size+1) W2.drew (ak) aj ?_;intro w9 Vi Rx;obtain⟨A,hA⟩:∃A,A=((ej ws k).map (Value.int .i64)).toArray:=⟨_,rfl⟩;have K9:=ae (af w9 (w.heap.size+1) A 192) (by rw[hA, ←Gj];exact Vi.out);have B9:=ae (Below (w.heap.size+1) W2 w9) (ak.drew.trans Rx);have HA:=aa hA;clear Vi Rx hA;refine hK.out _ _ trivial (fun hH=>?_);clear hK K;try simp only[Act.put,av,ay,az,aA,aB,aC]
 refine aV ?_;clear hH;have SC:=ae (A.size=128) (by rw[HA.out];simp[ej]);have HO:=ae (A.all (·.oneCell')=true) (by rw[HA.out];exact lI _);have nv:=ae ((prog.info? 192).map (·.size)=some A.size) (by rw[SC.out];exact kQ);have K8:=aa (K2.out.below B9.out (by omega));have B8:=ae (Below w.heap.size w w9) (B2.out.trans (B9.out.mono (by omega)));go_wp2_with (first
  |(refine wpList_load_row rfl 192 _ rfl (w.heap.size+1) rfl 192 A (0,0) _ K9.out underlying192 rfl nv.out ?_)
  |(refine wpList_store_row rfl 192 _ _ rfl w.heap.size A rfl rfl 192 Z K8.out nv.out (by rw[SC.out,HZS.out]) HO.out ?_))
 refine bodyPost_ret (v:=.agg A) ?_ rfl ⟨by rw[HA.out],below_setRow B8.out aj _⟩;exact results_cell_row rfl _ _ w.heap.size 192 _ (0,0) _ rfl (K8.out.row _) underlying192 rfl nv.out
end
end Go.Proofs.YtpplnhkpcpieoaaGreatDoor
