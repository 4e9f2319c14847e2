/- The program lists a tree's blocks: list -/
import Derived.Test.YtlimollpocagiaaGreatDoorXa16
namespace Go.Proofs.YtlimollpocagiaaGreatDoor
open Go.Proofs.Tryz
open World (size_alloc ownsRow_nil)
set_option linter.all false
set_option maxRecDepth 100000
set_option maxHeartbeats 16000000
section
open Go.RowKit Go.Shelf
attribute [local go_sem] Oper.semAt_some
theorem uI(a b:TL):(bH a b).1.length≤a.1.length+b.1.length:=by
 unfold bH;split
 ·omega
 ·simp
theorem qy(m:Nat):∀(L:List TL),(∀a∈L,a.1.length≤m)→(bR L).1.length≤L.length*m
 |[],_=>by simp[bR]
 |a::L,h=>by
  have h1:=qy m L (fun x hx=>h x (by simp[hx]));have h2:=h a (by simp);have h3:=uI a (bR L);have e:bR (a::L)=bH a (bR L):=by simp[bR]
  rw[e,List.length_cons,Nat.succ_mul];omega
theorem uJ{cnt n:Nat}{W:Int→Nat→Int}:∀(l r:Nat) (p:Int),l≤2→(cG cnt n W l r p).1.length≤(if l=0 then 1 else if l=1 then 129 else 16513)
 |0,r,p,_=>by unfold cG;split<;>(try split)<;>simp
 |l+1,r,p,hl=>by
  unfold cG;split
  ·simp
  split
  ·simp
  refine aN (uI _ _) ?_;have h:=qy (if l=0 then 1 else if l=1 then 129 else 16513) ((List.range 128).map fun k=>cG cnt n W l (bP l r k) (W p k)) (fun a ha=>by
   obtain⟨k,_,rfl⟩:=List.mem_map.1 ha;exact uJ l _ _ (by omega))
  rw[List.length_map,List.length_range] at h;have hl2:l=0∨l=1:=by omega
  rcases hl2 with rfl|rfl
  ·simp at h⊢;omega
  ·simp at h⊢;omega
theorem AN{cnt n:Nat}{W:Int→Nat→Int}{Pv:Nat→Int}:(bR (dQ cnt n W Pv)).1.length≤231182:=by
 refine aN (qy 16513 _ (fun a ha=>?_)) (by unfold dQ;simp);unfold dQ at ha;obtain⟨j,_,rfl⟩:=List.mem_map.1 ha;refine aN (uJ _ _ _ (nH j)) ?_;split
 ·omega
 ·split<;>omega
theorem Kq.grown{n₀ z:Nat}{Ty:TypeId→Prop}{W W':World}{row:Option Nat}(hg:W.grownBy W' row)(hn:n₀≤W.heap.size)(hr:∀r,row=some r→n₀≤r∧∃C t,af W r C t∧Ty t):Kq n₀ z Ty W W':=by
 refine⟨ak.grown hg hn (fun k e=>(hr k e).1),fun k cs t fr hk hu=>?_,fun k o hk ho hc=>?_,hg.size⟩
 ·refine(hg.block k (Array.getElem?_eq_some_iff.1 hk).1 (fun e=>?_)).trans hk;obtain⟨_,C,t',hb,ht⟩:=hr k e.symm;have hb':W.heap[k]?=some (.cells C t'):=hb;rw[hb'] at hk;cases hk
  exact hu ht
 ·refine(hg.block k (Array.getElem?_eq_some_iff.1 ho).1 (fun e=>?_)).trans ho;obtain⟨_,C,t',hb,ht⟩:=hr k e.symm;have hb':W.heap[k]?=some (.cells C t'):=hb;rw[hb'] at ho;cases ho
  cases hc
theorem mG{W:World}{base n:Nat}{e:TypeId}{v:Value}{xs:List Value}(h:W.ownsRow base e 1 v n xs){r:Nat}(hr:v.ownBlock=some r):base≤r∧∃C,af W r C e:=by
 rcases h.2 with⟨rfl,_⟩|⟨g,cap,cur,rfl,hb,hg,_⟩
 ·cases hr
 ·cases hr
  exact⟨hb,cur,hg⟩
theorem qz{A B:World}{row:Option Nat}{base n z:Nat}{e:TypeId}{v:Value}{xs:List Value}(h:A.ownsRow base e 1 v n xs)(hg:A.grownBy B row)(hr:∀r,row=some r→z≤r∧∃o,A.heap[r]?=some o∧o.isCells=false):B.ownsRow base e 1 v n xs:=by
 refine h.kept hg ?_;cases hb:v.ownBlock with
 |none=>exact .inl rfl
 |some g=>
  refine .inr fun e=>?_;obtain⟨_,C,hC⟩:=mG h hb;obtain⟨_,o,ho,hc⟩:=hr g e.symm;have hC':A.heap[g]?=some (.cells C _):=hC;rw[hC'] at ho;cases ho
  cases hc
theorem uK{fn:Func}{p q:Tmp}(h:fn.results=#[.cell p 29,.cell q 62])(tmps:Array Value)(w:World)(R1 R2:Nat)(v1 v2:Value)(hp:tmps.getD p undef=.pointer (some ⟨R1,0,none⟩))(hq:tmps.getD q undef=.pointer (some ⟨R2,0,none⟩))
 (h1:af w R1 #[v1] 29) (h2:af w R2 #[v2] 62):(results fn tmps).run prog w=.ok (.tuple #[v1,v2]) w:=by
 have c1:=(h1.cell 0).trans (show _=some v1 from rfl);have c2:=(h2.cell 0).trans (show _=some v2 from rfl);have hp':tmps[p]?.getD undef=.pointer (some ⟨R1,0,none⟩):=by rw[←Array.getD_eq_getD_getElem?];exact hp
 have hq':tmps[q]?.getD undef=.pointer (some ⟨R2,0,none⟩):=by rw[←Array.getD_eq_getD_getElem?];exact hq
 simp only[results,h];go_simp
def iB(pre:List TX):List Int:=pre.map (fun x=>x.1.2.2)
theorem AO(pre:List TX):(iB pre).length=pre.length:=by unfold iB;simp
theorem AP(pre:List TX)(x:TX):iB (pre++[x])=iB pre++[x.1.2.2]:=by unfold iB;simp
structure jy(w:World)(C:Array Value)(Z:TL)(pre:List TX)(W:World):Prop where
 told:∃A,pre=aM A∧A<+:Z.1
 box:∃lv,af W (w.heap.size+3) #[lv] 29∧W.ownsRow w.heap.size 3 1 lv pre.length ((iB pre).map (Value.int .i64))
 tree:af W w.heap.size C 87
 res1:af W (w.heap.size+1) #[.slice none 0 0] 29
 res2:af W (w.heap.size+2) #[.nilIface] 62
 old:Below w.heap.size w W
 size:w.heap.size+7≤W.heap.size
theorem jy.eV{w:World}{z:Nat}{C:Array Value}{Z:TL}(hz:w.heap.size≤z):gy z (jy w C Z):=by
 intro pre A B row h hg hr;obtain⟨lv,h1,h2⟩:=h.box;exact⟨h.told,⟨lv,dx h1 hg hr,qz h2 hg hr⟩,dx h.tree hg hr,dx h.res1 hg hr,dx h.res2 hg hr,jx h.old hz (by have:=h.size;omega) hg hr,aN h.size hg.size⟩
theorem uL(W:World)(v:Value)(t:TypeId):∀j u,[v][j]?=some u→(W.alloc (.cells #[v] t)).cell? ((⟨W.heap.size,0,none⟩:Addr).add j)=some u:=fun j u hj=>by
 cases j with
 |zero=>
  rw[Addr.add_mid];refine((af.new W #[v] t).cell (0+0)).trans ?_;simpa using hj
 |succ j=>simp at hj
theorem AQ(cnt sz:Nat)(zs:List Int)(C:Array Value)(Pv:Nat→Int)(iv:Value)(w:World)(Z:TL)
 (hC0:C[0]?=some iv) (hC1:C[1]?=some (.int .i64 (sz:Int))) (hCP:∀j,j<14→C[2+j]?=some (.int .i64 (Pv j))) (hCs:C.size=16) (hR:Rd .u8 w iv zs) (hz:zs.length≤1048576) (hbd:∀z∈zs,0≤z∧z<256) (hsz:sz≤262144) (hcnt:cnt=(sz+511)/512)
 (hZ:Z=bR (dQ cnt (zs.length/512) (aJ zs) Pv)):
 Calls prog 45 #[.agg C] w fun e w'=>∃v ev,e=.returned (.tuple #[v,ev])∧((Z.2=false∧ev=.nilIface∧w'.ownsRow w.heap.size 3 1 v (iB (aM Z.1)).length ((iB (aM Z.1)).map (Value.int .i64)))∨(Z.2=true∧v=.slice none 0 0∧∃n,bj w' 0 n ev 21))∧Below w.heap.size w w':=by
 obtain⟨i0,hi,hz0,hz1,hz2⟩:=info_parts eO;have HT:=aa (ag hi (ag hz0 (ag hz1 hz2)));clear hi hz0 hz1 hz2;have HC:=aa (ag hC0 (ag hC1 (ag hCP hCs)));have HR:=aa (ag hR hbd);have HZ:=aa hZ;have HZl:=ae (Z.1.length≤231182) (by rw[hZ];exact AN);clear hC0 hC1 hCP hCs hR hbd hZ;obtain⟨W0,hW0⟩:∃W0,W0=(((w.alloc (.cells C 87)).alloc (.cells #[.slice none 0 0] 29)).alloc (.cells #[.nilIface] 62)).alloc (.cells #[.slice none 0 0] 29):=⟨_,rfl⟩;have hs0:W0.heap.size=w.heap.size+4:=by rw[hW0];simp
 have B0:=ae (Below w.heap.size w W0) (by rw[hW0];exact(((ak.alloc aj _).alloc (by simp) _).alloc (by simp;omega) _).alloc (by simp;omega) _);have K0:=ae (af W0 w.heap.size C 87) (by rw[hW0];exact(((af.new w C _).alloc _).alloc _).alloc _);have K1:=ae (af W0 (w.heap.size+1) #[.slice none 0 0] 29) (by have h:=af.new (w.alloc (.cells C 87)) #[.slice none 0 0] 29;rw[size_alloc] at h;rw[hW0];exact(h.alloc _).alloc _);have K2:=ae (af W0 (w.heap.size+2) #[.nilIface] 62) (by have h:=af.new ((w.alloc (.cells C 87)).alloc (.cells #[.slice none 0 0] 29)) #[.nilIface] 62;rw[size_alloc,size_alloc] at h;rw[hW0];exact h.alloc _);have K3:=ae (af W0 (w.heap.size+3) #[.slice none 0 0] 29) (by have h:=af.new (((w.alloc (.cells C 87)).alloc (.cells #[.slice none 0 0] 29)).alloc (.cells #[.nilIface] 62)) #[.slice none 0 0] 29;rw[size_alloc,size_alloc,size_alloc] at h;rw[hW0];exact h);have HW0:=aa hW0;have HS0:=aa hs0;clear hW0 hs0;obtain⟨WL,hWL⟩:∃WL,WL=W0.alloc (.cells C 87):=⟨_,rfl⟩;have hs0a:W0.heap.size≤w.heap.size+4:=by rw[HS0.out];omega
 have hs0b:w.heap.size+4≤W0.heap.size:=by rw[HS0.out];omega
 have b0L:Below W0.heap.size W0 WL:=by rw[hWL];exact ak.alloc aj _
 have hsLe:WL.heap.size=W0.heap.size+1:=by rw[hWL];simp
 have hsLa:WL.heap.size≤W0.heap.size+1:=by rw[hsLe];omega
 have hsLb:W0.heap.size+1≤WL.heap.size:=by rw[hsLe];omega
 clear hsLe;have I0:=ae (∀W',Below WL.heap.size WL W'→WL.heap.size+2≤W'.heap.size→jy w C Z [] W') (fun W' hb hs'=>by
  have hb0:Below W0.heap.size W0 W':=b0L.trans (hb.mono (by omega));exact⟨⟨[],rfl,List.nil_prefix⟩,⟨_,K3.out.below hb0 K3.out.lt,ownsRow_nil _ _ _ _⟩,K0.out.below hb0 K0.out.lt,K1.out.below hb0 K1.out.lt,K2.out.below hb0 K2.out.lt,B0.out.trans (hb0.mono (by omega)),by omega⟩)
 have HX:=ae (af WL W0.heap.size C 87) (by rw[hWL];exact af.new W0 C 87);have HBL:=ae (Below w.heap.size w WL) (B0.out.trans (b0L.mono (by omega)));have HWL:=aa hWL;clear hWL b0L;refine(callsIn_wide (n:=6)).1 ?_;refine callsIn_of_wp_marks func45 rfl trivial ?_ rfl;simp only[ntmps45,List.size_toArray,List.length_cons,List.length_nil,Nat.reduceAdd,Nat.reduceSub,Array.replicate_succ,Array.replicate_zero,List.push_toArray,List.append_toArray,List.nil_append,List.cons_append];gi_upto_region 2 with fail
 rw[←HW0.out];refine wpIn_wide.2 ?_;go_wp2_with (first
  |(refine wpList_load_row rfl 87 _ rfl w.heap.size rfl 87 C (0,0) _ K0.out underlying87 rfl (by rw[HC.out.2.2.2];exact fU) ?_)
  |(go_at_call 87;refine(callsIn_wide.1 (qq 0 C _)).mono ?_;rintro e w' ⟨rfl,rfl⟩))
 gi_wp2
 rw[←HWL.out];have hmx:prog.follows .mixedOrders=true:=by kernel_rfl
 refine l9 (α:=TX) rfl (by decide) (gf:=109) (lb:=#[.pointer (some ⟨W0.heap.size,0,none⟩)]) rfl trivial (enters_of func109 (by kernel_rfl) rfl) (encs:=TX.enc) (Kp:=(Kq w.heap.size (WL.heap.size+2) (fun t=>t=29∨t=3))) Kq.trans (fun A o o' ho hc=>Kq.put o' (by omega) (by omega) ho hc)
  (Ok:=iQ Z) (S:=fun xs=>(Z.2=false∧xs=aM Z.1)∨(Z.2=true∧∃x,xs=aM Z.1++[x])) (Sp:=fun _=>True)
  (fun W1 hb1 hs1=>by
   have:=qn 5 (by omega) W0.heap.size w.heap.size (fun t=>t=29∨t=3) Z cnt sz zs C Pv iv w W1 (by decide) (by decide) (by decide) (by decide) HC.out.1 HC.out.2.1 HC.out.2.2.1 HC.out.2.2.2 HR.out.1 rfl hz HR.out.2 hsz hcnt HZ.out (HX.out.below hb1 HX.out.lt) (HBL.out.trans (hb1.mono (by omega))) (by omega);rw[hs1] at this;exact this)
  (fun _=>rfl) (jy w C Z)
  (fun c pre Wx=>c=.ret∧Z.2=true∧(∃v,af Wx (w.heap.size+1) #[.slice none 0 0] 29∧af Wx (w.heap.size+2) #[v] 62∧∃n,bj Wx 0 n v 21)∧Below w.heap.size w Wx)
  (jy.eV (by omega))
  (by
   rintro c pre A B row ⟨h1,h2,⟨v,h3,h4,n,h5⟩,h6⟩ hg hr;exact⟨h1,h2,⟨v,dx h3 hg hr,dx h4 hg hr,n,kn h5 hg hr⟩,jx h6 (by omega) h6.size hg hr⟩)
  (fun W' hb hs'=>I0.out W' hb (by omega))
  (fun pre x a' Wx=>∃c,a'={tmps:=#[.agg C,.pointer (some ⟨w.heap.size,0,none⟩),.pointer (some ⟨w.heap.size+1,0,none⟩),.pointer (some ⟨w.heap.size+1+1,0,none⟩),.pointer (some ⟨w.heap.size+1+1+1,0,none⟩),.pointer (some ⟨c,0,none⟩),x.2,.agg C,.func (.func 109) #[] #[.pointer (some ⟨W0.heap.size,0,none⟩)],.agg #[.int .i64 (x.1.1:Int),.int .i64 (x.1.2.1:Int),.int .i64 x.1.2.2],x.2,undef,undef,undef,undef,undef,undef,undef,undef,undef],defers:=[]}∧af Wx c #[.int .i64 (x.1.1:Int),.int .i64 (x.1.2.1:Int),.int .i64 x.1.2.2] 149∧(jy w C Z) pre Wx∧iQ Z pre x Wx) ?ax ?assign ?body ?done ?stop
 case ax=>
  rintro pre x a' A B ⟨c,h1,h2,h3,h4⟩ hg hr;exact⟨c,h1,kj h2 hg hr,jy.eV (z:=WL.heap.size+1) (by omega) pre A B _ h3 hg (fun r e=>by cases e;exact⟨aj,hr⟩),lC (z:=0) h4 hg (fun r e=>by cases e;exact⟨Nat.zero_le _,hr⟩)⟩
 case assign=>
  rintro l pre ⟨⟨lv,rk,p⟩,ev⟩ Wx K hI hok hK;have HK:=aa (ag hI (ag hok hK));clear hI hok hK;unfold TX.enc;gi_wp2
  have bA:Below Wx.heap.size Wx (Wx.alloc (.cells #[.int .i64 (lv:Int),.int .i64 (rk:Int),.int .i64 p] 149)):=ak.alloc aj _;have gA:Wx.grownBy (Wx.alloc (.cells #[.int .i64 (lv:Int),.int .i64 (rk:Int),.int .i64 p] 149)) none:=⟨bA.os,bA.tape,bA.output,bA.size,fun k hk _=>bA.block k hk⟩;exact HK.out.2.2 _ _ (lA bA) (Kq.bT bA (by have:=HK.out.1.size;omega)) ⟨_,rfl,af.new _ _ _,jy.eV (z:=w.heap.size) aj pre _ _ none HK.out.1 gA (fun r e=>by cases e),lC (z:=0) HK.out.2.1 gA (fun r e=>by cases e)⟩
 case body=>
  rintro l pre ⟨⟨lv,rk,p⟩,ev⟩ a' Wx ⟨c,rfl,kc,hI,hok⟩;dsimp only at kc⊢
  have hIs:=hI.size;rcases hok with⟨hev,A,hA,hpre⟩|⟨hx0,A,hA,hZt,nf,hfl⟩
  ·dsimp only at hev
   subst hev;have HT2:=ae (∃A',pre++[((lv,rk,p),Value.nilIface)]=aM A'∧A'<+:Z.1) (⟨A++[(lv,rk,p)],by rw[nt,hA],hpre⟩);have hpl:pre.length+1≤231182:=by
    have h1:=hpre.length_le;have h2:=HZl.out;have h3:pre.length=A.length:=(by rw[hA];unfold aM;simp);simp at h1;omega
   obtain⟨lw,hbx,hrow⟩:=hI.box;obtain⟨a',cap',rfl⟩:=jS hrow;have c2:=(kc.cell 2).trans (show _=some (.int .i64 p) from rfl);have cL:Wx.cell? ⟨w.heap.size+1+1+1,0,none⟩=some (.slice a' pre.length cap'):=(hbx.cell 0).trans rfl;have HI:=aa hI;have HB:=aa hbx;have HRow:=aa hrow;clear hI kc hpre hA hbx hrow;gi_wp2_with (first
    |(gi_at_builtin;refine wpListIn_append_own _ rfl _ _ 29 rfl w.heap.size 3 i0 (.int .i64 0) 1 8 underlying29 HT.out.1 HT.out.2.1 HT.out.2.2.1 HT.out.2.2.2 rfl (by decide) _ _ _ rfl (HRow.out.alloc _) ⟨Wx.heap.size,0,none⟩ 1 1 [.int .i64 p] rfl rfl (uL _ _ _) (by simp[Value.oneCell']) (by unfold maxLen;omega) (by omega) (by simp;omega) ?_;intro v' w1 hown' hgrow _;obtain⟨a1,cap1,rfl⟩:=jS hown';have HA:=aa (ag hown' hgrow);clear hown' hgrow;have HK1:=aa (jT (HRow.out.alloc _) (HB.out.alloc _) (by decide) HA.out.2);have cL1:w1.cell? ⟨w.heap.size+1+1+1,0,none⟩=some (.slice a' pre.length cap'):=(HK1.out.cell 0).trans rfl;have fL1:=HK1.out.frozen 0))
   obtain⟨WF,hWF⟩:∃WF,WF=w1.setCell ⟨w.heap.size+1+1+1,0,none⟩ (.slice a1 (pre.length+1) cap1):=⟨_,rfl⟩;have kF:∀z,Kq w.heap.size z (fun t=>t=29∨t=3) Wx WF:=fun z=>by
    have bA:Below Wx.heap.size Wx (Wx.alloc (.cells #[.int .i64 p] 3)):=ak.alloc aj _;have s1:=HA.out.2.size;have s0:=bA.size;refine((Kq.bT bA (by omega)).trans (Kq.grown HA.out.2 (by omega) (fun r e=>?_))).trans ?_
    ·obtain⟨h1,C1,h2⟩:=mG (HRow.out.alloc _) e;exact⟨h1,C1,_,h2,.inr rfl⟩
    ·rw[hWF];exact Kq.grown (grownBy_setCell' w1 (w.heap.size+3) _) (by omega) (fun r e=>by cases e;exact⟨by omega,_,_,HK1.out,.inl rfl⟩)
   have HN:=ae (jy w C Z (pre++[((lv,rk,p),Value.nilIface)]) WF) (by
    have hoth:∀{b:Nat} {Cb:Array Value} {t:TypeId},t≠3→b≠w.heap.size+3→af Wx b Cb t→af WF b Cb t:=fun ht hb h=>by
     rw[hWF];exact(jT (HRow.out.alloc _) (h.alloc _) ht HA.out.2).other _ _ hb
    refine⟨HT2.out,⟨.slice a1 (pre.length+1) cap1,by rw[hWF];exact HK1.out.set 0 _,?_⟩,hoth (by decide) (by omega) HI.out.tree,hoth (by decide) (by omega) HI.out.res1,hoth (by decide) (by omega) HI.out.res2,HI.out.old.trans (kF 0).below,aN HI.out.size (kF 0).size⟩;rw[hWF,AP,List.map_append,show(pre++[((lv,rk,p),Value.nilIface)]).length=pre.length+1 by simp];exact dL HA.out.1 HK1.out (by decide))
   rw[←hWF];exact⟨(kF _).ir,kF _,HN.out⟩
  ·obtain⟨t',x',rfl⟩:=hfl.iface;have HI:=aa (ag hI hfl);have c1:=(hI.res1.cell 0).trans (show _=some (.slice none 0 0) from rfl);have f1:=hI.res1.frozen 0;have c2:=(hI.res2.cell 0).trans (show _=some .nilIface from rfl);have f2:=hI.res2.frozen 0;have HZt:=ae (Z.2=true) (by rw[hZt]);clear hI hfl hA hZt;gi_wp2
   have hfin:af ((Wx.setCell ⟨w.heap.size+1,0,none⟩ (.slice none 0 0)).setCell ⟨w.heap.size+1+1,0,none⟩ (.iface t' (.pointer (some x')))) (w.heap.size+1) #[.slice none 0 0] 29∧af ((Wx.setCell ⟨w.heap.size+1,0,none⟩ (.slice none 0 0)).setCell ⟨w.heap.size+1+1,0,none⟩ (.iface t' (.pointer (some x')))) (w.heap.size+2) #[.iface t' (.pointer (some x'))] 62∧∃n,bj ((Wx.setCell ⟨w.heap.size+1,0,none⟩ (.slice none 0 0)).setCell ⟨w.heap.size+1+1,0,none⟩ (.iface t' (.pointer (some x')))) 0 n (.iface t' (.pointer (some x'))) 21:=by
    have k2:=HI.out.1.res2.other ⟨w.heap.size+1,0,none⟩ (.slice none 0 0) (by show w.heap.size+2≠w.heap.size+1;omega);refine⟨(HI.out.1.res1.set 0 (.slice none 0 0)).other ⟨w.heap.size+1+1,0,none⟩ _ (by show w.heap.size+1≠w.heap.size+1+1;omega),k2.set 0 _,nf,?_⟩;exact lB k2 (by intro k z h;cases h) _ (lB HI.out.1.res1 (by intro k z h;cases h) _ HI.out.2)
   have hold:=(HI.out.1.old.setCell (p:=⟨w.heap.size+1,0,none⟩) (by show w.heap.size≤w.heap.size+1;omega) (.slice none 0 0)).setCell (p:=⟨w.heap.size+1+1,0,none⟩) (by show w.heap.size≤w.heap.size+1+1;omega) (.iface t' (.pointer (some x')));exact⟨((KeepsOthers.setCell _ _ _).trans (KeepsOthers.setCell _ _ _)).from _,⟨rfl,HZt.out,⟨hfin.1,_,hfin.2⟩,hold⟩⟩
 case done=>
  rintro xs Wx hS hI hK;obtain⟨lw,hbx,hrow⟩:=hI.box;obtain⟨a',cap',rfl⟩:=jS hrow;have HI:=aa (ag hI hK);have HSx:=aa hS;have HRow:=aa hrow;have hb:Wx.cell? ⟨w.heap.size+1+1+1,0,none⟩=some (.slice a' xs.length cap'):=(hbx.cell 0).trans rfl;have c1:=(hI.res1.cell 0).trans (show _=some (.slice none 0 0) from rfl);have f1:=hI.res1.frozen 0;have c2:=(hI.res2.cell 0).trans (show _=some .nilIface from rfl);have f2:=hI.res2.frozen 0;clear hI hK hS hbx hrow;gi_wp2
  have hZ0:Z.2=false∧xs=aM Z.1:=by
   rcases HSx.out with h|⟨h,x,hx⟩
   ·exact h
   ·exfalso;obtain⟨A,hA,hp⟩:=HI.out.1.told;have h1:=congrArg List.length (hx.symm.trans hA);have h2:=hp.length_le;unfold aM at h1;simp at h1;omega
  obtain⟨hZ1,rfl⟩:=hZ0;obtain⟨WE,hWE⟩:∃WE,WE=(Wx.setCell ⟨w.heap.size+1,0,none⟩ (.slice a' (aM Z.1).length cap')).setCell ⟨w.heap.size+1+1,0,none⟩ .nilIface:=⟨_,rfl⟩;rw[←hWE];have r2a:=HI.out.1.res2.other ⟨w.heap.size+1,0,none⟩ (.slice a' (aM Z.1).length cap') (by show w.heap.size+2≠w.heap.size+1;omega);have r1:af WE (w.heap.size+1) #[.slice a' (aM Z.1).length cap'] 29:=by rw[hWE];exact(HI.out.1.res1.set 0 _).other _ _ (by show w.heap.size+1≠w.heap.size+1+1;omega)
  have r2:af WE (w.heap.size+1+1) #[.nilIface] 62:=by rw[hWE];exact r2a.set 0 .nilIface
  have rg:WE.ownsRow w.heap.size 3 1 (.slice a' (aM Z.1).length cap') (aM Z.1).length ((iB (aM Z.1)).map (Value.int .i64)):=by rw[hWE];exact dL (dL HRow.out HI.out.1.res1 (by decide)) r2a (by decide)
  have hD:WE.heap[WL.heap.size]?=some (.deferred (some [])):=by rw[hWE];exact(KeepsOthers.setCell _ _ _).same _ _ ((KeepsOthers.setCell _ _ _).same _ _ HI.out.2 rfl) rfl
  have hbE:Below w.heap.size w WE:=by rw[hWE];exact(HI.out.1.old.setCell (p:=⟨w.heap.size+1,0,none⟩) (by show w.heap.size≤w.heap.size+1;omega) _).setCell (p:=⟨w.heap.size+1+1,0,none⟩) (by show w.heap.size≤w.heap.size+1+1;omega) _
  refine⟨by simp,.inl ⟨_,_,rfl,run_takeDeferred hD,?_⟩⟩;refine⟨_,uK rfl _ _ (w.heap.size+1) (w.heap.size+1+1) _ _ rfl rfl (fV _ r1 hD rfl) (fV _ r2 hD rfl),_,_,rfl,.inl ⟨hZ1,rfl,?_⟩,?_⟩
  ·rw[AO];exact qz (z:=0) rg (grownBy_putObj' _ _ _) (fun r e=>by cases e;exact⟨Nat.zero_le _,_,hD,rfl⟩)
  ·exact hbE.trans (belowK_b (w:=w) aj WE WL.heap.size _ (.deferred none) (by omega) hD rfl rfl)
 case stop=>
  rintro c pre Wx _ ⟨rfl,hZ2,⟨v,h3,h4,n,h5⟩,h6⟩ hK;have HI:=aa (ag hZ2 (ag h3 (ag h4 (ag h5 (ag h6 hK)))));clear hZ2 h3 h4 h5 h6 hK;gi_wp2
  have hD:=HI.out.2.2.2.2.2;refine⟨by simp,.inl ⟨_,_,rfl,run_takeDeferred hD,?_⟩⟩;refine⟨_,uK rfl _ _ (w.heap.size+1) (w.heap.size+1+1) _ _ rfl rfl (fV _ HI.out.2.1 hD rfl) (fV _ HI.out.2.2.1 hD rfl),_,_,rfl,.inr ⟨HI.out.1,rfl,n,?_⟩,?_⟩
  ·exact kn (z:=0) HI.out.2.2.2.1 (grownBy_putObj' _ _ _) (fun r e=>by cases e;exact⟨Nat.zero_le _,_,hD,rfl⟩)
  ·exact HI.out.2.2.2.2.1.trans (belowK_b (w:=w) aj Wx WL.heap.size _ (.deferred none) (by omega) hD rfl rfl)
end
section
open Go.RowKit
theorem AR(w:World)(a:Option Addr)(len cap:Nat):
 Calls prog 44 #[.slice a len cap,.nilIface] w fun e w'=>e=.returned (.tuple #[.slice a len cap,.int .i64 0])∧w'=w:=by
 go_enter func44,ntmps44;go_wp2;go_ret2;exact⟨rfl,rfl⟩
theorem AS(w:World)(a:Option Addr)(len cap m lo:Nat)(ev:Value)(code:Int)(hf:bj w lo m ev code)(hg:eZ w):
 Calls prog 44 #[.slice a len cap,ev] w fun e w'=>e=.returned (.tuple #[.slice none 0 0,.int .i64 code])∧Below w.heap.size w w':=by
 obtain⟨t',x',rfl⟩:=hf.iface;have H4:=aa hf;have HG:=aa hg;clear hf hg;go_enter func44,ntmps44;go_wp2_with (go_at_call 27;refine(kN m _ code _ _ H4.out HG.out).mono ?_;rintro e w3 ⟨rfl,hb3⟩);go_ret2;exact⟨rfl,hb3⟩
def jq(zs:List Int)(s:Int)(ds:List Int)(p q:Int):List Int:=if cV zs s ds p q=true∧(ZR zs s ds p q).2=false then iB (aM (ZR zs s ds p q).1) else []
theorem AT(img:Value)(zs:List Int)(s:Int)(ds:List Int)(p q:Int)(w:World)(h:Rd .u8 w img zs)(hz:zs.length≤1048576)(hbd:∀z∈zs,0≤z∧z<256)(hd:ds.length=12)(hg:eZ w):
 Calls prog 13 #[img,.agg (aB (aD s ds p q))] w fun e w'=>∃v,e=.returned (.tuple #[v,.int .i64 (fG zs s ds p q)])∧w'.ownsRow w.heap.size 3 1 v (jq zs s ds p q).length ((jq zs s ds p q).map (Value.int .i64))∧Below w.heap.size w w':=by
 have HR:=aa (ag h (ag hbd (ag hd hg)));have hRl:=eR s ds p q hd;have HZ:=ae ((aB (aD s ds p q)).size=15) (by rw[fc];exact hRl);obtain⟨sa,sc,rfl⟩:=dZ h;have HTs:=aa (mD (.slice sa zs.length sc) _ hRl);obtain⟨Z1,hZ1,hAl⟩:=uo;have HAl:=aa (ag hZ1 hAl);have HRl:=aa hRl;clear h hbd hd hRl hZ1 hAl hg;have b0:Below w.heap.size w (w.alloc (.cells (aB (aD s ds p q)) 28)):=ak.alloc aj _;have HB0:=aa b0;clear b0;go_enter func13,ntmps13;go_upto_region 2 with(first
  |(refine wpList_load_row rfl 28 _ rfl w.heap.size rfl 28 (aB (aD s ds p q)) (0,0) _ (af.new w _ _) underlying28 rfl (by rw[HZ.out];exact dr) ?_)
  |(go_at_call 43;refine(uq _ zs s ds p q _ (HR.out.1.below HB0.out) hz HR.out.2.2.1).mono ?_;rintro e w2 ⟨ev,rfl,f2,b2⟩;have H2:=aa (ag f2 b2);clear f2 b2)
  |(refine Great.wpList_allocTo rfl (some 6) rfl (.pointer (some ⟨w2.heap.size,0,none⟩)) (.cells Z1 87) (HAl.out.2 _ _ _ rfl) ?_)
  |(refine wpList_store_row rfl 87 _ _ rfl w2.heap.size (de (.slice sa zs.length sc) (aD s ds p q)) rfl rfl 87 Z1 (af.new w2 _ _) (by rw[HTs.out];exact fU) (by rw[HTs.out];exact HAl.out.1) (mC _) ?_))
 obtain⟨W3,hW3⟩:∃W3,W3=(w2.alloc (.cells Z1 87)).setRow w2.heap.size (de (.slice sa zs.length sc) (aD s ds p q)):=⟨_,rfl⟩;have K3:=ae (af W3 w2.heap.size (de (.slice sa zs.length sc) (aD s ds p q)) 87) (by rw[hW3];exact(af.new w2 Z1 87).row _);have B3:=ae (Below w2.heap.size w2 W3) (by rw[hW3];exact below_setRow (ak.alloc aj _) aj _);rw[←hW3];clear hW3;have BW:=ae (Below w.heap.size w W3) (HB0.out.trans ((H2.out.2.trans (B3.out.mono H2.out.2.size)).mono HB0.out.size));cases hok:cF zs.length&&cA s ds p q with
 |false=>
  have hf:=H2.out.1;rw[hok] at hf;rcases hf with⟨hf,_⟩|⟨_,m,hf⟩
  ·cases hf
  obtain⟨t',x',rfl⟩:=hf.iface;have HF:=aa (hf.below B3.out);have HC:=ae (fG zs s ds p q=7∧jq zs s ds p q=[]) (⟨by unfold fG cV;rw[hok,if_pos rfl],by unfold jq cV;rw[hok,if_neg (by simp)]⟩);clear hf hok;go_wp2_with (go_at_call 27;refine(kN m _ 7 _ _ HF.out (HR.out.2.2.2.below BW.out)).mono ?_;rintro e w4 ⟨rfl,b4⟩;have HB4:=aa b4;clear b4);go_ret2;exact⟨_,by rw[HC.out.1];rfl,by rw[HC.out.2];exact ownsRow_nil _ _ _ _,BW.out.trans (HB4.out.mono BW.out.size)⟩
 |true=>
  have hf:=H2.out.1;rw[hok] at hf;rcases hf with⟨_,rfl⟩|⟨hf,_⟩;rotate_left
  ·cases hf
  have hr:cA s ds p q=true:=by rw[Bool.and_eq_true] at hok;exact hok.2
  obtain⟨hs0,hs1⟩:=lD hr;obtain⟨sz,rfl⟩:∃sz:Nat,s=(sz:Int):=⟨s.toNat,by omega⟩;have HOk:=ae (cV zs (sz:Int) ds p q=true) hok;clear hok hr hs0;have hRl:=HRl.out;have hX:=fun k hk=>qs (.slice sa zs.length sc) (aD (sz:Int) ds p q) k hk;have HX:=ae ((de (.slice sa zs.length sc) (aD (sz:Int) ds p q))[1]?=some (.int .i64 (sz:Int))∧∀j,j<14→(de (.slice sa zs.length sc) (aD (sz:Int) ds p q))[2+j]?=some (.int .i64 ((ds++[p,q]).getD j 0))) (by
   refine⟨(hX 0 (by omega)).trans (by simp[aD]),fun j hj=>?_⟩;have:=hX (j+1) (by omega);rw[show 1+(j+1)=2+j by omega] at this;rw[this];simp[aD,List.getD])
  clear hX hRl;go_wp2_with (first
   |(refine wpList_load_row rfl 87 _ rfl w2.heap.size rfl 87 (de (.slice sa zs.length sc) (aD (sz:Int) ds p q)) (0,0) _ K3.out underlying87 rfl (by rw[HTs.out];exact fU) ?_)
   |(go_at_call 45;refine(AQ ((sz+511)/512) sz zs _ (fun j=>(ds++[p,q]).getD j 0) _ _ (ZR zs (sz:Int) ds p q) (nJ _ _) HX.out.1 HX.out.2 HTs.out (HR.out.1.below BW.out) hz HR.out.2.1 (by omega) rfl rfl).mono ?_;rintro e w5 ⟨v,ev,rfl,h5,b5⟩;have H5:=aa (ag h5 b5);clear h5 b5)
   |(go_at_call 44;fail))
  have B5:=aa (BW.out.trans (H5.out.2.mono BW.out.size));rcases H5.out.1 with⟨hZ0,rfl,o5⟩|⟨hZ1,rfl,m,f5⟩
  ·obtain⟨va,vc,rfl⟩:=jS o5;have HC:=ae (fG zs (sz:Int) ds p q=0∧jq zs (sz:Int) ds p q=iB (aM (ZR zs (sz:Int) ds p q).1)) (⟨by unfold fG;rw[HOk.out,hZ0];simp,by unfold jq;rw[if_pos ⟨HOk.out,hZ0⟩]⟩);have HO:=aa (bZ o5 BW.out.size);clear o5 hZ0;refine(AR w5 va _ vc).mono ?_;rintro e w6 ⟨rfl,rfl⟩;go_wp2;go_ret2;exact⟨_,by rw[HC.out.1];rfl,by rw[HC.out.2];exact HO.out,B5.out⟩
  ·have HC:=ae (fG zs (sz:Int) ds p q=21∧jq zs (sz:Int) ds p q=[]) (⟨by unfold fG;rw[HOk.out,hZ1];simp,by unfold jq;rw[if_neg (by rw[hZ1];simp)]⟩);have HF:=aa f5;clear f5 hZ1;refine(AS w5 none 0 0 m 0 ev _ HF.out (HR.out.2.2.2.below B5.out)).mono ?_;rintro e w6 ⟨rfl,b6⟩;have HB6:=aa b6;clear b6;go_wp2;go_ret2;exact⟨_,by rw[HC.out.1];rfl,by rw[HC.out.2];exact ownsRow_nil _ _ _ _,B5.out.trans (HB6.out.mono B5.out.size)⟩
end
end Go.Proofs.YtlimollpocagiaaGreatDoor
