/- The program's (*flush).numbers. -/
import Derived.Test.YtlimollpocagiaaGreatDoorXa26
import Derived.Test.YtlimollpocagiaaGreatDoorXa27
namespace Go.Proofs.YtlimollpocagiaaGreatDoor
open Go.Proofs.Tryz
set_option linter.all false
set_option maxRecDepth 100000
set_option maxHeartbeats 16000000
section
open Go.RowKit Go.Shelf
attribute [local go_sem] Oper.semAt_some
structure jc(m:Nat)(g:Nat→Int)(Ls:Nat→List Int):Prop where
 l0:(Ls 0).length≤m
 g0:∀k,k<m→(Ls 0).getD k 0=g k
 l1:(Ls 1).length≤1
 g1:(Ls 1).getD 0 0=g m
 l2:Ls 2=[]
def eX(g:Nat→Int)(k:Nat)(x:Int):Nat→Int:=fun j=>if j=k then x else g j
theorem jc.set{m k:Nat}{g:Nat→Int}{Ls:Nat→List Int}(h:jc m g Ls)(hk:k<m+1)(x:Int):jc m (eX g k x) (aT Ls (aO m k).1 (cK (Ls (aO m k).1) (aO m k).2 x)):=by
 by_cases hkm:k<m
 ·have e:aO m k=(0,k):=by unfold aO;rw[if_pos hkm]
  rw[e];show jc m (eX g k x) (aT Ls 0 (cK (Ls 0) k x));refine⟨?_,fun j hj=>?_,?_,?_,?_⟩
  ·rw[bG,lF];have:=h.l0;omega
  ·rw[bG,jW,h.g0 j hj];rfl
  ·rw[aS _ _ _ _ (by omega)];exact h.l1
  ·rw[aS _ _ _ _ (by omega),h.g1];unfold eX;rw[if_neg (by omega)]
  ·rw[aS _ _ _ _ (by omega)];exact h.l2
 ·have e:aO m k=(1,0):=by unfold aO;rw[if_neg hkm]
  rw[e];show jc m (eX g k x) (aT Ls 1 (cK (Ls 1) 0 x));refine⟨?_,fun j hj=>?_,?_,?_,?_⟩
  ·rw[aS _ _ _ _ (by omega)];exact h.l0
  ·rw[aS _ _ _ _ (by omega),h.g0 j hj];unfold eX;rw[if_neg (by omega)]
  ·rw[bG,lF];have:=h.l1;omega
  ·rw[bG,jW,if_pos rfl];unfold eX;rw[if_pos (by omega)]
  ·rw[aS _ _ _ _ (by omega)];exact h.l2
theorem BM(g:Nat→Int)(k:Nat)(x:Int):eX (eX g k x) k x=eX g k x:=by
 funext j;unfold eX;split<;>rfl
def ig(W:World)(base B m:Nat)(g:Nat→Int):Prop:=∃C sl Ls,dF W base B 0 C 106 sl Ls∧C.size=3∧jc m g Ls
theorem ig.below{W W':World}{base B m:Nat}{g:Nat→Int}(h:ig W base B m g)(hb:Below W.heap.size W W'):ig W' base B m g:=by
 obtain⟨C,sl,Ls,h1,h2,h3⟩:=h;exact⟨C,sl,Ls,h1.below hb,h2,h3⟩
theorem ig.fq{A B:World}{row:Option Nat}{z base Bn m:Nat}{g:Nat→Int}(h:ig A base Bn m g)(hg:A.grownBy B row)(hr:∀r,row=some r→z≤r∧∃o,A.heap[r]?=some o∧o.isCells=false):ig B base Bn m g:=by
 obtain⟨C,sl,Ls,h1,h2,h3⟩:=h;exact⟨C,sl,Ls,h1.fq hg hr,h2,h3⟩
structure vm(W W':World)(base B:Nat):Prop where
 low:base≤B→Below base W W'
 keep:KeepsOthers W W'
 aW:∀{k:Nat} {C:Array Value} {t:TypeId},af W k C t→k≠B→t≠3→af W' k C t
theorem vn(base B m k:Nat)(g:Nat→Int)(x:Int)(W:World)(h:ig W base B m g)(hk:k<m+1)(hm:m≤16)(hbs:base≤W.heap.size):
 Calls prog 92 #[.pointer (some ⟨B,0,none⟩),dD (aO m k).1 (aO m k).2,.int .i64 x] W fun e W'=>e=.returned (.tuple #[])∧ig W' base B m (eX g k x)∧vm W W' base B:=by
 obtain⟨C,sl,Ls,h1,h2,h3⟩:=h;obtain⟨hp1,hp2⟩:=n7 m k hm;have hlen:(Ls (aO m k).1).length≤100001:=by
  have a0:=h3.l0;have a1:=h3.l1;rcases(show(aO m k).1=0∨(aO m k).1=1 by omega) with e|e<;>rw[e]<;>omega
 refine(uN B 0 (aO m k).1 (aO m k).2 C 106 sl Ls x base W h1 (by omega) (by omega) hlen (by decide) hbs).mono ?_;rintro e W' ⟨rfl,sw,n1,f1⟩;refine⟨rfl,⟨_,_,_,n1,by simpa using h2,h3.set hk x⟩,⟨fun hb=>?_,⟨f1.size,fun j o hj ho=>(f1.block j (Array.getElem?_eq_some_iff.1 hj).1 (fun e=>?_) (fun e=>?_)).trans hj⟩,fun {j C' t} hj hne ht=>f1.aW (h1.row _ (by omega)) hj hne ht⟩⟩
 ·exact⟨f1.os,f1.tape,f1.output,f1.size,fun j hj=>f1.block j (by omega) (by omega) (fun e=>by have:=((h1.row (aO m k).1 (by omega)).lt j e).1;omega)⟩
 ·subst e;have h4:W.heap[j]?=some (.cells C 106 (0,0)):=h1.box;rw[hj] at h4;cases h4
  cases ho
 ·rcases(h1.row (aO m k).1 (by omega)).2 with⟨e0,_⟩|⟨g',cap,cur,e0,_,hgg,_⟩
  ·rw[e0] at e;cases e
  ·rw[e0] at e;obtain rfl:g'=j:=(by simpa [Value.ownBlock] using e);rw[hj] at hgg;cases hgg
   cases ho
structure fB(w:World)(b m:Nat)(g:Nat→Int)(n₁:Nat)(W:World):Prop where
 old:Below w.heap.size w W
 ptr:af W w.heap.size #[.pointer (some ⟨b,0,none⟩)] 60
 res:af W (w.heap.size+1) #[.slice none 0 0,.slice none 0 0,.slice none 0 0] 106
 now:ig W w.heap.size (w.heap.size+2) m g
 size:n₁≤W.heap.size
theorem fB.below{w:World}{b m:Nat}{g:Nat→Int}{n₁:Nat}{W W':World}(h:fB w b m g n₁ W)(hb:Below W.heap.size W W'):fB w b m g n₁ W':=
 ⟨h.old.trans (hb.mono h.old.size),h.ptr.below hb h.ptr.lt,h.res.below hb h.res.lt,h.now.below hb,aN h.size hb.size⟩
theorem fB.fq{w:World}{b m:Nat}{g:Nat→Int}{n₁:Nat}{A B:World}{row:Option Nat}(hw:w.heap.size+2≤n₁)(h:fB w b m g n₁ A)(hg:A.grownBy B row)(hr:∀r,row=some r→n₁≤r∧∃o,A.heap[r]?=some o∧o.isCells=false):fB w b m g n₁ B:=by
 have hs:=h.size;have hk:∀k,k<n₁→B.heap[k]?=A.heap[k]?:=fun k hk=>hg.block k (by omega) (fun e=>by have:=(hr k e.symm).1;omega);exact⟨h.old.grown hg h.old.size (fun k e=>by have:=(hr k e).1;omega),(hk _ (by omega)).trans h.ptr,(hk _ (by omega)).trans h.res,h.now.fq hg hr,aN h.size hg.size⟩
theorem fB.set{w:World}{b m:Nat}{g g':Nat→Int}{n₁:Nat}{W W':World}(h:fB w b m g n₁ W)(hn:ig W' w.heap.size (w.heap.size+2) m g')(hf:vm W W' w.heap.size (w.heap.size+2)):fB w b m g' n₁ W':=
 ⟨h.old.trans (hf.low (by omega)),hf.aW h.ptr (by omega) (by decide),hf.aW h.res (by omega) (by decide),hn,aN h.size hf.keep.size⟩
theorem vp{w:World}{c l r:Nat}(h:af w c #[.int .i64 (l:Int),.int .i64 (r:Int)] 123){o:Oper}{a:Act}(x:Operand)(ho:o.op=.load 123 x)(hx:a.eval x=.pointer (some ⟨c,0,none⟩)):(execOp a.eval o).run prog w=.ok (.value (.agg #[.int .i64 (l:Int),.int .i64 (r:Int)])) w:=by
 unfold execOp;simp only[ho,hx,Instr.loadAt,Instr.sureAddr,Sem.run_bind,Sem.run_pure,Result.andThen_ok,run_loadVar_mid w c 0 123 [.int .i64 (l:Int),.int .i64 (r:Int)] _ (iF h) underlying123 rfl ey]
theorem BN{W:World}{k D:Nat}(o:Obj)(h:D≠k):(W.putObj D o).heap[k]?=W.heap[k]?:=by
 simp[World.putObj,Array.getElem?_setIfInBounds,h]
def fJ(ol:List Int)(pre:List Nat):Nat→Int:=fun k=>if k∈pre then ol.getD k 0 else 0
theorem BO(ol:List Int)(pre:List Nat)(k:Nat):fJ ol (pre++[k])=eX (fJ ol pre) k (ol.getD k 0):=by
 funext j;unfold fJ eX;by_cases h:j=k
 ·subst h;simp
 ·simp[h]
def fH(m:Nat)(ol:List Int)(pl:List Int)(od:List Nat):Nat→Int:=fun k=>if k∈od then pl.getD k 0 else fJ ol (aL m) k
theorem vq:∀{L:List (Nat×Nat)} {k:Nat} {q:Nat×Nat},L[k]?=some q→∀(j:Nat) (u:Value),[Value.int .i64 (q.1:Int),.int .i64 (q.2:Int)][j]?=some u→(gZ L)[k*2+j]?=some u
 |[],k,q,h,j,u,hu=>by simp at h
 |x::L,0,q,h,j,u,hu=>by
  obtain rfl:x=q:=by simpa using h
  have hj:j<2:=(List.getElem?_eq_some_iff.1 hu).1;have e1:gZ (x::L)=[Value.int .i64 (x.1:Int),.int .i64 (x.2:Int)]++gZ L:=rfl;rw[e1,Nat.zero_mul,Nat.zero_add,List.getElem?_append_left hj];exact hu
 |x::L,k+1,q,h,j,u,hu=>by
  have ih:=vq (L:=L) (k:=k) (q:=q) (by simpa using h) j u hu;have e1:gZ (x::L)=[Value.int .i64 (x.1:Int),.int .i64 (x.2:Int)]++gZ L:=rfl;rw[e1,List.getElem?_append_right (by show 2≤_;omega)];have e2:(k+1)*2+j-[Value.int .i64 (x.1:Int),.int .i64 (x.2:Int)].length=k*2+j:=by show(k+1)*2+j-2=_;omega
  rw[e2];exact ih
theorem Fl.bJ{W:World}{base b:Nat}{C:Array Value}{R:Nat→Value}{LL:Nat→List Int}{vo:Value}{od:List (Nat×Nat)}{cu:Int}(h:Fl W base b C R LL vo od cu){k:Nat}{q:Nat×Nat}(hq:od[k]?=some q):∃g oc,vo=.slice (some ⟨g,0,none⟩) od.length oc∧W.rangeAt g (k*2) [.int .i64 (q.1:Int),.int .i64 (q.2:Int)]:=by
 have hk:k<od.length:=(List.getElem?_eq_some_iff.1 hq).1;rcases h.orow.2 with⟨_,h0⟩|⟨g,cap,cur,e0,_⟩
 ·omega
 ·refine⟨g,cap,e0,fun j u hu=>?_⟩;have:=h.orow.cells (g:=g) (by rw[e0];rfl) (k*2+j) u (vq hq j u hu);rw[Addr.add_mid,Nat.zero_add] at this;exact this
def BP(w w':World)(m:Nat)(g:Nat→Int)(e:Ending):Prop:=∃(C:Array Value) (sl:Nat→Value) (Ls:Nat→List Int),e=.returned (.agg C)∧C.size=3∧(∀l,l<3→C[l]?=some (sl l))∧(∀l,l<3→w'.ownsRow w.heap.size 3 1 (sl l) (Ls l).length ((Ls l).map (Value.int .i64)))∧(∀l m,l<3→m<3→l≠m→(sl l).ownBlock=none∨(sl l).ownBlock≠(sl m).ownBlock)∧jc m g Ls∧Below w.heap.size w w'
theorem BQ(base b m n:Nat)(bf ol:List Int)(R:Nat→Value)(vo:Value)(s:FD)(w:World)(h:dA w base b m bf ol s R vo)(hwf:bg m n s)(hm:m=(n+127)/128)(hn:n≤2048):
 Calls prog 68 #[.pointer (some ⟨b,0,none⟩)] w fun e w'=>BP w w' m (fH m ol s.pl s.od) e:=by
 have hm16:m≤16:=by omega
 obtain⟨W0,hW0⟩:∃W0,W0=((w.alloc (.cells #[.pointer (some ⟨b,0,none⟩)] 60)).alloc (.cells #[.slice none 0 0,.slice none 0 0,.slice none 0 0] 106)).alloc (.cells #[.slice none 0 0,.slice none 0 0,.slice none 0 0] 106):=⟨_,rfl⟩;have hs0:W0.heap.size=w.heap.size+3:=by rw[hW0];simp
 have B0:=ae (Below w.heap.size w W0) (by rw[hW0];exact((ak.alloc aj _).alloc (by simp) _).alloc (by simp;omega) _);have K0:=ae (af W0 w.heap.size #[.pointer (some ⟨b,0,none⟩)] 60) (by rw[hW0];exact((af.new w _ _).alloc _).alloc _);have K1:=ae (af W0 (w.heap.size+1) #[.slice none 0 0,.slice none 0 0,.slice none 0 0] 106) (by rw[hW0];have h:=(af.new (w.alloc (.cells #[.pointer (some ⟨b,0,none⟩)] 60)) #[.slice none 0 0,.slice none 0 0,.slice none 0 0] 106).alloc (.cells #[.slice none 0 0,.slice none 0 0,.slice none 0 0] 106);simpa using h);have K2:=ae (af W0 (w.heap.size+2) #[.slice none 0 0,.slice none 0 0,.slice none 0 0] 106) (by rw[hW0];have h:=(af.new ((w.alloc (.cells #[.pointer (some ⟨b,0,none⟩)] 60)).alloc (.cells #[.slice none 0 0,.slice none 0 0,.slice none 0 0] 106)) #[.slice none 0 0,.slice none 0 0,.slice none 0 0] 106);simpa using h);obtain⟨Wl,hWl⟩:∃Wl,Wl=W0.alloc (.cells #[.pointer (some ⟨b,0,none⟩)] 60):=⟨_,rfl⟩;have bW:Below W0.heap.size W0 Wl:=by rw[hWl];exact ak.alloc aj _
 have hsl:Wl.heap.size=w.heap.size+4:=by rw[hWl];simp[hs0]
 have HXB:=ae (Boxed Wl (w.heap.size+3) 60 (.pointer (some ⟨b,0,none⟩))) (by rw[hWl, ←hs0];exact Boxed.new W0 _ _);have I0:=ae (fB w b m (fJ ol []) Wl.heap.size Wl) (⟨B0.out.trans (bW.mono (by omega)),K0.out.below bW K0.out.lt,K1.out.below bW K1.out.lt,⟨#[.slice none 0 0,.slice none 0 0,.slice none 0 0],fun _=>.slice none 0 0,fun _=>[],⟨K2.out.below bW K2.out.lt,fun l hl=>by
  rcases(show l=0∨l=1∨l=2 by omega) with rfl|rfl|rfl<;>rfl,fun l _=>World.ownsRow_nil _ _ _ _,fun _ _ _ _ _=>.inl rfl⟩,rfl,⟨by simp,fun k _=>by simp[fJ],by simp,by simp[fJ],rfl⟩⟩,aj⟩)
 have HW0:=aa hW0;have HWl:=aa hWl;have H:=aa (ag h (ag hwf (ag hm bW)));have HX1:=ae (∃g gc,Wl.cell? ⟨b,1,none⟩=some (.slice (some ⟨g,0,none⟩) n gc)) (by
  obtain⟨C',LL,hF,hR⟩:=h.below (show Below w.heap.size w Wl from I0.out.old);have hwn:(LL 1).length=n:=by rw[hR.ws];exact hwf.wl
  obtain⟨g,gc,_,_,hx,_⟩:=hF.ku (by rw[hwn];have:=hwf.cu;omega);rw[hwn] at hx;exact⟨g,gc,hx⟩)
 obtain⟨g,gc,hx1⟩:=HX1.out;have HX:=aa hx1;have HS0:=aa hs0;have HSL:=aa hsl;clear h hwf bW hW0 hWl hx1 HX1 hs0;clear hm;have c0:=(K0.out.cell 0).trans (show _=some (.pointer (some ⟨b,0,none⟩)) from rfl);refine(callsIn_wide (n:=6)).1 ?_;refine callsIn_of_wp_marks func68 rfl trivial ?_ rfl;simp only[ntmps68,List.size_toArray,List.length_cons,List.length_nil,Nat.reduceAdd,Nat.reduceSub,Array.replicate_succ,Array.replicate_zero,List.push_toArray,List.append_toArray,List.nil_append,List.cons_append];gi_upto_region 2 with fail
 rw[←HW0.out];gi_wp2_with (refine⟨trivial,?_⟩;gi_at_call 65;fail)
 refine⟨trivial,?_⟩;refine(vf _ b _).mono ?_;rintro e w' ⟨rfl,rfl⟩;rw[←HWl.out,HS0.out];gi_wp2
 clear c0;have hmx:prog.follows .mixedOrders=true:=by kernel_rfl
 refine wpIn_rangeFunc_ownH rfl (by omega) (gf:=98) (lb:=#[.pointer (some ⟨w.heap.size+3,0,none⟩)]) rfl trivial (enters_of func98 (by kernel_rfl) rfl)
  (vg 5 (by omega) (w.heap.size+3) b g n gc m H.out.2.2.1 hn Wl HXB.out HX.out) (fun _ _=>trivial) (fun _ _ _ _ _ _ _ _=>trivial) ak (fun _=>rfl)
  (fun pre W=>fB w b m (fJ ol (pre.map (·.1))) Wl.heap.size W)
  (fun cd pre W=>False)
  (by intro pre A B row h hg hr;exact fB.fq (by omega) h hg hr)
  (by rintro cd pre A B row h hg hr;exact h)
  I0.out
  (fun x a' Wx=>∃c,a'={tmps:=#[.pointer (some ⟨b,0,none⟩),.pointer (some ⟨w.heap.size,0,none⟩),.pointer (some ⟨w.heap.size+1,0,none⟩),.pointer (some ⟨w.heap.size+1+1,0,none⟩),.pointer (some ⟨c,0,none⟩),undef,undef,.pointer (some ⟨b,0,none⟩),.func (.func 98) #[] #[.pointer (some ⟨w.heap.size+3,0,none⟩)],.agg #[.int .i64 ((aO m x.1).1:Int),.int .i64 ((aO m x.1).2:Int)],undef,undef,undef,undef,undef,undef,undef,undef,undef,undef,undef,undef,undef,undef,undef,undef,undef,undef,undef,undef,undef,undef,undef,undef,undef],defers:=[]}∧af Wx c #[.int .i64 ((aO m x.1).1:Int),.int .i64 ((aO m x.1).2:Int)] 123∧Wl.heap.size≤c)
  (by
   rintro x a' _ A B row ⟨c,h1,h2,h3⟩ hg hr;refine⟨c,h1,(hg.block c h2.lt (fun e=>?_)).trans h2,h3⟩;obtain⟨_,o,ho,hc⟩:=hr c e.symm;have h2':A.heap[c]?=some (Obj.cells _ _ _):=h2;rw[h2'] at ho;cases ho
   cases hc)
  ?assign ?body ?done ?stop
 case assign=>
  rintro l pre x Wx K hI hK;have HK:=aa (ag hI hK);clear hI hK;unfold jX;generalize (aO m x.1).1=lv at HK⊢;generalize (aO m x.1).2=rk at HK⊢;gi_wp2
  have bA:Below Wx.heap.size Wx (Wx.alloc (.cells #[.int .i64 (lv:Int),.int .i64 (rk:Int)] 123)):=ak.alloc aj _;exact HK.out.2 _ _ ((KeepsOthers.alloc _ _).from _) trivial (HK.out.1.below bA) ⟨_,rfl,af.new _ _ _,HK.out.1.size⟩
 case body=>
  rintro l pre x a' Wx hl hr hI ⟨c,rfl,kc,hcl⟩ hplen;have hk2:=kR x.2;obtain⟨k,hkx⟩:∃k,k=x.1:=⟨_,rfl⟩;have HG:=ae (fJ ol ((pre++[x]).map (·.1))=eX (fJ ol (pre.map (·.1))) k (ol.getD k 0)) (by rw[List.map_append,hkx];exact BO ol _ _);rw[←hkx] at kc hk2⊢;obtain⟨hp1,hp2⟩:=n7 m k hm16;obtain⟨C,LL,hF,hRel⟩:=H.out.1;have HF:=aa (ag hF hRel);have HO:=ae ((LL (2+(aO m k).1)).getD (aO m k).2 0=ol.getD k 0) (hRel.was hk2);obtain⟨lv,hlv⟩:∃lv,lv=(aO m k).1:=⟨_,rfl⟩;obtain⟨rk,hrk⟩:∃rk,rk=(aO m k).2:=⟨_,rfl⟩;have HLR:=aa (ag hlv hrk);rw[←hlv] at kc hp1 HO⊢;rw[←hrk] at kc hp2 HO⊢;obtain⟨gP,hgP⟩:∃gP,gP=fJ ol (pre.map (·.1)):=⟨_,rfl⟩;rw[←hgP] at hI HG;obtain⟨ok,hok⟩:∃ok,ok=ol.getD k 0:=⟨_,rfl⟩;rw[←hok] at HO HG;have HI:=aa hI;have hsl4:w.heap.size+4≤c:=by omega
  clear hkx hlv hrk hgP hok hF hRel hI hplen;gi_upto_region 4 with fail
  refine wpIn_region_any (by assumption) ?_;change wpAnyIn _ _ _ _ _ _ _ _ _ (World.drew Wx);have bD:Below Wx.heap.size Wx (World.drew Wx):=ak.drew;have hcx:c<Wx.heap.size:=kc.lt;refine BK [(1,.pointer (some ⟨w.heap.size,0,none⟩)),(3,.pointer (some ⟨w.heap.size+1+1,0,none⟩)),(4,.pointer (some ⟨c,0,none⟩))] (fun W=>af W c #[.int .i64 (lv:Int),.int .i64 (rk:Int)] 123∧(fB w b m gP Wl.heap.size W∨fB w b m (eX gP k ok) Wl.heap.size W)∧KeepsOthers Wx W) (fun i v W=>match i with|0=>v=.agg #[.int .i64 (lv:Int),.int .i64 (rk:Int)]|1=>v=.pointer (some ⟨b,0,none⟩)|2=>v=.pointer (some ⟨b,0,none⟩)|3=>v=.pointer (some ⟨b,2,none⟩)|4=>v=.agg #[.int .i64 (lv:Int),.int .i64 (rk:Int)]|5=>v=.int .i64 ok|_=>fB w b m (eX gP k ok) Wl.heap.size W) 35 [] (by kernel_rfl) ?hstep ?hfin _ _ rfl rfl ⟨kc.below bD kc.lt,.inl (HI.out.below bD),jZ bD⟩ (by
   intro t v h;simp only[List.mem_cons,List.not_mem_nil,or_false,Prod.mk.injEq] at h;rcases h with⟨rfl,rfl⟩|⟨rfl,rfl⟩|⟨rfl,rfl⟩<;>rfl)
  case hstep=>
   intro i o listed ac W hi hall hI9;have hS:=hI9.held;have f1:ac.tmps.getD 1 undef=.pointer (some ⟨w.heap.size,0,none⟩):=hI9.fix 1 _ (by simp);have f3:ac.tmps.getD 3 undef=.pointer (some ⟨w.heap.size+1+1,0,none⟩):=hI9.fix 3 _ (by simp);have f4:ac.tmps.getD 4 undef=.pointer (some ⟨c,0,none⟩):=hI9.fix 4 _ (by simp);have hptr:af W w.heap.size #[.pointer (some ⟨b,0,none⟩)] 60:=(by rcases hS.2.1 with h|h<;>exact h.ptr);have cP:=(hptr.cell 0).trans (show _=some (.pointer (some ⟨b,0,none⟩)) from rfl);have hold:Below w.heap.size w W:=(by rcases hS.2.1 with h|h<;>exact h.old);have hN:ig W w.heap.size (w.heap.size+2) m gP∨ig W w.heap.size (w.heap.size+2) m (eX gP k ok):=(by rcases hS.2.1 with h|h;exact .inl h.now;exact .inr h.now);clear hptr;match i,hi with
   |0,hi=>
    obtain rfl:=Option.some.inj hi;exact⟨by rfl,fun K hK=>mL (fun c h=>by cases h) (fun c h=>by cases h) (vp hS.1 (.tmp 4) rfl f4) (hK.out _ _ rfl hS (fun _ _ h=>h))⟩
   |1,hi=>
    obtain rfl:=Option.some.inj hi;exact⟨by rfl,fun K hK=>mL (fun c h=>by cases h) (fun c h=>by cases h) (by go_simp) (hK.out _ _ rfl hS (fun _ _ h=>h))⟩
   |2,hi=>
    obtain rfl:=Option.some.inj hi;have v1:ac.tmps.getD 11 undef=.pointer (some ⟨b,0,none⟩):=hI9.at hall 1 11 rfl rfl (by rfl);exact⟨by rfl,fun K hK=>mL (fun c h=>by cases h) (fun c h=>by cases h) (by go_simp) (hK.out _ _ rfl hS (fun _ _ h=>h))⟩
   |3,hi=>
    obtain rfl:=Option.some.inj hi;have v2:ac.tmps.getD 12 undef=.pointer (some ⟨b,0,none⟩):=hI9.at hall 2 12 rfl rfl (by rfl);exact⟨by rfl,fun K hK=>mL (fun c h=>by cases h) (fun c h=>by cases h) (by go_simp) (hK.out _ _ rfl hS (fun _ _ h=>h))⟩
   |4,hi=>
    obtain rfl:=Option.some.inj hi;exact⟨by rfl,fun K hK=>mL (fun c h=>by cases h) (fun c h=>by cases h) (vp hS.1 (.tmp 4) rfl f4) (hK.out _ _ rfl hS (fun _ _ h=>h))⟩
   |5,hi=>
    obtain rfl:=Option.some.inj hi;have v3:ac.tmps.getD 13 undef=.pointer (some ⟨b,2,none⟩):=hI9.at hall 3 13 rfl rfl (by rfl);have v4:ac.tmps.getD 14 undef=.agg #[.int .i64 (lv:Int),.int .i64 (rk:Int)]:=hI9.at hall 4 14 rfl rfl (by rfl);refine⟨by rfl,fun K hK=>?_⟩;go_simp;refine⟨trivial,(CallsIn.inRound l (callsIn_wide.2 (jz b 2 lv rk C 113 _ _ base W (HF.out.1.below hold).old (by omega) (by omega)))).mono ?_⟩;rintro e W2 ⟨rfl,b2⟩;show K (ac.put (some 15) _) W2;refine hK.out _ _ (show _=_ by rw[HO.out]) ⟨hS.1.below b2 hS.1.lt,hS.2.1.imp (fun h=>h.below b2) (fun h=>h.below b2),hS.2.2.trans (jZ b2)⟩ (fun j u h=>?_);match j,h with
    |0,h=>exact h
    |1,h=>exact h
    |2,h=>exact h
    |3,h=>exact h
    |4,h=>exact h
    |5,h=>exact h
    |j'+6,h=>exact fB.below h b2
   |6,hi=>
    obtain rfl:=Option.some.inj hi;have v0:ac.tmps.getD 10 undef=.agg #[.int .i64 (lv:Int),.int .i64 (rk:Int)]:=hI9.at hall 0 10 rfl rfl (by rfl);have v5:ac.tmps.getD 15 undef=.int .i64 ok:=hI9.at hall 5 15 rfl rfl (by rfl);have HN2:=ae (∃g2,ig W w.heap.size (w.heap.size+2) m g2∧fB w b m g2 Wl.heap.size W∧eX g2 k ok=eX gP k ok) (by
     rcases hS.2.1 with h|h
     ·exact⟨_,h.now,h,rfl⟩
     ·exact⟨_,h.now,h,BM _ _ _⟩)
    obtain⟨g2,hg2,hi2,he2⟩:=HN2.out;have HS:=aa (ag hS (ag hg2 (ag hi2 he2)));have HHo:=aa hold;clear hS hN hold hg2 hi2 he2 HN2 cP;refine⟨by rfl,fun K hK=>?_⟩;go_simp;have hcall:=vn w.heap.size (w.heap.size+2) m k g2 ok W HS.out.2.1 hk2 hm16 HHo.out.size;rw[←HLR.out.1, ←HLR.out.2] at hcall;refine⟨trivial,(CallsIn.inRound l (callsIn_wide.2 hcall)).mono ?_⟩;rintro e W2 ⟨rfl,n2,f2⟩;rw[HS.out.2.2.2] at n2;have hI2:=HS.out.2.2.1.set n2 f2;show K (ac.put (some 16) _) W2;refine hK.out _ _ hI2 ⟨f2.aW HS.out.1.1 (by omega) (by decide),.inr hI2,HS.out.1.2.2.trans f2.keep⟩ (fun j u h=>?_);match j,h with
    |0,h=>exact h
    |1,h=>exact h
    |2,h=>exact h
    |3,h=>exact h
    |4,h=>exact h
    |5,h=>exact h
    |j'+6,h=>exact hI2
   |k'+7,hi=>simp at hi
  case hfin=>
   intro listed ac W hall hI9;have h6:fB w b m (eX gP k ok) Wl.heap.size W:=hI9.vals 6 _ 16 rfl (hall 6 (by decide)) rfl;refine⟨hI9.held.2.2.from _,trivial,?_⟩;show fB w b m (fJ ol ((pre++[x]).map (·.1))) Wl.heap.size W;rw[HG.out];exact h6
 case done=>
  rintro D xs W hD hS hI hK;rw[hS] at hI;obtain⟨C,LL,hF,hRel⟩:=H.out.1;have HF:=aa (ag (hF.below (show Below w.heap.size w W from hI.old)) hRel);obtain⟨oa,oc,hov⟩:=dM HF.out.1.orow;obtain⟨no,hno⟩:∃no,no=(s.od.map (aO m)).length:=⟨_,rfl⟩;rw[←hno] at hov;have c8:W.cell? ⟨b,8,none⟩=some (.slice oa no oc):=by rw[←hov];exact(HF.out.1.box.cell 8).trans HF.out.1.ord
  have c1:=(hI.ptr.cell 0).trans (show _=some (.pointer (some ⟨b,0,none⟩)) from rfl);have hno2:no≤17:=by rw[hno,List.length_map];have:=H.out.2.1.gh;omega
  have HI:=aa (ag hI hK);have HNO:=aa (ag hno hov);clear hF hRel hI hK hS hno hov;gi_upto_region 5 with fail
  refine wpIn_wide.2 ?_;go_wp2;gi_wp2
  gi_loopw [6,22] (fun u i wr=>∃(k:Nat),k≤no∧i=.int .i64 (k:Int)∧Hid (fB w b m (fun j=>if j∈s.od.take k then s.pl.getD j 0 else fJ ol (aL m) j) Wl.heap.size wr∧wr.heap[D]?=some (.deferred (some [])))) (fun _ i _=>no-(intOf i).toNat)
  case atStart=>exact⟨0,Nat.zero_le _,rfl,aa ⟨by simpa using HI.out.1,HI.out.2⟩⟩
  case round=>
   obtain⟨k,hk,rfl,HO⟩:=hrel;by_cases hlt:k<no
   ·obtain⟨kk,hkk0⟩:∃kk,s.od[k]?=some kk:=⟨_,List.getElem?_eq_getElem (by have:=HNO.out.1;rw[List.length_map] at this;omega)⟩;have hkk:kk<m+1:=H.out.2.1.mY kk (List.mem_of_getElem? hkk0);obtain⟨hp1,hp2⟩:=n7 m kk hm16;obtain⟨C,LL,hF,hRel⟩:=H.out.1;have HFw:=aa (ag hF hRel);obtain⟨gq,gqc,hq1,hq2⟩:=(hF.below (show Below w.heap.size w wr from HO.out.1.old)).bJ (k:=k) (q:=aO m kk) (by rw[List.getElem?_map,hkk0];rfl);rw[HNO.out.2, ←HNO.out.1] at hq1;injection hq1 with q1 q2 q3;subst q1;subst q3;have HTk:=ae ((fun j=>if j∈s.od.take (k+1) then s.pl.getD j 0 else fJ ol (aL m) j)=eX (fun j=>if j∈s.od.take k then s.pl.getD j 0 else fJ ol (aL m) j) kk (s.pl.getD kk 0)) (by
     funext j;unfold eX;rw[List.take_add_one,hkk0];by_cases e:j=kk
     ·subst e;simp
     ·simp[e])
    have HPk0:=hRel.given hkk;obtain⟨lv,hlv⟩:∃lv,lv=(aO m kk).1:=⟨_,rfl⟩;obtain⟨rk,hrk⟩:∃rk,rk=(aO m kk).2:=⟨_,rfl⟩;have HLR:=aa (ag hlv hrk);rw[←hlv] at hq2 hp1 HPk0;rw[←hrk] at hq2 hp2 HPk0;have HPk:=aa HPk0;have HQ:=aa hq2;have hltI:(k:Int)<(no:Int):=(by omega);clear hlv hrk hq2 HPk0 hF hRel q2 hkk0;gi_upto_region 7 with fail
    refine wpIn_wide.2 ?_;go_wp2_with (first|(refine wpList_load_mid rfl 123 _ rfl gq (k*2) rfl [.int .i64 (lv:Int),.int .i64 (rk:Int)] _ HQ.out underlying123 rfl ey ?_)|fail);gi_upto_region 8 with fail
    obtain⟨w1,hw1⟩:∃w1,w1=wr.alloc (.cells #[.int .i64 (lv:Int),.int .i64 (rk:Int)] 123):=⟨_,rfl⟩;rw[←hw1];have bA:Below wr.heap.size wr w1:=(by rw[hw1];exact ak.alloc aj _);have KS:=ae (af w1 wr.heap.size #[.int .i64 (lv:Int),.int .i64 (rk:Int)] 123) (by rw[hw1];exact af.new _ _ _);have I1:=aa (HO.out.1.below bA);have PT:=aa I1.out.ptr;have B1:=aa I1.out.old;have D1:=aa ((jZ bA).same D _ HO.out.2 rfl);have hsz:w.heap.size+4≤wr.heap.size:=(by have:=HO.out.1.size;omega);clear hw1 bA;refine wpIn_wide.2 ?_;refine cr (fun w'=>af w' wr.heap.size #[.int .i64 (lv:Int),.int .i64 (rk:Int)] 123∧af w' w.heap.size #[.pointer (some ⟨b,0,none⟩)] 60) ⟨KS.out,PT.out⟩ fun hH=>?_;refine ah 0 (.agg #[.int .i64 (lv:Int),.int .i64 (rk:Int)]) rfl hH ?_ (yieldsIf_load_mid (by rfl) 123 _ rfl wr.heap.size 0 rfl [.int .i64 (lv:Int),.int .i64 (rk:Int)] _ (fun w' h=>iF h.1) underlying123 rfl ey);refine ah 1 (.pointer (some ⟨b,0,none⟩)) rfl hH ?_ (aH fun w' hw'=>by have hc:=(af.cell hw'.2 0).trans (show _=some (.pointer (some ⟨b,0,none⟩)) from rfl);clear hw';go_simp);refine ah 2 (.pointer (some ⟨b,0,none⟩)) rfl hH ?_;refine ah 3 (.pointer (some ⟨b,5,none⟩)) rfl hH ?_;refine ah 4 (.agg #[.int .i64 (lv:Int),.int .i64 (rk:Int)]) rfl hH ?_ (yieldsIf_load_mid (by rfl) 123 _ rfl wr.heap.size 0 rfl [.int .i64 (lv:Int),.int .i64 (rk:Int)] _ (fun w' h=>iF h.1) underlying123 rfl ey);refine aG 5 rfl fun K hK=>?_;go_simp;refine(jz b 5 lv rk C 113 _ _ base _ ((HFw.out.1.below (B1.out.drew)).iM) (by omega) (by omega)).mono ?_;rintro e W2 ⟨rfl,b2⟩;rw[HPk.out];have B2:=ae (Below w1.heap.size w1 W2) ((ak.drew).trans b2);refine hK.out _ _ ⟨KS.out.below B2.out KS.out.lt,PT.out.below B2.out PT.out.lt⟩ (fun hH=>?_);clear hK K b2;try simp only[Act.put,aq,au,av,ay,az,aA]
    refine aG 6 rfl fun K hK=>?_;go_simp;have hcall:=vn w.heap.size (w.heap.size+2) m kk _ (s.pl.getD kk 0) W2 (I1.out.below B2.out).now hkk hm16 (aN B1.out.size B2.out.size);rw[←HLR.out.1, ←HLR.out.2] at hcall;refine hcall.mono ?_;rintro e W3 ⟨rfl,n3,f3⟩;have I3:=aa ((I1.out.below B2.out).set n3 f3);have D3:=aa (f3.keep.same D _ ((jZ B2.out).same D _ D1.out rfl) rfl);refine hK.out _ _ ⟨f3.aW (KS.out.below B2.out KS.out.lt) (by omega) (by decide),f3.aW (PT.out.below B2.out PT.out.lt) (by omega) (by decide)⟩ (fun hH=>?_);clear hK K n3 f3;try simp only[Act.put,aq,au,av,ay,az,aA]
    refine bz ?_;clear hH;gi_wp2
    go_roundw
    case rel=>exact⟨k+1,by omega,by go_num,aa ⟨by rw[HTk.out];exact I3.out,D3.out⟩⟩
    case measure=>simp[intOf];omega
   ·have hkn:k=no:=(by omega);have HFin:=ae (fB w b m (fH m ol s.pl s.od) Wl.heap.size wr) (by
     have h:=HO.out.1;rw[List.take_of_length_le (by rw[hkn,HNO.out.1,List.length_map];exact aj)] at h;exact h)
    obtain⟨C,sl,Ls,hN,hCs,hG⟩:=HFin.out.now;have HN:=aa (ag hN (ag hCs hG));have HIn:=ae ((prog.info? 106).map (·.size)=some C.size) (by rw[hCs];kernel_rfl);have HOne:=ae (C.all (·.oneCell')=true) (by
     rw[Array.all_eq_true];intro i hi;rw[hCs] at hi;have h1:=hN.at_ i hi;rw[Nat.zero_add] at h1;obtain⟨x,y,e⟩:=dM (hN.row i hi);have h2:C[i]=sl i:=(by have:=Array.getElem?_eq_getElem (xs:=C) (i:=i) (by omega);rw[this] at h1;exact Option.some.inj h1);rw[h2,e];rfl)
    have KN:=aa hN.box;have KR:=aa HFin.out.res;have hnl:¬((k:Int)<(no:Int)):=(by omega);clear hN hCs hG hkn hlt;gi_upto_region 10 with fail
    refine wpIn_wide.2 ?_;go_wp2_with (first|(refine wpList_load_row rfl 106 _ rfl (w.heap.size+2) rfl 106 C (0,0) _ KN.out underlying106 rfl HIn.out ?_)|(refine wpList_store_row rfl 106 _ _ rfl (w.heap.size+1) C rfl rfl 106 _ KR.out HIn.out (by rw[HN.out.2.1];rfl) HOne.out ?_)|fail);gi_wp2
    have hD1:=HO.out.2;have hDs:D≠w.heap.size+1:=fun e=>by
     have h1:wr.heap[w.heap.size+1]?=some (.cells #[.slice none 0 0,.slice none 0 0,.slice none 0 0] 106 (0,0)):=KR.out;rw[←e,hD1] at h1;cases h1
    have hD2:(wr.setRow (w.heap.size+1) C).heap[D]?=some (.deferred (some [])):=(setRow_other wr (w.heap.size+1) D C hDs).trans hD1;refine⟨by simp,.inl ⟨_,_,rfl,run_takeDeferred hD2,?_⟩⟩;refine⟨_,results_cell_row rfl _ _ (w.heap.size+1) 106 C (0,0) _ rfl (fV _ (KR.out.row _) hD2 rfl) underlying106 rfl HIn.out,?_⟩;refine⟨C,sl,Ls,rfl,HN.out.2.1,fun l hl=>by have:=HN.out.1.at_ l hl;rwa [Nat.zero_add] at this,fun l hl=>dh (HN.out.1.row l hl) (fun j hj=>?_),HN.out.1.apart,HN.out.2.2,?_⟩
    ·have h1:j≠w.heap.size+1:=fun e=>eK (HN.out.1.row l hl) KR.out (by decide) (by rw[←e];exact hj);have h2:j≠D:=fun e=>by
      rcases(HN.out.1.row l hl).2 with⟨e0,_⟩|⟨g',cap,cur,e0,_,hgg,_⟩
      ·rw[e0] at hj;cases hj
      ·rw[e0] at hj;obtain rfl:g'=j:=(by simpa [Value.ownBlock] using hj);rw[e,hD1] at hgg;cases hgg
     exact(BN _ (fun e=>h2 e.symm)).trans (setRow_other wr (w.heap.size+1) j C h1)
    ·have hb1:Below w.heap.size w (wr.setRow (w.heap.size+1) C):=below_setRow HFin.out.old (by omega) _;exact hb1.trans (belowK_b (w:=w) aj _ D _ (.deferred none) (by omega) hD2 rfl rfl)
 case stop=>
  rintro D cd pre W hD hSp hX hK;exact absurd hX (fun h=>h)
end
end Go.Proofs.YtlimollpocagiaaGreatDoor
