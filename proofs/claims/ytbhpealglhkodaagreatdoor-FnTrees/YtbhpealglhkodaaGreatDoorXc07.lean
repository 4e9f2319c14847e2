/- A range over a function that hands over what it made: a round may turn blocks of its own t -/
import Derived.Test.YtbhpealglhkodaaGreatDoorXc06
import Derived.BigFrame
namespace Go.Proofs.YtbhpealglhkodaaGreatDoor
set_option linter.all false
set_option maxRecDepth 100000
set_option maxHeartbeats 16000000
section
open Go.RowKit
def AbidesZ{β:Type}(z:Nat)(J:β→World→Prop):Prop:=∀s A B row,J s A→A.grownBy B row→(∀r,row=some r→z≤r∧∃o,A.heap[r]?=some o∧o.isCells=false)→J s B
def GoesK{α:Type}(F:Fence)(n:Nat)(P:Program)(g:Nat)(lb:Array Value)(encs:α→Array Value)(Kp:World→World→Prop)(Ok:List α→α→World→Prop)(S Sp:List α→Prop)(W:World):Prop:=
 ∀(l:Nat) (J Jx:List α→World→Prop),AbidesZ W.heap.size J→AbidesZ W.heap.size Jx→
  (∀pre x W1,J pre W1→Ok pre x W1→YieldAt F (n-1) P l (encs x) W1 fun e W'=>(e=.returned (.bool true)∧J (pre++[x]) W'∧Kp W1 W')∨(e=.returned (.bool false)∧Jx (pre++[x]) W'∧KeepsFrom W.heap.size W1 W'))→
  J [] W→
  CallsIn F n P g (#[.func (.yield l) #[] #[]]++lb) W fun e W'=>(∃v,e=.returned v)∧((∃xs,S xs∧J xs W')∨(∃pre,Sp pre∧Jx pre W'))
theorem keepsT_mono{B B':Nat}{A C:World}(h:KeepsFrom B A C)(hB:B≤B'):KeepsFrom B' A C:=⟨h.size,fun b o hb ho hc=>h.same b o (Nat.le_trans hB hb) ho hc⟩
theorem keepsT_put{B l:Nat}(A:World)(hl:l<B)(o:Obj):KeepsFrom B A (A.putObj l o):=⟨(grownBy_putObj' A l o).size,fun b x hb ho _=>(World.putObj_heap_other (by omega)).trans ho⟩
theorem wpIn_rangeGoesK{α:Type}{F:Fence}{n:Nat}{P:Program}{g:Operand}{ps:Array Tmp}{assign body:Code}{Q:Exit→Act→World→Prop}{a:Act}{w:World}
 (hro:F.round=none) (h1:1≤n) {gf:Nat} {lb:Array Value} (hg:a.eval g=.func (.func gf) #[] lb) (hFg:F.fn gf) (eg:∀args w,(callFunc gf args).run P w=.ok (.enter gf args) w)
 {encs:α→Array Value} {Kp:World→World→Prop} (hKt:∀{A B C},Kp A B→Kp B C→Kp A C) (hKb:∀A o o',A.heap[w.heap.size+1]?=some o→o.isCells=false→Kp A (A.putObj (w.heap.size+1) o'))
 {Ok:List α→α→World→Prop} {S Sp:List α→Prop}
 (hseq:∀W1,Below w.heap.size w W1→W1.heap.size=w.heap.size+2→GoesK F (n-1) P gf lb encs Kp Ok S Sp W1)
 (hps:∀x,(encs x).size=ps.size)
 (I:List α→World→Prop) (Ix:Code→List α→World→Prop) (hI:AbidesZ (w.heap.size+1) I) (hIx:∀c,AbidesZ (w.heap.size+1) (Ix c))
 (h0:∀W',Below w.heap.size w W'→W'.heap.size=w.heap.size+2→I [] W')
 (Ax:List α→α→Act→World→Prop) (hAx:∀pre x a' A B,Ax pre x a' A→A.grownBy B (some (w.heap.size+1))→(∃o,A.heap[w.heap.size+1]?=some o∧o.isCells=false)→Ax pre x a' B)
 (hassign:∀(l:Nat) (pre:List α) (x:α) (W:World) (K:Act→World→Prop),I pre W→Ok pre x W→(∀a' W',KeepsFrom w.heap.size W W'→Kp W W'→Ax pre x a' W'→K a' W')→assign.wpIn (F.inRound l) (n-1-1) P (Exit.then K (fun _ _ _=>False)) {tmps:=(ps.zip (encs x)).foldl (fun t (p,v)=>t.setIfInBounds p v) a.tmps,defers:=[]} W)
 (hbody:∀(l:Nat) (pre:List α) (x:α) (a':Act) (W:World),Ax pre x a' W→body.wpIn (F.inRound l) (n-1-1) P (ownPostG w.heap.size Kp I Ix (pre++[x]) W) a' W)
 (hdone:∀(xs:List α) (W:World),S xs→I xs W→W.heap[w.heap.size]?=some (.deferred (some []))→Q .normal {a with defers:={target:=.collected w.heap.size,args:=#[]}::a.defers} W)
 (hstop:∀(c:Code) (pre:List α) (W:World),Sp pre→Ix c pre W→W.heap[w.heap.size]?=some (.deferred (some []))→c.wpIn F n P Q {a with defers:={target:=.collected w.heap.size,args:=#[]}::a.defers} W):
 (Code.rangeFunc g ps assign body).wpIn F n P Q a w:=by
 refine wpIn_rangeFunc fun fn hfn=>?_;rw[hro];obtain⟨R,hR⟩:∃R:LoopState→Option Code→Loop,R=fun st pe=>{state:=st,pending:=pe,fn,tmps:=a.tmps,params:=ps,assign,body,defers:=w.heap.size}:=⟨_,rfl⟩;obtain⟨W1,hW1⟩:∃W1,W1=(w.alloc (.deferred (some []))).alloc (.loop (R .ready none)):=⟨_,rfl⟩;have hs1:W1.heap.size=w.heap.size+2:=by rw[hW1];simp
 have hb1:Below w.heap.size w W1:=by rw[hW1];exact((Below.refl _ w).alloc (Nat.le_refl _) _).alloc (by simp) _
 have hl1:W1.heap[w.heap.size+1]?=some (.loop (R .ready none)):=by
  rw[hW1];have:=World.alloc_heap_new (w.alloc (.deferred (some []))) (.loop (R .ready none));rwa [World.size_alloc] at this
 have hd1:W1.heap[w.heap.size]?=some (.deferred (some [])):=by
  rw[hW1];exact(Below.heap_alloc _ _ _ (by simp)).trans (World.alloc_heap_new w _)
 have put:∀{J:List α→World→Prop},AbidesZ (w.heap.size+1) J→∀s A o o',A.heap[w.heap.size+1]?=some o→o.isCells=false→J s A→J s (A.putObj (w.heap.size+1) o'):=fun hJ s A o o' ho hc h=>hJ s A _ (some (w.heap.size+1)) h (grownBy_putObj' _ _ _) (fun r e=>by cases e;exact⟨Nat.le_refl _,o,ho,hc⟩);have kept:∀{A B:World} {row:Option Nat} {k:Nat} {o:Obj},A.grownBy B row→(∀r,row=some r→W1.heap.size≤r∧∃o,A.heap[r]?=some o∧o.isCells=false)→k<w.heap.size+2→A.heap[k]?=some o→B.heap[k]?=some o:=fun {A B row k o} hgr hr hk ho=>
  (hgr.block k (Array.getElem?_eq_some_iff.1 ho).1 (fun e=>by have:=(hr k e.symm).1;omega)).trans ho
 have more:∀{A:World} {row:Option Nat},(∀r,row=some r→W1.heap.size≤r∧∃o,A.heap[r]?=some o∧o.isCells=false)→∀r,row=some r→w.heap.size+1≤r∧∃o,A.heap[r]?=some o∧o.isCells=false:=fun hr r e=>⟨by have:=(hr r e).1;omega,(hr r e).2⟩;refine⟨w.heap.size+1,[{target:=.collected w.heap.size,args:=#[]}],W1,{target:=.fn (.func gf) lb,args:=#[.func (.yield (w.heap.size+1)) #[] #[]]},W1,gf,#[.func (.yield (w.heap.size+1)) #[] #[]]++lb,W1,?_,?_,?_,?_,fun _=>h1,?_⟩
 ·rw[hW1,hR];exact run_enterLoop_outer _ _ _ _ _
 ·simp only[resolve,hg];simp[go_sem]
 ·intro f' hf';simp[Target.leads] at hf';subst hf';exact hFg
 ·simp[invoke,go_sem,eg]
 refine(hseq W1 hb1 hs1 (w.heap.size+1) (fun pre W=>I pre W∧W.heap[w.heap.size+1]?=some (.loop (R .ready none))∧W.heap[w.heap.size]?=some (.deferred (some [])))
  (fun pre W=>∃c,Ix c pre W∧W.heap[w.heap.size+1]?=some (.loop (R .done (some c)))∧W.heap[w.heap.size]?=some (.deferred (some []))) ?_ ?_ ?_ ?_).mono ?_
 ·rintro s A B row ⟨x1,x2,x3⟩ hgr hr;exact⟨hI s A B row x1 hgr (more hr),kept hgr hr (by omega) x2,kept hgr hr (by omega) x3⟩
 ·rintro s A B row ⟨c,x1,x2,x3⟩ hgr hr;exact⟨c,hIx c s A B row x1 hgr (more hr),kept hgr hr (by omega) x2,kept hgr hr (by omega) x3⟩
 ·rintro pre x W ⟨i1,l1,d1⟩ hok;have hy:=run_yield (P:=P) (args:=encs x) l1 (by rw[hR];exact hps x);rw[hR] at hy;refine⟨fn,_,assign,body,hy,roundIn_of_wpIn hfn (hassign _ pre x W _ i1 hok ?_)⟩;clear hy;intro a' Wa ka kpa ax;have la:=ka.same _ _ (by omega) l1 rfl;have da:=ka.same _ _ (Nat.le_refl _) d1 rfl;have hlt:w.heap.size+1<Wa.heap.size:=(Array.getElem?_eq_some_iff.1 la).1;refine⟨_,run_beginRound la (by rw[hR]),?_⟩;have l2:(Wa.putObj (w.heap.size+1) (.loop {R .ready none with state:=.busy})).heap[w.heap.size+1]?=some (.loop {R .ready none with state:=.busy}):=World.putObj_heap_same hlt;have d2:(Wa.putObj (w.heap.size+1) (.loop {R .ready none with state:=.busy})).heap[w.heap.size]?=some (.deferred (some [])):=(World.putObj_heap_other (by omega)).trans da;refine wpIn_mono (hbody _ pre x a' _ (hAx _ _ _ _ _ ax (grownBy_putObj' _ _ _) ⟨_,la,rfl⟩)) ?_;have fin:∀(jump:Option Code) (W3:World),KeepsFrom w.heap.size (Wa.putObj (w.heap.size+1) (.loop {R .ready none with state:=.busy})) W3→
   (Instr.endRound (w.heap.size+1) jump).run P W3=.ok (.bool jump.isNone) (W3.putObj (w.heap.size+1) (.loop (R (if jump.isNone then .ready else .done) jump)))∧
   (W3.putObj (w.heap.size+1) (.loop (R (if jump.isNone then .ready else .done) jump))).heap[w.heap.size+1]?=some (.loop (R (if jump.isNone then .ready else .done) jump))∧
   (W3.putObj (w.heap.size+1) (.loop (R (if jump.isNone then .ready else .done) jump))).heap[w.heap.size]?=some (.deferred (some []))∧W3.heap[w.heap.size+1]?=some (.loop {R .ready none with state:=.busy}):=fun jump W3 hk=>by
   have l3:=hk.same _ _ (by omega) l2 rfl;have he:=run_endRound (P:=P) jump l3;refine⟨?_,World.putObj_heap_same (Array.getElem?_eq_some_iff.1 l3).1,(World.putObj_heap_other (by omega)).trans (hk.same _ _ (Nat.le_refl _) d2 rfl),l3⟩;rw[hR] at he⊢;exact he
  have leave:∀(c:Code) (W3:World),KeepsFrom w.heap.size (Wa.putObj (w.heap.size+1) (.loop {R .ready none with state:=.busy})) W3→Ix c (pre++[x]) W3→∃v w',(Instr.endRound (w.heap.size+1) (some c)).run P W3=.ok v w'∧
   (((Ending.returned v)=.returned (.bool true)∧(I (pre++[x]) w'∧w'.heap[w.heap.size+1]?=some (.loop (R .ready none))∧w'.heap[w.heap.size]?=some (.deferred (some [])))∧Kp W w')∨((Ending.returned v)=.returned (.bool false)∧(∃c,Ix c (pre++[x]) w'∧w'.heap[w.heap.size+1]?=some (.loop (R .done (some c)))∧w'.heap[w.heap.size]?=some (.deferred (some [])))∧KeepsFrom W1.heap.size W w')):=fun c W3 hk hx=>by
   obtain⟨r1,r2,r3,r4⟩:=fin (some c) W3 hk;refine⟨_,_,r1,.inr ⟨rfl,⟨c,put (hIx c) _ _ _ _ r4 rfl hx,r2,r3⟩,?_⟩⟩;exact((keepsT_mono (B':=W1.heap.size) ka (by omega)).trans (keepsT_put Wa (by omega) _)).trans ((keepsT_mono hk (by omega)).trans (keepsT_put W3 (by omega) _))
  rintro e a3 W3 hp;cases e with
  |normal=>
   obtain⟨k3,kp3,i3⟩:=hp;obtain⟨r1,r2,r3,r4⟩:=fin none W3 k3;exact⟨_,_,r1,.inl ⟨rfl,⟨put hI _ _ _ _ r4 rfl i3,r2,r3⟩,hKt (hKt (hKt kpa (hKb Wa _ _ la rfl)) kp3) (hKb W3 _ _ r4 rfl)⟩⟩
  |ret=>exact leave _ W3 hp.1 hp.2
  |exit id=>exact leave _ W3 hp.1 hp.2
  |goto t=>exact leave _ W3 hp.1 hp.2
  |panic ch=>exact hp.elim
  |outgrown=>exact hp.elim
 ·exact⟨h0 W1 hb1 hs1,hl1,hd1⟩
 ·rintro e W2 ⟨⟨v,rfl⟩,(⟨xs,hS,hi,hl,hk⟩|⟨pre,hSp,c,hi,hl,hk⟩)⟩
  ·have he:=run_endLoop (P:=P) hl (by rw[hR];simp);rw[hR] at he;exact⟨none,_,he,hdone xs _ hS (put hI _ _ _ _ hl rfl hi) ((World.putObj_heap_other (by omega)).trans hk)⟩
  ·have he:=run_endLoop (P:=P) hl (by rw[hR];simp);rw[hR] at he;exact⟨some c,_,he,hstop c pre _ hSp (put (hIx c) _ _ _ _ hl rfl hi) ((World.putObj_heap_other (by omega)).trans hk)⟩
structure Kq(n₀ z:Nat)(Ty:TypeId→Prop)(W W':World):Prop where
 below:Below n₀ W W'
 cells:∀(k:Nat) (cs:Array Value) (t:TypeId) (fr:Nat×Nat),W.heap[k]?=some (.cells cs t fr)→¬Ty t→W'.heap[k]?=some (.cells cs t fr)
 rest:∀(k:Nat) (o:Obj),z≤k→W.heap[k]?=some o→o.isCells=false→W'.heap[k]?=some o
 size:W.heap.size≤W'.heap.size
theorem Kq.trans{n₀ z:Nat}{Ty:TypeId→Prop}{A B C:World}(h:Kq n₀ z Ty A B)(k:Kq n₀ z Ty B C):Kq n₀ z Ty A C:=
 ⟨h.below.trans k.below,fun b cs t fr hb ht=>k.cells b cs t fr (h.cells b cs t fr hb ht) ht,fun b o hz hb hc=>k.rest b o hz (h.rest b o hz hb hc) hc,Nat.le_trans h.size k.size⟩
theorem Kq.refl(n₀ z:Nat)(Ty:TypeId→Prop)(W:World):Kq n₀ z Ty W W:=⟨Below.refl _ _,fun _ _ _ _ h _=>h,fun _ _ _ h _=>h,Nat.le_refl _⟩
theorem Kq.of_below{n₀ z:Nat}{Ty:TypeId→Prop}{W W':World}(h:Below W.heap.size W W')(hn:n₀≤W.heap.size):Kq n₀ z Ty W W':=
 ⟨h.mono hn,fun k _ _ _ hk _=>(h.block k (Array.getElem?_eq_some_iff.1 hk).1).trans hk,fun k _ _ hk _=>(h.block k (Array.getElem?_eq_some_iff.1 hk).1).trans hk,h.size⟩
theorem Kq.blk{n₀ z:Nat}{Ty:TypeId→Prop}{W W':World}{b:Nat}{C:Array Value}{t:TypeId}(h:Kq n₀ z Ty W W')(hb:Blk W b C t)(ht:¬Ty t):Blk W' b C t:=h.cells _ _ _ _ hb ht
theorem Kq.keeps{n₀ z:Nat}{Ty:TypeId→Prop}{W W':World}(h:Kq n₀ z Ty W W'){B:Nat}(hB:z≤B):KeepsFrom B W W':=⟨h.size,fun k o hk ho hc=>h.rest k o (Nat.le_trans hB hk) ho hc⟩
theorem Kq.keepsZ{n₀ z:Nat}{Ty:TypeId→Prop}{W W':World}(h:Kq n₀ z Ty W W'):KeepsFrom z W W':=h.keeps (Nat.le_refl _)
theorem Kq.put{n₀ z:Nat}{Ty:TypeId→Prop}{A:World}{l:Nat}{o:Obj}(o':Obj)(hl:n₀≤l)(hz:l<z)(ho:A.heap[l]?=some o)(hc:o.isCells=false):Kq n₀ z Ty A (A.putObj l o'):=by
 have hlt:l<A.heap.size:=(Array.getElem?_eq_some_iff.1 ho).1;refine⟨(Below.refl n₀ A).grown (grownBy_putObj' A _ o') (by omega) (fun k e=>by cases e;omega),fun k cs t fr hk ht=>?_,fun k x hk hx hxc=>(World.putObj_heap_other (by omega)).trans hx,(grownBy_putObj' A l o').size⟩;refine(World.putObj_heap_other (fun e=>?_)).trans hk;subst e;rw[ho] at hk;cases hk
 cases hc
theorem Kq.weak{n₀ z z':Nat}{Ty:TypeId→Prop}{W W':World}(h:Kq n₀ z Ty W W')(hz:z≤z'):Kq n₀ z' Ty W W':=⟨h.below,h.cells,fun k o hk=>h.rest k o (Nat.le_trans hz hk),h.size⟩
theorem thenT_nil(t:TL):thenT ([],false) t=t:=by unfold thenT;simp
theorem thenT_assoc(a b c:TL):thenT (thenT a b) c=thenT a (thenT b c):=by
 unfold thenT;cases ha:a.2 with
 |true=>simp[ha]
 |false=>
  cases hb:b.2 with
  |true=>simp[hb]
  |false=>simp[hb]
def FitsT(Z:TL)(A:List HG)(t:TL):Prop:=∃B,Z=thenT (A,false) (thenT t B)
theorem FitsT.bad{Z:TL}{A:List HG}{t:TL}(h:FitsT Z A t)(ht:t.2=true):Z=(A++t.1,true):=by
 obtain⟨B,rfl⟩:=h;unfold thenT;simp[ht]
theorem FitsT.fst{Z:TL}{A:List HG}{t u:TL}(h:FitsT Z A (thenT t u)):FitsT Z A t:=by
 obtain⟨B,rfl⟩:=h;exact⟨thenT u B,by rw[thenT_assoc]⟩
theorem FitsT.snd{Z:TL}{A:List HG}{t u:TL}(h:FitsT Z A (thenT t u))(ht:t.2=false):FitsT Z (A++t.1) u:=by
 obtain⟨B,rfl⟩:=h;refine⟨B,?_⟩;rw[thenT_assoc t u B];unfold thenT;simp[ht]
theorem FitsT.pre{Z:TL}{A:List HG}{t:TL}(h:FitsT Z A t):A++t.1<+:Z.1:=by
 obtain⟨B,rfl⟩:=h;unfold thenT;cases ht:t.2 with
 |true=>simp[ht]
 |false=>simp[ht]
theorem FitsT.all(Z:TL):FitsT Z [] Z:=⟨([],false),by
 obtain⟨L,b⟩:=Z;cases b<;>simp[thenT]⟩
abbrev TX:=HG×Value
def TX.enc(x:TX):Array Value:=#[.agg #[.int .i64 (x.1.1:Int),.int .i64 (x.1.2.1:Int),.int .i64 x.1.2.2],x.2]
def upX(L:List HG):List TX:=L.map (fun h=>(h,.nilIface))
theorem upX_snoc(L:List HG)(h:HG):upX (L++[h])=upX L++[(h,.nilIface)]:=by unfold upX;simp
def OkX(Z:TL)(pre:List TX)(x:TX)(W:World):Prop:=
 (x.2=.nilIface∧∃A,pre=upX A∧A++[x.1]<+:Z.1)∨(x.1=(0,0,0)∧∃A,pre=upX A∧Z=(A,true)∧∃n,Flt W 0 n x.2 21)
def szOk(n:Nat):Bool:=decide (n%512=0)&&(decide (64≤n/512)&&decide (n/512≤2048))
theorem rightInSize_any(v:Value)(zs:List Int)(w:World)(h:Rd .u8 w v zs)(hz:zs.length≤140737488355328):
 Calls Tryz.prog 77 #[v] w fun e w'=>e=.returned (.bool (szOk zs.length))∧w=w':=by
 obtain⟨a,cap,rfl⟩:∃a cap,v=.slice a zs.length cap:=by obtain⟨a,cap,h1,_⟩:=h;exact⟨a,cap,h1⟩
 clear h;generalize zs.length=n at hz⊢;by_cases h1:n%512=0
 ·have hq1:((n:Int)%512==0)=true:=by simp;omega
  by_cases h2:64≤n/512
  ·have hq2:decide ((64:Int)≤(n:Int)/512)=true:=(by simp;omega);have HR:=hide (show szOk n=decide ((n:Int)/512≤2048) from by unfold szOk;rw[decide_eq_true h1,decide_eq_true h2,Bool.true_and,Bool.true_and,decide_eq_decide];omega);clear h1 h2;go_enter Tryz.func77,Tryz.ntmps77;go_wp2;go_ret;exact⟨ret_bool (by rw[HR.out]),rfl⟩
  ·have hq2:decide ((64:Int)≤(n:Int)/512)=false:=(by simp;omega);have HR:=hide (show szOk n=false from by unfold szOk;rw[decide_eq_false h2,Bool.false_and,Bool.and_false]);clear h1 h2;go_enter Tryz.func77,Tryz.ntmps77;go_wp2;go_ret;exact⟨ret_bool (by first|rfl|rw[HR.out]),rfl⟩
 ·have hq1:((n:Int)%512==0)=false:=by simp;omega
  have HR:=hide (show szOk n=false from by unfold szOk;rw[decide_eq_false h1,Bool.false_and]);clear h1;go_enter Tryz.func77,Tryz.ntmps77;go_wp2;go_ret;exact⟨ret_bool (by first|rfl|rw[HR.out]),rfl⟩
theorem blocks_any(v:Value)(zs:List Int)(w:World)(h:Rd .u8 w v zs)(hz:zs.length≤140737488355328):
 Calls Tryz.prog 55 #[v] w fun e w'=>e=.returned (.int .i64 (if szOk zs.length=true then((zs.length/512:Nat):Int) else 0))∧w=w':=by
 obtain⟨a,cap,rfl⟩:∃a cap,v=.slice a zs.length cap:=by obtain⟨a,cap,h1,_⟩:=h;exact⟨a,cap,h1⟩
 clear h;generalize zs.length=n at hz⊢;obtain⟨m,hm⟩:∃m,m=n/512:=⟨_,rfl⟩;have e1:(n:Int)/512=(m:Int):=by omega
 rw[←hm];by_cases h1:n%512=0
 ·have hq1:(((m:Int)*512) !=(n:Int))=false:=by simp;omega
  by_cases h2:64≤n/512
  ·have hq2:decide ((m:Int)<64)=false:=(by simp;omega);by_cases h3:n/512≤2048
   ·have hq3:decide ((2048:Int)<(m:Int))=false:=(by simp;omega);have HR:=hide (show(if szOk n=true then((m:Nat):Int) else 0)=(m:Int) from by unfold szOk;rw[decide_eq_true h1,decide_eq_true h2,decide_eq_true h3];rfl);rw[HR.out];have hm9:m≤2048:=(by omega);clear h1 h2 h3 hm;go_enter Tryz.func55,Tryz.ntmps55;go_wp2;go_ret;exact⟨rfl,rfl⟩
   ·have hq3:decide ((2048:Int)<(m:Int))=true:=(by simp;omega);have HR:=hide (show(if szOk n=true then((m:Nat):Int) else 0)=0 from by unfold szOk;rw[decide_eq_false h3,Bool.and_false,Bool.and_false];rfl);rw[HR.out];have hm9:m≤300000000000:=(by omega);clear h1 h2 h3 hm;go_enter Tryz.func55,Tryz.ntmps55;go_wp2;go_ret;exact⟨rfl,rfl⟩
  ·have hq2:decide ((m:Int)<64)=true:=(by simp;omega);have HR:=hide (show(if szOk n=true then((m:Nat):Int) else 0)=0 from by unfold szOk;rw[decide_eq_false h2,Bool.false_and,Bool.and_false];rfl);rw[HR.out];have hm9:m≤2048:=(by omega);clear h1 h2 hm;go_enter Tryz.func55,Tryz.ntmps55;go_wp2;go_ret;exact⟨rfl,rfl⟩
 ·have hq1:(((m:Int)*512) !=(n:Int))=true:=by simp;omega
  have HR:=hide (show(if szOk n=true then((m:Nat):Int) else 0)=0 from by unfold szOk;rw[decide_eq_false h1,Bool.false_and];rfl);rw[HR.out];have hm9:m≤300000000000:=by omega
  clear h1 hm;go_enter Tryz.func55,Tryz.ntmps55;go_wp2;go_ret;exact⟨rfl,rfl⟩
theorem wpList_load_rowG{P:Program}{ops:Array Oper}{rest:List Oper}{o:Oper}{a:Act}{w:World}{Q:Exit→Act→World→Prop}(hw:Region.wanted o (yielded ops a.tmps)=true)(ty:TypeId)(x:Operand)(ho:o.op=.load ty x)
 (g:Nat) (hx:a.eval x=.pointer (some ⟨g,0,none⟩)) (t:TypeId) (cs:Array Value) (fr:Nat×Nat) (d:TypeDesc) (hg:w.heap[g]?=some (.cells cs t fr))
 (hu:P.underlying ty=some d) (hd:(match d with|.struct _|.array _ _=>true|_=>false)=true) (hi:(P.info? ty).map (·.size)=some cs.size)
 (h:wpList P ops Q rest (a.put o.dst (.agg cs)) w):wpList P ops Q (o::rest) a w:=
 Go.BigFrame.wpList_want hw fun _ hK=>wp_load_row ty x ho g hx t cs fr d hg hu hd hi (hK _ _ h)
def datB(zs:List Int)(p:Int):List Int:=if p=0 then List.replicate 512 0 else blkP zs p
def faultT(zs:List Int)(s:Int)(ds:List Int)(p q:Int):Int:=if szOk zs.length=true∧rightR s ds p q=true then 0 else 7
theorem fault3_any(v:Value)(zs:List Int)(s:Int)(ds:List Int)(p q:Int)(w:World)(h:Rd .u8 w v zs)(h1:zs.length≤1048576)(hd:ds.length=12):
 Calls Tryz.prog 31 #[v,.agg (cellsI (rootI s ds p q))] w fun e w'=>e=.returned (.int .i64 (faultT zs s ds p q))∧Below w.heap.size w w':=by
 have HD:=hide hd;have HZ:=hide (show(cellsI (rootI s ds p q)).size=15 from by rw[cellsI_size];exact rootI_len s ds p q HD.out);have hb0:Below w.heap.size w (w.alloc (.cells (cellsI (rootI s ds p q)) 27)):=(Below.refl _ _).alloc (Nat.le_refl _) _;have HB0:=hide hb0;obtain⟨a,cap,rfl⟩:=rd_shapeT h;have HR:=hide h;clear hd hb0 h;cases hsz:szOk zs.length with
 |false=>
  have HS:=hide hsz;clear hsz;go_enter Tryz.func31,Tryz.ntmps31;go_wp2_with fail;refine(blocks_any _ zs _ (HR.out.below HB0.out) (by omega)).mono ?_;rintro e w1 ⟨rfl,rfl⟩;rw[HS.out];go_wp2;go_ret;exact⟨by unfold faultT;rw[HS.out,if_neg (by simp)];rfl,HB0.out⟩
 |true=>
  have HS:=hide hsz;have hn:((zs.length/512:Nat):Int)≠0:=by unfold szOk at hsz;simp at hsz;omega
  obtain⟨n,hn2⟩:∃n:Nat,zs.length/512=n:=⟨_,rfl⟩;rw[hn2] at hn;have hn3:((n:Int)==0)=false:=by simp;omega
  have HN:=hide hn2;clear hsz hn2;go_enter Tryz.func31,Tryz.ntmps31;go_wp2_with fail;refine(blocks_any _ zs _ (HR.out.below HB0.out) (by omega)).mono ?_;rintro e w1 ⟨rfl,rfl⟩;rw[HS.out,HN.out,if_pos rfl];go_wp2_with (refine wpList_load_rowG (by rfl) 27 _ rfl w.heap.size rfl 27 (cellsI (rootI s ds p q)) (0,0) _ (Blk.new w _ _) Tryz.underlying27 rfl (by rw[HZ.out];exact info15) ?_);refine(l02Root_any s ds p q _ HD.out).mono ?_;rintro e w1 ⟨rfl,b1⟩;have HB1:=hide (HB0.out.trans (b1.mono HB0.out.size));clear b1;cases hr:rightR s ds p q with
  |false=>
   have HR2:=hide hr;clear hr;go_wp2;go_ret;exact⟨by unfold faultT;rw[HR2.out,if_neg (by simp)];rfl,HB1.out⟩
  |true=>
   have HR2:=hide hr;clear hr;go_wp2;go_ret;exact⟨by unfold faultT;rw[HR2.out,HS.out,if_pos ⟨rfl,rfl⟩];rfl,HB1.out⟩
end
end Go.Proofs.YtbhpealglhkodaaGreatDoor
