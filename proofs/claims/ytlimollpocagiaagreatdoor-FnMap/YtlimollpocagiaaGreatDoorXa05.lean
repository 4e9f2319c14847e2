/- A range over a function that hands over what it made: a round may turn blocks of its own t -/
import Derived.Test.YtlimollpocagiaaGreatDoorXa04
import Derived.Test.YtlimollpocagiaaGreatDoorXa02
import Derived.WalkSpells
import Derived.Deep.RegionWith
namespace Go.Proofs.YtlimollpocagiaaGreatDoor
open Go.Proofs.Tryz
open World (putObj_heap_other)
set_option linter.all false
set_option maxRecDepth 100000
set_option maxHeartbeats 16000000
section
open Go.RowKit
def gy{β:Type}(z:Nat)(J:β→World→Prop):Prop:=∀s A B row,J s A→A.grownBy B row→(∀r,row=some r→z≤r∧∃o,A.heap[r]?=some o∧o.isCells=false)→J s B
def nk{α:Type}(F:Fence)(n:Nat)(P:Program)(g:Nat)(lb:Array Value)(encs:α→Array Value)(Kp:World→World→Prop)(Ok:List α→α→World→Prop)(S Sp:List α→Prop)(W:World):Prop:=
 ∀(l:Nat) (J Jx:List α→World→Prop),gy W.heap.size J→gy W.heap.size Jx→
  (∀pre x W1,J pre W1→Ok pre x W1→YieldAt F (n-1) P l (encs x) W1 fun e W'=>(e=.returned (.bool true)∧J (pre++[x]) W'∧Kp W1 W')∨(e=.returned (.bool false)∧Jx (pre++[x]) W'∧KeepsFrom W.heap.size W1 W'))→
  J [] W→
  CallsIn F n P g (#[.func (.yield l) #[] #[]]++lb) W fun e W'=>(∃v,e=.returned v)∧((∃xs,S xs∧J xs W')∨(∃pre,Sp pre∧Jx pre W'))
theorem nr{B B':Nat}{A C:World}(h:KeepsFrom B A C)(hB:B≤B'):KeepsFrom B' A C:=⟨h.size,fun b o hb ho hc=>h.same b o (aN hB hb) ho hc⟩
theorem sR{B l:Nat}(A:World)(hl:l<B)(o:Obj):KeepsFrom B A (A.putObj l o):=⟨(grownBy_putObj' A l o).size,fun b x hb ho _=>(putObj_heap_other (by omega)).trans ho⟩
theorem l9{α:Type}{F:Fence}{n:Nat}{P:Program}{g:Operand}{ps:Array Tmp}{assign body:Code}{Q:Exit→Act→World→Prop}{a:Act}{w:World}
 (hro:F.round=none) (h1:1≤n) {gf:Nat} {lb:Array Value} (hg:a.eval g=.func (.func gf) #[] lb) (hFg:F.fn gf) (eg:∀args w,(callFunc gf args).run P w=.ok (.enter gf args) w)
 {encs:α→Array Value} {Kp:World→World→Prop} (hKt:∀{A B C},Kp A B→Kp B C→Kp A C) (hKb:∀A o o',A.heap[w.heap.size+1]?=some o→o.isCells=false→Kp A (A.putObj (w.heap.size+1) o'))
 {Ok:List α→α→World→Prop} {S Sp:List α→Prop}
 (hseq:∀W1,Below w.heap.size w W1→W1.heap.size=w.heap.size+2→nk F (n-1) P gf lb encs Kp Ok S Sp W1)
 (hps:∀x,(encs x).size=ps.size)
 (I:List α→World→Prop) (Ix:Code→List α→World→Prop) (hI:gy (w.heap.size+1) I) (hIx:∀c,gy (w.heap.size+1) (Ix c))
 (h0:∀W',Below w.heap.size w W'→W'.heap.size=w.heap.size+2→I [] W')
 (Ax:List α→α→Act→World→Prop) (hAx:∀pre x a' A B,Ax pre x a' A→A.grownBy B (some (w.heap.size+1))→(∃o,A.heap[w.heap.size+1]?=some o∧o.isCells=false)→Ax pre x a' B)
 (hassign:∀(l:Nat) (pre:List α) (x:α) (W:World) (K:Act→World→Prop),I pre W→Ok pre x W→(∀a' W',KeepsFrom w.heap.size W W'→Kp W W'→Ax pre x a' W'→K a' W')→assign.wpIn (F.inRound l) (n-1-1) P (Exit.then K (fun _ _ _=>False)) {tmps:=(ps.zip (encs x)).foldl (fun t (p,v)=>t.setIfInBounds p v) a.tmps,defers:=[]} W)
 (hbody:∀(l:Nat) (pre:List α) (x:α) (a':Act) (W:World),Ax pre x a' W→body.wpIn (F.inRound l) (n-1-1) P (ownPostG w.heap.size Kp I Ix (pre++[x]) W) a' W)
 (hdone:∀(xs:List α) (W:World),S xs→I xs W→W.heap[w.heap.size]?=some (.deferred (some []))→Q .normal {a with defers:={target:=.collected w.heap.size,args:=#[]}::a.defers} W)
 (hstop:∀(c:Code) (pre:List α) (W:World),Sp pre→Ix c pre W→W.heap[w.heap.size]?=some (.deferred (some []))→c.wpIn F n P Q {a with defers:={target:=.collected w.heap.size,args:=#[]}::a.defers} W):
 (Code.rangeFunc g ps assign body).wpIn F n P Q a w:=by
 refine wpIn_rangeFunc fun fn hfn=>?_;rw[hro];obtain⟨R,hR⟩:∃R:LoopState→Option Code→Loop,R=fun st pe=>{state:=st,pending:=pe,fn,tmps:=a.tmps,params:=ps,assign,body,defers:=w.heap.size}:=⟨_,rfl⟩;obtain⟨W1,hW1⟩:∃W1,W1=(w.alloc (.deferred (some []))).alloc (.loop (R .ready none)):=⟨_,rfl⟩;have hs1:W1.heap.size=w.heap.size+2:=by rw[hW1];simp
 have hb1:Below w.heap.size w W1:=by rw[hW1];exact((Below.refl _ w).alloc aj _).alloc (by simp) _
 have hl1:W1.heap[w.heap.size+1]?=some (.loop (R .ready none)):=by
  rw[hW1];have:=World.alloc_heap_new (w.alloc (.deferred (some []))) (.loop (R .ready none));rwa [World.size_alloc] at this
 have hd1:W1.heap[w.heap.size]?=some (.deferred (some [])):=by
  rw[hW1];exact(Below.heap_alloc _ _ _ (by simp)).trans (World.alloc_heap_new w _)
 have put:∀{J:List α→World→Prop},gy (w.heap.size+1) J→∀s A o o',A.heap[w.heap.size+1]?=some o→o.isCells=false→J s A→J s (A.putObj (w.heap.size+1) o'):=fun hJ s A o o' ho hc h=>hJ s A _ (some (w.heap.size+1)) h (grownBy_putObj' _ _ _) (fun r e=>by cases e;exact⟨aj,o,ho,hc⟩);have kept:∀{A B:World} {row:Option Nat} {k:Nat} {o:Obj},A.grownBy B row→(∀r,row=some r→W1.heap.size≤r∧∃o,A.heap[r]?=some o∧o.isCells=false)→k<w.heap.size+2→A.heap[k]?=some o→B.heap[k]?=some o:=fun {A B row k o} hgr hr hk ho=>
  (hgr.block k (Array.getElem?_eq_some_iff.1 ho).1 (fun e=>by have:=(hr k e.symm).1;omega)).trans ho
 have more:∀{A:World} {row:Option Nat},(∀r,row=some r→W1.heap.size≤r∧∃o,A.heap[r]?=some o∧o.isCells=false)→∀r,row=some r→w.heap.size+1≤r∧∃o,A.heap[r]?=some o∧o.isCells=false:=fun hr r e=>⟨by have:=(hr r e).1;omega,(hr r e).2⟩;refine⟨w.heap.size+1,[{target:=.collected w.heap.size,args:=#[]}],W1,{target:=.fn (.func gf) lb,args:=#[.func (.yield (w.heap.size+1)) #[] #[]]},W1,gf,#[.func (.yield (w.heap.size+1)) #[] #[]]++lb,W1,?_,?_,?_,?_,fun _=>h1,?_⟩
 ·rw[hW1,hR];exact run_enterLoop_outer _ _ _ _ _
 ·simp only[resolve,hg];simp[go_sem]
 ·intro f' hf';simp[Target.leads] at hf';subst hf';exact hFg
 ·simp[invoke,go_sem,eg]
 refine(hseq W1 hb1 hs1 (w.heap.size+1) (fun pre W=>I pre W∧W.heap[w.heap.size+1]?=some (.loop (R .ready none))∧W.heap[w.heap.size]?=some (.deferred (some [])))
  (fun pre W=>∃c,Ix c pre W∧W.heap[w.heap.size+1]?=some (.loop (R .done (some c)))∧W.heap[w.heap.size]?=some (.deferred (some []))) ?_ ?_ ?_ ?_).mono ?_
 ·rintro s A B row ⟨x1,x2,x3⟩ hgr hr;exact⟨hI s A B row x1 hgr (more hr),kept hgr hr (by omega) x2,kept hgr hr (by omega) x3⟩
 ·rintro s A B row ⟨c,x1,x2,x3⟩ hgr hr;exact⟨c,hIx c s A B row x1 hgr (more hr),kept hgr hr (by omega) x2,kept hgr hr (by omega) x3⟩
 ·rintro pre x W ⟨i1,l1,d1⟩ hok;have hy:=run_yield (P:=P) (args:=encs x) l1 (by rw[hR];exact hps x);rw[hR] at hy;refine⟨fn,_,assign,body,hy,roundIn_of_wpIn hfn (hassign _ pre x W _ i1 hok ?_)⟩;clear hy;intro a' Wa ka kpa ax;have la:=ka.same _ _ (by omega) l1 rfl;have da:=ka.same _ _ aj d1 rfl;have hlt:w.heap.size+1<Wa.heap.size:=(Array.getElem?_eq_some_iff.1 la).1;refine⟨_,run_beginRound la (by rw[hR]),?_⟩;have l2:(Wa.putObj (w.heap.size+1) (.loop {R .ready none with state:=.busy})).heap[w.heap.size+1]?=some (.loop {R .ready none with state:=.busy}):=World.putObj_heap_same hlt;have d2:(Wa.putObj (w.heap.size+1) (.loop {R .ready none with state:=.busy})).heap[w.heap.size]?=some (.deferred (some [])):=(putObj_heap_other (by omega)).trans da;refine wpIn_mono (hbody _ pre x a' _ (hAx _ _ _ _ _ ax (grownBy_putObj' _ _ _) ⟨_,la,rfl⟩)) ?_;have fin:∀(jump:Option Code) (W3:World),KeepsFrom w.heap.size (Wa.putObj (w.heap.size+1) (.loop {R .ready none with state:=.busy})) W3→
   (Instr.endRound (w.heap.size+1) jump).run P W3=.ok (.bool jump.isNone) (W3.putObj (w.heap.size+1) (.loop (R (if jump.isNone then .ready else .done) jump)))∧
   (W3.putObj (w.heap.size+1) (.loop (R (if jump.isNone then .ready else .done) jump))).heap[w.heap.size+1]?=some (.loop (R (if jump.isNone then .ready else .done) jump))∧
   (W3.putObj (w.heap.size+1) (.loop (R (if jump.isNone then .ready else .done) jump))).heap[w.heap.size]?=some (.deferred (some []))∧W3.heap[w.heap.size+1]?=some (.loop {R .ready none with state:=.busy}):=fun jump W3 hk=>by
   have l3:=hk.same _ _ (by omega) l2 rfl;have he:=run_endRound (P:=P) jump l3;refine⟨?_,World.putObj_heap_same (Array.getElem?_eq_some_iff.1 l3).1,(putObj_heap_other (by omega)).trans (hk.same _ _ aj d2 rfl),l3⟩;rw[hR] at he⊢;exact he
  have leave:∀(c:Code) (W3:World),KeepsFrom w.heap.size (Wa.putObj (w.heap.size+1) (.loop {R .ready none with state:=.busy})) W3→Ix c (pre++[x]) W3→∃v w',(Instr.endRound (w.heap.size+1) (some c)).run P W3=.ok v w'∧
   (((Ending.returned v)=.returned (.bool true)∧(I (pre++[x]) w'∧w'.heap[w.heap.size+1]?=some (.loop (R .ready none))∧w'.heap[w.heap.size]?=some (.deferred (some [])))∧Kp W w')∨((Ending.returned v)=.returned (.bool false)∧(∃c,Ix c (pre++[x]) w'∧w'.heap[w.heap.size+1]?=some (.loop (R .done (some c)))∧w'.heap[w.heap.size]?=some (.deferred (some [])))∧KeepsFrom W1.heap.size W w')):=fun c W3 hk hx=>by
   obtain⟨r1,r2,r3,r4⟩:=fin (some c) W3 hk;refine⟨_,_,r1,.inr ⟨rfl,⟨c,put (hIx c) _ _ _ _ r4 rfl hx,r2,r3⟩,?_⟩⟩;exact((nr (B':=W1.heap.size) ka (by omega)).trans (sR Wa (by omega) _)).trans ((nr hk (by omega)).trans (sR W3 (by omega) _))
  rintro e a3 W3 hp;cases e with
  |normal=>
   obtain⟨k3,kp3,i3⟩:=hp;obtain⟨r1,r2,r3,r4⟩:=fin none W3 k3;exact⟨_,_,r1,.inl ⟨rfl,⟨put hI _ _ _ _ r4 rfl i3,r2,r3⟩,hKt (hKt (hKt kpa (hKb Wa _ _ la rfl)) kp3) (hKb W3 _ _ r4 rfl)⟩⟩
  |ret=>exact leave _ W3 hp.1 hp.2
  |exit id=>exact leave _ W3 hp.1 hp.2
  |goto t=>exact leave _ W3 hp.1 hp.2
  |panic ch=>exact hp.elim
  |outgrown=>exact hp.elim
 ·exact⟨h0 W1 hb1 hs1,hl1,hd1⟩
 ·rintro e W2 ⟨⟨v,rfl⟩,(⟨xs,hS,hi,hl,hk⟩|⟨pre,hSp,c,hi,hl,hk⟩)⟩
  ·have he:=run_endLoop (P:=P) hl (by rw[hR];simp);rw[hR] at he;exact⟨none,_,he,hdone xs _ hS (put hI _ _ _ _ hl rfl hi) ((putObj_heap_other (by omega)).trans hk)⟩
  ·have he:=run_endLoop (P:=P) hl (by rw[hR];simp);rw[hR] at he;exact⟨some c,_,he,hstop c pre _ hSp (put (hIx c) _ _ _ _ hl rfl hi) ((putObj_heap_other (by omega)).trans hk)⟩
structure Kq(n₀ z:Nat)(Ty:TypeId→Prop)(W W':World):Prop where
 below:Below n₀ W W'
 cells:∀(k:Nat) (cs:Array Value) (t:TypeId) (fr:Nat×Nat),W.heap[k]?=some (.cells cs t fr)→¬Ty t→W'.heap[k]?=some (.cells cs t fr)
 rest:∀(k:Nat) (o:Obj),z≤k→W.heap[k]?=some o→o.isCells=false→W'.heap[k]?=some o
 size:W.heap.size≤W'.heap.size
theorem Kq.trans{n₀ z:Nat}{Ty:TypeId→Prop}{A B C:World}(h:Kq n₀ z Ty A B)(k:Kq n₀ z Ty B C):Kq n₀ z Ty A C:=
 ⟨h.below.trans k.below,fun b cs t fr hb ht=>k.cells b cs t fr (h.cells b cs t fr hb ht) ht,fun b o hz hb hc=>k.rest b o hz (h.rest b o hz hb hc) hc,aN h.size k.size⟩
theorem Kq.refl(n₀ z:Nat)(Ty:TypeId→Prop)(W:World):Kq n₀ z Ty W W:=⟨ak,fun _ _ _ _ h _=>h,fun _ _ _ h _=>h,aj⟩
theorem Kq.bT{n₀ z:Nat}{Ty:TypeId→Prop}{W W':World}(h:Below W.heap.size W W')(hn:n₀≤W.heap.size):Kq n₀ z Ty W W':=
 ⟨h.mono hn,fun k _ _ _ hk _=>(h.block k (Array.getElem?_eq_some_iff.1 hk).1).trans hk,fun k _ _ hk _=>(h.block k (Array.getElem?_eq_some_iff.1 hk).1).trans hk,h.size⟩
theorem Kq.aW{n₀ z:Nat}{Ty:TypeId→Prop}{W W':World}{b:Nat}{C:Array Value}{t:TypeId}(h:Kq n₀ z Ty W W')(hb:af W b C t)(ht:¬Ty t):af W' b C t:=h.cells _ _ _ _ hb ht
theorem Kq.keeps{n₀ z:Nat}{Ty:TypeId→Prop}{W W':World}(h:Kq n₀ z Ty W W'){B:Nat}(hB:z≤B):KeepsFrom B W W':=⟨h.size,fun k o hk ho hc=>h.rest k o (aN hB hk) ho hc⟩
theorem Kq.ir{n₀ z:Nat}{Ty:TypeId→Prop}{W W':World}(h:Kq n₀ z Ty W W'):KeepsFrom z W W':=h.keeps aj
theorem Kq.put{n₀ z:Nat}{Ty:TypeId→Prop}{A:World}{l:Nat}{o:Obj}(o':Obj)(hl:n₀≤l)(hz:l<z)(ho:A.heap[l]?=some o)(hc:o.isCells=false):Kq n₀ z Ty A (A.putObj l o'):=by
 have hlt:l<A.heap.size:=(Array.getElem?_eq_some_iff.1 ho).1;refine⟨(Below.refl n₀ A).grown (grownBy_putObj' A _ o') (by omega) (fun k e=>by cases e;omega),fun k cs t fr hk ht=>?_,fun k x hk hx hxc=>(putObj_heap_other (by omega)).trans hx,(grownBy_putObj' A l o').size⟩;refine(putObj_heap_other (fun e=>?_)).trans hk;subst e;rw[ho] at hk;cases hk
 cases hc
theorem Kq.weak{n₀ z z':Nat}{Ty:TypeId→Prop}{W W':World}(h:Kq n₀ z Ty W W')(hz:z≤z'):Kq n₀ z' Ty W W':=⟨h.below,h.cells,fun k o hk=>h.rest k o (aN hz hk),h.size⟩
theorem yW(t:TL):bH ([],false) t=t:=by unfold bH;simp
theorem pS(a b c:TL):bH (bH a b) c=bH a (bH b c):=by
 unfold bH;cases ha:a.2 with
 |true=>simp[ha]
 |false=>
  cases hb:b.2 with
  |true=>simp[hb]
  |false=>simp[hb]
def fF(Z:TL)(A:List HG)(t:TL):Prop:=∃B,Z=bH (A,false) (bH t B)
theorem fF.bad{Z:TL}{A:List HG}{t:TL}(h:fF Z A t)(ht:t.2=true):Z=(A++t.1,true):=by
 obtain⟨B,rfl⟩:=h;unfold bH;simp[ht]
theorem fF.fst{Z:TL}{A:List HG}{t u:TL}(h:fF Z A (bH t u)):fF Z A t:=by
 obtain⟨B,rfl⟩:=h;exact⟨bH u B,by rw[pS]⟩
theorem fF.snd{Z:TL}{A:List HG}{t u:TL}(h:fF Z A (bH t u))(ht:t.2=false):fF Z (A++t.1) u:=by
 obtain⟨B,rfl⟩:=h;refine⟨B,?_⟩;rw[pS t u B];unfold bH;simp[ht]
theorem fF.pre{Z:TL}{A:List HG}{t:TL}(h:fF Z A t):A++t.1<+:Z.1:=by
 obtain⟨B,rfl⟩:=h;unfold bH;cases ht:t.2 with
 |true=>simp[ht]
 |false=>simp[ht]
theorem fF.all(Z:TL):fF Z [] Z:=⟨([],false),by
 obtain⟨L,b⟩:=Z;cases b<;>simp[bH]⟩
abbrev TX:=HG×Value
def TX.enc(x:TX):Array Value:=#[.agg #[.int .i64 (x.1.1:Int),.int .i64 (x.1.2.1:Int),.int .i64 x.1.2.2],x.2]
def aM(L:List HG):List TX:=L.map (fun h=>(h,.nilIface))
theorem nt(L:List HG)(h:HG):aM (L++[h])=aM L++[(h,.nilIface)]:=by unfold aM;simp
def iQ(Z:TL)(pre:List TX)(x:TX)(W:World):Prop:=
 (x.2=.nilIface∧∃A,pre=aM A∧A++[x.1]<+:Z.1)∨(x.1=(0,0,0)∧∃A,pre=aM A∧Z=(A,true)∧∃n,bj W 0 n x.2 21)
theorem iR:(prog.info? 5).map (fun i=>(i.zero,i.size,i.bytes))=some (some (.int .u8 0),1,1):=by kernel_rfl
def le:Nat→Nat→List Int
 |0,_=>[]
 |m+1,n=>((n%256:Nat):Int)::le m (n/256)
theorem ld:∀m n,(le m n).length=m
 |0,_=>rfl
 |m+1,n=>by simp[le,ld m]
theorem le_step(ys:List Int)(m j q:Nat)(h:j<m):ys++le (m-j) q=ys++[((q%256:Nat):Int)]++le (m-(j+1)) (q/256):=by
 have e:m-j=(m-(j+1))+1:=by omega
 rw[e,le];simp
theorem sS(z:Int):∀u∈[Value.int .u8 z],u.oneCell'=true:=by
 intro u hu;rw[List.mem_singleton] at hu;subst hu;rfl
theorem yX(w:World):Calls prog 124 #[.int .u64 4294967295] w fun e w'=>e=.returned (.int .i64 32)∧w=w':=by
 go_enter func124,ntmps124;go_wp2;go_ret;exact⟨fK (by simp only[wrap64];decide+kernel),rfl⟩
theorem yY(w:World):Calls prog 123 #[] w fun e w'=>e=.returned (.int .i64 4)∧w=w':=by
 have hx:IntKind.u64.wrap (bits BinOp.xor IntKind.u32 IntKind.u32.max 0)=4294967295:=by decide+kernel
 go_enter func123,ntmps123;go_wp2_with fail;refine(yX _).mono ?_;rintro e w' ⟨rfl,rfl⟩;go_wp2;go_ret;exact⟨rfl,rfl⟩
theorem yZ(g base k cap n:Nat)(xs:List Value)(w:World)(h:w.ownsRow base 5 1 (.slice (some ⟨g,0,none⟩) k cap) k xs)(hr:k+4≤cap)(_hcap:cap≤140737488355328)(hn:n<4294967296):
 Calls prog 117 #[.slice (some ⟨g,0,none⟩) k cap,.int .u32 n] w fun e w'=>e=.returned (.slice (some ⟨g,0,none⟩) (k+4) cap)∧w'.ownsRow base 5 1 (.slice (some ⟨g,0,none⟩) (k+4) cap) (k+4) (xs++(le 4 n).map (Value.int .u8))∧w.grownBy w' (some g):=by
 obtain⟨i0,hi,hz0,hz1,hz2⟩:=info_parts iR;have hgl:=h.lt g rfl;go_enter func117,ntmps117;go_wp2_with (go_at_call 123;refine(yY _).mono ?_;rintro e w' ⟨rfl,rfl⟩);go_loopw [0,5,9] (fun v r i wr=>∃(j q:Nat) (ys:List Int),j≤4∧i=.int .i64 j∧r=.int .u64 q∧q<281474976710656∧v=.slice (some ⟨g,0,none⟩) (k+j) cap∧le 4 n=ys++le (4-j) q∧wr.ownsRow base 5 1 (.slice (some ⟨g,0,none⟩) (k+j) cap) (k+j) (xs++ys.map (Value.int .u8))∧w.grownBy wr (some g)) (fun _ _ i _=>4-(intOf i).toNat)
 case atStart=>exact⟨0,n,[],by omega,rfl,by go_num,by omega,rfl,rfl,by simpa using h,World.grownBy.refl _ _⟩
 case round=>
  clear h;obtain⟨j,q,ys,hj,rfl,rfl,hq,rfl,hle,hown,hgr⟩:=hrel;have HL:Hid (le 4 n=ys++le (4-j) q):=hle;have hsz:=hgr.size;clear hle;by_cases hlt:j<4
  ·go_wp2_with (at_builtin;refine wpList_append_fits _ rfl _ _ 22 rfl base 5 i0 1 underlying22 hi hz1 g (k+j) cap _ rfl (hown.alloc _) ⟨wr.heap.size,0,none⟩ 1 1 [.int .u8 ((q:Int)%256)] rfl rfl (cell_one_new _ _ _) (sS _) (by omega) ?_;intro w1 hown1 hgr1);have HW:Hid (w1.ownsRow base 5 1 (.slice (some ⟨g,0,none⟩) (k+(j+1)) cap) (k+(j+1)) (xs++(ys++[((q%256:Nat):Int)]).map (Value.int .u8))∧w.grownBy w1 (some g)):=by
    refine⟨?_,l5 hgr (l5 (World.grownBy_alloc _ _ _) hgr1)⟩;have e:xs++(ys++[((q%256:Nat):Int)]).map (Value.int .u8)=xs++ys.map (Value.int .u8)++[.int .u8 ((q:Int)%256)]:=(by simp);rw[e];exact hown1
   clear hown hown1 hgr hgr1;go_wp2;go_roundw
   case rel=>exact⟨j+1,q/256,ys++[((q%256:Nat):Int)],by omega,by go_num,by go_num,by omega,rfl,by rw[HL.out];exact le_step ys 4 j q hlt,HW.out.1,HW.out.2⟩
   case measure=>simp[intOf];omega
  ·go_wp2;go_ret;have e:j=4:=(by omega);subst e;have h:=HL.out;rw[Nat.sub_self,le,List.append_nil] at h;rw[h];exact⟨rfl,hown,hgr⟩
structure mb(w0 w:World)(b lo:Nat)(ok:Bool)(dv:Value)(zs:List Int)(pos:Nat):Prop where
 ck:Ck w b lo 21 ok
 data:w.cell? ⟨b,2,none⟩=some dv
 at_:w.cell? ⟨b,3,none⟩=some (.int .i64 pos)
 fr:w.frozen? ⟨b,3,none⟩=false
 old:Below b w0 w
 size:w0.heap.size=b
 rd:Rd .u8 w0 dv zs
 le:pos≤zs.length
 lo1:b<lo
 lo2:lo≤w.heap.size
theorem mb.read{w0 w:World}{b lo:Nat}{ok:Bool}{dv:Value}{zs:List Int}{pos:Nat}(h:mb w0 w b lo ok dv zs pos):Rd .u8 w dv zs:=
 h.rd.below (by rw[h.size];exact h.old)
theorem mb.cQ{w0 w w':World}{b lo:Nat}{ok ok':Bool}{dv:Value}{zs:List Int}{pos:Nat}(h:mb w0 w b lo ok dv zs pos)(hc:Ck w' b lo 21 ok')(ht:dU b w w'):mb w0 w' b lo ok' dv zs pos:=
 ⟨hc,(ht.2.1 2 (by omega)).trans h.data,(ht.2.1 3 (by omega)).trans h.at_,(ht.2.2 3).trans h.fr,ht.under h.old aj (Nat.le_of_lt h.ck.lt),h.size,h.rd,h.le,h.lo1,aN h.lo2 ht.1.size⟩
def dJ:List Int→Nat
 |[]=>0
 |z::zs=>z.toNat+256*dJ zs
theorem y5(zs:List Int)(h:∀z∈zs,0≤z∧z<256):dJ zs<256^zs.length:=by
 induction zs with
 |nil=>simp[dJ]
 |cons y ys ih=>
  have h1:=h y (by simp);have h2:=ih (fun z hz=>h z (by simp[hz]));rw[dJ,List.length_cons,Nat.pow_succ];have:y.toNat<256:=by omega
  have h3:dJ ys+1≤256^ys.length:=h2;have:=Nat.mul_le_mul_left 256 h3;omega
theorem pT(w:World)(e:TypeId):(w.alloc (.cells #[] e)).ownsRow w.heap.size e 1 (.slice (some ⟨w.heap.size,0,none⟩) 0 0) 0 []:=by
 have h:=World.ownsRow_lit (base:=w.heap.size) (e:=e) (size:=1) w #[] 0 aj (by simp) rfl;simpa using h
theorem y7(v n:Nat)(w:World)(hv:v<281474976710656)(hn:n≤8):
 Calls prog 40 #[.int .i64 v,.int .i64 n] w fun e w'=>∃v',e=.returned v'∧w'.ownsRow w.heap.size 5 1 v' n ((le n v).map (Value.int .u8))∧Below w.heap.size w w':=by
 obtain⟨i0,hi,hz0,hz1,hz2⟩:=info_parts iR;have h0:=pT w 5;have hb0:Below w.heap.size w (w.alloc (.cells #[] 5)):=ak.alloc aj _;go_enter func40,ntmps40;go_wp2;go_loopw [0,5,6] (fun x o i wr=>∃(j q:Nat) (ys:List Int),j≤n∧i=.int .i64 j∧x=.int .i64 q∧q<281474976710656∧le n v=ys++le (n-j) q∧wr.ownsRow w.heap.size 5 1 o j (ys.map (Value.int .u8))∧Below w.heap.size w wr) (fun _ _ i _=>n-(intOf i).toNat)
 case atStart=>exact⟨0,v,[],Nat.zero_le _,rfl,rfl,hv,rfl,by simpa using h0,hb0⟩
 case round=>
  clear h0 hb0;obtain⟨j,q,ys,hj,rfl,rfl,hq,hle,hown,hb⟩:=hrel;have HL:Hid (le n v=ys++le (n-j) q):=hle;clear hle;have hsz:=hb.size;by_cases hlt:j<n
  ·go_wp2_with (at_builtin;refine wpList_append_own _ rfl _ _ 22 rfl w.heap.size 5 i0 (.int .u8 0) 1 1 underlying22 hi hz0 hz1 hz2 rfl (by decide) _ _ _ rfl (hown.alloc _) ⟨wr.heap.size,0,none⟩ 1 1 [.int .u8 ((q:Int)%256)] rfl rfl (cell_one_new _ _ _) (sS _) (by unfold maxLen;omega) (by omega) (by simp;omega) ?_;intro v1 w1 hown1 hgr1 _);have HW:Hid (w1.ownsRow w.heap.size 5 1 v1 (j+1) ((ys++[((q%256:Nat):Int)]).map (Value.int .u8))∧Below w.heap.size w w1):=by
    refine⟨?_,(hb.alloc hsz _).grown hgr1 (by simp;omega) (fun k h=>(hown.lt k h).1)⟩;have e:(ys++[((q%256:Nat):Int)]).map (Value.int .u8)=ys.map (Value.int .u8)++[.int .u8 ((q:Int)%256)]:=(by simp);rw[e];exact hown1
   clear hown hown1 hgr1 hb;go_roundw
   case rel=>exact⟨j+1,q/256,ys++[((q%256:Nat):Int)],by omega,by go_num,by go_num,by omega,by rw[HL.out];exact le_step ys n j q hlt,HW.out.1,HW.out.2⟩
   case measure=>simp[intOf];omega
  ·go_wp2;go_ret;have e:j=n:=(by omega);subst e;have h:=HL.out;rw[Nat.sub_self,le,List.append_nil] at h;rw[h];exact⟨_,rfl,hown,hb⟩
theorem zb(v n:Nat)(w:World)(hv:v<281474976710656)(hn:n≤8)(h0:0<n):
 Calls prog 40 #[.int .i64 v,.int .i64 n] w fun e w'=>∃g cp,e=.returned (.slice (some ⟨g,0,none⟩) n cp)∧w'.ownsRow w.heap.size 5 1 (.slice (some ⟨g,0,none⟩) n cp) n ((le n v).map (Value.int .u8))∧Below w.heap.size w w':=by
 refine(y7 v n w hv hn).mono ?_;rintro e w' ⟨v',rfl,ho,hb⟩;rcases ho.2 with⟨rfl,hn0⟩|⟨g,cap,cur,rfl,_⟩
 ·omega
 ·exact⟨g,cap,rfl,ho,hb⟩
def jP(ts:List Int):Nat:=if 70368744177664≤dJ ts/256 then 4611686018427387904 else dJ ts
theorem pU(ts:List Int)(j:Nat)(h:j<ts.length):dJ (ts.drop j)=(ts.getD j 0).toNat+256*dJ (ts.drop (j+1)):=by
 rw[List.drop_eq_getElem_cons h,dJ];simp[List.getD,h]
theorem sU(ts:List Int):∀j,1≤j→j≤ts.length→256*dJ (ts.drop j)≤dJ ts
 |0,h,_=>by omega
 |1,_,h2=>by
  have h:=pU ts 0 (by omega);rw[List.drop_zero,Nat.zero_add] at h;rw[h];omega
 |j+2,_,h2=>by
  have h:=pU ts (j+1) (by omega);have ih:=sU ts (j+1) (by omega) (by omega);have e:j+1+1=j+2:=rfl;rw[e] at h;omega
theorem zc(ts:List Int)(j:Nat)(h1:1≤j)(h2:j≤ts.length)(h:70368744177664≤dJ (ts.drop j)):jP ts=4611686018427387904:=by
 have:=sU ts j h1 h2;unfold jP;rw[if_pos (by omega)]
theorem pV(ts:List Int)(h:dJ ts<18014398509481984):jP ts=dJ ts:=by
 unfold jP;rw[if_neg (by omega)]
theorem sV(v:Value)(ts:List Int)(w:World)(h:Rd .u8 w v ts)(hl:ts.length≤8)(hbd:∀z∈ts,0≤z∧z<256):
 Calls prog 35 #[v] w fun e w'=>e=.returned (.int .i64 (jP ts))∧w=w':=by
 have HB:=aa hbd;clear hbd;rcases h.parts with⟨a,cap,rfl,hlow⟩|⟨b,off,cap,rfl,hbw,hcell⟩;all_goals
  clear h;go_enter func35,ntmps35;go_wp2;go_loop [3,4] (fun x i=>∃j q:Nat,j≤ts.length∧i=.int .i64 ((j:Int)-1)∧x=.int .i64 q∧q=dJ (ts.drop j)∧q<18014398509481984) (fun _ i=>(intOf i+1).toNat)
  case atStart=>exact⟨ts.length,0,by omega,rfl,rfl,by simp[dJ],by omega⟩
  case round=>
   obtain⟨j,q,hj,rfl,rfl,hq,hql⟩:=hrel;have HQ:=aa hq;have HQL:=aa hql;clear hq hql;by_cases hlt:1≤j
   ·obtain⟨i,rfl⟩:∃i,j=i+1:=⟨j-1,by omega⟩;by_cases hbig:(70368744177664:Int)≤(q:Int)
    ·first
     |(exfalso;omega)
     |(
      have HG:=aa (zc ts (i+1) hlt hj (by rw[←HQ.out];omega));clear hcell;have e1:(((i+1:Nat):Int)-1)=(i:Int):=(by omega);rw[e1];clear e1;go_wp2;go_ret;exact⟨fK (by rw[HG.out];rfl),rfl⟩)
    ·first
     |(exfalso;omega)
     |(
      have e1:(((i+1:Nat):Int)-1)=(i:Int):=(by omega);rw[e1];have c1:=hcell i (by omega);have hz1:=HB.out (ts.getD i 0) (by simp[List.getD,show i<ts.length by omega]);have HT:=aa (pU ts i (by omega));clear hcell e1;generalize ts.getD i 0=z at c1 HT hz1;obtain⟨c,rfl⟩:=Int.eq_ofNat_of_zero_le hz1.1;obtain⟨_,hc2⟩:=hz1;have hc:c<256:=(by omega);clear hc2;rw[Int.toNat_natCast] at HT;go_wp2;go_round
      case rel=>exact⟨i,c+256*q,by omega,by go_num,by go_num,by rw[HT.out,HQ.out],by omega⟩
      case measure=>first|(simp[intOf];done)|(simp[intOf];omega))
   ·have hj0:j=0:=(by omega);subst hj0;have HG:=ae (jP ts=q) (by
     have h1:=HQ.out;rw[List.drop_zero] at h1;have h2:=HQL.out;rw[pV ts (by omega), ←h1])
    go_wp2;go_ret;exact⟨fK (by rw[HG.out]),rfl⟩
end
end Go.Proofs.YtlimollpocagiaaGreatDoor
