/- The bytes of a tree, mathematics: data blocks copied into zeros, and the model's blocks in -/
import Derived.Test.YtpplnhkpcpieoaaGreatDoorZx02
import Derived.RangeFuncNested
import Derived.RangeFuncBound
import Derived.RangeFuncCalls
import Derived.RangeFuncLeaves
import Derived.WalkSpells
import Derived.Deep.RegionWith
namespace Go.Proofs.YtpplnhkpcpieoaaGreatDoor
open Go.Proofs.Tryz
open _root_.List (foldl_cons replicate range flatMap_cons flatMap_nil append_nil take_of_length_le getD)
open World (putObj_heap_other grownBy_alloc)
open _root_.Nat (zero_le sub_self)
set_option linter.all false
set_option maxRecDepth 100000
set_option maxHeartbeats 16000000
section
def jU(out:List Int)(o:Nat)(B:List Int):List Int:=out.take o++B.take (out.length-o)++out.drop (o+min B.length (out.length-o))
theorem DO(out:List Int)(o:Nat)(B:List Int)(h:o≤out.length):(jU out o B).length=out.length:=by
 unfold jU;simp only[List.length_append,List.length_take,List.length_drop];omega
def gD(blk:Int→List Int)(out:List Int)(h:HG):List Int:=if h.1=0 then jU out (h.2.1*512) (blk h.2.2) else out
section
variable {cnt:Nat} {W:Int→Nat→Int} {D:Nat→Int} {S X:Int} {blk:Int→List Int}
theorem DP(L:List HG)(out:List Int):L.foldl (gD blk) out=(L.filter (fun h=>h.1==0)).foldl (gD blk) out:=by
 induction L generalizing out with
 |nil=>rfl
 |cons a L ih=>
  rw[List.filter_cons];by_cases h:a.1=0
  ·rw[if_pos (by simp[h]),foldl_cons,foldl_cons];exact ih _
  ·rw[if_neg (by simp[h]),foldl_cons, ←ih];congr 1;unfold gD;rw[if_neg h]
def kN(blk:Int→List Int)(W:Int→Nat→Int)(D:Nat→Int)(S X:Int)(i:Nat):List Int:=if cO W D S X i=0 then replicate 512 0 else blk (cO W D S X i)
theorem xw{g:Nat→List Int}(h:∀i,(g i).length=512):∀r:Nat,((range r).flatMap g).length=r*512
 |0=>rfl
 |r+1=>by rw[mW r 1,List.length_append,xw h r,show range 1=[0] from rfl,flatMap_cons,flatMap_nil,append_nil,h];omega
theorem DQ(g:Nat→List Int)(r:Nat):(range (r+1)).flatMap g=(range r).flatMap g++g r:=by rw[mW r 1,show range 1=[0] from rfl,flatMap_cons,flatMap_nil,append_nil];rfl
theorem xx(hb:∀p,(blk p).length=512)(size:Nat):∀r:Nat,(r=0∨(r-1)*512<size)→
 ((range r).flatMap fun r=>if cO W D S X r=0 then [] else [((0:Nat),r,cO W D S X r)]).foldl (gD blk) (replicate size 0)=(((range r).flatMap (kN blk W D S X)).take size)++replicate (size-r*512) 0
 |0,_=>by simp
 |r+1,h=>by
  have hr:r*512<size:=by
   rcases h with h|h;· cases h
   ·simpa using h
  have hl:∀i,(kN blk W D S X i).length=512:=fun i=>by
   unfold kN;split;· exact List.length_replicate ..
   ·exact hb _
  rw[mW r 1,show range 1=[0] from rfl,flatMap_cons,flatMap_nil,append_nil,List.foldl_append,xx hb size r (by omega),DQ];have hM:=xw hl r;obtain⟨M,hMe⟩:∃M,M=(range r).flatMap (kN blk W D S X):=⟨_,rfl⟩;rw[←hMe] at hM⊢;rw[take_of_length_le (by omega),List.take_append,take_of_length_le (l:=M) (by omega),hM,Nat.add_zero];by_cases h0:cO W D S X r=0
  ·rw[if_pos h0,List.foldl_nil];have e:kN blk W D S X r=replicate 512 0:=(by unfold kN;rw[if_pos h0]);rw[e,List.take_replicate,List.append_assoc,List.replicate_append_replicate];refine congrArg (M++·) (congrArg (replicate · 0) (by omega))
  ·rw[if_neg h0,foldl_cons,List.foldl_nil];have e:kN blk W D S X r=blk (cO W D S X r):=(by unfold kN;rw[if_neg h0]);rw[e];unfold gD;rw[if_pos rfl];unfold jU;simp only[List.length_append,hM,List.length_replicate,hb];rw[show r*512+(size-r*512)-r*512=size-r*512 by omega,List.take_left' hM];congr 1;rw[List.drop_append,hM,List.drop_eq_nil_of_le (by omega),List.nil_append,List.drop_replicate];exact congrArg (replicate · 0) (by omega)
theorem DR(hb:∀p,(blk p).length=512)(hc:cnt≤512)(size:Nat)(h1:size≤cnt*512)(h2:cnt=0∨(cnt-1)*512<size):(iz cnt W D S X).foldl (gD blk) (replicate size 0)=((range cnt).flatMap (kN blk W D S X)).take size:=by
 rw[DP,th hc];unfold nM;rw[xx hb size cnt h2,show size-cnt*512=0 by omega];simp
end
end
section
open Go.RowKit
def qC(n₀:Nat)(T:Nat→Prop)(A B:World):Prop:=Below n₀ A B∧∀r,T r→B.heap[r]?=A.heap[r]?
theorem qC.trans{n₀:Nat}{T:Nat→Prop}{A B C:World}(h:qC n₀ T A B)(k:qC n₀ T B C):qC n₀ T A C:=⟨h.1.trans k.1,fun r hr=>(k.2 r hr).trans (h.2 r hr)⟩
def iL{β:Type}(z:Nat)(J:β→World→Prop):Prop:=∀s A B row,J s A→A.grownBy B row→(∀r,row=some r→z≤r∧∃o,A.heap[r]?=some o∧o.isCells=false)→J s B
def qD{α:Type}(F:Fence)(n:Nat)(P:Program)(g:Nat)(lb:Array Value)(encs:α→Array Value)(Kp:World→World→Prop)(Ok:List α→α→World→Prop)(S Sp:List α→Prop)(W:World):Prop:=
 ∀(l:Nat) (J Jx:List α→World→Prop),iL W.heap.size J→iL W.heap.size Jx→
  (∀pre x W1,J pre W1→Ok pre x W1→YieldAt F (n-1) P l (encs x) W1 fun e W'=>(e=.returned (.bool true)∧J (pre++[x]) W'∧Kp W1 W')∨(e=.returned (.bool false)∧Jx (pre++[x]) W'∧KeepsFrom W.heap.size W1 W'))→
  J [] W→
  CallsIn F n P g (#[.func (.yield l) #[] #[]]++lb) W fun e W'=>(∃v,e=.returned v)∧((∃xs,S xs∧J xs W')∨(∃pre,Sp pre∧Jx pre W'))
theorem qE{B B':Nat}{A C:World}(h:KeepsFrom B A C)(hB:B≤B'):KeepsFrom B' A C:=⟨h.size,fun b o hb ho hc=>h.same b o (aK hB hb) ho hc⟩
theorem xy{B l:Nat}(A:World)(hl:l<B)(o:Obj):KeepsFrom B A (A.putObj l o):=⟨(grownBy_putObj' A l o).size,fun b x hb ho _=>(putObj_heap_other (by omega)).trans ho⟩
theorem mj{α:Type}{F:Fence}{n:Nat}{P:Program}{g:Operand}{ps:Array Tmp}{assign body:Code}{Q:Exit→Act→World→Prop}{a:Act}{w:World}
 (hro:F.round=none) (h1:1≤n) {gf:Nat} {lb:Array Value} (hg:a.eval g=.func (.func gf) #[] lb) (hFg:F.fn gf) (eg:∀args w,(callFunc gf args).run P w=.ok (.enter gf args) w)
 {encs:α→Array Value} {Kp:World→World→Prop} (hKt:∀{A B C},Kp A B→Kp B C→Kp A C) (hKb:∀A o o',A.heap[w.heap.size+1]?=some o→o.isCells=false→Kp A (A.putObj (w.heap.size+1) o'))
 {Ok:List α→α→World→Prop} {S Sp:List α→Prop}
 (hseq:∀W1,Below w.heap.size w W1→W1.heap.size=w.heap.size+2→qD F (n-1) P gf lb encs Kp Ok S Sp W1)
 (hps:∀x,(encs x).size=ps.size)
 (I:List α→World→Prop) (Ix:Code→List α→World→Prop) (hI:iL (w.heap.size+1) I) (hIx:∀c,iL (w.heap.size+1) (Ix c))
 (h0:∀W',Below w.heap.size w W'→W'.heap.size=w.heap.size+2→I [] W')
 (Ax:List α→α→Act→World→Prop) (hAx:∀pre x a' A B,Ax pre x a' A→A.grownBy B (some (w.heap.size+1))→(∃o,A.heap[w.heap.size+1]?=some o∧o.isCells=false)→Ax pre x a' B)
 (hassign:∀(l:Nat) (pre:List α) (x:α) (W:World) (K:Act→World→Prop),I pre W→Ok pre x W→(∀a' W',KeepsFrom w.heap.size W W'→Kp W W'→Ax pre x a' W'→K a' W')→assign.wpIn (F.inRound l) (n-1-1) P (Exit.then K (fun _ _ _=>False)) {tmps:=(ps.zip (encs x)).foldl (fun t (p,v)=>t.setIfInBounds p v) a.tmps,defers:=[]} W)
 (hbody:∀(l:Nat) (pre:List α) (x:α) (a':Act) (W:World),Ax pre x a' W→body.wpIn (F.inRound l) (n-1-1) P (ownPostG w.heap.size Kp I Ix (pre++[x]) W) a' W)
 (hdone:∀(xs:List α) (W:World),S xs→I xs W→W.heap[w.heap.size]?=some (.deferred (some []))→Q .normal {a with defers:={target:=.collected w.heap.size,args:=#[]}::a.defers} W)
 (hstop:∀(c:Code) (pre:List α) (W:World),Sp pre→Ix c pre W→W.heap[w.heap.size]?=some (.deferred (some []))→c.wpIn F n P Q {a with defers:={target:=.collected w.heap.size,args:=#[]}::a.defers} W):
 (Code.rangeFunc g ps assign body).wpIn F n P Q a w:=by
 refine wpIn_rangeFunc fun fn hfn=>?_;rw[hro];obtain⟨R,hR⟩:∃R:LoopState→Option Code→Loop,R=fun st pe=>{state:=st,pending:=pe,fn,tmps:=a.tmps,params:=ps,assign,body,defers:=w.heap.size}:=⟨_,rfl⟩;obtain⟨W1,hW1⟩:∃W1,W1=(w.alloc (.deferred (some []))).alloc (.loop (R .ready none)):=⟨_,rfl⟩;have hs1:W1.heap.size=w.heap.size+2:=by rw[hW1];simp
 have hb1:Below w.heap.size w W1:=by rw[hW1];exact((Below.refl _ w).alloc aj _).alloc (by simp) _
 have hl1:W1.heap[w.heap.size+1]?=some (.loop (R .ready none)):=by
  rw[hW1];have:=World.alloc_heap_new (w.alloc (.deferred (some []))) (.loop (R .ready none));rwa [World.size_alloc] at this
 have hd1:W1.heap[w.heap.size]?=some (.deferred (some [])):=by
  rw[hW1];exact(Below.heap_alloc _ _ _ (by simp)).trans (World.alloc_heap_new w _)
 have put:∀{J:List α→World→Prop},iL (w.heap.size+1) J→∀s A o o',A.heap[w.heap.size+1]?=some o→o.isCells=false→J s A→J s (A.putObj (w.heap.size+1) o'):=fun hJ s A o o' ho hc h=>hJ s A _ (some (w.heap.size+1)) h (grownBy_putObj' _ _ _) (fun r e=>by cases e;exact⟨aj,o,ho,hc⟩);have kept:∀{A B:World} {row:Option Nat} {k:Nat} {o:Obj},A.grownBy B row→(∀r,row=some r→W1.heap.size≤r∧∃o,A.heap[r]?=some o∧o.isCells=false)→k<w.heap.size+2→A.heap[k]?=some o→B.heap[k]?=some o:=fun {A B row k o} hgr hr hk ho=>
  (hgr.block k (Array.getElem?_eq_some_iff.1 ho).1 (fun e=>by have:=(hr k e.symm).1;omega)).trans ho
 have more:∀{A:World} {row:Option Nat},(∀r,row=some r→W1.heap.size≤r∧∃o,A.heap[r]?=some o∧o.isCells=false)→∀r,row=some r→w.heap.size+1≤r∧∃o,A.heap[r]?=some o∧o.isCells=false:=fun hr r e=>⟨by have:=(hr r e).1;omega,(hr r e).2⟩;refine⟨w.heap.size+1,[{target:=.collected w.heap.size,args:=#[]}],W1,{target:=.fn (.func gf) lb,args:=#[.func (.yield (w.heap.size+1)) #[] #[]]},W1,gf,#[.func (.yield (w.heap.size+1)) #[] #[]]++lb,W1,?_,?_,?_,?_,fun _=>h1,?_⟩
 ·rw[hW1,hR];exact run_enterLoop_outer _ _ _ _ _
 ·simp only[resolve,hg];simp[go_sem]
 ·intro f' hf';simp[Target.leads] at hf';subst hf';exact hFg
 ·simp[invoke,go_sem,eg]
 refine(hseq W1 hb1 hs1 (w.heap.size+1) (fun pre W=>I pre W∧W.heap[w.heap.size+1]?=some (.loop (R .ready none))∧W.heap[w.heap.size]?=some (.deferred (some [])))
  (fun pre W=>∃c,Ix c pre W∧W.heap[w.heap.size+1]?=some (.loop (R .done (some c)))∧W.heap[w.heap.size]?=some (.deferred (some []))) ?_ ?_ ?_ ?_).mono ?_
 ·rintro s A B row ⟨x1,x2,x3⟩ hgr hr;exact⟨hI s A B row x1 hgr (more hr),kept hgr hr (by omega) x2,kept hgr hr (by omega) x3⟩
 ·rintro s A B row ⟨c,x1,x2,x3⟩ hgr hr;exact⟨c,hIx c s A B row x1 hgr (more hr),kept hgr hr (by omega) x2,kept hgr hr (by omega) x3⟩
 ·rintro pre x W ⟨i1,l1,d1⟩ hok;have hy:=run_yield (P:=P) (args:=encs x) l1 (by rw[hR];exact hps x);rw[hR] at hy;refine⟨fn,_,assign,body,hy,roundIn_of_wpIn hfn (hassign _ pre x W _ i1 hok ?_)⟩;clear hy;intro a' Wa ka kpa ax;have la:=ka.same _ _ (by omega) l1 rfl;have da:=ka.same _ _ aj d1 rfl;have hlt:w.heap.size+1<Wa.heap.size:=(Array.getElem?_eq_some_iff.1 la).1;refine⟨_,run_beginRound la (by rw[hR]),?_⟩;have l2:(Wa.putObj (w.heap.size+1) (.loop {R .ready none with state:=.busy})).heap[w.heap.size+1]?=some (.loop {R .ready none with state:=.busy}):=World.putObj_heap_same hlt;have d2:(Wa.putObj (w.heap.size+1) (.loop {R .ready none with state:=.busy})).heap[w.heap.size]?=some (.deferred (some [])):=(putObj_heap_other (by omega)).trans da;refine wpIn_mono (hbody _ pre x a' _ (hAx _ _ _ _ _ ax (grownBy_putObj' _ _ _) ⟨_,la,rfl⟩)) ?_;have fin:∀(jump:Option Code) (W3:World),KeepsFrom w.heap.size (Wa.putObj (w.heap.size+1) (.loop {R .ready none with state:=.busy})) W3→
   (Instr.endRound (w.heap.size+1) jump).run P W3=.ok (.bool jump.isNone) (W3.putObj (w.heap.size+1) (.loop (R (if jump.isNone then .ready else .done) jump)))∧
   (W3.putObj (w.heap.size+1) (.loop (R (if jump.isNone then .ready else .done) jump))).heap[w.heap.size+1]?=some (.loop (R (if jump.isNone then .ready else .done) jump))∧
   (W3.putObj (w.heap.size+1) (.loop (R (if jump.isNone then .ready else .done) jump))).heap[w.heap.size]?=some (.deferred (some []))∧W3.heap[w.heap.size+1]?=some (.loop {R .ready none with state:=.busy}):=fun jump W3 hk=>by
   have l3:=hk.same _ _ (by omega) l2 rfl;have he:=run_endRound (P:=P) jump l3;refine⟨?_,World.putObj_heap_same (Array.getElem?_eq_some_iff.1 l3).1,(putObj_heap_other (by omega)).trans (hk.same _ _ aj d2 rfl),l3⟩;rw[hR] at he⊢;exact he
  have leave:∀(c:Code) (W3:World),KeepsFrom w.heap.size (Wa.putObj (w.heap.size+1) (.loop {R .ready none with state:=.busy})) W3→Ix c (pre++[x]) W3→∃v w',(Instr.endRound (w.heap.size+1) (some c)).run P W3=.ok v w'∧
   (((Ending.returned v)=.returned (.bool true)∧(I (pre++[x]) w'∧w'.heap[w.heap.size+1]?=some (.loop (R .ready none))∧w'.heap[w.heap.size]?=some (.deferred (some [])))∧Kp W w')∨((Ending.returned v)=.returned (.bool false)∧(∃c,Ix c (pre++[x]) w'∧w'.heap[w.heap.size+1]?=some (.loop (R .done (some c)))∧w'.heap[w.heap.size]?=some (.deferred (some [])))∧KeepsFrom W1.heap.size W w')):=fun c W3 hk hx=>by
   obtain⟨r1,r2,r3,r4⟩:=fin (some c) W3 hk;refine⟨_,_,r1,.inr ⟨rfl,⟨c,put (hIx c) _ _ _ _ r4 rfl hx,r2,r3⟩,?_⟩⟩;exact((qE (B':=W1.heap.size) ka (by omega)).trans (xy Wa (by omega) _)).trans ((qE hk (by omega)).trans (xy W3 (by omega) _))
  rintro e a3 W3 hp;cases e with
  |normal=>
   obtain⟨k3,kp3,i3⟩:=hp;obtain⟨r1,r2,r3,r4⟩:=fin none W3 k3;exact⟨_,_,r1,.inl ⟨rfl,⟨put hI _ _ _ _ r4 rfl i3,r2,r3⟩,hKt (hKt (hKt kpa (hKb Wa _ _ la rfl)) kp3) (hKb W3 _ _ r4 rfl)⟩⟩
  |ret=>exact leave _ W3 hp.1 hp.2
  |exit id=>exact leave _ W3 hp.1 hp.2
  |goto t=>exact leave _ W3 hp.1 hp.2
  |panic ch=>exact hp.elim
  |outgrown=>exact hp.elim
 ·exact⟨h0 W1 hb1 hs1,hl1,hd1⟩
 ·rintro e W2 ⟨⟨v,rfl⟩,(⟨xs,hS,hi,hl,hk⟩|⟨pre,hSp,c,hi,hl,hk⟩)⟩
  ·have he:=run_endLoop (P:=P) hl (by rw[hR];simp);rw[hR] at he;exact⟨none,_,he,hdone xs _ hS (put hI _ _ _ _ hl rfl hi) ((putObj_heap_other (by omega)).trans hk)⟩
  ·have he:=run_endLoop (P:=P) hl (by rw[hR];simp);rw[hR] at he;exact⟨some c,_,he,hstop c pre _ hSp (put (hIx c) _ _ _ _ hl rfl hi) ((putObj_heap_other (by omega)).trans hk)⟩
structure Kq(n₀ z:Nat)(Ty:TypeId→Prop)(W W':World):Prop where
 below:Below n₀ W W'
 cells:∀(k:Nat) (cs:Array Value) (t:TypeId) (fr:Nat×Nat),W.heap[k]?=some (.cells cs t fr)→¬Ty t→W'.heap[k]?=some (.cells cs t fr)
 rest:∀(k:Nat) (o:Obj),z≤k→W.heap[k]?=some o→o.isCells=false→W'.heap[k]?=some o
 size:W.heap.size≤W'.heap.size
theorem Kq.trans{n₀ z:Nat}{Ty:TypeId→Prop}{A B C:World}(h:Kq n₀ z Ty A B)(k:Kq n₀ z Ty B C):Kq n₀ z Ty A C:=
 ⟨h.below.trans k.below,fun b cs t fr hb ht=>k.cells b cs t fr (h.cells b cs t fr hb ht) ht,fun b o hz hb hc=>k.rest b o hz (h.rest b o hz hb hc) hc,aK h.size k.size⟩
theorem Kq.refl(n₀ z:Nat)(Ty:TypeId→Prop)(W:World):Kq n₀ z Ty W W:=⟨ak,fun _ _ _ _ h _=>h,fun _ _ _ h _=>h,aj⟩
theorem Kq.cV{n₀ z:Nat}{Ty:TypeId→Prop}{W W':World}(h:Below W.heap.size W W')(hn:n₀≤W.heap.size):Kq n₀ z Ty W W':=
 ⟨h.mono hn,fun k _ _ _ hk _=>(h.block k (Array.getElem?_eq_some_iff.1 hk).1).trans hk,fun k _ _ hk _=>(h.block k (Array.getElem?_eq_some_iff.1 hk).1).trans hk,h.size⟩
theorem Kq.blk{n₀ z:Nat}{Ty:TypeId→Prop}{W W':World}{b:Nat}{C:Array Value}{t:TypeId}(h:Kq n₀ z Ty W W')(hb:af W b C t)(ht:¬Ty t):af W' b C t:=h.cells _ _ _ _ hb ht
theorem Kq.keeps{n₀ z:Nat}{Ty:TypeId→Prop}{W W':World}(h:Kq n₀ z Ty W W'){B:Nat}(hB:z≤B):KeepsFrom B W W':=⟨h.size,fun k o hk ho hc=>h.rest k o (aK hB hk) ho hc⟩
theorem Kq.iM{n₀ z:Nat}{Ty:TypeId→Prop}{W W':World}(h:Kq n₀ z Ty W W'):KeepsFrom z W W':=h.keeps aj
theorem Kq.put{n₀ z:Nat}{Ty:TypeId→Prop}{A:World}{l:Nat}{o:Obj}(o':Obj)(hl:n₀≤l)(hz:l<z)(ho:A.heap[l]?=some o)(hc:o.isCells=false):Kq n₀ z Ty A (A.putObj l o'):=by
 have hlt:l<A.heap.size:=(Array.getElem?_eq_some_iff.1 ho).1;refine⟨(Below.refl n₀ A).grown (grownBy_putObj' A _ o') (by omega) (fun k e=>by cases e;omega),fun k cs t fr hk ht=>?_,fun k x hk hx hxc=>(putObj_heap_other (by omega)).trans hx,(grownBy_putObj' A l o').size⟩;refine(putObj_heap_other (fun e=>?_)).trans hk;subst e;rw[ho] at hk;cases hk
 cases hc
theorem Kq.weak{n₀ z z':Nat}{Ty:TypeId→Prop}{W W':World}(h:Kq n₀ z Ty W W')(hz:z≤z'):Kq n₀ z' Ty W W':=⟨h.below,h.cells,fun k o hk=>h.rest k o (aK hz hk),h.size⟩
theorem DS(t:TL):cM ([],false) t=t:=by unfold cM;simp
theorem tu(a b c:TL):cM (cM a b) c=cM a (cM b c):=by
 unfold cM;cases ha:a.2 with
 |true=>simp[ha]
 |false=>
  cases hb:b.2 with
  |true=>simp[hb]
  |false=>simp[hb]
def fQ(Z:TL)(A:List HG)(t:TL):Prop:=∃B,Z=cM (A,false) (cM t B)
theorem fQ.bad{Z:TL}{A:List HG}{t:TL}(h:fQ Z A t)(ht:t.2=true):Z=(A++t.1,true):=by
 obtain⟨B,rfl⟩:=h;unfold cM;simp[ht]
theorem fQ.fst{Z:TL}{A:List HG}{t u:TL}(h:fQ Z A (cM t u)):fQ Z A t:=by
 obtain⟨B,rfl⟩:=h;exact⟨cM u B,by rw[tu]⟩
theorem fQ.snd{Z:TL}{A:List HG}{t u:TL}(h:fQ Z A (cM t u))(ht:t.2=false):fQ Z (A++t.1) u:=by
 obtain⟨B,rfl⟩:=h;refine⟨B,?_⟩;rw[tu t u B];unfold cM;simp[ht]
theorem fQ.pre{Z:TL}{A:List HG}{t:TL}(h:fQ Z A t):A++t.1<+:Z.1:=by
 obtain⟨B,rfl⟩:=h;unfold cM;cases ht:t.2 with
 |true=>simp[ht]
 |false=>simp[ht]
theorem fQ.all(Z:TL):fQ Z [] Z:=⟨([],false),by
 obtain⟨L,b⟩:=Z;cases b<;>simp[cM]⟩
abbrev TX:=HG×Value
def TX.enc(x:TX):Array Value:=#[.agg #[.int .i64 (x.1.1:Int),.int .i64 (x.1.2.1:Int),.int .i64 x.1.2.2],x.2]
def aY(L:List HG):List TX:=L.map (fun h=>(h,.nilIface))
theorem qF(L:List HG)(h:HG):aY (L++[h])=aY L++[(h,.nilIface)]:=by unfold aY;simp
def jV(Z:TL)(pre:List TX)(x:TX)(W:World):Prop:=
 (x.2=.nilIface∧∃A,pre=aY A∧A++[x.1]<+:Z.1)∨(x.1=(0,0,0)∧∃A,pre=aY A∧Z=(A,true)∧∃n,bU W 0 n x.2 21)
theorem eO:(prog.info? 5).map (fun i=>(i.zero,i.size,i.bytes))=some (some (.int .u8 0),1,1):=by kernel_rfl
theorem DT(v1 v2:Value)(xs ys:List Int)(w:World)(h1:Rd .u8 w v1 xs)(h2:Rd .u8 w v2 ys):
 Calls prog 6 #[v1,v2] w fun e w'=>e=.returned (.bool (decide (xs=ys)))∧Below w.heap.size w w':=by
 have hm:=h1.len;have hm2:=h2.len;unfold maxLen at hm hm2;by_cases hlen:xs.length=ys.length
 ·have p1:At .u8 w v1 xs.length xs:=h1.parts;have p2:At .u8 w v2 ys.length ys:=h2.parts;rw[←hlen] at p2;have HL:Hid (xs.length=ys.length):=hlen;clear hlen h1 h2 hm2;generalize hn:xs.length=n at*;have HN:Hid (xs.length=n):=hn;clear hn;rcases p1 with⟨a1,Qn,rfl,hlow⟩|⟨b1,off1,Qn,rfl,N2,hcell1⟩<;>rcases p2 with⟨a2,cap2,rfl,UM⟩|⟨b2,off2,cap2,rfl,hbw2,hcell2⟩;all_goals
   go_enter func6,ntmps6;go_wp2;go_loopw [5] (fun i wr=>∃k nq:Nat,k≤n∧i=.int .i64 k∧wr=w.drewN nq∧xs.take k=ys.take k) (fun i _=>n-(intOf i).toNat)
   case atStart=>exact⟨0,0,zero_le _,rfl,rfl,rfl⟩
   case round=>
    obtain⟨k,nq,hk,rfl,rfl,ht⟩:=hrel;have HT:Hid (xs.take k=ys.take k):=ht;clear ht;by_cases hlt:k<n
    ·first
     |omega
     |(
      have c1:=hcell1 k hlt;have c2:=hcell2 k hlt;have HX:Hid (xs.getD k 0=ys.getD k 0→xs.take (k+1)=ys.take (k+1)):=fun he=>wm xs ys k (by have:=HN.out;omega) (by have:=HL.out;omega) HT.out he;have HY:Hid (xs.getD k 0≠ys.getD k 0→¬xs=ys):=fun he h=>he (by rw[h]);generalize xs.getD k 0=x at c1 HX HY;generalize ys.getD k 0=y at c2 HX HY;have hlt':(k:Int)<(n:Int):=(by omega);clear hcell1 hcell2;by_cases hxy:x=y
      ·have hq:(x !=y)=false:=(by simp[hxy]);have SS:Hid (x=y):=hxy;clear hxy;go_wp2;go_quiet (fail)
       go_wp2;go_roundw
       case rel=>exact⟨k+1,_,by omega,by go_num,rfl,HX.out SS.out⟩
       case measure=>simp[intOf];omega
      ·have hq:(x !=y)=true:=(by simpa using hxy);have SS:Hid (x≠y):=hxy;clear hxy;go_wp2;go_quiet (fail)
       go_wp2;go_ret;exact⟨bX (by have:=HY.out SS.out;simp[this]),below_drewN (below_drewN ak _) _⟩)
    ·go_wp2;go_ret;have:k=n:=(by omega);subst this;have e1:=HT.out;rw[take_of_length_le (by have:=HN.out;omega),take_of_length_le (by have:=HL.out;omega)] at e1;exact⟨bX (by simp[e1]),below_drewN ak _⟩
 ·obtain⟨a1,Qn,rfl,_,_⟩:=h1;obtain⟨a2,cap2,rfl,_,_⟩:=h2;have hq:((xs.length:Int)==(ys.length:Int))=false:=by simp;omega
  have HF:Hid (¬xs=ys):=fun h=>hlen (by rw[h]);clear hlen;go_enter func6,ntmps6;go_wp2;go_ret;exact⟨bX (by simp[HF.out]),ak⟩
theorem xz(v1 v2:Value)(xs:List Int)(w:World)(h1:Rd .u8 w v1 xs)(h2:Rd .u8 w v2 xs):
 Calls prog 6 #[v1,v2] w fun e w'=>e=.returned (.bool true)∧Below w.heap.size w w':=by
 refine(DT v1 v2 xs xs w h1 h2).mono ?_;rintro e w' ⟨rfl,hb⟩;exact⟨by simp,hb⟩
theorem DU(v:Value)(base n k0:Nat)(xs:List Value)(w:World)(h:w.ownsRow base 5 1 v n xs)(hn:n≤140737488355328)(hk0:k0≤140737488355328):
 Calls prog 7 #[v,.int .i64 k0] w fun e w'=>e=.returned (.int .i64 ((k0+n:Nat):Int))∧w'.ownsRow base 5 1 v n ((ju k0 n).map (Value.int .u8))∧w.grownBy w' v.ownBlock:=by
 rcases h.2 with⟨rfl,rfl⟩|⟨g,cap,cur,rfl,hb,hg,hnc,hcm,hcs,htake⟩
 ·clear h;go_enter func7,ntmps7;go_wp2;refine wp_loop_rounds 1 ?_;rw[rounds_succ];go_wp2;go_ret;exact⟨rfl,World.ownsRow_nil _ _ _ _,World.grownBy.refl _ _⟩
 ·have hown:w.ownsRow base 5 1 (.slice (some ⟨g,0,none⟩) n cap) n xs:=h;have hxl:xs.length=n:=by have:=h.1;omega
  clear h hg hcs htake hb;go_enter func7,ntmps7;go_wp2;go_loopw [1,5] (fun q i wr=>∃k:Nat,k≤n∧i=.int .i64 k∧q=.int .i64 ((k0+k:Nat):Int)∧wr.ownsRow base 5 1 (.slice (some ⟨g,0,none⟩) n cap) n (((ju k0 n).map (Value.int .u8)).take k++xs.drop k)∧w.grownBy wr (some g)) (fun _ i _=>n-(intOf i).toNat)
  case atStart=>exact⟨0,zero_le _,rfl,rfl,by simpa using hown,World.grownBy.refl _ _⟩
  case round=>
   clear hown;obtain⟨k,hk,rfl,rfl,hown,hgr⟩:=hrel;by_cases hlt:k<n
   ·have hst:=hown.stored k (.int .u8 (((k0+k:Nat):Int)%256));have hfr:=hown.frozenAt k;obtain⟨old,hco⟩:∃u,wr.cell? ⟨g,k,none⟩=some u:=by
     rw[hown.cellAt k (by omega)];exact⟨_,List.getElem?_eq_getElem (by simp[qo];omega)⟩
    have HS:Hid ((wr.setCell ⟨g,k,none⟩ (.int .u8 (((k0+k:Nat):Int)%256))).ownsRow base 5 1 (.slice (some ⟨g,0,none⟩) n cap) n (((ju k0 n).map (Value.int .u8)).take (k+1)++xs.drop (k+1))∧w.grownBy (wr.setCell ⟨g,k,none⟩ (.int .u8 (((k0+k:Nat):Int)%256))) (some g)):=by
     refine⟨?_,gT hgr hst.2⟩;rw[←Di ((ju k0 n).map (Value.int .u8)) xs (.int .u8 (((k0+k:Nat):Int)%256)) k n hlt (by simp[qo]) hxl (by simp[wu k0 n k hlt])];exact hst.1
    clear hst hown hgr hxl;generalize hq:k0+k=q at*;have HQ:Hid (k0+k=q):=hq;have Q9:q≤281474976710656:=(by omega);clear hq;go_wp2;go_roundw
    case rel=>exact⟨k+1,by omega,by go_num,by rw[←Nat.add_assoc,HQ.out];go_num,HS.out.1,HS.out.2⟩
    case measure=>simp[intOf];omega
   ·go_wp2;go_ret;have:k=n:=(by omega);subst this;have e:((ju k0 k).map (Value.int .u8)).take k=(ju k0 k).map (Value.int .u8):=take_of_length_le (by simp[qo]);rw[e,List.drop_of_length_le (by omega)] at hown;exact⟨rfl,by simpa using hown,hgr⟩
theorem xA(v:Value)(n k0:Nat)(w:World)(h:Rd .u8 w v (ju k0 n))(hn:n≤140737488355328)(hk0:k0≤140737488355328):
 Calls prog 8 #[v,.int .i64 k0] w fun e w'=>e=.returned (.int .i64 ((k0+n:Nat):Int))∧w'=w:=by
 have hp:=h.parts;rw[qo] at hp;rcases hp with⟨a,cap,rfl,hlow⟩|⟨b,off,cap,rfl,hbw,hcell⟩;all_goals
  clear h;go_enter func8,ntmps8;go_wp2;go_loop [1,5] (fun q i=>∃k:Nat,k≤n∧i=.int .i64 k∧q=.int .i64 ((k0+k:Nat):Int)) (fun _ i=>n-(intOf i).toNat)
  case atStart=>exact⟨0,zero_le _,rfl,rfl⟩
  case round=>
   obtain⟨k,hk,rfl,rfl⟩:=hrel;by_cases hlt:k<n
   ·first
    |omega
    |(
     have c1:=hcell k hlt;rw[Dh k0 n k hlt] at c1;clear hcell;generalize hq:k0+k=q at*;have HQ:Hid (k0+k=q):=hq;have Q9:q≤281474976710656:=(by omega);clear hq;go_wp2;go_round
     case rel=>exact⟨k+1,by omega,by go_num,by rw[←Nat.add_assoc,HQ.out];go_num⟩
     case measure=>simp[intOf];omega)
   ·go_wp2;go_ret;have:k=n:=(by omega);subst this;exact⟨rfl,rfl⟩
def le:Nat→Nat→List Int
 |0,_=>[]
 |m+1,n=>((n%256:Nat):Int)::le m (n/256)
theorem fR:∀m n,(le m n).length=m
 |0,_=>rfl
 |m+1,n=>by simp[le,fR m]
theorem le_step(ys:List Int)(m j q:Nat)(h:j<m):ys++le (m-j) q=ys++[((q%256:Nat):Int)]++le (m-(j+1)) (q/256):=by
 have e:m-j=(m-(j+1))+1:=by omega
 rw[e,le];simp
theorem mX(z:Int):∀u∈[Value.int .u8 z],u.oneCell'=true:=by
 intro u hu;rw[List.mem_singleton] at hu;subst hu;rfl
theorem DV(w:World):Calls prog 141 #[.int .u64 4294967295] w fun e w'=>e=.returned (.int .i64 32)∧w=w':=by
 go_enter func141,ntmps141;go_wp2;go_ret;exact⟨gz (by simp only[wrap64];decide+kernel),rfl⟩
theorem DW(w:World):Calls prog 109 #[] w fun e w'=>e=.returned (.int .i64 4)∧w=w':=by
 have hx:IntKind.u64.wrap (bits BinOp.xor IntKind.u32 IntKind.u32.max 0)=4294967295:=by decide+kernel
 go_enter func109,ntmps109;go_wp2_with fail;refine(DV _).mono ?_;rintro e w' ⟨rfl,rfl⟩;go_wp2;go_ret;exact⟨rfl,rfl⟩
theorem jW(g base k cap n:Nat)(xs:List Value)(w:World)(h:w.ownsRow base 5 1 (.slice (some ⟨g,0,none⟩) k cap) k xs)(hr:k+4≤cap)(_hcap:cap≤140737488355328)(hn:n<4294967296):
 Calls prog 60 #[.slice (some ⟨g,0,none⟩) k cap,.int .u32 n] w fun e w'=>e=.returned (.slice (some ⟨g,0,none⟩) (k+4) cap)∧w'.ownsRow base 5 1 (.slice (some ⟨g,0,none⟩) (k+4) cap) (k+4) (xs++(le 4 n).map (Value.int .u8))∧w.grownBy w' (some g):=by
 obtain⟨i0,hi,hz0,hz1,hz2⟩:=info_parts eO;have hgl:=h.lt g rfl;go_enter func60,ntmps60;go_wp2_with (go_at_call 109;refine(DW _).mono ?_;rintro e w' ⟨rfl,rfl⟩);go_loopw [0,5,9] (fun v r i wr=>∃(j q:Nat) (ys:List Int),j≤4∧i=.int .i64 j∧r=.int .u64 q∧q<281474976710656∧v=.slice (some ⟨g,0,none⟩) (k+j) cap∧le 4 n=ys++le (4-j) q∧wr.ownsRow base 5 1 (.slice (some ⟨g,0,none⟩) (k+j) cap) (k+j) (xs++ys.map (Value.int .u8))∧w.grownBy wr (some g)) (fun _ _ i _=>4-(intOf i).toNat)
 case atStart=>exact⟨0,n,[],by omega,rfl,by go_num,by omega,rfl,rfl,by simpa using h,World.grownBy.refl _ _⟩
 case round=>
  clear h;obtain⟨j,q,ys,hj,rfl,rfl,hq,rfl,hle,hown,hgr⟩:=hrel;have HL:Hid (le 4 n=ys++le (4-j) q):=hle;have hsz:=hgr.size;clear hle;by_cases hlt:j<4
  ·go_wp2_with (at_builtin;refine wpList_append_fits _ rfl _ _ 22 rfl base 5 i0 1 underlying22 hi hz1 g (k+j) cap _ rfl (hown.alloc _) ⟨wr.heap.size,0,none⟩ 1 1 [.int .u8 ((q:Int)%256)] rfl rfl (cell_one_new _ _ _) (mX _) (by omega) ?_;intro w1 hown1 aI);have HW:Hid (w1.ownsRow base 5 1 (.slice (some ⟨g,0,none⟩) (k+(j+1)) cap) (k+(j+1)) (xs++(ys++[((q%256:Nat):Int)]).map (Value.int .u8))∧w.grownBy w1 (some g)):=by
    refine⟨?_,gT hgr (gT (grownBy_alloc _ _ _) aI)⟩;have e:xs++(ys++[((q%256:Nat):Int)]).map (Value.int .u8)=xs++ys.map (Value.int .u8)++[.int .u8 ((q:Int)%256)]:=(by simp);rw[e];exact hown1
   clear hown hown1 hgr aI;go_wp2;go_roundw
   case rel=>exact⟨j+1,q/256,ys++[((q%256:Nat):Int)],by omega,by go_num,by go_num,by omega,rfl,by rw[HL.out];exact le_step ys 4 j q hlt,HW.out.1,HW.out.2⟩
   case measure=>simp[intOf];omega
  ·go_wp2;go_ret;have e:j=4:=(by omega);subst e;have h:=HL.out;rw[sub_self,le,append_nil] at h;rw[h];exact⟨rfl,hown,hgr⟩
theorem DY(w:World):Calls prog 141 #[.int .u64 255] w fun e w'=>e=.returned (.int .i64 8)∧w=w':=by
 go_enter func141,ntmps141;go_wp2;go_ret;exact⟨gz (by simp only[wrap64];decide+kernel),rfl⟩
theorem D6(w:World):Calls prog 149 #[] w fun e w'=>e=.returned (.int .i64 1)∧w=w':=by
 have hx:IntKind.u64.wrap (bits BinOp.xor IntKind.u8 IntKind.u8.max 0)=255:=by decide+kernel
 go_enter func149,ntmps149;go_wp2_with fail;refine(DY _).mono ?_;rintro e w' ⟨rfl,rfl⟩;go_wp2;go_ret;exact⟨rfl,rfl⟩
theorem D8(g base k cap n:Nat)(xs:List Value)(w:World)(h:w.ownsRow base 5 1 (.slice (some ⟨g,0,none⟩) k cap) k xs)(hr:k+1≤cap)(_hcap:cap≤140737488355328)(hn:n<256):
 Calls prog 133 #[.slice (some ⟨g,0,none⟩) k cap,.int .u8 n] w fun e w'=>e=.returned (.slice (some ⟨g,0,none⟩) (k+1) cap)∧w'.ownsRow base 5 1 (.slice (some ⟨g,0,none⟩) (k+1) cap) (k+1) (xs++(le 1 n).map (Value.int .u8))∧w.grownBy w' (some g):=by
 obtain⟨i0,hi,hz0,hz1,hz2⟩:=info_parts eO;have hgl:=h.lt g rfl;go_enter func133,ntmps133;go_wp2_with (go_at_call 149;refine(D6 _).mono ?_;rintro e w' ⟨rfl,rfl⟩);go_loopw [0,5,9] (fun v r i wr=>∃(j q:Nat) (ys:List Int),j≤1∧i=.int .i64 j∧r=.int .u64 q∧q<281474976710656∧v=.slice (some ⟨g,0,none⟩) (k+j) cap∧le 1 n=ys++le (1-j) q∧wr.ownsRow base 5 1 (.slice (some ⟨g,0,none⟩) (k+j) cap) (k+j) (xs++ys.map (Value.int .u8))∧w.grownBy wr (some g)) (fun _ _ i _=>1-(intOf i).toNat)
 case atStart=>exact⟨0,n,[],by omega,rfl,by go_num,by omega,rfl,rfl,by simpa using h,World.grownBy.refl _ _⟩
 case round=>
  clear h;obtain⟨j,q,ys,hj,rfl,rfl,hq,rfl,hle,hown,hgr⟩:=hrel;have HL:Hid (le 1 n=ys++le (1-j) q):=hle;have hsz:=hgr.size;clear hle;by_cases hlt:j<1
  ·go_wp2_with (at_builtin;refine wpList_append_fits _ rfl _ _ 22 rfl base 5 i0 1 underlying22 hi hz1 g (k+j) cap _ rfl (hown.alloc _) ⟨wr.heap.size,0,none⟩ 1 1 [.int .u8 ((q:Int)%256)] rfl rfl (cell_one_new _ _ _) (mX _) (by omega) ?_;intro w1 hown1 aI);have HW:Hid (w1.ownsRow base 5 1 (.slice (some ⟨g,0,none⟩) (k+(j+1)) cap) (k+(j+1)) (xs++(ys++[((q%256:Nat):Int)]).map (Value.int .u8))∧w.grownBy w1 (some g)):=by
    refine⟨?_,gT hgr (gT (grownBy_alloc _ _ _) aI)⟩;have e:xs++(ys++[((q%256:Nat):Int)]).map (Value.int .u8)=xs++ys.map (Value.int .u8)++[.int .u8 ((q:Int)%256)]:=(by simp);rw[e];exact hown1
   clear hown hown1 hgr aI;go_wp2;go_roundw
   case rel=>exact⟨j+1,q/256,ys++[((q%256:Nat):Int)],by omega,by go_num,by go_num,by omega,rfl,by rw[HL.out];exact le_step ys 1 j q hlt,HW.out.1,HW.out.2⟩
   case measure=>simp[intOf];omega
  ·go_wp2;go_ret;have e:j=1:=(by omega);subst e;have h:=HL.out;rw[sub_self,le,append_nil] at h;rw[h];exact⟨rfl,hown,hgr⟩
theorem Ea(w:World):Calls prog 141 #[.int .u64 65535] w fun e w'=>e=.returned (.int .i64 16)∧w=w':=by
 go_enter func141,ntmps141;go_wp2;go_ret;exact⟨gz (by simp only[wrap64];decide+kernel),rfl⟩
theorem Eb(w:World):Calls prog 150 #[] w fun e w'=>e=.returned (.int .i64 2)∧w=w':=by
 have hx:IntKind.u64.wrap (bits BinOp.xor IntKind.u16 IntKind.u16.max 0)=65535:=by decide+kernel
 go_enter func150,ntmps150;go_wp2_with fail;refine(Ea _).mono ?_;rintro e w' ⟨rfl,rfl⟩;go_wp2;go_ret;exact⟨rfl,rfl⟩
theorem qG(g base k cap n:Nat)(xs:List Value)(w:World)(h:w.ownsRow base 5 1 (.slice (some ⟨g,0,none⟩) k cap) k xs)(hr:k+2≤cap)(_hcap:cap≤140737488355328)(hn:n<65536):
 Calls prog 134 #[.slice (some ⟨g,0,none⟩) k cap,.int .u16 n] w fun e w'=>e=.returned (.slice (some ⟨g,0,none⟩) (k+2) cap)∧w'.ownsRow base 5 1 (.slice (some ⟨g,0,none⟩) (k+2) cap) (k+2) (xs++(le 2 n).map (Value.int .u8))∧w.grownBy w' (some g):=by
 obtain⟨i0,hi,hz0,hz1,hz2⟩:=info_parts eO;have hgl:=h.lt g rfl;go_enter func134,ntmps134;go_wp2_with (go_at_call 150;refine(Eb _).mono ?_;rintro e w' ⟨rfl,rfl⟩);go_loopw [0,5,9] (fun v r i wr=>∃(j q:Nat) (ys:List Int),j≤2∧i=.int .i64 j∧r=.int .u64 q∧q<281474976710656∧v=.slice (some ⟨g,0,none⟩) (k+j) cap∧le 2 n=ys++le (2-j) q∧wr.ownsRow base 5 1 (.slice (some ⟨g,0,none⟩) (k+j) cap) (k+j) (xs++ys.map (Value.int .u8))∧w.grownBy wr (some g)) (fun _ _ i _=>2-(intOf i).toNat)
 case atStart=>exact⟨0,n,[],by omega,rfl,by go_num,by omega,rfl,rfl,by simpa using h,World.grownBy.refl _ _⟩
 case round=>
  clear h;obtain⟨j,q,ys,hj,rfl,rfl,hq,rfl,hle,hown,hgr⟩:=hrel;have HL:Hid (le 2 n=ys++le (2-j) q):=hle;have hsz:=hgr.size;clear hle;by_cases hlt:j<2
  ·go_wp2_with (at_builtin;refine wpList_append_fits _ rfl _ _ 22 rfl base 5 i0 1 underlying22 hi hz1 g (k+j) cap _ rfl (hown.alloc _) ⟨wr.heap.size,0,none⟩ 1 1 [.int .u8 ((q:Int)%256)] rfl rfl (cell_one_new _ _ _) (mX _) (by omega) ?_;intro w1 hown1 aI);have HW:Hid (w1.ownsRow base 5 1 (.slice (some ⟨g,0,none⟩) (k+(j+1)) cap) (k+(j+1)) (xs++(ys++[((q%256:Nat):Int)]).map (Value.int .u8))∧w.grownBy w1 (some g)):=by
    refine⟨?_,gT hgr (gT (grownBy_alloc _ _ _) aI)⟩;have e:xs++(ys++[((q%256:Nat):Int)]).map (Value.int .u8)=xs++ys.map (Value.int .u8)++[.int .u8 ((q:Int)%256)]:=(by simp);rw[e];exact hown1
   clear hown hown1 hgr aI;go_wp2;go_roundw
   case rel=>exact⟨j+1,q/256,ys++[((q%256:Nat):Int)],by omega,by go_num,by go_num,by omega,rfl,by rw[HL.out];exact le_step ys 2 j q hlt,HW.out.1,HW.out.2⟩
   case measure=>simp[intOf];omega
  ·go_wp2;go_ret;have e:j=2:=(by omega);subst e;have h:=HL.out;rw[sub_self,le,append_nil] at h;rw[h];exact⟨rfl,hown,hgr⟩
theorem Ec(w:World):Calls prog 141 #[.int .u64 18446744073709551615] w fun e w'=>e=.returned (.int .i64 64)∧w=w':=by
 go_enter func141,ntmps141;go_wp2;go_ret;exact⟨gz (by simp only[wrap64];decide+kernel),rfl⟩
theorem Ed(w:World):Calls prog 108 #[] w fun e w'=>e=.returned (.int .i64 8)∧w=w':=by
 have hx:IntKind.u64.wrap (bits BinOp.xor IntKind.u64 IntKind.u64.max 0)=18446744073709551615:=by decide+kernel
 go_enter func108,ntmps108;go_wp2_with fail;refine(Ec _).mono ?_;rintro e w' ⟨rfl,rfl⟩;go_wp2;go_ret;exact⟨rfl,rfl⟩
theorem mY(g base k cap n:Nat)(xs:List Value)(w:World)(h:w.ownsRow base 5 1 (.slice (some ⟨g,0,none⟩) k cap) k xs)(hr:k+8≤cap)(_hcap:cap≤140737488355328)(hn:n<281474976710656):
 Calls prog 59 #[.slice (some ⟨g,0,none⟩) k cap,.int .u64 n] w fun e w'=>e=.returned (.slice (some ⟨g,0,none⟩) (k+8) cap)∧w'.ownsRow base 5 1 (.slice (some ⟨g,0,none⟩) (k+8) cap) (k+8) (xs++(le 8 n).map (Value.int .u8))∧w.grownBy w' (some g):=by
 obtain⟨i0,hi,hz0,hz1,hz2⟩:=info_parts eO;have hgl:=h.lt g rfl;go_enter func59,ntmps59;go_wp2_with (go_at_call 108;refine(Ed _).mono ?_;rintro e w' ⟨rfl,rfl⟩);go_loopw [0,5,8] (fun v r i wr=>∃(j q:Nat) (ys:List Int),j≤8∧i=.int .i64 j∧r=.int .u64 q∧q<281474976710656∧v=.slice (some ⟨g,0,none⟩) (k+j) cap∧le 8 n=ys++le (8-j) q∧wr.ownsRow base 5 1 (.slice (some ⟨g,0,none⟩) (k+j) cap) (k+j) (xs++ys.map (Value.int .u8))∧w.grownBy wr (some g)) (fun _ _ i _=>8-(intOf i).toNat)
 case atStart=>exact⟨0,n,[],by omega,rfl,by go_num,by omega,rfl,rfl,by simpa using h,World.grownBy.refl _ _⟩
 case round=>
  clear h;obtain⟨j,q,ys,hj,rfl,rfl,hq,rfl,hle,hown,hgr⟩:=hrel;have HL:Hid (le 8 n=ys++le (8-j) q):=hle;have hsz:=hgr.size;clear hle;by_cases hlt:j<8
  ·go_wp2_with (at_builtin;refine wpList_append_fits _ rfl _ _ 22 rfl base 5 i0 1 underlying22 hi hz1 g (k+j) cap _ rfl (hown.alloc _) ⟨wr.heap.size,0,none⟩ 1 1 [.int .u8 ((q:Int)%256)] rfl rfl (cell_one_new _ _ _) (mX _) (by omega) ?_;intro w1 hown1 aI);have HW:Hid (w1.ownsRow base 5 1 (.slice (some ⟨g,0,none⟩) (k+(j+1)) cap) (k+(j+1)) (xs++(ys++[((q%256:Nat):Int)]).map (Value.int .u8))∧w.grownBy w1 (some g)):=by
    refine⟨?_,gT hgr (gT (grownBy_alloc _ _ _) aI)⟩;have e:xs++(ys++[((q%256:Nat):Int)]).map (Value.int .u8)=xs++ys.map (Value.int .u8)++[.int .u8 ((q:Int)%256)]:=(by simp);rw[e];exact hown1
   clear hown hown1 hgr aI;go_wp2;go_roundw
   case rel=>exact⟨j+1,q/256,ys++[((q%256:Nat):Int)],by omega,by go_num,by go_num,by omega,rfl,by rw[HL.out];exact le_step ys 8 j q hlt,HW.out.1,HW.out.2⟩
   case measure=>simp[intOf];omega
  ·go_wp2;go_ret;have e:j=8:=(by omega);subst e;have h:=HL.out;rw[sub_self,le,append_nil] at h;rw[h];exact⟨rfl,hown,hgr⟩
structure pq(w0 w:World)(b lo:Nat)(ok:Bool)(dv:Value)(zs:List Int)(pos:Nat):Prop where
 ck:Ck w b lo 21 ok
 data:w.cell? ⟨b,2,none⟩=some dv
 at_:w.cell? ⟨b,3,none⟩=some (.int .i64 pos)
 fr:w.frozen? ⟨b,3,none⟩=false
 old:Below b w0 w
 size:w0.heap.size=b
 rd:Rd .u8 w0 dv zs
 le:pos≤zs.length
 lo1:b<lo
 lo2:lo≤w.heap.size
theorem pq.read{w0 w:World}{b lo:Nat}{ok:Bool}{dv:Value}{zs:List Int}{pos:Nat}(h:pq w0 w b lo ok dv zs pos):Rd .u8 w dv zs:=
 h.rd.below (by rw[h.size];exact h.old)
theorem pq.iA{w0 w w':World}{b lo:Nat}{ok ok':Bool}{dv:Value}{zs:List Int}{pos:Nat}(h:pq w0 w b lo ok dv zs pos)(hc:Ck w' b lo 21 ok')(ht:eI b w w'):pq w0 w' b lo ok' dv zs pos:=
 ⟨hc,(ht.2.1 2 (by omega)).trans h.data,(ht.2.1 3 (by omega)).trans h.at_,(ht.2.2 3).trans h.fr,ht.under h.old aj (Nat.le_of_lt h.ck.lt),h.size,h.rd,h.le,h.lo1,aK h.lo2 ht.1.size⟩
def eP:List Int→Nat
 |[]=>0
 |z::zs=>z.toNat+256*eP zs
theorem Ee(zs:List Int)(h:∀z∈zs,0≤z∧z<256):eP zs<256^zs.length:=by
 induction zs with
 |nil=>simp[eP]
 |cons y ys ih=>
  have h1:=h y (by simp);have h2:=ih (fun z hz=>h z (by simp[hz]));rw[eP,List.length_cons,Nat.pow_succ];have:y.toNat<256:=by omega
  have h3:eP ys+1≤256^ys.length:=h2;have:=Nat.mul_le_mul_left 256 h3;omega
theorem nN(w:World)(e:TypeId):(w.alloc (.cells #[] e)).ownsRow w.heap.size e 1 (.slice (some ⟨w.heap.size,0,none⟩) 0 0) 0 []:=by
 have h:=World.ownsRow_lit (base:=w.heap.size) (e:=e) (size:=1) w #[] 0 aj (by simp) rfl;simpa using h
theorem Ef(v n:Nat)(w:World)(hv:v<281474976710656)(hn:n≤8):
 Calls prog 40 #[.int .i64 v,.int .i64 n] w fun e w'=>∃v',e=.returned v'∧w'.ownsRow w.heap.size 5 1 v' n ((le n v).map (Value.int .u8))∧Below w.heap.size w w':=by
 obtain⟨i0,hi,hz0,hz1,hz2⟩:=info_parts eO;have h0:=nN w 5;have hb0:Below w.heap.size w (w.alloc (.cells #[] 5)):=ak.alloc aj _;go_enter func40,ntmps40;go_wp2;go_loopw [0,5,6] (fun x o i wr=>∃(j q:Nat) (ys:List Int),j≤n∧i=.int .i64 j∧x=.int .i64 q∧q<281474976710656∧le n v=ys++le (n-j) q∧wr.ownsRow w.heap.size 5 1 o j (ys.map (Value.int .u8))∧Below w.heap.size w wr) (fun _ _ i _=>n-(intOf i).toNat)
 case atStart=>exact⟨0,v,[],zero_le _,rfl,rfl,hv,rfl,by simpa using h0,hb0⟩
 case round=>
  clear h0 hb0;obtain⟨j,q,ys,hj,rfl,rfl,hq,hle,hown,hb⟩:=hrel;have HL:Hid (le n v=ys++le (n-j) q):=hle;clear hle;have hsz:=hb.size;by_cases hlt:j<n
  ·go_wp2_with (at_builtin;refine wpList_append_own _ rfl _ _ 22 rfl w.heap.size 5 i0 (.int .u8 0) 1 1 underlying22 hi hz0 hz1 hz2 rfl (by decide) _ _ _ rfl (hown.alloc _) ⟨wr.heap.size,0,none⟩ 1 1 [.int .u8 ((q:Int)%256)] rfl rfl (cell_one_new _ _ _) (mX _) (by unfold maxLen;omega) (by omega) (by simp;omega) ?_;intro v1 w1 hown1 aI _);have HW:Hid (w1.ownsRow w.heap.size 5 1 v1 (j+1) ((ys++[((q%256:Nat):Int)]).map (Value.int .u8))∧Below w.heap.size w w1):=by
    refine⟨?_,(hb.alloc hsz _).grown aI (by simp;omega) (fun k h=>(hown.lt k h).1)⟩;have e:(ys++[((q%256:Nat):Int)]).map (Value.int .u8)=ys.map (Value.int .u8)++[.int .u8 ((q:Int)%256)]:=(by simp);rw[e];exact hown1
   clear hown hown1 aI hb;go_roundw
   case rel=>exact⟨j+1,q/256,ys++[((q%256:Nat):Int)],by omega,by go_num,by go_num,by omega,by rw[HL.out];exact le_step ys n j q hlt,HW.out.1,HW.out.2⟩
   case measure=>simp[intOf];omega
  ·go_wp2;go_ret;have e:j=n:=(by omega);subst e;have h:=HL.out;rw[sub_self,le,append_nil] at h;rw[h];exact⟨_,rfl,hown,hb⟩
theorem jl(v n:Nat)(w:World)(hv:v<281474976710656)(hn:n≤8)(h0:0<n):
 Calls prog 40 #[.int .i64 v,.int .i64 n] w fun e w'=>∃g cp,e=.returned (.slice (some ⟨g,0,none⟩) n cp)∧w'.ownsRow w.heap.size 5 1 (.slice (some ⟨g,0,none⟩) n cp) n ((le n v).map (Value.int .u8))∧Below w.heap.size w w':=by
 refine(Ef v n w hv hn).mono ?_;rintro e w' ⟨v',rfl,ho,hb⟩;rcases ho.2 with⟨rfl,hn0⟩|⟨g,cap,cur,rfl,_⟩
 ·omega
 ·exact⟨g,cap,rfl,ho,hb⟩
def mo(ts:List Int):Nat:=if 70368744177664≤eP ts/256 then 4611686018427387904 else eP ts
theorem tA(ts:List Int)(j:Nat)(h:j<ts.length):eP (ts.drop j)=(ts.getD j 0).toNat+256*eP (ts.drop (j+1)):=by
 rw[List.drop_eq_getElem_cons h,eP];simp[getD,h]
theorem xB(ts:List Int):∀j,1≤j→j≤ts.length→256*eP (ts.drop j)≤eP ts
 |0,h,_=>by omega
 |1,_,h2=>by
  have h:=tA ts 0 (by omega);rw[List.drop_zero,Nat.zero_add] at h;rw[h];omega
 |j+2,_,h2=>by
  have h:=tA ts (j+1) (by omega);have ih:=xB ts (j+1) (by omega) (by omega);have e:j+1+1=j+2:=rfl;rw[e] at h;omega
theorem Eg(ts:List Int)(j:Nat)(h1:1≤j)(h2:j≤ts.length)(h:70368744177664≤eP (ts.drop j)):mo ts=4611686018427387904:=by
 have:=xB ts j h1 h2;unfold mo;rw[if_pos (by omega)]
theorem tB(ts:List Int)(h:eP ts<18014398509481984):mo ts=eP ts:=by
 unfold mo;rw[if_neg (by omega)]
theorem xC(v:Value)(ts:List Int)(w:World)(h:Rd .u8 w v ts)(hl:ts.length≤8)(hbd:∀z∈ts,0≤z∧z<256):
 Calls prog 35 #[v] w fun e w'=>e=.returned (.int .i64 (mo ts))∧w=w':=by
 have HB:=aa hbd;clear hbd;rcases h.parts with⟨a,cap,rfl,hlow⟩|⟨b,off,cap,rfl,hbw,hcell⟩;all_goals
  clear h;go_enter func35,ntmps35;go_wp2;go_loop [3,4] (fun x i=>∃j q:Nat,j≤ts.length∧i=.int .i64 ((j:Int)-1)∧x=.int .i64 q∧q=eP (ts.drop j)∧q<18014398509481984) (fun _ i=>(intOf i+1).toNat)
  case atStart=>exact⟨ts.length,0,by omega,rfl,rfl,by simp[eP],by omega⟩
  case round=>
   obtain⟨j,q,hj,rfl,rfl,hq,Q9⟩:=hrel;have HQ:=aa hq;have HQL:=aa Q9;clear hq Q9;by_cases hlt:1≤j
   ·obtain⟨i,rfl⟩:∃i,j=i+1:=⟨j-1,by omega⟩;by_cases hbig:(70368744177664:Int)≤(q:Int)
    ·first
     |(exfalso;omega)
     |(
      have HG:=aa (Eg ts (i+1) hlt hj (by rw[←HQ.out];omega));clear hcell;have e1:(((i+1:Nat):Int)-1)=(i:Int):=(by omega);rw[e1];clear e1;go_wp2;go_ret;exact⟨gz (by rw[HG.out];rfl),rfl⟩)
    ·first
     |(exfalso;omega)
     |(
      have e1:(((i+1:Nat):Int)-1)=(i:Int):=(by omega);rw[e1];have c1:=hcell i (by omega);have hz1:=HB.out (ts.getD i 0) (by simp[getD,show i<ts.length by omega]);have HT:=aa (tA ts i (by omega));clear hcell e1;generalize ts.getD i 0=z at c1 HT hz1;obtain⟨c,rfl⟩:=Int.eq_ofNat_of_zero_le hz1.1;obtain⟨_,hc2⟩:=hz1;have hc:c<256:=(by omega);clear hc2;rw[Int.toNat_natCast] at HT;go_wp2;go_round
      case rel=>exact⟨i,c+256*q,by omega,by go_num,by go_num,by rw[HT.out,HQ.out],by omega⟩
      case measure=>first|(simp[intOf];done)|(simp[intOf];omega))
   ·have hj0:j=0:=(by omega);subst hj0;have HG:=ae (mo ts=q) (by
     have h1:=HQ.out;rw[List.drop_zero] at h1;have h2:=HQL.out;rw[tB ts (by omega), ←h1])
    go_wp2;go_ret;exact⟨gz (by rw[HG.out]),rfl⟩
end
end Go.Proofs.YtpplnhkpcpieoaaGreatDoor
