/- A region that draws its order, inside a fence or a round: an invariant, calls among the op -/
import Derived.Test.YtpplnhkpcpieoaaGreatDoorZx23
namespace Go.Proofs.YtpplnhkpcpieoaaGreatDoor
open Go.Proofs.Tryz
set_option linter.all false
set_option maxRecDepth 100000
set_option maxHeartbeats 16000000
section
open Go.RowKit
theorem zL{F:Fence}{n:Nat}{P:Program}{ops:Array Oper}{Q:Exit→Act→World→Prop}(fs:List (Nat×Value))(S:World→Prop)(V:Nat→Value→World→Prop)(m:Nat)(ds:List Deferred)
 (NN:∀(i:Nat) (o:Oper),ops[i]?=some o→∀e∈o.after,Region.binds .any e=true→e.on<i)
 (hdst:∀(i j:Nat) (oi oj:Oper) (d:Nat),ops[i]?=some oi→ops[j]?=some oj→oi.dst=some d→oj.dst=some d→i=j)
 (hfix:∀(i:Nat) (o:Oper) (d:Nat),ops[i]?=some o→o.dst=some d→d<m∧∀v,(d,v)∉fs)
 (hstep:∀(i:Nat) (o:Oper) (listed:Array Bool) (a:Act) (w:World),ops[i]?=some o→(∀e∈o.after,Region.binds .any e=true→listed.getD e.on false=true)→gW ops fs S V m ds listed a w→
  Region.wanted o (yielded ops a.tmps)=true∧∀K:Act→World→Prop,Hid (∀v w',V i v w'→S w'→(∀j u,V j u w→V j u w')→K (a.put o.dst v) w')→Oper.wpIn F n P o a w K Q)
 (hfin:∀listed a w,(∀i,i<ops.size→listed.getD i false=true)→gW ops fs S V m ds listed a w→Q .normal a w):
 ∀(fuel:Nat) (listed:Array Bool) (a:Act) (w:World),listed.size=ops.size→listed.toList.count false≤fuel→gW ops fs S V m ds listed a w→wpAnyIn F n P .any ops Q fuel listed a w
 |0,listed,a,w,hsz,hc,hI=>by
  have hall:∀i,i<ops.size→listed.getD i false=true:=by
   intro i hi;cases e:listed.getD i false with
   |true=>rfl
   |false=>
    have:false∈listed.toList:=by
     rw[Array.getD_eq_getD_getElem?,Array.getElem?_eq_getElem (by omega),Option.getD_some] at e;rw[←e];exact Array.mem_toList_iff.2 (Array.getElem_mem (by omega))
    have:=List.count_pos_iff.2 this;omega
  refine⟨?_,hfin listed a w hall hI⟩;cases e:Region.ready .any ops listed with
  |nil=>rfl
  |cons j l=>
   have hj:j∈Region.ready .any ops listed:=(by rw[e];simp);obtain⟨h0,o,ho,_⟩:=mem_ready.1 hj;have hlt:j<ops.size:=(Array.getElem?_eq_some_iff.1 ho).1;have h1:=hall j hlt;rw[Array.getD_eq_getD_getElem?,Array.getElem?_eq_getElem (by omega)] at h0 h1;simp at h0 h1;rw[h0] at h1;cases h1
 |fuel+1,listed,a,w,hsz,hc,hI=>by
  refine⟨fun h=>hfin listed a w (ER hsz NN h) hI,fun i hi=>?_⟩;obtain⟨h0,o,ho,hall⟩:=mem_ready.1 hi;have hlt:i<ops.size:=(Array.getElem?_eq_some_iff.1 ho).1;obtain⟨hwt,hst⟩:=hstep i o listed a w ho hall hI;unfold wpOpIn;simp only[ho,hwt,if_true];refine hst _ (aa (fun v w' hv hS hk=>?_));have hcs:=count_set (listed:=listed) (i:=i) (by omega) h0;refine zL fs S V m ds NN hdst hfix hstep hfin fuel _ _ _ (by simpa using hsz) (by omega) ?_;cases hd:o.dst with
  |none=>
   refine⟨hI.sz,hI.df,hS,fun j oj d hj hl hjd=>?_,hI.fix,fun j oj hj hl=>?_⟩
   ·rw[mz (by omega)] at hl;by_cases e:j=i
    ·subst e;rw[ho] at hj;cases hj
     rw[hd] at hjd;cases hjd
    ·rw[if_neg e] at hl;exact hk j _ (hI.vals j oj d hj hl hjd)
   ·rw[mz (by omega)] at hl;by_cases e:j=i
    ·subst e;exact⟨v,hv⟩
    ·rw[if_neg e] at hl;obtain⟨u,hu⟩:=hI.seen j oj hj hl;exact⟨u,hk j u hu⟩
  |some d0=>
   have hf:=hfix i o d0 ho hd;have hd0:d0<a.tmps.size:=(by rw[hI.sz];exact hf.1);refine⟨by simp[Act.put,hI.sz],by simpa [Act.put] using hI.df,hS,fun j oj d hj hl hjd=>?_,fun t u htu=>?_,fun j oj hj hl=>?_⟩
   ·rw[mz (by omega)] at hl;rw[nS hd0];by_cases e:j=i
    ·subst e;rw[ho] at hj;cases hj
     rw[hd] at hjd;cases hjd
     rw[if_pos rfl];exact hv
    ·rw[if_neg e] at hl;rw[if_neg (fun h=>e (hdst j i oj o d hj ho hjd (by rw[hd,h])))];exact hk j _ (hI.vals j oj d hj hl hjd)
   ·rw[nS hd0,if_neg (fun h:t=d0=>hf.2 u (by rw[←h];exact htu))];exact hI.fix t u htu
   ·rw[mz (by omega)] at hl;by_cases e:j=i
    ·subst e;exact⟨v,hv⟩
    ·rw[if_neg e] at hl;obtain⟨u,hu⟩:=hI.seen j oj hj hl;exact⟨u,hk j u hu⟩
theorem Hp{F:Fence}{n:Nat}{P:Program}{ops:Array Oper}{Q:Exit→Act→World→Prop}(fs:List (Nat×Value))(S:World→Prop)(V:Nat→Value→World→Prop)(m:Nat)(ds:List Deferred)
 (hB:pI ops m (fs.map (·.1))=true)
 (hstep:∀(i:Nat) (o:Oper) (listed:Array Bool) (a:Act) (w:World),ops[i]?=some o→(∀e∈o.after,Region.binds .any e=true→listed.getD e.on false=true)→gW ops fs S V m ds listed a w→
  Region.wanted o (yielded ops a.tmps)=true∧∀K:Act→World→Prop,Hid (∀v w',V i v w'→S w'→(∀j u,V j u w→V j u w')→K (a.put o.dst v) w')→Oper.wpIn F n P o a w K Q)
 (hfin:∀listed a w,(∀i,i<ops.size→listed.getD i false=true)→gW ops fs S V m ds listed a w→Q .normal a w)
 (a:Act) (w:World) (hsz:a.tmps.size=m) (hdf:a.defers=ds) (hS:S w) (hf:∀t v,(t,v)∈fs→a.tmps.getD t undef=v):wpAnyIn F n P .any ops Q ops.size (Array.replicate ops.size false) a w:=by
 refine zL fs S V m ds (fun i o hi=>(m6 hB hi).1) (fun i j oi oj d hi hj h1 h2=>?_) (fun i o d hi hd=>?_) hstep hfin _ _ _ _ (by simp) ?_ ⟨hsz,hdf,hS,fun i o d _ hl _=>?_,hf,fun i o _ hl=>?_⟩
 ·rcases Nat.lt_trichotomy i j with h|h|h
  ·exact absurd h1 (((m6 hB hj).2 d h2).2.2 i oi h hi)
  ·exact h
  ·exact absurd h2 (((m6 hB hi).2 d h1).2.2 j oj h hj)
 ·have:=(m6 hB hi).2 d hd;exact⟨this.1,fun v hv=>this.2.1 (List.mem_map.2 ⟨_,hv,rfl⟩)⟩
 ·rw[Array.toList_replicate,List.count_replicate];simp
 ·simp[Array.getD_eq_getD_getElem?,Array.getElem?_replicate] at hl;split at hl<;>simp at hl
 ·simp[Array.getD_eq_getD_getElem?,Array.getElem?_replicate] at hl;split at hl<;>simp at hl
theorem pU{F:Fence}{n:Nat}{P:Program}{w w':World}{o:Oper}{a:Act}{v:Value}{K:Act→World→Prop}{Q:Exit→Act→World→Prop}(hnc:∀c,o.op≠.call c)(hnd:∀c,o.op≠.defer c)(hrun:(execOp a.eval o).run P w=.ok (.value v) w')(h:K (a.put o.dst v) w'):Oper.wpIn F n P o a w K Q:=by
 have hab:o.about P w a.eval=none:=by
  unfold Oper.about;split
  ·rename_i c hc
   exact absurd hc (hnc c)
  ·rfl
 unfold Oper.wpIn;refine⟨by simp[hab],?_⟩;rw[Oper.semAt_plain F _ _ hnd,hrun];exact h
end
section
open Go.RowKit Go.Shelf
attribute [local go_sem] Oper.semAt_some
structure ke(m:Nat)(g:Nat→Int)(Ls:Nat→List Int):Prop where
 l0:(Ls 0).length≤m
 g0:∀k,k<m→(Ls 0).getD k 0=g k
 l1:(Ls 1).length≤1
 g1:(Ls 1).getD 0 0=g m
 l2:Ls 2=[]
def fI(g:Nat→Int)(k:Nat)(x:Int):Nat→Int:=fun j=>if j=k then x else g j
theorem ke.set{m k:Nat}{g:Nat→Int}{Ls:Nat→List Int}(h:ke m g Ls)(hk:k<m+1)(x:Int):ke m (fI g k x) (aO Ls (aR m k).1 (dD (Ls (aR m k).1) (aR m k).2 x)):=by
 by_cases hkm:k<m
 ·have e:aR m k=(0,k):=by unfold aR;rw[if_pos hkm]
  rw[e];show ke m (fI g k x) (aO Ls 0 (dD (Ls 0) k x));refine⟨?_,fun j hj=>?_,?_,?_,?_⟩
  ·rw[bY,nY];have:=h.l0;omega
  ·rw[bY,nj,h.g0 j hj];rfl
  ·rw[aU _ _ _ _ (by omega)];exact h.l1
  ·rw[aU _ _ _ _ (by omega),h.g1];unfold fI;rw[if_neg (by omega)]
  ·rw[aU _ _ _ _ (by omega)];exact h.l2
 ·have e:aR m k=(1,0):=by unfold aR;rw[if_neg hkm]
  rw[e];show ke m (fI g k x) (aO Ls 1 (dD (Ls 1) 0 x));refine⟨?_,fun j hj=>?_,?_,?_,?_⟩
  ·rw[aU _ _ _ _ (by omega)];exact h.l0
  ·rw[aU _ _ _ _ (by omega),h.g0 j hj];unfold fI;rw[if_neg (by omega)]
  ·rw[bY,nY];have:=h.l1;omega
  ·rw[bY,nj,if_pos rfl];unfold fI;rw[if_pos (by omega)]
  ·rw[aU _ _ _ _ (by omega)];exact h.l2
theorem Hq(g:Nat→Int)(k:Nat)(x:Int):fI (fI g k x) k x=fI g k x:=by
 funext j;unfold fI;split<;>rfl
def jo(W:World)(base B m:Nat)(g:Nat→Int):Prop:=∃C sl Ls,dP W base B 0 C 110 sl Ls∧C.size=3∧ke m g Ls
theorem jo.below{W W':World}{base B m:Nat}{g:Nat→Int}(h:jo W base B m g)(hb:Below W.heap.size W W'):jo W' base B m g:=by
 obtain⟨C,sl,Ls,h1,h2,h3⟩:=h;exact⟨C,sl,Ls,h1.below hb,h2,h3⟩
theorem jo.fH{A B:World}{row:Option Nat}{z base Bn m:Nat}{g:Nat→Int}(h:jo A base Bn m g)(hg:A.grownBy B row)(hr:∀r,row=some r→z≤r∧∃o,A.heap[r]?=some o∧o.isCells=false):jo B base Bn m g:=by
 obtain⟨C,sl,Ls,h1,h2,h3⟩:=h;exact⟨C,sl,Ls,h1.fH hg hr,h2,h3⟩
structure zM(W W':World)(base B:Nat):Prop where
 low:base≤B→Below base W W'
 keep:KeepsOthers W W'
 blk:∀{k:Nat} {C:Array Value} {t:TypeId},af W k C t→k≠B→t≠3→af W' k C t
theorem zN(base B m k:Nat)(g:Nat→Int)(x:Int)(W:World)(h:jo W base B m g)(hk:k<m+1)(hm:m≤16)(hbs:base≤W.heap.size):
 Calls prog 124 #[.pointer (some ⟨B,0,none⟩),bh (aR m k).1 (aR m k).2,.int .i64 x] W fun e W'=>e=.returned (.tuple #[])∧jo W' base B m (fI g k x)∧zM W W' base B:=by
 obtain⟨C,sl,Ls,h1,h2,h3⟩:=h;obtain⟨hp1,hp2⟩:=rQ m k hm;have hlen:(Ls (aR m k).1).length≤100001:=by
  have a0:=h3.l0;have a1:=h3.l1;rcases(show(aR m k).1=0∨(aR m k).1=1 by omega) with e|e<;>rw[e]<;>omega
 refine(uz B 0 (aR m k).1 (aR m k).2 C 110 sl Ls x base W h1 (by omega) (by omega) hlen (by decide) hbs).mono ?_;rintro e W' ⟨rfl,sw,n1,f1⟩;refine⟨rfl,⟨_,_,_,n1,by simpa using h2,h3.set hk x⟩,⟨fun hb=>?_,⟨f1.size,fun j o hj ho=>(f1.block j (Array.getElem?_eq_some_iff.1 hj).1 (fun e=>?_) (fun e=>?_)).trans hj⟩,fun {j C' t} hj hne ht=>f1.blk (h1.row _ (by omega)) hj hne ht⟩⟩
 ·exact⟨f1.os,f1.tape,f1.output,f1.size,fun j hj=>f1.block j (by omega) (by omega) (fun e=>by have:=((h1.row (aR m k).1 (by omega)).lt j e).1;omega)⟩
 ·subst e;have h4:W.heap[j]?=some (.cells C 110 (0,0)):=h1.box;rw[hj] at h4;cases h4
  cases ho
 ·rcases(h1.row (aR m k).1 (by omega)).2 with⟨e0,_⟩|⟨g',cap,cur,e0,_,hgg,_⟩
  ·rw[e0] at e;cases e
  ·rw[e0] at e;obtain rfl:g'=j:=(by simpa [Value.ownBlock] using e);rw[hj] at hgg;cases hgg
   cases ho
structure fM(w:World)(b m:Nat)(g:Nat→Int)(n₁:Nat)(W:World):Prop where
 old:Below w.heap.size w W
 ptr:af W w.heap.size #[.pointer (some ⟨b,0,none⟩)] 117
 res:af W (w.heap.size+1) #[.slice none 0 0,.slice none 0 0,.slice none 0 0] 110
 now:jo W w.heap.size (w.heap.size+2) m g
 size:n₁≤W.heap.size
theorem fM.below{w:World}{b m:Nat}{g:Nat→Int}{n₁:Nat}{W W':World}(h:fM w b m g n₁ W)(hb:Below W.heap.size W W'):fM w b m g n₁ W':=
 ⟨h.old.trans (hb.mono h.old.size),h.ptr.below hb h.ptr.lt,h.res.below hb h.res.lt,h.now.below hb,aK h.size hb.size⟩
theorem fM.fH{w:World}{b m:Nat}{g:Nat→Int}{n₁:Nat}{A B:World}{row:Option Nat}(hw:w.heap.size+2≤n₁)(h:fM w b m g n₁ A)(hg:A.grownBy B row)(hr:∀r,row=some r→n₁≤r∧∃o,A.heap[r]?=some o∧o.isCells=false):fM w b m g n₁ B:=by
 have hs:=h.size;have hk:∀k,k<n₁→B.heap[k]?=A.heap[k]?:=fun k hk=>hg.block k (by omega) (fun e=>by have:=(hr k e.symm).1;omega);exact⟨h.old.grown hg h.old.size (fun k e=>by have:=(hr k e).1;omega),(hk _ (by omega)).trans h.ptr,(hk _ (by omega)).trans h.res,h.now.fH hg hr,aK h.size hg.size⟩
theorem fM.set{w:World}{b m:Nat}{g g':Nat→Int}{n₁:Nat}{W W':World}(h:fM w b m g n₁ W)(hn:jo W' w.heap.size (w.heap.size+2) m g')(hf:zM W W' w.heap.size (w.heap.size+2)):fM w b m g' n₁ W':=
 ⟨h.old.trans (hf.low (by omega)),hf.blk h.ptr (by omega) (by decide),hf.blk h.res (by omega) (by decide),hn,aK h.size hf.keep.size⟩
theorem zO{w:World}{c l r:Nat}(h:af w c #[.int .i64 (l:Int),.int .i64 (r:Int)] 175){o:Oper}{a:Act}(x:Operand)(ho:o.op=.load 175 x)(hx:a.eval x=.pointer (some ⟨c,0,none⟩)):(execOp a.eval o).run prog w=.ok (.value (.agg #[.int .i64 (l:Int),.int .i64 (r:Int)])) w:=by
 unfold execOp;simp only[ho,hx,Instr.loadAt,Instr.sureAddr,Sem.run_bind,Sem.run_pure,Result.andThen_ok,run_loadVar_mid w c 0 175 [.int .i64 (l:Int),.int .i64 (r:Int)] _ (jF h) underlying175 rfl bZ]
theorem Hr{W:World}{k D:Nat}(o:Obj)(h:D≠k):(W.putObj D o).heap[k]?=W.heap[k]?:=by
 simp[World.putObj,Array.getElem?_setIfInBounds,h]
def gI(ol:List Int)(pre:List Nat):Nat→Int:=fun k=>if k∈pre then ol.getD k 0 else 0
theorem Hs(ol:List Int)(pre:List Nat)(k:Nat):gI ol (pre++[k])=fI (gI ol pre) k (ol.getD k 0):=by
 funext j;unfold gI fI;by_cases h:j=k
 ·subst h;simp
 ·simp[h]
def iF(m:Nat)(ol:List Int)(pl:List Int)(od:List Nat):Nat→Int:=fun k=>if k∈od then pl.getD k 0 else gI ol (cE m) k
theorem zP:∀{L:List (Nat×Nat)} {k:Nat} {q:Nat×Nat},L[k]?=some q→∀(j:Nat) (u:Value),[Value.int .i64 (q.1:Int),.int .i64 (q.2:Int)][j]?=some u→(jn L)[k*2+j]?=some u
 |[],k,q,h,j,u,hu=>by simp at h
 |x::L,0,q,h,j,u,hu=>by
  obtain rfl:x=q:=by simpa using h
  have hj:j<2:=(List.getElem?_eq_some_iff.1 hu).1;have e1:jn (x::L)=[Value.int .i64 (x.1:Int),.int .i64 (x.2:Int)]++jn L:=rfl;rw[e1,Nat.zero_mul,Nat.zero_add,List.getElem?_append_left hj];exact hu
 |x::L,k+1,q,h,j,u,hu=>by
  have ih:=zP (L:=L) (k:=k) (q:=q) (by simpa using h) j u hu;have e1:jn (x::L)=[Value.int .i64 (x.1:Int),.int .i64 (x.2:Int)]++jn L:=rfl;rw[e1,List.getElem?_append_right (by show 2≤_;omega)];have e2:(k+1)*2+j-[Value.int .i64 (x.1:Int),.int .i64 (x.2:Int)].length=k*2+j:=by show(k+1)*2+j-2=_;omega
  rw[e2];exact ih
theorem Fl.cD{W:World}{base b:Nat}{C:Array Value}{R:Nat→Value}{LL:Nat→List Int}{vo:Value}{od:List (Nat×Nat)}{cu:Int}(h:Fl W base b C R LL vo od cu){k:Nat}{q:Nat×Nat}(hq:od[k]?=some q):∃g oc,vo=.slice (some ⟨g,0,none⟩) od.length oc∧W.rangeAt g (k*2) [.int .i64 (q.1:Int),.int .i64 (q.2:Int)]:=by
 have hk:k<od.length:=(List.getElem?_eq_some_iff.1 hq).1;rcases h.cA.2 with⟨_,h0⟩|⟨g,cap,cur,e0,_⟩
 ·omega
 ·refine⟨g,cap,e0,fun j u hu=>?_⟩;have:=h.cA.cells (g:=g) (by rw[e0];rfl) (k*2+j) u (zP hq j u hu);rw[Addr.add_mid,Nat.zero_add] at this;exact this
def Ht(w w':World)(m:Nat)(g:Nat→Int)(e:Ending):Prop:=∃(C:Array Value) (sl:Nat→Value) (Ls:Nat→List Int),e=.returned (.agg C)∧C.size=3∧(∀l,l<3→C[l]?=some (sl l))∧(∀l,l<3→w'.ownsRow w.heap.size 3 1 (sl l) (Ls l).length ((Ls l).map (Value.int .i64)))∧(∀l m,l<3→m<3→l≠m→(sl l).ownBlock=none∨(sl l).ownBlock≠(sl m).ownBlock)∧ke m g Ls∧Below w.heap.size w w'
theorem Hu(base b m n:Nat)(bf ol:List Int)(R:Nat→Value)(vo:Value)(s:FD)(w:World)(h:ef w base b m bf ol s R vo)(hwf:cF m n s)(hm:m=(n+127)/128)(hn:n≤2048):
 Calls prog 103 #[.pointer (some ⟨b,0,none⟩)] w fun e w'=>Ht w w' m (iF m ol s.pl s.od) e:=by
 have Oi:m≤16:=by omega
 obtain⟨W0,hW0⟩:∃W0,W0=((w.alloc (.cells #[.pointer (some ⟨b,0,none⟩)] 117)).alloc (.cells #[.slice none 0 0,.slice none 0 0,.slice none 0 0] 110)).alloc (.cells #[.slice none 0 0,.slice none 0 0,.slice none 0 0] 110):=⟨_,rfl⟩;have hs0:W0.heap.size=w.heap.size+3:=by rw[hW0];simp
 have B0:=ae (Below w.heap.size w W0) (by rw[hW0];exact((ak.alloc aj _).alloc (by simp) _).alloc (by simp;omega) _);have K0:=ae (af W0 w.heap.size #[.pointer (some ⟨b,0,none⟩)] 117) (by rw[hW0];exact((af.new w _ _).alloc _).alloc _);have K1:=ae (af W0 (w.heap.size+1) #[.slice none 0 0,.slice none 0 0,.slice none 0 0] 110) (by rw[hW0];have h:=(af.new (w.alloc (.cells #[.pointer (some ⟨b,0,none⟩)] 117)) #[.slice none 0 0,.slice none 0 0,.slice none 0 0] 110).alloc (.cells #[.slice none 0 0,.slice none 0 0,.slice none 0 0] 110);simpa using h);have K2:=ae (af W0 (w.heap.size+2) #[.slice none 0 0,.slice none 0 0,.slice none 0 0] 110) (by rw[hW0];have h:=(af.new ((w.alloc (.cells #[.pointer (some ⟨b,0,none⟩)] 117)).alloc (.cells #[.slice none 0 0,.slice none 0 0,.slice none 0 0] 110)) #[.slice none 0 0,.slice none 0 0,.slice none 0 0] 110);simpa using h);obtain⟨Wl,NK⟩:∃Wl,Wl=W0.alloc (.cells #[.pointer (some ⟨b,0,none⟩)] 117):=⟨_,rfl⟩;have bW:Below W0.heap.size W0 Wl:=by rw[NK];exact ak.alloc aj _
 have hsl:Wl.heap.size=w.heap.size+4:=by rw[NK];simp[hs0]
 have HXB:=ae (Boxed Wl (w.heap.size+3) 117 (.pointer (some ⟨b,0,none⟩))) (by rw[NK, ←hs0];exact Boxed.new W0 _ _);have I0:=ae (fM w b m (gI ol []) Wl.heap.size Wl) (⟨B0.out.trans (bW.mono (by omega)),K0.out.below bW K0.out.lt,K1.out.below bW K1.out.lt,⟨#[.slice none 0 0,.slice none 0 0,.slice none 0 0],fun _=>.slice none 0 0,fun _=>[],⟨K2.out.below bW K2.out.lt,fun l hl=>by
  rcases(show l=0∨l=1∨l=2 by omega) with rfl|rfl|rfl<;>rfl,fun l _=>World.ownsRow_nil _ _ _ _,fun _ _ _ _ _=>.inl rfl⟩,rfl,⟨by simp,fun k _=>by simp[gI],by simp,by simp[gI],rfl⟩⟩,aj⟩)
 have HW0:=aa hW0;have Tw:=aa NK;have H:=aa (ai h (ai hwf (ai hm bW)));have Vx:=ae (∃g gc,Wl.cell? ⟨b,1,none⟩=some (.slice (some ⟨g,0,none⟩) n gc)) (by
  obtain⟨C',LL,hF,hR⟩:=h.below (show Below w.heap.size w Wl from I0.out.old);have hwn:(LL 1).length=n:=by rw[hR.ws];exact hwf.wl
  obtain⟨g,gc,_,_,hx,_⟩:=hF.nh (by rw[hwn];have:=hwf.cu;omega);rw[hwn] at hx;exact⟨g,gc,hx⟩)
 obtain⟨g,gc,hx1⟩:=Vx.out;have HX:=aa hx1;have NB:=aa hs0;have HSL:=aa hsl;clear h hwf bW hW0 NK hx1 Vx hs0;clear hm;have c0:=(K0.out.cell 0).trans (show _=some (.pointer (some ⟨b,0,none⟩)) from rfl);refine(callsIn_wide (n:=6)).1 ?_;refine callsIn_of_wp_marks func103 rfl trivial ?_ rfl;simp only[ntmps103,List.size_toArray,List.length_cons,List.length_nil,Nat.reduceAdd,Nat.reduceSub,Array.replicate_succ,Array.replicate_zero,List.push_toArray,List.append_toArray,List.nil_append,List.cons_append];gi_upto_region 2 with fail
 rw[←HW0.out];gi_wp2_with (refine⟨trivial,?_⟩;gi_at_call 100;fail)
 refine⟨trivial,?_⟩;refine(zF _ b _).mono ?_;rintro e w' ⟨rfl,rfl⟩;rw[←Tw.out,NB.out];gi_wp2
 clear c0;have hmx:prog.follows .mixedOrders=true:=by kernel_rfl
 refine wpIn_rangeFunc_ownH rfl (by omega) (gf:=135) (lb:=#[.pointer (some ⟨w.heap.size+3,0,none⟩)]) rfl trivial (enters_of func135 (by kernel_rfl) rfl)
  (zG 5 (by omega) (w.heap.size+3) b g n gc m H.out.2.2.1 hn Wl HXB.out HX.out) (fun _ _=>trivial) (fun _ _ _ _ _ _ _ _=>trivial) ak (fun _=>rfl)
  (fun pre W=>fM w b m (gI ol (pre.map (·.1))) Wl.heap.size W)
  (fun cd pre W=>False)
  (by intro pre A B row h hg hr;exact fM.fH (by omega) h hg hr)
  (by rintro cd pre A B row h hg hr;exact h)
  I0.out
  (fun x a' Wx=>∃c,a'={tmps:=#[.pointer (some ⟨b,0,none⟩),.pointer (some ⟨w.heap.size,0,none⟩),.pointer (some ⟨w.heap.size+1,0,none⟩),.pointer (some ⟨w.heap.size+1+1,0,none⟩),.pointer (some ⟨c,0,none⟩),undef,undef,.pointer (some ⟨b,0,none⟩),.func (.func 135) #[] #[.pointer (some ⟨w.heap.size+3,0,none⟩)],.agg #[.int .i64 ((aR m x.1).1:Int),.int .i64 ((aR m x.1).2:Int)],undef,undef,undef,undef,undef,undef,undef,undef,undef,undef,undef,undef,undef,undef,undef,undef,undef,undef,undef,undef,undef,undef,undef,undef,undef],defers:=[]}∧af Wx c #[.int .i64 ((aR m x.1).1:Int),.int .i64 ((aR m x.1).2:Int)] 175∧Wl.heap.size≤c)
  (by
   rintro x a' _ A B row ⟨c,h1,h2,h3⟩ hg hr;refine⟨c,h1,(hg.block c h2.lt (fun e=>?_)).trans h2,h3⟩;obtain⟨_,o,ho,hc⟩:=hr c e.symm;have h2':A.heap[c]?=some (Obj.cells _ _ _):=h2;rw[h2'] at ho;cases ho
   cases hc)
  ?assign ?body ?done ?stop
 case assign=>
  rintro l pre x Wx K hI hK;have HK:=aa (ai hI hK);clear hI hK;unfold mD;generalize (aR m x.1).1=lv at HK⊢;generalize (aR m x.1).2=rk at HK⊢;gi_wp2
  have bA:Below Wx.heap.size Wx (Wx.alloc (.cells #[.int .i64 (lv:Int),.int .i64 (rk:Int)] 175)):=ak.alloc aj _;exact HK.out.2 _ _ ((KeepsOthers.alloc _ _).from _) trivial (HK.out.1.below bA) ⟨_,rfl,af.new _ _ _,HK.out.1.size⟩
 case body=>
  rintro l pre x a' Wx hl hr hI ⟨c,rfl,kc,hcl⟩ QE;have hk2:=s4 x.2;obtain⟨k,hkx⟩:∃k,k=x.1:=⟨_,rfl⟩;have HG:=ae (gI ol ((pre++[x]).map (·.1))=fI (gI ol (pre.map (·.1))) k (ol.getD k 0)) (by rw[List.map_append,hkx];exact Hs ol _ _);rw[←hkx] at kc hk2⊢;obtain⟨hp1,hp2⟩:=rQ m k Oi;obtain⟨C,LL,hF,oX⟩:=H.out.1;have HF:=aa (ai hF oX);have HO:=ae ((LL (2+(aR m k).1)).getD (aR m k).2 0=ol.getD k 0) (oX.was hk2);obtain⟨lv,hlv⟩:∃lv,lv=(aR m k).1:=⟨_,rfl⟩;obtain⟨rk,PZ⟩:∃rk,rk=(aR m k).2:=⟨_,rfl⟩;have Po:=aa (ai hlv PZ);rw[←hlv] at kc hp1 HO⊢;rw[←PZ] at kc hp2 HO⊢;obtain⟨gP,hgP⟩:∃gP,gP=gI ol (pre.map (·.1)):=⟨_,rfl⟩;rw[←hgP] at hI HG;obtain⟨ok,hok⟩:∃ok,ok=ol.getD k 0:=⟨_,rfl⟩;rw[←hok] at HO HG;have HI:=aa hI;have hsl4:w.heap.size+4≤c:=by omega
  clear hkx hlv PZ hgP hok hF oX hI QE;gi_upto_region 4 with fail
  refine wpIn_region_any (by assumption) ?_;change wpAnyIn _ _ _ _ _ _ _ _ _ (World.drew Wx);have bD:Below Wx.heap.size Wx (World.drew Wx):=ak.drew;have hcx:c<Wx.heap.size:=kc.lt;refine Hp [(1,.pointer (some ⟨w.heap.size,0,none⟩)),(3,.pointer (some ⟨w.heap.size+1+1,0,none⟩)),(4,.pointer (some ⟨c,0,none⟩))] (fun W=>af W c #[.int .i64 (lv:Int),.int .i64 (rk:Int)] 175∧(fM w b m gP Wl.heap.size W∨fM w b m (fI gP k ok) Wl.heap.size W)∧KeepsOthers Wx W) (fun i v W=>match i with|0=>v=.agg #[.int .i64 (lv:Int),.int .i64 (rk:Int)]|1=>v=.pointer (some ⟨b,0,none⟩)|2=>v=.pointer (some ⟨b,0,none⟩)|3=>v=.pointer (some ⟨b,2,none⟩)|4=>v=.agg #[.int .i64 (lv:Int),.int .i64 (rk:Int)]|5=>v=.int .i64 ok|_=>fM w b m (fI gP k ok) Wl.heap.size W) 35 [] (by kernel_rfl) ?hstep ?hfin _ _ rfl rfl ⟨kc.below bD kc.lt,.inl (HI.out.below bD),mG bD⟩ (by
   intro t v h;simp only[List.mem_cons,List.not_mem_nil,or_false,Prod.mk.injEq] at h;rcases h with⟨rfl,rfl⟩|⟨rfl,rfl⟩|⟨rfl,rfl⟩<;>rfl)
  case hstep=>
   intro i o listed ac W hi hall bL;have hS:=bL.held;have f1:ac.tmps.getD 1 undef=.pointer (some ⟨w.heap.size,0,none⟩):=bL.fix 1 _ (by simp);have f3:ac.tmps.getD 3 undef=.pointer (some ⟨w.heap.size+1+1,0,none⟩):=bL.fix 3 _ (by simp);have f4:ac.tmps.getD 4 undef=.pointer (some ⟨c,0,none⟩):=bL.fix 4 _ (by simp);have VB:af W w.heap.size #[.pointer (some ⟨b,0,none⟩)] 117:=(by rcases hS.2.1 with h|h<;>exact h.ptr);have cP:=(VB.cell 0).trans (show _=some (.pointer (some ⟨b,0,none⟩)) from rfl);have hold:Below w.heap.size w W:=(by rcases hS.2.1 with h|h<;>exact h.old);have hN:jo W w.heap.size (w.heap.size+2) m gP∨jo W w.heap.size (w.heap.size+2) m (fI gP k ok):=(by rcases hS.2.1 with h|h;exact .inl h.now;exact .inr h.now);clear VB;match i,hi with
   |0,hi=>
    obtain rfl:=Option.some.inj hi;exact⟨by rfl,fun K hK=>pU (fun c h=>by cases h) (fun c h=>by cases h) (zO hS.1 (.tmp 4) rfl f4) (hK.out _ _ rfl hS (fun _ _ h=>h))⟩
   |1,hi=>
    obtain rfl:=Option.some.inj hi;exact⟨by rfl,fun K hK=>pU (fun c h=>by cases h) (fun c h=>by cases h) (by go_simp) (hK.out _ _ rfl hS (fun _ _ h=>h))⟩
   |2,hi=>
    obtain rfl:=Option.some.inj hi;have v1:ac.tmps.getD 11 undef=.pointer (some ⟨b,0,none⟩):=bL.at hall 1 11 rfl rfl (by rfl);exact⟨by rfl,fun K hK=>pU (fun c h=>by cases h) (fun c h=>by cases h) (by go_simp) (hK.out _ _ rfl hS (fun _ _ h=>h))⟩
   |3,hi=>
    obtain rfl:=Option.some.inj hi;have v2:ac.tmps.getD 12 undef=.pointer (some ⟨b,0,none⟩):=bL.at hall 2 12 rfl rfl (by rfl);exact⟨by rfl,fun K hK=>pU (fun c h=>by cases h) (fun c h=>by cases h) (by go_simp) (hK.out _ _ rfl hS (fun _ _ h=>h))⟩
   |4,hi=>
    obtain rfl:=Option.some.inj hi;exact⟨by rfl,fun K hK=>pU (fun c h=>by cases h) (fun c h=>by cases h) (zO hS.1 (.tmp 4) rfl f4) (hK.out _ _ rfl hS (fun _ _ h=>h))⟩
   |5,hi=>
    obtain rfl:=Option.some.inj hi;have v3:ac.tmps.getD 13 undef=.pointer (some ⟨b,2,none⟩):=bL.at hall 3 13 rfl rfl (by rfl);have v4:ac.tmps.getD 14 undef=.agg #[.int .i64 (lv:Int),.int .i64 (rk:Int)]:=bL.at hall 4 14 rfl rfl (by rfl);refine⟨by rfl,fun K hK=>?_⟩;go_simp;refine⟨trivial,(CallsIn.inRound l (callsIn_wide.2 (kW b 2 lv rk C 185 _ _ base W (HF.out.1.below hold).old (by omega) (by omega)))).mono ?_⟩;rintro e W2 ⟨rfl,b2⟩;show K (ac.put (some 15) _) W2;refine hK.out _ _ (show _=_ by rw[HO.out]) ⟨hS.1.below b2 hS.1.lt,hS.2.1.imp (fun h=>h.below b2) (fun h=>h.below b2),hS.2.2.trans (mG b2)⟩ (fun j u h=>?_);match j,h with
    |0,h=>exact h
    |1,h=>exact h
    |2,h=>exact h
    |3,h=>exact h
    |4,h=>exact h
    |5,h=>exact h
    |j'+6,h=>exact fM.below h b2
   |6,hi=>
    obtain rfl:=Option.some.inj hi;have v0:ac.tmps.getD 10 undef=.agg #[.int .i64 (lv:Int),.int .i64 (rk:Int)]:=bL.at hall 0 10 rfl rfl (by rfl);have v5:ac.tmps.getD 15 undef=.int .i64 ok:=bL.at hall 5 15 rfl rfl (by rfl);have Rj:=ae (∃g2,jo W w.heap.size (w.heap.size+2) m g2∧fM w b m g2 Wl.heap.size W∧fI g2 k ok=fI gP k ok) (by
     rcases hS.2.1 with h|h
     ·exact⟨_,h.now,h,rfl⟩
     ·exact⟨_,h.now,h,Hq _ _ _⟩)
    obtain⟨g2,hg2,hi2,he2⟩:=Rj.out;have HS:=aa (ai hS (ai hg2 (ai hi2 he2)));have HHo:=aa hold;clear hS hN hold hg2 hi2 he2 Rj cP;refine⟨by rfl,fun K hK=>?_⟩;go_simp;have hcall:=zN w.heap.size (w.heap.size+2) m k g2 ok W HS.out.2.1 hk2 Oi HHo.out.size;rw[←Po.out.1, ←Po.out.2] at hcall;refine⟨trivial,(CallsIn.inRound l (callsIn_wide.2 hcall)).mono ?_⟩;rintro e W2 ⟨rfl,n2,f2⟩;rw[HS.out.2.2.2] at n2;have hI2:=HS.out.2.2.1.set n2 f2;show K (ac.put (some 16) _) W2;refine hK.out _ _ hI2 ⟨f2.blk HS.out.1.1 (by omega) (by decide),.inr hI2,HS.out.1.2.2.trans f2.keep⟩ (fun j u h=>?_);match j,h with
    |0,h=>exact h
    |1,h=>exact h
    |2,h=>exact h
    |3,h=>exact h
    |4,h=>exact h
    |5,h=>exact h
    |j'+6,h=>exact hI2
   |k'+7,hi=>simp at hi
  case hfin=>
   intro listed ac W hall bL;have h6:fM w b m (fI gP k ok) Wl.heap.size W:=bL.vals 6 _ 16 rfl (hall 6 (by decide)) rfl;refine⟨bL.held.2.2.from _,trivial,?_⟩;show fM w b m (gI ol ((pre++[x]).map (·.1))) Wl.heap.size W;rw[HG.out];exact h6
 case done=>
  rintro D xs W hD hS hI hK;rw[hS] at hI;obtain⟨C,LL,hF,oX⟩:=H.out.1;have HF:=aa (ai (hF.below (show Below w.heap.size w W from hI.old)) oX);obtain⟨oa,oc,hov⟩:=bO HF.out.1.cA;obtain⟨no,hno⟩:∃no,no=(s.od.map (aR m)).length:=⟨_,rfl⟩;rw[←hno] at hov;have c8:W.cell? ⟨b,8,none⟩=some (.slice oa no oc):=by rw[←hov];exact(HF.out.1.box.cell 8).trans HF.out.1.ord
  have c1:=(hI.ptr.cell 0).trans (show _=some (.pointer (some ⟨b,0,none⟩)) from rfl);have Tj:no≤17:=by rw[hno,List.length_map];have:=H.out.2.1.jb;omega
  have HI:=aa (ai hI hK);have N5:=aa (ai hno hov);clear hF oX hI hK hS hno hov;gi_upto_region 5 with fail
  refine wpIn_wide.2 ?_;go_wp2;gi_wp2
  gi_loopw [6,22] (fun u i wr=>∃(k:Nat),k≤no∧i=.int .i64 (k:Int)∧Hid (fM w b m (fun j=>if j∈s.od.take k then s.pl.getD j 0 else gI ol (cE m) j) Wl.heap.size wr∧wr.heap[D]?=some (.deferred (some [])))) (fun _ i _=>no-(intOf i).toNat)
  case atStart=>exact⟨0,Nat.zero_le _,rfl,aa ⟨by simpa using HI.out.1,HI.out.2⟩⟩
  case round=>
   obtain⟨k,hk,rfl,HO⟩:=hrel;by_cases hlt:k<no
   ·obtain⟨kk,Ns⟩:∃kk,s.od[k]?=some kk:=⟨_,List.getElem?_eq_getElem (by have:=N5.out.1;rw[List.length_map] at this;omega)⟩;have hkk:kk<m+1:=H.out.2.1.qv kk (List.mem_of_getElem? Ns);obtain⟨hp1,hp2⟩:=rQ m kk Oi;obtain⟨C,LL,hF,oX⟩:=H.out.1;have HFw:=aa (ai hF oX);obtain⟨gq,gqc,hq1,hq2⟩:=(hF.below (show Below w.heap.size w wr from HO.out.1.old)).cD (k:=k) (q:=aR m kk) (by rw[List.getElem?_map,Ns];rfl);rw[N5.out.2, ←N5.out.1] at hq1;injection hq1 with q1 q2 q3;subst q1;subst q3;have Ut:=ae ((fun j=>if j∈s.od.take (k+1) then s.pl.getD j 0 else gI ol (cE m) j)=fI (fun j=>if j∈s.od.take k then s.pl.getD j 0 else gI ol (cE m) j) kk (s.pl.getD kk 0)) (by
     funext j;unfold fI;rw[List.take_add_one,Ns];by_cases e:j=kk
     ·subst e;simp
     ·simp[e])
    have RN:=oX.given hkk;obtain⟨lv,hlv⟩:∃lv,lv=(aR m kk).1:=⟨_,rfl⟩;obtain⟨rk,PZ⟩:∃rk,rk=(aR m kk).2:=⟨_,rfl⟩;have Po:=aa (ai hlv PZ);rw[←hlv] at hq2 hp1 RN;rw[←PZ] at hq2 hp2 RN;have Qf:=aa RN;have HQ:=aa hq2;have N4:(k:Int)<(no:Int):=(by omega);clear hlv PZ hq2 RN hF oX q2 Ns;gi_upto_region 7 with fail
    refine wpIn_wide.2 ?_;go_wp2_with (first|(refine wpList_load_mid rfl 175 _ rfl gq (k*2) rfl [.int .i64 (lv:Int),.int .i64 (rk:Int)] _ HQ.out underlying175 rfl bZ ?_)|fail);gi_upto_region 8 with fail
    obtain⟨w1,hw1⟩:∃w1,w1=wr.alloc (.cells #[.int .i64 (lv:Int),.int .i64 (rk:Int)] 175):=⟨_,rfl⟩;rw[←hw1];have bA:Below wr.heap.size wr w1:=(by rw[hw1];exact ak.alloc aj _);have KS:=ae (af w1 wr.heap.size #[.int .i64 (lv:Int),.int .i64 (rk:Int)] 175) (by rw[hw1];exact af.new _ _ _);have I1:=aa (HO.out.1.below bA);have PT:=aa I1.out.ptr;have B1:=aa I1.out.old;have D1:=aa ((mG bA).same D _ HO.out.2 rfl);have hsz:w.heap.size+4≤wr.heap.size:=(by have:=HO.out.1.size;omega);clear hw1 bA;refine wpIn_wide.2 ?_;refine bg (fun w'=>af w' wr.heap.size #[.int .i64 (lv:Int),.int .i64 (rk:Int)] 175∧af w' w.heap.size #[.pointer (some ⟨b,0,none⟩)] 117) ⟨KS.out,PT.out⟩ fun hH=>?_;refine ah 0 (.agg #[.int .i64 (lv:Int),.int .i64 (rk:Int)]) rfl hH ?_ (yieldsIf_load_mid (by rfl) 175 _ rfl wr.heap.size 0 rfl [.int .i64 (lv:Int),.int .i64 (rk:Int)] _ (fun w' h=>jF h.1) underlying175 rfl bZ);refine ah 1 (.pointer (some ⟨b,0,none⟩)) rfl hH ?_ (aH fun w' hw'=>by have hc:=(af.cell hw'.2 0).trans (show _=some (.pointer (some ⟨b,0,none⟩)) from rfl);clear hw';go_simp);refine ah 2 (.pointer (some ⟨b,0,none⟩)) rfl hH ?_;refine ah 3 (.pointer (some ⟨b,5,none⟩)) rfl hH ?_;refine ah 4 (.agg #[.int .i64 (lv:Int),.int .i64 (rk:Int)]) rfl hH ?_ (yieldsIf_load_mid (by rfl) 175 _ rfl wr.heap.size 0 rfl [.int .i64 (lv:Int),.int .i64 (rk:Int)] _ (fun w' h=>jF h.1) underlying175 rfl bZ);refine aG 5 rfl fun K hK=>?_;go_simp;refine(kW b 5 lv rk C 185 _ _ base _ ((HFw.out.1.below (B1.out.drew)).rE) (by omega) (by omega)).mono ?_;rintro e W2 ⟨rfl,b2⟩;rw[Qf.out];have B2:=ae (Below w1.heap.size w1 W2) ((ak.drew).trans b2);refine hK.out _ _ ⟨KS.out.below B2.out KS.out.lt,PT.out.below B2.out PT.out.lt⟩ (fun hH=>?_);clear hK K b2;try simp only[Act.put,av,ay,az,aA,aB,aC]
    refine aG 6 rfl fun K hK=>?_;go_simp;have hcall:=zN w.heap.size (w.heap.size+2) m kk _ (s.pl.getD kk 0) W2 (I1.out.below B2.out).now hkk Oi (aK B1.out.size B2.out.size);rw[←Po.out.1, ←Po.out.2] at hcall;refine hcall.mono ?_;rintro e W3 ⟨rfl,n3,f3⟩;have I3:=aa ((I1.out.below B2.out).set n3 f3);have D3:=aa (f3.keep.same D _ ((mG B2.out).same D _ D1.out rfl) rfl);refine hK.out _ _ ⟨f3.blk (KS.out.below B2.out KS.out.lt) (by omega) (by decide),f3.blk (PT.out.below B2.out PT.out.lt) (by omega) (by decide)⟩ (fun hH=>?_);clear hK K n3 f3;try simp only[Act.put,av,ay,az,aA,aB,aC]
    refine aV ?_;clear hH;gi_wp2
    go_roundw
    case rel=>exact⟨k+1,by omega,by go_num,aa ⟨by rw[Ut.out];exact I3.out,D3.out⟩⟩
    case measure=>simp[intOf];omega
   ·have hkn:k=no:=(by omega);have HFin:=ae (fM w b m (iF m ol s.pl s.od) Wl.heap.size wr) (by
     have h:=HO.out.1;rw[List.take_of_length_le (by rw[hkn,N5.out.1,List.length_map];exact aj)] at h;exact h)
    obtain⟨C,sl,Ls,hN,hCs,hG⟩:=HFin.out.now;have HN:=aa (ai hN (ai hCs hG));have nv:=ae ((prog.info? 110).map (·.size)=some C.size) (by rw[hCs];kernel_rfl);have N3:=ae (C.all (·.oneCell')=true) (by
     rw[Array.all_eq_true];intro i hi;rw[hCs] at hi;have h1:=hN.at_ i hi;rw[Nat.zero_add] at h1;obtain⟨x,y,e⟩:=bO (hN.row i hi);have h2:C[i]=sl i:=(by have:=Array.getElem?_eq_getElem (xs:=C) (i:=i) (by omega);rw[this] at h1;exact Option.some.inj h1);rw[h2,e];rfl)
    have KN:=aa hN.box;have KR:=aa HFin.out.res;have hnl:¬((k:Int)<(no:Int)):=(by omega);clear hN hCs hG hkn hlt;gi_upto_region 10 with fail
    refine wpIn_wide.2 ?_;go_wp2_with (first|(refine wpList_load_row rfl 110 _ rfl (w.heap.size+2) rfl 110 C (0,0) _ KN.out underlying110 rfl nv.out ?_)|(refine wpList_store_row rfl 110 _ _ rfl (w.heap.size+1) C rfl rfl 110 _ KR.out nv.out (by rw[HN.out.2.1];rfl) N3.out ?_)|fail);gi_wp2
    have hD1:=HO.out.2;have hDs:D≠w.heap.size+1:=fun e=>by
     have h1:wr.heap[w.heap.size+1]?=some (.cells #[.slice none 0 0,.slice none 0 0,.slice none 0 0] 110 (0,0)):=KR.out;rw[←e,hD1] at h1;cases h1
    have hD2:(wr.setRow (w.heap.size+1) C).heap[D]?=some (.deferred (some [])):=(setRow_other wr (w.heap.size+1) D C hDs).trans hD1;refine⟨by simp,.inl ⟨_,_,rfl,run_takeDeferred hD2,?_⟩⟩;refine⟨_,results_cell_row rfl _ _ (w.heap.size+1) 110 C (0,0) _ rfl (gY _ (KR.out.row _) hD2 rfl) underlying110 rfl nv.out,?_⟩;refine⟨C,sl,Ls,rfl,HN.out.2.1,fun l hl=>by have:=HN.out.1.at_ l hl;rwa [Nat.zero_add] at this,fun l hl=>eF (HN.out.1.row l hl) (fun j hj=>?_),HN.out.1.apart,HN.out.2.2,?_⟩
    ·have h1:j≠w.heap.size+1:=fun e=>lO (HN.out.1.row l hl) KR.out (by decide) (by rw[←e];exact hj);have h2:j≠D:=fun e=>by
      rcases(HN.out.1.row l hl).2 with⟨e0,_⟩|⟨g',cap,cur,e0,_,hgg,_⟩
      ·rw[e0] at hj;cases hj
      ·rw[e0] at hj;obtain rfl:g'=j:=(by simpa [Value.ownBlock] using hj);rw[e,hD1] at hgg;cases hgg
     exact(Hr _ (fun e=>h2 e.symm)).trans (setRow_other wr (w.heap.size+1) j C h1)
    ·have hb1:Below w.heap.size w (wr.setRow (w.heap.size+1) C):=below_setRow HFin.out.old (by omega) _;exact hb1.trans (belowK_b (w:=w) aj _ D _ (.deferred none) (by omega) hD2 rfl rfl)
 case stop=>
  rintro D cd pre W hD hSp hX hK;exact absurd hX (fun h=>h)
end
section
open Go.RowKit
theorem Hv(v:Value)(w:World):Calls prog 153 #[v,.nilIface] w fun e w'=>e=.returned (.tuple #[v,.int .i64 0])∧w=w':=by
 go_enter func153,ntmps153;go_wp2;go_ret2;exact⟨rfl,rfl⟩
theorem Hw(v ev:Value)(n lo:Nat)(c:Int)(w:World)(hv:bU w lo n ev c)(hg:eM w):
 Calls prog 153 #[v,ev] w fun e w'=>e=.returned (.tuple #[.slice none 0 0,.int .i64 c])∧Below w.heap.size w w':=by
 obtain⟨t',x',rfl⟩:=hv.iface;have HV:=aa (ai hv hg);clear hv hg;go_enter func153,ntmps153;go_wp2_with (go_at_call 18;refine(ql n _ c lo _ HV.out.1 HV.out.2).mono ?_;rintro e w' ⟨rfl,hb⟩);go_ret2;exact⟨rfl,hb⟩
def mH(ws:List Int):List Int:=ws.flatMap fun v=>le 4 (v%4294967296).toNat
theorem Hx(ws:List Int)(k:Nat)(h:k<ws.length):mH (ws.take (k+1))=mH (ws.take k)++le 4 (ws.getD k 0%4294967296).toNat:=by
 unfold mH;rw[List.take_succ_eq_append_getElem h,List.flatMap_append];simp[List.getD,h]
theorem Hy(ws:List Int)(h:ws.all okW=true):mH ws=dA ws:=by
 unfold mH dA;induction ws with
 |nil=>rfl
 |cons v ws ih=>
  rw[List.all_cons,Bool.and_eq_true] at h;rw[List.flatMap_cons,List.flatMap_cons,ih h.2];have:=h.1;simp only[okW,Bool.and_eq_true,decide_eq_true_eq] at this;rw[Int.emod_eq_of_lt this.1 (by omega)]
theorem Hz(v:Value)(ws:List Int)(w:World)(h:Rd .i64 w v ws)(hg:eM w):
 Calls prog 140 #[v] w fun e w'=>∃v',e=.returned (.tuple #[v',.int .i64 (qK ws)])∧w'.ownsRow w.heap.size 5 1 v' (eE ws).length ((eE ws).map (Value.int .u8))∧Below w.heap.size w w':=by
 obtain⟨i0,hi,hz0,hz1,hz2⟩:=info_parts eO;have hm:=h.len;unfold maxLen at hm;have hb0:Below w.heap.size w (w.alloc (.cells #[.int .i64 7,.nilIface] 93)):=ak.alloc aj _;have hck:=aa (Ck.fresh w 7 93);have HG:=aa hg;clear hg;by_cases hlen:ws.length=128
 ·rcases h.parts with⟨a,cap,rfl,hlow⟩|⟨b,off,cap,rfl,hbw,hcell⟩
  ·omega
  ·have HN:Hid (ws.length=128):=hlen;rw[hlen] at hcell⊢;clear h hlen hm;go_enter func140,ntmps140;go_wp2_with fail;refine(eB w.heap.size (w.heap.size+1) _ 7 true true _ hck.out (by omega) (by simp)).mono ?_;rintro e w1 ⟨rfl,hc1,ht1⟩;have N2:=ht1.under hb0 aj (by simp);have hB1:=hc1.lt;have e1:w1.cell? ⟨w.heap.size,1,none⟩=some .nilIface:=by
    obtain⟨_,_,ev,e2,e3⟩:=hc1;rcases e3 with⟨_,rfl⟩|⟨e3,_⟩
    ·exact e2
    ·cases e3
   have Pj:=aa (hc1.Dj (lo':=w1.heap.size+1));have HB1:=aa N2;clear hc1 ht1 hck hb0 N2;go_wp2_with (refine wpList_make_own _ rfl _ _ 22 rfl w1.heap.size 5 i0 (.int .u8 0) 1 underlying22 hi hz0 hz1 .i64 .i64 512 512 rfl rfl rfl (by rw[hz2];omega) (by unfold maxLen;omega) aj ?_;intro w2 hown2 OT);have hs2:=OT.size;have hG2:=(hown2.lt w1.heap.size rfl).2;have HB2:=aa (HB1.out.grown OT (by omega) (fun k h=>by cases h));have Rf:=aa (Pj.out.keep (OT.block w.heap.size hB1 (by simp)) (fun k hk _=>OT.block k hk (by simp)));clear OT HB1 Pj e1;go_loopw [5,22] (fun o i wr=>∃k:Nat,k≤128∧i=.int .i64 k∧o=.slice (some ⟨w1.heap.size,0,none⟩) (4*k) 512∧w1.heap.size<wr.heap.size∧wr.ownsRow w1.heap.size 5 1 (.slice (some ⟨w1.heap.size,0,none⟩) (4*k) 512) (4*k) ((mH (ws.take k)).map (Value.int .u8))∧Ck wr w.heap.size (w1.heap.size+1) 7 ((ws.take k).all okW)∧Below w.heap.size w wr) (fun _ i _=>128-(intOf i).toNat)
   case atStart=>exact⟨0,by omega,rfl,rfl,hG2,by simpa [mH] using hown2,by simpa using Rf.out,HB2.out⟩
   case round=>
    clear hown2 Rf HB2 hs2 hG2;obtain⟨k,hk,rfl,rfl,hGr,hown,hck,hb⟩:=hrel;by_cases hlt:k<128
    ·have hkl:k<ws.length:=(by rw[HN.out];exact hlt);have c1:wr.cell? ⟨b,off+k,none⟩=some (.int .i64 (ws.getD k 0)):=(hb.cell (p:=⟨b,off+k,none⟩) hbw).trans (hcell k hlt);have HT:=aa (ai (Hx ws k hkl) (Ev ws k hkl));clear hcell hkl;generalize ws.getD k 0=z at c1 HT;obtain⟨q,hq⟩:∃q:Nat,z%4294967296=(q:Int):=⟨(z%4294967296).toNat,by omega⟩;have Q9:q<4294967296:=(by omega);rw[hq,Int.toNat_natCast] at HT;have HK:=aa (ai hck (ai hown hb));clear hck hown hb;go_wp2_with fail;refine(nF w.heap.size (w1.heap.size+1) _ 7 z 0 4294967295 _ _ HK.out.1 (by omega) (by omega)).mono ?_;rintro e w3 ⟨rfl,hc3,ht3⟩;have ho3:=HK.out.2.1.kept ht3.1 (.inr (by simp[Value.ownBlock];omega));have hs3:=ht3.1.size;have HB3:=aa (ht3.under HK.out.2.2 aj (by omega));have Vb:=aa hc3;clear hc3 ht3 HK;go_wp2_with fail;refine(jW w1.heap.size w1.heap.size (4*k) 512 q _ _ ho3 (by omega) (by omega) Q9).mono ?_;rintro e w4 ⟨rfl,PY,hg4⟩;have hs4:=hg4.size;have HW:=ae (w4.ownsRow w1.heap.size 5 1 (.slice (some ⟨w1.heap.size,0,none⟩) (4*(k+1)) 512) (4*(k+1)) ((mH (ws.take (k+1))).map (Value.int .u8))∧Ck w4 w.heap.size (w1.heap.size+1) 7 ((ws.take (k+1)).all okW)∧Below w.heap.size w w4) (by
      refine⟨?_,?_,HB3.out.grown hg4 (by omega) (fun r h=>by cases h;omega)⟩
      ·rw[HT.out.1,List.map_append,show 4*(k+1)=4*k+4 by omega];exact PY
      ·rw[HT.out.2];exact Vb.out.grown hg4 (by omega) (by omega))
     clear ho3 PY hg4 HB3 Vb hq;go_wp2;go_roundw
     case rel=>exact⟨k+1,by omega,by go_num,by rw[show 4*(k+1)=4*k+4 by omega],by omega,HW.out.1,HW.out.2.1,HW.out.2.2⟩
     case measure=>simp[intOf];omega
    ·have PX:k=128:=(by omega);subst PX;have ht:ws.take 128=ws:=List.take_of_length_le (by rw[HN.out];omega);rw[ht] at hown hck;obtain⟨c1,c2,ev,c3,c4⟩:=hck;rcases c4 with⟨hal,rfl⟩|⟨hal,n,c4⟩
     ·have VC:=ae (jA ws=true) (by unfold jA;simp[HN.out,hal]);have HM:=aa (Hy ws hal);have HO:=aa hown;clear hal hown ht hcell;go_wp2_with (go_at_call 153;refine(Hv _ _).mono ?_;rintro e w5 ⟨rfl,rfl⟩);go_ret2;refine⟨_,by rw[qK,VC.out];rfl,?_,hb⟩;rw[eE,if_pos VC.out,pF,HN.out, ←HM.out];exact cH HO.out (by omega)
     ·have VC:=ae (jA ws=false) (by unfold jA;simp[hal]);obtain⟨t',x',rfl⟩:=c4.iface;have H4:=aa c4;clear hal hown ht hcell c4;go_wp2_with (go_at_call 153;refine(Hw _ _ n _ 7 _ H4.out (HG.out.below hb)).mono ?_;rintro e w5 ⟨rfl,hb5⟩);go_ret2;exact⟨_,by rw[qK,VC.out];rfl,by rw[eE,VC.out];exact World.ownsRow_nil _ _ _ _,hb.trans (hb5.mono hb.size)⟩
 ·obtain⟨a,cap,rfl,_,_⟩:=h;have hq:((ws.length:Int)==128)=false:=by simp;omega
  have HB:=ae (jA ws=false) (by unfold jA;simp[hlen]);clear hlen;go_enter func140,ntmps140;go_wp2_with fail;refine(eB w.heap.size (w.heap.size+1) _ 7 true false _ hck.out (by omega) (by simp)).mono ?_;rintro e w1 ⟨rfl,hc1,ht1⟩;have N2:=ht1.under hb0 aj (by simp);obtain⟨c1,c2,ev,c3,c4⟩:=hc1;rcases c4 with⟨c4,_⟩|⟨_,n,c4⟩
  ·cases c4
  ·obtain⟨t',x',rfl⟩:=c4.iface;have H4:=aa c4;clear c4 ht1;go_wp2_with (go_at_call 18;refine(ql n _ 7 _ _ H4.out (HG.out.below N2)).mono ?_;rintro e w2 ⟨rfl,hb2⟩);go_ret2;exact⟨_,by rw[qK,HB.out];rfl,by rw[eE,HB.out];exact World.ownsRow_nil _ _ _ _,N2.trans (hb2.mono N2.size)⟩
theorem uS(ms:List Int)(w:World)(hl:ms.length=128)(hg:eM w):
 Calls prog 106 #[.agg (ms.map (Value.int .i64)).toArray] w fun e w'=>∃v',e=.returned v'∧w'.ownsRow w.heap.size 5 1 v' (eE ms).length ((eE ms).map (Value.int .u8))∧Below w.heap.size w w':=by
 obtain⟨W1,hW1⟩:∃W1,W1=w.alloc (.cells (ms.map (Value.int .i64)).toArray 192):=⟨_,rfl⟩;have B1:=ae (Below w.heap.size w W1) (by rw[hW1];exact ak.alloc aj _);have HR:=ae (Rd .i64 W1 (.slice (some ⟨w.heap.size,0,none⟩) 128 128) ms) (by rw[hW1];exact yU (n:=128) (af.new w _ _) hl.symm (by omega));have HG:=aa (hg.below B1.out);obtain⟨M,hM⟩:∃M,M=(ms.map (Value.int .i64)).toArray:=⟨_,rfl⟩;rw[←hM] at hW1⊢;have HW1:=aa hW1;clear hW1 hl hg hM;go_enter func106,ntmps106;go_upto_region 1 with fail;rw[←HW1.out];go_wp2_with (go_at_call 140;refine(Hz _ ms _ HR.out HG.out).mono ?_;rintro e w1 ⟨v1,rfl,o1,b1⟩;have O1:=aa (ai o1 b1);clear o1 b1);go_ret;exact⟨_,rfl,cH O1.out.1 B1.out.size,B1.out.trans (O1.out.2.mono B1.out.size)⟩
end
section
open Go.RowKit
def bP(T:TypeId→Prop)(W W':World):Prop:=∀b,b<W.heap.size→(∀c t s,W.heap[b]?=some (.cells c t s)→¬T t)→W'.heap[b]?=W.heap[b]?
section
variable {T:TypeId→Prop} {W W' W2:World} {base d:Nat}
theorem bP.refl(T:TypeId→Prop)(W:World):bP T W W:=fun _ _ _=>rfl
theorem bP.trans(h:bP T W W')(k:bP T W' W2):bP T W W2:=fun b hb hT=>by
 have e:=h b hb hT;have hb2:b<W'.heap.size:=by
  have h1:W.heap[b]?=some (W.heap[b]):=Array.getElem?_eq_getElem hb;rw[←e] at h1;exact(Array.getElem?_eq_some_iff.1 h1).1
 exact(k b hb2 (fun c t s hc=>hT c t s (by rw[←e];exact hc))).trans e
theorem bP.below(h:bP T W W')(hb:Below W'.heap.size W' W2):bP T W W2:=h.trans (fun b hb' _=>hb.block b hb')
theorem bP.alloc(h:bP T W W')(o:Obj):bP T W (W'.alloc o):=h.below (ak.alloc aj _)
theorem bP.pV{e:TypeId}{sz n:Nat}{v:Value}{xs:List Value}(h:bP T W W')(ho:W'.ownsRow base e sz v n xs)(hT:T e)(hg:W'.grownBy W2 v.ownBlock):bP T W W2:=by
 refine h.trans (fun b hb ON=>hg.block b hb (fun e'=>?_));rcases ho.2 with⟨rfl,_⟩|⟨g,cap,cur,rfl,_,hgg,_⟩
 ·cases e'
 ·have:b=g:=Option.some.inj e';subst this;exact ON _ _ _ hgg hT
theorem bP.setCell{C:Array Value}{t:TypeId}{j:Nat}{u:Value}(h:bP T W W')(hB:af W' d C t)(hT:T t):bP T W (W'.setCell ⟨d,j,none⟩ u):=
 h.trans (fun b hb ON=>Below.heap_setCell _ _ _ _ (fun e=>by
  have h1:W'.heap[d]?=some (.cells C t (0,0)):=hB;simp only at e;subst e;exact ON _ _ _ h1 hT))
theorem bP.own{e:TypeId}{sz n:Nat}{v:Value}{xs:List Value}(h:bP T W W')(ho:W.ownsRow base e sz v n xs)(hT:¬T e):W'.ownsRow base e sz v n xs:=by
 refine⟨ho.1,?_⟩;rcases ho.2 with hn|⟨g,cap,cur,rfl,hb,hgg,rest⟩
 ·exact .inl hn
 ·refine .inr ⟨g,cap,cur,rfl,hb,?_,rest⟩;rw[h g (Array.getElem?_eq_some_iff.1 hgg).1 (fun c t s hc=>by rw[hgg] at hc;injection hc with hc;injection hc with _ hc _;rw[←hc];exact hT)];exact hgg
theorem bP.blk{C:Array Value}{t:TypeId}(h:bP T W W')(hB:af W d C t)(hT:¬T t):af W' d C t:=by
 have h1:W.heap[d]?=some (.cells C t (0,0)):=hB;show W'.heap[d]?=_;rw[h d (Array.getElem?_eq_some_iff.1 h1).1 (fun c t' s hc=>by rw[h1] at hc;injection hc with hc;injection hc with _ hc _;rw[←hc];exact hT)];exact h1
theorem bP.pW{e:TypeId}{m:Nat}{v:Value}{L:List NE}{vs:List Value}(h:bP T W W')(ho:aZ W base e m v L vs)(hT:¬T e)(ON:¬T 5):aZ W' base e m v L vs:=
 ⟨ho.len,ho.pre,h.own ho.row hT,fun i u l hu hl=>h.own (ho.dat i u l hu hl) ON,ho.one⟩
end
end
end Go.Proofs.YtpplnhkpcpieoaaGreatDoor
