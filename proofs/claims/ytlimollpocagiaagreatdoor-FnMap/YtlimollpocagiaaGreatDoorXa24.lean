/- The iterator over the free blocks of a map: its contract -/
import Derived.Test.YtlimollpocagiaaGreatDoorXa23
namespace Go.Proofs.YtlimollpocagiaaGreatDoor
open Go.Proofs.Tryz
open _root_.List (size_toArray length_cons length_nil push_toArray nil_append cons_append)
set_option linter.all false
set_option maxRecDepth 100000
set_option maxHeartbeats 16000000
section
open Go.RowKit Go.Shelf
attribute [local go_sem] Oper.semAt_some
def Kf(n₀ X:Nat)(W W':World):Prop:=Below n₀ W W'∧W'.heap[X]?=W.heap[X]?
theorem Kf.box{n₀ X:Nat}{W W':World}{t:TypeId}{v:Value}(h:Kf n₀ X W W')(hb:Boxed W X t v):Boxed W' X t v:=h.2.trans hb
theorem Kf.trans{n₀ X:Nat}{A B C:World}(h:Kf n₀ X A B)(k:Kf n₀ X B C):Kf n₀ X A C:=⟨h.1.trans k.1,k.2.trans h.2⟩
theorem Bp(n:Nat)(hn:1≤n)(l X1 X2 n₀:Nat)(ws:List Int)(c:Nat)(bw off cap:Nat)(h2:2≤c)(hc:c<ws.length)(hl:ws.length≤2048)(hbw:bw<n₀)(J Jx:List Int→World→Prop)
 (hY:∀pre x W,J pre W→pre.length<(jh ws c).length→2≤x∧x<(ws.length:Int)→YieldAt Fence.wide (n-1) prog l #[.int .i64 x] W fun e W'=>
  (e=.returned (.bool true)∧J (pre++[x]) W'∧Kf n₀ X2 W W')∨(e=.returned (.bool false)∧Jx (pre++[x]) W'))
 (W:World) (hX1:Boxed W X1 3 (.int .i64 (c:Int))) (hX2:Boxed W X2 29 (.slice (some ⟨bw,off,none⟩) ws.length cap)) (hcell:∀i,i<ws.length→W.cell? ⟨bw,off+i,none⟩=some (.int .i64 (ws.getD i 0))) (h0:J [] W):
 CallsIn Fence.wide n prog 115 #[.func (.yield l) #[] #[],.pointer (some ⟨X1,0,none⟩),.pointer (some ⟨X2,0,none⟩)] W fun e W'=>(∃v,e=.returned v)∧
  ((∃ys,ys=jh ws c∧J ys W')∨(∃pre,pre<+:jh ws c∧Jx pre W')):=by
 have HN:=aa (sy ws c);have c1:=hX1.cell;have c2:=hX2.cell;have HO:=ae (∀i,i<ws.length-2→(2≤bJ ws.length c i∧bJ ws.length c i<ws.length)∧((bJ ws.length c (i+1):Nat):Int)=cf ws.length (bJ ws.length c i:Nat)) (fun i hi=>⟨pq _ _ _ h2 hc hi,yB _ _ _ h2 hc hl hi⟩);have HZ:=aa (yA ws.length c hc);have HS:=aa (ag hX2 (ag hcell h0));have HF0:=ae (gV ws c 0=[]) rfl;have HY:=aa hY;clear hX1 hX2 hcell h0 hY;refine callsIn_of_wp func115 rfl trivial ?_ rfl;simp only[ntmps115,size_toArray,length_cons,length_nil,Nat.reduceAdd,Nat.reduceSub,Array.replicate_succ,Array.replicate_zero,push_toArray,List.append_toArray,nil_append,cons_append];gi_wp2
 clear c1 c2;gi_loopw [4,9] (fun b i wr=>∃k:Nat,k≤ws.length-2∧i=.int .i64 k∧b=.int .i64 (bJ ws.length c k:Nat)∧Boxed wr X2 29 (.slice (some ⟨bw,off,none⟩) ws.length cap)∧(∀i,i<ws.length→wr.cell? ⟨bw,off+i,none⟩=some (.int .i64 (ws.getD i 0)))∧J (gV ws c k) wr)
  (fun _ i _=>ws.length-2-(intOf i).toNat)
 case atStart=>
  exact⟨0,by omega,rfl,by rw[HZ.out],HS.out.1,HS.out.2.1,by rw[HF0.out];exact HS.out.2.2⟩
 case round=>
  obtain⟨k,hk,rfl,rfl,hb2,hcl,hJ⟩:=hrel;have HK:=aa (ag hb2 (ag hcl hJ));clear hb2 hcl hJ HS;by_cases hlt:k<ws.length-2
  ·obtain⟨⟨ho1,ho2⟩,ho3⟩:=HO.out k hlt;have HO3:=aa ho3;have cb:=HK.out.1.cell;have cw:=HK.out.2.1 (bJ ws.length c k) ho2;have HFy:=aa (su ws c k);have HFn:=aa (sx ws c k);have hlt':(k:Int)<(ws.length:Int)-2:=(by omega);obtain⟨o,ho⟩:∃o,o=bJ ws.length c k:=⟨_,rfl⟩;rw[←ho] at ho1 ho2 cw HFy HFn HO3⊢;clear ho ho3;have hc2:=fun(W':World) (h:Kf n₀ X2 wr W')=>(h.box HK.out.1).cell;have HC2:=aa hc2;clear hc2;by_cases hz:ws.getD o 0=0
   ·obtain⟨fn,tmps,assign,body,hy,hR⟩:=HY.out (gV ws c k) (o:Int) wr HK.out.2.2 (by
     have h1:=HN.out (k+1) (ws.length-2) (by omega);rw[HFy.out hz] at h1;have:=h1.length_le;simp at this;unfold jh;omega) (by omega)
    rw[hz] at cw;have HR:=aa hR;have HF1:=aa (HFy.out hz);clear hR hz HFy HFn;gi_wp2
    refine HR.out.mono ?_;rintro e W3 (⟨rfl,hJ3,hk3⟩|⟨rfl,hJx3⟩)
    ·have c3:=HC2.out W3 hk3;have H3:=aa (ag hJ3 hk3);clear hJ3 hk3 cw cb HR;gi_wp2_with (refine⟨trivial,?_⟩;gi_at_call 116;refine(callsIn_wide.2 (mX _ ws.length _ (by omega) (by omega))).mono ?_;rintro e w' ⟨rfl,rfl⟩;rw[←HO3.out])
     go_roundw
     case rel=>exact⟨k+1,by omega,by go_num,rfl,H3.out.2.box HK.out.1,fun i hi=>(H3.out.2.1.cell (p:=⟨bw,off+i,none⟩) hbw).trans (HK.out.2.1 i hi),by rw[HF1.out];exact H3.out.1⟩
     case measure=>simp[intOf];omega
    ·have HX:=aa hJx3;clear hJx3;gi_wp2
     refine bodyPost_ret (results_none rfl _ _ _) rfl ?_;exact⟨⟨_,rfl⟩,.inr ⟨_,by rw[←HF1.out];exact HN.out (k+1) (ws.length-2) (by omega),HX.out⟩⟩
   ·have HF1:=aa (HFn.out hz);have hq:(ws.getD o 0==0)=false:=(by simpa using hz);generalize ws.getD o 0=z at cw hq;clear hz HFy HFn;gi_wp2
    refine⟨fun _ h=>(by cases h),?_⟩;gi_wp2_with (refine⟨trivial,?_⟩;gi_at_call 116;refine(callsIn_wide.2 (mX _ ws.length _ (by omega) (by omega))).mono ?_;rintro e w0 ⟨rfl,hw0⟩;rw[←HO3.out,hw0];clear hw0 w0)
    go_roundw
    case rel=>exact⟨k+1,by omega,by go_num,rfl,HK.out.1,HK.out.2.1,by rw[HF1.out];exact HK.out.2.2⟩
    case measure=>simp[intOf];omega
  ·have ek:k=ws.length-2:=(by omega);gi_wp2
   go_end0;exact⟨⟨_,rfl⟩,.inl ⟨_,rfl,by unfold jh;rw[←ek];exact HK.out.2.2⟩⟩
theorem Bq(n:Nat)(v:Value)(c:Int)(w:World)(a:Option Addr)(len cap:Nat)(hv:v=.slice a len cap):
 CallsIn Fence.wide n prog 99 #[v,.int .i64 c] w fun e w'=>e=.returned (.func (.func 115) #[] #[.pointer (some ⟨w.heap.size+1,0,none⟩),.pointer (some ⟨w.heap.size,0,none⟩)])∧w'=(w.alloc (.cells #[v] 29)).alloc (.cells #[.int .i64 c] 3):=by
 subst hv;refine callsIn_of_wp func99 rfl trivial ?_ rfl;simp only[ntmps99,size_toArray,length_cons,length_nil,Nat.reduceAdd,Nat.reduceSub,Array.replicate_succ,Array.replicate_zero,push_toArray,List.append_toArray,nil_append,cons_append];gi_wp2
 go_ret;exact⟨rfl,rfl⟩
theorem Br(n:Nat)(hn:1≤n)(X1 X2 n₀:Nat)(ws:List Int)(c:Nat)(bw off cap:Nat)(h2:2≤c)(hc:c<ws.length)(hl:ws.length≤2048)(hbw:bw<n₀)(w:World)(hn₀:n₀≤w.heap.size)
 (hX1:Boxed w X1 3 (.int .i64 (c:Int))) (hX2:Boxed w X2 29 (.slice (some ⟨bw,off,none⟩) ws.length cap)) (hcell:∀i,i<ws.length→w.cell? ⟨bw,off+i,none⟩=some (.int .i64 (ws.getD i 0))):
 SeqStopsK Fence.wide n prog 115 #[.pointer (some ⟨X1,0,none⟩),.pointer (some ⟨X2,0,none⟩)] (fun x:{x:Int//2≤x∧x<(ws.length:Int)}=>#[Value.int .i64 x.1]) (Kf n₀ X2) (fun ys=>ys.map (·.1)=jh ws c) (fun pre=>pre.map (·.1)<+:jh ws c) (jh ws c).length w:=fun l J Jx W hW _ _ hY h0=>by
 refine(Bp n hn l X1 X2 n₀ ws c bw off cap h2 hc hl hbw (fun pre W=>∃q:List {x:Int//2≤x∧x<(ws.length:Int)},q.map (·.1)=pre∧J q W) (fun pre W=>∃q:List {x:Int//2≤x∧x<(ws.length:Int)},q.map (·.1)=pre∧Jx q W) ?_ W ((hW.block X1 hX1.lt).trans hX1) ((hW.block X2 hX2.lt).trans hX2) (fun i hi=>(hW.cell (p:=⟨bw,off+i,none⟩) (Nat.lt_of_lt_of_le hbw hn₀)).trans (hcell i hi)) ⟨[],rfl,h0⟩).mono ?_
 ·rintro pre x W1 ⟨q,hq,hJ⟩ hlen hx;obtain⟨fn,tmps,assign,body,hy,hR⟩:=hY q ⟨x,hx⟩ W1 hJ (by rw[←hq] at hlen;simpa using hlen);refine⟨fn,tmps,assign,body,hy,hR.mono ?_⟩;rintro e W2 (⟨h1,h2,h3⟩|⟨h1,h2⟩)
  ·exact .inl ⟨h1,⟨_,by simp[hq],h2⟩,h3⟩
  ·exact .inr ⟨h1,⟨_,by simp[hq],h2⟩⟩
 ·rintro e W2 ⟨h1,⟨ys,hys,q,hq,hJ⟩|⟨pre,hp,q,hq,hJ⟩⟩
  ·exact⟨h1,.inl ⟨q,hq.trans hys,hJ⟩⟩
  ·exact⟨h1,.inr ⟨q,by show q.map (·.1)<+:_;rw[hq];exact hp,hJ⟩⟩
theorem Bs{n₀ X:Nat}{w:World}(hn:n₀≤w.heap.size)(hX:X<w.heap.size)(W:World)(l:Nat)(o o':Obj)(hl:w.heap.size≤l)(h:W.heap[l]?=some o)(h1:o.isCells=false)(h2:o.isWalk=false):Kf n₀ X W (W.putObj l o'):=
 ⟨belowK_b hn W l o o' hl h h1 h2,World.putObj_heap_other (by omega)⟩
end
section
open Go.RowKit Go.Shelf
attribute [local go_sem] Oper.semAt_some
def lJ(base b l r n cN:Nat)(R:Nat→Value)(LL:Nat→List Int)(vo:Value)(od:List (Nat×Nat))(o:Int)(w w':World)(e:Ending):Prop:=
 match ff (LL 1) (LL 0) cN with
 |some p=>e=.returned (.bool true)∧∃C' R' vo',Fl w' base b C' R' (jC LL l r p o) vo' (od++[(l,r)]) (cf n p)∧bQ w w' b R vo R' vo'
 |none=>e=.returned (.bool false)∧Below w.heap.size w w'
theorem Bu{base b l r n cN p:Nat}{R:Nat→Value}{LL:Nat→List Int}{vo:Value}{od:List (Nat×Nat)}{o:Int}{w w':World}{e:Ending}(h:ff (LL 1) (LL 0) cN=some p)(h2:e=.returned (.bool true)∧∃C' R' vo',Fl w' base b C' R' (jC LL l r p o) vo' (od++[(l,r)]) (cf n p)∧bQ w w' b R vo R' vo'):lJ base b l r n cN R LL vo od o w w' e:=by unfold lJ;rw[h];exact h2
theorem Bv{base b l r n cN:Nat}{R:Nat→Value}{LL:Nat→List Int}{vo:Value}{od:List (Nat×Nat)}{o:Int}{w w':World}{e:Ending}(h:ff (LL 1) (LL 0) cN=none)(h2:e=.returned (.bool false)∧Below w.heap.size w w'):lJ base b l r n cN R LL vo od o w w' e:=by unfold lJ;rw[h];exact h2
theorem uZ(ws bf:List Int)(c:Nat):ff ws bf c=((jh ws c).find? (fun x=>decide (bf.getD x.toNat 0=0))).map Int.toNat:=by
 unfold ff jh gV kQ;conv=>rhs;rw[List.find?_map,List.find?_filter,Option.map_map]
 have e:(Int.toNat∘fun b:Nat=>(b:Int))=id:=by funext b;simp
 rw[e,Option.map_id];simp[Function.comp_def]
theorem Bw{α:Type}{q:α→Bool}{pre:List α}{x:α}{L:List α}(h:pre++[x]<+:L)(h1:∀y∈pre,q y=false)(h2:q x=true):L.find? q=some x:=by
 obtain⟨t,rfl⟩:=h;rw[List.append_assoc,List.find?_append,List.find?_eq_none.2 (fun y hy=>by rw[h1 y hy];decide)];simp[h2]
theorem Fl.fq{A B:World}{row:Option Nat}{z base b:Nat}{C:Array Value}{R:Nat→Value}{LL:Nat→List Int}{vo:Value}{od:List (Nat×Nat)}{cu:Int}(h:Fl A base b C R LL vo od cu)(hg:A.grownBy B row)(hr:∀r,row=some r→z≤r∧∃o,A.heap[r]?=some o∧o.isCells=false):Fl B base b C R LL vo od cu:=by
 have key:∀{k:Nat} {C:Array Value} {t:TypeId},A.heap[k]?=some (.cells C t (0,0))→B.heap[k]?=A.heap[k]?:=fun {k C t} hk=>by
  refine hg.block k (Array.getElem?_eq_some_iff.1 hk).1 (fun e=>?_);obtain⟨_,o,h1,h2⟩:=hr k e.symm;rw[hk] at h1;cases h1
  cases h2
 have keyO:∀{base n sz:Nat} {e:TypeId} {v:Value} {xs:List Value},A.ownsRow base e sz v n xs→B.ownsRow base e sz v n xs:=fun {base n sz e v xs} ho=>dh ho (fun k hk=>by
  rcases ho.2 with⟨rfl,_⟩|⟨g,cap,cur,rfl,_,hgg,_⟩
  ·cases hk
  ·obtain rfl:g=k:=(by simpa [Value.ownBlock] using hk);exact key hgg)
 exact⟨(key h.box).trans h.box,h.at_,fun j hj=>keyO (h.row j hj),h.apart,h.ord,keyO h.orow,h.cur⟩
theorem bQ.fq{w A B:World}{row:Option Nat}{z b:Nat}{R R':Nat→Value}{vo vo':Value}(h:bQ w A b R vo R' vo')(hg:A.grownBy B row)(hr:∀r,row=some r→z≤r∧∃o,A.heap[r]?=some o∧o.isCells=false)(hz:w.heap.size≤z):bQ w B b R vo R' vo':=
 ⟨hg.os.trans h.os,hg.tape.trans h.tape,hg.output.trans h.output,aN h.size hg.size,fun k hk hn=>(hg.block k (Nat.lt_of_lt_of_le hk h.size) (fun e=>by have:=(hr k e.symm).1;omega)).trans (h.block k hk hn),h.own⟩
theorem bQ.keeps{w w':World}{base b:Nat}{C:Array Value}{R R':Nat→Value}{LL:Nat→List Int}{vo vo':Value}{od:List (Nat×Nat)}{cu:Int}(h:bQ w w' b R vo R' vo')(hf:Fl w base b C R LL vo od cu)(z:Nat):KeepsFrom z w w':=by
 refine⟨h.size,fun k o _ hk ho=>(h.block k (Array.getElem?_eq_some_iff.1 hk).1 (fun hw=>?_)).trans hk⟩;have key:∀{C:Array Value} {t:TypeId},w.heap[k]?=some (.cells C t (0,0))→False:=fun {C t} h2=>by
  rw[hk] at h2;cases h2
  cases ho
 have keyO:∀{base n sz:Nat} {e:TypeId} {v:Value} {xs:List Value},w.ownsRow base e sz v n xs→v.ownBlock=some k→False:=fun {base n sz e v xs} hr hv=>by
  rcases hr.2 with⟨rfl,_⟩|⟨g,cap,cur,rfl,_,hgg,_⟩
  ·cases hv
  ·obtain rfl:g=k:=(by simpa [Value.ownBlock] using hv);exact key hgg
 rcases hw with rfl|⟨j,hj,e⟩|e
 ·exact key hf.box
 ·exact keyO (hf.row j hj) e
 ·exact keyO hf.orow e
structure mJ(w:World)(b l r n:Nat)(bf:List Int)(wv:Value)(pre:List Int)(W:World):Prop where
 old:Below w.heap.size w W
 ptr:af W w.heap.size #[.pointer (some ⟨b,0,none⟩)] 60
 spot:af W (w.heap.size+1) #[.int .i64 (l:Int),.int .i64 (r:Int)] 123
 res:af W (w.heap.size+2) #[.bool false] 4
 capt:Boxed W (w.heap.size+3) 29 wv
 none_:∀y∈pre,bf.getD y.toNat 0≠0
 size:w.heap.size+5≤W.heap.size
theorem mJ.own{w:World}{b l r n:Nat}{bf:List Int}{wv:Value}{n₁:Nat}(hn:n₁=w.heap.size+5):OwnFrom n₁ (mJ w b l r n bf wv):=by
 intro pre X Y row hs hg hr;have hb:∀k,k<n₁→Y.heap[k]?=X.heap[k]?:=fun k hk=>by
  have h1:=hs.size;exact hg.block k (by omega) (fun e=>by have:=(hr k e.symm).1;omega)
 exact⟨hs.old.grown hg hs.old.size (fun k e=>by have:=(hr k e).1;omega),(hb _ (by omega)).trans hs.ptr,(hb _ (by omega)).trans hs.spot,(hb _ (by omega)).trans hs.res,(hb _ (by omega)).trans hs.capt,hs.none_,aN hs.size hg.size⟩
structure nY(w:World)(base b l r n:Nat)(R:Nat→Value)(LL:Nat→List Int)(vo:Value)(od:List (Nat×Nat))(o:Int)(pre:List Int)(W:World):Prop where
 ex:∃pre' x,pre=pre'++[x]∧(∀y∈pre',(LL 0).getD y.toNat 0≠0)∧(LL 0).getD x.toNat 0=0∧∃C' R' vo',Fl W base b C' R' (jC LL l r x.toNat o) vo' (od++[(l,r)]) (cf n (x.toNat:Int))∧bQ w W b R vo R' vo'
 res:af W (w.heap.size+2) #[.bool true] 4
 size:w.heap.size+5≤W.heap.size
theorem nY.own{w:World}{base b l r n:Nat}{R:Nat→Value}{LL:Nat→List Int}{vo:Value}{od:List (Nat×Nat)}{o:Int}{n₁:Nat}(hn:n₁=w.heap.size+5):OwnFrom n₁ (nY w base b l r n R LL vo od o):=by
 intro pre X Y row hs hg hr;obtain⟨pre',x,h1,h2,h3,C',R',vo',h4,h5⟩:=hs.ex;have h6:=hs.size;refine⟨⟨pre',x,h1,h2,h3,C',R',vo',h4.fq hg hr,h5.fq hg hr (by omega)⟩,(hg.block _ (by omega) (fun e=>by have:=(hr _ e.symm).1;omega)).trans hs.res,aN hs.size hg.size⟩
theorem vb{fn:Func}{p:Tmp}(h:fn.results=#[.cell p 4])(tmps:Array Value)(w:World)(g:Nat)(x:Bool)(hp:tmps.getD p undef=.pointer (some ⟨g,0,none⟩))(hg:af w g #[.bool x] 4):(results fn tmps).run prog w=.ok (.bool x) w:=by
 have hc:=(hg.cell 0).trans (show _=some (.bool x) from rfl);have hp':tmps[p]?.getD undef=.pointer (some ⟨g,0,none⟩):=by rw[←Array.getD_eq_getD_getElem?];exact hp
 simp only[results,h];go_simp
theorem By(base b l r n cN:Nat)(C:Array Value)(R:Nat→Value)(LL:Nat→List Int)(vo:Value)(od:List (Nat×Nat))(w:World)(h:Fl w base b C R LL vo od (cN:Int))(hl:l<2)(hr:r≤700)(hnn:n=(LL 1).length)(hbf:(LL 0).length=n)(hc:2≤cN∧cN<n)(hn:n≤2048)(hL:(LL (5+l)).length≤100001)(hod:od.length≤1000)(hbs:base≤w.heap.size)(o:Int)(ho:o=(LL (2+l)).getD r 0)(ho2:0≤o∧o<n)(hwr:∀z∈LL 1,0≤z∧z<4294967296):
 Calls prog 67 #[.pointer (some ⟨b,0,none⟩),dD l r] w fun e w'=>lJ base b l r n cN R LL vo od o w w' e:=by
 obtain⟨W0,hW0⟩:∃W0,W0=(((w.alloc (.cells #[.pointer (some ⟨b,0,none⟩)] 60)).alloc (.cells #[.int .i64 (l:Int),.int .i64 (r:Int)] 123)).alloc (.cells #[.bool false] 4)):=⟨_,rfl⟩;have hs0:W0.heap.size=w.heap.size+3:=by rw[hW0];simp
 have B0:=ae (Below w.heap.size w W0) (by rw[hW0];exact((ak.alloc aj _).alloc (by simp) _).alloc (by simp;omega) _);have K0:=ae (af W0 w.heap.size #[.pointer (some ⟨b,0,none⟩)] 60) (by rw[hW0];exact((af.new w _ _).alloc _).alloc _);have K1:=ae (af W0 (w.heap.size+1) #[.int .i64 (l:Int),.int .i64 (r:Int)] 123) (by rw[hW0];have h:=(af.new (w.alloc (.cells #[.pointer (some ⟨b,0,none⟩)] 60)) #[.int .i64 (l:Int),.int .i64 (r:Int)] 123).alloc (.cells #[.bool false] 4);simpa using h);have K2:=ae (af W0 (w.heap.size+2) #[.bool false] 4) (by rw[hW0];have h:=(af.new ((w.alloc (.cells #[.pointer (some ⟨b,0,none⟩)] 60)).alloc (.cells #[.int .i64 (l:Int),.int .i64 (r:Int)] 123)) #[.bool false] 4);simpa using h);have HW0:=aa hW0;have HS0:=aa hs0;have F0:=aa (h.below B0.out);have HF:=aa h;have HH:=aa (ag hl (ag hr (ag hnn (ag hbf (ag hL (ag hod (ag hbs (ag ho hwr))))))));obtain⟨g,gc,hR1,hg,x1,hx⟩:=HF.out.ku (by rw[←hnn];omega);rw[←hnn] at hR1 x1 hx;have hgl:g<w.heap.size:=((HF.out.row 1 (by omega)).lt g hg).2;have e1:=F0.out.at_ 1 (by omega);rw[hR1] at e1;have HC:=ae (∀w',af w' b C 113→w'.cell? ⟨b,1,none⟩=some (.slice (some ⟨g,0,none⟩) n gc)∧w'.cell? ⟨b,9,none⟩=some (.int .i64 (cN:Int))) (fun w' hw=>⟨(hw.cell 1).trans e1,(hw.cell 9).trans F0.out.cur⟩);have HX:=aa hx;clear hW0 hs0 h hl hr hnn hL hod hbs ho hwr hbf hR1 hg x1 hx e1;obtain⟨W1,hW1⟩:∃W1,W1=(W0.drew.alloc (.cells #[.slice (some ⟨g,0,none⟩) n gc] 29)).alloc (.cells #[.int .i64 (cN:Int)] 3):=⟨_,rfl⟩;have hsz:W1.heap.size=w.heap.size+5:=by rw[hW1];simp[HS0.out]
 have B1:=ae (Below W0.heap.size W0 W1) (by rw[hW1];exact((ak.drew).alloc aj _).alloc (by simp) _);have X2:=ae (Boxed W1 (w.heap.size+3) 29 (.slice (some ⟨g,0,none⟩) n gc)) (by rw[hW1, ←HS0.out];exact(Boxed.new W0.drew _ _).alloc _);have X1:=ae (Boxed W1 (w.heap.size+4) 3 (.int .i64 (cN:Int))) (by
  have h:=Boxed.new (W0.drew.alloc (.cells #[.slice (some ⟨g,0,none⟩) n gc] 29)) 3 (.int .i64 (cN:Int));rw[World.size_alloc] at h;rw[hW1];have e:W0.drew.heap.size=w.heap.size+3:=HS0.out;rw[e] at h;exact h)
 have HW1:=aa hW1;have HSZ:=aa hsz;clear hW1;have hs0:=HS0.out;have I0:=ae (mJ w b l r n (LL 0) (.slice (some ⟨g,0,none⟩) n gc) [] W1) (⟨B0.out.trans (B1.out.mono (by omega)),K0.out.below B1.out K0.out.lt,K1.out.below B1.out K1.out.lt,K2.out.below B1.out K2.out.lt,X2.out,(fun y hy=>by cases hy),by omega⟩);clear hs0;refine(callsIn_wide (n:=6)).1 ?_;refine callsIn_of_wp_marks func67 rfl trivial ?_ rfl;simp only[ntmps67,size_toArray,length_cons,length_nil,Nat.reduceAdd,Nat.reduceSub,Array.replicate_succ,Array.replicate_zero,push_toArray,List.append_toArray,nil_append,cons_append];unfold dD;gi_upto_region 1 with fail
 rw[←HW0.out];refine wpIn_wide.2 ?_;refine cr (fun w'=>af w' w.heap.size #[.pointer (some ⟨b,0,none⟩)] 60∧af w' b C 113) ⟨K0.out,F0.out.box⟩ fun hH=>?_;refine ah 0 (.pointer (some ⟨b,0,none⟩)) rfl hH ?_ (aH fun w' hw'=>by have hc:=(af.cell hw'.1 0).trans (show _=some (.pointer (some ⟨b,0,none⟩)) from rfl);clear hw';go_simp);refine ah 1 (.pointer (some ⟨b,0,none⟩)) rfl hH ?_;refine ah 2 (.pointer (some ⟨b,1,none⟩)) rfl hH ?_;refine ah 3 (.slice (some ⟨g,0,none⟩) n gc) rfl hH ?_ (aH fun w' hw'=>by have hc:=(HC.out w' hw'.2).1;clear hw';go_simp);refine ah 4 (.pointer (some ⟨b,0,none⟩)) rfl hH ?_ (aH fun w' hw'=>by have hc:=(af.cell hw'.1 0).trans (show _=some (.pointer (some ⟨b,0,none⟩)) from rfl);clear hw';go_simp);refine ah 5 (.pointer (some ⟨b,0,none⟩)) rfl hH ?_;refine ah 6 (.pointer (some ⟨b,9,none⟩)) rfl hH ?_;refine ah 7 (.int .i64 (cN:Int)) rfl hH ?_ (aH fun w' hw'=>by have hc:=(HC.out w' hw'.2).2;clear hw';go_simp);refine aG 8 rfl fun K hK=>?_;go_simp;refine(callsIn_wide.1 (Bq 0 (.slice (some ⟨g,0,none⟩) n gc) (cN:Int) W0.drew (some ⟨g,0,none⟩) n gc rfl)).mono ?_;rintro e w' ⟨rfl,rfl⟩;rw[←HW1.out,show W0.drew.heap.size=w.heap.size+3 from HS0.out];refine hK.out _ _ ⟨K0.out.below B1.out K0.out.lt,F0.out.box.below B1.out F0.out.box.lt⟩ (fun hH=>?_);clear hK K;try simp only[Act.put,aq,au,av,ay,az,aA]
 refine bz ?_;clear hH;gi_wp2
 have hX2:=ae (Boxed W1 (w.heap.size+3) 29 (.slice (some ⟨g,0,none⟩) (LL 1).length gc)∧∀i,i<(LL 1).length→W1.cell? ⟨g,0+i,none⟩=some (.int .i64 ((LL 1).getD i 0))) (by
  have hn1:=HH.out.2.2.1;refine⟨by rw[←hn1];exact X2.out,fun i hi=>?_⟩;rw[Nat.zero_add];exact(I0.out.old.cell (p:=⟨g,i,none⟩) hgl).trans (HX.out i (by rw[hn1];exact hi)).1)
 have hmx:prog.follows .mixedOrders=true:=by kernel_rfl
 refine wpIn_rangeFunc_ownG rfl (by omega) (gf:=115) (lb:=#[.pointer (some ⟨w.heap.size+3+1,0,none⟩),.pointer (some ⟨w.heap.size+3,0,none⟩)]) rfl trivial (enters_of func115 (by kernel_rfl) rfl)
  (Br 5 (by omega) (w.heap.size+4) (w.heap.size+3) w.heap.size (LL 1) cN g 0 gc (by omega) (by have:=HH.out.2.2.1;omega) (by have:=HH.out.2.2.1;omega) hgl W1 (by omega) X1.out hX2.out.1 hX2.out.2) Kf.trans (Bs (by omega) (by omega)) ak (fun _=>rfl)
  (fun pre W=>mJ w b l r n (LL 0) (.slice (some ⟨g,0,none⟩) n gc) (pre.map (·.1)) W) (fun cd pre W=>cd=.ret∧nY w base b l r n R LL vo od o (pre.map (·.1)) W)
  (by rw[hsz];intro pre X Y row hs hg hr;exact mJ.own rfl _ X Y row hs hg hr) (by rw[hsz];rintro cd pre X Y row ⟨h1,h2⟩ hg hr;exact⟨h1,nY.own rfl _ X Y row h2 hg hr⟩) I0.out
  (fun x=>{tmps:=#[.pointer (some ⟨b,0,none⟩),.agg #[.int .i64 (l:Int),.int .i64 (r:Int)],.pointer (some ⟨w.heap.size,0,none⟩),.pointer (some ⟨w.heap.size+1,0,none⟩),.pointer (some ⟨w.heap.size+1+1,0,none⟩),.int .i64 x.1,.pointer (some ⟨b,0,none⟩),.pointer (some ⟨b,0,none⟩),.pointer (some ⟨b,1,none⟩),.slice (some ⟨g,0,none⟩) n gc,.pointer (some ⟨b,0,none⟩),.pointer (some ⟨b,0,none⟩),.pointer (some ⟨b,9,none⟩),.int .i64 (cN:Int),.func (.func 115) #[] #[.pointer (some ⟨w.heap.size+3+1,0,none⟩),.pointer (some ⟨w.heap.size+3,0,none⟩)],.int .i64 x.1,undef,undef,undef,undef,undef,undef,undef,undef,undef,undef,undef,undef],defers:=[]}) ?assign ?body ?done ?stop
 case assign=>
  intro l' x W K hK;gi_wp2
  exact hK
 case body=>
  rintro l' pre x W hI hlt;have hx:=x.2;have hx3:x.1<(n:Int):=by rw[HH.out.2.2.1];exact hx.2
  obtain⟨p,hp0⟩:∃p:Nat,x.1=(p:Int):=⟨x.1.toNat,by omega⟩;have hp:2≤p∧p<n:=by omega
  clear hx hx3;simp only[hp0];have HP0:=aa hp0;clear hp0;have cP:=(hI.ptr.cell 0).trans (show _=some (.pointer (some ⟨b,0,none⟩)) from rfl);obtain⟨a0,c0,e0r,e0,hr0⟩:=HF.out.rd 0 (by omega);rw[HH.out.2.2.2.1] at e0 hr0;have HFW:=aa (HF.out.below hI.old);obtain⟨b0,off0,c0',ea,hb0,_,_,hcl⟩:=hr0.dj (by rw[HH.out.2.2.2.1];omega);injection ea with ea1 ea2 ea3;subst ea1;subst ea3;have cB:W.cell? ⟨b,0,none⟩=some (.slice (some ⟨b0,off0,none⟩) n c0):=(HFW.out.box.cell 0).trans e0;have cX:W.cell? ⟨b0,off0+p,none⟩=some (.int .i64 ((LL 0).getD p 0)):=(hI.old.cell (p:=⟨b0,off0+p,none⟩) hb0).trans (hcl p (by rw[HH.out.2.2.2.1];exact hp.2));have HI:=aa hI;have rS:=aa (iF hI.spot);obtain⟨z,hz⟩:∃z,z=(LL 0).getD p 0:=⟨_,rfl⟩;rw[←hz] at cX;have HZ:=aa hz;clear e0r e0 hr0 hcl ea2 hb0 hI hz hlt;by_cases hz0:z=0
  ·have hzb:(z==0)=true:=(by simpa using hz0);gi_wp2_with (first|(refine mj rfl 123 _ rfl (w.heap.size+1) 0 rfl [.int .i64 (l:Int),.int .i64 (r:Int)] _ rS.out underlying123 rfl ey ?_)|(refine⟨trivial,?_⟩;gi_at_call 100;fail))
   refine⟨trivial,?_⟩;refine(CallsIn.inRound l' (callsIn_wide.2 (Bo base b l r p C R LL vo od (cN:Int) W HFW.out HH.out.1 HH.out.2.1 n HH.out.2.2.1 hp hn HH.out.2.2.2.2.1 HH.out.2.2.2.2.2.1 (aN HH.out.2.2.2.2.2.2.1 HI.out.old.size) o HH.out.2.2.2.2.2.2.2.1 ho2 HH.out.2.2.2.2.2.2.2.2))).mono ?_;rintro e W2 ⟨rfl,C',R',vo',hF2,hk2⟩;have hno:¬iY b R vo (w.heap.size+2):=fun ho=>(by have:=HF.out.lt ho;omega);have hrs:af W2 (w.heap.size+2) #[.bool false] 4:=(hk2.block _ HI.out.res.lt hno).trans HI.out.res;have c4:=(hrs.cell 0).trans (show _=some (.bool false) from rfl);have f4:=hrs.frozen 0;have hkW:bQ w W2 b R vo R' vo':=(bQ.bT b R vo HI.out.old).trans hk2;have hsF:¬iY b R' vo' (w.heap.size+2):=fun ho=>by
    rcases hk2.own _ ho with h5|h5
    ·exact hno h5
    ·have:=HI.out.res.lt;omega
   have HD:=aa (ag hF2 (ag hk2 (ag hkW (ag hrs hsF))));clear hF2 hk2 hkW hno hrs hsF;gi_wp2
   have hcell:∀k,k≠w.heap.size+2→(W2.setCell ⟨w.heap.size+2,0,none⟩ (.bool true)).heap[k]?=W2.heap[k]?:=fun k hk=>Below.heap_setCell W2 ⟨w.heap.size+2,0,none⟩ _ k (fun e=>hk e);have hF3:Fl (W2.setCell ⟨w.heap.size+2,0,none⟩ (.bool true)) base b C' R' (jC LL l r p o) vo' (od++[(l,r)]) (cf n p):=
    ⟨(hcell b (fun e=>HD.out.2.2.2.2 (.inl e.symm))).trans HD.out.1.box,HD.out.1.at_,fun j hj=>dh (HD.out.1.row j hj) (fun k hk=>hcell k (fun e=>HD.out.2.2.2.2 (.inr (.inl ⟨j,hj,by rw[hk,e]⟩)))),HD.out.1.apart,HD.out.1.ord,dh HD.out.1.orow (fun k hk=>hcell k (fun e=>HD.out.2.2.2.2 (.inr (.inr (by rw[hk,e]))))),HD.out.1.cur⟩
   have hk3:bQ w (W2.setCell ⟨w.heap.size+2,0,none⟩ (.bool true)) b R vo R' vo':=⟨HD.out.2.2.1.os,HD.out.2.2.1.tape,HD.out.2.2.1.output,by simp[HD.out.2.2.1.size],fun k hk hn=>(hcell k (by omega)).trans (HD.out.2.2.1.block k hk hn),HD.out.2.2.1.own⟩;refine⟨(HD.out.2.1.keeps HFW.out _).trans ((KeepsOthers.setCell _ _ _).from _),rfl,⟨⟨pre.map (·.1),x.1,by simp,HI.out.none_,by rw[HP0.out,Int.toNat_natCast, ←HZ.out];exact hz0,C',R',vo',?_,hk3⟩,HD.out.2.2.2.1.set 0 _,by have:=HI.out.size;have:=HD.out.2.1.size;simp;omega⟩⟩;rw[HP0.out,Int.toNat_natCast];exact hF3
  ·have hzb:(z==0)=false:=(by simpa using hz0);gi_wp2
   refine⟨KeepsFrom.refl _ _,⟨ak,rfl⟩,⟨HI.out.old,HI.out.ptr,HI.out.spot,HI.out.res,HI.out.capt,fun y hy=>?_,HI.out.size⟩⟩;rw[List.map_append,List.mem_append] at hy;rcases hy with hy|hy
   ·exact HI.out.none_ y hy
   ·have e:y=x.1:=(by simpa using hy);rw[e,HP0.out,Int.toNat_natCast, ←HZ.out];exact hz0
 case done=>
  rintro D ys W hD hys hI hK;rw[HSZ.out] at hD;have HPk:=ae (ff (LL 1) (LL 0) cN=none) (by
   rw[uZ, ←hys,Option.map_eq_none_iff,List.find?_eq_none];intro x hx;simpa using hI.none_ x hx)
  have HI:=aa (ag hI hK);have c4:=(hI.res.cell 0).trans (show _=some (.bool false) from rfl);have f4:=hI.res.frozen 0;clear hI hK hys;gi_wp2
  have hD2:(W.setCell ⟨w.heap.size+2,0,none⟩ (.bool false)).heap[D]?=some (.deferred (some [])):=(KeepsOthers.setCell _ _ _).same _ _ HI.out.2 rfl;have hb2:Below w.heap.size w (W.setCell ⟨w.heap.size+2,0,none⟩ (.bool false)):=HI.out.1.old.setCell (p:=⟨w.heap.size+2,0,none⟩) (by show w.heap.size≤w.heap.size+2;omega) _;refine⟨by simp,.inl ⟨_,_,rfl,run_takeDeferred hD2,?_⟩⟩;refine⟨_,vb rfl _ _ (w.heap.size+2) false rfl (fV _ (HI.out.1.res.set 0 (.bool false)) hD2 rfl),Bv HPk.out ⟨rfl,?_⟩⟩;exact hb2.trans (belowK_b (w:=w) aj _ D _ (.deferred none) (by omega) hD2 rfl rfl)
 case stop=>
  rintro D cd pre W hD hSp ⟨rfl,hX⟩ hK;rw[HSZ.out] at hD;obtain⟨pre',x,h1,h2,h3,C',R',vo',h4,h5⟩:=hX.ex;have HPk:=ae (ff (LL 1) (LL 0) cN=some x.toNat) (by
   rw[uZ,Bw (x:=x) (pre:=pre') (by rw[←h1];exact hSp) (fun y hy=>by simpa using h2 y hy) (by simpa using h3)];rfl)
  have HI:=aa (ag hX (ag hK (ag h4 h5)));clear hX hK hSp h1 h2 h3 h4 h5;gi_wp2
  refine⟨by simp,.inl ⟨_,_,rfl,run_takeDeferred HI.out.2.1,?_⟩⟩;refine⟨_,vb rfl _ _ (w.heap.size+2) true rfl (fV _ HI.out.1.res HI.out.2.1 rfl),Bu HPk.out ⟨rfl,C',R',vo',?_,?_⟩⟩
  ·exact HI.out.2.2.1.fq (z:=0) (grownBy_putObj' _ _ _) (fun r e=>by cases e;exact⟨Nat.zero_le _,_,HI.out.2.1,rfl⟩)
  ·exact HI.out.2.2.2.fq (z:=w.heap.size) (grownBy_putObj' _ _ _) (fun r e=>by cases e;exact⟨by omega,_,HI.out.2.1,rfl⟩) aj
end
end Go.Proofs.YtlimollpocagiaaGreatDoor
