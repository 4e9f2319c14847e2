/- The program's iterators over a tree: topsOf, blocks. -/
import Derived.Test.YtbhpealglhkodaaGreatDoorXc10
import Derived.Test.YtbhpealglhkodaaGreatDoorXc11
namespace Go.Proofs.YtbhpealglhkodaaGreatDoor
set_option linter.all false
set_option maxRecDepth 100000
set_option maxHeartbeats 16000000
section
open Go.RowKit Go.Shelf
attribute [local go_sem] Oper.semAt_some
theorem tell_all(lY n₀ z:Nat)(Ty:TypeId→Prop)(J Jx:List TX→World→Prop)(Z:TL)(cnt sz:Nat)(zs:List Int)(C:Array Value)(iv:Value)(w0:World)
 (hT1:¬Ty 75) (hT2:¬Ty 123) (hJ:AbidesZ z J)
 (hY:∀m pre x W1,J pre W1→OkX Z pre x W1→YieldAt Fence.wide m Tryz.prog lY (TX.enc x) W1 fun e W'=>(e=.returned (.bool true)∧J (pre++[x]) W'∧Kq n₀ z Ty W1 W')∨(e=.returned (.bool false)∧Jx (pre++[x]) W'∧KeepsFrom z W1 W'))
 (hC0:C[0]?=some iv) (hC1:C[1]?=some (.int .i64 (sz:Int))) (hCs:C.size=16) (hR:Rd .u8 w0 iv zs) (hn₀:n₀=w0.heap.size) (hz:zs.length≤1048576) (hbd:∀z∈zs,0≤z∧z<256) (hsz:sz≤262144) (hcnt:cnt=(sz+511)/512):
 ∀lv,lv≤2→TellC lY n₀ z Ty J Jx Z cnt zs C w0 lv
 |0,h=>tell_step lY n₀ z Ty J Jx Z cnt sz zs C iv w0 hT1 hT2 hJ hY hC0 hC1 hCs hR hn₀ hz hbd hsz hcnt 0 h (fun l' e=>by cases e)
 |lv+1,h=>tell_step lY n₀ z Ty J Jx Z cnt sz zs C iv w0 hT1 hT2 hJ hY hC0 hC1 hCs hR hn₀ hz hbd hsz hcnt (lv+1) h (fun l' e=>by cases e;exact tell_all lY n₀ z Ty J Jx Z cnt sz zs C iv w0 hT1 hT2 hJ hY hC0 hC1 hCs hR hn₀ hz hbd hsz hcnt lv (by omega))
def topL(j:Nat):Nat:=if j<12 then 0 else if j=12 then 1 else 2
def topR(j:Nat):Nat:=if j<12 then j else 0
def topE(X:Nat)(j:Nat):Array Value:=#[spotV (topL j) (topR j),.pointer (some ⟨X,2+j,none⟩)]
theorem tops_in(n X:Nat)(w:World):
 CallsIn Fence.wide n Tryz.prog 68 #[.pointer (some ⟨X,1,none⟩)] w fun e w'=>e=.returned (.func (.func 99) #[] #[.pointer (some ⟨w.heap.size,0,none⟩)])∧w'=w.alloc (.cells #[.pointer (some ⟨X,1,none⟩)] 121):=by
 refine callsIn_of_wp Tryz.func68 rfl trivial ?_ rfl;simp only[Tryz.ntmps68,List.size_toArray,List.length_cons,List.length_nil,Nat.reduceAdd,Nat.reduceSub,Array.replicate_succ,Array.replicate_zero,List.push_toArray,List.append_toArray,List.nil_append,List.cons_append];gi_wp2
 go_ret;exact⟨rfl,rfl⟩
theorem range_snoc(k:Nat):List.range k++[k]=List.range (k+1):=List.range_succ.symm
theorem tops_goes(n Bx X n₀ z:Nat)(Ty:TypeId→Prop)(hTy:¬Ty 121)(W:World)(hBx:Blk W Bx #[.pointer (some ⟨X,1,none⟩)] 121):
 GoesK Fence.wide n Tryz.prog 99 #[.pointer (some ⟨Bx,0,none⟩)] (topE X) (Kq n₀ z Ty) (fun pre x _=>x=pre.length∧x<14) (fun xs=>xs=List.range 14) (fun _=>True) W:=by
 intro l J Jx hJ hJx hY h0;have hdd:∀k:Nat,(Fence.wide.depth.isSome=true→1≤k):=fun k h=>by cases h
 have HY:=hide (show ∀(j:Nat) (W1:World),j<14→J (List.range j) W1→Blk W1 Bx #[.pointer (some ⟨X,1,none⟩)] 121→YieldAt Fence.wide (n-1) Tryz.prog l (topE X j) W1 fun e W'=>(e=.returned (.bool true)∧J (List.range (j+1)) W'∧Blk W' Bx #[.pointer (some ⟨X,1,none⟩)] 121)∨(e=.returned (.bool false)∧∃pre,Jx pre W') from fun j W1 hj h1 h2=>by
  have:=hY (List.range j) j W1 h1 ⟨by simp,hj⟩;exact YieldAt.mono this fun e W' h=>h.elim (fun⟨he,hj2,hk⟩=>.inl ⟨he,by rw[←range_snoc];exact hj2,hk.blk h2 hTy⟩) (fun⟨he,hx,_⟩=>.inr ⟨he,_,hx⟩))
 have H0:=hide (And.intro h0 hBx);clear hY h0 hBx hJ hJx;refine callsIn_of_wp Tryz.func99 rfl trivial ?_ rfl;simp only[Tryz.ntmps99,List.size_toArray,List.length_cons,List.length_nil,Nat.reduceAdd,Nat.reduceSub,Array.replicate_succ,Array.replicate_zero,List.push_toArray,List.append_toArray,List.nil_append,List.cons_append];gi_wp2
 gi_loopw [4] (fun iv wr=>∃i:Nat,i≤12∧iv=.int .i64 (i:Int)∧J (List.range i) wr∧Blk wr Bx #[.pointer (some ⟨X,1,none⟩)] 121) (fun iv _=>12-(intOf iv).toNat)
 case atStart=>exact⟨0,by omega,rfl,H0.out.1,H0.out.2⟩
 case round=>
  obtain⟨i,hi,rfl,hj,hb⟩:=hrel;clear H0;have cb:=(hb.cell 0).trans (show _=some (.pointer (some ⟨X,1,none⟩)) from rfl);by_cases hi2:i<12
  ·obtain⟨fn,tmps,assign,body,hy,hR⟩:=HY.out i wr (by omega) hj hb;have hiI:(i:Int)<12:=(by omega);replace hy:(Instr.yield l #[.agg #[.int .i64 0,.int .i64 (i:Int)],.pointer (some ⟨X,2+i,none⟩)]).run Tryz.prog wr=.ok (.round l fn tmps assign body) wr:=by
    have e:topE X i=#[.agg #[.int .i64 0,.int .i64 (i:Int)],.pointer (some ⟨X,2+i,none⟩)]:=(by unfold topE topL topR spotV;rw[if_pos hi2,if_pos hi2];rfl);rw[e] at hy;exact hy
   have HR:=hide hR;clear hR hj hb;gi_wp2
   refine⟨hdd _,?_⟩;refine HR.out.mono ?_;rintro e W3 (⟨rfl,hj3,hb3⟩|⟨rfl,pre,hx3⟩)
   ·have H3:=hide (And.intro hj3 hb3);clear hj3 hb3 hy HR cb;gi_wp2
    go_roundw
    case rel=>exact⟨i+1,by omega,by go_num,H3.out.1,H3.out.2⟩
    case measure=>simp[intOf];omega
   ·have H3:=hide hx3;clear hx3 hy HR cb;gi_wp2
    refine bodyPost_ret (results_none rfl _ _ _) rfl ?_;exact⟨⟨_,rfl⟩,.inr ⟨pre,trivial,H3.out⟩⟩
  ·have hi3:i=12:=(by omega);subst hi3;clear hi2;obtain⟨fn,tmps,assign,body,hy,hR⟩:=HY.out 12 wr (by omega) hj hb;replace hy:(Instr.yield l #[.agg #[.int .i64 1,.int .i64 0],.pointer (some ⟨X,14,none⟩)]).run Tryz.prog wr=.ok (.round l fn tmps assign body) wr:=hy;have HR:=hide hR;clear hR hj hb;gi_wp2
   refine⟨hdd _,?_⟩;refine HR.out.mono ?_;rintro e W3 (⟨rfl,hj3,hb3⟩|⟨rfl,pre,hx3⟩)
   ·obtain⟨fn2,tmps2,assign2,body2,hy2,hR2⟩:=HY.out 13 W3 (by omega) hj3 hb3;replace hy2:(Instr.yield l #[.agg #[.int .i64 2,.int .i64 0],.pointer (some ⟨X,15,none⟩)]).run Tryz.prog W3=.ok (.round l fn2 tmps2 assign2 body2) W3:=hy2;have cb3:=(hb3.cell 0).trans (show _=some (.pointer (some ⟨X,1,none⟩)) from rfl);have HR2:=hide hR2;clear hR2 hj3 hb3 hy HR cb;gi_wp2
    refine⟨hdd _,?_⟩;refine HR2.out.mono ?_;rintro e W4 (⟨rfl,hj4,hb4⟩|⟨rfl,pre,hx4⟩)
    ·have H4:=hide hj4;clear hj4 hb4 hy2 HR2 cb3;gi_wp2
     go_end0;exact⟨⟨_,rfl⟩,.inl ⟨_,rfl,H4.out⟩⟩
    ·have H4:=hide hx4;clear hx4 hy2 HR2 cb3;gi_wp2
     go_end0;exact⟨⟨_,rfl⟩,.inr ⟨pre,trivial,H4.out⟩⟩
   ·have H3:=hide hx3;clear hx3 hy HR cb;gi_wp2
    go_end0;exact⟨⟨_,rfl⟩,.inr ⟨pre,trivial,H3.out⟩⟩
def topT(cnt n:Nat)(W:Int→Nat→Int)(Pv:Nat→Int)(j:Nat):TL:=tellG cnt n W (topL j) (topR j) (Pv j)
def topsT(cnt n:Nat)(W:Int→Nat→Int)(Pv:Nat→Int):List TL:=(List.range 14).map (topT cnt n W Pv)
theorem topL_le(j:Nat):topL j≤2:=by
 unfold topL;by_cases h1:j<12
 ·rw[if_pos h1];omega
 ·rw[if_neg h1];by_cases h2:j=12
  ·rw[if_pos h2];omega
  ·rw[if_neg h2];omega
theorem topF_le{j:Nat}(h:j<14):firI (topL j) (topR j)≤100000:=by
 unfold topL topR;by_cases h1:j<12
 ·rw[if_pos h1,if_pos h1];simp[firI];omega
 ·rw[if_neg h1,if_neg h1];by_cases h2:j=12
  ·rw[if_pos h2];simp[firI,belR]
  ·rw[if_neg h2];simp[firI,belR]
theorem grown_drewT(W:World):W.grownBy (World.drew W) none:=⟨rfl,rfl,rfl,Nat.le_refl _,fun _ _ _=>rfl⟩
theorem topsT_at{cnt n:Nat}{W:Int→Nat→Int}{Pv:Nat→Int}{j:Nat}(h:j<14):(topsT cnt n W Pv)[j]?=some (topT cnt n W Pv j):=by unfold topsT;simp[h]
structure TopI(lY n₀ z:Nat)(Ty:TypeId→Prop)(J:List TX→World→Prop)(Z:TL)(Ls:List TL)(C:Array Value)(w0 W:World)(X:Nat)(pre:List Nat)(Wx:World):Prop where
 le:pre.length≤14
 inv:J (upX ((Ls.take pre.length).flatMap (·.1))) Wx
 fits:FitsT Z ((Ls.take pre.length).flatMap (·.1)) (allT (Ls.drop pre.length))
 good:∀x∈Ls.take pre.length,x.2=false
 tree:Blk Wx X C 75
 yb:Blk Wx W.heap.size #[.func (.yield lY) #[] #[]] 179
 bel:Below n₀ w0 Wx
 size:W.heap.size+4≤Wx.heap.size
theorem run_load_rowT{P:Program}{o:Oper}{a:Act}{w:World}(ty:TypeId)(x:Operand)(ho:o.op=.load ty x)
 (g:Nat) (hx:a.eval x=.pointer (some ⟨g,0,none⟩)) (t:TypeId) (cs:Array Value) (fr:Nat×Nat) (d:TypeDesc) (hg:w.heap[g]?=some (.cells cs t fr))
 (hu:P.underlying ty=some d) (hd:(match d with|.struct _|.array _ _=>true|_=>false)=true) (hi:(P.info? ty).map (·.size)=some cs.size):(execOp a.eval o).run P w=.ok (.value (.agg cs)) w:=by
 unfold execOp;simp only[ho,hx,Instr.loadAt,Instr.sureAddr,Sem.run_bind,Sem.run_pure,Result.andThen_ok,run_loadVar_row w g t ty cs fr d hg hu hd hi]
theorem keeps_belowT{B:Nat}{W W':World}(hb:Below W.heap.size W W'):KeepsFrom B W W':=⟨hb.size,fun k o _ hk _=>(hb.block k (Array.getElem?_eq_some_iff.1 hk).1).trans hk⟩
theorem blk_bare{A B:World}{r b:Nat}{C:Array Value}{t:TypeId}(h:Blk A b C t)(hg:A.grownBy B (some r))(hr:∃o,A.heap[r]?=some o∧o.isCells=false):Blk B b C t:=
 (hg.block b h.lt (fun e=>by
  injection e with e;subst e;obtain⟨o,ho,hc⟩:=hr;rw[h] at ho;cases ho
  cases hc)).trans h
theorem blk_abide{A B:World}{row:Option Nat}{b z:Nat}{C:Array Value}{t:TypeId}(h:Blk A b C t)(hg:A.grownBy B row)(hr:∀r,row=some r→z≤r∧∃o,A.heap[r]?=some o∧o.isCells=false):Blk B b C t:=by
 cases row with
 |none=>exact(hg.block b h.lt (fun e=>by cases e)).trans h
 |some r=>exact blk_bare h hg (hr r rfl).2
theorem below_abide{w0 A B:World}{row:Option Nat}{n₀ z:Nat}(h:Below n₀ w0 A)(hn:n₀≤z)(hA:n₀≤A.heap.size)(hg:A.grownBy B row)(hr:∀r,row=some r→z≤r∧∃o,A.heap[r]?=some o∧o.isCells=false):Below n₀ w0 B:=
 h.grown hg hA (fun k e=>Nat.le_trans hn (hr k e).1)
theorem TopI.abides{lY n₀ z z1:Nat}{Ty:TypeId→Prop}{J:List TX→World→Prop}{Z:TL}{Ls:List TL}{C:Array Value}{w0 W:World}{X:Nat}(hJ:AbidesZ z J)(hz:z≤z1)(hn:n₀≤z)(hW:n₀≤W.heap.size):AbidesZ z1 (TopI lY n₀ z Ty J Z Ls C w0 W X):=by
 intro pre A B row h hg hr;exact⟨h.le,hJ _ _ _ row h.inv hg (fun r e=>⟨Nat.le_trans hz (hr r e).1,(hr r e).2⟩),h.fits,h.good,blk_abide h.tree hg hr,blk_abide h.yb hg hr,below_abide h.bel (Nat.le_trans hn hz) (Nat.le_trans hW (Nat.le_trans (by omega) h.size)) hg hr,Nat.le_trans h.size hg.size⟩
theorem tmps17(a:Array Value)(h:a.size=17):a=#[a.getD 0 undef,a.getD 1 undef,a.getD 2 undef,a.getD 3 undef,a.getD 4 undef,a.getD 5 undef,a.getD 6 undef,a.getD 7 undef,a.getD 8 undef,a.getD 9 undef,a.getD 10 undef,a.getD 11 undef,a.getD 12 undef,a.getD 13 undef,a.getD 14 undef,a.getD 15 undef,a.getD 16 undef]:=by
 have e:a=((List.range 17).map fun i=>a.getD i undef).toArray:=Array.ext (by simp[h]) (fun i h1 h2=>by simp[Array.getD,h1]);exact e
theorem blocks_goes(n:Nat)(hn:1≤n)(X n₀:Nat)(Ty:TypeId→Prop)(Z:TL)(cnt sz:Nat)(zs:List Int)(C:Array Value)(Pv:Nat→Int)(iv:Value)(w0 W:World)
 (hT1:¬Ty 75) (hT2:¬Ty 123) (hT3:¬Ty 121) (hT4:¬Ty 179)
 (hC0:C[0]?=some iv) (hC1:C[1]?=some (.int .i64 (sz:Int))) (hCP:∀j,j<14→C[2+j]?=some (.int .i64 (Pv j))) (hCs:C.size=16) (hR:Rd .u8 w0 iv zs) (hn₀:n₀=w0.heap.size) (hz:zs.length≤1048576) (hbd:∀z∈zs,0≤z∧z<256) (hsz:sz≤262144) (hcnt:cnt=(sz+511)/512)
 (hZ:Z=allT (topsT cnt (zs.length/512) (wrdP zs) Pv)) (hX:Blk W X C 75) (hbW:Below n₀ w0 W) (hnW:n₀≤W.heap.size):
 GoesK Fence.wide n Tryz.prog 104 #[.pointer (some ⟨X,0,none⟩)] TX.enc (Kq n₀ W.heap.size Ty) (OkX Z) (fun xs=>(Z.2=false∧xs=upX Z.1)∨(Z.2=true∧∃x,xs=upX Z.1++[x])) (fun _=>True) W:=by
 intro lY J Jx hJ hJx hY h0;have HT:=hide (tell_all lY n₀ W.heap.size Ty J Jx Z cnt sz zs C iv w0 hT1 hT2 hJ (fun m pre x W1 h1 h2=>YieldAt.depthT m (hY pre x W1 h1 h2)) hC0 hC1 hCs hR hn₀ hz hbd hsz hcnt);have HP:=hide (And.intro hCP hCs);have HX:=hide (And.intro hX (And.intro hbW h0));have HJ:=hide (And.intro hJ hJx);have HTy:=hide (And.intro hT1 (And.intro hT2 (And.intro hT3 hT4)));have HZ:=hide hZ;clear hY hC0 hC1 hR hbd hcnt hX hbW h0 hCP hJ hJx hT1 hT2 hT3 hT4 hZ hCs;obtain⟨w2,hw2⟩:∃w2,w2=(W.alloc (.cells #[.func (.yield lY) #[] #[]] 179)).alloc (.cells #[.pointer (some ⟨X,1,none⟩)] 121):=⟨_,rfl⟩;have hs2:w2.heap.size=W.heap.size+2:=by rw[hw2];simp
 have B2:=hide (show Below W.heap.size W w2 from by rw[hw2];exact((Below.refl _ _).alloc (Nat.le_refl _) _).alloc (by simp) _);have KY:=hide (show Blk w2 W.heap.size #[.func (.yield lY) #[] #[]] 179 from by rw[hw2];exact(Blk.new W _ _).alloc _);have KR:=hide (show Blk w2 (W.heap.size+1) #[.pointer (some ⟨X,1,none⟩)] 121 from by have h:=Blk.new (W.alloc (.cells #[.func (.yield lY) #[] #[]] 179)) #[.pointer (some ⟨X,1,none⟩)] 121;rw[World.size_alloc] at h;rw[hw2];exact h);have HW2:=hide hw2;have HS2:=hide hs2;clear hw2 hs2;have hdd:∀k:Nat,(Fence.wide.depth.isSome=true→1≤k):=fun k h=>by cases h
 refine callsIn_of_wp_marks Tryz.func104 rfl trivial ?_ rfl;simp only[Tryz.ntmps104,List.size_toArray,List.length_cons,List.length_nil,Nat.reduceAdd,Nat.reduceSub,Array.replicate_succ,Array.replicate_zero,List.push_toArray,List.append_toArray,List.nil_append,List.cons_append];gi_wp2_with (refine⟨trivial,?_⟩;gi_at_call 68;refine(tops_in _ X _).mono ?_;rintro e w' ⟨rfl,rfl⟩)
 rw[←HW2.out];have hw2s:=HS2.out;have hmx:Tryz.prog.follows .mixedOrders=true:=by kernel_rfl
 refine wpIn_rangeGoesK (α:=Nat) rfl hn (gf:=99) (lb:=#[.pointer (some ⟨W.heap.size+1,0,none⟩)]) rfl trivial (enters_of Tryz.func99 (by kernel_rfl) rfl) (encs:=topE X) (Kp:=Kq n₀ (w2.heap.size+2) Ty) Kq.trans (fun A o o' ho hc=>Kq.put o' (by omega) (by omega) ho hc)
  (Ok:=fun pre x _=>x=pre.length∧x<14) (S:=fun xs=>xs=List.range 14) (Sp:=fun _=>True)
  (fun W1 hb1 hs1=>tops_goes (n-1) (W.heap.size+1) X n₀ (w2.heap.size+2) Ty HTy.out.2.2.1 W1 (KR.out.below hb1 KR.out.lt))
  (fun _=>rfl) (TopI lY n₀ W.heap.size Ty J Z (topsT cnt (zs.length/512) (wrdP zs) Pv) C w0 W X)
  (fun c pre Wx=>c=.ret∧((∃p,Jx p Wx)∨(Z.2=true∧∃x,J (upX Z.1++[x]) Wx)))
  (TopI.abides HJ.out.1 (by omega) hnW hnW)
  (fun c pre A B row h hg hr=>⟨h.1,h.2.elim (fun⟨p,hp⟩=>.inl ⟨p,HJ.out.2 _ _ _ row hp hg (fun r e=>⟨by have:=(hr r e).1;omega,(hr r e).2⟩)⟩) (fun⟨h1,x,hx⟩=>.inr ⟨h1,x,HJ.out.1 _ _ _ row hx hg (fun r e=>⟨by have:=(hr r e).1;omega,(hr r e).2⟩)⟩)⟩)
  ?start
  (fun pre x a' Wx=>∃c,a'={tmps:=#[.func (.yield lY) #[] #[],.pointer (some ⟨X,0,none⟩),.pointer (some ⟨W.heap.size,0,none⟩),.pointer (some ⟨c,0,none⟩),.pointer (some ⟨X,2+x,none⟩),.pointer (some ⟨X,1,none⟩),.func (.func 99) #[] #[.pointer (some ⟨W.heap.size+1,0,none⟩)],spotV (topL x) (topR x),.pointer (some ⟨X,2+x,none⟩),undef,undef,undef,undef,undef,undef,undef,undef],defers:=[]}∧Blk Wx c #[.int .i64 (topL x:Int),.int .i64 (topR x:Int)] 123∧TopI lY n₀ W.heap.size Ty J Z (topsT cnt (zs.length/512) (wrdP zs) Pv) C w0 W X pre Wx∧x=pre.length∧x<14) ?ax ?assign ?body ?done ?stop
 case start=>
  intro W' hb hsz';refine⟨by simp,?_,?_,fun x hx=>by simp at hx,?_,KY.out.below hb KY.out.lt,HX.out.2.1.trans ((B2.out.trans (hb.mono (by omega))).mono hnW),by omega⟩
  ·have hb3:=B2.out.trans (hb.mono (by omega));exact HJ.out.1 _ _ _ none HX.out.2.2 ⟨hb3.os,hb3.tape,hb3.output,hb3.size,fun k hk _=>hb3.block k hk⟩ (fun r e=>by cases e)
  ·simp only[List.length_nil,List.take_zero,List.flatMap_nil,List.drop_zero];rw[←HZ.out];exact FitsT.all Z
  ·exact(HX.out.1.below B2.out HX.out.1.lt).below hb (by have:=HX.out.1.lt;omega)
 case ax=>
  rintro pre x a' A B ⟨c,h1,h2,h3,h4⟩ hg hr;exact⟨c,h1,blk_bare h2 hg hr,TopI.abides HJ.out.1 (z1:=w2.heap.size+1) (by omega) hnW hnW pre A B _ h3 hg (fun r e=>by cases e;exact⟨Nat.le_refl _,hr⟩),h4⟩
 case assign=>
  rintro l pre x Wx K hI ⟨hx1,hx2⟩ hK;have HK:=hide (And.intro hI (And.intro hK (And.intro hx1 hx2)));clear hI hK hx1 hx2;unfold topE;generalize hTL:topL x=tl at HK⊢;generalize hTR:topR x=tr at HK⊢;have HTL:=hide (And.intro hTL hTR);clear hTL hTR;gi_wp2
  have bA:Below Wx.heap.size Wx (Wx.alloc (.cells #[.int .i64 (tl:Int),.int .i64 (tr:Int)] 123)):=(Below.refl _ _).alloc (Nat.le_refl _) _;exact HK.out.2.1 _ _ (keeps_belowT bA) (Kq.of_below bA (by have:=HK.out.1.size;omega)) ⟨_,rfl,Blk.new _ _ _,TopI.abides HJ.out.1 (z1:=W.heap.size) (Nat.le_refl _) hnW hnW pre _ _ none HK.out.1 ⟨bA.os,bA.tape,bA.output,bA.size,fun k hk _=>bA.block k hk⟩ (fun r e=>by cases e),HK.out.2.2⟩
 case body=>
  rintro l pre x a' Wx ⟨c,rfl,kc,hI,hx1,hx2⟩;have HI:=hide (And.intro hI (And.intro hx1 hx2));have c0:=(kc.cell 0).trans (show _=some (.int .i64 (topL x:Int)) from rfl);have c1:=(kc.cell 1).trans (show _=some (.int .i64 (topR x:Int)) from rfl);have cp:=(hI.tree.cell (2+x)).trans (HP.out.1 x hx2);have cy:=(hI.yb.cell 0).trans (show _=some (.func (.yield lY) #[] #[]) from rfl);have HTr:=hide (And.intro hI.tree kc);clear hI hx1 hx2 kc;gi_wp2
  refine wpIn_region_any (by assumption) ?_;change wpAnyIn _ _ _ _ _ _ _ _ _ (World.drew Wx);have d0:(World.drew Wx).cell? ⟨c,0,none⟩=some (.int .i64 (topL x:Int)):=c0;have d1:(World.drew Wx).cell? ⟨c,1,none⟩=some (.int .i64 (topR x:Int)):=c1;have dp:(World.drew Wx).cell? ⟨X,2+x,none⟩=some (.int .i64 (Pv x)):=cp;have dy:(World.drew Wx).cell? ⟨W.heap.size,0,none⟩=some (.func (.yield lY) #[] #[]):=cy;refine wpAnyIn_readsB [(0,.func (.yield lY) #[] #[]),(1,.pointer (some ⟨X,0,none⟩)),(2,.pointer (some ⟨W.heap.size,0,none⟩)),(3,.pointer (some ⟨c,0,none⟩)),(4,.pointer (some ⟨X,2+x,none⟩)),(5,.pointer (some ⟨X,1,none⟩)),(6,.func (.func 99) #[] #[.pointer (some ⟨W.heap.size+1,0,none⟩)]),(7,spotV (topL x) (topR x)),(8,.pointer (some ⟨X,2+x,none⟩))] (World.drew Wx) (fun i=>match i with|0=>.agg C|1=>.agg #[.int .i64 (topL x:Int),.int .i64 (topR x:Int)]|2=>.pointer (some ⟨X,2+x,none⟩)|3=>.pointer (some ⟨X,2+x,none⟩)|4=>.int .i64 (Pv x)|_=>.func (.yield lY) #[] #[]) 17 [] 6 (by kernel_rfl) (by kernel_rfl) ?hstep ?hfin _ rfl rfl (by
   intro t v h;simp only[List.mem_cons,List.not_mem_nil,or_false,Prod.mk.injEq] at h;rcases h with⟨rfl,rfl⟩|⟨rfl,rfl⟩|⟨rfl,rfl⟩|⟨rfl,rfl⟩|⟨rfl,rfl⟩|⟨rfl,rfl⟩|⟨rfl,rfl⟩|⟨rfl,rfl⟩|⟨rfl,rfl⟩<;>rfl)
  case hstep=>
   intro i o listed ac him hi hall hI9;have f1:ac.tmps.getD 1 undef=.pointer (some ⟨X,0,none⟩):=hI9.fix 1 _ (by simp);have f2:ac.tmps.getD 2 undef=.pointer (some ⟨W.heap.size,0,none⟩):=hI9.fix 2 _ (by simp);have f3:ac.tmps.getD 3 undef=.pointer (some ⟨c,0,none⟩):=hI9.fix 3 _ (by simp);have f4:ac.tmps.getD 4 undef=.pointer (some ⟨X,2+x,none⟩):=hI9.fix 4 _ (by simp);match i,him,hi with
   |0,_,hi=>
    obtain rfl:=Option.some.inj hi;exact⟨by rfl,(fun c=>by intro h;cases h),(fun c=>by intro h;cases h),run_load_rowT (a:=ac) 75 (.tmp 1) rfl X (show ac.eval (.tmp 1)=_ from f1) 75 C (0,0) _ (show(World.drew Wx).heap[X]?=some (.cells C 75 (0,0)) from HTr.out.1) Tryz.underlying75 rfl (by rw[HP.out.2];exact infoTr)⟩
   |1,_,hi=>
    obtain rfl:=Option.some.inj hi;exact⟨by rfl,(fun c=>by intro h;cases h),(fun c=>by intro h;cases h),by go_simp⟩
   |2,_,hi=>
    obtain rfl:=Option.some.inj hi;exact⟨by rfl,(fun c=>by intro h;cases h),(fun c=>by intro h;cases h),by go_simp⟩
   |3,_,hi=>
    obtain rfl:=Option.some.inj hi;have v2:ac.tmps.getD 11 undef=.pointer (some ⟨X,2+x,none⟩):=hI9.at hall 2 11 rfl rfl (by rfl);exact⟨by rfl,(fun c=>by intro h;cases h),(fun c=>by intro h;cases h),by go_simp⟩
   |4,_,hi=>
    obtain rfl:=Option.some.inj hi;have v3:ac.tmps.getD 12 undef=.pointer (some ⟨X,2+x,none⟩):=hI9.at hall 3 12 rfl rfl (by rfl);exact⟨by rfl,(fun c=>by intro h;cases h),(fun c=>by intro h;cases h),by go_simp⟩
   |5,_,hi=>
    obtain rfl:=Option.some.inj hi;exact⟨by rfl,(fun c=>by intro h;cases h),(fun c=>by intro h;cases h),by go_simp⟩
   |k+6,him,_=>exact absurd him (by omega)
  case hfin=>
   rintro ⟨tm,df⟩ hI9;have hdf:df=[]:=hI9.df;have e:=tmps17 tm hI9.sz;have g0:tm.getD 0 undef=.func (.yield lY) #[] #[]:=hI9.fix 0 _ (by simp);have g1:tm.getD 1 undef=.pointer (some ⟨X,0,none⟩):=hI9.fix 1 _ (by simp);have g2:tm.getD 2 undef=.pointer (some ⟨W.heap.size,0,none⟩):=hI9.fix 2 _ (by simp);have g3:tm.getD 3 undef=.pointer (some ⟨c,0,none⟩):=hI9.fix 3 _ (by simp);have g4:tm.getD 4 undef=.pointer (some ⟨X,2+x,none⟩):=hI9.fix 4 _ (by simp);have g5:tm.getD 5 undef=.pointer (some ⟨X,1,none⟩):=hI9.fix 5 _ (by simp);have g6:tm.getD 6 undef=.func (.func 99) #[] #[.pointer (some ⟨W.heap.size+1,0,none⟩)]:=hI9.fix 6 _ (by simp);have g7:tm.getD 7 undef=spotV (topL x) (topR x):=hI9.fix 7 _ (by simp);have g8:tm.getD 8 undef=.pointer (some ⟨X,2+x,none⟩):=hI9.fix 8 _ (by simp);have g9:tm.getD 9 undef=.agg C:=hI9.vals 0 _ 9 rfl rfl rfl;have g10:tm.getD 10 undef=.agg #[.int .i64 (topL x:Int),.int .i64 (topR x:Int)]:=hI9.vals 1 _ 10 rfl rfl rfl;have g11:tm.getD 11 undef=.pointer (some ⟨X,2+x,none⟩):=hI9.vals 2 _ 11 rfl rfl rfl;have g12:tm.getD 12 undef=.pointer (some ⟨X,2+x,none⟩):=hI9.vals 3 _ 12 rfl rfl rfl;have g13:tm.getD 13 undef=.int .i64 (Pv x):=hI9.vals 4 _ 13 rfl rfl rfl;have g14:tm.getD 14 undef=.func (.yield lY) #[] #[]:=hI9.vals 5 _ 14 rfl rfl rfl;rw[g0,g1,g2,g3,g4,g5,g6,g7,g8,g9,g10,g11,g12,g13,g14] at e;generalize tm.getD 15 undef=u15 at e;generalize tm.getD 16 undef=u16 at e;clear g0 g1 g2 g3 g4 g5 g6 g7 g8 g9 g10 g11 g12 g13 g14 hI9;subst e hdf;refine wpAnyIn_ready (rs:=[6]) (by kernel_rfl) (by simp) ?_;refine AllReadyIn.cons rfl (fun K hK=>?_) AllReadyIn.nil;go_simp;refine⟨trivial,hdd _,?_⟩;have hJd:J (upX (((topsT cnt (zs.length/512) (wrdP zs) Pv).take pre.length).flatMap (·.1))) (World.drew Wx):=HJ.out.1 _ _ _ none HI.out.1.inv (grown_drewT Wx) (fun r e=>by cases e);have hat:(topsT cnt (zs.length/512) (wrdP zs) Pv)[pre.length]?=some (topT cnt (zs.length/512) (wrdP zs) Pv pre.length):=topsT_at (by have:=HI.out.2;omega);have hfn:=fits_next (A:=[]) (by rw[List.nil_append];exact HI.out.1.fits) hat;rw[List.nil_append,List.nil_append] at hfn;have hcall:=HT.out (topL x) (topL_le x) (n-1-1-1) (topR x) (Pv x) _ (World.drew Wx) (topF_le HI.out.2.2) (HI.out.1.bel.drew) (by have:=HI.out.1.size;show n₀≤Wx.heap.size;omega) hJd (by rw[HI.out.2.1];exact hfn.1);refine(CallsIn.inRound l hcall).mono ?_;rintro e W3 ⟨b,rfl,htp⟩;have HTP:=hide htp;have HFN:=hide (And.intro hfn.2 hat);clear htp hcall hfn hJd hat;refine hK _ _ ?_;clear hK K;refine wpAnyIn_ready (rs:=[7]) (by kernel_rfl) (by simp) ?_;refine AllReadyIn.cons rfl (fun K hK=>?_) AllReadyIn.nil;go_simp;refine hK _ _ ?_;clear hK K;refine wpAnyIn_done (by kernel_rfl) ?_ _;have hqd:Kq n₀ W.heap.size Ty Wx (World.drew Wx):=Kq.of_below ((Below.refl _ _).drew) (by have:=HI.out.1.size;omega);rcases HTP.out with⟨rfl,ht,hj,hkq⟩|⟨rfl,hkf,hx⟩
   ·have HN:=hide (show Kq n₀ W.heap.size Ty Wx W3∧TopI lY n₀ W.heap.size Ty J Z (topsT cnt (zs.length/512) (wrdP zs) Pv) C w0 W X (pre++[x]) W3 from by
     have hq:=hqd.trans hkq;obtain⟨hlt,eL⟩:=List.getElem?_eq_some_iff.1 HFN.out.2;have hx1:=HI.out.2.1;have ht':(topT cnt (zs.length/512) (wrdP zs) Pv pre.length).2=false:=(by rw[←hx1];exact ht);refine⟨hq,by simp;have:=HI.out.2;omega,?_,?_,?_,hq.blk HI.out.1.tree HTy.out.1,hq.blk HI.out.1.yb HTy.out.2.2.2,HI.out.1.bel.trans hq.below,Nat.le_trans HI.out.1.size hq.size⟩
     ·rw[List.length_append,List.length_singleton,List.take_succ_eq_append_getElem hlt,eL,List.flatMap_append];have hj':=hj;rw[hx1] at hj';simpa [topT] using hj'
     ·rw[List.length_append,List.length_singleton];exact HFN.out.1 ht'
     ·intro y hy;rw[List.length_append,List.length_singleton,List.take_succ_eq_append_getElem hlt,eL] at hy;rcases List.mem_append.1 hy with hy|hy
      ·exact HI.out.1.good y hy
      ·simp at hy;rw[hy];exact ht')
    clear ht hj hkq hqd;gi_wp2
    exact⟨(keepsT_mono HN.out.1.keepsZ (by omega)),HN.out.1.weak (by omega),HN.out.2⟩
   ·have HN:=hide (show KeepsFrom W.heap.size Wx W3∧((∃p,Jx p W3)∨(Z.2=true∧∃x,J (upX Z.1++[x]) W3)) from by
     refine⟨hqd.keepsZ.trans hkf,?_⟩;rcases hx with h|⟨h1,y,h2⟩
     ·exact .inl h
     ·refine .inr ?_;have hx1:=HI.out.2.1;rw[hx1] at h1 h2;rw[HZ.out,allT_at _ pre.length _ HI.out.1.good HFN.out.2 h1];exact⟨rfl,y,h2⟩)
    clear hkf hx hqd;gi_wp2
    exact⟨keepsT_mono HN.out.1 (by omega),rfl,HN.out.2⟩
 case done=>
  rintro xs Wx rfl hI hK;have HI:=hide (And.intro hI hK);clear hI hK;gi_wp2
  refine⟨by simp,.inl ⟨_,_,rfl,run_takeDeferred HI.out.2,?_⟩⟩;have hta:(topsT cnt (zs.length/512) (wrdP zs) Pv).take 14=topsT cnt (zs.length/512) (wrdP zs) Pv:=List.take_of_length_le (by unfold topsT;simp);have hg:=HI.out.1.good;have hi:=HI.out.1.inv;rw[List.length_range,hta] at hg hi;have hZ2:=HZ.out;rw[allT_ok _ hg] at hZ2;have hJ2:J (upX Z.1) (Wx.putObj w2.heap.size (.deferred none)):=HJ.out.1 _ _ _ (some w2.heap.size) (by rw[hZ2];exact hi) (grownBy_putObj' _ _ _) (fun r e=>by cases e;exact⟨by omega,_,HI.out.2,rfl⟩);exact⟨_,results_none rfl _ _ _,⟨_,rfl⟩,.inl ⟨_,.inl ⟨by rw[hZ2],rfl⟩,hJ2⟩⟩
 case stop=>
  rintro c pre Wx _ ⟨rfl,hx⟩ hK;have HI:=hide (And.intro hx hK);clear hx hK;gi_wp2
  refine⟨by simp,.inl ⟨_,_,rfl,run_takeDeferred HI.out.2,?_⟩⟩;refine⟨_,results_none rfl _ _ _,⟨_,rfl⟩,?_⟩;rcases HI.out.1 with⟨p,hp⟩|⟨h1,y,h2⟩
  ·exact .inr ⟨p,trivial,HJ.out.2 _ _ _ (some w2.heap.size) hp (grownBy_putObj' _ _ _) (fun r e=>by cases e;exact⟨by omega,_,HI.out.2,rfl⟩)⟩
  ·exact .inl ⟨_,.inr ⟨h1,y,rfl⟩,HJ.out.1 _ _ _ (some w2.heap.size) h2 (grownBy_putObj' _ _ _) (fun r e=>by cases e;exact⟨by omega,_,HI.out.2,rfl⟩)⟩
end
end Go.Proofs.YtbhpealglhkodaaGreatDoor
