/- The program's content of a tree. -/
import Derived.Test.YtbhpealglhkodaaGreatDoorXc12
import Derived.Laws.CopyRow
namespace Go.Proofs.YtbhpealglhkodaaGreatDoor
set_option linter.all false
set_option maxRecDepth 100000
set_option maxHeartbeats 16000000
section
open Go.RowKit Go.Shelf
attribute [local go_sem] Oper.semAt_some
theorem mem_allT:∀(L:List TL) (h:HG),h∈(allT L).1→∃a∈L,h∈a.1
 |[],h,hm=>by simp[allT] at hm
 |b::L,h,hm=>by
  unfold allT thenT at hm;by_cases hb:b.2=true
  ·rw[if_pos hb] at hm;exact⟨b,List.mem_cons_self,hm⟩
  ·rw[if_neg hb] at hm;rcases List.mem_append.1 hm with hm|hm
   ·exact⟨b,List.mem_cons_self,hm⟩
   ·obtain⟨a,ha,h2⟩:=mem_allT L h hm;exact⟨a,List.mem_cons_of_mem _ ha,h2⟩
def GoodH(cnt n:Nat)(h:HG):Prop:=goodP n h.2.2=true∧h.2.2≠0∧(h.1=0→h.2.1<cnt)
theorem tellG_mem{cnt n:Nat}{W:Int→Nat→Int}:∀(l r:Nat) (p:Int) (h:HG),h∈(tellG cnt n W l r p).1→GoodH cnt n h
 |0,r,p,h,hm=>by
  unfold tellG at hm;by_cases h0:cnt≤firI 0 r∨p=0
  ·rw[if_pos h0] at hm;simp at hm
  ·rw[if_neg h0] at hm;cases hg:goodP n p with
   |false=>rw[if_pos hg] at hm;simp at hm
   |true=>
    rw[if_neg (by rw[hg];decide)] at hm;simp at hm;subst hm;exact⟨hg,fun e=>h0 (.inr e),fun _=>by have h1:¬cnt≤r:=fun e=>h0 (.inl e);show r<cnt;omega⟩
 |l+1,r,p,h,hm=>by
  unfold tellG at hm;by_cases h0:cnt≤firI (l+1) r∨p=0
  ·rw[if_pos h0] at hm;simp at hm
  ·rw[if_neg h0] at hm;cases hg:goodP n p with
   |false=>rw[if_pos hg] at hm;simp at hm
   |true=>
    rw[if_neg (by rw[hg];decide)] at hm;unfold thenT at hm;rw[if_neg (by simp)] at hm;rcases List.mem_append.1 hm with hm|hm
    ·simp at hm;subst hm;exact⟨hg,fun e=>h0 (.inr e),fun e=>by simp at e⟩
    ·obtain⟨a,ha,h2⟩:=mem_allT _ h hm;obtain⟨k,_,rfl⟩:=List.mem_map.1 ha;exact tellG_mem l _ _ h h2
theorem tops_mem{cnt n:Nat}{W:Int→Nat→Int}{Pv:Nat→Int}{h:HG}(hm:h∈(allT (topsT cnt n W Pv)).1):GoodH cnt n h:=by
 obtain⟨a,ha,h2⟩:=mem_allT _ h hm;unfold topsT at ha;obtain⟨j,_,rfl⟩:=List.mem_map.1 ha;exact tellG_mem _ _ _ h h2
theorem ok_mem{Z:TL}{A:List HG}{h:HG}(hp:A++[h]<+:Z.1):h∈Z.1:=hp.subset (by simp)
theorem Kq.setRow{n₀ z:Nat}{Ty:TypeId→Prop}{W:World}{g:Nat}{c cs:Array Value}{t:TypeId}(h:Blk W g c t)(ht:Ty t)(hn:n₀≤g):Kq n₀ z Ty W (W.setRow g cs):=by
 have hne:∀k,k≠g→(W.setRow g cs).heap[k]?=W.heap[k]?:=fun k hk=>by simp[World.setRow,Array.getElem?_modify,show ¬g=k from fun e=>hk e.symm]
 refine⟨below_setRow (Below.refl _ _) hn _,fun k x u fr hk hu=>?_,fun k o hk ho hc=>?_,by simp[World.setRow]⟩
 ·rw[hne k (fun e=>by subst e;rw[h] at hk;cases hk;exact hu ht)];exact hk
 ·rw[hne k (fun e=>by subst e;rw[h] at ho;cases ho;cases hc)];exact ho
theorem wpListIn_store_rowT{F:Fence}{n:Nat}{P:Program}{ops:Array Oper}{rest:List Oper}{o:Oper}{a:Act}{w:World}{Q:Exit→Act→World→Prop}(hgd:o.guard=none)(ty:TypeId)(x y:Operand)(ho:o.op=.store ty x y)
 (g:Nat) (cells:Array Value) (hx:a.eval x=.pointer (some ⟨g,0,none⟩)) (hy:a.eval y=.agg cells)
 (t:TypeId) (old:Array Value) (hg:Blk w g old t) (hi:(P.info? ty).map (·.size)=some cells.size) (hold:old.size=cells.size) (h1:cells.all (·.oneCell')=true)
 (h:wpListIn F n P ops Q rest (a.put o.dst undef) (w.setRow g cells)):wpListIn F n P ops Q (o::rest) a w:=by
 refine wpListIn_runS hgd (by rw[ho];intro c hc;cases hc) (by rw[ho];intro c hc;cases hc) (w.setRow g cells) ?_ h;unfold execOp;simp only[ho,hx,hy,Instr.storeAt,Instr.sureAddr,Sem.run_bind,Sem.run_pure,Result.andThen_ok,run_storeVar_row w g t ty old cells hg hi hold h1]
theorem wpListIn_load_rowT{F:Fence}{n:Nat}{P:Program}{ops:Array Oper}{rest:List Oper}{o:Oper}{a:Act}{w:World}{Q:Exit→Act→World→Prop}(hgd:o.guard=none)(ty:TypeId)(x:Operand)(ho:o.op=.load ty x)
 (g:Nat) (hx:a.eval x=.pointer (some ⟨g,0,none⟩)) (t:TypeId) (cs:Array Value) (d:TypeDesc) (hg:Blk w g cs t)
 (hu:P.underlying ty=some d) (hd:(match d with|.struct _|.array _ _=>true|_=>false)=true) (hi:(P.info? ty).map (·.size)=some cs.size)
 (h:wpListIn F n P ops Q rest (a.put o.dst (.agg cs)) w):wpListIn F n P ops Q (o::rest) a w:=
 wpListIn_run hgd (by rw[ho];intro c hc;cases hc) (by rw[ho];intro c hc;cases hc) _ _ (run_load_rowT ty x ho g hx t cs (0,0) d hg hu hd hi) h
theorem flt_abide{A B:World}{row:Option Nat}{n z:Nat}{v:Value}{c:Int}(h:Flt A 0 n v c)(hg:A.grownBy B row)(hr:∀r,row=some r→z≤r∧∃o,A.heap[r]?=some o∧o.isCells=false):Flt B 0 n v c:=
 h.keep fun b o u _ hc=>cell_kept hc hg (fun r e=>(hr r e).2)
theorem flt_set{A:World}{r:Nat}{u:Value}{t:TypeId}(hb:Blk A r #[u] t)(hu:∀k z,u≠.int k z)(x:Value):∀{n:Nat} {v:Value} {c:Int},Flt A 0 n v c→Flt (A.setCell ⟨r,0,none⟩ x) 0 n v c
 |0,v,c,⟨b,e,hl,hc⟩=>by
  refine⟨b,e,hl,?_⟩;have hne:b≠r:=fun h=>by
   subst h;rw[hb.cell 0] at hc;simp at hc;exact hu _ _ hc
  rw[World.cell?_setCell_other _ _ _ _ (by intro e;injection e with e1;exact hne e1.symm)];exact hc
 |n+1,v,c,⟨b,v',e,hl,hc,hr⟩=>by
  refine⟨b,v',e,hl,?_,flt_set hb hu x hr⟩;have hne:b≠r:=fun h=>by
   subst h;rw[hb.cell 1] at hc;simp at hc
  rw[World.cell?_setCell_other _ _ _ _ (by intro e;injection e with e1;exact hne e1.symm)];exact hc
theorem okX_abide{Z:TL}{pre:List TX}{x:TX}{A B:World}{row:Option Nat}{z:Nat}(h:OkX Z pre x A)(hg:A.grownBy B row)(hr:∀r,row=some r→z≤r∧∃o,A.heap[r]?=some o∧o.isCells=false):OkX Z pre x B:=by
 rcases h with h|⟨h1,C,h2,h3,n,h4⟩
 ·exact .inl h
 ·exact .inr ⟨h1,C,h2,h3,n,flt_abide h4 hg hr⟩
theorem results_bytes{fn:Func}{p q:Tmp}(h:fn.results=#[.cell p 22,.cell q 67])(tmps:Array Value)(w:World)(R1 R2:Nat)(v1 v2:Value)(hp:tmps.getD p undef=.pointer (some ⟨R1,0,none⟩))(hq:tmps.getD q undef=.pointer (some ⟨R2,0,none⟩))
 (h1:Blk w R1 #[v1] 22) (h2:Blk w R2 #[v2] 67):(results fn tmps).run Tryz.prog w=.ok (.tuple #[v1,v2]) w:=by
 have c1:=(h1.cell 0).trans (show _=some v1 from rfl);have c2:=(h2.cell 0).trans (show _=some v2 from rfl);have hp':tmps[p]?.getD undef=.pointer (some ⟨R1,0,none⟩):=by rw[←Array.getD_eq_getD_getElem?];exact hp
 have hq':tmps[q]?.getD undef=.pointer (some ⟨R2,0,none⟩):=by rw[←Array.getD_eq_getD_getElem?];exact hq
 simp only[results,h];go_simp
theorem blk_put{W:World}{b D:Nat}{C:Array Value}{t:TypeId}{o:Obj}(o':Obj)(h:Blk W b C t)(hD:W.heap[D]?=some o)(hc:o.isCells=false):Blk (W.putObj D o') b C t:=
 blk_bare h (grownBy_putObj' W D o') ⟨o,hD,hc⟩
theorem slice_from(g sz lo:Nat)(h:lo<sz)(hs:sz≤262144)(wx:World):(Instr.slice 22 (.slice (some ⟨g,0,none⟩) sz sz) (some (.int .i64 (lo:Int))) none none).run Tryz.prog wx=.ok (.slice (some ⟨g,lo,none⟩) (sz-lo) (sz-lo)) wx:=by
 obtain⟨i0,hi0,hz0,hz1,hz2⟩:=info_parts infoU8;rw[run_slice_l (P:=Tryz.prog) (w:=wx) 22 _ sz sz (by rw[Tryz.underlying22];rfl) .i64 (lo:Int) (by omega) (by omega)];simp[sizeOf,typeInfo,show Tryz.prog.elem 22=5 from by kernel_rfl,hi0,hz1,Result.andThen,sliced,Addr.add_mid];omega
theorem own_blk{w:World}{g sz base:Nat}{zs:List Int}(h:Blk w g (zs.map (Value.int .u8)).toArray 5)(hl:zs.length=sz)(hs:sz≤262144)(hb:base≤g):w.ownsRow base 5 1 (.slice (some ⟨g,0,none⟩) sz sz) sz (zs.map (Value.int .u8)):=
 ⟨by simp[hl],.inr ⟨g,sz,_,rfl,hb,h,Nat.le_refl _,by unfold maxLen;omega,by simp[hl],by rw[List.take_of_length_le (by simp[hl])]⟩⟩
theorem blocks_in(n:Nat)(C:Array Value)(w:World):
 CallsIn Fence.wide n Tryz.prog 80 #[.agg C] w fun e w'=>e=.returned (.func (.func 104) #[] #[.pointer (some ⟨w.heap.size,0,none⟩)])∧w'=w.alloc (.cells C 75):=by
 refine callsIn_of_wp Tryz.func80 rfl trivial ?_ rfl;simp only[Tryz.ntmps80,List.size_toArray,List.length_cons,List.length_nil,Nat.reduceAdd,Nat.reduceSub,Array.replicate_succ,Array.replicate_zero,List.push_toArray,List.append_toArray,List.nil_append,List.cons_append];gi_wp2
 go_ret;exact⟨rfl,rfl⟩
def contP(zs:List Int)(sz:Nat)(pre:List TX):List Int:=(pre.map (·.1)).foldl (contF (blkP zs)) (List.replicate sz 0)
structure CntI(w:World)(g q sz:Nat)(C:Array Value)(zs:List Int)(Z:TL)(pre:List TX)(W:World):Prop where
 told:∃A,pre=upX A∧A<+:Z.1
 len:(contP zs sz pre).length=sz
 row:Blk W g ((contP zs sz pre).map (Value.int .u8)).toArray 5
 box:Blk W q #[.slice (some ⟨g,0,none⟩) sz sz] 22
 tree:Blk W w.heap.size C 75
 res1:Blk W (w.heap.size+1) #[.slice none 0 0] 22
 res2:Blk W (w.heap.size+2) #[.nilIface] 67
 old:Below w.heap.size w W
 size:q+4≤W.heap.size
 gq:w.heap.size+3≤g∧g<q
theorem CntI.abides{w:World}{g q sz z:Nat}{C:Array Value}{zs:List Int}{Z:TL}(hz:w.heap.size≤z):AbidesZ z (CntI w g q sz C zs Z):=by
 intro pre A B row h hg hr;exact⟨h.told,h.len,blk_abide h.row hg hr,blk_abide h.box hg hr,blk_abide h.tree hg hr,blk_abide h.res1 hg hr,blk_abide h.res2 hg hr,below_abide h.old hz (by have:=h.size;have:=h.gq;omega) hg hr,Nat.le_trans h.size hg.size,h.gq⟩
theorem content_any(cnt sz:Nat)(zs:List Int)(C:Array Value)(Pv:Nat→Int)(iv:Value)(w:World)(Z:TL)
 (hC0:C[0]?=some iv) (hC1:C[1]?=some (.int .i64 (sz:Int))) (hCP:∀j,j<14→C[2+j]?=some (.int .i64 (Pv j))) (hCs:C.size=16) (hR:Rd .u8 w iv zs) (hz:zs.length≤1048576) (hbd:∀z∈zs,0≤z∧z<256) (hsz:sz≤262144) (hcnt:cnt=(sz+511)/512)
 (hZ:Z=allT (topsT cnt (zs.length/512) (wrdP zs) Pv)):
 Calls Tryz.prog 75 #[.agg C] w fun e w'=>∃v ev,e=.returned (.tuple #[v,ev])∧((Z.2=false∧ev=.nilIface∧w'.ownsRow w.heap.size 5 1 v sz ((contP zs sz (upX Z.1)).map (Value.int .u8)))∨(Z.2=true∧v=.slice none 0 0∧∃n,Flt w' 0 n ev 21))∧Below w.heap.size w w':=by
 obtain⟨i0,hi,hz0,hz1,hz2⟩:=info_parts infoU8;have HC:=hide (And.intro hC0 (And.intro hC1 (And.intro hCP hCs)));have HR:=hide (And.intro hR hbd);have HZ:=hide hZ;clear hC0 hC1 hCP hCs hR hbd hZ;obtain⟨W0,hW0⟩:∃W0,W0=((w.alloc (.cells C 75)).alloc (.cells #[.slice none 0 0] 22)).alloc (.cells #[.nilIface] 67):=⟨_,rfl⟩;have hs0:W0.heap.size=w.heap.size+3:=by rw[hW0];simp
 have B0:=hide (show Below w.heap.size w W0 from by rw[hW0];exact(((Below.refl _ _).alloc (Nat.le_refl _) _).alloc (by simp) _).alloc (by simp;omega) _);have K0:=hide (show Blk W0 w.heap.size C 75 from by rw[hW0];exact((Blk.new w C _).alloc _).alloc _);have K1:=hide (show Blk W0 (w.heap.size+1) #[.slice none 0 0] 22 from by have h:=Blk.new (w.alloc (.cells C 75)) #[.slice none 0 0] 22;rw[World.size_alloc] at h;rw[hW0];exact h.alloc _);have K2:=hide (show Blk W0 (w.heap.size+2) #[.nilIface] 67 from by have h:=Blk.new ((w.alloc (.cells C 75)).alloc (.cells #[.slice none 0 0] 22)) #[.nilIface] 67;rw[World.size_alloc,World.size_alloc] at h;rw[hW0];exact h);have HW0:=hide hW0;have HS0:=hide hs0;have cz:=(K0.out.cell 1).trans HC.out.2.1;clear hW0 hs0;refine(callsIn_wide (n:=6)).1 ?_;refine callsIn_of_wp_marks Tryz.func75 rfl trivial ?_ rfl;simp only[Tryz.ntmps75,List.size_toArray,List.length_cons,List.length_nil,Nat.reduceAdd,Nat.reduceSub,Array.replicate_succ,Array.replicate_zero,List.push_toArray,List.append_toArray,List.nil_append,List.cons_append];gi_upto_region 1 with fail
 rw[←HW0.out];refine wpIn_wide.2 ?_;go_wp2_with (first|(refine wpList_make_full _ rfl _ _ 22 rfl W0.heap.size 5 i0 (.int .u8 0) 1 Tryz.underlying22 hi hz0 hz1 .i64 .i64 (sz:Int) (sz:Int) sz rfl rfl rfl rfl (by rw[hz2];omega) (by unfold maxLen;omega) (Nat.le_refl _) ?_;intro w3 o3 g3;rw[made_one _ _ rfl] at o3;have O3:=hide (And.intro o3 g3);clear o3 g3));have hs0a:W0.heap.size≤w.heap.size+3:=by rw[HS0.out];omega
 have hs0b:w.heap.size+3≤W0.heap.size:=by rw[HS0.out];omega
 obtain⟨WL,hWL⟩:∃WL,WL=(w3.alloc (.cells #[.slice (some ⟨W0.heap.size,0,none⟩) sz sz] 22)).alloc (.cells C 75):=⟨_,rfl⟩;have hs3:W0.heap.size<w3.heap.size:=by
  have:=(O3.out.1.lt W0.heap.size rfl).2;omega
 have b3:Below W0.heap.size W0 w3:=(Below.refl _ _).grown O3.out.2 (Nat.le_refl _) (fun k e=>by cases e);have b3L:Below w3.heap.size w3 WL:=by rw[hWL];exact((Below.refl _ _).alloc (Nat.le_refl _) _).alloc (by simp) _
 have hsL:WL.heap.size=w3.heap.size+2:=by rw[hWL];simp
 have kG:Blk w3 W0.heap.size ((contP zs sz []).map (Value.int .u8)).toArray 5:=by
  rcases O3.out.1.2 with⟨e,_⟩|⟨g,cp,cur,e,_,hg,_,_,hs,ht⟩
  ·cases e
  ·injection e with e1 e2 e3;injection e1 with e1;injection e1 with e1 _;subst e1;subst e3;have hcur:cur=((contP zs sz []).map (Value.int .u8)).toArray:=by
    have e2:cur.toList=List.replicate sz (.int .u8 0):=(by rw[←ht,List.take_of_length_le (by simp[hs])]);unfold contP;simp only[List.map_nil,List.foldl_nil,List.map_replicate];rw[←e2]
   rw[←hcur];exact hg
 have I0:=hide (show ∀W',Below WL.heap.size WL W'→WL.heap.size+2≤W'.heap.size→CntI w W0.heap.size w3.heap.size sz C zs Z [] W' from fun W' hb hs'=>by
  have hb3:Below w3.heap.size w3 W':=b3L.trans (hb.mono (by omega));have hb0:Below W0.heap.size W0 W':=b3.trans (hb3.mono (by omega));refine⟨⟨[],rfl,List.nil_prefix⟩,by unfold contP;simp,kG.below hb3 kG.lt,?_,K0.out.below hb0 K0.out.lt,K1.out.below hb0 K1.out.lt,K2.out.below hb0 K2.out.lt,B0.out.trans (hb0.mono (by omega)),by omega,by omega⟩;have h:Blk WL w3.heap.size #[.slice (some ⟨W0.heap.size,0,none⟩) sz sz] 22:=by rw[hWL];exact(Blk.new w3 _ _).alloc _
  exact h.below hb h.lt)
 have HX:=hide (show Blk WL (w3.heap.size+1) C 75 from by
  have h:=Blk.new (w3.alloc (.cells #[.slice (some ⟨W0.heap.size,0,none⟩) sz sz] 22)) C 75;rw[World.size_alloc] at h;rw[hWL];exact h)
 have HBL:=hide (show Below w.heap.size w WL from B0.out.trans ((b3.trans (b3L.mono (by omega))).mono (by omega)));have K3:=hide (show Blk (w3.alloc (.cells #[.slice (some ⟨W0.heap.size,0,none⟩) sz sz] 22)) w.heap.size C 75 from(K0.out.below b3 K0.out.lt).alloc _);have HWL:=hide hWL;clear hWL b3 b3L kG cz;gi_upto_region 2 with fail
 refine wpIn_wide.2 ?_;go_wp2_with (first
  |(refine wpList_load_row rfl 75 _ rfl w.heap.size rfl 75 C (0,0) _ K3.out Tryz.underlying75 rfl (by rw[HC.out.2.2.2];exact infoTr) ?_)
  |(go_at_call 80;refine(callsIn_wide.1 (blocks_in 0 C _)).mono ?_;rintro e w' ⟨rfl,rfl⟩))
 gi_wp2
 rw[←HWL.out];have hmx:Tryz.prog.follows .mixedOrders=true:=by kernel_rfl
 refine wpIn_rangeGoesK (α:=TX) rfl (by decide) (gf:=104) (lb:=#[.pointer (some ⟨w3.heap.size+1,0,none⟩)]) rfl trivial (enters_of Tryz.func104 (by kernel_rfl) rfl) (encs:=TX.enc) (Kp:=(Kq w.heap.size (WL.heap.size+2) (fun t=>t=5))) Kq.trans (fun A o o' ho hc=>Kq.put o' (by omega) (by omega) ho hc)
  (Ok:=OkX Z) (S:=fun xs=>(Z.2=false∧xs=upX Z.1)∨(Z.2=true∧∃x,xs=upX Z.1++[x])) (Sp:=fun _=>True)
  (fun W1 hb1 hs1=>by
   have:=blocks_goes 5 (by omega) (w3.heap.size+1) w.heap.size (fun t=>t=5) Z cnt sz zs C Pv iv w W1 (by decide) (by decide) (by decide) (by decide) HC.out.1 HC.out.2.1 HC.out.2.2.1 HC.out.2.2.2 HR.out.1 rfl hz HR.out.2 hsz hcnt HZ.out (HX.out.below hb1 HX.out.lt) (HBL.out.trans (hb1.mono (by omega))) (by omega);rw[hs1] at this;exact this)
  (fun _=>rfl) (CntI w W0.heap.size w3.heap.size sz C zs Z)
  (fun c pre Wx=>c=.ret∧Z.2=true∧(∃v,Blk Wx (w.heap.size+1) #[.slice none 0 0] 22∧Blk Wx (w.heap.size+2) #[v] 67∧∃n,Flt Wx 0 n v 21)∧Below w.heap.size w Wx)
  (CntI.abides (by omega))
  (by
   rintro c pre A B row ⟨h1,h2,⟨v,h3,h4,n,h5⟩,h6⟩ hg hr;exact⟨h1,h2,⟨v,blk_abide h3 hg hr,blk_abide h4 hg hr,n,flt_abide h5 hg hr⟩,below_abide h6 (by omega) h6.size hg hr⟩)
  (fun W' hb hs'=>I0.out W' hb (by omega))
  (fun pre x a' Wx=>∃c,a'={tmps:=#[.agg C,.pointer (some ⟨w.heap.size,0,none⟩),.pointer (some ⟨w.heap.size+1,0,none⟩),.pointer (some ⟨w.heap.size+1+1,0,none⟩),.pointer (some ⟨w3.heap.size,0,none⟩),.pointer (some ⟨c,0,none⟩),x.2,undef,.pointer (some ⟨w.heap.size,1,none⟩),.pointer (some ⟨w.heap.size,1,none⟩),.int .i64 (sz:Int),.slice (some ⟨W0.heap.size,0,none⟩) sz sz,.agg C,.func (.func 104) #[] #[.pointer (some ⟨w3.heap.size+1,0,none⟩)],.agg #[.int .i64 (x.1.1:Int),.int .i64 (x.1.2.1:Int),.int .i64 x.1.2.2],x.2,undef,undef,undef,undef,undef,undef,undef,undef,undef,undef,undef,undef,undef,undef,undef,undef,undef,undef,undef,undef],defers:=[]}∧Blk Wx c #[.int .i64 (x.1.1:Int),.int .i64 (x.1.2.1:Int),.int .i64 x.1.2.2] 144∧(CntI w W0.heap.size w3.heap.size sz C zs Z) pre Wx∧OkX Z pre x Wx) ?ax ?assign ?body ?done ?stop
 case ax=>
  rintro pre x a' A B ⟨c,h1,h2,h3,h4⟩ hg hr;exact⟨c,h1,blk_bare h2 hg hr,CntI.abides (z:=WL.heap.size+1) (by omega) pre A B _ h3 hg (fun r e=>by cases e;exact⟨Nat.le_refl _,hr⟩),okX_abide (z:=0) h4 hg (fun r e=>by cases e;exact⟨Nat.zero_le _,hr⟩)⟩
 case assign=>
  rintro l pre ⟨⟨lv,rk,p⟩,ev⟩ Wx K hI hok hK;have HK:=hide (And.intro hI (And.intro hok hK));clear hI hok hK;unfold TX.enc;gi_wp2
  have bA:Below Wx.heap.size Wx (Wx.alloc (.cells #[.int .i64 (lv:Int),.int .i64 (rk:Int),.int .i64 p] 144)):=(Below.refl _ _).alloc (Nat.le_refl _) _;have gA:Wx.grownBy (Wx.alloc (.cells #[.int .i64 (lv:Int),.int .i64 (rk:Int),.int .i64 p] 144)) none:=⟨bA.os,bA.tape,bA.output,bA.size,fun k hk _=>bA.block k hk⟩;exact HK.out.2.2 _ _ (keeps_belowT bA) (Kq.of_below bA (by have:=HK.out.1.size;omega)) ⟨_,rfl,Blk.new _ _ _,CntI.abides (z:=w.heap.size) (Nat.le_refl _) pre _ _ none HK.out.1 gA (fun r e=>by cases e),okX_abide (z:=0) HK.out.2.1 gA (fun r e=>by cases e)⟩
 case body=>
  rintro l pre ⟨⟨lv,rk,p⟩,ev⟩ a' Wx ⟨c,rfl,kc,hI,hok⟩;dsimp only at kc⊢
  have hdd:∀k:Nat,(Fence.wide.depth.isSome=true→1≤k):=fun k h=>by cases h
  have hgq:=hI.gq;have hIs:=hI.size;rcases hok with⟨hev,A,hA,hpre⟩|⟨hx0,A,hA,hZt,nf,hfl⟩
  ·dsimp only at hev
   subst hev;have HG0:=hide (tops_mem (h:=(lv,rk,p)) (by rw[←HZ.out];exact ok_mem hpre));have HT2:=hide (show ∃A',pre++[((lv,rk,p),Value.nilIface)]=upX A'∧A'<+:Z.1 from⟨A++[(lv,rk,p)],by rw[upX_snoc,hA],hpre⟩);have c0:=(kc.cell 0).trans (show _=some (.int .i64 (lv:Int)) from rfl);have c1:=(kc.cell 1).trans (show _=some (.int .i64 (rk:Int)) from rfl);have c2:=(kc.cell 2).trans (show _=some (.int .i64 p) from rfl);have HI:=hide (And.intro hI kc);clear hI kc hpre hA;by_cases hlv:lv=0
   ·subst hlv;obtain⟨q,rfl⟩:∃q:Nat,p=(q:Int):=⟨p.toNat,by have:=good_pos HG0.out.1 HG0.out.2.1;simp only at this;omega⟩;have hq1:q*512+512≤zs.length:=(by have:=good_pos HG0.out.1 HG0.out.2.1;simp only at this;omega);have hrk:rk<cnt:=HG0.out.2.2 rfl;obtain⟨Zb,hZb,hAl⟩:=letBk;have HAl:=hide (And.intro hZb hAl);clear hZb hAl;have HRx:=hide (HR.out.1.below HI.out.1.old);obtain⟨BB,hBB⟩:∃BB,BB=((blkP zs (q:Int)).map (Value.int .u8)).toArray:=⟨_,rfl⟩;have hl5:(blkP zs (q:Int)).length=512:=(by unfold blkP;rw[List.length_take,List.length_drop,Int.toNat_natCast];omega);have HSZ:=hide (show Zb.size=BB.size by simp[hBB,hl5,HAl.out.1]);have HIN:=hide (show(Tryz.prog.info? 150).map (·.size)=some BB.size by rw[infoBk];simp[hBB,hl5]);have HB1:=hide (show BB.all (·.oneCell')=true by rw[hBB];exact u8_one _);have HBB:=hide (And.intro hBB hl5);clear hBB hl5;gi_wp2_with (first
     |(refine wpListIn_load_rowT rfl 75 _ rfl w.heap.size rfl 75 C _ HI.out.1.tree Tryz.underlying75 rfl (by rw[HC.out.2.2.2];exact infoTr) ?_)
     |(refine⟨trivial,?_⟩;gi_at_call 88;refine(CallsIn.inRound l (callsIn_wide.2 (blockAt_any C _ zs q _ HC.out.1 HRx.out hq1 hz))).mono ?_;rintro e w9 ⟨rfl,b9⟩;rw[←HBB.out.1];have B9:=hide b9;clear b9)
     |(refine wpListIn_run rfl (by intro c hc;cases hc) (by intro c hc;cases hc) (.pointer (some ⟨w9.heap.size,0,none⟩)) (w9.alloc (.cells Zb 150)) (HAl.out.2 _ _ _ rfl) ?_)
     |(refine wpListIn_store_rowT rfl 150 _ _ rfl w9.heap.size BB rfl rfl 150 Zb (Blk.new w9 _ _) HIN.out HSZ.out HB1.out ?_))
    obtain⟨W9,hW9⟩:∃W9,W9=(w9.alloc (.cells Zb 150)).setRow w9.heap.size BB:=⟨_,rfl⟩;have B99:=hide (show Below w9.heap.size w9 W9 from by rw[hW9];exact below_setRow ((Below.refl _ _).alloc (Nat.le_refl _) _) (Nat.le_refl _) _);have K9:=hide (show Blk W9 w9.heap.size BB 150 from by rw[hW9];exact(Blk.new w9 Zb 150).row _);rw[←hW9];clear hW9;simp only[Act.put];have BX:=hide (show Below Wx.heap.size Wx W9 from B9.out.trans (B99.out.mono B9.out.size));have I9:=hide (CntI.abides (z:=w.heap.size) (Nat.le_refl _) pre Wx W9 none HI.out.1 ⟨BX.out.os,BX.out.tape,BX.out.output,BX.out.size,fun k hk _=>BX.out.block k hk⟩ (fun r e=>by cases e));have e1:=(BX.out.cell (p:=⟨c,1,none⟩) HI.out.2.lt).trans c1;have e4:=(I9.out.box.cell 0).trans (show _=some (.slice (some ⟨W0.heap.size,0,none⟩) sz sz) from rfl);obtain⟨lo,hlo⟩:∃lo:Nat,lo=rk*512:=⟨_,rfl⟩;have hlo1:(rk:Int)*512=(lo:Int):=(by omega);have hlo2:lo<sz:=(by omega);have HLo:=hide hlo;have hrk2:rk≤512:=(by omega);clear hlo c0 c1 c2;refine wpIn_region_any (by assumption) ?_;change wpAnyIn _ _ _ _ _ _ _ _ _ (World.drew W9);have d1:(World.drew W9).cell? ⟨c,1,none⟩=some (.int .i64 (rk:Int)):=e1;have d4:(World.drew W9).cell? ⟨w3.heap.size,0,none⟩=some (.slice (some ⟨W0.heap.size,0,none⟩) sz sz):=e4;have hsl:=slice_from W0.heap.size sz lo hlo2 hsz;refine wpAnyIn_readsB [(4,.pointer (some ⟨w3.heap.size,0,none⟩)),(5,.pointer (some ⟨c,0,none⟩)),(7,.pointer (some ⟨w9.heap.size,0,none⟩))] (World.drew W9) (fun i=>match i with|0=>.slice (some ⟨W0.heap.size,0,none⟩) sz sz|1=>.pointer (some ⟨c,0,none⟩)|2=>.pointer (some ⟨c,1,none⟩)|3=>.int .i64 (rk:Int)|4=>.int .i64 (lo:Int)|5=>.slice (some ⟨W0.heap.size,lo,none⟩) (sz-lo) (sz-lo)|_=>.slice (some ⟨w9.heap.size,0,none⟩) 512 512) 36 [] 7 (by kernel_rfl) (by kernel_rfl) ?hstep ?hfin _ rfl rfl (by
     intro t v h;simp only[List.mem_cons,List.not_mem_nil,or_false,Prod.mk.injEq] at h;rcases h with⟨rfl,rfl⟩|⟨rfl,rfl⟩|⟨rfl,rfl⟩<;>rfl)
    case hstep=>
     intro i o listed ac him hi hall hI9;have f4:ac.tmps.getD 4 undef=.pointer (some ⟨w3.heap.size,0,none⟩):=hI9.fix 4 _ (by simp);have f5:ac.tmps.getD 5 undef=.pointer (some ⟨c,0,none⟩):=hI9.fix 5 _ (by simp);have f7:ac.tmps.getD 7 undef=.pointer (some ⟨w9.heap.size,0,none⟩):=hI9.fix 7 _ (by simp);match i,him,hi with
     |0,_,hi=>
      obtain rfl:=Option.some.inj hi;exact⟨by rfl,(fun c=>by intro h;cases h),(fun c=>by intro h;cases h),by go_simp⟩
     |1,_,hi=>
      obtain rfl:=Option.some.inj hi;exact⟨by rfl,(fun c=>by intro h;cases h),(fun c=>by intro h;cases h),by go_simp⟩
     |2,_,hi=>
      obtain rfl:=Option.some.inj hi;have v1:ac.tmps.getD 28 undef=.pointer (some ⟨c,0,none⟩):=hI9.at hall 1 28 rfl rfl (by rfl);exact⟨by rfl,(fun c=>by intro h;cases h),(fun c=>by intro h;cases h),by go_simp⟩
     |3,_,hi=>
      obtain rfl:=Option.some.inj hi;have v2:ac.tmps.getD 29 undef=.pointer (some ⟨c,1,none⟩):=hI9.at hall 2 29 rfl rfl (by rfl);exact⟨by rfl,(fun c=>by intro h;cases h),(fun c=>by intro h;cases h),by go_simp⟩
     |4,_,hi=>
      obtain rfl:=Option.some.inj hi;have v3:ac.tmps.getD 30 undef=.int .i64 (rk:Int):=hI9.at hall 3 30 rfl rfl (by rfl);exact⟨by rfl,(fun c=>by intro h;cases h),(fun c=>by intro h;cases h),by go_simp;rw[IntKind.wrap_i64];omega⟩
     |5,_,hi=>
      obtain rfl:=Option.some.inj hi;have v0:ac.tmps.getD 27 undef=.slice (some ⟨W0.heap.size,0,none⟩) sz sz:=hI9.at hall 0 27 rfl rfl (by rfl);have v4:ac.tmps.getD 31 undef=.int .i64 (lo:Int):=hI9.at hall 4 31 rfl rfl (by rfl);exact⟨by rfl,(fun c=>by intro h;cases h),(fun c=>by intro h;cases h),by go_simp⟩
     |6,_,hi=>
      obtain rfl:=Option.some.inj hi;exact⟨by rfl,(fun c=>by intro h;cases h),(fun c=>by intro h;cases h),by go_simp⟩
     |k+7,him,_=>exact absurd him (by omega)
    case hfin=>
     rintro ac hI9;have g5:ac.tmps.getD 32 undef=.slice (some ⟨W0.heap.size,lo,none⟩) (sz-lo) (sz-lo):=hI9.vals 5 _ 32 rfl rfl rfl;have g6:ac.tmps.getD 33 undef=.slice (some ⟨w9.heap.size,0,none⟩) 512 512:=hI9.vals 6 _ 33 rfl rfl rfl;have hdf:ac.defers=[]:=hI9.df;clear hI9;refine wpAnyIn_ready (rs:=[7]) (by kernel_rfl) (by simp) ?_;refine AllReadyIn.cons rfl (fun K hK=>?_) AllReadyIn.nil;go_simp;have hlen:=I9.out.len;have hcsl:(((blkP zs (q:Int)).take (sz-lo)).map (Value.int .u8)).length=Nat.min 512 (sz-lo):=by
      rw[List.length_map,List.length_take,HBB.out.2];exact Nat.min_comm _ _
     rw[run_copy_row (P:=Tryz.prog) (World.drew W9) 22 22 3 5 W0.heap.size lo (sz-lo) (sz-lo) ⟨w9.heap.size,0,none⟩ 512 512 ((contP zs sz pre).map (Value.int .u8)).toArray 5 (((blkP zs (q:Int)).take (sz-lo)).map (Value.int .u8)) Tryz.underlying22 (by rw[hi];simp[hz1]) (show(World.drew W9).heap[W0.heap.size]?=_ from I9.out.row) hcsl (fun j v hj=>by
      rw[Addr.add_mid,Nat.zero_add];refine(show(World.drew W9).cell? ⟨w9.heap.size,j,none⟩=W9.cell? ⟨w9.heap.size,j,none⟩ from rfl).trans ((K9.out.cell j).trans ?_);rw[HBB.out.1];rw[List.getElem?_map,List.getElem?_take] at hj;by_cases hjl:j<sz-lo
      ·rw[if_pos hjl] at hj;simpa using hj
      ·rw[if_neg hjl] at hj;cases hj) (by rw[hcsl];simp[hlen];have:Nat.min 512 (sz-lo)≤sz-lo:=Nat.min_le_right _ _;omega) (fun v hv=>by
      obtain⟨x,_,rfl⟩:=List.mem_map.1 hv;rfl)]
     simp only[Result.andThen_ok,Oper.uponIn];refine hK _ _ ?_;clear hK K;obtain⟨WF,hWF⟩:∃WF,WF=(World.drew W9).setRow W0.heap.size (((contP zs sz pre).map (Value.int .u8)).toArray.toList.take lo++((blkP zs (q:Int)).take (sz-lo)).map (Value.int .u8)++((contP zs sz pre).map (Value.int .u8)).toArray.toList.drop (lo+(((blkP zs (q:Int)).take (sz-lo)).map (Value.int .u8)).length)).toArray:=⟨_,rfl⟩;rw[←hWF];have hrowD:Blk (World.drew W9) W0.heap.size ((contP zs sz pre).map (Value.int .u8)).toArray 5:=I9.out.row;have kF:Kq w.heap.size (WL.heap.size+2) (fun t=>t=5) Wx WF:=by
      rw[hWF];exact(Kq.of_below (BX.out.drew) (by omega)).trans (Kq.setRow hrowD rfl (by omega))
     have eC:contP zs sz (pre++[((0,rk,(q:Int)),Value.nilIface)])=cpB (contP zs sz pre) lo (blkP zs (q:Int)):=by
      unfold contP;rw[List.map_append,List.foldl_append,HLo.out];simp[contF]
     have rowF:Blk WF W0.heap.size ((contP zs sz (pre++[((0,rk,(q:Int)),Value.nilIface)])).map (Value.int .u8)).toArray 5:=by
      have h:=hrowD.row (((contP zs sz pre).map (Value.int .u8)).toArray.toList.take lo++((blkP zs (q:Int)).take (sz-lo)).map (Value.int .u8)++((contP zs sz pre).map (Value.int .u8)).toArray.toList.drop (lo+(((blkP zs (q:Int)).take (sz-lo)).map (Value.int .u8)).length)).toArray;rw[←hWF] at h;rw[eC];have e2:((cpB (contP zs sz pre) lo (blkP zs (q:Int))).map (Value.int .u8))=((contP zs sz pre).map (Value.int .u8)).toArray.toList.take lo++((blkP zs (q:Int)).take (sz-lo)).map (Value.int .u8)++((contP zs sz pre).map (Value.int .u8)).toArray.toList.drop (lo+(((blkP zs (q:Int)).take (sz-lo)).map (Value.int .u8)).length):=by
       unfold cpB;rw[hlen,hcsl,HBB.out.2];simp only[List.map_append,List.map_take,List.map_drop]
      rw[e2];exact h
     have HN:=hide (show CntI w W0.heap.size w3.heap.size sz C zs Z (pre++[((0,rk,(q:Int)),Value.nilIface)]) WF from by
      have hne:∀{b:Nat} {Cb:Array Value} {t:TypeId},t≠5→Blk Wx b Cb t→Blk WF b Cb t:=fun ht h=>kF.blk h ht;exact⟨HT2.out,by rw[eC,cpB_len _ _ _ (by omega)];exact hlen,rowF,hne (by decide) HI.out.1.box,hne (by decide) HI.out.1.tree,hne (by decide) HI.out.1.res1,hne (by decide) HI.out.1.res2,HI.out.1.old.trans kF.below,Nat.le_trans HI.out.1.size kF.size,HI.out.1.gq⟩)
     have HKf:=hide (show KeepsFrom WL.heap.size Wx WF∧Kq w.heap.size (WL.heap.size+2) (fun t=>t=5) Wx WF from by
      refine⟨?_,kF⟩;have k1:KeepsFrom WL.heap.size Wx (World.drew W9):=keeps_belowT BX.out.drew;refine k1.trans ?_;rw[hWF];exact(Kq.setRow (n₀:=0) (z:=WL.heap.size) (Ty:=fun t=>t=5) hrowD rfl (Nat.zero_le _)).keepsZ)
     clear hWF rowF kF hrowD eC;refine wpAnyIn_done (by kernel_rfl) ?_ _;gi_wp2
     exact⟨HKf.out.1,HKf.out.2,HN.out⟩
   ·have HN:=hide (show CntI w W0.heap.size w3.heap.size sz C zs Z (pre++[((lv,rk,p),Value.nilIface)]) Wx from by
     have e:contP zs sz (pre++[((lv,rk,p),Value.nilIface)])=contP zs sz pre:=by
      unfold contP;rw[List.map_append,List.foldl_append];simp[contF,hlv]
     exact⟨HT2.out,by rw[e];exact HI.out.1.len,by rw[e];exact HI.out.1.row,HI.out.1.box,HI.out.1.tree,HI.out.1.res1,HI.out.1.res2,HI.out.1.old,HI.out.1.size,HI.out.1.gq⟩)
    have hl0:((lv:Int)==0)=false:=(by simp;omega);clear hlv;gi_wp2
    exact⟨KeepsFrom.refl _ _,Kq.refl _ _ _ _,HN.out⟩
  ·obtain⟨t',x',rfl⟩:=hfl.iface;have HI:=hide (And.intro hI hfl);have c1:=(hI.res1.cell 0).trans (show _=some (.slice none 0 0) from rfl);have f1:=hI.res1.frozen 0;have c2:=(hI.res2.cell 0).trans (show _=some .nilIface from rfl);have f2:=hI.res2.frozen 0;have HZt:=hide (show Z.2=true by rw[hZt]);clear hI hfl hA hZt;gi_wp2
   have hfin:Blk ((Wx.setCell ⟨w.heap.size+1,0,none⟩ (.slice none 0 0)).setCell ⟨w.heap.size+1+1,0,none⟩ (.iface t' (.pointer (some x')))) (w.heap.size+1) #[.slice none 0 0] 22∧Blk ((Wx.setCell ⟨w.heap.size+1,0,none⟩ (.slice none 0 0)).setCell ⟨w.heap.size+1+1,0,none⟩ (.iface t' (.pointer (some x')))) (w.heap.size+2) #[.iface t' (.pointer (some x'))] 67∧∃n,Flt ((Wx.setCell ⟨w.heap.size+1,0,none⟩ (.slice none 0 0)).setCell ⟨w.heap.size+1+1,0,none⟩ (.iface t' (.pointer (some x')))) 0 n (.iface t' (.pointer (some x'))) 21:=by
    have k2:=HI.out.1.res2.other ⟨w.heap.size+1,0,none⟩ (.slice none 0 0) (by show w.heap.size+2≠w.heap.size+1;omega);refine⟨(HI.out.1.res1.set 0 (.slice none 0 0)).other ⟨w.heap.size+1+1,0,none⟩ _ (by show w.heap.size+1≠w.heap.size+1+1;omega),k2.set 0 _,nf,?_⟩;exact flt_set k2 (by intro k z h;cases h) _ (flt_set HI.out.1.res1 (by intro k z h;cases h) _ HI.out.2)
   have hold:=(HI.out.1.old.setCell (p:=⟨w.heap.size+1,0,none⟩) (by show w.heap.size≤w.heap.size+1;omega) (.slice none 0 0)).setCell (p:=⟨w.heap.size+1+1,0,none⟩) (by show w.heap.size≤w.heap.size+1+1;omega) (.iface t' (.pointer (some x')));exact⟨((KeepsOthers.setCell _ _ _).trans (KeepsOthers.setCell _ _ _)).from _,⟨rfl,HZt.out,⟨hfin.1,_,hfin.2⟩,hold⟩⟩
 case done=>
  rintro xs Wx hS hI hK;have HI:=hide (And.intro hI hK);have HSx:=hide hS;have hb:=hI.box.cell 0;have hbx:Wx.cell? ⟨w3.heap.size,0,none⟩=some (.slice (some ⟨W0.heap.size,0,none⟩) sz sz):=hb.trans rfl;have c1:=(hI.res1.cell 0).trans (show _=some (.slice none 0 0) from rfl);have f1:=hI.res1.frozen 0;have c2:=(hI.res2.cell 0).trans (show _=some .nilIface from rfl);have f2:=hI.res2.frozen 0;clear hI hK hS hb;gi_wp2
  have hZ0:Z.2=false∧xs=upX Z.1:=by
   rcases HSx.out with h|⟨h,x,hx⟩
   ·exact h
   ·exfalso;obtain⟨A,hA,hp⟩:=HI.out.1.told;have h1:=congrArg List.length (hx.symm.trans hA);have h2:=hp.length_le;unfold upX at h1;simp at h1;omega
  obtain⟨hZ1,rfl⟩:=hZ0;obtain⟨WE,hWE⟩:∃WE,WE=(Wx.setCell ⟨w.heap.size+1,0,none⟩ (.slice (some ⟨W0.heap.size,0,none⟩) sz sz)).setCell ⟨w.heap.size+1+1,0,none⟩ .nilIface:=⟨_,rfl⟩;rw[←hWE];have hgq:=HI.out.1.gq;have r1:Blk WE (w.heap.size+1) #[.slice (some ⟨W0.heap.size,0,none⟩) sz sz] 22:=by rw[hWE];exact(HI.out.1.res1.set 0 _).other _ _ (by show w.heap.size+1≠w.heap.size+1+1;omega)
  have r2:Blk WE (w.heap.size+1+1) #[.nilIface] 67:=by rw[hWE];exact(HI.out.1.res2.other ⟨w.heap.size+1,0,none⟩ _ (by show w.heap.size+2≠w.heap.size+1;omega)).set 0 .nilIface
  have rg:Blk WE W0.heap.size ((contP zs sz (upX Z.1)).map (Value.int .u8)).toArray 5:=by rw[hWE];exact(HI.out.1.row.other ⟨w.heap.size+1,0,none⟩ _ (by show W0.heap.size≠w.heap.size+1;omega)).other ⟨w.heap.size+1+1,0,none⟩ _ (by show W0.heap.size≠w.heap.size+1+1;omega)
  have hD:WE.heap[WL.heap.size]?=some (.deferred (some [])):=by rw[hWE];exact(KeepsOthers.setCell _ _ _).same _ _ ((KeepsOthers.setCell _ _ _).same _ _ HI.out.2 rfl) rfl
  have hbE:Below w.heap.size w WE:=by rw[hWE];exact(HI.out.1.old.setCell (p:=⟨w.heap.size+1,0,none⟩) (by show w.heap.size≤w.heap.size+1;omega) _).setCell (p:=⟨w.heap.size+1+1,0,none⟩) (by show w.heap.size≤w.heap.size+1+1;omega) _
  refine⟨by simp,.inl ⟨_,_,rfl,run_takeDeferred hD,?_⟩⟩;refine⟨_,results_bytes rfl _ _ (w.heap.size+1) (w.heap.size+1+1) _ _ rfl rfl (blk_put _ r1 hD rfl) (blk_put _ r2 hD rfl),_,_,rfl,.inl ⟨hZ1,rfl,own_blk (blk_put _ rg hD rfl) HI.out.1.len hsz (by omega)⟩,?_⟩;exact hbE.trans (belowK_b (w:=w) (Nat.le_refl _) WE WL.heap.size _ (.deferred none) (by omega) hD rfl rfl)
 case stop=>
  rintro c pre Wx _ ⟨rfl,hZ2,⟨v,h3,h4,n,h5⟩,h6⟩ hK;have HI:=hide (And.intro hZ2 (And.intro h3 (And.intro h4 (And.intro h5 (And.intro h6 hK)))));clear hZ2 h3 h4 h5 h6 hK;gi_wp2
  have hD:=HI.out.2.2.2.2.2;refine⟨by simp,.inl ⟨_,_,rfl,run_takeDeferred hD,?_⟩⟩;refine⟨_,results_bytes rfl _ _ (w.heap.size+1) (w.heap.size+1+1) _ _ rfl rfl (blk_put _ HI.out.2.1 hD rfl) (blk_put _ HI.out.2.2.1 hD rfl),_,_,rfl,.inr ⟨HI.out.1,rfl,n,?_⟩,?_⟩
  ·exact flt_abide (z:=0) HI.out.2.2.2.1 (grownBy_putObj' _ _ _) (fun r e=>by cases e;exact⟨Nat.zero_le _,_,hD,rfl⟩)
  ·exact HI.out.2.2.2.2.1.trans (belowK_b (w:=w) (Nat.le_refl _) Wx WL.heap.size _ (.deferred none) (by omega) hD rfl rfl)
end
end Go.Proofs.YtbhpealglhkodaaGreatDoor
