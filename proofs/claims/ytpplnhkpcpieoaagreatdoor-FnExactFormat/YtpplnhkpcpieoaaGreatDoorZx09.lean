/- The program's content of a tree -/
import Derived.Test.YtpplnhkpcpieoaaGreatDoorZx08
import Derived.Laws.CopyRow
namespace Go.Proofs.YtpplnhkpcpieoaaGreatDoor
open Go.Proofs.Tryz
open World (size_alloc drew)
set_option linter.all false
set_option maxRecDepth 100000
set_option maxHeartbeats 16000000
section
open Go.RowKit Go.Shelf
attribute [local go_sem] Oper.semAt_some
theorem pN:∀(L:List TL) (h:HG),h∈(dz L).1→∃a∈L,h∈a.1
 |[],h,hm=>by simp[dz] at hm
 |b::L,h,hm=>by
  unfold dz cM at hm;by_cases hb:b.2=true
  ·rw[if_pos hb] at hm;exact⟨b,List.mem_cons_self,hm⟩
  ·rw[if_neg hb] at hm;rcases List.mem_append.1 hm with hm|hm
   ·exact⟨b,List.mem_cons_self,hm⟩
   ·obtain⟨a,ha,h2⟩:=pN L h hm;exact⟨a,List.mem_cons_of_mem _ ha,h2⟩
def tX(cnt n:Nat)(h:HG):Prop:=bM n h.2.2=true∧h.2.2≠0∧(h.1=0→h.2.1<cnt)
theorem yj{cnt n:Nat}{W:Int→Nat→Int}:∀(l r:Nat) (p:Int) (h:HG),h∈(dO cnt n W l r p).1→tX cnt n h
 |0,r,p,h,hm=>by
  unfold dO at hm;by_cases h0:cnt≤aT 0 r∨p=0
  ·rw[if_pos h0] at hm;simp at hm
  ·rw[if_neg h0] at hm;cases hg:bM n p with
   |false=>rw[if_pos hg] at hm;simp at hm
   |true=>
    rw[if_neg (by rw[hg];decide)] at hm;simp at hm;subst hm;exact⟨hg,fun e=>h0 (.inr e),fun _=>by have h1:¬cnt≤r:=fun e=>h0 (.inl e);show r<cnt;omega⟩
 |l+1,r,p,h,hm=>by
  unfold dO at hm;by_cases h0:cnt≤aT (l+1) r∨p=0
  ·rw[if_pos h0] at hm;simp at hm
  ·rw[if_neg h0] at hm;cases hg:bM n p with
   |false=>rw[if_pos hg] at hm;simp at hm
   |true=>
    rw[if_neg (by rw[hg];decide)] at hm;unfold cM at hm;rw[if_neg (by simp)] at hm;rcases List.mem_append.1 hm with hm|hm
    ·simp at hm;subst hm;exact⟨hg,fun e=>h0 (.inr e),fun e=>by simp at e⟩
    ·obtain⟨a,ha,h2⟩:=pN _ h hm;obtain⟨k,_,rfl⟩:=List.mem_map.1 ha;exact yj l _ _ h h2
theorem tY{cnt n:Nat}{W:Int→Nat→Int}{Pv:Nat→Int}{h:HG}(hm:h∈(dz (fe cnt n W Pv)).1):tX cnt n h:=by
 obtain⟨a,ha,h2⟩:=pN _ h hm;unfold fe at ha;obtain⟨j,_,rfl⟩:=List.mem_map.1 ha;exact yj _ _ _ h h2
theorem tZ{Z:TL}{A:List HG}{h:HG}(hp:A++[h]<+:Z.1):h∈Z.1:=hp.subset (by simp)
theorem Kq.setRow{n₀ z:Nat}{Ty:TypeId→Prop}{W:World}{g:Nat}{c cs:Array Value}{t:TypeId}(h:af W g c t)(ht:Ty t)(hn:n₀≤g):Kq n₀ z Ty W (W.setRow g cs):=by
 have hne:∀k,k≠g→(W.setRow g cs).heap[k]?=W.heap[k]?:=fun k hk=>by simp[World.setRow,Array.getElem?_modify,show ¬g=k from fun e=>hk e.symm]
 refine⟨below_setRow ak hn _,fun k x u fr hk hu=>?_,fun k o hk ho hc=>?_,by simp[World.setRow]⟩
 ·rw[hne k (fun e=>by subst e;rw[h] at hk;cases hk;exact hu ht)];exact hk
 ·rw[hne k (fun e=>by subst e;rw[h] at ho;cases ho;cases hc)];exact ho
theorem EZ{F:Fence}{n:Nat}{P:Program}{ops:Array Oper}{rest:List Oper}{o:Oper}{a:Act}{w:World}{Q:Exit→Act→World→Prop}(hgd:o.guard=none)(ty:TypeId)(x y:Operand)(ho:o.op=.store ty x y)
 (g:Nat) (cells:Array Value) (hx:a.eval x=.pointer (some ⟨g,0,none⟩)) (hy:a.eval y=.agg cells)
 (t:TypeId) (old:Array Value) (hg:af w g old t) (hi:(P.info? ty).map (·.size)=some cells.size) (hold:old.size=cells.size) (h1:cells.all (·.oneCell')=true)
 (h:wpListIn F n P ops Q rest (a.put o.dst undef) (w.setRow g cells)):wpListIn F n P ops Q (o::rest) a w:=by
 refine EP hgd (by rw[ho];intro c hc;cases hc) (by rw[ho];intro c hc;cases hc) (w.setRow g cells) ?_ h;unfold execOp;simp only[ho,hx,hy,Instr.storeAt,Instr.sureAddr,Sem.run_bind,Sem.run_pure,Result.andThen_ok,run_storeVar_row w g t ty old cells hg hi hold h1]
theorem E0{F:Fence}{n:Nat}{P:Program}{ops:Array Oper}{rest:List Oper}{o:Oper}{a:Act}{w:World}{Q:Exit→Act→World→Prop}(hgd:o.guard=none)(ty:TypeId)(x:Operand)(ho:o.op=.load ty x)
 (g:Nat) (hx:a.eval x=.pointer (some ⟨g,0,none⟩)) (t:TypeId) (cs:Array Value) (d:TypeDesc) (hg:af w g cs t)
 (hu:P.underlying ty=some d) (hd:(match d with|.struct _|.array _ _=>true|_=>false)=true) (hi:(P.info? ty).map (·.size)=some cs.size)
 (h:wpListIn F n P ops Q rest (a.put o.dst (.agg cs)) w):wpListIn F n P ops Q (o::rest) a w:=
 tV hgd (by rw[ho];intro c hc;cases hc) (by rw[ho];intro c hc;cases hc) _ _ (qR ty x ho g hx t cs (0,0) d hg hu hd hi) h
theorem m7{A B:World}{row:Option Nat}{n z:Nat}{v:Value}{c:Int}(h:bU A 0 n v c)(hg:A.grownBy B row)(hr:∀r,row=some r→z≤r∧∃o,A.heap[r]?=some o∧o.isCells=false):bU B 0 n v c:=
 h.keep fun b o u _ hc=>cell_kept hc hg (fun r e=>(hr r e).2)
theorem pO{A:World}{r:Nat}{u:Value}{t:TypeId}(hb:af A r #[u] t)(hu:∀k z,u≠.int k z)(x:Value):∀{n:Nat} {v:Value} {c:Int},bU A 0 n v c→bU (A.setCell ⟨r,0,none⟩ x) 0 n v c
 |0,v,c,⟨b,e,hl,hc⟩=>by
  refine⟨b,e,hl,?_⟩;have hne:b≠r:=fun h=>by
   subst h;rw[hb.cell 0] at hc;simp at hc;exact hu _ _ hc
  rw[World.cell?_setCell_other _ _ _ _ (by intro e;injection e with e1;exact hne e1.symm)];exact hc
 |n+1,v,c,⟨b,v',e,hl,hc,hr⟩=>by
  refine⟨b,v',e,hl,?_,pO hb hu x hr⟩;have hne:b≠r:=fun h=>by
   subst h;rw[hb.cell 1] at hc;simp at hc
  rw[World.cell?_setCell_other _ _ _ _ (by intro e;injection e with e1;exact hne e1.symm)];exact hc
theorem nU{Z:TL}{pre:List TX}{x:TX}{A B:World}{row:Option Nat}{z:Nat}(h:jV Z pre x A)(hg:A.grownBy B row)(hr:∀r,row=some r→z≤r∧∃o,A.heap[r]?=some o∧o.isCells=false):jV Z pre x B:=by
 rcases h with h|⟨h1,C,h2,h3,n,h4⟩
 ·exact .inl h
 ·exact .inr ⟨h1,C,h2,h3,n,m7 h4 hg hr⟩
theorem yl{fn:Func}{p q:Tmp}(h:fn.results=#[.cell p 22,.cell q 58])(tmps:Array Value)(w:World)(R1 R2:Nat)(v1 v2:Value)(hp:tmps.getD p undef=.pointer (some ⟨R1,0,none⟩))(hq:tmps.getD q undef=.pointer (some ⟨R2,0,none⟩))
 (h1:af w R1 #[v1] 22) (h2:af w R2 #[v2] 58):(results fn tmps).run prog w=.ok (.tuple #[v1,v2]) w:=by
 have c1:=(h1.cell 0).trans (show _=some v1 from rfl);have c2:=(h2.cell 0).trans (show _=some v2 from rfl);have hp':tmps[p]?.getD undef=.pointer (some ⟨R1,0,none⟩):=by rw[←Array.getD_eq_getD_getElem?];exact hp
 have hq':tmps[q]?.getD undef=.pointer (some ⟨R2,0,none⟩):=by rw[←Array.getD_eq_getD_getElem?];exact hq
 simp only[results,h];go_simp
theorem gY{W:World}{b D:Nat}{C:Array Value}{t:TypeId}{o:Obj}(o':Obj)(h:af W b C t)(hD:W.heap[D]?=some o)(hc:o.isCells=false):af (W.putObj D o') b C t:=
 kR h (grownBy_putObj' W D o') ⟨o,hD,hc⟩
theorem E1(g sz lo:Nat)(h:lo<sz)(hs:sz≤262144)(wx:World):(Instr.slice 22 (.slice (some ⟨g,0,none⟩) sz sz) (some (.int .i64 (lo:Int))) none none).run prog wx=.ok (.slice (some ⟨g,lo,none⟩) (sz-lo) (sz-lo)) wx:=by
 obtain⟨i0,hi0,hz0,hz1,hz2⟩:=info_parts eO;rw[run_slice_l (P:=prog) (w:=wx) 22 _ sz sz (by rw[underlying22];rfl) .i64 (lo:Int) (by omega) (by omega)];simp[sizeOf,typeInfo,show prog.elem 22=5 by kernel_rfl,hi0,hz1,Result.andThen,sliced,Addr.add_mid];omega
theorem E2{w:World}{g sz base:Nat}{zs:List Int}(h:af w g (zs.map (Value.int .u8)).toArray 5)(hl:zs.length=sz)(hs:sz≤262144)(hb:base≤g):w.ownsRow base 5 1 (.slice (some ⟨g,0,none⟩) sz sz) sz (zs.map (Value.int .u8)):=
 ⟨by simp[hl],.inr ⟨g,sz,_,rfl,hb,h,aj,by unfold maxLen;omega,by simp[hl],by rw[List.take_of_length_le (by simp[hl])]⟩⟩
theorem ud(n:Nat)(C:Array Value)(w:World):
 CallsIn Fence.wide n prog 123 #[.agg C] w fun e w'=>e=.returned (.func (.func 145) #[] #[.pointer (some ⟨w.heap.size,0,none⟩)])∧w'=w.alloc (.cells C 108):=by
 refine callsIn_of_wp func123 rfl trivial ?_ rfl;simp only[ntmps123,List.size_toArray,List.length_cons,List.length_nil,Nat.reduceAdd,Nat.reduceSub,Array.replicate_succ,Array.replicate_zero,List.push_toArray,List.append_toArray,List.nil_append,List.cons_append];gi_wp2
 go_ret;exact⟨rfl,rfl⟩
def dN(zs:List Int)(sz:Nat)(pre:List TX):List Int:=(pre.map (·.1)).foldl (gD (bQ zs)) (List.replicate sz 0)
structure jZ(w:World)(g q sz:Nat)(C:Array Value)(zs:List Int)(Z:TL)(pre:List TX)(W:World):Prop where
 told:∃A,pre=aY A∧A<+:Z.1
 len:(dN zs sz pre).length=sz
 row:af W g ((dN zs sz pre).map (Value.int .u8)).toArray 5
 box:af W q #[.slice (some ⟨g,0,none⟩) sz sz] 22
 tree:af W w.heap.size C 108
 au:af W (w.heap.size+1) #[.slice none 0 0] 22
 aW:af W (w.heap.size+2) #[.nilIface] 58
 old:Below w.heap.size w W
 size:q+4≤W.heap.size
 gq:w.heap.size+3≤g∧g<q
theorem jZ.dU{w:World}{g q sz z:Nat}{C:Array Value}{zs:List Int}{Z:TL}(hz:w.heap.size≤z):iL z (jZ w g q sz C zs Z):=by
 intro pre A B row h hg hr;exact⟨h.told,h.len,dZ h.row hg hr,dZ h.box hg hr,dZ h.tree hg hr,dZ h.au hg hr,dZ h.aW hg hr,lM h.old hz (by have:=h.size;have:=h.gq;omega) hg hr,aK h.size hg.size,h.gq⟩
theorem E3(cnt sz:Nat)(zs:List Int)(C:Array Value)(Pv:Nat→Int)(iv:Value)(w:World)(Z:TL)
 (hC0:C[0]?=some iv) (Ny:C[1]?=some (.int .i64 (sz:Int))) (Qw:∀j,j<14→C[2+j]?=some (.int .i64 (Pv j))) (hCs:C.size=16) (hR:Rd .u8 w iv zs) (hz:zs.length≤1048576) (hbd:∀z∈zs,0≤z∧z<256) (hsz:sz≤262144) (hcnt:cnt=(sz+511)/512)
 (hZ:Z=dz (fe cnt (zs.length/512) (aQ zs) Pv)):
 Calls prog 97 #[.agg C] w fun e w'=>∃v ev,e=.returned (.tuple #[v,ev])∧((Z.2=false∧ev=.nilIface∧w'.ownsRow w.heap.size 5 1 v sz ((dN zs sz (aY Z.1)).map (Value.int .u8)))∨(Z.2=true∧v=.slice none 0 0∧∃n,bU w' 0 n ev 21))∧Below w.heap.size w w':=by
 obtain⟨i0,hi,hz0,hz1,hz2⟩:=info_parts eO;have HC:=aa (ai hC0 (ai Ny (ai Qw hCs)));have HR:=aa (ai hR hbd);have HZ:=aa hZ;clear hC0 Ny Qw hCs hR hbd hZ;obtain⟨W0,hW0⟩:∃W0,W0=((w.alloc (.cells C 108)).alloc (.cells #[.slice none 0 0] 22)).alloc (.cells #[.nilIface] 58):=⟨_,rfl⟩;have hs0:W0.heap.size=w.heap.size+3:=by rw[hW0];simp
 have B0:=ae (Below w.heap.size w W0) (by rw[hW0];exact((ak.alloc aj _).alloc (by simp) _).alloc (by simp;omega) _);have K0:=ae (af W0 w.heap.size C 108) (by rw[hW0];exact((af.new w C _).alloc _).alloc _);have K1:=ae (af W0 (w.heap.size+1) #[.slice none 0 0] 22) (by have h:=af.new (w.alloc (.cells C 108)) #[.slice none 0 0] 22;rw[size_alloc] at h;rw[hW0];exact h.alloc _);have K2:=ae (af W0 (w.heap.size+2) #[.nilIface] 58) (by have h:=af.new ((w.alloc (.cells C 108)).alloc (.cells #[.slice none 0 0] 22)) #[.nilIface] 58;rw[size_alloc,size_alloc] at h;rw[hW0];exact h);have HW0:=aa hW0;have NB:=aa hs0;have cz:=(K0.out.cell 1).trans HC.out.2.1;clear hW0 hs0;refine(callsIn_wide (n:=6)).1 ?_;refine callsIn_of_wp_marks func97 rfl trivial ?_ rfl;simp only[ntmps97,List.size_toArray,List.length_cons,List.length_nil,Nat.reduceAdd,Nat.reduceSub,Array.replicate_succ,Array.replicate_zero,List.push_toArray,List.append_toArray,List.nil_append,List.cons_append];gi_upto_region 1 with fail
 rw[←HW0.out];refine wpIn_wide.2 ?_;go_wp2_with (first|(refine wpList_make_full _ rfl _ _ 22 rfl W0.heap.size 5 i0 (.int .u8 0) 1 underlying22 hi hz0 hz1 .i64 .i64 (sz:Int) (sz:Int) sz rfl rfl rfl rfl (by rw[hz2];omega) (by unfold maxLen;omega) aj ?_;intro w3 o3 g3;rw[iJ _ _ rfl] at o3;have O3:=aa (ai o3 g3);clear o3 g3));have Ru:W0.heap.size≤w.heap.size+3:=by rw[NB.out];omega
 have Rv:w.heap.size+3≤W0.heap.size:=by rw[NB.out];omega
 obtain⟨WL,cK⟩:∃WL,WL=(w3.alloc (.cells #[.slice (some ⟨W0.heap.size,0,none⟩) sz sz] 22)).alloc (.cells C 108):=⟨_,rfl⟩;have hs3:W0.heap.size<w3.heap.size:=by
  have:=(O3.out.1.lt W0.heap.size rfl).2;omega
 have b3:Below W0.heap.size W0 w3:=ak.grown O3.out.2 aj (fun k e=>by cases e);have Yk:Below w3.heap.size w3 WL:=by rw[cK];exact(ak.alloc aj _).alloc (by simp) _
 have hsL:WL.heap.size=w3.heap.size+2:=by rw[cK];simp
 have kG:af w3 W0.heap.size ((dN zs sz []).map (Value.int .u8)).toArray 5:=by
  rcases O3.out.1.2 with⟨e,_⟩|⟨g,cp,cur,e,_,hg,_,_,hs,ht⟩
  ·cases e
  ·injection e with e1 e2 e3;injection e1 with e1;injection e1 with e1 _;subst e1;subst e3;have Yl:cur=((dN zs sz []).map (Value.int .u8)).toArray:=by
    have e2:cur.toList=List.replicate sz (.int .u8 0):=(by rw[←ht,List.take_of_length_le (by simp[hs])]);unfold dN;simp only[List.map_nil,List.foldl_nil,List.map_replicate];rw[←e2]
   rw[←Yl];exact hg
 have I0:=ae (∀W',Below WL.heap.size WL W'→WL.heap.size+2≤W'.heap.size→jZ w W0.heap.size w3.heap.size sz C zs Z [] W') (fun W' hb hs'=>by
  have hb3:Below w3.heap.size w3 W':=Yk.trans (hb.mono (by omega));have hb0:Below W0.heap.size W0 W':=b3.trans (hb3.mono (by omega));refine⟨⟨[],rfl,List.nil_prefix⟩,by unfold dN;simp,kG.below hb3 kG.lt,?_,K0.out.below hb0 K0.out.lt,K1.out.below hb0 K1.out.lt,K2.out.below hb0 K2.out.lt,B0.out.trans (hb0.mono (by omega)),by omega,by omega⟩;have h:af WL w3.heap.size #[.slice (some ⟨W0.heap.size,0,none⟩) sz sz] 22:=by rw[cK];exact(af.new w3 _ _).alloc _
  exact h.below hb h.lt)
 have HX:=ae (af WL (w3.heap.size+1) C 108) (by
  have h:=af.new (w3.alloc (.cells #[.slice (some ⟨W0.heap.size,0,none⟩) sz sz] 22)) C 108;rw[size_alloc] at h;rw[cK];exact h)
 have vX:=ae (Below w.heap.size w WL) (B0.out.trans ((b3.trans (Yk.mono (by omega))).mono (by omega)));have K3:=ae (af (w3.alloc (.cells #[.slice (some ⟨W0.heap.size,0,none⟩) sz sz] 22)) w.heap.size C 108) ((K0.out.below b3 K0.out.lt).alloc _);have Ox:=aa cK;clear cK b3 Yk kG cz;gi_upto_region 2 with fail
 refine wpIn_wide.2 ?_;go_wp2_with (first
  |(refine wpList_load_row rfl 108 _ rfl w.heap.size rfl 108 C (0,0) _ K3.out underlying108 rfl (by rw[HC.out.2.2.2];exact jm) ?_)
  |(go_at_call 123;refine(callsIn_wide.1 (ud 0 C _)).mono ?_;rintro e w' ⟨rfl,rfl⟩))
 gi_wp2
 rw[←Ox.out];have hmx:prog.follows .mixedOrders=true:=by kernel_rfl
 refine mj (α:=TX) rfl (by decide) (gf:=145) (lb:=#[.pointer (some ⟨w3.heap.size+1,0,none⟩)]) rfl trivial (enters_of func145 (by kernel_rfl) rfl) (encs:=TX.enc) (Kp:=(Kq w.heap.size (WL.heap.size+2) (fun t=>t=5))) Kq.trans (fun A o o' ho hc=>Kq.put o' (by omega) (by omega) ho hc)
  (Ok:=jV Z) (S:=fun xs=>(Z.2=false∧xs=aY Z.1)∨(Z.2=true∧∃x,xs=aY Z.1++[x])) (Sp:=fun _=>True)
  (fun W1 hb1 hs1=>by
   have:=tW 5 (by omega) (w3.heap.size+1) w.heap.size (fun t=>t=5) Z cnt sz zs C Pv iv w W1 (by decide) (by decide) (by decide) (by decide) HC.out.1 HC.out.2.1 HC.out.2.2.1 HC.out.2.2.2 HR.out.1 rfl hz HR.out.2 hsz hcnt HZ.out (HX.out.below hb1 HX.out.lt) (vX.out.trans (hb1.mono (by omega))) (by omega);rw[hs1] at this;exact this)
  (fun _=>rfl) (jZ w W0.heap.size w3.heap.size sz C zs Z)
  (fun c pre Wx=>c=.ret∧Z.2=true∧(∃v,af Wx (w.heap.size+1) #[.slice none 0 0] 22∧af Wx (w.heap.size+2) #[v] 58∧∃n,bU Wx 0 n v 21)∧Below w.heap.size w Wx)
  (jZ.dU (by omega))
  (by
   rintro c pre A B row ⟨h1,h2,⟨v,h3,h4,n,h5⟩,h6⟩ hg hr;exact⟨h1,h2,⟨v,dZ h3 hg hr,dZ h4 hg hr,n,m7 h5 hg hr⟩,lM h6 (by omega) h6.size hg hr⟩)
  (fun W' hb hs'=>I0.out W' hb (by omega))
  (fun pre x a' Wx=>∃c,a'={tmps:=#[.agg C,.pointer (some ⟨w.heap.size,0,none⟩),.pointer (some ⟨w.heap.size+1,0,none⟩),.pointer (some ⟨w.heap.size+1+1,0,none⟩),.pointer (some ⟨w3.heap.size,0,none⟩),.pointer (some ⟨c,0,none⟩),x.2,undef,.pointer (some ⟨w.heap.size,1,none⟩),.pointer (some ⟨w.heap.size,1,none⟩),.int .i64 (sz:Int),.slice (some ⟨W0.heap.size,0,none⟩) sz sz,.agg C,.func (.func 145) #[] #[.pointer (some ⟨w3.heap.size+1,0,none⟩)],.agg #[.int .i64 (x.1.1:Int),.int .i64 (x.1.2.1:Int),.int .i64 x.1.2.2],x.2,undef,undef,undef,undef,undef,undef,undef,undef,undef,undef,undef,undef,undef,undef,undef,undef,undef,undef,undef,undef],defers:=[]}∧af Wx c #[.int .i64 (x.1.1:Int),.int .i64 (x.1.2.1:Int),.int .i64 x.1.2.2] 225∧(jZ w W0.heap.size w3.heap.size sz C zs Z) pre Wx∧jV Z pre x Wx) ?ax ?assign ?body ?done ?stop
 case ax=>
  rintro pre x a' A B ⟨c,h1,h2,h3,h4⟩ hg hr;exact⟨c,h1,kR h2 hg hr,jZ.dU (z:=WL.heap.size+1) (by omega) pre A B _ h3 hg (fun r e=>by cases e;exact⟨aj,hr⟩),nU (z:=0) h4 hg (fun r e=>by cases e;exact⟨Nat.zero_le _,hr⟩)⟩
 case assign=>
  rintro l pre ⟨⟨lv,rk,p⟩,ev⟩ Wx K hI hok hK;have HK:=aa (ai hI (ai hok hK));clear hI hok hK;unfold TX.enc;gi_wp2
  have bA:Below Wx.heap.size Wx (Wx.alloc (.cells #[.int .i64 (lv:Int),.int .i64 (rk:Int),.int .i64 p] 225)):=ak.alloc aj _;have gA:Wx.grownBy (Wx.alloc (.cells #[.int .i64 (lv:Int),.int .i64 (rk:Int),.int .i64 p] 225)) none:=⟨bA.os,bA.tape,bA.output,bA.size,fun k hk _=>bA.block k hk⟩;exact HK.out.2.2 _ _ (lK bA) (Kq.cV bA (by have:=HK.out.1.size;omega)) ⟨_,rfl,af.new _ _ _,jZ.dU (z:=w.heap.size) aj pre _ _ none HK.out.1 gA (fun r e=>by cases e),nU (z:=0) HK.out.2.1 gA (fun r e=>by cases e)⟩
 case body=>
  rintro l pre ⟨⟨lv,rk,p⟩,ev⟩ a' Wx ⟨c,rfl,kc,hI,hok⟩;dsimp only at kc⊢
  have hdd:∀k:Nat,(Fence.wide.depth.isSome=true→1≤k):=fun k h=>by cases h
  have hgq:=hI.gq;have hIs:=hI.size;rcases hok with⟨hev,A,hA,hpre⟩|⟨hx0,A,hA,Sv,nf,hfl⟩
  ·dsimp only at hev
   subst hev;have U1:=aa (tY (h:=(lv,rk,p)) (by rw[←HZ.out];exact tZ hpre));have HT2:=ae (∃A',pre++[((lv,rk,p),Value.nilIface)]=aY A'∧A'<+:Z.1) (⟨A++[(lv,rk,p)],by rw[qF,hA],hpre⟩);have c0:=(kc.cell 0).trans (show _=some (.int .i64 (lv:Int)) from rfl);have c1:=(kc.cell 1).trans (show _=some (.int .i64 (rk:Int)) from rfl);have c2:=(kc.cell 2).trans (show _=some (.int .i64 p) from rfl);have HI:=aa (ai hI kc);clear hI kc hpre hA;by_cases hlv:lv=0
   ·subst hlv;obtain⟨q,rfl⟩:∃q:Nat,p=(q:Int):=⟨p.toNat,by have:=mZ U1.out.1 U1.out.2.1;simp only at this;omega⟩;have hq1:q*512+512≤zs.length:=(by have:=mZ U1.out.1 U1.out.2.1;simp only at this;omega);have PZ:rk<cnt:=U1.out.2.2 rfl;obtain⟨Zb,hZb,NI⟩:=tN;have Nx:=aa (ai hZb NI);clear hZb NI;have HRx:=aa (HR.out.1.below HI.out.1.old);obtain⟨BB,Qq⟩:∃BB,BB=((bQ zs (q:Int)).map (Value.int .u8)).toArray:=⟨_,rfl⟩;have hl5:(bQ zs (q:Int)).length=512:=(by unfold bQ;rw[List.length_take,List.length_drop,Int.toNat_natCast];omega);have Pt:=ae (Zb.size=BB.size) (by simp[Qq,hl5,Nx.out.1]);have UR:=ae ((prog.info? 229).map (·.size)=some BB.size) (by rw[mw];simp[Qq,hl5]);have HB1:=ae (BB.all (·.oneCell')=true) (by rw[Qq];exact tO _);have Pu:=aa (ai Qq hl5);clear Qq hl5;gi_wp2_with (first
     |(refine E0 rfl 108 _ rfl w.heap.size rfl 108 C _ HI.out.1.tree underlying108 rfl (by rw[HC.out.2.2.2];exact jm) ?_)
     |(refine⟨trivial,?_⟩;gi_at_call 127;refine(CallsIn.inRound l (callsIn_wide.2 (xV C _ zs q _ HC.out.1 HRx.out hq1 hz))).mono ?_;rintro e w9 ⟨rfl,b9⟩;rw[←Pu.out.1];have B9:=aa b9;clear b9)
     |(refine tV rfl (by intro c hc;cases hc) (by intro c hc;cases hc) (.pointer (some ⟨w9.heap.size,0,none⟩)) (w9.alloc (.cells Zb 229)) (Nx.out.2 _ _ _ rfl) ?_)
     |(refine EZ rfl 229 _ _ rfl w9.heap.size BB rfl rfl 229 Zb (af.new w9 _ _) UR.out Pt.out HB1.out ?_))
    obtain⟨W9,Xe⟩:∃W9,W9=(w9.alloc (.cells Zb 229)).setRow w9.heap.size BB:=⟨_,rfl⟩;have B99:=ae (Below w9.heap.size w9 W9) (by rw[Xe];exact below_setRow (ak.alloc aj _) aj _);have K9:=ae (af W9 w9.heap.size BB 229) (by rw[Xe];exact(af.new w9 Zb 229).row _);rw[←Xe];clear Xe;simp only[Act.put];have BX:=ae (Below Wx.heap.size Wx W9) (B9.out.trans (B99.out.mono B9.out.size));have I9:=aa (jZ.dU (z:=w.heap.size) aj pre Wx W9 none HI.out.1 ⟨BX.out.os,BX.out.tape,BX.out.output,BX.out.size,fun k hk _=>BX.out.block k hk⟩ (fun r e=>by cases e));have e1:=(BX.out.cell (p:=⟨c,1,none⟩) HI.out.2.lt).trans c1;have e4:=(I9.out.box.cell 0).trans (show _=some (.slice (some ⟨W0.heap.size,0,none⟩) sz sz) from rfl);obtain⟨lo,hlo⟩:∃lo:Nat,lo=rk*512:=⟨_,rfl⟩;have hlo1:(rk:Int)*512=(lo:Int):=(by omega);have hlo2:lo<sz:=(by omega);have HLo:=aa hlo;have hrk2:rk≤512:=(by omega);clear hlo c0 c1 c2;refine wpIn_region_any (by assumption) ?_;change wpAnyIn _ _ _ _ _ _ _ _ _ (drew W9);have d1:(drew W9).cell? ⟨c,1,none⟩=some (.int .i64 (rk:Int)):=e1;have d4:(drew W9).cell? ⟨w3.heap.size,0,none⟩=some (.slice (some ⟨W0.heap.size,0,none⟩) sz sz):=e4;have hsl:=E1 W0.heap.size sz lo hlo2 hsz;refine yf [(4,.pointer (some ⟨w3.heap.size,0,none⟩)),(5,.pointer (some ⟨c,0,none⟩)),(7,.pointer (some ⟨w9.heap.size,0,none⟩))] (drew W9) (fun i=>match i with|0=>.slice (some ⟨W0.heap.size,0,none⟩) sz sz|1=>.pointer (some ⟨c,0,none⟩)|2=>.pointer (some ⟨c,1,none⟩)|3=>.int .i64 (rk:Int)|4=>.int .i64 (lo:Int)|5=>.slice (some ⟨W0.heap.size,lo,none⟩) (sz-lo) (sz-lo)|_=>.slice (some ⟨w9.heap.size,0,none⟩) 512 512) 36 [] 7 (by kernel_rfl) (by kernel_rfl) ?hstep ?hfin _ rfl rfl (by
     intro t v h;simp only[List.mem_cons,List.not_mem_nil,or_false,Prod.mk.injEq] at h;rcases h with⟨rfl,rfl⟩|⟨rfl,rfl⟩|⟨rfl,rfl⟩<;>rfl)
    case hstep=>
     intro i o listed ac him hi hall bL;have f4:ac.tmps.getD 4 undef=.pointer (some ⟨w3.heap.size,0,none⟩):=bL.fix 4 _ (by simp);have f5:ac.tmps.getD 5 undef=.pointer (some ⟨c,0,none⟩):=bL.fix 5 _ (by simp);have f7:ac.tmps.getD 7 undef=.pointer (some ⟨w9.heap.size,0,none⟩):=bL.fix 7 _ (by simp);match i,him,hi with
     |0,_,hi=>
      obtain rfl:=Option.some.inj hi;exact⟨by rfl,(fun c=>by intro h;cases h),(fun c=>by intro h;cases h),by go_simp⟩
     |1,_,hi=>
      obtain rfl:=Option.some.inj hi;exact⟨by rfl,(fun c=>by intro h;cases h),(fun c=>by intro h;cases h),by go_simp⟩
     |2,_,hi=>
      obtain rfl:=Option.some.inj hi;have v1:ac.tmps.getD 28 undef=.pointer (some ⟨c,0,none⟩):=bL.at hall 1 28 rfl rfl (by rfl);exact⟨by rfl,(fun c=>by intro h;cases h),(fun c=>by intro h;cases h),by go_simp⟩
     |3,_,hi=>
      obtain rfl:=Option.some.inj hi;have v2:ac.tmps.getD 29 undef=.pointer (some ⟨c,1,none⟩):=bL.at hall 2 29 rfl rfl (by rfl);exact⟨by rfl,(fun c=>by intro h;cases h),(fun c=>by intro h;cases h),by go_simp⟩
     |4,_,hi=>
      obtain rfl:=Option.some.inj hi;have v3:ac.tmps.getD 30 undef=.int .i64 (rk:Int):=bL.at hall 3 30 rfl rfl (by rfl);exact⟨by rfl,(fun c=>by intro h;cases h),(fun c=>by intro h;cases h),by go_simp;rw[IntKind.wrap_i64];omega⟩
     |5,_,hi=>
      obtain rfl:=Option.some.inj hi;have v0:ac.tmps.getD 27 undef=.slice (some ⟨W0.heap.size,0,none⟩) sz sz:=bL.at hall 0 27 rfl rfl (by rfl);have v4:ac.tmps.getD 31 undef=.int .i64 (lo:Int):=bL.at hall 4 31 rfl rfl (by rfl);exact⟨by rfl,(fun c=>by intro h;cases h),(fun c=>by intro h;cases h),by go_simp⟩
     |6,_,hi=>
      obtain rfl:=Option.some.inj hi;exact⟨by rfl,(fun c=>by intro h;cases h),(fun c=>by intro h;cases h),by go_simp⟩
     |k+7,him,_=>exact absurd him (by omega)
    case hfin=>
     rintro ac bL;have g5:ac.tmps.getD 32 undef=.slice (some ⟨W0.heap.size,lo,none⟩) (sz-lo) (sz-lo):=bL.vals 5 _ 32 rfl rfl rfl;have g6:ac.tmps.getD 33 undef=.slice (some ⟨w9.heap.size,0,none⟩) 512 512:=bL.vals 6 _ 33 rfl rfl rfl;have hdf:ac.defers=[]:=bL.df;clear bL;refine wpAnyIn_ready (rs:=[7]) (by kernel_rfl) (by simp) ?_;refine AllReadyIn.cons rfl (fun K hK=>?_) AllReadyIn.nil;go_simp;have hlen:=I9.out.len;have SZ:(((bQ zs (q:Int)).take (sz-lo)).map (Value.int .u8)).length=Nat.min 512 (sz-lo):=by
      rw[List.length_map,List.length_take,Pu.out.2];exact Nat.min_comm _ _
     rw[run_copy_row (P:=prog) (drew W9) 22 22 3 5 W0.heap.size lo (sz-lo) (sz-lo) ⟨w9.heap.size,0,none⟩ 512 512 ((dN zs sz pre).map (Value.int .u8)).toArray 5 (((bQ zs (q:Int)).take (sz-lo)).map (Value.int .u8)) underlying22 (by rw[hi];simp[hz1]) (show(drew W9).heap[W0.heap.size]?=_ from I9.out.row) SZ (fun j v hj=>by
      rw[Addr.add_mid,Nat.zero_add];refine(show(drew W9).cell? ⟨w9.heap.size,j,none⟩=W9.cell? ⟨w9.heap.size,j,none⟩ from rfl).trans ((K9.out.cell j).trans ?_);rw[Pu.out.1];rw[List.getElem?_map,List.getElem?_take] at hj;by_cases hjl:j<sz-lo
      ·rw[if_pos hjl] at hj;simpa using hj
      ·rw[if_neg hjl] at hj;cases hj) (by rw[SZ];simp[hlen];have:Nat.min 512 (sz-lo)≤sz-lo:=Nat.min_le_right _ _;omega) (fun v hv=>by
      obtain⟨x,_,rfl⟩:=List.mem_map.1 hv;rfl)]
     simp only[Result.andThen_ok,Oper.uponIn];refine hK _ _ ?_;clear hK K;obtain⟨WF,P0⟩:∃WF,WF=(drew W9).setRow W0.heap.size (((dN zs sz pre).map (Value.int .u8)).toArray.toList.take lo++((bQ zs (q:Int)).take (sz-lo)).map (Value.int .u8)++((dN zs sz pre).map (Value.int .u8)).toArray.toList.drop (lo+(((bQ zs (q:Int)).take (sz-lo)).map (Value.int .u8)).length)).toArray:=⟨_,rfl⟩;rw[←P0];have Pg:af (drew W9) W0.heap.size ((dN zs sz pre).map (Value.int .u8)).toArray 5:=I9.out.row;have kF:Kq w.heap.size (WL.heap.size+2) (fun t=>t=5) Wx WF:=by
      rw[P0];exact(Kq.cV (BX.out.drew) (by omega)).trans (Kq.setRow Pg rfl (by omega))
     have eC:dN zs sz (pre++[((0,rk,(q:Int)),Value.nilIface)])=jU (dN zs sz pre) lo (bQ zs (q:Int)):=by
      unfold dN;rw[List.map_append,List.foldl_append,HLo.out];simp[gD]
     have U2:af WF W0.heap.size ((dN zs sz (pre++[((0,rk,(q:Int)),Value.nilIface)])).map (Value.int .u8)).toArray 5:=by
      have h:=Pg.row (((dN zs sz pre).map (Value.int .u8)).toArray.toList.take lo++((bQ zs (q:Int)).take (sz-lo)).map (Value.int .u8)++((dN zs sz pre).map (Value.int .u8)).toArray.toList.drop (lo+(((bQ zs (q:Int)).take (sz-lo)).map (Value.int .u8)).length)).toArray;rw[←P0] at h;rw[eC];have e2:((jU (dN zs sz pre) lo (bQ zs (q:Int))).map (Value.int .u8))=((dN zs sz pre).map (Value.int .u8)).toArray.toList.take lo++((bQ zs (q:Int)).take (sz-lo)).map (Value.int .u8)++((dN zs sz pre).map (Value.int .u8)).toArray.toList.drop (lo+(((bQ zs (q:Int)).take (sz-lo)).map (Value.int .u8)).length):=by
       unfold jU;rw[hlen,SZ,Pu.out.2];simp only[List.map_append,List.map_take,List.map_drop]
      rw[e2];exact h
     have HN:=ae (jZ w W0.heap.size w3.heap.size sz C zs Z (pre++[((0,rk,(q:Int)),Value.nilIface)]) WF) (by
      have hne:∀{b:Nat} {Cb:Array Value} {t:TypeId},t≠5→af Wx b Cb t→af WF b Cb t:=fun ht h=>kF.blk h ht;exact⟨HT2.out,by rw[eC,DO _ _ _ (by omega)];exact hlen,U2,hne (by decide) HI.out.1.box,hne (by decide) HI.out.1.tree,hne (by decide) HI.out.1.au,hne (by decide) HI.out.1.aW,HI.out.1.old.trans kF.below,aK HI.out.1.size kF.size,HI.out.1.gq⟩)
     have HKf:=ae (KeepsFrom WL.heap.size Wx WF∧Kq w.heap.size (WL.heap.size+2) (fun t=>t=5) Wx WF) (by
      refine⟨?_,kF⟩;have k1:KeepsFrom WL.heap.size Wx (drew W9):=lK BX.out.drew;refine k1.trans ?_;rw[P0];exact(Kq.setRow (n₀:=0) (z:=WL.heap.size) (Ty:=fun t=>t=5) Pg rfl (Nat.zero_le _)).iM)
     clear P0 U2 kF Pg eC;refine wpAnyIn_done (by kernel_rfl) ?_ _;gi_wp2
     exact⟨HKf.out.1,HKf.out.2,HN.out⟩
   ·have HN:=ae (jZ w W0.heap.size w3.heap.size sz C zs Z (pre++[((lv,rk,p),Value.nilIface)]) Wx) (by
     have e:dN zs sz (pre++[((lv,rk,p),Value.nilIface)])=dN zs sz pre:=by
      unfold dN;rw[List.map_append,List.foldl_append];simp[gD,hlv]
     exact⟨HT2.out,by rw[e];exact HI.out.1.len,by rw[e];exact HI.out.1.row,HI.out.1.box,HI.out.1.tree,HI.out.1.au,HI.out.1.aW,HI.out.1.old,HI.out.1.size,HI.out.1.gq⟩)
    have hl0:((lv:Int)==0)=false:=(by simp;omega);clear hlv;gi_wp2
    exact⟨KeepsFrom.refl _ _,Kq.refl _ _ _ _,HN.out⟩
  ·obtain⟨t',x',rfl⟩:=hfl.iface;have HI:=aa (ai hI hfl);have c1:=(hI.au.cell 0).trans (show _=some (.slice none 0 0) from rfl);have f1:=hI.au.frozen 0;have c2:=(hI.aW.cell 0).trans (show _=some .nilIface from rfl);have f2:=hI.aW.frozen 0;have U3:=ae (Z.2=true) (by rw[Sv]);clear hI hfl hA Sv;gi_wp2
   have hfin:af ((Wx.setCell ⟨w.heap.size+1,0,none⟩ (.slice none 0 0)).setCell ⟨w.heap.size+1+1,0,none⟩ (.iface t' (.pointer (some x')))) (w.heap.size+1) #[.slice none 0 0] 22∧af ((Wx.setCell ⟨w.heap.size+1,0,none⟩ (.slice none 0 0)).setCell ⟨w.heap.size+1+1,0,none⟩ (.iface t' (.pointer (some x')))) (w.heap.size+2) #[.iface t' (.pointer (some x'))] 58∧∃n,bU ((Wx.setCell ⟨w.heap.size+1,0,none⟩ (.slice none 0 0)).setCell ⟨w.heap.size+1+1,0,none⟩ (.iface t' (.pointer (some x')))) 0 n (.iface t' (.pointer (some x'))) 21:=by
    have k2:=HI.out.1.aW.other ⟨w.heap.size+1,0,none⟩ (.slice none 0 0) (by show w.heap.size+2≠w.heap.size+1;omega);refine⟨(HI.out.1.au.set 0 (.slice none 0 0)).other ⟨w.heap.size+1+1,0,none⟩ _ (by show w.heap.size+1≠w.heap.size+1+1;omega),k2.set 0 _,nf,?_⟩;exact pO k2 (by intro k z h;cases h) _ (pO HI.out.1.au (by intro k z h;cases h) _ HI.out.2)
   have hold:=(HI.out.1.old.setCell (p:=⟨w.heap.size+1,0,none⟩) (by show w.heap.size≤w.heap.size+1;omega) (.slice none 0 0)).setCell (p:=⟨w.heap.size+1+1,0,none⟩) (by show w.heap.size≤w.heap.size+1+1;omega) (.iface t' (.pointer (some x')));exact⟨((KeepsOthers.setCell _ _ _).trans (KeepsOthers.setCell _ _ _)).from _,⟨rfl,U3.out,⟨hfin.1,_,hfin.2⟩,hold⟩⟩
 case done=>
  rintro xs Wx hS hI hK;have HI:=aa (ai hI hK);have U4:=aa hS;have hb:=hI.box.cell 0;have hbx:Wx.cell? ⟨w3.heap.size,0,none⟩=some (.slice (some ⟨W0.heap.size,0,none⟩) sz sz):=hb.trans rfl;have c1:=(hI.au.cell 0).trans (show _=some (.slice none 0 0) from rfl);have f1:=hI.au.frozen 0;have c2:=(hI.aW.cell 0).trans (show _=some .nilIface from rfl);have f2:=hI.aW.frozen 0;clear hI hK hS hb;gi_wp2
  have Qx:Z.2=false∧xs=aY Z.1:=by
   rcases U4.out with h|⟨h,x,hx⟩
   ·exact h
   ·exfalso;obtain⟨A,hA,hp⟩:=HI.out.1.told;have h1:=congrArg List.length (hx.symm.trans hA);have h2:=hp.length_le;unfold aY at h1;simp at h1;omega
  obtain⟨hZ1,rfl⟩:=Qx;obtain⟨WE,vg⟩:∃WE,WE=(Wx.setCell ⟨w.heap.size+1,0,none⟩ (.slice (some ⟨W0.heap.size,0,none⟩) sz sz)).setCell ⟨w.heap.size+1+1,0,none⟩ .nilIface:=⟨_,rfl⟩;rw[←vg];have hgq:=HI.out.1.gq;have r1:af WE (w.heap.size+1) #[.slice (some ⟨W0.heap.size,0,none⟩) sz sz] 22:=by rw[vg];exact(HI.out.1.au.set 0 _).other _ _ (by show w.heap.size+1≠w.heap.size+1+1;omega)
  have r2:af WE (w.heap.size+1+1) #[.nilIface] 58:=by rw[vg];exact(HI.out.1.aW.other ⟨w.heap.size+1,0,none⟩ _ (by show w.heap.size+2≠w.heap.size+1;omega)).set 0 .nilIface
  have rg:af WE W0.heap.size ((dN zs sz (aY Z.1)).map (Value.int .u8)).toArray 5:=by rw[vg];exact(HI.out.1.row.other ⟨w.heap.size+1,0,none⟩ _ (by show W0.heap.size≠w.heap.size+1;omega)).other ⟨w.heap.size+1+1,0,none⟩ _ (by show W0.heap.size≠w.heap.size+1+1;omega)
  have hD:WE.heap[WL.heap.size]?=some (.deferred (some [])):=by rw[vg];exact(KeepsOthers.setCell _ _ _).same _ _ ((KeepsOthers.setCell _ _ _).same _ _ HI.out.2 rfl) rfl
  have Ta:Below w.heap.size w WE:=by rw[vg];exact(HI.out.1.old.setCell (p:=⟨w.heap.size+1,0,none⟩) (by show w.heap.size≤w.heap.size+1;omega) _).setCell (p:=⟨w.heap.size+1+1,0,none⟩) (by show w.heap.size≤w.heap.size+1+1;omega) _
  refine⟨by simp,.inl ⟨_,_,rfl,run_takeDeferred hD,?_⟩⟩;refine⟨_,yl rfl _ _ (w.heap.size+1) (w.heap.size+1+1) _ _ rfl rfl (gY _ r1 hD rfl) (gY _ r2 hD rfl),_,_,rfl,.inl ⟨hZ1,rfl,E2 (gY _ rg hD rfl) HI.out.1.len hsz (by omega)⟩,?_⟩;exact Ta.trans (belowK_b (w:=w) aj WE WL.heap.size _ (.deferred none) (by omega) hD rfl rfl)
 case stop=>
  rintro c pre Wx _ ⟨rfl,hZ2,⟨v,h3,h4,n,h5⟩,h6⟩ hK;have HI:=aa (ai hZ2 (ai h3 (ai h4 (ai h5 (ai h6 hK)))));clear hZ2 h3 h4 h5 h6 hK;gi_wp2
  have hD:=HI.out.2.2.2.2.2;refine⟨by simp,.inl ⟨_,_,rfl,run_takeDeferred hD,?_⟩⟩;refine⟨_,yl rfl _ _ (w.heap.size+1) (w.heap.size+1+1) _ _ rfl rfl (gY _ HI.out.2.1 hD rfl) (gY _ HI.out.2.2.1 hD rfl),_,_,rfl,.inr ⟨HI.out.1,rfl,n,?_⟩,?_⟩
  ·exact m7 (z:=0) HI.out.2.2.2.1 (grownBy_putObj' _ _ _) (fun r e=>by cases e;exact⟨Nat.zero_le _,_,hD,rfl⟩)
  ·exact HI.out.2.2.2.2.1.trans (belowK_b (w:=w) aj Wx WL.heap.size _ (.deferred none) (by omega) hD rfl rfl)
end
section
open Go.RowKit
theorem Kp.below{w wr w':World}{C:Array Value}{t:TypeId}{code:Int}{ok:Bool}(h:Kp w wr C t code ok)(hb:Below wr.heap.size wr w'):Kp w w' C t code ok:=
 ⟨h.blk.below hb h.blk.lt,h.ck.below hb,h.old.trans (hb.mono h.old.size)⟩
theorem E4(w wr w1:World)(C:Array Value)(t:TypeId)(code:Int)(ok ok1:Bool)(place:ByteArray)(ev:Value)(h:Kp w w1 C t code ok)(hlo:w.heap.size+1+1≤wr.heap.size)(hs:wr.heap.size≤w1.heap.size)(hf:fB w1 wr.heap.size ok1 ev code):
 Calls prog 82 #[.pointer (some ⟨w.heap.size+1,0,none⟩),.string place,ev] w1 fun e w'=>e=.returned (.tuple #[])∧Kp w w' C t code (ok&&ok1):=by
 rcases hf with⟨rfl,rfl⟩|⟨rfl,m,hm⟩
 ·refine(wB (w.heap.size+1) _ place code ok w1 h.ck).mono ?_;rintro e w' ⟨rfl,rfl⟩;exact⟨rfl,by simpa using h⟩
 ·refine(sN (w.heap.size+1) (w.heap.size+1+1) place code ok m ev w1 h.ck (hm.mono hlo) (by omega) h.lo).mono ?_;rintro e w' ⟨rfl,hc,ht⟩;exact⟨rfl,by rw[Bool.and_false];exact h.iA hc ht⟩
def pP(ds:List Int)(y:Int)(n:Nat):Bool:=(List.range n).all fun i=>decide (ds.getD i 0=0)||decide ((i:Int)<y)
theorem E7(ds:List Int)(y:Int)(n:Nat):pP ds y (n+1)=(pP ds y n&&(decide (ds.getD n 0=0)||decide ((n:Int)<y))):=by simp[pP,List.range_succ]
theorem ym(s:Int)(ds:List Int)(p q code:Int)(w:World)(hd:ds.length=12):
 Calls prog 122 #[.agg (an (aD s ds p q)),.int .i64 code] w fun e w'=>∃ev,e=.returned ev∧fB w' w.heap.size (cJ s ds p q) ev code∧Below w.heap.size w w':=by
 have HD:=aa hd;have HZ:=ae ((an (aD s ds p q)).size=15) (by rw[ct];exact dw s ds p q HD.out);have kB:=(af.new w (an (aD s ds p q)) 31).alloc (.cells #[.int .i64 code,.nilIface] 93);have kC:=Ck.fresh (w.alloc (.cells (an (aD s ds p q)) 31)) code 93;rw[size_alloc] at kC;have hb0:Below w.heap.size w ((w.alloc (.cells (an (aD s ds p q)) 31)).alloc (.cells #[.int .i64 code,.nilIface] 93)):=(ak.alloc aj _).alloc (by simp) _;have HX:=aa (fun k hk w=>tL ds k HD.out hk w);have K:=ae (Kp w ((w.alloc (.cells (an (aD s ds p q)) 31)).alloc (.cells #[.int .i64 code,.nilIface] 93)) (an (aD s ds p q)) 31 code true) (⟨kB,kC,hb0⟩);have c0:∀o1,((w.alloc (.cells (an (aD s ds p q)) 31)).alloc o1).cell? ⟨w.heap.size,0,none⟩=some (.int .i64 s):=fun o1=>by
  rw[((af.new w _ _).alloc o1).cell 0];rfl
 have HS:=ae ((an (aD s ds p q))[0]?=some (.int .i64 s)) rfl;clear hd kB kC hb0;go_enter func122,ntmps122;go_wp2_with (go_at_call 45;fail);refine(nF (w.heap.size+1) (w.heap.size+1+1) _ code s 0 262144 true _ K.out.ck (by omega) K.out.lo).mono ?_;rintro e w1 ⟨rfl,hc1,ht1⟩;rw[Bool.true_and] at hc1;have H1:=aa (K.out.iA hc1 ht1);clear hc1 ht1 K c0;go_wp2_with (first|(refine wpList_load_row rfl 31 _ rfl w.heap.size rfl 31 (an (aD s ds p q)) (0,0) _ H1.out.blk underlying31 rfl (by rw[HZ.out];exact dV) ?_)|(go_at_call 144;fail));refine(EA s ds p q 2048 code _ HD.out).mono ?_;rintro e w2 ⟨ev2,rfl,hf2,hb2⟩;have H2:=aa (ai (H1.out.below hb2) (ai hf2 (ai H1.out.lo hb2.size)));clear hf2 hb2;go_wp2_with fail;refine(E4 w w1 w2 _ _ code _ _ _ ev2 H2.out.1 H2.out.2.2.1 H2.out.2.2.2 H2.out.2.1).mono ?_;rintro e w3 ⟨rfl,hk3⟩;have H3:=aa hk3;have c3:=(H3.out.blk.cell 0).trans HS.out;have HR:=ae (w3.rangeAt w.heap.size 1 (ds.map (Value.int .i64))) (by
  have hr:=H3.out.blk.range 1 12 (by rw[dw _ _ _ _ HD.out];omega);rw[qJ _ _ _ _ HD.out] at hr;exact hr)
 clear hk3 H1 H2;go_wp2_with (go_at_call 136;fail);refine(tK s _).mono ?_;rintro e w3' ⟨⟨y,rfl,hy⟩,rfl⟩;have HY:=aa (right_eq s ds p q y HD.out hy);clear hy c3;go_wp2_with (refine wpList_load_mid rfl 29 _ rfl w.heap.size 1 rfl (ds.map (Value.int .i64)) _ HR.out underlying29 rfl (by rw[List.length_map,HD.out];exact tF) ?_);go_loopw [23] (fun i wr=>∃k:Nat,k≤12∧i=.int .i64 k∧Kp w wr (an (aD s ds p q)) 31 code (((decide (0≤s)&&decide (s≤262144))&&gE ds p q 2048)&&pP ds y k)) (fun i _=>12-(intOf i).toNat)
 case atStart=>exact⟨0,by omega,rfl,by have h:=H3.out;simpa [pP] using h⟩
 case round=>
  obtain⟨k,hk,rfl,hkp⟩:=hrel;have HK:=aa hkp;clear hkp H3 HR;by_cases hlt:k<12
  ·have hix:∀w,(Instr.index 29 (.agg (ds.map (Value.int .i64)).toArray) (.int .i64 k)).run prog w=.ok (.int .i64 (ds.getD k 0)) w:=fun w=>HX.out k hlt w;have HT:=aa (E7 ds y k);generalize ds.getD k 0=z at hix HT;by_cases hz:z=0
   ·have hz0:(z==0)=true:=(by simp[hz]);have HZ0:=ae ((decide (z=0)||decide ((k:Int)<y))=true) (by simp[hz]);clear hz;go_wp2_with (go_at_call 46;refine(eB (w.heap.size+1) (w.heap.size+1+1) _ code _ true _ HK.out.ck (by omega) HK.out.lo).mono ?_;rintro e w4 ⟨rfl,hc4,U5⟩);have H4:=aa (HK.out.iA hc4 U5);clear hc4 U5;go_roundw
    case rel=>exact⟨k+1,by omega,by go_num,by rw[HT.out,HZ0.out, ←Bool.and_assoc];exact H4.out⟩
    case measure=>simp[intOf];omega
   ·have hz0:(z==0)=false:=(by simp[hz]);have HZ0:=ae ((decide (z=0)||decide ((k:Int)<y))=decide ((k:Int)<y)) (by simp[hz]);clear hz;go_wp2_with (go_at_call 46;refine(eB (w.heap.size+1) (w.heap.size+1+1) _ code _ (decide ((k:Int)<y)) _ HK.out.ck (by omega) HK.out.lo).mono ?_;rintro e w4 ⟨rfl,hc4,U5⟩);have H4:=aa (HK.out.iA hc4 U5);clear hc4 U5;go_roundw
    case rel=>exact⟨k+1,by omega,by go_num,by rw[HT.out,HZ0.out, ←Bool.and_assoc];exact H4.out⟩
    case measure=>simp[intOf];omega
  ·have e12:k=12:=(by omega);subst e12;have Ra:=(HK.out.blk.cell 13).trans (qI s ds p q HD.out);by_cases hp0:p=0
   ·by_cases hq0:q=0
    ·have hp1:(p==0)=true:=(by simp[hp0]);have hq1:(q==0)=true:=(by simp[hq0]);have HP:=ae ((decide (p=0)||decide (12<y))=true) (by simp[hp0]);have HQ:=ae ((decide (q=0)||decide (140<y))=true) (by simp[hq0]);clear hp0 hq0;go_wp2_with (go_at_call 46;fail);refine(eB (w.heap.size+1) (w.heap.size+1+1) _ code _ true _ HK.out.ck (by omega) HK.out.lo).mono ?_;rintro e w5 ⟨rfl,Oy,Qy⟩;have H5:=aa (HK.out.iA Oy Qy);have Ow:=(H5.out.blk.cell 14).trans (m0 s ds p q HD.out);clear Oy Qy Ra;go_wp2_with (go_at_call 46;fail);refine(eB (w.heap.size+1) (w.heap.size+1+1) _ code _ true _ H5.out.ck (by omega) H5.out.lo).mono ?_;rintro e w6 ⟨rfl,hc6,Qz⟩;have H6:=aa (H5.out.iA hc6 Qz);obtain⟨ev,c6,QA⟩:=H6.out.fault;have HF:=ae (fB w6 w.heap.size (cJ s ds p q) ev code) (by rw[←HY.out];unfold nQ;rw[HP.out,HQ.out];exact QA);clear hc6 Qz Ow QA;go_wp2;go_ret;exact⟨ev,rfl,HF.out,H6.out.old⟩
    ·have hp1:(p==0)=true:=(by simp[hp0]);have hq1:(q==0)=false:=(by simp[hq0]);have HP:=ae ((decide (p=0)||decide (12<y))=true) (by simp[hp0]);have HQ:=ae ((decide (q=0)||decide (140<y))=(decide (140<y))) (by simp[hq0]);clear hp0 hq0;go_wp2_with (go_at_call 46;fail);refine(eB (w.heap.size+1) (w.heap.size+1+1) _ code _ true _ HK.out.ck (by omega) HK.out.lo).mono ?_;rintro e w5 ⟨rfl,Oy,Qy⟩;have H5:=aa (HK.out.iA Oy Qy);have Ow:=(H5.out.blk.cell 14).trans (m0 s ds p q HD.out);clear Oy Qy Ra;go_wp2_with (go_at_call 46;fail);refine(eB (w.heap.size+1) (w.heap.size+1+1) _ code _ (decide (140<y)) _ H5.out.ck (by omega) H5.out.lo).mono ?_;rintro e w6 ⟨rfl,hc6,Qz⟩;have H6:=aa (H5.out.iA hc6 Qz);obtain⟨ev,c6,QA⟩:=H6.out.fault;have HF:=ae (fB w6 w.heap.size (cJ s ds p q) ev code) (by rw[←HY.out];unfold nQ;rw[HP.out,HQ.out];exact QA);clear hc6 Qz Ow QA;go_wp2;go_ret;exact⟨ev,rfl,HF.out,H6.out.old⟩
   ·by_cases hq0:q=0
    ·have hp1:(p==0)=false:=(by simp[hp0]);have hq1:(q==0)=true:=(by simp[hq0]);have HP:=ae ((decide (p=0)||decide (12<y))=(decide (12<y))) (by simp[hp0]);have HQ:=ae ((decide (q=0)||decide (140<y))=true) (by simp[hq0]);clear hp0 hq0;go_wp2_with (go_at_call 46;fail);refine(eB (w.heap.size+1) (w.heap.size+1+1) _ code _ (decide (12<y)) _ HK.out.ck (by omega) HK.out.lo).mono ?_;rintro e w5 ⟨rfl,Oy,Qy⟩;have H5:=aa (HK.out.iA Oy Qy);have Ow:=(H5.out.blk.cell 14).trans (m0 s ds p q HD.out);clear Oy Qy Ra;go_wp2_with (go_at_call 46;fail);refine(eB (w.heap.size+1) (w.heap.size+1+1) _ code _ true _ H5.out.ck (by omega) H5.out.lo).mono ?_;rintro e w6 ⟨rfl,hc6,Qz⟩;have H6:=aa (H5.out.iA hc6 Qz);obtain⟨ev,c6,QA⟩:=H6.out.fault;have HF:=ae (fB w6 w.heap.size (cJ s ds p q) ev code) (by rw[←HY.out];unfold nQ;rw[HP.out,HQ.out];exact QA);clear hc6 Qz Ow QA;go_wp2;go_ret;exact⟨ev,rfl,HF.out,H6.out.old⟩
    ·have hp1:(p==0)=false:=(by simp[hp0]);have hq1:(q==0)=false:=(by simp[hq0]);have HP:=ae ((decide (p=0)||decide (12<y))=(decide (12<y))) (by simp[hp0]);have HQ:=ae ((decide (q=0)||decide (140<y))=(decide (140<y))) (by simp[hq0]);clear hp0 hq0;go_wp2_with (go_at_call 46;fail);refine(eB (w.heap.size+1) (w.heap.size+1+1) _ code _ (decide (12<y)) _ HK.out.ck (by omega) HK.out.lo).mono ?_;rintro e w5 ⟨rfl,Oy,Qy⟩;have H5:=aa (HK.out.iA Oy Qy);have Ow:=(H5.out.blk.cell 14).trans (m0 s ds p q HD.out);clear Oy Qy Ra;go_wp2_with (go_at_call 46;fail);refine(eB (w.heap.size+1) (w.heap.size+1+1) _ code _ (decide (140<y)) _ H5.out.ck (by omega) H5.out.lo).mono ?_;rintro e w6 ⟨rfl,hc6,Qz⟩;have H6:=aa (H5.out.iA hc6 Qz);obtain⟨ev,c6,QA⟩:=H6.out.fault;have HF:=ae (fB w6 w.heap.size (cJ s ds p q) ev code) (by rw[←HY.out];unfold nQ;rw[HP.out,HQ.out];exact QA);clear hc6 Qz Ow QA;go_wp2;go_ret;exact⟨ev,rfl,HF.out,H6.out.old⟩
end
end Go.Proofs.YtpplnhkpcpieoaaGreatDoor
