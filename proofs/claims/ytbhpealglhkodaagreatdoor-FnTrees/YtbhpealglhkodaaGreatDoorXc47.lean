/- The root of a renewal's numbers -/
import Derived.Test.YtbhpealglhkodaaGreatDoorXc46
namespace Go.Proofs.YtbhpealglhkodaaGreatDoor
set_option linter.all false
set_option maxRecDepth 100000
set_option maxHeartbeats 16000000
section
open Go.RowKit
theorem root_any(b n base:Nat)(C:Array Value)(sl:Nat→Value)(Ls:Nat→List Int)(w:World)(h:NumS w base b 20 C 79 sl Ls):
 Calls Tryz.prog 38 #[.pointer (some ⟨b,20,none⟩),.int .i64 (n:Int)] w fun e w'=>e=.returned (.agg (rootC Ls n 14))∧Below w.heap.size w w':=rootG_any b 20 n base 79 C sl Ls w h
end
section
open Go.RowKit Go.Shelf
theorem results_rttR{P:Program}{fn:Func}{p t u:Tmp}{ty:TypeId}(h:fn.results=#[.cell p ty,.tmp t,.tmp u])(tmps:Array Value)(w:World)(g:Nat)(ti:TypeId)(cs:Array Value)(fr:Nat×Nat)(d:TypeDesc)(x y:Value)
 (hp:tmps.getD p undef=.pointer (some ⟨g,0,none⟩)) (ht:tmps.getD t undef=x) (hy:tmps.getD u undef=y) (hg:w.heap[g]?=some (.cells cs ti fr))
 (hu:P.underlying ty=some d) (hd:(match d with|.struct _|.array _ _=>true|_=>false)=true) (hi:(P.info? ty).map (·.size)=some cs.size):
 (results fn tmps).run P w=.ok (.tuple #[.agg cs,x,y]) w:=by
 simp only[results,h];simp[Sem.run_bind,Result.andThen, ←Array.getD_eq_getD_getElem?,ht,hp,hy,asAddr,run_loadVar_row w g ti ty cs fr d hg hu hd hi]
theorem infoPut2:(Tryz.prog.info? 57).map (·.size)=some 2:=by kernel_rfl
theorem supplyOf_any(fa:Option Addr)(fl fc:Nat)(w:World):Calls Tryz.prog 35 #[.slice fa fl fc] w fun e w'=>e=.returned (.func (.func 66) #[] #[.pointer (some ⟨w.heap.size,0,none⟩)])∧w'=w.alloc (.cells #[.slice fa fl fc] 26):=by
 go_enter Tryz.func35,Tryz.ntmps35;go_wp2;go_ret;exact⟨rfl,rfl⟩
theorem put_at{W:World}{base:Nat}{pa:Option Addr}{pn pc:Nat}{P:List (Int×List Int)}{vs:List Value}(h:OwnN W base 57 1 (.slice pa pn pc) (P.map neR) vs)(hn:pn=P.length)(i:Nat)(hi:i<pn):∃pg x v,pa=some ⟨pg,0,none⟩∧W.rangeAt pg (i*2) [.int .i64 x,v]∧pg<W.heap.size∧(∃ys,P[i]?=some (x,ys)∧∃da dl dc,v=.slice da dl dc∧W.ownsRow base 5 1 v ys.length (ys.map (Value.int .u8))):=by
 obtain⟨a,cap,e,hc,_,_⟩:=h.rd.row;rw[List.length_map] at e hc;obtain⟨pg,off,rfl,hlt,hcell⟩:=hc (by omega);injection e with e1 e2 e3;subst e1;have hoff:off=0:=by
  rcases h.row.2 with⟨e',_⟩|⟨g,cap',cur,e',_⟩
  ·cases e'
  ·injection e' with e1 e2 e3;injection e1 with e1;injection e1 with e1 e2
 subst hoff;have hiL:i<P.length:=by omega
 have hvl:i<vs.length:=by rw[h.len,List.length_map];exact hiL
 have hv:=List.getElem?_eq_getElem hvl;have hp:(P.map neR)[i]?=some (neR P[i]):=by rw[List.getElem?_map,List.getElem?_eq_getElem hiL];rfl
 have ho:=h.dat i _ _ hv hp;obtain⟨da,dc,hs⟩:=own_shape ho;refine⟨pg,P[i].1,vs[i],rfl,fun j u hj=>?_,hlt,P[i].2,List.getElem?_eq_getElem hiL,da,_,dc,hs,ho⟩;have hj2:j<2:=by
  rcases Nat.lt_or_ge j 2 with h|h
  ·exact h
  ·rw[List.getElem?_eq_none (by simpa using h)] at hj;cases hj
 have:=hcell (i*2+j) u (by rw[cellsN_get 1 vs (P.map neR) h.len h.pre i j _ _ hv hp (by omega)];exact hj);rw[Nat.zero_add] at this;exact this
end
section
open Go.RowKit
theorem rd_putM{W:World}{a:Option Addr}{n cap:Nat}{ps:List (Int×List Int)}{vs:List Value}(h:RdN W 1 (.slice a n cap) (ps.map neR) vs)(k:Nat)(hk:k<ps.length):∃b off x ys v,n=ps.length∧a=some ⟨b,off,none⟩∧b<W.heap.size∧ps[k]?=some (x,ys)∧W.rangeAt b (off+k*2) [.int .i64 x,v]∧Rd .u8 W v ys:=by
 obtain⟨a',cap',e,hc,_,_⟩:=h.row;have hlen:(ps.map neR).length=ps.length:=by simp
 rw[hlen] at e hc;injection e with e1 e2 e3;subst e1;subst e3;obtain⟨b,off,rfl,hlt,hcell⟩:=hc (by omega);have hv:k<vs.length:=by rw[h.len,hlen];exact hk
 have h1:(ps.map neR)[k]?=some (neR ps[k]):=by simp[hk]
 have h2:vs[k]?=some vs[k]:=List.getElem?_eq_getElem hv;refine⟨b,off,ps[k].1,ps[k].2,vs[k],e2,rfl,hlt,by simp[hk],?_,h.dat k _ _ h2 h1⟩;intro j u hj;have hj2:j<2:=(List.getElem?_eq_some_iff.1 hj).1;have h3:=cellsN_get 1 vs (ps.map neR) h.len h.pre k j vs[k] (neR ps[k]) h2 h1 (by omega);rw[Nat.add_assoc];refine hcell _ _ (h3.trans ?_);rw[←hj];rfl
theorem puts_takeM(zs:List Int)(ps:List (Int×List Int))(k:Nat)(p:Int×List Int)(h:ps[k]?=some p):putsI zs (ps.take (k+1))=putI (putsI zs (ps.take k)) p:=by
 obtain⟨hk,he⟩:=List.getElem?_eq_some_iff.1 h;rw[List.take_succ_eq_append_getElem hk,puts_append,he,puts_cons];rfl
theorem over_stepM(X ys:List Int)(o j:Nat)(hj:j<ys.length)(hf:o+ys.length≤X.length):(over X o (ys.take j)).set (o+j) (ys.getD j 0)=over X o (ys.take (j+1)):=by
 have hg:ys.getD j 0=ys[j]:=by simp only[List.getD,List.getElem?_eq_getElem hj,Option.getD_some]
 have l1:(ys.take j).length=j:=by rw[List.length_take];omega
 have l2:(ys.take (j+1)).length=j+1:=by rw[List.length_take];omega
 refine List.ext_getElem? (fun i=>?_);rw[List.getElem?_set,over_get _ _ _ (by rw[l1];omega),over_get _ _ _ (by rw[l2];omega),l1,l2,over_len _ _ _ (by rw[l1];omega),hg];by_cases h1:o+j=i
 ·subst h1;rw[if_pos rfl,if_pos (by omega),if_pos (by omega),List.getElem?_take,if_pos (by omega),Nat.add_sub_cancel_left,List.getElem?_eq_getElem hj]
 ·rw[if_neg h1];by_cases h2:o≤i∧i<o+j
  ·rw[if_pos h2,if_pos (by omega),List.getElem?_take,List.getElem?_take,if_pos (by omega),if_pos (by omega)]
  ·rw[if_neg h2,if_neg (by omega)]
theorem over_zeroM(X ys:List Int)(o:Nat):over X o (ys.take 0)=X:=by
 unfold over;simp
theorem infoU8M3:(Tryz.prog.info? 5).map (fun i=>(i.zero,i.size,i.bytes))=some (some (.int .u8 0),1,1):=by kernel_rfl
theorem applyJ_any(N:Nat)(iv:Value)(zs:List Int)(ps:List (Int×List Int))(vs:List Value)(a:Option Addr)(n cap:Nat)(w:World)
 (hN:N≤2048) (hN0:0<N) (hz:zs.length=N*512) (hi:Rd .u8 w iv zs) (hp:∀p∈ps,PutOk N p) (hn:n=ps.length) (hl:ps.length≤100000)
 (HR:RdN w 1 (.slice a n cap) (ps.map neR) vs):
 Calls Tryz.prog 27 #[iv,.slice a n cap] w fun e w'=>∃v',e=.returned v'∧w'.ownsRow w.heap.size 5 1 v' (N*512) ((putsI zs ps).map (Value.int .u8))∧Below w.heap.size w w':=by
 obtain⟨i0,hi0,hz0,hz1,hz2⟩:=info_parts infoU8M3;obtain⟨ib,io,ic,rfl,hib,_,_,hic⟩:=hi.partsC (by omega);have HI:=hide (And.intro hib hic);have HH:=hide HR;have HP:=hide hp;have HZ:=hide hz;obtain⟨L,hL⟩:∃L,L=N*512:=⟨_,rfl⟩;have HL:=hide hL;rw[show zs.length=L by rw[hz,hL], ←hL];have HN:=hide hn;have hnb:n≤100000:=by omega
 have hLb:L≤1048576:=by omega
 clear hi hib hic HR hp hz hL hn hl;go_enter Tryz.func27,Tryz.ntmps27;go_upto_region 2 with(first
  |(
   at_builtin;refine wpList_append_own _ rfl (.tmp 10) (.tmp 11) 22 rfl w.heap.size 5 i0 (.int .u8 0) 1 1 Tryz.underlying22 hi0 hz0 hz1 hz2 rfl (by decide) _ 0 [] rfl (own_emptyM w _ 1) ⟨ib,io,none⟩ L ic (zs.map (Value.int .u8)) rfl (by rw[List.length_map,HZ.out,HL.out,Nat.mul_one]) (by
    intro j u hj;have hjl:j<zs.length:=(by simpa using(List.getElem?_eq_some_iff.1 hj).1);rw[Addr.add_mid];refine(((Below.refl w.heap.size w).alloc (Nat.le_refl _) _).cell (p:=⟨ib,io+j,none⟩) HI.out.1).trans ?_;rw[HI.out.2 j hjl, ←hj,List.getElem?_map,List.getElem?_eq_getElem hjl];simp[List.getD,hjl]) (by intro u hu;obtain⟨z,_,rfl⟩:=List.mem_map.1 hu;rfl) (by unfold maxLen;omega) (by omega) (by simp) ?_
   intro v1 W1 o1 g1 _;rw[Nat.zero_add,List.nil_append] at o1;have O1:=hide o1;have B1:=hide (show Below w.heap.size w W1 from((Below.refl _ _).alloc (Nat.le_refl _) _).grown g1 (by simp) (fun r e=>by have e2:w.heap.size=r:=Option.some.inj e;omega));clear o1 g1)
  |fail)
 rcases O1.out.2 with⟨e,e0⟩|⟨g,gc,cur,e,hgb,q1,q2,q3,q4,q5⟩
 ·rw[HL.out] at e0;omega
 subst e;clear q1 q3 q4 q5;have HG:=hide hgb;have hgc:(L:Int)≤(gc:Int):=by omega
 clear hgb q2 cur;go_wp2;go_loopw [15] (fun i wr=>∃k:Nat,k≤n∧i=.int .i64 (k:Int)∧wr.ownsRow w.heap.size 5 1 (.slice (some ⟨g,0,none⟩) L gc) L ((putsI zs (ps.take k)).map (Value.int .u8))∧Below w.heap.size w wr) (fun i _=>n-(intOf i).toNat)
 case atStart=>exact⟨0,Nat.zero_le _,rfl,O1.out,B1.out⟩
 case round=>
  obtain⟨k,hk,rfl,ho,hb⟩:=hrel;rename World=>wA
  have HO:=hide ho;have HB:=hide hb;clear ho hb O1 B1;by_cases hkn:k<n
  ·have hkI:(k:Int)<(n:Int):=(by omega);obtain⟨b,off,x,ys,v,hnp,rfl,hbl,hpk,hrg0,hrd⟩:=rd_putM HH.out k (by rw[←HN.out];exact hkn);clear hnp;have hrg:wA.rangeAt b (off+k*2) [.int .i64 x,v]:=fun j u hj=>(HB.out.cell (p:=⟨b,off+k*2+j,none⟩) hbl).trans (hrg0 j u hj);clear hrg0;obtain⟨hpk1,hpk2⟩:=List.getElem?_eq_some_iff.1 hpk;have hok:PutOk N (x,ys):=(by rw[←hpk2];exact HP.out _ (List.getElem_mem hpk1));obtain⟨q,rfl⟩:∃q:Nat,x=(q:Int):=⟨x.toNat,by have:=hok.1;simp only at this;omega⟩;have hqN:q<N:=(by have:=hok.2.1;simp only at this;omega);have hyl:ys.length=512:=hok.2.2.1;obtain⟨X,hX⟩:∃X,X=putsI zs (ps.take k):=⟨_,rfl⟩;have HXl:=hide (show X.length=N*512 from by rw[hX];exact puts_len _ _ (fun p hp=>HP.out p (List.mem_of_mem_take hp)) HZ.out);have HN2:=hide (show putsI zs (ps.take (k+1))=over X (q*512) ys from by rw[puts_takeM zs ps k _ hpk, ←hX];rfl);rw[←hX] at HO;obtain⟨b2,off2,c2,hv,hb2,_,_,hcell⟩:=hrd.partsC (by omega);rw[hyl] at hv;have HYl:=hide hyl;have HRg:=hide hrg;have HCe:=hide (And.intro hb2 hcell);have HQ:=hide hqN;obtain⟨Q,hQ⟩:∃Q:Nat,Q=q*512:=⟨_,rfl⟩;have hqI:(q:Int)*512=(Q:Int):=(by omega);have hQL:Q+512≤L:=(by rw[HL.out];omega);have HQ2:=hide hQ;obtain⟨W3,hW3⟩:∃W3,W3=wA.alloc (.cells #[.int .i64 (q:Int),.slice (some ⟨b2,off2,none⟩) 512 c2] 57):=⟨_,rfl⟩;have K3:=hide (show Blk W3 wA.heap.size #[.int .i64 (q:Int),.slice (some ⟨b2,off2,none⟩) 512 c2] 57 from by rw[hW3];exact Blk.new _ _ _);have b3:Below wA.heap.size wA W3:=(by rw[hW3];exact(Below.refl _ _).alloc (Nat.le_refl _) _);have HO3:=hide (own_below HO.out b3);have HB3:=hide (HB.out.trans (b3.mono HB.out.size));have HW3:=hide hW3;have HGA:=hide (show g<wA.heap.size from(HO.out.lt g rfl).2);subst hv;clear hrg hW3 hrd hcell hb2 hok hpk hpk2 hX hbl hyl hqN hQ b3;go_upto_region 5 with(first|(refine wpList_load_mid rfl 57 _ rfl b (off+k*2) rfl [.int .i64 (q:Int),.slice (some ⟨b2,off2,none⟩) 512 c2] _ HRg.out Tryz.underlying57 rfl infoPut2 ?_)|fail)
   rw[←HW3.out];have k1:=K3.out.cell 1;simp at k1;go_wp2;clear k1;go_loopw [22] (fun i wr=>∃j:Nat,j≤512∧i=.int .i64 (j:Int)∧wr.ownsRow w.heap.size 5 1 (.slice (some ⟨g,0,none⟩) L gc) L ((over X Q (ys.take j)).map (Value.int .u8))∧Below w.heap.size w wr∧Blk wr wA.heap.size #[.int .i64 (q:Int),.slice (some ⟨b2,off2,none⟩) 512 c2] 57) (fun i _=>512-(intOf i).toNat)
   case atStart=>exact⟨0,Nat.zero_le _,rfl,by rw[over_zeroM];exact HO3.out,HB3.out,K3.out⟩
   case round=>
    obtain⟨j,hj,rfl,ho,hb,hk3⟩:=hrel;have HOj:=hide ho;have HBj:=hide hb;have HKj:=hide hk3;clear ho hb hk3;by_cases hj5:j<512
    ·have hjI:(j:Int)<512:=(by omega);have cj:=(HBj.out.cell (p:=⟨b2,off2+j,none⟩) HCe.out.1).trans (HCe.out.2 j (by rw[HYl.out];exact hj5));have HStep:=hide (over_stepM X ys Q j (by rw[HYl.out];exact hj5) (by rw[HYl.out,HXl.out, ←HL.out];exact hQL));generalize ys.getD j 0=y at cj HStep;obtain⟨M,hM⟩:∃M:Nat,M=Q+j:=⟨_,rfl⟩;rw[←hM] at HStep;have hMI:(Q:Int)+(j:Int)=(M:Int):=(by omega);have hML:(M:Int)<(L:Int):=(by omega);have hM2:M<L:=(by omega);have k0:=HKj.out.cell 0;simp at k0;obtain⟨cur,kb,hcs⟩:∃cur,Blk wr g cur 5∧M<cur.size:=by
      rcases HOj.out.2 with⟨e,_⟩|⟨g',cp,cur,e,_,hg,hnc,_,hcs,_⟩
      ·cases e
      ·injection e with e1 e2 e3;injection e1 with e1;injection e1 with e1 _;subst e1;exact⟨cur,hg,by omega⟩
     have cg:=kb.cell M;rw[Array.getElem?_eq_getElem hcs] at cg;have fg:=kb.frozen M;have HKb:=hide kb;clear hM kb hM2;go_wp2;go_roundw
     case rel=>exact⟨j+1,by omega,by go_num,by rw[←HStep.out,List.map_set];exact own_setCS HOj.out rfl M (.int .u8 y),HBj.out.setCell (p:=⟨g,M,none⟩) HG.out _,HKj.out.other _ _ (by have h1:=HKb.out.lt;show wA.heap.size≠g;have:=HGA.out;omega)⟩
     case measure=>simp[intOf];omega
    ·obtain rfl:j=512:=(by omega);go_wp2;go_roundw
     case rel=>exact⟨k+1,by omega,by go_num,by rw[HN2.out, ←HQ2.out];have h:=HOj.out;rw[List.take_of_length_le (by rw[HYl.out];exact Nat.le_refl _)] at h;exact h,HBj.out⟩
     case measure=>simp[intOf];omega
  ·obtain rfl:k=n:=(by omega);have q1:¬((k:Int)<(k:Int)):=(by omega);go_wp2;go_ret;have e:ps.take k=ps:=List.take_of_length_le (by rw[HN.out];exact Nat.le_refl _);rw[e] at HO;exact⟨_,rfl,HO.out,HB.out⟩
theorem own_keptM{w w':World}{base n sz:Nat}{e:TypeId}{v:Value}{xs:List Value}(h:w.ownsRow base e sz v n xs)(hk:∀k,v.ownBlock=some k→w'.heap[k]?=w.heap[k]?):w'.ownsRow base e sz v n xs:=by
 refine⟨h.1,?_⟩;rcases h.2 with hn|⟨g,cap,cur,rfl,hg,hgg,rest⟩
 ·exact .inl hn
 ·exact .inr ⟨g,cap,cur,rfl,hg,by rw[hk g rfl];exact hgg,rest⟩
theorem own_rowM{w:World}{base n g sz:Nat}{e t:TypeId}{v:Value}{xs:List Value}{C cs:Array Value}(h:w.ownsRow base e sz v n xs)(hb:Blk w g C t)(ht:t≠e):(w.setRow g cs).ownsRow base e sz v n xs:=by
 refine h.kept (row:=some g) ⟨rfl,rfl,rfl,by simp,fun j hj hne=>setRow_other w g j cs (fun e=>hne (by rw[e]))⟩ ?_;rcases h.2 with⟨rfl,_⟩|⟨g',cap',cur',rfl,_,hg',_⟩
 ·exact .inl rfl
 ·refine .inr (fun e2=>?_);have e3:g'=g:=Option.some.inj e2;subst e3;have hb':w.heap[g']?=some (.cells C t):=hb;rw[hg'] at hb';injection hb' with hb';injection hb' with _ h2;exact ht h2.symm
theorem ownN_rowM{W:World}{base g m:Nat}{e t:TypeId}{v:Value}{L:List NE}{vs:List Value}{C cs:Array Value}(h:OwnN W base e m v L vs)(hb:Blk W g C t)(h1:t≠e)(h2:t≠5):OwnN (W.setRow g cs) base e m v L vs:=
 ⟨h.len,h.pre,own_rowM h.row hb h1,fun i x l hx hl=>own_rowM (h.dat i x l hx hl) hb h2,h.one⟩
def SaveM(W W5:World):Prop:=W.heap.size≤W5.heap.size∧∀k,k<W.heap.size→W5.heap[k]?=W.heap[k]?
theorem SaveM.blk{W W5:World}(h:SaveM W W5){b:Nat}{C:Array Value}{t:TypeId}(k:Blk W b C t):Blk W5 b C t:=(h.2 b k.lt).trans k
theorem SaveM.own{W W5:World}(h:SaveM W W5){base m:Nat}{e:TypeId}{v:Value}{L:List NE}{vs:List Value}(k:OwnN W base e m v L vs):OwnN W5 base e m v L vs:=
 ⟨k.len,k.pre,own_keptM k.row (fun q hq=>h.2 q (k.row.lt q hq).2),fun i u l hu hl=>own_keptM (k.dat i u l hu hl) (fun q hq=>h.2 q ((k.dat i u l hu hl).lt q hq).2),k.one⟩
theorem wpList_store_newM{P:Program}{ops:Array Oper}{rest:List Oper}{o:Oper}{a:Act}{w:World}{Q:Exit→Act→World→Prop}(B:Nat)(W0:World)(hgd:o.guard=none)(ty:TypeId)(x y:Operand)(ho:o.op=.store ty x y)
 (g:Nat) (cells:Array Value) (hx:a.eval x=.pointer (some ⟨g,0,none⟩)) (hy:a.eval y=.agg cells)
 (t:TypeId) (old:Array Value) (hg:Blk w g old t) (hi:(P.info? ty).map (·.size)=some cells.size)
 (hold:old.size=cells.size) (h1:cells.all (·.oneCell')=true) (hB:Below B W0 w) (hBg:B≤g)
 (h:∀w2,Blk w2 g cells t→Below B W0 w2→(∀W,W.heap.size≤g→(∀k,k<W.heap.size→w.heap[k]?=W.heap[k]?)→SaveM W w2)→wpList P ops Q rest (a.put o.dst undef) w2):wpList P ops Q (o::rest) a w:=
 wpList_store_row hgd ty x y ho g cells hx hy t old hg hi hold h1 (h _ (hg.row cells) (below_setRow hB hBg cells) (fun W hW hs=>⟨by have:=hg.lt;simp;omega,fun k hk=>(setRow_other w g k cells (by omega)).trans (hs k hk)⟩))
theorem treeWriteJ_any(ic L:Nat)(ia fa:Option Addr)(fl fc:Nat)(fs:List Int)(cv:Value)(zs cs:List Int)(D0:RD)(w:World)
 (hD0:BegO D0 (fun _=>[])) (hst:D0.st=some fs) (hfl:fl=fs.length) (hf:Rd .i64 w (.slice fa fl fc) fs) (hx:∀x∈fs,2≤x∧x<((L/512:Nat):Int)) (hfl2:fs.length≤100000)
 (hi:Rd .u8 w (.slice ia L ic) zs) (hsz:szOk zs.length=true) (hLz:L=zs.length) (hz:zs.length≤1048576) (hbd:∀z∈zs,0≤z∧z<256) (hc:Rd .u8 w cv cs) (hcs:cs.length≤262144) (hcb:∀z∈cs,0≤z∧z<256):
 Calls Tryz.prog 5 #[.slice ia L ic,.agg rootZ,cv,.slice fa fl fc] w fun e w'=>(((gS zs cs D0).sh=false∧∃pa pc vs,e=.returned (.tuple #[.agg (rootC (gS zs cs D0).Ln cs.length 14),.slice pa (gS zs cs D0).P.length pc,.int .i64 0])∧OwnN w' w.heap.size 57 1 (.slice pa (gS zs cs D0).P.length pc) ((gS zs cs D0).P.map neR) vs)∨((gS zs cs D0).sh=true∧e=.returned (.tuple #[.agg rootZ,.slice none 0 0,.int .i64 9])))∧Below w.heap.size w w':=by
 obtain⟨ca,cc,rfl⟩:=rd_shapeT hc;obtain⟨W1,hW1⟩:∃W1,W1=(w.alloc (.cells rootZ 27)).alloc (.cells rootZ 27):=⟨_,rfl⟩;have HW1:=hide hW1;have K1:=hide (show Blk W1 w.heap.size rootZ 27 from by rw[hW1];exact(Blk.new _ _ _).alloc _);have Z1:=hide (show Blk W1 (w.heap.size+1) rootZ 27 from by rw[hW1];have h:=Blk.new (w.alloc (.cells rootZ 27)) rootZ 27;rw[World.size_alloc] at h;exact h);have B1:=hide (show Below w.heap.size w W1 from by rw[hW1];exact((Below.refl _ _).alloc (Nat.le_refl _) _).alloc (by simp) _);have S1:=hide (show W1.heap.size=w.heap.size+2 from by rw[hW1];simp);have HFa:=hide (show Calls Tryz.prog 31 #[.slice ia L ic,.agg rootZ] W1 fun e w'=>e=.returned (.int .i64 0)∧Below W1.heap.size W1 w' from by
  have h:=fault3_any (.slice ia L ic) zs 0 (List.replicate 12 0) 0 0 W1 (hi.below B1.out) hz rfl;rw[show faultT zs 0 (List.replicate 12 0) 0 0=0 from by unfold faultT;rw[if_pos ⟨hsz,by decide⟩]] at h;exact h)
 have hLb:0<L/512∧L/512≤2048∧L≤1048576:=by
  have h:=hsz;unfold szOk at h;simp only[Bool.and_eq_true,decide_eq_true_eq] at h;omega
 have HH:=hide (And.intro hi (And.intro hz (And.intro hbd (And.intro hc hf))));have HX:=hide (And.intro hx (And.intro hfl (And.intro hfl2 hLb)));have HC:=hide (And.intro hcs hcb);have HD:=hide (And.intro hD0 hst);obtain⟨D,hDD⟩:∃D,D=gS zs cs D0:=⟨_,rfl⟩;rw[←hDD];have HDD:=hide hDD;clear hDD;obtain⟨n,hn⟩:∃n,n=cs.length:=⟨_,rfl⟩;have HN:=hide hn;rw[←hn];have hn5:¬((262144:Int)<(n:Int)):=by omega
 clear hi hz hbd hc hf hx hfl hfl2 hLb hLz hcs hcb hD0 hst hW1 hn hsz;go_enter Tryz.func5,Tryz.ntmps5;go_upto_region 1 with fail;rw[←HW1.out];go_upto_region 6 with(first
  |(refine wpList_load_row rfl 27 _ rfl w.heap.size rfl 27 rootZ (0,0) _ K1.out Tryz.underlying27 rfl infoRtS ?_)
  |(
   go_at_call 31
   refine HFa.out.mono ?_;rintro e W2 ⟨rfl,b2⟩;have K2:=hide (K1.out.below b2 K1.out.lt);have Z2:=hide (Z1.out.below b2 Z1.out.lt);have B2:=hide (B1.out.trans (b2.mono B1.out.size));clear b2)
  |fail)
 obtain⟨W3,hW3⟩:∃W3,W3=W2.alloc (.cells #[.slice ia L ic,.slice fa fl fc,.bool false,.int .i64 0,.slice none 0 0,.int .i64 0] 62):=⟨_,rfl⟩;have j3:Blk W3 W2.heap.size (jobD (.slice ia L ic) (.slice fa fl fc) 0 (.slice none 0 0) 0) 62:=by rw[hW3];exact Blk.new W2 _ _
 have b3:Below W2.heap.size W2 W3:=by rw[hW3];exact(Below.refl _ _).alloc (Nat.le_refl _) _
 have K3:=hide (K2.out.below b3 K2.out.lt);have Z3:=hide (Z2.out.below b3 Z2.out.lt);have B3:=hide (B2.out.trans (b3.mono B2.out.size));have S3:=hide (show w.heap.size+2≤W2.heap.size from Z2.out.lt);have HW3:=hide hW3;have J3:=hide (show JSt w W3 W2.heap.size (.slice ia L ic) (.slice fa fl fc) fs D0 from⟨0,.slice none 0 0,[],by rw[HD.out.1.sh];exact j3,by rw[HD.out.1.p];exact OwnN.nil W3 w.heap.size 57 1,Nat.zero_le _,by rw[HD.out.2];rfl,B2.out.size,B3.out⟩);clear b3 hW3 j3;have HWr:=hide (writeJ_any w W3 W2.heap.size ic L ia fa fl fc fs (.slice ca n cc) zs cs D0 J3.out HD.out.1 HD.out.2 HX.out.2.1 HH.out.2.2.2.2 HX.out.1 HX.out.2.2.1 HH.out.1 HH.out.2.1 HX.out.2.2.2.2.2 ⟨HX.out.2.2.2.1,HX.out.2.2.2.2.1⟩ HH.out.2.2.1 (by rw[HN.out];exact HH.out.2.2.2.1) HC.out.1 HC.out.2);rw[←HDD.out] at HWr;obtain⟨RC,hRC⟩:∃RC,RC=rootC D.Ln cs.length 14:=⟨_,rfl⟩;rw[←hRC] at HWr;have HRC:=hide hRC;have HRi:=hide (show(Tryz.prog.info? 27).map (·.size)=some RC.size from by rw[hRC,rootC_size];exact infoRtS);have HRo:=hide (show RC.all (·.oneCell')=true from by rw[hRC];exact i64_one _);have HRs:=hide (show rootZ.size=RC.size from by rw[hRC,rootC_size];rfl);clear hRC;go_upto_region 7 with fail;rw[show W2.alloc (.cells #[.slice ia L ic,.slice fa fl fc,.bool false,.int .i64 0,.slice none 0 0,.int .i64 0] 62)=W3 from HW3.out.symm];go_upto_region 8 with(first
  |(refine wpList_load_row rfl 27 _ rfl w.heap.size rfl 27 rootZ (0,0) _ K3.out Tryz.underlying27 rfl infoRtS ?_)
  |(
   go_at_call 32
   refine HWr.out.mono ?_;rintro e W4 ⟨rfl,j4,b4,y4⟩;obtain⟨u,pv,vs,hj4⟩:=j4;have J4:=hide hj4.box;have P4:=hide hj4.puts;have Z4:=hide (show Blk W4 (w.heap.size+1) rootZ 27 from y4.blk Z3.out (by unfold TyJ;decide));have B4:=hide hj4.low;clear hj4 b4 y4)
  |(
   refine wpList_store_newM w.heap.size w rfl 27 _ _ rfl W4.heap.size RC rfl rfl 27 rootZ (Blk.new W4 rootZ 27) HRi.out HRs.out HRo.out ?hB B4.out.size ?_
   case hB=>exact B4.out.alloc B4.out.size _
   intro W5 k5 b5 s5;have R5:=hide k5;have B5:=hide b5;have s5:=s5 W4 (Nat.le_refl _) (fun k hk=>Below.heap_alloc W4 _ k hk);have J5:=hide (s5.blk J4.out);have Z5:=hide (s5.blk Z4.out);have P5:=hide (s5.own P4.out);clear k5 b5 s5)
  |fail)
 have HZ5:=hide (show w.heap.size+2≤W2.heap.size∧W2.heap.size<W4.heap.size from⟨S3.out,J4.out.lt⟩);have c5:=(J5.out.cell 5).trans (show(jobD (.slice ia L ic) (.slice fa fl fc) u pv (shC D.sh))[5]?=some (.int .i64 (shC D.sh)) from rfl);cases hsh:D.sh with
 |false=>
  rw[hsh] at c5;have c5:W5.cell? ⟨W2.heap.size,5,none⟩=some (.int .i64 0):=c5;obtain⟨pa,pc,rfl⟩:=own_shape P4.out.row;rw[List.length_map] at P5;obtain⟨pn,hpn⟩:∃pn,pn=D.P.length:=⟨_,rfl⟩;have HPN:=hide hpn;obtain⟨JC,hJC⟩:∃JC,JC=jobD (.slice ia L ic) (.slice fa fl fc) u (.slice pa pn pc) (shC D.sh):=⟨_,rfl⟩;have JX:=hide (show Blk W5 W2.heap.size JC 62 from by rw[hJC,hpn];have h:=J5.out;rw[List.length_map] at h;exact h);have HJ4:=hide (show JC[4]?=some (.slice pa pn pc) from by rw[hJC];rfl);have PX:=hide (show OwnN W5 w.heap.size 57 1 (.slice pa pn pc) (D.P.map neR) vs from by rw[hpn];exact P5.out);clear J5 P5 P4 hpn hJC;go_upto_region 10 with fail;clear c5;refine sqrh (fun w'=>Blk w' W2.heap.size JC 62∧Blk w' W4.heap.size RC 27) ⟨(show Blk W5.drew _ _ _ from JX.out),(show Blk W5.drew _ _ _ from R5.out)⟩ (fun hH=>?_);refine sqtk 0 (.agg RC) rfl hH ?_ (yieldsIf_load_mid (by rfl) 27 _ rfl W4.heap.size 0 rfl RC.toList _ (fun w' h=>blk_rngS h.2) Tryz.underlying27 rfl (by rw[Array.length_toList];exact HRi.out));refine sqtk 1 (.pointer (some ⟨W2.heap.size,0,none⟩)) rfl hH ?_;refine sqtk 2 (.pointer (some ⟨W2.heap.size,0,none⟩)) rfl hH ?_;refine sqtk 3 (.pointer (some ⟨W2.heap.size,4,none⟩)) rfl hH ?_;refine sqtk 4 (.slice pa pn pc) rfl hH ?_ (sqyl (fun w' hw'=>by have c:=(Blk.cell hw'.1 4).trans HJ4.out;go_simp));refine sqry 5 rfl fun K hK=>?_;refine wp_store_row 27 _ _ rfl (w.heap.size+1) RC rfl rfl 27 rootZ (show Blk W5.drew _ _ _ from Z5.out) HRi.out HRs.out HRo.out ?_;have Z6:=hide (show Blk (W5.drew.setRow (w.heap.size+1) RC) (w.heap.size+1) RC 27 from Blk.row (w:=W5.drew) Z5.out RC);have B6:=hide (show Below w.heap.size w (W5.drew.setRow (w.heap.size+1) RC) from below_setRow B5.out.drew (Nat.le_succ _) RC);have P6:=hide (show OwnN (W5.drew.setRow (w.heap.size+1) RC) w.heap.size 57 1 (.slice pa pn pc) (D.P.map neR) vs from ownN_rowM (W:=W5.drew) (PX.out.below ((Below.refl _ _).drew)) (show Blk W5.drew _ _ _ from Z5.out) (by decide) (by decide));have J6:=hide (show Blk (W5.drew.setRow (w.heap.size+1) RC) W2.heap.size JC 62∧Blk (W5.drew.setRow (w.heap.size+1) RC) W4.heap.size RC 27 from⟨(setRow_other W5.drew _ _ RC (by have:=HZ5.out;omega)).trans JX.out,(setRow_other W5.drew _ _ RC (by have:=HZ5.out;omega)).trans R5.out⟩);generalize W5.drew.setRow (w.heap.size+1) RC=W6 at Z6 B6 P6 J6⊢;refine hK.out _ _ J6.out (fun hH=>?_);clear hK K;try simp only[Act.put,sqA,sqB,sqC,sqD,sqE,sqF]
  refine sqtk 6 (.slice pa pn pc) rfl hH ?_;refine sqtk 7 (.int .i64 0) rfl hH ?_;refine sqdn ?_;clear hH;go_wp2;refine bodyPost_ret (v:=.tuple #[.agg RC,.slice pa pn pc,.int .i64 0]) ?_ rfl ⟨.inl ⟨hsh,pa,pc,vs,?_,?_⟩,B6.out⟩
  ·exact results_rttR rfl _ _ (w.heap.size+1) 27 RC (0,0) _ _ _ rfl rfl rfl Z6.out Tryz.underlying27 rfl HRi.out
  ·rw[HRC.out,HN.out,HPN.out]
  ·rw[←HPN.out];exact P6.out
 |true=>
  rw[hsh] at c5;have c5:W5.cell? ⟨W2.heap.size,5,none⟩=some (.int .i64 9):=c5;obtain⟨JC,hJC⟩:∃JC,JC=jobD (.slice ia L ic) (.slice fa fl fc) u pv (shC D.sh):=⟨_,rfl⟩;rw[←hJC] at J5;have HJ5:=hide (show JC[5]?=some (.int .i64 9) from by rw[hJC,hsh];rfl);clear hJC;go_upto_region 9 with fail;clear c5;refine sqrh (fun w'=>Blk w' W2.heap.size JC 62) (show Blk W5.drew _ _ _ from J5.out) (fun hH=>?_);refine sqtk 0 (.agg rootZ) rfl hH ?_;refine sqtk 1 (.pointer (some ⟨W2.heap.size,0,none⟩)) rfl hH ?_;refine sqtk 2 (.pointer (some ⟨W2.heap.size,0,none⟩)) rfl hH ?_;refine sqtk 3 (.pointer (some ⟨W2.heap.size,5,none⟩)) rfl hH ?_;refine sqtk 4 (.int .i64 9) rfl hH ?_ (sqyl (fun w' hw'=>by have c:=(Blk.cell hw' 5).trans HJ5.out;go_simp));refine sqry 5 rfl fun K hK=>?_;refine wp_store_row 27 _ _ rfl (w.heap.size+1) rootZ rfl rfl 27 rootZ (show Blk W5.drew _ _ _ from Z5.out) infoRtS rfl (by simp[Value.oneCell']) ?_;have Z6:=hide (show Blk (W5.drew.setRow (w.heap.size+1) rootZ) (w.heap.size+1) rootZ 27 from Blk.row (w:=W5.drew) Z5.out rootZ);have B6:=hide (show Below w.heap.size w (W5.drew.setRow (w.heap.size+1) rootZ) from below_setRow B5.out.drew (Nat.le_succ _) rootZ);have J6:=hide (show Blk (W5.drew.setRow (w.heap.size+1) rootZ) W2.heap.size JC 62 from(setRow_other W5.drew _ _ rootZ (by have:=HZ5.out;omega)).trans J5.out);generalize W5.drew.setRow (w.heap.size+1) rootZ=W6 at Z6 B6 J6⊢;refine hK.out _ _ J6.out (fun hH=>?_);clear hK K;try simp only[Act.put,sqA,sqB,sqC,sqD,sqE,sqF]
  refine sqtk 6 (.slice none 0 0) rfl hH ?_;refine sqtk 7 (.int .i64 9) rfl hH ?_;refine sqdn ?_;clear hH;go_wp2;refine bodyPost_ret (v:=.tuple #[.agg rootZ,.slice none 0 0,.int .i64 9]) ?_ rfl ⟨.inr ⟨hsh,rfl⟩,B6.out⟩;exact results_rttR rfl _ _ (w.heap.size+1) 27 rootZ (0,0) _ _ _ rfl rfl rfl Z6.out Tryz.underlying27 rfl infoRtS
end
end Go.Proofs.YtbhpealglhkodaaGreatDoor
