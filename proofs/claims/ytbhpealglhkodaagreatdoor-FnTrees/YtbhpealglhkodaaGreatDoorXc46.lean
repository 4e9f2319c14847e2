/- The model's writing of a tree: any content, nothing there before. -/
import Derived.Test.YtbhpealglhkodaaGreatDoorXc45
namespace Go.Proofs.YtbhpealglhkodaaGreatDoor
set_option linter.all false
set_option maxRecDepth 100000
set_option maxHeartbeats 16000000
section
open Go.RowKit
theorem blk_rngS{w:World}{b:Nat}{C:Array Value}{t:TypeId}(h:Blk w b C t):w.rangeAt b 0 C.toList:=by
 intro j v hv;rw[h.cell (0+j),Nat.zero_add];simpa using hv
theorem infoRtS:(Tryz.prog.info? 27).map (·.size)=some 15:=by kernel_rfl
theorem infoTrS:(Tryz.prog.info? 93).map (·.size)=some 8:=by kernel_rfl
theorem infoIS:(Tryz.prog.info? 3).map (fun i=>(i.zero,i.size,i.bytes))=some (some (.int .i64 0),1,8):=by kernel_rfl
theorem apart_zeroS(n:Nat)(W:Int→Nat→Int)(D:Nat→Int)(h:∀i,D i=0):apartP 0 n W D 0 0:=by
 refine⟨fun i hi=>by rw[h];rfl,rfl,rfl,fun k hk h=>by omega,fun i hi=>by omega⟩
structure WSt(W0 w wr:World)(b tb gb:Nat)(iv fv:Value)(fs:List Int)(TT:Array Value)(fl:Value)(fn:Nat)(full:List Int)(D:RD):Prop where
 job:JSt W0 wr b iv fv fs D
 tre:Blk wr tb TT 93
 res:Blk wr (w.heap.size+1) rootZ 27
 ful:wr.ownsRow gb 5 1 fl fn (full.map (Value.int .u8))
 low:Below W0.heap.size w wr
 kp:KpY TyJ w wr
section
variable {W0 w wr wx:World} {b tb gb:Nat} {iv fv:Value} {fs:List Int} {TT:Array Value} {fl:Value} {fn:Nat} {full:List Int} {D D':RD}
theorem WSt.below(h:WSt W0 w wr b tb gb iv fv fs TT fl fn full D)(hb:Below wr.heap.size wr wx)(hs:W0.heap.size≤w.heap.size):WSt W0 w wx b tb gb iv fv fs TT fl fn full D:=
 ⟨h.job.below hb,h.tre.below hb h.tre.lt,h.res.below hb h.res.lt,own_below h.ful hb,h.low.trans (hb.mono (Nat.le_trans hs h.low.size)),h.kp.below hb⟩
theorem WSt.kpj(h:WSt W0 w wr b tb gb iv fv fs TT fl fn full D)(hy:KpY TyJ wr wx)(hb:Below W0.heap.size wr wx)(hj:JSt W0 wx b iv fv fs D'):WSt W0 w wx b tb gb iv fv fs TT fl fn full D':=
 ⟨hj,hy.blk h.tre (by unfold TyJ;decide),hy.blk h.res (by unfold TyJ;decide),hy.own h.ful (by unfold TyJ;decide),h.low.trans hb,h.kp.trans hy⟩
theorem WSt.kpi(h:WSt W0 w wr b tb gb iv fv fs TT fl fn full D)(hy:KpY (fun t=>t=3) wr wx)(hbw:Below w.heap.size wr wx)(hs:W0.heap.size≤w.heap.size):WSt W0 w wx b tb gb iv fv fs TT fl fn full D:=by
 have hb:Below W0.heap.size wr wx:=hbw.mono hs;refine⟨?_,hy.blk h.tre (by decide),hy.blk h.res (by decide),hy.own h.ful (by decide),h.low.trans hb,fun k hk hT=>(hbw.block k hk).trans (h.kp k hk hT)⟩;obtain⟨u,pv,vs,hj⟩:=h.job;exact⟨u,pv,vs,hy.blk hj.box (by decide),hy.ownN hj.puts (by decide) (by decide),hj.le,hj.st,hj.lo,hj.low.trans hb⟩
theorem WSt.same(h:WSt W0 w wr b tb gb iv fv fs TT fl fn full D)(hj:JSt W0 wr b iv fv fs D'):WSt W0 w wr b tb gb iv fv fs TT fl fn full D':=⟨hj,h.tre,h.res,h.ful,h.low,h.kp⟩
theorem WSt.setRoot(h:WSt W0 w wr b tb gb iv fv fs TT fl fn full D){g j:Nat}{C:Array Value}(hb:Blk wr g C 27)(hg:g≠w.heap.size+1)(hw:w.heap.size≤g)(hs:W0.heap.size≤w.heap.size)(v:Value):WSt W0 w (wr.setCell ⟨g,j,none⟩ v) b tb gb iv fv fs TT fl fn full D:=by
 have hy:KpY (fun t=>t=27) wr (wr.setCell ⟨g,j,none⟩ v):=(KpY.refl _ _).setCell hb rfl;refine⟨?_,hy.blk h.tre (by decide),h.res.other _ _ (fun e=>hg e.symm),hy.own h.ful (by decide),h.low.setCell (p:=⟨g,j,none⟩) (Nat.le_trans hs hw) v,fun k hk hT=>(Below.heap_setCell wr ⟨g,j,none⟩ v k (show k≠g by omega)).trans (h.kp k hk hT)⟩;obtain⟨u,pv,vs,hj⟩:=h.job;exact⟨u,pv,vs,hy.blk hj.box (by decide),hy.ownN hj.puts (by decide) (by decide),hj.le,hj.st,hj.lo,hj.low.setCell (p:=⟨g,j,none⟩) (Nat.le_trans hs hw) v⟩
end
theorem cutS_any(v:Value)(L:List Int)(lo hi:Nat)(LO HI:Int)(hLO:LO=(lo:Int))(hHI:HI=(hi:Int))(w:World)(h:Rd .i64 w v L)(hlh:lo≤hi)(hhi:hi≤1048576)(hl:L.length≤1048576):
 Calls Tryz.prog 46 #[v,.int .i64 LO,.int .i64 HI] w fun e w'=>∃a n c,e=.returned (.slice a n c)∧Rd .i64 w (.slice a n c) (cutM L lo hi)∧w'=w:=by
 subst hLO hHI;exact cut_any v L lo hi w h hlh hhi hl
theorem own_neS{w:World}{base g j n:Nat}{e:TypeId}{v u:Value}{xs:List Value}(h:w.ownsRow base e 1 v n xs)(hne:v.ownBlock≠some g):(w.setCell ⟨g,j,none⟩ u).ownsRow base e 1 v n xs:=
 h.kept (row:=some g) ⟨rfl,rfl,rfl,by simp,fun k hk hr=>Below.heap_setCell w ⟨g,j,none⟩ u k (fun e=>hr (by rw[e]))⟩ (.inr hne)
theorem kpi_of{w w':World}{base n:Nat}{v:Value}{xs:List Value}(ho:w.ownsRow base 3 1 v n xs)(hg:w.grownBy w' v.ownBlock):KpY (fun t=>t=3) w w':=(KpY.refl _ _).ownrow ho rfl hg
theorem own_setCS{w:World}{base:Nat}{e:TypeId}{size:Nat}{v:Value}{n:Nat}{xs:List Value}(h:w.ownsRow base e size v n xs){g:Nat}(hg:v.ownBlock=some g)(o:Nat)(u:Value):(w.setCell ⟨g,o,none⟩ u).ownsRow base e size v n (xs.set o u):=by
 rcases h.2 with⟨rfl,_⟩|⟨g',cap,cur,rfl,hb,hc,hn,hm,hs,ht⟩
 ·cases hg
 ·obtain rfl:g'=g:=by simpa [Value.ownBlock] using hg
  refine⟨by simpa using h.1,.inr ⟨g',cap,cur.setIfInBounds o u,rfl,hb,heap_setCell_same w g' o cur e u hc,hn,hm,by simpa using hs,?_⟩⟩;rw[Array.toList_setIfInBounds,List.take_set,ht]
theorem own_intS{w:World}{base g n cap k:Nat}{xs:List Int}(h:w.ownsRow base 3 1 (.slice (some ⟨g,0,none⟩) n cap) n (xs.map (Value.int .i64)))(p:Int):(w.setCell ⟨g,k,none⟩ (.int .i64 p)).ownsRow base 3 1 (.slice (some ⟨g,0,none⟩) n cap) n ((xs.set k p).map (Value.int .i64)):=by
 have:=own_setCS h rfl k (.int .i64 p);rw[List.map_set];exact this
theorem numAt_lo(N:Nat→List Int){k:Nat}(h:k<12):numAt N k=(N 0).getD k 0:=by unfold numAt topL topR;rw[if_pos h,if_pos h]
theorem rd_partS{w:World}{g n c:Nat}{zs:List Int}(h:Rd .u8 w (.slice (some ⟨g,0,none⟩) n c) zs)(lo m:Nat)(hm:0<m)(hl:lo+m≤zs.length):Rd .u8 w (.slice (some ⟨g,lo,none⟩) m (c-lo)) ((zs.drop lo).take m):=by
 obtain⟨bd,off,cp,e,hbw,hcl,hcm,hcell⟩:=h.partsC (by omega);injection e with e1 e2 e3;injection e1 with e1;injection e1 with e4 e5;subst e4 e5 e3;have hlen:((zs.drop lo).take m).length=m:=by rw[List.length_take,List.length_drop];omega
 refine⟨_,_,by rw[hlen],by omega,fun _=>⟨g,lo,rfl,hbw,fun i hi=>?_⟩,by omega,by omega⟩;rw[hlen] at hi;have h2:=hcell (lo+i) (by omega);rw[Nat.zero_add] at h2;rw[h2];simp only[List.getD];rw[List.getElem?_take,if_pos hi,List.getElem?_drop]
theorem slice_pieceS(g n c k:Nat)(LO HI:Int)(hlo:LO=(k:Int)*512)(hhi:HI=((k:Int)+1)*512)(h1:k*512+512≤n)(h2:n≤c)(h3:c≤maxLen)(wx:World):(Instr.slice 22 (.slice (some ⟨g,0,none⟩) n c) (some (.int .i64 LO)) (some (.int .i64 HI)) none).run Tryz.prog wx=.ok (.slice (some ⟨g,k*512,none⟩) 512 (c-k*512)) wx:=by
 obtain⟨i0,hi0,hz0,hz1,hz2⟩:=info_parts infoU8P;obtain⟨lo,hl⟩:∃lo,lo=k*512:=⟨_,rfl⟩;rw[←hl];have e1:LO=(lo:Int):=by omega
 have e2:HI=((lo+512:Nat):Int):=by omega
 rw[e1,e2,run_slice_lh (P:=Tryz.prog) (w:=wx) 22 _ n c (by rw[Tryz.underlying22];rfl) .i64 .i64 (lo:Int) ((lo+512:Nat):Int) (by omega) (by omega) (by omega)];have hne:¬c=lo:=by omega
 simp[sizeOf,typeInfo,show Tryz.prog.elem 22=5 from by kernel_rfl,hi0,hz1,Result.andThen,sliced,Addr.add_mid,hne];omega
def lenS:Value→Nat
 |.slice _ l _=>l
 |_=>0
theorem writeJ_any(W0 w:World)(b ic L:Nat)(ia fa:Option Addr)(fl fc:Nat)(fs:List Int)(cv:Value)(zs cs:List Int)(D0:RD)
 (hj:JSt W0 w b (.slice ia L ic) (.slice fa fl fc) fs D0) (hD0:BegO D0 (fun _=>[])) (hst:D0.st=some fs) (hfl:fl=fs.length) (hf:Rd .i64 W0 (.slice fa fl fc) fs) (hx:∀x∈fs,2≤x∧x<((L/512:Nat):Int)) (hfl2:fs.length≤100000)
 (hi:Rd .u8 W0 (.slice ia L ic) zs) (hz:zs.length≤1048576) (hL:L≤1048576) (hL2:0<L/512∧L/512≤2048) (hbd:∀z∈zs,0≤z∧z<256) (hc:Rd .u8 W0 cv cs) (hcs:cs.length≤262144) (hcb:∀z∈cs,0≤z∧z<256):
 Calls Tryz.prog 32 #[.pointer (some ⟨b,0,none⟩),.agg rootZ,cv] w fun e w'=>e=.returned (.agg (rootC (gS zs cs D0).Ln cs.length 14))∧JSt W0 w' b (.slice ia L ic) (.slice fa fl fc) fs (gS zs cs D0)∧Below W0.heap.size w w'∧KpY TyJ w w':=by
 obtain⟨i0,hi0,hz0,hz1,hz2⟩:=info_parts infoIS;have HI0:=hide (And.intro hi0 (And.intro hz0 (And.intro hz1 hz2)));obtain⟨ca,cc,rfl⟩:=rd_shapeT hc;have HJS:=hide hj;obtain⟨u,pv,vs,hA⟩:=hj;obtain⟨JC,hJC⟩:∃JC,JC=jobD (.slice ia L ic) (.slice fa fl fc) u pv (shC D0.sh):=⟨_,rfl⟩;have hb:Blk w b JC 62:=by rw[hJC];exact hA.box
 have HJC0:=hide (show JC[0]?=some (.slice ia L ic) from by rw[hJC];rfl);have HW0:=hide hA.low;clear hJC hA;obtain⟨W1,hW1⟩:∃W1,W1=(w.alloc (.cells rootZ 27)).alloc (.cells rootZ 27):=⟨_,rfl⟩;have HW1:=hide hW1;have K1:=hide (show Blk W1 w.heap.size rootZ 27 from by rw[hW1];exact(Blk.new _ _ _).alloc _);have Z1:=hide (show Blk W1 (w.heap.size+1) rootZ 27 from by rw[hW1];have h:=Blk.new (w.alloc (.cells rootZ 27)) rootZ 27;rw[World.size_alloc] at h;exact h);have B1:=hide (show Below w.heap.size w W1 from by rw[hW1];exact((Below.refl _ _).alloc (Nat.le_refl _) _).alloc (by simp) _);have S1:=hide (show W1.heap.size=w.heap.size+2 from by rw[hW1];simp);have HJ:=hide hb;have HH:=hide (And.intro (hi.below HW0.out) (And.intro hz (And.intro hbd (hc.below HW0.out))));have HF:=hide (And.intro hfl (And.intro hf (And.intro hx (And.intro hL (And.intro hfl2 hL2)))));have HC:=hide (And.intro hcs hcb);have HD:=hide (And.intro hD0 hst);have hsW:W0.heap.size≤w.heap.size:=HW0.out.size;have HAp:=hide (fun(w:World) (h:Rd .u8 w (.slice ia L ic) zs)=>apart_any (.slice ia L ic) zs 0 (List.replicate 12 0) 0 0 w 0 h hz hbd rfl (by omega) rfl);obtain⟨n,hn⟩:∃n,n=cs.length:=⟨_,rfl⟩;have HN:=hide hn;rw[←hn];have hn5:n≤262144:=by omega
 clear hb hi hz hbd hc hf hx hfl hfl2 hL hL2 hcs hcb hD0 hst hW1 hi0 hz0 hz1 hz2 hn;go_enter Tryz.func32,Tryz.ntmps32;go_upto_region 1 with fail;rw[←HW1.out];go_cut [7] from 22 to 27 (fun v7 wx=>∃tb da dc iv ov sa sc wv,v7=.pointer (some ⟨tb,0,none⟩)∧Blk wx tb (treeC (.slice da 0 dc) 0 0 iv ov (.slice sa 0 sc) wv true) 93∧W1.heap.size≤tb∧Below W1.heap.size W1 wx)
 case first Jc Kc hJc hKc=>
  refine wp_region_noPanic ?_;refine wp_region_held_drew (S:=fun w'=>Blk w' b JC 62∧Blk w' w.heap.size rootZ 27) (by kernel_rfl) ⟨HJ.out.below B1.out.drew HJ.out.lt,(show Blk W1.drew _ _ _ from K1.out)⟩ (fun hH=>?_);refine wpAnyH_take (i:=0) (oi:=_) (v:=.pointer (some ⟨b,0,none⟩)) rfl (by kernel_rfl) (by kernel_rfl) (by kernel_rfl) (fun _ _ _ h=>h) (Or.inl ⟨by rfl,fun w' hw'=>by go_simp⟩) hH ?_;try simp only[Act.put,List.getElem_toArray,List.getElem_cons_zero,List.getElem_cons_succ,List.setIfInBounds_toArray,List.set_cons_zero,List.set_cons_succ]
  refine wpAnyH_take (i:=1) (oi:=_) (v:=.pointer (some ⟨b,0,none⟩)) rfl (by kernel_rfl) (by kernel_rfl) (by kernel_rfl) (fun _ _ _ h=>h) (Or.inl ⟨by rfl,fun w' hw'=>by go_simp⟩) hH ?_;try simp only[Act.put,List.getElem_toArray,List.getElem_cons_zero,List.getElem_cons_succ,List.setIfInBounds_toArray,List.set_cons_zero,List.set_cons_succ]
  refine wpAnyH_take (i:=2) (oi:=_) (v:=.pointer (some ⟨b,0,none⟩)) rfl (by kernel_rfl) (by kernel_rfl) (by kernel_rfl) (fun _ _ _ h=>h) (Or.inl ⟨by rfl,fun w' hw'=>by go_simp⟩) hH ?_;try simp only[Act.put,List.getElem_toArray,List.getElem_cons_zero,List.getElem_cons_succ,List.setIfInBounds_toArray,List.set_cons_zero,List.set_cons_succ]
  refine wpAnyH_take (i:=3) (oi:=_) (v:=.slice ia L ic) rfl (by kernel_rfl) (by kernel_rfl) (by kernel_rfl) (fun _ _ _ h=>h) (Or.inl ⟨by rfl,fun w' hw'=>by have c:=(Blk.cell hw'.1 0).trans HJC0.out;go_simp⟩) hH ?_;try simp only[Act.put,List.getElem_toArray,List.getElem_cons_zero,List.getElem_cons_succ,List.setIfInBounds_toArray,List.set_cons_zero,List.set_cons_succ]
  refine wpAnyH_take (i:=4) (oi:=_) (v:=.agg rootZ) rfl (by kernel_rfl) (by kernel_rfl) (by kernel_rfl) (fun _ _ _ h=>h) (yieldsIf_load_mid (by rfl) 27 _ rfl w.heap.size 0 rfl (rootZ:Array Value).toList _ (fun w' h=>blk_rngS h.2) Tryz.underlying27 rfl infoRtS) hH ?_;try simp only[Act.put,List.getElem_toArray,List.getElem_cons_zero,List.getElem_cons_succ,List.setIfInBounds_toArray,List.set_cons_zero,List.set_cons_succ]
  have D1:=hide (show Below W1.heap.size W1 W1.drew from(Below.refl _ _).drew);refine wpAnyH_ready (rs:=[5,6]) (by kernel_rfl) (by simp) ?_;refine AllReadyH.cons (o:=_) rfl (fun K hK=>?_) (AllReadyH.cons (o:=_) rfl (fun K hK=>?_) (AllReadyH.nil))
  ·go_simp;refine(HAp.out _ (HH.out.1.below (B1.out.trans (D1.out.mono B1.out.size)))).mono ?_;rintro e wa ⟨(⟨hap,dv,iv,ov,sv,wv,rfl,hone,o3,o4,_⟩|⟨hnap,rfl⟩),b3⟩
   case inr=>exact absurd (apart_zeroS _ _ _ (fun i=>rep_get 12 i)) hnap
   obtain⟨da,dc,rfl⟩:=own_shapeT o3;obtain⟨sa,sc,rfl⟩:=own_shapeT o4;have A1:=hide (show Below W1.heap.size W1 wa from D1.out.trans (b3.mono D1.out.size));have HOne:=hide hone;clear hap o3 o4 hone b3;refine hK.out _ _ ⟨HJ.out.below (B1.out.trans (A1.out.mono B1.out.size)) HJ.out.lt,K1.out.below A1.out K1.out.lt⟩ (fun hH=>?_);clear hK K;try simp only[Act.put,List.getElem_toArray,List.getElem_cons_zero,List.getElem_cons_succ,List.setIfInBounds_toArray,List.set_cons_zero,List.set_cons_succ]
   refine wpAnyH_ready (rs:=[6]) (by kernel_rfl) (by simp) ?_;refine AllReadyH.cons (o:=_) rfl (fun K hK=>?_) AllReadyH.nil;go_simp;obtain⟨wb,hwb⟩:∃wb,wb=wa.alloc (.cells #[.slice none 0 0,.int .i64 0,.int .i64 0,.slice none 0 0,.slice none 0 0,.slice none 0 0,.slice none 0 0,.bool false] 93):=⟨_,rfl⟩;have KB:=hide (show Blk wb wa.heap.size #[.slice none 0 0,.int .i64 0,.int .i64 0,.slice none 0 0,.slice none 0 0,.slice none 0 0,.slice none 0 0,.bool false] 93 from by rw[hwb];exact Blk.new _ _ _);have A2:=hide (show Below W1.heap.size W1 wb from by rw[hwb];exact A1.out.alloc A1.out.size _);rw[←hwb];refine hK.out _ _ ⟨HJ.out.below (B1.out.trans (A2.out.mono B1.out.size)) HJ.out.lt,K1.out.below A2.out K1.out.lt⟩ (fun hH=>?_);clear hK K hwb;try simp only[Act.put,List.getElem_toArray,List.getElem_cons_zero,List.getElem_cons_succ,List.setIfInBounds_toArray,List.set_cons_zero,List.set_cons_succ]
   refine wpAnyH_ready (rs:=[7]) (by kernel_rfl) (by simp) ?_;refine AllReadyH.cons (o:=_) rfl (fun K hK=>?_) AllReadyH.nil;refine wp_store_row 93 _ _ rfl wa.heap.size (treeC (.slice da 0 dc) 0 0 iv ov (.slice sa 0 sc) wv true) rfl rfl 93 #[.slice none 0 0,.int .i64 0,.int .i64 0,.slice none 0 0,.slice none 0 0,.slice none 0 0,.slice none 0 0,.bool false] KB.out infoTrS rfl HOne.out ?_;have KS:=hide (Blk.row KB.out (treeC (.slice da 0 dc) 0 0 iv ov (.slice sa 0 sc) wv true));have BS:=hide (below_setRow A2.out (A1.out.size) (treeC (.slice da 0 dc) 0 0 iv ov (.slice sa 0 sc) wv true));have TLO:=hide (A1.out.size);refine hK.out _ _ ⟨HJ.out.below (B1.out.trans (BS.out.mono B1.out.size)) HJ.out.lt,K1.out.below BS.out K1.out.lt⟩ (fun hH=>?_);clear hK K;try simp only[Act.put,List.getElem_toArray,List.getElem_cons_zero,List.getElem_cons_succ,List.setIfInBounds_toArray,List.set_cons_zero,List.set_cons_succ]
   refine wpAnyH_done (by kernel_rfl) (NoPanic.normal ?_) _;refine hKc _ _ (Met.intro (hJc _ _ ?_));(repeat apply Exists.intro)
   exact⟨⟨_,da,dc,iv,ov,sa,sc,wv,rfl,KS.out,TLO.out,BS.out⟩,rfl⟩
  ·go_simp;obtain⟨wb,hwb⟩:∃wb,wb=(W1.alloc (.cells #[.slice none 0 0,.int .i64 0,.int .i64 0,.slice none 0 0,.slice none 0 0,.slice none 0 0,.slice none 0 0,.bool false] 93)).drew:=⟨_,rfl⟩;have KB:=hide (show Blk wb W1.heap.size #[.slice none 0 0,.int .i64 0,.int .i64 0,.slice none 0 0,.slice none 0 0,.slice none 0 0,.slice none 0 0,.bool false] 93 from by rw[hwb];exact(show Blk (W1.alloc _).drew _ _ _ from Blk.new W1 _ _));have D2:=hide (show Below W1.heap.size W1 wb from by rw[hwb];exact((Below.refl _ _).alloc (Nat.le_refl _) _).drew);rw[←hwb];refine hK.out _ _ ⟨HJ.out.below (B1.out.trans (D2.out.mono B1.out.size)) HJ.out.lt,K1.out.below D2.out K1.out.lt⟩ (fun hH=>?_);clear hK K hwb;try simp only[Act.put,List.getElem_toArray,List.getElem_cons_zero,List.getElem_cons_succ,List.setIfInBounds_toArray,List.set_cons_zero,List.set_cons_succ]
   refine wpAnyH_ready (rs:=[5]) (by kernel_rfl) (by simp) ?_;refine AllReadyH.cons (o:=_) rfl (fun K hK=>?_) AllReadyH.nil;go_simp;refine(HAp.out _ (HH.out.1.below (B1.out.trans (D2.out.mono B1.out.size)))).mono ?_;rintro e wa ⟨(⟨hap,dv,iv,ov,sv,wv,rfl,hone,o3,o4,_⟩|⟨hnap,rfl⟩),b3⟩
   case inr=>exact absurd (apart_zeroS _ _ _ (fun i=>rep_get 12 i)) hnap
   obtain⟨da,dc,rfl⟩:=own_shapeT o3;obtain⟨sa,sc,rfl⟩:=own_shapeT o4;have A1:=hide (show Below W1.heap.size W1 wa from D2.out.trans (b3.mono D2.out.size));have HOne:=hide hone;have KC:=hide (KB.out.below b3 KB.out.lt);clear hap o3 o4 hone b3;refine hK.out _ _ ⟨HJ.out.below (B1.out.trans (A1.out.mono B1.out.size)) HJ.out.lt,K1.out.below A1.out K1.out.lt⟩ (fun hH=>?_);clear hK K;try simp only[Act.put,List.getElem_toArray,List.getElem_cons_zero,List.getElem_cons_succ,List.setIfInBounds_toArray,List.set_cons_zero,List.set_cons_succ]
   refine wpAnyH_ready (rs:=[7]) (by kernel_rfl) (by simp) ?_;refine AllReadyH.cons (o:=_) rfl (fun K hK=>?_) AllReadyH.nil;refine wp_store_row 93 _ _ rfl W1.heap.size (treeC (.slice da 0 dc) 0 0 iv ov (.slice sa 0 sc) wv true) rfl rfl 93 #[.slice none 0 0,.int .i64 0,.int .i64 0,.slice none 0 0,.slice none 0 0,.slice none 0 0,.slice none 0 0,.bool false] KC.out infoTrS rfl HOne.out ?_;have KS:=hide (Blk.row KC.out (treeC (.slice da 0 dc) 0 0 iv ov (.slice sa 0 sc) wv true));have BS:=hide (below_setRow A1.out ((Nat.le_refl W1.heap.size)) (treeC (.slice da 0 dc) 0 0 iv ov (.slice sa 0 sc) wv true));have TLO:=hide ((Nat.le_refl W1.heap.size));refine hK.out _ _ ⟨HJ.out.below (B1.out.trans (BS.out.mono B1.out.size)) HJ.out.lt,K1.out.below BS.out K1.out.lt⟩ (fun hH=>?_);clear hK K;try simp only[Act.put,List.getElem_toArray,List.getElem_cons_zero,List.getElem_cons_succ,List.setIfInBounds_toArray,List.set_cons_zero,List.set_cons_succ]
   refine wpAnyH_done (by kernel_rfl) (NoPanic.normal ?_) _;refine hKc _ _ (Met.intro (hJc _ _ ?_));(repeat apply Exists.intro)
   exact⟨⟨_,da,dc,iv,ov,sa,sc,wv,rfl,KS.out,TLO.out,BS.out⟩,rfl⟩
 case rest=>
 obtain⟨tb,da,dc,iv,ov,sa,sc,wv,rfl,kT,htb,b2⟩:=hcut;rename World=>W2
 have B2:=hide (B1.out.trans (b2.mono B1.out.size));have J2:=hide (HJS.out.below B2.out);have Z2:=hide (Z1.out.below b2 Z1.out.lt);have KT2:=hide kT;clear kT b2 htb;have c7:=(KT2.out.cell 7).trans (show(treeC (.slice da 0 dc) 0 0 iv ov (.slice sa 0 sc) wv true)[7]?=some (.bool true) from rfl);obtain⟨cnt,hcnt⟩:∃cnt,cnt=cntT cs:=⟨_,rfl⟩;have HCnt:=hide hcnt;have HCo:=hide (show Calls Tryz.prog 57 #[.int .i64 (n:Int)] W2 fun e w'=>e=.returned (.int .i64 (cnt:Int))∧W2=w' from by
  have h:=count3_any n W2 (by omega);have e:(n+511)/512=cnt:=by rw[hcnt,HN.out];rfl
  rw[e] at h;exact h.mono fun e w' hh=>⟨hh.1,hh.2.symm⟩)
 have hc5:cnt≤512:=by rw[hcnt];unfold cntT;rw[←HN.out];omega
 have hcn:n≤cnt*512:=by rw[hcnt];unfold cntT;rw[←HN.out];omega
 obtain⟨fn,hfn⟩:∃fn,fn=cnt*512:=⟨_,rfl⟩;have HFn:=hide hfn;have HFi:=hide (fillJ_any (.slice ca n cc) cs fn ((cnt:Int)*512) (by omega) W2 (by have h:=HH.out.2.2.2.below B2.out;rw[←HN.out] at h;exact h) (by rw[←HN.out];omega) (by omega));clear hcnt hfn;go_upto_region 7 with(first
  |(go_at_call 57;refine HCo.out.mono ?_;rintro e wx ⟨rfl,hwx⟩;subst hwx)
  |(go_at_call 44;refine HFi.out.mono ?_;rintro e W3 ⟨ga,gc,rfl,o3,b3⟩;have O3:=hide o3;have S3:=hide (show WSt W0 w W3 b tb W2.heap.size (.slice ia L ic) (.slice fa fl fc) fs (treeC (.slice da 0 dc) 0 0 iv ov (.slice sa 0 sc) wv true) (.slice ga fn gc) fn (cs++List.replicate (fn-cs.length) 0) D0 from⟨J2.out.below b3,KT2.out.below b3 KT2.out.lt,Z2.out.below b3 Z2.out.lt,o3,(B2.out.mono hsW).trans (b3.mono (Nat.le_trans hsW B2.out.size)),(KpY.refl TyJ w).below (B2.out.trans (b3.mono B2.out.size))⟩);clear o3 b3)
  |fail)
 obtain⟨TT,hTT⟩:∃TT,TT=treeC (.slice da 0 dc) 0 0 iv ov (.slice sa 0 sc) wv true:=⟨_,rfl⟩;have HTT:=hide hTT;rw[←hTT] at S3;obtain⟨full,hfull⟩:∃full,full=cs++List.replicate (fn-cs.length) 0:=⟨_,rfl⟩;rw[←hfull] at S3;have HPd:=hide (show ∀k,k<cnt→(full.drop (k*512)).take 512=padB cs k from fun k hk=>by rw[hfull,HFn.out,HCnt.out];exact fill_pad (by rw[←HCnt.out];exact hk));have HFl:=hide (show full.length=fn from by have:=HFn.out;rw[hfull,List.length_append,List.length_replicate, ←HN.out];omega);clear hTT hfull c7 O3;go_upto_region 8 with(first
  |(
   refine wpList_make_full _ rfl _ _ 26 rfl w.heap.size 3 i0 (.int .i64 0) 1 Tryz.underlying26 HI0.out.1 HI0.out.2.1 HI0.out.2.2.1 .i64 .i64 12 12 12 rfl rfl rfl rfl (by rw[HI0.out.2.2.2];omega) (by unfold maxLen;omega) S3.out.low.size ?_;intro W4 o4 g4;have hm:(madeCells (Value.int .i64 0).cells (12*1)).toList=(List.replicate 12 (0:Int)).map (Value.int .i64):=(by rw[made_one (.int .i64 0) 12 rfl,List.map_replicate]);rw[hm, ←dataL_zero (zs:=zs) (cs:=cs) HD.out.1] at o4;have b4:Below W3.heap.size W3 W4:=(Below.refl _ _).grown g4 (Nat.le_refl _) (fun r e=>by cases e);have S4:=hide (S3.out.below b4 hsW);have D4:=hide o4;clear o4 g4 b4 hm)
  |fail)
 have S4':=hide (show WSt W0 w W4 b tb W2.heap.size (.slice ia L ic) (.slice fa fl fc) fs TT (.slice ga fn gc) fn full (eS zs cs D0 0) from S4.out);clear S4;go_wp2;go_loopw [10,11] (fun v10 i wr=>∃k m:Nat,∃a:Option Addr,∃c:Nat,k≤cnt∧m=max 12 k∧i=.int .i64 (k:Int)∧v10=.slice a m c∧wr.ownsRow w.heap.size 3 1 (.slice a m c) m ((dataL (eS zs cs D0 k).Ln k).map (Value.int .i64))∧WSt W0 w wr b tb W2.heap.size (.slice ia L ic) (.slice fa fl fc) fs TT (.slice ga fn gc) fn full (eS zs cs D0 k)) (fun _ i _=>cnt-(intOf i).toNat)
 case atStart=>exact⟨0,12,_,_,by omega,by omega,rfl,rfl,D4.out,S4'.out⟩
 case round=>
  clear D4 S4';obtain⟨k,m,a,c,hk,hm,rfl,rfl,hd,hs⟩:=hrel;have HDa:=hide hd;have HS:=hide hs;have HM:=hide hm;clear hd hs hm;by_cases hkc:k<cnt
  ·have hkI:(k:Int)<(cnt:Int):=(by omega);rcases HS.out.ful.2 with⟨e,hz0⟩|⟨gf,cap,cur,e,hgf,q1,q2,q3,q4,q5⟩
   ·have:=HFn.out;omega
   injection e with e1 e2 e3;subst e1;subst e3;clear e2;have HPk:=hide (show Rd .u8 wr (.slice (some ⟨gf,k*512,none⟩) 512 (gc-k*512)) (padB cs k) from by
    have h:=rd_partS (Rd.own HS.out.ful) (k*512) 512 (by omega) (by have:=HFl.out;have:=HFn.out;omega);rw[HPd.out k hkc] at h;exact h)
   have hsl:=slice_pieceS gf fn gc k ((k:Int)*512) (((k:Int)+1)*512) rfl rfl (by have:=HFn.out;omega) q2 q3;clear q1 q2 q3 q4 q5 cur;go_upto_region 13 with fail;clear hsl;obtain⟨q,hq⟩:∃q,q=zB cs (eS zs cs D0 k).Ln 0 k:=⟨_,rfl⟩;have HQ:=hide hq;have HZb:=hide (show Calls Tryz.prog 58 #[.slice (some ⟨gf,k*512,none⟩) 512 (gc-k*512)] wr fun e w'=>e=.returned (.bool q)∧wr=w' from by
    have h:=zeroBytes_any (.slice (some ⟨gf,k*512,none⟩) 512 (gc-k*512)) (padB cs k) wr HPk.out;rw[allZ_dec,pad_len] at h;rw[hq,zB_0];exact h.mono fun e w' hh=>⟨hh.1,hh.2.symm⟩)
   clear hq;cases q with
   |true=>
    go_upto_region 17 with(first|(go_at_call 58;refine HZb.out.mono ?_;rintro e wx ⟨rfl,hwx⟩;subst hwx)|fail)
    have S6:=hide (HS.out.same (D':=eS zs cs D0 (k+1)) (by rw[eS_succ,step_none (eS_lo HD.out.1 k), ←HQ.out];exact JSt.setNow HS.out.job _ _ _));have HPv:=hide (show(0:Int)=pE zs cs D0 k from by unfold pE;rw[←HQ.out];rfl);by_cases h12:k<12
    ·have h12I:(k:Int)<12:=(by omega);have O7:=hide (show ∀gd cap,.slice a m c=Value.slice (some ⟨gd,0,none⟩) m cap→(wr.setCell ⟨gd,k,none⟩ (.int .i64 (0:Int))).ownsRow w.heap.size 3 1 (.slice (some ⟨gd,0,none⟩) m cap) m ((dataL (eS zs cs D0 (k+1)).Ln (k+1)).map (Value.int .i64)) from fun gd cap e=>by
      have h:=HDa.out;rw[e] at h;rw[←dataL_set HD.out.1 h12, ←HPv.out];exact own_intS h (0:Int))
     have HRdD:=hide (Rd.own HDa.out);rcases HDa.out.2 with⟨e,hz0⟩|⟨gd,cap,cur,e,hgd,q1,q2,q3,q4,q5⟩
     ·have:=HM.out;omega
     have O8:=hide (O7.out gd cap e);injection e with e1 e2 e3;subst e1;subst e3;clear e2 O7;have KB:Blk wr gd cur 3:=q1;have hk2:k<cur.size:=(by have:=HM.out;omega);have d0:=KB.cell k;rw[Array.getElem?_eq_getElem hk2] at d0;have f0:=KB.frozen k;have hkm:(k:Int)<(m:Int):=(by have:=HM.out;omega);have S7:=hide (S6.out.kpi ((KpY.refl _ _).setCell KB rfl) ((Below.refl _ _).setCell (p:=⟨gd,k,none⟩) hgd (.int .i64 (0:Int))) hsW);clear q1 q2 q3 q4 q5;go_wp2;go_roundw
     case rel=>exact⟨k+1,m,_,_,by omega,by have:=HM.out;omega,by go_num,rfl,O8.out,S7.out⟩
     case measure=>simp[intOf];omega
    ·have h12I:¬(k:Int)<12:=(by omega);have hsz:w.heap.size≤wr.heap.size:=S6.out.low.size;go_wp2_with (first
      |(
       at_builtin;refine wpList_append_own _ rfl (.tmp 101) (.tmp 103) 26 rfl w.heap.size 3 i0 (.int .i64 0) 1 8 Tryz.underlying26 HI0.out.1 HI0.out.2.1 HI0.out.2.2.1 HI0.out.2.2.2 rfl (by decide) _ m _ rfl (HDa.out.alloc _) ⟨wr.heap.size,0,none⟩ 1 1 [.int .i64 (0:Int)] rfl rfl (cells_newP wr #[.int .i64 (0:Int)] 3) (by simp[Value.oneCell']) (by unfold maxLen;have:=HM.out;omega) (by have:=HM.out;omega) (by simp;omega) ?_
       intro v3 w3 o3 g3 _;obtain⟨a3,c3,rfl⟩:=own_shape o3;have O7:=hide (show w3.ownsRow w.heap.size 3 1 (.slice a3 (m+1) c3) (m+1) ((dataL (eS zs cs D0 (k+1)).Ln (k+1)).map (Value.int .i64)) from by rw[←dataL_app HD.out.1 h12, ←HPv.out,List.map_append];exact o3);have S7:=hide ((S6.out.below ((Below.refl _ _).alloc (Nat.le_refl _) _) hsW).kpi (kpi_of (HDa.out.alloc _) g3) ((Below.refl _ _).grown g3 (by simp;omega) (fun r e=>(HDa.out.lt r e).1)) hsW);clear o3 g3)
      |fail)
     go_roundw
     case rel=>exact⟨k+1,m+1,a3,c3,by omega,by have:=HM.out;omega,by go_num,rfl,O7.out,S7.out⟩
     case measure=>simp[intOf];omega
   |false=>
    have hk0:¬(k:Int)<0:=(by omega);have HT0:=hide (show TT[0]?=some (.slice da 0 dc) from by rw[HTT.out];rfl);go_upto_region 14 with(first|(go_at_call 58;refine HZb.out.mono ?_;rintro e wx ⟨rfl,hwx⟩;subst hwx)|fail)
    refine sqrh (fun w'=>Blk w' tb TT 93) (HS.out.tre.below (Below.refl _ _).drew HS.out.tre.lt) (fun hH=>?_);refine sqtk 0 (.int .i64 (k:Int)) rfl hH ?_;refine sqtk 1 (.pointer (some ⟨tb,0,none⟩)) rfl hH ?_;refine sqtk 2 (.slice da 0 dc) rfl hH ?_ (sqyl (fun w' hw'=>by have c:=(Blk.cell hw' 0).trans HT0.out;go_simp));refine sqtk 3 (.int .i64 0) rfl hH ?_;refine sqtk 4 (.bool false) rfl hH ?_ (sqyl (fun w' hw'=>by go_simp));refine sqtk 5 (.bool false) rfl hH ?_;refine sqtku 6 rfl hH ?_;refine sqtku 7 rfl hH ?_;refine sqtku 8 rfl hH ?_;refine sqtku 9 rfl hH ?_;refine sqtku 10 rfl hH ?_;refine sqtku 11 rfl hH ?_;refine sqtk 12 (.bool false) rfl hH ?_;refine sqtk 13 (.bool false) rfl hH ?_;refine sqtku 14 rfl hH ?_;refine sqtku 15 rfl hH ?_;refine sqtku 16 rfl hH ?_;refine sqtku 17 rfl hH ?_;refine sqtku 18 rfl hH ?_;refine sqtku 19 rfl hH ?_;refine sqtku 20 rfl hH ?_;refine sqtku 21 rfl hH ?_;refine sqtku 22 rfl hH ?_;refine sqtku 23 rfl hH ?_;refine sqtku 24 rfl hH ?_;refine sqtku 25 rfl hH ?_;refine sqtku 26 rfl hH ?_;refine sqtku 27 rfl hH ?_;refine sqtk 28 (.bool false) rfl hH ?_;refine sqdn ?_;clear hH hk0;go_upto_region 16 with fail;obtain⟨w5,hw5⟩:∃w5,w5=wr.drew:=⟨_,rfl⟩;have b5:Below wr.heap.size wr w5:=(by rw[hw5];exact(Below.refl _ _).drew);rw[←hw5];clear hw5;have S5:=hide (HS.out.below b5 hsW);have D5:=hide (own_below HDa.out b5);have hbg:b≠gf:=by
     have h1:=HJ.out.lt;have h2:=B2.out.size;omega
    have HFr:=hide (freshJ_any W0 w5 b ic L ia fa fl fc fs (some ⟨gf,k*512,none⟩) 512 (gc-k*512) (padB cs k) (eS zs cs D0 k) S5.out.job HF.out.1 HF.out.2.1 HF.out.2.2.1 HF.out.2.2.2.1 HF.out.2.2.2.2.1 (pad_len cs k).symm (HPk.out.below b5) (fun j hj e=>by have e2:gf=j:=(by simpa using hj);omega) (by rw[pad_len];omega) (by rw[pad_len];omega) (eS_P HD.out.1 (by omega)));clear b5;go_upto_region 17 with(first
     |(
      go_at_call 60
      refine HFr.out.mono ?_;rintro e w6 ⟨rfl,j6,y6,b6⟩;have S6:=hide (S5.out.kpj (D':=eS zs cs D0 (k+1)) y6 b6 (by rw[eS_succ,step_none (eS_lo HD.out.1 k), ←HQ.out];exact JSt.setNow j6 _ _ _));have D6:=hide (y6.own D5.out (by unfold TyJ;decide));clear j6 y6 b6)
     |fail)
    have HPv:=hide (show(supN (eS zs cs D0 k).st)=pE zs cs D0 k from by unfold pE;rw[←HQ.out];rfl);by_cases h12:k<12
    ·have h12I:(k:Int)<12:=(by omega);have O7:=hide (show ∀gd cap,.slice a m c=Value.slice (some ⟨gd,0,none⟩) m cap→(w6.setCell ⟨gd,k,none⟩ (.int .i64 (supN (eS zs cs D0 k).st))).ownsRow w.heap.size 3 1 (.slice (some ⟨gd,0,none⟩) m cap) m ((dataL (eS zs cs D0 (k+1)).Ln (k+1)).map (Value.int .i64)) from fun gd cap e=>by
      have h:=D6.out;rw[e] at h;rw[←dataL_set HD.out.1 h12, ←HPv.out];exact own_intS h (supN (eS zs cs D0 k).st))
     have HRdD:=hide (Rd.own D6.out);rcases D6.out.2 with⟨e,hz0⟩|⟨gd,cap,cur,e,hgd,q1,q2,q3,q4,q5⟩
     ·have:=HM.out;omega
     have O8:=hide (O7.out gd cap e);injection e with e1 e2 e3;subst e1;subst e3;clear e2 O7;have KB:Blk w6 gd cur 3:=q1;have hk2:k<cur.size:=(by have:=HM.out;omega);have d0:=KB.cell k;rw[Array.getElem?_eq_getElem hk2] at d0;have f0:=KB.frozen k;have hkm:(k:Int)<(m:Int):=(by have:=HM.out;omega);have S7:=hide (S6.out.kpi ((KpY.refl _ _).setCell KB rfl) ((Below.refl _ _).setCell (p:=⟨gd,k,none⟩) hgd (.int .i64 (supN (eS zs cs D0 k).st))) hsW);clear q1 q2 q3 q4 q5;go_wp2;go_roundw
     case rel=>exact⟨k+1,m,_,_,by omega,by have:=HM.out;omega,by go_num,rfl,O8.out,S7.out⟩
     case measure=>simp[intOf];omega
    ·have h12I:¬(k:Int)<12:=(by omega);have hsz:w.heap.size≤w6.heap.size:=S6.out.low.size;go_wp2_with (first
      |(
       at_builtin;refine wpList_append_own _ rfl (.tmp 101) (.tmp 103) 26 rfl w.heap.size 3 i0 (.int .i64 0) 1 8 Tryz.underlying26 HI0.out.1 HI0.out.2.1 HI0.out.2.2.1 HI0.out.2.2.2 rfl (by decide) _ m _ rfl (D6.out.alloc _) ⟨w6.heap.size,0,none⟩ 1 1 [.int .i64 (supN (eS zs cs D0 k).st)] rfl rfl (cells_newP w6 #[.int .i64 (supN (eS zs cs D0 k).st)] 3) (by simp[Value.oneCell']) (by unfold maxLen;have:=HM.out;omega) (by have:=HM.out;omega) (by simp;omega) ?_
       intro v3 w3 o3 g3 _;obtain⟨a3,c3,rfl⟩:=own_shape o3;have O7:=hide (show w3.ownsRow w.heap.size 3 1 (.slice a3 (m+1) c3) (m+1) ((dataL (eS zs cs D0 (k+1)).Ln (k+1)).map (Value.int .i64)) from by rw[←dataL_app HD.out.1 h12, ←HPv.out,List.map_append];exact o3);have S7:=hide ((S6.out.below ((Below.refl _ _).alloc (Nat.le_refl _) _) hsW).kpi (kpi_of (D6.out.alloc _) g3) ((Below.refl _ _).grown g3 (by simp;omega) (fun r e=>(D6.out.lt r e).1)) hsW);clear o3 g3)
      |fail)
     go_roundw
     case rel=>exact⟨k+1,m+1,a3,c3,by omega,by have:=HM.out;omega,by go_num,rfl,O7.out,S7.out⟩
     case measure=>simp[intOf];omega
  ·obtain rfl:k=cnt:=(by omega);have hkI:¬(k:Int)<(k:Int):=(by omega);rename World=>wA
   have S9:=hide (show WSt W0 w wA b tb W2.heap.size (.slice ia L ic) (.slice fa fl fc) fs TT (.slice ga fn gc) fn full (eS zs cs D0 (cntT cs)) from by rw[←HCnt.out];exact HS.out);obtain⟨xs,hxs⟩:∃xs,xs=dataL (eS zs cs D0 k).Ln k:=⟨_,rfl⟩;rw[←hxs] at HDa;have HX1:=hide (show ∀mm i,xs.getD i 0=((fS zs cs D0 mm).Ln 0).getD i 0 from fun mm i=>by rw[hxs,HCnt.out];exact dataL_all HD.out.1 mm i);have HX2:=hide (show xs.length=m from by rw[hxs,dataL_len,HM.out]);obtain⟨N,hN⟩:∃N,N=(gS zs cs D0).Ln:=⟨_,rfl⟩;have HN2:=hide hN;have HX3:=hide (show ∀j,j<12→numAt N j=xs.getD j 0 from fun j hj=>by rw[numAt_lo N hj,hN,root_direct HD.out.1,hxs,HCnt.out]);have hm12:12≤m∧m≤512:=(by have:=HM.out;omega);clear hxs hN HS;rcases HDa.out.2 with⟨e,hz0⟩|⟨gd,cap,cur,e,hgd,q1,q2,q3,q4,q5⟩
   ·omega
   injection e with e1 e2 e3;subst e1;subst e3;clear e2 hgd q1 q2 q3 q4 q5 cur;have HCd:=hide (show ∀j,j<m→wA.cell? ⟨gd,j,none⟩=some (.int .i64 (xs.getD j 0)) from fun j hj=>by
    obtain⟨bd,off,cp,e,_,_,_,hcell⟩:=(Rd.own HDa.out).partsC (by have:=HX2.out;omega);injection e with e1 e2 e3;injection e1 with e1;injection e1 with e4 e5;subst e4 e5;have h:=hcell j (by have:=HX2.out;omega);rw[Nat.zero_add] at h;exact h)
   have hgl:gd<wA.heap.size:=by
    have h:=HCd.out 0 (by omega);exact cell_lt h
   obtain⟨W8,hW8⟩:∃W8,W8=wA.alloc (.cells (rootC N n 0) 27):=⟨_,rfl⟩;have R8:=hide (show Blk W8 wA.heap.size (rootC N n 0) 27 from by rw[hW8];exact Blk.new _ _ _);have B8:=hide (show Below wA.heap.size wA W8 from by rw[hW8];exact(Below.refl _ _).alloc (Nat.le_refl _) _);have HW8:=hide hW8;clear hW8;go_upto_region 21 with fail;rw[show(wA.alloc (.cells #[.int .i64 (n:Int),.int .i64 0,.int .i64 0,.int .i64 0,.int .i64 0,.int .i64 0,.int .i64 0,.int .i64 0,.int .i64 0,.int .i64 0,.int .i64 0,.int .i64 0,.int .i64 0,.int .i64 0,.int .i64 0] 27))=W8 from HW8.out.symm];go_wp2;go_loopw [108] (fun i wx=>∃j:Nat,j≤12∧i=.int .i64 (j:Int)∧Blk wx wA.heap.size (rootC N n j) 27∧Below wA.heap.size wA wx) (fun i _=>12-(intOf i).toNat)
   case atStart=>exact⟨0,by omega,rfl,R8.out,B8.out⟩
   case round=>
    clear R8 B8 HW8;obtain⟨j,hj,rfl,hR,hB⟩:=hrel;have HR:=hide hR;have HB:=hide hB;clear hR hB;by_cases hj12:j<12
    ·have hjI:(j:Int)<12:=(by omega);have hjm:(j:Int)<(m:Int):=(by omega);have cd:=(HB.out.cell (p:=⟨gd,j,none⟩) hgl).trans (HCd.out j (by omega));have hSt:=hide (rootC_set N n j (by omega));rw[HX3.out j hj12] at hSt;generalize xs.getD j 0=dk at cd hSt;obtain⟨u,cr⟩:∃u,wr.cell? ⟨wA.heap.size,1+j,none⟩=some u:=⟨(rootC N n j)[1+j]'(by rw[rootC_size];omega),(HR.out.cell (1+j)).trans (by simp)⟩;have fr:=HR.out.frozen (1+j);go_wp2;go_roundw
     case rel=>exact⟨j+1,by omega,by go_num,by rw[←hSt.out];exact HR.out.set (1+j) _,HB.out.setCell (p:=⟨wA.heap.size,1+j,none⟩) (Nat.le_refl _) _⟩
     case measure=>simp[intOf];omega
    ·obtain rfl:j=12:=(by omega);have hjI:¬(12:Int)<12:=(by decide);rename World=>wC
     have SC:=hide (S9.out.below HB.out hsW);have DC:=hide (own_below HDa.out HB.out);have RC:=HR;have HLoC:=hide (show wA.heap.size<wC.heap.size from HR.out.lt);clear HR HCd;obtain⟨cut,hcut⟩:∃cut,cut=cutM xs 12 140:=⟨_,rfl⟩;have HWd:=hide (show cut++List.replicate (128-cut.length) 0=wordsN (eS zs cs D0 (cntT cs)).Ln 0 0∧cut.length≤128 from by rw[hcut];exact words_cut (fun i=>by rw[←fS_zero];exact HX1.out 0 i) 0);have HCl:=hide HWd.out.2;have HCt:=hide (cutS_any (.slice (some ⟨gd,0,none⟩) m c) xs 12 140 12 140 rfl rfl (wC.alloc (.cells #[] 3)) ((Rd.own DC.out).below ((Below.refl _ _).alloc (Nat.le_refl _) _)) (by omega) (by omega) (by have:=HX2.out;omega));rw[←hcut] at HCt;clear hcut;go_upto_region 27 with(first
      |(go_at_call 46;refine HCt.out.mono ?_;rintro e wx ⟨a1,n1,c1,rfl,hr,hwx⟩;rw[hwx];have HRc:=hide hr;clear hwx wx hr)
      |(
       at_builtin;refine wpList_append_rdI _ rfl (.tmp 119) (.tmp 121) 26 rfl wC.heap.size 3 i0 Tryz.underlying26 HI0.out.1 HI0.out.2.1 HI0.out.2.2.1 HI0.out.2.2.2 _ _ [] rfl (own_emptyM wC _ _) _ cut rfl HRc.out (by have:=HCl.out;simp;omega) (by simp) ?_
       intro a1 c1 m1 w9 e1 o1 b1;simp only[List.length_nil,Nat.zero_add] at e1;subst e1;have O9:=hide (show w9.ownsRow wC.heap.size 3 1 (.slice a1 cut.length c1) cut.length (cut.map (Value.int .i64)) from o1);have B9:=hide (show Below wC.heap.size wC w9 from((Below.refl _ _).alloc (Nat.le_refl _) _).trans (b1.mono (by simp)));clear o1 b1)
      |fail)
     go_loopw [16] (fun v wx=>∃jj mm:Nat,∃a:Option Addr,∃c:Nat,mm=cut.length+jj∧mm≤128∧v=.slice a mm c∧wx.ownsRow wC.heap.size 3 1 (.slice a mm c) mm ((cut++List.replicate jj (0:Int)).map (Value.int .i64))∧Below wC.heap.size wC wx) (fun v _=>128-lenS v)
     case atStart=>exact⟨0,_,_,_,rfl,HCl.out,rfl,by rw[List.replicate_zero,List.append_nil];exact O9.out,B9.out⟩
     case round=>
      clear O9 B9;obtain⟨jj,mm,wa,wc,hmm,hm8,rfl,ho,hbx⟩:=hrel;have HO:=hide ho;have HBx:=hide hbx;have HMm:=hide hmm;clear ho hbx hmm;by_cases hm1:mm<128
      ·have hmI:(mm:Int)<128:=(by omega);go_wp2_with (first
        |(
         at_builtin;refine wpList_append_own _ rfl (.tmp 126) (.tmp 127) 26 rfl wC.heap.size 3 i0 (.int .i64 0) 1 8 Tryz.underlying26 HI0.out.1 HI0.out.2.1 HI0.out.2.2.1 HI0.out.2.2.2 rfl (by decide) _ mm _ rfl (HO.out.alloc _) ⟨wr.heap.size,0,none⟩ 1 1 [.int .i64 0] rfl rfl (cells_newP wr #[.int .i64 0] 3) (by simp[Value.oneCell']) (by unfold maxLen;omega) (by omega) (by have:=HBx.out.size;simp;omega) ?_
         intro v3 w3 o3 g3 _;obtain⟨va3,vc3,rfl⟩:=own_shape o3;have HO3:=hide (show w3.ownsRow wC.heap.size 3 1 (.slice va3 (mm+1) vc3) (mm+1) ((cut++List.replicate (jj+1) (0:Int)).map (Value.int .i64))∧Below wC.heap.size wC w3 from⟨by rw[List.replicate_succ', ←List.append_assoc,List.map_append];exact o3,(HBx.out.alloc HBx.out.size _).grown g3 (by have:=HBx.out.size;simp;omega) (fun r e=>(HO.out.lt r e).1)⟩);clear o3 g3)
        |fail)
       go_roundw
       case rel=>exact⟨jj+1,mm+1,va3,vc3,by have:=HMm.out;omega,by omega,rfl,HO3.out.1,HO3.out.2⟩
       case measure=>show 128-(mm+1)<128-mm;omega
      ·obtain rfl:mm=128:=(by omega);have hmI:¬(128:Int)<128:=(by decide);rename World=>wD
       have hjj:jj=128-cut.length:=(by have:=HMm.out;have:=HCl.out;omega);have HOw:=hide (show Rd .i64 wD (.slice wa 128 wc) (wordsN (eS zs cs D0 (cntT cs)).Ln 0 0) from by
        have h:=Rd.own HO.out;rw[hjj,HWd.out.1] at h;exact h)
       have SD:=hide (SC.out.below HBx.out hsW);have DD:=hide (own_below DC.out HBx.out);have RDd:=hide (RC.out.below HBx.out RC.out.lt);have c1:=(SD.out.tre.cell 1).trans (show TT[1]?=some (.int .i64 0) from by rw[HTT.out];rfl);have c3:=(SD.out.tre.cell 3).trans (show TT[3]?=some iv from by rw[HTT.out];rfl);have HGd:=hide (way_good (zs:=zs) (cs:=cs) HF.out.2.2.2.2.2 HC.out.2 HF.out.2.2.1 HD.out.1 HD.out.2 (spK 0 (cntT cs)));obtain⟨q,hq⟩:∃q,q=decide (wordsN (eS zs cs D0 (cntT cs)).Ln 0 0=List.replicate 128 0):=⟨_,rfl⟩;have HQ:=hide hq;have HPt:=hide (pointersJ_any W0 wD b ic L ia fa wa fl fc wc fs _ iv (eS zs cs D0 (cntT cs)) q SD.out.job HF.out.1 HF.out.2.1 HF.out.2.2.1 HF.out.2.2.2.1 HF.out.2.2.2.2.1 (eS_P HD.out.1 (by rw[←HCnt.out];omega)) HOw.out (wordsN_len _ _ _) (good_words HF.out.2.2.2.2.2.2 HGd.out 0 0) hq);clear hq hjj;go_upto_region 30 with(first
        |(
         go_at_call 61
         refine HPt.out.mono ?_;rintro e wE ⟨rfl,jE,yE,bE⟩;have SE:=hide (SD.out.kpj (D':=fS zs cs D0 (min 1 (lvN (cntT cs) 1))) yE bE ((ptr_single HD.out.1).2 (by rw[←HQ.out];exact jE)));have DE:=hide (yE.own DD.out (by unfold TyJ;decide));have RE:=hide (yE.blk RDd.out (by unfold TyJ;decide));clear jE yE bE c1 c3;obtain⟨u13,c13⟩:∃u,wE.cell? ⟨wA.heap.size,13,none⟩=some u:=⟨(rootC N n 12)[13]'(by rw[rootC_size];omega),(RE.out.cell 13).trans (by simp)⟩;have f13:=RE.out.frozen 13;have hpv:(if q=true then(0:Int) else supN (eS zs cs D0 (cntT cs)).st)=numAt N 12:=by
          rw[HN2.out];show _=((gS zs cs D0).Ln 1).getD 0 0;rw[root_single HD.out.1, ←(ptr_single HD.out.1).1,HQ.out];rfl
         rw[hpv];clear hpv)
        |fail)
       have hSW:wA.heap.size≠w.heap.size+1:=(by have:=S9.out.res.lt;omega);have hW0A:w.heap.size≤wA.heap.size:=S9.out.low.size;have SF:=hide (SE.out.setRoot (j:=13) RE.out hSW hW0A hsW (.int .i64 (numAt N 12)));have DF:=hide ((KpY.setCell (T:=fun t=>t=27) (j:=13) (u:=.int .i64 (numAt N 12)) (KpY.refl _ _) RE.out rfl).own DE.out (by decide));have RF:=hide (show Blk (wE.setCell ⟨wA.heap.size,13,none⟩ (.int .i64 (numAt N 12))) wA.heap.size (rootC N n 13) 27 from by rw[←rootC_set N n 12 (by omega)];exact RE.out.set 13 _);have hgE:gd<wE.heap.size:=by
        have h1:=DE.out.lt gd rfl;exact h1.2
       have hgF:gd<(wE.setCell ⟨wA.heap.size,13,none⟩ (.int .i64 (numAt N 12))).heap.size:=(by rw[World.size_setCell];exact hgE);clear c13 f13 SE DE RE hgE;generalize wE.setCell ⟨wA.heap.size,13,none⟩ (.int .i64 (numAt N 12))=wF at SF DF RF hgF⊢;obtain⟨lv,hlv⟩:∃lv,lv=lvN (cntT cs) 1:=⟨_,rfl⟩;have HLv:=hide hlv;have hlvk:lv=(k+115)/128:=(by rw[hlv,lv1, ←HCnt.out]);rw[←hlv] at SF;clear hlv;go_upto_region 31 with(first
        |(
         refine wpList_make_full _ rfl _ _ 26 rfl wF.heap.size 3 i0 (.int .i64 0) 1 Tryz.underlying26 HI0.out.1 HI0.out.2.1 HI0.out.2.2.1 .i64 .i64 128 128 128 rfl rfl rfl rfl (by rw[HI0.out.2.2.2];omega) (by unfold maxLen;omega) (Nat.le_refl _) ?_;intro wG oG gG;have hm:(madeCells (Value.int .i64 0).cells (128*1)).toList=(List.replicate 128 (0:Int)).map (Value.int .i64):=(by rw[made_one (.int .i64 0) 128 rfl,List.map_replicate]);rw[hm, ←outL_zero (fS zs cs D0 (min (0+1) lv)).Ln] at oG;have bG:Below wF.heap.size wF wG:=(Below.refl _ _).grown gG (Nat.le_refl _) (fun r e=>by cases e);have OG:=hide (own_mono oG SF.out.low.size);have SG:=hide (show WSt W0 w wG b tb W2.heap.size (.slice ia L ic) (.slice fa fl fc) fs TT (.slice ga fn gc) fn full (fS zs cs D0 (min (0+1) lv)) from SF.out.below bG hsW);have DG:=hide (own_below DF.out bG);have RG:=hide (RF.out.below bG RF.out.lt);clear oG gG bG hm)
        |fail)
       go_wp2;go_loopw [18] (fun i wx=>∃j:Nat,j≤4∧i=.int .i64 (j:Int)∧WSt W0 w wx b tb W2.heap.size (.slice ia L ic) (.slice fa fl fc) fs TT (.slice ga fn gc) fn full (fS zs cs D0 (min (j+1) lv))∧Blk wx wA.heap.size (rootC N n 13) 27∧wx.ownsRow w.heap.size 3 1 (.slice (some ⟨gd,0,none⟩) m c) m (xs.map (Value.int .i64))∧wx.ownsRow w.heap.size 3 1 (.slice (some ⟨wF.heap.size,0,none⟩) 128 128) 128 ((outL (fS zs cs D0 (min (j+1) lv)).Ln j).map (Value.int .i64))) (fun i _=>5-(intOf i).toNat)
       case atStart=>exact⟨0,by omega,rfl,SG.out,RG.out,DG.out,OG.out⟩
       case round=>
        clear SG RG DG OG;obtain⟨j,hj,rfl,hS,hR,hDt,hOt⟩:=hrel;rename World=>wH
        have SH:=hide hS;have RH:=hide hR;have DH:=hide hDt;have OH:=hide hOt;clear hS hR hDt hOt;by_cases hjm:140+128*j<m
        ·have hjI:140+128*(j:Int)<(m:Int):=(by omega);have hjl:j+2≤lv:=(by have:=HM.out;omega);have hj2:j≤2:=(by have:=HM.out;omega);rw[show min (j+1) lv=j+1 by omega] at SH OH;obtain⟨cut,hcut⟩:∃cut,cut=cutM xs (12+128*(j+1)) (140+128*(j+1)):=⟨_,rfl⟩;have HWd:=hide (show cut++List.replicate (128-cut.length) 0=wordsN (fS zs cs D0 (j+1)).Ln 0 (j+1)∧cut.length≤128 from by rw[hcut];exact words_cut (fun i=>HX1.out (j+1) i) (j+1));have HCl:=hide HWd.out.2;have HCt:=hide (cutS_any (.slice (some ⟨gd,0,none⟩) m c) xs (12+128*(j+1)) (140+128*(j+1)) (140+128*(j:Int)) (268+128*(j:Int)) (by omega) (by omega) (wH.alloc (.cells #[] 3)) ((Rd.own DH.out).below ((Below.refl _ _).alloc (Nat.le_refl _) _)) (by omega) (by omega) (by have:=HX2.out;omega));rw[←hcut] at HCt;clear hcut;go_upto_region 35 with(first
          |(go_at_call 46;refine HCt.out.mono ?_;rintro e wx ⟨a1,n1,c1,rfl,hr,hwx⟩;rw[hwx];have HRc:=hide hr;clear hwx wx hr)
          |(
           at_builtin;refine wpList_append_rdI _ rfl (.tmp 146) (.tmp 154) 26 rfl wH.heap.size 3 i0 Tryz.underlying26 HI0.out.1 HI0.out.2.1 HI0.out.2.2.1 HI0.out.2.2.2 _ _ [] rfl (own_emptyM wH _ _) _ cut rfl HRc.out (by have:=HCl.out;simp;omega) (by simp) ?_
           intro a1 c1 m1 w9 e1 o1 b1;simp only[List.length_nil,Nat.zero_add] at e1;subst e1;have O9:=hide (show w9.ownsRow wH.heap.size 3 1 (.slice a1 cut.length c1) cut.length (cut.map (Value.int .i64)) from o1);have B9:=hide (show Below wH.heap.size wH w9 from((Below.refl _ _).alloc (Nat.le_refl _) _).trans (b1.mono (by simp)));clear o1 b1)
          |fail)
         go_wp2;go_loopw [19] (fun v wx=>∃jj mm:Nat,∃a:Option Addr,∃c:Nat,mm=cut.length+jj∧mm≤128∧v=.slice a mm c∧wx.ownsRow wH.heap.size 3 1 (.slice a mm c) mm ((cut++List.replicate jj (0:Int)).map (Value.int .i64))∧Below wH.heap.size wH wx) (fun v _=>128-lenS v)
         case atStart=>exact⟨0,_,_,_,rfl,HCl.out,rfl,by rw[List.replicate_zero,List.append_nil];exact O9.out,B9.out⟩
         case round=>
          clear O9 B9;obtain⟨jj,mm,wa,wc,hmm,hm8,rfl,ho,hbx⟩:=hrel;have HO:=hide ho;have HBx:=hide hbx;have HMm:=hide hmm;clear ho hbx hmm;by_cases hm1:mm<128
          ·have hmI:(mm:Int)<128:=(by omega);go_wp2_with (first
            |(
             at_builtin;refine wpList_append_own _ rfl (.tmp 159) (.tmp 160) 26 rfl wH.heap.size 3 i0 (.int .i64 0) 1 8 Tryz.underlying26 HI0.out.1 HI0.out.2.1 HI0.out.2.2.1 HI0.out.2.2.2 rfl (by decide) _ mm _ rfl (HO.out.alloc _) ⟨wr.heap.size,0,none⟩ 1 1 [.int .i64 0] rfl rfl (cells_newP wr #[.int .i64 0] 3) (by simp[Value.oneCell']) (by unfold maxLen;omega) (by omega) (by have:=HBx.out.size;simp;omega) ?_
             intro v3 w3 o3 g3 _;obtain⟨va3,vc3,rfl⟩:=own_shape o3;have HO3:=hide (show w3.ownsRow wH.heap.size 3 1 (.slice va3 (mm+1) vc3) (mm+1) ((cut++List.replicate (jj+1) (0:Int)).map (Value.int .i64))∧Below wH.heap.size wH w3 from⟨by rw[List.replicate_succ', ←List.append_assoc,List.map_append];exact o3,(HBx.out.alloc HBx.out.size _).grown g3 (by have:=HBx.out.size;simp;omega) (fun r e=>(HO.out.lt r e).1)⟩);clear o3 g3)
            |fail)
           go_roundw
           case rel=>exact⟨jj+1,mm+1,va3,vc3,by have:=HMm.out;omega,by omega,rfl,HO3.out.1,HO3.out.2⟩
           case measure=>show 128-(mm+1)<128-mm;omega
          ·obtain rfl:mm=128:=(by omega);have hmI:¬(128:Int)<128:=(by decide);rename World=>wD
           have hjj:jj=128-cut.length:=(by have:=HMm.out;have:=HCl.out;omega);have HOw:=hide (show Rd .i64 wD (.slice wa 128 wc) (wordsN (fS zs cs D0 (j+1)).Ln 0 (j+1)) from by
            have h:=Rd.own HO.out;rw[hjj,HWd.out.1] at h;exact h)
           have SD:=hide (SH.out.below HBx.out hsW);have DD:=hide (own_below DH.out HBx.out);have OD:=hide (own_below OH.out HBx.out);have RDd:=hide (RH.out.below HBx.out RH.out.lt);have hj0:¬(j:Int)<0:=(by omega);go_upto_region 39 with fail;obtain⟨wK,hwK⟩:∃wK,wK=wD.alloc (.cells #[] 3):=⟨_,rfl⟩;have bK:Below wD.heap.size wD wK:=(by rw[hwK];exact(Below.refl _ _).alloc (Nat.le_refl _) _);rw[←hwK];clear hwK;have SK:=hide (SD.out.below bK hsW);have DK:=hide (own_below DD.out bK);have OK:=hide (own_below OD.out bK);have RK:=hide (RDd.out.below bK RDd.out.lt);have HGd:=hide (way_good (zs:=zs) (cs:=cs) HF.out.2.2.2.2.2 HC.out.2 HF.out.2.2.1 HD.out.1 HD.out.2 (spK 0 (cntT cs)++spK 1 (j+1)));obtain⟨q,hq⟩:∃q,q=decide (wordsN (fS zs cs D0 (j+1)).Ln 0 (j+1)=List.replicate 128 0):=⟨_,rfl⟩;have HQ:=hide hq;have HPt:=hide (fun ov=>pointersJ_any W0 wK b ic L ia fa wa fl fc wc fs _ ov (fS zs cs D0 (j+1)) q SK.out.job HF.out.1 HF.out.2.1 HF.out.2.2.1 HF.out.2.2.2.1 HF.out.2.2.2.2.1 (fS_P HD.out.1 (by rw[←HCnt.out];omega) (by omega)) (HOw.out.below bK) (wordsN_len _ _ _) (good_words HF.out.2.2.2.2.2.2 HGd.out 0 (j+1)) hq);clear hq hjj bK SD DD OD RDd;have c5:=(SK.out.tre.cell 5).trans (show TT[5]?=some (.slice sa 0 sc) from by rw[HTT.out];rfl);have hne:wF.heap.size≠gd:=(by omega);have hj128:(j:Int)<128:=(by omega);have HPv:=hide (show(if q=true then(0:Int) else supN (fS zs cs D0 (j+1)).st)=pP (fS zs cs D0 (j+1)) 0 (j+1) from by unfold pP;rw[←HQ.out]);go_wp2_with (first
            |(
             go_at_call 61
             refine(HPt.out _).mono ?_;rintro e wE ⟨rfl,jE,yE,bE⟩;have SE:=hide (SK.out.kpj (D':=fS zs cs D0 (j+2)) yE bE (ptr_outer HD.out.1 j (by rw[←HQ.out];exact jE)));have DE:=hide (yE.own DK.out (by unfold TyJ;decide));have OE:=hide (yE.own OK.out (by unfold TyJ;decide));have RE:=hide (yE.blk RK.out (by unfold TyJ;decide));clear jE yE bE;rw[HPv.out];rcases OE.out.2 with⟨e,hz0⟩|⟨go,capo,curo,e,hgo,q1,q2,q3,q4,q5⟩
             ·omega
             injection e with e1 e2 e3;injection e1 with e1;injection e1 with e1 _;subst e1;subst e3;clear e2;have KB:Blk wE wF.heap.size curo 3:=q1;have hk2:j<curo.size:=(by omega);have d0:=KB.cell j;rw[Array.getElem?_eq_getElem hk2] at d0;have f0:=KB.frozen j;have OX:=hide (own_intS (k:=j) OE.out (pP (fS zs cs D0 (j+1)) 0 (j+1)));rw[outL_set HD.out.1 (show j<128 by omega)] at OX;have DX:=hide (own_neS (j:=j) (u:=.int .i64 (pP (fS zs cs D0 (j+1)) 0 (j+1))) DE.out (fun e=>hne (Option.some.inj e).symm));have SX:=hide (SE.out.kpi ((KpY.refl _ _).setCell KB rfl) ((Below.refl _ _).setCell (p:=⟨wF.heap.size,j,none⟩) hgo (.int .i64 (pP (fS zs cs D0 (j+1)) 0 (j+1)))) hsW);have RX:=hide ((KpY.setCell (T:=fun t=>t=3) (j:=j) (u:=.int .i64 (pP (fS zs cs D0 (j+1)) 0 (j+1))) (KpY.refl _ _) KB rfl).blk RE.out (by decide));clear q1 q2 q3 q4 q5)
            |fail)
           go_roundw
           case rel=>exact⟨j+1,by omega,by go_num,by rw[show min (j+1+1) lv=j+2 by omega];exact SX.out,RX.out,DX.out,by rw[show min (j+1+1) lv=j+2 by omega];exact OX.out⟩
           case measure=>simp[intOf];omega
        ·have hjI:¬140+128*(j:Int)<(m:Int):=(by omega);have hjl:min (j+1) lv=lv:=(by have:=HM.out;omega);rw[hjl] at SH OH;have hjo:lvN (cntT cs) 1≤j+1:=(by rw[←HLv.out];omega);have HOu:=hide (show Rd .i64 wH (.slice (some ⟨wF.heap.size,0,none⟩) 128 128) (wordsN (fS zs cs D0 lv).Ln 1 0) from by
          have h:=Rd.own OH.out;rw[HLv.out,outL_all HD.out.1 hjo] at h;rw[HLv.out];exact h)
         have c2:=(SH.out.tre.cell 2).trans (show TT[2]?=some (.int .i64 0) from by rw[HTT.out];rfl);have c4:=(SH.out.tre.cell 4).trans (show TT[4]?=some ov from by rw[HTT.out];rfl);have HGd:=hide (way_good (zs:=zs) (cs:=cs) HF.out.2.2.2.2.2 HC.out.2 HF.out.2.2.1 HD.out.1 HD.out.2 (spK 0 (cntT cs)++spK 1 lv));obtain⟨q,hq⟩:∃q,q=decide (wordsN (fS zs cs D0 lv).Ln 1 0=List.replicate 128 0):=⟨_,rfl⟩;have HQ:=hide hq;have hcc:cntT cs≤512:=(by rw[←HCnt.out];omega);have HPt:=hide (pointersJ_any W0 wH b ic L ia fa (some ⟨wF.heap.size,0,none⟩) fl fc 128 fs _ ov (fS zs cs D0 lv) q SH.out.job HF.out.1 HF.out.2.1 HF.out.2.2.1 HF.out.2.2.2.1 HF.out.2.2.2.2.1 (fS_P HD.out.1 hcc (by omega)) HOu.out (wordsN_len _ _ _) (good_words HF.out.2.2.2.2.2.2 HGd.out 1 0) hq);have HPv:=hide (show(if q=true then(0:Int) else supN (fS zs cs D0 lv).st)=numAt N 13 from by
          rw[HN2.out];show _=((gS zs cs D0).Ln 2).getD 0 0;rw[←(ptr_double HD.out.1 hcc).1];unfold pP;rw[HLv.out] at HQ⊢;rw[←HQ.out])
         clear hq;go_upto_region 44 with(first
          |(
           go_at_call 61
           refine HPt.out.mono ?_;rintro e wE ⟨rfl,jE,yE,bE⟩;have SE:=hide (SH.out.kpj (D':=gS zs cs D0) yE bE ((ptr_double HD.out.1 hcc).2 (by have h:=jE;have h2:=HQ.out;rw[HLv.out] at h h2;rw[←h2];exact h)));have RE:=hide (yE.blk RH.out (by unfold TyJ;decide));clear jE yE bE c2 c4;obtain⟨u14,c14⟩:∃u,wE.cell? ⟨wA.heap.size,14,none⟩=some u:=⟨(rootC N n 13)[14]'(by rw[rootC_size];omega),(RE.out.cell 14).trans (by simp)⟩;have f14:=RE.out.frozen 14;rw[HPv.out])
          |fail)
         clear c14 f14;have SX:=hide (SE.out.setRoot (j:=14) RE.out hSW hW0A hsW (.int .i64 (numAt N 13)));have RX:=hide (show Blk (wE.setCell ⟨wA.heap.size,14,none⟩ (.int .i64 (numAt N 13))) wA.heap.size (rootC N n 14) 27 from by rw[←rootC_set N n 13 (by omega)];exact RE.out.set 14 _);generalize wE.setCell ⟨wA.heap.size,14,none⟩ (.int .i64 (numAt N 13))=wI at SX RX⊢;obtain⟨RC2,hRC⟩:∃RC2,RC2=rootC N n 14:=⟨_,rfl⟩;rw[←hRC] at RX;have HIn:=hide (show(Tryz.prog.info? 27).map (·.size)=some RC2.size from by rw[hRC,rootC_size];exact infoRtS);have HOn:=hide (show RC2.all (·.oneCell')=true from by rw[hRC];exact i64_one _);have HSr:=hide (show rootZ.size=RC2.size from by rw[hRC,rootC_size];rfl);have HRC:=hide hRC;clear hRC;have FI:=hide (show JSt W0 (wI.setRow (w.heap.size+1) RC2) b (.slice ia L ic) (.slice fa fl fc) fs (gS zs cs D0)∧Below W0.heap.size w (wI.setRow (w.heap.size+1) RC2)∧KpY TyJ w (wI.setRow (w.heap.size+1) RC2) from by
          have hlo:W0.heap.size≤w.heap.size+1:=(by omega);have hb9:Below W0.heap.size w (wI.setRow (w.heap.size+1) RC2):=below_setRow SX.out.low hlo _;refine⟨?_,hb9,fun x hx hT=>(setRow_other wI (w.heap.size+1) x RC2 (by omega)).trans (SX.out.kp x hx hT)⟩;have hy:KpY (fun t=>t=27) wI (wI.setRow (w.heap.size+1) RC2):=fun x hx hT=>setRow_other wI (w.heap.size+1) x RC2 (fun e=>by subst e;exact hT _ _ _ SX.out.res rfl);obtain⟨u,pv,vs,hj⟩:=SX.out.job;exact⟨u,pv,vs,hy.blk hj.box (by decide),hy.ownN hj.puts (by decide) (by decide),hj.le,hj.st,hj.lo,below_setRow hj.low hlo _⟩)
         go_wp2_with (first
          |(refine wpList_load_row rfl 27 _ rfl wA.heap.size rfl 27 RC2 (0,0) _ RX.out Tryz.underlying27 rfl HIn.out ?_)
          |(refine wpList_store_row rfl 27 _ _ rfl (w.heap.size+1) RC2 rfl rfl 27 rootZ SX.out.res HIn.out HSr.out HOn.out ?_)
          |fail)
         refine bodyPost_ret (v:=.agg RC2) ?_ rfl ⟨?_,?_,?_,?_⟩
         ·exact results_cell_row rfl _ _ (w.heap.size+1) 27 RC2 (0,0) _ rfl (SX.out.res.row _) Tryz.underlying27 rfl HIn.out
         ·rw[HRC.out,HN2.out]
         ·exact FI.out.1
         ·exact FI.out.2.1
         ·exact FI.out.2.2
end
end Go.Proofs.YtbhpealglhkodaaGreatDoor
