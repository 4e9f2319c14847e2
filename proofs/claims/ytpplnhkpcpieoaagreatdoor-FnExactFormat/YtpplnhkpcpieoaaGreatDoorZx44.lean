/- The model's writing of a tree: one block of content, nothing there before. -/
import Derived.Test.YtpplnhkpcpieoaaGreatDoorZx43
import Derived.Test.YtpplnhkpcpieoaaGreatDoorZx40
namespace Go.Proofs.YtpplnhkpcpieoaaGreatDoor
open Go.Proofs.Tryz
open _root_.List (getD replicate)
set_option linter.all false
set_option maxRecDepth 100000
set_option maxHeartbeats 16000000
section
open Go.RowKit
theorem qg{w:World}{base g n:Nat}{e:TypeId}{xs:List Value}(h:w.ownsRow base e 1 (.slice (some ⟨g,0,none⟩) n n) n xs):af w g xs.toArray e:=by
 rcases h.2 with⟨e,_⟩|⟨g',cp,cur,e,_,hg,_,_,hs,ht⟩
 ·cases e
 ·injection e with e1 e2 e3;injection e1 with e1;injection e1 with e1 _;subst e1;subst e3;show w.heap[g]?=_;rw[hg, ←ht,List.take_of_length_le (by simp[hs])]
theorem vP{w:World}{b:Nat}{C:Array Value}{t:TypeId}(h:af w b C t):w.rangeAt b 0 C.toList:=by
 intro j v hv;rw[h.cell (0+j),Nat.zero_add];simpa using hv
theorem ku:(prog.info? 31).map (·.size)=some 15:=by kernel_rfl
theorem BK:(prog.info? 77).map (·.size)=some 8:=by kernel_rfl
theorem vQ:(prog.info? 3).map (fun i=>(i.zero,i.size,i.bytes))=some (some (.int .i64 0),1,8):=by kernel_rfl
theorem BM{w:World}{base n g k sz:Nat}{e t:TypeId}{v u:Value}{xs:List Value}{C:Array Value}(h:w.ownsRow base e sz v n xs)(hb:af w g C t)(ht:t≠e):(w.setCell ⟨g,k,none⟩ u).ownsRow base e sz v n xs:=by
 refine h.kept (row:=some g) ⟨rfl,rfl,rfl,by simp,fun j hj hne=>Below.heap_setCell w ⟨g,k,none⟩ u j (fun e=>hne (by rw[e]))⟩ ?_;rcases h.2 with⟨rfl,_⟩|⟨g',cap',cur',rfl,_,hg',_⟩
 ·exact .inl rfl
 ·refine .inr (fun e2=>?_);have e3:g'=g:=Option.some.inj e2;subst e3;have hb':w.heap[g']?=some (.cells C t):=hb;rw[hg'] at hb';injection hb' with hb';injection hb' with _ h2;exact ht h2.symm
theorem Ma{W:World}{base g k m:Nat}{e t:TypeId}{v u:Value}{L:List NE}{vs:List Value}{C:Array Value}(h:aZ W base e m v L vs)(hb:af W g C t)(h1:t≠e)(h2:t≠5):aZ (W.setCell ⟨g,k,none⟩ u) base e m v L vs:=
 ⟨h.len,h.pre,BM h.row hb h1,fun i x l hx hl=>BM (h.dat i x l hx hl) hb h2,h.one⟩
theorem BN{w:World}{base n g sz:Nat}{e t:TypeId}{v:Value}{xs:List Value}{C cs:Array Value}(h:w.ownsRow base e sz v n xs)(hb:af w g C t)(ht:t≠e):(w.setRow g cs).ownsRow base e sz v n xs:=by
 refine h.kept (row:=some g) ⟨rfl,rfl,rfl,by simp,fun j hj hne=>setRow_other w g j cs (fun e=>hne (by rw[e]))⟩ ?_;rcases h.2 with⟨rfl,_⟩|⟨g',cap',cur',rfl,_,hg',_⟩
 ·exact .inl rfl
 ·refine .inr (fun e2=>?_);have e3:g'=g:=Option.some.inj e2;subst e3;have hb':w.heap[g']?=some (.cells C t):=hb;rw[hg'] at hb';injection hb' with hb';injection hb' with _ h2;exact ht h2.symm
theorem BO{W:World}{base g m:Nat}{e t:TypeId}{v:Value}{L:List NE}{vs:List Value}{C cs:Array Value}(h:aZ W base e m v L vs)(hb:af W g C t)(h1:t≠e)(h2:t≠5):aZ (W.setRow g cs) base e m v L vs:=
 ⟨h.len,h.pre,BN h.row hb h1,fun i x l hx hl=>BN (h.dat i x l hx hl) hb h2,h.one⟩
theorem Mb{w w1:World}{r:Option Nat}{g:Nat}(h:w.grownBy w1 r)(hg:w.heap.size≤g)(cs:Array Value):w.grownBy (w1.setRow g cs) r:=
 ⟨h.os,h.tape,h.output,by simpa using h.size,fun k hk hr=>(setRow_other w1 g k cs (show k≠g by omega)).trans (h.block k hk hr)⟩
theorem Mc{w w1:World}{r:Option Nat}{g i:Nat}(h:w.grownBy w1 r)(hg:w.heap.size≤g)(v:Value):w.grownBy (w1.setCell ⟨g,i,none⟩ v) r:=
 ⟨h.os,h.tape,h.output,by rw[World.size_setCell];exact h.size,fun k hk hr=>(Below.heap_setCell w1 ⟨g,i,none⟩ v k (show k≠g by omega)).trans (h.block k hk hr)⟩
theorem BP{w:World}{g:Nat}{zs:List Int}(h:af w g (zs.map (Value.int .i64)).toArray 3)(hl:zs.length≤maxLen):Rd .i64 w (.slice (some ⟨g,0,none⟩) zs.length zs.length) zs:=
 ⟨_,_,rfl,hl,fun _=>⟨g,0,rfl,h.lt,fun i hi=>(h.cell (0+i)).trans (by rw[Nat.zero_add];simp[List.getElem?_eq_getElem hi,getD])⟩,aj,hl⟩
def iw(n x:Int)(k:Nat):Array Value:=#[.int .i64 n,.int .i64 (if k=0 then 0 else x),.int .i64 0,.int .i64 0,.int .i64 0,.int .i64 0,.int .i64 0,.int .i64 0,.int .i64 0,.int .i64 0,.int .i64 0,.int .i64 0,.int .i64 0,.int .i64 0,.int .i64 0]
theorem Md(n x:Int)(k:Nat):(iw n x k).all (·.oneCell')=true:=by
 unfold iw;simp only[List.all_toArray,List.all_cons,List.all_nil];rfl
def vR(x:Int)(k:Nat):Int:=if k=0 then x else 0
theorem Me(n x:Int)(k:Nat)(hk:k<12):(iw n x k).setIfInBounds (1+k) (.int .i64 (vR x k))=iw n x (k+1):=by
 match k,hk with
 |0,_|1,_|2,_|3,_|4,_|5,_|6,_|7,_|8,_|9,_|10,_|11,_=>rfl
theorem Mf(x:Int)(k:Nat)(hk:k<12):((Value.int .i64 x::replicate 11 (.int .i64 0)).toArray)[k]?=some (.int .i64 (vR x k)):=by
 match k,hk with
 |0,_|1,_|2,_|3,_|4,_|5,_|6,_|7,_|8,_|9,_|10,_|11,_=>rfl
def Mg:Value→Nat
 |.slice _ l _=>l
 |_=>0
def BQ(w:World)(b gd tb:Nat)(iv fv:Value)(x:Int)(ys:List Int)(T:Array Value)(wr:World):Prop:=sF w wr b iv fv x ys∧af wr gd ((Value.int .i64 x::replicate 11 (.int .i64 0)).toArray) 3∧af wr tb T 77∧af wr (w.heap.size+1) bV 31
theorem BU(n k:Nat):(replicate n (0:Int)).getD k 0=0:=by
 simp only[getD,List.getElem?_replicate];split<;>rfl
theorem BV(n:Nat)(W:Int→Nat→Int)(D:Nat→Int)(h:∀i,D i=0):iK 0 n W D 0 0:=by
 refine⟨fun i hi=>by rw[h];rfl,rfl,rfl,fun k hk h=>by omega,fun i hi=>by omega⟩
theorem Mh(b f fo fc ic L x:Nat)(ia:Option Addr)(cv:Value)(zs cs:List Int)(w:World)
 (hb:af w b (fq (.slice ia L ic) (.slice (some ⟨f,fo,none⟩) 1 fc) 0 (.slice none 0 0)) 70) (hf:w.cell? ⟨f,fo,none⟩=some (.int .i64 (x:Int))) (hx:2≤x) (hx2:x<L/512)
 (hi:Rd .u8 w (.slice ia L ic) zs) (hz:zs.length≤1048576) (hL:L≤1048576) (hbd:∀z∈zs,0≤z∧z<256) (hc:Rd .u8 w cv cs) (h0:0<cs.length) (h5:cs.length≤512) (hnz:ji (cs++replicate (512-cs.length) 0)=false):
 Calls prog 29 #[.pointer (some ⟨b,0,none⟩),.agg bV,cv] w fun e w'=>e=.returned (.agg (an (aD (cs.length:Int) ((x:Int)::replicate 11 0) 0 0)))∧sF w w' b (.slice ia L ic) (.slice (some ⟨f,fo,none⟩) 1 fc) (x:Int) (cs++replicate (512-cs.length) 0):=by
 obtain⟨i0,hi0,hz0,hz1,hz2⟩:=info_parts vQ;have HI0:=aa (ai hi0 (ai hz0 (ai hz1 hz2)));obtain⟨ca,cc,rfl⟩:=eY hc;obtain⟨W1,hW1⟩:∃W1,W1=(w.alloc (.cells bV 31)).alloc (.cells bV 31):=⟨_,rfl⟩;have HW1:=aa hW1;have K1:=ae (af W1 w.heap.size bV 31) (by rw[hW1];exact(af.new _ _ _).alloc _);have Z1:=ae (af W1 (w.heap.size+1) bV 31) (by rw[hW1];have h:=af.new (w.alloc (.cells bV 31)) bV 31;rw[World.size_alloc] at h;exact h);have B1:=ae (Below w.heap.size w W1) (by rw[hW1];exact(ak.alloc aj _).alloc (by simp) _);have S1:=ae (W1.heap.size=w.heap.size+2) (by rw[hW1];simp);have HJ:=aa hb;have HH:=aa (ai hi (ai hz (ai hbd (ai hc hf))));have HX:=aa (ai hx hx2);have HC:=aa (ai h0 (ai h5 hnz));have HLb:=aa hL;have NV:=aa (fun(w:World) (h:Rd .u8 w (.slice ia L ic) zs)=>uj (.slice ia L ic) zs 0 (replicate 12 0) 0 0 w 0 h hz hbd rfl (by omega) rfl);obtain⟨n,hn⟩:∃n,n=cs.length:=⟨_,rfl⟩;have HN:=aa hn;rw[←hn];have hn0:0<n:=by omega
 have hn5:n≤512:=by omega
 clear hb hi hz hbd hc hf hx hx2 h0 h5 hnz hL hW1 hi0 hz0 hz1 hz2 hn;go_enter func29,ntmps29;go_upto_region 1 with fail;rw[←HW1.out];go_cut [7] from 22 to 27 (fun v7 wx=>∃tb da dc iv ov sv wv,v7=.pointer (some ⟨tb,0,none⟩)∧af wx tb (di (.slice da 0 dc) 0 0 iv ov sv wv true) 77∧W1.heap.size≤tb∧Below W1.heap.size W1 wx)
 case first Jc Kc Od hKc=>
  refine bg (fun w'=>af w' b (fq (.slice ia L ic) (.slice (some ⟨f,fo,none⟩) 1 fc) 0 (.slice none 0 0)) 70∧af w' w.heap.size bV 31) ⟨HJ.out.below B1.out.drew HJ.out.lt,(show af W1.drew _ _ _ from K1.out)⟩ fun hH=>?_;refine ah 0 (.pointer (some ⟨b,0,none⟩)) rfl hH ?_;refine ah 1 (.pointer (some ⟨b,0,none⟩)) rfl hH ?_;refine ah 2 (.pointer (some ⟨b,0,none⟩)) rfl hH ?_;refine ah 3 (.slice ia L ic) rfl hH ?_ (aH fun w' hw'=>by have c:=af.cell hw'.1 0;simp[fq] at c;go_simp);refine ah 4 (.agg bV) rfl hH ?_ (yieldsIf_load_mid (by rfl) 31 _ rfl w.heap.size 0 rfl (bV:Array Value).toList _ (fun w' h=>vP h.2) underlying31 rfl ku);have D1:=ae (Below W1.heap.size W1 W1.drew) ak.drew;refine wpAnyH_ready (rs:=[5,6]) (by kernel_rfl) (by simp) ?_;refine AllReadyH.cons (o:=_) rfl (fun K hK=>?_) (AllReadyH.cons (o:=_) rfl (fun K hK=>?_) (AllReadyH.nil))
  ·go_simp;refine(NV.out _ (HH.out.1.below (B1.out.trans (D1.out.mono B1.out.size)))).mono ?_;rintro e wa ⟨(⟨hap,dv,iv,ov,sv,wv,rfl,hone,o3,_⟩|⟨Oh,rfl⟩),b3⟩
   case inr=>exact absurd (BV _ _ _ (fun i=>BU 12 i)) Oh
   obtain⟨da,dc,rfl⟩:=cG o3;have A1:=ae (Below W1.heap.size W1 wa) (D1.out.trans (b3.mono D1.out.size));have N3:=aa hone;clear hap o3 hone b3;refine hK.out _ _ ⟨HJ.out.below (B1.out.trans (A1.out.mono B1.out.size)) HJ.out.lt,K1.out.below A1.out K1.out.lt⟩ (fun hH=>?_);clear hK K;try simp only[Act.put,av,ay,az,aA,aB,aC]
   refine aG 6 rfl fun K hK=>?_;go_simp;obtain⟨wb,hwb⟩:∃wb,wb=wa.alloc (.cells #[.slice none 0 0,.int .i64 0,.int .i64 0,.slice none 0 0,.slice none 0 0,.slice none 0 0,.slice none 0 0,.bool false] 77):=⟨_,rfl⟩;have KB:=ae (af wb wa.heap.size #[.slice none 0 0,.int .i64 0,.int .i64 0,.slice none 0 0,.slice none 0 0,.slice none 0 0,.slice none 0 0,.bool false] 77) (by rw[hwb];exact af.new _ _ _);have A2:=ae (Below W1.heap.size W1 wb) (by rw[hwb];exact A1.out.alloc A1.out.size _);rw[←hwb];refine hK.out _ _ ⟨HJ.out.below (B1.out.trans (A2.out.mono B1.out.size)) HJ.out.lt,K1.out.below A2.out K1.out.lt⟩ (fun hH=>?_);clear hK K hwb;try simp only[Act.put,av,ay,az,aA,aB,aC]
   refine aG 7 rfl fun K hK=>?_;refine wp_store_row 77 _ _ rfl wa.heap.size (di (.slice da 0 dc) 0 0 iv ov sv wv true) rfl rfl 77 #[.slice none 0 0,.int .i64 0,.int .i64 0,.slice none 0 0,.slice none 0 0,.slice none 0 0,.slice none 0 0,.bool false] KB.out BK rfl N3.out ?_;have KS:=aa (af.row KB.out (di (.slice da 0 dc) 0 0 iv ov sv wv true));have BS:=aa (below_setRow A2.out (A1.out.size) (di (.slice da 0 dc) 0 0 iv ov sv wv true));have TLO:=aa (A1.out.size);refine hK.out _ _ ⟨HJ.out.below (B1.out.trans (BS.out.mono B1.out.size)) HJ.out.lt,K1.out.below BS.out K1.out.lt⟩ (fun hH=>?_);clear hK K;try simp only[Act.put,av,ay,az,aA,aB,aC]
   refine aV ?_;refine hKc _ _ (Met.intro (Od _ _ ?_));(repeat apply Exists.intro)
   exact⟨⟨_,da,dc,iv,ov,sv,wv,rfl,KS.out,TLO.out,BS.out⟩,rfl⟩
  ·go_simp;obtain⟨wb,hwb⟩:∃wb,wb=(W1.alloc (.cells #[.slice none 0 0,.int .i64 0,.int .i64 0,.slice none 0 0,.slice none 0 0,.slice none 0 0,.slice none 0 0,.bool false] 77)).drew:=⟨_,rfl⟩;have KB:=ae (af wb W1.heap.size #[.slice none 0 0,.int .i64 0,.int .i64 0,.slice none 0 0,.slice none 0 0,.slice none 0 0,.slice none 0 0,.bool false] 77) (by rw[hwb];exact(show af (W1.alloc _).drew _ _ _ from af.new W1 _ _));have D2:=ae (Below W1.heap.size W1 wb) (by rw[hwb];exact(ak.alloc aj _).drew);rw[←hwb];refine hK.out _ _ ⟨HJ.out.below (B1.out.trans (D2.out.mono B1.out.size)) HJ.out.lt,K1.out.below D2.out K1.out.lt⟩ (fun hH=>?_);clear hK K hwb;try simp only[Act.put,av,ay,az,aA,aB,aC]
   refine aG 5 rfl fun K hK=>?_;go_simp;refine(NV.out _ (HH.out.1.below (B1.out.trans (D2.out.mono B1.out.size)))).mono ?_;rintro e wa ⟨(⟨hap,dv,iv,ov,sv,wv,rfl,hone,o3,_⟩|⟨Oh,rfl⟩),b3⟩
   case inr=>exact absurd (BV _ _ _ (fun i=>BU 12 i)) Oh
   obtain⟨da,dc,rfl⟩:=cG o3;have A1:=ae (Below W1.heap.size W1 wa) (D2.out.trans (b3.mono D2.out.size));have N3:=aa hone;have KC:=aa (KB.out.below b3 KB.out.lt);clear hap o3 hone b3;refine hK.out _ _ ⟨HJ.out.below (B1.out.trans (A1.out.mono B1.out.size)) HJ.out.lt,K1.out.below A1.out K1.out.lt⟩ (fun hH=>?_);clear hK K;try simp only[Act.put,av,ay,az,aA,aB,aC]
   refine aG 7 rfl fun K hK=>?_;refine wp_store_row 77 _ _ rfl W1.heap.size (di (.slice da 0 dc) 0 0 iv ov sv wv true) rfl rfl 77 #[.slice none 0 0,.int .i64 0,.int .i64 0,.slice none 0 0,.slice none 0 0,.slice none 0 0,.slice none 0 0,.bool false] KC.out BK rfl N3.out ?_;have KS:=aa (af.row KC.out (di (.slice da 0 dc) 0 0 iv ov sv wv true));have BS:=aa (below_setRow A1.out ((Nat.le_refl W1.heap.size)) (di (.slice da 0 dc) 0 0 iv ov sv wv true));have TLO:=aa ((Nat.le_refl W1.heap.size));refine hK.out _ _ ⟨HJ.out.below (B1.out.trans (BS.out.mono B1.out.size)) HJ.out.lt,K1.out.below BS.out K1.out.lt⟩ (fun hH=>?_);clear hK K;try simp only[Act.put,av,ay,az,aA,aB,aC]
   refine aV ?_;refine hKc _ _ (Met.intro (Od _ _ ?_));(repeat apply Exists.intro)
   exact⟨⟨_,da,dc,iv,ov,sv,wv,rfl,KS.out,TLO.out,BS.out⟩,rfl⟩
 case rest=>
 obtain⟨tb,da,dc,iv,ov,sv,wv,rfl,kT,htb,b2⟩:=hcut;rename World=>W2
 have Wr:=aa kT;have HTB:=aa htb;have B2:=aa (B1.out.trans (b2.mono B1.out.size));have Z2:=aa (Z1.out.below b2 Z1.out.lt);clear kT b2 htb;have c7:=(Wr.out.cell 7).trans (show(di (.slice da 0 dc) 0 0 iv ov sv wv true)[7]?=some (.bool true) from rfl);have TG:=ae (Calls prog 66 #[.int .i64 (n:Int)] W2 fun e w'=>e=.returned (.int .i64 1)∧W2=w') (by
  have h:=xK n W2 (by omega);rw[show(n+511)/512=1 by omega] at h;exact h.mono fun e w' hh=>⟨hh.1,hh.2.symm⟩)
 have XR:=ae (Calls prog 65 #[.slice ca n cc,.int .i64 512] W2 fun e w'=>∃v',e=.returned v'∧w'.ownsRow W2.heap.size 5 1 v' 512 ((cs++replicate (512-cs.length) 0).map (Value.int .u8))∧Below W2.heap.size W2 w') (by
  have h:=tH (.slice ca n cc) cs 512 W2 (by rw[HN.out];exact HH.out.2.2.2.1.below B2.out) HC.out.1 HC.out.2.1 (by omega);exact h)
 go_upto_region 7 with(first
  |(go_at_call 66;refine TG.out.mono ?_;rintro e wx ⟨rfl,hwx⟩;subst hwx)
  |(go_at_call 65;refine XR.out.mono ?_;rintro e W3 ⟨fv,rfl,o3,b3⟩;obtain⟨fa,Ws,rfl⟩:=bO o3;have O3:=aa o3;have S23:=aa b3.size;have B3:=aa (B2.out.trans (b3.mono B2.out.size));have KT3:=aa (Wr.out.below b3 Wr.out.lt);have Z3:=aa (Z2.out.below b3 Z2.out.lt);clear o3 b3)
  |fail)
 go_upto_region 8 with(first
  |(
   refine wpList_make_full _ rfl _ _ 45 rfl W3.heap.size 3 i0 (.int .i64 0) 1 underlying45 HI0.out.1 HI0.out.2.1 HI0.out.2.2.1 .i64 .i64 12 12 12 rfl rfl rfl rfl (by rw[HI0.out.2.2.2];omega) (by unfold maxLen;omega) aj ?_;intro W4 o4 g4;have hm:(madeCells (Value.int .i64 0).cells (12*1)).toList=replicate 12 (.int .i64 0):=iJ (.int .i64 0) 12 rfl;rw[hm] at o4;have D4:=aa (qg o4);have b4:Below W3.heap.size W3 W4:=ak.grown g4 aj (fun r e=>by cases e);have B4:=aa (B3.out.trans (b4.mono B3.out.size));have Wt:=aa (KT3.out.below b4 KT3.out.lt);have Z4:=aa (Z3.out.below b4 Z3.out.lt);have O4:=aa (cC O3.out b4);have S4:=aa (ai b4.size (ai O3.out.lt B3.out.size));clear o4 g4 b4 hm)
  |fail)
 obtain⟨ys,hys⟩:∃ys,ys=cs++replicate (512-cs.length) 0:=⟨_,rfl⟩;rw[←hys] at O4;have HYs:=aa hys;have Rp:=ae (ys.length=512) (by rw[hys,List.length_append,List.length_replicate];have:=HC.out.2.1;omega);have HNz:=ae (ji ys=false) (by rw[hys];exact HC.out.2.2);clear hys;rcases O4.out.2 with⟨e,_⟩|⟨gf,cap,cur,e,hgf,q1,q2,q3,q4,q5⟩
 ·cases e
 injection e with e1 e2 e3;subst e1;subst e3;clear e2;have HGf:=aa hgf;have hfc:(512:Int)≤(Ws:Int):=by omega
 clear hgf q1 q2 q3 q4 q5 cur;obtain⟨TT,TM⟩:∃TT,TT=di (.slice da 0 dc) 0 0 iv ov sv wv true:=⟨_,rfl⟩;have Ql:=aa TM;rw[←TM] at Wt;have Wu:=ae (tb<W2.heap.size∧W2.heap.size≤W3.heap.size∧w.heap.size+1<W2.heap.size) (⟨Wr.out.lt,S23.out,Z2.out.lt⟩);clear TM Wr KT3 c7;have UX:=aa (HJ.out.below B4.out HJ.out.lt);have hbw:=HJ.out.lt;have Wv:=ae (b≠w.heap.size+1) (by omega);have hs3:w.heap.size≤W3.heap.size:=S4.out.2.2;have HRy:=ae (Rd .u8 W4 (.slice (some ⟨gf,0,none⟩) ys.length Ws) ys) (by have h:=Rd.own O4.out;rw[Rp.out];exact h);go_wp2;go_loopw [10,11] (fun v10 i wr=>∃k:Nat,k≤1∧i=.int .i64 (k:Int)∧v10=.slice (some ⟨W3.heap.size,0,none⟩) 12 12∧(k=0→W4=wr)∧(k=1→BQ w b W3.heap.size tb (.slice ia L ic) (.slice (some ⟨f,fo,none⟩) 1 fc) (x:Int) ys TT wr)) (fun _ i _=>1-(intOf i).toNat)
 case atStart=>exact⟨0,by omega,rfl,rfl,fun _=>rfl,fun h=>by cases h⟩
 case round=>
  obtain⟨k,hk,rfl,rfl,hw0,hw1⟩:=hrel;rcases(show k=0∨k=1 by omega) with rfl|rfl
  ·obtain rfl:=hw0 rfl;clear hw0 hw1;have cT:=(Wt.out.cell 0).trans (show TT[0]?=some (.slice da 0 dc) by rw[Ql.out];rfl);have HZb:=ae (Calls prog 67 #[.slice (some ⟨gf,0,none⟩) 512 Ws] W4 fun e w'=>e=.returned (.bool false)∧W4=w') (by
    have h:=LZ (.slice (some ⟨gf,0,none⟩) ys.length Ws) ys W4 HRy.out;rw[HNz.out,Rp.out] at h;exact h.mono fun e w' hh=>⟨hh.1,hh.2.symm⟩)
   go_upto_region 14 with(first|(go_at_call 67;refine HZb.out.mono ?_;rintro e wx ⟨rfl,hwx⟩;subst hwx)|fail)
   go_quiet (fail)
   clear cT;go_upto_region 16 with fail;have b5:=sG (Below.refl W4.heap.size W4) nq;generalize W4.drewN nq=W5 at b5⊢;clear nq;have B5:=aa b5;clear b5;have HB5:=aa (B4.out.trans (B5.out.mono B4.out.size));have HFr:=aa (LU b f fo fc ic L x ia (some ⟨gf,0,none⟩) Ws ys W5 (UX.out.below B5.out UX.out.lt) ((HB5.out.cell (p:=⟨f,fo,none⟩) (eu HH.out.2.2.2.2)).trans HH.out.2.2.2.2) HX.out.1 HX.out.2 HLb.out (HRy.out.below B5.out) (fun k hk=>by have e:gf=k:=(by simpa using hk);have:=HGf.out;have:=B2.out.size;omega) (by rw[Rp.out];omega) (by rw[Rp.out];omega));rw[Rp.out] at HFr;have KD5:=aa (D4.out.below B5.out D4.out.lt);have RY:=aa (Wt.out.below B5.out Wt.out.lt);have Z5:=aa (Z4.out.below B5.out Z4.out.lt);have Sf:=ae (b≠tb∧b≠W3.heap.size∧b≠w.heap.size+1) (by have h1:=HTB.out;have h2:=S1.out;omega);have Ww:=ae (tb≠W3.heap.size∧w.heap.size+1≠W3.heap.size) (by have h1:=S1.out;have h2:=B2.out.size;have h3:=Wu.out;omega);go_upto_region 17 with(first
    |(
     go_at_call 69
     refine HFr.out.mono ?_;rintro e W6 ⟨rfl,hF⟩;obtain⟨pv,vs,kJ,oP,g6⟩:=hF;have HF6:=aa (ai kJ (ai (oP.mono HB5.out.size) (LR HB5.out g6)));have XS:=aa (show af W6 W3.heap.size (replicate 12 (.int .i64 0)).toArray 3 from(g6.block _ KD5.out.lt (fun e=>Sf.out.2.1 (Option.some.inj e).symm)).trans KD5.out);have KT6:=ae (af W6 tb TT 77) ((g6.block _ RY.out.lt (fun e=>Sf.out.1 (Option.some.inj e).symm)).trans RY.out);have Z6:=ae (af W6 (w.heap.size+1) bV 31) ((g6.block _ Z5.out.lt (fun e=>Sf.out.2.2 (Option.some.inj e).symm)).trans Z5.out);clear kJ oP g6)
    |fail)
   have Va:=ae (BQ w b W3.heap.size tb (.slice ia L ic) (.slice (some ⟨f,fo,none⟩) 1 fc) (x:Int) ys TT (W6.setCell ⟨W3.heap.size,0,none⟩ (.int .i64 (x:Int)))) (⟨Exists.intro pv (Exists.intro vs ⟨HF6.out.1.other _ _ Sf.out.2.1,Ma HF6.out.2.1 XS.out (by decide) (by decide),Mc HF6.out.2.2 hs3 _⟩),XS.out.set 0 _,KT6.out.other _ _ Ww.out.1,Z6.out.other _ _ Ww.out.2⟩);have d0:=(XS.out.cell 0).trans (show _=some (.int .i64 0) from rfl);have f0:=XS.out.frozen 0;go_wp2;go_roundw
   case rel=>exact⟨1,by omega,by go_num,rfl,(fun h=>absurd h (by decide)),(fun _=>Va.out)⟩
   case measure=>simp[intOf]
  ·obtain⟨⟨pv,vs,kJ,oP,g7⟩,kD,kT,kZ⟩:=hw1 rfl;rename World=>wA
   have F7:=aa (ai kJ (ai oP g7));have D7:=aa kD;have T7:=aa kT;have Z7:=aa kZ;clear kJ oP g7 kD kT kZ hw0 hw1 UX HRy Wt Z4 D4 O4;obtain⟨W8,XT⟩:∃W8,W8=wA.alloc (.cells (iw (n:Int) (x:Int) 0) 31):=⟨_,rfl⟩;have R8:=ae (af W8 wA.heap.size (iw (n:Int) (x:Int) 0) 31) (by rw[XT];exact af.new _ _ _);have B8:=ae (Below wA.heap.size wA W8) (by rw[XT];exact ak.alloc aj _);have HW8:=aa XT;clear XT;go_upto_region 21 with fail;rw[show(wA.alloc (.cells #[.int .i64 (n:Int),.int .i64 0,.int .i64 0,.int .i64 0,.int .i64 0,.int .i64 0,.int .i64 0,.int .i64 0,.int .i64 0,.int .i64 0,.int .i64 0,.int .i64 0,.int .i64 0,.int .i64 0,.int .i64 0] 31))=W8 from HW8.out.symm];go_wp2;go_loopw [108] (fun i wx=>∃k:Nat,k≤12∧i=.int .i64 (k:Int)∧af wx wA.heap.size (iw (n:Int) (x:Int) k) 31∧Below wA.heap.size wA wx) (fun i _=>12-(intOf i).toNat)
   case atStart=>exact⟨0,by omega,rfl,R8.out,B8.out⟩
   case round=>
    obtain⟨k,hk,rfl,hR,hB⟩:=hrel;have HR:=aa hR;have HB:=aa hB;clear hR hB;by_cases hk12:k<12
    ·have Oc:(k:Int)<12:=(by omega);have cd:=((HB.out.cell (p:=⟨W3.heap.size,k,none⟩) D7.out.lt).trans (D7.out.cell k)).trans (Mf (x:Int) k hk12);have hN:=aa (Me (n:Int) (x:Int) k hk12);generalize vR (x:Int) k=dk at cd hN;have cr:∃u,wr.cell? ⟨wA.heap.size,1+k,none⟩=some u:=⟨(iw (n:Int) (x:Int) k)[1+k]'(by show 1+k<15;omega),(HR.out.cell (1+k)).trans (by simp)⟩;obtain⟨u,cr⟩:=cr;have fr:=HR.out.frozen (1+k);go_wp2;go_roundw
     case rel=>exact⟨k+1,by omega,by go_num,by rw[←hN.out];exact HR.out.set (1+k) _,HB.out.setCell (p:=⟨wA.heap.size,1+k,none⟩) aj _⟩
     case measure=>simp[intOf];omega
    ·obtain rfl:k=12:=(by omega);rename World=>wC
     have HD9:=ae (af wC W3.heap.size ((((x:Int)::replicate 11 0)).map (Value.int .i64)).toArray 3) (D7.out.below HB.out D7.out.lt);have VK:=aa (yK (.slice (some ⟨W3.heap.size,0,none⟩) 12 12) ((x:Int)::replicate 11 0) 12 140 (wC.alloc (.cells #[] 3)) ((BP HD9.out (by rw[List.length_cons,List.length_replicate];unfold maxLen;omega)).below (ak.alloc aj _)) (by omega) (by omega) (by rw[List.length_cons,List.length_replicate];omega));rw[show jx ((x:Int)::replicate 11 0) 12 140=[] from rfl] at VK;have HCut:=ae (Calls prog 70 #[.slice (some ⟨W3.heap.size,0,none⟩) 12 12,.int .i64 12,.int .i64 140] (wC.alloc (.cells #[] 3)) _) VK.out;clear VK;go_upto_region 27 with(first
      |(go_at_call 70;refine HCut.out.mono ?_;rintro e wx ⟨a,m,c,rfl,hr,hwx⟩;rw[hwx];have Pz:=aa hr;clear hwx wx hr)
      |(
       at_builtin;refine ur _ rfl (.tmp 119) (.tmp 121) 45 rfl wC.heap.size 3 i0 underlying45 HI0.out.1 HI0.out.2.1 HI0.out.2.2.1 HI0.out.2.2.2 _ _ [] rfl (j5 wC _ _) _ [] rfl Pz.out (by decide) (by simp) ?_
       intro a1 c1 m1 w9 e1 o1 b1;simp only[List.length_nil,Nat.add_zero] at e1;subst e1;have O9:=ae (w9.ownsRow wC.heap.size 3 1 (.slice a1 0 c1) 0 ((replicate 0 (0:Int)).map (Value.int .i64))) o1;have B9:=ae (Below wC.heap.size wC w9) ((ak.alloc aj _).trans (b1.mono (by simp)));clear o1 b1)
      |fail)
     go_loopw [16] (fun v wx=>∃m:Nat,m≤128∧wx.ownsRow wC.heap.size 3 1 v m ((replicate m (0:Int)).map (Value.int .i64))∧Below wC.heap.size wC wx) (fun v _=>128-Mg v)
     case atStart=>exact⟨0,by omega,O9.out,B9.out⟩
     case round=>
      clear O9 B9;obtain⟨m,hm,ho,hbx⟩:=hrel;obtain⟨ma,mc,rfl⟩:=bO ho;have HO:=aa ho;have NL:=aa hbx;clear ho hbx;by_cases hm1:m<128
      ·have Vt:(m:Int)<128:=(by omega);go_wp2_with (first
        |(
         at_builtin;refine wpList_append_own _ rfl (.tmp 126) (.tmp 127) 45 rfl wC.heap.size 3 i0 (.int .i64 0) 1 8 underlying45 HI0.out.1 HI0.out.2.1 HI0.out.2.2.1 HI0.out.2.2.2 rfl (by decide) _ m _ rfl (HO.out.alloc _) ⟨wr.heap.size,0,none⟩ 1 1 [.int .i64 0] rfl rfl (nu wr #[.int .i64 0] 3) (by simp[Value.oneCell']) (by unfold maxLen;omega) (by omega) (by have:=NL.out.size;simp;omega) ?_
         intro v3 w3 o3 g3 _;obtain⟨Sa,Sb,rfl⟩:=bO o3;have Rh:=ae (w3.ownsRow wC.heap.size 3 1 (.slice Sa (m+1) Sb) (m+1) ((replicate (m+1) (0:Int)).map (Value.int .i64))∧Below wC.heap.size wC w3) (⟨by rw[List.replicate_succ',List.map_append];exact o3,(NL.out.alloc NL.out.size _).grown g3 (by have:=NL.out.size;simp;omega) (fun r e=>(HO.out.lt r e).1)⟩);clear o3 g3)
        |fail)
       go_roundw
       case rel=>exact⟨m+1,by omega,Rh.out.1,Rh.out.2⟩
       case measure=>show 128-(m+1)<128-m;omega
      ·obtain rfl:m=128:=(by omega);rename World=>wD
       have KTD:=aa ((T7.out.below HB.out T7.out.lt).below NL.out (T7.out.below HB.out T7.out.lt).lt);have c1:=(KTD.out.cell 1).trans (show TT[1]?=some (.int .i64 0) by rw[Ql.out];rfl);have c3:=(KTD.out.cell 3).trans (show TT[3]?=some iv by rw[Ql.out];rfl);have HPt:=aa (BJ b (.slice ma 128 mc) iv 0 128 wD (Rd.own HO.out) (by omega));have BD:=aa (HB.out.trans (NL.out.mono HB.out.size));have RD:=aa (HR.out.below NL.out HR.out.lt);go_upto_region 30 with(first
        |(
         go_at_call 71
         refine HPt.out.mono ?_;rintro e wE ⟨rfl,bE⟩;have BE:=ae (Below wA.heap.size wA wE) (BD.out.trans (bE.mono BD.out.size));have RE:=aa (RD.out.below bE RD.out.lt);have c13:=(RE.out.cell 13).trans (show(iw (n:Int) (x:Int) 12)[13]?=some (.int .i64 0) from rfl);have f13:=RE.out.frozen 13;clear bE c1 c3)
        |fail)
       clear c13 f13;have RF:=ae (af (wE.setCell ⟨wA.heap.size,13,none⟩ (.int .i64 0)) wA.heap.size (iw (n:Int) (x:Int) 12) 31) (RE.out.set 13 _);have BF:=ae (Below wA.heap.size wA (wE.setCell ⟨wA.heap.size,13,none⟩ (.int .i64 0))) (BE.out.setCell (p:=⟨wA.heap.size,13,none⟩) aj _);generalize wE.setCell ⟨wA.heap.size,13,none⟩ (.int .i64 0)=wF at RF BF⊢;go_upto_region 31 with(first
        |(
         refine wpList_make_full _ rfl _ _ 45 rfl wF.heap.size 3 i0 (.int .i64 0) 1 underlying45 HI0.out.1 HI0.out.2.1 HI0.out.2.2.1 .i64 .i64 128 128 128 rfl rfl rfl rfl (by rw[HI0.out.2.2.2];omega) (by unfold maxLen;omega) aj ?_;intro wG oG gG;have hm:(madeCells (Value.int .i64 0).cells (128*1)).toList=(replicate 128 (0:Int)).map (Value.int .i64):=(by rw[iJ (.int .i64 0) 128 rfl,List.map_replicate]);rw[hm] at oG;have HG:=aa (Rd.own oG);have bG:Below wF.heap.size wF wG:=ak.grown gG aj (fun r e=>by cases e);have BG:=aa (BF.out.trans (bG.mono BF.out.size));have RG:=aa (RF.out.below bG RF.out.lt);clear oG gG bG hm)
        |fail)
       go_wp2;go_loopw [18] (fun i wx=>i=.int .i64 0∧wG=wx) (fun _ _=>0)
       case atStart=>exact⟨rfl,rfl⟩
       case round=>
        obtain⟨rfl,rfl⟩:=hrel;have KTG:=aa (T7.out.below BG.out T7.out.lt);have c2:=(KTG.out.cell 2).trans (show TT[2]?=some (.int .i64 0) by rw[Ql.out];rfl);have c4:=(KTG.out.cell 4).trans (show TT[4]?=some ov by rw[Ql.out];rfl);have HPg:=aa (BJ b _ ov 0 128 wG HG.out (by omega));have ZG:=aa (Z7.out.below BG.out Z7.out.lt);go_upto_region 44 with(first
         |(
          go_at_call 71
          refine HPg.out.mono ?_;rintro e wH ⟨rfl,bH⟩;have BH:=ae (Below wA.heap.size wA wH) (BG.out.trans (bH.mono BG.out.size));have RH:=aa (RG.out.below bH RG.out.lt);have ZH:=aa (ZG.out.below bH ZG.out.lt);have c14:=(RH.out.cell 14).trans (show(iw (n:Int) (x:Int) 12)[14]?=some (.int .i64 0) from rfl);have f14:=RH.out.frozen 14;clear bH c2 c4)
         |fail)
        clear c14 f14;have RI:=ae (af (wH.setCell ⟨wA.heap.size,14,none⟩ (.int .i64 0)) wA.heap.size (iw (n:Int) (x:Int) 12) 31) (RH.out.set 14 _);have BI:=ae (Below wA.heap.size wA (wH.setCell ⟨wA.heap.size,14,none⟩ (.int .i64 0))) (BH.out.setCell (p:=⟨wA.heap.size,14,none⟩) aj _);have ZI:=ae (af (wH.setCell ⟨wA.heap.size,14,none⟩ (.int .i64 0)) (w.heap.size+1) bV 31) (ZH.out.other _ _ (by have:=Z7.out.lt;show w.heap.size+1≠wA.heap.size;omega));generalize wH.setCell ⟨wA.heap.size,14,none⟩ (.int .i64 0)=wI at RI BI ZI⊢;have FI:=ae (sF w (wI.setRow (w.heap.size+1) (iw (n:Int) (x:Int) 12)) b (.slice ia L ic) (.slice (some ⟨f,fo,none⟩) 1 fc) (x:Int) ys) (Exists.intro pv (Exists.intro vs ⟨(setRow_other wI _ b _ Wv.out).trans (F7.out.1.below BI.out F7.out.1.lt),BO (F7.out.2.1.below BI.out) ZI.out (by decide) (by decide),Mb (sH F7.out.2.2 BI.out) (Nat.le_succ _) _⟩));go_wp2_with (first
         |(refine wpList_load_row rfl 31 _ rfl wA.heap.size rfl 31 (iw (n:Int) (x:Int) 12) (0,0) _ RI.out underlying31 rfl ku ?_)
         |(refine wpList_store_row rfl 31 _ _ rfl (w.heap.size+1) (iw (n:Int) (x:Int) 12) rfl rfl 31 bV ZI.out ku rfl (Md _ _ _) ?_)
         |fail)
        refine bodyPost_ret (v:=.agg (iw (n:Int) (x:Int) 12)) ?_ rfl ⟨?_,?_⟩
        ·exact results_cell_row rfl _ _ (w.heap.size+1) 31 (iw (n:Int) (x:Int) 12) (0,0) _ rfl (ZI.out.row _) underlying31 rfl ku
        ·rw[HN.out];rfl
        ·have e:cs++replicate (512-n) 0=ys:=(by rw[HYs.out,HN.out]);rw[e];exact FI.out
end
end Go.Proofs.YtpplnhkpcpieoaaGreatDoor
