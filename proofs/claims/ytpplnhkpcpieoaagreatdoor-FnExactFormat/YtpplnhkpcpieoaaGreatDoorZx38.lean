/- A block with its sum: laySum of the program, l02Sealed of the model -/
import Derived.Test.YtpplnhkpcpieoaaGreatDoorZx37
import Derived.Room.AppendFits
namespace Go.Proofs.YtpplnhkpcpieoaaGreatDoor
open Go.Proofs.Tryz
open _root_.List (replicate length_append mem_append map_append set_cons_zero set_cons_succ length_map getD range)
open _root_.Bool (and_eq_true or_eq_true)
set_option linter.all false
set_option maxRecDepth 100000
set_option maxHeartbeats 16000000
section
open Go.RowKit
def pad(zs:List Int):List Int:=zs++replicate (508-zs.length) 0
def iU(zs:List Int):List Int:=pad zs++le 4 (aM.crc (pad zs))
theorem Ke(zs:List Int)(h:zs.length≤508):(pad zs).length=508:=by
 unfold pad;rw[length_append,List.length_replicate];omega
theorem AT(zs:List Int)(h:zs.length≤508):(iU zs).length=512:=by
 unfold iU;rw[length_append,Ke zs h,fR]
theorem vC(zs:List Int)(h:∀z∈zs,0≤z∧z<256):∀z∈pad zs,0≤z∧z<256:=by
 intro z hz;unfold pad at hz;rw[mem_append] at hz;rcases hz with hz|hz
 ·exact h z hz
 ·rw[(List.mem_replicate.1 hz).2];omega
theorem AU(zs:List Int)(hz:∀z∈zs,0≤z∧z<256):aM.crc zs<4294967296:=aM.oI _ _ (aM.J1 zs hz) (by omega)
theorem Kg(g base:Nat)(xs:List Int)(w:World)(h:w.ownsRow base 5 1 (.slice (some ⟨g,0,none⟩) xs.length 512) xs.length (xs.map (Value.int .u8)))(hk:xs.length≤508)(hb:∀z∈xs,0≤z∧z<256):
 Calls prog 62 #[.slice (some ⟨g,0,none⟩) xs.length 512] w fun e w'=>e=.returned (.slice (some ⟨g,0,none⟩) 512 512)∧w'.ownsRow base 5 1 (.slice (some ⟨g,0,none⟩) 512 512) 512 ((iU xs).map (Value.int .u8))∧w.grownBy w' (some g):=by
 have H:=aa h;have HB:=aa (vC xs hb);have HS:=ae (iU xs=pad xs++le 4 (aM.crc (pad xs))) rfl;have HP:=ae (pad xs=xs++replicate (508-xs.length) 0) rfl;clear h hb;go_enter func62,ntmps62;go_wp2_with fail;refine(sx g base xs.length 512 508 _ _ H.out (by omega) (by omega) (by omega)).mono ?_;rintro e w1 ⟨rfl,o1,g1⟩;rw[←map_append, ←HP.out] at o1;have O1:=aa (ai o1 g1);clear o1 g1;go_wp2_with fail;refine(Ka _ (pad xs) _ (Rd.own O1.out.1) HB.out).mono ?_;rintro e w2 ⟨rfl,rfl⟩;have hc:aM.crc (pad xs)<4294967296:=AU _ HB.out;go_wp2_with fail;refine(jW g base 508 512 (aM.crc (pad xs)) _ _ O1.out.1 (by omega) (by omega) hc).mono ?_;rintro e w3 ⟨rfl,o3,g3⟩;rw[←map_append, ←HS.out] at o3;have O3:=aa (ai o3 (gT O1.out.2 g3));clear o3 g3;go_wp2;go_ret;exact⟨rfl,O3.out.1,O3.out.2⟩
theorem Kh(v:Value)(zs:List Int)(w:World)(h:Rd .u8 w v zs)(h0:0<zs.length)(hk:zs.length≤508)(hb:∀z∈zs,0≤z∧z<256):
 Calls prog 44 #[v] w fun e w'=>∃v',e=.returned v'∧w'.ownsRow w.heap.size 5 1 v' 512 ((iU zs).map (Value.int .u8))∧Below w.heap.size w w':=by
 obtain⟨i0,hi,hz0,hz1',hz2⟩:=info_parts eO;have H:=aa h;have HB:=aa (vC zs hb);have HS:=ae (iU zs=pad zs++le 4 (aM.crc (pad zs))) rfl;have HP:=ae (pad zs=zs++replicate (508-zs.length) 0) rfl;have hc:aM.crc (pad zs)<4294967296:=AU _ HB.out;clear h hb;go_enter func44,ntmps44;go_wp2_with fail;refine(tH v zs 508 _ H.out h0 hk (by omega)).mono ?_;rintro e w1 ⟨v1,rfl,o1,b1⟩;rw[←HP.out] at o1;have O1:=aa (ai o1 b1);clear o1 b1;go_wp2_with fail;refine(Kb _ (pad zs) _ (Rd.own O1.out.1) HB.out).mono ?_;rintro e w2 ⟨rfl,rfl⟩;go_wp2_with fail;refine(jl (aM.crc (pad zs)) 4 _ (by omega) (by omega) (by omega)).mono ?_;rintro e w3 ⟨g3,SW,rfl,o3,b3⟩;have O3:=aa (ai (cC O1.out.1 b3) (ai o3 (O1.out.2.trans (b3.mono O1.out.2.size))));have hs3:=O3.out.2.2.size;clear o3 b3;go_wp2_with (at_builtin;refine kP _ rfl (.tmp 6) (.tmp 10) 22 rfl w.heap.size 5 i0 (.int .u8 0) 1 1 underlying22 hi hz0 hz1' hz2 rfl (by decide) _ _ _ rfl O3.out.1 ⟨g3,0,none⟩ 4 SW ((le 4 (aM.crc (pad zs))).map (Value.int .u8)) rfl (by simp[fR]) (O3.out.2.1.cells rfl) (ints_oneCell _ _) (by omega) (by unfold maxLen;omega) (by omega) (by omega) ?_;intro v4 w4 o4 g4 f4);have H4:=ae (w4.ownsRow w.heap.size 5 1 v4 512 ((iU zs).map (Value.int .u8))∧Below w.heap.size w w4) (⟨by rw[HS.out,map_append];exact o4,O3.out.2.2.grown g4 (by omega) (fun r h=>(O3.out.1.lt r h).1)⟩);clear o4 g4 f4;go_wp2;go_ret;exact⟨_,rfl,H4.out.1,H4.out.2⟩
theorem Ki{P:Program}(w:World){o:Oper}{a:Act}{K:Act→World→Prop}{Q:Exit→Act→World→Prop}
 (s x:Operand) (t:TypeId) (hop:o.op=Op.call {callee:=Callee.builtin Builtin.append,args:=#[s,x],argTypes:=#[t,t]})
 (base:Nat) (e:TypeId) (i:TypeInfo) (size:Nat) (h1:P.underlying t=some (.slice e)) (h2:P.info? e=some i) (h4:i.size=size)
 (g k cap:Nat) (xs:List Value) (hs:a.eval s=.slice (some ⟨g,0,none⟩) k cap) (hown:w.ownsRow base e size (.slice (some ⟨g,0,none⟩) k cap) k xs) (ad:Addr) (m c:Nat) (news:List Value) (hx:a.eval x=.slice (some ad) m c) (hn:news.length=m*size)
 (hc:∀j u,news[j]?=some u→w.cell? (ad.add j)=some u) (h1c:∀u∈news,u.oneCell'=true) (b1:k+m≤cap)
 (hK:∀w',w'.ownsRow base e size (.slice (some ⟨g,0,none⟩) (k+m) cap) (k+m) (xs++news)→w.grownBy w' (some g)→K (a.put o.dst (.slice (some ⟨g,0,none⟩) (k+m) cap)) w'):
 o.wp P a w K Q:=by
 obtain⟨w',hrun,r1,r2⟩:=run_append_fits (P:=P) w base t o.type e i size h1 h2 h4 g k cap xs hown ad m c news hn hc h1c b1;unfold Oper.wp;simp[execOp,hop,resolve,invoke,builtin,hs,hx,hrun,Result.andThen];exact hK w' r1 r2
theorem Kj(w:World):(Instr.makeSlice 22 (.int .i64 0) (.int .i64 512)).run prog w=.ok (.slice (some ⟨w.heap.size,0,none⟩) 0 512) (w.alloc (.cells (Array.replicate 512 (.int .u8 0)) 5)):=by kernel_rfl
theorem Kk(b0 b1 b2 b3 b4 b5 b6 b7:Int)(w:World):
 Calls prog 58 #[.agg #[.int .u8 b0,.int .u8 b1,.int .u8 b2,.int .u8 b3,.int .u8 b4,.int .u8 b5,.int .u8 b6,.int .u8 b7]] w fun e w'=>e=.returned (.slice (some ⟨w.heap.size+1,0,none⟩) 8 512)∧w'.ownsRow w.heap.size 5 1 (.slice (some ⟨w.heap.size+1,0,none⟩) 8 512) 8 (([b0,b1,b2,b3,b4,b5,b6,b7]:List Int).map (Value.int .u8))∧Below w.heap.size w w':=by
 obtain⟨i0,hi,hz0,hz1',hz2⟩:=info_parts eO;obtain⟨W,hW⟩:∃W,W=w.alloc (.cells #[.int .u8 b0,.int .u8 b1,.int .u8 b2,.int .u8 b3,.int .u8 b4,.int .u8 b5,.int .u8 b6,.int .u8 b7] 124):=⟨_,rfl⟩;have K0:=ae (af W w.heap.size #[.int .u8 b0,.int .u8 b1,.int .u8 b2,.int .u8 b3,.int .u8 b4,.int .u8 b5,.int .u8 b6,.int .u8 b7] 124∧Below w.heap.size w W∧W.heap.size=w.heap.size+1) (by rw[hW];exact⟨af.new w _ _,ak.alloc aj _,by simp⟩);have hlt:w.heap.size<W.heap.size:=K0.out.1.lt;have hmk:=Kj;have OWN:=aa (World.ownsRow_made (base:=W.heap.size) (e:=5) (size:=1) W (Array.replicate 512 (.int .u8 0)) 512 aj (by unfold maxLen;omega) (by simp));have HW:=aa hW;clear hW;go_enter func58,ntmps58;go_wp2;rw[←HW.out];refine bg (fun w'=>Below W.heap.size W w') (ak.drew) fun hH=>?_;refine lF 1 (.slice (some ⟨w.heap.size,0,none⟩) 8 8) rfl hH ?_;try simp only[Act.put,List.setIfInBounds_toArray,set_cons_zero,set_cons_succ]
 refine aG 0 rfl fun K hK=>?_;go_simp;refine hK.out _ _ ((Below.refl W.heap.size W).drew.alloc aj _) (fun hH2=>?_);clear hK K hH;try simp only[Act.put,List.setIfInBounds_toArray,set_cons_zero,set_cons_succ]
 refine aG 2 rfl fun K hK=>?_;rw[if_pos (by rfl)];refine Ki _ (.tmp 3) (.tmp 4) 22 rfl W.heap.size 5 i0 1 underlying22 hi hz1' W.heap.size 0 512 [] rfl OWN.out.drew ⟨w.heap.size,0,none⟩ 8 8 (([b0,b1,b2,b3,b4,b5,b6,b7]:List Int).map (Value.int .u8)) rfl rfl (fun j u hj=>?_) (ints_oneCell _ _) (by omega) ?_
 ·have ea:(⟨w.heap.size,0,none⟩:Addr).add j=⟨w.heap.size,j,none⟩:=by unfold Addr.add;split<;>simp_all
  rw[ea,hH2.cell (p:=⟨w.heap.size,j,none⟩) hlt,K0.out.1.cell j, ←hj,List.getElem?_toArray];rfl
 ·intro w3 o3 g3;have H3:=ae (w3.ownsRow w.heap.size 5 1 (.slice (some ⟨W.heap.size,0,none⟩) 8 512) 8 (([b0,b1,b2,b3,b4,b5,b6,b7]:List Int).map (Value.int .u8))∧Below w.heap.size w w3) (⟨cH (by simpa using o3) (Nat.le_of_lt hlt),K0.out.2.1.trans (vA g3 (Nat.le_of_lt hlt))⟩);refine hK.out _ _ (vA g3 aj) (fun hH3=>?_);clear hK K o3 g3 hH2;try simp only[Act.put,List.setIfInBounds_toArray,set_cons_zero,set_cons_succ]
  refine aG 3 rfl fun K hK=>?_;go_simp;refine hK.out _ _ hH3 (fun Wm=>?_);clear hK K;try simp only[Act.put,List.setIfInBounds_toArray,set_cons_zero,set_cons_succ]
  refine aV ?_;clear hH3 Wm;go_wp2;go_ret;have e:=K0.out.2.2;rw[←e];exact⟨rfl,H3.out.1,H3.out.2⟩
def nC:List Int:=[115,110,97,112,115,104,111,116]
theorem Kl:(prog.info? 124).map (·.size)=some 8:=by kernel_rfl
def lD(nm:ByteArray):List Int:=nm.data.toList.map fun b=>(b.toNat:Int)
def AV(a:Nat)(nm:ByteArray)(b c:Nat)(s:Int)(ds:List Int)(p q:Int):List Int:=nC++le 1 a++le 1 nm.size++lD nm++replicate (40-(10+nm.size)) 0++le 8 b++le 8 c++dH s ds p q
structure Ls(w wr:World)(g k:Nat)(xs:List Int)(C:Array Value)(t:TypeId):Prop where
 own:wr.ownsRow w.heap.size 5 1 (.slice (some ⟨g,0,none⟩) k 512) k (xs.map (Value.int .u8))
 blk:af wr w.heap.size C t
 old:Below w.heap.size w wr
 lt:w.heap.size<g
theorem Ls.step{w wr w':World}{g k k':Nat}{xs ys:List Int}{C:Array Value}{t:TypeId}(h:Ls w wr g k xs C t)(ho:w'.ownsRow w.heap.size 5 1 (.slice (some ⟨g,0,none⟩) k' 512) k' (xs.map (Value.int .u8)++ys.map (Value.int .u8)))(hg:wr.grownBy w' (some g)):Ls w w' g k' (xs++ys) C t:=
 ⟨by rw[map_append];exact ho,(hg.block _ h.blk.lt (by have:=h.lt;simp;omega)).trans h.blk,h.old.grown hg h.old.size (fun k e=>by cases e;exact Nat.le_of_lt h.lt),h.lt⟩
theorem jt:∀(m n:Nat),∀z∈le m n,0≤z∧z<256
 |0,_,z,h=>by cases h
 |m+1,n,z,h=>by
  rw[le,List.mem_cons] at h;rcases h with rfl|h
  ·omega
  ·exact jt m _ z h
theorem apart{v x:Value}(m:Nat)(h1:∀k,v.ownBlock=some k→m≤k)(h2:∀k,x.ownBlock=some k→k<m):v.ownBlock=none∨v.ownBlock≠x.ownBlock:=by
 cases hv:v.ownBlock with
 |none=>exact .inl rfl
 |some k=>
  refine .inr fun h=>?_;have a:=h1 k hv;have b:=h2 k h.symm;omega
theorem Km{v x:Value}{l1 h1 l2 h2:Nat}(a:∀k,v.ownBlock=some k→l1≤k∧k<h1)(b:∀k,x.ownBlock=some k→l2≤k∧k<h2)(h:h1≤l2∨h2≤l1):v.ownBlock=none∨v.ownBlock≠x.ownBlock:=by
 cases hv:v.ownBlock with
 |none=>exact .inl rfl
 |some k=>
  refine .inr fun e=>?_;have p:=a k hv;have q:=b k e.symm;omega
def iV:List Int:=[114,111,111,116,114,101,99,49]
def lE(w:World):Prop:=w.rangeAt 0 0 (iV.map (Value.int .u8))
theorem lE.below{w w':World}(h:lE w)(hb:Below w.heap.size w w'):lE w':=fun j v hv=>by
 have h1:=h j v hv;exact(hb.cell (p:=⟨0,0+j,none⟩) (eu h1)).trans h1
def iW(gen bl cu ck op ev lg:Nat)(s1:Int)(ds1:List Int)(p1 q1 s2:Int)(aq:List Int)(p2 q2:Int):List Int:=iV++le 8 gen++le 4 bl++le 4 cu++le 8 ck++le 8 op++le 4 ev++le 4 lg++dH s1 ds1 p1 q1++dH s2 aq p2 q2
def jL(gen bl cu ck op ev lg:Nat)(s1:Int)(ds1:List Int)(p1 q1 s2:Int)(aq:List Int)(p2 q2:Int)(sn:List Int):List Int:=iW gen bl cu ck op ev lg s1 ds1 p1 q1 s2 aq p2 q2++dA sn
theorem AW(gen bl cu ck op ev lg:Nat)(s1:Int)(ds1:List Int)(p1 q1 s2:Int)(aq:List Int)(p2 q2:Int)(h1:ds1.length=12)(h2:aq.length=12):(iW gen bl cu ck op ev lg s1 ds1 p1 q1 s2 aq p2 q2).length=176:=by
 unfold iW;simp only[length_append,fR,mu s1 ds1 p1 q1 h1,mu s2 aq p2 q2 h2,iV,List.length_cons,List.length_nil]
theorem sC(gen bl cu ck op ev lg:Nat)(s1:Int)(ds1:List Int)(p1 q1 s2:Int)(aq:List Int)(p2 q2:Int)(sn:List Int)(h1:ds1.length=12)(h2:aq.length=12)(h3:sn.length=31):(jL gen bl cu ck op ev lg s1 ds1 p1 q1 s2 aq p2 q2 sn).length=300:=by
 unfold jL;rw[length_append,AW _ _ _ _ _ _ _ _ _ _ _ _ _ _ _ h1 h2,pF,h3]
theorem Kn(gen bl cu ck op ev lg:Nat)(s1:Int)(ds1:List Int)(p1 q1 s2:Int)(aq:List Int)(p2 q2:Int)(sn:List Int)(w:World)(hd1:ds1.length=12)(hd2:aq.length=12)(hsn:sn.length=31)(a0:gen<281474976710656)(a1:bl<2049)(a2:cu<2049)(a3:ck<281474976710656)(a4:op<281474976710656)(a5:ev<2049)(a6:lg<65537)(hs1:0≤s1∧s1≤262144)(hp1:∀z∈ds1++[p1,q1],0≤z∧z<2048)(hs2:0≤s2∧s2≤262144)(hp2:∀z∈aq++[p2,q2],0≤z∧z<2048)(hps:∀z∈sn,0≤z∧z<2048)(hbb:∀z∈jL gen bl cu ck op ev lg s1 ds1 p1 q1 s2 aq p2 q2 sn,0≤z∧z<256)(hL:lE w):
 Calls prog 22 #[.agg (an (bC (gen:Int) (bl:Int) (cu:Int) (ck:Int) (op:Int) (ev:Int) (lg:Int) s1 ds1 p1 q1 s2 aq p2 q2 sn))] w fun e w'=>∃v',e=.returned v'∧w'.ownsRow w.heap.size 5 1 v' 512 ((iU (jL gen bl cu ck op ev lg s1 ds1 p1 q1 s2 aq p2 q2 sn)).map (Value.int .u8))∧Below w.heap.size w w':=by
 have HD:=aa (ai hd1 (ai hd2 hsn));have QC:=aa (ai hs1 hp1);have HS2:=aa (ai hs2 hp2);have HP:=aa hps;have Pu:=aa hbb;have vX:=aa (sC gen bl cu ck op ev lg s1 ds1 p1 q1 s2 aq p2 q2 sn hd1 hd2 hsn);have No:=ae ((an (aD s1 ds1 p1 q1)).size=15) (by rw[ct];exact dw _ _ _ _ HD.out.1);have NJ:=ae ((an (aD s2 aq p2 q2)).size=15) (by rw[ct];exact dw _ _ _ _ HD.out.2.1);have HX:=aa (fun k hk w=>AL sn k HD.out.2.2 hk w);have hb0:Below w.heap.size w (w.alloc (.cells (an (bC (gen:Int) (bl:Int) (cu:Int) (ck:Int) (op:Int) (ev:Int) (lg:Int) s1 ds1 p1 q1 s2 aq p2 q2 sn)) 52)):=ak.alloc aj _;have K0:=aa (ai (af.new w (an (bC (gen:Int) (bl:Int) (cu:Int) (ck:Int) (op:Int) (ev:Int) (lg:Int) s1 ds1 p1 q1 s2 aq p2 q2 sn)) 52) (ai hb0 (hL.below hb0)));clear hd1 hd2 hsn hs1 hs2 hp1 hp2 hps hbb hb0 hL;go_enter func22,ntmps22;go_wp2_with (first|(refine wpList_load_mid rfl 124 _ rfl 0 0 rfl (iV.map (Value.int .u8)) _ K0.out.2.2 underlying124 rfl Kl ?_)|(go_at_call 58;fail));refine(Kk 114 111 111 116 114 101 99 49 _).mono ?_;rintro e w1 ⟨rfl,o1,b1⟩;rw[World.size_alloc] at o1⊢;have L1:=ae (Ls w w1 (w.heap.size+1+1) 8 iV (an (bC (gen:Int) (bl:Int) (cu:Int) (ck:Int) (op:Int) (ev:Int) (lg:Int) s1 ds1 p1 q1 s2 aq p2 q2 sn)) 52) (⟨cH o1 (by omega),K0.out.1.below b1 K0.out.1.lt,K0.out.2.1.trans (b1.mono K0.out.2.1.size),by omega⟩);clear o1 b1 K0;have c:=(L1.out.blk.cell 0).trans (show(an (bC (gen:Int) (bl:Int) (cu:Int) (ck:Int) (op:Int) (ev:Int) (lg:Int) s1 ds1 p1 q1 s2 aq p2 q2 sn))[0]?=some (.int .i64 (gen:Int)) from rfl);go_wp2_with (go_at_call 59;fail);refine(mY (w.heap.size+1+1) w.heap.size 8 512 gen _ _ L1.out.own (by omega) (by omega) (by omega)).mono ?_;rintro e w2 ⟨rfl,o,g⟩;have L2:=aa (L1.out.step o g);clear o g L1 c;have c:=(L2.out.blk.cell 1).trans (show(an (bC (gen:Int) (bl:Int) (cu:Int) (ck:Int) (op:Int) (ev:Int) (lg:Int) s1 ds1 p1 q1 s2 aq p2 q2 sn))[1]?=some (.int .i64 (bl:Int)) from rfl);go_wp2_with (go_at_call 60;fail);refine(jW (w.heap.size+1+1) w.heap.size 16 512 bl _ _ L2.out.own (by omega) (by omega) (by omega)).mono ?_;rintro e w3 ⟨rfl,o,g⟩;have L3:=aa (L2.out.step o g);clear o g L2 c;have c:=(L3.out.blk.cell 2).trans (show(an (bC (gen:Int) (bl:Int) (cu:Int) (ck:Int) (op:Int) (ev:Int) (lg:Int) s1 ds1 p1 q1 s2 aq p2 q2 sn))[2]?=some (.int .i64 (cu:Int)) from rfl);go_wp2_with (go_at_call 60;fail);refine(jW (w.heap.size+1+1) w.heap.size 20 512 cu _ _ L3.out.own (by omega) (by omega) (by omega)).mono ?_;rintro e w4 ⟨rfl,o,g⟩;have L4:=aa (L3.out.step o g);clear o g L3 c;have c:=(L4.out.blk.cell 3).trans (show(an (bC (gen:Int) (bl:Int) (cu:Int) (ck:Int) (op:Int) (ev:Int) (lg:Int) s1 ds1 p1 q1 s2 aq p2 q2 sn))[3]?=some (.int .i64 (ck:Int)) from rfl);go_wp2_with (go_at_call 59;fail);refine(mY (w.heap.size+1+1) w.heap.size 24 512 ck _ _ L4.out.own (by omega) (by omega) (by omega)).mono ?_;rintro e w5 ⟨rfl,o,g⟩;have L5:=aa (L4.out.step o g);clear o g L4 c;have c:=(L5.out.blk.cell 4).trans (show(an (bC (gen:Int) (bl:Int) (cu:Int) (ck:Int) (op:Int) (ev:Int) (lg:Int) s1 ds1 p1 q1 s2 aq p2 q2 sn))[4]?=some (.int .i64 (op:Int)) from rfl);go_wp2_with (go_at_call 59;fail);refine(mY (w.heap.size+1+1) w.heap.size 32 512 op _ _ L5.out.own (by omega) (by omega) (by omega)).mono ?_;rintro e w6 ⟨rfl,o,g⟩;have L6:=aa (L5.out.step o g);clear o g L5 c;have c:=(L6.out.blk.cell 5).trans (show(an (bC (gen:Int) (bl:Int) (cu:Int) (ck:Int) (op:Int) (ev:Int) (lg:Int) s1 ds1 p1 q1 s2 aq p2 q2 sn))[5]?=some (.int .i64 (ev:Int)) from rfl);go_wp2_with (go_at_call 60;fail);refine(jW (w.heap.size+1+1) w.heap.size 40 512 ev _ _ L6.out.own (by omega) (by omega) (by omega)).mono ?_;rintro e w7 ⟨rfl,o,g⟩;have L7:=aa (L6.out.step o g);clear o g L6 c;have c:=(L7.out.blk.cell 6).trans (show(an (bC (gen:Int) (bl:Int) (cu:Int) (ck:Int) (op:Int) (ev:Int) (lg:Int) s1 ds1 p1 q1 s2 aq p2 q2 sn))[6]?=some (.int .i64 (lg:Int)) from rfl);go_wp2_with (go_at_call 60;fail);refine(jW (w.heap.size+1+1) w.heap.size 44 512 lg _ _ L7.out.own (by omega) (by omega) (by omega)).mono ?_;rintro e w8 ⟨rfl,o,g⟩;have L8:=aa (L7.out.step o g);clear o g L7 c;have HR:=aa (mM (gen:Int) (bl:Int) (cu:Int) (ck:Int) (op:Int) (ev:Int) (lg:Int) s1 ds1 p1 q1 s2 aq p2 q2 sn HD.out.1 L8.out.blk);go_wp2_with (first|(refine wpList_load_mid rfl 31 _ rfl w.heap.size 7 rfl ((aD s1 ds1 p1 q1).map (Value.int .i64)) _ HR.out underlying31 rfl (by rw[length_map, ←ct,No.out];exact dV) ?_)|(go_at_call 61;fail));refine(vw (w.heap.size+1+1) w.heap.size 48 512 _ s1 ds1 p1 q1 _ L8.out.own (by omega) (by omega) HD.out.1 QC.out.1 QC.out.2).mono ?_;rintro e w9 ⟨rfl,o,g⟩;have L9:=aa (L8.out.step o g);clear o g L8 HR;have HR:=aa (oH (gen:Int) (bl:Int) (cu:Int) (ck:Int) (op:Int) (ev:Int) (lg:Int) s1 ds1 p1 q1 s2 aq p2 q2 sn HD.out.1 HD.out.2.1 L9.out.blk);go_wp2_with (first|(refine wpList_load_mid rfl 31 _ rfl w.heap.size 22 rfl ((aD s2 aq p2 q2).map (Value.int .i64)) _ HR.out underlying31 rfl (by rw[length_map, ←ct,NJ.out];exact dV) ?_)|(go_at_call 61;fail));refine(vw (w.heap.size+1+1) w.heap.size 112 512 _ s2 aq p2 q2 _ L9.out.own (by omega) (by omega) HD.out.2.1 HS2.out.1 HS2.out.2).mono ?_;rintro e je ⟨rfl,o,g⟩;have TP:=aa (L9.out.step o g);clear o g L9 HR;have LH:=ae (Ls w je (w.heap.size+1+1) 176 (iW gen bl cu ck op ev lg s1 ds1 p1 q1 s2 aq p2 q2) (an (bC (gen:Int) (bl:Int) (cu:Int) (ck:Int) (op:Int) (ev:Int) (lg:Int) s1 ds1 p1 q1 s2 aq p2 q2 sn)) 52) TP.out;have UH:=ae (jL gen bl cu ck op ev lg s1 ds1 p1 q1 s2 aq p2 q2 sn=iW gen bl cu ck op ev lg s1 ds1 p1 q1 s2 aq p2 q2++dA sn) rfl;generalize iW gen bl cu ck op ev lg s1 ds1 p1 q1 s2 aq p2 q2=hf at LH UH;obtain⟨bf,hbf⟩:∃bf,bf=jL gen bl cu ck op ev lg s1 ds1 p1 q1 s2 aq p2 q2 sn:=⟨_,rfl⟩;have HBG:=aa hbf;rw[←hbf] at UH vX Pu;clear hbf;clear TP;have HR:=aa (su (gen:Int) (bl:Int) (cu:Int) (ck:Int) (op:Int) (ev:Int) (lg:Int) s1 ds1 p1 q1 s2 aq p2 q2 sn HD.out.1 HD.out.2.1 HD.out.2.2 LH.out.blk);go_wp2_with (refine wpList_load_mid rfl 50 _ rfl w.heap.size 37 rfl (sn.map (Value.int .i64)) _ HR.out underlying50 rfl (by rw[length_map,HD.out.2.2];exact AJ) ?_);go_loopw [3,53] (fun o i wr=>∃j:Nat,j≤31∧i=.int .i64 j∧o=.slice (some ⟨w.heap.size+1+1,0,none⟩) (176+4*j) 512∧Ls w wr (w.heap.size+1+1) (176+4*j) (hf++dA (sn.take j)) (an (bC (gen:Int) (bl:Int) (cu:Int) (ck:Int) (op:Int) (ev:Int) (lg:Int) s1 ds1 p1 q1 s2 aq p2 q2 sn)) 52) (fun _ i _=>31-(intOf i).toNat)
 case atStart=>exact⟨0,by omega,rfl,rfl,by simpa [dA] using LH.out⟩
 case round=>
  clear LH HR;obtain⟨j,hj,rfl,rfl,hls⟩:=hrel;have HC:=aa hls;clear hls;by_cases hlt:j<31
  ·have hjl:j<sn.length:=(by rw[HD.out.2.2];exact hlt);have hix:∀w,(Instr.index 50 (.agg (sn.map (Value.int .i64)).toArray) (.int .i64 j)).run prog w=.ok (.int .i64 (sn.getD j 0)) w:=fun w=>HX.out j hlt w;have hz1:=HP.out (sn.getD j 0) (by simp[getD,hjl]);have HT:=aa (pG sn j hjl);clear hjl;generalize sn.getD j 0=z at hix HT hz1;obtain⟨y,rfl⟩:=Int.eq_ofNat_of_zero_le hz1.1;obtain⟨_,hy2⟩:=hz1;have hy:y<2048:=(by omega);clear hy2;rw[Int.toNat_natCast] at HT;go_wp2_with (go_at_call 60;fail);refine(jW (w.heap.size+1+1) w.heap.size (176+4*j) 512 y _ _ HC.out.own (by omega) (by omega) (by omega)).mono ?_;rintro e w2 ⟨rfl,o2,g2⟩;have HW:=ae (Ls w w2 (w.heap.size+1+1) (176+4*(j+1)) (hf++dA (sn.take (j+1))) (an (bC (gen:Int) (bl:Int) (cu:Int) (ck:Int) (op:Int) (ev:Int) (lg:Int) s1 ds1 p1 q1 s2 aq p2 q2 sn)) 52) (by
    rw[HT.out, ←List.append_assoc,show 176+4*(j+1)=176+4*j+4 by omega];exact HC.out.step o2 g2)
   clear o2 g2;go_wp2;go_roundw
   case rel=>exact⟨j+1,by omega,by go_num,by rw[show 176+4*(j+1)=176+4*j+4 by omega],HW.out⟩
   case measure=>simp[intOf];omega
  ·have e31:j=31:=(by omega);subst e31;rw[List.take_of_length_le (by rw[HD.out.2.2];omega), ←UH.out] at HC;have LF:=ae (Ls w wr (w.heap.size+1+1) bf.length bf (an (bC (gen:Int) (bl:Int) (cu:Int) (ck:Int) (op:Int) (ev:Int) (lg:Int) s1 ds1 p1 q1 s2 aq p2 q2 sn)) 52) (by rw[vX.out];exact HC.out);go_wp2_with (go_at_call 62;fail);have hS:=Kg (w.heap.size+1+1) w.heap.size bf _ LF.out.own (by rw[vX.out];omega) Pu.out;rw[vX.out] at hS;refine hS.mono ?_;clear hS;rintro e w9 ⟨rfl,o9,g9⟩;have H9:=aa (ai o9 (LF.out.old.grown g9 LF.out.old.size (fun k e=>by cases e;exact Nat.le_of_lt LF.out.lt)));clear o9 g9;go_wp2;go_ret;exact⟨.slice (some ⟨w.heap.size+1+1,0,none⟩) 512 512,rfl,by rw[←HBG.out];exact H9.out.1,H9.out.2⟩
def oJ(gen bl cu ck op ev lg s1:Int)(ds1:List Int)(p1 q1 s2:Int)(aq:List Int)(p2 q2:Int)(sn:List Int):List Int:=if dM gen bl cu ck op ev lg s1 ds1 p1 q1 s2 aq p2 q2 sn=true then iU (jL gen.toNat bl.toNat cu.toNat ck.toNat op.toNat ev.toNat lg.toNat s1 ds1 p1 q1 s2 aq p2 q2 sn) else []
def p6(gen bl cu ck op ev lg s1:Int)(ds1:List Int)(p1 q1 s2:Int)(aq:List Int)(p2 q2:Int)(sn:List Int):Int:=if dM gen bl cu ck op ev lg s1 ds1 p1 q1 s2 aq p2 q2 sn=true then 0 else 7
theorem AX(s:Int)(ds:List Int)(p q:Int):∀z∈dH s ds p q,0≤z∧z<256:=by
 intro z h;unfold dH dA at h;rw[mem_append] at h;rcases h with h|h
 ·exact jt _ _ z h
 ·obtain⟨v,_,hv⟩:=List.mem_flatMap.1 h;exact jt _ _ z hv
theorem vF(gen bl cu ck op ev lg:Nat)(s1:Int)(ds1:List Int)(p1 q1 s2:Int)(aq:List Int)(p2 q2:Int)(sn:List Int):∀z∈jL gen bl cu ck op ev lg s1 ds1 p1 q1 s2 aq p2 q2 sn,0≤z∧z<256:=by
 intro z h;unfold jL iW at h;simp only[mem_append] at h;rcases h with(((((((((h|h)|h)|h)|h)|h)|h)|h)|h)|h)|h
 ·simp only[iV,List.mem_cons,List.not_mem_nil,or_false] at h;omega
 ·exact jt _ _ z h
 ·exact jt _ _ z h
 ·exact jt _ _ z h
 ·exact jt _ _ z h
 ·exact jt _ _ z h
 ·exact jt _ _ z h
 ·exact jt _ _ z h
 ·exact AX _ _ _ _ z h
 ·exact AX _ _ _ _ z h
 ·unfold dA at h;obtain⟨v,_,hv⟩:=List.mem_flatMap.1 h;exact jt _ _ z hv
structure AY(gen bl cu ck op ev lg s1:Int)(ds1:List Int)(p1 q1 s2:Int)(aq:List Int)(p2 q2:Int)(sn:List Int):Prop where
 g0:0≤gen∧gen<281474976710656
 g1:0≤bl∧bl<2049
 g2:0≤cu∧cu<2049
 g3:0≤ck∧ck<281474976710656
 g4:0≤op∧op<281474976710656
 g5:0≤ev∧ev<2049
 g6:0≤lg∧lg<65537
 r1:0≤s1∧s1≤262144
 q1:∀z∈ds1++[p1,q1],0≤z∧z<2048
 r2:0≤s2∧s2≤262144
 q2:∀z∈aq++[p2,q2],0≤z∧z<2048
 sn:∀z∈sn,0≤z∧z<2048
theorem AZ(gen bl cu ck op ev lg s1:Int)(ds1:List Int)(p1 q1 s2:Int)(aq:List Int)(p2 q2:Int)(sn:List Int)(hd1:ds1.length=12)(hd2:aq.length=12)(h:dM gen bl cu ck op ev lg s1 ds1 p1 q1 s2 aq p2 q2 sn=true):AY gen bl cu ck op ev lg s1 ds1 p1 q1 s2 aq p2 q2 sn:=by
 unfold dM at h;simp only[and_eq_true,decide_eq_true_eq] at h;obtain⟨⟨⟨⟨⟨⟨⟨⟨⟨⟨⟨⟨h1,h2⟩,h3⟩,h4⟩,h5⟩,h6⟩,h7⟩,h8,_⟩,_⟩,h10⟩,_⟩,_⟩,UP⟩:=h;have g1:=gQ h1;have g2:=gQ h2;have g3:=gQ h3;have g4:=gQ h4;have g6:=gQ h6;have e1:=tG hd1 h8;have e2:=tG hd2 h10;have g7:lg=0∨(8192≤lg∧lg≤65536):=by unfold gu at h7;simpa using h7
 refine⟨by omega,by omega,by omega,by omega,by omega,by omega,by omega,e1.1,e1.2,e2.1,e2.2,fun z hz=>?_⟩;unfold l5 at UP;have:=List.all_eq_true.1 UP z hz;unfold cI at this;simp at this;omega
def jM:List Int:=replicate 12 0
def eG(N:Nat):List Int:=replicate (N*512) 0
def aL(N:Nat):Nat:=(N+127)/128
theorem A6(zs:List Int):ZR zs 0 jM 0 0=([],false):=by
 unfold ZR;exact AF _ _ _
theorem A8(N:Nat)(h:2≤N):∀k,k≤N→eN (cU N 3) k=true
 |0,_=>rfl
 |k+1,hk=>by
  rw[eN,A8 N h k (by omega),Ac];by_cases h1:k<3
  ·rw[if_pos ⟨by omega,h1⟩];simp[iy,gU]
  ·rw[if_neg (by omega)];simp[iy,gU];omega
theorem Ko{N:Nat}(h:64≤N∧N≤2048):eD (cU N 3)=true:=by
 unfold eD;rw[jr,A8 N (by omega) N aj];simp[jR,h.1,h.2]
theorem vG{N:Nat}(h:64≤N∧N≤2048):dx (eG N).length=true:=by
 unfold eG dx;rw[List.length_replicate,Nat.mul_mod_left,Nat.mul_div_cancel _ (by omega)];simp[h.1,h.2]
theorem Kr{N:Nat}(h:64≤N∧N≤2048):fN (eG N) 0 jM 0 0 (cU N 3) 3=true:=by
 unfold fN fG;rw[vG h,Ko h,show cJ 0 jM 0 0=true by decide];unfold mJ ld l9 eG;rw[jr,List.length_replicate,Nat.mul_div_cancel _ (by omega)];simp;omega
theorem Ks(N:Nat):eS (eG N) 0 jM 0 0 N=replicate N 0:=by
 unfold eS;rw[show(0:Int).toNat/4=0 from rfl];simp[dr]
theorem vH(n k:Nat):(replicate n (0:Int)).getD k 0=0:=by
 simp[getD,List.getElem?_replicate];split<;>rfl
theorem Ba(zs:List Int)(m k:Nat):(gm m (gr zs 0 jM 0 0)).getD k 0=0:=by
 have e:gr zs 0 jM 0 0=fun _=>[]:=by
  unfold gr;rw[A6];rfl
 rw[e];unfold gm;have e2:(range m).map (fun k=>((fun _=>([]:List Int)) 0).getD k 0)++[((fun _=>([]:List Int)) 1).getD 0 0]=replicate (m+1) 0:=by
  refine List.ext_getElem (by simp) (fun i h1 h2=>?_);rw[List.getElem_replicate,List.getElem_append];split<;>simp
 exact(congrArg (fun l:List Int=>l.getD k 0) e2).trans (vH _ _)
theorem vI{N:Nat}(h:64≤N∧N≤2048):kj (eG N) 0 jM 0 0 (cU N 3) 3=(dS (aL N) N (bR (aL N)),true):=by
 unfold kj;rw[jr,Ks];have e:gJ ((N+127)/128) (cU N 3) 3=dS (aL N) N 0:=by
  unfold gJ dS aL;have e:(range ((N+127)/128+1)).map (fun k=>if k<0 then((3+k:Nat):Int) else 0)=replicate ((N+127)/128+1) 0:=by
   refine List.ext_getElem (by simp) (fun i h1 h2=>?_);simp
  rw[e];rfl
 rw[e];exact IL (fun k=>vH _ _) (fun k=>Ba _ _ _) h.2 (by omega) (by omega)
theorem Kt{N:Nat}(h:64≤N∧N≤2048):gK (eG N) 0 jM 0 0 (cU N 3) 3=0:=by
 unfold gK;rw[Kr h,A6,vI h];simp
def iq(m k:Nat):Int:=if k<bR m then((3+k:Nat):Int) else 0
theorem Ku{N:Nat}(h:64≤N∧N≤2048):nw (eG N) 0 jM 0 0 (cU N 3) 3=iq (aL N):=by
 unfold nw;rw[jr,vI h];funext k;unfold iF iq gI;rw[show(dS (aL N) N (bR (aL N))).od=range (bR (aL N)) from rfl,vh,Ba];have ht:bR (aL N)≤aL N+1:=by unfold bR;split<;>omega
 by_cases hk:k<bR (aL N)
 ·rw[if_pos (List.mem_range.2 hk),if_pos hk,if_pos ⟨by omega,hk⟩]
 ·rw[if_neg (fun e=>hk (List.mem_range.1 e)),if_neg hk];simp
def ey(m:Nat):List Int:=(range 12).map fun j=>if j<m then((3+j:Nat):Int) else 0
def eA(m:Nat):Int:=if 12<m then((3+m:Nat):Int) else 0
theorem jN(m:Nat):(ey m).length=12:=by simp[ey]
theorem Kv(m N:Nat):jg m N (iq m)=aD (4*(N:Int)) (ey m) (eA m) 0:=by
 unfold jg aD ey eA;congr 1;have e:∀j,j<m→iq m j=((3+j:Nat):Int):=fun j hj=>by
  unfold iq bR;rw[if_pos (by split<;>omega)]
 have e2:iq m m=if 12<m then((3+m:Nat):Int) else 0:=by
  unfold iq bR;by_cases h:12<m
  ·rw[if_pos h,if_pos h,if_pos (by omega)]
  ·rw[if_neg h,if_neg h,if_neg (by omega)]
 rw[show(range 14)=range 12++[12,13] by decide,map_append];congr 1
 ·refine List.map_congr_left (fun j hj=>?_);have:=List.mem_range.1 hj;rw[if_pos this];by_cases h:j<m
  ·rw[if_pos h,if_pos h,e j h]
  ·rw[if_neg h,if_neg h]
 ·simp[e2]
def aq:List Int:=[2,0,0,0,0,0,0,0,0,0,0,0]
def iX:List Int:=replicate 31 0
theorem Kw(m i:Nat)(hi:i<12):(ey m)[i]?=some (if i<m then((3+i:Nat):Int) else 0):=by
 unfold ey;simp[hi]
theorem Kx(m i:Nat)(hi:i<14):(ey m++[eA m,0]).getD i 0=0∨∃v:Nat,(ey m++[eA m,0]).getD i 0=(v:Int)∧3≤v∧v≤3+m∧i<m∧i<13:=by
 by_cases h:i<12
 ·rw[getD,List.getElem?_append_left (by rw[jN];exact h),Kw m i h,Option.getD_some];by_cases h2:i<m
  ·rw[if_pos h2];exact .inr ⟨3+i,rfl,by omega,by omega,h2,by omega⟩
  ·rw[if_neg h2];exact .inl rfl
 ·rw[getD,List.getElem?_append_right (by rw[jN];omega),jN];rcases(show i=12∨i=13 by omega) with rfl|rfl
  ·show eA m=0∨∃v:Nat,eA m=(v:Int)∧_;unfold eA;by_cases h2:12<m
   ·rw[if_pos h2];exact .inr ⟨3+m,rfl,by omega,by omega,h2,by omega⟩
   ·rw[if_neg h2];exact .inl rfl
  ·exact .inl rfl
theorem Ky{N:Nat}(h:64≤N∧N≤2048):cJ (4*(N:Int)) (ey (aL N)) (eA (aL N)) 0=true:=by
 unfold cJ iN;rw[and_eq_true,and_eq_true,decide_eq_true_eq,decide_eq_true_eq];refine⟨⟨by omega,by omega⟩,?_⟩;rw[List.all_eq_true];intro i hi;have hi:=List.mem_range.1 hi;have hm:aL N≤16:=by unfold aL;omega
 have hB:(4*(N:Int)+511)/512=(aL N:Int):=by unfold aL;omega
 rw[hB];unfold gV;rcases Kx (aL N) i hi with e|⟨v,e,h1,h2,h3,h4⟩
 ·rw[e];simp[cI]
 ·have hl:fS i=(i:Int):=by unfold fS;rw[if_neg (by omega)]
  rw[e,hl];unfold cI;simp only[and_eq_true,or_eq_true,decide_eq_true_eq];exact⟨.inr ⟨by omega,by omega⟩,.inr (by omega)⟩
theorem Bb{N:Nat}{ev lg:Int}(h:64≤N∧N≤2048)(he:wi ev 0 1000=true)(hl:gu lg=true):dM 1 N ((3+bR (aL N):Nat):Int) 1 0 ev lg 256 aq 0 0 (4*(N:Int)) (ey (aL N)) (eA (aL N)) 0 iX=true:=by
 have hm:aL N≤16:=by unfold aL;omega
 have ht:bR (aL N)≤aL N+1:=by unfold bR;split<;>omega
 have a1:wi (N:Int) 64 2048=true:=by unfold wi;simp;omega
 have a2:(decide (2≤((3+bR (aL N):Nat):Int))&&decide (((3+bR (aL N):Nat):Int)<(N:Int)))=true:=by simp;omega
 have a3:gE aq 0 0 (N:Int)=true:=by
  unfold gE;simp[aq,cI];omega
 have a4:gE (ey (aL N)) (eA (aL N)) 0 (N:Int)=true:=by
  unfold gE;have b1:cI (eA (aL N)) (N:Int)=true:=by
   unfold eA cI;split
   ·simp only[or_eq_true,and_eq_true,decide_eq_true_eq];exact .inr ⟨by omega,by omega⟩
   ·simp
  have b2:((ey (aL N)).all fun x=>cI x (N:Int))=true:=by
   rw[List.all_eq_true];intro z hz;obtain⟨j,hj,rfl⟩:=List.mem_map.1 hz;have:=List.mem_range.1 hj;unfold cI;split
   ·simp only[or_eq_true,and_eq_true,decide_eq_true_eq];exact .inr ⟨by omega,by omega⟩
   ·simp
  rw[b1,b2];simp[cI]
 have a5:lB (4*(N:Int)) (N:Int)=true:=by unfold lB;simp
 have a6:l5 iX (N:Int)=true:=by unfold l5 iX;simp[cI]
 unfold dM;rw[a1,a2,he,hl,a3,Ky h,a4,a5,a6,show wi 1 1 1099511627776=true by decide,show wi 0 0 1099511627776=true by decide,show cJ 256 aq 0 0=true by decide,show jK 256=true by decide];rfl
def iY(w:World)(v:Value)(n:Nat)(zs:List Int):Prop:=
 zs.length=n*24∧∃a cap,v=.slice a n cap∧(0<n→∃b off,a=some ⟨b,off,none⟩∧b<w.heap.size∧∀i,i<n*24→w.cell? ⟨b,off+i,none⟩=some (.int .i64 (zs.getD i 0)))∧n≤cap∧cap≤maxLen
def er(zs:List Int)(k:Nat):List Int:=(zs.drop (k*24)).take 24
theorem oL(zs:List Int)(k n:Nat)(hz:zs.length=n*24)(hk:k<n):(er zs k).length=24:=by simp[er];omega
theorem Bc(zs:List Int)(k j:Nat)(hj:j<24):(er zs k).getD j 0=zs.getD (k*24+j) 0:=by
 simp[er,getD,hj]
theorem iY.below{w w':World}{v:Value}{n:Nat}{zs:List Int}(h:iY w v n zs)(hb:Below w.heap.size w w'):iY w' v n zs:=by
 obtain⟨hz,a,cap,rfl,hc,hcap⟩:=h;refine⟨hz,a,cap,rfl,fun hne=>?_,hcap⟩;obtain⟨b,off,rfl,hlt,hcell⟩:=hc hne;exact⟨b,off,rfl,Nat.lt_of_lt_of_le hlt hb.size,fun i hi=>(hb.cell (p:=⟨b,off+i,none⟩) hlt).trans (hcell i hi)⟩
theorem iY.parts{w:World}{v:Value}{n:Nat}{zs:List Int}(h:iY w v n zs):(∃a cap,v=.slice a n cap∧n<1)∨
 ∃b off cap,v=.slice (some ⟨b,off,none⟩) n cap∧b<w.heap.size∧∀i,i<n*24→w.cell? ⟨b,off+i,none⟩=some (.int .i64 (zs.getD i 0)):=by
 obtain⟨hz,a,cap,rfl,hc,_⟩:=h;rcases Nat.eq_zero_or_pos n with h0|h0
 ·exact .inl ⟨a,cap,rfl,by omega⟩
 ·obtain⟨b,off,rfl,hlt,hcell⟩:=hc h0;exact .inr ⟨b,off,cap,rfl,hlt,hcell⟩
theorem iY.len{w:World}{v:Value}{n:Nat}{zs:List Int}(h:iY w v n zs):n≤maxLen:=by
 obtain⟨_,_,cap,_,_,h1,h2⟩:=h;omega
theorem vK{w:World}{b off n k:Nat}{zs:List Int}(hz:zs.length=n*24)(hk:k<n)(hc:∀i,i<n*24→w.cell? ⟨b,off+i,none⟩=some (.int .i64 (zs.getD i 0))):w.rangeAt b (off+k*24) ((er zs k).map (Value.int .i64)):=by
 intro j v hv;have hj:j<24:=by
  have:=(List.getElem?_eq_some_iff.1 hv).1;rw[length_map,oL zs k n hz hk] at this;exact this
 have e:(er zs k)[j]?=some (zs.getD (k*24+j) 0):=by
  rw[←Bc zs k j hj];simp[getD,show j<(er zs k).length by rw[oL zs k n hz hk];exact hj]
 rw[List.getElem?_map,e] at hv;obtain rfl:=Option.some.inj hv;rw[Nat.add_assoc,hc (k*24+j) (by omega)]
theorem iY.own{w:World}{base:Nat}{e:TypeId}{v:Value}{n:Nat}{zs:List Int}(h:w.ownsRow base e 24 v n (zs.map (Value.int .i64))):iY w v n zs:=by
 have hl:zs.length=n*24:=by have:=h.1;simpa using this
 rcases h.2 with⟨rfl,h0⟩|⟨g,cap,cur,rfl,hb,hg,hnc,hcm,hcs,htake⟩
 ·subst h0;exact⟨hl,none,0,rfl,fun h=>absurd h (by omega),by simp,by simp⟩
 ·refine⟨hl,some ⟨g,0,none⟩,cap,rfl,fun _=>⟨g,0,rfl,(Array.getElem?_eq_some_iff.1 hg).1,fun i hi=>?_⟩,hnc,hcm⟩;have hc:=cell_of_row w g i cur e (0,0) hg;rw[Nat.zero_add,hc];have:(cur.toList.take (n*24))[i]?=(zs.map (Value.int .i64))[i]?:=by rw[htake]
  rw[List.getElem?_take,if_pos hi] at this;simpa [getD,show i<zs.length by omega] using this
end
end Go.Proofs.YtpplnhkpcpieoaaGreatDoor
