/- The program's walk over a tree: tell. -/
import Derived.Test.YtlimollpocagiaaGreatDoorXa08
import Derived.Shelf.Abstract
import Derived.Shelf.RegionOpen
import Derived.OwnWalkIn
import Derived.TacticsInMore
import Derived.LoopNIn
import Derived.LoopIn
import Derived.Sort.CutIn
namespace Go.Proofs.YtlimollpocagiaaGreatDoor
open Go.Proofs.Tryz
open _root_.List (range append_nil)
set_option linter.all false
set_option maxRecDepth 100000
set_option maxHeartbeats 16000000
section
open Go.RowKit Go.Shelf
attribute [local go_sem] Oper.semAt_some
theorem zO{F:Fence}(hd:F.depth=none)(k:Nat):F.room k:=fun d h=>by rw[hd] at h;cases h
theorem YieldAt.zP{m:Nat}(m':Nat){P:Program}{l:Nat}{args:Array Value}{W:World}{R:Ending→World→Prop}(h:YieldAt Fence.wide m P l args W R):YieldAt Fence.wide m' P l args W R:=by
 obtain⟨fn,tmps,assign,body,hy,hR⟩:=h;exact⟨fn,tmps,assign,body,hy,hR.1,fun c cs _=>hR.2 c cs (zO rfl _)⟩
def cG(cnt n:Nat)(W:Int→Nat→Int):Nat→Nat→Int→TL
 |0,r,p=>if cnt≤cC 0 r∨p=0 then([],false) else if be n p=false then([],true) else([(0,r,p)],false)
 |l+1,r,p=>if cnt≤cC (l+1) r∨p=0 then([],false) else if be n p=false then([],true) else bH ([(l+1,r,p)],false) (bR ((range 128).map fun k=>cG cnt n W l (bP l r k) (W p k)))
theorem zQ{cnt n:Nat}{W:Int→Nat→Int}{l r:Nat}{p:Int}(h:cnt≤cC l r∨p=0):cG cnt n W l r p=([],false):=by
 cases l with
 |zero=>unfold cG;rw[if_pos h]
 |succ l=>unfold cG;rw[if_pos h]
theorem zR{cnt n:Nat}{W:Int→Nat→Int}{l r:Nat}{p:Int}(h:¬(cnt≤cC l r∨p=0))(hg:be n p=false):cG cnt n W l r p=([],true):=by
 cases l with
 |zero=>unfold cG;rw[if_neg h,if_pos hg]
 |succ l=>unfold cG;rw[if_neg h,if_pos hg]
theorem tO{cnt n:Nat}{W:Int→Nat→Int}{r:Nat}{p:Int}(h:¬(cnt≤cC 0 r∨p=0))(hg:be n p=true):cG cnt n W 0 r p=([(0,r,p)],false):=by
 unfold cG;rw[if_neg h,if_neg (by rw[hg];decide)]
theorem tQ{cnt n:Nat}{W:Int→Nat→Int}{l r:Nat}{p:Int}(h:¬(cnt≤cC (l+1) r∨p=0))(hg:be n p=true):cG cnt n W (l+1) r p=bH ([(l+1,r,p)],false) (bR ((range 128).map fun k=>cG cnt n W l (bP l r k) (W p k))):=by
 conv=>lhs;unfold cG
 rw[if_neg h,if_neg (by rw[hg];decide)]
theorem zS{cnt n:Nat}{W:Int→Nat→Int}{l r:Nat}{p:Int}{Z:TL}{A:List HG}(h:¬(cnt≤cC l r∨p=0))(hg:be n p=true)(hF:fF Z A (cG cnt n W l r p)):A++[(l,r,p)]<+:Z.1:=by
 cases l with
 |zero=>rw[tO h hg] at hF;exact hF.pre
 |succ l=>rw[tQ h hg] at hF;exact hF.fst.pre
theorem qh:∀(L:List TL) (k:Nat) (a:TL),(∀x∈L.take k,x.2=false)→L[k]?=some a→a.2=true→bR L=((L.take k).flatMap (·.1)++a.1,true)
 |[],_,_,_,h,_=>by simp at h
 |b::L,0,a,_,h,ha=>by
  simp at h;subst h;obtain⟨b1,b2⟩:=b;simp at ha;subst ha;simp[bR,bH]
 |b::L,k+1,a,h,hk,ha=>by
  have hb:b.2=false:=h b (by simp);have ih:=qh L k a (fun x hx=>h x (by simp[hx])) (by simpa using hk) ha;unfold bR;rw[ih];unfold bH;simp[hb]
theorem nD{Z:TL}{A:List HG}{L:List TL}{k:Nat}{a:TL}(h:fF Z (A++(L.take k).flatMap (·.1)) (bR (L.drop k)))(hk:L[k]?=some a):
 fF Z (A++(L.take k).flatMap (·.1)) a∧(a.2=false→fF Z (A++(L.take (k+1)).flatMap (·.1)) (bR (L.drop (k+1)))):=by
 obtain⟨hlt,e⟩:=List.getElem?_eq_some_iff.1 hk;rw[List.drop_eq_getElem_cons hlt,e] at h;refine⟨h.fst,fun ha=>?_⟩;have:=h.snd ha;rw[List.take_succ_eq_append_getElem hlt,e,List.flatMap_append];simpa using this
theorem zT(ws:List Int)(k:Nat)(hl:ws.length=128)(hk:k<128)(w:World):(Instr.index 127 (.agg (ws.map (Value.int .i64)).toArray) (.int .i64 (k:Int))).run prog w=.ok (.int .i64 (ws.getD k 0)) w:=by
 have hg:k<ws.length:=by omega
 simp[Instr.index,run_underlying underlying127,asIntOf,go_sem,hg];intro h;omega
theorem zU{l r k:Nat}(hl:l≤1)(hk:k<128)(h:cC (l+1) r<512):cC l (bP l r k)≤100000:=by
 rcases Nat.le_one_iff_eq_zero_or_eq_one.1 hl with rfl|rfl
 ·simp[cC,bP] at h⊢;omega
 ·simp[cC,bP] at h⊢;omega
structure qi(n₀ z:Nat)(Ty:TypeId→Prop)(J:List TX→World→Prop)(Z:TL)(A:List HG)(L:List TL)(C D:Array Value)(W:World)(k:Nat)(wr:World):Prop where
 inv:J (aM (A++(L.take k).flatMap (·.1))) wr
 fits:fF Z (A++(L.take k).flatMap (·.1)) (bR (L.drop k))
 good:∀x∈L.take k,x.2=false
 kq:Kq n₀ z Ty W wr
 tree:af wr W.heap.size C 87
 spot:af wr (W.heap.size+1) D 123
theorem qj(sz:Nat)(w:World)(hs:sz≤262144):Calls prog 49 #[.int .i64 (sz:Int)] w fun e w'=>e=.returned (.int .i64 (((sz+511)/512:Nat):Int))∧w=w':=
 (p7 (sz:Int) w).mono fun e w' ⟨⟨y,he,hy⟩,hw⟩=>⟨by rw[he,hy (by omega) (by omega)];simp,hw⟩
def tR(n₀ z:Nat)(Ty:TypeId→Prop)(J Jx:List TX→World→Prop)(A:List HG)(t:TL)(W:World)(b:Bool)(W':World):Prop:=
 (b=true∧t.2=false∧J (aM (A++t.1)) W'∧Kq n₀ z Ty W W')∨(b=false∧KeepsFrom z W W'∧((∃pre,Jx pre W')∨(t.2=true∧∃x,J (aM (A++t.1)++[x]) W')))
def ql(lY n₀ z:Nat)(Ty:TypeId→Prop)(J Jx:List TX→World→Prop)(Z:TL)(cnt:Nat)(zs:List Int)(C:Array Value)(w0:World)(lv:Nat):Prop:=
 ∀(n r:Nat) (p:Int) (A:List HG) (W:World),cC lv r≤100000→Below n₀ w0 W→n₀≤W.heap.size→J (aM A) W→fF Z A (cG cnt (zs.length/512) (aJ zs) lv r p)→
  CallsIn Fence.wide n prog 110 #[.agg C,dD lv r,.int .i64 p,.func (.yield lY) #[] #[]] W fun e W'=>∃b,e=.returned (.bool b)∧tR n₀ z Ty J Jx A (cG cnt (zs.length/512) (aJ zs) lv r p) W b W'
theorem tS(lY n₀ z:Nat)(Ty:TypeId→Prop)(J Jx:List TX→World→Prop)(Z:TL)(cnt sz:Nat)(zs:List Int)(C:Array Value)(iv:Value)(w0:World)
 (hT1:¬Ty 87) (hT2:¬Ty 123) (hJ:gy z J)
 (hY:∀m pre x W1,J pre W1→iQ Z pre x W1→YieldAt Fence.wide m prog lY (TX.enc x) W1 fun e W'=>(e=.returned (.bool true)∧J (pre++[x]) W'∧Kq n₀ z Ty W1 W')∨(e=.returned (.bool false)∧Jx (pre++[x]) W'∧KeepsFrom z W1 W'))
 (hC0:C[0]?=some iv) (hC1:C[1]?=some (.int .i64 (sz:Int))) (hCs:C.size=16) (hR:Rd .u8 w0 iv zs) (hn₀:n₀=w0.heap.size) (hz:zs.length≤1048576) (hbd:∀z∈zs,0≤z∧z<256) (hsz:sz≤262144) (hcnt:cnt=(sz+511)/512)
 (lv:Nat) (hlv:lv≤2) (ih:∀l',lv=l'+1→ql lY n₀ z Ty J Jx Z cnt zs C w0 l'):ql lY n₀ z Ty J Jx Z cnt zs C w0 lv:=by
 intro n r p A W hf hb0 hW hJA hFit;have hmx:prog.follows .mixedOrders=true:=by kernel_rfl
 have hdd:∀k:Nat,(Fence.wide.depth.isSome=true→1≤k):=fun k h=>by cases h
 obtain⟨W2,hW2⟩:∃W2,W2=(W.alloc (.cells C 87)).alloc (.cells #[.int .i64 (lv:Int),.int .i64 (r:Int)] 123):=⟨_,rfl⟩;have HB2:=ae (Below W.heap.size W W2) (by rw[hW2];exact(ak.alloc aj _).alloc (by simp) _);have HS2:=ae (W2.heap.size=W.heap.size+2) (by rw[hW2];simp);have KC:=ae (af W2 W.heap.size C 87) (by rw[hW2];exact(af.new W C 87).alloc _);have KS:=ae (af W2 (W.heap.size+1) #[.int .i64 (lv:Int),.int .i64 (r:Int)] 123) (by have h:=af.new (W.alloc (.cells C 87)) #[.int .i64 (lv:Int),.int .i64 (r:Int)] 123;rw[World.size_alloc] at h;rw[hW2];exact h);have HW2:=aa hW2;have HF:=aa (ag hf (ag hb0 (ag hW (ag hJA hFit))));have HG:=aa (ag hY (ag hR (ag hbd ih)));have HC:=aa (ag hC0 (ag hC1 hCs));obtain⟨fi,hfi⟩:∃fi,fi=cC lv r:=⟨_,rfl⟩;have HFI:=aa hfi;have hfb:fi≤100000:=by rw[hfi];exact hf
 clear hf hb0 hW hJA hFit hW2 hfi hY hR hbd ih hC0 hC1 hCs;refine callsIn_of_wp func110 rfl trivial ?_ rfl;simp only[ntmps110,List.size_toArray,List.length_cons,List.length_nil,Nat.reduceAdd,Nat.reduceSub,Array.replicate_succ,Array.replicate_zero,List.push_toArray,List.append_toArray,List.nil_append,List.cons_append];gi_upto_region 1 with fail
 rw[←HW2.out];have cs0:=(KS.out.cell 0).trans (show _=some (.int .i64 (lv:Int)) from rfl);have cs1:=(KS.out.cell 1).trans (show _=some (.int .i64 (r:Int)) from rfl);have ct1:=(KC.out.cell 1).trans HC.out.2.1;gi_cut [21] from 63 (fun v wr=>v=.bool (decide (cnt≤fi∨p=0))∧Below W2.heap.size W2 wr)
 case first Jc Kc hJc hKc=>
  have HFC:=aa (ag hsz hcnt);clear hcnt;by_cases h1:cnt≤fi
  ·have HD:=ae (decide (cnt≤fi∨p=0)=true) (by simp[h1]);have h1':(cnt:Int)≤(fi:Int):=(by omega);clear h1;refine wpIn_wide.2 ?_;refine cr (fun w'=>Below W2.heap.size W2 w') (ak.drew) fun hH=>?_;refine ah 0 (.agg #[.int .i64 (lv:Int),.int .i64 (r:Int)]) rfl hH ?_ (aH fun w' hw'=>by have d0:=(hw'.cell (p:=⟨W.heap.size+1,0,none⟩) KS.out.lt).trans cs0;have d1:=(hw'.cell (p:=⟨W.heap.size+1,1,none⟩) KS.out.lt).trans cs1;go_simp);refine ah 2 (.pointer (some ⟨W.heap.size,1,none⟩)) rfl hH ?_;refine ah 3 (.pointer (some ⟨W.heap.size,1,none⟩)) rfl hH ?_;refine ah 4 (.int .i64 (sz:Int)) rfl hH ?_ (aH fun w' hw'=>by have d1:=(hw'.cell (p:=⟨W.heap.size,1,none⟩) KC.out.lt).trans ct1;go_simp);refine aG 1 rfl fun K hK=>?_;go_simp;refine(qb lv r _ (by omega) (by rw[←HFI.out];exact hfb)).mono ?_;rintro e w1 ⟨rfl,b1⟩;rw[←HFI.out];have B1:=ae (Below W2.heap.size W2 w1) ((ak.drew).trans b1);clear b1;refine hK.out _ _ B1.out (fun hH1=>?_);clear hK K hH;try simp only[Act.put,aq,au,av,ay,az,aA]
   refine aG 5 rfl fun K hK=>?_;go_simp;refine(qj sz _ HFC.out.1).mono ?_;rintro e w2 ⟨rfl,rfl⟩;rw[←HFC.out.2];refine hK.out _ _ hH1 (fun hH2=>?_);clear hK K hH1;try simp only[Act.put,aq,au,av,ay,az,aA]
   refine ah 6 (.bool true) rfl hH2 ?_;refine ah 7 (.bool true) rfl hH2 ?_;refine bq 8 rfl hH2 ?_;refine bq 9 rfl hH2 ?_;refine ah 10 (.bool true) rfl hH2 ?_;refine bz ?_;exact hKc _ _ (Met.intro (hJc _ _ ⟨_,_,_,_,_,_,_,_,_,_,_,⟨by rw[HD.out],B1.out⟩,rfl⟩))
  ·have h1':¬((cnt:Int)≤(fi:Int)):=(by omega);by_cases h2:p=0
   ·have HD:=ae (decide (cnt≤fi∨p=0)=true) (by simp[h2]);have h2':(p==0)=true:=(by simp[h2]);clear h1 h2;refine wpIn_wide.2 ?_;refine cr (fun w'=>Below W2.heap.size W2 w') (ak.drew) fun hH=>?_;refine ah 0 (.agg #[.int .i64 (lv:Int),.int .i64 (r:Int)]) rfl hH ?_ (aH fun w' hw'=>by have d0:=(hw'.cell (p:=⟨W.heap.size+1,0,none⟩) KS.out.lt).trans cs0;have d1:=(hw'.cell (p:=⟨W.heap.size+1,1,none⟩) KS.out.lt).trans cs1;go_simp);refine ah 2 (.pointer (some ⟨W.heap.size,1,none⟩)) rfl hH ?_;refine ah 3 (.pointer (some ⟨W.heap.size,1,none⟩)) rfl hH ?_;refine ah 4 (.int .i64 (sz:Int)) rfl hH ?_ (aH fun w' hw'=>by have d1:=(hw'.cell (p:=⟨W.heap.size,1,none⟩) KC.out.lt).trans ct1;go_simp);refine aG 1 rfl fun K hK=>?_;go_simp;refine(qb lv r _ (by omega) (by rw[←HFI.out];exact hfb)).mono ?_;rintro e w1 ⟨rfl,b1⟩;rw[←HFI.out];have B1:=ae (Below W2.heap.size W2 w1) ((ak.drew).trans b1);clear b1;refine hK.out _ _ B1.out (fun hH1=>?_);clear hK K hH;try simp only[Act.put,aq,au,av,ay,az,aA]
    refine aG 5 rfl fun K hK=>?_;go_simp;refine(qj sz _ HFC.out.1).mono ?_;rintro e w2 ⟨rfl,rfl⟩;rw[←HFC.out.2];refine hK.out _ _ hH1 (fun hH2=>?_);clear hK K hH1;try simp only[Act.put,aq,au,av,ay,az,aA]
    refine ah 6 (.bool false) rfl hH2 ?_;refine ah 7 (.bool false) rfl hH2 ?_;refine ah 8 (.int .i64 p) rfl hH2 ?_;refine ah 9 (.bool true) rfl hH2 ?_;refine ah 10 (.bool true) rfl hH2 ?_;refine bz ?_;exact hKc _ _ (Met.intro (hJc _ _ ⟨_,_,_,_,_,_,_,_,_,_,_,⟨by rw[HD.out],B1.out⟩,rfl⟩))
   ·have HD:=ae (decide (cnt≤fi∨p=0)=false) (by simp[h1,h2]);have h2':(p==0)=false:=(by simp[h2]);clear h1 h2;refine wpIn_wide.2 ?_;refine cr (fun w'=>Below W2.heap.size W2 w') (ak.drew) fun hH=>?_;refine ah 0 (.agg #[.int .i64 (lv:Int),.int .i64 (r:Int)]) rfl hH ?_ (aH fun w' hw'=>by have d0:=(hw'.cell (p:=⟨W.heap.size+1,0,none⟩) KS.out.lt).trans cs0;have d1:=(hw'.cell (p:=⟨W.heap.size+1,1,none⟩) KS.out.lt).trans cs1;go_simp);refine ah 2 (.pointer (some ⟨W.heap.size,1,none⟩)) rfl hH ?_;refine ah 3 (.pointer (some ⟨W.heap.size,1,none⟩)) rfl hH ?_;refine ah 4 (.int .i64 (sz:Int)) rfl hH ?_ (aH fun w' hw'=>by have d1:=(hw'.cell (p:=⟨W.heap.size,1,none⟩) KC.out.lt).trans ct1;go_simp);refine aG 1 rfl fun K hK=>?_;go_simp;refine(qb lv r _ (by omega) (by rw[←HFI.out];exact hfb)).mono ?_;rintro e w1 ⟨rfl,b1⟩;rw[←HFI.out];have B1:=ae (Below W2.heap.size W2 w1) ((ak.drew).trans b1);clear b1;refine hK.out _ _ B1.out (fun hH1=>?_);clear hK K hH;try simp only[Act.put,aq,au,av,ay,az,aA]
    refine aG 5 rfl fun K hK=>?_;go_simp;refine(qj sz _ HFC.out.1).mono ?_;rintro e w2 ⟨rfl,rfl⟩;rw[←HFC.out.2];refine hK.out _ _ hH1 (fun hH2=>?_);clear hK K hH1;try simp only[Act.put,aq,au,av,ay,az,aA]
    refine ah 6 (.bool false) rfl hH2 ?_;refine ah 7 (.bool false) rfl hH2 ?_;refine ah 8 (.int .i64 p) rfl hH2 ?_;refine ah 9 (.bool false) rfl hH2 ?_;refine ah 10 (.bool false) rfl hH2 ?_;refine bz ?_;exact hKc _ _ (Met.intro (hJc _ _ ⟨_,_,_,_,_,_,_,_,_,_,_,⟨by rw[HD.out],B1.out⟩,rfl⟩))
 case rest=>
  obtain⟨rfl,hbc⟩:=hcut;have HBC:=aa hbc;have ct0:=(hbc.cell (p:=⟨W.heap.size,0,none⟩) KC.out.lt).trans ((KC.out.cell 0).trans HC.out.1);have KCc:=aa (KC.out.below hbc KC.out.lt);have KSc:=aa (KS.out.below hbc KS.out.lt);clear ct1 cs0 cs1 hbc;have HBW:=ae (Below W.heap.size W wc) (HB2.out.trans (HBC.out.mono HB2.out.size));have HJc:=ae (J (aM A) wc) (hJ _ _ _ none HF.out.2.2.2.1 ⟨HBW.out.os,HBW.out.tape,HBW.out.output,HBW.out.size,fun k hk _=>HBW.out.block k hk⟩ (fun r e=>by cases e));have HKw:=ae (KeepsFrom z W wc) ((Kq.bT (n₀:=0) (Ty:=Ty) HBW.out (Nat.zero_le _)).ir);obtain⟨sa,sc,rfl⟩:=dZ HG.out.2.1;obtain⟨nb,hnb⟩:∃nb:Nat,nb=zs.length/512:=⟨_,rfl⟩;have hnb2:(zs.length:Int)/512=(nb:Int):=by omega
  have HNB:=aa hnb;clear hnb;by_cases hcond:cnt≤fi∨p=0
  ·have hd:decide (cnt≤fi∨p=0)=true:=(by simp[hcond]);rw[hd];clear hd;have HT:=ae (cG cnt (zs.length/512) (aJ zs) lv r p=([],false)) (zQ (by rw[←HFI.out];exact hcond));clear hcond;gi_wp2
   go_ret;exact⟨true,rfl,.inl ⟨rfl,by rw[HT.out],by rw[HT.out,append_nil];exact HJc.out,Kq.bT HBW.out HF.out.2.2.1⟩⟩
  ·have hd:decide (cnt≤fi∨p=0)=false:=(by simp[hcond]);rw[hd];clear hd;have HCN:=ae (¬(cnt≤cC lv r∨p=0)) (by rw[←HFI.out];exact hcond);have hp0:p≠0:=fun e=>hcond (.inr e);have HPG:=ae (eu p (nb:Int)=be (zs.length/512) p) (by unfold eu be;rw[HNB.out];simp[hp0]);clear hcond;cases hgd:be (zs.length/512) p with
   |false=>
    have HT:=aa (zR (W:=aJ zs) HCN.out hgd);have HGD:=aa hgd;clear hgd;obtain⟨W4,hW4⟩:∃W4,W4=(wc.alloc (.cells #[.int .i64 21] 118)).alloc (.cells #[.string ⟨#[112,111,105,110,116,101,114]⟩,.iface 114 (.pointer (some ⟨wc.heap.size,0,none⟩))] 155):=⟨_,rfl⟩;have HB4:=ae (Below wc.heap.size wc W4) (by rw[hW4];exact(ak.alloc aj _).alloc (by simp) _);have HFl:=ae (bj W4 0 1 (.iface 153 (.pointer (some ⟨wc.heap.size+1,0,none⟩))) 21) (by
     refine⟨wc.heap.size+1,.iface 114 (.pointer (some ⟨wc.heap.size,0,none⟩)),rfl,by omega,?_,wc.heap.size,rfl,by omega,?_⟩
     ·rw[hW4];simp
     ·rw[hW4];simp)
    have HJ4:=ae (J (aM A) W4) (hJ _ _ _ none HJc.out ⟨HB4.out.os,HB4.out.tape,HB4.out.output,HB4.out.size,fun k hk _=>HB4.out.block k hk⟩ (fun r e=>by cases e));obtain⟨fn,tmps,assign,body,hy,hRd⟩:=HG.out.1 (n-1) (aM A) ((0,0,0),.iface 153 (.pointer (some ⟨wc.heap.size+1,0,none⟩))) W4 HJ4.out (.inr ⟨rfl,A,rfl,by have:=HF.out.2.2.2.2.bad (by rw[HT.out]);rw[HT.out,append_nil] at this;exact this,1,HFl.out⟩);replace hy:(Instr.yield lY #[.agg #[.int .i64 0,.int .i64 0,.int .i64 0],.iface 153 (.pointer (some ⟨wc.heap.size+1,0,none⟩))]).run prog W4=.ok (.round lY fn tmps assign body) W4:=hy;have HRd:=aa hRd;clear hRd;subst hW4;gi_upto_region 4 with(first|(refine⟨trivial,hdd _,?_⟩;gi_at_call 120;refine(callsIn_wide.2 (mg p (nb:Int) _)).mono ?_;rintro e w9 ⟨rfl,rfl⟩;rw[HPG.out,HGD.out]))
    gi_wp2
    refine⟨hdd _,?_⟩;refine HRd.out.mono ?_;rintro e W5 (⟨rfl,hj5,hk5⟩|⟨rfl,hx5⟩)
    ·have H5:=aa (ag hj5 ((HKw.out.trans (Kq.bT (n₀:=0) (Ty:=Ty) HB4.out (Nat.zero_le _)).ir).trans hk5.ir));clear hj5 hk5;gi_wp2
     go_ret;exact⟨false,rfl,.inr ⟨rfl,H5.out.2,.inr ⟨by rw[HT.out],_,by rw[HT.out,append_nil];exact H5.out.1⟩⟩⟩
    ·have H5:=aa (ag hx5.1 ((HKw.out.trans (Kq.bT (n₀:=0) (Ty:=Ty) HB4.out (Nat.zero_le _)).ir).trans hx5.2));clear hx5;gi_wp2
     go_ret;exact⟨false,rfl,.inr ⟨rfl,H5.out.2,.inl ⟨_,H5.out.1⟩⟩⟩
   |true=>
    have HGD:=aa hgd;obtain⟨hp2,hp3⟩:=ke hgd hp0;obtain⟨q,rfl⟩:∃q:Nat,p=(q:Int):=⟨p.toNat,by omega⟩;have hq1:q*512+512≤zs.length:=(by omega);clear hgd hp2 hp3 hp0;obtain⟨fn,tmps,assign,body,hy,hRd⟩:=HG.out.1 (n-1) (aM A) ((lv,r,(q:Int)),.nilIface) wc HJc.out (.inl ⟨rfl,A,rfl,zS HCN.out HGD.out HF.out.2.2.2.2⟩);replace hy:(Instr.yield lY #[.agg #[.int .i64 (lv:Int),.int .i64 (r:Int),.int .i64 (q:Int)],.nilIface]).run prog wc=.ok (.round lY fn tmps assign body) wc:=hy;have HRd:=aa hRd;clear hRd;have cS0:=(KSc.out.cell 0).trans (show _=some (.int .i64 (lv:Int)) from rfl);have cS1:=(KSc.out.cell 1).trans (show _=some (.int .i64 (r:Int)) from rfl);gi_upto_region 6 with(first|(refine⟨trivial,hdd _,?_⟩;gi_at_call 120;refine(callsIn_wide.2 (mg (q:Int) (nb:Int) _)).mono ?_;rintro e w9 ⟨rfl,rfl⟩;rw[HPG.out,HGD.out]))
    gi_wp2
    refine⟨hdd _,?_⟩;refine HRd.out.mono ?_;rintro e W5 (⟨rfl,hj5,hk5⟩|⟨rfl,hx5⟩)
    ·rw[←nt] at hj5;have KC5:=aa (hk5.aW KCc.out hT1);have KS5:=aa (hk5.aW KSc.out hT2);have H5:=aa (ag hj5 ((Kq.bT (Ty:=Ty) (z:=z) HBW.out HF.out.2.2.1).trans hk5));have c5:=(KS5.out.cell 0).trans (show _=some (.int .i64 (lv:Int)) from rfl);clear hj5 hk5 cS0 cS1 ct0 hy HRd;cases lv with
     |zero=>
      have HT:=aa (tO (W:=aJ zs) HCN.out HGD.out);gi_wp2
      go_ret;exact⟨true,rfl,.inl ⟨rfl,by rw[HT.out],by rw[HT.out];exact H5.out.1,H5.out.2⟩⟩
     |succ l'=>
      have HT:=aa (tQ (W:=aJ zs) HCN.out HGD.out);have h5:((l':Int)+1==0)=false:=(by simp;omega);have c5':W5.cell? ⟨W.heap.size+1,0,none⟩=some (.int .i64 ((l':Int)+1)):=(by rw[c5];simp);clear c5;have HR5:=ae (Rd .u8 W5 (.slice sa zs.length sc) zs) (HG.out.2.1.below (by rw[←hn₀];exact HF.out.2.1.trans H5.out.2.below));obtain⟨ws,hws⟩:∃ws,ws=(range 128).map (aJ zs (q:Int)):=⟨_,rfl⟩;have HWS:=aa hws;clear hws;gi_upto_region 10 with fail
      refine wpIn_wide.2 ?_;go_wp2_with (first
       |(refine wpList_load_row rfl 87 _ rfl W.heap.size rfl 87 C (0,0) _ KC5.out underlying87 rfl (by rw[HC.out.2.2];exact fU) ?_)
       |(go_at_call 122;refine(zI C _ zs q _ HC.out.1 HC.out.2.2 HR5.out hq1 hz HG.out.2.2.1).mono ?_;rintro e w6 ⟨rfl,b6⟩;rw[←HWS.out];have B6:=aa b6;clear b6))
      have hws:=HWS.out;have hwl:ws.length=128:=(by rw[hws];simp);have HWG:=ae (∀k,k<128→ws.getD k 0=aJ zs (q:Int) k) (fun k hk=>by rw[hws];simp[List.getD,hk]);have HIX:=aa (fun(k:Nat) (hk:k<128) (w:World)=>zT ws k hwl hk w);obtain⟨L,hL⟩:∃L,L=(range 128).map (fun k=>(cG cnt (zs.length/512) (aJ zs) l' (bP l' r k) (aJ zs (q:Int) k))):=⟨_,rfl⟩;have HL:=ae (∀k,k<128→L[k]?=some (cG cnt (zs.length/512) (aJ zs) l' (bP l' r k) (aJ zs (q:Int) k))) (fun k hk=>by rw[hL];simp[hk]);have HLl:=ae (L.length=128) (by rw[hL];simp);have HTL:=ae (cG cnt (zs.length/512) (aJ zs) (l'+1) r (q:Int)=bH ([(l'+1,r,(q:Int))],false) (bR L)) (by rw[hL];exact HT.out);have HL0:=ae (qi n₀ z Ty J Z (A++[(l'+1,r,(q:Int))]) L C #[.int .i64 ((l'+1:Nat):Int),.int .i64 (r:Int)] W 0 w6) (by
       refine⟨?_,?_,fun x hx=>by simp at hx,H5.out.2.trans (Kq.bT B6.out (aN HF.out.2.2.1 H5.out.2.size)),KC5.out.below B6.out KC5.out.lt,KS5.out.below B6.out KS5.out.lt⟩
       ·simp only[List.take_zero,List.flatMap_nil,append_nil];exact hJ _ _ _ none H5.out.1 ⟨B6.out.os,B6.out.tape,B6.out.output,B6.out.size,fun k hk _=>B6.out.block k hk⟩ (fun r e=>by cases e)
       ·simp only[List.take_zero,List.flatMap_nil,append_nil,List.drop_zero];have:=HF.out.2.2.2.2;rw[HTL.out] at this;exact this.snd rfl)
      have hc512:cnt≤512:=(by omega);have HFB:=ae (∀k,k<128→cC l' (bP l' r k)≤100000) (fun k hk=>zU (by omega) hk (by have h1:=HCN.out;omega));clear h5 c5' hws hL hwl hcnt;gi_wp2
      gi_loopw [50] (fun kv wr=>∃k:Nat,k≤128∧kv=.int .i64 (k:Int)∧qi n₀ z Ty J Z (A++[(l'+1,r,(q:Int))]) L C #[.int .i64 ((l'+1:Nat):Int),.int .i64 (r:Int)] W k wr) (fun kv _=>128-(intOf kv).toNat)
      case atStart=>exact⟨0,by omega,rfl,HL0.out⟩
      case round=>
       obtain⟨k,hk,rfl,hlp⟩:=hrel;have HLp:=aa hlp;clear hlp HL0;by_cases hk2:k<128
       ·have hkI:(k:Int)<128:=(by omega);have hix:=HIX.out k hk2;rw[HWG.out k hk2] at hix;have e0:=(HLp.out.spot.cell 0).trans (show _=some (.int .i64 ((l'+1:Nat):Int)) from rfl);have e1:=(HLp.out.spot.cell 1).trans (show _=some (.int .i64 (r:Int)) from rfl);obtain⟨x,hx⟩:∃x,x=aJ zs (q:Int) k:=⟨_,rfl⟩;rw[←hx] at hix;have HX:=aa hx;clear hx;gi_upto_region 13 with fail
        gi_cut [61] from 63 (fun v w'=>∃b w1,v=.bool (!b)∧Below wr.heap.size wr w1∧tR n₀ z Ty J Jx ((A++[(l'+1,r,(q:Int))])++(L.take k).flatMap (·.1)) (cG cnt (zs.length/512) (aJ zs) l' (bP l' r k) (aJ zs (q:Int) k)) w1 b w')
        case first Jc Kc hJc hKc=>
         refine wpIn_wide.2 ?_;refine wp_region_noPanic ?_;refine lu (fun w'=>Below wr.heap.size wr w') 6 (by kernel_rfl) ?_;have hH:Below wr.heap.size wr wr.drew:=ak.drew;refine cD 0 (.agg C.toList.toArray) rfl hH ?_ (yieldsIf_load_mid (by rfl) 87 _ rfl W.heap.size 0 rfl C.toList _ (fun w' hw' j u hj=>by rw[Nat.zero_add,(hw'.cell (p:=⟨W.heap.size,j,none⟩) HLp.out.tree.lt),HLp.out.tree.cell j];simpa using hj) underlying87 rfl (by rw[Array.length_toList,HC.out.2.2];exact fU));simp only[Array.toArray_toList];refine cD 4 (.int .i64 x) rfl hH ?_;refine cD 5 (.func (.yield lY) #[] #[]) rfl hH ?_;have f0:=(hH.cell (p:=⟨W.heap.size+1,0,none⟩) HLp.out.spot.lt).trans e0;have f1:=(hH.cell (p:=⟨W.heap.size+1,1,none⟩) HLp.out.spot.lt).trans e1;refine zN (i:=1) (j:=2) (by kernel_rfl) rfl rfl (fun K hK=>?_) (fun K hK=>?_)
         ·go_simp;refine hK.out _ _ (fun _ _=>hH) ?_;clear hK K;try simp only[Act.put,aq,au,av,ay,az,aA]
          refine ez (i:=2) (by kernel_rfl) rfl (fun K hK=>?_);go_simp;refine hK.out _ _ (fun _ _=>hH) ?_;clear hK K;try simp only[Act.put,aq,au,av,ay,az,aA]
          refine ez (i:=3) (by kernel_rfl) rfl (fun K hK=>?_);go_simp;refine(ny l' r k _ (by omega) (by have h1:=HCN.out;have h2:=jQ (l'+1) r;have h3:=HFB.out 0 (by omega);have h4:=jQ l' (bP l' r 0);unfold bP at h4;omega) (by omega)).mono ?_;rintro e w1 ⟨rfl,b1⟩;have B1:=ae (Below wr.heap.size wr w1) (hH.trans b1);clear b1;refine hK.out _ _ (fun _ _=>B1.out) ?_;clear hK K;try simp only[Act.put,aq,au,av,ay,az,aA]
          refine ez (i:=6) (by kernel_rfl) rfl (fun K hK=>?_);go_simp;have hbw:Below n₀ w0 w1:=HF.out.2.1.trans (HLp.out.kq.below.trans (B1.out.mono (aN HF.out.2.2.1 HLp.out.kq.size)));have hjw:=hJ _ _ w1 none HLp.out.inv ⟨B1.out.os,B1.out.tape,B1.out.output,B1.out.size,fun k hk _=>B1.out.block k hk⟩ (fun r e=>by cases e);have hcall:=callsIn_wide.1 (HG.out.2.2.2 l' rfl 0 (bP l' r k) x _ w1 (HFB.out k hk2) hbw (aN HF.out.2.2.1 (aN HLp.out.kq.size B1.out.size)) hjw (by rw[HX.out];exact(nD HLp.out.fits (HL.out k hk2)).1));refine hcall.mono ?_;rintro e w2 ⟨b,rfl,htp⟩;have HTP:=aa htp;clear htp hcall hjw hbw;refine hK.out _ _ (fun h _=>absurd rfl h) ?_;clear hK K;try simp only[Act.put,aq,au,av,ay,az,aA]
          refine ez (i:=7) (by kernel_rfl) rfl (fun K hK=>?_);go_simp;refine hK.out _ _ (fun _ h=>Bool.noConfusion (show true=false from h)) ?_;clear hK K;try simp only[Act.put,aq,au,av,ay,az,aA]
          refine kg (by kernel_rfl) (NoPanic.normal ?_) _;exact hKc _ _ (Met.intro (hJc _ _ ⟨_,_,_,_,_,_,_,_,⟨b,w1,rfl,B1.out,by rw[HX.out] at HTP;exact HTP.out⟩,rfl⟩))
         ·go_simp;refine hK.out _ _ (fun _ _=>hH) ?_;clear hK K;try simp only[Act.put,aq,au,av,ay,az,aA]
          refine ez (i:=1) (by kernel_rfl) rfl (fun K hK=>?_);go_simp;refine hK.out _ _ (fun _ _=>hH) ?_;clear hK K;try simp only[Act.put,aq,au,av,ay,az,aA]
          refine ez (i:=3) (by kernel_rfl) rfl (fun K hK=>?_);go_simp;refine(ny l' r k _ (by omega) (by have h1:=HCN.out;have h2:=jQ (l'+1) r;have h3:=HFB.out 0 (by omega);have h4:=jQ l' (bP l' r 0);unfold bP at h4;omega) (by omega)).mono ?_;rintro e w1 ⟨rfl,b1⟩;have B1:=ae (Below wr.heap.size wr w1) (hH.trans b1);clear b1;refine hK.out _ _ (fun _ _=>B1.out) ?_;clear hK K;try simp only[Act.put,aq,au,av,ay,az,aA]
          refine ez (i:=6) (by kernel_rfl) rfl (fun K hK=>?_);go_simp;have hbw:Below n₀ w0 w1:=HF.out.2.1.trans (HLp.out.kq.below.trans (B1.out.mono (aN HF.out.2.2.1 HLp.out.kq.size)));have hjw:=hJ _ _ w1 none HLp.out.inv ⟨B1.out.os,B1.out.tape,B1.out.output,B1.out.size,fun k hk _=>B1.out.block k hk⟩ (fun r e=>by cases e);have hcall:=callsIn_wide.1 (HG.out.2.2.2 l' rfl 0 (bP l' r k) x _ w1 (HFB.out k hk2) hbw (aN HF.out.2.2.1 (aN HLp.out.kq.size B1.out.size)) hjw (by rw[HX.out];exact(nD HLp.out.fits (HL.out k hk2)).1));refine hcall.mono ?_;rintro e w2 ⟨b,rfl,htp⟩;have HTP:=aa htp;clear htp hcall hjw hbw;refine hK.out _ _ (fun h _=>absurd rfl h) ?_;clear hK K;try simp only[Act.put,aq,au,av,ay,az,aA]
          refine ez (i:=7) (by kernel_rfl) rfl (fun K hK=>?_);go_simp;refine hK.out _ _ (fun _ h=>Bool.noConfusion (show true=false from h)) ?_;clear hK K;try simp only[Act.put,aq,au,av,ay,az,aA]
          refine kg (by kernel_rfl) (NoPanic.normal ?_) _;exact hKc _ _ (Met.intro (hJc _ _ ⟨_,_,_,_,_,_,_,_,⟨b,w1,rfl,B1.out,by rw[HX.out] at HTP;exact HTP.out⟩,rfl⟩))
        case rest=>
         obtain⟨b,w1,rfl,hb1,htp⟩:=hcut;rcases htp with⟨rfl,ht,hj,hkq⟩|⟨rfl,hx⟩
         ·have HN:=ae (qi n₀ z Ty J Z (A++[(l'+1,r,(q:Int))]) L C #[.int .i64 ((l'+1:Nat):Int),.int .i64 (r:Int)] W (k+1) wc) (by
           have hq:Kq n₀ z Ty wr wc:=(Kq.bT hb1 (aN HF.out.2.2.1 HLp.out.kq.size)).trans hkq;obtain⟨hlt,eL⟩:=List.getElem?_eq_some_iff.1 (HL.out k hk2);refine⟨?_,(nD HLp.out.fits (HL.out k hk2)).2 ht,?_,HLp.out.kq.trans hq,hq.aW HLp.out.tree hT1,hq.aW HLp.out.spot hT2⟩
           ·rw[List.take_succ_eq_append_getElem hlt,eL,List.flatMap_append, ←List.append_assoc];simpa using hj
           ·intro y hy;rw[List.take_succ_eq_append_getElem hlt,eL] at hy;rcases List.mem_append.1 hy with hy|hy
            ·exact HLp.out.good y hy
            ·simp at hy;rw[hy];exact ht)
          clear ht hj hkq hb1 hix e0 e1 HLp;gi_wp2
          go_roundw
          case rel=>exact⟨k+1,by omega,by go_num,HN.out⟩
          case measure=>simp[intOf];omega
         ·have HXx:=aa (ag hx.2 ((HLp.out.kq.ir.trans (Kq.bT (n₀:=0) (Ty:=Ty) hb1 (Nat.zero_le _)).ir).trans hx.1));clear hx hb1 hix e0 e1;gi_wp2
          go_ret;refine⟨false,rfl,.inr ⟨rfl,HXx.out.2,?_⟩⟩;rcases HXx.out.1 with h|⟨h1,y,h2⟩
          ·exact .inl h
          ·refine .inr ?_;rw[HTL.out,qh L k _ HLp.out.good (HL.out k hk2) h1];refine⟨by simp[bH],y,?_⟩;simpa [bH] using h2
       ·have hk3:k=128:=(by omega);subst hk3;clear hk2;gi_wp2
        go_ret;have hta:L.take 128=L:=List.take_of_length_le (by rw[HLl.out];omega);have hg:=HLp.out.good;have hi:=HLp.out.inv;rw[hta] at hg hi;refine⟨true,rfl,.inl ⟨rfl,?_,?_,HLp.out.kq⟩⟩
        ·rw[HTL.out,kV L hg];simp[bH]
        ·rw[HTL.out,kV L hg];simpa [bH] using hi
    ·have H5:=aa (ag hx5.1 (HKw.out.trans hx5.2));clear hx5;gi_wp2
     go_ret;exact⟨false,rfl,.inr ⟨rfl,H5.out.2,.inl ⟨_,H5.out.1⟩⟩⟩
end
end Go.Proofs.YtlimollpocagiaaGreatDoor
