/- The program's walk over a tree: tell. -/
import Derived.Test.YtpplnhkpcpieoaaGreatDoorZx05
import Derived.Shelf.Abstract
import Derived.Shelf.RegionOpen
import Derived.OwnWalkIn
import Derived.TacticsInMore
import Derived.LoopNIn
import Derived.LoopIn
import Derived.Sort.CutIn
import Derived.Test.YtpplnhkpcpieoaaGreatDoorZx06
namespace Go.Proofs.YtpplnhkpcpieoaaGreatDoor
open Go.Proofs.Tryz
open _root_.List (range append_nil)
set_option linter.all false
set_option maxRecDepth 100000
set_option maxHeartbeats 16000000
section
open Go.RowKit Go.Shelf
attribute [local go_sem] Oper.semAt_some
theorem EG{F:Fence}(hd:F.depth=none)(k:Nat):F.room k:=fun d h=>by rw[hd] at h;cases h
theorem YieldAt.EH{m:Nat}(m':Nat){P:Program}{l:Nat}{args:Array Value}{W:World}{R:Ending→World→Prop}(h:YieldAt Fence.wide m P l args W R):YieldAt Fence.wide m' P l args W R:=by
 obtain⟨fn,tmps,assign,body,hy,hR⟩:=h;exact⟨fn,tmps,assign,body,hy,hR.1,fun c cs _=>hR.2 c cs (EG rfl _)⟩
def dO(cnt n:Nat)(W:Int→Nat→Int):Nat→Nat→Int→TL
 |0,r,p=>if cnt≤aT 0 r∨p=0 then([],false) else if bM n p=false then([],true) else([(0,r,p)],false)
 |l+1,r,p=>if cnt≤aT (l+1) r∨p=0 then([],false) else if bM n p=false then([],true) else cM ([(l+1,r,p)],false) (dz ((range 128).map fun k=>dO cnt n W l (bI l r k) (W p k)))
theorem EI{cnt n:Nat}{W:Int→Nat→Int}{l r:Nat}{p:Int}(h:cnt≤aT l r∨p=0):dO cnt n W l r p=([],false):=by
 cases l with
 |zero=>unfold dO;rw[if_pos h]
 |succ l=>unfold dO;rw[if_pos h]
theorem EJ{cnt n:Nat}{W:Int→Nat→Int}{l r:Nat}{p:Int}(h:¬(cnt≤aT l r∨p=0))(hg:bM n p=false):dO cnt n W l r p=([],true):=by
 cases l with
 |zero=>unfold dO;rw[if_neg h,if_pos hg]
 |succ l=>unfold dO;rw[if_neg h,if_pos hg]
theorem xX{cnt n:Nat}{W:Int→Nat→Int}{r:Nat}{p:Int}(h:¬(cnt≤aT 0 r∨p=0))(hg:bM n p=true):dO cnt n W 0 r p=([(0,r,p)],false):=by
 unfold dO;rw[if_neg h,if_neg (by rw[hg];decide)]
theorem xY{cnt n:Nat}{W:Int→Nat→Int}{l r:Nat}{p:Int}(h:¬(cnt≤aT (l+1) r∨p=0))(hg:bM n p=true):dO cnt n W (l+1) r p=cM ([(l+1,r,p)],false) (dz ((range 128).map fun k=>dO cnt n W l (bI l r k) (W p k))):=by
 conv=>lhs;unfold dO
 rw[if_neg h,if_neg (by rw[hg];decide)]
theorem EK{cnt n:Nat}{W:Int→Nat→Int}{l r:Nat}{p:Int}{Z:TL}{A:List HG}(h:¬(cnt≤aT l r∨p=0))(hg:bM n p=true)(hF:fQ Z A (dO cnt n W l r p)):A++[(l,r,p)]<+:Z.1:=by
 cases l with
 |zero=>rw[xX h hg] at hF;exact hF.pre
 |succ l=>rw[xY h hg] at hF;exact hF.fst.pre
theorem tR:∀(L:List TL) (k:Nat) (a:TL),(∀x∈L.take k,x.2=false)→L[k]?=some a→a.2=true→dz L=((L.take k).flatMap (·.1)++a.1,true)
 |[],_,_,_,h,_=>by simp at h
 |b::L,0,a,_,h,ha=>by
  simp at h;subst h;obtain⟨b1,b2⟩:=b;simp at ha;subst ha;simp[dz,cM]
 |b::L,k+1,a,h,hk,ha=>by
  have hb:b.2=false:=h b (by simp);have ih:=tR L k a (fun x hx=>h x (by simp[hx])) (by simpa using hk) ha;unfold dz;rw[ih];unfold cM;simp[hb]
theorem qN{Z:TL}{A:List HG}{L:List TL}{k:Nat}{a:TL}(h:fQ Z (A++(L.take k).flatMap (·.1)) (dz (L.drop k)))(hk:L[k]?=some a):
 fQ Z (A++(L.take k).flatMap (·.1)) a∧(a.2=false→fQ Z (A++(L.take (k+1)).flatMap (·.1)) (dz (L.drop (k+1)))):=by
 obtain⟨hlt,e⟩:=List.getElem?_eq_some_iff.1 hk;rw[List.drop_eq_getElem_cons hlt,e] at h;refine⟨h.fst,fun ha=>?_⟩;have:=h.snd ha;rw[List.take_succ_eq_append_getElem hlt,e,List.flatMap_append];simpa using this
theorem EL(ws:List Int)(k:Nat)(hl:ws.length=128)(hk:k<128)(w:World):(Instr.index 192 (.agg (ws.map (Value.int .i64)).toArray) (.int .i64 (k:Int))).run prog w=.ok (.int .i64 (ws.getD k 0)) w:=by
 have hg:k<ws.length:=by omega
 simp[Instr.index,run_underlying underlying192,asIntOf,go_sem,hg];intro h;omega
theorem EM{l r k:Nat}(hl:l≤1)(hk:k<128)(h:aT (l+1) r<512):aT l (bI l r k)≤100000:=by
 rcases Nat.le_one_iff_eq_zero_or_eq_one.1 hl with rfl|rfl
 ·simp[aT,bI] at h⊢;omega
 ·simp[aT,bI] at h⊢;omega
structure tS(n₀ z:Nat)(Ty:TypeId→Prop)(J:List TX→World→Prop)(Z:TL)(A:List HG)(L:List TL)(C D:Array Value)(W:World)(k:Nat)(wr:World):Prop where
 inv:J (aY (A++(L.take k).flatMap (·.1))) wr
 fits:fQ Z (A++(L.take k).flatMap (·.1)) (dz (L.drop k))
 good:∀x∈L.take k,x.2=false
 kq:Kq n₀ z Ty W wr
 tree:af wr W.heap.size C 108
 spot:af wr (W.heap.size+1) D 175
theorem iR(sz:Nat)(w:World)(hs:sz≤262144):Calls prog 136 #[.int .i64 (sz:Int)] w fun e w'=>e=.returned (.int .i64 (((sz+511)/512:Nat):Int))∧w=w':=
 (tK (sz:Int) w).mono fun e w' ⟨⟨y,he,hy⟩,hw⟩=>⟨by rw[he,hy (by omega) (by omega)];simp,hw⟩
def xZ(n₀ z:Nat)(Ty:TypeId→Prop)(J Jx:List TX→World→Prop)(A:List HG)(t:TL)(W:World)(b:Bool)(W':World):Prop:=
 (b=true∧t.2=false∧J (aY (A++t.1)) W'∧Kq n₀ z Ty W W')∨(b=false∧KeepsFrom z W W'∧((∃pre,Jx pre W')∨(t.2=true∧∃x,J (aY (A++t.1)++[x]) W')))
def tT(lY n₀ z:Nat)(Ty:TypeId→Prop)(J Jx:List TX→World→Prop)(Z:TL)(cnt:Nat)(zs:List Int)(C:Array Value)(w0:World)(lv:Nat):Prop:=
 ∀(n r:Nat) (p:Int) (A:List HG) (W:World),aT lv r≤100000→Below n₀ w0 W→n₀≤W.heap.size→J (aY A) W→fQ Z A (dO cnt (zs.length/512) (aQ zs) lv r p)→
  CallsIn Fence.wide n prog 146 #[.agg C,bh lv r,.int .i64 p,.func (.yield lY) #[] #[]] W fun e W'=>∃b,e=.returned (.bool b)∧xZ n₀ z Ty J Jx A (dO cnt (zs.length/512) (aQ zs) lv r p) W b W'
theorem ya(lY n₀ z:Nat)(Ty:TypeId→Prop)(J Jx:List TX→World→Prop)(Z:TL)(cnt sz:Nat)(zs:List Int)(C:Array Value)(iv:Value)(w0:World)
 (hT1:¬Ty 108) (ON:¬Ty 175) (hJ:iL z J)
 (hY:∀m pre x W1,J pre W1→jV Z pre x W1→YieldAt Fence.wide m prog lY (TX.enc x) W1 fun e W'=>(e=.returned (.bool true)∧J (pre++[x]) W'∧Kq n₀ z Ty W1 W')∨(e=.returned (.bool false)∧Jx (pre++[x]) W'∧KeepsFrom z W1 W'))
 (hC0:C[0]?=some iv) (Ny:C[1]?=some (.int .i64 (sz:Int))) (hCs:C.size=16) (hR:Rd .u8 w0 iv zs) (hn₀:n₀=w0.heap.size) (hz:zs.length≤1048576) (hbd:∀z∈zs,0≤z∧z<256) (hsz:sz≤262144) (hcnt:cnt=(sz+511)/512)
 (lv:Nat) (hlv:lv≤2) (ih:∀l',lv=l'+1→tT lY n₀ z Ty J Jx Z cnt zs C w0 l'):tT lY n₀ z Ty J Jx Z cnt zs C w0 lv:=by
 intro n r p A W hf hb0 hW hJA UW;have hmx:prog.follows .mixedOrders=true:=by kernel_rfl
 have hdd:∀k:Nat,(Fence.wide.depth.isSome=true→1≤k):=fun k h=>by cases h
 obtain⟨W2,hW2⟩:∃W2,W2=(W.alloc (.cells C 108)).alloc (.cells #[.int .i64 (lv:Int),.int .i64 (r:Int)] 175):=⟨_,rfl⟩;have HB2:=ae (Below W.heap.size W W2) (by rw[hW2];exact(ak.alloc aj _).alloc (by simp) _);have HS2:=ae (W2.heap.size=W.heap.size+2) (by rw[hW2];simp);have KC:=ae (af W2 W.heap.size C 108) (by rw[hW2];exact(af.new W C 108).alloc _);have KS:=ae (af W2 (W.heap.size+1) #[.int .i64 (lv:Int),.int .i64 (r:Int)] 175) (by have h:=af.new (W.alloc (.cells C 108)) #[.int .i64 (lv:Int),.int .i64 (r:Int)] 175;rw[World.size_alloc] at h;rw[hW2];exact h);have HW2:=aa hW2;have HF:=aa (ai hf (ai hb0 (ai hW (ai hJA UW))));have HG:=aa (ai hY (ai hR (ai hbd ih)));have HC:=aa (ai hC0 (ai Ny hCs));obtain⟨fi,hfi⟩:∃fi,fi=aT lv r:=⟨_,rfl⟩;have cm:=aa hfi;have Uh:fi≤100000:=by rw[hfi];exact hf
 clear hf hb0 hW hJA UW hW2 hfi hY hR hbd ih hC0 Ny hCs;refine callsIn_of_wp func146 rfl trivial ?_ rfl;simp only[ntmps146,List.size_toArray,List.length_cons,List.length_nil,Nat.reduceAdd,Nat.reduceSub,Array.replicate_succ,Array.replicate_zero,List.push_toArray,List.append_toArray,List.nil_append,List.cons_append];gi_upto_region 1 with fail
 rw[←HW2.out];have cs0:=(KS.out.cell 0).trans (show _=some (.int .i64 (lv:Int)) from rfl);have cs1:=(KS.out.cell 1).trans (show _=some (.int .i64 (r:Int)) from rfl);have Xa:=(KC.out.cell 1).trans HC.out.2.1;gi_cut [21] from 63 (fun v wr=>v=.bool (decide (cnt≤fi∨p=0))∧Below W2.heap.size W2 wr)
 case first Jc Kc Od hKc=>
  have Ui:=aa (ai hsz hcnt);clear hcnt;by_cases h1:cnt≤fi
  ·have HD:=ae (decide (cnt≤fi∨p=0)=true) (by simp[h1]);have h1':(cnt:Int)≤(fi:Int):=(by omega);clear h1;refine wpIn_wide.2 ?_;refine bg (fun w'=>Below W2.heap.size W2 w') (ak.drew) fun hH=>?_;refine ah 0 (.agg #[.int .i64 (lv:Int),.int .i64 (r:Int)]) rfl hH ?_ (aH fun w' hw'=>by have d0:=(hw'.cell (p:=⟨W.heap.size+1,0,none⟩) KS.out.lt).trans cs0;have d1:=(hw'.cell (p:=⟨W.heap.size+1,1,none⟩) KS.out.lt).trans cs1;go_simp);refine ah 2 (.pointer (some ⟨W.heap.size,1,none⟩)) rfl hH ?_;refine ah 3 (.pointer (some ⟨W.heap.size,1,none⟩)) rfl hH ?_;refine ah 4 (.int .i64 (sz:Int)) rfl hH ?_ (aH fun w' hw'=>by have d1:=(hw'.cell (p:=⟨W.heap.size,1,none⟩) KC.out.lt).trans Xa;go_simp);refine aG 1 rfl fun K hK=>?_;go_simp;refine(iP lv r _ (by omega) (by rw[←cm.out];exact Uh)).mono ?_;rintro e w1 ⟨rfl,b1⟩;rw[←cm.out];have B1:=ae (Below W2.heap.size W2 w1) ((ak.drew).trans b1);clear b1;refine hK.out _ _ B1.out (fun hH1=>?_);clear hK K hH;try simp only[Act.put,av,ay,az,aA,aB,aC]
   refine aG 5 rfl fun K hK=>?_;go_simp;refine(iR sz _ Ui.out.1).mono ?_;rintro e w2 ⟨rfl,rfl⟩;rw[←Ui.out.2];refine hK.out _ _ hH1 (fun hH2=>?_);clear hK K hH1;try simp only[Act.put,av,ay,az,aA,aB,aC]
   refine ah 6 (.bool true) rfl hH2 ?_;refine ah 7 (.bool true) rfl hH2 ?_;refine aN 8 rfl hH2 ?_;refine aN 9 rfl hH2 ?_;refine ah 10 (.bool true) rfl hH2 ?_;refine aV ?_;exact hKc _ _ (Met.intro (Od _ _ ⟨_,_,_,_,_,_,_,_,_,_,_,⟨by rw[HD.out],B1.out⟩,rfl⟩))
  ·have h1':¬((cnt:Int)≤(fi:Int)):=(by omega);by_cases h2:p=0
   ·have HD:=ae (decide (cnt≤fi∨p=0)=true) (by simp[h2]);have h2':(p==0)=true:=(by simp[h2]);clear h1 h2;refine wpIn_wide.2 ?_;refine bg (fun w'=>Below W2.heap.size W2 w') (ak.drew) fun hH=>?_;refine ah 0 (.agg #[.int .i64 (lv:Int),.int .i64 (r:Int)]) rfl hH ?_ (aH fun w' hw'=>by have d0:=(hw'.cell (p:=⟨W.heap.size+1,0,none⟩) KS.out.lt).trans cs0;have d1:=(hw'.cell (p:=⟨W.heap.size+1,1,none⟩) KS.out.lt).trans cs1;go_simp);refine ah 2 (.pointer (some ⟨W.heap.size,1,none⟩)) rfl hH ?_;refine ah 3 (.pointer (some ⟨W.heap.size,1,none⟩)) rfl hH ?_;refine ah 4 (.int .i64 (sz:Int)) rfl hH ?_ (aH fun w' hw'=>by have d1:=(hw'.cell (p:=⟨W.heap.size,1,none⟩) KC.out.lt).trans Xa;go_simp);refine aG 1 rfl fun K hK=>?_;go_simp;refine(iP lv r _ (by omega) (by rw[←cm.out];exact Uh)).mono ?_;rintro e w1 ⟨rfl,b1⟩;rw[←cm.out];have B1:=ae (Below W2.heap.size W2 w1) ((ak.drew).trans b1);clear b1;refine hK.out _ _ B1.out (fun hH1=>?_);clear hK K hH;try simp only[Act.put,av,ay,az,aA,aB,aC]
    refine aG 5 rfl fun K hK=>?_;go_simp;refine(iR sz _ Ui.out.1).mono ?_;rintro e w2 ⟨rfl,rfl⟩;rw[←Ui.out.2];refine hK.out _ _ hH1 (fun hH2=>?_);clear hK K hH1;try simp only[Act.put,av,ay,az,aA,aB,aC]
    refine ah 6 (.bool false) rfl hH2 ?_;refine ah 7 (.bool false) rfl hH2 ?_;refine ah 8 (.int .i64 p) rfl hH2 ?_;refine ah 9 (.bool true) rfl hH2 ?_;refine ah 10 (.bool true) rfl hH2 ?_;refine aV ?_;exact hKc _ _ (Met.intro (Od _ _ ⟨_,_,_,_,_,_,_,_,_,_,_,⟨by rw[HD.out],B1.out⟩,rfl⟩))
   ·have HD:=ae (decide (cnt≤fi∨p=0)=false) (by simp[h1,h2]);have h2':(p==0)=false:=(by simp[h2]);clear h1 h2;refine wpIn_wide.2 ?_;refine bg (fun w'=>Below W2.heap.size W2 w') (ak.drew) fun hH=>?_;refine ah 0 (.agg #[.int .i64 (lv:Int),.int .i64 (r:Int)]) rfl hH ?_ (aH fun w' hw'=>by have d0:=(hw'.cell (p:=⟨W.heap.size+1,0,none⟩) KS.out.lt).trans cs0;have d1:=(hw'.cell (p:=⟨W.heap.size+1,1,none⟩) KS.out.lt).trans cs1;go_simp);refine ah 2 (.pointer (some ⟨W.heap.size,1,none⟩)) rfl hH ?_;refine ah 3 (.pointer (some ⟨W.heap.size,1,none⟩)) rfl hH ?_;refine ah 4 (.int .i64 (sz:Int)) rfl hH ?_ (aH fun w' hw'=>by have d1:=(hw'.cell (p:=⟨W.heap.size,1,none⟩) KC.out.lt).trans Xa;go_simp);refine aG 1 rfl fun K hK=>?_;go_simp;refine(iP lv r _ (by omega) (by rw[←cm.out];exact Uh)).mono ?_;rintro e w1 ⟨rfl,b1⟩;rw[←cm.out];have B1:=ae (Below W2.heap.size W2 w1) ((ak.drew).trans b1);clear b1;refine hK.out _ _ B1.out (fun hH1=>?_);clear hK K hH;try simp only[Act.put,av,ay,az,aA,aB,aC]
    refine aG 5 rfl fun K hK=>?_;go_simp;refine(iR sz _ Ui.out.1).mono ?_;rintro e w2 ⟨rfl,rfl⟩;rw[←Ui.out.2];refine hK.out _ _ hH1 (fun hH2=>?_);clear hK K hH1;try simp only[Act.put,av,ay,az,aA,aB,aC]
    refine ah 6 (.bool false) rfl hH2 ?_;refine ah 7 (.bool false) rfl hH2 ?_;refine ah 8 (.int .i64 p) rfl hH2 ?_;refine ah 9 (.bool false) rfl hH2 ?_;refine ah 10 (.bool false) rfl hH2 ?_;refine aV ?_;exact hKc _ _ (Met.intro (Od _ _ ⟨_,_,_,_,_,_,_,_,_,_,_,⟨by rw[HD.out],B1.out⟩,rfl⟩))
 case rest=>
  obtain⟨rfl,hbc⟩:=hcut;have HBC:=aa hbc;have ct0:=(hbc.cell (p:=⟨W.heap.size,0,none⟩) KC.out.lt).trans ((KC.out.cell 0).trans HC.out.1);have KCc:=aa (KC.out.below hbc KC.out.lt);have Yc:=aa (KS.out.below hbc KS.out.lt);clear Xa cs0 cs1 hbc;have Rb:=ae (Below W.heap.size W wc) (HB2.out.trans (HBC.out.mono HB2.out.size));have Yd:=ae (J (aY A) wc) (hJ _ _ _ none HF.out.2.2.2.1 ⟨Rb.out.os,Rb.out.tape,Rb.out.output,Rb.out.size,fun k hk _=>Rb.out.block k hk⟩ (fun r e=>by cases e));have Ye:=ae (KeepsFrom z W wc) ((Kq.cV (n₀:=0) (Ty:=Ty) Rb.out (Nat.zero_le _)).iM);obtain⟨sa,sc,rfl⟩:=eY HG.out.2.1;obtain⟨nb,hnb⟩:∃nb:Nat,nb=zs.length/512:=⟨_,rfl⟩;have hnb2:(zs.length:Int)/512=(nb:Int):=by omega
  have HNB:=aa hnb;clear hnb;by_cases hcond:cnt≤fi∨p=0
  ·have hd:decide (cnt≤fi∨p=0)=true:=(by simp[hcond]);rw[hd];clear hd;have HT:=ae (dO cnt (zs.length/512) (aQ zs) lv r p=([],false)) (EI (by rw[←cm.out];exact hcond));clear hcond;gi_wp2
   go_ret;exact⟨true,rfl,.inl ⟨rfl,by rw[HT.out],by rw[HT.out,append_nil];exact Yd.out,Kq.cV Rb.out HF.out.2.2.1⟩⟩
  ·have hd:decide (cnt≤fi∨p=0)=false:=(by simp[hcond]);rw[hd];clear hd;have Rs:=ae (¬(cnt≤aT lv r∨p=0)) (by rw[←cm.out];exact hcond);have hp0:p≠0:=fun e=>hcond (.inr e);have HPG:=ae (cI p (nb:Int)=bM (zs.length/512) p) (by unfold cI bM;rw[HNB.out];simp[hp0]);clear hcond;cases hgd:bM (zs.length/512) p with
   |false=>
    have HT:=aa (EJ (W:=aQ zs) Rs.out hgd);have Ss:=aa hgd;clear hgd;obtain⟨W4,Pf⟩:∃W4,W4=(wc.alloc (.cells #[.int .i64 21] 100)).alloc (.cells #[.string ⟨#[112,111,105,110,116,101,114]⟩,.iface 96 (.pointer (some ⟨wc.heap.size,0,none⟩))] 205):=⟨_,rfl⟩;have Pw:=ae (Below wc.heap.size wc W4) (by rw[Pf];exact(ak.alloc aj _).alloc (by simp) _);have NU:=ae (bU W4 0 1 (.iface 203 (.pointer (some ⟨wc.heap.size+1,0,none⟩))) 21) (by
     refine⟨wc.heap.size+1,.iface 96 (.pointer (some ⟨wc.heap.size,0,none⟩)),rfl,by omega,?_,wc.heap.size,rfl,by omega,?_⟩
     ·rw[Pf];simp
     ·rw[Pf];simp)
    have UX:=ae (J (aY A) W4) (hJ _ _ _ none Yd.out ⟨Pw.out.os,Pw.out.tape,Pw.out.output,Pw.out.size,fun k hk _=>Pw.out.block k hk⟩ (fun r e=>by cases e));obtain⟨fn,tmps,assign,body,hy,Px⟩:=HG.out.1 (n-1) (aY A) ((0,0,0),.iface 203 (.pointer (some ⟨wc.heap.size+1,0,none⟩))) W4 UX.out (.inr ⟨rfl,A,rfl,by have:=HF.out.2.2.2.2.bad (by rw[HT.out]);rw[HT.out,append_nil] at this;exact this,1,NU.out⟩);replace hy:(Instr.yield lY #[.agg #[.int .i64 0,.int .i64 0,.int .i64 0],.iface 203 (.pointer (some ⟨wc.heap.size+1,0,none⟩))]).run prog W4=.ok (.round lY fn tmps assign body) W4:=hy;have Rc:=aa Px;clear Px;subst Pf;gi_upto_region 4 with(first|(refine⟨trivial,hdd _,?_⟩;gi_at_call 154;refine(callsIn_wide.2 (pH p (nb:Int) _)).mono ?_;rintro e w9 ⟨rfl,rfl⟩;rw[HPG.out,Ss.out]))
    gi_wp2
    refine⟨hdd _,?_⟩;refine Rc.out.mono ?_;rintro e W5 (⟨rfl,Rt,hk5⟩|⟨rfl,hx5⟩)
    ·have H5:=aa (ai Rt ((Ye.out.trans (Kq.cV (n₀:=0) (Ty:=Ty) Pw.out (Nat.zero_le _)).iM).trans hk5.iM));clear Rt hk5;gi_wp2
     go_ret;exact⟨false,rfl,.inr ⟨rfl,H5.out.2,.inr ⟨by rw[HT.out],_,by rw[HT.out,append_nil];exact H5.out.1⟩⟩⟩
    ·have H5:=aa (ai hx5.1 ((Ye.out.trans (Kq.cV (n₀:=0) (Ty:=Ty) Pw.out (Nat.zero_le _)).iM).trans hx5.2));clear hx5;gi_wp2
     go_ret;exact⟨false,rfl,.inr ⟨rfl,H5.out.2,.inl ⟨_,H5.out.1⟩⟩⟩
   |true=>
    have Ss:=aa hgd;obtain⟨hp2,hp3⟩:=mZ hgd hp0;obtain⟨q,rfl⟩:∃q:Nat,p=(q:Int):=⟨p.toNat,by omega⟩;have hq1:q*512+512≤zs.length:=(by omega);clear hgd hp2 hp3 hp0;obtain⟨fn,tmps,assign,body,hy,Px⟩:=HG.out.1 (n-1) (aY A) ((lv,r,(q:Int)),.nilIface) wc Yd.out (.inl ⟨rfl,A,rfl,EK Rs.out Ss.out HF.out.2.2.2.2⟩);replace hy:(Instr.yield lY #[.agg #[.int .i64 (lv:Int),.int .i64 (r:Int),.int .i64 (q:Int)],.nilIface]).run prog wc=.ok (.round lY fn tmps assign body) wc:=hy;have Rc:=aa Px;clear Px;have cS0:=(Yc.out.cell 0).trans (show _=some (.int .i64 (lv:Int)) from rfl);have cS1:=(Yc.out.cell 1).trans (show _=some (.int .i64 (r:Int)) from rfl);gi_upto_region 6 with(first|(refine⟨trivial,hdd _,?_⟩;gi_at_call 154;refine(callsIn_wide.2 (pH (q:Int) (nb:Int) _)).mono ?_;rintro e w9 ⟨rfl,rfl⟩;rw[HPG.out,Ss.out]))
    gi_wp2
    refine⟨hdd _,?_⟩;refine Rc.out.mono ?_;rintro e W5 (⟨rfl,Rt,hk5⟩|⟨rfl,hx5⟩)
    ·rw[←qF] at Rt;have Yf:=aa (hk5.blk KCc.out hT1);have Qs:=aa (hk5.blk Yc.out ON);have H5:=aa (ai Rt ((Kq.cV (Ty:=Ty) (z:=z) Rb.out HF.out.2.2.1).trans hk5));have c5:=(Qs.out.cell 0).trans (show _=some (.int .i64 (lv:Int)) from rfl);clear Rt hk5 cS0 cS1 ct0 hy Rc;cases lv with
     |zero=>
      have HT:=aa (xX (W:=aQ zs) Rs.out Ss.out);gi_wp2
      go_ret;exact⟨true,rfl,.inl ⟨rfl,by rw[HT.out],by rw[HT.out];exact H5.out.1,H5.out.2⟩⟩
     |succ l'=>
      have HT:=aa (xY (W:=aQ zs) Rs.out Ss.out);have h5:((l':Int)+1==0)=false:=(by simp;omega);have c5':W5.cell? ⟨W.heap.size+1,0,none⟩=some (.int .i64 ((l':Int)+1)):=(by rw[c5];simp);clear c5;have Xb:=ae (Rd .u8 W5 (.slice sa zs.length sc) zs) (HG.out.2.1.below (by rw[←hn₀];exact HF.out.2.1.trans H5.out.2.below));obtain⟨ws,hws⟩:∃ws,ws=(range 128).map (aQ zs (q:Int)):=⟨_,rfl⟩;have HWS:=aa hws;clear hws;gi_upto_region 10 with fail
      refine wpIn_wide.2 ?_;go_wp2_with (first
       |(refine wpList_load_row rfl 108 _ rfl W.heap.size rfl 108 C (0,0) _ Yf.out underlying108 rfl (by rw[HC.out.2.2];exact jm) ?_)
       |(go_at_call 131;refine(EC C _ zs q _ HC.out.1 HC.out.2.2 Xb.out hq1 hz HG.out.2.2.1).mono ?_;rintro e w6 ⟨rfl,b6⟩;rw[←HWS.out];have B6:=aa b6;clear b6))
      have hws:=HWS.out;have hwl:ws.length=128:=(by rw[hws];simp);have HWG:=ae (∀k,k<128→ws.getD k 0=aQ zs (q:Int) k) (fun k hk=>by rw[hws];simp[List.getD,hk]);have HIX:=aa (fun(k:Nat) (hk:k<128) (w:World)=>EL ws k hwl hk w);obtain⟨L,hL⟩:∃L,L=(range 128).map (fun k=>(dO cnt (zs.length/512) (aQ zs) l' (bI l' r k) (aQ zs (q:Int) k))):=⟨_,rfl⟩;have HL:=ae (∀k,k<128→L[k]?=some (dO cnt (zs.length/512) (aQ zs) l' (bI l' r k) (aQ zs (q:Int) k))) (fun k hk=>by rw[hL];simp[hk]);have Uj:=ae (L.length=128) (by rw[hL];simp);have Qt:=ae (dO cnt (zs.length/512) (aQ zs) (l'+1) r (q:Int)=cM ([(l'+1,r,(q:Int))],false) (dz L)) (by rw[hL];exact HT.out);have UY:=ae (tS n₀ z Ty J Z (A++[(l'+1,r,(q:Int))]) L C #[.int .i64 ((l'+1:Nat):Int),.int .i64 (r:Int)] W 0 w6) (by
       refine⟨?_,?_,fun x hx=>by simp at hx,H5.out.2.trans (Kq.cV B6.out (aK HF.out.2.2.1 H5.out.2.size)),Yf.out.below B6.out Yf.out.lt,Qs.out.below B6.out Qs.out.lt⟩
       ·simp only[List.take_zero,List.flatMap_nil,append_nil];exact hJ _ _ _ none H5.out.1 ⟨B6.out.os,B6.out.tape,B6.out.output,B6.out.size,fun k hk _=>B6.out.block k hk⟩ (fun r e=>by cases e)
       ·simp only[List.take_zero,List.flatMap_nil,append_nil,List.drop_zero];have:=HF.out.2.2.2.2;rw[Qt.out] at this;exact this.snd rfl)
      have Nv:cnt≤512:=(by omega);have Xc:=ae (∀k,k<128→aT l' (bI l' r k)≤100000) (fun k hk=>EM (by omega) hk (by have h1:=Rs.out;omega));clear h5 c5' hws hL hwl hcnt;gi_wp2
      gi_loopw [50] (fun kv wr=>∃k:Nat,k≤128∧kv=.int .i64 (k:Int)∧tS n₀ z Ty J Z (A++[(l'+1,r,(q:Int))]) L C #[.int .i64 ((l'+1:Nat):Int),.int .i64 (r:Int)] W k wr) (fun kv _=>128-(intOf kv).toNat)
      case atStart=>exact⟨0,by omega,rfl,UY.out⟩
      case round=>
       obtain⟨k,hk,rfl,hlp⟩:=hrel;have Nz:=aa hlp;clear hlp UY;by_cases hk2:k<128
       ·have Oc:(k:Int)<128:=(by omega);have hix:=HIX.out k hk2;rw[HWG.out k hk2] at hix;have e0:=(Nz.out.spot.cell 0).trans (show _=some (.int .i64 ((l'+1:Nat):Int)) from rfl);have e1:=(Nz.out.spot.cell 1).trans (show _=some (.int .i64 (r:Int)) from rfl);obtain⟨x,hx⟩:∃x,x=aQ zs (q:Int) k:=⟨_,rfl⟩;rw[←hx] at hix;have HX:=aa hx;clear hx;gi_upto_region 13 with fail
        gi_cut [61] from 63 (fun v w'=>∃b w1,v=.bool (!b)∧Below wr.heap.size wr w1∧xZ n₀ z Ty J Jx ((A++[(l'+1,r,(q:Int))])++(L.take k).flatMap (·.1)) (dO cnt (zs.length/512) (aQ zs) l' (bI l' r k) (aQ zs (q:Int) k)) w1 b w')
        case first Jc Kc Od hKc=>
         refine wpIn_wide.2 ?_;refine wp_region_noPanic ?_;refine nR (fun w'=>Below wr.heap.size wr w') 6 (by kernel_rfl) ?_;have hH:Below wr.heap.size wr wr.drew:=ak.drew;refine cQ 0 (.agg C.toList.toArray) rfl hH ?_ (yieldsIf_load_mid (by rfl) 108 _ rfl W.heap.size 0 rfl C.toList _ (fun w' hw' j u hj=>by rw[Nat.zero_add,(hw'.cell (p:=⟨W.heap.size,j,none⟩) Nz.out.tree.lt),Nz.out.tree.cell j];simpa using hj) underlying108 rfl (by rw[Array.length_toList,HC.out.2.2];exact jm));simp only[Array.toArray_toList];refine cQ 4 (.int .i64 x) rfl hH ?_;refine cQ 5 (.func (.yield lY) #[] #[]) rfl hH ?_;have f0:=(hH.cell (p:=⟨W.heap.size+1,0,none⟩) Nz.out.spot.lt).trans e0;have f1:=(hH.cell (p:=⟨W.heap.size+1,1,none⟩) Nz.out.spot.lt).trans e1;refine EF (i:=1) (j:=2) (by kernel_rfl) rfl rfl (fun K hK=>?_) (fun K hK=>?_)
         ·go_simp;refine hK.out _ _ (fun _ _=>hH) ?_;clear hK K;try simp only[Act.put,av,ay,az,aA,aB,aC]
          refine dY (i:=2) (by kernel_rfl) rfl (fun K hK=>?_);go_simp;refine hK.out _ _ (fun _ _=>hH) ?_;clear hK K;try simp only[Act.put,av,ay,az,aA,aB,aC]
          refine dY (i:=3) (by kernel_rfl) rfl (fun K hK=>?_);go_simp;refine(m4 l' r k _ (by omega) (by have h1:=Rs.out;have h2:=fY (l'+1) r;have h3:=Xc.out 0 (by omega);have h4:=fY l' (bI l' r 0);unfold bI at h4;omega) (by omega)).mono ?_;rintro e w1 ⟨rfl,b1⟩;have B1:=ae (Below wr.heap.size wr w1) (hH.trans b1);clear b1;refine hK.out _ _ (fun _ _=>B1.out) ?_;clear hK K;try simp only[Act.put,av,ay,az,aA,aB,aC]
          refine dY (i:=6) (by kernel_rfl) rfl (fun K hK=>?_);go_simp;have hbw:Below n₀ w0 w1:=HF.out.2.1.trans (Nz.out.kq.below.trans (B1.out.mono (aK HF.out.2.2.1 Nz.out.kq.size)));have UZ:=hJ _ _ w1 none Nz.out.inv ⟨B1.out.os,B1.out.tape,B1.out.output,B1.out.size,fun k hk _=>B1.out.block k hk⟩ (fun r e=>by cases e);have hcall:=callsIn_wide.1 (HG.out.2.2.2 l' rfl 0 (bI l' r k) x _ w1 (Xc.out k hk2) hbw (aK HF.out.2.2.1 (aK Nz.out.kq.size B1.out.size)) UZ (by rw[HX.out];exact(qN Nz.out.fits (HL.out k hk2)).1));refine hcall.mono ?_;rintro e w2 ⟨b,rfl,htp⟩;have SX:=aa htp;clear htp hcall UZ hbw;refine hK.out _ _ (fun h _=>absurd rfl h) ?_;clear hK K;try simp only[Act.put,av,ay,az,aA,aB,aC]
          refine dY (i:=7) (by kernel_rfl) rfl (fun K hK=>?_);go_simp;refine hK.out _ _ (fun _ h=>Bool.noConfusion (show true=false from h)) ?_;clear hK K;try simp only[Act.put,av,ay,az,aA,aB,aC]
          refine m5 (by kernel_rfl) (NoPanic.normal ?_) _;exact hKc _ _ (Met.intro (Od _ _ ⟨_,_,_,_,_,_,_,_,⟨b,w1,rfl,B1.out,by rw[HX.out] at SX;exact SX.out⟩,rfl⟩))
         ·go_simp;refine hK.out _ _ (fun _ _=>hH) ?_;clear hK K;try simp only[Act.put,av,ay,az,aA,aB,aC]
          refine dY (i:=1) (by kernel_rfl) rfl (fun K hK=>?_);go_simp;refine hK.out _ _ (fun _ _=>hH) ?_;clear hK K;try simp only[Act.put,av,ay,az,aA,aB,aC]
          refine dY (i:=3) (by kernel_rfl) rfl (fun K hK=>?_);go_simp;refine(m4 l' r k _ (by omega) (by have h1:=Rs.out;have h2:=fY (l'+1) r;have h3:=Xc.out 0 (by omega);have h4:=fY l' (bI l' r 0);unfold bI at h4;omega) (by omega)).mono ?_;rintro e w1 ⟨rfl,b1⟩;have B1:=ae (Below wr.heap.size wr w1) (hH.trans b1);clear b1;refine hK.out _ _ (fun _ _=>B1.out) ?_;clear hK K;try simp only[Act.put,av,ay,az,aA,aB,aC]
          refine dY (i:=6) (by kernel_rfl) rfl (fun K hK=>?_);go_simp;have hbw:Below n₀ w0 w1:=HF.out.2.1.trans (Nz.out.kq.below.trans (B1.out.mono (aK HF.out.2.2.1 Nz.out.kq.size)));have UZ:=hJ _ _ w1 none Nz.out.inv ⟨B1.out.os,B1.out.tape,B1.out.output,B1.out.size,fun k hk _=>B1.out.block k hk⟩ (fun r e=>by cases e);have hcall:=callsIn_wide.1 (HG.out.2.2.2 l' rfl 0 (bI l' r k) x _ w1 (Xc.out k hk2) hbw (aK HF.out.2.2.1 (aK Nz.out.kq.size B1.out.size)) UZ (by rw[HX.out];exact(qN Nz.out.fits (HL.out k hk2)).1));refine hcall.mono ?_;rintro e w2 ⟨b,rfl,htp⟩;have SX:=aa htp;clear htp hcall UZ hbw;refine hK.out _ _ (fun h _=>absurd rfl h) ?_;clear hK K;try simp only[Act.put,av,ay,az,aA,aB,aC]
          refine dY (i:=7) (by kernel_rfl) rfl (fun K hK=>?_);go_simp;refine hK.out _ _ (fun _ h=>Bool.noConfusion (show true=false from h)) ?_;clear hK K;try simp only[Act.put,av,ay,az,aA,aB,aC]
          refine m5 (by kernel_rfl) (NoPanic.normal ?_) _;exact hKc _ _ (Met.intro (Od _ _ ⟨_,_,_,_,_,_,_,_,⟨b,w1,rfl,B1.out,by rw[HX.out] at SX;exact SX.out⟩,rfl⟩))
        case rest=>
         obtain⟨b,w1,rfl,hb1,htp⟩:=hcut;rcases htp with⟨rfl,ht,hj,hkq⟩|⟨rfl,hx⟩
         ·have HN:=ae (tS n₀ z Ty J Z (A++[(l'+1,r,(q:Int))]) L C #[.int .i64 ((l'+1:Nat):Int),.int .i64 (r:Int)] W (k+1) wc) (by
           have hq:Kq n₀ z Ty wr wc:=(Kq.cV hb1 (aK HF.out.2.2.1 Nz.out.kq.size)).trans hkq;obtain⟨hlt,eL⟩:=List.getElem?_eq_some_iff.1 (HL.out k hk2);refine⟨?_,(qN Nz.out.fits (HL.out k hk2)).2 ht,?_,Nz.out.kq.trans hq,hq.blk Nz.out.tree hT1,hq.blk Nz.out.spot ON⟩
           ·rw[List.take_succ_eq_append_getElem hlt,eL,List.flatMap_append, ←List.append_assoc];simpa using hj
           ·intro y hy;rw[List.take_succ_eq_append_getElem hlt,eL] at hy;rcases List.mem_append.1 hy with hy|hy
            ·exact Nz.out.good y hy
            ·simp at hy;rw[hy];exact ht)
          clear ht hj hkq hb1 hix e0 e1 Nz;gi_wp2
          go_roundw
          case rel=>exact⟨k+1,by omega,by go_num,HN.out⟩
          case measure=>simp[intOf];omega
         ·have HXx:=aa (ai hx.2 ((Nz.out.kq.iM.trans (Kq.cV (n₀:=0) (Ty:=Ty) hb1 (Nat.zero_le _)).iM).trans hx.1));clear hx hb1 hix e0 e1;gi_wp2
          go_ret;refine⟨false,rfl,.inr ⟨rfl,HXx.out.2,?_⟩⟩;rcases HXx.out.1 with h|⟨h1,y,h2⟩
          ·exact .inl h
          ·refine .inr ?_;rw[Qt.out,tR L k _ Nz.out.good (HL.out k hk2) h1];refine⟨by simp[cM],y,?_⟩;simpa [cM] using h2
       ·have hk3:k=128:=(by omega);subst hk3;clear hk2;gi_wp2
        go_ret;have Yg:L.take 128=L:=List.take_of_length_le (by rw[Uj.out];omega);have hg:=Nz.out.good;have hi:=Nz.out.inv;rw[Yg] at hg hi;refine⟨true,rfl,.inl ⟨rfl,?_,?_,Nz.out.kq⟩⟩
        ·rw[Qt.out,nJ L hg];simp[cM]
        ·rw[Qt.out,nJ L hg];simpa [cM] using hi
    ·have H5:=aa (ai hx5.1 (Ye.out.trans hx5.2));clear hx5;gi_wp2
     go_ret;exact⟨false,rfl,.inr ⟨rfl,H5.out.2,.inl ⟨_,H5.out.1⟩⟩⟩
end
end Go.Proofs.YtpplnhkpcpieoaaGreatDoor
