/- The program's MapFlush: what it asks of the passes -/
import Derived.Test.YtpplnhkpcpieoaaGreatDoorZx27
namespace Go.Proofs.YtpplnhkpcpieoaaGreatDoor
open Go.Proofs.Tryz
open _root_.List (getD range)
set_option linter.all false
set_option maxRecDepth 100000
set_option maxHeartbeats 16000000
section
open Go.RowKit Go.Shelf
theorem cF.run{m n:Nat}(hn:n≤2048)(bf ol:List Int):∀(f:Nat) (s:FD),cF m n s→cF m n (fJ m bf ol f s).1
 |0,s,h=>h
 |f+1,s,h=>by
  have h1:=(h.pass hn bf ol).1;unfold fJ;split
  ·exact cF.run hn bf ol f _ h1
  ·exact h1
theorem zW{m n:Nat}{ws:List Int}{cu:Int}(hw:ws.length=n)(hr:∀z∈ws,0≤z∧z<4294967296)(hc:2≤cu∧cu<(n:Int)):cF m n (gJ m ws cu):=by
 have e:∀k,(List.replicate (m+1) (0:Int)).getD k 0=0:=fun k=>by
  simp[getD,List.getElem?_replicate];split<;>rfl
 refine⟨hw,hr,by simp[gJ],fun k=>.inl (e k),fun k=>?_,by simp[gJ],?_⟩
 ·constructor
  ·intro h;simp[gJ] at h
  ·intro h;exact absurd (e k) h
 ·show 2≤cu.toNat∧cu.toNat<n;omega
theorem zX{N:Nat}(hN:0<N):∀(pre:List TX) (f:Nat→List Int),(∀x∈pre,0≤x.1.2.2∧x.1.2.2<(N:Int))→(∀l k,0≤(f l).getD k 0∧(f l).getD k 0<(N:Int))→∀l k,0≤((pre.foldl (fun f x=>aO f x.1.1 (dD (f x.1.1) x.1.2.1 x.1.2.2)) f) l).getD k 0∧((pre.foldl (fun f x=>aO f x.1.1 (dD (f x.1.1) x.1.2.1 x.1.2.2)) f) l).getD k 0<(N:Int)
 |[],f,_,h=>h
 |x::pre,f,hx,h=>by
  refine zX hN pre _ (fun y hy=>hx y (List.mem_cons_of_mem _ hy)) (fun l k=>?_);show 0≤(aO f x.1.1 (dD (f x.1.1) x.1.2.1 x.1.2.2) l).getD k 0∧(aO f x.1.1 (dD (f x.1.1) x.1.2.1 x.1.2.2) l).getD k 0<(N:Int);unfold aO;split
  ·rw[nj];split
   ·exact hx x (List.mem_cons_self ..)
   ·exact h _ k
  ·exact h l k
theorem zY{zs:List Int}{s:Int}{ds:List Int}{p q:Int}{m n:Nat}(hn:0<n)(hz:n=zs.length/512):∀k,k<m+1→0≤(gm m (gr zs s ds p q)).getD k 0∧(gm m (gr zs s ds p q)).getD k 0<(n:Int):=by
 have h:=zX hn (aY (ZR zs s ds p q).1) (fun _=>[]) (fun x hx=>by
  unfold aY at hx;obtain⟨g,hg,rfl⟩:=List.mem_map.1 hx;have hG:=tY hg;have h1:=hG.1;have h2:=hG.2.1;rw[←hz] at h1;unfold bM at h1;simp at h1;show 0≤g.2.2∧g.2.2<(n:Int);omega) (fun l k=>by simp;omega)
 intro k hk;rcases Nat.lt_or_ge k m with h1|h1
 ·rw[uU _ h1];exact h 0 k
 ·obtain rfl:k=m:=by omega
  rw[uV];exact h 1 0
theorem zZ{ws:List Int}(h:eD ws=true):∀z∈ws,0≤z∧z<4294967296:=by
 intro z hz;obtain⟨k,hk,rfl⟩:=List.getElem_of_mem hz;obtain⟨y,h1,h2⟩:=Dw ws h k hk;have h3:ws.getD k 0=ws[k]:=by simp[getD,hk]
 rw[h3] at h1;rw[h1];omega
theorem rU.split{w w':World}{zs:List Int}{s:Int}{ds:List Int}{p q:Int}{ws:List Int}{cu:Int}{e:Ending}(h:rU w w' zs s ds p q ws cu e):∃pv ev,e=.returned (.tuple #[pv,ev])∧((∃c k,pv=.pointer none∧bU w' 0 k ev c∧((fN zs s ds p q ws cu=false∧c=7)∨(fN zs s ds p q ws cu=true∧(ZR zs s ds p q).2=true∧c=21)))∨(fN zs s ds p q ws cu=true∧(ZR zs s ds p q).2=false∧ev=.nilIface∧∃b R,pv=.pointer (some ⟨b,0,none⟩)∧w.heap.size≤b∧ef w' w.heap.size b ((ws.length+127)/128) (eS zs s ds p q ws.length) (gm ((ws.length+127)/128) (gr zs s ds p q)) (gJ ((ws.length+127)/128) ws cu) R (.slice none 0 0)))∧Below w.heap.size w w':=by
 obtain⟨h,hb⟩:=h;rcases h with⟨h1,ev,k,rfl,h2⟩|⟨h1,h2,ev,k,rfl,h3⟩|⟨h1,h2,b,R,rfl,h3,h4⟩
 ·exact⟨_,_,rfl,.inl ⟨7,k,rfl,h2,.inl ⟨h1,rfl⟩⟩,hb⟩
 ·exact⟨_,_,rfl,.inl ⟨21,k,rfl,h3,.inr ⟨h1,h2,rfl⟩⟩,hb⟩
 ·exact⟨_,_,rfl,.inr ⟨h1,h2,rfl,b,R,rfl,h3,h4⟩,hb⟩
def kj(zs:List Int)(s:Int)(ds:List Int)(p q:Int)(ws:List Int)(cu:Int):FD×Bool:=fJ ((ws.length+127)/128) (eS zs s ds p q ws.length) (gm ((ws.length+127)/128) (gr zs s ds p q)) ((ws.length+127)/128+2) (gJ ((ws.length+127)/128) ws cu)
def nw(zs:List Int)(s:Int)(ds:List Int)(p q:Int)(ws:List Int)(cu:Int):Nat→Int:=iF ((ws.length+127)/128) (gm ((ws.length+127)/128) (gr zs s ds p q)) (kj zs s ds p q ws cu).1.pl (kj zs s ds p q ws cu).1.od
def gK(zs:List Int)(s:Int)(ds:List Int)(p q:Int)(ws:List Int)(cu:Int):Int:=if fN zs s ds p q ws cu=false then 7 else if(ZR zs s ds p q).2=true then 21 else if(kj zs s ds p q ws cu).2=false then 9 else 0
def iG:Array Value:=#[.int .i64 0,.int .i64 0,.int .i64 0,.int .i64 0,.int .i64 0,.int .i64 0,.int .i64 0,.int .i64 0,.int .i64 0,.int .i64 0,.int .i64 0,.int .i64 0,.int .i64 0,.int .i64 0,.int .i64 0,.slice none 0 0,.int .i64 0,.slice none 0 0]
def uY(w w':World)(zs:List Int)(s:Int)(ds:List Int)(p q:Int)(ws:List Int)(cu:Int)(e:Ending):Prop:=
 (
  (gK zs s ds p q ws cu≠0∧e=.returned (.tuple #[.agg iG,.int .i64 (gK zs s ds p q ws cu)]))∨
  (gK zs s ds p q ws cu=0∧∃wv pv vs,e=.returned (.tuple #[.agg (((jg ((ws.length+127)/128) ws.length (nw zs s ds p q ws cu)).map (Value.int .i64)++[wv,.int .i64 ((kj zs s ds p q ws cu).1.cu:Int),pv]).toArray),.int .i64 0])∧w'.ownsRow w.heap.size 3 1 wv ws.length ((kj zs s ds p q ws cu).1.ws.map (Value.int .i64))∧aZ w' w.heap.size 55 1 pv (((kj zs s ds p q ws cu).1.od.map (dG ((ws.length+127)/128) (kj zs s ds p q ws cu).1.ws (nw zs s ds p q ws cu))).map bu) vs))∧Below w.heap.size w w'
theorem Ij(iv wv:Value)(zs ws:List Int)(s:Int)(ds:List Int)(p q cu:Int)(w:World)(h:Rd .u8 w iv zs)(hz:zs.length≤1048576)(hbd:∀z∈zs,0≤z∧z<256)(hd:ds.length=12)(hw:Rd .i64 w wv ws)(hwn:ws.length≤1048576)(hg:eM w):
 Calls prog 21 #[iv,.agg (an (aD s ds p q)),wv,.int .i64 cu] w fun e w'=>uY w w' zs s ds p q ws cu e:=by
 obtain⟨ia,ic,rfl⟩:=eY h;obtain⟨wa,wc,rfl⟩:=eY hw;obtain⟨RT,Ov⟩:∃RT,RT=an (aD s ds p q):=⟨_,rfl⟩;have Nt:=ae ((prog.info? 31).map (·.size)=some RT.size) (by rw[Ov,ct,dw s ds p q hd];exact dV);obtain⟨ZM,Qh⟩:∃ZM,ZM=iG:=⟨_,rfl⟩;have Ot:=aa Qh;have Pe:=ae ((prog.info? 47).map (·.size)=some ZM.size) (by rw[Qh];exact fV);have Uz:=ae (ZM.all (·.oneCell')=true) (by rw[Qh];unfold iG;simp only[List.all_toArray,List.all_cons,List.all_nil];rfl);obtain⟨W1,hW1⟩:∃W1,W1=(w.alloc (.cells RT 31)).alloc (.cells ZM 47):=⟨_,rfl⟩;have HW1:=aa hW1;have K1:=ae (af W1 w.heap.size RT 31) (by rw[hW1];exact(af.new _ _ _).alloc _);have Z1:=ae (af W1 (w.heap.size+1) ZM 47) (by rw[hW1];have h:=af.new (w.alloc (.cells RT 31)) ZM 47;rw[World.size_alloc] at h;exact h);have B1:=ae (Below w.heap.size w W1) (by rw[hW1];exact(ak.alloc aj _).alloc (by simp) _);have Uw:=ae (Calls prog 55 #[.slice ia zs.length ic,.agg RT,.slice wa ws.length wc,.int .i64 cu] W1 fun e w'=>rU W1 w' zs s ds p q ws cu e) (by
  rw[Ov];exact Ii _ _ zs ws s ds p q cu W1 (h.below B1.out) hz hbd hd (hw.below B1.out) hwn)
 obtain⟨zn,hzn⟩:∃zn,zn=zs.length:=⟨_,rfl⟩;obtain⟨n,hn⟩:∃n,n=ws.length:=⟨_,rfl⟩;have jq:=aa (ai hzn hn);have HG:=aa hg;rw[←hzn, ←hn] at Uw;rw[←Ov, ←hzn, ←hn];clear h hw hd hbd Ov Qh hW1 hzn hn hz hwn hg;go_enter func21,ntmps21;go_upto_region 1 with fail;rw[show(#[.int .i64 0,.int .i64 0,.int .i64 0,.int .i64 0,.int .i64 0,.int .i64 0,.int .i64 0,.int .i64 0,.int .i64 0,.int .i64 0,.int .i64 0,.int .i64 0,.int .i64 0,.int .i64 0,.int .i64 0,.slice none 0 0,.int .i64 0,.slice none 0 0]:Array Value)=ZM from Ot.out.symm, ←HW1.out];go_upto_region 2 with(first
  |(refine wpList_load_row rfl 31 _ rfl w.heap.size rfl 31 RT (0,0) _ K1.out underlying31 rfl Nt.out ?_)
  |(
   go_at_call 55
   refine Uw.out.mono ?_;rintro e w2 hR;obtain⟨pv,ev,rfl,hcase,b2⟩:=hR.split;have B2:=aa b2;have Z2:=aa (Z1.out.below b2 Z1.out.lt);have HC:=aa hcase;clear b2 hR hcase)
  |fail)
 have hs1:w.heap.size+2≤W1.heap.size:=Z1.out.lt;have G2:=aa ((HG.out.below B1.out).below B2.out);have PB:=ae (Below w.heap.size w w2) (B1.out.trans (B2.out.mono B1.out.size));rcases HC.out with⟨c,k,rfl,hf,hcc⟩|⟨hok,hz2,rfl,b,R,rfl,hb,Zz⟩
 ·obtain⟨t',x',rfl⟩:=hf.iface;have HF:=aa (ai hf hcc);clear hf hcc;go_wp2_with (first
   |(
    go_at_call 18
    refine(ql k _ c _ _ HF.out.1 G2.out).mono ?_;rintro e w3 ⟨rfl,b3⟩;have B3:=aa b3;have Z3:=aa (Z2.out.below b3 Z2.out.lt);clear b3)
   |(refine wpList_store_row rfl 47 _ _ rfl (w.heap.size+1) (#[.int .i64 0,.int .i64 0,.int .i64 0,.int .i64 0,.int .i64 0,.int .i64 0,.int .i64 0,.int .i64 0,.int .i64 0,.int .i64 0,.int .i64 0,.int .i64 0,.int .i64 0,.int .i64 0,.int .i64 0,.slice none 0 0,.int .i64 0,.slice none 0 0]:Array Value) rfl rfl 47 ZM Z3.out fV (by rw[Ot.out];rfl) (by have:=Uz.out;rw[Ot.out] at this;exact this) ?_)
   |fail)
  refine bodyPost_ret (v:=.tuple #[.agg iG,.int .i64 c]) ?_ rfl ⟨.inl ?_,below_setRow (PB.out.trans (B3.out.mono PB.out.size)) (by omega) _⟩
  ·exact jv rfl _ _ (w.heap.size+1) 47 _ (0,0) _ _ rfl rfl (Z3.out.row _) underlying47 rfl fV
  ·have e:gK zs s ds p q ws cu=c:=by
    unfold gK;rcases HF.out.2 with⟨h1,rfl⟩|⟨h1,h2,rfl⟩
    ·rw[if_pos h1]
    ·rw[if_neg (by rw[h1];decide),if_pos h2]
   rw[e];refine⟨?_,rfl⟩;rcases HF.out.2 with⟨h1,rfl⟩|⟨h1,h2,rfl⟩<;>decide
 ·obtain⟨hsa,hsb,hnz,hsn,NG⟩:=rW hok;have hrm:eD ws=true:=by unfold fN at hok;simp only[Bool.and_eq_true] at hok;exact hok.1.1.1.2
  have hlen:=wL ws hrm;obtain⟨T,hT⟩:∃T,T=kj zs s ds p q ws cu:=⟨_,rfl⟩;have hwf:=zW (m:=((ws.length+127)/128)) (n:=ws.length) rfl (zZ hrm) NG;have hbl:(eS zs s ds p q ws.length).length=ws.length:=by unfold eS;rw[List.length_append,lU,List.length_replicate];omega
  have HWf:=ae (cF ((ws.length+127)/128) ws.length T.1) (by rw[hT];exact cF.run hlen.2 _ _ _ _ hwf);have HPa:=aa (Ho W1.heap.size b ((ws.length+127)/128) ws.length (eS zs s ds p q ws.length) (gm ((ws.length+127)/128) (gr zs s ds p q)) R _ (gJ ((ws.length+127)/128) ws cu) w2 Zz hwf rfl hlen.2 hbl (zY (by omega) hnz) B2.out.size T hT.symm);have NU:=aa Zz;have HT:=aa hT;have NA:=aa (ai hok (ai hz2 hlen));have HB:=aa hb;clear hsa hsb hnz hsn NG hrm hlen hT hwf hbl Zz hok hz2 hb;obtain⟨T1,tq⟩:=T;cases tq with
  |false=>
   go_wp2_with (first
    |(
     go_at_call 56
     refine HPa.out.mono ?_;rintro e w3 ⟨rfl,R',aF,OO,hK3⟩;obtain⟨C0,L0,f0,_⟩:=NU.out;have b3:Below W1.heap.size w2 w3:=hK3.below f0 HB.out B2.out.size;have Qb:=ae (Below w.heap.size w w3) (PB.out.trans (b3.mono (by omega)));have Z3:=aa (Z2.out.below b3 (by omega));clear b3 f0 OO hK3)
    |(refine wpList_store_row rfl 47 _ _ rfl (w.heap.size+1) (#[.int .i64 0,.int .i64 0,.int .i64 0,.int .i64 0,.int .i64 0,.int .i64 0,.int .i64 0,.int .i64 0,.int .i64 0,.int .i64 0,.int .i64 0,.int .i64 0,.int .i64 0,.int .i64 0,.int .i64 0,.slice none 0 0,.int .i64 0,.slice none 0 0]:Array Value) rfl rfl 47 ZM Z3.out fV (by rw[Ot.out];rfl) (by have:=Uz.out;rw[Ot.out] at this;exact this) ?_)
    |fail)
   refine bodyPost_ret (v:=.tuple #[.agg iG,.int .i64 9]) ?_ rfl ⟨.inl ?_,below_setRow Qb.out (by omega) _⟩
   ·exact jv rfl _ _ (w.heap.size+1) 47 _ (0,0) _ _ rfl rfl (Z3.out.row _) underlying47 rfl fV
   ·have e:gK zs s ds p q ws cu=9:=by
     unfold gK;rw[if_neg (by rw[NA.out.1];decide),if_neg (by rw[NA.out.2.1];decide),if_pos (by rw[←HT.out])]
    rw[e];exact⟨by decide,rfl⟩
  |true=>
   go_wp2_with (first
    |(
     go_at_call 56
     refine HPa.out.mono ?_;rintro e w3 ⟨rfl,R',aF,OO,hK3⟩;obtain⟨C0,L0,f0,_⟩:=NU.out;have b3:Below W1.heap.size w2 w3:=hK3.below f0 HB.out B2.out.size;have Qb:=ae (Below w.heap.size w w3) (PB.out.trans (b3.mono (by omega)));have Z3:=aa (Z2.out.below b3 (by omega));have HS3:=ae (W1.heap.size≤w3.heap.size) (aK B2.out.size b3.size);have HF3:=aa OO;have HOu:=aa (Ib W1.heap.size b ((ws.length+127)/128) ws.length (eS zs s ds p q ws.length) (gm ((ws.length+127)/128) (gr zs s ds p q)) R' aF T1 w3 OO HWf.out rfl NA.out.2.2.2 (HG.out.below Qb.out));clear b3 f0 OO hK3)
    |(
     go_at_call 57
     refine HOu.out.mono ?_;rintro e w4 ⟨pv,vs,rfl,o4,b4⟩;obtain⟨C0,L0,f3,r3⟩:=HF3.out;have R4:=ae (w4.ownsRow W1.heap.size 3 1 (R' 1) ws.length (T1.ws.map (Value.int .i64))) (by
      have h:=bz (f3.row 1 (by omega)) b4;rw[r3.ws,HWf.out.wl] at h;exact h)
     obtain⟨pa,pc,hpv⟩:=bO o4.row;obtain⟨ra,rc,hrv⟩:=bO R4.out;obtain⟨MO,Nw⟩:∃MO,MO=((jg ((ws.length+127)/128) ws.length (iF ((ws.length+127)/128) (gm ((ws.length+127)/128) (gr zs s ds p q)) T1.pl T1.od)).map (Value.int .i64)++[R' 1,.int .i64 (T1.cu:Int),pv]).toArray:=⟨_,rfl⟩;rw[←Nw];have TF:=ae (MO.size=18) (by rw[Nw];simp[jg]);have dh:=ae ((prog.info? 47).map (·.size)=some MO.size) (by rw[TF.out];exact fV);have VL:=ae (MO.all (·.oneCell')=true) (by
      rw[Nw];refine all_oneCell_toArray (fun v hv=>?_);rcases List.mem_append.1 hv with hv|hv
      ·obtain⟨z,_,rfl⟩:=List.mem_map.1 hv;rfl
      ·simp at hv;rcases hv with rfl|rfl|rfl
       ·rw[hrv];rfl
       ·rfl
       ·rw[hpv];rfl)
     have H4:=aa (ai o4 (ai b4 Nw));have Z4:=aa (Z3.out.below b4 Z3.out.lt);clear o4 b4 Nw hpv hrv f3 r3)
    |(refine wpList_store_row rfl 47 _ _ rfl (w.heap.size+1) MO rfl rfl 47 ZM Z4.out dh.out (by rw[Ot.out,TF.out];rfl) VL.out ?_)
    |fail)
   have hs3:=HS3.out;refine bodyPost_ret (v:=.tuple #[.agg MO,.int .i64 0]) ?_ rfl ⟨.inr ⟨?_,R' 1,pv,vs,?_,?_,?_⟩,below_setRow (Qb.out.trans (H4.out.2.1.mono Qb.out.size)) (by omega) _⟩
   ·exact jv rfl _ _ (w.heap.size+1) 47 _ (0,0) _ _ rfl rfl (Z4.out.row _) underlying47 rfl dh.out
   ·unfold gK;rw[if_neg (by rw[NA.out.1];decide),if_neg (by rw[NA.out.2.1];decide),if_neg (by rw[←HT.out];simp)]
   ·unfold nw;rw[←HT.out,H4.out.2.2]
   ·rw[←HT.out];exact cH (rT R4.out (fun r hr=>setRow_other w4 (w.heap.size+1) r MO (by omega))) (by omega)
   ·unfold nw;rw[←HT.out];exact aZ.mono (H4.out.1.pX (fun r hr=>setRow_other w4 (w.heap.size+1) r MO (by omega))) (by omega)
end
section
open Go.RowKit
theorem uZ{l k:Nat}{v:Int}:∀(pre:List TX) (f:Nat→List Int),(∀x∈pre,x.1.1=l→x.1.2.1=k→x.1.2.2=v)→
 (((pre.foldl (fun f x=>aO f x.1.1 (dD (f x.1.1) x.1.2.1 x.1.2.2)) f) l).getD k 0=v∧∃x∈pre,x.1.1=l∧x.1.2.1=k)∨(((pre.foldl (fun f x=>aO f x.1.1 (dD (f x.1.1) x.1.2.1 x.1.2.2)) f) l).getD k 0=(f l).getD k 0∧¬∃x∈pre,x.1.1=l∧x.1.2.1=k)
 |[],f,_=>.inr ⟨rfl,fun⟨x,hx,_⟩=>by cases hx⟩
 |x::pre,f,h=>by
  rw[List.foldl_cons];rcases uZ pre (aO f x.1.1 (dD (f x.1.1) x.1.2.1 x.1.2.2)) (fun y hy=>h y (List.mem_cons_of_mem _ hy)) with⟨h1,y,hy,h2⟩|⟨h1,h2⟩
  ·exact .inl ⟨h1,y,List.mem_cons_of_mem _ hy,h2⟩
  ·by_cases hl:x.1.1=l
   ·by_cases hk:x.1.2.1=k
    ·refine .inl ⟨?_,x,List.mem_cons_self,hl,hk⟩;rw[h1, ←hl,bY,nj,if_pos hk.symm];exact h x List.mem_cons_self hl hk
    ·refine .inr ⟨?_,fun⟨y,hy,h3⟩=>?_⟩
     ·rw[h1, ←hl,bY,nj,if_neg (fun e=>hk e.symm)]
     ·rcases List.mem_cons.1 hy with rfl|hy
      ·exact hk h3.2
      ·exact h2 ⟨y,hy,h3⟩
   ·refine .inr ⟨?_,fun⟨y,hy,h3⟩=>?_⟩
    ·rw[h1,aU _ _ _ _ (fun e=>hl e.symm)]
    ·rcases List.mem_cons.1 hy with rfl|hy
     ·exact hl h3.1
     ·exact h2 ⟨y,hy,h3⟩
section
variable {cnt:Nat} {W:Int→Nat→Int} {D:Nat→Int} {S X:Int}
theorem z6(hc:cnt≤512){h:HG}(hm:h∈iz cnt W D S X)(h0:h.1=0):h.2.1<cnt∧h.2.2=cO W D S X h.2.1:=by
 have h1:h∈(iz cnt W D S X).filter (fun h=>h.1==0):=List.mem_filter.2 ⟨hm,by simp[h0]⟩;rw[th hc] at h1;unfold nM at h1;obtain⟨r,hr,h2⟩:=List.mem_flatMap.1 h1;have hr':=List.mem_range.1 hr;split at h2
 ·cases h2
 ·rw[List.mem_singleton] at h2;subst h2;exact⟨hr',rfl⟩
theorem Ik(hc:cnt≤512){k:Nat}(hk:k<cnt)(hn:cO W D S X k≠0):((0,k,cO W D S X k):HG)∈iz cnt W D S X:=by
 have h1:((0,k,cO W D S X k):HG)∈nM cnt W D S X:=by
  unfold nM;refine List.mem_flatMap.2 ⟨k,List.mem_range.2 hk,?_⟩;rw[if_neg hn];exact List.mem_singleton.2 rfl
 rw[←th hc] at h1;exact(List.mem_filter.1 h1).1
theorem ve{b m:Nat}{f:Nat→Int}{h:HG}(hm:h∈fP cnt b m f):h.1=0:=by
 unfold fP at hm;obtain⟨r,hr,h2⟩:=List.mem_flatMap.1 hm;split at h2
 ·cases h2
 ·rw[List.mem_singleton] at h2;rw[h2]
theorem z7{r:Nat}{p:Int}{h:HG}(hm:h∈jc cnt r p):h=(1,r,p):=by
 unfold jc at hm;split at hm
 ·cases hm
 ·exact List.mem_singleton.1 hm
theorem Il{p:Int}{h:HG}(hm:h∈mV cnt p):h.1=2:=by
 unfold mV at hm;split at hm
 ·cases hm
 ·rw[List.mem_singleton.1 hm]
theorem Im{h:HG}(hm:h∈iz cnt W D S X)(h0:h.1=1)(h1:h.2.1=0):h.2.2=S:=by
 unfold iz at hm;rcases List.mem_append.1 hm with hm|hm
 ·have:=ve hm;omega
 rcases List.mem_append.1 hm with hm|hm
 ·rcases List.mem_append.1 hm with hm|hm
  ·rw[z7 hm]
  ·have:=ve hm;omega
 rcases List.mem_append.1 hm with hm|hm
 ·have:=Il hm;omega
 obtain⟨r,hr,h2⟩:=List.mem_flatMap.1 hm;rcases List.mem_append.1 h2 with h2|h2
 ·have h3:=z7 h2;rw[h3] at h1;simp at h1
 ·have:=ve h2;omega
theorem Io(hc:12<cnt)(hn:S≠0):((1,0,S):HG)∈iz cnt W D S X:=by
 unfold iz;refine List.mem_append.2 (.inr (List.mem_append.2 (.inl (List.mem_append.2 (.inl ?_)))));unfold jc;rw[if_neg (by omega)];exact List.mem_singleton.2 rfl
theorem vf{L:List HG}{x:TX}(h:x∈aY L):x.1∈L:=by
 unfold aY at h;obtain⟨g,hg,rfl⟩:=List.mem_map.1 h;exact hg
theorem z8{L:List HG}{h:HG}(hm:h∈L):(h,Value.nilIface)∈aY L:=by
 unfold aY;exact List.mem_map.2 ⟨h,hm,rfl⟩
theorem Ip(hc:cnt≤512)(k:Nat):(dR (aY (iz cnt W D S X)) 0).getD k 0=if k<cnt then cO W D S X k else 0:=by
 unfold dR;rcases uZ (l:=0) (k:=k) (v:=cO W D S X k) (aY (iz cnt W D S X)) (fun _=>[]) (fun x hx h0 h1=>by
  have:=(z6 hc (vf hx) h0).2;rw[this,h1]) with⟨h1,x,hx,h2,h3⟩|⟨h1,h2⟩
 ·rw[h1,if_pos (by have:=(z6 hc (vf hx) h2).1;omega)]
 ·rw[h1];by_cases hk:k<cnt
  ·rw[if_pos hk];by_cases hz:cO W D S X k=0
   ·rw[hz];rfl
   ·exact absurd ⟨_,z8 (Ik hc hk hz),rfl,rfl⟩ h2
  ·rw[if_neg hk];rfl
theorem Iq(hs:cnt≤12→S=0):(dR (aY (iz cnt W D S X)) 1).getD 0 0=S:=by
 unfold dR;rcases uZ (l:=1) (k:=0) (v:=S) (aY (iz cnt W D S X)) (fun _=>[]) (fun x hx h0 h1=>Im (vf hx) h0 h1) with⟨h1,_⟩|⟨h1,h2⟩
 ·exact h1
 ·rw[h1];by_cases hz:S=0
  ·rw[hz];rfl
  ·by_cases hc:12<cnt
   ·exact absurd ⟨_,z8 (Io hc hz),rfl,rfl⟩ h2
   ·exact absurd (hs (by omega)) hz
end
def ox(zs:List Int)(s:Int)(ds:List Int)(p q:Int):List Int:=(range ((s.toNat+511)/512)).map (cO (aQ zs) (fun i=>ds.getD i 0) p q)
theorem Ir(zs:List Int)(s:Int)(ds:List Int)(p q:Int):(ox zs s ds p q).length=(s.toNat+511)/512:=by simp[ox]
theorem Is(zs:List Int)(s:Int)(ds:List Int)(p q:Int)(k:Nat):(ox zs s ds p q).getD k 0=if k<(s.toNat+511)/512 then cO (aQ zs) (fun i=>ds.getD i 0) p q k else 0:=by
 unfold ox;by_cases h:k<(s.toNat+511)/512
 ·rw[if_pos h];simp[getD,h]
 ·rw[if_neg h];have h2:((range ((s.toNat+511)/512)).map (cO (aQ zs) (fun i=>ds.getD i 0) p q)).length≤k:=by simp;omega
  rw[List.getD_eq_getElem?_getD,List.getElem?_eq_none h2];rfl
theorem It{zs:List Int}{s:Int}{ds:List Int}{p q:Int}(hd:ds.length=12)(hok:fG zs s ds p q=true)(hz:(ZR zs s ds p q).2=false)(m:Nat):(∀k,k<m→(gm m (gr zs s ds p q)).getD k 0=(ox zs s ds p q).getD k 0)∧(gm m (gr zs s ds p q)).getD m 0=p:=by
 have hr:cJ s ds p q=true:=by unfold fG at hok;rw[Bool.and_eq_true] at hok;exact hok.2
 have hR:=yG hd hr;rcases um hd hok with⟨h1,h2⟩|⟨h1,h2⟩
 ·refine⟨fun k hk=>?_,?_⟩
  ·rw[uU _ hk];unfold gr;rw[h2,Ip hR.c,Is]
  ·rw[uV];unfold gr;rw[h2,Iq hR.s]
 ·rw[h2] at hz;cases hz
def jh(B:List Int)(k:Nat):List Int:=(range k).map fun b=>if 4*b<B.length then jz B b else 0
theorem rX(B:List Int)(k:Nat):(jh B k).length=k:=by simp[jh]
theorem Iu(B:List Int)(k:Nat):jh B (k+1)=jh B k++[if 4*k<B.length then jz B k else 0]:=by
 unfold jh;rw[List.range_succ,List.map_append];rfl
theorem Iv{zs:List Int}{s:Int}{ds:List Int}{p q:Int}(hbd:∀z∈zs,0≤z∧z<256)(hd:ds.length=12)(hok:fG zs s ds p q=true)(hz:(ZR zs s ds p q).2=false)(n:Nat)(hs:s=0∨s=4*(n:Int)):eS zs s ds p q n=jh (mrB zs s ds p q) n∧(mrB zs s ds p q).length=s.toNat∧∀z∈mrB zs s ds p q,0≤z∧z<256:=by
 have e:mrB zs s ds p q=dN zs s.toNat (aY (ZR zs s ds p q).1):=by rw[←FP hd];unfold ug;rw[if_pos ⟨hok,hz⟩]
 rw[e];have hl:(dN zs s.toNat (aY (ZR zs s ds p q).1)).length=s.toNat:=by
  unfold dN;rw[(uW zs hbd _ _ (fun z hz=>by rw[List.eq_of_mem_replicate hz];omega)).1,List.length_replicate]
 refine⟨?_,hl,uX hbd⟩;unfold eS jh;rw[hl];rcases hs with rfl|rfl
 ·show dr _ (0/4)++List.replicate (n-0/4) 0=_;rw[show 0/4=0 from rfl,Nat.sub_zero];show []++_=_;rw[List.nil_append];refine List.ext_getElem? (fun i=>?_);by_cases hi:i<n
  ·simp[hi]
  ·simp[hi]
 ·have e4:(4*(n:Int)).toNat=4*n:=by omega
  rw[e4,Nat.mul_div_cancel_left _ (by omega),Nat.sub_self,List.replicate_zero,List.append_nil];unfold dr;refine List.map_congr_left (fun k hk=>?_);rw[if_pos (by have:=List.mem_range.1 hk;omega)]
theorem Iw{m n:Nat}{bf ol D:List Int}{sg:Int}{s:FD}(hw:cF m n s)(ho:∀k,k<m→ol.getD k 0=D.getD k 0)(hm:ol.getD m 0=sg)(hod:∀j∈s.od,j∈cE m):(∀k,k<m→iF m ol s.pl s.od k=if s.pl.getD k 0=0 then D.getD k 0 else s.pl.getD k 0)∧(12<m→iF m ol s.pl s.od m=if s.pl.getD m 0=0 then sg else s.pl.getD m 0)∧(¬12<m→iF m ol s.pl s.od m=0)∧∀k∈s.od,iF m ol s.pl s.od k=s.pl.getD k 0:=by
 have key:∀k,k∈cE m→iF m ol s.pl s.od k=if s.pl.getD k 0=0 then ol.getD k 0 else s.pl.getD k 0:=fun k hk=>by
  unfold iF gI;by_cases h:k∈s.od
  ·rw[if_pos h,if_neg ((hw.on k).1 h)]
  ·rw[if_neg h,if_pos hk,if_pos (Classical.byContradiction fun h2=>h ((hw.on k).2 h2))]
 refine⟨fun k hk=>?_,fun h12=>?_,fun h12=>?_,fun k hk=>?_⟩
 ·rw[key k (by unfold cE;exact List.mem_append.2 (.inl (List.mem_range.2 hk))),ho k hk]
 ·rw[key m (by unfold cE;rw[if_pos h12];exact List.mem_append.2 (.inr (List.mem_singleton.2 rfl))),hm]
 ·have hn:m∉cE m:=fun h=>by
   unfold cE at h;rw[if_neg h12,List.append_nil] at h;have:=List.mem_range.1 h;omega
  unfold iF gI;rw[if_neg (fun h=>hn (hod m h)),if_neg hn]
 ·unfold iF;rw[if_pos hk]
theorem Iy(m:Nat)(g g':Nat→Int)(h:∀k,k<m→g k=g' k):lR m g 128=nk m g':=by
 unfold lR nk;refine List.map_congr_left (fun j hj=>?_);by_cases hjm:12+j<m
 ·rw[if_pos hjm,if_pos hjm,h _ hjm]
 ·rw[if_neg hjm,if_neg hjm]
theorem Iz(m n:Nat)(g g':Nat→Int)(sp:Int)(h:∀k,k<m→g k=g' k)(h1:12<m→g' m=sp)(h2:¬12<m→g' m=0):iT m n g sp=an (jg m n g'):=by
 unfold iT;by_cases h12:12<m
 ·rw[if_pos h12];have e:(an (eR n g 12)).setIfInBounds 13 (.int .i64 sp)=an ((eR n g 12).set 13 sp):=by unfold an;simp[List.map_set]
  rw[e];refine congrArg an ?_;unfold eR jg;rw[List.set_cons_succ,h1 h12];refine congrArg (List.cons _) ?_;refine List.ext_getElem? (fun i=>?_);rw[List.getElem?_set];by_cases h3:12=i
  ·subst h3;simp
  ·rw[if_neg h3];by_cases hi:i<14
   ·simp only[List.getElem?_map,List.getElem?_range hi,Option.map_some];by_cases h4:i<12
    ·rw[if_pos h4,if_pos h4,if_pos (by omega),h i (by omega)]
    ·rw[if_neg h4,if_neg h4,if_neg (fun e=>h3 e.symm)]
   ·simp[hi]
 ·rw[if_neg h12];refine congrArg an ?_;unfold eR jg;rw[h2 h12];refine congrArg (List.cons _) (List.map_congr_left (fun j hj=>?_));by_cases hj2:j<12
  ·rw[if_pos hj2];by_cases hjm:j<m
   ·rw[if_pos hjm,if_pos hjm,h j hjm]
   ·rw[if_neg hjm,if_neg hjm]
  ·rw[if_neg hj2,if_neg (by omega)];split<;>rfl
end
end Go.Proofs.YtpplnhkpcpieoaaGreatDoor
