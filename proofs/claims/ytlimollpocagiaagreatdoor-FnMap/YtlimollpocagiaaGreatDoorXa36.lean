/- The program's MapFlush: what it asks of the passes -/
import Derived.Test.YtlimollpocagiaaGreatDoorXa35
import Derived.Laws.Cover3
import Derived.Laws.RangeAny
import Derived.Outline
namespace Go.Proofs.YtlimollpocagiaaGreatDoor
open Go.Proofs.Tryz
set_option linter.all false
set_option maxRecDepth 100000
set_option maxHeartbeats 16000000
section
open Go.RowKit Go.Shelf
theorem bg.run{m n:Nat}(hn:n≤2048)(bf ol:List Int):∀(f:Nat) (s:FD),bg m n s→bg m n (eH m bf ol f s).1
 |0,s,h=>h
 |f+1,s,h=>by
  have h1:=(h.pass hn bf ol).1;unfold eH;split
  ·exact bg.run hn bf ol f _ h1
  ·exact h1
theorem oG{m n:Nat}{ws:List Int}{cu:Int}(hw:ws.length=n)(hr:∀z∈ws,0≤z∧z<4294967296)(hc:2≤cu∧cu<(n:Int)):bg m n (fP m ws cu):=by
 have e:∀k,(List.replicate (m+1) (0:Int)).getD k 0=0:=fun k=>by
  simp[List.getD,List.getElem?_replicate];split<;>rfl
 refine⟨hw,hr,by simp[fP],fun k=>.inl (e k),fun k=>?_,by simp[fP],?_⟩
 ·constructor
  ·intro h;simp[fP] at h
  ·intro h;exact absurd (e k) h
 ·show 2≤cu.toNat∧cu.toNat<n;omega
theorem vN{N:Nat}(hN:0<N):∀(pre:List TX) (f:Nat→List Int),(∀x∈pre,0≤x.1.2.2∧x.1.2.2<(N:Int))→(∀l k,0≤(f l).getD k 0∧(f l).getD k 0<(N:Int))→∀l k,0≤((pre.foldl (fun f x=>aT f x.1.1 (cK (f x.1.1) x.1.2.1 x.1.2.2)) f) l).getD k 0∧((pre.foldl (fun f x=>aT f x.1.1 (cK (f x.1.1) x.1.2.1 x.1.2.2)) f) l).getD k 0<(N:Int)
 |[],f,_,h=>h
 |x::pre,f,hx,h=>by
  refine vN hN pre _ (fun y hy=>hx y (List.mem_cons_of_mem _ hy)) (fun l k=>?_);show 0≤(aT f x.1.1 (cK (f x.1.1) x.1.2.1 x.1.2.2) l).getD k 0∧(aT f x.1.1 (cK (f x.1.1) x.1.2.1 x.1.2.2) l).getD k 0<(N:Int);unfold aT;split
  ·rw[jW];split
   ·exact hx x (List.mem_cons_self ..)
   ·exact h _ k
  ·exact h l k
theorem vO{zs:List Int}{s:Int}{ds:List Int}{p q:Int}{m n:Nat}(hn:0<n)(hz:n=zs.length/512):∀k,k<m+1→0≤(eB m (eD zs s ds p q)).getD k 0∧(eB m (eD zs s ds p q)).getD k 0<(n:Int):=by
 have h:=vN hn (aM (ZR zs s ds p q).1) (fun _=>[]) (fun x hx=>by
  unfold aM at hx;obtain⟨g,hg,rfl⟩:=List.mem_map.1 hx;have hG:=qp hg;have h1:=hG.1;have h2:=hG.2.1;rw[←hz] at h1;unfold be at h1;simp at h1;show 0≤g.2.2∧g.2.2<(n:Int);omega) (fun l k=>by simp;omega)
 intro k hk;rcases Nat.lt_or_ge k m with h1|h1
 ·rw[oD _ h1];exact h 0 k
 ·obtain rfl:k=m:=by omega
  rw[oE];exact h 1 0
theorem oH{ws:List Int}(h:dP ws=true):∀z∈ws,0≤z∧z<4294967296:=by
 intro z hz;obtain⟨k,hk,rfl⟩:=List.getElem_of_mem hz;obtain⟨y,h1,h2⟩:=yx ws h k hk;have h3:ws.getD k 0=ws[k]:=by simp[List.getD,hk]
 rw[h3] at h1;rw[h1];omega
theorem oF.split{w w':World}{zs:List Int}{s:Int}{ds:List Int}{p q:Int}{ws:List Int}{cu:Int}{e:Ending}(h:oF w w' zs s ds p q ws cu e):∃pv ev,e=.returned (.tuple #[pv,ev])∧((∃c k,pv=.pointer none∧bj w' 0 k ev c∧((dS zs s ds p q ws cu=false∧c=7)∨(dS zs s ds p q ws cu=true∧(ZR zs s ds p q).2=true∧c=21)))∨(dS zs s ds p q ws cu=true∧(ZR zs s ds p q).2=false∧ev=.nilIface∧∃b R,pv=.pointer (some ⟨b,0,none⟩)∧w.heap.size≤b∧dA w' w.heap.size b ((ws.length+127)/128) (dO zs s ds p q ws.length) (eB ((ws.length+127)/128) (eD zs s ds p q)) (fP ((ws.length+127)/128) ws cu) R (.slice none 0 0)))∧Below w.heap.size w w':=by
 obtain⟨h,hb⟩:=h;rcases h with⟨h1,ev,k,rfl,h2⟩|⟨h1,h2,ev,k,rfl,h3⟩|⟨h1,h2,b,R,rfl,h3,h4⟩
 ·exact⟨_,_,rfl,.inl ⟨7,k,rfl,h2,.inl ⟨h1,rfl⟩⟩,hb⟩
 ·exact⟨_,_,rfl,.inl ⟨21,k,rfl,h3,.inr ⟨h1,h2,rfl⟩⟩,hb⟩
 ·exact⟨_,_,rfl,.inr ⟨h1,h2,rfl,b,R,rfl,h3,h4⟩,hb⟩
def cI(zs:List Int)(s:Int)(ds:List Int)(p q:Int)(ws:List Int)(cu:Int):FD×Bool:=eH ((ws.length+127)/128) (dO zs s ds p q ws.length) (eB ((ws.length+127)/128) (eD zs s ds p q)) ((ws.length+127)/128+2) (fP ((ws.length+127)/128) ws cu)
def fD(zs:List Int)(s:Int)(ds:List Int)(p q:Int)(ws:List Int)(cu:Int):Nat→Int:=fH ((ws.length+127)/128) (eB ((ws.length+127)/128) (eD zs s ds p q)) (cI zs s ds p q ws cu).1.pl (cI zs s ds p q ws cu).1.od
def cU(zs:List Int)(s:Int)(ds:List Int)(p q:Int)(ws:List Int)(cu:Int):Int:=if dS zs s ds p q ws cu=false then 7 else if(ZR zs s ds p q).2=true then 21 else if(cI zs s ds p q ws cu).2=false then 9 else 0
def cM:Array Value:=#[.int .i64 0,.int .i64 0,.int .i64 0,.int .i64 0,.int .i64 0,.int .i64 0,.int .i64 0,.int .i64 0,.int .i64 0,.int .i64 0,.int .i64 0,.int .i64 0,.int .i64 0,.int .i64 0,.int .i64 0,.slice none 0 0,.int .i64 0,.slice none 0 0]
def oJ(w w':World)(zs:List Int)(s:Int)(ds:List Int)(p q:Int)(ws:List Int)(cu:Int)(e:Ending):Prop:=
 (
  (cU zs s ds p q ws cu≠0∧e=.returned (.tuple #[.agg cM,.int .i64 (cU zs s ds p q ws cu)]))∨
  (cU zs s ds p q ws cu=0∧∃wv pv vs,e=.returned (.tuple #[.agg (((gr ((ws.length+127)/128) ws.length (fD zs s ds p q ws cu)).map (Value.int .i64)++[wv,.int .i64 ((cI zs s ds p q ws cu).1.cu:Int),pv]).toArray),.int .i64 0])∧w'.ownsRow w.heap.size 3 1 wv ws.length ((cI zs s ds p q ws cu).1.ws.map (Value.int .i64))∧bL w' w.heap.size 44 1 pv (((cI zs s ds p q ws cu).1.od.map (bM ((ws.length+127)/128) (cI zs s ds p q ws cu).1.ws (fD zs s ds p q ws cu))).map dz) vs))∧Below w.heap.size w w'
theorem CM(iv wv:Value)(zs ws:List Int)(s:Int)(ds:List Int)(p q cu:Int)(w:World)(h:Rd .u8 w iv zs)(hz:zs.length≤1048576)(hbd:∀z∈zs,0≤z∧z<256)(hd:ds.length=12)(hw:Rd .i64 w wv ws)(hwn:ws.length≤1048576)(hg:eZ w):
 Calls prog 8 #[iv,.agg (aB (aD s ds p q)),wv,.int .i64 cu] w fun e w'=>oJ w w' zs s ds p q ws cu e:=by
 obtain⟨ia,ic,rfl⟩:=dZ h;obtain⟨wa,wc,rfl⟩:=dZ hw;obtain⟨RT,hRT⟩:∃RT,RT=aB (aD s ds p q):=⟨_,rfl⟩;have HInR:=ae ((prog.info? 28).map (·.size)=some RT.size) (by rw[hRT,fc,eR s ds p q hd];exact dr);obtain⟨ZM,hZM⟩:∃ZM,ZM=cM:=⟨_,rfl⟩;have HZM:=aa hZM;have HInZ:=ae ((prog.info? 34).map (·.size)=some ZM.size) (by rw[hZM];exact fX);have HOZ:=ae (ZM.all (·.oneCell')=true) (by rw[hZM];unfold cM;simp only[List.all_toArray,List.all_cons,List.all_nil];rfl);obtain⟨W1,hW1⟩:∃W1,W1=(w.alloc (.cells RT 28)).alloc (.cells ZM 34):=⟨_,rfl⟩;have HW1:=aa hW1;have K1:=ae (af W1 w.heap.size RT 28) (by rw[hW1];exact(af.new _ _ _).alloc _);have Z1:=ae (af W1 (w.heap.size+1) ZM 34) (by rw[hW1];have h:=af.new (w.alloc (.cells RT 28)) ZM 34;rw[World.size_alloc] at h;exact h);have B1:=ae (Below w.heap.size w W1) (by rw[hW1];exact(ak.alloc aj _).alloc (by simp) _);have HOp:=ae (Calls prog 26 #[.slice ia zs.length ic,.agg RT,.slice wa ws.length wc,.int .i64 cu] W1 fun e w'=>oF W1 w' zs s ds p q ws cu e) (by
  rw[hRT];exact CL _ _ zs ws s ds p q cu W1 (h.below B1.out) hz hbd hd (hw.below B1.out) hwn)
 obtain⟨zn,hzn⟩:∃zn,zn=zs.length:=⟨_,rfl⟩;obtain⟨n,hn⟩:∃n,n=ws.length:=⟨_,rfl⟩;have HNN:=aa (ag hzn hn);have HG:=aa hg;rw[←hzn, ←hn] at HOp;rw[←hRT, ←hzn, ←hn];clear h hw hd hbd hRT hZM hW1 hzn hn hz hwn hg;go_enter func8,ntmps8;go_upto_region 1 with fail;rw[show(#[.int .i64 0,.int .i64 0,.int .i64 0,.int .i64 0,.int .i64 0,.int .i64 0,.int .i64 0,.int .i64 0,.int .i64 0,.int .i64 0,.int .i64 0,.int .i64 0,.int .i64 0,.int .i64 0,.int .i64 0,.slice none 0 0,.int .i64 0,.slice none 0 0]:Array Value)=ZM from HZM.out.symm, ←HW1.out];go_upto_region 2 with(first
  |(refine wpList_load_row rfl 28 _ rfl w.heap.size rfl 28 RT (0,0) _ K1.out underlying28 rfl HInR.out ?_)
  |(
   go_at_call 26
   refine HOp.out.mono ?_;rintro e w2 hR;obtain⟨pv,ev,rfl,hcase,b2⟩:=hR.split;have B2:=aa b2;have Z2:=aa (Z1.out.below b2 Z1.out.lt);have HC:=aa hcase;clear b2 hR hcase)
  |fail)
 have hs1:w.heap.size+2≤W1.heap.size:=Z1.out.lt;have G2:=aa ((HG.out.below B1.out).below B2.out);have BW2:=ae (Below w.heap.size w w2) (B1.out.trans (B2.out.mono B1.out.size));rcases HC.out with⟨c,k,rfl,hf,hcc⟩|⟨hok,hz2,rfl,b,R,rfl,hb,hFl⟩
 ·obtain⟨t',x',rfl⟩:=hf.iface;have HF:=aa (ag hf hcc);clear hf hcc;go_wp2_with (first
   |(
    go_at_call 27
    refine(kN k _ c _ _ HF.out.1 G2.out).mono ?_;rintro e w3 ⟨rfl,b3⟩;have B3:=aa b3;have Z3:=aa (Z2.out.below b3 Z2.out.lt);clear b3)
   |(refine wpList_store_row rfl 34 _ _ rfl (w.heap.size+1) (#[.int .i64 0,.int .i64 0,.int .i64 0,.int .i64 0,.int .i64 0,.int .i64 0,.int .i64 0,.int .i64 0,.int .i64 0,.int .i64 0,.int .i64 0,.int .i64 0,.int .i64 0,.int .i64 0,.int .i64 0,.slice none 0 0,.int .i64 0,.slice none 0 0]:Array Value) rfl rfl 34 ZM Z3.out fX (by rw[HZM.out];rfl) (by have:=HOZ.out;rw[HZM.out] at this;exact this) ?_)
   |fail)
  refine bodyPost_ret (v:=.tuple #[.agg cM,.int .i64 c]) ?_ rfl ⟨.inl ?_,below_setRow (BW2.out.trans (B3.out.mono BW2.out.size)) (by omega) _⟩
  ·exact iq rfl _ _ (w.heap.size+1) 34 _ (0,0) _ _ rfl rfl (Z3.out.row _) underlying34 rfl fX
  ·have e:cU zs s ds p q ws cu=c:=by
    unfold cU;rcases HF.out.2 with⟨h1,rfl⟩|⟨h1,h2,rfl⟩
    ·rw[if_pos h1]
    ·rw[if_neg (by rw[h1];decide),if_pos h2]
   rw[e];refine⟨?_,rfl⟩;rcases HF.out.2 with⟨h1,rfl⟩|⟨h1,h2,rfl⟩<;>decide
 ·obtain⟨hsa,hsb,hnz,hsn,hcu⟩:=lO hok;have hrm:dP ws=true:=by unfold dS at hok;simp only[Bool.and_eq_true] at hok;exact hok.1.1.1.2
  have hlen:=oY ws hrm;obtain⟨T,hT⟩:∃T,T=cI zs s ds p q ws cu:=⟨_,rfl⟩;have hwf:=oG (m:=((ws.length+127)/128)) (n:=ws.length) rfl (oH hrm) hcu;have hbl:(dO zs s ds p q ws.length).length=ws.length:=by unfold dO;rw[List.length_append,jI,List.length_replicate];omega
  have HWf:=ae (bg ((ws.length+127)/128) ws.length T.1) (by rw[hT];exact bg.run hlen.2 _ _ _ _ hwf);have HPa:=aa (BJ W1.heap.size b ((ws.length+127)/128) ws.length (dO zs s ds p q ws.length) (eB ((ws.length+127)/128) (eD zs s ds p q)) R _ (fP ((ws.length+127)/128) ws cu) w2 hFl hwf rfl hlen.2 hbl (vO (by omega) hnz) B2.out.size T hT.symm);have HFl:=aa hFl;have HT:=aa hT;have HOk:=aa (ag hok (ag hz2 hlen));have HB:=aa hb;clear hsa hsb hnz hsn hcu hrm hlen hT hwf hbl hFl hok hz2 hb;obtain⟨T1,tq⟩:=T;cases tq with
  |false=>
   go_wp2_with (first
    |(
     go_at_call 28
     refine HPa.out.mono ?_;rintro e w3 ⟨rfl,R',vo',hF3,hK3⟩;obtain⟨C0,L0,f0,_⟩:=HFl.out;have b3:Below W1.heap.size w2 w3:=hK3.below f0 HB.out B2.out.size;have BW3:=ae (Below w.heap.size w w3) (BW2.out.trans (b3.mono (by omega)));have Z3:=aa (Z2.out.below b3 (by omega));clear b3 f0 hF3 hK3)
    |(refine wpList_store_row rfl 34 _ _ rfl (w.heap.size+1) (#[.int .i64 0,.int .i64 0,.int .i64 0,.int .i64 0,.int .i64 0,.int .i64 0,.int .i64 0,.int .i64 0,.int .i64 0,.int .i64 0,.int .i64 0,.int .i64 0,.int .i64 0,.int .i64 0,.int .i64 0,.slice none 0 0,.int .i64 0,.slice none 0 0]:Array Value) rfl rfl 34 ZM Z3.out fX (by rw[HZM.out];rfl) (by have:=HOZ.out;rw[HZM.out] at this;exact this) ?_)
    |fail)
   refine bodyPost_ret (v:=.tuple #[.agg cM,.int .i64 9]) ?_ rfl ⟨.inl ?_,below_setRow BW3.out (by omega) _⟩
   ·exact iq rfl _ _ (w.heap.size+1) 34 _ (0,0) _ _ rfl rfl (Z3.out.row _) underlying34 rfl fX
   ·have e:cU zs s ds p q ws cu=9:=by
     unfold cU;rw[if_neg (by rw[HOk.out.1];decide),if_neg (by rw[HOk.out.2.1];decide),if_pos (by rw[←HT.out])]
    rw[e];exact⟨by decide,rfl⟩
  |true=>
   go_wp2_with (first
    |(
     go_at_call 28
     refine HPa.out.mono ?_;rintro e w3 ⟨rfl,R',vo',hF3,hK3⟩;obtain⟨C0,L0,f0,_⟩:=HFl.out;have b3:Below W1.heap.size w2 w3:=hK3.below f0 HB.out B2.out.size;have BW3:=ae (Below w.heap.size w w3) (BW2.out.trans (b3.mono (by omega)));have Z3:=aa (Z2.out.below b3 (by omega));have HS3:=ae (W1.heap.size≤w3.heap.size) (aN B2.out.size b3.size);have HF3:=aa hF3;have HOu:=aa (Cj W1.heap.size b ((ws.length+127)/128) ws.length (dO zs s ds p q ws.length) (eB ((ws.length+127)/128) (eD zs s ds p q)) R' vo' T1 w3 hF3 HWf.out rfl HOk.out.2.2.2 (HG.out.below BW3.out));clear b3 f0 hF3 hK3)
    |(
     go_at_call 29
     refine HOu.out.mono ?_;rintro e w4 ⟨pv,vs,rfl,o4,b4⟩;obtain⟨C0,L0,f3,r3⟩:=HF3.out;have R4:=ae (w4.ownsRow W1.heap.size 3 1 (R' 1) ws.length (T1.ws.map (Value.int .i64))) (by
      have h:=aY (f3.row 1 (by omega)) b4;rw[r3.ws,HWf.out.wl] at h;exact h)
     obtain⟨pa,pc,hpv⟩:=dM o4.row;obtain⟨ra,rc,hrv⟩:=dM R4.out;obtain⟨MO,hMO⟩:∃MO,MO=((gr ((ws.length+127)/128) ws.length (fH ((ws.length+127)/128) (eB ((ws.length+127)/128) (eD zs s ds p q)) T1.pl T1.od)).map (Value.int .i64)++[R' 1,.int .i64 (T1.cu:Int),pv]).toArray:=⟨_,rfl⟩;rw[←hMO];have HSM:=ae (MO.size=18) (by rw[hMO];simp[gr]);have HInM:=ae ((prog.info? 34).map (·.size)=some MO.size) (by rw[HSM.out];exact fX);have HOM:=ae (MO.all (·.oneCell')=true) (by
      rw[hMO];refine all_oneCell_toArray (fun v hv=>?_);rcases List.mem_append.1 hv with hv|hv
      ·obtain⟨z,_,rfl⟩:=List.mem_map.1 hv;rfl
      ·simp at hv;rcases hv with rfl|rfl|rfl
       ·rw[hrv];rfl
       ·rfl
       ·rw[hpv];rfl)
     have H4:=aa (ag o4 (ag b4 hMO));have Z4:=aa (Z3.out.below b4 Z3.out.lt);clear o4 b4 hMO hpv hrv f3 r3)
    |(refine wpList_store_row rfl 34 _ _ rfl (w.heap.size+1) MO rfl rfl 34 ZM Z4.out HInM.out (by rw[HZM.out,HSM.out];rfl) HOM.out ?_)
    |fail)
   have hs3:=HS3.out;refine bodyPost_ret (v:=.tuple #[.agg MO,.int .i64 0]) ?_ rfl ⟨.inr ⟨?_,R' 1,pv,vs,?_,?_,?_⟩,below_setRow (BW3.out.trans (H4.out.2.1.mono BW3.out.size)) (by omega) _⟩
   ·exact iq rfl _ _ (w.heap.size+1) 34 _ (0,0) _ _ rfl rfl (Z4.out.row _) underlying34 rfl HInM.out
   ·unfold cU;rw[if_neg (by rw[HOk.out.1];decide),if_neg (by rw[HOk.out.2.1];decide),if_neg (by rw[←HT.out];simp)]
   ·unfold fD;rw[←HT.out,H4.out.2.2]
   ·rw[←HT.out];exact bZ (oy R4.out (fun r hr=>setRow_other w4 (w.heap.size+1) r MO (by omega))) (by omega)
   ·unfold fD;rw[←HT.out];exact bL.mono (H4.out.1.oz (fun r hr=>setRow_other w4 (w.heap.size+1) r MO (by omega))) (by omega)
end
section
open Go.RowKit
def vP:Option (List Int)→Int
 |none=> -1
 |some []=>0
 |some (x::_)=>x
def CN:Option (List Int)→Bool
 |none=>true
 |some []=>false
 |some (_::_)=>true
def vQ:Option (List Int)→Option (List Int)
 |none=>none
 |some []=>some []
 |some (_::xs)=>some xs
def CO(x:Int×List Int):NE:=([.int .i64 x.1],x.2)
structure RD where
 tr:Array Value
 cv:Value
 Lo:Nat→List Int
 Ln:Nat→List Int
 P:List (Int×List Int)
 sh:Bool
 st:Option (List Int)
def mP(w:World)(b X:Nat):Prop:=∀l,l<3→∀v,w.cell? ⟨b,20+l,none⟩=some v→v.ownBlock≠some X
def RD.fresh(D:RD)(ys:List Int):RD:=if CN D.st=true then {D with P:=D.P++[(vP D.st,ys)],st:=vQ D.st} else {D with sh:=true,st:=vQ D.st}
def RD.vR(D:RD)(l r:Nat)(x:Int):RD:={D with Ln:=aT D.Ln l (cK (D.Ln l) r x)}
def RD.place(D:RD)(l r:Nat)(z:Bool)(ys:List Int):RD:=if z=true then D.vR l r 0 else(D.fresh ys).vR l r (vP D.st)
def visit(cnt lvl:Nat):Nat→Nat→List Nat
 |0,r=>if 0<lvl∨cnt≤cC 0 r then [] else [r]
 |l+1,r=>if l+1<lvl∨cnt≤cC (l+1) r then [] else if l+1=lvl then [r] else(List.range 128).flatMap (fun k=>visit cnt lvl l (bP l r k))
end
section
open Go.RowKit Go.Shelf
attribute [local go_sem] Oper.semAt_some
def CP(cnt lvl j:Nat):List Nat:=(List.range j).flatMap (fun j=>visit cnt lvl (cT j) (dg j))
theorem CR{A B:World}{row:Option Nat}{b X z:Nat}{C:Array Value}{t:TypeId}(h:mP A b X)(k:af A b C t)(hg:A.grownBy B row)(hr:∀r,row=some r→z≤r∧∃o,A.heap[r]?=some o∧o.isCells=false):mP B b X:=fun l hl v hv=>by
 rw[(dx k hg hr).cell (20+l)] at hv;exact h l hl v ((k.cell (20+l)).trans hv)
end
section
open Go.RowKit
end
section
open Go.RowKit Go.Shelf
theorem vU{A B:World}{row:Option Nat}{base n z sz:Nat}{e:TypeId}{v:Value}{xs:List Value}(h:A.ownsRow base e sz v n xs)(hg:A.grownBy B row)(hr:∀r,row=some r→z≤r∧∃o,A.heap[r]?=some o∧o.isCells=false):B.ownsRow base e sz v n xs:=by
 refine h.kept hg ?_;cases hb:v.ownBlock with
 |none=>exact .inl rfl
 |some k=>
  refine .inr (fun e'=>?_);obtain⟨_,o,ho,hc⟩:=hr k e'.symm;rcases h.2 with⟨rfl,_⟩|⟨g,cap,cur,rfl,_,hgg,_⟩
  ·cases hb
  ·have:g=k:=Option.some.inj hb;subst this;rw[hgg] at ho;cases ho
   cases hc
structure qX(D0 D:RD)(n:Nat):Prop where
 tr:D.tr=D0.tr
 cv:D.cv=D0.cv
 Lo:D.Lo=D0.Lo
 P:D.P.length≤D0.P.length+n
 Ln:∀l,(D.Ln l).length≤max (D0.Ln l).length 513
theorem qX.place{D0 D:RD}{n l r:Nat}{z:Bool}{ys:List Int}(h:qX D0 D n)(hr:r<513):qX D0 (D.place l r z ys) (n+1):=by
 have hL:∀(x:Int) k,((aT D.Ln l (cK (D.Ln l) r x)) k).length≤max (D0.Ln k).length 513:=fun x k=>by
  by_cases e:k=l
  ·subst e;rw[bG,lF];have:=h.Ln k;omega
  ·rw[aS _ _ _ _ e];exact h.Ln k
 unfold RD.place;split
 ·exact⟨h.tr,h.cv,h.Lo,by have:=h.P;show D.P.length≤_;omega,hL 0⟩
 ·unfold RD.fresh;split
  ·exact⟨h.tr,h.cv,h.Lo,by have:=h.P;show(D.P++[_]).length≤_;rw[List.length_append];simp;omega,hL _⟩
  ·exact⟨h.tr,h.cv,h.Lo,by have:=h.P;show D.P.length≤_;omega,hL _⟩
theorem CS(n:Nat)(W:Int→Nat→Int)(Pv:Nat→Int):bR (dQ 0 n W Pv)=([],false):=by
 have h:gD 0 n W Pv=fun _=>([],false):=by
  funext j;unfold gD;cases cT j<;>(unfold cG;rw[if_pos (.inl (Nat.zero_le _))])
 unfold dQ;rw[h];rfl
end
section
open Go.RowKit
end
namespace Chk
open Go
end Chk
namespace Chk
open Go.RowKit
theorem fK{k:IntKind}{a b:Int}(h:a=b):Ending.returned (.int k a)=.returned (.int k b):=by rw[h]
end Chk
section
open Go.RowKit
end
end Go.Proofs.YtlimollpocagiaaGreatDoor
