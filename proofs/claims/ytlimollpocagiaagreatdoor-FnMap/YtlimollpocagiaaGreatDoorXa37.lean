/- The program lays an inode down: layZeros, layInode -/
import Derived.Test.YtlimollpocagiaaGreatDoorXa36
import Derived.Room.AppendFits
namespace Go.Proofs.YtlimollpocagiaaGreatDoor
open Go.Proofs.Tryz
open _root_.List (map_append replicate getD range append_nil length_take length_drop)
set_option linter.all false
set_option maxRecDepth 100000
set_option maxHeartbeats 16000000
section
open Go.RowKit
structure Li(w wr:World)(g k:Nat)(xs:List Int)(C:Array Value)(t:TypeId):Prop where
 own:wr.ownsRow w.heap.size 5 1 (.slice (some ⟨g,0,none⟩) k 128) k (xs.map (Value.int .u8))
 aW:af wr w.heap.size C t
 old:Below w.heap.size w wr
 lt:w.heap.size<g
theorem Li.step{w wr w':World}{g k k':Nat}{xs ys:List Int}{C:Array Value}{t:TypeId}(h:Li w wr g k xs C t)(ho:w'.ownsRow w.heap.size 5 1 (.slice (some ⟨g,0,none⟩) k' 128) k' (xs.map (Value.int .u8)++ys.map (Value.int .u8)))(hg:wr.grownBy w' (some g)):Li w w' g k' (xs++ys) C t:=
 ⟨by rw[map_append];exact ho,(hg.block _ h.aW.lt (by have:=h.lt;simp;omega)).trans h.aW,h.old.grown hg h.old.size (fun k e=>by cases e;exact Nat.le_of_lt h.lt),h.lt⟩
end
namespace Crc
end Crc
section
open Go.RowKit
def CU:List Int:=[115,110,97,112,115,104,111,116]
structure Ls(w wr:World)(g k:Nat)(xs:List Int)(C:Array Value)(t:TypeId):Prop where
 own:wr.ownsRow w.heap.size 5 1 (.slice (some ⟨g,0,none⟩) k 512) k (xs.map (Value.int .u8))
 aW:af wr w.heap.size C t
 old:Below w.heap.size w wr
 lt:w.heap.size<g
theorem Ls.step{w wr w':World}{g k k':Nat}{xs ys:List Int}{C:Array Value}{t:TypeId}(h:Ls w wr g k xs C t)(ho:w'.ownsRow w.heap.size 5 1 (.slice (some ⟨g,0,none⟩) k' 512) k' (xs.map (Value.int .u8)++ys.map (Value.int .u8)))(hg:wr.grownBy w' (some g)):Ls w w' g k' (xs++ys) C t:=
 ⟨by rw[map_append];exact ho,(hg.block _ h.aW.lt (by have:=h.lt;simp;omega)).trans h.aW,h.old.grown hg h.old.size (fun k e=>by cases e;exact Nat.le_of_lt h.lt),h.lt⟩
theorem apart{v x:Value}(m:Nat)(h1:∀k,v.ownBlock=some k→m≤k)(h2:∀k,x.ownBlock=some k→k<m):v.ownBlock=none∨v.ownBlock≠x.ownBlock:=by
 cases hv:v.ownBlock with
 |none=>exact .inl rfl
 |some k=>
  refine .inr fun h=>?_;have a:=h1 k hv;have b:=h2 k h.symm;omega
def CV:List Int:=[114,111,111,116,114,101,99,49]
def di:List Int:=replicate 12 0
def cO(N:Nat):List Int:=replicate (N*512) 0
theorem CW(zs:List Int):ZR zs 0 di 0 0=([],false):=by
 unfold ZR;exact CS _ _ _
theorem CX(N:Nat):dO (cO N) 0 di 0 0 N=replicate N 0:=by
 unfold dO;rw[show(0:Int).toNat/4=0 from rfl];simp[cm]
theorem vV(n k:Nat):(replicate n (0:Int)).getD k 0=0:=by
 simp[getD,List.getElem?_replicate];split<;>rfl
theorem CY(zs:List Int)(m k:Nat):(eB m (eD zs 0 di 0 0)).getD k 0=0:=by
 have e:eD zs 0 di 0 0=fun _=>[]:=by
  unfold eD;rw[CW];rfl
 rw[e];unfold eB;have e2:(range m).map (fun k=>((fun _=>([]:List Int)) 0).getD k 0)++[((fun _=>([]:List Int)) 1).getD 0 0]=replicate (m+1) 0:=by
  refine List.ext_getElem (by simp) (fun i h1 h2=>?_);rw[List.getElem_replicate,List.getElem_append];split<;>simp
 exact(congrArg (fun l:List Int=>l.getD k 0) e2).trans (vV _ _)
end
section
open Go.RowKit
theorem lS{cnt b mm:Nat}{f:Nat→Int}{x:HG}:x∈cZ cnt b mm f↔∃j,j<mm∧b+j<cnt∧f j≠0∧x=(0,b+j,f j):=by
 unfold cZ;rw[List.mem_flatMap];constructor
 ·rintro ⟨k,hk,hx⟩;have hk:=List.mem_range.1 hk;split at hx
  ·cases hx
  ·rename_i hc
   rw[List.mem_singleton] at hx;exact⟨k,hk,by omega,fun e=>hc (.inr e),hx⟩
 ·rintro ⟨j,h1,h2,h3,rfl⟩;refine⟨j,List.mem_range.2 h1,?_⟩;rw[if_neg (fun e=>e.elim (fun e=>by omega) h3)];exact List.mem_singleton.2 rfl
theorem CZ(cnt:Nat)(W:Int→Nat→Int)(D:Nat→Int)(S:Int):fh cnt W D S 0=cZ cnt 0 12 D++(dB cnt 0 S++cZ cnt 12 128 (aQ W S)):=by
 unfold fh;have e:(range 128).flatMap (fun k=>dB cnt (1+k) (aQ W 0 k)++cZ cnt (12+(1+k)*128) 128 (aQ W (aQ W 0 k)))=[]:=by
  rw[List.flatMap_eq_nil_iff];intro k _;rw[jk,nc (.inr (fun j=>jk j))];unfold dB;rw[if_pos (.inr rfl)];rfl
 rw[e];unfold ji;rw[if_pos (.inr rfl),append_nil,append_nil]
theorem C8(f:Nat→List Int)(x:TX)(l r:Nat):((aT f x.1.1 (cK (f x.1.1) x.1.2.1 x.1.2.2)) l).getD r 0=if x.1.1=l∧x.1.2.1=r then x.1.2.2 else(f l).getD r 0:=by
 unfold aT;by_cases h:l=x.1.1
 ·subst h;rw[if_pos rfl,jW];by_cases h2:r=x.1.2.1
  ·rw[if_pos h2,if_pos ⟨rfl,h2.symm⟩]
  ·rw[if_neg h2,if_neg (fun e=>h2 e.2.symm)]
 ·rw[if_neg h,if_neg (fun e=>h e.1.symm)]
theorem vW(l r:Nat)(v:Int):∀(L:List HG) (f:Nat→List Int),(∀x∈L,x.1=l→x.2.1=r→x.2.2=v)→((f l).getD r 0=v∨∃x∈L,x.1=l∧x.2.1=r)→(((aM L).foldl (fun f x=>aT f x.1.1 (cK (f x.1.1) x.1.2.1 x.1.2.2)) f) l).getD r 0=v
 |[],f,_,h=>by
  rcases h with h|⟨x,hx,_⟩
  ·exact h
  ·cases hx
 |a::L,f,h,hc=>by
  have e:aM (a::L)=(a,Value.nilIface)::aM L:=rfl;rw[e,List.foldl_cons];refine vW l r v L _ (fun x hx=>h x (List.mem_cons_of_mem _ hx)) ?_;rw[C8];by_cases ha:a.1=l∧a.2.1=r
  ·rw[if_pos ha];exact .inl (h a List.mem_cons_self ha.1 ha.2)
  ·rw[if_neg ha];rcases hc with hc|⟨x,hx,h1,h2⟩
   ·exact .inl hc
   ·rcases List.mem_cons.1 hx with rfl|hx
    ·exact absurd ⟨h1,h2⟩ ha
    ·exact .inr ⟨x,hx,h1,h2⟩
theorem vX{L:List HG}{l r:Nat}{v:Int}(h:∀x∈L,x.1=l→x.2.1=r→x.2.2=v)(hc:v=0∨∃x∈L,x.1=l∧x.2.1=r):(dG (aM L) l).getD r 0=v:=
 vW l r v L _ h (hc.imp (fun e=>by rw[e];rfl) id)
section
variable {zs:List Int} {n:Nat} {ws:List Int} {g:Nat→Int}
theorem cY.zr(h:cY zs n ws g):ZR zs (4*(n:Int)) (aU ((n+127)/128) g) (g ((n+127)/128)) 0=(fh ((n+127)/128) (aJ zs) (fun i=>(aU ((n+127)/128) g).getD i 0) (g ((n+127)/128)) 0,false):=by
 have hc:=h.cnt;rcases lE (gG _ _) h.ok with⟨h1,h2⟩|⟨h1,h2⟩
 ·rw[h2,hc]
 ·exact absurd h.apart h1
theorem cY.bf(h:cY zs n ws g):dO zs (4*(n:Int)) (aU ((n+127)/128) g) (g ((n+127)/128)) 0 n=ws:=by
 have e:=h.bytes;unfold gL at e;rw[if_pos ⟨h.ok,by rw[h.zr]⟩] at e;unfold dO;rw[e,show(4*(n:Int)).toNat/4=n by omega,Nat.sub_self,List.replicate_zero,append_nil];have:=Cz h.wr;rw[h.wl] at this;exact this
theorem cY.old(h:cY zs n ws g)(k:Nat):(eB ((n+127)/128) (eD zs (4*(n:Int)) (aU ((n+127)/128) g) (g ((n+127)/128)) 0)).getD k 0=g k:=by
 have h2:=h.hi;have hlo:=h.lo;have e:eD zs (4*(n:Int)) (aU ((n+127)/128) g) (g ((n+127)/128)) 0=dG (aM (cZ ((n+127)/128) 0 12 (fun i=>(aU ((n+127)/128) g).getD i 0)++(dB ((n+127)/128) 0 (g ((n+127)/128))++cZ ((n+127)/128) 12 128 (aQ (aJ zs) (g ((n+127)/128)))))):=by
  unfold eD;rw[h.zr,CZ]
 have hg:∀j,j<(n+127)/128→g j≠0:=fun j hj=>by have:=h.rng j (jF hj);omega
 have hz:12≥(n+127)/128→g ((n+127)/128)=0:=fun hm=>h.non _ (fun e=>by rcases mN e with h|h<;>omega);rw[e];rcases Nat.lt_or_ge k ((n+127)/128) with hk|hk
 ·rw[oD _ hk];refine vX (fun x hx h1 h3=>?_) (.inr ?_)
  ·rcases List.mem_append.1 hx with hx|hx
   ·obtain⟨j,j1,j2,j3,rfl⟩:=lS.1 hx;have h3:0+j=k:=h3;show(aU ((n+127)/128) g).getD j 0=g k;rw[mO _ _ j1,if_pos (by omega),show j=k by omega]
   ·rcases List.mem_append.1 hx with hx|hx
    ·exfalso;unfold dB at hx;split at hx
     ·cases hx
     ·rw[List.mem_singleton] at hx;subst hx;cases h1
    ·obtain⟨j,j1,j2,j3,rfl⟩:=lS.1 hx;have h3:12+j=k:=h3;show aQ (aJ zs) (g ((n+127)/128)) j=g k;rw[jv (by have:=h.rng _ (jG (m:=(n+127)/128) (by omega));omega),h.word j1 (by omega),if_pos j2,h3]
  ·by_cases hk2:k<12
   ·refine⟨(0,0+k,(aU ((n+127)/128) g).getD k 0),List.mem_append.2 (.inl (lS.2 ⟨k,hk2,by omega,?_,rfl⟩)),rfl,by show 0+k=k;omega⟩;show(aU ((n+127)/128) g).getD k 0≠0;rw[mO _ _ hk2,if_pos hk];exact hg k hk
   ·have hm:12<(n+127)/128:=(by omega);refine⟨(0,12+(k-12),aQ (aJ zs) (g ((n+127)/128)) (k-12)),List.mem_append.2 (.inr (List.mem_append.2 (.inr (lS.2 ⟨k-12,by omega,by omega,?_,rfl⟩)))),rfl,by show 12+(k-12)=k;omega⟩;rw[jv (by have:=h.rng _ (jG hm);omega),h.word (by omega) hm,if_pos (by omega)];exact hg _ (by omega)
 ·rcases(show k=(n+127)/128∨(n+127)/128<k by omega) with hk|hk
  ·rw[hk,oE];refine vX (fun x hx h1 h3=>?_) ?_
   ·rcases List.mem_append.1 hx with hx|hx
    ·obtain⟨j,j1,j2,j3,rfl⟩:=lS.1 hx;cases h1
    ·rcases List.mem_append.1 hx with hx|hx
     ·unfold dB at hx;split at hx
      ·cases hx
      ·rw[List.mem_singleton] at hx;subst hx;rfl
     ·obtain⟨j,j1,j2,j3,rfl⟩:=lS.1 hx;cases h1
   ·by_cases hm:12<(n+127)/128
    ·right;refine⟨(1,0,g ((n+127)/128)),List.mem_append.2 (.inr (List.mem_append.2 (.inl ?_))),rfl,rfl⟩;unfold dB;rw[if_neg (by have:=h.rng _ (jG hm);omega)];exact List.mem_singleton.2 rfl
    ·exact .inl (hz (by omega))
  ·rw[h.non k (fun e=>by rcases mN e with h|h<;>omega)];have:(eB ((n+127)/128) (dG (aM (cZ ((n+127)/128) 0 12 (fun i=>(aU ((n+127)/128) g).getD i 0)++(dB ((n+127)/128) 0 (g ((n+127)/128))++cZ ((n+127)/128) 12 128 (aQ (aJ zs) (g ((n+127)/128)))))))).length≤k:=by
    unfold eB;simp;omega
   exact qI this
end
structure jJ(zs:List Int)(n:Nat)(ws:List Int)(g:Nat→Int):Prop where
 map:cY zs n ws g
 one:∀j∈aL ((n+127)/128),∀k∈aL ((n+127)/128),g j=g k→j=k
 odd:∀k∈aL ((n+127)/128),ws.getD (g k).toNat 0%2=1
theorem jJ.old{zs:List Int}{n:Nat}{ws:List Int}{g:Nat→Int}(h:jJ zs n ws g){ol:List Int}(ho:∀k,ol.getD k 0=g k):ju n ws ol:=by
 have hp:∀k,g k≠0→k∈aL ((n+127)/128):=fun k hk=>Classical.byContradiction fun e=>hk (h.map.non k e);refine⟨fun k hk=>?_,fun j k e hj=>?_⟩
 ·rw[ho] at hk⊢;have h1:=h.map.rng k (hp k hk);exact⟨h1.1,h1.2,h.odd k (hp k hk)⟩
 ·rw[ho,ho] at e;rw[ho] at hj;exact h.one j (hp j hj) k (hp k (by omega)) e
theorem C9{zs:List Int}{s:Int}{ds:List Int}{p q:Int}{ws:List Int}{cu:Int}(h:cU zs s ds p q ws cu=0):dS zs s ds p q ws cu=true∧(cI zs s ds p q ws cu).2=true:=by
 unfold cU at h;cases h1:dS zs s ds p q ws cu with
 |false=>rw[if_pos h1] at h;omega
 |true=>
  rw[if_neg (by rw[h1];decide)] at h;split at h
  ·omega
  ·split at h
   ·omega
   ·rename_i h2
    exact⟨rfl,by simpa using h2⟩
theorem Da{zs:List Int}{s:Int}{ds:List Int}{p q:Int}{ws:List Int}{cu:Int}(h:dS zs s ds p q ws cu=true):dP ws=true:=by
 unfold dS at h;simp only[Bool.and_eq_true] at h;exact h.1.1.1.2
theorem vY{zs:List Int}{s:Int}{ds:List Int}{p q:Int}{ws:List Int}{cu:Int}{bf ol:List Int}(h0:cU zs s ds p q ws cu=0)(hn:ws.length≤2048)
 (hb:dO zs s ds p q ws.length=bf) (hol:eB ((ws.length+127)/128) (eD zs s ds p q)=ol) (ho:ju ws.length bf ol) (hodd:∀k,ol.getD k 0≠0→ws.getD (ol.getD k 0).toNat 0%2=1) (hI:oC zs ws.length ((ws.length+127)/128) bf (fun k=>ol.getD k 0)) (hlo:64≤ws.length):
 gQ ((ws.length+127)/128) ws.length bf ol ws (cI zs s ds p q ws cu).1 (fD zs s ds p q ws cu)∧jJ (ee zs ((cI zs s ds p q ws cu).1.od.map (bM ((ws.length+127)/128) (cI zs s ds p q ws cu).1.ws (fD zs s ds p q ws cu)))) ws.length (cI zs s ds p q ws cu).1.ws (fD zs s ds p q ws cu)∧bg ((ws.length+127)/128) ws.length (cI zs s ds p q ws cu).1:=by
 obtain⟨hok,hT⟩:=C9 h0;have hf:=lO hok;have hr:=oH (Da hok);have hW0:bg ((ws.length+127)/128) ws.length (fP ((ws.length+127)/128) ws cu):=oG rfl hr hf.2.2.2.2;have hW:bg ((ws.length+127)/128) ws.length (cI zs s ds p q ws cu).1:=by unfold cI;exact hW0.run hn _ _ _ _
 have hM0:er ((ws.length+127)/128) bf ol ws (fP ((ws.length+127)/128) ws cu):=er.start rfl (fun k=>vV _ _);have hM:er ((ws.length+127)/128) bf ol ws (cI zs s ds p q ws cu).1:=by
  unfold cI;rw[hb,hol];exact er.run hn ho _ _ hM0 hW0
 have hst:∀k∈aL ((ws.length+127)/128),dX ((ws.length+127)/128) bf ol (cI zs s ds p q ws cu).1 k=false:=by
  unfold cI at hT⊢;rw[hb,hol] at hT⊢;exact sD hn _ _ hW0 (by show _≤_+0;omega) hT
 have hF:gQ ((ws.length+127)/128) ws.length bf ol ws (cI zs s ds p q ws cu).1 (fD zs s ds p q ws cu):=by
  unfold fD;rw[hol];exact BV hW hM ho hodd hst
 refine⟨hF,⟨⟨?_,hF.rng,hF.non,hlo,hn,hW.wl,hW.wr⟩,hF.one,hF.odd⟩,hW⟩;exact hF.image hn hW.wr hW.od ho hI (fun k hk=>by have:=hF.rng k hk;omega)
theorem Db{n:Nat}{ws:List Int}{cu:Int}(hwl:ws.length=n)(h:64≤n∧n≤2048)(h0:cU (cO n) 0 di 0 0 ws cu=0):
 jJ (ee (cO n) ((cI (cO n) 0 di 0 0 ws cu).1.od.map (bM ((n+127)/128) (cI (cO n) 0 di 0 0 ws cu).1.ws (fD (cO n) 0 di 0 0 ws cu)))) n (cI (cO n) 0 di 0 0 ws cu).1.ws (fD (cO n) 0 di 0 0 ws cu)∧∀p∈(cI (cO n) 0 di 0 0 ws cu).1.od.map (bM ((n+127)/128) (cI (cO n) 0 di 0 0 ws cu).1.ws (fD (cO n) 0 di 0 0 ws cu)),gF n p:=by
 subst hwl;have e:=CY (cO ws.length) ((ws.length+127)/128);have h1:=vY h0 h.2 (CX ws.length) rfl ⟨fun k hk=>absurd (e k) hk,fun j k _ hj=>absurd (e j) hj⟩ (fun k hk=>absurd (e k) hk)
  ⟨by unfold cO;simp,fun z hz=>by unfold cO at hz;have:=List.eq_of_mem_replicate hz;omega,fun k _ hk=>absurd (e k) hk,fun _ hk=>absurd (e _) hk⟩ h.1
 exact⟨h1.2.1,h1.1.qT h.2 h1.2.2.wr⟩
theorem Dc{zs:List Int}{n:Nat}{ws0 ws:List Int}{g:Nat→Int}{cu:Int}(hG:jJ zs n ws0 g)(hwl:ws.length=n)(hpar:∀b,ws0.getD b 0%2=1→ws.getD b 0%2=1)(h0:cU zs (4*(n:Int)) (aU ((n+127)/128) g) (g ((n+127)/128)) 0 ws cu=0):
 ∃ol:List Int,(∀k,ol.getD k 0=g k)∧gQ ((n+127)/128) n ws0 ol ws (cI zs (4*(n:Int)) (aU ((n+127)/128) g) (g ((n+127)/128)) 0 ws cu).1 (fD zs (4*(n:Int)) (aU ((n+127)/128) g) (g ((n+127)/128)) 0 ws cu)∧
 jJ (ee zs ((cI zs (4*(n:Int)) (aU ((n+127)/128) g) (g ((n+127)/128)) 0 ws cu).1.od.map (bM ((n+127)/128) (cI zs (4*(n:Int)) (aU ((n+127)/128) g) (g ((n+127)/128)) 0 ws cu).1.ws (fD zs (4*(n:Int)) (aU ((n+127)/128) g) (g ((n+127)/128)) 0 ws cu)))) n (cI zs (4*(n:Int)) (aU ((n+127)/128) g) (g ((n+127)/128)) 0 ws cu).1.ws (fD zs (4*(n:Int)) (aU ((n+127)/128) g) (g ((n+127)/128)) 0 ws cu)∧
 ∀p∈(cI zs (4*(n:Int)) (aU ((n+127)/128) g) (g ((n+127)/128)) 0 ws cu).1.od.map (bM ((n+127)/128) (cI zs (4*(n:Int)) (aU ((n+127)/128) g) (g ((n+127)/128)) 0 ws cu).1.ws (fD zs (4*(n:Int)) (aU ((n+127)/128) g) (g ((n+127)/128)) 0 ws cu)),gF n p:=by
 subst hwl;have e:=hG.map.old;have ho:=hG.old e;have hp:∀k,g k≠0→k∈aL ((ws.length+127)/128):=fun k hk=>Classical.byContradiction fun e=>hk (hG.map.non k e);have hfun:(fun k=>(eB ((ws.length+127)/128) (eD zs (4*(ws.length:Int)) (aU ((ws.length+127)/128) g) (g ((ws.length+127)/128)) 0)).getD k 0)=g:=funext e;have h1:=vY h0 hG.map.hi hG.map.bf rfl ho (fun k hk=>by
  rw[e] at hk⊢;exact hpar _ (hG.odd k (hp k hk))) (by rw[hfun];exact hG.map.inn) hG.map.lo
 exact⟨_,e,h1.1,h1.2.1,h1.1.qT hG.map.hi h1.2.2.wr⟩
end
section
open Go.RowKit
def vZ:Value→Nat
 |.slice _ n _=>n
 |_=>0
theorem lT(w:World)(z:Int):∀j u,[Value.int .i64 z][j]?=some u→(w.alloc (.cells #[.int .i64 z] 3)).cell? (Addr.add ⟨w.heap.size,0,none⟩ j)=some u:=by
 intro j u h;rw[Addr.add_mid,Nat.zero_add,(af.new w #[.int .i64 z] 3).cell j];simpa using h
theorem Dd(ws:List Int)(N k:Nat):(range N).map (fun j=>ws.getD (k+j) 0)=(ws.drop k).take N++replicate (N-((ws.drop k).take N).length) 0:=by
 apply List.ext_getElem?;intro j;rcases Nat.lt_or_ge j N with hj|hj
 ·rw[List.getElem?_map,List.getElem?_range hj,Option.map_some];rcases Nat.lt_or_ge (k+j) ws.length with h|h
  ·rw[List.getElem?_append_left (by rw[length_take,length_drop];omega),List.getElem?_take,if_pos (by omega),List.getElem?_drop];simp[getD,h]
  ·rw[List.getElem?_append_right (by rw[length_take,length_drop];omega),List.getElem?_replicate,if_pos (by rw[length_take,length_drop];omega)];simp[getD,List.getElem?_eq_none h]
 ·rw[List.getElem?_eq_none (by rw[List.length_map,List.length_range];omega),List.getElem?_eq_none (by rw[List.length_append,List.length_replicate,length_take,length_drop];omega)]
theorem De(ws:List Int)(k:Nat):cq ws k=dw ws (128*k) (128*k+128)++replicate (128-(dw ws (128*k) (128*k+128)).length) 0:=by
 unfold cq dw;rw[show 128*k+128-128*k=128 by omega];exact Dd ws 128 (128*k)
theorem rf(v:Value)(ws:List Int)(k:Nat)(w:World)(h:Rd .i64 w v ws)(hk:k≤17)(hl:ws.length≤2048):
 Calls prog 38 #[v,.int .i64 (k:Int)] w fun e w'=>∃v',e=.returned v'∧w'.ownsRow w.heap.size 3 1 v' 128 ((cq ws k).map (Value.int .i64))∧Below w.heap.size w w':=by
 obtain⟨a,cap,rfl⟩:=dZ h;obtain⟨i0,hi,hz0,hz1,hz2⟩:=info_parts eO;have HC:=aa (fun(W:World) (hb:Below w.heap.size w W)=>nR (.slice a ws.length cap) ws (128*k) (128*k+128) W (h.below hb) (by omega) (by omega) (by omega));obtain⟨cs,hcs⟩:∃cs,cs=dw ws (128*k) (128*k+128):=⟨_,rfl⟩;rw[←hcs] at HC;have HP:=aa (De ws k);rw[←hcs] at HP;have hcl:cs.length≤128:=by rw[hcs];unfold dw;rw[length_take];omega
 clear h hcs;obtain⟨lo,hlo⟩:∃lo,lo=128*k:=⟨_,rfl⟩;obtain⟨kl,hkl⟩:∃kl,kl=ws.length:=⟨_,rfl⟩;have B1:=ae (Below w.heap.size w (w.alloc (.cells #[] 3))) (ak.alloc aj _);have HO:=ae ((w.alloc (.cells #[] 3)).ownsRow w.heap.size 3 1 (.slice (some ⟨w.heap.size,0,none⟩) 0 0) 0 (([]:List Int).map (Value.int .i64))) (gN w 3 1);have HC1:=ae (Calls prog 47 #[.slice a kl cap,.int .i64 (128*(k:Int)),.int .i64 (128*(k:Int)+128)] (w.alloc (.cells #[] 3)) fun e w'=>∃a' n c,e=.returned (.slice a' n c)∧Rd .i64 (w.alloc (.cells #[] 3)) (.slice a' n c) cs∧w'=w.alloc (.cells #[] 3)) (by
  have h:=HC.out _ B1.out;rw[←hkl,show((128*k:Nat):Int)=128*(k:Int) by omega,show((128*k+128:Nat):Int)=128*(k:Int)+128 by omega] at h;exact h)
 rw[←hkl];clear hlo hkl HC hl;go_enter func38,ntmps38;go_upto_region 2 with(first
  |(
   go_at_call 47
   refine HC1.out.mono ?_;rintro e w1 ⟨ca,cn,cc,rfl,hr,hw1⟩;rw[hw1];have HRc:=aa hr;clear hr hw1)
  |(
   at_builtin;refine jU _ rfl (.tmp 6) (.tmp 13) 29 rfl w.heap.size 3 i0 underlying29 hi hz0 hz1 hz2 _ 0 [] rfl HO.out _ cs rfl HRc.out (by omega) (by simp) ?_
   intro ra rc m2 w2 hm2 o2 b2;have H2:=aa (ag hm2 (ag o2 b2));clear hm2 o2 b2)
  |fail)
 go_wp2;go_loopw [5] (fun v wr=>∃(m:Nat) (xa:Option Addr) (xc:Nat),cs.length≤m∧m≤128∧v=.slice xa m xc∧Hid (wr.ownsRow w.heap.size 3 1 (.slice xa m xc) m ((cs++replicate (m-cs.length) 0).map (Value.int .i64))∧Below w.heap.size w wr)) (fun v _=>128-vZ v)
 case atStart=>exact⟨m2,ra,rc,by have:=H2.out.1;omega,by have:=H2.out.1;omega,rfl,aa ⟨by have h:=H2.out.2.1;have e:=H2.out.1;rw[show m2-cs.length=0 by omega,List.replicate_zero,append_nil];rw[List.nil_append] at h;exact h,B1.out.trans H2.out.2.2⟩⟩
 case round=>
  obtain⟨m,xa,xc,hm1,hm2,rfl,HI⟩:=hrel;by_cases hlt:m<128
  ·have hltI:(m:Int)<128:=(by omega);have HR:=aa (HI.out.1.alloc (.cells #[.int .i64 0] 3));have B4:=ae (Below w.heap.size w (wr.alloc (.cells #[.int .i64 0] 3))) (HI.out.2.trans ((ak.alloc aj _).mono HI.out.2.size));have hws:w.heap.size≤wr.heap.size:=HI.out.2.size;go_wp2_with (first
    |(
     at_builtin;refine wpList_append_own_at _ rfl (.tmp 18) (.tmp 19) 29 rfl w.heap.size 3 i0 (.int .i64 0) 1 8 underlying29 hi hz0 hz1 hz2 rfl (by decide) (.slice xa m xc) m _ rfl HR.out ⟨wr.heap.size,0,none⟩ 1 1 [.int .i64 0] rfl rfl (lT wr 0) (by intro y hy;simp at hy;rcases hy with rfl;rfl) (by unfold maxLen;omega) (by omega) (by simp;omega) ?_
     intro v4 w4 o4 g4 _ _;obtain⟨va,vc,rfl⟩:=bK o4;have H4:=aa (ag o4 g4);clear o4 g4)
    |fail)
   go_roundw
   case rel=>
    refine⟨m+1,va,vc,by omega,by omega,rfl,aa ⟨?_,B4.out.grown H4.out.2 B4.out.size (fun r e=>(HR.out.lt r e).1)⟩⟩;have h:=H4.out.1;rw[show m+1-cs.length=(m-cs.length)+1 by omega,List.replicate_succ', ←List.append_assoc,map_append];exact h
   case measure=>simp[vZ];omega
  ·have hltI:¬((m:Int)<128):=(by omega);obtain rfl:m=128:=(by omega);go_wp2;go_ret;exact⟨_,rfl,by have h:=HI.out.1;rw[HP.out];exact h,HI.out.2⟩
end
end Go.Proofs.YtlimollpocagiaaGreatDoor
