/- Blocks put down in an image, one behind the other: mathematics -/
import Derived.Test.YtlimollpocagiaaGreatDoorXa31
namespace Go.Proofs.YtlimollpocagiaaGreatDoor
open Go.Proofs.Tryz
open _root_.List (append_assoc length_take nodup_cons map_map range)
set_option linter.all false
set_option maxRecDepth 100000
set_option maxHeartbeats 16000000
section
open Go.RowKit
theorem qP(xs:List Int)(o:Nat)(ds:List Int)(h:o+ds.length≤xs.length)(i:Nat):(over xs o ds)[i]?=if o≤i∧i<o+ds.length then ds[i-o]? else xs[i]?:=by
 unfold over;by_cases h1:i<o
 ·rw[if_neg (by omega),append_assoc,List.getElem?_append_left (by rw[length_take];omega),List.getElem?_take,if_pos h1]
 ·by_cases h2:i<o+ds.length
  ·rw[if_pos ⟨by omega,h2⟩,append_assoc,List.getElem?_append_right (by rw[length_take];omega),length_take,Nat.min_eq_left (by omega),List.getElem?_append_left (by omega)]
  ·rw[if_neg (by omega),List.getElem?_append_right (by rw[List.length_append,length_take];omega),List.length_append,length_take,Nat.min_eq_left (by omega),List.getElem?_drop];congr 1;omega
def jE(zs:List Int)(p:Int×List Int):List Int:=over zs (p.1.toNat*512) p.2
def ee(zs:List Int)(ps:List (Int×List Int)):List Int:=ps.foldl jE zs
theorem mM(zs:List Int)(p:Int×List Int)(ps:List (Int×List Int)):ee zs (p::ps)=ee (jE zs p) ps:=by
 unfold ee;rw[List.foldl_cons]
def gF(n:Nat)(p:Int×List Int):Prop:=0≤p.1∧p.1<(n:Int)∧p.2.length=512∧∀z∈p.2,0≤z∧z<256
theorem gF.fit{n:Nat}{p:Int×List Int}(h:gF n p){zs:List Int}(hz:zs.length=n*512):p.1.toNat*512+p.2.length≤zs.length:=by
 obtain⟨h1,h2,h3,_⟩:=h;rw[h3,hz];omega
theorem oA{n:Nat}{p:Int×List Int}(h:gF n p){zs:List Int}(hz:zs.length=n*512):(jE zs p).length=n*512:=by
 unfold jE;rw[si _ _ _ (h.fit hz),hz]
theorem Cl{n:Nat}{p:Int×List Int}(h:gF n p){zs:List Int}(hb:∀z∈zs,0≤z∧z<256):∀z∈jE zs p,0≤z∧z<256:=by
 intro z hz;unfold jE over at hz;simp only[List.mem_append] at hz;rcases hz with(hz|hz)|hz
 ·exact hb z (List.mem_of_mem_take hz)
 ·exact h.2.2.2 z hz
 ·exact hb z (List.mem_of_mem_drop hz)
theorem qQ{n:Nat}:∀(ps:List (Int×List Int)) (zs:List Int),(∀p∈ps,gF n p)→zs.length=n*512→(ee zs ps).length=n*512
 |[],zs,_,hz=>hz
 |p::ps,zs,h,hz=>by
  rw[mM];exact qQ ps _ (fun q hq=>h q (List.mem_cons_of_mem _ hq)) (oA (h p (List.mem_cons_self ..)) hz)
theorem vv{n:Nat}:∀(ps:List (Int×List Int)) (zs:List Int),(∀p∈ps,gF n p)→(∀z∈zs,0≤z∧z<256)→∀z∈ee zs ps,0≤z∧z<256
 |[],zs,_,hz=>hz
 |p::ps,zs,h,hz=>by
  rw[mM];exact vv ps _ (fun q hq=>h q (List.mem_cons_of_mem _ hq)) (Cl (h p (List.mem_cons_self ..)) hz)
theorem Cm(zs:List Int)(A B:List (Int×List Int)):ee zs (A++B)=ee (ee zs A) B:=by
 unfold ee;rw[List.foldl_append]
theorem qR(zs:List Int)(p:Int)(i:Nat):(aV zs p)[i]?=if i<512 then zs[p.toNat*512+i]? else none:=by
 unfold aV;rw[List.getElem?_take,List.getElem?_drop]
theorem vw{n:Nat}{p:Int×List Int}(h:gF n p){zs:List Int}(hz:zs.length=n*512){x:Int}(hx:0≤x∧x<n):aV (jE zs p) x=if x=p.1 then p.2 else aV zs x:=by
 have hf:=h.fit hz;obtain⟨h1,h2,h3,h4⟩:=h;refine List.ext_getElem? (fun i=>?_);rw[qR];unfold jE;by_cases hi:i<512
 ·rw[if_pos hi,qP _ _ _ hf];by_cases he:x=p.1
  ·rw[if_pos he,he,if_pos (by omega)];congr 1;omega
  ·rw[if_neg he,if_neg (by omega),qR,if_pos hi]
 ·rw[if_neg hi];by_cases he:x=p.1
  ·rw[if_pos he,List.getElem?_eq_none (by omega)]
  ·rw[if_neg he,qR,if_neg hi]
theorem qS{n:Nat}{x:Int}(hx:0≤x∧x<n):∀(ps:List (Int×List Int)) (zs:List Int),(∀p∈ps,gF n p)→zs.length=n*512→(∀p∈ps,p.1≠x)→aV (ee zs ps) x=aV zs x
 |[],_,_,_,_=>rfl
 |p::ps,zs,h,hz,hn=>by
  have hp:=h p (by simp);rw[mM,qS hx ps _ (fun q hq=>h q (by simp[hq])) (oA hp hz) (fun q hq=>hn q (by simp[hq])),vw hp hz hx,if_neg (fun e=>hn p (by simp) e.symm)]
theorem vz{n:Nat}:∀(ps:List (Int×List Int)) (zs:List Int),(∀p∈ps,gF n p)→(ps.map (·.1)).Nodup→zs.length=n*512→∀p∈ps,aV (ee zs ps) p.1=p.2
 |[],_,_,_,_,p,hp=>by cases hp
 |q::ps,zs,h,hd,hz,p,hp=>by
  have hq:=h q (by simp);rw[List.map_cons,nodup_cons] at hd;rw[mM];rcases List.mem_cons.1 hp with rfl|hp
  ·have hr:=hq;obtain⟨h1,h2,_,_⟩:=hr;rw[qS ⟨h1,h2⟩ ps _ (fun r hr=>h r (by simp[hr])) (oA hq hz) (fun r hr e=>hd.1 (by rw[←e];exact List.mem_map.2 ⟨r,hr,rfl⟩)),vw hq hz ⟨h1,h2⟩,if_pos rfl]
  ·exact vz ps _ (fun r hr=>h r (by simp[hr])) hd.2 (oA hq hz) p hp
structure oC(zs:List Int)(n m:Nat)(ws:List Int)(g:Nat→Int):Prop where
 len:zs.length=n*512
 bd:∀z∈zs,0≤z∧z<256
 dat:∀k,k<m→g k≠0→aV zs (g k)=dK (cq ws k)
 far:12<m→g m≠0→aV zs (g m)=dK (gR m g)
theorem Cn(ws:List Int)(k:Nat):(cq ws k).length=128:=by simp[cq]
theorem Co(m:Nat)(g:Nat→Int):(gR m g).length=128:=by simp[gR]
theorem vA{ws:List Int}(h:∀z∈ws,0≤z∧z<4294967296)(k:Nat):eU (cq ws k)=true:=by
 unfold eU;rw[Cn,decide_eq_true rfl,Bool.true_and,List.all_eq_true];intro z hz;unfold cq at hz;obtain⟨j,_,rfl⟩:=List.mem_map.1 hz;have h1:=iL h (128*k+j);unfold okW;rw[Bool.and_eq_true,decide_eq_true_eq,decide_eq_true_eq];omega
theorem vB{m:Nat}{g:Nat→Int}(h:∀k,0≤g k∧g k<4294967296):eU (gR m g)=true:=by
 unfold eU;rw[Co,decide_eq_true rfl,Bool.true_and,List.all_eq_true];intro z hz;unfold gR at hz;obtain⟨j,_,rfl⟩:=List.mem_map.1 hz;have h1:=h (12+j);unfold okW;by_cases hj:12+j<m
 ·rw[if_pos hj,Bool.and_eq_true,decide_eq_true_eq,decide_eq_true_eq];omega
 ·rw[if_neg hj];rfl
theorem Cp{ws:List Int}(h:eU ws=true):(dK ws).length=512:=by
 unfold dK;rw[if_pos h,kf];unfold eU at h;simp at h;omega
theorem vC:∀(n v:Nat),∀z∈le n v,0≤z∧z<256
 |0,_,z,h=>by cases h
 |n+1,v,z,h=>by
  rw[le] at h;rcases List.mem_cons.1 h with rfl|h
  ·omega
  ·exact vC n _ z h
theorem Cq(ws:List Int):∀z∈dK ws,0≤z∧z<256:=by
 intro z hz;unfold dK at hz;split at hz
 ·unfold bO at hz;obtain⟨v,_,hv⟩:=List.mem_flatMap.1 hz;exact vC _ _ z hv
 ·cases hz
theorem jF{m k:Nat}(h:k<m):k∈aL m:=by unfold aL;exact List.mem_append.2 (.inl (List.mem_range.2 h))
theorem jG{m:Nat}(h:12<m):m∈aL m:=by unfold aL;rw[if_pos h];exact List.mem_append.2 (.inr (by simp))
theorem mN{m k:Nat}(h:k∈aL m):k<m∨(k=m∧12<m):=by
 unfold aL at h;rcases List.mem_append.1 h with h|h
 ·exact .inl (List.mem_range.1 h)
 ·split at h
  ·rename_i hm
   rw[List.mem_singleton] at h;exact .inr ⟨h,hm⟩
  ·cases h
theorem gQ.Cr{m n:Nat}{bf ol ws0:List Int}{s:FD}{g:Nat→Int}(h:gQ m n bf ol ws0 s g)(k:Nat):0≤g k∧(g k<n∨g k=0):=by
 by_cases hk:k∈aL m
 ·have:=h.rng k hk;omega
 ·rw[h.non k hk];omega
theorem gQ.good{m n:Nat}{bf ol ws0:List Int}{s:FD}{g:Nat→Int}(h:gQ m n bf ol ws0 s g)(hn:n≤2048)(hw:∀z∈s.ws,0≤z∧z<4294967296)(k:Nat):eU (eA m s.ws g k)=true:=by
 unfold eA;split
 ·exact vA hw k
 ·exact vB (fun j=>by have:=h.Cr j;omega)
theorem gQ.qT{m n:Nat}{bf ol ws0:List Int}{s:FD}{g:Nat→Int}(h:gQ m n bf ol ws0 s g)(hn:n≤2048)(hw:∀z∈s.ws,0≤z∧z<4294967296):∀p∈s.od.map (bM m s.ws g),gF n p:=by
 intro p hp;obtain⟨k,hk,rfl⟩:=List.mem_map.1 hp;have h1:=h.rng k (h.sub k hk);exact⟨by show 0≤g k;omega,by show g k<n;omega,Cp (h.good hn hw k),Cq _⟩
theorem gQ.dN{m n:Nat}{bf ol ws0:List Int}{s:FD}{g:Nat→Int}(h:gQ m n bf ol ws0 s g)(hd:s.od.Nodup):((s.od.map (bM m s.ws g)).map (·.1)).Nodup:=by
 rw[map_map];have:∀(l:List Nat),l.Nodup→(∀k∈l,k∈aL m)→(l.map ((·.1)∘bM m s.ws g)).Nodup:=by
  intro l;induction l with
  |nil=>intro _ _;exact List.nodup_nil
  |cons a l ih=>
   intro h1 h2;rw[nodup_cons] at h1;rw[List.map_cons,nodup_cons];refine⟨fun hm=>?_,ih h1.2 (fun k hk=>h2 k (by simp[hk]))⟩;obtain⟨b,hb,e⟩:=List.mem_map.1 hm;have e2:g b=g a:=e;have:=h.one b (h2 b (by simp[hb])) a (h2 a (by simp)) e2;subst this;exact h1.1 hb
 exact this _ hd h.sub
theorem gQ.image{m n:Nat}{bf ol ws0:List Int}{s:FD}{g:Nat→Int}(h:gQ m n bf ol ws0 s g)(hn:n≤2048)(hw:∀z∈s.ws,0≤z∧z<4294967296)(hd:s.od.Nodup){zs:List Int}(ho:ju n bf ol)(hI:oC zs n m bf (fun k=>ol.getD k 0))(hnz:∀k∈aL m,g k≠0):oC (ee zs (s.od.map (bM m s.ws g))) n m s.ws g:=by
 have hP:=h.qT hn hw;have at_:∀k,k∈s.od→aV (ee zs (s.od.map (bM m s.ws g))) (g k)=dK (eA m s.ws g k):=fun k hk=>
  vz _ zs hP (h.dN hd) hI.len (bM m s.ws g k) (List.mem_map.2 ⟨k,hk,rfl⟩)
 have off:∀k,k∈aL m→k∉s.od→aV (ee zs (s.od.map (bM m s.ws g))) (g k)=aV zs (g k):=fun k hk hm=>by
  have h1:=h.rng k hk;refine qS ⟨by omega,h1.2⟩ _ zs hP hI.len (fun p hp e=>?_);obtain⟨j,hj,rfl⟩:=List.mem_map.1 hp;have e2:g j=g k:=e;have:=h.one j (h.sub j hj) k hk e2;subst this;exact hm hj
 refine⟨qQ _ zs hP hI.len,vv _ zs hP hI.bd,fun k hk h0=>?_,fun hm h0=>?_⟩
 ·by_cases hkm:k∈s.od
  ·rw[at_ k hkm];unfold eA;rw[if_pos hk]
  ·have hk2:=h.kept k (jF hk) hkm;rw[off k (jF hk) hkm,hk2.2.1 hk,hk2.1];exact hI.dat k hk (by rw[←hk2.1];exact h0)
 ·by_cases hkm:m∈s.od
  ·rw[at_ m hkm];unfold eA;rw[if_neg (by omega)]
  ·have hk2:=h.kept m (jG hm) hkm;rw[off m (jG hm) hkm,hk2.1];have e:=hI.far hm (by rw[←hk2.1];exact h0);rw[e];congr 1;unfold gR;refine List.map_congr_left (fun j hj=>?_);by_cases hjm:12+j<m
   ·rw[if_pos hjm,if_pos hjm];exact(h.kept (12+j) (jF hjm) (hk2.2.2 (by omega) (12+j) (by omega) hjm)).1.symm
   ·rw[if_neg hjm,if_neg hjm]
end
section
open Go.RowKit
open Classical in
noncomputable def mbB (zs:List Int) (s:Int) (ds:List Int) (p q:Int):List Int:=if gC zs s ds p q=0∧fM ((s.toNat+511)/512) (zs.length/512) (aJ zs) (fun i=>ds.getD i 0) p q then dY (allM ((s.toNat+511)/512) (aJ zs) (fun i=>ds.getD i 0) p q) else []
theorem Cs{zs:List Int}{s:Int}{ds:List Int}{p q:Int}(hd:ds.length=12):jq zs s ds p q=mbB zs s ds p q:=by
 unfold jq mbB;rw[nQ];cases hok:cV zs s ds p q with
 |false=>simp
 |true=>
  have hr:cA s ds p q=true:=by unfold cV at hok;rw[Bool.and_eq_true] at hok;exact hok.2
  rcases lE hd hok with⟨h1,h2⟩|⟨h1,h2⟩
  ·rw[if_pos ⟨rfl,by rw[h2]⟩,if_pos ⟨by simp,h1⟩,h2, ←yR (qx hd hr)];unfold iB aM;rw[map_map];rfl
  ·rw[if_neg (by rw[h2];simp),if_neg (fun h=>h1 h.2)]
def js(L:List Int)(f:Nat→Int)(k:Nat):List Int:=(range k).flatMap (fun j=>f j::dw L (140+128*j) (268+128*j))
theorem Ct(L:List Int)(f:Nat→Int)(k:Nat):js L f (k+1)=js L f k++[f k]++dw L (140+128*k) (268+128*k):=by
 unfold js;rw[List.range_succ,List.flatMap_append];simp
theorem Cu(img:Value)(zs:List Int)(s:Int)(ds:List Int)(p q:Int)(w:World)(h:Rd .u8 w img zs)(h1:zs.length≤1048576)(hbd:∀z∈zs,0≤z∧z<256)(hd:ds.length=12):
 Calls prog 14 #[img,.agg (aB (aD s ds p q))] w fun e w'=>∃v,e=.returned (.tuple #[v,.int .i64 (mrC zs s ds p q)])∧w'.ownsRow w.heap.size 3 1 v (mbB zs s ds p q).length ((mbB zs s ds p q).map (Value.int .i64))∧Below w.heap.size w w':=by
 obtain⟨i0,hi,hz0,hz1,hz2⟩:=info_parts eO;have HT:=aa (ag hi (ag hz0 (ag hz1 hz2)));clear hi hz0 hz1 hz2;have HR:=aa (ag h (ag hbd hd));have HZ:=ae ((aB (aD s ds p q)).size=15) (by rw[fc];exact eR s ds p q hd);obtain⟨sa,sc,rfl⟩:=dZ h;clear h hbd hd;have HB0:=ae (Below w.heap.size w (w.alloc (.cells (aB (aD s ds p q)) 28))) (ak.alloc aj _);have K0:=aa (af.new w (aB (aD s ds p q)) 28);generalize hW0:w.alloc (.cells (aB (aD s ds p q)) 28)=W0 at HB0 K0;have HW0:=aa hW0;clear hW0;rcases uB zs s ds p q with hf|hf
 ·obtain⟨hs0,hs1⟩:=uC hf;obtain⟨sz,rfl⟩:∃sz:Nat,s=(sz:Int):=⟨s.toNat,by omega⟩;have HF:=aa hf;clear hf hs0;obtain⟨cnt,hcnt⟩:∃cnt,cnt=(sz+511)/512:=⟨_,rfl⟩;have HCn:=aa hcnt;have hcn:cnt≤512:=by omega
  clear hcnt;go_enter func14,ntmps14;go_upto_region 1 with fail;rw[HW0.out];go_upto_region 4 with(first
   |(refine wpList_load_row rfl 28 _ rfl w.heap.size rfl 28 (aB (aD (sz:Int) ds p q)) (0,0) _ K0.out underlying28 rfl (by rw[HZ.out];exact dr) ?_)
   |(go_at_call 46;refine(nw _ zs (sz:Int) ds p q _ (HR.out.1.below HB0.out) h1 HR.out.2.2).mono ?_;rintro e w2 ⟨rfl,b2⟩;rw[HF.out];have H2:=aa b2;have K2:=aa (K0.out.below b2 K0.out.lt);have BW2:=aa (HB0.out.trans (b2.mono HB0.out.size));clear b2))
  go_wp2_with (first
   |(refine wpList_load_row rfl 28 _ rfl w.heap.size rfl 28 (aB (aD (sz:Int) ds p q)) (0,0) _ K2.out underlying28 rfl (by rw[HZ.out];exact dr) ?_)
   |(go_at_call 33;fail))
  refine(qu _ zs sz ds p q _ cnt (HR.out.1.below BW2.out) h1 HR.out.2.1 HR.out.2.2 (by omega) HCn.out).mono ?_;rintro e w3 ⟨(⟨hap,dv,iv,ov,sv,wv,rfl,hone,o3,o3s,_⟩|⟨hnap,rfl⟩),b3⟩
  ·have BW3:=aa (BW2.out.trans (b3.mono BW2.out.size));obtain⟨da,dc,rfl⟩:=bK o3;obtain⟨sa2,sc2,rfl⟩:=bK o3s;have O3:=aa (ag (Rd.own (k:=.i64) o3) (Rd.own (k:=.i64) o3s));have HAp:=aa hap;have HOne:=aa hone;clear hap o3 o3s b3 hone;obtain⟨T,hT⟩:∃T,T=cH (.slice da cnt dc) p q iv ov (.slice sa2 (eI cnt) sc2) wv true:=⟨_,rfl⟩;have HT0:=ae (T[0]?=some (.slice da cnt dc)∧T[1]?=some (.int .i64 p)∧T[2]?=some (.int .i64 q)∧T[5]?=some (.slice sa2 (eI cnt) sc2)∧T[7]?=some (.bool true)∧T.size=8) (by rw[hT];exact⟨rfl,rfl,rfl,rfl,rfl,rfl⟩);rw[←hT] at HOne⊢;clear hT;go_upto_region 5 with(first
    |(refine wpList_store_row rfl 73 _ _ rfl w3.heap.size T rfl rfl 73 _ (af.new w3 _ _) (by rw[HT0.out.2.2.2.2.2];exact fI) (by rw[HT0.out.2.2.2.2.2];rfl) HOne.out ?_))
   generalize hW4:World.setRow _ w3.heap.size T=W4;have K4:=ae (af W4 w3.heap.size T 73) (by rw[←hW4];exact(af.new w3 _ _).row _);have B4:=ae (Below w3.heap.size w3 W4) (by rw[←hW4];exact below_setRow (ak.alloc aj _) aj _);clear hW4;obtain⟨N,hN⟩:∃N,N=eI cnt:=⟨_,rfl⟩;have hN2:N≤128:=(by rw[hN];unfold eI;omega);obtain⟨L,hL⟩:∃L,L=(range cnt).map (bC (aJ zs) (fun i=>ds.getD i 0) p q):=⟨_,rfl⟩;obtain⟨f,hf⟩:∃f,f=aQ (aJ zs) q:=⟨_,rfl⟩;have hLl:L.length=cnt:=(by rw[hL];simp);have HAll:=ae (allM cnt (aJ zs) (fun i=>ds.getD i 0) p q=dw L 0 12++[p]++dw L 12 140++[q]++js L f N) (by rw[hL,hf,hN];rfl);have RD:=ae (Rd .i64 W4 (.slice da cnt dc) L∧Rd .i64 W4 (.slice sa2 N sc2) ((range N).map f)) (by rw[hL,hN,hf];exact⟨O3.out.1.below B4.out,O3.out.2.below B4.out⟩);have BW4:=aa (BW3.out.trans (B4.out.mono BW3.out.size));have HC4:=ae (∀W',Below W4.heap.size W4 W'→W'.cell? ⟨w3.heap.size,0,none⟩=some (.slice da cnt dc)∧W'.cell? ⟨w3.heap.size,1,none⟩=some (.int .i64 p)∧W'.cell? ⟨w3.heap.size,2,none⟩=some (.int .i64 q)∧W'.cell? ⟨w3.heap.size,5,none⟩=some (.slice sa2 N sc2)) (fun W' hb=>by
    have k:=K4.out.below hb K4.out.lt;rw[hN];exact⟨(k.cell 0).trans HT0.out.1,(k.cell 1).trans HT0.out.2.1,(k.cell 2).trans HT0.out.2.2.1,(k.cell 5).trans HT0.out.2.2.2.1⟩)
   have c7:=(K4.out.cell 7).trans HT0.out.2.2.2.2.1;have hcd:cnt≤dc∧N≤sc2:=⟨(mH RD.out.1).2.1,(mH RD.out.2).2.1⟩;clear hN hL hf HT0 HOne;have hc5:=HC4.out (W4.alloc (.cells #[] 3)) (ak.alloc aj _);have c5:=hc5.1;clear hc5;have B5:=ae (Below W4.heap.size W4 (W4.alloc (.cells #[] 3))) (ak.alloc aj _);have hl1:=qA L 0 12;have hl2:=qA L 12 140;go_upto_region 8 with(first
    |(go_at_call 47;refine(show Calls prog 47 #[_,.int .i64 0,.int .i64 12] _ _ from nR _ L 0 12 _ (RD.out.1.below B5.out) (by omega) (by omega) (by omega)).mono ?_;rintro e wc1 ⟨ca1,cn1,cc1,rfl,hr1,hw1⟩;subst hw1;have R1:=aa hr1;clear hr1)
    |(at_builtin;refine jU _ rfl (.tmp 23) (.tmp 26) 29 rfl W4.heap.size 3 i0 underlying29 HT.out.1 HT.out.2.1 HT.out.2.2.1 HT.out.2.2.2 _ _ [] rfl (gN W4 _ _) _ (dw L 0 12) rfl R1.out (by omega) (by simp) ?_;intro a1 c1 m1 v1 e1 o1 b1;have H1:=aa (ag o1 (ag b1 e1));clear o1 b1 e1))
   clear c5 c7 R1;have G1:=ae (Below W4.heap.size W4 v1) (B5.out.trans H1.out.2.1);have hm1:m1≤12:=(by have:=H1.out.2.2;omega);have hg1:=G1.out.size;have c81:=(HC4.out v1 G1.out).2.1;go_upto_region 9 with(first
    |(at_builtin;refine jU _ rfl (.tmp 28) (.tmp 31) 29 rfl W4.heap.size 3 i0 underlying29 HT.out.1 HT.out.2.1 HT.out.2.2.1 HT.out.2.2.2 _ _ _ rfl (H1.out.1.alloc _) _ [p] rfl (nS _ _) (by simp;omega) (by simp;omega) ?_;intro a2 c2 m2 v2 e2 o2 b2;have H2:=aa (ag o2 (ag b2 e2));clear o2 b2 e2))
   clear c81;have G2:=ae (Below W4.heap.size W4 v2) ((G1.out.alloc hg1 _).trans H2.out.2.1);have hm2:m2≤13:=(by have:=H2.out.2.2;simp at this;omega);have hg2:=G2.out.size;have c92:=(HC4.out v2 G2.out).1;go_upto_region 10 with(first
    |(go_at_call 47;refine(show Calls prog 47 #[_,.int .i64 12,.int .i64 140] _ _ from nR _ L 12 140 _ (RD.out.1.below G2.out) (by omega) (by omega) (by omega)).mono ?_;rintro e wc3 ⟨ca3,cn3,cc3,rfl,hr3,hw3⟩;subst hw3;have R3:=aa hr3;clear hr3)
    |(at_builtin;refine jU _ rfl (.tmp 33) (.tmp 36) 29 rfl W4.heap.size 3 i0 underlying29 HT.out.1 HT.out.2.1 HT.out.2.2.1 HT.out.2.2.2 _ _ _ rfl H2.out.1 _ (dw L 12 140) rfl R3.out (by omega) hg2 ?_;intro a3 c3 m3 v3 e3 o3 b3;have H3:=aa (ag o3 (ag b3 e3));clear o3 b3 e3))
   clear c92 R3;have G3:=ae (Below W4.heap.size W4 v3) (G2.out.trans H3.out.2.1);have hm3:m3≤141:=(by have:=H3.out.2.2;omega);have hg3:=G3.out.size;have c103:=(HC4.out v3 G3.out).2.2.1;go_upto_region 11 with(first
    |(at_builtin;refine jU _ rfl (.tmp 38) (.tmp 41) 29 rfl W4.heap.size 3 i0 underlying29 HT.out.1 HT.out.2.1 HT.out.2.2.1 HT.out.2.2.2 _ _ _ rfl (H3.out.1.alloc _) _ [q] rfl (nS _ _) (by simp;omega) (by simp;omega) ?_;intro a4 c4 m4 v4 e4 o4 b4;have H4:=aa (ag o4 (ag b4 e4));clear o4 b4 e4))
   clear c103;have G4:=ae (Below W4.heap.size W4 v4) ((G3.out.alloc hg3 _).trans H4.out.2.1);have hm4:m4≤142:=(by have:=H4.out.2.2;simp at this;omega);have hg4:=G4.out.size;have c114:=(HC4.out v4 G4.out).2.2.2;obtain⟨X,hX⟩:∃X,X=[]++dw L 0 12++[p]++dw L 12 140++[q]:=⟨_,rfl⟩;have O4:=ae (v4.ownsRow W4.heap.size 3 1 (.slice a4 m4 c4) m4 (X.map (Value.int .i64))) (by rw[hX];exact H4.out.1);have HX:=ae (allM cnt (aJ zs) (fun i=>ds.getD i 0) p q=X++js L f N) (by rw[HAll.out,hX];simp);clear hX H1 H2 H3 H4 G1 G2 G3 hm1 hm2 hm3 hg1 hg2 hg3 hl1 hl2 HAll;go_wp2;go_loopw [46,8] (fun kv ou wr=>∃(k M:Nat) (oa:Option Addr) (oc:Nat),M≤142+129*k∧k≤N∧kv=.int .i64 (k:Int)∧ou=.slice oa M oc∧wr.ownsRow W4.heap.size 3 1 ou M ((X++js L f k).map (Value.int .i64))∧Below W4.heap.size W4 wr) (fun kv _ _=>N-(intOf kv).toNat)
   case atStart=>exact⟨0,m4,_,_,by omega,Nat.zero_le _,rfl,rfl,by rw[show js L f 0=[] from rfl,List.append_nil];exact O4.out,G4.out⟩
   case round=>
    obtain⟨k,M,oa,oc,hM,hk1,rfl,rfl,ho,hb⟩:=hrel;clear O4 G4 c114;have HI:=aa (ag ho hb);clear ho hb;have hb4:=HI.out.2.size;by_cases hk2:k<N
    ·obtain⟨b,off,cp,e,_,_,_,hcell⟩:=(RD.out.2.below HI.out.2).dj (by simp;omega);injection e with e1 e2 e3;subst e1 e3;have cx:=hcell k (by simp;omega);rw[show((range N).map f).getD k 0=f k by simp[List.getD,hk2]] at cx;obtain⟨x,hx⟩:∃x,x=f k:=⟨_,rfl⟩;rw[←hx] at cx;have HX2:=aa hx;have hkI:(k:Int)<(N:Int):=(by omega);obtain⟨mm,hmm⟩:∃mm,mm=128*k:=⟨_,rfl⟩;obtain⟨lo,hlo⟩:∃lo,lo=140+128*k:=⟨_,rfl⟩;obtain⟨hh,hhh⟩:∃hh,hh=268+128*k:=⟨_,rfl⟩;have i1:(128:Int)*(k:Int)=(mm:Int):=(by omega);have i2:(140:Int)+(mm:Int)=(lo:Int):=(by omega);have i3:(268:Int)+(mm:Int)=(hh:Int):=(by omega);have hb1:mm≤16384:=(by omega);have hb2:lo≤16524:=(by omega);have hb3:hh≤16652:=(by omega);have hlh:lo≤hh:=(by omega);have HLo:=aa (ag hlo hhh);have hl3:=qA L lo hh;have hl4:hh-lo=128:=(by omega);rw[hl4] at hl3;clear hcell hx e2 hmm hlo hhh hl4;go_upto_region 15 with(first
      |(at_builtin;refine jU _ rfl (.tmp 51) (.tmp 53) 29 rfl W4.heap.size 3 i0 underlying29 HT.out.1 HT.out.2.1 HT.out.2.2.1 HT.out.2.2.2 _ _ _ rfl (HI.out.1.alloc _) _ [x] rfl (nS _ _) (by simp;omega) (by simp;omega) ?_;intro a6 c6 m6 v6 e6 o6 b6;have H6:=aa (ag o6 (ag b6 e6));clear o6 b6 e6))
     have G6:=ae (Below W4.heap.size W4 v6) ((HI.out.2.alloc hb4 _).trans H6.out.2.1);have c156:=(HC4.out v6 G6.out).1;have hm6:m6≤M+1:=(by have:=H6.out.2.2;simp at this;omega);go_wp2_with (first
      |(go_at_call 47;refine(show Calls prog 47 #[_,.int .i64 (lo:Int),.int .i64 (hh:Int)] _ _ from nR _ L lo hh _ (RD.out.1.below G6.out) (by omega) (by omega) (by omega)).mono ?_;rintro e wc7 ⟨ca7,cn7,cc7,rfl,hr7,hw7⟩;subst hw7;have R7:=aa hr7;clear hr7)
      |(at_builtin;refine jU _ rfl (.tmp 55) (.tmp 64) 29 rfl W4.heap.size 3 i0 underlying29 HT.out.1 HT.out.2.1 HT.out.2.2.1 HT.out.2.2.2 _ _ _ rfl H6.out.1 _ (dw L lo hh) rfl R7.out (by omega) G6.out.size ?_;intro a7 c7 m7 v7 e7 o7 b7;have H7:=aa (ag o7 (ag b7 e7));clear o7 b7 e7))
     have G7:=ae (Below W4.heap.size W4 v7) (G6.out.trans H7.out.2.1);have hm7:m7≤142+129*(k+1):=(by have:=H7.out.2.2;omega);go_roundw
     case rel=>exact⟨k+1,m7,a7,c7,hm7,by omega,by go_num,rfl,by rw[Ct, ←HX2.out, ←HLo.out.1, ←HLo.out.2, ←append_assoc, ←append_assoc];exact H7.out.1,G7.out⟩
     case measure=>simp[intOf];omega
    ·have hk3:k=N:=(by omega);subst hk3;clear hk2;have hXl:(X++js L f k).length≤100000:=by
      have:=HI.out.1.1;rw[List.length_map] at this;omega
     go_wp2_with (go_at_call 48;refine(AW _ (X++js L f k) _ (Rd.own HI.out.1) hXl).mono ?_;rintro e w9 ⟨v9,rfl,o9,b9⟩;have H9:=aa (ag o9 b9);clear o9 b9);go_ret2;have hap:fM (((sz:Int).toNat+511)/512) (zs.length/512) (aJ zs) (fun i=>ds.getD i 0) p q:=(by rw[Int.toNat_natCast, ←HCn.out];exact HAp.out);have e1:mbB zs (sz:Int) ds p q=dY (X++js L f k):=(by unfold mbB;rw[if_pos ⟨HF.out,hap⟩,Int.toNat_natCast, ←HCn.out,HX.out]);have hbw:=BW4.out.trans (HI.out.2.mono BW4.out.size);refine⟨_,by unfold mrC;rw[if_neg (by rw[HF.out];decide),if_pos hap];rfl,?_,hbw.trans (H9.out.2.mono hbw.size)⟩;rw[e1];exact bZ H9.out.1 hbw.size
  ·have HNap:=aa hnap;have BW3:=aa (BW2.out.trans (b3.mono BW2.out.size));clear hnap b3;go_upto_region 5 with(first
    |(refine wpList_store_row rfl 73 _ _ rfl w3.heap.size (cH aF 0 0 aF aF aF aF false) rfl rfl 73 _ (af.new w3 _ _) fI rfl (by simp[Value.oneCell']) ?_))
   generalize hW4:World.setRow _ w3.heap.size (cH aF 0 0 aF aF aF aF false)=W4;have K4:=ae (af W4 w3.heap.size (cH aF 0 0 aF aF aF aF false) 73) (by rw[←hW4];exact(af.new w3 _ _).row _);have B4:=ae (Below w3.heap.size w3 W4) (by rw[←hW4];exact below_setRow (ak.alloc aj _) aj _);clear hW4;have c7:=(K4.out.cell 7).trans (show _=some (.bool false) from rfl);go_wp2;go_ret2;have hnp:¬fM (((sz:Int).toNat+511)/512) (zs.length/512) (aJ zs) (fun i=>ds.getD i 0) p q:=(by rw[Int.toNat_natCast, ←HCn.out];exact HNap.out);exact⟨_,by unfold mrC;rw[if_neg (by rw[HF.out];decide),if_neg hnp];rfl,by unfold mbB;rw[if_neg (fun h=>hnp h.2)];exact World.ownsRow_nil _ _ _ _,BW3.out.trans (B4.out.mono BW3.out.size)⟩
 ·have HF:=aa hf;clear hf;go_enter func14,ntmps14;go_upto_region 1 with fail;rw[HW0.out];go_wp2_with (first
   |(refine wpList_load_row rfl 28 _ rfl w.heap.size rfl 28 (aB (aD s ds p q)) (0,0) _ K0.out underlying28 rfl (by rw[HZ.out];exact dr) ?_)
   |(go_at_call 46;refine(nw _ zs s ds p q _ (HR.out.1.below HB0.out) h1 HR.out.2.2).mono ?_;rintro e w2 ⟨rfl,b2⟩;rw[HF.out];have BW2:=aa (HB0.out.trans (b2.mono HB0.out.size));clear b2))
  go_ret2;exact⟨_,by unfold mrC;rw[if_pos (by rw[HF.out];decide)];rfl,by unfold mbB;rw[if_neg (by rw[HF.out];intro h;cases h.1)];exact World.ownsRow_nil _ _ _ _,BW2.out⟩
end
end Go.Proofs.YtlimollpocagiaaGreatDoor
