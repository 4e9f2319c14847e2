/- A map that lies in an image, read: its root is right, its bytes are its words', its blocks -/
import Derived.Test.YtlimollpocagiaaGreatDoorXa32
namespace Go.Proofs.YtlimollpocagiaaGreatDoor
open Go.Proofs.Tryz
open _root_.List (range getD)
open World (size_alloc drew setRow)
set_option linter.all false
set_option maxRecDepth 100000
set_option maxHeartbeats 16000000
section
open Go.RowKit
def aU(m:Nat)(g:Nat→Int):List Int:=(range 12).map fun j=>if j<m then g j else 0
theorem gG(m:Nat)(g:Nat→Int):(aU m g).length=12:=by simp[aU]
theorem mO(m:Nat)(g:Nat→Int){j:Nat}(h:j<12):(aU m g).getD j 0=if j<m then g j else 0:=by
 unfold aU;simp[getD,h]
theorem Cv{A B:List Int}{i:Nat}(h:i<A.length):(A++B).getD i 0=A.getD i 0:=by unfold getD;rw[List.getElem?_append_left h]
theorem Cw{A B:List Int}{i:Nat}(h:A.length≤i):(A++B).getD i 0=B.getD (i-A.length) 0:=by unfold getD;rw[List.getElem?_append_right h]
theorem vD(m n:Nat)(g:Nat→Int):gr m n g=aD (4*(n:Int)) (aU m g) (g m) 0:=by
 unfold gr aD aU;rw[show(range 14)=range 12++[12,13] by decide,List.map_append];refine congrArg (fun l=>4*(n:Int)::(l++[g m,0])) ?_;refine List.map_congr_left (fun j hj=>?_);have:=List.mem_range.1 hj;rw[if_pos this]
theorem Cx(A:List Int)(v:Int)(B:List Int)(k:Nat)(hA:A.length=4*k)(h:0≤v∧v<4294967296):gj (A++le 4 v.toNat++B) k=v:=by
 have e:((A++le 4 v.toNat++B).drop (4*k)).take 4=le 4 v.toNat:=by
  rw[List.append_assoc, ←hA,List.drop_left,List.take_left' (ld 4 _)]
 unfold gj;rw[e];have h2:∀(n c:Nat),dJ (le n c)=c%256^n:=by
  intro n;induction n with
  |zero=>intro c;simp[le,dJ,Nat.mod_one]
  |succ n ih=>
   intro c;rw[le,dJ,ih (c/256),Int.toNat_natCast,Nat.pow_succ,Nat.mul_comm (256^n) 256];exact(Nat.mod_mul (x:=c) (a:=256) (b:=256^n)).symm
 rw[h2];omega
theorem vF{ws:List Int}(h:∀z∈ws,0≤z∧z<4294967296){k:Nat}(hk:k<ws.length):gj (bO ws) k=ws.getD k 0:=by
 have e:bO ws=bO (ws.take k)++le 4 (ws.getD k 0).toNat++bO (ws.drop (k+1)):=by
  have e1:ws=ws.take (k+1)++ws.drop (k+1):=(List.take_append_drop _ _).symm;have e2:bO ws=bO (ws.take (k+1))++bO (ws.drop (k+1)):=by
   conv=>lhs;rw[e1]
   unfold bO;rw[List.flatMap_append]
  rw[e2,pY ws k hk]
 rw[e];exact Cx _ _ _ k (by rw[kf,List.length_take];omega) (iL h k)
theorem Cy{ws:List Int}(h:eU ws=true){k:Nat}(hk:k<128):gj (dK ws) k=ws.getD k 0:=by
 have h1:=h;unfold eU at h1;rw[Bool.and_eq_true,decide_eq_true_eq,List.all_eq_true] at h1;unfold dK;rw[if_pos h];refine vF (fun z hz=>?_) (by omega);have h2:=h1.2 z hz;unfold okW at h2;simp at h2;omega
theorem Cz{ws:List Int}(h:∀z∈ws,0≤z∧z<4294967296):cm (bO ws) ws.length=ws:=by
 unfold cm;refine List.ext_getElem (by simp) (fun i h1 h2=>?_);rw[List.getElem_map,List.getElem_range,vF h h2];simp[getD,h2]
theorem vG(ws:List Int):∀m:Nat,((range m).flatMap (cq ws))=(range (128*m)).map fun j=>ws.getD j 0
 |0=>rfl
 |m+1=>by
  rw[List.range_succ,List.flatMap_append,vG ws m,Nat.mul_succ,List.range_add,List.map_append];rfl
theorem CA(f:Nat→List Int)(L:List Nat):L.flatMap (fun k=>bO (f k))=bO (L.flatMap f):=by
 unfold bO;rw[List.flatMap_assoc]
theorem CB{ws:List Int}{m:Nat}(h:ws.length≤128*m):((range (128*m)).map fun j=>ws.getD j 0).take ws.length=ws:=by
 refine List.ext_getElem (by simp;omega) (fun i h1 h2=>?_);rw[List.getElem_take,List.getElem_map,List.getElem_range];simp[getD,h2]
theorem CD(ws:List Int):∀k:Nat,(bO ws).take (4*k)=bO (ws.take k):=by
 induction ws with
 |nil=>intro k;simp[bO]
 |cons v ws ih=>
  intro k;cases k with
  |zero=>simp[bO]
  |succ k=>
   have e:bO (v::ws)=le 4 v.toNat++bO ws:=rfl;have e2:bO ((v::ws).take (k+1))=le 4 v.toNat++bO (ws.take k):=rfl;rw[e,e2,List.take_append,ld, ←ih k,List.take_of_length_le (by rw[ld];omega)];rfl
structure cY(zs:List Int)(n:Nat)(ws:List Int)(g:Nat→Int):Prop where
 inn:oC zs n ((n+127)/128) ws g
 rng:∀k∈aL ((n+127)/128),2≤g k∧g k<n
 non:∀k,k∉aL ((n+127)/128)→g k=0
 lo:64≤n
 hi:n≤2048
 wl:ws.length=n
 wr:∀z∈ws,0≤z∧z<4294967296
section
variable {zs:List Int} {n:Nat} {ws:List Int} {g:Nat→Int}
theorem cY.CG(h:cY zs n ws g)(k:Nat):0≤g k∧g k<n:=by
 have h1:=h.lo;by_cases hk:k∈aL ((n+127)/128)
 ·have:=h.rng k hk;omega
 ·rw[h.non k hk];omega
theorem cY.sz(h:cY zs n ws g):cF zs.length=true∧zs.length/512=n:=by
 have h1:=h.lo;have h2:=h.hi;have e:zs.length/512=n:=by rw[h.inn.len,Nat.mul_div_cancel _ (by omega)]
 refine⟨?_,e⟩;unfold cF;rw[e,h.inn.len,Nat.mul_mod_left];simp[h1,h2]
theorem cY.right(h:cY zs n ws g):cA (4*(n:Int)) (aU ((n+127)/128) g) (g ((n+127)/128)) 0=true:=by
 have h1:=h.lo;have h2:=h.hi;unfold cA gK;rw[Bool.and_eq_true,Bool.and_eq_true,decide_eq_true_eq,decide_eq_true_eq];refine⟨⟨by omega,by omega⟩,?_⟩;rw[List.all_eq_true];intro i hi;have hi:=List.mem_range.1 hi;have hB:(4*(n:Int)+511)/512=(((n+127)/128:Nat):Int):=by omega
 rw[hB];unfold gl;have key:(aU ((n+127)/128) g++[g ((n+127)/128),0]).getD i 0=0∨(2≤(aU ((n+127)/128) g++[g ((n+127)/128),0]).getD i 0∧(aU ((n+127)/128) g++[g ((n+127)/128),0]).getD i 0<2048∧i<(n+127)/128∧i<13):=by
  by_cases h3:i<12
  ·rw[Cv (by rw[gG];exact h3),mO _ _ h3];by_cases h4:i<(n+127)/128
   ·rw[if_pos h4];have h5:=h.rng i (jF h4);exact .inr ⟨h5.1,by omega,h4,by omega⟩
   ·rw[if_neg h4];exact .inl rfl
  ·rw[Cw (by rw[gG];omega),gG];rcases(show i=12∨i=13 by omega) with rfl|rfl
   ·show g ((n+127)/128)=0∨_;by_cases h4:(n+127)/128∈aL ((n+127)/128)
    ·have h5:=h.rng _ h4;rcases mN h4 with h6|h6
     ·omega
     ·exact .inr ⟨h5.1,by show g ((n+127)/128)<2048;omega,h6.2,by omega⟩
    ·exact .inl (h.non _ h4)
   ·exact .inl rfl
 rcases key with e|⟨k1,k2,k3,k4⟩
 ·rw[e];simp[eu]
 ·have hl:gz i=(i:Int):=by unfold gz;rw[if_neg (by omega)]
  rw[hl];unfold eu;simp only[Bool.and_eq_true,Bool.or_eq_true,decide_eq_true_eq];exact⟨.inr ⟨k1,k2⟩,.inr (by omega)⟩
theorem cY.ok(h:cY zs n ws g):cV zs (4*(n:Int)) (aU ((n+127)/128) g) (g ((n+127)/128)) 0=true:=by
 unfold cV;rw[h.sz.1,h.right];rfl
theorem cY.cnt(h:cY zs n ws g):((4*(n:Int)).toNat+511)/512=(n+127)/128:=by
 have:(4*(n:Int)).toNat=4*n:=by omega
 rw[this];omega
theorem cY.word(h:cY zs n ws g){j:Nat}(hj:j<128)(hm:12<(n+127)/128):aJ zs (g ((n+127)/128)) j=if 12+j<(n+127)/128 then g (12+j) else 0:=by
 have hr:=h.rng _ (jG hm);have h2:=h.hi;unfold aJ;rw[h.inn.far hm (by omega),Cy (vB (fun k=>by have:=h.CG k;omega)) hj];unfold gR;simp[getD,hj]
theorem cY.data(h:cY zs n ws g){i:Nat}(hi:i<(n+127)/128):bC (aJ zs) (fun i=>(aU ((n+127)/128) g).getD i 0) (g ((n+127)/128)) 0 i=g i:=by
 have h2:=h.hi;unfold bC;by_cases h1:i<12
 ·rw[if_pos h1];show(aU ((n+127)/128) g).getD i 0=g i;rw[mO _ _ h1,if_pos hi]
 ·have hm:12<(n+127)/128:=by omega
  have hr:=h.rng _ (jG hm);rw[if_neg h1,if_pos (by omega),jv (by omega),h.word (by omega) hm,show 12+(i-12)=i by omega,if_pos hi]
theorem cY.good(h:cY zs n ws g)(k:Nat):be n (g k)=true:=by
 unfold be;by_cases hk:k∈aL ((n+127)/128)
 ·have h1:=h.rng k hk;rw[decide_eq_true h1.1,decide_eq_true h1.2];simp
 ·rw[h.non k hk];rfl
theorem cY.apart(h:cY zs n ws g):fM (((4*(n:Int)).toNat+511)/512) (zs.length/512) (aJ zs) (fun i=>(aU ((n+127)/128) g).getD i 0) (g ((n+127)/128)) 0:=by
 have h2:=h.hi;rw[h.cnt,h.sz.2];refine⟨fun i hi=>?_,h.good _,rfl,fun k _ hk=>absurd hk (by omega),fun i hi=>?_⟩
 ·show be n ((aU ((n+127)/128) g).getD i 0)=true;rw[mO _ _ hi];split
  ·exact h.good i
  ·rfl
 ·rw[h.data hi];exact h.good i
theorem cY.fault(h:cY zs n ws g):gC zs (4*(n:Int)) (aU ((n+127)/128) g) (g ((n+127)/128)) 0=0:=by
 rw[nQ,h.ok];rfl
theorem cY.code(h:cY zs n ws g):fG zs (4*(n:Int)) (aU ((n+127)/128) g) (g ((n+127)/128)) 0=0:=by
 rw[uF (gG _ _)];unfold mrC;rw[h.fault,if_neg (by simp),if_pos h.apart]
theorem cY.bytes(h:cY zs n ws g):gL zs (4*(n:Int)) (aU ((n+127)/128) g) (g ((n+127)/128)) 0=bO ws:=by
 rw[uH (gG _ _)];unfold mrB;rw[if_pos ⟨h.fault,h.apart⟩,h.cnt];have e:iX zs (bC (aJ zs) (fun i=>(aU ((n+127)/128) g).getD i 0) (g ((n+127)/128)) 0) ((n+127)/128)=bO ((range ((n+127)/128)).flatMap (cq ws)):=by
  unfold iX;rw[←CA];refine gW _ _ _ (fun k hk=>?_);have hk:=List.mem_range.1 hk;have hr:=h.rng k (jF hk);rw[h.data hk];unfold iw;rw[if_neg (by omega),h.inn.dat k hk (by omega)];unfold dK;rw[if_pos (vA h.wr k)]
 have hl:=h.wl;rw[e,vG,show(4*(n:Int)).toNat=4*n by omega,CD, ←hl,CB (by omega)]
def bY(m:Nat)(g:Nat→Int):List Int:=(range (min 12 m)).map g++(if 12<m then g m::(range (m-12)).map fun k=>g (12+k) else [])
theorem lN{m:Nat}{g:Nat→Int}{b:Int}:b∈bY m g↔∃k∈aL m,b=g k:=by
 unfold bY;rw[List.mem_append,List.mem_map];constructor
 ·rintro (⟨k,hk,rfl⟩|hb)
  ·have:=List.mem_range.1 hk;exact⟨k,jF (by omega),rfl⟩
  ·split at hb
   ·rename_i hm
    rcases List.mem_cons.1 hb with rfl|hb
    ·exact⟨m,jG hm,rfl⟩
    ·obtain⟨k,hk,rfl⟩:=List.mem_map.1 hb;have:=List.mem_range.1 hk;exact⟨12+k,jF (by omega),rfl⟩
   ·cases hb
 ·rintro ⟨k,hk,rfl⟩;rcases mN hk with h|⟨rfl,h⟩
  ·by_cases h1:k<12
   ·exact .inl ⟨k,List.mem_range.2 (by omega),rfl⟩
   ·right;rw[if_pos (by omega)];exact List.mem_cons_of_mem _ (List.mem_map.2 ⟨k-12,List.mem_range.2 (by omega),by rw[show 12+(k-12)=k by omega]⟩)
  ·right;rw[if_pos h];exact List.mem_cons_self
theorem vH(m:Nat)(g:Nat→Int):(bY m g).length=if 12<m then m+1 else m:=by
 unfold bY;split
 ·simp;omega
 ·simp;omega
theorem vI{L:List Int}(h:∀b∈L,b≠0):dY L=L:=by
 unfold dY;rw[List.filter_eq_self];intro b hb;simp[h b hb]
theorem cY.blocks(h:cY zs n ws g):mbB zs (4*(n:Int)) (aU ((n+127)/128) g) (g ((n+127)/128)) 0=bY ((n+127)/128) g:=by
 have h2:=h.hi;unfold mbB;rw[if_pos ⟨h.fault,h.apart⟩,h.cnt];unfold allM;have e:(range ((n+127)/128)).map (bC (aJ zs) (fun i=>(aU ((n+127)/128) g).getD i 0) (g ((n+127)/128)) 0)=(range ((n+127)/128)).map g:=
  List.map_congr_left (fun k hk=>h.data (List.mem_range.1 hk))
 have es:eI ((n+127)/128)=0:=by unfold eI;omega
 simp only[e,es,List.range_zero,List.flatMap_nil,List.append_nil];have c1:=pP g ((n+127)/128) 0 12;have c2:=pP g ((n+127)/128) 12 128;rw[Nat.zero_add] at c1;rw[c1,show(140:Nat)=12+128 from rfl,c2];simp only[nh];have hz:∀k,k<(n+127)/128→g k≠0:=fun k hk=>by have:=h.rng k (jF hk);omega
 rw[vI (L:=(range (min 12 ((n+127)/128-0))).map fun k=>g (0+k)) (fun b hb=>by
  obtain⟨k,hk,rfl⟩:=List.mem_map.1 hb;have:=List.mem_range.1 hk;exact hz _ (by omega)),vI (L:=(range (min 128 ((n+127)/128-12))).map fun k=>g (12+k)) (fun b hb=>by
  obtain⟨k,hk,rfl⟩:=List.mem_map.1 hb;have:=List.mem_range.1 hk;exact hz _ (by omega)),kY,kY,if_pos rfl,List.append_nil]
 unfold bY;rw[Nat.sub_zero,show(fun k=>g (0+k))=g from funext fun k=>by rw[Nat.zero_add],List.append_assoc];congr 1;by_cases hm:12<(n+127)/128
 ·have hr:=h.rng _ (jG hm);rw[if_pos hm,if_neg (by omega),Nat.min_eq_right (by omega)];rfl
 ·rw[if_neg hm,h.non _ (fun e=>by rcases mN e with h|h<;>omega),if_pos rfl,show(n+127)/128-12=0 by omega];rfl
end
end
section
open Go.RowKit Go.Shelf
theorem CH(img:Value)(zs:List Int)(s:Int)(ds:List Int)(p q:Int)(w:World)(h:Rd .u8 w img zs)(hz:zs.length≤1048576)(hd:ds.length=12):
 Calls prog 43 #[img,.agg (aB (aD s ds p q))] w fun e w'=>∃ev,e=.returned (.tuple #[.agg (de img (aD s ds p q)),ev])∧fa w' w.heap.size (cF zs.length&&cA s ds p q) ev 7∧Below w.heap.size w w':=by
 obtain⟨sa,sc,rfl⟩:=dZ h;have HR:=aa (ag h hd);have hRl:=eR s ds p q hd;have HBu:=aa (uk sa zs.length sc (aD s ds p q) hRl);have HZ:=ae ((aB (aD s ds p q)).size=15) (by rw[fc];exact hRl);have HTs:=aa (mD (.slice sa zs.length sc) _ hRl);clear h hd hRl;go_enter func43,ntmps43;go_upto_region 2 with fail;generalize hW1:World.alloc _ (Obj.cells #[.int .i64 7,.nilIface] 100)=W1;have HW:=ae (∃Z0:Array Value,Z0.size=16∧af W1 w.heap.size (aB (aD s ds p q)) 28∧af W1 (w.heap.size+1) Z0 87∧Ck W1 (w.heap.size+2) (w.heap.size+3) 7 true∧Below w.heap.size w W1∧W1.heap.size=w.heap.size+3) (by
  rw[←hW1];refine⟨gY.toArray,rfl,((af.new w _ _).alloc _).alloc _,?_,?_,?_,?_⟩
  ·have h:=af.new (w.alloc (.cells (aB (aD s ds p q)) 28)) gY.toArray 87;rw[size_alloc] at h;exact h.alloc _
  ·have h:=Ck.fresh ((w.alloc (.cells (aB (aD s ds p q)) 28)).alloc (.cells gY.toArray 87)) 7 100;rw[size_alloc,size_alloc] at h;exact h
  ·exact((ak.alloc aj _).alloc (by simp) _).alloc (by simp;omega) _
  ·simp)
 clear hW1;obtain⟨Z0,hZ0,k0,k1,ck,bb,hs1⟩:=HW.out;have H1:=aa (ag hZ0 (ag k0 (ag k1 (ag ck (ag bb hs1)))));clear HW hZ0 k0 k1 ck bb hs1;go_upto_region 3 with(first
  |(go_at_call 85;refine(tn _ zs _ (HR.out.1.below H1.out.2.2.2.2.1) (by omega)).mono ?_;rintro e w9 ⟨rfl,hw9⟩;rw[←hw9];clear hw9)
  |(go_at_call 58;refine(dV (w.heap.size+2) (w.heap.size+3) _ 7 true (cF zs.length) _ H1.out.2.2.2.1 (by omega) (by rw[H1.out.2.2.2.2.2];omega)).mono ?_;rintro e w2 ⟨rfl,ck2,t2⟩;rw[Bool.true_and] at ck2;have H2:=aa (ag ck2 t2);clear ck2 t2))
 have HB2:=aa (H2.out.2.under H1.out.2.2.2.2.1 (by omega) H1.out.2.2.2.2.1.size);have hs2:w.heap.size+3≤w2.heap.size:=by have:=H2.out.2.1.size;rw[H1.out.2.2.2.2.2] at this;exact this
 have K0:=ae (af w2 w.heap.size (aB (aD s ds p q)) 28) ((H2.out.2.1.block _ H1.out.2.1.lt (by simp)).trans H1.out.2.1);have K1:=ae (af w2 (w.heap.size+1) Z0 87) ((H2.out.2.1.block _ H1.out.2.2.1.lt (by simp)).trans H1.out.2.2.1);go_upto_region 4 with(first
  |(refine wpList_load_row rfl 28 _ rfl w.heap.size rfl 28 (aB (aD s ds p q)) (0,0) _ K0.out underlying28 rfl (by rw[HZ.out];exact dr) ?_)
  |(go_at_call 86;refine(ug s ds p q 7 _ HR.out.2).mono ?_;rintro e w3 ⟨ev3,rfl,f3,b3⟩;have H3:=aa (ag f3 b3);clear f3 b3)
  |(go_at_call 56;refine(mW (w.heap.size+2) (w.heap.size+3) _ 7 (cF zs.length) (cA s ds p q) ev3 _ (H2.out.1.below H3.out.2) (H3.out.1.mono hs2) (by omega) (aN hs2 H3.out.2.size)).mono ?_;rintro e w4 ⟨rfl,ck4,t4⟩;have H4:=aa (ag ck4 t4);clear ck4 t4))
 have hs3:=H3.out.2.size;have HB4:=aa (H4.out.2.under (HB2.out.trans (H3.out.2.mono HB2.out.size)) (by omega) (aN HB2.out.size hs3));have L0:af w4 w.heap.size (aB (aD s ds p q)) 28:=(H4.out.2.1.block _ (Nat.lt_of_lt_of_le K0.out.lt hs3) (by simp)).trans (K0.out.below H3.out.2 K0.out.lt);have L1:=ae (af w4 (w.heap.size+1) Z0 87) ((H4.out.2.1.block _ (Nat.lt_of_lt_of_le K1.out.lt hs3) (by simp)).trans (K1.out.below H3.out.2 K1.out.lt));obtain⟨ev,ce,hfe⟩:=H4.out.1.fault;have HFe:=aa hfe;clear hfe;refine cr (fun w'=>af w' w.heap.size (aB (aD s ds p q)) 28∧w'.cell? ⟨w.heap.size+2,1,none⟩=some ev) ⟨L0,ce⟩ fun hH=>?_;refine ah 0 (.slice sa zs.length sc) rfl hH ?_;refine ah 1 (.agg (aB (aD s ds p q))) rfl hH ?_ (iJ ⟨by rfl,fun w' hw'=>nI (a:=_) 28 (.tmp 3) rfl w.heap.size rfl 28 _ (0,0) _ hw'.1 underlying28 rfl (by rw[HZ.out];exact dr)⟩);refine ah 2 (.agg (de (.slice sa zs.length sc) (aD s ds p q))) rfl hH ?_ (iJ ⟨by rfl,fun w' hw'=>um 87 _ rfl _ (by simp only[List.map_toArray,List.map_cons,List.map_nil];exact HBu.out)⟩);refine ah 3 (.pointer (some ⟨w.heap.size+2,1,none⟩)) rfl hH ?_;refine ah 4 ev rfl hH ?_ (aH fun w' hw'=>by have c9:=hw'.2;go_simp);have D1:af (drew w4) (w.heap.size+1) Z0 87:=L1.out;have hgr:(drew w4).grownBy ((drew w4).setRow (w.heap.size+1) (de (.slice sa zs.length sc) (aD s ds p q))) (some (w.heap.size+1)):=⟨rfl,rfl,rfl,by simp[setRow],fun k hk hne=>by simp[setRow,Array.getElem?_modify,show ¬w.heap.size+1=k from fun e=>hne (by rw[e])]⟩;refine aG 5 rfl fun K hK=>?_;rw[if_pos (by rfl)];refine wp_store_row 87 (.tmp 4) (.tmp 16) rfl (w.heap.size+1) (de (.slice sa zs.length sc) (aD s ds p q)) rfl rfl 87 Z0 D1 (by rw[HTs.out];exact fU) (by rw[HTs.out];exact H1.out.1) (mC _) ?_;have hckl:=H4.out.1.lt;refine hK.out _ _ ⟨(hgr.block _ L0.lt (by simp)).trans L0,(World.cell?_of_block (a:=⟨w.heap.size+2,1,none⟩) (hgr.block _ (show w.heap.size+2<w4.heap.size from hckl) (by simp))).trans ce⟩ (fun hH2=>?_);clear hK K;try simp only[Act.put,aq,au,av,ay,az,aA]
 refine ah 6 ev rfl hH2 ?_;refine bz ?_;go_wp2;refine bodyPost_ret (v:=.tuple #[.agg (de (.slice sa zs.length sc) (aD s ds p q)),ev]) ?_ rfl ⟨ev,rfl,?_,below_setRow (HB4.out.drew) (by omega) _⟩
 ·exact iq rfl _ _ (w.heap.size+1) 87 _ (0,0) _ _ rfl rfl (D1.row _) underlying87 rfl (by rw[HTs.out];exact fU)
 ·rcases HFe.out with⟨h1,h2⟩|⟨h1,m,h2⟩
  ·exact .inl ⟨h1,h2⟩
  ·refine .inr ⟨h1,m,bj.mono (lo:=w.heap.size+3) (by omega) (bj.keep (fun b o u hb hc=>?_) h2)⟩;have hlt:=eN hc;exact(World.cell?_of_block (a:=⟨b,o,none⟩) (hgr.block b (show b<w4.heap.size from hlt) (by simp;omega))).trans hc
end
end Go.Proofs.YtlimollpocagiaaGreatDoor
