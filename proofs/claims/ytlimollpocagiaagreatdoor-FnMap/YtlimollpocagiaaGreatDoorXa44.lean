/- The model's MapFlush. -/
import Derived.Test.YtlimollpocagiaaGreatDoorXa43
namespace Go.Proofs.YtlimollpocagiaaGreatDoor
open Go.Proofs.Tryz
open _root_.List (all_nil length_map getD map_append)
set_option linter.all false
set_option maxRecDepth 100000
set_option maxHeartbeats 16000000
section
open Go.RowKit Go.Shelf
def rG(v dv:Value):Nat→Value:=fun j=>if j=0 then v else if j=4 then dv else .slice none 0 0
def lG(ws D:List Int):Nat→List Int:=fun j=>if j=0 then ws else if j=4 then D else []
theorem DZ(ws D Bt:List Int):aT (lG ws D) 1 (gS Bt 0)=lG ws D:=by
 funext j;unfold aT;split
 ·rename_i h9
  rw[h9];rfl
 ·rfl
theorem D6{W:World}{base bF:Nat}{v dv iv ov sv wv:Value}{ws D:List Int}{S X cu:Int}(hbox:af W bF #[v,.slice none 0 0,dv,.int .i64 S,.int .i64 X,iv,ov,sv,wv,.bool true,.int .i64 cu,.slice none 0 0,.slice none 0 0,.bool false] 77)
 (hv:W.ownsRow base 3 1 v ws.length (ws.map (Value.int .i64))) (hd:W.ownsRow base 3 1 dv D.length (D.map (Value.int .i64))) (hap:v.ownBlock≠dv.ownBlock):
 Fm W base bF #[v,.slice none 0 0,dv,.int .i64 S,.int .i64 X,iv,ov,sv,wv,.bool true,.int .i64 cu,.slice none 0 0,.slice none 0 0,.bool false] (rG v dv) (lG ws D) cu S false:=by
 refine⟨hbox,rfl,fun j hj=>?_,fun j hj=>?_,fun i j hi hj hne=>?_,rfl,rfl,rfl⟩
 ·rcases(show j=0∨j=1∨j=2∨j=3∨j=4 by omega) with rfl|rfl|rfl|rfl|rfl<;>rfl
 ·rcases(show j=0∨j=1∨j=2∨j=3∨j=4 by omega) with rfl|rfl|rfl|rfl|rfl
  ·exact hv
  ·exact World.ownsRow_nil _ _ _ _
  ·exact World.ownsRow_nil _ _ _ _
  ·exact World.ownsRow_nil _ _ _ _
  ·exact hd
 ·rcases(show i=0∨i=1∨i=2∨i=3∨i=4 by omega) with rfl|rfl|rfl|rfl|rfl
  ·rcases(show j=1∨j=2∨j=3∨j=4 by omega) with rfl|rfl|rfl|rfl
   ·cases h:v.ownBlock with
    |none=>exact .inl h
    |some k=>exact .inr (fun e=>by have e2:v.ownBlock=none:=e;rw[h] at e2;cases e2)
   ·cases h:v.ownBlock with
    |none=>exact .inl h
    |some k=>exact .inr (fun e=>by have e2:v.ownBlock=none:=e;rw[h] at e2;cases e2)
   ·cases h:v.ownBlock with
    |none=>exact .inl h
    |some k=>exact .inr (fun e=>by have e2:v.ownBlock=none:=e;rw[h] at e2;cases e2)
   ·exact .inr hap
  ·exact .inl rfl
  ·exact .inl rfl
  ·exact .inl rfl
  ·rcases(show j=0∨j=1∨j=2∨j=3 by omega) with rfl|rfl|rfl|rfl
   ·exact .inr (fun e=>hap e.symm)
   ·cases h:dv.ownBlock with
    |none=>exact .inl h
    |some k=>exact .inr (fun e=>by have e2:dv.ownBlock=none:=e;rw[h] at e2;cases e2)
   ·cases h:dv.ownBlock with
    |none=>exact .inl h
    |some k=>exact .inr (fun e=>by have e2:dv.ownBlock=none:=e;rw[h] at e2;cases e2)
   ·cases h:dv.ownBlock with
    |none=>exact .inl h
    |some k=>exact .inr (fun e=>by have e2:dv.ownBlock=none:=e;rw[h] at e2;cases e2)
theorem af.wN{b:Nat}{t:TypeId}:∀(vs:List Value) {w:World} {L:List Value} (o:Nat),af w b L.toArray t→o+vs.length≤L.length→af (w.setCells b o vs) b (L.take o++vs++L.drop (o+vs.length)).toArray t
 |[],w,L,o,h,_=>by simpa [World.setCells] using h
 |v::vs,w,L,o,h,hl=>by
  have hlt:o<L.length:=by simp at hl;omega
  have h1:=h.set o v;have e1:L.toArray.setIfInBounds o v=(L.set o v).toArray:=by simp
  rw[e1] at h1;have h2:=af.wN vs (o+1) h1 (by simp at hl⊢;omega);have e2:(L.set o v).take (o+1)++vs++(L.set o v).drop (o+1+vs.length)=L.take o++(v::vs)++L.drop (o+(v::vs).length):=by
   rw[List.take_succ_eq_append_getElem (by simpa using hlt),List.take_set_of_le aj,List.getElem_set_self,List.drop_set_of_lt (by omega)];simp[Nat.add_assoc,Nat.add_comm 1]
  rw[e2] at h2;exact h2
def cJ(RL:List Int)(wv:Value)(cu:Int)(pv:Value):Array Value:=(RL.map (Value.int .i64)++[wv,.int .i64 cu,pv]).toArray
theorem rJ{RL:List Int}(h:RL.length=15)(wv:Value)(cu:Int)(pv:Value):(cJ RL wv cu pv).size=18:=by simp[cJ,h]
theorem D8{RL:List Int}(h:RL.length=15)(wv:Value)(cu:Int)(pv:Value):(cJ RL wv cu pv)[17]?=some pv:=by
 unfold cJ;rw[List.getElem?_toArray,List.getElem?_append_right (by simp[h])];simp[h]
theorem D9{RL:List Int}(h:RL.length=15)(wv:Value)(cu:Int)(pv pv':Value):(cJ RL wv cu pv).setIfInBounds 17 pv'=cJ RL wv cu pv':=by
 unfold cJ;rw[List.setIfInBounds_toArray,List.set_append_right _ _ (by simp[h])];simp[h]
structure kJ(wC:World)(RL:List Int)(wv:Value)(cu:Int)(P:List (Int×List Int))(pv:Value)(vs:List Value)(W:World):Prop where
 old:Below wC.heap.size wC W
 res:af W wC.heap.size (cJ RL wv cu pv) 34
 dN:bL W (wC.heap.size+1) 44 1 pv (P.map dz) vs
theorem kJ.below{wC W W':World}{RL:List Int}{wv:Value}{cu:Int}{P:List (Int×List Int)}{pv:Value}{vs:List Value}(h:kJ wC RL wv cu P pv vs W)(hb:Below W.heap.size W W'):kJ wC RL wv cu P pv vs W':=
 ⟨h.old.trans (hb.mono h.old.size),h.res.below hb h.res.lt,h.dN.below hb⟩
theorem Ea{m k:Nat}{ws:List Int}{g:Nat→Int}(hw:∀z∈ws,0≤z∧z<4294967296)(hg:∀j,j<m→0≤g j∧g j<4294967296):eU (eA m ws g k)=true:=by
 have key:∀z∈eA m ws g k,0≤z∧z<4294967296:=by
  intro z hz;unfold eA at hz;split at hz
  ·unfold cq at hz;obtain⟨j,_,rfl⟩:=List.mem_map.1 hz;exact iL hw _
  ·unfold gR at hz;obtain⟨j,_,rfl⟩:=List.mem_map.1 hz;by_cases h:12+j<m
   ·simp only[h,if_true];exact hg _ h
   ·simp only[h,if_false];omega
 unfold eU;rw[lM,decide_eq_true rfl,Bool.true_and,List.all_eq_true];intro z hz;have:=key z hz;unfold okW;simp;omega
theorem wO{w':World}{g:Nat}{C:Array Value}{t:TypeId}(h:af w' g C t):w'.rangeAt g 0 C.toList:=by
 intro j v hv;rw[h.cell (0+j),Nat.zero_add];simpa using hv
theorem wP(iv wv:Value)(zs ws:List Int)(s:Int)(ds:List Int)(p q cu:Int)(w:World)(h:Rd .u8 w iv zs)(hz:zs.length≤1048576)(hbd:∀z∈zs,0≤z∧z<256)(hd:ds.length=12)(hw:Rd .i64 w wv ws)(hwn:ws.length≤1048576):
 Calls prog 10 #[iv,.agg (aB (aD s ds p q)),wv,.int .i64 cu] w fun e w'=>oJ w w' zs s ds p q ws cu e:=by
 obtain⟨i0,hi,hz0,hz1,hz2⟩:=info_parts eO;obtain⟨ia,ic,rfl⟩:=dZ h;obtain⟨wa,wc',rfl⟩:=dZ hw;obtain⟨RT,hRT⟩:∃RT,RT=aB (aD s ds p q):=⟨_,rfl⟩;have HInR:=ae ((prog.info? 28).map (·.size)=some RT.size) (by rw[hRT,fc,eR s ds p q hd];exact dr);obtain⟨ZM,hZM⟩:∃ZM,ZM=cM:=⟨_,rfl⟩;have HZM:=aa hZM;have HInZ:=ae ((prog.info? 34).map (·.size)=some ZM.size) (by rw[hZM];exact fX);have HOZ:=ae (ZM.all (·.oneCell')=true) (by rw[hZM];unfold cM;simp only[List.all_toArray,List.all_cons,all_nil];rfl);obtain⟨W1,hW1⟩:∃W1,W1=(w.alloc (.cells RT 28)).alloc (.cells ZM 34):=⟨_,rfl⟩;have HW1:=aa hW1;have K1:=ae (af W1 w.heap.size RT 28) (by rw[hW1];exact(af.new _ _ _).alloc _);have Z1:=ae (af W1 (w.heap.size+1) ZM 34) (by rw[hW1];have h:=af.new (w.alloc (.cells RT 28)) ZM 34;rw[World.size_alloc] at h;exact h);have B1:=ae (Below w.heap.size w W1) (by rw[hW1];exact(ak.alloc aj _).alloc (by simp) _);have hs1:W1.heap.size=w.heap.size+2:=by rw[hW1];simp
 obtain⟨zn,hzn⟩:∃zn,zn=zs.length:=⟨_,rfl⟩;obtain⟨n,hn⟩:∃n,n=ws.length:=⟨_,rfl⟩;have HNN:=aa (ag hzn hn);have HH:=aa (ag (h.below B1.out) (ag (hw.below B1.out) (ag hz (ag hbd (ag hd hwn)))));obtain⟨nz,hnz⟩:∃nz:Nat,nz=if cF zs.length=true then zs.length/512 else 0:=⟨_,rfl⟩;have HNZ:=aa hnz;have hnz2:nz≤2048:=by rw[hnz];split<;>omega
 have HBl:=ae (Calls prog 30 #[.slice ia zn ic] W1 fun e w'=>e=.returned (.int .i64 (nz:Int))∧W1=w') (by
  have h9:=pZ (.slice ia zs.length ic) zs W1 HH.out.1 (by omega);rw[hzn,hnz];refine h9.mono fun e w' hh=>⟨by rw[hh.1];split<;>simp,hh.2⟩)
 have HRi:=ae (Calls prog 31 #[.slice wa n wc'] W1 fun e w'=>e=.returned (.bool (dP ws))∧w'=W1) (by
  rw[hn];exact yo _ ws W1 HH.out.2.1)
 have HRo:=ae (Calls prog 32 #[.agg RT] W1 fun e w'=>e=.returned (.bool (cA s ds p q))∧Below W1.heap.size W1 w') (by
  rw[hRT];exact tj s ds p q W1 hd)
 have k0:W1.cell? ⟨w.heap.size,0,none⟩=some (.int .i64 s):=(K1.out.cell 0).trans (by rw[hRT];rfl);have HK0:=ae (∀w',Below W1.heap.size W1 w'→w'.cell? ⟨w.heap.size,0,none⟩=some (.int .i64 s)) (fun w' hb=>(hb.cell (p:=⟨w.heap.size,0,none⟩) K1.out.lt).trans k0);obtain⟨ok,hok⟩:∃ok,ok=dS zs s ds p q ws cu:=⟨_,rfl⟩;have HOK:=aa hok;have HOK2:=ae (ok=((((cF zs.length&&cA s ds p q)&&dP ws)&&decide (n=zs.length/512))&&(decide (s=0)||decide (s=4*(n:Int)))&&(decide (2≤cu)&&decide (cu<(n:Int))))) (by rw[hok,hn];unfold dS cV kx jH j8;simp only[Bool.decide_and]);have hnb:n≤1048576:=by omega
 rw[←hRT, ←hzn, ←hn];have HRT:=aa hRT;clear h hw hd hbd hRT hZM hW1 hzn hn hz hwn hnz hok k0;go_enter func10,ntmps10;go_upto_region 1 with fail;rw[show(#[.int .i64 0,.int .i64 0,.int .i64 0,.int .i64 0,.int .i64 0,.int .i64 0,.int .i64 0,.int .i64 0,.int .i64 0,.int .i64 0,.int .i64 0,.int .i64 0,.int .i64 0,.int .i64 0,.int .i64 0,.slice none 0 0,.int .i64 0,.slice none 0 0]:Array Value)=ZM from HZM.out.symm, ←HW1.out];go_upto_region 2 with(go_at_call 30;refine HBl.out.mono ?_;rintro e wq ⟨rfl,hwq⟩;rw[←hwq];clear hwq wq)
 go_cut [65] from 27 to 65 (fun v wx=>v=.bool (!ok)∧Below W1.heap.size W1 wx)
 case first=>
  by_cases hsz:cF zs.length=true
  ·have hnz1:((nz:Int)==0)=false:=(by rw[HNZ.out,if_pos hsz];unfold cF at hsz;simp at hsz⊢;omega);have HN3:=ae (nz=zs.length/512) (by rw[HNZ.out,if_pos hsz]);have HSZ:=aa hsz;clear hsz;cases hrm:dP ws with
   |false=>
    have HRM:=aa hrm;clear hrm;go_wp2_with (first
     |(go_at_call 31;refine HRi.out.mono ?_;rintro e wq ⟨rfl,hwq⟩;rw[hwq,HRM.out];clear hwq wq)
     |fail)
    go_meet;exact⟨by rw[show ok=false by rw[HOK2.out,HRM.out];simp];first|rfl|(simp;omega),ak⟩
   |true=>
    have HRM:=aa hrm;have HRMc:=aa hrm;clear hrm;by_cases hln:n=nz
    ·have hlb:((n:Int) !=(nz:Int))=false:=(by simp[hln]);have HLN:=aa hln;have hnle:(n:Int)≤(nz:Int)∧(nz:Int)≤(n:Int):=(by omega);clear hln;cases hrr:cA s ds p q with
     |false=>
      have HRR:=aa hrr;clear hrr;go_wp2_with (first
       |(go_at_call 31;refine HRi.out.mono ?_;rintro e wq ⟨rfl,hwq⟩;rw[hwq,HRM.out];clear hwq wq)
       |(refine jw ?hw 28 _ rfl w.heap.size rfl 28 RT (0,0) _ K1.out underlying28 rfl HInR.out ?_;case hw=>rfl)
       |(go_at_call 32;refine HRo.out.mono ?_;rintro e w2 ⟨rfl,b2⟩;rw[HRR.out];have B2:=aa b2;have k2:=HK0.out _ b2;clear b2;go_wp2_with fail)
       |fail)
      go_meet;exact⟨by rw[show ok=false by rw[HOK2.out,HRR.out];simp];first|rfl|(simp;omega),B2.out⟩
     |true=>
      have HRR:=aa hrr;clear hrr;by_cases hs0:s=0
      ·have hsb:(s !=0)=false:=(by simp[hs0]);have HS0:=aa hs0;clear hs0;by_cases hc2:cu<2
       ·go_wp2_with (first
         |(go_at_call 31;refine HRi.out.mono ?_;rintro e wq ⟨rfl,hwq⟩;rw[hwq,HRM.out];clear hwq wq)
         |(refine jw ?hw 28 _ rfl w.heap.size rfl 28 RT (0,0) _ K1.out underlying28 rfl HInR.out ?_;case hw=>rfl)
         |(go_at_call 32;refine HRo.out.mono ?_;rintro e w2 ⟨rfl,b2⟩;rw[HRR.out];have B2:=aa b2;have k2:=HK0.out _ b2;clear b2;go_wp2_with fail)
         |fail)
        go_meet;exact⟨by rw[show ok=false by rw[HOK2.out,show decide (2≤cu)=false from decide_eq_false (by omega)];simp];first|rfl|(simp;omega),B2.out⟩
       ·by_cases hcn:cu<(n:Int)
        ·have hcn2:¬((nz:Int)≤cu):=(by omega);go_wp2_with (first
          |(go_at_call 31;refine HRi.out.mono ?_;rintro e wq ⟨rfl,hwq⟩;rw[hwq,HRM.out];clear hwq wq)
          |(refine jw ?hw 28 _ rfl w.heap.size rfl 28 RT (0,0) _ K1.out underlying28 rfl HInR.out ?_;case hw=>rfl)
          |(go_at_call 32;refine HRo.out.mono ?_;rintro e w2 ⟨rfl,b2⟩;rw[HRR.out];have B2:=aa b2;have k2:=HK0.out _ b2;clear b2;go_wp2_with fail)
          |fail)
         go_meet;exact⟨by rw[show ok=true by rw[HOK2.out,show cF zs.length=true from HSZ.out,HRR.out,HRMc.out,show decide (n=zs.length/512)=true from decide_eq_true (HLN.out.trans HN3.out),show decide (s=0)=true from decide_eq_true HS0.out,show decide (2≤cu)=true from decide_eq_true (by omega),show decide (cu<(n:Int))=true from decide_eq_true hcn];simp];first|rfl|(simp;omega),B2.out⟩
        ·have hcn2:(nz:Int)≤cu:=(by omega);go_wp2_with (first
          |(go_at_call 31;refine HRi.out.mono ?_;rintro e wq ⟨rfl,hwq⟩;rw[hwq,HRM.out];clear hwq wq)
          |(refine jw ?hw 28 _ rfl w.heap.size rfl 28 RT (0,0) _ K1.out underlying28 rfl HInR.out ?_;case hw=>rfl)
          |(go_at_call 32;refine HRo.out.mono ?_;rintro e w2 ⟨rfl,b2⟩;rw[HRR.out];have B2:=aa b2;have k2:=HK0.out _ b2;clear b2;go_wp2_with fail)
          |fail)
         go_meet;exact⟨by rw[show ok=false by rw[HOK2.out,show decide (cu<(n:Int))=false from decide_eq_false (by omega)];simp];first|rfl|(simp;omega),B2.out⟩
      ·have hsb:(s !=0)=true:=(by simpa using hs0);have HS0:=aa hs0;clear hs0;by_cases hs4:s=4*(nz:Int)
       ·have hsb4:(s !=4*(nz:Int))=false:=(by simp[hs4]);have HS4:=aa hs4;clear hs4;by_cases hc2:cu<2
        ·go_wp2_with (first
          |(go_at_call 31;refine HRi.out.mono ?_;rintro e wq ⟨rfl,hwq⟩;rw[hwq,HRM.out];clear hwq wq)
          |(refine jw ?hw 28 _ rfl w.heap.size rfl 28 RT (0,0) _ K1.out underlying28 rfl HInR.out ?_;case hw=>rfl)
          |(go_at_call 32;refine HRo.out.mono ?_;rintro e w2 ⟨rfl,b2⟩;rw[HRR.out];have B2:=aa b2;have k2:=HK0.out _ b2;clear b2;go_wp2_with fail)
          |fail)
         go_meet;exact⟨by rw[show ok=false by rw[HOK2.out,show decide (2≤cu)=false from decide_eq_false (by omega)];simp];first|rfl|(simp;omega),B2.out⟩
        ·by_cases hcn:cu<(n:Int)
         ·have hcn2:¬((nz:Int)≤cu):=(by omega);go_wp2_with (first
           |(go_at_call 31;refine HRi.out.mono ?_;rintro e wq ⟨rfl,hwq⟩;rw[hwq,HRM.out];clear hwq wq)
           |(refine jw ?hw 28 _ rfl w.heap.size rfl 28 RT (0,0) _ K1.out underlying28 rfl HInR.out ?_;case hw=>rfl)
           |(go_at_call 32;refine HRo.out.mono ?_;rintro e w2 ⟨rfl,b2⟩;rw[HRR.out];have B2:=aa b2;have k2:=HK0.out _ b2;clear b2;go_wp2_with fail)
           |fail)
          go_meet;exact⟨by rw[show ok=true by rw[HOK2.out,show cF zs.length=true from HSZ.out,HRR.out,HRMc.out,show decide (n=zs.length/512)=true from decide_eq_true (HLN.out.trans HN3.out),show decide (s=4*(n:Int))=true from decide_eq_true (by rw[HLN.out];exact HS4.out),show decide (2≤cu)=true from decide_eq_true (by omega),show decide (cu<(n:Int))=true from decide_eq_true hcn];simp];first|rfl|(simp;omega),B2.out⟩
         ·have hcn2:(nz:Int)≤cu:=(by omega);go_wp2_with (first
           |(go_at_call 31;refine HRi.out.mono ?_;rintro e wq ⟨rfl,hwq⟩;rw[hwq,HRM.out];clear hwq wq)
           |(refine jw ?hw 28 _ rfl w.heap.size rfl 28 RT (0,0) _ K1.out underlying28 rfl HInR.out ?_;case hw=>rfl)
           |(go_at_call 32;refine HRo.out.mono ?_;rintro e w2 ⟨rfl,b2⟩;rw[HRR.out];have B2:=aa b2;have k2:=HK0.out _ b2;clear b2;go_wp2_with fail)
           |fail)
          go_meet;exact⟨by rw[show ok=false by rw[HOK2.out,show decide (cu<(n:Int))=false from decide_eq_false (by omega)];simp];first|rfl|(simp;omega),B2.out⟩
       ·have hsb4:(s !=4*(nz:Int))=true:=(by simpa using hs4);have HS4:=aa hs4;clear hs4;go_wp2_with (first
         |(go_at_call 31;refine HRi.out.mono ?_;rintro e wq ⟨rfl,hwq⟩;rw[hwq,HRM.out];clear hwq wq)
         |(refine jw ?hw 28 _ rfl w.heap.size rfl 28 RT (0,0) _ K1.out underlying28 rfl HInR.out ?_;case hw=>rfl)
         |(go_at_call 32;refine HRo.out.mono ?_;rintro e w2 ⟨rfl,b2⟩;rw[HRR.out];have B2:=aa b2;have k2:=HK0.out _ b2;clear b2;go_wp2_with fail)
         |fail)
        go_meet;exact⟨by rw[show ok=false by rw[HOK2.out,show decide (s=0)=false from decide_eq_false HS0.out,show decide (s=4*(n:Int))=false from decide_eq_false (by rw[HLN.out];exact HS4.out)];simp];first|rfl|(simp;omega),B2.out⟩
    ·have hlb:((n:Int) !=(nz:Int))=true:=(by simp;omega);have HLN:=aa hln;clear hln;go_wp2_with (first
      |(go_at_call 31;refine HRi.out.mono ?_;rintro e wq ⟨rfl,hwq⟩;rw[hwq,HRM.out];clear hwq wq)
      |fail)
     go_meet;exact⟨by rw[show ok=false by rw[HOK2.out,show decide (n=zs.length/512)=false from decide_eq_false (by rw[←HN3.out];exact HLN.out)];simp];first|rfl|(simp;omega),ak⟩
  ·have hnz1:((nz:Int)==0)=true:=(by rw[HNZ.out,if_neg hsz];rfl);have HSZ:=aa hsz;clear hsz;go_wp2_with (first
    |fail)
   go_meet;exact⟨by rw[show ok=false by rw[HOK2.out,show cF zs.length=false by have h9:=HSZ.out;simpa using h9];simp];first|rfl|(simp;omega),ak⟩
 case rest=>
 obtain⟨rfl,hb2⟩:=hcut;rename World=>w2
 have B2:=aa hb2;have K2:=aa (K1.out.below hb2 K1.out.lt);have Z2:=aa (Z1.out.below hb2 Z1.out.lt);have hs2:=hb2.size;clear hb2;cases hok:ok with
 |false=>
  have HMC:=ae (cU zs s ds p q ws cu=7) (by unfold cU;rw[if_pos (by rw[←HOK.out];exact hok)]);clear hok;go_wp2_with (first
   |(refine wpList_store_row rfl 34 _ _ rfl (w.heap.size+1) (#[.int .i64 0,.int .i64 0,.int .i64 0,.int .i64 0,.int .i64 0,.int .i64 0,.int .i64 0,.int .i64 0,.int .i64 0,.int .i64 0,.int .i64 0,.int .i64 0,.int .i64 0,.int .i64 0,.int .i64 0,.slice none 0 0,.int .i64 0,.slice none 0 0]:Array Value) rfl rfl 34 ZM Z2.out fX (by rw[HZM.out];rfl) (by have:=HOZ.out;rw[HZM.out] at this;exact this) ?_)
   |fail)
  refine bodyPost_ret (v:=.tuple #[.agg cM,.int .i64 7]) ?_ rfl ⟨.inl ?_,below_setRow (B1.out.trans (B2.out.mono B1.out.size)) (by omega) _⟩
  ·exact iq rfl _ _ (w.heap.size+1) 34 _ (0,0) _ _ rfl rfl (Z2.out.row _) underlying34 rfl fX
  ·rw[HMC.out];exact⟨by decide,rfl⟩
 |true=>
  have HOkT:=ae (dS zs s ds p q ws cu=true) (by rw[←HOK.out];exact hok);obtain⟨hsa,hsb,hnzz,hsn,hcu⟩:=lO HOkT.out;have hrm:dP ws=true:=by have h9:=HOkT.out;unfold dS at h9;simp only[Bool.and_eq_true] at h9;exact h9.1.1.1.2
  have hokr:cV zs s ds p q=true:=by have h9:=HOkT.out;unfold dS at h9;simp only[Bool.and_eq_true] at h9;exact h9.1.1.1.1
  have hlen:=oY ws hrm;rw[←HNN.out.2] at hsn hcu hlen hnzz;have hszk:cF zs.length=true:=by unfold cV at hokr;rw[Bool.and_eq_true] at hokr;exact hokr.1
  have hnzn:nz=n:=by rw[HNZ.out,if_pos hszk, ←hnzz]
  obtain⟨sz,hsz⟩:∃sz:Nat,sz=s.toNat:=⟨_,rfl⟩;obtain⟨cnt,hcnt⟩:∃cnt:Nat,cnt=(s.toNat+511)/512:=⟨_,rfl⟩;have hn0:2<n:=by omega
  have hszv:s=(sz:Int):=by omega
  subst hnzn;have HAp:=ae (Calls prog 33 #[.slice ia zn ic,.agg RT] w2 fun e w'=>ur w2 cnt (zs.length/512) (aJ zs) (fun i=>ds.getD i 0) p q e w'∧Below w2.heap.size w2 w') (by
   have h9:=qu (.slice ia zs.length ic) zs s.toNat ds p q w2 cnt (HH.out.1.below B2.out) HH.out.2.2.1 HH.out.2.2.2.1 HH.out.2.2.2.2.1 (by omega) hcnt;rw[Int.toNat_of_nonneg hsa] at h9;rw[HRT.out,HNN.out.1];exact h9)
  have HZr:=aa (lE HH.out.2.2.2.2.1 hokr);have HF:=aa (ag hsa (ag hsb (ag hnzz (ag hsn (ag hcu (ag hrm (ag hokr (ag hlen hcnt))))))));have hlen2:nz≤2048:=hlen.2;clear hsa hsb hnzz hsn hrm hokr hlen hcnt hsz hszk hszv hok;by_cases hap:(ZR zs s ds p q).2=true
  ·have HMC:=ae (cU zs s ds p q ws cu=21) (by unfold cU;rw[if_neg (by rw[HOkT.out];decide),if_pos hap]);have hnap:¬fM cnt (zs.length/512) (aJ zs) (fun i=>ds.getD i 0) p q:=by
    rcases HZr.out with⟨h1,h2⟩|⟨h1,h2⟩
    ·rw[h2] at hap;cases hap
    ·rw[HF.out.2.2.2.2.2.2.2.2];exact h1
   have HNA:=aa hnap;clear hap hnap;go_upto_region 5 with(first
    |(refine wpList_load_row rfl 28 _ rfl w.heap.size rfl 28 RT (0,0) _ K2.out underlying28 rfl HInR.out ?_)
    |(
     go_at_call 33
     refine HAp.out.mono ?_;rintro e w3 ⟨hA,b3⟩;rcases hA with⟨h1,_⟩|⟨_,rfl⟩
     ·exact absurd h1 HNA.out
     have B3:=aa b3;have Z3:=aa (Z2.out.below b3 Z2.out.lt);clear b3)
    |fail)
   have Z4:=aa (Z3.out.alloc (.cells #[.slice none 0 0,.int .i64 0,.int .i64 0,.slice none 0 0,.slice none 0 0,.slice none 0 0,.slice none 0 0,.bool false] 73));have t7:=((af.new w3 #[.slice none 0 0,.int .i64 0,.int .i64 0,.slice none 0 0,.slice none 0 0,.slice none 0 0,.slice none 0 0,.bool false] 73).cell 7).trans (show _=some (Value.bool false) from rfl);have B4:=ae (Below w.heap.size w (w3.alloc (.cells #[.slice none 0 0,.int .i64 0,.int .i64 0,.slice none 0 0,.slice none 0 0,.slice none 0 0,.slice none 0 0,.bool false] 73))) ((B1.out.trans ((B2.out.trans (B3.out.mono hs2)).mono B1.out.size)).alloc (by have:=B3.out.size;omega) _);generalize w3.alloc (.cells #[.slice none 0 0,.int .i64 0,.int .i64 0,.slice none 0 0,.slice none 0 0,.slice none 0 0,.slice none 0 0,.bool false] 73)=w4 at Z4 t7 B4⊢;go_wp2_with (first
    |(refine wpList_store_row rfl 34 _ _ rfl (w.heap.size+1) (#[.int .i64 0,.int .i64 0,.int .i64 0,.int .i64 0,.int .i64 0,.int .i64 0,.int .i64 0,.int .i64 0,.int .i64 0,.int .i64 0,.int .i64 0,.int .i64 0,.int .i64 0,.int .i64 0,.int .i64 0,.slice none 0 0,.int .i64 0,.slice none 0 0]:Array Value) rfl rfl 34 ZM Z4.out fX (by rw[HZM.out];rfl) (by have:=HOZ.out;rw[HZM.out] at this;exact this) ?_)
    |fail)
   refine bodyPost_ret (v:=.tuple #[.agg cM,.int .i64 21]) ?_ rfl ⟨.inl ?_,below_setRow (B4.out) (by omega) _⟩
   ·exact iq rfl _ _ (w.heap.size+1) 34 _ (0,0) _ _ rfl rfl (Z4.out.row _) underlying34 rfl fX
   ·rw[HMC.out];exact⟨by decide,rfl⟩
  ·have hap':(ZR zs s ds p q).2=false:=(by simpa using hap);have HAP:=ae (fM cnt (zs.length/512) (aJ zs) (fun i=>ds.getD i 0) p q∧(ZR zs s ds p q).2=false) (by
    rcases HZr.out with⟨h1,h2⟩|⟨h1,h2⟩
    ·exact⟨by rw[HF.out.2.2.2.2.2.2.2.2];exact h1,hap'⟩
    ·rw[hap'] at h2;cases h2)
   clear hap hap';obtain⟨Bt,hBt⟩:∃Bt,Bt=mrB zs s ds p q:=⟨_,rfl⟩;obtain⟨cc,hcc⟩:∃cc,cc=mrC zs s ds p q:=⟨_,rfl⟩;obtain⟨D,hD⟩:∃D,D=lW zs s ds p q:=⟨_,rfl⟩;have HTR:=ae (∀W,Below w2.heap.size w2 W→Calls prog 34 #[.slice ia zn ic,.agg RT] W fun e w'=>∃v,e=.returned (.tuple #[v,.int .i64 cc])∧w'.ownsRow W.heap.size 5 1 v Bt.length (Bt.map (Value.int .u8))∧Below W.heap.size W w') (fun W hb=>by
    rw[HRT.out,HNN.out.1,hBt,hcc];exact AG _ zs s ds p q W ((HH.out.1.below B2.out).below hb) HH.out.2.2.1 HH.out.2.2.2.1 HH.out.2.2.2.2.1)
   have HBf:=ae (dO zs s ds p q nz=gS Bt nz∧Bt.length=s.toNat∧∀z∈Bt,0≤z∧z<256) (by rw[hBt];exact DU HH.out.2.2.2.1 HH.out.2.2.2.2.1 HF.out.2.2.2.2.2.2.1 HAP.out.2 nz HF.out.2.2.2.1);have HDl:=ae (D.length=cnt) (by rw[hD,DQ,HF.out.2.2.2.2.2.2.2.2]);have HDe:=ae ((List.range cnt).map (bC (aJ zs) (fun i=>ds.getD i 0) p q)=D) (by rw[hD,HF.out.2.2.2.2.2.2.2.2];rfl);have HDD:=aa hD;clear hBt hcc hD;go_upto_region 5 with(first
    |(refine wpList_load_row rfl 28 _ rfl w.heap.size rfl 28 RT (0,0) _ K2.out underlying28 rfl HInR.out ?_)
    |(
     go_at_call 33
     refine HAp.out.mono ?_;rintro e w3 ⟨hA,b3⟩;rcases hA with⟨_,dv,iv2,ov,sv,wv2,rfl,hone,od,_⟩|⟨h1,_⟩;rotate_left
     ·exact absurd HAP.out.1 h1
     obtain⟨da,dc,rfl⟩:=bK od;have B3:=aa b3;have HOne:=aa hone;have OD:=aa od;clear b3 hone od)
    |(refine wpList_store_row rfl 73 _ _ rfl w3.heap.size (#[.slice da cnt dc,.int .i64 p,.int .i64 q,iv2,ov,sv,wv2,.bool true]:Array Value) rfl rfl 73 #[.slice none 0 0,.int .i64 0,.int .i64 0,.slice none 0 0,.slice none 0 0,.slice none 0 0,.slice none 0 0,.bool false] (af.new w3 _ _) fI rfl HOne.out ?_)
    |fail)
   obtain⟨w4,hw4⟩:∃w4,w4=(w3.alloc (.cells #[.slice none 0 0,.int .i64 0,.int .i64 0,.slice none 0 0,.slice none 0 0,.slice none 0 0,.slice none 0 0,.bool false] 73)).setRow w3.heap.size #[.slice da cnt dc,.int .i64 p,.int .i64 q,iv2,ov,sv,wv2,.bool true]:=⟨_,rfl⟩;rw[←hw4];have b34:Below w3.heap.size w3 w4:=(by rw[hw4];exact below_setRow (ak.alloc aj _) aj _);have KT:=ae (af w4 w3.heap.size #[.slice da cnt dc,.int .i64 p,.int .i64 q,iv2,ov,sv,wv2,.bool true] 73) (by rw[hw4];exact(af.new w3 _ _).row _);have B4:=ae (Below w2.heap.size w2 w4) (B3.out.trans (b34.mono B3.out.size));have OD4:=aa (aY OD.out b34);have HTR4:=aa (HTR.out w4 B4.out);have K4:=aa (K2.out.below B4.out K2.out.lt);clear hw4 b34 HTR OD;have t7:=(KT.out.cell 7).trans (show _=some (Value.bool true) from rfl);have HC7:=ae (∀w',af w' w3.heap.size #[.slice da cnt dc,.int .i64 p,.int .i64 q,iv2,ov,sv,wv2,.bool true] 73→w'.rangeAt w3.heap.size 0 [.slice da cnt dc,.int .i64 p,.int .i64 q,iv2,ov,sv,wv2,.bool true]) (fun w' hb=>wO hb);go_upto_region 8 with(first
    |(refine wpList_load_row rfl 28 _ rfl w.heap.size rfl 28 RT (0,0) _ K4.out underlying28 rfl HInR.out ?_)
    |(
     go_at_call 34
     refine HTR4.out.mono ?_;rintro e w5 ⟨bv,rfl,ob,b5⟩;obtain⟨ba,bc,rfl⟩:=bK ob;have B5:=aa b5;have OB:=aa ob;clear ob b5)
    |fail)
   have KT5:=aa (KT.out.below B5.out KT.out.lt);have OD5:=aa (aY OD4.out B5.out);have BB5:=ae (Below W1.heap.size W1 w5) (B2.out.trans ((B4.out.trans (B5.out.mono B4.out.size)).mono hs2));have hs3:W1.heap.size≤w5.heap.size:=BB5.out.size;clear t7 KT OD4 HTR4;obtain⟨bw,ow,cw,hwv,hbw,hcl,hcm,hcell⟩:=HH.out.2.1.dj (by rw[←HNN.out.2];omega);injection hwv with hw1 hw2 hw3;subst hw1;subst hw3;clear hw2;have HWC:=aa hcell;clear hcell;refine cr (fun w'=>af w' w3.heap.size #[.slice da cnt dc,.int .i64 p,.int .i64 q,iv2,ov,sv,wv2,.bool true] 73) KT5.out fun hH=>?_;refine ah 1 (.slice (some ⟨bw,ow,none⟩) nz wc') rfl hH ?_;refine ah 3 (.agg #[.slice da cnt dc,.int .i64 p,.int .i64 q,iv2,ov,sv,wv2,.bool true]) rfl hH ?_ (yieldsIf_load_mid (by rfl) 73 _ rfl w3.heap.size 0 rfl [.slice da cnt dc,.int .i64 p,.int .i64 q,iv2,ov,sv,wv2,.bool true] _ (fun w' h=>HC7.out w' h) underlying73 rfl fI);refine ah 4 (.int .i64 cu) rfl hH ?_;refine aG 0 rfl fun K hK=>?_;go_simp;refine hK.out _ _ (KT5.out.alloc _) (fun hH=>?_);clear hK K;try simp only[Act.put,aq,au,av,ay,az,aA]
   obtain⟨w6,hw6⟩:∃w6,w6=(w5.alloc (.cells #[] 3)).drew:=⟨_,rfl⟩;have b6:Below w5.heap.size w5 w6:=(by rw[hw6];exact(ak.alloc aj _).drew);have o6:w6.ownsRow W1.heap.size 3 1 (.slice (some ⟨w5.heap.size,0,none⟩) 0 0) 0 []:=(by rw[hw6];exact bZ (gN w5 3 1) hs3);have k6:af w6 w3.heap.size #[.slice da cnt dc,.int .i64 p,.int .i64 q,iv2,ov,sv,wv2,.bool true] 73:=KT5.out.below b6 KT5.out.lt;have s6:w6.heap.size=w5.heap.size+1:=(by rw[hw6];simp);have H6:=aa (ag b6 (ag o6 k6));rw[←hw6];refine aG 2 rfl fun K hK=>?_;rw[if_pos (by rfl)];refine iA (.tmp 80) (.tmp 81) 29 rfl W1.heap.size 3 i0 (.int .i64 0) 1 8 underlying29 hi hz0 hz1 hz2 rfl (by decide) (.slice (some ⟨w5.heap.size,0,none⟩) 0 0) 0 [] rfl H6.out.2.1 ⟨bw,ow,none⟩ nz wc' (ws.map (Value.int .i64)) rfl (by rw[length_map, ←HNN.out.2,Nat.mul_one]) (fun j u hu=>by
    rw[List.getElem?_map] at hu;cases hj:ws[j]? with
    |none=>rw[hj] at hu;cases hu
    |some x=>
     rw[hj] at hu;obtain rfl:=Option.some.inj hu;have hjl:j<ws.length:=(List.getElem?_eq_some_iff.1 hj).1;have h9:=HWC.out j hjl;rw[show ws.getD j 0=x by simp[getD,hj]] at h9;rw[Addr.add_mid];exact((BB5.out.trans (H6.out.1.mono hs3)).cell (p:=⟨bw,ow+j,none⟩) hbw).trans h9) (by intro y hy;obtain⟨z,_,rfl⟩:=List.mem_map.1 hy;rfl) (by unfold maxLen;omega) (by omega) (by omega) ?_
   intro v7 w7 o7 g7 a7;obtain⟨va,vc,hva⟩:=bK o7;subst hva;rw[Nat.zero_add] at o7 a7⊢;have k7:af w7 w3.heap.size #[.slice da cnt dc,.int .i64 p,.int .i64 q,iv2,ov,sv,wv2,.bool true] 73:=(g7.block _ k6.lt (fun e=>by have h9:some w3.heap.size=some w5.heap.size:=e;injection h9 with h9;have:=KT5.out.lt;omega)).trans k6;have b7:Below w5.heap.size w5 w7:=H6.out.1.grown g7 (by omega) (fun r hr=>by have h9:some w5.heap.size=some r:=hr;injection h9 with h9;omega);have O7:=ae (w7.ownsRow W1.heap.size 3 1 (.slice va nz vc) nz (ws.map (Value.int .i64))) o7;have A7:=ae (∀r,(Value.slice va nz vc).ownBlock=some r→w5.heap.size≤r) (fun r hr=>by
    rcases a7 with e|e
    ·rw[e] at hr;have h9:some w5.heap.size=some r:=hr;injection h9 with h9;omega
    ·rw[e] at hr;injection hr with h9;omega)
   have H7:=aa (ag k7 b7);refine hK.out _ _ k7 (fun hH=>?_);clear hK K o7 g7 a7 k7 b7 b6 o6 k6;try simp only[Act.put,aq,au,av,ay,az,aA]
   refine ah 5 (.agg #[.slice va nz vc,.slice none 0 0,.slice da cnt dc,.int .i64 p,.int .i64 q,iv2,ov,sv,wv2,.bool true,.int .i64 cu,.slice none 0 0,.slice none 0 0,.bool false]) rfl hH ?_;refine aG 6 rfl fun K hK=>?_;go_simp;refine hK.out _ _ (H7.out.1.alloc _) (fun hH=>?_);clear hK K;try simp only[Act.put,aq,au,av,ay,az,aA]
   refine ah 7 (.pointer (some ⟨w7.heap.size,0,none⟩)) rfl hH ?_;refine bz ?_;clear hH hw6 s6 H6;obtain⟨bF,hbF⟩:∃bF,bF=w7.heap.size:=⟨_,rfl⟩;obtain⟨w8,hw8⟩:∃w8,w8=w7.alloc (.cells #[.slice va nz vc,.slice none 0 0,.slice da cnt dc,.int .i64 p,.int .i64 q,iv2,ov,sv,wv2,.bool true,.int .i64 cu,.slice none 0 0,.slice none 0 0,.bool false] 77):=⟨_,rfl⟩;rw[←hw8, ←hbF];have b78:Below w7.heap.size w7 w8:=(by rw[hw8];exact ak.alloc aj _);have F8:=ae (Fm w8 W1.heap.size bF #[.slice va nz vc,.slice none 0 0,.slice da cnt dc,.int .i64 p,.int .i64 q,iv2,ov,sv,wv2,.bool true,.int .i64 cu,.slice none 0 0,.slice none 0 0,.bool false] (rG (.slice va nz vc) (.slice da cnt dc)) (lG ws D) cu p false) (by
    refine D6 (by rw[hw8,hbF];exact af.new _ _ _) (by rw[←HNN.out.2];exact aY O7.out b78) ?_ (fun e=>?_)
    ·have h9:=bZ (aY (aY OD5.out H7.out.2) b78) hs2;rw[HDe.out] at h9;rw[HDl.out];exact h9
    ·cases hv:(Value.slice va nz vc).ownBlock with
     |none=>
      rcases O7.out.2 with⟨e1,_⟩|⟨g,cap,cur,e1,_⟩
      ·injection e1 with _ e2 _;omega
      ·rw[e1] at hv;cases hv
     |some r=>
      have h1:=A7.out r hv;have h2:=(OD5.out.lt r (by rw[←e];exact hv)).2;omega)
   have BB8:=ae (Below W1.heap.size W1 w8) ((BB5.out.trans (H7.out.2.mono hs3)).trans (b78.mono (aN hs3 H7.out.2.size)));have OB8:=aa (aY (aY OB.out H7.out.2) b78);have hbF1:W1.heap.size≤bF:=(by rw[hbF];exact aN hs3 H7.out.2.size);clear hw8 hbF b78 O7 A7 H7 OD5 OB KT5 HC7 HWC;obtain⟨bl,hbl⟩:∃bl,bl=Bt.length:=⟨_,rfl⟩;rw[←hbl] at OB8⊢;have hbl4:bl=0∨bl=4*nz:=by
    rw[hbl,HBf.out.2.1];have h9:=HF.out.2.2.2.1;omega
   have HBL:=aa hbl;have HB4:=aa hbl4;clear hbl hbl4;obtain⟨R8,hR8⟩:∃R8,R8=rG (.slice va nz vc) (.slice da cnt dc):=⟨_,rfl⟩;rw[←hR8] at F8;clear hR8;have HI0:=ae (∃C R,Fm w8 W1.heap.size bF C R (aT (lG ws D) 1 (gS Bt 0)) cu p false∧cE w8 w8 bF R8 R∧w8.ownsRow w4.heap.size 5 1 (.slice ba bl bc) bl (Bt.map (Value.int .u8))) (⟨_,R8,by
    rw[DZ];exact F8.out,cE.bT bF R8 ak,OB8.out⟩)
   have hnzb:nz≤2048:=hlen2;go_wp2;go_loopw [15,16] (fun i u wr=>∃k:Nat,k≤nz∧i=.int .i64 (k:Int)∧Hid (∃C R,Fm wr W1.heap.size bF C R (aT (lG ws D) 1 (gS Bt k)) cu p false∧cE w8 wr bF R8 R∧wr.ownsRow w4.heap.size 5 1 (.slice ba bl bc) bl (Bt.map (Value.int .u8)))) (fun i _ _=>nz-(intOf i).toNat)
   case atStart=>exact⟨0,Nat.zero_le _,rfl,HI0⟩
   case round=>
    obtain⟨k,hk,rfl,HI⟩:=hrel;obtain⟨C,R,hF,hKP,hOB⟩:=HI.out;have F1:=aa hF;have P1:=aa hKP;have OB1:=aa hOB;have hs8:w8.heap.size≤wr.heap.size:=hKP.size;have hsW:W1.heap.size≤wr.heap.size:=aN BB8.out.size hs8;clear hF hKP hOB HI;by_cases hlt:k<nz
    ·have hltI:(k:Int)<(nz:Int):=(by omega);obtain⟨y,hy⟩:∃y,y=if 4*k<Bt.length then gj Bt k else 0:=⟨_,rfl⟩;have HY:=aa hy;clear hy;go_upto_if 96 with fail;go_cut [16] from 87 to 114 (fun v wx=>v=.int .i64 y∧wx=wr)
     case first=>
      by_cases h4:4*k<bl
      ·have h4I:4*(k:Int)<(bl:Int):=(by omega);obtain⟨gB,oB,cB,hbv,_,hcB,hcm2,_⟩:=(Rd.own OB1.out).dj (by rw[←HBL.out];omega);injection hbv with e1 e2 e3;subst e1;subst e3;clear e2;unfold maxLen at hcm2;rw[←HBL.out] at hcB;have hbl2:bl=4*nz:=(by have:=HB4.out;omega);obtain⟨A,hA⟩:∃A:Nat,A=4*k:=⟨_,rfl⟩;have hA1:4*(k:Int)=(A:Int):=(by omega);obtain⟨B,hB⟩:∃B:Nat,B=A+4:=⟨_,rfl⟩;have hB1:(A:Int)+4=(B:Int):=(by omega);have hB3:(A:Int)≤(B:Int):=(by omega);have hB4:(B:Int)≤(bc:Int):=(by omega);have hB5:B-A=4:=(by omega);have HG4:=ae (Rd .u8 wr (.slice (some ⟨gB,oB+A,none⟩) 4 (bc-A)) ((Bt.drop A).take 4)) (Rd.kL A 4 (Rd.own OB1.out) (by omega) (by rw[←HBL.out];omega));have HYv:=ae (((jP ((Bt.drop A).take 4):Nat):Int)=y) (by
        rw[HY.out,if_pos (by rw[←HBL.out];exact h4),hA,pV _ (by have:=sW Bt k HBf.out.2.2;omega)];rfl)
       have hAb:A≤8192:=(by omega);clear hA hB hbl2;go_wp2_with fail;refine(sV _ ((Bt.drop A).take 4) _ (by first|exact HG4.out|(rw[hB5];exact HG4.out)) (by simp;omega) (fun z hz=>HBf.out.2.2 z (List.mem_of_mem_drop (List.mem_of_mem_take hz)))).mono ?_;rintro e w1' ⟨rfl,rfl⟩;rw[HYv.out];go_wp2_with fail;go_meet;exact⟨rfl,rfl⟩
      ·have h4I:¬(4*(k:Int)<(bl:Int)):=(by omega);have hy0:y=0:=(by rw[HY.out,if_neg (by rw[←HBL.out];exact h4)]);go_wp2_with fail;go_meet;exact⟨by rw[hy0],rfl⟩
     case rest=>
     obtain⟨rfl,hwc⟩:=hcut;rw[hwc];clear hwc;obtain⟨ra,rc,hR1⟩:=bK (F1.out.row 1 (by omega));rw[bG,oL] at hR1;have y1:wr.cell? ⟨bF,1,none⟩=some (.slice ra k rc):=F1.out.slot (j:=1) (by omega) hR1;have HR1:=aa hR1;have b2:Below wr.heap.size wr (wr.alloc (.cells #[.int .i64 y] 3)):=ak.alloc aj _;have F2:=aa (F1.out.below b2);have HO2:=ae ((wr.alloc (.cells #[.int .i64 y] 3)).ownsRow W1.heap.size 3 1 (.slice ra k rc) k ((gS Bt k).map (Value.int .i64))) (by
      have h9:=F2.out.row 1 (by omega);rw[bG,oL,HR1.out] at h9;exact h9)
     have P2:=aa (P1.out.trans (cE.bT bF R b2));have OB2:=aa (aY OB1.out b2);clear hR1 b2;go_wp2_with (first
      |(
       at_builtin;refine wpList_append_own_at _ rfl (.tmp 109) (.tmp 111) 29 rfl W1.heap.size 3 i0 (.int .i64 0) 1 8 underlying29 hi hz0 hz1 hz2 rfl (by decide) (.slice ra k rc) k _ rfl HO2.out ⟨wr.heap.size,0,none⟩ 1 1 [.int .i64 y] rfl rfl (lT wr y) (by intro z hz;simp at hz;rcases hz with rfl;rfl) (by unfold maxLen;omega) (by omega) (by simp;omega) ?_
       intro v3 w3' o3 g3 _ n3;obtain⟨va3,vc3,rfl⟩:=bK o3;obtain⟨f3,k3⟩:=F2.out.put (l:=1) (by omega) (L':=gS Bt (k+1)) (v':=.slice va3 (k+1) vc3) (by rw[oL,DT, ←HY.out,map_append];exact o3) (by rw[HR1.out];exact g3) (by rw[HR1.out];exact n3.imp id (fun e=>⟨_,e,aj⟩));have F3:=aa f3;have P3:=aa (P2.out.trans k3);have OB3:=aa (k3.other F2.out OB2.out (by decide) (by decide));have hb3:af w3' bF C 77:=(g3.block bF F2.out.box.lt (fun e=>F2.out.gO (j:=1) (by omega) (by rw[HR1.out];exact e.symm))).trans F2.out.box;have y3:∃v,w3'.cell? ⟨bF,1,none⟩=some v:=⟨_,(hb3.cell 1).trans (F2.out.at_ 1 (by omega))⟩;obtain⟨v9,y3⟩:=y3;have f9:=hb3.frozen 1;clear o3 g3 n3 f3 k3 hb3)
      |fail)
     go_roundw
     case rel=>
      refine⟨k+1,by omega,by go_num,aa ⟨C.setIfInBounds (fQ 1) (.slice va3 (k+1) vc3),_,?_,P3.out,OB3.out⟩⟩;have h9:=F3.out;rw[qH] at h9;exact h9
     case measure=>simp[intOf];omega
    ·obtain rfl:nz=k:=(by omega);have hltI:¬((nz:Int)<(nz:Int)):=(by omega);obtain⟨m,hm⟩:∃m:Nat,m=(nz+127)/128:=⟨_,rfl⟩;have hmI:((nz:Int)+127)/128=(m:Int):=(by omega);have hmT:((nz:Int)+127).tdiv 128=(m:Int):=(by rw[Int.tdiv_eq_ediv_of_nonneg (by omega)];exact hmI);have hm16:m≤16:=(by omega);have HM:=aa hm;clear hm;go_upto_region 17 with fail;obtain⟨bf,hbf⟩:∃bf,bf=gS Bt nz:=⟨_,rfl⟩;obtain⟨ol,hol⟩:∃ol,ol=eB m (eD zs s ds p q):=⟨_,rfl⟩;obtain⟨TT,hTT⟩:∃TT,TT=cI zs s ds p q ws cu:=⟨_,rfl⟩;have HT0:=ae (TT=eH m bf ol (m+2) (fP m ws cu)) (by rw[hTT,hbf, ←HBf.out.1,hol,HM.out,HNN.out.2];rfl);have HTT:=aa hTT;have hwf0:bg m nz (fP m ws cu):=oG HNN.out.2.symm (oH HF.out.2.2.2.2.2.1) HF.out.2.2.2.2.1;have hpc:rB m nz bf ol D p:=by
      have h9:=DS HH.out.2.2.2.2.1 HF.out.2.2.2.2.2.2.1 HAP.out.2 m;refine⟨HM.out,hlen2,by rw[hbf,oL],fun j hj=>by rw[hol,HDD.out];exact h9.1 j hj,by rw[hol];exact h9.2,fun j hj=>by rw[hol];exact vO (by omega) HF.out.2.2.1 j hj,?_⟩;rw[HDl.out,HF.out.2.2.2.2.2.2.2.2];have:=HF.out.1;have:=HF.out.2.1;omega
     have HPC:=aa (ag hpc hwf0);have HOL:=aa hol;have y11:∃v,wr.cell? ⟨bF,11,none⟩=some v:=⟨_,(F1.out.box.cell 11).trans (F1.out.at_ 2 (by omega))⟩;obtain⟨v11,y11⟩:=y11;have HCu:=ae (cu=(cu.toNat:Int)) (by have:=HF.out.2.2.2.2.1;omega);have HOB:=OB1;rw[←hbf] at F1;clear hwf0 hpc hbf hol hTT hmI hmT;obtain⟨R2n,hR2n⟩:∃x,x=R 2:=⟨_,rfl⟩;have HR2n:=aa hR2n;clear hR2n;go_wp2_with (first
      |(
       refine wpList_make_full _ rfl _ _ 29 rfl W1.heap.size 3 i0 (.int .i64 0) 1 underlying29 hi hz0 hz1 .i64 .i64 ((m:Int)+1) ((m:Int)+1) (m+1) rfl rfl (by omega) (by omega) (by rw[hz2];omega) (by unfold maxLen;omega) hsW ?_;intro w9 o9 g9;rw[iK _ _ rfl] at o9;have b9:Below wr.heap.size wr w9:=ak.grown g9 aj (fun r e=>by cases e);obtain⟨f9,k9⟩:=F1.out.put (W':=w9) (l:=2) (by omega) (L':=List.replicate (m+1) 0) (v':=.slice (some ⟨wr.heap.size,0,none⟩) (m+1) (m+1)) (by rw[List.length_replicate,List.map_replicate];exact o9) ⟨g9.os,g9.tape,g9.output,g9.size,fun k hk _=>g9.block k hk (fun e=>by cases e)⟩ (.inr ⟨wr.heap.size,rfl,aj⟩);have F9:=aa f9;have P9:=aa (P1.out.trans k9);have hb9:af w9 bF C 77:=F1.out.box.below b9 F1.out.box.lt;have y9:∃v,w9.cell? ⟨bF,11,none⟩=some v:=⟨_,(hb9.cell 11).trans (F1.out.at_ 2 (by omega))⟩;obtain⟨v9,y9⟩:=y9;have z9:=hb9.frozen 11;clear o9 g9 b9 f9 k9 hb9)
      |fail)
     obtain⟨R9,hR9⟩:∃R9,R9=aT R 2 (.slice (some ⟨wr.heap.size,0,none⟩) (m+1) (m+1)):=⟨_,rfl⟩;rw[←hR9] at F9 P9;clear hR9;obtain⟨wA,hwA⟩:∃wA,wA=w9.setCell ⟨bF,11,none⟩ (.slice (some ⟨wr.heap.size,0,none⟩) (m+1) (m+1)):=⟨_,rfl⟩;have FA:=ae (fY wA W1.heap.size bF bf D p (fP m ws cu,true) R9) (by
      rw[hwA];refine⟨C.setIfInBounds (fQ 2) (.slice (some ⟨wr.heap.size,0,none⟩) (m+1) (m+1)),aT (aT (lG ws D) 1 bf) 2 (List.replicate (m+1) 0),?_,?_,?_,?_,?_,?_⟩
      ·have h9:=F9.out;show Fm _ _ _ _ _ _ (cu.toNat:Int) p false;rw[←HCu.out];exact h9
      ·rfl
      ·rfl
      ·rfl
      ·rfl
      ·rfl)
     have BBA:=ae (Below W1.heap.size W1 wA) (by rw[hwA];exact BB8.out.trans (P9.out.below F8.out hbF1 BB8.out.size));have hsA:W1.heap.size≤wA.heap.size:=BBA.out.size;rw[←hwA];clear hwA F9 P9 y9 z9 y11 F1 P1 OB1 HOB OB8;go_wp2;go_loopw [] (fun wr=>Hid (∃s1 R1 f,fY wr W1.heap.size bF bf D p (s1,true) R1∧cE wA wr bF R9 R1∧bg m nz s1∧m+2≤f+s1.od.length∧eH m bf ol f s1=TT)) (fun wr=>m+2-rC bF wr)
     case atStart=>exact aa ⟨fP m ws cu,R9,m+2,FA.out,cE.bT bF R9 ak,HPC.out.2,by omega,HT0.out.symm⟩
     case round=>
      obtain⟨s1,R1,f,hFS,hKP,hwf,hfu,hrun⟩:=hrel.out;have H1:=aa (ag hFS (ag hKP (ag hwf (ag hfu hrun))));have hsr:W1.heap.size≤wr.heap.size:=aN hsA hKP.size;obtain⟨ans,hans⟩:∃ans,ans=((bU m bf ol s1).2&&decide ((bU m bf ol s1).1.od.length≠s1.od.length)):=⟨_,rfl⟩;have HP:=aa (DF W1.heap.size bF m nz bf ol D p R1 s1 wr hFS hwf HPC.out.1 hsr);rw[←hans] at HP;have HA:=aa hans;have HU:=ae (∃f',f=f'+1) (⟨f-1,by have:=hwf.gh;omega⟩);clear hFS hKP hwf hfu hrun hans hrel;cases han:ans with
      |true=>
       rw[han] at HP;have HAt:=ae ((bU m bf ol s1).2=true∧(bU m bf ol s1).1.od.length≠s1.od.length) (by have h9:=HA.out;rw[han] at h9;have h8:=Bool.and_eq_true_iff.1 h9.symm;exact⟨h8.1,of_decide_eq_true h8.2⟩);go_wp2_with (go_at_call 36;refine HP.out.mono ?_;rintro e wC ⟨rfl,R2,hf2,hk2⟩;have H2:=aa (ag hf2 hk2);clear hf2 hk2);go_roundw
       case rel=>
        obtain⟨f',rfl⟩:=HU.out;have h5:=H1.out.2.2.1.pass HPC.out.1.nn bf ol;have h6:=H1.out.2.2.2.1;refine aa ⟨(bU m bf ol s1).1,R2,f',?_,H1.out.2.1.trans H2.out.2,h5.1,by have:=HAt.out.2;omega,?_⟩
        ·rw[show((bU m bf ol s1).1,true)=bU m bf ol s1 from Prod.ext rfl HAt.out.1.symm];exact H2.out.1
        ·have h9:=H1.out.2.2.2.2;rw[eH,HAt.out.1,decide_eq_true HAt.out.2] at h9;exact h9
       case measure=>
        rw[wI H2.out.1,wI H1.out.1];have h5:=H1.out.2.2.1.pass HPC.out.1.nn bf ol;have h6:=h5.1.gh;have h7:=HAt.out.2;show m+2-(bU m bf ol s1).1.od.length<m+2-s1.od.length;omega
      |false=>
       rw[han] at HP;have HTe:=ae (TT=bU m bf ol s1) (by
        obtain⟨f',rfl⟩:=HU.out;have h9:=H1.out.2.2.2.2;have h8:=HA.out;rw[han] at h8;rw[eH, ←h8] at h9;exact h9.symm)
       have HWT:=ae (bg m nz TT.1) (by rw[HTe.out];exact(H1.out.2.2.1.pass HPC.out.1.nn bf ol).1);rw[←HTe.out] at HP;obtain⟨tq,htq⟩:∃tq,tq=TT.2:=⟨_,rfl⟩;have HTQ:=aa htq;clear htq;go_upto_region 19 with(go_at_call 36;refine HP.out.mono ?_;rintro e wC ⟨rfl,RC,hf2,hk2⟩;have HC:=aa (ag hf2 (H1.out.2.1.trans hk2));clear hf2 hk2)
       have BBC:=ae (Below W1.heap.size W1 wC) (BBA.out.trans (FA.out.DG HC.out.2 hbF1 hsA));have ZC:=aa (Z1.out.below BBC.out Z1.out.lt);obtain⟨CC,LC,fC,c0,c1,c2,c3,c4⟩:=HC.out.1;have FC:=aa fC;have LCe:=aa (ag c0 (ag c1 (ag c2 (ag c3 c4))));have y13:wC.cell? ⟨bF,13,none⟩=some (.bool (!tq)):=(by rw[HTQ.out];exact(fC.box.cell 13).trans fC.full);have hsC:W1.heap.size≤wC.heap.size:=BBC.out.size;clear fC c0 c1 c2 c3 c4 H1 HP HA HU FA han;cases htq:tq with
       |false=>
        rw[htq] at y13;have HMC:=ae (cU zs s ds p q ws cu=9) (by unfold cU;rw[if_neg (by rw[HOkT.out];decide),if_neg (by rw[HAP.out.2];decide),if_pos (by rw[←HTT.out, ←HTQ.out];exact htq)]);go_wp2_with (first
         |(refine wpList_store_row rfl 34 _ _ rfl (w.heap.size+1) (#[.int .i64 0,.int .i64 0,.int .i64 0,.int .i64 0,.int .i64 0,.int .i64 0,.int .i64 0,.int .i64 0,.int .i64 0,.int .i64 0,.int .i64 0,.int .i64 0,.int .i64 0,.int .i64 0,.int .i64 0,.slice none 0 0,.int .i64 0,.slice none 0 0]:Array Value) rfl rfl 34 ZM ZC.out fX (by rw[HZM.out];rfl) (by have:=HOZ.out;rw[HZM.out] at this;exact this) ?_)
         |fail)
        refine bodyPost_ret (v:=.tuple #[.agg cM,.int .i64 9]) ?_ rfl ⟨.inl ?_,below_setRow (B1.out.trans (BBC.out.mono B1.out.size)) (by omega) _⟩
        ·exact iq rfl _ _ (w.heap.size+1) 34 _ (0,0) _ _ rfl rfl (ZC.out.row _) underlying34 rfl fX
        ·rw[HMC.out];exact⟨by decide,rfl⟩
       |true=>
        rw[htq] at y13;have HMC:=ae (cU zs s ds p q ws cu=0) (by unfold cU;rw[if_neg (by rw[HOkT.out];decide),if_neg (by rw[HAP.out.2];decide),if_neg (by rw[←HTT.out, ←HTQ.out,htq];decide)]);obtain⟨G,hG⟩:∃G,G=fD zs s ds p q ws cu:=⟨_,rfl⟩;have hGd:G=fH m ol TT.1.pl TT.1.od:=(by rw[hG,HOL.out,HTT.out,HM.out,HNN.out.2];rfl);have hod:∀j∈TT.1.od,j∈aL m:=by
         rw[HT0.out];exact wG (m+2) (fP m ws cu) (fun j hj=>by simp[fP] at hj)
        have hns:=DV (bf:=bf) HWT.out HPC.out.1.od HPC.out.1.os hod;rw[←hGd] at hns;have hhas:∀j,j<m→TT.1.pl.getD j 0≠0∨ol.getD j 0≠0:=by
         have h9:=wz (bf:=bf) (ol:=ol) HPC.out.1.nn (m+2) (fP m ws cu) HPC.out.2 (by omega);rw[←HT0.out, ←HTQ.out] at h9;exact h9 htq
        have HD2:=ae (∀k,k<m→(LC 2).getD k 0=0→k<(LC 4).length) (fun k hk h0=>by
         rw[LCe.out.2.2.1] at h0;rcases hhas k hk with h9|h9
         ·exact absurd h0 h9
         ·rw[HPC.out.1.od k hk] at h9;rw[LCe.out.2.2.2.2];rcases Nat.lt_or_ge k D.length with h8|h8
          ·exact h8
          ·exact absurd (by simp[getD,List.getElem?_eq_none h8]) h9)
        have HgM:=ae (∀k,k<m→gM LC k=G k) (fun k hk=>by unfold gM;rw[hns.1 k hk,LCe.out.2.2.1,LCe.out.2.2.2.2]);have HGb:=ae (∀j,j<m→0≤G j∧G j<4294967296) (fun j hj=>by
         rw[hns.1 j hj];split
         ·rw[←HPC.out.1.od j hj];have:=HPC.out.1.ob j (by omega);have:=HPC.out.1.nn;omega
         ·have:=HWT.out.pr j;have:=HPC.out.1.nn;omega)
        obtain⟨RL,hRL⟩:∃RL,RL=gr m nz G:=⟨_,rfl⟩;have HRl:=ae (RL.length=15) (by rw[hRL];simp[gr]);have HRo2:=ae (gH m nz (gM LC) (if(LC 2).getD m 0=0 then p else(LC 2).getD m 0)=aB RL) (by
         rw[hRL];refine DY m nz (gM LC) G _ HgM.out (fun h=>?_) hns.2.2.1;rw[hns.2.1 h,LCe.out.2.2.1])
        have HG:=aa (ag hG (ag hns.2.2.2 hRL));have HOd:=aa hod;obtain⟨xa,xc,hR0⟩:=bK (FC.out.row 0 (by omega));have l0:(LC 0).length=nz:=(by rw[LCe.out.1];exact HWT.out.wl);rw[l0] at hR0;have HR0:=aa hR0;have HV:=ae (∀w',af w' bF CC 77→w'.cell? ⟨bF,0,none⟩=some (.slice xa nz xc)∧w'.cell? ⟨bF,10,none⟩=some (.int .i64 (TT.1.cu:Int))) (fun w' hw=>⟨(hw.cell 0).trans (by rw[←hR0];exact FC.out.at_ 0 (by omega)),(hw.cell 10).trans FC.out.cur⟩);clear hG hGd hod hns hhas hRL hR0 l0;go_upto_region 21 with fail;clear y13;refine cr (fun w'=>af w' bF CC 77) (show af wC.drew bF CC 77 from FC.out.box) fun hH=>?_;refine ah 0 (.pointer (some ⟨bF,0,none⟩)) rfl hH ?_;refine ah 1 (.pointer (some ⟨bF,0,none⟩)) rfl hH ?_;refine ah 2 (.pointer (some ⟨bF,0,none⟩)) rfl hH ?_;refine ah 3 (.slice xa nz xc) rfl hH ?_ (aH fun w' hw'=>by have hc:=(HV.out w' hw').1;clear hw';go_simp);refine ah 4 (.pointer (some ⟨bF,0,none⟩)) rfl hH ?_;refine ah 5 (.pointer (some ⟨bF,0,none⟩)) rfl hH ?_;refine ah 6 (.pointer (some ⟨bF,10,none⟩)) rfl hH ?_;refine ah 7 (.int .i64 (TT.1.cu:Int)) rfl hH ?_ (aH fun w' hw'=>by have hc:=(HV.out w' hw').2;clear hw';go_simp);refine ah 8 (.agg #[.int .i64 0,.int .i64 0,.int .i64 0,.int .i64 0,.int .i64 0,.int .i64 0,.int .i64 0,.int .i64 0,.int .i64 0,.int .i64 0,.int .i64 0,.int .i64 0,.int .i64 0,.int .i64 0,.int .i64 0,.slice xa nz xc,.int .i64 (TT.1.cu:Int),.slice none 0 0]) rfl hH ?_;refine aG 9 rfl fun K hK=>?_;go_simp;refine hK.out _ _ (FC.out.box.alloc _) (fun hH=>?_);clear hK K;try simp only[Act.put,aq,au,av,ay,az,aA]
        obtain⟨wD,hwD⟩:∃wD,wD=(wC.alloc (.cells #[.int .i64 0,.int .i64 0,.int .i64 0,.int .i64 0,.int .i64 0,.int .i64 0,.int .i64 0,.int .i64 0,.int .i64 0,.int .i64 0,.int .i64 0,.int .i64 0,.int .i64 0,.int .i64 0,.int .i64 0,.slice none 0 0,.int .i64 0,.slice none 0 0] 34)).drew:=⟨_,rfl⟩;have kD:af wD wC.heap.size #[.int .i64 0,.int .i64 0,.int .i64 0,.int .i64 0,.int .i64 0,.int .i64 0,.int .i64 0,.int .i64 0,.int .i64 0,.int .i64 0,.int .i64 0,.int .i64 0,.int .i64 0,.int .i64 0,.int .i64 0,.slice none 0 0,.int .i64 0,.slice none 0 0] 34:=(by rw[hwD];exact af.new wC _ _);have bD:Below wC.heap.size wC wD:=(by rw[hwD];exact(ak.alloc aj _).drew);rw[←hwD];refine aG 10 rfl fun K hK=>?_;rw[if_pos (by rfl)];refine wp_store_row 34 _ _ rfl wC.heap.size #[.int .i64 0,.int .i64 0,.int .i64 0,.int .i64 0,.int .i64 0,.int .i64 0,.int .i64 0,.int .i64 0,.int .i64 0,.int .i64 0,.int .i64 0,.int .i64 0,.int .i64 0,.int .i64 0,.int .i64 0,.slice xa nz xc,.int .i64 (TT.1.cu:Int),.slice none 0 0] rfl rfl 34 #[.int .i64 0,.int .i64 0,.int .i64 0,.int .i64 0,.int .i64 0,.int .i64 0,.int .i64 0,.int .i64 0,.int .i64 0,.int .i64 0,.int .i64 0,.int .i64 0,.int .i64 0,.int .i64 0,.int .i64 0,.slice none 0 0,.int .i64 0,.slice none 0 0] kD fX rfl (by simp only[List.all_toArray,List.all_cons,all_nil];rfl) ?_;have hne:bF≠wC.heap.size:=fun e=>(by have:=FC.out.box.lt;omega);refine hK.out _ _ ((setRow_other wD wC.heap.size bF _ hne).trans (FC.out.below bD).box) (fun hH=>?_);clear hK K hne;try simp only[Act.put,aq,au,av,ay,az,aA]
        refine bz ?_;clear hH;obtain⟨wE,hwE⟩:∃wE,wE=wD.setRow wC.heap.size #[.int .i64 0,.int .i64 0,.int .i64 0,.int .i64 0,.int .i64 0,.int .i64 0,.int .i64 0,.int .i64 0,.int .i64 0,.int .i64 0,.int .i64 0,.int .i64 0,.int .i64 0,.int .i64 0,.int .i64 0,.slice xa nz xc,.int .i64 (TT.1.cu:Int),.slice none 0 0]:=⟨_,rfl⟩;rw[←hwE];have kE:af wE wC.heap.size #[.int .i64 0,.int .i64 0,.int .i64 0,.int .i64 0,.int .i64 0,.int .i64 0,.int .i64 0,.int .i64 0,.int .i64 0,.int .i64 0,.int .i64 0,.int .i64 0,.int .i64 0,.int .i64 0,.int .i64 0,.slice xa nz xc,.int .i64 (TT.1.cu:Int),.slice none 0 0] 34:=(by rw[hwE];exact kD.row _);have BE:=ae (Below wC.heap.size wC wE) (by rw[hwE];exact below_setRow bD aj _);have KE:=aa kE;have FE:=aa (FC.out.below BE.out);have HRt:=ae (Calls prog 37 #[.pointer (some ⟨bF,0,none⟩),.int .i64 (nz:Int),.int .i64 (m:Int)] wE fun e w'=>e=.returned (.agg (aB RL))∧Below wE.heap.size wE w') (by
         have h9:=DJ W1.heap.size bF m nz CC RC LC _ p _ wE FE.out (by rw[LCe.out.2.2.1];exact HWT.out.pn) HD2.out (by have:=HPC.out.1.mm;omega) hlen2;rw[HRo2.out] at h9;exact h9)
        clear hwD kD bD hwE kE;obtain⟨RA,hRA⟩:∃RA,RA=aB RL:=⟨_,rfl⟩;rw[←hRA] at HRt;have HRA:=aa hRA;have HRs:=ae (RA.size=15) (by rw[hRA,fc];exact HRl.out);have HInA:=ae ((prog.info? 28).map (·.size)=some RA.size) (by rw[HRs.out];exact dr);have HOA:=ae (RA.all (·.oneCell')=true) (by rw[hRA];exact yg _);clear hRA;go_upto_region 23 with(first
         |(
          go_at_call 37
          refine HRt.out.mono ?_;rintro e wF ⟨rfl,bF2⟩;have KF:=aa (KE.out.below bF2 KE.out.lt);have BF:=ae (Below wC.heap.size wC wF) (BE.out.trans (bF2.mono BE.out.size));clear bF2)
         |(refine wpList_store_mid rfl 28 _ _ rfl wC.heap.size 0 RA rfl rfl (KF.out.there 0 _ (by rw[HRs.out];show 0+15≤18;omega)) HInA.out HOA.out ?_)
         |fail)
        obtain⟨wH,hwH⟩:∃wH,wH=wF.setCells wC.heap.size 0 RA.toList:=⟨_,rfl⟩;have I0:=ae (kJ wC RL (.slice xa nz xc) (TT.1.cu:Int) [] (.slice none 0 0) [] wH) (by
         rw[hwH];refine⟨oU aj _ _ BF.out,?_,bL.nil _ _ _ _⟩;have h9:=af.wN RA.toList 0 (show af wF wC.heap.size ([.int .i64 0,.int .i64 0,.int .i64 0,.int .i64 0,.int .i64 0,.int .i64 0,.int .i64 0,.int .i64 0,.int .i64 0,.int .i64 0,.int .i64 0,.int .i64 0,.int .i64 0,.int .i64 0,.int .i64 0,.slice xa nz xc,.int .i64 (TT.1.cu:Int),.slice none 0 0]:List Value).toArray 34 from KF.out) (by rw[Array.length_toList,HRs.out];show 0+15≤18;omega);rw[Array.length_toList,HRs.out] at h9;unfold cJ;rw[show RA.toList=RL.map (Value.int .i64) by rw[HRA.out];unfold aB;simp] at h9;rw[show RA.toList=RL.map (Value.int .i64) by rw[HRA.out];unfold aB;simp];exact h9)
        rw[←hwH];clear hwH HRt KE BE FE KF BF;obtain⟨ga,gc,hR3⟩:=bK (FC.out.row 3 (by omega));obtain⟨no,hno⟩:∃no,no=TT.1.od.length:=⟨_,rfl⟩;have l3:(LC 3).length=no:=(by rw[LCe.out.2.2.2.1,length_map,hno]);rw[l3] at hR3;have hno2:no≤17:=(by rw[hno];have:=HWT.out.gh;omega);have y12:wH.cell? ⟨bF,12,none⟩=some (.slice ga no gc):=(FC.out.below I0.out.old).slot (j:=3) (by omega) hR3;have HNO:=aa (ag hno (ag hR3 l3));clear hno hR3 l3;go_upto_region 24 with fail;clear y12;go_wp2;go_loopw [151] (fun i wr=>∃(j:Nat) (pv:Value) (vs:List Value),j≤no∧i=.int .i64 (j:Int)∧Hid (kJ wC RL (.slice xa nz xc) (TT.1.cu:Int) ((TT.1.od.take j).map (bM m TT.1.ws G)) pv vs wr)) (fun i _=>no-(intOf i).toNat)
        case atStart=>exact⟨0,.slice none 0 0,[],Nat.zero_le _,rfl,aa (by simpa using I0.out)⟩
        case round=>
         obtain⟨j,pv,vs,hj,rfl,HI⟩:=hrel;obtain⟨wo,hwo⟩:∃wo,wo=wr:=⟨_,rfl⟩;subst hwo;have HLt:=ae ((((TT.1.od.take j).map (bM m TT.1.ws G)).map dz).length=j) (by rw[length_map,length_map,List.length_take, ←HNO.out.1];exact Nat.min_eq_left hj);obtain⟨pa,pc,hpv⟩:∃pa pc,pv=Value.slice pa j pc:=by
          obtain⟨x,y,e⟩:=dM HI.out.dN.row;rw[HLt.out] at e;exact⟨x,y,e⟩
         subst hpv;have hsO:wC.heap.size≤wo.heap.size:=HI.out.old.size;have hsO2:wC.heap.size+1≤wo.heap.size:=HI.out.res.lt;have FO:=aa (FC.out.below HI.out.old);by_cases hlt:j<no
         ·obtain⟨kk,hkk0⟩:∃kk,TT.1.od[j]?=some kk:=⟨_,List.getElem?_eq_getElem (by rw[←HNO.out.1];exact hlt)⟩;have hkmem:kk∈TT.1.od:=List.mem_of_getElem? hkk0;have hkk:kk<m+1:=HWT.out.mY kk hkmem;have HTk:=ae ((TT.1.od.take (j+1)).map (bM m TT.1.ws G)=(TT.1.od.take j).map (bM m TT.1.ws G)++[bM m TT.1.ws G kk]) (by rw[List.take_add_one,hkk0];simp);obtain⟨g3,c3,hr3,_,_,h3⟩:=FO.out.at (j:=3) (by omega) (by rw[HNO.out.2.2];omega);rw[HNO.out.2.2,HNO.out.2.1] at hr3;injection hr3 with r1 r2 r3;subst r1;have x3:wo.cell? ⟨g3,j,none⟩=some (.int .i64 (kk:Int)):=by
           have h9:=(h3 j (by rw[HNO.out.2.2];exact hlt)).1;rw[show(LC 3).getD j 0=(kk:Int) by rw[LCe.out.2.2.2.1];simp[getD,List.getElem?_map,hkk0]] at h9;exact h9
          have hltI:(j:Int)<(no:Int):=(by omega);obtain⟨w1,hw1⟩:∃w1,w1=wo.alloc (.cells #[] 5):=⟨_,rfl⟩;have b1:Below wo.heap.size wo w1:=(by rw[hw1];exact ak.alloc aj _);have OD1:=ae (w1.ownsRow wo.heap.size 5 1 (.slice (some ⟨wo.heap.size,0,none⟩) 0 0) 0 []) (by rw[hw1];exact gN wo 5 1);have Sz1:=ae (w1.heap.size=wo.heap.size+1) (by rw[hw1];simp);have Fw1:=aa (FO.out.below b1);have Bo1:=aa b1;have y0:w1.cell? ⟨bF,0,none⟩=some (.slice xa nz xc):=Fw1.out.slot (j:=0) (by omega) HR0.out;have HBk:=ae (Calls prog 38 #[.slice xa nz xc,.int .i64 (kk:Int)] w1 fun e w'=>∃v',e=.returned v'∧w'.ownsRow w1.heap.size 3 1 v' 128 ((cq TT.1.ws kk).map (Value.int .i64))∧Below w1.heap.size w1 w') (by
           have h9:=Rd.own (Fw1.out.row 0 (by omega));rw[HR0.out,LCe.out.1] at h9;exact rf _ TT.1.ws kk w1 h9 (by omega) (by rw[HWT.out.wl];exact hlen2))
          have HW1':=aa hw1;have HKm:=aa (ag hkmem hkk0);clear r2 r3 h3 b1 hw1 hkmem hkk0;go_upto_region 27 with fail;rw[←HW1'.out];clear x3;go_upto_region 28 with(go_at_call 38;refine HBk.out.mono ?_;rintro e w2' ⟨v2,rfl,o2,b2⟩;obtain⟨la,lc,rfl⟩:=bK o2;have O2:=aa o2;have B2':=aa b2;clear o2 b2)
          clear y0;go_upto_if 164 with fail;obtain⟨LD,hLD⟩:∃LD,LD=eA m TT.1.ws G kk:=⟨_,rfl⟩;have HLD:=aa hLD;clear hLD;go_cut [22] from 152 to 193 (fun v wx=>∃la lc,v=.slice la 128 lc∧wx.ownsRow w1.heap.size 3 1 (.slice la 128 lc) 128 (LD.map (Value.int .i64))∧Below w1.heap.size w1 wx)
          case first=>
           by_cases hkm:kk=m
           ·have hkb:((kk:Int)==(m:Int))=true:=(by simp[hkm]);have HDm:=ae (LD=jL m (gM LC) 128) (by rw[HLD.out];unfold eA;rw[if_neg (by omega)];exact(DW m (gM LC) G HgM.out).symm);have HSg:=ae (Calls prog 39 #[.pointer (some ⟨bF,0,none⟩),.int .i64 (m:Int)] w2' fun e w'=>∃v',e=.returned v'∧w'.ownsRow w2'.heap.size 3 1 v' 128 (LD.map (Value.int .i64))∧Below w2'.heap.size w2' w') (by
             rw[HDm.out];exact DH W1.heap.size bF m CC RC LC _ p _ w2' (Fw1.out.below B2'.out) (by rw[LCe.out.2.2.1];exact HWT.out.pn) HD2.out (by have:=HPC.out.1.mm;omega))
            clear hkm;go_wp2_with (go_at_call 39;refine HSg.out.mono ?_;rintro e w3' ⟨v3,rfl,o3,b3⟩;obtain⟨la3,lc3,rfl⟩:=bK o3;have O3:=aa o3;have B3':=aa b3;clear o3 b3);go_meet;exact⟨la3,lc3,rfl,bZ O3.out B2'.out.size,B2'.out.trans (B3'.out.mono B2'.out.size)⟩
           ·have hkb:((kk:Int)==(m:Int))=false:=(by simp;omega);have HDm:=ae (LD=cq TT.1.ws kk) (by rw[HLD.out];unfold eA;rw[if_pos (by omega)]);clear hkm;go_wp2_with fail;go_meet;exact⟨la,lc,rfl,by rw[HDm.out];exact O2.out,B2'.out⟩
          case rest=>
          obtain⟨la3,lc3,rfl,ol3,b3⟩:=hcut;rename World=>w3'
          obtain⟨lg,lcap,hlv,_,hlc⟩:=jo ol3 (by omega);injection hlv with e1 e2 e3;subst e1;have OL3:=aa ol3;have HLc:=aa hlc;have OD3:=aa (aY OD1.out b3);have B3:=ae (Below wo.heap.size wo w3') (Bo1.out.trans (b3.mono (by have:=Sz1.out;omega)));have hGood:eU LD=true:=(by rw[HLD.out];exact Ea HWT.out.wr HGb.out);have HGo:=aa hGood;have HLl:=ae (LD.length=128) (by rw[HLD.out];exact lM _ _ _ _);have hs3':w1.heap.size≤w3'.heap.size:=b3.size;obtain⟨iu,hiu,hu0,hu1,hu2⟩:=info_parts iR;clear e2 e3 ol3 hlc b3 hGood;go_wp2;go_loopw [21,170] (fun d i wr=>∃(t:Nat) (da:Option Addr) (dc:Nat),t≤128∧i=.int .i64 (t:Int)∧d=.slice da (4*t) dc∧Hid (wr.ownsRow wo.heap.size 5 1 (.slice da (4*t) dc) (4*t) ((bO (LD.take t)).map (Value.int .u8))∧wr.ownsRow w1.heap.size 3 1 (.slice (some ⟨lg,0,none⟩) 128 lc3) 128 (LD.map (Value.int .i64))∧Below wo.heap.size wo wr)) (fun _ i _=>128-(intOf i).toNat)
          case atStart=>exact⟨0,_,_,by omega,rfl,rfl,aa ⟨OD3.out,OL3.out,B3.out⟩⟩
          case round=>
           obtain⟨t,da,dc,ht,rfl,rfl,HT4⟩:=hrel;by_cases ht2:t<128
           ·obtain⟨yz,hyz⟩:∃yz,yz=LD.getD t 0:=⟨_,rfl⟩;have hyr:0≤yz∧yz≤4294967295:=by
             have h9:=HGo.out;unfold eU at h9;rw[Bool.and_eq_true,List.all_eq_true] at h9;have h8:=h9.2 yz (by
              rw[hyz];have h7:t<LD.length:=(by rw[HLl.out];exact ht2);simp[getD,h7])
             unfold okW at h8;simp at h8;exact h8
            obtain⟨yn,hyn⟩:∃yn:Nat,yz=(yn:Int):=⟨yz.toNat,by omega⟩;have cl:wr.cell? ⟨lg,t,none⟩=some (.int .i64 (yn:Int)):=by
             obtain⟨lg',_,he,_,h9⟩:=jo HT4.out.2.1 (by omega);injection he with he1;injection he1 with he1;injection he1 with he1 _;subst he1;rw[←hyn,hyz];exact h9 t ht2
            have HBt:=ae (bO (LD.take (t+1))=bO (LD.take t)++le 4 yn) (by rw[pY LD t (by rw[HLl.out];exact ht2), ←hyz,hyn,Int.toNat_natCast]);have htI:(t:Int)<128:=(by omega);have hyb:yn<281474976710656:=(by omega);have hsr4:wo.heap.size≤wr.heap.size:=HT4.out.2.2.size;clear hyz hyr hyn;go_wp2_with fail;refine(zb yn 4 _ (by omega) (by omega) (by omega)).mono ?_;rintro e wp ⟨gp,cp,rfl,op,bp⟩;have hop:=aY HT4.out.1 bp;have hol2:=aY HT4.out.2.1 bp;have hsp:=bp.size;have Hop:=aa hop;have Hol2:=aa hol2;have HBp:=ae (Below wo.heap.size wo wp) (HT4.out.2.2.trans (bp.mono hsr4));have HOp:=aa op;clear hop hol2 op bp cl;go_wp2_with (first
             |(
              at_builtin;refine wpList_append_own_at _ rfl (.tmp 174) (.tmp 176) 22 rfl wo.heap.size 5 iu (.int .u8 0) 1 1 underlying22 hiu hu0 hu1 hu2 rfl (by decide) (.slice da (4*t) dc) (4*t) _ rfl Hop.out ⟨gp,0,none⟩ 4 cp ((le 4 yn).map (Value.int .u8)) rfl (by simp[ld]) (HOp.out.cells rfl) (ints_oneCell _ _) (by unfold maxLen;omega) (by omega) (by omega) ?_
              intro v5 w5 o5 g5 _ _;obtain⟨d5,e5,rfl⟩:=bK o5;have H5:=ae (w5.ownsRow wo.heap.size 5 1 (.slice d5 (4*t+4) e5) (4*t+4) ((bO (LD.take (t+1))).map (Value.int .u8))∧w5.ownsRow w1.heap.size 3 1 (.slice (some ⟨lg,0,none⟩) 128 lc3) 128 (LD.map (Value.int .i64))∧Below wo.heap.size wo w5) (⟨by rw[HBt.out,map_append];exact o5,uy Hol2.out Hop.out (by decide) g5,HBp.out.grown g5 (by omega) (fun r hr=>(Hop.out.lt r hr).1)⟩);clear o5 g5)
             |fail)
            go_roundw
            case rel=>exact⟨t+1,d5,e5,by omega,by go_num,by rw[show 4*(t+1)=4*t+4 by omega],by rw[show 4*(t+1)=4*t+4 by omega];exact H5⟩
            case measure=>simp[intOf];omega
           ·have ht3:t=128:=(by omega);obtain⟨el,hel⟩:∃el,el=4*t:=⟨_,rfl⟩;rw[←hel] at HT4⊢;have HEl:=ae (el=(dK LD).length∧el=512) (by
             rw[hel,ht3];refine⟨?_,rfl⟩;unfold dK;rw[if_pos HGo.out,kf,HLl.out])
            have HDt:=ae (wr.ownsRow wo.heap.size 5 1 (.slice da el dc) el ((dK LD).map (Value.int .u8))) (by
             have h9:=HT4.out.1;rw[ht3,List.take_of_length_le (by rw[HLl.out];exact aj)] at h9;unfold dK;rw[if_pos HGo.out];exact h9)
            have htI:¬((t:Int)<128):=(by omega);have B4:=aa HT4.out.2.2;have I4:=aa (HI.out.below HT4.out.2.2);have hs4:wo.heap.size≤wr.heap.size:=HT4.out.2.2.size;clear hel ht3 HT4;go_upto_region 35 with fail;have F4:=aa (FC.out.below I4.out.old);obtain⟨g2,c2,R2,o2,_,h2⟩:=F4.out.at (j:=2) (by omega) (by rw[LCe.out.2.2.1,HWT.out.pn];omega);rw[LCe.out.2.2.1,HWT.out.pn] at R2;obtain⟨pk,hpk⟩:∃pk,pk=TT.1.pl.getD kk 0:=⟨_,rfl⟩;have HPk:=ae (G kk=pk) (by rw[hpk];exact HG.out.2.1 kk HKm.out.1);have x2:wr.cell? ⟨g2,kk,none⟩=some (.int .i64 pk):=by
             have h9:=(h2 kk (by rw[LCe.out.2.2.1,HWT.out.pn];exact hkk)).1;rw[LCe.out.2.2.1, ←hpk] at h9;exact h9
            have hg2:g2<wC.heap.size:=((FC.out.row 2 (by omega)).lt g2 o2).2;have hbC:bF<wC.heap.size:=FC.out.box.lt;obtain⟨MX,hMX⟩:∃MX,MX=cJ RL (.slice xa nz xc) (TT.1.cu:Int) (.slice pa j pc):=⟨_,rfl⟩;have HMX:=aa hMX;have HX:=ae (∀w':World,(af w' bF CC 77∧af w' wC.heap.size MX 34)∧w'.heap[g2]?=wr.heap[g2]?→w'.cell? ⟨wC.heap.size,17,none⟩=some (.slice pa j pc)∧w'.cell? ⟨bF,11,none⟩=some (.slice (some ⟨g2,0,none⟩) (m+1) c2)∧w'.cell? ⟨g2,kk,none⟩=some (.int .i64 pk)) (fun w' h=>⟨(h.1.2.cell 17).trans (by rw[hMX];exact D8 HRl.out _ _ _),(h.1.1.cell 11).trans (by rw[←R2];exact F4.out.at_ 2 (by omega)),(World.cell?_of_block (a:=⟨g2,kk,none⟩) h.2).trans x2⟩);have S4:=ae ((af wr.drew bF CC 77∧af wr.drew wC.heap.size MX 34)∧wr.drew.heap[g2]?=wr.heap[g2]?) (⟨⟨F4.out.box,by rw[hMX];exact I4.out.res⟩,rfl⟩);have hkI:(kk:Int)<(m:Int)+1:=(by omega);obtain⟨ip,hip,hp0,hp1,hp2⟩:=info_parts vt;clear hMX hpk x2 h2 R2 o2;refine wp_region_noPanic ?_;refine lu (fun w'=>(af w' bF CC 77∧af w' wC.heap.size MX 34)∧w'.heap[g2]?=wr.heap[g2]?) 14 (by kernel_rfl) ?_;have hH:(fun w':World=>(af w' bF CC 77∧af w' wC.heap.size MX 34)∧w'.heap[g2]?=wr.heap[g2]?) wr.drew:=S4.out;refine cD 0 (.pointer (some ⟨wC.heap.size,17,none⟩)) rfl hH ?_;refine cD 1 (.slice pa j pc) rfl hH ?_ (aH fun w' hw'=>by have hc:=(HX.out w' hw').1;clear hw';go_simp);refine cD 2 (.pointer (some ⟨bF,0,none⟩)) rfl hH ?_;refine cD 3 (.pointer (some ⟨bF,0,none⟩)) rfl hH ?_;refine cD 4 (.pointer (some ⟨bF,11,none⟩)) rfl hH ?_;refine cD 5 (.slice (some ⟨g2,0,none⟩) (m+1) c2) rfl hH ?_ (aH fun w' hw'=>by have hc:=(HX.out w' hw').2.1;clear hw';go_simp);refine cD 6 (.int .i64 (kk:Int)) rfl hH ?_;refine cD 7 (.pointer (some ⟨g2,kk,none⟩)) rfl hH ?_;refine cD 8 (.int .i64 pk) rfl hH ?_ (aH fun w' hw'=>by have hc:=(HX.out w' hw').2.2;clear hw';go_simp);refine cD 9 (.slice da el dc) rfl hH ?_;refine cD 10 (.agg #[.int .i64 pk,.slice da el dc]) rfl hH ?_;refine ez (i:=11) (by kernel_rfl) rfl (fun K hK=>?_);obtain⟨w6,hw6⟩:∃w6,w6=(wr.alloc (.cells #[.int .i64 pk,.slice da el dc] 44)).drew:=⟨_,rfl⟩;have B6:=ae (Below wr.heap.size wr w6) (by rw[hw6];exact(ak.alloc aj _).drew);have C6:=ae (∀i u,(#[.int .i64 pk,.slice da el dc]:Array Value).toList[i]?=some u→w6.cell? (Addr.add ⟨wr.heap.size,0,none⟩ i)=some u) (by rw[hw6];exact qO wr #[.int .i64 pk,.slice da el dc] 44);have I6:=aa (I4.out.below B6.out);have S6:=ae ((af w6 bF CC 77∧af w6 wC.heap.size MX 34)∧w6.heap[g2]?=wr.heap[g2]?) (⟨⟨(F4.out.below B6.out).box,by rw[HMX.out];exact I6.out.res⟩,B6.out.block g2 (by omega)⟩);have HW6:=aa hw6;clear hw6 hH;go_simp;rw[←HW6.out];refine hK.out _ _ (fun _ _=>S6.out) ?_;clear hK K;try simp only[Act.put,aq,au,av,ay,az,aA]
            have R6:=aa I6.out.dN.row;rw[HLt.out] at R6;have hs6:wr.heap.size≤w6.heap.size:=B6.out.size;refine ez (i:=12) (by kernel_rfl) rfl (fun K hK=>?_);rw[if_pos (by rfl)];refine wp_append_own _ (.tmp 180) (.tmp 190) 32 rfl (wC.heap.size+1) 44 ip (.agg #[.int .i64 0,.slice none 0 0]) 2 32 underlying32 hip hp0 hp1 hp2 rfl (by decide) (.slice pa j pc) j _ rfl R6.out ⟨wr.heap.size,0,none⟩ 1 1 [.int .i64 pk,.slice da el dc] rfl rfl C6.out (by intro y hy;simp at hy;rcases hy with rfl|rfl<;>rfl) (by unfold maxLen;omega) (by omega) (by omega) ?_;intro v8 w8 o8 g8 _;obtain⟨va8,vc8,hv8⟩:=dM o8;subst hv8;have hk8:∀k,k<wC.heap.size+1→w8.heap[k]?=w6.heap[k]?:=fun k hk=>g8.block k (by omega) (fun e=>by have:=(R6.out.lt k e.symm).1;omega);have P8:=ae (bL w8 (wC.heap.size+1) 44 1 (.slice va8 (j+1) vc8) (((TT.1.od.take (j+1)).map (bM m TT.1.ws G)).map dz) (vs++[.slice da el dc])) (by
             rw[HTk.out,map_append];show bL _ _ _ _ _ (_++[dz (bM m TT.1.ws G kk)]) _;refine I6.out.dN.push (by decide) (dz (bM m TT.1.ws G kk)) (.slice da el dc) rfl ?_ (fun i x r hx hr e=>?_) ?_ g8
             ·have h9:=bZ (aY HDt.out B6.out) (show wC.heap.size+1≤wo.heap.size from hsO2);have h8:(bM m TT.1.ws G kk).2=dK LD:=(by unfold bM;rw[HLD.out]);show World.ownsRow _ _ _ _ _ (bM m TT.1.ws G kk).2.length ((bM m TT.1.ws G kk).2.map _);rw[h8, ←HEl.out.1];exact h9
             ·have h9:=(HDt.out.lt r e).1;have h8:=(HI.out.dN.qN hx hr).2;omega
             ·rw[HLt.out];have h8:(dz (bM m TT.1.ws G kk)).1=[.int .i64 pk]:=(by unfold dz bM;rw[HPk.out]);rw[h8];exact o8)
            have S8:=ae ((af w8 bF CC 77∧af w8 wC.heap.size MX 34)∧w8.heap[g2]?=wr.heap[g2]?) (⟨⟨(hk8 bF (by omega)).trans S6.out.1.1,(hk8 _ (by omega)).trans S6.out.1.2⟩,(hk8 g2 (by omega)).trans S6.out.2⟩);have B8:=ae (Below wC.heap.size wC w8) (I6.out.old.grown g8 (by omega) (fun r hr=>by have:=(R6.out.lt r hr).1;omega));refine hK.out _ _ (fun _ _=>S8.out) ?_;clear hK K o8 g8 hk8;try simp only[Act.put,aq,au,av,ay,az,aA]
            refine ez (i:=13) (by kernel_rfl) rfl (fun K hK=>?_);go_simp;refine hK.out _ _ (fun _ _=>S8.out) ?_;clear hK K;try simp only[Act.put,aq,au,av,ay,az,aA]
            refine ez (i:=14) (by kernel_rfl) rfl (fun K hK=>?_);have c17:=(HX.out w8 S8.out).1;have f17:=S8.out.1.2.frozen 17;go_simp;refine hK.out _ _ (fun h=>absurd rfl h) ?_;clear hK K c17 f17;try simp only[Act.put,aq,au,av,ay,az,aA]
            refine kg (by kernel_rfl) (NoPanic.normal ?_) _;have I9:=ae (kJ wC RL (.slice xa nz xc) (TT.1.cu:Int) ((TT.1.od.take (j+1)).map (bM m TT.1.ws G)) (.slice va8 (j+1) vc8) (vs++[.slice da el dc]) (w8.setCell ⟨wC.heap.size,17,none⟩ (.slice va8 (j+1) vc8))) (by
             refine⟨B8.out.setCell (p:=⟨wC.heap.size,17,none⟩) aj _,?_,P8.out.oz (fun r hr=>Below.heap_setCell w8 ⟨wC.heap.size,17,none⟩ _ r (fun e=>by have e2:r=wC.heap.size:=e;omega))⟩;have h9:=S8.out.1.2.set 17 (.slice va8 (j+1) vc8);rw[HMX.out,D9 HRl.out] at h9;exact h9)
            generalize w8.setCell ⟨wC.heap.size,17,none⟩ (.slice va8 (j+1) vc8)=w9' at I9⊢;clear S8 P8 B8 R6 I6 S6 B6 C6 HW6 HX S4 F4;go_wp2;go_roundw
            case rel=>exact⟨j+1,_,_,by omega,by go_num,I9⟩
            case measure=>simp[intOf];omega
         ·obtain rfl:no=j:=(by omega);have hltI:¬((no:Int)<(no:Int)):=(by omega);have HP:=ae (kJ wC RL (.slice xa nz xc) (TT.1.cu:Int) (TT.1.od.map (bM m TT.1.ws G)) (.slice pa no pc) vs wo) (by
           have h9:=HI.out;rw[List.take_of_length_le (by rw[←HNO.out.1];exact aj)] at h9;exact h9)
          obtain⟨MO,hMO⟩:∃MO,MO=cJ RL (.slice xa nz xc) (TT.1.cu:Int) (.slice pa no pc):=⟨_,rfl⟩;have HMO:=aa hMO;have HSM:=ae (MO.size=18) (by rw[hMO];exact rJ HRl.out _ _ _);have HInM:=ae ((prog.info? 34).map (·.size)=some MO.size) (by rw[HSM.out];exact fX);have HOM:=ae (MO.all (·.oneCell')=true) (by
           rw[hMO];unfold cJ;refine all_oneCell_toArray (fun v hv=>?_);rcases List.mem_append.1 hv with hv|hv
           ·obtain⟨z,_,rfl⟩:=List.mem_map.1 hv;rfl
           ·simp at hv;rcases hv with rfl|rfl|rfl<;>rfl)
          have KM:=ae (af wo wC.heap.size MO 34) (by rw[hMO];exact HP.out.res);have ZO:=aa (ZC.out.below HP.out.old ZC.out.lt);have HSs:=aa hs1;clear hMO hs1;go_wp2_with (first
           |(refine wpList_load_row rfl 34 _ rfl wC.heap.size rfl 34 MO (0,0) _ KM.out underlying34 rfl HInM.out ?_)
           |(refine wpList_store_row rfl 34 _ _ rfl (w.heap.size+1) MO rfl rfl 34 ZM ZO.out HInM.out (by rw[HZM.out,HSM.out];rfl) HOM.out ?_)
           |fail)
          have hs1:=HSs.out;refine bodyPost_ret (v:=.tuple #[.agg MO,.int .i64 0]) ?_ rfl ⟨.inr ⟨HMC.out,.slice xa nz xc,.slice pa no pc,vs,?_,?_,?_⟩,below_setRow (B1.out.trans ((BBC.out.trans (HP.out.old.mono hsC)).mono B1.out.size)) (by omega) _⟩
          ·exact iq rfl _ _ (w.heap.size+1) 34 _ (0,0) _ _ rfl rfl (ZO.out.row _) underlying34 rfl HInM.out
          ·rw[←HTT.out, ←HG.out.1, ←HNN.out.2, ←HM.out, ←HG.out.2.2,HMO.out];rfl
          ·rw[←HTT.out];have h9:=(FC.out.below HP.out.old).row 0 (by omega);rw[HR0.out,LCe.out.1,HWT.out.wl,HNN.out.2] at h9;have h8:=bZ (oy h9 (fun r hr=>setRow_other wo (w.heap.size+1) r MO (by omega))) (show w.heap.size≤W1.heap.size by omega);rw[HNN.out.2];exact h8
          ·rw[←HTT.out, ←HG.out.1, ←HNN.out.2, ←HM.out];exact bL.mono (HP.out.dN.oz (fun r hr=>setRow_other wo (w.heap.size+1) r MO (by omega))) (by omega)
end
end Go.Proofs.YtlimollpocagiaaGreatDoor
