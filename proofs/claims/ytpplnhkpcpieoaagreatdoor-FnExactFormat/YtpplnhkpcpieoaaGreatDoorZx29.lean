/- The model's MapFlush. -/
import Derived.Test.YtpplnhkpcpieoaaGreatDoorZx28
namespace Go.Proofs.YtpplnhkpcpieoaaGreatDoor
open Go.Proofs.Tryz
open _root_.List (all_nil length_map getD map_append)
set_option linter.all false
set_option maxRecDepth 100000
set_option maxHeartbeats 16000000
section
open Go.RowKit Go.Shelf
def rG(v dv:Value):Nat→Value:=fun j=>if j=0 then v else if j=4 then dv else .slice none 0 0
def lG(ws D:List Int):Nat→List Int:=fun j=>if j=0 then ws else if j=4 then D else []
theorem IA(ws D Bt:List Int):aO (lG ws D) 1 (jh Bt 0)=lG ws D:=by
 funext j;unfold aO;split
 ·rename_i h9
  rw[h9];rfl
 ·rfl
theorem IB{W:World}{base bF:Nat}{v dv iv ov sv wv:Value}{ws D:List Int}{S X cu:Int}(PI:af W bF #[v,.slice none 0 0,dv,.int .i64 S,.int .i64 X,iv,ov,sv,wv,.bool true,.int .i64 cu,.slice none 0 0,.slice none 0 0,.bool false] 82)
 (hv:W.ownsRow base 3 1 v ws.length (ws.map (Value.int .i64))) (hd:W.ownsRow base 3 1 dv D.length (D.map (Value.int .i64))) (hap:v.ownBlock≠dv.ownBlock):
 Fm W base bF #[v,.slice none 0 0,dv,.int .i64 S,.int .i64 X,iv,ov,sv,wv,.bool true,.int .i64 cu,.slice none 0 0,.slice none 0 0,.bool false] (rG v dv) (lG ws D) cu S false:=by
 refine⟨PI,rfl,fun j hj=>?_,fun j hj=>?_,fun i j hi hj hne=>?_,rfl,rfl,rfl⟩
 ·rcases(show j=0∨j=1∨j=2∨j=3∨j=4 by omega) with rfl|rfl|rfl|rfl|rfl<;>rfl
 ·rcases(show j=0∨j=1∨j=2∨j=3∨j=4 by omega) with rfl|rfl|rfl|rfl|rfl
  ·exact hv
  ·exact World.ownsRow_nil _ _ _ _
  ·exact World.ownsRow_nil _ _ _ _
  ·exact World.ownsRow_nil _ _ _ _
  ·exact hd
 ·rcases(show i=0∨i=1∨i=2∨i=3∨i=4 by omega) with rfl|rfl|rfl|rfl|rfl
  ·rcases(show j=1∨j=2∨j=3∨j=4 by omega) with rfl|rfl|rfl|rfl
   ·cases h:v.ownBlock with
    |none=>exact .inl h
    |some k=>exact .inr (fun e=>by have e2:v.ownBlock=none:=e;rw[h] at e2;cases e2)
   ·cases h:v.ownBlock with
    |none=>exact .inl h
    |some k=>exact .inr (fun e=>by have e2:v.ownBlock=none:=e;rw[h] at e2;cases e2)
   ·cases h:v.ownBlock with
    |none=>exact .inl h
    |some k=>exact .inr (fun e=>by have e2:v.ownBlock=none:=e;rw[h] at e2;cases e2)
   ·exact .inr hap
  ·exact .inl rfl
  ·exact .inl rfl
  ·exact .inl rfl
  ·rcases(show j=0∨j=1∨j=2∨j=3 by omega) with rfl|rfl|rfl|rfl
   ·exact .inr (fun e=>hap e.symm)
   ·cases h:dv.ownBlock with
    |none=>exact .inl h
    |some k=>exact .inr (fun e=>by have e2:dv.ownBlock=none:=e;rw[h] at e2;cases e2)
   ·cases h:dv.ownBlock with
    |none=>exact .inl h
    |some k=>exact .inr (fun e=>by have e2:dv.ownBlock=none:=e;rw[h] at e2;cases e2)
   ·cases h:dv.ownBlock with
    |none=>exact .inl h
    |some k=>exact .inr (fun e=>by have e2:dv.ownBlock=none:=e;rw[h] at e2;cases e2)
theorem af.Aa{b:Nat}{t:TypeId}:∀(vs:List Value) {w:World} {L:List Value} (o:Nat),af w b L.toArray t→o+vs.length≤L.length→af (w.setCells b o vs) b (L.take o++vs++L.drop (o+vs.length)).toArray t
 |[],w,L,o,h,_=>by simpa [World.setCells] using h
 |v::vs,w,L,o,h,hl=>by
  have hlt:o<L.length:=by simp at hl;omega
  have h1:=h.set o v;have e1:L.toArray.setIfInBounds o v=(L.set o v).toArray:=by simp
  rw[e1] at h1;have h2:=af.Aa vs (o+1) h1 (by simp at hl⊢;omega);have e2:(L.set o v).take (o+1)++vs++(L.set o v).drop (o+1+vs.length)=L.take o++(v::vs)++L.drop (o+(v::vs).length):=by
   rw[List.take_succ_eq_append_getElem (by simpa using hlt),List.take_set_of_le aj,List.getElem_set_self,List.drop_set_of_lt (by omega)];simp[Nat.add_assoc,Nat.add_comm 1]
  rw[e2] at h2;exact h2
def jI(RL:List Int)(wv:Value)(cu:Int)(pv:Value):Array Value:=(RL.map (Value.int .i64)++[wv,.int .i64 cu,pv]).toArray
theorem ID{RL:List Int}(h:RL.length=15)(wv:Value)(cu:Int)(pv:Value):(jI RL wv cu pv).size=18:=by simp[jI,h]
theorem IE{RL:List Int}(h:RL.length=15)(wv:Value)(cu:Int)(pv:Value):(jI RL wv cu pv)[17]?=some pv:=by
 unfold jI;rw[List.getElem?_toArray,List.getElem?_append_right (by simp[h])];simp[h]
theorem IF{RL:List Int}(h:RL.length=15)(wv:Value)(cu:Int)(pv pv':Value):(jI RL wv cu pv).setIfInBounds 17 pv'=jI RL wv cu pv':=by
 unfold jI;rw[List.setIfInBounds_toArray,List.set_append_right _ _ (by simp[h])];simp[h]
structure ny(wC:World)(RL:List Int)(wv:Value)(cu:Int)(P:List (Int×List Int))(pv:Value)(vs:List Value)(W:World):Prop where
 old:Below wC.heap.size wC W
 res:af W wC.heap.size (jI RL wv cu pv) 47
 dK:aZ W (wC.heap.size+1) 55 1 pv (P.map bu) vs
theorem ny.below{wC W W':World}{RL:List Int}{wv:Value}{cu:Int}{P:List (Int×List Int)}{pv:Value}{vs:List Value}(h:ny wC RL wv cu P pv vs W)(hb:Below W.heap.size W W'):ny wC RL wv cu P pv vs W':=
 ⟨h.old.trans (hb.mono h.old.size),h.res.below hb h.res.lt,h.dK.below hb⟩
theorem Ab{m k:Nat}{ws:List Int}{g:Nat→Int}(hw:∀z∈ws,0≤z∧z<4294967296)(hg:∀j,j<m→0≤g j∧g j<4294967296):jA (fU m ws g k)=true:=by
 have key:∀z∈fU m ws g k,0≤z∧z<4294967296:=by
  intro z hz;unfold fU at hz;split at hz
  ·unfold ej at hz;obtain⟨j,_,rfl⟩:=List.mem_map.1 hz;exact qy hw _
  ·unfold nk at hz;obtain⟨j,_,rfl⟩:=List.mem_map.1 hz;by_cases h:12+j<m
   ·simp only[h,if_true];exact hg _ h
   ·simp only[h,if_false];omega
 unfold jA;rw[nr,decide_eq_true rfl,Bool.true_and,List.all_eq_true];intro z hz;have:=key z hz;unfold okW;simp;omega
theorem IG{w':World}{g:Nat}{C:Array Value}{t:TypeId}(h:af w' g C t):w'.rangeAt g 0 C.toList:=by
 intro j v hv;rw[h.cell (0+j),Nat.zero_add];simpa using hv
theorem II(iv wv:Value)(zs ws:List Int)(s:Int)(ds:List Int)(p q cu:Int)(w:World)(h:Rd .u8 w iv zs)(hz:zs.length≤1048576)(hbd:∀z∈zs,0≤z∧z<256)(hd:ds.length=12)(hw:Rd .i64 w wv ws)(hwn:ws.length≤1048576):
 Calls prog 14 #[iv,.agg (an (aD s ds p q)),wv,.int .i64 cu] w fun e w'=>uY w w' zs s ds p q ws cu e:=by
 obtain⟨i0,hi,hz0,hz1,hz2⟩:=info_parts fX;obtain⟨ia,ic,rfl⟩:=eY h;obtain⟨wa,wc',rfl⟩:=eY hw;obtain⟨RT,Ov⟩:∃RT,RT=an (aD s ds p q):=⟨_,rfl⟩;have Nt:=ae ((prog.info? 31).map (·.size)=some RT.size) (by rw[Ov,ct,dw s ds p q hd];exact dV);obtain⟨ZM,Qh⟩:∃ZM,ZM=iG:=⟨_,rfl⟩;have Ot:=aa Qh;have Pe:=ae ((prog.info? 47).map (·.size)=some ZM.size) (by rw[Qh];exact fV);have Uz:=ae (ZM.all (·.oneCell')=true) (by rw[Qh];unfold iG;simp only[List.all_toArray,List.all_cons,all_nil];rfl);obtain⟨W1,hW1⟩:∃W1,W1=(w.alloc (.cells RT 31)).alloc (.cells ZM 47):=⟨_,rfl⟩;have HW1:=aa hW1;have K1:=ae (af W1 w.heap.size RT 31) (by rw[hW1];exact(af.new _ _ _).alloc _);have Z1:=ae (af W1 (w.heap.size+1) ZM 47) (by rw[hW1];have h:=af.new (w.alloc (.cells RT 31)) ZM 47;rw[World.size_alloc] at h;exact h);have B1:=ae (Below w.heap.size w W1) (by rw[hW1];exact(ak.alloc aj _).alloc (by simp) _);have hs1:W1.heap.size=w.heap.size+2:=by rw[hW1];simp
 obtain⟨zn,hzn⟩:∃zn,zn=zs.length:=⟨_,rfl⟩;obtain⟨n,hn⟩:∃n,n=ws.length:=⟨_,rfl⟩;have jq:=aa (ai hzn hn);have HH:=aa (ai (h.below B1.out) (ai (hw.below B1.out) (ai hz (ai hbd (ai hd hwn)))));obtain⟨nz,hnz⟩:∃nz:Nat,nz=if dx zs.length=true then zs.length/512 else 0:=⟨_,rfl⟩;have XD:=aa hnz;have hnz2:nz≤2048:=by rw[hnz];split<;>omega
 have Qd:=ae (Calls prog 30 #[.slice ia zn ic] W1 fun e w'=>e=.returned (.int .i64 (nz:Int))∧W1=w') (by
  have h9:=tI (.slice ia zs.length ic) zs W1 HH.out.1 (by omega);rw[hzn,hnz];refine h9.mono fun e w' hh=>⟨by rw[hh.1];split<;>simp,hh.2⟩)
 have N9:=ae (Calls prog 31 #[.slice wa n wc'] W1 fun e w'=>e=.returned (.bool (eD ws))∧w'=W1) (by
  rw[hn];exact Dp _ ws W1 HH.out.2.1)
 have NW:=ae (Calls prog 32 #[.agg RT] W1 fun e w'=>e=.returned (.bool (cJ s ds p q))∧Below W1.heap.size W1 w') (by
  rw[Ov];exact nP s ds p q W1 hd)
 have k0:W1.cell? ⟨w.heap.size,0,none⟩=some (.int .i64 s):=(K1.out.cell 0).trans (by rw[Ov];rfl);have Qk:=ae (∀w',Below W1.heap.size W1 w'→w'.cell? ⟨w.heap.size,0,none⟩=some (.int .i64 s)) (fun w' hb=>(hb.cell (p:=⟨w.heap.size,0,none⟩) K1.out.lt).trans k0);obtain⟨ok,hok⟩:∃ok,ok=fN zs s ds p q ws cu:=⟨_,rfl⟩;have HOK:=aa hok;have NS:=ae (ok=((((dx zs.length&&cJ s ds p q)&&eD ws)&&decide (n=zs.length/512))&&(decide (s=0)||decide (s=4*(n:Int)))&&(decide (2≤cu)&&decide (cu<(n:Int))))) (by rw[hok,hn];unfold fN fG mJ ld l9;simp only[Bool.decide_and]);have hnb:n≤1048576:=by omega
 rw[←Ov, ←hzn, ←hn];have Zi:=aa Ov;clear h hw hd hbd Ov Qh hW1 hzn hn hz hwn hnz hok k0;go_enter func14,ntmps14;go_upto_region 1 with fail;rw[show(#[.int .i64 0,.int .i64 0,.int .i64 0,.int .i64 0,.int .i64 0,.int .i64 0,.int .i64 0,.int .i64 0,.int .i64 0,.int .i64 0,.int .i64 0,.int .i64 0,.int .i64 0,.int .i64 0,.int .i64 0,.slice none 0 0,.int .i64 0,.slice none 0 0]:Array Value)=ZM from Ot.out.symm, ←HW1.out];go_upto_region 2 with(go_at_call 30;refine Qd.out.mono ?_;rintro e wq ⟨rfl,hwq⟩;rw[←hwq];clear hwq wq)
 go_cut [65] from 27 to 65 (fun v wx=>v=.bool (!ok)∧Below W1.heap.size W1 wx)
 case first=>
  by_cases hsz:dx zs.length=true
  ·have ZA:((nz:Int)==0)=false:=(by rw[XD.out,if_pos hsz];unfold dx at hsz;simp at hsz⊢;omega);have ZB:=ae (nz=zs.length/512) (by rw[XD.out,if_pos hsz]);have Pt:=aa hsz;clear hsz;cases hrm:eD ws with
   |false=>
    have PS:=aa hrm;clear hrm;go_wp2_with (first
     |(go_at_call 31;refine N9.out.mono ?_;rintro e wq ⟨rfl,hwq⟩;rw[hwq,PS.out];clear hwq wq)
     |fail)
    go_meet;exact⟨by rw[show ok=false by rw[NS.out,PS.out];simp];first|rfl|(simp;omega),ak⟩
   |true=>
    have PS:=aa hrm;have VZ:=aa hrm;clear hrm;by_cases hln:n=nz
    ·have hlb:((n:Int) !=(nz:Int))=false:=(by simp[hln]);have Qj:=aa hln;have hnle:(n:Int)≤(nz:Int)∧(nz:Int)≤(n:Int):=(by omega);clear hln;cases hrr:cJ s ds p q with
     |false=>
      have HRR:=aa hrr;clear hrr;go_wp2_with (first
       |(go_at_call 31;refine N9.out.mono ?_;rintro e wq ⟨rfl,hwq⟩;rw[hwq,PS.out];clear hwq wq)
       |(refine lH ?hw 31 _ rfl w.heap.size rfl 31 RT (0,0) _ K1.out underlying31 rfl Nt.out ?_;case hw=>rfl)
       |(go_at_call 32;refine NW.out.mono ?_;rintro e w2 ⟨rfl,b2⟩;rw[HRR.out];have B2:=aa b2;have k2:=Qk.out _ b2;clear b2;go_wp2_with fail)
       |fail)
      go_meet;exact⟨by rw[show ok=false by rw[NS.out,HRR.out];simp];first|rfl|(simp;omega),B2.out⟩
     |true=>
      have HRR:=aa hrr;clear hrr;by_cases hs0:s=0
      ·have hsb:(s !=0)=false:=(by simp[hs0]);have NB:=aa hs0;clear hs0;by_cases hc2:cu<2
       ·go_wp2_with (first
         |(go_at_call 31;refine N9.out.mono ?_;rintro e wq ⟨rfl,hwq⟩;rw[hwq,PS.out];clear hwq wq)
         |(refine lH ?hw 31 _ rfl w.heap.size rfl 31 RT (0,0) _ K1.out underlying31 rfl Nt.out ?_;case hw=>rfl)
         |(go_at_call 32;refine NW.out.mono ?_;rintro e w2 ⟨rfl,b2⟩;rw[HRR.out];have B2:=aa b2;have k2:=Qk.out _ b2;clear b2;go_wp2_with fail)
         |fail)
        go_meet;exact⟨by rw[show ok=false by rw[NS.out,show decide (2≤cu)=false from decide_eq_false (by omega)];simp];first|rfl|(simp;omega),B2.out⟩
       ·by_cases hcn:cu<(n:Int)
        ·have TI:¬((nz:Int)≤cu):=(by omega);go_wp2_with (first
          |(go_at_call 31;refine N9.out.mono ?_;rintro e wq ⟨rfl,hwq⟩;rw[hwq,PS.out];clear hwq wq)
          |(refine lH ?hw 31 _ rfl w.heap.size rfl 31 RT (0,0) _ K1.out underlying31 rfl Nt.out ?_;case hw=>rfl)
          |(go_at_call 32;refine NW.out.mono ?_;rintro e w2 ⟨rfl,b2⟩;rw[HRR.out];have B2:=aa b2;have k2:=Qk.out _ b2;clear b2;go_wp2_with fail)
          |fail)
         go_meet;exact⟨by rw[show ok=true by rw[NS.out,show dx zs.length=true from Pt.out,HRR.out,VZ.out,show decide (n=zs.length/512)=true from decide_eq_true (Qj.out.trans ZB.out),show decide (s=0)=true from decide_eq_true NB.out,show decide (2≤cu)=true from decide_eq_true (by omega),show decide (cu<(n:Int))=true from decide_eq_true hcn];simp];first|rfl|(simp;omega),B2.out⟩
        ·have TI:(nz:Int)≤cu:=(by omega);go_wp2_with (first
          |(go_at_call 31;refine N9.out.mono ?_;rintro e wq ⟨rfl,hwq⟩;rw[hwq,PS.out];clear hwq wq)
          |(refine lH ?hw 31 _ rfl w.heap.size rfl 31 RT (0,0) _ K1.out underlying31 rfl Nt.out ?_;case hw=>rfl)
          |(go_at_call 32;refine NW.out.mono ?_;rintro e w2 ⟨rfl,b2⟩;rw[HRR.out];have B2:=aa b2;have k2:=Qk.out _ b2;clear b2;go_wp2_with fail)
          |fail)
         go_meet;exact⟨by rw[show ok=false by rw[NS.out,show decide (cu<(n:Int))=false from decide_eq_false (by omega)];simp];first|rfl|(simp;omega),B2.out⟩
      ·have hsb:(s !=0)=true:=(by simpa using hs0);have NB:=aa hs0;clear hs0;by_cases hs4:s=4*(nz:Int)
       ·have ZD:(s !=4*(nz:Int))=false:=(by simp[hs4]);have ZE:=aa hs4;clear hs4;by_cases hc2:cu<2
        ·go_wp2_with (first
          |(go_at_call 31;refine N9.out.mono ?_;rintro e wq ⟨rfl,hwq⟩;rw[hwq,PS.out];clear hwq wq)
          |(refine lH ?hw 31 _ rfl w.heap.size rfl 31 RT (0,0) _ K1.out underlying31 rfl Nt.out ?_;case hw=>rfl)
          |(go_at_call 32;refine NW.out.mono ?_;rintro e w2 ⟨rfl,b2⟩;rw[HRR.out];have B2:=aa b2;have k2:=Qk.out _ b2;clear b2;go_wp2_with fail)
          |fail)
         go_meet;exact⟨by rw[show ok=false by rw[NS.out,show decide (2≤cu)=false from decide_eq_false (by omega)];simp];first|rfl|(simp;omega),B2.out⟩
        ·by_cases hcn:cu<(n:Int)
         ·have TI:¬((nz:Int)≤cu):=(by omega);go_wp2_with (first
           |(go_at_call 31;refine N9.out.mono ?_;rintro e wq ⟨rfl,hwq⟩;rw[hwq,PS.out];clear hwq wq)
           |(refine lH ?hw 31 _ rfl w.heap.size rfl 31 RT (0,0) _ K1.out underlying31 rfl Nt.out ?_;case hw=>rfl)
           |(go_at_call 32;refine NW.out.mono ?_;rintro e w2 ⟨rfl,b2⟩;rw[HRR.out];have B2:=aa b2;have k2:=Qk.out _ b2;clear b2;go_wp2_with fail)
           |fail)
          go_meet;exact⟨by rw[show ok=true by rw[NS.out,show dx zs.length=true from Pt.out,HRR.out,VZ.out,show decide (n=zs.length/512)=true from decide_eq_true (Qj.out.trans ZB.out),show decide (s=4*(n:Int))=true from decide_eq_true (by rw[Qj.out];exact ZE.out),show decide (2≤cu)=true from decide_eq_true (by omega),show decide (cu<(n:Int))=true from decide_eq_true hcn];simp];first|rfl|(simp;omega),B2.out⟩
         ·have TI:(nz:Int)≤cu:=(by omega);go_wp2_with (first
           |(go_at_call 31;refine N9.out.mono ?_;rintro e wq ⟨rfl,hwq⟩;rw[hwq,PS.out];clear hwq wq)
           |(refine lH ?hw 31 _ rfl w.heap.size rfl 31 RT (0,0) _ K1.out underlying31 rfl Nt.out ?_;case hw=>rfl)
           |(go_at_call 32;refine NW.out.mono ?_;rintro e w2 ⟨rfl,b2⟩;rw[HRR.out];have B2:=aa b2;have k2:=Qk.out _ b2;clear b2;go_wp2_with fail)
           |fail)
          go_meet;exact⟨by rw[show ok=false by rw[NS.out,show decide (cu<(n:Int))=false from decide_eq_false (by omega)];simp];first|rfl|(simp;omega),B2.out⟩
       ·have ZD:(s !=4*(nz:Int))=true:=(by simpa using hs4);have ZE:=aa hs4;clear hs4;go_wp2_with (first
         |(go_at_call 31;refine N9.out.mono ?_;rintro e wq ⟨rfl,hwq⟩;rw[hwq,PS.out];clear hwq wq)
         |(refine lH ?hw 31 _ rfl w.heap.size rfl 31 RT (0,0) _ K1.out underlying31 rfl Nt.out ?_;case hw=>rfl)
         |(go_at_call 32;refine NW.out.mono ?_;rintro e w2 ⟨rfl,b2⟩;rw[HRR.out];have B2:=aa b2;have k2:=Qk.out _ b2;clear b2;go_wp2_with fail)
         |fail)
        go_meet;exact⟨by rw[show ok=false by rw[NS.out,show decide (s=0)=false from decide_eq_false NB.out,show decide (s=4*(n:Int))=false from decide_eq_false (by rw[Qj.out];exact ZE.out)];simp];first|rfl|(simp;omega),B2.out⟩
    ·have hlb:((n:Int) !=(nz:Int))=true:=(by simp;omega);have Qj:=aa hln;clear hln;go_wp2_with (first
      |(go_at_call 31;refine N9.out.mono ?_;rintro e wq ⟨rfl,hwq⟩;rw[hwq,PS.out];clear hwq wq)
      |fail)
     go_meet;exact⟨by rw[show ok=false by rw[NS.out,show decide (n=zs.length/512)=false from decide_eq_false (by rw[←ZB.out];exact Qj.out)];simp];first|rfl|(simp;omega),ak⟩
  ·have ZA:((nz:Int)==0)=true:=(by rw[XD.out,if_neg hsz];rfl);have Pt:=aa hsz;clear hsz;go_wp2_with (first
    |fail)
   go_meet;exact⟨by rw[show ok=false by rw[NS.out,show dx zs.length=false by have h9:=Pt.out;simpa using h9];simp];first|rfl|(simp;omega),ak⟩
 case rest=>
 obtain⟨rfl,hb2⟩:=hcut;rename World=>w2
 have B2:=aa hb2;have K2:=aa (K1.out.below hb2 K1.out.lt);have Z2:=aa (Z1.out.below hb2 Z1.out.lt);have hs2:=hb2.size;clear hb2;cases hok:ok with
 |false=>
  have TJ:=ae (gK zs s ds p q ws cu=7) (by unfold gK;rw[if_pos (by rw[←HOK.out];exact hok)]);clear hok;go_wp2_with (first
   |(refine wpList_store_row rfl 47 _ _ rfl (w.heap.size+1) (#[.int .i64 0,.int .i64 0,.int .i64 0,.int .i64 0,.int .i64 0,.int .i64 0,.int .i64 0,.int .i64 0,.int .i64 0,.int .i64 0,.int .i64 0,.int .i64 0,.int .i64 0,.int .i64 0,.int .i64 0,.slice none 0 0,.int .i64 0,.slice none 0 0]:Array Value) rfl rfl 47 ZM Z2.out fV (by rw[Ot.out];rfl) (by have:=Uz.out;rw[Ot.out] at this;exact this) ?_)
   |fail)
  refine bodyPost_ret (v:=.tuple #[.agg iG,.int .i64 7]) ?_ rfl ⟨.inl ?_,below_setRow (B1.out.trans (B2.out.mono B1.out.size)) (by omega) _⟩
  ·exact jv rfl _ _ (w.heap.size+1) 47 _ (0,0) _ _ rfl rfl (Z2.out.row _) underlying47 rfl fV
  ·rw[TJ.out];exact⟨by decide,rfl⟩
 |true=>
  have PU:=ae (fN zs s ds p q ws cu=true) (by rw[←HOK.out];exact hok);obtain⟨hsa,hsb,RX,hsn,NG⟩:=rW PU.out;have hrm:eD ws=true:=by have h9:=PU.out;unfold fN at h9;simp only[Bool.and_eq_true] at h9;exact h9.1.1.1.2
  have hokr:fG zs s ds p q=true:=by have h9:=PU.out;unfold fN at h9;simp only[Bool.and_eq_true] at h9;exact h9.1.1.1.1
  have hlen:=wL ws hrm;rw[←jq.out.2] at hsn NG hlen RX;have V0:dx zs.length=true:=by unfold fG at hokr;rw[Bool.and_eq_true] at hokr;exact hokr.1
  have ZF:nz=n:=by rw[XD.out,if_pos V0, ←RX]
  obtain⟨sz,hsz⟩:∃sz:Nat,sz=s.toNat:=⟨_,rfl⟩;obtain⟨cnt,hcnt⟩:∃cnt:Nat,cnt=(s.toNat+511)/512:=⟨_,rfl⟩;have hn0:2<n:=by omega
  have ZJ:s=(sz:Int):=by omega
  subst ZF;have NV:=ae (Calls prog 33 #[.slice ia zn ic,.agg RT] w2 fun e w'=>yu w2 cnt (zs.length/512) (aQ zs) (fun i=>ds.getD i 0) p q e w'∧Below w2.heap.size w2 w') (by
   have h9:=uj (.slice ia zs.length ic) zs s.toNat ds p q w2 cnt (HH.out.1.below B2.out) HH.out.2.2.1 HH.out.2.2.2.1 HH.out.2.2.2.2.1 (by omega) hcnt;rw[Int.toNat_of_nonneg hsa] at h9;rw[Zi.out,jq.out.1];exact h9)
  have HZr:=aa (um HH.out.2.2.2.2.1 hokr);have HF:=aa (ai hsa (ai hsb (ai RX (ai hsn (ai NG (ai hrm (ai hokr (ai hlen hcnt))))))));have Pq:nz≤2048:=hlen.2;clear hsa hsb RX hsn hrm hokr hlen hcnt hsz V0 ZJ hok;by_cases hap:(ZR zs s ds p q).2=true
  ·have TJ:=ae (gK zs s ds p q ws cu=21) (by unfold gK;rw[if_neg (by rw[PU.out];decide),if_pos hap]);have Oh:¬iK cnt (zs.length/512) (aQ zs) (fun i=>ds.getD i 0) p q:=by
    rcases HZr.out with⟨h1,h2⟩|⟨h1,h2⟩
    ·rw[h2] at hap;cases hap
    ·rw[HF.out.2.2.2.2.2.2.2.2];exact h1
   have HNA:=aa Oh;clear hap Oh;go_upto_region 5 with(first
    |(refine wpList_load_row rfl 31 _ rfl w.heap.size rfl 31 RT (0,0) _ K2.out underlying31 rfl Nt.out ?_)
    |(
     go_at_call 33
     refine NV.out.mono ?_;rintro e w3 ⟨hA,b3⟩;rcases hA with⟨h1,_⟩|⟨_,rfl⟩
     ·exact absurd h1 HNA.out
     have B3:=aa b3;have Z3:=aa (Z2.out.below b3 Z2.out.lt);clear b3)
    |fail)
   have Z4:=aa (Z3.out.alloc (.cells #[.slice none 0 0,.int .i64 0,.int .i64 0,.slice none 0 0,.slice none 0 0,.slice none 0 0,.slice none 0 0,.bool false] 77));have t7:=((af.new w3 #[.slice none 0 0,.int .i64 0,.int .i64 0,.slice none 0 0,.slice none 0 0,.slice none 0 0,.slice none 0 0,.bool false] 77).cell 7).trans (show _=some (Value.bool false) from rfl);have B4:=ae (Below w.heap.size w (w3.alloc (.cells #[.slice none 0 0,.int .i64 0,.int .i64 0,.slice none 0 0,.slice none 0 0,.slice none 0 0,.slice none 0 0,.bool false] 77))) ((B1.out.trans ((B2.out.trans (B3.out.mono hs2)).mono B1.out.size)).alloc (by have:=B3.out.size;omega) _);generalize w3.alloc (.cells #[.slice none 0 0,.int .i64 0,.int .i64 0,.slice none 0 0,.slice none 0 0,.slice none 0 0,.slice none 0 0,.bool false] 77)=w4 at Z4 t7 B4⊢;go_wp2_with (first
    |(refine wpList_store_row rfl 47 _ _ rfl (w.heap.size+1) (#[.int .i64 0,.int .i64 0,.int .i64 0,.int .i64 0,.int .i64 0,.int .i64 0,.int .i64 0,.int .i64 0,.int .i64 0,.int .i64 0,.int .i64 0,.int .i64 0,.int .i64 0,.int .i64 0,.int .i64 0,.slice none 0 0,.int .i64 0,.slice none 0 0]:Array Value) rfl rfl 47 ZM Z4.out fV (by rw[Ot.out];rfl) (by have:=Uz.out;rw[Ot.out] at this;exact this) ?_)
    |fail)
   refine bodyPost_ret (v:=.tuple #[.agg iG,.int .i64 21]) ?_ rfl ⟨.inl ?_,below_setRow (B4.out) (by omega) _⟩
   ·exact jv rfl _ _ (w.heap.size+1) 47 _ (0,0) _ _ rfl rfl (Z4.out.row _) underlying47 rfl fV
   ·rw[TJ.out];exact⟨by decide,rfl⟩
  ·have TK:(ZR zs s ds p q).2=false:=(by simpa using hap);have V1:=ae (iK cnt (zs.length/512) (aQ zs) (fun i=>ds.getD i 0) p q∧(ZR zs s ds p q).2=false) (by
    rcases HZr.out with⟨h1,h2⟩|⟨h1,h2⟩
    ·exact⟨by rw[HF.out.2.2.2.2.2.2.2.2];exact h1,TK⟩
    ·rw[TK] at h2;cases h2)
   clear hap TK;obtain⟨Bt,ZK⟩:∃Bt,Bt=mrB zs s ds p q:=⟨_,rfl⟩;obtain⟨cc,hcc⟩:∃cc,cc=mrC zs s ds p q:=⟨_,rfl⟩;obtain⟨D,hD⟩:∃D,D=ox zs s ds p q:=⟨_,rfl⟩;have Uv:=ae (∀W,Below w2.heap.size w2 W→Calls prog 34 #[.slice ia zn ic,.agg RT] W fun e w'=>∃v,e=.returned (.tuple #[v,.int .i64 cc])∧w'.ownsRow W.heap.size 5 1 v Bt.length (Bt.map (Value.int .u8))∧Below W.heap.size W w') (fun W hb=>by
    rw[Zi.out,jq.out.1,ZK,hcc];exact FB _ zs s ds p q W ((HH.out.1.below B2.out).below hb) HH.out.2.2.1 HH.out.2.2.2.1 HH.out.2.2.2.2.1)
   have XE:=ae (eS zs s ds p q nz=jh Bt nz∧Bt.length=s.toNat∧∀z∈Bt,0≤z∧z<256) (by rw[ZK];exact Iv HH.out.2.2.2.1 HH.out.2.2.2.2.1 HF.out.2.2.2.2.2.2.1 V1.out.2 nz HF.out.2.2.2.1);have SH:=ae (D.length=cnt) (by rw[hD,Ir,HF.out.2.2.2.2.2.2.2.2]);have HDe:=ae ((List.range cnt).map (cO (aQ zs) (fun i=>ds.getD i 0) p q)=D) (by rw[hD,HF.out.2.2.2.2.2.2.2.2];rfl);have VR:=aa hD;clear ZK hcc hD;go_upto_region 5 with(first
    |(refine wpList_load_row rfl 31 _ rfl w.heap.size rfl 31 RT (0,0) _ K2.out underlying31 rfl Nt.out ?_)
    |(
     go_at_call 33
     refine NV.out.mono ?_;rintro e w3 ⟨hA,b3⟩;rcases hA with⟨_,dv,PV,ov,sv,wv2,rfl,hone,od,_⟩|⟨h1,_⟩;rotate_left
     ·exact absurd V1.out.1 h1
     obtain⟨da,dc,rfl⟩:=cG od;have B3:=aa b3;have N3:=aa hone;have OD:=aa od;clear b3 hone od)
    |(refine wpList_store_row rfl 77 _ _ rfl w3.heap.size (#[.slice da cnt dc,.int .i64 p,.int .i64 q,PV,ov,sv,wv2,.bool true]:Array Value) rfl rfl 77 #[.slice none 0 0,.int .i64 0,.int .i64 0,.slice none 0 0,.slice none 0 0,.slice none 0 0,.slice none 0 0,.bool false] (af.new w3 _ _) gZ rfl N3.out ?_)
    |fail)
   obtain⟨w4,hw4⟩:∃w4,w4=(w3.alloc (.cells #[.slice none 0 0,.int .i64 0,.int .i64 0,.slice none 0 0,.slice none 0 0,.slice none 0 0,.slice none 0 0,.bool false] 77)).setRow w3.heap.size #[.slice da cnt dc,.int .i64 p,.int .i64 q,PV,ov,sv,wv2,.bool true]:=⟨_,rfl⟩;rw[←hw4];have RQ:Below w3.heap.size w3 w4:=(by rw[hw4];exact below_setRow (ak.alloc aj _) aj _);have KT:=ae (af w4 w3.heap.size #[.slice da cnt dc,.int .i64 p,.int .i64 q,PV,ov,sv,wv2,.bool true] 77) (by rw[hw4];exact(af.new w3 _ _).row _);have B4:=ae (Below w2.heap.size w2 w4) (B3.out.trans (RQ.mono B3.out.size));have OD4:=aa (bz OD.out RQ);have V2:=aa (Uv.out w4 B4.out);have K4:=aa (K2.out.below B4.out K2.out.lt);clear hw4 RQ Uv OD;have t7:=(KT.out.cell 7).trans (show _=some (Value.bool true) from rfl);have HC7:=ae (∀w',af w' w3.heap.size #[.slice da cnt dc,.int .i64 p,.int .i64 q,PV,ov,sv,wv2,.bool true] 77→w'.rangeAt w3.heap.size 0 [.slice da cnt dc,.int .i64 p,.int .i64 q,PV,ov,sv,wv2,.bool true]) (fun w' hb=>IG hb);go_upto_region 8 with(first
    |(refine wpList_load_row rfl 31 _ rfl w.heap.size rfl 31 RT (0,0) _ K4.out underlying31 rfl Nt.out ?_)
    |(
     go_at_call 34
     refine V2.out.mono ?_;rintro e w5 ⟨bv,rfl,ob,b5⟩;obtain⟨ba,bc,rfl⟩:=cG ob;have B5:=aa b5;have OB:=aa ob;clear ob b5)
    |fail)
   have RY:=aa (KT.out.below B5.out KT.out.lt);have ZL:=aa (bz OD4.out B5.out);have ZN:=ae (Below W1.heap.size W1 w5) (B2.out.trans ((B4.out.trans (B5.out.mono B4.out.size)).mono hs2));have hs3:W1.heap.size≤w5.heap.size:=ZN.out.size;clear t7 KT OD4 V2;obtain⟨bw,ow,cw,hwv,hbw,hcl,hcm,hcell⟩:=HH.out.2.1.dJ (by rw[←jq.out.2];omega);injection hwv with hw1 hw2 hw3;subst hw1;subst hw3;clear hw2;have HWC:=aa hcell;clear hcell;refine bg (fun w'=>af w' w3.heap.size #[.slice da cnt dc,.int .i64 p,.int .i64 q,PV,ov,sv,wv2,.bool true] 77) RY.out fun hH=>?_;refine ah 1 (.slice (some ⟨bw,ow,none⟩) nz wc') rfl hH ?_;refine ah 3 (.agg #[.slice da cnt dc,.int .i64 p,.int .i64 q,PV,ov,sv,wv2,.bool true]) rfl hH ?_ (yieldsIf_load_mid (by rfl) 77 _ rfl w3.heap.size 0 rfl [.slice da cnt dc,.int .i64 p,.int .i64 q,PV,ov,sv,wv2,.bool true] _ (fun w' h=>HC7.out w' h) underlying77 rfl gZ);refine ah 4 (.int .i64 cu) rfl hH ?_;refine aG 0 rfl fun K hK=>?_;go_simp;refine hK.out _ _ (RY.out.alloc _) (fun hH=>?_);clear hK K;try simp only[Act.put,av,ay,az,aA,aB,aC]
   obtain⟨w6,Qe⟩:∃w6,w6=(w5.alloc (.cells #[] 3)).drew:=⟨_,rfl⟩;have b6:Below w5.heap.size w5 w6:=(by rw[Qe];exact(ak.alloc aj _).drew);have o6:w6.ownsRow W1.heap.size 3 1 (.slice (some ⟨w5.heap.size,0,none⟩) 0 0) 0 []:=(by rw[Qe];exact cH (j5 w5 3 1) hs3);have k6:af w6 w3.heap.size #[.slice da cnt dc,.int .i64 p,.int .i64 q,PV,ov,sv,wv2,.bool true] 77:=RY.out.below b6 RY.out.lt;have s6:w6.heap.size=w5.heap.size+1:=(by rw[Qe];simp);have H6:=aa (ai b6 (ai o6 k6));rw[←Qe];refine aG 2 rfl fun K hK=>?_;rw[if_pos (by rfl)];refine jD (.tmp 80) (.tmp 81) 45 rfl W1.heap.size 3 i0 (.int .i64 0) 1 8 underlying45 hi hz0 hz1 hz2 rfl (by decide) (.slice (some ⟨w5.heap.size,0,none⟩) 0 0) 0 [] rfl H6.out.2.1 ⟨bw,ow,none⟩ nz wc' (ws.map (Value.int .i64)) rfl (by rw[length_map, ←jq.out.2,Nat.mul_one]) (fun j u hu=>by
    rw[List.getElem?_map] at hu;cases hj:ws[j]? with
    |none=>rw[hj] at hu;cases hu
    |some x=>
     rw[hj] at hu;obtain rfl:=Option.some.inj hu;have hjl:j<ws.length:=(List.getElem?_eq_some_iff.1 hj).1;have h9:=HWC.out j hjl;rw[show ws.getD j 0=x by simp[getD,hj]] at h9;rw[Addr.add_mid];exact((ZN.out.trans (H6.out.1.mono hs3)).cell (p:=⟨bw,ow+j,none⟩) hbw).trans h9) (by intro y hy;obtain⟨z,_,rfl⟩:=List.mem_map.1 hy;rfl) (by unfold maxLen;omega) (by omega) (by omega) ?_
   intro v7 w7 o7 g7 a7;obtain⟨va,vc,hva⟩:=cG o7;subst hva;rw[Nat.zero_add] at o7 a7⊢;have k7:af w7 w3.heap.size #[.slice da cnt dc,.int .i64 p,.int .i64 q,PV,ov,sv,wv2,.bool true] 77:=(g7.block _ k6.lt (fun e=>by have h9:some w3.heap.size=some w5.heap.size:=e;injection h9 with h9;have:=RY.out.lt;omega)).trans k6;have b7:Below w5.heap.size w5 w7:=H6.out.1.grown g7 (by omega) (fun r hr=>by have h9:some w5.heap.size=some r:=hr;injection h9 with h9;omega);have O7:=ae (w7.ownsRow W1.heap.size 3 1 (.slice va nz vc) nz (ws.map (Value.int .i64))) o7;have A7:=ae (∀r,(Value.slice va nz vc).ownBlock=some r→w5.heap.size≤r) (fun r hr=>by
    rcases a7 with e|e
    ·rw[e] at hr;have h9:some w5.heap.size=some r:=hr;injection h9 with h9;omega
    ·rw[e] at hr;injection hr with h9;omega)
   have H7:=aa (ai k7 b7);refine hK.out _ _ k7 (fun hH=>?_);clear hK K o7 g7 a7 k7 b7 b6 o6 k6;try simp only[Act.put,av,ay,az,aA,aB,aC]
   refine ah 5 (.agg #[.slice va nz vc,.slice none 0 0,.slice da cnt dc,.int .i64 p,.int .i64 q,PV,ov,sv,wv2,.bool true,.int .i64 cu,.slice none 0 0,.slice none 0 0,.bool false]) rfl hH ?_;refine aG 6 rfl fun K hK=>?_;go_simp;refine hK.out _ _ (H7.out.1.alloc _) (fun hH=>?_);clear hK K;try simp only[Act.put,av,ay,az,aA,aB,aC]
   refine ah 7 (.pointer (some ⟨w7.heap.size,0,none⟩)) rfl hH ?_;refine aV ?_;clear hH Qe s6 H6;obtain⟨bF,XF⟩:∃bF,bF=w7.heap.size:=⟨_,rfl⟩;obtain⟨w8,hw8⟩:∃w8,w8=w7.alloc (.cells #[.slice va nz vc,.slice none 0 0,.slice da cnt dc,.int .i64 p,.int .i64 q,PV,ov,sv,wv2,.bool true,.int .i64 cu,.slice none 0 0,.slice none 0 0,.bool false] 82):=⟨_,rfl⟩;rw[←hw8, ←XF];have V3:Below w7.heap.size w7 w8:=(by rw[hw8];exact ak.alloc aj _);have F8:=ae (Fm w8 W1.heap.size bF #[.slice va nz vc,.slice none 0 0,.slice da cnt dc,.int .i64 p,.int .i64 q,PV,ov,sv,wv2,.bool true,.int .i64 cu,.slice none 0 0,.slice none 0 0,.bool false] (rG (.slice va nz vc) (.slice da cnt dc)) (lG ws D) cu p false) (by
    refine IB (by rw[hw8,XF];exact af.new _ _ _) (by rw[←jq.out.2];exact bz O7.out V3) ?_ (fun e=>?_)
    ·have h9:=cH (bz (bz ZL.out H7.out.2) V3) hs2;rw[HDe.out] at h9;rw[SH.out];exact h9
    ·cases hv:(Value.slice va nz vc).ownBlock with
     |none=>
      rcases O7.out.2 with⟨e1,_⟩|⟨g,cap,cur,e1,_⟩
      ·injection e1 with _ e2 _;omega
      ·rw[e1] at hv;cases hv
     |some r=>
      have h1:=A7.out r hv;have h2:=(ZL.out.lt r (by rw[←e];exact hv)).2;omega)
   have ZP:=ae (Below W1.heap.size W1 w8) ((ZN.out.trans (H7.out.2.mono hs3)).trans (V3.mono (aK hs3 H7.out.2.size)));have ZQ:=aa (bz (bz OB.out H7.out.2) V3);have V5:W1.heap.size≤bF:=(by rw[XF];exact aK hs3 H7.out.2.size);clear hw8 XF V3 O7 A7 H7 ZL OB RY HC7 HWC;obtain⟨bl,hbl⟩:∃bl,bl=Bt.length:=⟨_,rfl⟩;rw[←hbl] at ZQ⊢;have V6:bl=0∨bl=4*nz:=by
    rw[hbl,XE.out.2.1];have h9:=HF.out.2.2.2.1;omega
   have vX:=aa hbl;have Pw:=aa V6;clear hbl V6;obtain⟨R8,V7⟩:∃R8,R8=rG (.slice va nz vc) (.slice da cnt dc):=⟨_,rfl⟩;rw[←V7] at F8;clear V7;have HI0:=ae (∃C R,Fm w8 W1.heap.size bF C R (aO (lG ws D) 1 (jh Bt 0)) cu p false∧dF w8 w8 bF R8 R∧w8.ownsRow w4.heap.size 5 1 (.slice ba bl bc) bl (Bt.map (Value.int .u8))) (⟨_,R8,by
    rw[IA];exact F8.out,dF.cV bF R8 ak,ZQ.out⟩)
   have hnzb:nz≤2048:=Pq;go_wp2;go_loopw [15,16] (fun i u wr=>∃k:Nat,k≤nz∧i=.int .i64 (k:Int)∧Hid (∃C R,Fm wr W1.heap.size bF C R (aO (lG ws D) 1 (jh Bt k)) cu p false∧dF w8 wr bF R8 R∧wr.ownsRow w4.heap.size 5 1 (.slice ba bl bc) bl (Bt.map (Value.int .u8)))) (fun i _ _=>nz-(intOf i).toNat)
   case atStart=>exact⟨0,Nat.zero_le _,rfl,HI0⟩
   case round=>
    obtain⟨k,hk,rfl,HI⟩:=hrel;obtain⟨C,R,hF,Pn,hOB⟩:=HI.out;have F1:=aa hF;have P1:=aa Pn;have V8:=aa hOB;have RV:w8.heap.size≤wr.heap.size:=Pn.size;have hsW:W1.heap.size≤wr.heap.size:=aK ZP.out.size RV;clear hF Pn hOB HI;by_cases hlt:k<nz
    ·have N4:(k:Int)<(nz:Int):=(by omega);obtain⟨y,hy⟩:∃y,y=if 4*k<Bt.length then jz Bt k else 0:=⟨_,rfl⟩;have HY:=aa hy;clear hy;go_upto_if 96 with fail;go_cut [16] from 87 to 114 (fun v wx=>v=.int .i64 y∧wx=wr)
     case first=>
      by_cases h4:4*k<bl
      ·have h4I:4*(k:Int)<(bl:Int):=(by omega);obtain⟨gB,oB,cB,hbv,_,hcB,hcm2,_⟩:=(Rd.own V8.out).dJ (by rw[←vX.out];omega);injection hbv with e1 e2 e3;subst e1;subst e3;clear e2;unfold maxLen at hcm2;rw[←vX.out] at hcB;have SU:bl=4*nz:=(by have:=Pw.out;omega);obtain⟨A,hA⟩:∃A:Nat,A=4*k:=⟨_,rfl⟩;have hA1:4*(k:Int)=(A:Int):=(by omega);obtain⟨B,hB⟩:∃B:Nat,B=A+4:=⟨_,rfl⟩;have hB1:(A:Int)+4=(B:Int):=(by omega);have hB3:(A:Int)≤(B:Int):=(by omega);have hB4:(B:Int)≤(bc:Int):=(by omega);have UO:B-A=4:=(by omega);have HG4:=ae (Rd .u8 wr (.slice (some ⟨gB,oB+A,none⟩) 4 (bc-A)) ((Bt.drop A).take 4)) (Rd.mS A 4 (Rd.own V8.out) (by omega) (by rw[←vX.out];omega));have HYv:=ae (((mo ((Bt.drop A).take 4):Nat):Int)=y) (by
        rw[HY.out,if_pos (by rw[←vX.out];exact h4),hA,tB _ (by have:=xD Bt k XE.out.2.2;omega)];rfl)
       have hAb:A≤8192:=(by omega);clear hA hB SU;go_wp2_with fail;refine(xC _ ((Bt.drop A).take 4) _ (by first|exact HG4.out|(rw[UO];exact HG4.out)) (by simp;omega) (fun z hz=>XE.out.2.2 z (List.mem_of_mem_drop (List.mem_of_mem_take hz)))).mono ?_;rintro e w1' ⟨rfl,rfl⟩;rw[HYv.out];go_wp2_with fail;go_meet;exact⟨rfl,rfl⟩
      ·have h4I:¬(4*(k:Int)<(bl:Int)):=(by omega);have hy0:y=0:=(by rw[HY.out,if_neg (by rw[←vX.out];exact h4)]);go_wp2_with fail;go_meet;exact⟨by rw[hy0],rfl⟩
     case rest=>
     obtain⟨rfl,hwc⟩:=hcut;rw[hwc];clear hwc;obtain⟨ra,rc,NF⟩:=cG (F1.out.row 1 (by omega));rw[bY,rX] at NF;have y1:wr.cell? ⟨bF,1,none⟩=some (.slice ra k rc):=F1.out.slot (j:=1) (by omega) NF;have HR1:=aa NF;have b2:Below wr.heap.size wr (wr.alloc (.cells #[.int .i64 y] 3)):=ak.alloc aj _;have F2:=aa (F1.out.below b2);have HO2:=ae ((wr.alloc (.cells #[.int .i64 y] 3)).ownsRow W1.heap.size 3 1 (.slice ra k rc) k ((jh Bt k).map (Value.int .i64))) (by
      have h9:=F2.out.row 1 (by omega);rw[bY,rX,HR1.out] at h9;exact h9)
     have P2:=aa (P1.out.trans (dF.cV bF R b2));have OB2:=aa (bz V8.out b2);clear NF b2;go_wp2_with (first
      |(
       at_builtin;refine wpList_append_own_at _ rfl (.tmp 109) (.tmp 111) 45 rfl W1.heap.size 3 i0 (.int .i64 0) 1 8 underlying45 hi hz0 hz1 hz2 rfl (by decide) (.slice ra k rc) k _ rfl HO2.out ⟨wr.heap.size,0,none⟩ 1 1 [.int .i64 y] rfl rfl (nX wr y) (by intro z hz;simp at hz;rcases hz with rfl;rfl) (by unfold maxLen;omega) (by omega) (by simp;omega) ?_
       intro v3 w3' o3 g3 _ n3;obtain⟨Sa,Sb,rfl⟩:=cG o3;obtain⟨f3,k3⟩:=F2.out.put (l:=1) (by omega) (L':=jh Bt (k+1)) (v':=.slice Sa (k+1) Sb) (by rw[rX,Iu, ←HY.out,map_append];exact o3) (by rw[HR1.out];exact g3) (by rw[HR1.out];exact n3.imp id (fun e=>⟨_,e,aj⟩));have F3:=aa f3;have P3:=aa (P2.out.trans k3);have OB3:=aa (k3.other F2.out OB2.out (by decide) (by decide));have hb3:af w3' bF C 82:=(g3.block bF F2.out.box.lt (fun e=>F2.out.jf (j:=1) (by omega) (by rw[HR1.out];exact e.symm))).trans F2.out.box;have y3:∃v,w3'.cell? ⟨bF,1,none⟩=some v:=⟨_,(hb3.cell 1).trans (F2.out.at_ 1 (by omega))⟩;obtain⟨v9,y3⟩:=y3;have f9:=hb3.frozen 1;clear o3 g3 n3 f3 k3 hb3)
      |fail)
     go_roundw
     case rel=>
      refine⟨k+1,by omega,by go_num,aa ⟨C.setIfInBounds (gF 1) (.slice Sa (k+1) Sb),_,?_,P3.out,OB3.out⟩⟩;have h9:=F3.out;rw[uE] at h9;exact h9
     case measure=>simp[intOf];omega
    ·obtain rfl:nz=k:=(by omega);have N4:¬((nz:Int)<(nz:Int)):=(by omega);obtain⟨m,hm⟩:∃m:Nat,m=(nz+127)/128:=⟨_,rfl⟩;have Vt:((nz:Int)+127)/128=(m:Int):=(by omega);have hmT:((nz:Int)+127).tdiv 128=(m:Int):=(by rw[Int.tdiv_eq_ediv_of_nonneg (by omega)];exact Vt);have Oi:m≤16:=(by omega);have HM:=aa hm;clear hm;go_upto_region 17 with fail;obtain⟨bf,hbf⟩:∃bf,bf=jh Bt nz:=⟨_,rfl⟩;obtain⟨ol,hol⟩:∃ol,ol=gm m (gr zs s ds p q):=⟨_,rfl⟩;obtain⟨TT,TM⟩:∃TT,TT=kj zs s ds p q ws cu:=⟨_,rfl⟩;have HT0:=ae (TT=fJ m bf ol (m+2) (gJ m ws cu)) (by rw[TM,hbf, ←XE.out.1,hol,HM.out,jq.out.2];rfl);have Ql:=aa TM;have V9:cF m nz (gJ m ws cu):=zW jq.out.2.symm (zZ HF.out.2.2.2.2.2.1) HF.out.2.2.2.2.1;have hpc:uM m nz bf ol D p:=by
      have h9:=It HH.out.2.2.2.2.1 HF.out.2.2.2.2.2.2.1 V1.out.2 m;refine⟨HM.out,Pq,by rw[hbf,rX],fun j hj=>by rw[hol,VR.out];exact h9.1 j hj,by rw[hol];exact h9.2,fun j hj=>by rw[hol];exact zY (by omega) HF.out.2.2.1 j hj,?_⟩;rw[SH.out,HF.out.2.2.2.2.2.2.2.2];have:=HF.out.1;have:=HF.out.2.1;omega
     have OQ:=aa (ai hpc V9);have HOL:=aa hol;have Ri:∃v,wr.cell? ⟨bF,11,none⟩=some v:=⟨_,(F1.out.box.cell 11).trans (F1.out.at_ 2 (by omega))⟩;obtain⟨v11,Ri⟩:=Ri;have HCu:=ae (cu=(cu.toNat:Int)) (by have:=HF.out.2.2.2.2.1;omega);have HOB:=V8;rw[←hbf] at F1;clear V9 hpc hbf hol TM Vt hmT;obtain⟨R2n,Wb⟩:∃x,x=R 2:=⟨_,rfl⟩;have HR2n:=aa Wb;clear Wb;go_wp2_with (first
      |(
       refine wpList_make_full _ rfl _ _ 45 rfl W1.heap.size 3 i0 (.int .i64 0) 1 underlying45 hi hz0 hz1 .i64 .i64 ((m:Int)+1) ((m:Int)+1) (m+1) rfl rfl (by omega) (by omega) (by rw[hz2];omega) (by unfold maxLen;omega) hsW ?_;intro w9 o9 g9;rw[iJ _ _ rfl] at o9;have b9:Below wr.heap.size wr w9:=ak.grown g9 aj (fun r e=>by cases e);obtain⟨f9,k9⟩:=F1.out.put (W':=w9) (l:=2) (by omega) (L':=List.replicate (m+1) 0) (v':=.slice (some ⟨wr.heap.size,0,none⟩) (m+1) (m+1)) (by rw[List.length_replicate,List.map_replicate];exact o9) ⟨g9.os,g9.tape,g9.output,g9.size,fun k hk _=>g9.block k hk (fun e=>by cases e)⟩ (.inr ⟨wr.heap.size,rfl,aj⟩);have F9:=aa f9;have P9:=aa (P1.out.trans k9);have Rx:af w9 bF C 82:=F1.out.box.below b9 F1.out.box.lt;have y9:∃v,w9.cell? ⟨bF,11,none⟩=some v:=⟨_,(Rx.cell 11).trans (F1.out.at_ 2 (by omega))⟩;obtain⟨v9,y9⟩:=y9;have z9:=Rx.frozen 11;clear o9 g9 b9 f9 k9 Rx)
      |fail)
     obtain⟨R9,Wc⟩:∃R9,R9=aO R 2 (.slice (some ⟨wr.heap.size,0,none⟩) (m+1) (m+1)):=⟨_,rfl⟩;rw[←Wc] at F9 P9;clear Wc;obtain⟨wA,XG⟩:∃wA,wA=w9.setCell ⟨bF,11,none⟩ (.slice (some ⟨wr.heap.size,0,none⟩) (m+1) (m+1)):=⟨_,rfl⟩;have FA:=ae (ig wA W1.heap.size bF bf D p (gJ m ws cu,true) R9) (by
      rw[XG];refine⟨C.setIfInBounds (gF 2) (.slice (some ⟨wr.heap.size,0,none⟩) (m+1) (m+1)),aO (aO (lG ws D) 1 bf) 2 (List.replicate (m+1) 0),?_,?_,?_,?_,?_,?_⟩
      ·have h9:=F9.out;show Fm _ _ _ _ _ _ (cu.toNat:Int) p false;rw[←HCu.out];exact h9
      ·rfl
      ·rfl
      ·rfl
      ·rfl
      ·rfl)
     have BBA:=ae (Below W1.heap.size W1 wA) (by rw[XG];exact ZP.out.trans (P9.out.below F8.out V5 ZP.out.size));have hsA:W1.heap.size≤wA.heap.size:=BBA.out.size;rw[←XG];clear XG F9 P9 y9 z9 Ri F1 P1 V8 HOB ZQ;go_wp2;go_loopw [] (fun wr=>Hid (∃s1 R1 f,ig wr W1.heap.size bF bf D p (s1,true) R1∧dF wA wr bF R9 R1∧cF m nz s1∧m+2≤f+s1.od.length∧fJ m bf ol f s1=TT)) (fun wr=>m+2-uN bF wr)
     case atStart=>exact aa ⟨gJ m ws cu,R9,m+2,FA.out,dF.cV bF R9 ak,OQ.out.2,by omega,HT0.out.symm⟩
     case round=>
      obtain⟨s1,R1,f,Us,Pn,hwf,hfu,hrun⟩:=hrel.out;have H1:=aa (ai Us (ai Pn (ai hwf (ai hfu hrun))));have OS:W1.heap.size≤wr.heap.size:=aK hsA Pn.size;obtain⟨ans,OZ⟩:∃ans,ans=((cW m bf ol s1).2&&decide ((cW m bf ol s1).1.od.length≠s1.od.length)):=⟨_,rfl⟩;have HP:=aa (GX W1.heap.size bF m nz bf ol D p R1 s1 wr Us hwf OQ.out.1 OS);rw[←OZ] at HP;have HA:=aa OZ;have HU:=ae (∃f',f=f'+1) (⟨f-1,by have:=hwf.jb;omega⟩);clear Us Pn hwf hfu hrun OZ hrel;cases han:ans with
      |true=>
       rw[han] at HP;have RP:=ae ((cW m bf ol s1).2=true∧(cW m bf ol s1).1.od.length≠s1.od.length) (by have h9:=HA.out;rw[han] at h9;have h8:=Bool.and_eq_true_iff.1 h9.symm;exact⟨h8.1,of_decide_eq_true h8.2⟩);go_wp2_with (go_at_call 36;refine HP.out.mono ?_;rintro e wC ⟨rfl,R2,hf2,hk2⟩;have H2:=aa (ai hf2 hk2);clear hf2 hk2);go_roundw
       case rel=>
        obtain⟨f',rfl⟩:=HU.out;have h5:=H1.out.2.2.1.pass OQ.out.1.nn bf ol;have h6:=H1.out.2.2.2.1;refine aa ⟨(cW m bf ol s1).1,R2,f',?_,H1.out.2.1.trans H2.out.2,h5.1,by have:=RP.out.2;omega,?_⟩
        ·rw[show((cW m bf ol s1).1,true)=cW m bf ol s1 from Prod.ext rfl RP.out.1.symm];exact H2.out.1
        ·have h9:=H1.out.2.2.2.2;rw[fJ,RP.out.1,decide_eq_true RP.out.2] at h9;exact h9
       case measure=>
        rw[zy H2.out.1,zy H1.out.1];have h5:=H1.out.2.2.1.pass OQ.out.1.nn bf ol;have h6:=h5.1.jb;have h7:=RP.out.2;show m+2-(cW m bf ol s1).1.od.length<m+2-s1.od.length;omega
      |false=>
       rw[han] at HP;have HTe:=ae (TT=cW m bf ol s1) (by
        obtain⟨f',rfl⟩:=HU.out;have h9:=H1.out.2.2.2.2;have h8:=HA.out;rw[han] at h8;rw[fJ, ←h8] at h9;exact h9.symm)
       have PW:=ae (cF m nz TT.1) (by rw[HTe.out];exact(H1.out.2.2.1.pass OQ.out.1.nn bf ol).1);rw[←HTe.out] at HP;obtain⟨tq,SK⟩:∃tq,tq=TT.2:=⟨_,rfl⟩;have XH:=aa SK;clear SK;go_upto_region 19 with(go_at_call 36;refine HP.out.mono ?_;rintro e wC ⟨rfl,RC,hf2,hk2⟩;have HC:=aa (ai hf2 (H1.out.2.1.trans hk2));clear hf2 hk2)
       have XI:=ae (Below W1.heap.size W1 wC) (BBA.out.trans (FA.out.GY HC.out.2 V5 hsA));have ZC:=aa (Z1.out.below XI.out Z1.out.lt);obtain⟨CC,LC,fC,c0,c1,c2,c3,c4⟩:=HC.out.1;have FC:=aa fC;have OR:=aa (ai c0 (ai c1 (ai c2 (ai c3 c4))));have y13:wC.cell? ⟨bF,13,none⟩=some (.bool (!tq)):=(by rw[XH.out];exact(fC.box.cell 13).trans fC.full);have hsC:W1.heap.size≤wC.heap.size:=XI.out.size;clear fC c0 c1 c2 c3 c4 H1 HP HA HU FA han;cases SK:tq with
       |false=>
        rw[SK] at y13;have TJ:=ae (gK zs s ds p q ws cu=9) (by unfold gK;rw[if_neg (by rw[PU.out];decide),if_neg (by rw[V1.out.2];decide),if_pos (by rw[←Ql.out, ←XH.out];exact SK)]);go_wp2_with (first
         |(refine wpList_store_row rfl 47 _ _ rfl (w.heap.size+1) (#[.int .i64 0,.int .i64 0,.int .i64 0,.int .i64 0,.int .i64 0,.int .i64 0,.int .i64 0,.int .i64 0,.int .i64 0,.int .i64 0,.int .i64 0,.int .i64 0,.int .i64 0,.int .i64 0,.int .i64 0,.slice none 0 0,.int .i64 0,.slice none 0 0]:Array Value) rfl rfl 47 ZM ZC.out fV (by rw[Ot.out];rfl) (by have:=Uz.out;rw[Ot.out] at this;exact this) ?_)
         |fail)
        refine bodyPost_ret (v:=.tuple #[.agg iG,.int .i64 9]) ?_ rfl ⟨.inl ?_,below_setRow (B1.out.trans (XI.out.mono B1.out.size)) (by omega) _⟩
        ·exact jv rfl _ _ (w.heap.size+1) 47 _ (0,0) _ _ rfl rfl (ZC.out.row _) underlying47 rfl fV
        ·rw[TJ.out];exact⟨by decide,rfl⟩
       |true=>
        rw[SK] at y13;have TJ:=ae (gK zs s ds p q ws cu=0) (by unfold gK;rw[if_neg (by rw[PU.out];decide),if_neg (by rw[V1.out.2];decide),if_neg (by rw[←Ql.out, ←XH.out,SK];decide)]);obtain⟨G,hG⟩:∃G,G=nw zs s ds p q ws cu:=⟨_,rfl⟩;have hGd:G=iF m ol TT.1.pl TT.1.od:=(by rw[hG,HOL.out,Ql.out,HM.out,jq.out.2];rfl);have hod:∀j∈TT.1.od,j∈cE m:=by
         rw[HT0.out];exact zx (m+2) (gJ m ws cu) (fun j hj=>by simp[gJ] at hj)
        have hns:=Iw (bf:=bf) PW.out OQ.out.1.od OQ.out.1.os hod;rw[←hGd] at hns;have hhas:∀j,j<m→TT.1.pl.getD j 0≠0∨ol.getD j 0≠0:=by
         have h9:=zu (bf:=bf) (ol:=ol) OQ.out.1.nn (m+2) (gJ m ws cu) OQ.out.2 (by omega);rw[←HT0.out, ←XH.out] at h9;exact h9 SK
        have HD2:=ae (∀k,k<m→(LC 2).getD k 0=0→k<(LC 4).length) (fun k hk h0=>by
         rw[OR.out.2.2.1] at h0;rcases hhas k hk with h9|h9
         ·exact absurd h0 h9
         ·rw[OQ.out.1.od k hk] at h9;rw[OR.out.2.2.2.2];rcases Nat.lt_or_ge k D.length with h8|h8
          ·exact h8
          ·exact absurd (by simp[getD,List.getElem?_eq_none h8]) h9)
        have HgM:=ae (∀k,k<m→gM LC k=G k) (fun k hk=>by unfold gM;rw[hns.1 k hk,OR.out.2.2.1,OR.out.2.2.2.2]);have QM:=ae (∀j,j<m→0≤G j∧G j<4294967296) (fun j hj=>by
         rw[hns.1 j hj];split
         ·rw[←OQ.out.1.od j hj];have:=OQ.out.1.ob j (by omega);have:=OQ.out.1.nn;omega
         ·have:=PW.out.pr j;have:=OQ.out.1.nn;omega)
        obtain⟨RL,Sc⟩:∃RL,RL=jg m nz G:=⟨_,rfl⟩;have XJ:=ae (RL.length=15) (by rw[Sc];simp[jg]);have ZS:=ae (iT m nz (gM LC) (if(LC 2).getD m 0=0 then p else(LC 2).getD m 0)=an RL) (by
         rw[Sc];refine Iz m nz (gM LC) G _ HgM.out (fun h=>?_) hns.2.2.1;rw[hns.2.1 h,OR.out.2.2.1])
        have HG:=aa (ai hG (ai hns.2.2.2 Sc));have HOd:=aa hod;obtain⟨xa,xc,hR0⟩:=cG (FC.out.row 0 (by omega));have l0:(LC 0).length=nz:=(by rw[OR.out.1];exact PW.out.wl);rw[l0] at hR0;have VM:=aa hR0;have HV:=ae (∀w',af w' bF CC 82→w'.cell? ⟨bF,0,none⟩=some (.slice xa nz xc)∧w'.cell? ⟨bF,10,none⟩=some (.int .i64 (TT.1.cu:Int))) (fun w' hw=>⟨(hw.cell 0).trans (by rw[←hR0];exact FC.out.at_ 0 (by omega)),(hw.cell 10).trans FC.out.cur⟩);clear hG hGd hod hns hhas Sc hR0 l0;go_upto_region 21 with fail;clear y13;refine bg (fun w'=>af w' bF CC 82) (show af wC.drew bF CC 82 from FC.out.box) fun hH=>?_;refine ah 0 (.pointer (some ⟨bF,0,none⟩)) rfl hH ?_;refine ah 1 (.pointer (some ⟨bF,0,none⟩)) rfl hH ?_;refine ah 2 (.pointer (some ⟨bF,0,none⟩)) rfl hH ?_;refine ah 3 (.slice xa nz xc) rfl hH ?_ (aH fun w' hw'=>by have hc:=(HV.out w' hw').1;clear hw';go_simp);refine ah 4 (.pointer (some ⟨bF,0,none⟩)) rfl hH ?_;refine ah 5 (.pointer (some ⟨bF,0,none⟩)) rfl hH ?_;refine ah 6 (.pointer (some ⟨bF,10,none⟩)) rfl hH ?_;refine ah 7 (.int .i64 (TT.1.cu:Int)) rfl hH ?_ (aH fun w' hw'=>by have hc:=(HV.out w' hw').2;clear hw';go_simp);refine ah 8 (.agg #[.int .i64 0,.int .i64 0,.int .i64 0,.int .i64 0,.int .i64 0,.int .i64 0,.int .i64 0,.int .i64 0,.int .i64 0,.int .i64 0,.int .i64 0,.int .i64 0,.int .i64 0,.int .i64 0,.int .i64 0,.slice xa nz xc,.int .i64 (TT.1.cu:Int),.slice none 0 0]) rfl hH ?_;refine aG 9 rfl fun K hK=>?_;go_simp;refine hK.out _ _ (FC.out.box.alloc _) (fun hH=>?_);clear hK K;try simp only[Act.put,av,ay,az,aA,aB,aC]
        obtain⟨wD,XK⟩:∃wD,wD=(wC.alloc (.cells #[.int .i64 0,.int .i64 0,.int .i64 0,.int .i64 0,.int .i64 0,.int .i64 0,.int .i64 0,.int .i64 0,.int .i64 0,.int .i64 0,.int .i64 0,.int .i64 0,.int .i64 0,.int .i64 0,.int .i64 0,.slice none 0 0,.int .i64 0,.slice none 0 0] 47)).drew:=⟨_,rfl⟩;have kD:af wD wC.heap.size #[.int .i64 0,.int .i64 0,.int .i64 0,.int .i64 0,.int .i64 0,.int .i64 0,.int .i64 0,.int .i64 0,.int .i64 0,.int .i64 0,.int .i64 0,.int .i64 0,.int .i64 0,.int .i64 0,.int .i64 0,.slice none 0 0,.int .i64 0,.slice none 0 0] 47:=(by rw[XK];exact af.new wC _ _);have bD:Below wC.heap.size wC wD:=(by rw[XK];exact(ak.alloc aj _).drew);rw[←XK];refine aG 10 rfl fun K hK=>?_;rw[if_pos (by rfl)];refine wp_store_row 47 _ _ rfl wC.heap.size #[.int .i64 0,.int .i64 0,.int .i64 0,.int .i64 0,.int .i64 0,.int .i64 0,.int .i64 0,.int .i64 0,.int .i64 0,.int .i64 0,.int .i64 0,.int .i64 0,.int .i64 0,.int .i64 0,.int .i64 0,.slice xa nz xc,.int .i64 (TT.1.cu:Int),.slice none 0 0] rfl rfl 47 #[.int .i64 0,.int .i64 0,.int .i64 0,.int .i64 0,.int .i64 0,.int .i64 0,.int .i64 0,.int .i64 0,.int .i64 0,.int .i64 0,.int .i64 0,.int .i64 0,.int .i64 0,.int .i64 0,.int .i64 0,.slice none 0 0,.int .i64 0,.slice none 0 0] kD fV rfl (by simp only[List.all_toArray,List.all_cons,all_nil];rfl) ?_;have hne:bF≠wC.heap.size:=fun e=>(by have:=FC.out.box.lt;omega);refine hK.out _ _ ((setRow_other wD wC.heap.size bF _ hne).trans (FC.out.below bD).box) (fun hH=>?_);clear hK K hne;try simp only[Act.put,av,ay,az,aA,aB,aC]
        refine aV ?_;clear hH;obtain⟨wE,XL⟩:∃wE,wE=wD.setRow wC.heap.size #[.int .i64 0,.int .i64 0,.int .i64 0,.int .i64 0,.int .i64 0,.int .i64 0,.int .i64 0,.int .i64 0,.int .i64 0,.int .i64 0,.int .i64 0,.int .i64 0,.int .i64 0,.int .i64 0,.int .i64 0,.slice xa nz xc,.int .i64 (TT.1.cu:Int),.slice none 0 0]:=⟨_,rfl⟩;rw[←XL];have kE:af wE wC.heap.size #[.int .i64 0,.int .i64 0,.int .i64 0,.int .i64 0,.int .i64 0,.int .i64 0,.int .i64 0,.int .i64 0,.int .i64 0,.int .i64 0,.int .i64 0,.int .i64 0,.int .i64 0,.int .i64 0,.int .i64 0,.slice xa nz xc,.int .i64 (TT.1.cu:Int),.slice none 0 0] 47:=(by rw[XL];exact kD.row _);have BE:=ae (Below wC.heap.size wC wE) (by rw[XL];exact below_setRow bD aj _);have KE:=aa kE;have FE:=aa (FC.out.below BE.out);have PM:=ae (Calls prog 37 #[.pointer (some ⟨bF,0,none⟩),.int .i64 (nz:Int),.int .i64 (m:Int)] wE fun e w'=>e=.returned (.agg (an RL))∧Below wE.heap.size wE w') (by
         have h9:=G5 W1.heap.size bF m nz CC RC LC _ p _ wE FE.out (by rw[OR.out.2.2.1];exact PW.out.pn) HD2.out (by have:=OQ.out.1.mm;omega) Pq;rw[ZS.out] at h9;exact h9)
        clear XK kD bD XL kE;obtain⟨RA,We⟩:∃RA,RA=an RL:=⟨_,rfl⟩;rw[←We] at PM;have Un:=aa We;have NQ:=ae (RA.size=15) (by rw[We,ct];exact XJ.out);have N7:=ae ((prog.info? 31).map (·.size)=some RA.size) (by rw[NQ.out];exact dV);have VI:=ae (RA.all (·.oneCell')=true) (by rw[We];exact mT _);clear We;go_upto_region 23 with(first
         |(
          go_at_call 37
          refine PM.out.mono ?_;rintro e wF ⟨rfl,ZT⟩;have KF:=aa (KE.out.below ZT KE.out.lt);have BF:=ae (Below wC.heap.size wC wF) (BE.out.trans (ZT.mono BE.out.size));clear ZT)
         |(refine wpList_store_mid rfl 31 _ _ rfl wC.heap.size 0 RA rfl rfl (KF.out.there 0 _ (by rw[NQ.out];show 0+15≤18;omega)) N7.out VI.out ?_)
         |fail)
        obtain⟨wH,ZU⟩:∃wH,wH=wF.setCells wC.heap.size 0 RA.toList:=⟨_,rfl⟩;have I0:=ae (ny wC RL (.slice xa nz xc) (TT.1.cu:Int) [] (.slice none 0 0) [] wH) (by
         rw[ZU];refine⟨sQ aj _ _ BF.out,?_,aZ.nil _ _ _ _⟩;have h9:=af.Aa RA.toList 0 (show af wF wC.heap.size ([.int .i64 0,.int .i64 0,.int .i64 0,.int .i64 0,.int .i64 0,.int .i64 0,.int .i64 0,.int .i64 0,.int .i64 0,.int .i64 0,.int .i64 0,.int .i64 0,.int .i64 0,.int .i64 0,.int .i64 0,.slice xa nz xc,.int .i64 (TT.1.cu:Int),.slice none 0 0]:List Value).toArray 47 from KF.out) (by rw[Array.length_toList,NQ.out];show 0+15≤18;omega);rw[Array.length_toList,NQ.out] at h9;unfold jI;rw[show RA.toList=RL.map (Value.int .i64) by rw[Un.out];unfold an;simp] at h9;rw[show RA.toList=RL.map (Value.int .i64) by rw[Un.out];unfold an;simp];exact h9)
        rw[←ZU];clear ZU PM KE BE FE KF BF;obtain⟨ga,gc,SG⟩:=cG (FC.out.row 3 (by omega));obtain⟨no,hno⟩:∃no,no=TT.1.od.length:=⟨_,rfl⟩;have l3:(LC 3).length=no:=(by rw[OR.out.2.2.2.1,length_map,hno]);rw[l3] at SG;have Tj:no≤17:=(by rw[hno];have:=PW.out.jb;omega);have Pk:wH.cell? ⟨bF,12,none⟩=some (.slice ga no gc):=(FC.out.below I0.out.old).slot (j:=3) (by omega) SG;have N5:=aa (ai hno (ai SG l3));clear hno SG l3;go_upto_region 24 with fail;clear Pk;go_wp2;go_loopw [151] (fun i wr=>∃(j:Nat) (pv:Value) (vs:List Value),j≤no∧i=.int .i64 (j:Int)∧Hid (ny wC RL (.slice xa nz xc) (TT.1.cu:Int) ((TT.1.od.take j).map (dG m TT.1.ws G)) pv vs wr)) (fun i _=>no-(intOf i).toNat)
        case atStart=>exact⟨0,.slice none 0 0,[],Nat.zero_le _,rfl,aa (by simpa using I0.out)⟩
        case round=>
         obtain⟨j,pv,vs,hj,rfl,HI⟩:=hrel;obtain⟨wo,hwo⟩:∃wo,wo=wr:=⟨_,rfl⟩;subst hwo;have RO:=ae ((((TT.1.od.take j).map (dG m TT.1.ws G)).map bu).length=j) (by rw[length_map,length_map,List.length_take, ←N5.out.1];exact Nat.min_eq_left hj);obtain⟨pa,pc,hpv⟩:∃pa pc,pv=Value.slice pa j pc:=by
          obtain⟨x,y,e⟩:=bO HI.out.dK.row;rw[RO.out] at e;exact⟨x,y,e⟩
         subst hpv;have hsO:wC.heap.size≤wo.heap.size:=HI.out.old.size;have ZV:wC.heap.size+1≤wo.heap.size:=HI.out.res.lt;have FO:=aa (FC.out.below HI.out.old);by_cases hlt:j<no
         ·obtain⟨kk,Ns⟩:∃kk,TT.1.od[j]?=some kk:=⟨_,List.getElem?_eq_getElem (by rw[←N5.out.1];exact hlt)⟩;have QN:kk∈TT.1.od:=List.mem_of_getElem? Ns;have hkk:kk<m+1:=PW.out.qv kk QN;have Ut:=ae ((TT.1.od.take (j+1)).map (dG m TT.1.ws G)=(TT.1.od.take j).map (dG m TT.1.ws G)++[dG m TT.1.ws G kk]) (by rw[List.take_add_one,Ns];simp);obtain⟨g3,c3,hr3,_,_,h3⟩:=FO.out.at (j:=3) (by omega) (by rw[N5.out.2.2];omega);rw[N5.out.2.2,N5.out.2.1] at hr3;injection hr3 with r1 r2 r3;subst r1;have x3:wo.cell? ⟨g3,j,none⟩=some (.int .i64 (kk:Int)):=by
           have h9:=(h3 j (by rw[N5.out.2.2];exact hlt)).1;rw[show(LC 3).getD j 0=(kk:Int) by rw[OR.out.2.2.2.1];simp[getD,List.getElem?_map,Ns]] at h9;exact h9
          have N4:(j:Int)<(no:Int):=(by omega);obtain⟨w1,hw1⟩:∃w1,w1=wo.alloc (.cells #[] 5):=⟨_,rfl⟩;have b1:Below wo.heap.size wo w1:=(by rw[hw1];exact ak.alloc aj _);have OD1:=ae (w1.ownsRow wo.heap.size 5 1 (.slice (some ⟨wo.heap.size,0,none⟩) 0 0) 0 []) (by rw[hw1];exact j5 wo 5 1);have Sz1:=ae (w1.heap.size=wo.heap.size+1) (by rw[hw1];simp);have ZW:=aa (FO.out.below b1);have Bo1:=aa b1;have y0:w1.cell? ⟨bF,0,none⟩=some (.slice xa nz xc):=ZW.out.slot (j:=0) (by omega) VM.out;have XM:=ae (Calls prog 38 #[.slice xa nz xc,.int .i64 (kk:Int)] w1 fun e w'=>∃v',e=.returned v'∧w'.ownsRow w1.heap.size 3 1 v' 128 ((ej TT.1.ws kk).map (Value.int .i64))∧Below w1.heap.size w1 w') (by
           have h9:=Rd.own (ZW.out.row 0 (by omega));rw[VM.out,OR.out.1] at h9;exact uu _ TT.1.ws kk w1 h9 (by omega) (by rw[PW.out.wl];exact Pq))
          have ZX:=aa hw1;have HKm:=aa (ai QN Ns);clear r2 r3 h3 b1 hw1 QN Ns;go_upto_region 27 with fail;rw[←ZX.out];clear x3;go_upto_region 28 with(go_at_call 38;refine XM.out.mono ?_;rintro e w2' ⟨v2,rfl,o2,b2⟩;obtain⟨la,lc,rfl⟩:=cG o2;have O2:=aa o2;have Wf:=aa b2;clear o2 b2)
          clear y0;go_upto_if 164 with fail;obtain⟨LD,hLD⟩:∃LD,LD=fU m TT.1.ws G kk:=⟨_,rfl⟩;have Wg:=aa hLD;clear hLD;go_cut [22] from 152 to 193 (fun v wx=>∃la lc,v=.slice la 128 lc∧wx.ownsRow w1.heap.size 3 1 (.slice la 128 lc) 128 (LD.map (Value.int .i64))∧Below w1.heap.size w1 wx)
          case first=>
           by_cases hkm:kk=m
           ·have hkb:((kk:Int)==(m:Int))=true:=(by simp[hkm]);have ZY:=ae (LD=lR m (gM LC) 128) (by rw[Wg.out];unfold fU;rw[if_neg (by omega)];exact(Iy m (gM LC) G HgM.out).symm);have HSg:=ae (Calls prog 39 #[.pointer (some ⟨bF,0,none⟩),.int .i64 (m:Int)] w2' fun e w'=>∃v',e=.returned v'∧w'.ownsRow w2'.heap.size 3 1 v' 128 (LD.map (Value.int .i64))∧Below w2'.heap.size w2' w') (by
             rw[ZY.out];exact GZ W1.heap.size bF m CC RC LC _ p _ w2' (ZW.out.below Wf.out) (by rw[OR.out.2.2.1];exact PW.out.pn) HD2.out (by have:=OQ.out.1.mm;omega))
            clear hkm;go_wp2_with (go_at_call 39;refine HSg.out.mono ?_;rintro e w3' ⟨v3,rfl,o3,b3⟩;obtain⟨la3,XN,rfl⟩:=cG o3;have O3:=aa o3;have B3':=aa b3;clear o3 b3);go_meet;exact⟨la3,XN,rfl,cH O3.out Wf.out.size,Wf.out.trans (B3'.out.mono Wf.out.size)⟩
           ·have hkb:((kk:Int)==(m:Int))=false:=(by simp;omega);have ZY:=ae (LD=ej TT.1.ws kk) (by rw[Wg.out];unfold fU;rw[if_pos (by omega)]);clear hkm;go_wp2_with fail;go_meet;exact⟨la,lc,rfl,by rw[ZY.out];exact O2.out,Wf.out⟩
          case rest=>
          obtain⟨la3,XN,rfl,ZZ,b3⟩:=hcut;rename World=>w3'
          obtain⟨lg,lcap,hlv,_,hlc⟩:=kU ZZ (by omega);injection hlv with e1 e2 e3;subst e1;have OL3:=aa ZZ;have Up:=aa hlc;have OD3:=aa (bz OD1.out b3);have B3:=ae (Below wo.heap.size wo w3') (Bo1.out.trans (b3.mono (by have:=Sz1.out;omega)));have SL:jA LD=true:=(by rw[Wg.out];exact Ab PW.out.wr QM.out);have Z8:=aa SL;have Uj:=ae (LD.length=128) (by rw[Wg.out];exact nr _ _ _ _);have hs3':w1.heap.size≤w3'.heap.size:=b3.size;obtain⟨iu,hiu,hu0,hu1,hu2⟩:=info_parts eO;clear e2 e3 ZZ hlc b3 SL;go_wp2;go_loopw [21,170] (fun d i wr=>∃(t:Nat) (da:Option Addr) (dc:Nat),t≤128∧i=.int .i64 (t:Int)∧d=.slice da (4*t) dc∧Hid (wr.ownsRow wo.heap.size 5 1 (.slice da (4*t) dc) (4*t) ((dA (LD.take t)).map (Value.int .u8))∧wr.ownsRow w1.heap.size 3 1 (.slice (some ⟨lg,0,none⟩) 128 XN) 128 (LD.map (Value.int .i64))∧Below wo.heap.size wo wr)) (fun _ i _=>128-(intOf i).toNat)
          case atStart=>exact⟨0,_,_,by omega,rfl,rfl,aa ⟨OD3.out,OL3.out,B3.out⟩⟩
          case round=>
           obtain⟨t,da,dc,ht,rfl,rfl,QO⟩:=hrel;by_cases ht2:t<128
           ·obtain⟨yz,hyz⟩:∃yz,yz=LD.getD t 0:=⟨_,rfl⟩;have hyr:0≤yz∧yz≤4294967295:=by
             have h9:=Z8.out;unfold jA at h9;rw[Bool.and_eq_true,List.all_eq_true] at h9;have h8:=h9.2 yz (by
              rw[hyz];have h7:t<LD.length:=(by rw[Uj.out];exact ht2);simp[getD,h7])
             unfold okW at h8;simp at h8;exact h8
            obtain⟨yn,hyn⟩:∃yn:Nat,yz=(yn:Int):=⟨yz.toNat,by omega⟩;have cl:wr.cell? ⟨lg,t,none⟩=some (.int .i64 (yn:Int)):=by
             obtain⟨lg',_,he,_,h9⟩:=kU QO.out.2.1 (by omega);injection he with he1;injection he1 with he1;injection he1 with he1 _;subst he1;rw[←hyn,hyz];exact h9 t ht2
            have Rn:=ae (dA (LD.take (t+1))=dA (LD.take t)++le 4 yn) (by rw[pG LD t (by rw[Uj.out];exact ht2), ←hyz,hyn,Int.toNat_natCast]);have htI:(t:Int)<128:=(by omega);have hyb:yn<281474976710656:=(by omega);have Z9:wo.heap.size≤wr.heap.size:=QO.out.2.2.size;clear hyz hyr hyn;go_wp2_with fail;refine(jl yn 4 _ (by omega) (by omega) (by omega)).mono ?_;rintro e wp ⟨gp,cp,rfl,op,bp⟩;have hop:=bz QO.out.1 bp;have Wh:=bz QO.out.2.1 bp;have hsp:=bp.size;have Hop:=aa hop;have Hol2:=aa Wh;have HBp:=ae (Below wo.heap.size wo wp) (QO.out.2.2.trans (bp.mono Z9));have Uw:=aa op;clear hop Wh op bp cl;go_wp2_with (first
             |(
              at_builtin;refine wpList_append_own_at _ rfl (.tmp 174) (.tmp 176) 22 rfl wo.heap.size 5 iu (.int .u8 0) 1 1 underlying22 hiu hu0 hu1 hu2 rfl (by decide) (.slice da (4*t) dc) (4*t) _ rfl Hop.out ⟨gp,0,none⟩ 4 cp ((le 4 yn).map (Value.int .u8)) rfl (by simp[fR]) (Uw.out.cells rfl) (ints_oneCell _ _) (by unfold maxLen;omega) (by omega) (by omega) ?_
              intro v5 w5 o5 g5 _ _;obtain⟨d5,e5,rfl⟩:=cG o5;have H5:=ae (w5.ownsRow wo.heap.size 5 1 (.slice d5 (4*t+4) e5) (4*t+4) ((dA (LD.take (t+1))).map (Value.int .u8))∧w5.ownsRow w1.heap.size 3 1 (.slice (some ⟨lg,0,none⟩) 128 XN) 128 (LD.map (Value.int .i64))∧Below wo.heap.size wo w5) (⟨by rw[Rn.out,map_append];exact o5,yB Hol2.out Hop.out (by decide) g5,HBp.out.grown g5 (by omega) (fun r hr=>(Hop.out.lt r hr).1)⟩);clear o5 g5)
             |fail)
            go_roundw
            case rel=>exact⟨t+1,d5,e5,by omega,by go_num,by rw[show 4*(t+1)=4*t+4 by omega],by rw[show 4*(t+1)=4*t+4 by omega];exact H5⟩
            case measure=>simp[intOf];omega
           ·have ht3:t=128:=(by omega);obtain⟨el,hel⟩:∃el,el=4*t:=⟨_,rfl⟩;rw[←hel] at QO⊢;have RU:=ae (el=(eE LD).length∧el=512) (by
             rw[hel,ht3];refine⟨?_,rfl⟩;unfold eE;rw[if_pos Z8.out,pF,Uj.out])
            have HDt:=ae (wr.ownsRow wo.heap.size 5 1 (.slice da el dc) el ((eE LD).map (Value.int .u8))) (by
             have h9:=QO.out.1;rw[ht3,List.take_of_length_le (by rw[Uj.out];exact aj)] at h9;unfold eE;rw[if_pos Z8.out];exact h9)
            have htI:¬((t:Int)<128):=(by omega);have B4:=aa QO.out.2.2;have I4:=aa (HI.out.below QO.out.2.2);have hs4:wo.heap.size≤wr.heap.size:=QO.out.2.2.size;clear hel ht3 QO;go_upto_region 35 with fail;have F4:=aa (FC.out.below I4.out.old);obtain⟨g2,c2,R2,o2,_,h2⟩:=F4.out.at (j:=2) (by omega) (by rw[OR.out.2.2.1,PW.out.pn];omega);rw[OR.out.2.2.1,PW.out.pn] at R2;obtain⟨pk,hpk⟩:∃pk,pk=TT.1.pl.getD kk 0:=⟨_,rfl⟩;have Qf:=ae (G kk=pk) (by rw[hpk];exact HG.out.2.1 kk HKm.out.1);have x2:wr.cell? ⟨g2,kk,none⟩=some (.int .i64 pk):=by
             have h9:=(h2 kk (by rw[OR.out.2.2.1,PW.out.pn];exact hkk)).1;rw[OR.out.2.2.1, ←hpk] at h9;exact h9
            have hg2:g2<wC.heap.size:=((FC.out.row 2 (by omega)).lt g2 o2).2;have hbC:bF<wC.heap.size:=FC.out.box.lt;obtain⟨MX,XO⟩:∃MX,MX=jI RL (.slice xa nz xc) (TT.1.cu:Int) (.slice pa j pc):=⟨_,rfl⟩;have HMX:=aa XO;have HX:=ae (∀w':World,(af w' bF CC 82∧af w' wC.heap.size MX 47)∧w'.heap[g2]?=wr.heap[g2]?→w'.cell? ⟨wC.heap.size,17,none⟩=some (.slice pa j pc)∧w'.cell? ⟨bF,11,none⟩=some (.slice (some ⟨g2,0,none⟩) (m+1) c2)∧w'.cell? ⟨g2,kk,none⟩=some (.int .i64 pk)) (fun w' h=>⟨(h.1.2.cell 17).trans (by rw[XO];exact IE XJ.out _ _ _),(h.1.1.cell 11).trans (by rw[←R2];exact F4.out.at_ 2 (by omega)),(World.cell?_of_block (a:=⟨g2,kk,none⟩) h.2).trans x2⟩);have S4:=ae ((af wr.drew bF CC 82∧af wr.drew wC.heap.size MX 47)∧wr.drew.heap[g2]?=wr.heap[g2]?) (⟨⟨F4.out.box,by rw[XO];exact I4.out.res⟩,rfl⟩);have Oc:(kk:Int)<(m:Int)+1:=(by omega);obtain⟨ip,TN,hp0,hp1,hp2⟩:=info_parts zQ;clear XO hpk x2 h2 R2 o2;refine wp_region_noPanic ?_;refine nR (fun w'=>(af w' bF CC 82∧af w' wC.heap.size MX 47)∧w'.heap[g2]?=wr.heap[g2]?) 14 (by kernel_rfl) ?_;have hH:(fun w':World=>(af w' bF CC 82∧af w' wC.heap.size MX 47)∧w'.heap[g2]?=wr.heap[g2]?) wr.drew:=S4.out;refine cQ 0 (.pointer (some ⟨wC.heap.size,17,none⟩)) rfl hH ?_;refine cQ 1 (.slice pa j pc) rfl hH ?_ (aH fun w' hw'=>by have hc:=(HX.out w' hw').1;clear hw';go_simp);refine cQ 2 (.pointer (some ⟨bF,0,none⟩)) rfl hH ?_;refine cQ 3 (.pointer (some ⟨bF,0,none⟩)) rfl hH ?_;refine cQ 4 (.pointer (some ⟨bF,11,none⟩)) rfl hH ?_;refine cQ 5 (.slice (some ⟨g2,0,none⟩) (m+1) c2) rfl hH ?_ (aH fun w' hw'=>by have hc:=(HX.out w' hw').2.1;clear hw';go_simp);refine cQ 6 (.int .i64 (kk:Int)) rfl hH ?_;refine cQ 7 (.pointer (some ⟨g2,kk,none⟩)) rfl hH ?_;refine cQ 8 (.int .i64 pk) rfl hH ?_ (aH fun w' hw'=>by have hc:=(HX.out w' hw').2.2;clear hw';go_simp);refine cQ 9 (.slice da el dc) rfl hH ?_;refine cQ 10 (.agg #[.int .i64 pk,.slice da el dc]) rfl hH ?_;refine dY (i:=11) (by kernel_rfl) rfl (fun K hK=>?_);obtain⟨w6,Qe⟩:∃w6,w6=(wr.alloc (.cells #[.int .i64 pk,.slice da el dc] 55)).drew:=⟨_,rfl⟩;have B6:=ae (Below wr.heap.size wr w6) (by rw[Qe];exact(ak.alloc aj _).drew);have C6:=ae (∀i u,(#[.int .i64 pk,.slice da el dc]:Array Value).toList[i]?=some u→w6.cell? (Addr.add ⟨wr.heap.size,0,none⟩ i)=some u) (by rw[Qe];exact nu wr #[.int .i64 pk,.slice da el dc] 55);have I6:=aa (I4.out.below B6.out);have S6:=ae ((af w6 bF CC 82∧af w6 wC.heap.size MX 47)∧w6.heap[g2]?=wr.heap[g2]?) (⟨⟨(F4.out.below B6.out).box,by rw[HMX.out];exact I6.out.res⟩,B6.out.block g2 (by omega)⟩);have HW6:=aa Qe;clear Qe hH;go_simp;rw[←HW6.out];refine hK.out _ _ (fun _ _=>S6.out) ?_;clear hK K;try simp only[Act.put,av,ay,az,aA,aB,aC]
            have R6:=aa I6.out.dK.row;rw[RO.out] at R6;have hs6:wr.heap.size≤w6.heap.size:=B6.out.size;refine dY (i:=12) (by kernel_rfl) rfl (fun K hK=>?_);rw[if_pos (by rfl)];refine wp_append_own _ (.tmp 180) (.tmp 190) 42 rfl (wC.heap.size+1) 55 ip (.agg #[.int .i64 0,.slice none 0 0]) 2 32 underlying42 TN hp0 hp1 hp2 rfl (by decide) (.slice pa j pc) j _ rfl R6.out ⟨wr.heap.size,0,none⟩ 1 1 [.int .i64 pk,.slice da el dc] rfl rfl C6.out (by intro y hy;simp at hy;rcases hy with rfl|rfl<;>rfl) (by unfold maxLen;omega) (by omega) (by omega) ?_;intro v8 w8 o8 g8 _;obtain⟨OC,OE,hv8⟩:=bO o8;subst hv8;have PX:∀k,k<wC.heap.size+1→w8.heap[k]?=w6.heap[k]?:=fun k hk=>g8.block k (by omega) (fun e=>by have:=(R6.out.lt k e.symm).1;omega);have P8:=ae (aZ w8 (wC.heap.size+1) 55 1 (.slice OC (j+1) OE) (((TT.1.od.take (j+1)).map (dG m TT.1.ws G)).map bu) (vs++[.slice da el dc])) (by
             rw[Ut.out,map_append];show aZ _ _ _ _ _ (_++[bu (dG m TT.1.ws G kk)]) _;refine I6.out.dK.push (by decide) (bu (dG m TT.1.ws G kk)) (.slice da el dc) rfl ?_ (fun i x r hx hr e=>?_) ?_ g8
             ·have h9:=cH (bz HDt.out B6.out) (show wC.heap.size+1≤wo.heap.size from ZV);have h8:(dG m TT.1.ws G kk).2=eE LD:=(by unfold dG;rw[Wg.out]);show World.ownsRow _ _ _ _ _ (dG m TT.1.ws G kk).2.length ((dG m TT.1.ws G kk).2.map _);rw[h8, ←RU.out.1];exact h9
             ·have h9:=(HDt.out.lt r e).1;have h8:=(HI.out.dK.uT hx hr).2;omega
             ·rw[RO.out];have h8:(bu (dG m TT.1.ws G kk)).1=[.int .i64 pk]:=(by unfold bu dG;rw[Qf.out]);rw[h8];exact o8)
            have S8:=ae ((af w8 bF CC 82∧af w8 wC.heap.size MX 47)∧w8.heap[g2]?=wr.heap[g2]?) (⟨⟨(PX bF (by omega)).trans S6.out.1.1,(PX _ (by omega)).trans S6.out.1.2⟩,(PX g2 (by omega)).trans S6.out.2⟩);have B8:=ae (Below wC.heap.size wC w8) (I6.out.old.grown g8 (by omega) (fun r hr=>by have:=(R6.out.lt r hr).1;omega));refine hK.out _ _ (fun _ _=>S8.out) ?_;clear hK K o8 g8 PX;try simp only[Act.put,av,ay,az,aA,aB,aC]
            refine dY (i:=13) (by kernel_rfl) rfl (fun K hK=>?_);go_simp;refine hK.out _ _ (fun _ _=>S8.out) ?_;clear hK K;try simp only[Act.put,av,ay,az,aA,aB,aC]
            refine dY (i:=14) (by kernel_rfl) rfl (fun K hK=>?_);have c17:=(HX.out w8 S8.out).1;have f17:=S8.out.1.2.frozen 17;go_simp;refine hK.out _ _ (fun h=>absurd rfl h) ?_;clear hK K c17 f17;try simp only[Act.put,av,ay,az,aA,aB,aC]
            refine m5 (by kernel_rfl) (NoPanic.normal ?_) _;have I9:=ae (ny wC RL (.slice xa nz xc) (TT.1.cu:Int) ((TT.1.od.take (j+1)).map (dG m TT.1.ws G)) (.slice OC (j+1) OE) (vs++[.slice da el dc]) (w8.setCell ⟨wC.heap.size,17,none⟩ (.slice OC (j+1) OE))) (by
             refine⟨B8.out.setCell (p:=⟨wC.heap.size,17,none⟩) aj _,?_,P8.out.pX (fun r hr=>Below.heap_setCell w8 ⟨wC.heap.size,17,none⟩ _ r (fun e=>by have e2:r=wC.heap.size:=e;omega))⟩;have h9:=S8.out.1.2.set 17 (.slice OC (j+1) OE);rw[HMX.out,IF XJ.out] at h9;exact h9)
            generalize w8.setCell ⟨wC.heap.size,17,none⟩ (.slice OC (j+1) OE)=w9' at I9⊢;clear S8 P8 B8 R6 I6 S6 B6 C6 HW6 HX S4 F4;go_wp2;go_roundw
            case rel=>exact⟨j+1,_,_,by omega,by go_num,I9⟩
            case measure=>simp[intOf];omega
         ·obtain rfl:no=j:=(by omega);have N4:¬((no:Int)<(no:Int)):=(by omega);have HP:=ae (ny wC RL (.slice xa nz xc) (TT.1.cu:Int) (TT.1.od.map (dG m TT.1.ws G)) (.slice pa no pc) vs wo) (by
           have h9:=HI.out;rw[List.take_of_length_le (by rw[←N5.out.1];exact aj)] at h9;exact h9)
          obtain⟨MO,Nw⟩:∃MO,MO=jI RL (.slice xa nz xc) (TT.1.cu:Int) (.slice pa no pc):=⟨_,rfl⟩;have Qi:=aa Nw;have TF:=ae (MO.size=18) (by rw[Nw];exact ID XJ.out _ _ _);have dh:=ae ((prog.info? 47).map (·.size)=some MO.size) (by rw[TF.out];exact fV);have VL:=ae (MO.all (·.oneCell')=true) (by
           rw[Nw];unfold jI;refine all_oneCell_toArray (fun v hv=>?_);rcases List.mem_append.1 hv with hv|hv
           ·obtain⟨z,_,rfl⟩:=List.mem_map.1 hv;rfl
           ·simp at hv;rcases hv with rfl|rfl|rfl<;>rfl)
          have KM:=ae (af wo wC.heap.size MO 47) (by rw[Nw];exact HP.out.res);have ZO:=aa (ZC.out.below HP.out.old ZC.out.lt);have HSs:=aa hs1;clear Nw hs1;go_wp2_with (first
           |(refine wpList_load_row rfl 47 _ rfl wC.heap.size rfl 47 MO (0,0) _ KM.out underlying47 rfl dh.out ?_)
           |(refine wpList_store_row rfl 47 _ _ rfl (w.heap.size+1) MO rfl rfl 47 ZM ZO.out dh.out (by rw[Ot.out,TF.out];rfl) VL.out ?_)
           |fail)
          have hs1:=HSs.out;refine bodyPost_ret (v:=.tuple #[.agg MO,.int .i64 0]) ?_ rfl ⟨.inr ⟨TJ.out,.slice xa nz xc,.slice pa no pc,vs,?_,?_,?_⟩,below_setRow (B1.out.trans ((XI.out.trans (HP.out.old.mono hsC)).mono B1.out.size)) (by omega) _⟩
          ·exact jv rfl _ _ (w.heap.size+1) 47 _ (0,0) _ _ rfl rfl (ZO.out.row _) underlying47 rfl dh.out
          ·rw[←Ql.out, ←HG.out.1, ←jq.out.2, ←HM.out, ←HG.out.2.2,Qi.out];rfl
          ·rw[←Ql.out];have h9:=(FC.out.below HP.out.old).row 0 (by omega);rw[VM.out,OR.out.1,PW.out.wl,jq.out.2] at h9;have h8:=cH (rT h9 (fun r hr=>setRow_other wo (w.heap.size+1) r MO (by omega))) (show w.heap.size≤W1.heap.size by omega);rw[jq.out.2];exact h8
          ·rw[←Ql.out, ←HG.out.1, ←jq.out.2, ←HM.out];exact aZ.mono (HP.out.dK.pX (fun r hr=>setRow_other wo (w.heap.size+1) r MO (by omega))) (by omega)
end
end Go.Proofs.YtpplnhkpcpieoaaGreatDoor
