/- Draws: an image with a tree in it (L03Made). -/
import Derived.Test.YtbhpealglhkodaaGreatDoorXc47
namespace Go.Proofs.YtbhpealglhkodaaGreatDoor
set_option linter.all false
set_option maxRecDepth 100000
set_option maxHeartbeats 16000000
section
open Go.RowKit
theorem results_trN{P:Program}{fn:Func}{t p:Tmp}{ty:TypeId}(h:fn.results=#[.tmp t,.cell p ty])(tmps:Array Value)(w:World)(g:Nat)(ti:TypeId)(cs:Array Value)(fr:Nat×Nat)(d:TypeDesc)(x:Value)
 (ht:tmps.getD t undef=x) (hp:tmps.getD p undef=.pointer (some ⟨g,0,none⟩)) (hg:w.heap[g]?=some (.cells cs ti fr))
 (hu:P.underlying ty=some d) (hd:(match d with|.struct _|.array _ _=>true|_=>false)=true) (hi:(P.info? ty).map (·.size)=some cs.size):
 (results fn tmps).run P w=.ok (.tuple #[x,.agg cs]) w:=by
 simp only[results,h];simp[Sem.run_bind,Result.andThen, ←Array.getD_eq_getD_getElem?,ht,hp,asAddr,run_loadVar_row w g ti ty cs fr d hg hu hd hi]
def RdD(W:World)(b:Nat)(v:Value)(zs:List Int):Prop:=∀wx,W.grownBy wx (some b)→Rd .u8 wx v zs
theorem RdD.of{W:World}{b base n:Nat}{v:Value}{zs:List Int}(h:W.ownsRow base 5 1 v n (zs.map (Value.int .u8)))(hb:b<base):RdD W b v zs:=fun wx hg=>
 Rd.own (h.kept hg (by
  rcases h.2 with⟨rfl,_⟩|⟨g,cap,cur,rfl,hlo,_⟩
  ·exact .inl rfl
  ·exact .inr (fun e=>by have e2:g=b:=Option.some.inj e;omega)))
theorem RdD.more{W W':World}{b:Nat}{v:Value}{zs:List Int}(h:RdD W b v zs)(hg:W.grownBy W' (some b)):RdD W' b v zs:=fun wx hx=>h wx (grownBy_trans hg hx)
def MadeT(n:Nat)(w0 W w':World)(b:Nat)(cv:Value)(cs:List Int)(v:Value)(RC:Array Value):Prop:=∃(a:Option Addr) (c:Nat) (zs co:List Int) (No:Nat→List Int),v=.slice a (n*512) c∧RC=rootY (gN No co.length)∧TreeAt zs co No∧zs.length=n*512∧Byt zs∧Rd .u8 w' (.slice a (n*512) c) zs∧Dn w0 W w' b cv cs∧(∀wx,w'.grownBy wx (some b)→Rd .u8 wx (.slice a (n*512) c) zs)
theorem made3_any{w0 W:World}{b:Nat}{cv:Value}{cs:List Int}(ia oa:Option Addr)(ic oc ol n:Nat)(zs co:List Int)(h:Sc w0 W b cv cs)(hn:64≤n∧n≤68)(hz:zs.length=n*512)(hzb:Byt zs)(hi:RdD W b (.slice ia (n*512) ic) zs)(hol:ol=co.length)(hc:co.length≤200000)(hcb:Byt co)(ho:RdD W b (.slice oa ol oc) co):
 Calls Tryz.prog 21 #[.pointer (some ⟨b,0,none⟩),.slice ia (n*512) ic,.slice oa ol oc] W fun e w'=>∃v RC,e=.returned (.tuple #[v,.agg RC])∧MadeT n w0 W w' b cv cs v RC:=by
 obtain⟨i0,hi0,hz0,hz1,hz2⟩:=info_parts infoIS;have HI0:=hide (And.intro hi0 (And.intro hz0 (And.intro hz1 hz2)));obtain⟨L,hL⟩:∃L,L=n*512:=⟨_,rfl⟩;have HLn:=hide hL;rw[←hL] at hi⊢;have hLI:(L:Int)/512=(n:Int):=by omega
 have HD:=hide (Dn.start h);have HH:=hide (And.intro hz (And.intro hzb (And.intro hi (And.intro hc (And.intro hcb (And.intro ho hol))))));clear h hz hzb hi hc hcb ho hL hol hi0 hz0 hz1 hz2;go_enter Tryz.func21,Tryz.ntmps21;go_upto_region 1 with fail;obtain⟨w1,hw1⟩:∃w1,w1=W.alloc (.cells rootZ 27):=⟨_,rfl⟩;have Z1:=hide (show Blk w1 W.heap.size rootZ 27 from by rw[hw1];exact Blk.new _ _ _);have H1:=hide (show Dn w0 W w1 b cv cs from by rw[hw1];exact HD.out.own ((Below.refl _ _).alloc (Nat.le_refl _) _));rw[←hw1];clear hw1 HD;have O1:=hide (show(w1.alloc (.cells #[] 3)).ownsRow W.heap.size 3 1 (.slice (some ⟨w1.heap.size,0,none⟩) 0 0) 0 ((fromL 0).map (Value.int .i64)) from own_mono (own_emptyM w1 3 1) H1.out.gb.size);have H1':=hide (show Dn w0 W (w1.alloc (.cells #[] 3)) b cv cs from H1.out.own ((Below.refl _ _).alloc H1.out.gb.size _));have Z1':=hide (show Blk (w1.alloc (.cells #[] 3)) W.heap.size rootZ 27 from Z1.out.alloc _);go_wp2;go_loopw [8,10] (fun v8 v10 wr=>∃(k kk:Nat) (a:Option Addr) (c:Nat),kk=2+k∧kk≤n∧v10=.int .i64 (kk:Int)∧v8=.slice a k c∧wr.ownsRow W.heap.size 3 1 (.slice a k c) k ((fromL k).map (Value.int .i64))∧Dn w0 W wr b cv cs∧Blk wr W.heap.size rootZ 27) (fun _ i _=>n-(intOf i).toNat)
 case atStart=>exact⟨0,2,_,_,rfl,by omega,rfl,rfl,O1.out,H1'.out,Z1'.out⟩
 case round=>
  clear O1 H1' Z1' H1 Z1;obtain⟨k,kk,a,c,hkk,hk,rfl,rfl,ho,hd,hz⟩:=hrel;have HKk:=hide hkk;clear hkk;have HO:=hide ho;have HDn:=hide hd;have HZ:=hide hz;clear ho hd hz;by_cases hkn:kk<n
  ·have hkI:(kk:Int)<(n:Int):=(by omega);have hkb:kk≤68:=(by omega);go_wp2_with (first
    |(
     at_builtin;refine wpList_append_own _ rfl (.tmp 26) (.tmp 28) 26 rfl W.heap.size 3 i0 (.int .i64 0) 1 8 Tryz.underlying26 HI0.out.1 HI0.out.2.1 HI0.out.2.2.1 HI0.out.2.2.2 rfl (by decide) _ k _ rfl (HO.out.alloc _) ⟨wr.heap.size,0,none⟩ 1 1 [.int .i64 (kk:Int)] rfl rfl (cells_newP wr #[.int .i64 (kk:Int)] 3) (by simp[Value.oneCell']) (by unfold maxLen;have:=HKk.out;omega) (by have:=HKk.out;omega) (by have:=HDn.out.gb.size;simp;omega) ?_
     intro v3 w3 o3 g3 _;obtain⟨a3,c3,rfl⟩:=own_shape o3;have O3:=hide (show w3.ownsRow W.heap.size 3 1 (.slice a3 (k+1) c3) (k+1) ((fromL (k+1)).map (Value.int .i64)) from by rw[fromL_succ,List.map_append, ←HKk.out];exact o3);have b3:Below W.heap.size (wr.alloc (.cells #[.int .i64 (kk:Int)] 3)) w3:=(Below.refl _ _).grown g3 (by have:=HDn.out.gb.size;simp;omega) (fun r e=>(HO.out.lt r e).1);have H3:=hide ((HDn.out.own ((Below.refl _ _).alloc HDn.out.gb.size _)).own b3);have Z3:=hide (show Blk w3 W.heap.size rootZ 27 from((KpY.refl _ _).ownrow (T:=fun t=>t=3) (HO.out.alloc _) rfl g3).blk (HZ.out.alloc _) (by decide));clear o3 g3 b3)
    |fail)
   go_roundw
   case rel=>exact⟨k+1,kk+1,a3,c3,by have:=HKk.out;omega,by omega,by go_num,rfl,O3.out,H3.out,Z3.out⟩
   case measure=>simp[intOf];omega
  ·have hkI:¬(kk:Int)<(n:Int):=(by omega);have hkn2:k+2=n:=(by have:=HKk.out;omega);rename World=>wA
   have HL0:=hide (show NumsOk n (fromL k)∧(fromL k).length=k from⟨fromL_ok (by omega),fromL_len k⟩);go_wp2;go_loopw [32] (fun i wr=>∃(j:Nat) (L1:List Int),j≤k∧i=.int .i64 (j:Int)∧NumsOk n L1∧L1.length=k∧wr.ownsRow W.heap.size 3 1 (.slice a k c) k (L1.map (Value.int .i64))∧Dn w0 W wr b cv cs∧Blk wr W.heap.size rootZ 27) (fun i _=>k-(intOf i).toNat)
   case atStart=>exact⟨0,fromL k,by omega,rfl,HL0.out.1,HL0.out.2,HO.out,HDn.out,HZ.out⟩
   case round=>
    clear HO HDn HZ HL0;obtain⟨j,L1,hj,rfl,hL1,hLl,ho,hd,hz⟩:=hrel;have HO:=hide ho;have HDn:=hide hd;have HZ:=hide hz;have HL1:=hide (And.intro hL1 hLl);clear ho hd hz hL1 hLl;by_cases hjk:j<k
    ·have hjI:(j:Int)<(k:Int):=(by omega);go_wp2_with fail;refine(HDn.out.sc.N k (by omega) (by omega)).mono ?_;rintro e w5 ⟨z,rfl,hy0,hy1,s5,d5⟩;obtain⟨i,hi⟩:∃i:Nat,z=(i:Int):=⟨z.toNat,by omega⟩;subst hi;have H5:=hide (HDn.out.draw s5 d5);have O5:=hide (HDn.out.row HO.out d5 (Nat.le_refl _));have Z5:=hide (HDn.out.blk HZ.out d5 (Nat.le_refl _));have hik:i<k:=(by omega);clear s5 d5 HO HDn HZ;have HSw:=hide (show NumsOk n (swL L1 j i)∧(swL L1 j i).length=k from⟨HL1.out.1.swap (by rw[HL1.out.2];exact hjk) (by rw[HL1.out.2];exact hik),by rw[swL_len];exact HL1.out.2⟩);have HRd:=hide (Rd.own O5.out);rcases O5.out.2 with⟨e,e0⟩|⟨gd,cap,cur,e,hgd,q1,q2,q3,q4,q5⟩
     ·omega
     injection e with e1 e2 e3;subst e1 e3;clear e2;have KB:Blk w5 gd cur 3:=q1;obtain⟨xj,hxj⟩:∃x,x=L1.getD j 0:=⟨_,rfl⟩;obtain⟨xi,hxi⟩:∃x,x=L1.getD i 0:=⟨_,rfl⟩;have HX:=hide (And.intro hxj hxi);have hcl:∀t,t<k→w5.cell? ⟨gd,t,none⟩=some (.int .i64 (L1.getD t 0)):=fun t ht=>by
      obtain⟨bd,off,cp,e,_,_,_,hcell⟩:=HRd.out.partsC (by rw[HL1.out.2];omega);injection e with e1 e2 e3;injection e1 with e1;injection e1 with e4 e5;subst e4 e5;have h:=hcell t (by rw[HL1.out.2];exact ht);rw[Nat.zero_add] at h;exact h
     have cj:=hcl j hjk;have ci:=hcl i hik;rw[←hxj] at cj;rw[←hxi] at ci;have fj:=KB.frozen j;have hiI:(i:Int)<(k:Int):=(by omega);have O6:=hide (own_intS (k:=j) O5.out xi);have H6:=hide (H5.out.put (k:=j) hgd (.int .i64 xi));have Z6:=hide (show Blk (w5.setCell ⟨gd,j,none⟩ (.int .i64 xi)) W.heap.size rootZ 27 from((KpY.refl _ _).setCell (T:=fun t=>t=3) KB rfl).blk Z5.out (by decide));clear hcl hxj hxi q1 q2 q3 q4 q5 cur HRd KB O5 H5 Z5;go_upto_region 13 with fail;clear cj ci fj;generalize w5.setCell ⟨gd,j,none⟩ (.int .i64 xi)=w6 at O6 H6 Z6⊢;rcases O6.out.2 with⟨e,e0⟩|⟨gd',cap,cur,e,_,q1,q2,q3,q4,q5⟩
     ·omega
     injection e with e1 e2 e3;injection e1 with e1;injection e1 with e1 _;subst e1 e3;clear e2;have KB:Blk w6 gd cur 3:=q1;have hi2:i<cur.size:=(by omega);have ci:=KB.cell i;rw[Array.getElem?_eq_getElem hi2] at ci;have fi:=KB.frozen i;have O7:=hide (show(w6.setCell ⟨gd,i,none⟩ (.int .i64 xj)).ownsRow W.heap.size 3 1 (.slice (some ⟨gd,0,none⟩) k c) k ((swL L1 j i).map (Value.int .i64)) from by
      unfold swL;rw[←HX.out.1, ←HX.out.2];exact own_intS (k:=i) O6.out xj)
     have H7:=hide (H6.out.put (k:=i) hgd (.int .i64 xj));have Z7:=hide (show Blk (w6.setCell ⟨gd,i,none⟩ (.int .i64 xj)) W.heap.size rootZ 27 from((KpY.refl _ _).setCell (T:=fun t=>t=3) KB rfl).blk Z6.out (by decide));clear q1 q2 q3 q4 q5 KB;go_wp2;go_roundw
     case rel=>exact⟨j+1,swL L1 j i,by omega,by go_num,HSw.out.1,HSw.out.2,O7.out,H7.out,Z7.out⟩
     case measure=>simp[intOf];omega
    ·have hjI:¬(j:Int)<(k:Int):=(by omega);rename World=>wB
     have HSc:=HDn;obtain⟨fs,hfs⟩:∃fs,fs=L1:=⟨_,rfl⟩;rw[←hfs] at HO HL1;clear hfs;have hszk:szOk zs.length=true:=by
      unfold szOk;rw[HH.out.1];simp only[Bool.and_eq_true,decide_eq_true_eq];omega
     obtain⟨D0,hD0⟩:∃D0,D0=rDO (.slice ia L ic) (.slice oa ol oc) (gN (fun _=>[]) 0) (fun _=>[]) (some fs):=⟨_,rfl⟩;have HD0:=hide (show BegO D0 (fun _=>[])∧D0.st=some fs from by rw[hD0];exact⟨⟨fun l r=>by split<;>rfl,rfl,rfl,rfl⟩,rfl⟩);clear hD0;have hiB:=HH.out.2.2.1 wB HDn.out.gb;have hoB:=HH.out.2.2.2.2.2.1 wB HDn.out.gb;rw[HH.out.2.2.2.2.2.2] at hoB;have hfr:∀x∈fs,2≤x∧x<((L/512:Nat):Int):=fun x hx=>by
      have h:=HL1.out.1.rng x hx;have e:L/512=n:=(by omega);rw[e];exact h
     have hfr2:∀x∈fs,2≤x∧x<((zs.length/512:Nat):Int):=fun x hx=>by
      have h:=HL1.out.1.rng x hx;have e:zs.length/512=n:=(by rw[HH.out.1];omega);rw[e];exact h
     have hk0:∀l r,l<3→(((fun _=>[]):Nat→List Int) l).getD r 0∉fs:=fun l r _ h=>by
      have h2:=(HL1.out.1.rng _ h).1;have e:(((fun _=>[]):Nat→List Int) l).getD r 0=0:=rfl;omega
     have HTw:=hide (treeWriteJ_any ic L ia a k c fs (.slice oa co.length oc) zs co D0 wB HD0.out.1 HD0.out.2 HL1.out.2.symm (Rd.own HO.out) hfr (by rw[HL1.out.2];omega) hiB hszk (by rw[HH.out.1];exact HLn.out) (by rw[HH.out.1];omega) HH.out.2.1 hoB (by have:=HH.out.2.2.2.1;omega) HH.out.2.2.2.2.1);rw[←HH.out.2.2.2.2.2.2] at HTw;have hT0:=tree_none hszk;have HNx:=hide (fun(hsh:(gS zs co D0).sh=false)=>tree_next (D:=gS zs co D0) (cs:=co) hT0 (by have:=HH.out.2.2.2.1;omega) HH.out.2.2.2.2.1 (fs:=fs) hfr2 HL1.out.1.nd hk0 HD0.out.1 HD0.out.2 rfl hsh);clear hfr hfr2 hk0;obtain⟨D,hDD⟩:∃D,D=gS zs co D0:=⟨_,rfl⟩;have HDD:=hide hDD;rw[←hDD] at HTw;clear hiB hoB hDD;cases hsh:D.sh with
     |true=>
      go_upto_region 16 with(first
       |(
        go_at_call 5
        refine HTw.out.mono ?_;rintro e wC ⟨(⟨h1,_⟩|⟨_,rfl⟩),bC⟩
        case inl=>rw[hsh] at h1;cases h1
        have BC:=hide (bC.mono HDn.out.gb.size);have ZC:=hide (HZ.out.below bC HZ.out.lt);clear bC)
       |(refine wpList_store_row rfl 27 _ _ rfl wC.heap.size rootZ rfl rfl 27 rootZ (Blk.new wC rootZ 27) infoRtS rfl (by simp[Value.oneCell']) ?_)
       |fail)
      obtain⟨wX,hwX⟩:∃wX,wX=(wC.alloc (.cells rootZ 27)).setRow wC.heap.size rootZ:=⟨_,rfl⟩;have bX:Below wC.heap.size wC wX:=(by rw[hwX];exact below_setRow ((Below.refl _ _).alloc (Nat.le_refl _) _) (Nat.le_refl _) _);have ZX:=hide (ZC.out.below bX ZC.out.lt);have hsB:W.heap.size≤wB.heap.size:=HDn.out.gb.size;have HX:=hide (HDn.out.own (BC.out.trans (bX.mono (Nat.le_trans hsB BC.out.size))));rw[←hwX];clear hwX bX;go_wp2_with (first
       |(refine wpList_store_row rfl 27 _ _ rfl W.heap.size rootZ rfl rfl 27 rootZ ZX.out infoRtS rfl (by simp[Value.oneCell']) ?_)
       |fail)
      have HY:=hide (show Dn w0 W (wX.setRow W.heap.size rootZ) b cv cs from HX.out.own (below_setRow (Below.refl _ _) (Nat.le_refl _) _));refine bodyPost_ret (v:=.tuple #[.slice ia L ic,.agg rootZ]) ?_ rfl ⟨_,_,rfl,?_⟩
      ·exact results_trN rfl _ _ W.heap.size 27 rootZ (0,0) _ _ rfl rfl (ZX.out.row _) Tryz.underlying27 rfl infoRtS
      ·have hre:=HH.out.2.2.1.more HY.out.gb;have hl:=HLn.out;subst hl;exact⟨ia,ic,zs,[],fun _=>[],rfl,gN_zero.symm,hT0,HH.out.1,HH.out.2.1,hre _ (World.grownBy.refl _ _),HY.out,hre⟩
     |false=>
      have HN:=hide (HNx.out (by rw[←HDD.out];exact hsh));rw[←HDD.out] at HN;obtain⟨RC,hRC⟩:∃RC,RC=rootC D.Ln ol 14:=⟨_,rfl⟩;rw[←hRC] at HTw;have HRi:=hide (show(Tryz.prog.info? 27).map (·.size)=some RC.size from by rw[hRC,rootC_size];exact infoRtS);have HRo:=hide (show RC.all (·.oneCell')=true from by rw[hRC];exact i64_one _);have HRs:=hide (show rootZ.size=RC.size from by rw[hRC,rootC_size];rfl);have HRC:=hide hRC;clear hRC;obtain⟨pn,hpn⟩:∃pn,pn=D.P.length:=⟨_,rfl⟩;have HPN:=hide hpn;rw[←hpn] at HTw;clear hpn;go_upto_region 16 with(first
       |(
        go_at_call 5
        refine HTw.out.mono ?_;rintro e wC ⟨(⟨_,pa,pc,vs,rfl,oP⟩|⟨h1,_⟩),bC⟩
        case inr=>rw[hsh] at h1;cases h1
        have BC:=hide (bC.mono HDn.out.gb.size);have ZC:=hide (HZ.out.below bC HZ.out.lt);have PC:=hide oP;clear bC oP)
       |(refine wpList_store_row rfl 27 _ _ rfl wC.heap.size RC rfl rfl 27 rootZ (Blk.new wC rootZ 27) HRi.out HRs.out HRo.out ?_)
       |fail)
      obtain⟨wX,hwX⟩:∃wX,wX=(wC.alloc (.cells rootZ 27)).setRow wC.heap.size RC:=⟨_,rfl⟩;have bX:Below wC.heap.size wC wX:=(by rw[hwX];exact below_setRow ((Below.refl _ _).alloc (Nat.le_refl _) _) (Nat.le_refl _) _);have RX:=hide (show Blk wX wC.heap.size RC 27 from by rw[hwX];exact(Blk.new wC _ _).row _);have ZX:=hide (ZC.out.below bX ZC.out.lt);have PX:=hide (PC.out.below bX);have hsB:W.heap.size≤wB.heap.size:=HDn.out.gb.size;have hsC:W.heap.size<wC.heap.size:=ZC.out.lt;have HX:=hide (HDn.out.own (BC.out.trans (bX.mono (Nat.le_trans hsB BC.out.size))));rw[←hwX];clear hwX bX;have hreX:=HH.out.2.2.1.more HX.out.gb;have hzl:zs.length=L:=(by rw[HH.out.1,HLn.out]);have HApp:=hide (applyJ_any n (.slice ia L ic) zs D.P vs pa pn pc wX.drew (by omega) (by omega) HH.out.1 ((hreX _ (World.grownBy.refl _ _)).below (Below.refl _ _).drew) (by have h:=HN.out.2.2.2.2;have e:zs.length/512=n:=by {rw[HH.out.1];omega};rw[e] at h;exact h) HPN.out (by have h:=HN.out.2.2.2.1;have h2:=HL1.out.2;omega) ((PX.out.below (Below.refl _ _).drew).rd));go_upto_region 18 with fail;refine sqrh (fun w'=>Blk w' wC.heap.size RC 27) (show Blk wX.drew _ _ _ from RX.out) (fun hH=>?_);refine sqtk 0 (.slice ia L ic) rfl hH ?_;refine sqtk 1 (.slice pa pn pc) rfl hH ?_;refine sqtk 3 (.agg RC) rfl hH ?_ (yieldsIf_load_mid (by rfl) 27 _ rfl wC.heap.size 0 rfl RC.toList _ (fun w' h=>blk_rngS h) Tryz.underlying27 rfl (by rw[Array.length_toList];exact HRi.out));refine sqry 2 rfl fun K hK=>?_;go_simp;refine HApp.out.mono ?_;rintro e wD ⟨vD,rfl,oD,bD⟩;obtain⟨aD,cD,rfl⟩:=own_shape oD;have OD:=hide oD;have BD:=hide (show Below wX.heap.size wX wD from(Below.refl wX.heap.size wX).drew.trans bD);have ZD:=hide (ZX.out.below BD.out ZX.out.lt);have RD':=hide (RX.out.below BD.out RX.out.lt);clear oD bD;refine hK.out _ _ RD'.out (fun hH=>?_);clear hK K;try simp only[Act.put,sqA,sqB,sqC,sqD,sqE,sqF]
      refine sqtk 4 (.slice aD (n*512) cD) rfl hH ?_;refine sqry 5 rfl fun K hK=>?_;refine wp_store_row 27 _ _ rfl W.heap.size RC rfl rfl 27 rootZ ZD.out HRi.out HRs.out HRo.out ?_;have Z6:=hide (show Blk (wD.setRow W.heap.size RC) W.heap.size RC 27 from ZD.out.row RC);have R6:=hide (show Blk (wD.setRow W.heap.size RC) wC.heap.size RC 27 from(setRow_other wD _ _ RC (by omega)).trans RD'.out);have hsX:W.heap.size≤wX.heap.size:=HX.out.gb.size;have O6:=hide (show(wD.setRow W.heap.size RC).ownsRow wX.drew.heap.size 5 1 (.slice aD (n*512) cD) (n*512) ((putsI zs D.P).map (Value.int .u8)) from own_rowM OD.out ZD.out (by decide));have H6:=hide (show Dn w0 W (wD.setRow W.heap.size RC) b cv cs from HX.out.own (below_setRow (BD.out.mono hsX) (Nat.le_refl _) _));clear OD BD RD';generalize wD.setRow W.heap.size RC=w6 at Z6 R6 O6 H6⊢;refine hK.out _ _ R6.out (fun hH=>?_);clear hK K;try simp only[Act.put,sqA,sqB,sqC,sqD,sqE,sqF]
      refine sqdn ?_;clear hH;go_wp2;refine bodyPost_ret (v:=.tuple #[.slice aD (n*512) cD,.agg RC]) ?_ rfl ⟨_,_,rfl,?_⟩
      ·exact results_trN rfl _ _ W.heap.size 27 RC (0,0) _ _ rfl rfl Z6.out Tryz.underlying27 rfl HRi.out
      ·have hok:∀p∈D.P,PutOk n p:=(by have h:=HN.out.2.2.2.2;have e:zs.length/512=n:=by {rw[HH.out.1];omega};rw[e] at h;exact h);have hbl:b<wX.drew.heap.size:=Nat.lt_of_lt_of_le H6.out.lt hsX;exact⟨aD,cD,putsI zs D.P,co,D.Ln,rfl,by rw[HRC.out,HH.out.2.2.2.2.2.2,rootC_Y],HN.out.1,puts_len D.P zs hok HH.out.1,puts_bd D.P zs hok HH.out.2.1,Rd.own O6.out,H6.out,RdD.of O6.out hbl⟩
end
end Go.Proofs.YtbhpealglhkodaaGreatDoor
