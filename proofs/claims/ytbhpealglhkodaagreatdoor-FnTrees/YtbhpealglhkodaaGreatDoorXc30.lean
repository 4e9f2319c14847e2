/- Draws: the content of a file (L03Content) -/
import Derived.Test.YtbhpealglhkodaaGreatDoorXc29
namespace Go.Proofs.YtbhpealglhkodaaGreatDoor
set_option linter.all false
set_option maxRecDepth 100000
set_option maxHeartbeats 16000000
section
open Go.RowKit
theorem byt_app{A B:List Int}(h:Byt A)(k:Byt B):Byt (A++B):=by
 intro z hz;rcases List.mem_append.1 hz with hz|hz
 ·exact h z hz
 ·exact k z hz
theorem byt_rep(n:Nat):Byt (List.replicate n 0):=by
 intro z hz;rw[List.eq_of_mem_replicate hz];omega
theorem own_cutN{w:World}{base g m c:Nat}{e:TypeId}{xs:List Value}(h:w.ownsRow base e 1 (.slice (some ⟨g,0,none⟩) m c) m xs)(q:Nat)(hq:q≤m):w.ownsRow base e 1 (.slice (some ⟨g,0,none⟩) q c) q (xs.take q):=by
 have h1:=h.1;rcases h.2 with⟨e,_⟩|⟨g',cap,cur,e,hb,hc,hn,hm,hs,ht⟩
 ·cases e
 ·injection e with e1 e2 e3;injection e1 with e1;injection e1 with e1 _;subst e1 e3;refine⟨by rw[List.length_take,h1];omega,.inr ⟨g,c,cur,rfl,hb,hc,by omega,hm,hs,?_⟩⟩;rw[←ht,List.take_take];congr 1;omega
structure CtI(w0 W wr:World)(b:Nat)(cv:Value)(cs:List Int)(v:Value)(m:Nat)(zs:List Int):Prop where
 dn:Dn w0 W wr b cv cs
 own:wr.ownsRow W.heap.size 5 1 v m (zs.map (Value.int .u8))
 byt:Byt zs
 len:zs.length=m
section
variable {w0 W wr wx:World} {b:Nat} {cv:Value} {cs:List Int} {v u:Value} {m m':Nat} {zs ys:List Int}
theorem CtI.draw(h:CtI w0 W wr b cv cs v m zs)(hs:Sc w0 wx b cv cs)(hg:wr.grownBy wx (some b)):CtI w0 W wx b cv cs v m zs:=
 ⟨h.dn.draw hs hg,h.dn.row h.own hg (Nat.le_refl _),h.byt,h.len⟩
theorem CtI.app(h:CtI w0 W wr b cv cs v m zs)(o:wx.ownsRow W.heap.size 5 1 u m' ((zs++ys).map (Value.int .u8)))(hg:wr.grownBy wx v.ownBlock)(hy:Byt ys)(hm:m'=m+ys.length):CtI w0 W wx b cv cs u m' (zs++ys):=
 ⟨h.dn.own (grown_baseP h.own hg h.dn.gb.size),o,byt_app h.byt hy,by rw[List.length_append,h.len,hm]⟩
theorem CtI.new(h:CtI w0 W wr b cv cs v m zs)(hb:Below wr.heap.size wr wx)(o:wx.ownsRow wr.heap.size 5 1 u m' (ys.map (Value.int .u8)))(hy:Byt ys)(hm:ys.length=m'):CtI w0 W wx b cv cs u m' ys:=
 ⟨h.dn.own (hb.mono h.dn.gb.size),own_mono o h.dn.gb.size,hy,hm⟩
end
def CtN(w0 W:World)(b:Nat)(cv:Value)(cs:List Int)(v:Value)(wx:World):Prop:=∃n:Nat,v=.int .i64 (n:Int)∧n≤16∧Dn w0 W wx b cv cs
def CtR(w0 W:World)(b:Nat)(cv:Value)(cs:List Int)(M:Nat)(v:Value)(wx:World):Prop:=∃(m:Nat) (a:Option Addr) (c:Nat) (zs:List Int),v=.slice a m c∧m≤M∧CtI w0 W wx b cv cs (.slice a m c) m zs
def CtT(w0 W:World)(b:Nat)(cv:Value)(cs:List Int)(u:Value)(m:Nat)(zs:List Int)(v:Value)(wx:World):Prop:=∃t:Bool,v=.bool t∧(t=true→0<m)∧CtI w0 W wx b cv cs u m zs
theorem CtR.of{w0 W wx:World}{b:Nat}{cv:Value}{cs:List Int}{M m c:Nat}{a:Option Addr}{zs:List Int}(h:CtI w0 W wx b cv cs (.slice a m c) m zs)(hm:m≤M):CtR w0 W b cv cs M (.slice a m c) wx:=⟨m,a,c,zs,rfl,hm,h⟩
theorem slice_hiN(g m c q:Nat)(HI:Int)(h:HI=(q:Int))(h1:q≤m)(h2:m≤c)(wx:World):(Instr.slice 22 (.slice (some ⟨g,0,none⟩) m c) none (some (.int .i64 HI)) none).run Tryz.prog wx=.ok (.slice (some ⟨g,0,none⟩) q c) wx:=by
 obtain⟨i0,hi0,hz0,hz1,hz2⟩:=info_parts infoU8P;subst h;rw[run_slice_h (P:=Tryz.prog) (w:=wx) 22 _ m c (by rw[Tryz.underlying22];rfl) .i64 (q:Int) (by omega) (by omega)];simp[sizeOf,typeInfo,show Tryz.prog.elem 22=5 from by kernel_rfl,hi0,hz1,Result.andThen,sliced,Addr.add_mid]
theorem content_drawn{w0 W:World}{b:Nat}{cv:Value}{cs:List Int}(most:Nat)(hm:most≤16)(h:Sc w0 W b cv cs):
 Calls Tryz.prog 19 #[.pointer (some ⟨b,0,none⟩),.int .i64 (most:Int)] W fun e w'=>∃(m:Nat) (a:Option Addr) (c:Nat) (zs:List Int),e=.returned (.slice a m c)∧m≤200000∧CtI w0 W w' b cv cs (.slice a m c) m zs:=by
 obtain⟨i8,hi8,hz80,hz81,hz82⟩:=info_parts infoU8P;have HI8:=hide (And.intro hi8 (And.intro hz80 (And.intro hz81 hz82)));have HD:=hide (Dn.start h);clear h hi8 hz80 hz81 hz82;go_enter Tryz.func19,Tryz.ntmps19;go_wp2_with fail;refine(HD.out.sc.N (most+1) (by omega) (by omega)).mono ?_;rintro e w1 ⟨z,rfl,hy0,hy1,s1,d1⟩;have H1:=hide (HD.out.draw s1 d1);clear s1 d1 HD;obtain⟨nz,hnz⟩:∃nz:Nat,z=(nz:Int):=⟨z.toNat,by omega⟩;subst hnz;go_wp2_with fail;refine(H1.out.sc.One 4 (by omega) (by omega)).mono ?_;rintro e w2 ⟨t,rfl,s2,d2⟩;have H2:=hide (H1.out.draw s2 d2);clear s2 d2 H1;go_upto_if 13 with fail;go_cut [5] from 13 to 16 (fun v wx=>CtN w0 W b cv cs v wx)
 case first=>
  cases t with
  |true=>
   go_wp2_with fail;refine(H2.out.sc.N 3 (by omega) (by omega)).mono ?_;rintro e w3 ⟨z3,rfl,hz0,hz1,s3,d3⟩;have H3:=hide (H2.out.draw s3 d3);clear s3 d3 H2;obtain⟨n3,hn3⟩:∃n3:Nat,13+z3=(n3:Int):=⟨(13+z3).toNat,by omega⟩;go_wp2;go_meet;exact⟨n3,rfl,by omega,H3.out⟩
  |false=>
   go_wp2;go_meet;exact⟨nz,rfl,by omega,H2.out⟩
 case rest=>
 clear H2;obtain⟨n,rfl,hn,hD⟩:=hcut;rename World=>w3
 have H3:=hide hD;clear hD;have O3:=hide (show CtI w0 W (w3.alloc (.cells #[] 5)) b cv cs (.slice (some ⟨w3.heap.size,0,none⟩) 0 0) 0 [] from⟨H3.out.own ((Below.refl _ _).alloc H3.out.gb.size _),own_mono (own_emptyM w3 5 1) H3.out.gb.size,(by intro z hz;cases hz),rfl⟩);go_wp2;go_loopw [6,7] (fun v6 v7 wr=>∃(k m:Nat) (a:Option Addr) (c:Nat) (zs:List Int),k≤n∧m=k*512∧v7=.int .i64 (k:Int)∧v6=.slice a m c∧CtI w0 W wr b cv cs (.slice a m c) m zs) (fun _ i _=>n-(intOf i).toNat)
 case atStart=>exact⟨0,0,_,_,[],by omega,by omega,rfl,rfl,O3.out⟩
 case round=>
  clear O3 H3;obtain⟨k,m,a,c,zs,hk,hm2,rfl,rfl,hI⟩:=hrel;have HI:=hide hI;have HM:=hide hm2;clear hI hm2;by_cases hkn:k<n
  ·have hkI:(k:Int)<(n:Int):=(by omega);go_wp2_with fail;refine(block_drawn HI.out.dn.sc).mono ?_;rintro e w5 ⟨yv,Y,rfl,hYl,hYB,o5,s5,d5⟩;have H5:=hide (HI.out.draw s5 d5);have O5:=hide o5;have HY:=hide (And.intro hYl hYB);clear s5 d5 o5 hYl hYB HI;go_wp2_with (first
    |(at_builtin;refine wpList_append_rdP _ rfl (.tmp 23) (.tmp 25) 22 rfl W.heap.size 5 i8 Tryz.underlying22 HI8.out.1 HI8.out.2.1 HI8.out.2.2.1 HI8.out.2.2.2 _ _ _ rfl H5.out.own _ _ rfl (Rd.own O5.out) (by have:=HM.out;have:=HY.out.1;omega) H5.out.dn.gb.size ?_;intro a7 c7 m7 w7 e7 o7 g7;have H7:=hide (H5.out.app o7 g7 HY.out.2 e7);rw[HY.out.1] at e7;have E7:=hide e7;clear o7 g7 e7)
    |fail)
   go_roundw
   case rel=>exact⟨k+1,m7,a7,c7,zs++Y,by omega,by have:=E7.out;have:=HM.out;omega,by go_num,rfl,H7.out⟩
   case measure=>simp[intOf];omega
  ·obtain rfl:k=n:=(by omega);have hkI:¬(k:Int)<(k:Int):=(by omega);rename World=>w4
   go_upto_region 9 with fail;go_cut [33] from 27 to 33 (fun v wx=>CtT w0 W b cv cs (.slice a m c) m zs v wx)
   case first=>
    by_cases hm0:m=0
    ·subst hm0;go_wp2;go_meet;exact⟨false,rfl,(fun h=>by cases h),HI.out⟩
    ·have hmI:(0:Int)<(m:Int):=(by omega);go_wp2_with fail;refine(HI.out.dn.sc.One 2 (by omega) (by omega)).mono ?_;rintro e w6 ⟨t6,rfl,s6,d6⟩;have H6:=hide (HI.out.draw s6 d6);clear s6 d6;go_wp2;go_meet;exact⟨t6,rfl,(fun _=>by omega),H6.out⟩
   case rest=>
   clear HI;obtain⟨t6,rfl,ht6,hI⟩:=hcut;have H6:=hide hI;clear hI;go_upto_if 33 with fail;go_cut [6] from 33 to 40 (fun v wx=>CtR w0 W b cv cs 8704 v wx)
   case first=>
    cases t6 with
    |false=>
     go_wp2;go_meet;exact CtR.of H6.out (by have:=HM.out;omega)
    |true=>
     have hm0:=ht6 rfl;go_wp2_with fail;refine(H6.out.dn.sc.N 512 (by omega) (by omega)).mono ?_;rintro e w7 ⟨z7,rfl,hz0,hz1,s7,d7⟩;have H7:=hide (H6.out.draw s7 d7);clear s7 d7 H6;have hmz:(m:Int)-z7>0:=(by have:=HM.out;omega);obtain⟨q7,hq7⟩:∃q7:Nat,(m:Int)-z7=(q7:Int):=⟨((m:Int)-z7).toNat,by omega⟩;rcases H7.out.own.2 with⟨e,_⟩|⟨g,cap,cur,e,_,_,q2,_,_,_⟩
     ·injection e with _ e2 _;omega
     injection e with e1 e2 e3;subst e1 e3;clear e2;have hsl:=slice_hiN g m c q7 (q7:Int) rfl (by omega) q2;have hq7b:q7≤8704:=(by have:=HM.out;omega);have H8:=hide (show CtI w0 W w7 b cv cs (.slice (some ⟨g,0,none⟩) q7 c) q7 (zs.take q7) from⟨H7.out.dn,by have h:=own_cutN H7.out.own q7 (by omega);rw[←List.map_take] at h;exact h,fun z hz=>H7.out.byt z (List.mem_of_mem_take hz),by rw[List.length_take,H7.out.len];omega⟩);go_wp2;go_meet;exact CtR.of H8.out hq7b
   case rest=>
   clear H6 HM;obtain⟨m,a,c,zs,rfl,hm8,hI⟩:=hcut;have HI:=hide hI;clear hI;go_wp2_with fail;refine(HI.out.dn.sc.One 12 (by omega) (by omega)).mono ?_;rintro e wb ⟨tb,rfl,sb,db⟩;have HB:=hide (HI.out.draw sb db);clear sb db HI;go_upto_if 42 with fail;go_cut [6] from 42 to 52 (fun v wx=>CtR w0 W b cv cs 100000 v wx)
   case first=>
    cases tb with
    |false=>
     go_wp2;go_meet;exact CtR.of HB.out (by omega)
    |true=>
     go_wp2_with fail;refine(HB.out.dn.sc.N 6 (by omega) (by omega)).mono ?_;rintro e wc ⟨zc,rfl,hz0,hz1,sc,dc⟩;have H7:=hide (HB.out.draw sc dc);clear sc dc HB;obtain⟨nn,hnn⟩:∃nn:Nat,(138+zc)*512=(nn:Int):=⟨((138+zc)*512).toNat,by omega⟩;have hnb:nn≤140000:=(by omega);have HFi:=hide (fillJ_any (.slice a m c) zs nn (nn:Int) rfl wc (Rd.own H7.out.own) (by rw[H7.out.len];omega) (by omega));go_wp2_with (first|(go_at_call 44;refine HFi.out.mono ?_;rintro e wd ⟨ad,cd,rfl,od,bd⟩;have H8:=hide (H7.out.new bd od (byt_app H7.out.byt (byt_rep _)) (by rw[List.length_append,List.length_replicate,H7.out.len];omega));clear od bd)|fail);refine(block_drawn H8.out.dn.sc).mono ?_;rintro e w5 ⟨yv,Y,rfl,hYl,hYB,o5,s5,d5⟩;have H5:=hide (H8.out.draw s5 d5);have O5:=hide o5;have HY:=hide (And.intro hYl hYB);clear s5 d5 o5 hYl hYB H8 H7 HFi;go_wp2_with (first
      |(at_builtin;refine wpList_append_rdP _ rfl (.tmp 49) (.tmp 51) 22 rfl W.heap.size 5 i8 Tryz.underlying22 HI8.out.1 HI8.out.2.1 HI8.out.2.2.1 HI8.out.2.2.2 _ _ _ rfl H5.out.own _ _ rfl (Rd.own O5.out) (by have:=HY.out.1;omega) H5.out.dn.gb.size ?_;intro a7 c7 m7 w7 e7 o7 g7;have H7:=hide (H5.out.app o7 g7 HY.out.2 e7);rw[HY.out.1] at e7;have E7:=hide e7;clear o7 g7 e7)
      |fail)
     go_meet;exact CtR.of H7.out (by have:=E7.out;omega)
   case rest=>
   clear HB;obtain⟨m,a,c,zs,rfl,hm8,hI⟩:=hcut;have HI:=hide hI;clear hI;go_wp2_with fail;refine(HI.out.dn.sc.One 30 (by omega) (by omega)).mono ?_;rintro e wb ⟨tb,rfl,sb,db⟩;have HB:=hide (HI.out.draw sb db);clear sb db HI;go_upto_if 54 with fail;go_cut [6] from 54 to 64 (fun v wx=>CtR w0 W b cv cs 200000 v wx)
   case first=>
    cases tb with
    |false=>
     go_wp2;go_meet;exact CtR.of HB.out (by omega)
    |true=>
     go_wp2_with fail;refine(HB.out.dn.sc.N 3 (by omega) (by omega)).mono ?_;rintro e wc ⟨zc,rfl,hz0,hz1,sc,dc⟩;have H7:=hide (HB.out.draw sc dc);clear sc dc HB;obtain⟨nn,hnn⟩:∃nn:Nat,(267+zc)*512=(nn:Int):=⟨((267+zc)*512).toNat,by omega⟩;have HFi:=hide (fillJ_any (.slice a m c) zs nn (nn:Int) rfl wc (Rd.own H7.out.own) (by rw[H7.out.len];omega) (by omega));go_wp2_with (first|(go_at_call 44;refine HFi.out.mono ?_;rintro e wd ⟨ad,cd,rfl,od,bd⟩;have H8:=hide (H7.out.new bd od (byt_app H7.out.byt (byt_rep _)) (by rw[List.length_append,List.length_replicate,H7.out.len];omega));clear od bd)|fail);refine(block_drawn H8.out.dn.sc).mono ?_;rintro e w5 ⟨yv,Y,rfl,hYl,hYB,o5,s5,d5⟩;have H5:=hide (H8.out.draw s5 d5);have O5:=hide o5;have HY:=hide (And.intro hYl hYB);clear s5 d5 o5 hYl hYB H8 H7 HFi;go_wp2_with (first
      |(at_builtin;refine wpList_append_rdP _ rfl (.tmp 61) (.tmp 63) 22 rfl W.heap.size 5 i8 Tryz.underlying22 HI8.out.1 HI8.out.2.1 HI8.out.2.2.1 HI8.out.2.2.2 _ _ _ rfl H5.out.own _ _ rfl (Rd.own O5.out) (by have:=HY.out.1;omega) H5.out.dn.gb.size ?_;intro a7 c7 m7 w7 e7 o7 g7;have H7:=hide (H5.out.app o7 g7 HY.out.2 e7);rw[HY.out.1] at e7;have E7:=hide e7;clear o7 g7 e7)
      |fail)
     go_meet;exact CtR.of H7.out (by have:=E7.out;omega)
   case rest=>
   clear HB;obtain⟨m,a,c,zs,rfl,hm8,hI⟩:=hcut;have HI:=hide hI;clear hI;go_wp2;go_ret;exact⟨m,a,c,zs,rfl,hm8,HI.out⟩
end
section
open Go.RowKit
theorem blk_setRow{w:World}{b g:Nat}{C:Array Value}{t:TypeId}(h:Blk w b C t)(hne:b≠g)(X:Array Value):Blk (w.setRow g X) b C t:=(setRow_other w g b X hne).trans h
end
end Go.Proofs.YtbhpealglhkodaaGreatDoor
