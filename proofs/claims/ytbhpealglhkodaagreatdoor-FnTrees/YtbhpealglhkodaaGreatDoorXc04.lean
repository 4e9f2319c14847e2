/- A block drawn: Block. -/
import Derived.Test.YtbhpealglhkodaaGreatDoorXc03
namespace Go.Proofs.YtbhpealglhkodaaGreatDoor
set_option linter.all false
set_option maxRecDepth 100000
set_option maxHeartbeats 16000000
section
open Go.RowKit
theorem own_setB{w:World}{base g n cap k:Nat}{e:TypeId}{zs:List Int}(h:w.ownsRow base e 1 (.slice (some ⟨g,0,none⟩) n cap) n (zs.map (Value.int .u8)))(d:Int):(w.setCell ⟨g,k,none⟩ (.int .u8 d)).ownsRow base e 1 (.slice (some ⟨g,0,none⟩) n cap) n ((zs.set k d).map (Value.int .u8)):=by
 rcases h.2 with⟨e1,_⟩|⟨g',cap',cur,e1,hb,hc,hn,hm,hs,ht⟩
 ·cases e1
 ·injection e1 with e1 e2 e3;injection e1 with e1;injection e1 with e1 e4;subst e1;subst e3;refine⟨by simpa using h.1,.inr ⟨g,cap,cur.setIfInBounds k (.int .u8 d),rfl,hb,heap_setCell_same w g k cur e _ hc,hn,hm,by simpa using hs,?_⟩⟩;rw[Array.toList_setIfInBounds,List.take_set,ht,List.map_set]
theorem own_cellB{w:World}{base g n cap k:Nat}{e:TypeId}{zs:List Int}(h:w.ownsRow base e 1 (.slice (some ⟨g,0,none⟩) n cap) n (zs.map (Value.int .u8)))(hk:k<n):(∃y:Value,w.cell? ⟨g,k,none⟩=some y)∧w.frozen? ⟨g,k,none⟩=false:=by
 rcases h.2 with⟨e1,_⟩|⟨g',cap',cur,e1,hb,hc,hn,hm,hs,ht⟩
 ·cases e1
 ·injection e1 with e1 e2 e3;injection e1 with e1;injection e1 with e1 e4;subst e1;have hB:Blk w g cur _:=hc;refine⟨⟨_,(hB.cell k).trans (Array.getElem?_eq_getElem (by rw[hs];omega))⟩,hB.frozen _⟩
theorem Byt.put{zs:List Int}{d:Int}(h:Byt zs)(k:Nat)(h0:0≤d)(h1:d<256):Byt (zs.set k d):=by
 intro y hy;rcases List.mem_or_eq_of_mem_set hy with hy|rfl
 ·exact h y hy
 ·exact⟨h0,h1⟩
theorem Dn.put{w0 W wr:World}{b g k:Nat}{cv:Value}{cs:List Int}(h:Dn w0 W wr b cv cs)(hg:W.heap.size≤g)(u:Value):Dn w0 W (wr.setCell ⟨g,k,none⟩ u) b cv cs:=h.own ((Below.refl _ _).setCell (p:=⟨g,k,none⟩) hg u)
theorem make512f(w:World):(Instr.makeSlice 22 (.int .i64 512) (.int .i64 512)).run Tryz.prog w=.ok (.slice (some ⟨w.heap.size,0,none⟩) 512 512) (w.alloc (.cells (Array.replicate 512 (.int .u8 0)) 5)):=by kernel_rfl
theorem zeros512:(Array.replicate 512 (Value.int .u8 0)).toList=(List.replicate 512 (0:Int)).map (Value.int .u8):=by rw[Array.toList_replicate,List.map_replicate]
theorem block_drawn{w0 W:World}{b:Nat}{cv:Value}{cs:List Int}(h:Sc w0 W b cv cs):
 Calls Tryz.prog 43 #[.pointer (some ⟨b,0,none⟩)] W fun e w'=>∃(v:Value) (zs:List Int),e=.returned v∧zs.length=512∧Byt zs∧w'.ownsRow W.heap.size 5 1 v 512 (zs.map (Value.int .u8))∧Sc w0 w' b cv cs∧W.grownBy w' (some b):=by
 obtain⟨Z,hZ⟩:∃Z:Array Value,Z=Array.replicate 512 (.int .u8 0):=⟨_,rfl⟩;obtain⟨zs,hzs⟩:∃zs:List Int,zs=List.replicate 512 0:=⟨_,rfl⟩;have HZ:=hide (And.intro (show zs.length=512 by rw[hzs];simp) (show Byt zs by rw[hzs];intro z hz;rw[List.eq_of_mem_replicate hz];omega));have hmk:∀w:World,(Instr.makeSlice 22 (.int .i64 512) (.int .i64 512)).run Tryz.prog w=.ok (.slice (some ⟨w.heap.size,0,none⟩) 512 512) (w.alloc (.cells Z 5)):=fun w=>by rw[hZ];exact make512f w
 have H0:=hide (show Dn w0 W (W.alloc (.cells Z 5)) b cv cs∧(W.alloc (.cells Z 5)).ownsRow W.heap.size 5 1 (.slice (some ⟨W.heap.size,0,none⟩) 512 512) 512 (zs.map (Value.int .u8)) from
  ⟨(
   Dn.start h).own ((Below.refl _ _).alloc (Nat.le_refl _) _),by
   have h1:=World.ownsRow_lit (base:=W.heap.size) (e:=5) (size:=1) W Z 512 (Nat.le_refl _) (by unfold maxLen;omega) (by rw[hZ];simp);rw[hzs, ←zeros512, ←hZ];exact h1⟩)
 clear h hZ hzs;go_enter Tryz.func43,Tryz.ntmps43;go_wp2_with fail;refine(H0.out.1.sc.N 4 (by omega) (by omega)).mono ?_;rintro e w1 ⟨z,rfl,hz0,hz1,s1,d1⟩;have H1:=hide (And.intro (H0.out.1.draw s1 d1) (H0.out.1.row H0.out.2 d1 (Nat.le_refl _)));clear s1 d1 H0 hmk;have hz:z=0∨z=1∨((z==0)=false∧(z==1)=false):=by
  rcases(by omega:z=0∨z=1∨2≤z) with h|h|h
  ·exact .inl h
  ·exact .inr (.inl h)
  ·exact .inr (.inr ⟨by simp;omega,by simp;omega⟩)
 clear hz0 hz1;rcases hz with rfl|rfl|⟨n0,n1⟩
 ·go_wp2;go_ret;exact⟨_,zs,rfl,HZ.out.1,HZ.out.2,H1.out.2,H1.out.1.sc,H1.out.1.gb⟩
 ·go_wp2_with fail;refine(bytes_drawn H1.out.1.sc 512 (by omega)).mono ?_;rintro e w2 ⟨v,ys,rfl,hl,hB,ho,s2,d2⟩;have H2:=hide (H1.out.1.draw s2 d2);have HY:=hide (And.intro hl (And.intro hB (own_mono ho H1.out.1.gb.size)));clear s2 d2 hl hB ho;go_wp2;go_ret;exact⟨_,ys,rfl,HY.out.1,HY.out.2.1,HY.out.2.2,H2.out.sc,H2.out.gb⟩
 ·go_wp2_with fail;refine(H1.out.1.sc.N 3 (by omega) (by omega)).mono ?_;rintro e w2 ⟨c,rfl,hc0,hc1,s2,d2⟩;have H2:=hide (And.intro (H1.out.1.draw s2 d2) (H1.out.1.row H1.out.2 d2 (Nat.le_refl _)));clear s2 d2 H1;go_wp2;go_loopw [22] (fun i wr=>∃(k:Nat) (ys:List Int),k≤512∧i=.int .i64 k∧ys.length=512∧Byt ys∧Dn w0 W wr b cv cs∧wr.ownsRow W.heap.size 5 1 (.slice (some ⟨W.heap.size,0,none⟩) 512 512) 512 (ys.map (Value.int .u8))) (fun i _=>512-(intOf i).toNat)
  case atStart=>exact⟨0,zs,by omega,rfl,HZ.out.1,HZ.out.2,H2.out.1,H2.out.2⟩
  case round=>
   clear H2 HZ;obtain⟨k,ys,hk,rfl,hl,hB,hd,ho⟩:=hrel;have HK:=hide (And.intro hd ho);have HB:=hide (And.intro hl hB);clear hd ho hl hB;by_cases hkn:k<512
   ·obtain⟨⟨y,cy⟩,fy⟩:=own_cellB HK.out.2 hkn;go_wp2;go_roundw
    case rel=>exact⟨k+1,ys.set k (1+c),by omega,by go_num,by rw[List.length_set];exact HB.out.1,HB.out.2.put k (by omega) (by omega),HK.out.1.put (Nat.le_refl _) _,own_setB HK.out.2 _⟩
    case measure=>simp[intOf];omega
   ·obtain rfl:k=512:=(by omega);go_wp2_with fail;refine(HK.out.1.sc.N 512 (by omega) (by omega)).mono ?_;rintro e w3 ⟨p,rfl,hp0,hp1,s3,d3⟩;have H3:=hide (And.intro (HK.out.1.draw s3 d3) (HK.out.1.row HK.out.2 d3 (Nat.le_refl _)));clear s3 d3 HK;go_wp2_with fail;refine(H3.out.1.sc.N 256 (by omega) (by omega)).mono ?_;rintro e w4 ⟨q,rfl,hq0,hq1,s4,d4⟩;have H4:=hide (And.intro (H3.out.1.draw s4 d4) (H3.out.1.row H3.out.2 d4 (Nat.le_refl _)));clear s4 d4 H3;obtain⟨⟨y,cy⟩,fy⟩:=own_cellB H4.out.2 (show p.toNat<512 by omega);go_wp2;go_ret;exact⟨_,ys.set p.toNat q,rfl,by rw[List.length_set];exact HB.out.1,HB.out.2.put _ hq0 (by omega),own_setB H4.out.2 _,(H4.out.1.put (Nat.le_refl _) _).sc,(H4.out.1.put (Nat.le_refl _) _).gb⟩
end
end Go.Proofs.YtbhpealglhkodaaGreatDoor
