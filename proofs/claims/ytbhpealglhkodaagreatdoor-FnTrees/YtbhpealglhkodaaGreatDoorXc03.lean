/- The model's look at a root: l02Pointer, l02Pointers, l02Root -/
import Derived.Test.YtbhpealglhkodaaGreatDoorXc02
import Derived.OwnWalk
import Derived.ArgAppend
namespace Go.Proofs.YtbhpealglhkodaaGreatDoor
set_option linter.all false
set_option maxRecDepth 100000
set_option maxHeartbeats 16000000
section
open Go.RowKit
def ptrB(x n:Int):Bool:=decide (x=0)||(decide (2≤x)&&decide (x<n))
theorem pointer_any(x:Int)(w:World):Calls Tryz.prog 81 #[.int .i64 x] w fun e w'=>e=.returned (.bool (ptrB x 2048))∧w=w':=by
 have HP:=hide (show ptrB x 2048=(decide (x=0)||(decide (2≤x)&&decide (x<2048))) from rfl);by_cases h0:x=0
 ·subst h0;go_enter Tryz.func81,Tryz.ntmps81;go_wp2;go_ret;exact⟨rfl,rfl⟩
 ·have hq:(x==0)=false:=by simp[h0]
  have HD:=hide (show decide (x=0)=false from by simp[h0]);clear h0;by_cases h2:2≤x
  ·by_cases h3:x<2048;all_goals
    have HR:=hide (show ptrB x 2048=decide (x<2048) from by rw[HP.out,HD.out];simp[h2]);go_enter Tryz.func81,Tryz.ntmps81;go_wp2;go_ret;exact⟨ret_bool (by rw[HR.out];simp;try omega),rfl⟩
  ·have hq2:decide (2≤x)=false:=(by simp;omega);have HR:=hide (show ptrB x 2048=false from by rw[HP.out,HD.out,hq2];rfl);go_enter Tryz.func81,Tryz.ntmps81;go_wp2;go_ret;exact⟨ret_bool (by rw[HR.out]),rfl⟩
theorem pointers_any(s:Int)(ds:List Int)(p q:Int)(w:World)(hd:ds.length=12):
 Calls Tryz.prog 71 #[.agg (cellsI (rootI s ds p q))] w fun e w'=>∃v',e=.returned v'∧w'.ownsRow w.heap.size 3 1 v' 14 ((ds++[p,q]).map (Value.int .i64))∧Below w.heap.size w w':=by
 obtain⟨i0,hi,hz0,hz1,hz2⟩:=info_parts infoI64;have HD:=hide hd;have kB:=Blk.new w (cellsI (rootI s ds p q)) 27;have h0:=own_empty (w.alloc (.cells (cellsI (rootI s ds p q)) 27)) 3;rw[World.size_alloc] at h0;have hr:∀j u,(ds.map (Value.int .i64))[j]?=some u→((w.alloc (.cells (cellsI (rootI s ds p q)) 27)).alloc (.cells #[] 3)).cell? ((⟨w.heap.size,1,none⟩:Addr).add j)=some u:=by
  intro j u hu;have h:=(kB.alloc (.cells #[] 3)).range 1 12 (by rw[rootI_len _ _ _ _ HD.out];omega);rw[root_range _ _ _ _ HD.out] at h;rw[Addr.add_mid];exact h j u hu
 have hb0:Below w.heap.size w ((w.alloc (.cells (cellsI (rootI s ds p q)) 27)).alloc (.cells #[] 3)):=((Below.refl _ _).alloc (Nat.le_refl _) _).alloc (by simp) _;have K:=hide (And.intro h0 (And.intro hr (And.intro hb0 (kB.alloc (.cells #[] 3)))));clear hd h0 hr hb0 kB;go_enter Tryz.func71,Tryz.ntmps71;go_wp2_with (first|(at_builtin;refine wpList_append_own _ rfl (.tmp 4) (.tmp 6) 26 rfl (w.heap.size+1) 3 i0 (.int .i64 0) 1 8 Tryz.underlying26 hi hz0 hz1 hz2 rfl (by decide) (.slice (some ⟨w.heap.size+1,0,none⟩) 0 0) 0 [] rfl K.out.1 ⟨w.heap.size,1,none⟩ 12 12 (ds.map (Value.int .i64)) rfl (by rw[List.length_map,HD.out]) K.out.2.1 (ints_oneCell _ _) (by unfold maxLen;omega) (by omega) (by simp) ?_;intro v1 w1 hown1 hgr1 _;have a13:=hgr1.cell (a:=⟨w.heap.size,13,none⟩) ((K.out.2.2.2.cell 13).trans (rootI_get13 s ds p q HD.out)) (by simp[Value.ownBlock]);have a14:=hgr1.cell (a:=⟨w.heap.size,14,none⟩) ((K.out.2.2.2.cell 14).trans (rootI_get14 s ds p q HD.out)) (by simp[Value.ownBlock]);have H1:=hide (And.intro hown1 hgr1);clear hown1 hgr1)|(at_builtin;refine wpList_append_own _ rfl (.tmp 8) (.tmp 13) 26 rfl (w.heap.size+1) 3 i0 (.int .i64 0) 1 8 Tryz.underlying26 hi hz0 hz1 hz2 rfl (by decide) v1 _ _ rfl (H1.out.1.alloc _) ⟨w1.heap.size,0,none⟩ 2 2 [.int .i64 p,.int .i64 q] rfl rfl (cell_two_new _ _ _ _) (ints_oneCell .i64 [p,q]) (by unfold maxLen;omega) (by omega) (by have:=H1.out.2.size;simp at this⊢;omega) ?_;intro v2 w2 hown2 hgr2 _));go_ret;refine⟨_,rfl,own_mono (base:=w.heap.size+1) ?_ (by omega),?_⟩
 ·have e:(ds++[p,q]).map (Value.int .i64)=[]++ds.map (Value.int .i64)++[.int .i64 p,.int .i64 q]:=by simp
  rw[e];exact hown2
 ·have hs1:=H1.out.2.size;have hl1:=H1.out.1.lt;refine(((K.out.2.2.1.grown H1.out.2 (by simp;omega) (fun k h=>by simp[Value.ownBlock] at h;omega)).alloc (by simp at hs1;omega) _).grown hgr2 (by simp at hs1⊢;omega) (fun k h=>by have:=(hl1 k h).1;omega))
def lst(i:Nat):Int:=if i=13 then 140 else i
def okAt(B:Int)(i:Nat)(x:Int):Bool:=ptrB x 2048&&(decide (x=0)||decide (lst i<B))
def allR(s:Int)(pts:List Int)(n:Nat):Bool:=(List.range n).all fun i=>okAt ((s+511)/512) i (pts.getD i 0)
def rightR(s:Int)(ds:List Int)(p q:Int):Bool:=(decide (0≤s)&&decide (s≤262144))&&allR s (ds++[p,q]) 14
theorem allR_succ(s:Int)(pts:List Int)(n:Nat):allR s pts (n+1)=(allR s pts n&&okAt ((s+511)/512) n (pts.getD n 0)):=by simp[allR,List.range_succ]
theorem allR_bad(s:Int)(pts:List Int)(n k:Nat)(hk:k<n)(h:okAt ((s+511)/512) k (pts.getD k 0)=false):allR s pts n=false:=by
 unfold allR;rw[List.all_eq_false];exact⟨k,by simpa using hk,by rw[h];simp⟩
theorem okT(s:Int)(k:Nat)(z L:Int)(hp:ptrB z 2048=true)(hL:lst k=L)(h:(z !=0)=false∨L<(s+512-1)/512):okAt ((s+511)/512) k z=true:=by
 unfold okAt;rw[hp,hL];have e:s+512-1=s+511:=by omega
 rw[e] at h;rcases h with h|h
 ·simp at h;simp[h]
 ·simp[h]
theorem okT0(s:Int)(k:Nat)(z:Int)(hp:ptrB z 2048=true)(h:z=0):okAt ((s+511)/512) k z=true:=by
 unfold okAt;rw[hp];simp[h]
theorem okF(s:Int)(k:Nat)(z L:Int)(hL:lst k=L)(h:(z !=0)=true∧(s+512-1)/512≤L):okAt ((s+511)/512) k z=false:=by
 unfold okAt;have e:s+512-1=s+511:=by omega
 rw[e] at h;rw[hL];have h1:¬z=0:=by simpa using h.1
 have h2:¬L<(s+511)/512:=by omega
 simp[h1,h2]
theorem lst_cases(k:Nat):(((k:Int)==12)=true∧((k:Int)==13)=false∧lst k=12)∨(((k:Int)==12)=false∧((k:Int)==13)=true∧lst k=140)∨(((k:Int)==12)=false∧((k:Int)==13)=false∧lst k=(k:Int)):=by
 by_cases h12:k=12
 ·subst h12;exact .inl ⟨rfl,rfl,rfl⟩
 ·by_cases h13:k=13
  ·subst h13;exact .inr (.inl ⟨rfl,rfl,rfl⟩)
  ·refine .inr (.inr ⟨by simp;omega,by simp;omega,?_⟩);unfold lst;rw[if_neg h13]
theorem l02Root_any(s:Int)(ds:List Int)(p q:Int)(w:World)(hd:ds.length=12):
 Calls Tryz.prog 56 #[.agg (cellsI (rootI s ds p q))] w fun e w'=>e=.returned (.bool (rightR s ds p q))∧Below w.heap.size w w':=by
 have HD:=hide hd;have hb0:Below w.heap.size w (w.alloc (.cells (cellsI (rootI s ds p q)) 27)):=(Below.refl _ _).alloc (Nat.le_refl _) _;have c0:(w.alloc (.cells (cellsI (rootI s ds p q)) 27)).cell? ⟨w.heap.size,0,none⟩=some (.int .i64 s):=by
  rw[(Blk.new w _ _).cell 0];rfl
 have HZ:=hide (show(cellsI (rootI s ds p q)).size=15 from by rw[cellsI_size];exact rootI_len s ds p q HD.out);clear hd;by_cases h1:0≤s
 ·by_cases h2:s≤262144
  ·have HR:=hide (show rightR s ds p q=allR s (ds++[p,q]) 14 from by unfold rightR;simp[h1,h2]);have HL:=hide (show(ds++[p,q]).length=14 from by simp[HD.out]);go_enter Tryz.func56,Tryz.ntmps56;go_wp2_with (first|(refine wpList_load_row rfl 27 _ rfl w.heap.size rfl 27 (cellsI (rootI s ds p q)) (0,0) _ (Blk.new w _ _) Tryz.underlying27 rfl (by rw[HZ.out];exact info15) ?_)|(go_at_call 71;fail));refine(pointers_any s ds p q _ HD.out).mono ?_;rintro e w1 ⟨v1,rfl,o1,b1⟩;obtain⟨bd,off,cap,rfl,hbw,_,_,hcell⟩:=(Rd.own o1).partsC (by rw[HL.out];omega);rw[HL.out] at hcell⊢;have HB:=hide (hb0.trans (b1.mono hb0.size));generalize ds++[p,q]=pts at hcell HR;clear o1 b1 hb0 c0;go_wp2;go_loop [23] (fun i=>∃k:Nat,k≤14∧i=.int .i64 k∧allR s pts k=true) (fun i=>14-(intOf i).toNat)
   case atStart=>exact⟨0,by omega,rfl,rfl⟩
   case round=>
    obtain⟨k,hk,rfl,hall⟩:=hrel;have HA:=hide hall;clear hall;by_cases hlt:k<14
    ·have cz:=hcell k hlt;have HS:=hide (show allR s pts (k+1)=(allR s pts k&&okAt ((s+511)/512) k (pts.getD k 0))∧(okAt ((s+511)/512) k (pts.getD k 0)=false→allR s pts 14=false) from⟨allR_succ s pts k,allR_bad s pts 14 k hlt⟩);clear hcell;generalize pts.getD k 0=z at cz HS;have hok:okAt ((s+511)/512) k z=(ptrB z 2048&&(decide (z=0)||decide (lst k<(s+511)/512))):=rfl;cases hpt:ptrB z 2048 with
     |false=>
      have HF:=hide (HS.out.2 (by rw[hok,hpt];rfl));clear hok;go_wp2_with (go_at_call 81;refine(pointer_any z _).mono ?_;rintro e w' ⟨rfl,rfl⟩;rw[hpt]);all_goals go_ret
      all_goals exact⟨ret_bool (by rw[HR.out,HF.out]),HB.out⟩
     |true=>
      have HP:=hide hpt;clear hok;rcases lst_cases k with⟨e12,e13,hL⟩|⟨e12,e13,hL⟩|⟨e12,e13,hL⟩;all_goals
       have HLk:=hide hL;clear hL;go_wp2_with (go_at_call 81;refine(pointer_any z _).mono ?_;rintro e w' ⟨rfl,rfl⟩;rw[hpt]);all_goals first
        |(
         have HF:=HS.out.2 (okF s k z _ HLk.out ‹_›);go_ret;exact⟨ret_bool (by rw[HR.out,HF]),HB.out⟩)
        |(
         have hT:okAt ((s+511)/512) k z=true:=(by first|exact okT0 s k z HP.out ‹_›|exact okT s k z _ HP.out HLk.out ‹_›);go_round
         case rel=>exact⟨k+1,by omega,by go_num,by rw[HS.out.1,HA.out,hT];rfl⟩
         case measure=>simp[intOf];omega)
    ·have e14:k=14:=(by omega);subst e14;go_wp2;go_ret;exact⟨ret_bool (by rw[HR.out,HA.out]),HB.out⟩
  ·have HR:=hide (show rightR s ds p q=false from by unfold rightR;simp[h2]);go_enter Tryz.func56,Tryz.ntmps56;go_wp2;go_ret;exact⟨ret_bool (by rw[HR.out]),hb0⟩
 ·have HR:=hide (show rightR s ds p q=false from by unfold rightR;simp[h1]);go_enter Tryz.func56,Tryz.ntmps56;go_wp2;go_ret;exact⟨ret_bool (by rw[HR.out]),hb0⟩
def Ck(w:World)(b lo:Nat)(code:Int)(ok:Bool):Prop:=
 w.cell? ⟨b,0,none⟩=some (.int .i64 code)∧w.frozen? ⟨b,1,none⟩=false∧∃ev,w.cell? ⟨b,1,none⟩=some ev∧((ok=true∧ev=.nilIface)∨(ok=false∧∃n,Flt w lo n ev code))
def Tch(b:Nat)(w w':World):Prop:=
 w.grownBy w' (some b)∧(∀o,o≠1→w'.cell? ⟨b,o,none⟩=w.cell? ⟨b,o,none⟩)∧∀o,w'.frozen? ⟨b,o,none⟩=w.frozen? ⟨b,o,none⟩
theorem Tch.refl(b:Nat)(w:World):Tch b w w:=⟨World.grownBy.refl _ _,fun _ _=>rfl,fun _=>rfl⟩
theorem Tch.trans{b:Nat}{w w1 w2:World}(h1:Tch b w w1)(h2:Tch b w1 w2):Tch b w w2:=
 ⟨grownBy_trans h1.1 h2.1,fun o ho=>(h2.2.1 o ho).trans (h1.2.1 o ho),fun o=>(h2.2.2 o).trans (h1.2.2 o)⟩
theorem Tch.of_below{b:Nat}{w w':World}(hlt:b<w.heap.size)(h:Below w.heap.size w w'):Tch b w w':=
 ⟨⟨h.os,h.tape,h.output,h.size,fun k hk _=>h.block k hk⟩,fun o _=>h.cell (p:=⟨b,o,none⟩) hlt,fun o=>h.frozen (p:=⟨b,o,none⟩) hlt⟩
theorem Tch.under{b B:Nat}{w0 w w':World}(h:Tch b w w')(h0:Below B w0 w)(hB:B≤b)(hs:B≤w.heap.size):Below B w0 w':=
 h0.grown h.1 hs (fun k e=>by cases e;exact hB)
theorem Ck.lt{w:World}{b lo:Nat}{code:Int}{ok:Bool}(h:Ck w b lo code ok):b<w.heap.size:=cell_lt h.1
theorem Ck.below{w w':World}{b lo:Nat}{code:Int}{ok:Bool}(h:Ck w b lo code ok)(hb:Below w.heap.size w w'):Ck w' b lo code ok:=by
 obtain⟨h1,h2,ev,h3,h4⟩:=h;have hlt:b<w.heap.size:=cell_lt h1;refine⟨(hb.cell (p:=⟨b,0,none⟩) hlt).trans h1,(hb.frozen (p:=⟨b,1,none⟩) hlt).trans h2,ev,(hb.cell (p:=⟨b,1,none⟩) hlt).trans h3,?_⟩;rcases h4 with h4|⟨h4,n,h5⟩
 ·exact .inl h4
 ·exact .inr ⟨h4,n,h5.below hb⟩
theorem Ck.keep{w w':World}{b lo:Nat}{code:Int}{ok:Bool}(h:Ck w b lo code ok)(hb:w'.heap[b]?=w.heap[b]?)(hk:∀k,k<w.heap.size→lo≤k→w'.heap[k]?=w.heap[k]?):Ck w' b lo code ok:=by
 obtain⟨h1,h2,ev,h3,h4⟩:=h;refine⟨(World.cell?_of_block (a:=⟨b,0,none⟩) hb).trans h1,(World.frozen?_of_block (a:=⟨b,1,none⟩) hb).trans h2,ev,(World.cell?_of_block (a:=⟨b,1,none⟩) hb).trans h3,?_⟩;rcases h4 with h4|⟨h4,n,h5⟩
 ·exact .inl h4
 ·exact .inr ⟨h4,n,h5.keep fun k o v hl hc=>(World.cell?_of_block (a:=⟨k,o,none⟩) (hk k (cell_lt hc) hl)).trans hc⟩
theorem Ck.grown{w w':World}{b lo g:Nat}{code:Int}{ok:Bool}(h:Ck w b lo code ok)(hg:w.grownBy w' (some g))(hne:b≠g)(hl:g<lo):Ck w' b lo code ok:=
 h.keep (hg.block b h.lt (by simp;omega)) (fun k hk hlo=>hg.block k hk (by simp;omega))
theorem Ck.relo{w:World}{b lo lo':Nat}{code:Int}(h:Ck w b lo code true):Ck w b lo' code true:=by
 obtain⟨h1,h2,ev,h3,h4⟩:=h;rcases h4 with h4|⟨h4,_⟩
 ·exact⟨h1,h2,ev,h3,.inl h4⟩
 ·cases h4
theorem Ck.fresh(w:World)(code:Int)(t:TypeId):Ck (w.alloc (.cells #[.int .i64 code,.nilIface] t)) w.heap.size (w.heap.size+1) code true:=
 ⟨by simp,by simp,.nilIface,by simp,.inl ⟨rfl,rfl⟩⟩
theorem inside_nil(b lo:Nat)(place:ByteArray)(code:Int)(ok:Bool)(w:World)(h:Ck w b lo code ok):
 Calls Tryz.prog 78 #[.pointer (some ⟨b,0,none⟩),.string place,.nilIface] w fun e w'=>e=.returned (.tuple #[])∧w'=w:=by
 obtain⟨h1,h2,ev,h3,h4⟩:=h;rcases h4 with⟨rfl,rfl⟩|⟨rfl,n,h5⟩
 ·go_enter Tryz.func78,Tryz.ntmps78;go_wp2;go_end0;exact⟨rfl,rfl⟩
 ·obtain⟨t',x',rfl⟩:=h5.iface;clear h5;go_enter Tryz.func78,Tryz.ntmps78;go_wp2;go_end0;exact⟨rfl,rfl⟩
theorem inside_any(b lo:Nat)(place:ByteArray)(code:Int)(ok:Bool)(n:Nat)(v:Value)(w:World)(h:Ck w b lo code ok)(hv:Flt w lo n v code)(hlo:b<lo)(hsz:lo≤w.heap.size):
 Calls Tryz.prog 78 #[.pointer (some ⟨b,0,none⟩),.string place,v] w fun e w'=>e=.returned (.tuple #[])∧Ck w' b lo code false∧Tch b w w':=by
 have hlt:=h.lt;obtain⟨h1,h2,ev,h3,h4⟩:=h;rcases h4 with⟨rfl,rfl⟩|⟨rfl,m,h5⟩
 ·have HW:Hid (∀w',w'=(w.setCell ⟨b,1,none⟩ (.iface 174 (.pointer (some ⟨w.heap.size,0,none⟩)))).alloc (.cells #[.string place,v] 176)→Ck w' b lo code false∧Tch b w w'):=by
   rintro w' rfl;have hnb:(⟨b,1,none⟩:Addr).block≠w.heap.size:=(by show b≠_;omega);have hk:∀k o u,lo≤k→w.cell? ⟨k,o,none⟩=some u→((w.setCell ⟨b,1,none⟩ (.iface 174 (.pointer (some ⟨w.heap.size,0,none⟩)))).alloc (.cells #[.string place,v] 176)).cell? ⟨k,o,none⟩=some u:=by
    intro k o u hk hc;have:=cell_lt hc;rw[World.cell?_alloc_lt _ _ ⟨k,o,none⟩ (by simpa using this),World.cell?_setCell_other _ _ _ _ (by intro e;injection e with e1;omega)];exact hc
   refine⟨⟨?_,?_,_,?_,.inr ⟨rfl,n+1,⟨w.heap.size,v,rfl,hsz,?_,hv.keep hk⟩⟩⟩,⟨⟨rfl,rfl,rfl,by simp,fun k hk hn=>?_⟩,fun o ho=>?_,fun o=>?_⟩⟩
   ·rw[World.cell?_alloc_lt _ _ ⟨b,0,none⟩ (by simpa using hlt),World.cell?_setCell_other _ _ _ _ (by intro e;injection e with e1 e2;omega)];exact h1
   ·rw[World.frozen?_alloc_old _ _ ⟨b,1,none⟩ (by simpa using hnb)];simpa using h2
   ·rw[World.cell?_alloc_lt _ _ ⟨b,1,none⟩ (by simpa using hlt)];exact World.cell?_setCell_same _ _ _ h3
   ·rw[World.cell?_alloc_at _ _ _ _ (by simp)];rfl
   ·rw[Below.heap_alloc _ _ k (by simpa using hk)];exact Below.heap_setCell w _ _ k (fun h=>hn (by rw[h]))
   ·rw[World.cell?_alloc_lt _ _ ⟨b,o,none⟩ (by simpa using hlt),World.cell?_setCell_other _ _ _ _ (by intro e;injection e with e1 e2;omega)]
   ·rw[World.frozen?_alloc_old _ _ ⟨b,o,none⟩ (by simpa using hnb)];simp
  obtain⟨t',x',rfl⟩:=hv.iface;clear hv;go_enter Tryz.func78,Tryz.ntmps78;go_wp2;go_end0;exact⟨rfl,HW.out _ rfl⟩
 ·obtain⟨t',x',rfl⟩:=h5.iface;have HK:Hid (Ck w b lo code false):=⟨h1,h2,_,h3,.inr ⟨rfl,m,h5⟩⟩;obtain⟨t2,x2,rfl⟩:=hv.iface;clear h5 hv;go_enter Tryz.func78,Tryz.ntmps78;go_wp2;go_end0;exact⟨rfl,HK.out,Tch.refl _ _⟩
theorem need_any(b lo:Nat)(place:ByteArray)(code:Int)(ok hd:Bool)(w:World)(h:Ck w b lo code ok)(hlo:b<lo)(hsz:lo≤w.heap.size):
 Calls Tryz.prog 76 #[.pointer (some ⟨b,0,none⟩),.string place,.bool hd] w fun e w'=>e=.returned (.tuple #[])∧Ck w' b lo code (ok&&hd)∧Tch b w w':=by
 cases hd with
 |true=>
  have HK:Hid (Ck w b lo code (ok&&true)):=by show Ck w b lo code (ok&&true);simpa using h
  clear h;go_enter Tryz.func76,Tryz.ntmps76;go_wp2;go_end0;exact⟨rfl,HK.out,Tch.refl _ _⟩
 |false=>
  have hlt:=h.lt;have hb0:Below w.heap.size w (w.alloc (.cells #[.int .i64 code] 110)):=(Below.refl _ _).alloc (Nat.le_refl _) _;have HK:Hid (Ck (w.alloc (.cells #[.int .i64 code] 110)) b lo code ok∧Flt (w.alloc (.cells #[.int .i64 code] 110)) lo 0 (.iface 108 (.pointer (some ⟨w.heap.size,0,none⟩))) code):=
   ⟨h.below hb0,w.heap.size,rfl,hsz,by simp⟩
  have h1:=h.1;clear h;go_enter Tryz.func76,Tryz.ntmps76;go_wp2_with (go_at_call 78;refine(inside_any b lo place code ok 0 _ _ HK.out.1 HK.out.2 hlo (by simp;omega)).mono ?_;rintro e w' ⟨rfl,r1,r2⟩);go_end0;refine⟨rfl,by simpa using r1,(Tch.of_below hlt hb0).trans r2⟩
theorem within_any(b bl:Nat)(place:ByteArray)(code n lo hi:Int)(ok:Bool)(w:World)(h:Ck w b bl code ok)(hlo:b<bl)(hsz:bl≤w.heap.size):
 Calls Tryz.prog 101 #[.pointer (some ⟨b,0,none⟩),.string place,.int .i64 n,.int .i64 lo,.int .i64 hi] w fun e w'=>e=.returned (.tuple #[])∧Ck w' b bl code (ok&&(decide (lo≤n)&&decide (n≤hi)))∧Tch b w w':=by
 have HK:Hid (Ck w b bl code ok):=h;clear h;by_cases h1:lo≤n<;>by_cases h2:n≤hi;all_goals
  go_enter Tryz.func101,Tryz.ntmps101;go_wp2_with (go_at_call 76;refine(need_any b bl place code ok _ _ HK.out hlo hsz).mono ?_;rintro e w' ⟨rfl,r1,r2⟩);go_end0;refine⟨rfl,?_,r2⟩;first
  |(rw[show(decide (lo≤n)&&decide (n≤hi))=true by rw[Bool.and_eq_true];simp;omega];exact r1)
  |(rw[show(decide (lo≤n)&&decide (n≤hi))=false by rw[Bool.and_eq_false_iff];simp;omega];exact r1)
def FaultIs(w:World)(lo:Nat)(ok:Bool)(ev:Value)(code:Int):Prop:=(ok=true∧ev=.nilIface)∨(ok=false∧∃m,Flt w lo m ev code)
theorem FaultIs.mono{w:World}{lo lo':Nat}{ok:Bool}{ev:Value}{code:Int}(h:FaultIs w lo ok ev code)(hl:lo'≤lo):FaultIs w lo' ok ev code:=by
 rcases h with h|⟨h,m,h2⟩
 ·exact .inl h
 ·exact .inr ⟨h,m,h2.mono hl⟩
theorem inside_both(b lo:Nat)(place:ByteArray)(code:Int)(ok ok1:Bool)(ev:Value)(w:World)(h:Ck w b lo code ok)(hf:FaultIs w lo ok1 ev code)(hlo:b<lo)(hsz:lo≤w.heap.size):
 Calls Tryz.prog 78 #[.pointer (some ⟨b,0,none⟩),.string place,ev] w fun e w'=>e=.returned (.tuple #[])∧Ck w' b lo code (ok&&ok1)∧Tch b w w':=by
 rcases hf with⟨rfl,rfl⟩|⟨rfl,m,hm⟩
 ·refine(inside_nil b lo place code ok w h).mono ?_;rintro e w' ⟨rfl,rfl⟩;exact⟨rfl,by rw[Bool.and_true];exact h,Tch.refl _ _⟩
 ·refine(inside_any b lo place code ok m ev w h hm hlo hsz).mono ?_;rintro e w' ⟨rfl,h1,h2⟩;exact⟨rfl,by rw[Bool.and_false];exact h1,h2⟩
theorem FaultIs.below{w w':World}{lo:Nat}{ok:Bool}{ev:Value}{code:Int}(h:FaultIs w lo ok ev code)(hb:Below w.heap.size w w'):FaultIs w' lo ok ev code:=by
 rcases h with h|⟨h,m,h2⟩
 ·exact .inl h
 ·exact .inr ⟨h,m,h2.below hb⟩
theorem Ck.fault{w:World}{b lo:Nat}{code:Int}{ok:Bool}(h:Ck w b lo code ok):∃ev,w.cell? ⟨b,1,none⟩=some ev∧FaultIs w lo ok ev code:=by
 obtain⟨_,_,ev,c3,c4⟩:=h;exact⟨ev,c3,c4⟩
def okW(v:Int):Bool:=decide (0≤v)&&decide (v≤4294967295)
def bytesW(ws:List Int):List Int:=ws.flatMap fun v=>le 4 v.toNat
def goodW(ws:List Int):Bool:=decide (ws.length=128)&&ws.all okW
def encW(ws:List Int):List Int:=if goodW ws=true then bytesW ws else []
def codeW(ws:List Int):Int:=if goodW ws=true then 0 else 7
theorem bytesW_len(ws:List Int):(bytesW ws).length=4*ws.length:=by
 unfold bytesW;induction ws with
 |nil=>rfl
 |cons v ws ih=>rw[List.flatMap_cons,List.length_append,ih,le_len,List.length_cons];omega
theorem bytesW_take(ws:List Int)(k:Nat)(h:k<ws.length):bytesW (ws.take (k+1))=bytesW (ws.take k)++le 4 (ws.getD k 0).toNat:=by
 unfold bytesW;rw[List.take_succ_eq_append_getElem h,List.flatMap_append];simp[List.getD,h]
theorem all_take(ws:List Int)(k:Nat)(h:k<ws.length):(ws.take (k+1)).all okW=((ws.take k).all okW&&okW (ws.getD k 0)):=by
 rw[List.take_succ_eq_append_getElem h,List.all_append];simp[List.getD,h]
theorem append_fresh{P:Program}(w:World){ops:Array Oper}{rest:List Oper}{o:Oper}{a:Act}{Q:Exit→Act→World→Prop}
 (hg:o.guard=none) (s x:Operand) (t:TypeId) (hop:o.op=Op.call {callee:=Callee.builtin Builtin.append,args:=#[s,x],argTypes:=#[t,t]})
 (base:Nat) (e:TypeId) (i:TypeInfo) (z:Value) (size bytes:Nat) (h1:P.underlying t=some (.slice e)) (h2:P.info? e=some i) (h3:i.zero=some z) (h4:i.size=size) (h5:i.bytes=bytes) (h6:z.cells.size=size) (h7:0<size)
 (v:Value) (n:Nat) (xs:List Value) (hs:a.eval s=v) (hown:w.ownsRow base e size v n xs)
 (ad:Addr) (m c:Nat) (news:List Value) (hx:a.eval x=.slice (some ad) m c) (hn:news.length=m*size) (hc:∀j u,news[j]?=some u→w.cell? (ad.add j)=some u) (h1c:∀u∈news,u.oneCell'=true)
 (hm:0<m) (b1:n+m≤maxLen) (b2:(n+m)*bytes≤140737488355328) (b3:base≤w.heap.size)
 (hK:∀v' w',w'.ownsRow base e size v' (n+m) (xs++news)→w.grownBy w' v.ownBlock→(∀k,v'.ownBlock=some k→v.ownBlock=some k∨w.heap.size≤k)→wpList P ops Q rest (a.put o.dst v') w'):
 wpList P ops Q (o::rest) a w:=by
 have weak:∀w',w.grownBy w' none→∀r,w.grownBy w' r:=fun w' h r=>⟨h.os,h.tape,h.output,h.size,fun k hk _=>h.block k hk (by simp)⟩;rcases hown.2 with⟨rfl,rfl⟩|⟨g,cap,cur,rfl,hb,hgr,hnc,hcm,hcs,htake⟩
 ·have hx0:xs=[]:=List.eq_nil_of_length_eq_zero (by simpa using hown.1);subst hx0;refine wpList_append_grows w hg s x t hop e i z size bytes h1 h2 h3 h4 h5 h6 h7 none 0 0 [] hs (fun _=>⟨rfl,rfl⟩) (by simp) (fun b h=>by cases h) ad m c news hx hn hc h1c (by omega) b1 b2 ?_;intro v' w' r1 r2;exact hK v' w' (own_mono r1 b3) (weak w' r2 _) (fun k hk=>.inr (r1.lt k hk).1)
 ·by_cases hroom:n+m≤cap
  ·refine wpList_append_fits w hg s x t hop base e i size h1 h2 h4 g n cap xs hs hown ad m c news hx hn hc h1c hroom ?_;intro w' r1 r2;exact hK _ w' r1 r2 (fun k hk=>.inl hk)
  ·refine wpList_append_grows w hg s x t hop e i z size bytes h1 h2 h3 h4 h5 h6 h7 (some ⟨g,0,none⟩) n cap xs hs (fun h=>by cases h) hown.1 (fun b h j u hj=>by cases h;exact hown.cells (g:=g) rfl j u hj) ad m c news hx hn hc h1c (by omega) b1 b2 ?_;intro v' w' r1 r2;exact hK v' w' (own_mono r1 b3) (weak w' r2 _) (fun k hk=>.inr (r1.lt k hk).1)
def AllRd(w:World):List Value→List (List Int)→Prop
 |[],[]=>True
 |v::vs,b::bs=>Rd .u8 w v b∧AllRd w vs bs
 |_,_=>False
theorem AllRd.below{w w':World}(hb:Below w.heap.size w w'):∀{vs:List Value} {bs:List (List Int)},AllRd w vs bs→AllRd w' vs bs
 |[],[],_=>trivial
 |_::_,_::_,h=>⟨h.1.below hb,AllRd.below hb h.2⟩
 |[],_::_,h=>h.elim
 |_::_,[],h=>h.elim
theorem AllRd.snoc{w:World}{v:Value}{b:List Int}(hv:Rd .u8 w v b):∀{vs:List Value} {bs:List (List Int)},AllRd w vs bs→AllRd w (vs++[v]) (bs++[b])
 |[],[],_=>⟨hv,trivial⟩
 |_::_,_::_,h=>⟨h.1,AllRd.snoc hv h.2⟩
 |[],_::_,h=>h.elim
 |_::_,[],h=>h.elim
theorem AllRd.len{w:World}:∀{vs:List Value} {bs:List (List Int)},AllRd w vs bs→vs.length=bs.length
 |[],[],_=>rfl
 |_::_,_::_,h=>by simp[AllRd.len h.2]
 |[],_::_,h=>h.elim
 |_::_,[],h=>h.elim
theorem AllRd.at{w:World}:∀{vs:List Value} {bs:List (List Int)} (k:Nat),AllRd w vs bs→k<bs.length→∃v,vs[k]?=some v∧Rd .u8 w v (bs.getD k [])
 |v::vs,b::bs,0,h,_=>⟨v,rfl,h.1⟩
 |v::vs,b::bs,k+1,h,hk=>by
  obtain⟨u,h1,h2⟩:=AllRd.at k h.2 (by simpa using hk);exact⟨u,by simpa using h1,by simpa using h2⟩
 |[],[],k,_,hk=>by simp at hk
 |[],_::_,_,h,_=>h.elim
 |_::_,[],_,h,_=>h.elim
def Byt(zs:List Int):Prop:=∀z∈zs,0≤z∧z<256
theorem Byt.nil:Byt []:=by intro z hz;cases hz
theorem Byt.snoc{zs:List Int}{z:Int}(h:Byt zs)(h0:0≤z)(h1:z<256):Byt (zs++[z]):=by
 intro y hy;rcases List.mem_append.mp hy with hy|hy
 ·exact h y hy
 ·rw[List.mem_singleton.mp hy];exact⟨h0,h1⟩
theorem bytes_drawn{w0 W:World}{b:Nat}{cv:Value}{cs:List Int}(h:Sc w0 W b cv cs)(n:Nat)(hn:n≤1048576):
 Calls Tryz.prog 70 #[.pointer (some ⟨b,0,none⟩),.int .i64 (n:Int)] W fun e w'=>∃(v:Value) (zs:List Int),e=.returned v∧zs.length=n∧Byt zs∧w'.ownsRow W.heap.size 5 1 v n (zs.map (Value.int .u8))∧Sc w0 w' b cv cs∧W.grownBy w' (some b):=by
 obtain⟨i0,hi,hz0,hz1,hz2⟩:=info_parts infoU8;have HD:=hide (Dn.start h);clear h;have H0:=hide (And.intro (HD.out.own (show Below W.heap.size W (W.alloc (.cells #[] 5)) from(Below.refl _ _).alloc (Nat.le_refl _) _)) (own_empty W 5));clear HD;go_enter Tryz.func70,Tryz.ntmps70;go_wp2;go_loopw [5,6] (fun v i wr=>∃(k:Nat) (zs:List Int),k≤n∧i=.int .i64 k∧zs.length=k∧Byt zs∧Dn w0 W wr b cv cs∧wr.ownsRow W.heap.size 5 1 v k (zs.map (Value.int .u8))) (fun _ i _=>n-(intOf i).toNat)
 case atStart=>exact⟨0,[],by omega,rfl,rfl,Byt.nil,H0.out.1,H0.out.2⟩
 case round=>
  clear H0;obtain⟨k,zs,hk,rfl,hl,hB,hd,ho⟩:=hrel;have HK:=hide (And.intro hd ho);have HB:=hide (And.intro hl hB);clear hd ho hl hB;by_cases hkn:k<n
  ·go_wp2_with fail;refine(HK.out.1.sc.N 256 (by omega) (by omega)).mono ?_;rintro e w2 ⟨z,rfl,hy0,hy1,s2,d2⟩;have HM:=hide (And.intro (HK.out.1.draw s2 d2) (HK.out.1.row HK.out.2 d2 (Nat.le_refl _)));have HLE:=hide HM.out.1.gb.size;clear s2 d2 HK;go_wp2_with (first|(at_builtin;refine append_fresh _ rfl (.tmp 13) (.tmp 17) 22 rfl W.heap.size 5 i0 (.int .u8 0) 1 1 Tryz.underlying22 hi hz0 hz1 hz2 rfl (by decide) _ _ _ rfl (HM.out.2.alloc _) ⟨w2.heap.size,0,none⟩ 1 1 [.int .u8 z] rfl rfl (cell_one_new _ _ _) (one_u8 _) (by omega) (by unfold maxLen;omega) (by omega) (by have:=HLE.out;simp;omega) ?_;intro v7 w7 o7 g7 f7;have O7:=hide o7;have G7:=hide g7;clear o7 g7 f7)|fail);have HW:=hide (show Dn w0 W w7 b cv cs∧w7.ownsRow W.heap.size 5 1 v7 (k+1) ((zs++[z]).map (Value.int .u8)) from⟨HM.out.1.grew HM.out.2 G7.out (Nat.le_refl _),by rw[List.map_append];exact O7.out⟩);have HC:=hide (And.intro (show(zs++[z]).length=k+1 by rw[List.length_append,HB.out.1];rfl) (HB.out.2.snoc hy0 (by omega)));clear HM O7 G7 HB;go_roundw
   case rel=>exact⟨k+1,_,by omega,by go_num,HC.out.1,HC.out.2,HW.out.1,HW.out.2⟩
   case measure=>simp[intOf];omega
  ·obtain rfl:k=n:=(by omega);go_wp2;go_ret;exact⟨_,_,rfl,HB.out.1,HB.out.2,HK.out.2,HK.out.1.sc,HK.out.1.gb⟩
end
end Go.Proofs.YtbhpealglhkodaaGreatDoor
