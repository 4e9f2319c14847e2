/- What the law on maps asks of a flush over a map that lies in the image -/
import Derived.Test.YtlimollpocagiaaGreatDoorXa45
namespace Go.Proofs.YtlimollpocagiaaGreatDoor
open Go.Proofs.Tryz
set_option linter.all false
set_option maxRecDepth 100000
set_option maxHeartbeats 16000000
section
open Go.RowKit
theorem El{zs:List Int}{n:Nat}{ws0 ws:List Int}{g:Nat→Int}{cu:Int}{m:Nat}(hm:m=(n+127)/128)(hG:jJ zs n ws0 g)(hwl:ws.length=n)(hpar:∀b,ws0.getD b 0%2=1→ws.getD b 0%2=1)(h0:cU zs (4*(n:Int)) (aU m g) (g m) 0 ws cu=0):
 ∃g2,gT zs (4*(n:Int)) (aU m g) (g m) 0 ws cu=aD (4*(n:Int)) (aU m g2) (g2 m) 0∧jJ (ee zs (fZ zs (4*(n:Int)) (aU m g) (g m) 0 ws cu)) n (fS zs (4*(n:Int)) (aU m g) (g m) 0 ws cu) g2∧
 (∀p∈fZ zs (4*(n:Int)) (aU m g) (g m) 0 ws cu,gF n p∧ws0.getD p.1.toNat 0=0∧ws.getD p.1.toNat 0=0)∧
 (∀b:Nat,(b:Int)∈bY m g→(b:Int)∉bY m g2→(fS zs (4*(n:Int)) (aU m g) (g m) 0 ws cu).getD b 0%2=0)∧
 (∀b:Nat,(b:Int)∉bY m g→(b:Int)∉bY m g2→(fS zs (4*(n:Int)) (aU m g) (g m) 0 ws cu).getD b 0=ws.getD b 0):=by
 subst hm;obtain⟨ol,h1,h2,h3,h4⟩:=Dc hG hwl hpar h0;refine⟨fD zs (4*(n:Int)) (aU ((n+127)/128) g) (g ((n+127)/128)) 0 ws cu,?_,?_,?_,?_,?_⟩
 ·unfold gT;rw[if_pos h0,hwl,vD]
 ·unfold fZ fS;rw[if_pos h0,if_pos h0,hwl];exact h3
 ·intro p hp;unfold fZ at hp;rw[if_pos h0,hwl] at hp;refine⟨h4 p hp,?_⟩;obtain⟨k,hk,rfl⟩:=List.mem_map.1 hp;have h5:=h2.put k hk;exact⟨h5.2,h5.1⟩
 ·intro b hb hn;unfold fS;rw[if_pos h0];obtain⟨k,hk,e⟩:=lN.1 hb;have h5:=hG.map.rng k hk;have h6:=h2.up k hk (by rw[h1];omega) (fun j hj e2=>hn (lN.2 ⟨j,hj,by rw[e2,h1];exact e⟩));rw[h1, ←e,Int.toNat_natCast] at h6;exact h6
 ·intro b hb hn;unfold fS;rw[if_pos h0];refine h2.oth b (fun k hk e=>hn (lN.2 ⟨k,hk,e⟩)) (fun k hk e=>absurd (lN.2 ⟨k,hk,?_⟩) hb);rw[←h1];exact e
def je(x:Int):Int:=if x<64∨2048<x then 0 else if 1536<x then(x+127)/128+1 else(x+127)/128
theorem Em(x:Int)(w:World)(h0:64≤x)(h1:x≤2048):Calls prog 49 #[.int .i64 (4*x)] w fun e w'=>e=.returned (.int .i64 ((x+127)/128))∧w=w':=by
 obtain⟨s,hs⟩:∃s:Int,s=4*x:=⟨_,rfl⟩;have HE:=aa hs;rw[←hs];have h2:256≤s:=by omega
 have h3:s≤8192:=by omega
 have H:=aa (ag h0 h1);clear hs h0 h1;by_cases hr:s%512=0
 ·have hq:(s%512 !=0)=false:=by simp[hr]
  have HR:=aa hr;clear hr;go_enter func49,ntmps49;go_wp2;go_ret;exact⟨fK (by have:=HR.out;have:=HE.out;omega),rfl⟩
 ·have hq:(s%512 !=0)=true:=by simpa using hr
  have HR:=aa hr;clear hr;go_enter func49,ntmps49;go_wp2;go_ret;exact⟨fK (by have:=HR.out;have:=HE.out;omega),rfl⟩
theorem En(x:Int)(w:World):Calls prog 15 #[.int .i64 x] w fun e w'=>e=.returned (.int .i64 (je x))∧w=w':=by
 by_cases h0:x<64
 ·have HR:=ae (je x=0) (by unfold je;rw[if_pos (by omega)]);go_enter func15,ntmps15;go_wp2;go_ret;exact⟨fK HR.out.symm,rfl⟩
 ·by_cases h1:2048<x
  ·have HR:=ae (je x=0) (by unfold je;rw[if_pos (by omega)]);go_enter func15,ntmps15;go_wp2;go_ret;exact⟨fK HR.out.symm,rfl⟩
  ·have a0:64≤x:=(by omega);have a1:x≤2048:=(by omega);obtain⟨m,hm⟩:∃m:Int,m=(x+127)/128:=⟨_,rfl⟩;have HC:=aa (fun w=>Em x w a0 a1);rw[←hm] at HC;have m0:0≤m:=(by omega);have m1:m≤16:=(by omega);by_cases h2:1536<x
   ·have HR:=ae (je x=m+1) (by unfold je;rw[if_neg (by omega),if_pos h2,hm]);have m2:12<m:=(by omega);clear hm;go_enter func15,ntmps15;go_wp2_with (go_at_call 49;refine(HC.out _).mono ?_;rintro e w' ⟨rfl,rfl⟩);go_ret;exact⟨fK HR.out.symm,rfl⟩
   ·have HR:=ae (je x=m) (by unfold je;rw[if_neg (by omega),if_neg h2,hm]);have m2:m≤12:=(by omega);clear hm;go_enter func15,ntmps15;go_wp2_with (go_at_call 49;refine(HC.out _).mono ?_;rintro e w' ⟨rfl,rfl⟩);go_ret;exact⟨fK HR.out.symm,rfl⟩
theorem kK(v:Value)(zs:List Int)(w:World)(h:Rd .u8 w v zs)(hn:zs.length≤1048576):
 Calls prog 9 #[v] w fun e w'=>∃v',e=.returned v'∧w'.ownsRow w.heap.size 5 1 v' zs.length (zs.map (Value.int .u8))∧Below w.heap.size w w':=by
 obtain⟨i0,hi,hz0,hz1,hz2⟩:=info_parts iR;obtain⟨a,cap,rfl⟩:=Bd h;have HR:=aa h.ux;clear h;go_enter func9,ntmps9;go_wp2_with (first|(at_builtin;refine qv w rfl (.tmp 3) (.tmp 4) 22 rfl 5 i0 (.int .u8 0) 1 1 underlying22 hi hz0 hz1 hz2 rfl (by decide) rfl a zs.length cap (zs.map (Value.int .u8)) rfl (by simp) HR.out (ints_oneCell _ _) (by unfold maxLen;omega) (by omega) ?_;intro v1 w1 o1 b1;have O1:=aa (ag o1 b1);clear o1 b1)|fail);go_ret;exact⟨_,rfl,O1.out.1,O1.out.2⟩
theorem wY{w:World}{a:Option Addr}{cap:Nat}{zs:List Int}(h:Rd .i64 w (.slice a zs.length cap) zs):0<zs.length→∃bd off,a=some ⟨bd,off,none⟩∧bd<w.heap.size∧∀j u,(zs.map (Value.int .i64))[j]?=some u→w.cell? ⟨bd,off+j,none⟩=some u:=by
 intro hn;obtain⟨bd,off,cp,e,hbw,_,_,hcell⟩:=h.dj hn;injection e with e1 e2 e3;refine⟨bd,off,e1,hbw,fun j u hu=>?_⟩;rw[List.getElem?_map] at hu;have hj:j<zs.length:=by
  rcases Nat.lt_or_ge j zs.length with h|h
  ·exact h
  ·rw[List.getElem?_eq_none h] at hu;cases hu
 rw[hcell j hj];rw[List.getElem?_eq_getElem hj] at hu;simp at hu;rw[←hu];simp[List.getD,hj]
theorem jM{w:World}{g n c:Nat}{zs:List Int}(h:Rd .i64 w (.slice (some ⟨g,0,none⟩) n c) zs):∀j u,(zs.map (Value.int .i64))[j]?=some u→w.cell? (Addr.add ⟨g,0,none⟩ j)=some u:=by
 intro j u hu;have hj:j<zs.length:=by simpa using(List.getElem?_eq_some_iff.1 hu).1
 have hn:n=zs.length:=by obtain⟨_,_,e,_⟩:=h;injection e
 subst hn;obtain⟨bd,off,e1,_,hc⟩:=wY h (by omega);injection e1 with e1;injection e1 with e1 e2;subst e1 e2;have h1:=hc j u hu;rw[Addr.add_mid];exact h1
end
section
section
variable {P:Program} {ops:Array Oper} {Q:Exit→Act→World→Prop} {md:Region.Mode} {S:World→Prop} {m:Nat} {oi:Oper} {fuel:Nat} {listed l':Array Bool} {a a':Act} {w:World}
theorem jf(i:Nat)(v:Value)(hi:ops[i]?=some oi)(hS:S w)(h:fj P md ops Q S m fuel l' a' w)
 (hy:YieldsIf P ops S oi v a:=by exact iJ ⟨by rfl,fun w' hw'=>by go_simp⟩)
 (hs:Region.noSelect ops=true:=by kernel_rfl) (hf:Region.free md ops listed i=true:=by kernel_rfl) (hr:(Region.ready md ops listed).contains i=true:=by kernel_rfl)
 (hw:nC md ops m i=true:=by kernel_rfl) (hml:listed.getD m true=false:=by kernel_rfl)
 (hQ:∀c a w,Q (.panic c) (a.put oi.dst v) w→Q (.panic c) a w:=by exact fun _ _ _ h=>h)
 (ha:a.put oi.dst v=a':=by(try simp only[Act.put,aq,au,av,ay,az,aA]);rfl)
 (hl:listed.setIfInBounds i true=l':=by(try simp only[aq,au,av,ay,az,aA]);rfl):fj P md ops Q S m (fuel+1) listed a w:=by
 subst ha hl;exact tN hi hs hf hr hw hml hQ hy hS h
theorem wZ(i:Nat){o:Oper}(ho:ops[i]?=some o)
 (h:∀K':Act→World→Prop,Shut (∀a w,(i≠m→listed.getD m true=false→S w)→fj P md ops Q S m fuel (listed.setIfInBounds i true) a w→K' a w)→if Region.wanted o (yielded ops a.tmps)=true then Oper.wp P o a w K' Q else K' (a.put o.dst undef) w)
 (hr:Region.ready md ops listed=[i]:=by kernel_rfl):fj P md ops Q S m (fuel+1) listed a w:=ez hr ho h
theorem Eo(h:Q .normal a w)(hr:Region.ready md ops listed=[]:=by kernel_rfl):fj P md ops (NoPanic Q) S m fuel listed a w:=kg hr (NoPanic.normal h) fuel
theorem Ep{id:Nat}(S:World→Prop)(m:Nat)(h:fj P .any ops (NoPanic Q) S m ops.size (Array.replicate ops.size false) a w.drew)(hm:P.follows .mixedOrders=true:=by kernel_rfl):(Code.region id ops true).wp P Q a w:=
 wp_region_noPanic (lu S m hm h)
end
end
end Go.Proofs.YtlimollpocagiaaGreatDoor
