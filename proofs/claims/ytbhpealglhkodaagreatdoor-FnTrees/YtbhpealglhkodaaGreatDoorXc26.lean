/- Short words for the steps of a region in which something is held only until one operation  -/
import Derived.Test.YtbhpealglhkodaaGreatDoorXc24
import Derived.Deep.Cut
namespace Go.Proofs.YtbhpealglhkodaaGreatDoor
set_option linter.all false
set_option maxRecDepth 100000
set_option maxHeartbeats 16000000
section
section
variable {P:Program} {ops:Array Oper} {Q:Exit→Act→World→Prop} {md:Region.Mode} {S:World→Prop} {m:Nat} {oi:Oper} {fuel:Nat} {listed l':Array Bool} {a a':Act} {w:World}
theorem sqmt(i:Nat)(v:Value)(hi:ops[i]?=some oi)(hS:S w)(h:wpAnyM P md ops Q S m fuel l' a' w)
 (hy:YieldsIf P ops S oi v a:=by exact Or.inl ⟨by rfl,fun w' hw'=>by go_simp⟩)
 (hs:Region.noSelect ops=true:=by kernel_rfl) (hf:Region.free md ops listed i=true:=by kernel_rfl) (hr:(Region.ready md ops listed).contains i=true:=by kernel_rfl)
 (hw:waitsM md ops m i=true:=by kernel_rfl) (hml:listed.getD m true=false:=by kernel_rfl)
 (hQ:∀c a w,Q (.panic c) (a.put oi.dst v) w→Q (.panic c) a w:=by exact fun _ _ _ h=>h)
 (ha:a.put oi.dst v=a':=by(try simp only[Act.put,sqA,sqB,sqC,sqD,sqE,sqF]);rfl)
 (hl:listed.setIfInBounds i true=l':=by(try simp only[sqA,sqB,sqC,sqD,sqE,sqF]);rfl):wpAnyM P md ops Q S m (fuel+1) listed a w:=by
 subst ha hl;exact wpAnyM_take hi hs hf hr hw hml hQ hy hS h
theorem sqmy(i:Nat){o:Oper}(ho:ops[i]?=some o)
 (h:∀K':Act→World→Prop,Shut (∀a w,(i≠m→listed.getD m true=false→S w)→wpAnyM P md ops Q S m fuel (listed.setIfInBounds i true) a w→K' a w)→if Region.wanted o (yielded ops a.tmps)=true then Oper.wp P o a w K' Q else K' (a.put o.dst undef) w)
 (hr:Region.ready md ops listed=[i]:=by kernel_rfl):wpAnyM P md ops Q S m (fuel+1) listed a w:=wpAnyM_one hr ho h
theorem sqmd(h:Q .normal a w)(hr:Region.ready md ops listed=[]:=by kernel_rfl):wpAnyM P md ops (NoPanic Q) S m fuel listed a w:=wpAnyM_done hr (NoPanic.normal h) fuel
theorem sqmh{id:Nat}(S:World→Prop)(m:Nat)(h:wpAnyM P .any ops (NoPanic Q) S m ops.size (Array.replicate ops.size false) a w.drew)(hm:P.follows .mixedOrders=true:=by kernel_rfl):(Code.region id ops true).wp P Q a w:=
 wp_region_noPanic (wp_region_heldM S m hm h)
end
end
section
open Go.RowKit
def jobD(iv fv:Value)(u:Nat)(pv:Value)(s:Int):Array Value:=#[iv,fv,.bool false,.int .i64 (u:Int),pv,.int .i64 s]
def shC(s:Bool):Int:=if s=true then 9 else 0
def TyJ(t:TypeId):Prop:=t=62∨t=57
theorem infoPutJ:(Tryz.prog.info? 57).map (fun i=>(i.zero,i.size,i.bytes))=some (some (.agg #[.int .i64 0,.slice none 0 0]),2,32):=by kernel_rfl
theorem infoU8J:(Tryz.prog.info? 5).map (fun i=>(i.zero,i.size,i.bytes))=some (some (.int .u8 0),1,1):=by kernel_rfl
theorem belJ{B:Nat}{w0 w:World}(h:Below B w0 w):∀n,Below B w0 (w.drewN n)
 |0=>h
 |n+1=>(belJ h n).drew
theorem fresh_some(tr:Array Value)(cv:Value)(Lo Ln:Nat→List Int)(P:List (Int×List Int))(sh:Bool)(x:Int)(xs ys:List Int):RD.fresh {tr,cv,Lo,Ln,P,sh,st:=some (x::xs)} ys={tr,cv,Lo,Ln,P:=P++[(x,ys)],sh,st:=some xs}:=rfl
theorem gbJ_below{w w1 w2:World}{r:Option Nat}(h:w.grownBy w1 r)(hb:Below w1.heap.size w1 w2):w.grownBy w2 r:=
 ⟨hb.os.trans h.os,hb.tape.trans h.tape,hb.output.trans h.output,Nat.le_trans h.size hb.size,fun k hk hr=>(hb.block k (Nat.lt_of_lt_of_le hk h.size)).trans (h.block k hk hr)⟩
theorem gbJ_set{w w1:World}{g i:Nat}{o:Option Nat}(h:w.grownBy w1 (some g))(v:Value):w.grownBy (w1.setCell ⟨g,i,o⟩ v) (some g):=
 ⟨h.os,h.tape,h.output,by rw[World.size_setCell];exact h.size,fun k hk hr=>(Below.heap_setCell w1 ⟨g,i,o⟩ v k (fun e=>hr (by rw[e]))).trans (h.block k hk hr)⟩
structure JStC(W0 w:World)(b:Nat)(iv fv:Value)(fs:List Int)(D:RD)(u:Nat)(pv:Value)(vs:List Value):Prop where
 box:Blk w b (jobD iv fv u pv (shC D.sh)) 62
 puts:OwnN w W0.heap.size 57 1 pv (D.P.map neR) vs
 le:u≤fs.length
 st:D.st=some (fs.drop u)
 lo:W0.heap.size≤b
 low:Below W0.heap.size W0 w
def JSt(W0 w:World)(b:Nat)(iv fv:Value)(fs:List Int)(D:RD):Prop:=∃u pv vs,JStC W0 w b iv fv fs D u pv vs
theorem JStC.below{W0 w w':World}{b:Nat}{iv fv:Value}{fs:List Int}{D:RD}{u:Nat}{pv:Value}{vs:List Value}(h:JStC W0 w b iv fv fs D u pv vs)(hb:Below w.heap.size w w'):JStC W0 w' b iv fv fs D u pv vs:=
 ⟨h.box.below hb h.box.lt,h.puts.below hb,h.le,h.st,h.lo,h.low.trans (hb.mono h.low.size)⟩
theorem JSt.below{W0 w w':World}{b:Nat}{iv fv:Value}{fs:List Int}{D:RD}(h:JSt W0 w b iv fv fs D)(hb:Below w.heap.size w w'):JSt W0 w' b iv fv fs D:=by
 obtain⟨u,pv,vs,h⟩:=h;exact⟨u,pv,vs,h.below hb⟩
theorem freshJ_any(W0 w:World)(b ic L:Nat)(ia:Option Addr)(fa:Option Addr)(fl fc:Nat)(fs:List Int)(da:Option Addr)(m dc:Nat)(ys:List Int)(D:RD)
 (h:JSt W0 w b (.slice ia L ic) (.slice fa fl fc) fs D) (hfl:fl=fs.length) (hf:Rd .i64 W0 (.slice fa fl fc) fs) (hx:∀x∈fs,2≤x∧x<((L/512:Nat):Int)) (hL:L≤1048576) (hfl2:fs.length≤100000)
 (hm:m=ys.length) (hd:Rd .u8 w (.slice da m dc) ys) (hdn:∀k:Nat,da.map (·.block)=some k→k≠b) (hy:0<ys.length) (hy2:ys.length≤1048576) (hP:D.P.length≤100000):
 Calls Tryz.prog 60 #[.pointer (some ⟨b,0,none⟩),.slice da m dc] w fun e w'=>e=.returned (.int .i64 (supN D.st))∧JSt W0 w' b (.slice ia L ic) (.slice fa fl fc) fs (D.fresh ys)∧KpY TyJ w w'∧Below W0.heap.size w w':=by
 obtain⟨u,pv,vs,hA⟩:=h;obtain⟨tr,cv,Lo,Ln,P,sh,st⟩:=D;have hst:st=some (fs.drop u):=hA.st;subst hst;obtain⟨pa,pc,rfl⟩:=own_shape hA.puts.row;rw[List.length_map] at hA;obtain⟨pn,hpn⟩:∃pn,pn=P.length:=⟨_,rfl⟩;have hP2:pn≤100000:=by rw[hpn];exact hP
 have hA2:JStC W0 w b (.slice ia L ic) (.slice fa fl fc) fs {tr,cv,Lo,Ln,P,sh,st:=some (fs.drop u)} u (.slice pa pn pc) vs:=by rw[hpn];exact hA
 have HA:=hide hA2;have hle:u≤fl:=by rw[hfl];exact hA.le
 have hfl3:fl≤100000:=by omega
 have c0:=hA2.box.cell 0;have c1:=hA2.box.cell 1;have c2:=hA2.box.cell 2;have c3:=hA2.box.cell 3;have c5:=hA2.box.cell 5;have f3:=hA2.box.frozen 3;have f5:=hA2.box.frozen 5;have HL:=hide hL;have HPN:=hide hpn;clear hA hA2;simp[jobD] at c0 c1 c2 c3 c5;by_cases hlt:u<fl
 ·have hltn:u<fs.length:=by omega
  obtain⟨x,hxe⟩:∃x,x=fs[u]:=⟨_,rfl⟩;have hdr:fs.drop u=x::fs.drop (u+1):=by rw[hxe];exact List.drop_eq_getElem_cons hltn
  have hxin:=hx x (by rw[hxe];exact List.getElem_mem _);have HDr:=hide hdr;obtain⟨i0,hi,hz0,hz1,hz2⟩:=info_parts infoPutJ;obtain⟨i8,hi8,hz80,hz81,hz82⟩:=info_parts infoU8J;have hd':Rd .u8 w (.slice da ys.length dc) ys:=by rw[←hm];exact hd
  obtain⟨d,doff,dcp,e,hdb,_,_,hdc⟩:=hd'.partsC hy;injection e with e1 e2 e3;subst e1;obtain⟨f,fo,fcp,e,hfb,hfc1,hfc2,hfc3⟩:=hf.partsC (by omega);injection e with e4 e5 e6;subst e4 e6;have hf0:W0.cell? ⟨f,fo+u,none⟩=some (.int .i64 x):=by
   have:=hfc3 u hltn;rw[this,hxe];simp[List.getD,hltn]
  have hfx:w.cell? ⟨f,fo+u,none⟩=some (.int .i64 x):=(HA.out.low.cell (p:=⟨f,fo+u,none⟩) hfb).trans hf0;have HF:=hide (And.intro hfb hf0);have HN:=hide hm;have HFL:=hide hfl;have HD:=hide (And.intro hdb hdc);have HDN:=hide (show some d≠some b from fun e=>by injection e with e;exact hdn d rfl e);have q1:¬(x<2):=by omega
  obtain⟨nb,hnb⟩:∃nb,nb=L/512:=⟨_,rfl⟩;have q2:(L:Int)/512=(nb:Int):=by omega
  have q3:¬((nb:Int)≤x):=by omega
  have q0:¬((fl:Int)≤(u:Int)):=by omega
  have hul:(u:Int)<(fl:Int):=by omega
  have hn0:0<m:=by omega
  have hn2:m≤1048576:=by omega
  clear hfl hnb hxin hdb hdc hm hy hy2 e2 e3 e5 hd hd' hdn hx hxe hdr hf hfb hfc1 hfc2 hfc3 hf0 hltn hpn;go_enter Tryz.func60,Tryz.ntmps60;go_upto_region 4 with fail;go_quiet (fail)
  go_upto_region 8 with fail;clear c0 c1 c2 c3 c5 f3 f5;have B1:=hide (belJ (Below.refl w.heap.size w) nq);generalize w.drewN nq=W1 at B1⊢;clear nq;have K1:=hide (HA.out.below B1.out);have c0:=K1.out.box.cell 0;have c1:=K1.out.box.cell 1;have c3:=K1.out.box.cell 3;have f3:=K1.out.box.frozen 3;simp[jobD] at c0 c1 c3;have hf1:=(B1.out.cell (p:=⟨f,fo+u,none⟩) (cell_lt hfx)).trans hfx;go_quiet (fail)
  go_upto_region 14 with fail;clear c0 c1 c3 f3 hf1 hfx;have B2:=hide (belJ (Below.refl W1.heap.size W1) nq);have K2:=hide (K1.out.below B2.out);have HY:=hide (show Blk ((W1.drewN nq).setCell ⟨b,3,none⟩ (.int .i64 ((u+1:Nat):Int))) b (jobD (.slice ia L ic) (.slice (some ⟨f,fo,none⟩) fl fc) (u+1) (.slice pa pn pc) (shC sh)) 62∧OwnN ((W1.drewN nq).setCell ⟨b,3,none⟩ (.int .i64 ((u+1:Nat):Int))) W0.heap.size 57 1 (.slice pa pn pc) (P.map neR) vs∧(w.grownBy ((W1.drewN nq).setCell ⟨b,3,none⟩ (.int .i64 ((u+1:Nat):Int))) (some b)∧KpY TyJ w ((W1.drewN nq).setCell ⟨b,3,none⟩ (.int .i64 ((u+1:Nat):Int)))∧Below W0.heap.size w ((W1.drewN nq).setCell ⟨b,3,none⟩ (.int .i64 ((u+1:Nat):Int)))) from
   ⟨K2.out.box.set 3 _,(KpY.setCell (T:=fun t=>t=62) (KpY.refl _ _) K2.out.box rfl).ownN K2.out.puts (by decide) (by decide),gbJ_set (gbJ_below (gbJ_below (World.grownBy.refl w (some b)) B1.out) B2.out) _,(((KpY.refl TyJ w).below B1.out).below B2.out).setCell K2.out.box (.inl rfl),(((Below.refl _ _).trans (B1.out.mono HA.out.low.size)).trans (B2.out.mono K1.out.low.size)).setCell (p:=⟨b,3,none⟩) K2.out.lo _⟩)
  rw[show(.int .i64 ((u:Int)+1):Value)=.int .i64 ((u+1:Nat):Int) by rfl] at*;generalize (W1.drewN nq).setCell ⟨b,3,none⟩ (.int .i64 ((u+1:Nat):Int))=Y at HY⊢;clear B2 K2 nq;have HZ:=hide (show Blk Y.drew b (jobD (.slice ia L ic) (.slice (some ⟨f,fo,none⟩) fl fc) (u+1) (.slice pa pn pc) (shC sh)) 62∧OwnN Y.drew W0.heap.size 57 1 (.slice pa pn pc) (P.map neR) vs∧(w.grownBy Y.drew (some b)∧KpY TyJ w Y.drew∧Below W0.heap.size w Y.drew) from⟨HY.out.1,HY.out.2.1.below (Below.refl _ _).drew,⟨HY.out.2.2.1.os,HY.out.2.2.1.tape,HY.out.2.2.1.output,HY.out.2.2.1.size,HY.out.2.2.1.block⟩,HY.out.2.2.2.1.below (Below.refl _ _).drew,HY.out.2.2.2.2.drew⟩);refine sqmh (fun w'=>Blk w' b (jobD (.slice ia L ic) (.slice (some ⟨f,fo,none⟩) fl fc) (u+1) (.slice pa pn pc) (shC sh)) 62) 12 ?_;generalize Y.drew=Z at HZ⊢;have hH:=HZ.out.1;refine sqmt 0 (.pointer (some ⟨b,0,none⟩)) rfl hH ?_;refine sqmt 1 (.pointer (some ⟨b,0,none⟩)) rfl hH ?_;refine sqmt 2 (.pointer (some ⟨b,0,none⟩)) rfl hH ?_;refine sqmt 3 (.pointer (some ⟨b,4,none⟩)) rfl hH ?_;refine sqmt 4 (.slice pa pn pc) rfl hH ?_ (sqyl (fun w' hw'=>by have c:=Blk.cell hw' 4;simp[jobD] at c;go_simp));refine sqmt 5 (.int .i64 x) rfl hH ?_;refine sqmt 7 (.slice (some ⟨d,doff,none⟩) m dc) rfl hH ?_;refine sqmy 6 rfl (fun K hK=>?_);go_simp;obtain⟨Z1,hZ1⟩:∃Z1,Z1=Z.alloc (.cells #[] 5):=⟨_,rfl⟩;have BZ1:=hide (show Below Z.heap.size Z Z1 from by rw[hZ1];exact(Below.refl _ _).alloc (Nat.le_refl _) _);have H1:=hide (show(Blk Z1 b (jobD (.slice ia L ic) (.slice (some ⟨f,fo,none⟩) fl fc) (u+1) (.slice pa pn pc) (shC sh)) 62∧w.grownBy Z1 (some b))∧Z1.ownsRow Z.heap.size 5 1 (.slice (some ⟨Z.heap.size,0,none⟩) 0 0) 0 [] from by rw[hZ1];exact⟨⟨HZ.out.1.alloc _,gbJ_below HZ.out.2.2.1 ((Below.refl _ _).alloc (Nat.le_refl _) _)⟩,own_emptyM Z _ 1⟩);rw[←hZ1];refine hK.out _ _ (fun _ _=>H1.out.1.1) ?_;clear hK K hZ1 hH;try simp only[Act.put,sqA,sqB,sqC,sqD,sqE,sqF]
  refine sqmy 8 rfl (fun K hK=>?_);rw[if_pos (by rfl)];refine wp_append_own _ (.tmp 88) (.tmp 89) 22 rfl Z.heap.size 5 i8 (.int .u8 0) 1 1 Tryz.underlying22 hi8 hz80 hz81 hz82 rfl (by decide) _ 0 [] rfl H1.out.2 ⟨d,doff,none⟩ m dc (ys.map (Value.int .u8)) rfl (by rw[List.length_map,HN.out,Nat.mul_one]) (fun j u hj=>?_) (fun u hu=>by obtain⟨z,_,rfl⟩:=List.mem_map.1 hu;rfl) (by unfold maxLen;omega) (by omega) BZ1.out.size ?_
  ·have hjl:j<ys.length:=(by simpa using(List.getElem?_eq_some_iff.1 hj).1);have e1:Z1.cell? ⟨d,doff+j,none⟩=w.cell? ⟨d,doff+j,none⟩:=World.cell?_of_block (H1.out.1.2.block d HD.out.1 HDN.out);rw[Addr.add_mid,e1,HD.out.2 j hjl, ←hj,List.getElem?_map,List.getElem?_eq_getElem hjl];simp[List.getD,hjl]
  intro v2 Z2 o2 g2 _;rw[Nat.zero_add,List.nil_append] at o2;obtain⟨va,vc,rfl⟩:=own_shape o2;have BZ2:=hide (show Below Z.heap.size Z Z2 from BZ1.out.grown g2 BZ1.out.size (fun r e=>by have e2:Z.heap.size=r:=Option.some.inj e;omega));have H2:=hide (And.intro (HZ.out.1.below BZ2.out HZ.out.1.lt) o2);refine hK.out _ _ (fun _ _=>H2.out.1) ?_;have hH:=H2.out.1;clear hK K o2 g2;try simp only[Act.put,sqA,sqB,sqC,sqD,sqE,sqF]
  refine sqmt 9 (.agg #[.int .i64 x,.slice va m vc]) rfl hH ?_;refine sqmy 10 rfl (fun K hK=>?_);go_simp;obtain⟨Z3,hZ3⟩:∃Z3,Z3=Z2.alloc (.cells #[.int .i64 x,.slice va m vc] 57):=⟨_,rfl⟩;have B23:=hide (show Below Z2.heap.size Z2 Z3 from by rw[hZ3];exact(Below.refl _ _).alloc (Nat.le_refl _) _);have BZ3:=hide (show Below Z.heap.size Z Z3 from BZ2.out.trans (B23.out.mono BZ2.out.size));have H3:=hide (show Blk Z3 b (jobD (.slice ia L ic) (.slice (some ⟨f,fo,none⟩) fl fc) (u+1) (.slice pa pn pc) (shC sh)) 62∧Z3.ownsRow Z.heap.size 5 1 (.slice va m vc) m (ys.map (Value.int .u8))∧OwnN Z3 W0.heap.size 57 1 (.slice pa pn pc) (P.map neR) vs∧(∀(j:Nat) u,(#[.int .i64 x,.slice va m vc]:Array Value).toList[j]?=some u→Z3.cell? (Addr.add ⟨Z2.heap.size,0,none⟩ j)=some u) from⟨HZ.out.1.below BZ3.out HZ.out.1.lt,own_below H2.out.2 B23.out,HZ.out.2.1.below BZ3.out,by rw[hZ3];exact cells_newR Z2 _ _⟩);rw[←hZ3];refine hK.out _ _ (fun _ _=>H3.out.1) ?_;clear hK K hZ3 hH;try simp only[Act.put,sqA,sqB,sqC,sqD,sqE,sqF]
  have R3:=hide H3.out.2.2.1.row;rw[List.length_map, ←HPN.out] at R3;have hWZ:W0.heap.size≤Z.heap.size:=Nat.le_trans HA.out.low.size HZ.out.2.2.2.2.size;have hZw:W0.heap.size≤Z3.heap.size:=Nat.le_trans hWZ BZ3.out.size;refine sqmy 11 rfl (fun K hK=>?_);rw[if_pos (by rfl)];refine wp_append_own _ (.tmp 86) (.tmp 92) 28 rfl W0.heap.size 57 i0 (.agg #[.int .i64 0,.slice none 0 0]) 2 32 Tryz.underlying28 hi hz0 hz1 hz2 rfl (by decide) (.slice pa pn pc) pn _ rfl R3.out ⟨Z2.heap.size,0,none⟩ 1 1 [.int .i64 x,.slice va m vc] rfl rfl H3.out.2.2.2 (by intro y hy;simp at hy;rcases hy with rfl|rfl<;>rfl) (by unfold maxLen;omega) (by omega) hZw ?_;intro v4 Z4 o4 g4 _;obtain⟨pa4,pc4,rfl⟩:=own_shape o4;have Y4:=hide (show KpY (fun t=>t=57) Z3 Z4 from(KpY.refl _ _).ownrow R3.out rfl g4);have L4:=hide (show Below W0.heap.size Z3 Z4 from(Below.refl _ _).grown g4 hZw (fun r e=>(R3.out.lt r e).1));have H4:=hide (show Blk Z4 b (jobD (.slice ia L ic) (.slice (some ⟨f,fo,none⟩) fl fc) (u+1) (.slice pa pn pc) (shC sh)) 62 from Y4.out.blk H3.out.1 (by decide));have A4:=hide (show OwnN Z4 W0.heap.size 57 1 (.slice pa4 (pn+1) pc4) ((P++[(x,ys)]).map neR) (vs++[.slice va m vc]) from by
   rw[List.map_append];show OwnN _ _ _ _ _ (_++[neR (x,ys)]) _;have hh:=H3.out.2.2.1.push (by decide) (neR (x,ys)) (.slice va m vc) rfl (by have:=own_mono H3.out.2.1 hWZ;have e:=HN.out;subst e;exact this) (fun j q k hq hk e=>by have h1:=(H3.out.2.1.lt k (by rw[←e,HN.out])).1;have h2:=(HZ.out.2.1.ltR hq hk).2;omega) (by rw[List.length_map, ←HPN.out];exact o4) g4;exact hh)
  refine hK.out _ _ (fun _ _=>H4.out) ?_;clear hK K o4 g4;try simp only[Act.put,sqA,sqB,sqC,sqD,sqE,sqF]
  refine sqmy 12 rfl (fun K hK=>?_);go_simp;refine hK.out _ _ (fun h=>absurd rfl h) ?_;clear hK K;try simp only[Act.put,sqA,sqB,sqC,sqD,sqE,sqF]
  refine sqmy 13 rfl (fun K hK=>?_);go_simp;refine hK.out _ _ (fun _ h=>Bool.noConfusion (show true=false from h)) ?_;clear hK K;try simp only[Act.put,sqA,sqB,sqC,sqD,sqE,sqF]
  have f4:=H4.out.frozen 4;have c4:=H4.out.cell 4;simp[jobD] at c4;refine sqmy 14 rfl (fun K hK=>?_);go_simp;refine hK.out _ _ (fun _ h=>Bool.noConfusion (show true=false from h)) ?_;clear hK K f4 c4;try simp only[Act.put,sqA,sqB,sqC,sqD,sqE,sqF]
  refine sqmd ?_;have hbZ:W0.heap.size≤b:=HA.out.lo;have B5:=hide (show Below W0.heap.size w (Z4.setCell ⟨b,4,none⟩ (.slice pa4 (pn+1) pc4)) from((HZ.out.2.2.2.2.trans (BZ3.out.mono hWZ)).trans L4.out).setCell (p:=⟨b,4,none⟩) hbZ _);have H5:=hide (show JStC W0 (Z4.setCell ⟨b,4,none⟩ (.slice pa4 (pn+1) pc4)) b (.slice ia L ic) (.slice (some ⟨f,fo,none⟩) fl fc) fs {tr,cv,Lo,Ln,P:=P++[(x,ys)],sh,st:=some (fs.drop (u+1))} (u+1) (.slice pa4 (pn+1) pc4) (vs++[.slice va m vc]) from⟨H4.out.set 4 _,(KpY.setCell (T:=fun t=>t=62) (KpY.refl _ _) H4.out rfl).ownN A4.out (by decide) (by decide),by have:=HFL.out;omega,rfl,hbZ,HA.out.low.trans B5.out⟩);have Y5:=hide (show KpY TyJ w (Z4.setCell ⟨b,4,none⟩ (.slice pa4 (pn+1) pc4)) from(((HZ.out.2.2.2.1.below BZ3.out).trans (Y4.out.weaker (fun t h=>.inr h)))).setCell H4.out (.inl rfl));go_wp2;go_ret;rw[HDr.out,fresh_some];exact⟨rfl,⟨u+1,_,_,H5.out⟩,Y5.out,B5.out⟩
 ·have hue:u=fl:=by omega
  subst hue;have hnil:fs.drop u=[]:=List.drop_eq_nil_of_le (by omega);have HNil:=hide hnil;clear hd hdn hf hx hfl hm hy hy2 hpn;go_enter Tryz.func60,Tryz.ntmps60;go_upto_region 4 with fail;go_quiet (fail)
  clear c0 c1 c2 c3 c5 f3 f5;have B1:=hide (belJ (Below.refl w.heap.size w) nq);generalize w.drewN nq=W1 at B1⊢;clear nq;have K1:=hide (HA.out.below B1.out);have c5:=K1.out.box.cell 5;have f5:=K1.out.box.frozen 5;simp[jobD] at c5;obtain⟨s,hs⟩:∃s,s=shC sh:=⟨_,rfl⟩;have hs21:¬s=21:=by rw[hs];unfold shC;split<;>decide
  rw[←hs] at c5;clear hs;have K5:=hide (show JStC W0 (W1.setCell ⟨b,5,none⟩ (.int .i64 9)) b (.slice ia L ic) (.slice fa u fc) fs {tr,cv,Lo,Ln,P,sh:=true,st:=some []} u (.slice pa pn pc) vs from⟨K1.out.box.set 5 _,(KpY.setCell (T:=fun t=>t=62) (KpY.refl _ _) K1.out.box rfl).ownN K1.out.puts (by decide) (by decide),HA.out.le,by rw[HNil.out],HA.out.lo,K1.out.low.setCell (p:=⟨b,5,none⟩) HA.out.lo _⟩);have Y5:=hide (show KpY TyJ w (W1.setCell ⟨b,5,none⟩ (.int .i64 9)) from((KpY.refl TyJ w).below B1.out).setCell K1.out.box (.inl rfl));have B5:=hide (show Below W0.heap.size w (W1.setCell ⟨b,5,none⟩ (.int .i64 9)) from((Below.refl _ _).trans (B1.out.mono HA.out.low.size)).setCell (p:=⟨b,5,none⟩) HA.out.lo _);go_wp2;go_ret;try rw[HNil.out]
  exact⟨rfl,⟨u,_,_,K5.out⟩,Y5.out,B5.out⟩
theorem over_get(xs:List Int)(o:Nat)(ds:List Int)(h:o+ds.length≤xs.length)(i:Nat):(over xs o ds)[i]?=if o≤i∧i<o+ds.length then ds[i-o]? else xs[i]?:=by
 unfold over;by_cases h1:i<o
 ·rw[if_neg (by omega),List.append_assoc,List.getElem?_append_left (by rw[List.length_take];omega),List.getElem?_take,if_pos h1]
 ·by_cases h2:i<o+ds.length
  ·rw[if_pos ⟨by omega,h2⟩,List.append_assoc,List.getElem?_append_right (by rw[List.length_take];omega),List.length_take,Nat.min_eq_left (by omega),List.getElem?_append_left (by omega)]
  ·rw[if_neg (by omega),List.getElem?_append_right (by rw[List.length_append,List.length_take];omega),List.length_append,List.length_take,Nat.min_eq_left (by omega),List.getElem?_drop];congr 1;omega
def putI(zs:List Int)(p:Int×List Int):List Int:=over zs (p.1.toNat*512) p.2
def putsI(zs:List Int)(ps:List (Int×List Int)):List Int:=ps.foldl putI zs
theorem puts_cons(zs:List Int)(p:Int×List Int)(ps:List (Int×List Int)):putsI zs (p::ps)=putsI (putI zs p) ps:=by
 unfold putsI;rw[List.foldl_cons]
def PutOk(n:Nat)(p:Int×List Int):Prop:=0≤p.1∧p.1<(n:Int)∧p.2.length=512∧∀z∈p.2,0≤z∧z<256
theorem PutOk.fit{n:Nat}{p:Int×List Int}(h:PutOk n p){zs:List Int}(hz:zs.length=n*512):p.1.toNat*512+p.2.length≤zs.length:=by
 obtain⟨h1,h2,h3,_⟩:=h;rw[h3,hz];omega
theorem putI_len{n:Nat}{p:Int×List Int}(h:PutOk n p){zs:List Int}(hz:zs.length=n*512):(putI zs p).length=n*512:=by
 unfold putI;rw[over_len _ _ _ (h.fit hz),hz]
theorem putI_bd{n:Nat}{p:Int×List Int}(h:PutOk n p){zs:List Int}(hb:∀z∈zs,0≤z∧z<256):∀z∈putI zs p,0≤z∧z<256:=by
 intro z hz;unfold putI over at hz;simp only[List.mem_append] at hz;rcases hz with(hz|hz)|hz
 ·exact hb z (List.mem_of_mem_take hz)
 ·exact h.2.2.2 z hz
 ·exact hb z (List.mem_of_mem_drop hz)
theorem puts_len{n:Nat}:∀(ps:List (Int×List Int)) (zs:List Int),(∀p∈ps,PutOk n p)→zs.length=n*512→(putsI zs ps).length=n*512
 |[],zs,_,hz=>hz
 |p::ps,zs,h,hz=>by
  rw[puts_cons];exact puts_len ps _ (fun q hq=>h q (List.mem_cons_of_mem _ hq)) (putI_len (h p (List.mem_cons_self ..)) hz)
theorem puts_bd{n:Nat}:∀(ps:List (Int×List Int)) (zs:List Int),(∀p∈ps,PutOk n p)→(∀z∈zs,0≤z∧z<256)→∀z∈putsI zs ps,0≤z∧z<256
 |[],zs,_,hz=>hz
 |p::ps,zs,h,hz=>by
  rw[puts_cons];exact puts_bd ps _ (fun q hq=>h q (List.mem_cons_of_mem _ hq)) (putI_bd (h p (List.mem_cons_self ..)) hz)
theorem puts_append(zs:List Int)(A B:List (Int×List Int)):putsI zs (A++B)=putsI (putsI zs A) B:=by
 unfold putsI;rw[List.foldl_append]
theorem blk_get(zs:List Int)(p:Int)(i:Nat):(blkP zs p)[i]?=if i<512 then zs[p.toNat*512+i]? else none:=by
 unfold blkP;rw[List.getElem?_take,List.getElem?_drop]
theorem blk_putI{n:Nat}{p:Int×List Int}(h:PutOk n p){zs:List Int}(hz:zs.length=n*512){x:Int}(hx:0≤x∧x<n):blkP (putI zs p) x=if x=p.1 then p.2 else blkP zs x:=by
 have hf:=h.fit hz;obtain⟨h1,h2,h3,h4⟩:=h;refine List.ext_getElem? (fun i=>?_);rw[blk_get];unfold putI;by_cases hi:i<512
 ·rw[if_pos hi,over_get _ _ _ hf];by_cases he:x=p.1
  ·rw[if_pos he,he,if_pos (by omega)];congr 1;omega
  ·rw[if_neg he,if_neg (by omega),blk_get,if_pos hi]
 ·rw[if_neg hi];by_cases he:x=p.1
  ·rw[if_pos he,List.getElem?_eq_none (by omega)]
  ·rw[if_neg he,blk_get,if_neg hi]
theorem blk_putsI{n:Nat}{x:Int}(hx:0≤x∧x<n):∀(ps:List (Int×List Int)) (zs:List Int),(∀p∈ps,PutOk n p)→zs.length=n*512→(∀p∈ps,p.1≠x)→blkP (putsI zs ps) x=blkP zs x
 |[],_,_,_,_=>rfl
 |p::ps,zs,h,hz,hn=>by
  have hp:=h p (by simp);rw[puts_cons,blk_putsI hx ps _ (fun q hq=>h q (by simp[hq])) (putI_len hp hz) (fun q hq=>hn q (by simp[hq])),blk_putI hp hz hx,if_neg (fun e=>hn p (by simp) e.symm)]
theorem blk_putsI_at{n:Nat}:∀(ps:List (Int×List Int)) (zs:List Int),(∀p∈ps,PutOk n p)→(ps.map (·.1)).Nodup→zs.length=n*512→∀p∈ps,blkP (putsI zs ps) p.1=p.2
 |[],_,_,_,_,p,hp=>by cases hp
 |q::ps,zs,h,hd,hz,p,hp=>by
  have hq:=h q (by simp);rw[List.map_cons,List.nodup_cons] at hd;rw[puts_cons];rcases List.mem_cons.1 hp with rfl|hp
  ·have hr:=hq;obtain⟨h1,h2,_,_⟩:=hr;rw[blk_putsI ⟨h1,h2⟩ ps _ (fun r hr=>h r (by simp[hr])) (putI_len hq hz) (fun r hr e=>hd.1 (by rw[←e];exact List.mem_map.2 ⟨r,hr,rfl⟩)),blk_putI hq hz ⟨h1,h2⟩,if_pos rfl]
  ·exact blk_putsI_at ps _ (fun r hr=>h r (by simp[hr])) hd.2 (putI_len hq hz) p hp
theorem encW_len{ws:List Int}(h:goodW ws=true):(encW ws).length=512:=by
 unfold encW;rw[if_pos h,bytesW_len];unfold goodW at h;simp at h;omega
theorem le_byte:∀(n v:Nat),∀z∈le n v,0≤z∧z<256
 |0,_,z,h=>by cases h
 |n+1,v,z,h=>by
  rw[le] at h;rcases List.mem_cons.1 h with rfl|h
  ·omega
  ·exact le_byte n _ z h
theorem encW_bd(ws:List Int):∀z∈encW ws,0≤z∧z<256:=by
 intro z hz;unfold encW at hz;split at hz
 ·unfold bytesW at hz;obtain⟨v,_,hv⟩:=List.mem_flatMap.1 hz;exact le_byte _ _ z hv
 ·cases hz
theorem app_lo{A B:List Int}{i:Nat}(h:i<A.length):(A++B).getD i 0=A.getD i 0:=by unfold List.getD;rw[List.getElem?_append_left h]
theorem app_hi{A B:List Int}{i:Nat}(h:A.length≤i):(A++B).getD i 0=B.getD (i-A.length) 0:=by unfold List.getD;rw[List.getElem?_append_right h]
theorem wordAt_le(A:List Int)(v:Int)(B:List Int)(k:Nat)(hA:A.length=4*k)(h:0≤v∧v<4294967296):wordAt (A++le 4 v.toNat++B) k=v:=by
 have e:((A++le 4 v.toNat++B).drop (4*k)).take 4=le 4 v.toNat:=by
  rw[List.append_assoc, ←hA,List.drop_left,List.take_left' (le_len 4 _)]
 unfold wordAt;rw[e];have h2:∀(n c:Nat),unle (le n c)=c%256^n:=by
  intro n;induction n with
  |zero=>intro c;simp[le,unle,Nat.mod_one]
  |succ n ih=>
   intro c;rw[le,unle,ih (c/256),Int.toNat_natCast,Nat.pow_succ,Nat.mul_comm (256^n) 256];exact(Nat.mod_mul (x:=c) (a:=256) (b:=256^n)).symm
 rw[h2];omega
theorem getD_in{ws:List Int}(h:∀z∈ws,0≤z∧z<4294967296)(k:Nat):0≤ws.getD k 0∧ws.getD k 0<4294967296:=by
 rcases Nat.lt_or_ge k ws.length with hk|hk
 ·have:ws.getD k 0=ws[k]:=by simp[List.getD,hk]
  rw[this];exact h _ (List.getElem_mem hk)
 ·simp[List.getD,List.getElem?_eq_none hk]
theorem wordAt_bytes{ws:List Int}(h:∀z∈ws,0≤z∧z<4294967296){k:Nat}(hk:k<ws.length):wordAt (bytesW ws) k=ws.getD k 0:=by
 have e:bytesW ws=bytesW (ws.take k)++le 4 (ws.getD k 0).toNat++bytesW (ws.drop (k+1)):=by
  have e1:ws=ws.take (k+1)++ws.drop (k+1):=(List.take_append_drop _ _).symm;have e2:bytesW ws=bytesW (ws.take (k+1))++bytesW (ws.drop (k+1)):=by
   conv=>lhs;rw[e1]
   unfold bytesW;rw[List.flatMap_append]
  rw[e2,bytesW_take ws k hk]
 rw[e];exact wordAt_le _ _ _ k (by rw[bytesW_len,List.length_take];omega) (getD_in h k)
theorem wordAt_enc{ws:List Int}(h:goodW ws=true){k:Nat}(hk:k<128):wordAt (encW ws) k=ws.getD k 0:=by
 have h1:=h;unfold goodW at h1;rw[Bool.and_eq_true,decide_eq_true_eq,List.all_eq_true] at h1;unfold encW;rw[if_pos h];refine wordAt_bytes (fun z hz=>?_) (by omega);have h2:=h1.2 z hz;unfold okW at h2;simp at h2;omega
theorem seg_mem{cnt b mm:Nat}{f:Nat→Int}{x:HG}:x∈segP cnt b mm f↔∃j,j<mm∧b+j<cnt∧f j≠0∧x=(0,b+j,f j):=by
 unfold segP;rw[List.mem_flatMap];constructor
 ·rintro ⟨k,hk,hx⟩;have hk:=List.mem_range.1 hk;split at hx
  ·cases hx
  ·rename_i hc
   rw[List.mem_singleton] at hx;exact⟨k,hk,by omega,fun e=>hc (.inr e),hx⟩
 ·rintro ⟨j,h1,h2,h3,rfl⟩;refine⟨j,List.mem_range.2 h1,?_⟩;rw[if_neg (fun e=>e.elim (fun e=>by omega) h3)];exact List.mem_singleton.2 rfl
theorem setN_getDP(L:List Int)(r j:Nat)(x:Int):(setN L r x).getD j 0=if j=r then x else L.getD j 0:=by
 unfold setN;simp only[List.getD,List.getElem?_set];by_cases h:r=j
 ·rw[if_pos h,if_pos h.symm,if_pos (by simp;omega)];rfl
 ·rw[if_neg h,if_neg (fun e=>h e.symm)];by_cases h2:j<L.length
  ·rw[List.getElem?_append_left h2]
  ·rw[List.getElem?_append_right (by omega),List.getElem?_eq_none (l:=L) (by omega),List.getElem?_replicate];split<;>rfl
theorem num_step(f:Nat→List Int)(x:TX)(l r:Nat):((upd f x.1.1 (setN (f x.1.1) x.1.2.1 x.1.2.2)) l).getD r 0=if x.1.1=l∧x.1.2.1=r then x.1.2.2 else(f l).getD r 0:=by
 unfold upd;by_cases h:l=x.1.1
 ·subst h;rw[if_pos rfl,setN_getDP];by_cases h2:r=x.1.2.1
  ·rw[if_pos h2,if_pos ⟨rfl,h2.symm⟩]
  ·rw[if_neg h2,if_neg (fun e=>h2 e.2.symm)]
 ·rw[if_neg h,if_neg (fun e=>h e.1.symm)]
theorem num_fold(l r:Nat)(v:Int):∀(L:List HG) (f:Nat→List Int),(∀x∈L,x.1=l→x.2.1=r→x.2.2=v)→((f l).getD r 0=v∨∃x∈L,x.1=l∧x.2.1=r)→(((upX L).foldl (fun f x=>upd f x.1.1 (setN (f x.1.1) x.1.2.1 x.1.2.2)) f) l).getD r 0=v
 |[],f,_,h=>by
  rcases h with h|⟨x,hx,_⟩
  ·exact h
  ·cases hx
 |a::L,f,h,hc=>by
  have e:upX (a::L)=(a,Value.nilIface)::upX L:=rfl;rw[e,List.foldl_cons];refine num_fold l r v L _ (fun x hx=>h x (List.mem_cons_of_mem _ hx)) ?_;rw[num_step];by_cases ha:a.1=l∧a.2.1=r
  ·rw[if_pos ha];exact .inl (h a List.mem_cons_self ha.1 ha.2)
  ·rw[if_neg ha];rcases hc with hc|⟨x,hx,h1,h2⟩
   ·exact .inl hc
   ·rcases List.mem_cons.1 hx with rfl|hx
    ·exact absurd ⟨h1,h2⟩ ha
    ·exact .inr ⟨x,hx,h1,h2⟩
theorem num_val{L:List HG}{l r:Nat}{v:Int}(h:∀x∈L,x.1=l→x.2.1=r→x.2.2=v)(hc:v=0∨∃x∈L,x.1=l∧x.2.1=r):(numL (upX L) l).getD r 0=v:=
 num_fold l r v L _ h (hc.imp (fun e=>by rw[e];rfl) id)
end
end Go.Proofs.YtbhpealglhkodaaGreatDoor
