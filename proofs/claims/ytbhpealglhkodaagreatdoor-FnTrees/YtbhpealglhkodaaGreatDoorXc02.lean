/- What the listed variables give a walk, and a world that meets the condition -/
import Derived.Test.YtbhpealglhkodaaGreatDoorXc01
import Derived.OpenShut
import Derived.ShutString
import Derived.ChangeOld
import Derived.ChangeSame
import Derived.ChangeVars
import Derived.JoinedOf
import Derived.LaidLaws
import Derived.LaidHandle
import Derived.Stop.Joined
import Derived.Deep.MidRow
import Derived.Deep.WholeRow
import Derived.Laws.CopyOwn
import Derived.Laws.ResultCell
import Derived.Deep.QuietTactic
import Derived.BigQuiet
import Derived.WalkSpells
namespace Go.Proofs.YtbhpealglhkodaaGreatDoor
set_option linter.all false
set_option maxRecDepth 100000
set_option maxHeartbeats 16000000
section
open Go.ChangeShapes Go.WideShapes Go.RowKit
theorem own:ownKnob Tryz.prog.godebug=none:=by kernel_rfl
theorem laidOut:laidOutB Tryz.prog=true:=by kernel_rfl
theorem d_et:Tryz.prog.globalNamed "errors.errorType" =some 0:=by kernel_rfl
theorem d_rt:(Tryz.prog.cutTypes.find? (·.1== "internal/reflectlite.rtype")).map (·.2)=some 185:=by kernel_rfl
theorem d_oneRow:((List.range 231).filter fun t=>Tryz.prog.rowNamed t [101,114,114,111,114])=[67]:=by kernel_rfl
theorem d_size:Tryz.prog.types.size=231:=by kernel_rfl
theorem errT_of {L:List (String×DataW Unit)} {W:World} (hm:("errors.errorType",Rows.laid_errors_errorType)∈L) (h:handlesMet Tryz.prog L W):ErrT W:=by
 obtain⟨name,u,ty,e1,e2,e3,e4,e5⟩:=h _ hm;have en:name=[101,114,114,111,114]:=(Option.some.inj e1).symm;subst en;obtain rfl:=Option.some.inj (d_rt.symm.trans e2);have hm:ty∈(List.range 231).filter fun t=>Tryz.prog.rowNamed t [101,114,114,111,114]:=List.mem_filter.2 ⟨List.mem_range.2 (by rw[←d_size];exact e3),e4⟩;rw[d_oneRow] at hm;obtain rfl:=List.mem_singleton.1 hm;have hh:typeHandle Tryz.prog 67=.pointer (some ⟨1,67,none⟩):=by kernel_rfl
 rw[hh] at e5;have hc:=World.var?_cell d_et e5 0;unfold ErrT;simpa using hc
noncomputable def laidWorld (os:Os):World:=
 let w0:=World.holding Tryz.prog os ⟨#[],#[],[]⟩
 {w0 with heap:=w0.heap.modify 0 fun
  |.cells _ t frozen=>.cells #[.iface 185 (.agg #[.pointer (some ⟨1,67,none⟩)])] t frozen
  |o=>o}
end
section
open Go.RowKit
def cellsI(ds:List Int):Array Value:=(ds.map (Value.int .i64)).toArray
theorem cellsI_size(ds:List Int):(cellsI ds).size=ds.length:=by simp[cellsI]
theorem cellsI_get(ds:List Int)(k:Nat)(h:k<ds.length):(cellsI ds)[k]?=some (.int .i64 (ds.getD k 0)):=by simp[cellsI,List.getD,h]
def Blk(w:World)(b:Nat)(C:Array Value)(t:TypeId):Prop:=w.heap[b]?=some (.cells C t (0,0))
theorem Blk.lt{w:World}{b:Nat}{C:Array Value}{t:TypeId}(h:Blk w b C t):b<w.heap.size:=(Array.getElem?_eq_some_iff.1 h).1
theorem Blk.cell{w:World}{b:Nat}{C:Array Value}{t:TypeId}(h:Blk w b C t)(k:Nat):w.cell? ⟨b,k,none⟩=C[k]?:=cell_of_row w b k C t (0,0) h
theorem Blk.frozen{w:World}{b:Nat}{C:Array Value}{t:TypeId}(h:Blk w b C t)(k:Nat):w.frozen? ⟨b,k,none⟩=false:=frozen_of_row w b k C t h
theorem Blk.below{w w':World}{b B:Nat}{C:Array Value}{t:TypeId}(h:Blk w b C t)(hb:Below B w w')(hB:b<B):Blk w' b C t:=(hb.block b hB).trans h
theorem Blk.set{w:World}{b:Nat}{C:Array Value}{t:TypeId}(h:Blk w b C t)(k:Nat)(v:Value):Blk (w.setCell ⟨b,k,none⟩ v) b (C.setIfInBounds k v) t:=heap_setCell_same w b k C t v h
theorem Blk.other{w:World}{b:Nat}{C:Array Value}{t:TypeId}(h:Blk w b C t)(a:Addr)(v:Value)(hne:b≠a.block):Blk (w.setCell a v) b C t:=(heap_setCell_other w a b v hne).trans h
theorem Blk.alloc{w:World}{b:Nat}{C:Array Value}{t:TypeId}(h:Blk w b C t)(o:Obj):Blk (w.alloc o) b C t:=(Below.heap_alloc w o b h.lt).trans h
theorem Blk.new(w:World)(C:Array Value)(t:TypeId):Blk (w.alloc (.cells C t)) w.heap.size C t:=heap_alloc_new w _
theorem Blk.range{w:World}{b:Nat}{ds:List Int}{t:TypeId}(h:Blk w b (cellsI ds) t)(o n:Nat)(hn:o+n≤ds.length):w.rangeAt b o (((ds.drop o).take n).map (Value.int .i64)):=by
 intro j v hv;rw[h.cell (o+j)];have hj:j<n:=by
  rcases Nat.lt_or_ge j n with h1|h1
  ·exact h1
  ·rw[List.getElem?_eq_none (by simp;omega)] at hv;cases hv
 simp[cellsI,hj] at hv⊢;exact hv
theorem Blk.row{w:World}{b:Nat}{C:Array Value}{t:TypeId}(h:Blk w b C t)(cs:Array Value):Blk (w.setRow b cs) b cs t:=by
 have h':w.heap[b]?=some (.cells C t (0,0)):=h;show(w.setRow b cs).heap[b]?=_;simp[World.setRow,Array.getElem?_modify,h']
def over(xs:List Int)(o:Nat)(ds:List Int):List Int:=xs.take o++ds++xs.drop (o+ds.length)
theorem over_len(xs:List Int)(o:Nat)(ds:List Int)(h:o+ds.length≤xs.length):(over xs o ds).length=xs.length:=by simp[over];omega
theorem over_cons(xs:List Int)(o:Nat)(d:Int)(ds:List Int)(h:o+(d::ds).length≤xs.length):over (xs.set o d) (o+1) ds=over xs o (d::ds):=by
 have hl:o<xs.length:=by simp at h;omega
 unfold over;rw[List.take_succ_eq_append_getElem (by simpa using hl),List.take_set_of_le (Nat.le_refl _),List.getElem_set_self,List.drop_set_of_lt (by omega)];simp[Nat.add_assoc,Nat.add_comm 1]
theorem cellsI_set(xs:List Int)(o:Nat)(d:Int):(cellsI xs).setIfInBounds o (.int .i64 d)=cellsI (xs.set o d):=by
 unfold cellsI;apply Array.ext';rw[Array.toList_setIfInBounds];show(xs.map (Value.int .i64)).set o (Value.int .i64 d)=_;rw[←List.map_set]
theorem Blk.cells{b:Nat}{t:TypeId}:∀(ds:List Int) {w:World} {xs:List Int} (o:Nat),Blk w b (cellsI xs) t→o+ds.length≤xs.length→Blk (w.setCells b o (ds.map (Value.int .i64))) b (cellsI (over xs o ds)) t
 |[],w,xs,o,h,_=>by simpa [over,World.setCells] using h
 |d::ds,w,xs,o,h,hl=>by
  have h1:=h.set o (.int .i64 d);rw[cellsI_set] at h1;have h2:=Blk.cells ds (o+1) h1 (by simp at hl⊢;omega);rw[over_cons xs o d ds hl] at h2;exact h2
theorem Blk.there{w:World}{b:Nat}{C:Array Value}{t:TypeId}(h:Blk w b C t)(o n:Nat)(hn:o+n≤C.size):w.there b o n:=fun j hj=>
 ⟨by rw[h.cell (o+j),Array.getElem?_eq_getElem (by omega)];rfl,h.frozen _⟩
theorem results_row_tmp{P:Program}{fn:Func}{p u:Tmp}{ty:TypeId}(h:fn.results=#[.cell p ty,.tmp u])(tmps:Array Value)(w:World)(g:Nat)(t:TypeId)(cs:Array Value)(fr:Nat×Nat)(d:TypeDesc)(x:Value)
 (hp:tmps.getD p undef=.pointer (some ⟨g,0,none⟩)) (hx:tmps.getD u undef=x) (hg:w.heap[g]?=some (.cells cs t fr))
 (hu:P.underlying ty=some d) (hd:(match d with|.struct _|.array _ _=>true|_=>false)=true) (hi:(P.info? ty).map (·.size)=some cs.size):
 (results fn tmps).run P w=.ok (.tuple #[.agg cs,x]) w:=by
 rw[results_cell_tmp h,hp,hx];simp[asAddr,run_loadVar_row w g t ty cs fr d hg hu hd hi,Result.andThen]
theorem grownBy_trans{w w1 w2:World}{r:Option Nat}(h1:w.grownBy w1 r)(h2:w1.grownBy w2 r):w.grownBy w2 r:=
 ⟨h2.os.trans h1.os,h2.tape.trans h1.tape,h2.output.trans h1.output,Nat.le_trans h1.size h2.size,fun k hk hn=>(h2.block k (Nat.lt_of_lt_of_le hk h1.size) hn).trans (h1.block k hk hn)⟩
def Src(W:World)(b:Nat)(v:Value)(n:Nat):Prop:=∃(i:Nat) (x:Int),i≤n∧0≤x∧x<18446744073709551616∧Blk W b #[v,.int .i64 (i:Int),.int .u64 x] 86
theorem Src.lt{W:World}{b:Nat}{v:Value}{n:Nat}(h:Src W b v n):b<W.heap.size:=by obtain⟨_,_,_,_,_,h⟩:=h;exact h.lt
theorem Src.below{W W':World}{b B:Nat}{v:Value}{n:Nat}(h:Src W b v n)(hb:Below B W W')(hB:b<B):Src W' b v n:=by
 obtain⟨i,x,h1,h2,h3,h4⟩:=h;exact⟨i,x,h1,h2,h3,h4.below hb hB⟩
def Dw(b:Nat)(W W':World):Prop:=W.grownBy W' (some b)∧W'.heap.size=W.heap.size
theorem Dw.trans{b:Nat}{A B C:World}(h:Dw b A B)(k:Dw b B C):Dw b A C:=⟨grownBy_trans h.1 k.1,k.2.trans h.2⟩
theorem Dw.under{b:Nat}{w0 w w':World}(h:Dw b w w')(h0:Below w0.heap.size w0 w)(hB:w0.heap.size≤b):Below w0.heap.size w0 w':=h0.grown h.1 h0.size (fun k e=>by cases e;exact hB)
theorem Dw.own{b:Nat}{W W':World}{base:Nat}{e:TypeId}{v:Value}{n:Nat}{xs:List Value}(h:Dw b W W')(hr:W.ownsRow base e 1 v n xs)(hb:b<base):W'.ownsRow base e 1 v n xs:=
 hr.kept h.1 (by
  cases hv:v.ownBlock with
  |none=>exact .inl rfl
  |some k=>exact .inr (fun e=>by have:=(hr.lt k hv).1;injection e with e;omega))
theorem Dw.rd{b:Nat}{k:IntKind}{W W':World}{v:Value}{zs:List Int}(w0:World)(h:Dw b W W')(hr:Rd k w0 v zs)(h0:Below w0.heap.size w0 W)(hb:w0.heap.size≤b):Rd k W' v zs:=hr.below (h.under h0 hb)
theorem draw_any(v:Value)(zs:List Int)(w:World)(h:Rd .u8 w v zs)(hn:zs.length≤1048576):
 Calls Tryz.prog 18 #[v] w fun e w'=>e=.returned (.pointer (some ⟨w.heap.size,0,none⟩))∧Src w' w.heap.size v zs.length∧Below w.heap.size w w'∧w'.heap.size=w.heap.size+1:=by
 obtain⟨a,cap,rfl,_⟩:=h;have HS:=hide (show ∀x:Int,0≤x→x<18446744073709551616→Src (w.alloc (.cells #[.slice a zs.length cap,.int .i64 0,.int .u64 x] 86)) w.heap.size (.slice a zs.length cap) zs.length from fun x h0 h1=>⟨0,x,by omega,h0,h1,Blk.new w _ _⟩);go_enter Tryz.func18,Tryz.ntmps18;go_wp2;go_ret;refine⟨rfl,?_,(Below.refl _ _).alloc (Nat.le_refl _) _,by simp⟩;exact HS.out _ (by omega) (by omega)
theorem u64w(n:Int):0≤IntKind.u64.wrap n∧IntKind.u64.wrap n<18446744073709551616:=by
 have:IntKind.u64.wrap n=n%18446744073709551616:=by simp[IntKind.wrap,IntKind.bits,IntKind.signed]
 rw[this];omega
theorem draw_num(y:Int)(k:Nat)(h0:0≤y)(h1:y<18446744073709551616)(hk0:1≤k)(hk:k≤1000000):wrap64 ((y/8589934592).tmod (k:Int))=((((y/8589934592)%(k:Int)).toNat:Nat):Int)∧((y/8589934592)%(k:Int)).toNat<k:=by
 have h2:0≤y/8589934592:=by omega
 have e:(y/8589934592).tmod (k:Int)=(y/8589934592)%(k:Int):=Int.tmod_eq_emod_of_nonneg h2;rw[e];have h3:0≤(y/8589934592)%(k:Int):=Int.emod_nonneg _ (by omega);have h4:(y/8589934592)%(k:Int)<(k:Int):=Int.emod_lt_of_pos _ (by omega);generalize (y/8589934592)%(k:Int)=q at h3 h4;unfold wrap64;omega
theorem Dw.one(b n:Nat)(w:World)(u:Value)(o:Nat):Dw b w ((w.drewN n).setCell ⟨b,o,none⟩ u):=
 ⟨⟨rfl,rfl,rfl,by simp,fun k hk hne=>Below.heap_setCell (w.drewN n) ⟨b,o,none⟩ u k (fun e=>hne (by rw[e]))⟩,by simp⟩
theorem Dw.more{b:Nat}{w w':World}(h:Dw b w w')(u:Value)(o:Nat):Dw b w (w'.setCell ⟨b,o,none⟩ u):=h.trans (Dw.one b 0 w' u o)
theorem N_any(b:Nat)(k:Nat)(v:Value)(zs:List Int)(w:World)(h:Src w b v zs.length)(hr:Rd .u8 w v zs)(hbd:∀z∈zs,0≤z∧z<256)(hn:zs.length≤1048576)(hk0:1≤k)(hk:k≤1000000)
 (hne:0<zs.length→∀c,v.ownBlock=some c→c≠b):
 Calls Tryz.prog 24 #[.pointer (some ⟨b,0,none⟩),.int .i64 (k:Int)] w fun e w'=>∃r:Nat,e=.returned (.int .i64 (r:Int))∧r<k∧Src w' b v zs.length∧Dw b w w':=by
 obtain⟨i,x,hi,hx0,hx1,hB⟩:=h;have c0:=(hB.cell 0).trans (show(#[v,.int .i64 (i:Int),.int .u64 x]:Array Value)[0]?=some v from rfl);have c1:=(hB.cell 1).trans (show(#[v,.int .i64 (i:Int),.int .u64 x]:Array Value)[1]?=some (.int .i64 (i:Int)) from rfl);have c2:=(hB.cell 2).trans (show(#[v,.int .i64 (i:Int),.int .u64 x]:Array Value)[2]?=some (.int .u64 x) from rfl);have f1:=hB.frozen 1;have f2:=hB.frozen 2;have KB:=hide hB;clear hB;by_cases hlt:i<zs.length
 ·obtain⟨cb,off,cap,rfl,hbw,_,_,hcell⟩:=hr.partsC (by omega);have hcb:cb≠b:=hne (by omega) cb rfl;have cz:=hcell i hlt;have hz:=hbd (zs.getD i 0) (by rw[List.getD_eq_getElem?_getD,List.getElem?_eq_getElem hlt,Option.getD_some];exact List.getElem_mem _);generalize zs.getD i 0=z at cz hz;obtain⟨hz0,hz1⟩:=hz;clear hcell hr hbd hne;have HF:=hide (show ∀(n:Nat) (y:Int),Src (((w.drewN n).setCell ⟨b,1,none⟩ (.int .i64 ((i:Int)+1))).setCell ⟨b,2,none⟩ (.int .u64 (IntKind.u64.wrap y))) b (.slice (some ⟨cb,off,none⟩) zs.length cap) zs.length∧Dw b w (((w.drewN n).setCell ⟨b,1,none⟩ (.int .i64 ((i:Int)+1))).setCell ⟨b,2,none⟩ (.int .u64 (IntKind.u64.wrap y))) from fun n y=>
   ⟨⟨
    i+1,_,by omega,(u64w y).1,(u64w y).2,by
    have h1:Blk (w.drewN n) b _ 86:=KB.out;exact(h1.set 1 (.int .i64 ((i:Int)+1))).set 2 (.int .u64 (IntKind.u64.wrap y))⟩,(Dw.one b n w _ 1).more _ 2⟩)
  by_cases hk1:k=1
  ·subst hk1;go_enter Tryz.func24,Tryz.ntmps24;go_wp2;go_quiet (fail)
   go_wp2;go_quiet (fail)
   go_wp2;go_ret;exact⟨0,rfl,by omega,(HF.out _ _).1,(HF.out _ _).2⟩
  ·have hk2:1<(k:Int):=(by omega);go_enter Tryz.func24,Tryz.ntmps24;go_wp2;go_quiet (fail)
   go_wp2;go_quiet (fail)
   go_wp2;go_ret;exact⟨_,ret_int (draw_num _ k (u64w _).1 (u64w _).2 hk0 hk).1,(draw_num _ k (u64w _).1 (u64w _).2 hk0 hk).2,(HF.out _ _).1,(HF.out _ _).2⟩
 ·have hsh:∃a cap,v=.slice a zs.length cap:=by obtain⟨a,cap,h1,_⟩:=hr;exact⟨a,cap,h1⟩
  obtain⟨a,cap,rfl⟩:=hsh;have HF:=hide (show ∀(n:Nat) (y:Int),Src ((w.drewN n).setCell ⟨b,2,none⟩ (.int .u64 (IntKind.u64.wrap y))) b (.slice a zs.length cap) zs.length∧Dw b w ((w.drewN n).setCell ⟨b,2,none⟩ (.int .u64 (IntKind.u64.wrap y))) from fun n y=>
   ⟨⟨
    i,_,by omega,(u64w y).1,(u64w y).2,by
    have h1:Blk (w.drewN n) b _ 86:=KB.out;exact h1.set 2 (.int .u64 (IntKind.u64.wrap y))⟩,Dw.one b n w _ 2⟩)
  have hlt':¬(i:Int)<(zs.length:Int):=by omega
  clear hr hbd hne;by_cases hk1:k=1
  ·subst hk1;go_enter Tryz.func24,Tryz.ntmps24;go_wp2;go_quiet (fail)
   go_wp2;go_ret;exact⟨0,rfl,by omega,(HF.out _ _).1,(HF.out _ _).2⟩
  ·have hk2:1<(k:Int):=(by omega);go_enter Tryz.func24,Tryz.ntmps24;go_wp2;go_quiet (fail)
   go_wp2;go_ret;exact⟨_,ret_int (draw_num _ k (u64w _).1 (u64w _).2 hk0 hk).1,(draw_num _ k (u64w _).1 (u64w _).2 hk0 hk).2,(HF.out _ _).1,(HF.out _ _).2⟩
theorem One_any(b:Nat)(k:Nat)(v:Value)(zs:List Int)(w:World)(h:Src w b v zs.length)(hr:Rd .u8 w v zs)(hbd:∀z∈zs,0≤z∧z<256)(hn:zs.length≤1048576)(hk0:1≤k)(hk:k≤1000000)
 (hne:0<zs.length→∀c,v.ownBlock=some c→c≠b):
 Calls Tryz.prog 42 #[.pointer (some ⟨b,0,none⟩),.int .i64 (k:Int)] w fun e w'=>∃t:Bool,e=.returned (.bool t)∧Src w' b v zs.length∧Dw b w w':=by
 have H:=hide (N_any b k v zs w h hr hbd hn hk0 hk hne);clear h hr hbd hne;go_enter Tryz.func42,Tryz.ntmps42;go_wp2_with (go_at_call 24;refine H.out.mono ?_;rintro e w1 ⟨r,rfl,hr,hs,hd⟩;have K:=hide (And.intro hs hd);clear hs hd);go_ret;exact⟨_,rfl,K.out.1,K.out.2⟩
structure Sc(w0 W:World)(b:Nat)(cv:Value)(cs:List Int):Prop where
 src:Src W b cv cs.length
 hb:w0.heap.size≤b
 low:Below w0.heap.size w0 W
 rd:Rd .u8 w0 cv cs
 bd:∀z∈cs,0≤z∧z<256
 len:cs.length≤1048576
theorem Sc.own{w0 W W':World}{b B:Nat}{cv:Value}{cs:List Int}(h:Sc w0 W b cv cs)(hb:Below B W W')(hB:b<B):Sc w0 W' b cv cs:=
 ⟨h.src.below hb hB,h.hb,h.low.trans (hb.mono (by have:=h.hb;omega)),h.rd,h.bd,h.len⟩
theorem Sc.drawn{w0 W W':World}{b:Nat}{cv:Value}{cs:List Int}(h:Sc w0 W b cv cs)(hd:W.grownBy W' (some b))(hs:Src W' b cv cs.length):Sc w0 W' b cv cs:=
 ⟨hs,h.hb,h.low.grown hd h.low.size (fun k e=>by cases e;exact h.hb),h.rd,h.bd,h.len⟩
theorem Sc.ne{w0 W:World}{b:Nat}{cv:Value}{cs:List Int}(h:Sc w0 W b cv cs):0<cs.length→∀c,cv.ownBlock=some c→c≠b:=by
 intro h0 c hc;obtain⟨a,cap,rfl,_,hcell,_⟩:=h.rd;obtain⟨b',off,ea,hlt,_⟩:=hcell (by intro e;rw[e] at h0;simp at h0);subst ea;have:b'=c:=Option.some.inj hc;have:=h.hb;omega
theorem Sc.N{w0 W:World}{b:Nat}{cv:Value}{cs:List Int}(h:Sc w0 W b cv cs)(k:Nat)(hk0:1≤k)(hk:k≤1000000):
 Calls Tryz.prog 24 #[.pointer (some ⟨b,0,none⟩),.int .i64 (k:Int)] W fun e w'=>∃z:Int,e=.returned (.int .i64 z)∧0≤z∧z<k∧Sc w0 w' b cv cs∧W.grownBy w' (some b):=by
 refine(N_any b k cv cs W h.src (h.rd.below h.low) h.bd h.len hk0 hk h.ne).mono ?_;rintro e w' ⟨r,rfl,hr2,hs,hd⟩;exact⟨r,rfl,by omega,by omega,h.drawn hd.1 hs,hd.1⟩
theorem Sc.One{w0 W:World}{b:Nat}{cv:Value}{cs:List Int}(h:Sc w0 W b cv cs)(k:Nat)(hk0:1≤k)(hk:k≤1000000):
 Calls Tryz.prog 42 #[.pointer (some ⟨b,0,none⟩),.int .i64 (k:Int)] W fun e w'=>∃t:Bool,e=.returned (.bool t)∧Sc w0 w' b cv cs∧W.grownBy w' (some b):=by
 refine(One_any b k cv cs W h.src (h.rd.below h.low) h.bd h.len hk0 hk h.ne).mono ?_;rintro e w' ⟨t,rfl,hs,hd⟩;exact⟨t,rfl,h.drawn hd.1 hs,hd.1⟩
structure Dn(w0 W wr:World)(b:Nat)(cv:Value)(cs:List Int):Prop where
 sc:Sc w0 wr b cv cs
 gb:W.grownBy wr (some b)
 lt:b<W.heap.size
theorem Dn.start{w0 W:World}{b:Nat}{cv:Value}{cs:List Int}(h:Sc w0 W b cv cs):Dn w0 W W b cv cs:=⟨h,World.grownBy.refl _ _,h.src.lt⟩
theorem Dn.own{w0 W wr wr':World}{b:Nat}{cv:Value}{cs:List Int}(h:Dn w0 W wr b cv cs)(hb:Below W.heap.size wr wr'):Dn w0 W wr' b cv cs:=
 ⟨h.sc.own hb h.lt,⟨hb.os.trans h.gb.os,hb.tape.trans h.gb.tape,hb.output.trans h.gb.output,Nat.le_trans h.gb.size hb.size,fun k hk hne=>(hb.block k hk).trans (h.gb.block k hk hne)⟩,h.lt⟩
theorem Dn.draw{w0 W wr wr':World}{b:Nat}{cv:Value}{cs:List Int}(h:Dn w0 W wr b cv cs)(hs:Sc w0 wr' b cv cs)(hg:wr.grownBy wr' (some b)):Dn w0 W wr' b cv cs:=⟨hs,grownBy_trans h.gb hg,h.lt⟩
theorem Blk.drawn{wr w':World}{g b:Nat}{c:Array Value}{t:TypeId}(h:Blk wr g c t)(hg:wr.grownBy w' (some b))(hne:g≠b):Blk w' g c t:=(hg.block g h.lt (fun e=>hne (Option.some.inj e))).trans h
theorem Dn.blk{w0 W wr wr':World}{g b:Nat}{cv:Value}{cs:List Int}{c:Array Value}{t:TypeId}(h:Dn w0 W wr b cv cs)(k:Blk wr g c t)(hg:wr.grownBy wr' (some b))(hge:W.heap.size≤g):Blk wr' g c t:=k.drawn hg (by have:=h.lt;omega)
theorem Dn.row{w0 W wr wr':World}{b base:Nat}{cv:Value}{cs:List Int}{e:TypeId}{sz n:Nat}{v:Value}{xs:List Value}(h:Dn w0 W wr b cv cs)(o:wr.ownsRow base e sz v n xs)(hg:wr.grownBy wr' (some b))(hb:W.heap.size≤base):wr'.ownsRow base e sz v n xs:=
 o.kept hg (by
  cases hv:v.ownBlock with
  |none=>exact .inl rfl
  |some k=>exact .inr (fun e=>by have:=(o.lt k hv).1;have:=h.lt;injection e with e;omega))
theorem Dn.grew{w0 W wr w7:World}{b base:Nat}{cv:Value}{cs:List Int}{e:TypeId}{sz n:Nat}{v:Value}{xs:List Value}{ob:Obj}(h:Dn w0 W wr b cv cs)(o:wr.ownsRow base e sz v n xs)(hg:(wr.alloc ob).grownBy w7 v.ownBlock)(hb:W.heap.size≤base):Dn w0 W w7 b cv cs:=
 h.own (((Below.refl _ _).alloc h.gb.size _).grown hg (by have:=h.gb.size;simp;omega) (fun k e=>Nat.le_trans hb (o.lt k e).1))
theorem info12:(Tryz.prog.info? 23).map (·.size)=some 12:=by kernel_rfl
theorem info15:(Tryz.prog.info? 27).map (·.size)=some 15:=by kernel_rfl
def rootI(s:Int)(ds:List Int)(p q:Int):List Int:=s::(ds++[p,q])
theorem rootI_len(s:Int)(ds:List Int)(p q:Int)(hd:ds.length=12):(rootI s ds p q).length=15:=by simp[rootI,hd]
theorem rootI_get13(s:Int)(ds:List Int)(p q:Int)(hd:ds.length=12):(cellsI (rootI s ds p q))[13]?=some (.int .i64 p):=by
 rw[cellsI_get _ _ (by rw[rootI_len s ds p q hd];omega)];match ds,hd with|[_,_,_,_,_,_,_,_,_,_,_,_],_=>rfl
theorem rootI_get14(s:Int)(ds:List Int)(p q:Int)(hd:ds.length=12):(cellsI (rootI s ds p q))[14]?=some (.int .i64 q):=by
 rw[cellsI_get _ _ (by rw[rootI_len s ds p q hd];omega)];match ds,hd with|[_,_,_,_,_,_,_,_,_,_,_,_],_=>rfl
theorem root_range(s:Int)(ds:List Int)(p q:Int)(hd:ds.length=12):((rootI s ds p q).drop 1).take 12=ds:=by
 match ds,hd with|[_,_,_,_,_,_,_,_,_,_,_,_],_=>rfl
theorem infoU8:(Tryz.prog.info? 5).map (fun i=>(i.zero,i.size,i.bytes))=some (some (.int .u8 0),1,1):=by kernel_rfl
def le:Nat→Nat→List Int
 |0,_=>[]
 |m+1,n=>((n%256:Nat):Int)::le m (n/256)
theorem le_len:∀m n,(le m n).length=m
 |0,_=>rfl
 |m+1,n=>by simp[le,le_len m]
theorem le_step(ys:List Int)(m j q:Nat)(h:j<m):ys++le (m-j) q=ys++[((q%256:Nat):Int)]++le (m-(j+1)) (q/256):=by
 have e:m-j=(m-(j+1))+1:=by omega
 rw[e,le];simp
theorem one_u8(z:Int):∀u∈[Value.int .u8 z],u.oneCell'=true:=by
 intro u hu;rw[List.mem_singleton] at hu;subst hu;rfl
theorem len64_32(w:World):Calls Tryz.prog 119 #[.int .u64 4294967295] w fun e w'=>e=.returned (.int .i64 32)∧w=w':=by
 go_enter Tryz.func119,Tryz.ntmps119;go_wp2;go_ret;exact⟨ret_int (by simp only[wrap64];decide+kernel),rfl⟩
theorem width32(w:World):Calls Tryz.prog 118 #[] w fun e w'=>e=.returned (.int .i64 4)∧w=w':=by
 have hx:IntKind.u64.wrap (bits BinOp.xor IntKind.u32 IntKind.u32.max 0)=4294967295:=by decide+kernel
 go_enter Tryz.func118,Tryz.ntmps118;go_wp2_with fail;refine(len64_32 _).mono ?_;rintro e w' ⟨rfl,rfl⟩;go_wp2;go_ret;exact⟨rfl,rfl⟩
theorem lay32_any(g base k cap n:Nat)(xs:List Value)(w:World)(h:w.ownsRow base 5 1 (.slice (some ⟨g,0,none⟩) k cap) k xs)(hr:k+4≤cap)(_hcap:cap≤140737488355328)(hn:n<4294967296):
 Calls Tryz.prog 117 #[.slice (some ⟨g,0,none⟩) k cap,.int .u32 n] w fun e w'=>e=.returned (.slice (some ⟨g,0,none⟩) (k+4) cap)∧w'.ownsRow base 5 1 (.slice (some ⟨g,0,none⟩) (k+4) cap) (k+4) (xs++(le 4 n).map (Value.int .u8))∧w.grownBy w' (some g):=by
 obtain⟨i0,hi,hz0,hz1,hz2⟩:=info_parts infoU8;have hgl:=h.lt g rfl;go_enter Tryz.func117,Tryz.ntmps117;go_wp2_with (go_at_call 118;refine(width32 _).mono ?_;rintro e w' ⟨rfl,rfl⟩);go_loopw [0,5,9] (fun v r i wr=>∃(j q:Nat) (ys:List Int),j≤4∧i=.int .i64 j∧r=.int .u64 q∧q<281474976710656∧v=.slice (some ⟨g,0,none⟩) (k+j) cap∧le 4 n=ys++le (4-j) q∧wr.ownsRow base 5 1 (.slice (some ⟨g,0,none⟩) (k+j) cap) (k+j) (xs++ys.map (Value.int .u8))∧w.grownBy wr (some g)) (fun _ _ i _=>4-(intOf i).toNat)
 case atStart=>exact⟨0,n,[],by omega,rfl,by go_num,by omega,rfl,rfl,by simpa using h,World.grownBy.refl _ _⟩
 case round=>
  clear h;obtain⟨j,q,ys,hj,rfl,rfl,hq,rfl,hle,hown,hgr⟩:=hrel;have HL:Hid (le 4 n=ys++le (4-j) q):=hle;have hsz:=hgr.size;clear hle;by_cases hlt:j<4
  ·go_wp2_with (at_builtin;refine wpList_append_fits _ rfl _ _ 22 rfl base 5 i0 1 Tryz.underlying22 hi hz1 g (k+j) cap _ rfl (hown.alloc _) ⟨wr.heap.size,0,none⟩ 1 1 [.int .u8 ((q:Int)%256)] rfl rfl (cell_one_new _ _ _) (one_u8 _) (by omega) ?_;intro w1 hown1 hgr1);have HW:Hid (w1.ownsRow base 5 1 (.slice (some ⟨g,0,none⟩) (k+(j+1)) cap) (k+(j+1)) (xs++(ys++[((q%256:Nat):Int)]).map (Value.int .u8))∧w.grownBy w1 (some g)):=by
    refine⟨?_,grownBy_trans hgr (grownBy_trans (World.grownBy_alloc _ _ _) hgr1)⟩;have e:xs++(ys++[((q%256:Nat):Int)]).map (Value.int .u8)=xs++ys.map (Value.int .u8)++[.int .u8 ((q:Int)%256)]:=(by simp);rw[e];exact hown1
   clear hown hown1 hgr hgr1;go_wp2;go_roundw
   case rel=>exact⟨j+1,q/256,ys++[((q%256:Nat):Int)],by omega,by go_num,by go_num,by omega,rfl,by rw[HL.out];exact le_step ys 4 j q hlt,HW.out.1,HW.out.2⟩
   case measure=>simp[intOf];omega
  ·go_wp2;go_ret;have e:j=4:=(by omega);subst e;have h:=HL.out;rw[Nat.sub_self,le,List.append_nil] at h;rw[h];exact⟨rfl,hown,hgr⟩
theorem own_empty(w:World)(e:TypeId):(w.alloc (.cells #[] e)).ownsRow w.heap.size e 1 (.slice (some ⟨w.heap.size,0,none⟩) 0 0) 0 []:=by
 have h:=World.ownsRow_lit (base:=w.heap.size) (e:=e) (size:=1) w #[] 0 (Nat.le_refl _) (by simp) rfl;simpa using h
theorem put_any(v n:Nat)(w:World)(hv:v<281474976710656)(hn:n≤8):
 Calls Tryz.prog 84 #[.int .i64 v,.int .i64 n] w fun e w'=>∃v',e=.returned v'∧w'.ownsRow w.heap.size 5 1 v' n ((le n v).map (Value.int .u8))∧Below w.heap.size w w':=by
 obtain⟨i0,hi,hz0,hz1,hz2⟩:=info_parts infoU8;have h0:=own_empty w 5;have hb0:Below w.heap.size w (w.alloc (.cells #[] 5)):=(Below.refl _ _).alloc (Nat.le_refl _) _;go_enter Tryz.func84,Tryz.ntmps84;go_wp2;go_loopw [0,5,6] (fun x o i wr=>∃(j q:Nat) (ys:List Int),j≤n∧i=.int .i64 j∧x=.int .i64 q∧q<281474976710656∧le n v=ys++le (n-j) q∧wr.ownsRow w.heap.size 5 1 o j (ys.map (Value.int .u8))∧Below w.heap.size w wr) (fun _ _ i _=>n-(intOf i).toNat)
 case atStart=>exact⟨0,v,[],Nat.zero_le _,rfl,rfl,hv,rfl,by simpa using h0,hb0⟩
 case round=>
  clear h0 hb0;obtain⟨j,q,ys,hj,rfl,rfl,hq,hle,hown,hb⟩:=hrel;have HL:Hid (le n v=ys++le (n-j) q):=hle;clear hle;have hsz:=hb.size;by_cases hlt:j<n
  ·go_wp2_with (at_builtin;refine wpList_append_own _ rfl _ _ 22 rfl w.heap.size 5 i0 (.int .u8 0) 1 1 Tryz.underlying22 hi hz0 hz1 hz2 rfl (by decide) _ _ _ rfl (hown.alloc _) ⟨wr.heap.size,0,none⟩ 1 1 [.int .u8 ((q:Int)%256)] rfl rfl (cell_one_new _ _ _) (one_u8 _) (by unfold maxLen;omega) (by omega) (by simp;omega) ?_;intro v1 w1 hown1 hgr1 _);have HW:Hid (w1.ownsRow w.heap.size 5 1 v1 (j+1) ((ys++[((q%256:Nat):Int)]).map (Value.int .u8))∧Below w.heap.size w w1):=by
    refine⟨?_,(hb.alloc hsz _).grown hgr1 (by simp;omega) (fun k h=>(hown.lt k h).1)⟩;have e:(ys++[((q%256:Nat):Int)]).map (Value.int .u8)=ys.map (Value.int .u8)++[.int .u8 ((q:Int)%256)]:=(by simp);rw[e];exact hown1
   clear hown hown1 hgr1 hb;go_roundw
   case rel=>exact⟨j+1,q/256,ys++[((q%256:Nat):Int)],by omega,by go_num,by go_num,by omega,by rw[HL.out];exact le_step ys n j q hlt,HW.out.1,HW.out.2⟩
   case measure=>simp[intOf];omega
  ·go_wp2;go_ret;have e:j=n:=(by omega);subst e;have h:=HL.out;rw[Nat.sub_self,le,List.append_nil] at h;rw[h];exact⟨_,rfl,hown,hb⟩
theorem infoI64:(Tryz.prog.info? 3).map (fun i=>(i.zero,i.size,i.bytes))=some (some (.int .i64 0),1,8):=by kernel_rfl
end
end Go.Proofs.YtbhpealglhkodaaGreatDoor
