/- The laws' own helpers over []int: a copy, two held against each other, marks -/
import Derived.Test.YtlimollpocagiaaGreatDoorXa01
import Derived.Deep.QuietTactic
import Derived.BigQuiet
import Derived.Deep.MidRow
import Derived.Deep.WholeRow
import Derived.Laws.CopyOwn
import Derived.Laws.ResultCell
import Derived.Laws.BitsLemmas
namespace Go.Proofs.YtlimollpocagiaaGreatDoor
open Go.Proofs.Tryz
open World (cell?_of_block cell?_alloc_lt setRow)
set_option linter.all false
set_option maxRecDepth 100000
set_option maxHeartbeats 16000000
section
open Go.RowKit
theorem eO:(prog.info? 3).map (fun i=>(i.zero,i.size,i.bytes))=some (some (.int .i64 0),1,8):=by kernel_rfl
def Ck(w:World)(b lo:Nat)(code:Int)(ok:Bool):Prop:=
 w.cell? ⟨b,0,none⟩=some (.int .i64 code)∧w.frozen? ⟨b,1,none⟩=false∧∃ev,w.cell? ⟨b,1,none⟩=some ev∧((ok=true∧ev=.nilIface)∨(ok=false∧∃n,bj w lo n ev code))
def dU(b:Nat)(w w':World):Prop:=
 w.grownBy w' (some b)∧(∀o,o≠1→w'.cell? ⟨b,o,none⟩=w.cell? ⟨b,o,none⟩)∧∀o,w'.frozen? ⟨b,o,none⟩=w.frozen? ⟨b,o,none⟩
theorem dU.refl(b:Nat)(w:World):dU b w w:=⟨World.grownBy.refl _ _,fun _ _=>rfl,fun _=>rfl⟩
theorem dU.trans{b:Nat}{w w1 w2:World}(h1:dU b w w1)(h2:dU b w1 w2):dU b w w2:=
 ⟨l5 h1.1 h2.1,fun o ho=>(h2.2.1 o ho).trans (h1.2.1 o ho),fun o=>(h2.2.2 o).trans (h1.2.2 o)⟩
theorem dU.bT{b:Nat}{w w':World}(hlt:b<w.heap.size)(h:Below w.heap.size w w'):dU b w w':=
 ⟨⟨h.os,h.tape,h.output,h.size,fun k hk _=>h.block k hk⟩,fun o _=>h.cell (p:=⟨b,o,none⟩) hlt,fun o=>h.frozen (p:=⟨b,o,none⟩) hlt⟩
theorem dU.under{b B:Nat}{w0 w w':World}(h:dU b w w')(h0:Below B w0 w)(hB:B≤b)(hs:B≤w.heap.size):Below B w0 w':=
 h0.grown h.1 hs (fun k e=>by cases e;exact hB)
theorem Ck.lt{w:World}{b lo:Nat}{code:Int}{ok:Bool}(h:Ck w b lo code ok):b<w.heap.size:=eN h.1
theorem Ck.below{w w':World}{b lo:Nat}{code:Int}{ok:Bool}(h:Ck w b lo code ok)(hb:Below w.heap.size w w'):Ck w' b lo code ok:=by
 obtain⟨h1,h2,ev,h3,h4⟩:=h;have hlt:b<w.heap.size:=eN h1;refine⟨(hb.cell (p:=⟨b,0,none⟩) hlt).trans h1,(hb.frozen (p:=⟨b,1,none⟩) hlt).trans h2,ev,(hb.cell (p:=⟨b,1,none⟩) hlt).trans h3,?_⟩;rcases h4 with h4|⟨h4,n,h5⟩
 ·exact .inl h4
 ·exact .inr ⟨h4,n,h5.below hb⟩
theorem Ck.keep{w w':World}{b lo:Nat}{code:Int}{ok:Bool}(h:Ck w b lo code ok)(hb:w'.heap[b]?=w.heap[b]?)(hk:∀k,k<w.heap.size→lo≤k→w'.heap[k]?=w.heap[k]?):Ck w' b lo code ok:=by
 obtain⟨h1,h2,ev,h3,h4⟩:=h;refine⟨(cell?_of_block (a:=⟨b,0,none⟩) hb).trans h1,(World.frozen?_of_block (a:=⟨b,1,none⟩) hb).trans h2,ev,(cell?_of_block (a:=⟨b,1,none⟩) hb).trans h3,?_⟩;rcases h4 with h4|⟨h4,n,h5⟩
 ·exact .inl h4
 ·exact .inr ⟨h4,n,h5.keep fun k o v hl hc=>(cell?_of_block (a:=⟨k,o,none⟩) (hk k (eN hc) hl)).trans hc⟩
theorem Ck.grown{w w':World}{b lo g:Nat}{code:Int}{ok:Bool}(h:Ck w b lo code ok)(hg:w.grownBy w' (some g))(hne:b≠g)(hl:g<lo):Ck w' b lo code ok:=
 h.keep (hg.block b h.lt (by simp;omega)) (fun k hk hlo=>hg.block k hk (by simp;omega))
theorem Ck.yf{w:World}{b lo lo':Nat}{code:Int}(h:Ck w b lo code true):Ck w b lo' code true:=by
 obtain⟨h1,h2,ev,h3,h4⟩:=h;rcases h4 with h4|⟨h4,_⟩
 ·exact⟨h1,h2,ev,h3,.inl h4⟩
 ·cases h4
theorem Ck.fresh(w:World)(code:Int)(t:TypeId):Ck (w.alloc (.cells #[.int .i64 code,.nilIface] t)) w.heap.size (w.heap.size+1) code true:=
 ⟨by simp,by simp,.nilIface,by simp,.inl ⟨rfl,rfl⟩⟩
theorem rY(b lo:Nat)(place:ByteArray)(code:Int)(ok:Bool)(w:World)(h:Ck w b lo code ok):
 Calls prog 56 #[.pointer (some ⟨b,0,none⟩),.string place,.nilIface] w fun e w'=>e=.returned (.tuple #[])∧w'=w:=by
 obtain⟨h1,h2,ev,h3,h4⟩:=h;rcases h4 with⟨rfl,rfl⟩|⟨rfl,n,h5⟩
 ·go_enter func56,ntmps56;go_wp2;go_end0;exact⟨rfl,rfl⟩
 ·obtain⟨t',x',rfl⟩:=h5.iface;clear h5;go_enter func56,ntmps56;go_wp2;go_end0;exact⟨rfl,rfl⟩
theorem oQ(b lo:Nat)(place:ByteArray)(code:Int)(ok:Bool)(n:Nat)(v:Value)(w:World)(h:Ck w b lo code ok)(hv:bj w lo n v code)(hlo:b<lo)(hsz:lo≤w.heap.size):
 Calls prog 56 #[.pointer (some ⟨b,0,none⟩),.string place,v] w fun e w'=>e=.returned (.tuple #[])∧Ck w' b lo code false∧dU b w w':=by
 have hlt:=h.lt;obtain⟨h1,h2,ev,h3,h4⟩:=h;rcases h4 with⟨rfl,rfl⟩|⟨rfl,m,h5⟩
 ·have HW:Hid (∀w',w'=(w.setCell ⟨b,1,none⟩ (.iface 153 (.pointer (some ⟨w.heap.size,0,none⟩)))).alloc (.cells #[.string place,v] 155)→Ck w' b lo code false∧dU b w w'):=by
   rintro w' rfl;have hnb:(⟨b,1,none⟩:Addr).block≠w.heap.size:=(by show b≠_;omega);have hk:∀k o u,lo≤k→w.cell? ⟨k,o,none⟩=some u→((w.setCell ⟨b,1,none⟩ (.iface 153 (.pointer (some ⟨w.heap.size,0,none⟩)))).alloc (.cells #[.string place,v] 155)).cell? ⟨k,o,none⟩=some u:=by
    intro k o u hk hc;have:=eN hc;rw[cell?_alloc_lt _ _ ⟨k,o,none⟩ (by simpa using this),World.cell?_setCell_other _ _ _ _ (by intro e;injection e with e1;omega)];exact hc
   refine⟨⟨?_,?_,_,?_,.inr ⟨rfl,n+1,⟨w.heap.size,v,rfl,hsz,?_,hv.keep hk⟩⟩⟩,⟨⟨rfl,rfl,rfl,by simp,fun k hk hn=>?_⟩,fun o ho=>?_,fun o=>?_⟩⟩
   ·rw[cell?_alloc_lt _ _ ⟨b,0,none⟩ (by simpa using hlt),World.cell?_setCell_other _ _ _ _ (by intro e;injection e with e1 e2;omega)];exact h1
   ·rw[World.frozen?_alloc_old _ _ ⟨b,1,none⟩ (by simpa using hnb)];simpa using h2
   ·rw[cell?_alloc_lt _ _ ⟨b,1,none⟩ (by simpa using hlt)];exact World.cell?_setCell_same _ _ _ h3
   ·rw[World.cell?_alloc_at _ _ _ _ (by simp)];rfl
   ·rw[Below.heap_alloc _ _ k (by simpa using hk)];exact Below.heap_setCell w _ _ k (fun h=>hn (by rw[h]))
   ·rw[cell?_alloc_lt _ _ ⟨b,o,none⟩ (by simpa using hlt),World.cell?_setCell_other _ _ _ _ (by intro e;injection e with e1 e2;omega)]
   ·rw[World.frozen?_alloc_old _ _ ⟨b,o,none⟩ (by simpa using hnb)];simp
  obtain⟨t',x',rfl⟩:=hv.iface;clear hv;go_enter func56,ntmps56;go_wp2;go_end0;exact⟨rfl,HW.out _ rfl⟩
 ·obtain⟨t',x',rfl⟩:=h5.iface;have HK:Hid (Ck w b lo code false):=⟨h1,h2,_,h3,.inr ⟨rfl,m,h5⟩⟩;obtain⟨t2,x2,rfl⟩:=hv.iface;clear h5 hv;go_enter func56,ntmps56;go_wp2;go_end0;exact⟨rfl,HK.out,dU.refl _ _⟩
theorem dV(b lo:Nat)(place:ByteArray)(code:Int)(ok hd:Bool)(w:World)(h:Ck w b lo code ok)(hlo:b<lo)(hsz:lo≤w.heap.size):
 Calls prog 58 #[.pointer (some ⟨b,0,none⟩),.string place,.bool hd] w fun e w'=>e=.returned (.tuple #[])∧Ck w' b lo code (ok&&hd)∧dU b w w':=by
 cases hd with
 |true=>
  have HK:Hid (Ck w b lo code (ok&&true)):=by show Ck w b lo code (ok&&true);simpa using h
  clear h;go_enter func58,ntmps58;go_wp2;go_end0;exact⟨rfl,HK.out,dU.refl _ _⟩
 |false=>
  have hlt:=h.lt;have hb0:Below w.heap.size w (w.alloc (.cells #[.int .i64 code] 118)):=ak.alloc aj _;have HK:Hid (Ck (w.alloc (.cells #[.int .i64 code] 118)) b lo code ok∧bj (w.alloc (.cells #[.int .i64 code] 118)) lo 0 (.iface 114 (.pointer (some ⟨w.heap.size,0,none⟩))) code):=
   ⟨h.below hb0,w.heap.size,rfl,hsz,by simp⟩
  have h1:=h.1;clear h;go_enter func58,ntmps58;go_wp2_with (go_at_call 56;refine(oQ b lo place code ok 0 _ _ HK.out.1 HK.out.2 hlo (by simp;omega)).mono ?_;rintro e w' ⟨rfl,r1,r2⟩);go_end0;refine⟨rfl,by simpa using r1,(dU.bT hlt hb0).trans r2⟩
theorem mV(b bl:Nat)(place:ByteArray)(code n lo hi:Int)(ok:Bool)(w:World)(h:Ck w b bl code ok)(hlo:b<bl)(hsz:bl≤w.heap.size):
 Calls prog 91 #[.pointer (some ⟨b,0,none⟩),.string place,.int .i64 n,.int .i64 lo,.int .i64 hi] w fun e w'=>e=.returned (.tuple #[])∧Ck w' b bl code (ok&&(decide (lo≤n)&&decide (n≤hi)))∧dU b w w':=by
 have HK:Hid (Ck w b bl code ok):=h;clear h;by_cases h1:lo≤n<;>by_cases h2:n≤hi;all_goals
  go_enter func91,ntmps91;go_wp2_with (go_at_call 58;refine(dV b bl place code ok _ _ HK.out hlo hsz).mono ?_;rintro e w' ⟨rfl,r1,r2⟩);go_end0;refine⟨rfl,?_,r2⟩;first
  |(rw[show(decide (lo≤n)&&decide (n≤hi))=true by rw[Bool.and_eq_true];simp;omega];exact r1)
  |(rw[show(decide (lo≤n)&&decide (n≤hi))=false by rw[Bool.and_eq_false_iff];simp;omega];exact r1)
def fa(w:World)(lo:Nat)(ok:Bool)(ev:Value)(code:Int):Prop:=(ok=true∧ev=.nilIface)∨(ok=false∧∃m,bj w lo m ev code)
theorem fa.mono{w:World}{lo lo':Nat}{ok:Bool}{ev:Value}{code:Int}(h:fa w lo ok ev code)(hl:lo'≤lo):fa w lo' ok ev code:=by
 rcases h with h|⟨h,m,h2⟩
 ·exact .inl h
 ·exact .inr ⟨h,m,h2.mono hl⟩
theorem mW(b lo:Nat)(place:ByteArray)(code:Int)(ok ok1:Bool)(ev:Value)(w:World)(h:Ck w b lo code ok)(hf:fa w lo ok1 ev code)(hlo:b<lo)(hsz:lo≤w.heap.size):
 Calls prog 56 #[.pointer (some ⟨b,0,none⟩),.string place,ev] w fun e w'=>e=.returned (.tuple #[])∧Ck w' b lo code (ok&&ok1)∧dU b w w':=by
 rcases hf with⟨rfl,rfl⟩|⟨rfl,m,hm⟩
 ·refine(rY b lo place code ok w h).mono ?_;rintro e w' ⟨rfl,rfl⟩;exact⟨rfl,by rw[Bool.and_true];exact h,dU.refl _ _⟩
 ·refine(oQ b lo place code ok m ev w h hm hlo hsz).mono ?_;rintro e w' ⟨rfl,h1,h2⟩;exact⟨rfl,by rw[Bool.and_false];exact h1,h2⟩
theorem fa.below{w w':World}{lo:Nat}{ok:Bool}{ev:Value}{code:Int}(h:fa w lo ok ev code)(hb:Below w.heap.size w w'):fa w' lo ok ev code:=by
 rcases h with h|⟨h,m,h2⟩
 ·exact .inl h
 ·exact .inr ⟨h,m,h2.below hb⟩
theorem Ck.fault{w:World}{b lo:Nat}{code:Int}{ok:Bool}(h:Ck w b lo code ok):∃ev,w.cell? ⟨b,1,none⟩=some ev∧fa w lo ok ev code:=by
 obtain⟨_,_,ev,c3,c4⟩:=h;exact⟨ev,c3,c4⟩
def aB(ds:List Int):Array Value:=(ds.map (Value.int .i64)).toArray
theorem fc(ds:List Int):(aB ds).size=ds.length:=by simp[aB]
theorem rZ(ds:List Int)(k:Nat)(h:k<ds.length):(aB ds)[k]?=some (.int .i64 (ds.getD k 0)):=by simp[aB,List.getD,h]
theorem yg(ds:List Int):(aB ds).all (·.oneCell')=true:=by
 rw[Array.all_eq_true_iff_forall_mem];intro v hv;simp[aB] at hv;obtain⟨z,_,rfl⟩:=hv;rfl
def af(w:World)(b:Nat)(C:Array Value)(t:TypeId):Prop:=w.heap[b]?=some (.cells C t (0,0))
theorem af.lt{w:World}{b:Nat}{C:Array Value}{t:TypeId}(h:af w b C t):b<w.heap.size:=(Array.getElem?_eq_some_iff.1 h).1
theorem af.cell{w:World}{b:Nat}{C:Array Value}{t:TypeId}(h:af w b C t)(k:Nat):w.cell? ⟨b,k,none⟩=C[k]?:=cell_of_row w b k C t (0,0) h
theorem af.frozen{w:World}{b:Nat}{C:Array Value}{t:TypeId}(h:af w b C t)(k:Nat):w.frozen? ⟨b,k,none⟩=false:=frozen_of_row w b k C t h
theorem af.below{w w':World}{b B:Nat}{C:Array Value}{t:TypeId}(h:af w b C t)(hb:Below B w w')(hB:b<B):af w' b C t:=(hb.block b hB).trans h
theorem af.set{w:World}{b:Nat}{C:Array Value}{t:TypeId}(h:af w b C t)(k:Nat)(v:Value):af (w.setCell ⟨b,k,none⟩ v) b (C.setIfInBounds k v) t:=heap_setCell_same w b k C t v h
theorem af.other{w:World}{b:Nat}{C:Array Value}{t:TypeId}(h:af w b C t)(a:Addr)(v:Value)(hne:b≠a.block):af (w.setCell a v) b C t:=(heap_setCell_other w a b v hne).trans h
theorem af.alloc{w:World}{b:Nat}{C:Array Value}{t:TypeId}(h:af w b C t)(o:Obj):af (w.alloc o) b C t:=(Below.heap_alloc w o b h.lt).trans h
theorem af.new(w:World)(C:Array Value)(t:TypeId):af (w.alloc (.cells C t)) w.heap.size C t:=heap_alloc_new w _
theorem af.range{w:World}{b:Nat}{ds:List Int}{t:TypeId}(h:af w b (aB ds) t)(o n:Nat)(hn:o+n≤ds.length):w.rangeAt b o (((ds.drop o).take n).map (Value.int .i64)):=by
 intro j v hv;rw[h.cell (o+j)];have hj:j<n:=by
  rcases Nat.lt_or_ge j n with h1|h1
  ·exact h1
  ·rw[List.getElem?_eq_none (by simp;omega)] at hv;cases hv
 simp[aB,hj] at hv⊢;exact hv
theorem af.row{w:World}{b:Nat}{C:Array Value}{t:TypeId}(h:af w b C t)(cs:Array Value):af (w.setRow b cs) b cs t:=by
 have h':w.heap[b]?=some (.cells C t (0,0)):=h;show(w.setRow b cs).heap[b]?=_;simp[setRow,Array.getElem?_modify,h']
def over(xs:List Int)(o:Nat)(ds:List Int):List Int:=xs.take o++ds++xs.drop (o+ds.length)
theorem si(xs:List Int)(o:Nat)(ds:List Int)(h:o+ds.length≤xs.length):(over xs o ds).length=xs.length:=by simp[over];omega
theorem yh(xs:List Int)(o:Nat)(d:Int)(ds:List Int)(h:o+(d::ds).length≤xs.length):over (xs.set o d) (o+1) ds=over xs o (d::ds):=by
 have hl:o<xs.length:=by simp at h;omega
 unfold over;rw[List.take_succ_eq_append_getElem (by simpa using hl),List.take_set_of_le aj,List.getElem_set_self,List.drop_set_of_lt (by omega)];simp[Nat.add_assoc,Nat.add_comm 1]
theorem yj(xs:List Int)(o:Nat)(d:Int):(aB xs).setIfInBounds o (.int .i64 d)=aB (xs.set o d):=by
 unfold aB;apply Array.ext';rw[Array.toList_setIfInBounds];show(xs.map (Value.int .i64)).set o (Value.int .i64 d)=_;rw[←List.map_set]
theorem af.cells{b:Nat}{t:TypeId}:∀(ds:List Int) {w:World} {xs:List Int} (o:Nat),af w b (aB xs) t→o+ds.length≤xs.length→af (w.setCells b o (ds.map (Value.int .i64))) b (aB (over xs o ds)) t
 |[],w,xs,o,h,_=>by simpa [over,World.setCells] using h
 |d::ds,w,xs,o,h,hl=>by
  have h1:=h.set o (.int .i64 d);rw[yj] at h1;have h2:=af.cells ds (o+1) h1 (by simp at hl⊢;omega);rw[yh xs o d ds hl] at h2;exact h2
theorem af.oS{b b':Nat}{t:TypeId}{C:Array Value}:∀(vs:List Value) {w:World} (o:Nat),af w b' C t→b'≠b→af (w.setCells b o vs) b' C t
 |[],_,_,h,_=>h
 |v::vs,_,o,h,hne=>af.oS vs (o+1) (h.other ⟨b,o,none⟩ v hne) hne
theorem oU{B b:Nat}{w0:World}(hB:B≤b):∀(vs:List Value) {w:World} (o:Nat),Below B w0 w→Below B w0 (w.setCells b o vs)
 |[],_,_,h=>h
 |v::vs,_,o,h=>oU hB vs (o+1) (h.setCell (p:=⟨b,o,none⟩) hB v)
theorem af.there{w:World}{b:Nat}{C:Array Value}{t:TypeId}(h:af w b C t)(o n:Nat)(hn:o+n≤C.size):w.there b o n:=fun j hj=>
 ⟨by rw[h.cell (o+j),Array.getElem?_eq_getElem (by omega)];rfl,h.frozen _⟩
theorem iq{P:Program}{fn:Func}{p u:Tmp}{ty:TypeId}(h:fn.results=#[.cell p ty,.tmp u])(tmps:Array Value)(w:World)(g:Nat)(t:TypeId)(cs:Array Value)(fr:Nat×Nat)(d:TypeDesc)(x:Value)
 (hp:tmps.getD p undef=.pointer (some ⟨g,0,none⟩)) (hx:tmps.getD u undef=x) (hg:w.heap[g]?=some (.cells cs t fr))
 (hu:P.underlying ty=some d) (hd:(match d with|.struct _|.array _ _=>true|_=>false)=true) (hi:(P.info? ty).map (·.size)=some cs.size):
 (results fn tmps).run P w=.ok (.tuple #[.agg cs,x]) w:=by
 rw[results_cell_tmp h,hp,hx];simp[asAddr,run_loadVar_row w g t ty cs fr d hg hu hd hi,Result.andThen]
theorem l6(w:World)(g:Nat)(cs:Array Value)(k:Nat)(h:k≠g):(w.setRow g cs).heap[k]?=w.heap[k]?:=by
 simp[setRow,Array.getElem?_modify,Ne.symm h]
def gJ(z:Int):Bool:=decide (0≤z)&&decide (z≤4294967295)
def gx(i:Nat)(z:Int):Bool:=decide (2≤i)||decide (z=1)
def eP(ws:List Int):Nat→Bool
 |0=>true
 |k+1=>eP ws k&&(gJ (ws.getD k 0)&&gx k (ws.getD k 0))
def jg(n:Nat):Bool:=decide (64≤n)&&decide (n≤2048)
def dP(ws:List Int):Bool:=jg ws.length&&eP ws ws.length
theorem yl(v:Value)(ws:List Int)(w:World)(h:Rd .i64 w v ws):
 Calls prog 57 #[v] w fun e w'=>∃ev,e=.returned ev∧fa w' w.heap.size (dP ws) ev 7∧Below w.heap.size w w':=by
 have hm:=h.len;unfold maxLen at hm;have hb0:Below w.heap.size w (w.alloc (.cells #[.int .i64 7,.nilIface] 100)):=ak.alloc aj _;have K:=aa (ag (Ck.fresh w 7 100) hb0);have HS:=ae (jg ws.length=(decide ((64:Int)≤(ws.length:Int))&&decide ((ws.length:Int)≤2048))) (by unfold jg;congr 1<;>(apply decide_eq_decide.2;omega));have HR:=ae (∀b,eP ws ws.length=b→dP ws=(jg ws.length&&b)) (fun b hb=>by unfold dP;rw[hb]);have HO:=ae (∀k,eP ws (k+1)=(eP ws k&&(gJ (ws.getD k 0)&&gx k (ws.getD k 0)))) (fun k=>rfl);have H0:=ae (eP ws 0=true) rfl;clear hb0;rcases h.parts with⟨a,cap,rfl,hlow⟩|⟨b,off,cap,rfl,hbw,hcell⟩;all_goals
  clear h;go_enter func57,ntmps57;go_wp2_with (go_at_call 91;fail);refine(mV w.heap.size (w.heap.size+1) _ 7 _ 64 2048 true _ K.out.1 (by omega) (by simp)).mono ?_;rintro e w1 ⟨rfl,hc1,ht1⟩;rw[Bool.true_and, ←HS.out] at hc1;have H1:=aa (ag hc1 (ht1.under K.out.2 aj (by simp)));clear hc1 ht1 K;go_wp2;go_loopw [12] (fun i wr=>∃k:Nat,k≤ws.length∧i=.int .i64 k∧Ck wr w.heap.size (w.heap.size+1) 7 (jg ws.length&&eP ws k)∧Below w.heap.size w wr) (fun i _=>ws.length-(intOf i).toNat)
  case atStart=>exact⟨0,by omega,rfl,by rw[H0.out,Bool.and_true];exact H1.out.1,H1.out.2⟩
  case round=>
   obtain⟨k,hk,rfl,hck,hbel⟩:=hrel;have HK:=aa (ag hck hbel);have hlt1:=hck.lt;clear hck hbel H1;by_cases hlt:k<ws.length
   ·first
    |omega
    |(
     have c1:=(HK.out.2.cell (p:=⟨b,off+k,none⟩) hbw).trans (hcell k hlt);have HT:=aa (HO.out k);clear hcell;generalize ws.getD k 0=z at c1 HT;go_wp2_with (go_at_call 91;fail);refine(mV w.heap.size (w.heap.size+1) _ 7 z 0 4294967295 _ _ HK.out.1 (by omega) (by omega)).mono ?_;rintro e w2 ⟨rfl,hc2,ht2⟩;have H2:=aa (ag hc2 (ht2.under HK.out.2 aj (by omega)));have hlt2:=hc2.lt;clear hc2 ht2 HK c1;by_cases h2:2≤k
     ·have HH:=ae (gx k z=true) (by simp[gx,h2]);go_wp2_with (go_at_call 58;refine(dV w.heap.size (w.heap.size+1) _ 7 _ true _ H2.out.1 (by omega) (by omega)).mono ?_;rintro e w3 ⟨rfl,hc3,ht3⟩);have H3:=aa (ag hc3 (ht3.under H2.out.2 aj (by omega)));clear hc3 ht3;go_roundw
      case rel=>exact⟨k+1,by omega,by go_num,by rw[HT.out,HH.out, ←Bool.and_assoc, ←Bool.and_assoc];exact H3.out.1,H3.out.2⟩
      case measure=>simp[intOf];omega
     ·have HH:=ae (gx k z=(decide ((2:Int)≤(k:Int))||z==1)) (by unfold gx;congr 1;apply decide_eq_decide.2;omega);go_wp2_with (go_at_call 58;refine(dV w.heap.size (w.heap.size+1) _ 7 _ _ _ H2.out.1 (by omega) (by omega)).mono ?_;rintro e w3 ⟨rfl,hc3,ht3⟩);have H3:=aa (ag hc3 (ht3.under H2.out.2 aj (by omega)));clear hc3 ht3;go_roundw
      case rel=>exact⟨k+1,by omega,by go_num,by rw[HT.out,HH.out, ←Bool.and_assoc, ←Bool.and_assoc];exact H3.out.1,H3.out.2⟩
      case measure=>simp[intOf];omega)
   ·have ek:k=ws.length:=(by omega);obtain⟨ev,c3,hf⟩:=HK.out.1.fault;have HF:=aa (ag hf (ag HK.out.2 ek));clear hf ek HK;go_wp2;go_ret;refine⟨ev,rfl,?_,HF.out.2.1⟩;have h:=HF.out.1;rw[HF.out.2.2] at h;exact h.mono (by omega)
theorem oV(ws:List Int):∀(n k:Nat),k≤n→eP ws n=true→eP ws k=true
 |0,k,hk,h=>by
  have:k=0:=by omega
  subst this;exact h
 |n+1,k,hk,h=>by
  by_cases e:k=n+1
  ·subst e;exact h
  ·have h':(eP ws n&&(gJ (ws.getD n 0)&&gx n (ws.getD n 0)))=true:=h;rw[Bool.and_eq_true] at h';exact oV ws n k (by omega) h'.1
theorem ym(ws:List Int)(n k:Nat)(hk:k<n)(h:(gJ (ws.getD k 0)&&gx k (ws.getD k 0))=false):eP ws n=false:=by
 cases e:eP ws n with
 |false=>rfl
 |true=>
  have h1:=oV ws n (k+1) (by omega) e;have h2:(eP ws k&&(gJ (ws.getD k 0)&&gx k (ws.getD k 0)))=true:=h1;rw[h,Bool.and_false] at h2;cases h2
theorem yo(v:Value)(ws:List Int)(w:World)(h:Rd .i64 w v ws):
 Calls prog 31 #[v] w fun e w'=>e=.returned (.bool (dP ws))∧w'=w:=by
 have hm:=h.len;unfold maxLen at hm;by_cases h1:ws.length<64
 ·have HR:=ae (dP ws=false) (by simp[dP,jg];omega);obtain⟨a,cap,rfl,_⟩:=h;go_enter func31,ntmps31;go_wp2;go_ret;exact⟨ep HR.out.symm,rfl⟩
 ·by_cases h2:2048<ws.length
  ·have HR:=ae (dP ws=false) (by simp[dP,jg];omega);obtain⟨a,cap,rfl,_⟩:=h;go_enter func31,ntmps31;go_wp2;go_ret;exact⟨ep HR.out.symm,rfl⟩
  ·obtain⟨b,off,cap,rfl,hbw,_,_,hcell⟩:=h.dj (by omega);have HZ:=ae (dP ws=eP ws ws.length) (by
    have e:jg ws.length=true:=(by simp[jg];omega);rw[dP,e,Bool.true_and])
   have HF:=aa (ym ws ws.length);have HO:=ae (∀k,eP ws (k+1)=(eP ws k&&(gJ (ws.getD k 0)&&gx k (ws.getD k 0)))) (fun k=>rfl);have c0:=hcell 0 (by omega);have c1:=hcell 1 (by omega);rw[Nat.add_zero] at c0;by_cases h3:ws.getD 0 0=1
   ·by_cases h4:ws.getD 1 0=1
    ·rw[h3] at c0;rw[h4] at c1;have HH:=ae (∀k,gx k (ws.getD k 0)=true) (fun k=>by
      unfold gx;by_cases hk:2≤k
      ·simp[hk]
      ·have:k=0∨k=1:=(by omega);rcases this with rfl|rfl
       ·rw[h3];simp
       ·rw[h4];simp)
     have H0:=ae (eP ws 0=true) rfl;have HC:=aa hcell;clear h3 h4 hcell h;go_enter func31,ntmps31;go_wp2;go_loop [27] (fun i=>∃k:Nat,k≤ws.length∧i=.int .i64 k∧eP ws k=true) (fun i=>ws.length-(intOf i).toNat)
     case atStart=>exact⟨0,by omega,rfl,H0.out⟩
     case round=>
      obtain⟨k,hk,rfl,hok⟩:=hrel;have HK:=aa hok;clear hok c0 c1;by_cases hlt:k<ws.length
      ·have ck:=HC.out k hlt;have HT:=aa (HO.out k);have HE:=aa (HF.out k hlt);rw[HH.out k,Bool.and_true] at HT HE;generalize ws.getD k 0=z at ck HT HE;by_cases hz0:z<0
       ·have hw:=ae (gJ z=false) (by simp[gJ];omega);go_wp2;go_ret;exact⟨ep (by rw[HZ.out,HE.out hw.out]),rfl⟩
       ·by_cases hz1:4294967295<z
        ·have hw:=ae (gJ z=false) (by simp[gJ];omega);go_wp2;go_ret;exact⟨ep (by rw[HZ.out,HE.out hw.out]),rfl⟩
        ·have hw:=ae (gJ z=true) (by simp[gJ];omega);go_wp2;go_round
         case rel=>exact⟨k+1,by omega,by go_num,by rw[HT.out,HK.out,hw.out];rfl⟩
         case measure=>simp[intOf];omega
      ·have ek:k=ws.length:=(by omega);have HE:=ae (eP ws ws.length=true) (by rw[←ek];exact HK.out);clear ek;go_wp2;go_ret;exact⟨ep (by rw[HZ.out,HE.out]),rfl⟩
    ·have HR:=ae (eP ws ws.length=false) (HF.out 1 (by omega) (by simp[gx];intro _;exact h4));have hq:(ws.getD 1 0 !=1)=true:=(by simpa using h4);rw[h3] at c0;generalize ws.getD 1 0=z1 at c1 hq;clear h3 h4 hcell h;go_enter func31,ntmps31;go_wp2;go_ret;exact⟨ep (by rw[HZ.out,HR.out]),rfl⟩
   ·have HR:=ae (eP ws ws.length=false) (HF.out 0 (by omega) (by simp[gx];intro _;exact h3));have hq:(ws.getD 0 0 !=1)=true:=(by simpa using h3);generalize ws.getD 0 0=z0 at c0 hq;clear h3 hcell h c1;go_enter func31,ntmps31;go_wp2;go_ret;exact⟨ep (by rw[HZ.out,HR.out]),rfl⟩
def eF(z p:Nat):Nat:=z/2^p%2
theorem yp(n:Int)(h0:0≤n)(h1:n<2^63):IntKind.i64.wrap n=n:=by rw[IntKind.wrap_i64];omega
theorem yq(z p:Nat)(w:World)(hz:z≤4294967295)(hp:p<32):
 Calls prog 119 #[.int .i64 (z:Int),.int .i64 (p:Int)] w fun e w'=>e=.returned (.int .i64 (eF z p:Nat))∧w'=w:=by
 have H0:=ae (z/2^0=z) (by simp);have HS:=ae (∀k,z/2^(k+1)=z/2^k/2) (fun k=>by rw[Nat.pow_succ,Nat.div_div_eq_div_mul]);have HL:=ae (∀k,z/2^k≤4294967295) (fun k=>aN (Nat.div_le_self _ _) hz);have HB:=ae (eF z p=z/2^p%2) rfl;go_enter func119,ntmps119;go_wp2;go_loop [0,5] (fun a i=>∃k y:Nat,k≤p∧i=.int .i64 k∧a=.int .i64 y∧y=z/2^k) (fun _ i=>p-(intOf i).toNat)
 case atStart=>exact⟨0,z,by omega,rfl,rfl,H0.out.symm⟩
 case round=>
  obtain⟨k,y,hk,rfl,rfl,hy⟩:=hrel;have hyl:y≤4294967295:=by rw[hy];exact HL.out k
  have HY:=aa hy;clear hy hz;by_cases hlt:k<p
  ·go_wp2;go_round
   case rel=>exact⟨k+1,y/2,by omega,by go_num,by go_num,by rw[HS.out, ←HY.out]⟩
   case measure=>simp[intOf];omega
  ·have ek:k=p:=(by omega);subst ek;go_wp2;go_ret;exact⟨fK (by rw[HB.out, ←HY.out];omega),rfl⟩
def eG(y p:Nat):Nat:=y-eF y p*2^p
def sj(y p:Nat):Nat:=eG y p+2^p
theorem l7(y p:Nat):eF y p<2:=Nat.mod_lt _ (by decide)
theorem kO(x p:Nat):x.testBit p=decide (eF x p=1):=Nat.testBit_eq_decide_div_mod_eq
theorem yt(x p:Nat)(h:eF x p=0)(i:Nat):(2^p+x).testBit i=(x.testBit i||decide (p=i)):=by
 rcases Nat.lt_trichotomy i p with hi|rfl|hi
 ·rw[Nat.testBit_two_pow_add_gt hi,decide_eq_false (by omega),Bool.or_false]
 ·rw[Nat.testBit_two_pow_add_eq,kO,h];simp
 ·rw[kO,kO,decide_eq_false (show ¬p=i by omega),Bool.or_false];have e:(2^p+x)/2^i=x/2^i:=by
   have hp:2^i=2^p*(2*2^(i-p-1)):=by
    rw[←Nat.pow_succ', ←Nat.pow_add];congr 1;omega
   rw[hp, ←Nat.div_div_eq_div_mul, ←Nat.div_div_eq_div_mul, ←Nat.div_div_eq_div_mul, ←Nat.div_div_eq_div_mul];congr 1;rw[Nat.add_div_left _ (Nat.two_pow_pos p)];unfold eF at h;generalize x/2^p=q at h;omega
  unfold eF;rw[e]
theorem sk(y p:Nat):eF (eG y p) p=0∧y=eG y p+eF y p*2^p:=by
 have hb:=l7 y p;have hd:=Nat.div_mul_le_self y (2^p);have hle:eF y p*2^p≤y:=aN (Nat.mul_le_mul_right _ (Nat.mod_le _ _)) hd;refine⟨?_,by unfold eG;omega⟩;rcases(show eF y p=0∨eF y p=1 by omega) with h|h
 ·unfold eG;rw[h];simpa using h
 ·have e:y=2^p+eG y p:=by unfold eG;rw[h] at hle⊢;omega
  have h2:y.testBit p=true:=by rw[kO,h];rfl
  rw[e,Nat.testBit_two_pow_add_eq,kO] at h2;have:=l7 (eG y p) p;simp at h2;omega
theorem oX(y p:Nat):eG y p≤y:=Nat.sub_le _ _
theorem yu(y p:Nat)(hy:y<2^64)(hp:p<64):y&&& (2^64-(2^p+1))=eG y p:=by
 apply Nat.eq_of_testBit_eq;intro i;have h2:2^p<2^64:=Nat.pow_lt_pow_right (by decide) hp;have hs:=sk y p;have hc:=oX y p;have hz:(eG y p).testBit p=false:=by rw[kO,hs.1];rfl
 rw[Nat.testBit_and,Nat.testBit_two_pow_sub_succ h2,Nat.testBit_two_pow];by_cases hi:i<64
 ·have hy2:y.testBit i=((eG y p).testBit i||(decide (p=i)&&decide (eF y p=1))):=by
   rcases(show eF y p=0∨eF y p=1 by have:=l7 y p;omega) with h|h
   ·have e:eG y p=y:=(by unfold eG;rw[h];simp);rw[e,h];simp
   ·have e:y=2^p+eG y p:=(by have:=hs.2;rw[h] at this;omega);have:=yt (eG y p) p hs.1 i;rw[←e] at this;rw[this,h];simp
  rw[hy2];by_cases hpi:p=i
  ·subst hpi;rw[hz];simp
  ·simp[hpi,hi]
 ·have h64:2^64≤2^i:=Nat.pow_le_pow_right (by decide) (by omega);rw[Nat.testBit_lt_two_pow (show y<2^i by omega),Nat.testBit_lt_two_pow (show eG y p<2^i by omega)];rfl
theorem yw(y p:Nat)(hy:y≤4294967295)(hp:p<32):bits .andNot .i64 (y:Int) ((2^p:Nat):Int)=(eG y p:Int):=by
 have h2:2^p<2^64:=Nat.pow_lt_pow_right (by decide) (by omega);have hy':y%2^64=y:=Nat.mod_eq_of_lt (by omega);have hp':2^p%2^64=2^p:=Nat.mod_eq_of_lt h2;have e:=yu y p (by omega) (by omega);have hc:=oX y p;have eb:IntKind.i64.bits=64:=rfl;have:(BitVec.ofInt IntKind.i64.bits (y:Int)&&& ~~~ BitVec.ofInt IntKind.i64.bits ((2^p:Nat):Int)).toNat=eG y p:=by
  rw[eb,BitVec.ofInt_natCast,BitVec.ofInt_natCast,BitVec.toNat_and,BitVec.toNat_not,BitVec.toNat_ofNat,BitVec.toNat_ofNat,hy',hp', ←e];congr 1;omega
 show IntKind.i64.wrap ((BitVec.ofInt IntKind.i64.bits (y:Int)&&& ~~~ BitVec.ofInt IntKind.i64.bits ((2^p:Nat):Int)).toNat:Int)=_;rw[this];exact yp _ (by omega) (by omega)
def j8(n:Nat)(z:Int):Bool:=decide (2≤z)&&decide (z<n)
def kP(y p:Nat)(i:Bool):Nat:=if i then sj y p else eG y p
theorem yx(ws:List Int)(hr:dP ws=true)(k:Nat)(hk:k<ws.length):∃y:Nat,ws.getD k 0=(y:Int)∧y≤4294967295:=by
 unfold dP at hr;rw[Bool.and_eq_true] at hr;have h1:=oV ws ws.length (k+1) (by omega) hr.2;have h2:(eP ws k&&(gJ (ws.getD k 0)&&gx k (ws.getD k 0)))=true:=h1;simp only[Bool.and_eq_true] at h2;have h3:=h2.2.1;generalize ws.getD k 0=z at h3;simp[gJ] at h3;exact⟨z.toNat,by omega,by omega⟩
theorem oY(ws:List Int)(hr:dP ws=true):64≤ws.length∧ws.length≤2048:=by
 unfold dP jg at hr;simp at hr;omega
end
end Go.Proofs.YtlimollpocagiaaGreatDoor
