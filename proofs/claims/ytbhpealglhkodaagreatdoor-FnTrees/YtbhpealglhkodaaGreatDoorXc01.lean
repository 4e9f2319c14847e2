/- Plain notions that the walks share: a slice value that reads as a list of numbers; what is -/
import Derived.WalkKit
import Derived.ProofKit
import Derived.Below
import Derived.Test.YtbhpealglhkodaaGreatDoorRows
import Derived.WalkLawsBesides
import Derived.LaidEql
import Derived.Stop.Asserts
import Derived.RowKitTokens
import Derived.Deep.LoopGhost
import Derived.OrdersHeld
import Derived.Deep.RegionHeld
import Derived.Deep.RegionHeld3
namespace Go.Proofs.YtbhpealglhkodaaGreatDoor
set_option linter.all false
set_option maxRecDepth 100000
set_option maxHeartbeats 16000000
section
open Go.RowKit
theorem sqA{α:Type _}(xs:List α)(i:Nat)(h:i<xs.toArray.size):xs.toArray[i]=xs[i]'(by simpa using h):=rfl
theorem sqB{α:Type _}(a:α)(xs:List α)(h:0<(a::xs).length):(a::xs)[0]=a:=rfl
theorem sqC{α:Type _}(a:α)(xs:List α)(n:Nat)(h:n+1<(a::xs).length):(a::xs)[n+1]=xs[n]'(Nat.lt_of_succ_lt_succ h):=rfl
theorem sqD{α:Type _}(xs:List α)(i:Nat)(a:α):xs.toArray.setIfInBounds i a=(xs.set i a).toArray:=List.setIfInBounds_toArray ..
theorem sqE{α:Type _}(a b:α)(xs:List α):(a::xs).set 0 b=b::xs:=rfl
theorem sqF{α:Type _}(a b:α)(xs:List α)(n:Nat):(a::xs).set (n+1) b=a::xs.set n b:=rfl
theorem sqbr{b:Nat}{w:World}:Below b w w:=Below.refl _ _
theorem sqlr{n:Nat}:n≤n:=Nat.le_refl n
theorem sqh(p:Prop)(h:p):Hid p:=h
theorem sqan{p q:Prop}(h:p)(k:q):p∧q:=⟨h,k⟩
theorem sqil{p q:Prop}(h:p):p∨q:=.inl h
theorem sqir{p q:Prop}(h:q):p∨q:=.inr h
theorem sqnt{a b c:Nat}(h:a≤b)(k:b≤c):a≤c:=Nat.le_trans h k
section
variable {P:Program} {ops:Array Oper} {Q:Exit→Act→World→Prop} {md:Region.Mode} {S:World→Prop} {oi:Oper} {fuel:Nat} {listed l':Array Bool} {a a':Act} {w:World}
theorem sqtk(i:Nat)(v:Value)(hi:ops[i]?=some oi)(hS:S w)(h:wpAnyH P md ops Q S fuel l' a' w)
 (hy:YieldsIf P ops S oi v a:=by exact Or.inl ⟨by rfl,fun w' hw'=>by go_simp⟩)
 (hs:Region.noSelect ops=true:=by kernel_rfl) (hf:Region.free md ops listed i=true:=by kernel_rfl) (hr:(Region.ready md ops listed).contains i=true:=by kernel_rfl)
 (hQ:∀c a w,Q (.panic c) (a.put oi.dst v) w→Q (.panic c) a w:=by exact fun _ _ _ h=>h)
 (ha:a.put oi.dst v=a':=by(try simp only[Act.put,sqA,sqB,sqC,sqD,sqE,sqF]);rfl)
 (hl:listed.setIfInBounds i true=l':=by(try simp only[sqA,sqB,sqC,sqD,sqE,sqF]);rfl):wpAnyH P md ops Q S (fuel+1) listed a w:=by
 subst ha hl;exact wpAnyH_take hi hs hf hr hQ hy hS h
theorem sqtj(i:Nat)(v:Value)(hi:ops[i]?=some oi)(hS:S w)(h:wpAnyH P md ops Q S fuel (listed.setIfInBounds i true) (a.put oi.dst v) w)
 (hy:YieldsIf P ops S oi v a:=by exact Or.inl ⟨by rfl,fun w' hw'=>by go_simp⟩)
 (hs:Region.noSelect ops=true:=by kernel_rfl) (hf:Region.free md ops listed i=true:=by kernel_rfl) (hr:(Region.ready md ops listed).contains i=true:=by kernel_rfl)
 (hQ:∀c a w,Q (.panic c) (a.put oi.dst v) w→Q (.panic c) a w:=by exact fun _ _ _ h=>h):wpAnyH P md ops Q S (fuel+1) listed a w:=
 wpAnyH_take hi hs hf hr hQ hy hS h
theorem sqtku(i:Nat)(hi:ops[i]?=some oi)(hS:S w)(h:wpAnyH P md ops Q S fuel l' a' w)
 (hy:YieldsIf P ops S oi undef a:=by exact Or.inr ⟨by rfl,rfl⟩)
 (hs:Region.noSelect ops=true:=by kernel_rfl) (hf:Region.free md ops listed i=true:=by kernel_rfl) (hr:(Region.ready md ops listed).contains i=true:=by kernel_rfl)
 (hQ:∀c a w,Q (.panic c) (a.put oi.dst undef) w→Q (.panic c) a w:=by exact fun _ _ _ h=>h)
 (ha:a.put oi.dst undef=a':=by(try simp only[Act.put,sqA,sqB,sqC,sqD,sqE,sqF]);rfl)
 (hl:listed.setIfInBounds i true=l':=by(try simp only[sqA,sqB,sqC,sqD,sqE,sqF]);rfl):wpAnyH P md ops Q S (fuel+1) listed a w:=by
 subst ha hl;exact wpAnyH_take hi hs hf hr hQ hy hS h
theorem sqtju(i:Nat)(hi:ops[i]?=some oi)(hS:S w)(h:wpAnyH P md ops Q S fuel (listed.setIfInBounds i true) (a.put oi.dst undef) w)
 (hy:YieldsIf P ops S oi undef a:=by exact Or.inr ⟨by rfl,rfl⟩)
 (hs:Region.noSelect ops=true:=by kernel_rfl) (hf:Region.free md ops listed i=true:=by kernel_rfl) (hr:(Region.ready md ops listed).contains i=true:=by kernel_rfl)
 (hQ:∀c a w,Q (.panic c) (a.put oi.dst undef) w→Q (.panic c) a w:=by exact fun _ _ _ h=>h):wpAnyH P md ops Q S (fuel+1) listed a w:=
 wpAnyH_take hi hs hf hr hQ hy hS h
theorem sqyl{v:Value}(h:∀w,S w→(execOp a.eval oi).run P w=.ok (.value v) w)(hw:Region.wanted oi (yielded ops a.tmps)=true:=by rfl):YieldsIf P ops S oi v a:=Or.inl ⟨hw,h⟩
theorem sqry(i:Nat)(ho:ops[i]?=some oi)
 (h:∀K':Act→World→Prop,Shut (∀a w,S w→(S w→wpAnyH P md ops Q S fuel (listed.setIfInBounds i true) a w)→K' a w)→if Region.wanted oi (yielded ops a.tmps)=true then Oper.wp P oi a w K' Q else K' (a.put oi.dst undef) w)
 (hr:Region.ready md ops listed=[i]:=by kernel_rfl):wpAnyH P md ops Q S (fuel+1) listed a w:=
 wpAnyH_ready hr (by simp) (AllReadyH.cons ho h AllReadyH.nil)
theorem sqdn(h:Q .normal a w)(hr:Region.ready md ops listed=[]:=by kernel_rfl):wpAnyH P md ops (NoPanic Q) S fuel listed a w:=wpAnyH_done hr (NoPanic.normal h) fuel
theorem sqrh{id:Nat}(S:World→Prop)(hS:S w.drew)(h:S w.drew→wpAnyH P .any ops (NoPanic Q) S ops.size (Array.replicate ops.size false) a w.drew)(hm:P.follows .mixedOrders=true:=by kernel_rfl):(Code.region id ops true).wp P Q a w:=
 wp_region_noPanic (wp_region_held_drew hm hS h)
end
end
section
open Go.RowKit
theorem hide{p:Prop}(h:p):Hid p:=h
theorem ret_int{k:IntKind}{a b:Int}(h:a=b):Ending.returned (.int k a)=.returned (.int k b):=by rw[h]
theorem ret_bool{a b:Bool}(h:a=b):Ending.returned (.bool a)=.returned (.bool b):=by rw[h]
def Rd(k:IntKind)(w:World)(v:Value)(zs:List Int):Prop:=
 ∃a cap,v=.slice a zs.length cap∧zs.length≤maxLen∧(zs≠[]→∃b off,a=some ⟨b,off,none⟩∧b<w.heap.size∧∀i,i<zs.length→w.cell? ⟨b,off+i,none⟩=some (.int k (zs.getD i 0)))∧zs.length≤cap∧cap≤maxLen
theorem Rd.below{k:IntKind}{w w':World}{v:Value}{zs:List Int}(h:Rd k w v zs)(hb:Below w.heap.size w w'):Rd k w' v zs:=by
 obtain⟨a,cap,rfl,hm,hc,hcap⟩:=h;refine⟨a,cap,rfl,hm,fun hne=>?_,hcap⟩;obtain⟨b,off,rfl,hlt,hcell⟩:=hc hne;exact⟨b,off,rfl,Nat.lt_of_lt_of_le hlt hb.size,fun i hi=>(hb.cell (p:=⟨b,off+i,none⟩) hlt).trans (hcell i hi)⟩
theorem Rd.parts{k:IntKind}{w:World}{v:Value}{zs:List Int}(h:Rd k w v zs):(∃a cap,v=.slice a zs.length cap∧zs.length<1)∨
 ∃b off cap,v=.slice (some ⟨b,off,none⟩) zs.length cap∧b<w.heap.size∧∀i,i<zs.length→w.cell? ⟨b,off+i,none⟩=some (.int k (zs.getD i 0)):=by
 obtain⟨a,cap,rfl,hm,hc,_⟩:=h;by_cases hne:zs=[]
 ·subst hne;exact .inl ⟨a,cap,rfl,by simp⟩
 ·obtain⟨b,off,rfl,hlt,hcell⟩:=hc hne;exact .inr ⟨b,off,cap,rfl,hlt,hcell⟩
theorem Rd.partsC{k:IntKind}{w:World}{v:Value}{zs:List Int}(h:Rd k w v zs)(hne:0<zs.length):
 ∃b off cap,v=.slice (some ⟨b,off,none⟩) zs.length cap∧b<w.heap.size∧zs.length≤cap∧cap≤maxLen∧∀i,i<zs.length→w.cell? ⟨b,off+i,none⟩=some (.int k (zs.getD i 0)):=by
 obtain⟨a,cap,rfl,hm,hc,h1,h2⟩:=h;obtain⟨b,off,rfl,hlt,hcell⟩:=hc (fun e=>by rw[e] at hne;simp at hne);exact⟨b,off,cap,rfl,hlt,h1,h2,hcell⟩
theorem Rd.cut{k:IntKind}{w:World}{b off cap:Nat}{zs:List Int}(lo n:Nat)(hb:b<w.heap.size)(hcap:cap≤maxLen)(hl:zs.length≤cap)
 (hcell:∀i,i<zs.length→w.cell? ⟨b,off+i,none⟩=some (.int k (zs.getD i 0))) (hn:lo+n≤zs.length):Rd k w (.slice (some ⟨b,off+lo,none⟩) n (cap-lo)) ((zs.drop lo).take n):=by
 have hlen:((zs.drop lo).take n).length=n:=by simp;omega
 refine⟨some ⟨b,off+lo,none⟩,cap-lo,by rw[hlen],by omega,fun _=>⟨b,off+lo,rfl,hb,fun i hi=>?_⟩,by omega,by omega⟩;rw[hlen] at hi;rw[Nat.add_assoc,hcell (lo+i) (by omega)];simp[List.getD,hi]
theorem Rd.cut2{k:IntKind}{w:World}{b off cap m:Nat}{zs:List Int}(lo n:Nat)(h:Rd k w (.slice (some ⟨b,off,none⟩) m cap) zs)(hn0:0<n)(hn:lo+n≤zs.length):Rd k w (.slice (some ⟨b,off+lo,none⟩) n (cap-lo)) ((zs.drop lo).take n):=by
 obtain⟨b',off',cap',e,h1,h2,h3,h4⟩:=h.partsC (by omega);injection e with e1 e2 e3;injection e1 with e1;injection e1 with e4 e5;subst e3 e4 e5;exact Rd.cut lo n h1 h3 h2 h4 hn
theorem Rd.len{k:IntKind}{w:World}{v:Value}{zs:List Int}(h:Rd k w v zs):zs.length≤maxLen:=by
 obtain⟨_,_,_,hm,_⟩:=h;exact hm
theorem Rd.own{k:IntKind}{w:World}{base:Nat}{e:TypeId}{v:Value}{n:Nat}{zs:List Int}(h:w.ownsRow base e 1 v n (zs.map (Value.int k))):Rd k w v zs:=by
 have hl:zs.length=n:=by have:=h.1;simpa using this
 subst hl;rcases h.2 with⟨rfl,h0⟩|⟨g,cap,cur,rfl,hb,hg,hnc,hcm,hcs,htake⟩
 ·have:zs=[]:=List.eq_nil_of_length_eq_zero h0;subst this;exact⟨none,0,rfl,by simp,fun h=>absurd rfl h,by simp,by simp⟩
 ·refine⟨some ⟨g,0,none⟩,cap,rfl,by omega,fun _=>⟨g,0,rfl,?_,fun i hi=>?_⟩,hnc,hcm⟩
  ·exact(Array.getElem?_eq_some_iff.1 hg).1
  ·have h':w.ownsRow base e 1 (.slice (some ⟨g,0,none⟩) zs.length cap) zs.length (zs.map (Value.int k)):=h;have:=h'.cellAt i (by omega);rw[Nat.zero_add,this];simp[List.getD,hi]
theorem own_below{w w':World}{base:Nat}{e:TypeId}{size:Nat}{v:Value}{n:Nat}{xs:List Value}(h:w.ownsRow base e size v n xs)(hb:Below w.heap.size w w'):w'.ownsRow base e size v n xs:=by
 obtain⟨h1,h2⟩:=h;refine⟨h1,?_⟩;rcases h2 with h2|⟨g,cap,cur,rfl,hbg,hg,hnc,hcm,hcs,htake⟩
 ·exact .inl h2
 ·have hlt:g<w.heap.size:=(Array.getElem?_eq_some_iff.1 hg).1;exact .inr ⟨g,cap,cur,rfl,hbg,by rw[hb.block g hlt];exact hg,hnc,hcm,hcs,htake⟩
theorem own_mono{w:World}{base base':Nat}{e:TypeId}{size:Nat}{v:Value}{n:Nat}{xs:List Value}(h:w.ownsRow base e size v n xs)(hb:base'≤base):w.ownsRow base' e size v n xs:=by
 obtain⟨h1,h2⟩:=h;refine⟨h1,?_⟩;rcases h2 with h2|⟨g,cap,cur,rfl,hbg,hrest⟩
 ·exact .inl h2
 ·exact .inr ⟨g,cap,cur,rfl,by omega,hrest⟩
def IsRow(k:IntKind)(w:World)(a:Option Addr)(len cap:Nat)(zs:List Int):Prop:=
 (a=none∧len=0∧cap=0∧zs=[])∨
 ∃x,a=some x∧len≤cap∧cap≤maxLen∧zs.length=cap∧(∀i,i<zs.length→w.cell? (x.add i)=some (.int k (zs.getD i 0)))∧∀n∈zs,(Lit.int k n).wf=true
theorem cell_lt{w:World}{a:Addr}{v:Value}(h:w.cell? a=some v):a.block<w.heap.size:=by
 unfold World.cell? at h;by_cases hlt:a.block<w.heap.size
 ·exact hlt
 ·rw[Array.getElem?_eq_none (by omega)] at h;simp at h
theorem Rd.of_row{k:IntKind}{w:World}{a:Option Addr}{len cap:Nat}{zs:List Int}(h:IsRow k w a len cap zs):Rd k w (.slice a len cap) (zs.take len)∧(zs.take len).length=len∧∀n∈zs.take len,(Lit.int k n).wf=true:=by
 rcases h with⟨rfl,rfl,rfl,rfl⟩|⟨x,rfl,hl,hm,hz,hcell,hwz⟩
 ·exact⟨⟨none,0,rfl,by simp,fun h=>absurd (by simp) h,by simp,by simp⟩,by simp,by simp⟩
 ·have hlen:(zs.take len).length=len:=by simp;omega
  refine⟨⟨some x,cap,by rw[hlen],by omega,fun hne=>?_,by omega,hm⟩,hlen,fun n hn=>hwz n (List.mem_of_mem_take hn)⟩;have hpos:0<len:=by
   rcases Nat.eq_zero_or_pos len with h0|h0
   ·subst h0;simp at hne
   ·exact h0
  obtain⟨b,off,spot⟩:=x;have hc:=hcell 0 (by omega);have hspot:spot=none:=by simpa [Addr.add] using World.cell?_spot hc
  subst hspot;refine⟨b,off,rfl,by simpa [Addr.add] using cell_lt hc,fun i hi=>?_⟩;rw[hlen] at hi;have:=hcell i (by omega);have ea:(⟨b,off,none⟩:Addr).add i=⟨b,off+i,none⟩:=by
   unfold Addr.add;split
   ·rename_i h;subst h;rfl
   ·rfl
  rw[ea] at this;rw[this];simp[List.getD,hi]
theorem bytes_bd{zs:List Int}(h:∀n∈zs,(Lit.int .u8 n).wf=true):∀z∈zs,0≤z∧z<256:=by
 intro z hz;have:=h z hz;simp[Lit.wf,IntKind.min,IntKind.max,IntKind.bits,IntKind.signed] at this;omega
theorem set_fill{α:Type}(zs:List α)(z d:α)(k n:Nat)(hk:k<n)(hz:zs.length=n)(he:zs[k]?=some z):
 (zs.take k++List.replicate (n-k) d).set k z=zs.take (k+1)++List.replicate (n-(k+1)) d:=by
 apply List.ext_getElem?;intro i;rw[List.getElem?_set];by_cases hik:k=i
 ·subst hik;rw[if_pos rfl,if_pos (by simp;omega),List.getElem?_append_left (by simp;omega),List.getElem?_take,if_pos (by omega),he]
 ·rw[if_neg hik];by_cases hlt:i<k
  ·rw[List.getElem?_append_left (by simp;omega),List.getElem?_append_left (by simp;omega),List.getElem?_take,List.getElem?_take,if_pos hlt,if_pos (by omega)]
  ·rw[List.getElem?_append_right (by simp;omega),List.getElem?_append_right (by simp;omega),List.getElem?_replicate,List.getElem?_replicate];simp only[List.length_take];by_cases hin:i<n
   ·rw[if_pos (by omega),if_pos (by omega)]
   ·rw[if_neg (by omega),if_neg (by omega)]
theorem made_one(z:Value)(n:Nat)(hz:z.cells=#[z]):(madeCells z.cells (n*1)).toList=List.replicate n z:=by
 rw[hz,Nat.mul_one,toList_madeCells_one]
end
section
open Go.RowKit Go.Extern.Stop Go.Stop Go.Extern
def Flt(w:World)(lo:Nat):Nat→Value→Int→Prop
 |0,v,c=>∃b,v=.iface 108 (.pointer (some ⟨b,0,none⟩))∧lo≤b∧w.cell? ⟨b,0,none⟩=some (.int .i64 c)
 |n+1,v,c=>∃b v',v=.iface 174 (.pointer (some ⟨b,0,none⟩))∧lo≤b∧w.cell? ⟨b,1,none⟩=some v'∧Flt w lo n v' c
theorem Flt.keep{w w':World}{lo:Nat}(hk:∀b o v,lo≤b→w.cell? ⟨b,o,none⟩=some v→w'.cell? ⟨b,o,none⟩=some v):∀{n:Nat} {v:Value} {c:Int},Flt w lo n v c→Flt w' lo n v c
 |0,_,_,⟨b,h,hl,hc⟩=>⟨b,h,hl,hk _ _ _ hl hc⟩
 |_+1,_,_,⟨b,v',h,hl,hc,hr⟩=>⟨b,v',h,hl,hk _ _ _ hl hc,Flt.keep hk hr⟩
theorem Flt.below{w w':World}{lo n:Nat}{v:Value}{c:Int}(h:Flt w lo n v c)(hb:Below w.heap.size w w'):Flt w' lo n v c:=
 h.keep fun b o _ _ hc=>(hb.cell (p:=⟨b,o,none⟩) (cell_lt hc)).trans hc
theorem Flt.mono{w:World}{lo lo':Nat}(hl:lo'≤lo):∀{n:Nat} {v:Value} {c:Int},Flt w lo n v c→Flt w lo' n v c
 |0,_,_,⟨b,h,h1,hc⟩=>⟨b,h,Nat.le_trans hl h1,hc⟩
 |_+1,_,_,⟨b,v',h,h1,hc,hr⟩=>⟨b,v',h,Nat.le_trans hl h1,hc,Flt.mono hl hr⟩
theorem Flt.iface{w:World}{lo:Nat}:∀{n:Nat} {v:Value} {c:Int},Flt w lo n v c→∃t x,v=.iface t (.pointer (some x))
 |0,_,_,⟨_,h,_⟩=>⟨_,_,h⟩
 |_+1,_,_,⟨_,_,h,_⟩=>⟨_,_,h⟩
theorem rl_valueOfT(t:Addr)(w:World):(ReflectliteValue.unpack (.iface 116 (.pointer (some t)))).run Tryz.prog w
 =.ok (.agg #[.pointer (some ⟨1,116,none⟩),.pointer (some ⟨w.heap.size,0,none⟩),.int .u64 150]) (w.alloc (.cells #[.pointer (some t)] 116)):=by kernel_rfl
theorem rl_type (a:Addr) (w:World):(ReflectliteValue.methodAny (ReflectliteValue.valueError "reflectlite.Value.Type" 0) (fun t _ _ _=>ReflectliteType.toType t) #[.agg #[.pointer (some ⟨1,116,none⟩),.pointer (some a),.int .u64 150]]).run Tryz.prog w
 =.ok (.iface 185 (.agg #[.pointer (some ⟨1,116,none⟩)])) w:=by kernel_rfl
theorem rl_methodKind (h:Value) (w:World):(Go.method 331 185 (.agg #[h]) "Kind").run Tryz.prog w=.ok (134,h) w:=by kernel_rfl
theorem rl_methodElem (h:Value) (w:World):(Go.method 331 185 (.agg #[h]) "Elem").run Tryz.prog w=.ok (147,.agg #[h]) w:=by kernel_rfl
theorem rl_methodImplements (h:Value) (w:World):(Go.method 331 185 (.agg #[h]) "Implements").run Tryz.prog w=.ok (148,.agg #[h]) w:=by kernel_rfl
theorem rl_methodAssignableTo (h:Value) (w:World):(Go.method 331 185 (.agg #[h]) "AssignableTo").run Tryz.prog w=.ok (145,.agg #[h]) w:=by kernel_rfl
theorem rl_methodUnwrap (a:Addr) (w:World):(Go.method 331 174 (.pointer (some a)) "Unwrap").run Tryz.prog w=.ok (143,.pointer (some a)) w:=by kernel_rfl
theorem rl_kindT(w:World):((ReflectliteType.abiMethod fun t=>(fun a:Nat=>Value.int IntKind.u8 (a:Int))<$>Rtype.kind t) #[.pointer (some ⟨1,116,none⟩)]).run Tryz.prog w=.ok (.int .u8 22) w:=by kernel_rfl
theorem rl_kindE(w:World):((ReflectliteType.abiMethod fun t=>(fun a:Nat=>Value.int IntKind.u8 (a:Int))<$>Rtype.kind t) #[.pointer (some ⟨1,108,none⟩)]).run Tryz.prog w=.ok (.int .u8 22) w:=by kernel_rfl
theorem rl_elemT(w:World):(ReflectliteType.method ReflectliteType.elem #[.agg #[.pointer (some ⟨1,116,none⟩)]]).run Tryz.prog w=.ok (.iface 185 (.agg #[.pointer (some ⟨1,108,none⟩)])) w:=by kernel_rfl
theorem rl_implementsE (w:World):(ReflectliteType.relation "Implements" ReflectliteType.implements_ #[.agg #[.pointer (some ⟨1,108,none⟩)],.iface 185 (.agg #[.pointer (some ⟨1,67,none⟩)])]).run Tryz.prog w=.ok (.bool true) w:=by kernel_rfl
theorem rl_typeOfE(v:Value)(w:World):(ReflectliteType.typeOf #[.iface 108 v]).run Tryz.prog w=.ok (.iface 185 (.agg #[.pointer (some ⟨1,108,none⟩)])) w:=by kernel_rfl
theorem rl_typeOfP(v:Value)(w:World):(ReflectliteType.typeOf #[.iface 174 v]).run Tryz.prog w=.ok (.iface 185 (.agg #[.pointer (some ⟨1,174,none⟩)])) w:=by kernel_rfl
theorem rl_assignableE (w:World):(ReflectliteType.relation "AssignableTo" ReflectliteType.assignableTo #[.agg #[.pointer (some ⟨1,108,none⟩)],.iface 185 (.agg #[.pointer (some ⟨1,108,none⟩)])]).run Tryz.prog w=.ok (.bool true) w:=by kernel_rfl
theorem rl_assignableP (w:World):(ReflectliteType.relation "AssignableTo" ReflectliteType.assignableTo #[.agg #[.pointer (some ⟨1,174,none⟩)],.iface 185 (.agg #[.pointer (some ⟨1,108,none⟩)])]).run Tryz.prog w=.ok (.bool false) w:=by kernel_rfl
theorem rl_valueOfE(e:Addr)(w:World):(ReflectliteValue.unpack (.iface 108 (.pointer (some e)))).run Tryz.prog w
 =.ok (.agg #[.pointer (some ⟨1,108,none⟩),.pointer (some ⟨w.heap.size,0,none⟩),.int .u64 150]) (w.alloc (.cells #[.pointer (some e)] 108)):=by kernel_rfl
theorem rl_noAs(v:Value)(xT:TypeId)(w:World):(Instr.typeAssert (.iface 174 v) xT 190 true).run Tryz.prog w=.ok (.tuple #[.nilIface,.bool false]) w:=run_typeAssert_lacksB Tryz.underlying190 (by kernel_rfl) (by kernel_rfl) v xT w
theorem rl_hasUnwrap(v:Value)(xT:TypeId)(w:World):(Instr.typeAssert (.iface 174 v) xT 193 true).run Tryz.prog w=.ok (.tuple #[.iface 174 v,.bool true]) w:=run_typeAssert_hasB Tryz.underlying193 (by kernel_rfl) v xT w
theorem rlm(z:Sem Value)(f:TypeId→Addr→Nat→Nat→Sem Value)(v:Value):
 ReflectliteValue.method z f #[v]=(do match←ReflectliteValue.parts v with|none=>z|some (t,a,fl)=>f t a fl (fl%32)):=rfl
theorem rl_partsT(a:Addr)(w:World):(ReflectliteValue.parts (.agg #[.pointer (some ⟨1,116,none⟩),.pointer (some a),.int .u64 150])).run Tryz.prog w=.ok (some (116,a,150)) w:=by kernel_rfl
theorem rl_isNil(a p:Addr)(W:World)(ha:W.cell? a=some (.pointer (some p))):
 (ReflectliteValue.method (ReflectliteValue.valueError "reflectlite.Value.IsNil" 0) ReflectliteValue.isNil #[.agg #[.pointer (some ⟨1,116,none⟩),.pointer (some a),.int .u64 150]]).run Tryz.prog W=.ok (.bool false) W:=by
 rw[rlm];simp only[Sem.run_bind,rl_partsT,Result.andThen];simp[ReflectliteValue.isNil,loadVar,isAgg,underlying,Tryz.underlying116,ha,Result.andThen]
theorem rl_elemOf(w:World):(Rtype.elem? 116).run Tryz.prog w=.ok (some 108) w:=by kernel_rfl
theorem rl_mk(p:Addr)(w:World):(ReflectliteValue.mk 108 p ReflectliteValue.flagAddr).run Tryz.prog w=.ok (.agg #[.pointer (some ⟨1,108,none⟩),.pointer (some p),.int .u64 406]) w:=by kernel_rfl
theorem rl_elemV(a p:Addr)(W:World)(ha:W.cell? a=some (.pointer (some p))):
 (ReflectliteValue.method (ReflectliteValue.valueError "reflectlite.Value.Elem" 0) ReflectliteValue.elem #[.agg #[.pointer (some ⟨1,116,none⟩),.pointer (some a),.int .u64 150]]).run Tryz.prog W
  =.ok (.agg #[.pointer (some ⟨1,108,none⟩),.pointer (some p),.int .u64 406]) W:=by
 rw[rlm];simp only[Sem.run_bind,rl_partsT,Result.andThen];simp[ReflectliteValue.elem,loadVar,isAgg,underlying,Tryz.underlying116,ha,Result.andThen,rl_elemOf,rl_mk]
theorem rls(v x:Value):ReflectliteValue.set #[v,x]=(do
 let (some (dst,a,fl),some (src,b,_)):=(←ReflectliteValue.parts v, ←ReflectliteValue.parts x)
  |unsupported (.noEntry "extern/(internal/reflectlite.Value).Set.zeroValue")
 if fl/ReflectliteValue.flagAddr%2==0 then unsupported (.noEntry "extern/(internal/reflectlite.Value).Set.unaddressable")
 let val←loadVar src b
 if←Rtype.directlyAssignable dst src then storeVar dst a val
 else if←Rtype.implements dst src then
  if(←Rtype.kind src)==20 then
   match val with
   |.nilIface=>unsupported (.noEntry "extern/reflectlite: a nil value of one interface type handed on as a value of another")
   |_=>storeVar dst a val
  else storeVar dst a (.iface src val)
 else panicString ("reflectlite.Set: value of type " ++(←Rtype.spelt src)++ " is not assignable to type " ++(←Rtype.spelt dst))
 pure (.tuple #[])):=rfl
theorem rl_partsEa(a:Addr)(w:World):(ReflectliteValue.parts (.agg #[.pointer (some ⟨1,108,none⟩),.pointer (some a),.int .u64 406])).run Tryz.prog w=.ok (some (108,a,406)) w:=by kernel_rfl
theorem rl_partsE(a:Addr)(w:World):(ReflectliteValue.parts (.agg #[.pointer (some ⟨1,108,none⟩),.pointer (some a),.int .u64 150])).run Tryz.prog w=.ok (some (108,a,150)) w:=by kernel_rfl
theorem rl_direct(w:World):(Rtype.directlyAssignable 108 108).run Tryz.prog w=.ok true w:=by kernel_rfl
theorem rl_set(ta b e:Addr)(old:Value)(W:World)(hb:W.cell? b=some (.pointer (some e)))(ht:W.cell? ta=some old)(hf:W.frozen? ta=false):
 (ReflectliteValue.set #[.agg #[.pointer (some ⟨1,108,none⟩),.pointer (some ta),.int .u64 406],.agg #[.pointer (some ⟨1,108,none⟩),.pointer (some b),.int .u64 150]]).run Tryz.prog W
  =.ok (.tuple #[]) (W.setCell ta (.pointer (some e))):=by
 rw[rls];simp only[Sem.run_bind,rl_partsEa,rl_partsE,Result.andThen];simp[ReflectliteValue.flagAddr,loadVar,isAgg,underlying,Tryz.underlying108,hb,Result.andThen,rl_direct,storeVar,Value.cells,storeCells,Addr.add];rw[run_store Tryz.prog W ta _ _ (by rfl)];simp[ht,hf]
theorem unwrap_any(b:Nat)(v:Value)(w:World)(h:w.cell? ⟨b,1,none⟩=some v):
 Calls Tryz.prog 143 #[.pointer (some ⟨b,0,none⟩)] w fun e w'=>e=.returned v∧w'=w:=by
 go_enter Tryz.func143,Tryz.ntmps143;go_wp2;go_ret;exact⟨rfl,rfl⟩
theorem hit_after{w w':World}{bt e:Nat}{c:Int}(ht:w.cell? ⟨bt,0,none⟩=some (.pointer none))(he:w.cell? ⟨e,0,none⟩=some (.int .i64 c))
 (hb:Below w.heap.size (w.setCell ⟨bt,0,none⟩ (.pointer (some ⟨e,0,none⟩))) w'):
 w'.cell? ⟨bt,0,none⟩=some (.pointer (some ⟨e,0,none⟩))∧w'.cell? ⟨e,0,none⟩=some (.int .i64 c)∧w.grownBy w' (some bt):=by
 have hne:(⟨bt,0,none⟩:Addr)≠⟨e,0,none⟩:=by
  intro h;rw[h,he] at ht;simp at ht
 refine⟨?_,?_,?_⟩
 ·rw[hb.cell (p:=⟨bt,0,none⟩) (cell_lt ht)];exact World.cell?_setCell_same _ _ _ ht
 ·rw[hb.cell (p:=⟨e,0,none⟩) (cell_lt he),World.cell?_setCell_other _ _ _ _ hne];exact he
 ·refine⟨hb.os,hb.tape,hb.output,Nat.le_trans (by simp) hb.size,fun k hk hn=>?_⟩;rw[hb.block k hk];exact Below.heap_setCell w _ _ k (fun h=>hn (by rw[h]))
theorem grownBy_pre{B:Nat}{w w1 w':World}{bt:Nat}(hb:Below B w w1)(hB:w.heap.size≤B)(hg:w1.grownBy w' (some bt)):w.grownBy w' (some bt):=
 ⟨hg.os.trans hb.os,hg.tape.trans hb.tape,hg.output.trans hb.output,Nat.le_trans hb.size hg.size,fun k hk hn=>(hg.block k (Nat.lt_of_lt_of_le hk hb.size) hn).trans (hb.block k (Nat.lt_of_lt_of_le hk hB))⟩
theorem as_any(n:Nat)(v tgt:Value)(c:Int)(lo bt:Nat)(a:Addr)(w:World)(hv:Flt w lo n v c)
 (ha:w.cell? a=some (.pointer (some ⟨bt,0,none⟩))) (ht:w.cell? ⟨bt,0,none⟩=some (.pointer none)) (hf:w.frozen? ⟨bt,0,none⟩=false):
 Calls Tryz.prog 98 #[v,tgt,.agg #[.pointer (some ⟨1,116,none⟩),.pointer (some a),.int .u64 150],.iface 185 (.agg #[.pointer (some ⟨1,108,none⟩)])] w
  fun ev w'=>ev=.returned (.bool true)∧∃e,w'.cell? ⟨bt,0,none⟩=some (.pointer (some ⟨e,0,none⟩))∧w'.cell? ⟨e,0,none⟩=some (.int .i64 c)∧w.grownBy w' (some bt):=by
 have hal:=cell_lt ha;have htl:bt<w.heap.size:=cell_lt ht;have h125:=@run_callFunc_extern Tryz.prog 112 _ ReflectliteType.typeOf Tryz.func112 (by kernel_rfl) (by kernel_rfl) (by kernel_rfl) (by kernel_rfl);have h152:=@run_callFunc_extern Tryz.prog 145 _ (ReflectliteType.relation "AssignableTo" ReflectliteType.assignableTo) Tryz.func145 (by kernel_rfl) (by kernel_rfl) (by kernel_rfl) (by kernel_rfl);have h126:=@run_callFunc_extern Tryz.prog 113 _ (ReflectliteValue.method (ReflectliteValue.valueError "reflectlite.Value.Elem" 0) ReflectliteValue.elem) Tryz.func113 (by kernel_rfl) (by kernel_rfl) (by kernel_rfl) (by kernel_rfl);have h127:=@run_callFunc_extern Tryz.prog 114 _ ReflectliteValue.set Tryz.func114 (by kernel_rfl) (by kernel_rfl) (by kernel_rfl) (by kernel_rfl);have h116:=@run_callFunc_extern Tryz.prog 95 _ (fun args=>ReflectliteValue.unpack (args.getD 0 (.tuple #[]))) Tryz.func95 (by kernel_rfl) (by kernel_rfl) (by kernel_rfl) (by kernel_rfl);have tE:=rl_typeOfE;have tP:=rl_typeOfP;have mA:=rl_methodAssignableTo;have aE:=rl_assignableE;have aP:=rl_assignableP;have vE:=rl_valueOfE;have nA:=rl_noAs;have hU:=rl_hasUnwrap;have mU:=rl_methodUnwrap;go_enter Tryz.func98,Tryz.ntmps98;go_wp2;go_loopg [0] n (fun k u wr=>wr=w.alloc (.cells #[.pointer (some ⟨1,116,none⟩),.pointer (some a),.int .u64 150] 161)∧Flt w lo k u c)
 case atStart=>exact⟨rfl,hv⟩
 case round=>
  obtain⟨rfl,hk⟩:=hrel;cases gk with
  |zero=>
   obtain⟨b,rfl,hl,hc⟩:=hk;have el:=rl_elemV a ⟨bt,0,none⟩ (w.alloc (.cells #[.pointer (some ⟨1,116,none⟩),.pointer (some a),.int .u64 150] 161)) (by rw[World.cell?_alloc_lt _ _ a hal];exact ha);have st:=rl_set ⟨bt,0,none⟩ ⟨w.heap.size+1,0,none⟩ ⟨b,0,none⟩ (.pointer none) ((w.alloc (.cells #[.pointer (some ⟨1,116,none⟩),.pointer (some a),.int .u64 150] 161)).alloc (.cells #[.pointer (some ⟨b,0,none⟩)] 108))
    (by rw[World.cell?_alloc_at _ _ _ _ (by simp)];rfl)
    (by rw[World.cell?_alloc_lt _ _ ⟨bt,0,none⟩ (by simp;omega),World.cell?_alloc_lt _ _ ⟨bt,0,none⟩ htl];exact ht)
    (by rw[World.frozen?_alloc_old _ _ ⟨bt,0,none⟩ (by simp;omega),World.frozen?_alloc_old _ _ ⟨bt,0,none⟩ (Nat.ne_of_lt htl)];exact hf)
   have HC:Hid (w.cell? ⟨b,0,none⟩=some (.int .i64 c)∧w.cell? ⟨bt,0,none⟩=some (.pointer none)):=⟨hc,ht⟩;clear hc hv ha ht hf;go_wp2;go_ret;exact⟨rfl,b,hit_after HC.out.2 HC.out.1 (((Below.refl _ _).alloc (by simp) _).alloc (by simp) _)⟩
  |succ m=>
   obtain⟨b,v',rfl,hl,hc,hr⟩:=hk;obtain⟨t',x',rfl⟩:=hr.iface;have HR:Hid (Flt w lo m (.iface t' (.pointer (some x'))) c):=hr;have hbl:b<w.heap.size:=cell_lt hc;clear hr hv;go_wp2_with (go_at_call 143;refine(unwrap_any b (.iface t' (.pointer (some x'))) _ (by rw[World.cell?_alloc_lt _ _ ⟨b,1,none⟩ hbl];exact hc)).mono ?_;rintro e w' ⟨rfl,rfl⟩);go_roundg m
   case measure=>omega
   case rel=>exact⟨rfl,HR.out⟩
def ErrT(w:World):Prop:=w.cell? ⟨0,0,none⟩=some (.iface 185 (.agg #[.pointer (some ⟨1,67,none⟩)]))
theorem ErrT.below{w w':World}(h:ErrT w)(hb:Below w.heap.size w w'):ErrT w':=(hb.cell (p:=⟨0,0,none⟩) (cell_lt h)).trans h
theorem As_any(n:Nat)(v:Value)(c:Int)(lo bt:Nat)(w:World)(hv:Flt w lo n v c)(hg:ErrT w)
 (ht:w.cell? ⟨bt,0,none⟩=some (.pointer none)) (hf:w.frozen? ⟨bt,0,none⟩=false):
 Calls Tryz.prog 67 #[v,.iface 116 (.pointer (some ⟨bt,0,none⟩))] w
  fun ev w'=>ev=.returned (.bool true)∧∃e,w'.cell? ⟨bt,0,none⟩=some (.pointer (some ⟨e,0,none⟩))∧w'.cell? ⟨e,0,none⟩=some (.int .i64 c)∧w.grownBy w' (some bt):=by
 obtain ⟨t',x',rfl⟩:=hv.iface;have htl:bt<w.heap.size:=cell_lt ht;have hgl:0<w.heap.size:=cell_lt hg;have h116:=@run_callFunc_extern Tryz.prog 95 _ (fun args=>ReflectliteValue.unpack (args.getD 0 (.tuple #[]))) Tryz.func95 (by kernel_rfl) (by kernel_rfl) (by kernel_rfl) (by kernel_rfl);have h117:=@run_callFunc_extern Tryz.prog 96 _ (ReflectliteValue.methodAny (ReflectliteValue.valueError "reflectlite.Value.Type" 0) (fun t _ _ _=>ReflectliteType.toType t)) Tryz.func96 (by kernel_rfl) (by kernel_rfl) (by kernel_rfl) (by kernel_rfl);have h118:=@run_callFunc_extern Tryz.prog 97 _ (ReflectliteValue.method (ReflectliteValue.valueError "reflectlite.Value.IsNil" 0) ReflectliteValue.isNil) Tryz.func97 (by kernel_rfl) (by kernel_rfl) (by kernel_rfl) (by kernel_rfl);have h142:=@run_callFunc_extern Tryz.prog 134 _ (ReflectliteType.abiMethod fun t=>do pure (.int .u8 (←Rtype.kind t))) Tryz.func134 (by kernel_rfl) (by kernel_rfl) (by kernel_rfl) (by kernel_rfl);have h154:=@run_callFunc_extern Tryz.prog 147 _ (ReflectliteType.method ReflectliteType.elem) Tryz.func147 (by kernel_rfl) (by kernel_rfl) (by kernel_rfl) (by kernel_rfl);have h155:=@run_callFunc_extern Tryz.prog 148 _ (ReflectliteType.relation "Implements" ReflectliteType.implements_) Tryz.func148 (by kernel_rfl) (by kernel_rfl) (by kernel_rfl) (by kernel_rfl);have f6:=rl_valueOfT;have f7:=rl_type;have mK:=rl_methodKind;have mE:=rl_methodElem;have mI:=rl_methodImplements;have kT:=rl_kindT;have kE:=rl_kindE;have eT:=rl_elemT;have iE:=rl_implementsE;have n8:=rl_isNil ⟨w.heap.size,0,none⟩ ⟨bt,0,none⟩ ((w.alloc (.cells #[.pointer (some ⟨bt,0,none⟩)] 116)).alloc (.cells #[.pointer (some ⟨1,116,none⟩),.pointer (some ⟨w.heap.size,0,none⟩),.int .u64 150] 161)) (by simp);have hg2:((w.alloc (.cells #[.pointer (some ⟨bt,0,none⟩)] 116)).alloc (.cells #[.pointer (some ⟨1,116,none⟩),.pointer (some ⟨w.heap.size,0,none⟩),.int .u64 150] 161)).cell? ⟨0,0,none⟩=some (.iface 185 (.agg #[.pointer (some ⟨1,67,none⟩)])):=by
  rw[World.cell?_alloc_lt _ _ ⟨0,0,none⟩ (by simp<;>omega),World.cell?_alloc_lt _ _ ⟨0,0,none⟩ hgl];exact hg
 have hv2:Hid (Flt ((w.alloc (.cells #[.pointer (some ⟨bt,0,none⟩)] 116)).alloc (.cells #[.pointer (some ⟨1,116,none⟩),.pointer (some ⟨w.heap.size,0,none⟩),.int .u64 150] 161)) lo n (.iface t' (.pointer (some x'))) c):=
  hv.below (((Below.refl _ _).alloc (Nat.le_refl _) _).alloc (by simp) _)
 clear hg;go_enter Tryz.func67,Tryz.ntmps67;go_wp2_with (go_at_call 98;refine(as_any n _ _ c lo bt ⟨w.heap.size,0,none⟩ _ hv2.out (by simp) (by rw[World.cell?_alloc_lt _ _ ⟨bt,0,none⟩ (by simp;omega),World.cell?_alloc_lt _ _ ⟨bt,0,none⟩ htl];exact ht) (by rw[World.frozen?_alloc_old _ _ ⟨bt,0,none⟩ (by simp;omega),World.frozen?_alloc_old _ _ ⟨bt,0,none⟩ (Nat.ne_of_lt htl)];exact hf)).mono ?_;rintro e w' ⟨rfl,e0,r1,r2,r3⟩);go_ret;exact⟨rfl,e0,r1,r2,grownBy_pre (((Below.refl w.heap.size w).alloc (Nat.le_refl _) _).alloc (by simp) _) (Nat.le_refl _) r3⟩
theorem codeOf_any(n:Nat)(v:Value)(c:Int)(lo:Nat)(w:World)(hv:Flt w lo n v c)(hg:ErrT w):
 Calls Tryz.prog 36 #[v] w fun e w'=>e=.returned (.int .i64 c)∧Below w.heap.size w w':=by
 obtain⟨t',x',rfl⟩:=hv.iface;have hb0:Below w.heap.size w (w.alloc (.cells #[.pointer none] 108)):=(Below.refl _ _).alloc (Nat.le_refl _) _;have HV:Hid (Flt (w.alloc (.cells #[.pointer none] 108)) lo n (.iface t' (.pointer (some x'))) c∧ErrT (w.alloc (.cells #[.pointer none] 108))):=⟨hv.below hb0,hg.below hb0⟩;clear hv hg;go_enter Tryz.func36,Tryz.ntmps36;go_wp2_with (go_at_call 67;refine(As_any n _ c lo w.heap.size _ HV.out.1 HV.out.2 (by simp) (by simp)).mono ?_;rintro e w' ⟨rfl,e0,r1,r2,r3⟩);go_ret;refine⟨rfl,?_⟩;exact hb0.grown r3 (by simp) (fun k h=>by cases h;exact Nat.le_refl _)
end
end Go.Proofs.YtbhpealglhkodaaGreatDoor
