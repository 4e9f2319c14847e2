/- Plain notions that the walks share: a slice value that reads as a list of numbers; what is -/
import Derived.WalkKit
import Derived.ProofKit
import Derived.Below
import Derived.Test.YtpplnhkpcpieoaaGreatDoorRows
import Derived.WalkLawsBesides
import Derived.LaidEql
import Derived.Stop.Asserts
import Derived.RowKitTokens
import Derived.Deep.LoopGhost
import Derived.OpenShut
import Derived.ShutString
import Derived.ChangeOld
import Derived.ChangeSame
import Derived.ChangeVars
import Derived.JoinedOf
import Derived.LaidLaws
import Derived.LaidHandle
import Derived.Stop.Joined
import Derived.Deep.QuietTactic
import Derived.BigQuiet
import Derived.Deep.MidRow
import Derived.Deep.WholeRow
import Derived.Laws.CopyOwn
import Derived.Laws.ResultCell
import Derived.OrdersHeld
import Derived.Deep.RegionHeld
import Derived.Deep.RegionHeld3
namespace Go.Proofs.YtpplnhkpcpieoaaGreatDoor
open Go.Proofs.Tryz
open _root_.List (getD replicate getElem?_append_left getElem?_take)
open World (cell?_setCell_other cell?_alloc_lt frozen?_alloc_old cell?_of_block)
open _root_.Nat (le_refl le_trans)
set_option linter.all false
set_option maxRecDepth 100000
set_option maxHeartbeats 16000000
section
open Go.RowKit
theorem av{α:Type _}(xs:List α)(i:Nat)(h:i<xs.toArray.size):xs.toArray[i]=xs[i]'(by simpa using h):=rfl
theorem ay{α:Type _}(a:α)(xs:List α)(h:0<(a::xs).length):(a::xs)[0]=a:=rfl
theorem az{α:Type _}(a:α)(xs:List α)(n:Nat)(h:n+1<(a::xs).length):(a::xs)[n+1]=xs[n]'(Nat.lt_of_succ_lt_succ h):=rfl
theorem aA{α:Type _}(xs:List α)(i:Nat)(a:α):xs.toArray.setIfInBounds i a=(xs.set i a).toArray:=List.setIfInBounds_toArray ..
theorem aB{α:Type _}(a b:α)(xs:List α):(a::xs).set 0 b=b::xs:=rfl
theorem aC{α:Type _}(a b:α)(xs:List α)(n:Nat):(a::xs).set (n+1) b=a::xs.set n b:=rfl
theorem ak{b:Nat}{w:World}:Below b w w:=Below.refl _ _
theorem aj{n:Nat}:n≤n:=le_refl n
theorem ae(p:Prop)(h:p):Hid p:=h
theorem ai{p q:Prop}(h:p)(k:q):p∧q:=⟨h,k⟩
theorem kK{p q:Prop}(h:p):p∨q:=.inl h
theorem Nk{p q:Prop}(h:q):p∨q:=.inr h
theorem aK{a b c:Nat}(h:a≤b)(k:b≤c):a≤c:=le_trans h k
section
variable {P:Program} {ops:Array Oper} {Q:Exit→Act→World→Prop} {md:Region.Mode} {S:World→Prop} {oi:Oper} {fuel:Nat} {listed l':Array Bool} {a a':Act} {w:World}
theorem ah(i:Nat)(v:Value)(hi:ops[i]?=some oi)(hS:S w)(h:wpAnyH P md ops Q S fuel l' a' w)
 (hy:YieldsIf P ops S oi v a:=by exact Or.inl ⟨by rfl,fun w' hw'=>by go_simp⟩)
 (hs:Region.noSelect ops=true:=by kernel_rfl) (hf:Region.free md ops listed i=true:=by kernel_rfl) (hr:(Region.ready md ops listed).contains i=true:=by kernel_rfl)
 (hQ:∀c a w,Q (.panic c) (a.put oi.dst v) w→Q (.panic c) a w:=by exact fun _ _ _ h=>h)
 (ha:a.put oi.dst v=a':=by(try simp only[Act.put,av,ay,az,aA,aB,aC]);rfl)
 (hl:listed.setIfInBounds i true=l':=by(try simp only[av,ay,az,aA,aB,aC]);rfl):wpAnyH P md ops Q S (fuel+1) listed a w:=by
 subst ha hl;exact wpAnyH_take hi hs hf hr hQ hy hS h
theorem lF(i:Nat)(v:Value)(hi:ops[i]?=some oi)(hS:S w)(h:wpAnyH P md ops Q S fuel (listed.setIfInBounds i true) (a.put oi.dst v) w)
 (hy:YieldsIf P ops S oi v a:=by exact Or.inl ⟨by rfl,fun w' hw'=>by go_simp⟩)
 (hs:Region.noSelect ops=true:=by kernel_rfl) (hf:Region.free md ops listed i=true:=by kernel_rfl) (hr:(Region.ready md ops listed).contains i=true:=by kernel_rfl)
 (hQ:∀c a w,Q (.panic c) (a.put oi.dst v) w→Q (.panic c) a w:=by exact fun _ _ _ h=>h):wpAnyH P md ops Q S (fuel+1) listed a w:=
 wpAnyH_take hi hs hf hr hQ hy hS h
theorem aN(i:Nat)(hi:ops[i]?=some oi)(hS:S w)(h:wpAnyH P md ops Q S fuel l' a' w)
 (hy:YieldsIf P ops S oi undef a:=by exact Or.inr ⟨by rfl,rfl⟩)
 (hs:Region.noSelect ops=true:=by kernel_rfl) (hf:Region.free md ops listed i=true:=by kernel_rfl) (hr:(Region.ready md ops listed).contains i=true:=by kernel_rfl)
 (hQ:∀c a w,Q (.panic c) (a.put oi.dst undef) w→Q (.panic c) a w:=by exact fun _ _ _ h=>h)
 (ha:a.put oi.dst undef=a':=by(try simp only[Act.put,av,ay,az,aA,aB,aC]);rfl)
 (hl:listed.setIfInBounds i true=l':=by(try simp only[av,ay,az,aA,aB,aC]);rfl):wpAnyH P md ops Q S (fuel+1) listed a w:=by
 subst ha hl;exact wpAnyH_take hi hs hf hr hQ hy hS h
theorem Nl(i:Nat)(hi:ops[i]?=some oi)(hS:S w)(h:wpAnyH P md ops Q S fuel (listed.setIfInBounds i true) (a.put oi.dst undef) w)
 (hy:YieldsIf P ops S oi undef a:=by exact Or.inr ⟨by rfl,rfl⟩)
 (hs:Region.noSelect ops=true:=by kernel_rfl) (hf:Region.free md ops listed i=true:=by kernel_rfl) (hr:(Region.ready md ops listed).contains i=true:=by kernel_rfl)
 (hQ:∀c a w,Q (.panic c) (a.put oi.dst undef) w→Q (.panic c) a w:=by exact fun _ _ _ h=>h):wpAnyH P md ops Q S (fuel+1) listed a w:=
 wpAnyH_take hi hs hf hr hQ hy hS h
theorem aH{v:Value}(h:∀w,S w→(execOp a.eval oi).run P w=.ok (.value v) w)(hw:Region.wanted oi (yielded ops a.tmps)=true:=by rfl):YieldsIf P ops S oi v a:=Or.inl ⟨hw,h⟩
theorem aG(i:Nat)(ho:ops[i]?=some oi)
 (h:∀K':Act→World→Prop,Shut (∀a w,S w→(S w→wpAnyH P md ops Q S fuel (listed.setIfInBounds i true) a w)→K' a w)→if Region.wanted oi (yielded ops a.tmps)=true then Oper.wp P oi a w K' Q else K' (a.put oi.dst undef) w)
 (hr:Region.ready md ops listed=[i]:=by kernel_rfl):wpAnyH P md ops Q S (fuel+1) listed a w:=
 wpAnyH_ready hr (by simp) (AllReadyH.cons ho h AllReadyH.nil)
theorem aV(h:Q .normal a w)(hr:Region.ready md ops listed=[]:=by kernel_rfl):wpAnyH P md ops (NoPanic Q) S fuel listed a w:=wpAnyH_done hr (NoPanic.normal h) fuel
theorem bg{id:Nat}(S:World→Prop)(hS:S w.drew)(h:S w.drew→wpAnyH P .any ops (NoPanic Q) S ops.size (Array.replicate ops.size false) a w.drew)(hm:P.follows .mixedOrders=true:=by kernel_rfl):(Code.region id ops true).wp P Q a w:=
 wp_region_noPanic (wp_region_held_drew hm hS h)
end
end
section
open Go.RowKit
theorem aa{p:Prop}(h:p):Hid p:=h
theorem gz{k:IntKind}{a b:Int}(h:a=b):Ending.returned (.int k a)=.returned (.int k b):=by rw[h]
theorem bX{a b:Bool}(h:a=b):Ending.returned (.bool a)=.returned (.bool b):=by rw[h]
def Rd(k:IntKind)(w:World)(v:Value)(zs:List Int):Prop:=
 ∃a cap,v=.slice a zs.length cap∧zs.length≤maxLen∧(zs≠[]→∃b off,a=some ⟨b,off,none⟩∧b<w.heap.size∧∀i,i<zs.length→w.cell? ⟨b,off+i,none⟩=some (.int k (zs.getD i 0)))∧zs.length≤cap∧cap≤maxLen
theorem Rd.below{k:IntKind}{w w':World}{v:Value}{zs:List Int}(h:Rd k w v zs)(hb:Below w.heap.size w w'):Rd k w' v zs:=by
 obtain⟨a,cap,rfl,hm,hc,hcap⟩:=h;refine⟨a,cap,rfl,hm,fun hne=>?_,hcap⟩;obtain⟨b,off,rfl,hlt,hcell⟩:=hc hne;exact⟨b,off,rfl,Nat.lt_of_lt_of_le hlt hb.size,fun i hi=>(hb.cell (p:=⟨b,off+i,none⟩) hlt).trans (hcell i hi)⟩
theorem Rd.parts{k:IntKind}{w:World}{v:Value}{zs:List Int}(h:Rd k w v zs):(∃a cap,v=.slice a zs.length cap∧zs.length<1)∨
 ∃b off cap,v=.slice (some ⟨b,off,none⟩) zs.length cap∧b<w.heap.size∧∀i,i<zs.length→w.cell? ⟨b,off+i,none⟩=some (.int k (zs.getD i 0)):=by
 obtain⟨a,cap,rfl,hm,hc,_⟩:=h;by_cases hne:zs=[]
 ·subst hne;exact .inl ⟨a,cap,rfl,by simp⟩
 ·obtain⟨b,off,rfl,hlt,hcell⟩:=hc hne;exact .inr ⟨b,off,cap,rfl,hlt,hcell⟩
theorem Rd.dJ{k:IntKind}{w:World}{v:Value}{zs:List Int}(h:Rd k w v zs)(hne:0<zs.length):
 ∃b off cap,v=.slice (some ⟨b,off,none⟩) zs.length cap∧b<w.heap.size∧zs.length≤cap∧cap≤maxLen∧∀i,i<zs.length→w.cell? ⟨b,off+i,none⟩=some (.int k (zs.getD i 0)):=by
 obtain⟨a,cap,rfl,hm,hc,h1,h2⟩:=h;obtain⟨b,off,rfl,hlt,hcell⟩:=hc (fun e=>by rw[e] at hne;simp at hne);exact⟨b,off,cap,rfl,hlt,h1,h2,hcell⟩
theorem Rd.cut{k:IntKind}{w:World}{b off cap:Nat}{zs:List Int}(lo n:Nat)(hb:b<w.heap.size)(hcap:cap≤maxLen)(hl:zs.length≤cap)
 (hcell:∀i,i<zs.length→w.cell? ⟨b,off+i,none⟩=some (.int k (zs.getD i 0))) (hn:lo+n≤zs.length):Rd k w (.slice (some ⟨b,off+lo,none⟩) n (cap-lo)) ((zs.drop lo).take n):=by
 have hlen:((zs.drop lo).take n).length=n:=by simp;omega
 refine⟨some ⟨b,off+lo,none⟩,cap-lo,by rw[hlen],by omega,fun _=>⟨b,off+lo,rfl,hb,fun i hi=>?_⟩,by omega,by omega⟩;rw[hlen] at hi;rw[Nat.add_assoc,hcell (lo+i) (by omega)];simp[getD,hi]
theorem Rd.mS{k:IntKind}{w:World}{b off cap m:Nat}{zs:List Int}(lo n:Nat)(h:Rd k w (.slice (some ⟨b,off,none⟩) m cap) zs)(hn0:0<n)(hn:lo+n≤zs.length):Rd k w (.slice (some ⟨b,off+lo,none⟩) n (cap-lo)) ((zs.drop lo).take n):=by
 obtain⟨b',off',cap',e,h1,h2,h3,h4⟩:=h.dJ (by omega);injection e with e1 e2 e3;injection e1 with e1;injection e1 with e4 e5;subst e3 e4 e5;exact Rd.cut lo n h1 h3 h2 h4 hn
theorem Rd.len{k:IntKind}{w:World}{v:Value}{zs:List Int}(h:Rd k w v zs):zs.length≤maxLen:=by
 obtain⟨_,_,_,hm,_⟩:=h;exact hm
theorem Rd.own{k:IntKind}{w:World}{base:Nat}{e:TypeId}{v:Value}{n:Nat}{zs:List Int}(h:w.ownsRow base e 1 v n (zs.map (Value.int k))):Rd k w v zs:=by
 have hl:zs.length=n:=by have:=h.1;simpa using this
 subst hl;rcases h.2 with⟨rfl,h0⟩|⟨g,cap,cur,rfl,hb,hg,hnc,hcm,hcs,htake⟩
 ·have:zs=[]:=List.eq_nil_of_length_eq_zero h0;subst this;exact⟨none,0,rfl,by simp,fun h=>absurd rfl h,by simp,by simp⟩
 ·refine⟨some ⟨g,0,none⟩,cap,rfl,by omega,fun _=>⟨g,0,rfl,?_,fun i hi=>?_⟩,hnc,hcm⟩
  ·exact(Array.getElem?_eq_some_iff.1 hg).1
  ·have h':w.ownsRow base e 1 (.slice (some ⟨g,0,none⟩) zs.length cap) zs.length (zs.map (Value.int k)):=h;have:=h'.cellAt i (by omega);rw[Nat.zero_add,this];simp[getD,hi]
theorem cC{w w':World}{base:Nat}{e:TypeId}{size:Nat}{v:Value}{n:Nat}{xs:List Value}(h:w.ownsRow base e size v n xs)(hb:Below w.heap.size w w'):w'.ownsRow base e size v n xs:=by
 obtain⟨h1,h2⟩:=h;refine⟨h1,?_⟩;rcases h2 with h2|⟨g,cap,cur,rfl,hbg,hg,hnc,hcm,hcs,htake⟩
 ·exact .inl h2
 ·have hlt:g<w.heap.size:=(Array.getElem?_eq_some_iff.1 hg).1;exact .inr ⟨g,cap,cur,rfl,hbg,by rw[hb.block g hlt];exact hg,hnc,hcm,hcs,htake⟩
theorem cH{w:World}{base base':Nat}{e:TypeId}{size:Nat}{v:Value}{n:Nat}{xs:List Value}(h:w.ownsRow base e size v n xs)(hb:base'≤base):w.ownsRow base' e size v n xs:=by
 obtain⟨h1,h2⟩:=h;refine⟨h1,?_⟩;rcases h2 with h2|⟨g,cap,cur,rfl,hbg,hrest⟩
 ·exact .inl h2
 ·exact .inr ⟨g,cap,cur,rfl,by omega,hrest⟩
theorem eu{w:World}{a:Addr}{v:Value}(h:w.cell? a=some v):a.block<w.heap.size:=by
 unfold World.cell? at h;by_cases hlt:a.block<w.heap.size
 ·exact hlt
 ·rw[Array.getElem?_eq_none (by omega)] at h;simp at h
theorem Cv{α:Type}(zs:List α)(z d:α)(k n:Nat)(hk:k<n)(hz:zs.length=n)(he:zs[k]?=some z):
 (zs.take k++replicate (n-k) d).set k z=zs.take (k+1)++replicate (n-(k+1)) d:=by
 apply List.ext_getElem?;intro i;rw[List.getElem?_set];by_cases hik:k=i
 ·subst hik;rw[if_pos rfl,if_pos (by simp;omega),getElem?_append_left (by simp;omega),getElem?_take,if_pos (by omega),he]
 ·rw[if_neg hik];by_cases hlt:i<k
  ·rw[getElem?_append_left (by simp;omega),getElem?_append_left (by simp;omega),getElem?_take,getElem?_take,if_pos hlt,if_pos (by omega)]
  ·rw[List.getElem?_append_right (by simp;omega),List.getElem?_append_right (by simp;omega),List.getElem?_replicate,List.getElem?_replicate];simp only[List.length_take];by_cases hin:i<n
   ·rw[if_pos (by omega),if_pos (by omega)]
   ·rw[if_neg (by omega),if_neg (by omega)]
theorem iJ(z:Value)(n:Nat)(hz:z.cells=#[z]):(madeCells z.cells (n*1)).toList=replicate n z:=by
 rw[hz,Nat.mul_one,toList_madeCells_one]
end
section
open Go.RowKit Go.Extern.Stop Go.Stop Go.Extern
def bU(w:World)(lo:Nat):Nat→Value→Int→Prop
 |0,v,c=>∃b,v=.iface 96 (.pointer (some ⟨b,0,none⟩))∧lo≤b∧w.cell? ⟨b,0,none⟩=some (.int .i64 c)
 |n+1,v,c=>∃b v',v=.iface 203 (.pointer (some ⟨b,0,none⟩))∧lo≤b∧w.cell? ⟨b,1,none⟩=some v'∧bU w lo n v' c
theorem bU.keep{w w':World}{lo:Nat}(hk:∀b o v,lo≤b→w.cell? ⟨b,o,none⟩=some v→w'.cell? ⟨b,o,none⟩=some v):∀{n:Nat} {v:Value} {c:Int},bU w lo n v c→bU w' lo n v c
 |0,_,_,⟨b,h,hl,hc⟩=>⟨b,h,hl,hk _ _ _ hl hc⟩
 |_+1,_,_,⟨b,v',h,hl,hc,hr⟩=>⟨b,v',h,hl,hk _ _ _ hl hc,bU.keep hk hr⟩
theorem bU.below{w w':World}{lo n:Nat}{v:Value}{c:Int}(h:bU w lo n v c)(hb:Below w.heap.size w w'):bU w' lo n v c:=
 h.keep fun b o _ _ hc=>(hb.cell (p:=⟨b,o,none⟩) (eu hc)).trans hc
theorem bU.mono{w:World}{lo lo':Nat}(hl:lo'≤lo):∀{n:Nat} {v:Value} {c:Int},bU w lo n v c→bU w lo' n v c
 |0,_,_,⟨b,h,h1,hc⟩=>⟨b,h,le_trans hl h1,hc⟩
 |_+1,_,_,⟨b,v',h,h1,hc,hr⟩=>⟨b,v',h,le_trans hl h1,hc,bU.mono hl hr⟩
theorem bU.iface{w:World}{lo:Nat}:∀{n:Nat} {v:Value} {c:Int},bU w lo n v c→∃t x,v=.iface t (.pointer (some x))
 |0,_,_,⟨_,h,_⟩=>⟨_,_,h⟩
 |_+1,_,_,⟨_,_,h,_⟩=>⟨_,_,h⟩
theorem Cw(t:Addr)(w:World):(ReflectliteValue.unpack (.iface 98 (.pointer (some t)))).run prog w
 =.ok (.agg #[.pointer (some ⟨2,98,none⟩),.pointer (some ⟨w.heap.size,0,none⟩),.int .u64 150]) (w.alloc (.cells #[.pointer (some t)] 98)):=by kernel_rfl
theorem Cx (a:Addr) (w:World):(ReflectliteValue.methodAny (ReflectliteValue.valueError "reflectlite.Value.Type" 0) (fun t _ _ _=>ReflectliteType.toType t) #[.agg #[.pointer (some ⟨2,98,none⟩),.pointer (some a),.int .u64 150]]).run prog w
 =.ok (.iface 207 (.agg #[.pointer (some ⟨2,98,none⟩)])) w:=by kernel_rfl
theorem Cy (h:Value) (w:World):(Go.method 377 207 (.agg #[h]) "Kind").run prog w=.ok (169,h) w:=by kernel_rfl
theorem Cz (h:Value) (w:World):(Go.method 377 207 (.agg #[h]) "Elem").run prog w=.ok (182,.agg #[h]) w:=by kernel_rfl
theorem CB (h:Value) (w:World):(Go.method 377 207 (.agg #[h]) "Implements").run prog w=.ok (183,.agg #[h]) w:=by kernel_rfl
theorem CD (h:Value) (w:World):(Go.method 377 207 (.agg #[h]) "AssignableTo").run prog w=.ok (180,.agg #[h]) w:=by kernel_rfl
theorem CE (a:Addr) (w:World):(Go.method 377 203 (.pointer (some a)) "Unwrap").run prog w=.ok (178,.pointer (some a)) w:=by kernel_rfl
theorem CG(w:World):((ReflectliteType.abiMethod fun t=>(fun a:Nat=>Value.int IntKind.u8 (a:Int))<$>Rtype.kind t) #[.pointer (some ⟨2,98,none⟩)]).run prog w=.ok (.int .u8 22) w:=by kernel_rfl
theorem CH(w:World):((ReflectliteType.abiMethod fun t=>(fun a:Nat=>Value.int IntKind.u8 (a:Int))<$>Rtype.kind t) #[.pointer (some ⟨2,96,none⟩)]).run prog w=.ok (.int .u8 22) w:=by kernel_rfl
theorem CI(w:World):(ReflectliteType.method ReflectliteType.elem #[.agg #[.pointer (some ⟨2,98,none⟩)]]).run prog w=.ok (.iface 207 (.agg #[.pointer (some ⟨2,96,none⟩)])) w:=by kernel_rfl
theorem CJ (w:World):(ReflectliteType.relation "Implements" ReflectliteType.implements_ #[.agg #[.pointer (some ⟨2,96,none⟩)],.iface 207 (.agg #[.pointer (some ⟨2,58,none⟩)])]).run prog w=.ok (.bool true) w:=by kernel_rfl
theorem CK(v:Value)(w:World):(ReflectliteType.typeOf #[.iface 96 v]).run prog w=.ok (.iface 207 (.agg #[.pointer (some ⟨2,96,none⟩)])) w:=by kernel_rfl
theorem CL(v:Value)(w:World):(ReflectliteType.typeOf #[.iface 203 v]).run prog w=.ok (.iface 207 (.agg #[.pointer (some ⟨2,203,none⟩)])) w:=by kernel_rfl
theorem CM (w:World):(ReflectliteType.relation "AssignableTo" ReflectliteType.assignableTo #[.agg #[.pointer (some ⟨2,96,none⟩)],.iface 207 (.agg #[.pointer (some ⟨2,96,none⟩)])]).run prog w=.ok (.bool true) w:=by kernel_rfl
theorem CN (w:World):(ReflectliteType.relation "AssignableTo" ReflectliteType.assignableTo #[.agg #[.pointer (some ⟨2,203,none⟩)],.iface 207 (.agg #[.pointer (some ⟨2,96,none⟩)])]).run prog w=.ok (.bool false) w:=by kernel_rfl
theorem CO(e:Addr)(w:World):(ReflectliteValue.unpack (.iface 96 (.pointer (some e)))).run prog w
 =.ok (.agg #[.pointer (some ⟨2,96,none⟩),.pointer (some ⟨w.heap.size,0,none⟩),.int .u64 150]) (w.alloc (.cells #[.pointer (some e)] 96)):=by kernel_rfl
theorem CP(v:Value)(xT:TypeId)(w:World):(Instr.typeAssert (.iface 203 v) xT 212 true).run prog w=.ok (.tuple #[.nilIface,.bool false]) w:=run_typeAssert_lacksB underlying212 (by kernel_rfl) (by kernel_rfl) v xT w
theorem CQ(v:Value)(xT:TypeId)(w:World):(Instr.typeAssert (.iface 203 v) xT 215 true).run prog w=.ok (.tuple #[.iface 203 v,.bool true]) w:=run_typeAssert_hasB underlying215 (by kernel_rfl) v xT w
theorem wj(z:Sem Value)(f:TypeId→Addr→Nat→Nat→Sem Value)(v:Value):
 ReflectliteValue.method z f #[v]=(do match←ReflectliteValue.parts v with|none=>z|some (t,a,fl)=>f t a fl (fl%32)):=rfl
theorem wk(a:Addr)(w:World):(ReflectliteValue.parts (.agg #[.pointer (some ⟨2,98,none⟩),.pointer (some a),.int .u64 150])).run prog w=.ok (some (98,a,150)) w:=by kernel_rfl
theorem CR(a p:Addr)(W:World)(ha:W.cell? a=some (.pointer (some p))):
 (ReflectliteValue.method (ReflectliteValue.valueError "reflectlite.Value.IsNil" 0) ReflectliteValue.isNil #[.agg #[.pointer (some ⟨2,98,none⟩),.pointer (some a),.int .u64 150]]).run prog W=.ok (.bool false) W:=by
 rw[wj];simp only[Sem.run_bind,wk,Result.andThen];simp[ReflectliteValue.isNil,loadVar,isAgg,underlying,underlying98,ha,Result.andThen]
theorem CS(w:World):(Rtype.elem? 98).run prog w=.ok (some 96) w:=by kernel_rfl
theorem CT(p:Addr)(w:World):(ReflectliteValue.mk 96 p ReflectliteValue.flagAddr).run prog w=.ok (.agg #[.pointer (some ⟨2,96,none⟩),.pointer (some p),.int .u64 406]) w:=by kernel_rfl
theorem CU(a p:Addr)(W:World)(ha:W.cell? a=some (.pointer (some p))):
 (ReflectliteValue.method (ReflectliteValue.valueError "reflectlite.Value.Elem" 0) ReflectliteValue.elem #[.agg #[.pointer (some ⟨2,98,none⟩),.pointer (some a),.int .u64 150]]).run prog W
  =.ok (.agg #[.pointer (some ⟨2,96,none⟩),.pointer (some p),.int .u64 406]) W:=by
 rw[wj];simp only[Sem.run_bind,wk,Result.andThen];simp[ReflectliteValue.elem,loadVar,isAgg,underlying,underlying98,ha,Result.andThen,CS,CT]
theorem rls(v x:Value):ReflectliteValue.set #[v,x]=(do
 let (some (dst,a,fl),some (src,b,_)):=(←ReflectliteValue.parts v, ←ReflectliteValue.parts x)
  |unsupported (.noEntry "extern/(internal/reflectlite.Value).Set.zeroValue")
 if fl/ReflectliteValue.flagAddr%2==0 then unsupported (.noEntry "extern/(internal/reflectlite.Value).Set.unaddressable")
 let val←loadVar src b
 if←Rtype.directlyAssignable dst src then storeVar dst a val
 else if←Rtype.implements dst src then
  if(←Rtype.kind src)==20 then
   match val with
   |.nilIface=>unsupported (.noEntry "extern/reflectlite: a nil value of one interface type handed on as a value of another")
   |_=>storeVar dst a val
  else storeVar dst a (.iface src val)
 else panicString ("reflectlite.Set: value of type " ++(←Rtype.spelt src)++ " is not assignable to type " ++(←Rtype.spelt dst))
 pure (.tuple #[])):=rfl
theorem CV(a:Addr)(w:World):(ReflectliteValue.parts (.agg #[.pointer (some ⟨2,96,none⟩),.pointer (some a),.int .u64 406])).run prog w=.ok (some (96,a,406)) w:=by kernel_rfl
theorem CW(a:Addr)(w:World):(ReflectliteValue.parts (.agg #[.pointer (some ⟨2,96,none⟩),.pointer (some a),.int .u64 150])).run prog w=.ok (some (96,a,150)) w:=by kernel_rfl
theorem CX(w:World):(Rtype.directlyAssignable 96 96).run prog w=.ok true w:=by kernel_rfl
theorem CY(ta b e:Addr)(old:Value)(W:World)(hb:W.cell? b=some (.pointer (some e)))(ht:W.cell? ta=some old)(hf:W.frozen? ta=false):
 (ReflectliteValue.set #[.agg #[.pointer (some ⟨2,96,none⟩),.pointer (some ta),.int .u64 406],.agg #[.pointer (some ⟨2,96,none⟩),.pointer (some b),.int .u64 150]]).run prog W
  =.ok (.tuple #[]) (W.setCell ta (.pointer (some e))):=by
 rw[rls];simp only[Sem.run_bind,CV,CW,Result.andThen];simp[ReflectliteValue.flagAddr,loadVar,isAgg,underlying,underlying96,hb,Result.andThen,CX,storeVar,Value.cells,storeCells,Addr.add];rw[run_store prog W ta _ _ (by rfl)];simp[ht,hf]
theorem CZ(b:Nat)(v:Value)(w:World)(h:w.cell? ⟨b,1,none⟩=some v):
 Calls prog 178 #[.pointer (some ⟨b,0,none⟩)] w fun e w'=>e=.returned v∧w'=w:=by
 go_enter func178,ntmps178;go_wp2;go_ret;exact⟨rfl,rfl⟩
theorem C7{w w':World}{bt e:Nat}{c:Int}(ht:w.cell? ⟨bt,0,none⟩=some (.pointer none))(he:w.cell? ⟨e,0,none⟩=some (.int .i64 c))
 (hb:Below w.heap.size (w.setCell ⟨bt,0,none⟩ (.pointer (some ⟨e,0,none⟩))) w'):
 w'.cell? ⟨bt,0,none⟩=some (.pointer (some ⟨e,0,none⟩))∧w'.cell? ⟨e,0,none⟩=some (.int .i64 c)∧w.grownBy w' (some bt):=by
 have hne:(⟨bt,0,none⟩:Addr)≠⟨e,0,none⟩:=by
  intro h;rw[h,he] at ht;simp at ht
 refine⟨?_,?_,?_⟩
 ·rw[hb.cell (p:=⟨bt,0,none⟩) (eu ht)];exact World.cell?_setCell_same _ _ _ ht
 ·rw[hb.cell (p:=⟨e,0,none⟩) (eu he),cell?_setCell_other _ _ _ _ hne];exact he
 ·refine⟨hb.os,hb.tape,hb.output,le_trans (by simp) hb.size,fun k hk hn=>?_⟩;rw[hb.block k hk];exact Below.heap_setCell w _ _ k (fun h=>hn (by rw[h]))
theorem C8{B:Nat}{w w1 w':World}{bt:Nat}(hb:Below B w w1)(hB:w.heap.size≤B)(hg:w1.grownBy w' (some bt)):w.grownBy w' (some bt):=
 ⟨hg.os.trans hb.os,hg.tape.trans hb.tape,hg.output.trans hb.output,le_trans hb.size hg.size,fun k hk hn=>(hg.block k (Nat.lt_of_lt_of_le hk hb.size) hn).trans (hb.block k (Nat.lt_of_lt_of_le hk hB))⟩
theorem Da(n:Nat)(v tgt:Value)(c:Int)(lo bt:Nat)(a:Addr)(w:World)(hv:bU w lo n v c)
 (ha:w.cell? a=some (.pointer (some ⟨bt,0,none⟩))) (ht:w.cell? ⟨bt,0,none⟩=some (.pointer none)) (hf:w.frozen? ⟨bt,0,none⟩=false):
 Calls prog 86 #[v,tgt,.agg #[.pointer (some ⟨2,98,none⟩),.pointer (some a),.int .u64 150],.iface 207 (.agg #[.pointer (some ⟨2,96,none⟩)])] w
  fun ev w'=>ev=.returned (.bool true)∧∃e,w'.cell? ⟨bt,0,none⟩=some (.pointer (some ⟨e,0,none⟩))∧w'.cell? ⟨e,0,none⟩=some (.int .i64 c)∧w.grownBy w' (some bt):=by
 have hal:=eu ha;have htl:bt<w.heap.size:=eu ht;have h125:=@run_callFunc_extern prog 118 _ ReflectliteType.typeOf func118 (by kernel_rfl) (by kernel_rfl) (by kernel_rfl) (by kernel_rfl);have h152:=@run_callFunc_extern prog 180 _ (ReflectliteType.relation "AssignableTo" ReflectliteType.assignableTo) func180 (by kernel_rfl) (by kernel_rfl) (by kernel_rfl) (by kernel_rfl);have h126:=@run_callFunc_extern prog 119 _ (ReflectliteValue.method (ReflectliteValue.valueError "reflectlite.Value.Elem" 0) ReflectliteValue.elem) func119 (by kernel_rfl) (by kernel_rfl) (by kernel_rfl) (by kernel_rfl);have h127:=@run_callFunc_extern prog 120 _ ReflectliteValue.set func120 (by kernel_rfl) (by kernel_rfl) (by kernel_rfl) (by kernel_rfl);have h116:=@run_callFunc_extern prog 83 _ (fun args=>ReflectliteValue.unpack (args.getD 0 (.tuple #[]))) func83 (by kernel_rfl) (by kernel_rfl) (by kernel_rfl) (by kernel_rfl);have tE:=CK;have tP:=CL;have mA:=CD;have aE:=CM;have aP:=CN;have vE:=CO;have nA:=CP;have hU:=CQ;have mU:=CE;go_enter func86,ntmps86;go_wp2;go_loopg [0] n (fun k u wr=>wr=w.alloc (.cells #[.pointer (some ⟨2,98,none⟩),.pointer (some a),.int .u64 150] 154)∧bU w lo k u c)
 case atStart=>exact⟨rfl,hv⟩
 case round=>
  obtain⟨rfl,hk⟩:=hrel;cases gk with
  |zero=>
   obtain⟨b,rfl,hl,hc⟩:=hk;have el:=CU a ⟨bt,0,none⟩ (w.alloc (.cells #[.pointer (some ⟨2,98,none⟩),.pointer (some a),.int .u64 150] 154)) (by rw[cell?_alloc_lt _ _ a hal];exact ha);have st:=CY ⟨bt,0,none⟩ ⟨w.heap.size+1,0,none⟩ ⟨b,0,none⟩ (.pointer none) ((w.alloc (.cells #[.pointer (some ⟨2,98,none⟩),.pointer (some a),.int .u64 150] 154)).alloc (.cells #[.pointer (some ⟨b,0,none⟩)] 96))
    (by rw[World.cell?_alloc_at _ _ _ _ (by simp)];rfl)
    (by rw[cell?_alloc_lt _ _ ⟨bt,0,none⟩ (by simp;omega),cell?_alloc_lt _ _ ⟨bt,0,none⟩ htl];exact ht)
    (by rw[frozen?_alloc_old _ _ ⟨bt,0,none⟩ (by simp;omega),frozen?_alloc_old _ _ ⟨bt,0,none⟩ (Nat.ne_of_lt htl)];exact hf)
   have HC:Hid (w.cell? ⟨b,0,none⟩=some (.int .i64 c)∧w.cell? ⟨bt,0,none⟩=some (.pointer none)):=⟨hc,ht⟩;clear hc hv ha ht hf;go_wp2;go_ret;exact⟨rfl,b,C7 HC.out.2 HC.out.1 (((Below.refl _ _).alloc (by simp) _).alloc (by simp) _)⟩
  |succ m=>
   obtain⟨b,v',rfl,hl,hc,hr⟩:=hk;obtain⟨t',x',rfl⟩:=hr.iface;have HR:Hid (bU w lo m (.iface t' (.pointer (some x'))) c):=hr;have hbl:b<w.heap.size:=eu hc;clear hr hv;go_wp2_with (go_at_call 178;refine(CZ b (.iface t' (.pointer (some x'))) _ (by rw[cell?_alloc_lt _ _ ⟨b,1,none⟩ hbl];exact hc)).mono ?_;rintro e w' ⟨rfl,rfl⟩);go_roundg m
   case measure=>omega
   case rel=>exact⟨rfl,HR.out⟩
def eM(w:World):Prop:=w.cell? ⟨1,0,none⟩=some (.iface 207 (.agg #[.pointer (some ⟨2,58,none⟩)]))
theorem eM.below{w w':World}(h:eM w)(hb:Below w.heap.size w w'):eM w':=(hb.cell (p:=⟨1,0,none⟩) (eu h)).trans h
theorem Db(n:Nat)(v:Value)(c:Int)(lo bt:Nat)(w:World)(hv:bU w lo n v c)(hg:eM w)
 (ht:w.cell? ⟨bt,0,none⟩=some (.pointer none)) (hf:w.frozen? ⟨bt,0,none⟩=false):
 Calls prog 48 #[v,.iface 98 (.pointer (some ⟨bt,0,none⟩))] w
  fun ev w'=>ev=.returned (.bool true)∧∃e,w'.cell? ⟨bt,0,none⟩=some (.pointer (some ⟨e,0,none⟩))∧w'.cell? ⟨e,0,none⟩=some (.int .i64 c)∧w.grownBy w' (some bt):=by
 obtain ⟨t',x',rfl⟩:=hv.iface;have htl:bt<w.heap.size:=eu ht;have hgl:1<w.heap.size:=eu hg;have h116:=@run_callFunc_extern prog 83 _ (fun args=>ReflectliteValue.unpack (args.getD 0 (.tuple #[]))) func83 (by kernel_rfl) (by kernel_rfl) (by kernel_rfl) (by kernel_rfl);have h117:=@run_callFunc_extern prog 84 _ (ReflectliteValue.methodAny (ReflectliteValue.valueError "reflectlite.Value.Type" 0) (fun t _ _ _=>ReflectliteType.toType t)) func84 (by kernel_rfl) (by kernel_rfl) (by kernel_rfl) (by kernel_rfl);have h118:=@run_callFunc_extern prog 85 _ (ReflectliteValue.method (ReflectliteValue.valueError "reflectlite.Value.IsNil" 0) ReflectliteValue.isNil) func85 (by kernel_rfl) (by kernel_rfl) (by kernel_rfl) (by kernel_rfl);have h142:=@run_callFunc_extern prog 169 _ (ReflectliteType.abiMethod fun t=>do pure (.int .u8 (←Rtype.kind t))) func169 (by kernel_rfl) (by kernel_rfl) (by kernel_rfl) (by kernel_rfl);have h154:=@run_callFunc_extern prog 182 _ (ReflectliteType.method ReflectliteType.elem) func182 (by kernel_rfl) (by kernel_rfl) (by kernel_rfl) (by kernel_rfl);have h155:=@run_callFunc_extern prog 183 _ (ReflectliteType.relation "Implements" ReflectliteType.implements_) func183 (by kernel_rfl) (by kernel_rfl) (by kernel_rfl) (by kernel_rfl);have f6:=Cw;have f7:=Cx;have mK:=Cy;have mE:=Cz;have mI:=CB;have kT:=CG;have kE:=CH;have eT:=CI;have iE:=CJ;have n8:=CR ⟨w.heap.size,0,none⟩ ⟨bt,0,none⟩ ((w.alloc (.cells #[.pointer (some ⟨bt,0,none⟩)] 98)).alloc (.cells #[.pointer (some ⟨2,98,none⟩),.pointer (some ⟨w.heap.size,0,none⟩),.int .u64 150] 154)) (by simp);have hg2:((w.alloc (.cells #[.pointer (some ⟨bt,0,none⟩)] 98)).alloc (.cells #[.pointer (some ⟨2,98,none⟩),.pointer (some ⟨w.heap.size,0,none⟩),.int .u64 150] 154)).cell? ⟨1,0,none⟩=some (.iface 207 (.agg #[.pointer (some ⟨2,58,none⟩)])):=by
  rw[cell?_alloc_lt _ _ ⟨1,0,none⟩ (by simp<;>omega),cell?_alloc_lt _ _ ⟨1,0,none⟩ hgl];exact hg
 have hv2:Hid (bU ((w.alloc (.cells #[.pointer (some ⟨bt,0,none⟩)] 98)).alloc (.cells #[.pointer (some ⟨2,98,none⟩),.pointer (some ⟨w.heap.size,0,none⟩),.int .u64 150] 154)) lo n (.iface t' (.pointer (some x'))) c):=
  hv.below (((Below.refl _ _).alloc (le_refl _) _).alloc (by simp) _)
 clear hg;go_enter func48,ntmps48;go_wp2_with (go_at_call 86;refine(Da n _ _ c lo bt ⟨w.heap.size,0,none⟩ _ hv2.out (by simp) (by rw[cell?_alloc_lt _ _ ⟨bt,0,none⟩ (by simp;omega),cell?_alloc_lt _ _ ⟨bt,0,none⟩ htl];exact ht) (by rw[frozen?_alloc_old _ _ ⟨bt,0,none⟩ (by simp;omega),frozen?_alloc_old _ _ ⟨bt,0,none⟩ (Nat.ne_of_lt htl)];exact hf)).mono ?_;rintro e w' ⟨rfl,e0,r1,r2,r3⟩);go_ret;exact⟨rfl,e0,r1,r2,C8 (((Below.refl w.heap.size w).alloc (le_refl _) _).alloc (by simp) _) (le_refl _) r3⟩
theorem ql(n:Nat)(v:Value)(c:Int)(lo:Nat)(w:World)(hv:bU w lo n v c)(hg:eM w):
 Calls prog 18 #[v] w fun e w'=>e=.returned (.int .i64 c)∧Below w.heap.size w w':=by
 obtain⟨t',x',rfl⟩:=hv.iface;have hb0:Below w.heap.size w (w.alloc (.cells #[.pointer none] 96)):=(Below.refl _ _).alloc (le_refl _) _;have HV:Hid (bU (w.alloc (.cells #[.pointer none] 96)) lo n (.iface t' (.pointer (some x'))) c∧eM (w.alloc (.cells #[.pointer none] 96))):=⟨hv.below hb0,hg.below hb0⟩;clear hv hg;go_enter func18,ntmps18;go_wp2_with (go_at_call 48;refine(Db n _ c lo w.heap.size _ HV.out.1 HV.out.2 (by simp) (by simp)).mono ?_;rintro e w' ⟨rfl,e0,r1,r2,r3⟩);go_ret;refine⟨rfl,?_⟩;exact hb0.grown r3 (by simp) (fun k h=>by cases h;exact le_refl _)
end
section
open Go.ChangeShapes Go.WideShapes Go.RowKit
theorem own:ownKnob prog.godebug=none:=by kernel_rfl
theorem laidOut:laidOutB prog=true:=by kernel_rfl
theorem Dc:prog.globalNamed "errors.errorType" =some 1:=by kernel_rfl
theorem Dd:(prog.cutTypes.find? (·.1== "internal/reflectlite.rtype")).map (·.2)=some 207:=by kernel_rfl
theorem De:((List.range 277).filter fun t=>prog.rowNamed t [101,114,114,111,114])=[58]:=by kernel_rfl
theorem Df:prog.types.size=277:=by kernel_rfl
theorem Dg {L:List (String×DataW Unit)} {W:World} (hm:("errors.errorType",Rows.laid_errors_errorType)∈L) (h:handlesMet prog L W):eM W:=by
 obtain⟨name,u,ty,e1,e2,e3,e4,e5⟩:=h _ hm;have en:name=[101,114,114,111,114]:=(Option.some.inj e1).symm;subst en;obtain rfl:=Option.some.inj (Dd.symm.trans e2);have hm:ty∈(List.range 277).filter fun t=>prog.rowNamed t [101,114,114,111,114]:=List.mem_filter.2 ⟨List.mem_range.2 (by rw[←Df];exact e3),e4⟩;rw[De] at hm;obtain rfl:=List.mem_singleton.1 hm;have hh:typeHandle prog 58=.pointer (some ⟨2,58,none⟩):=by kernel_rfl
 rw[hh] at e5;have hc:=World.var?_cell Dc e5 0;unfold eM;simpa using hc
noncomputable def laidWorld (os:Os):World:=
 let w0:=World.holding prog os ⟨#[],#[],[]⟩
 {w0 with heap:=w0.heap.modify 1 fun
  |.cells _ t frozen=>.cells #[.iface 207 (.agg #[.pointer (some ⟨2,58,none⟩)])] t frozen
  |o=>o}
end
section
open Go.RowKit
def At(k:IntKind)(w:World)(v:Value)(n:Nat)(zs:List Int):Prop:=
 (∃a cap,v=.slice a n cap∧n<1)∨∃b off cap,v=.slice (some ⟨b,off,none⟩) n cap∧b<w.heap.size∧∀i,i<n→w.cell? ⟨b,off+i,none⟩=some (.int k (zs.getD i 0))
theorem wm(xs ys:List Int)(k:Nat)(hx:k<xs.length)(hy:k<ys.length)(h:xs.take k=ys.take k)(he:xs.getD k 0=ys.getD k 0):xs.take (k+1)=ys.take (k+1):=by
 rw[List.take_succ_eq_append_getElem hx,List.take_succ_eq_append_getElem hy,h];simp only[getD,List.getElem?_eq_getElem hx,List.getElem?_eq_getElem hy,Option.getD_some] at he;rw[he]
def ju(k n:Nat):List Int:=(List.range n).map fun i=>((k+i:Nat):Int)%256
theorem qo(k n:Nat):(ju k n).length=n:=by simp[ju]
theorem wu(k n i:Nat)(h:i<n):(ju k n)[i]?=some (((k+i:Nat):Int)%256):=by simp[ju,h]
theorem Dh(k n i:Nat)(h:i<n):(ju k n).getD i 0=((k+i:Nat):Int)%256:=by simp[getD,wu k n i h]
theorem Di{α:Type}(ms xs:List α)(z:α)(k n:Nat)(hk:k<n)(hm:ms.length=n)(hx:xs.length=n)(he:ms[k]?=some z):
 (ms.take k++xs.drop k).set k z=ms.take (k+1)++xs.drop (k+1):=by
 apply List.ext_getElem?;intro i;rw[List.getElem?_set];by_cases hik:k=i
 ·subst hik;rw[if_pos rfl,if_pos (by simp;omega),getElem?_append_left (by simp;omega),getElem?_take,if_pos (by omega),he]
 ·rw[if_neg hik];by_cases hlt:i<k
  ·rw[getElem?_append_left (by simp;omega),getElem?_append_left (by simp;omega),getElem?_take,getElem?_take,if_pos hlt,if_pos (by omega)]
  ·rw[List.getElem?_append_right (by simp;omega),List.getElem?_append_right (by simp;omega),List.getElem?_drop,List.getElem?_drop];simp only[List.length_take];congr 1;omega
theorem gT{w w1 w2:World}{r:Option Nat}(h1:w.grownBy w1 r)(h2:w1.grownBy w2 r):w.grownBy w2 r:=
 ⟨h2.os.trans h1.os,h2.tape.trans h1.tape,h2.output.trans h1.output,le_trans h1.size h2.size,fun k hk hn=>(h2.block k (Nat.lt_of_lt_of_le hk h1.size) hn).trans (h1.block k hk hn)⟩
theorem fX:(prog.info? 3).map (fun i=>(i.zero,i.size,i.bytes))=some (some (.int .i64 0),1,8):=by kernel_rfl
def Ck(w:World)(b lo:Nat)(code:Int)(ok:Bool):Prop:=
 w.cell? ⟨b,0,none⟩=some (.int .i64 code)∧w.frozen? ⟨b,1,none⟩=false∧∃ev,w.cell? ⟨b,1,none⟩=some ev∧((ok=true∧ev=.nilIface)∨(ok=false∧∃n,bU w lo n ev code))
def eI(b:Nat)(w w':World):Prop:=
 w.grownBy w' (some b)∧(∀o,o≠1→w'.cell? ⟨b,o,none⟩=w.cell? ⟨b,o,none⟩)∧∀o,w'.frozen? ⟨b,o,none⟩=w.frozen? ⟨b,o,none⟩
theorem eI.refl(b:Nat)(w:World):eI b w w:=⟨World.grownBy.refl _ _,fun _ _=>rfl,fun _=>rfl⟩
theorem eI.trans{b:Nat}{w w1 w2:World}(h1:eI b w w1)(h2:eI b w1 w2):eI b w w2:=
 ⟨gT h1.1 h2.1,fun o ho=>(h2.2.1 o ho).trans (h1.2.1 o ho),fun o=>(h2.2.2 o).trans (h1.2.2 o)⟩
theorem eI.cV{b:Nat}{w w':World}(hlt:b<w.heap.size)(h:Below w.heap.size w w'):eI b w w':=
 ⟨⟨h.os,h.tape,h.output,h.size,fun k hk _=>h.block k hk⟩,fun o _=>h.cell (p:=⟨b,o,none⟩) hlt,fun o=>h.frozen (p:=⟨b,o,none⟩) hlt⟩
theorem eI.under{b B:Nat}{w0 w w':World}(h:eI b w w')(h0:Below B w0 w)(hB:B≤b)(hs:B≤w.heap.size):Below B w0 w':=
 h0.grown h.1 hs (fun k e=>by cases e;exact hB)
theorem Ck.lt{w:World}{b lo:Nat}{code:Int}{ok:Bool}(h:Ck w b lo code ok):b<w.heap.size:=eu h.1
theorem Ck.below{w w':World}{b lo:Nat}{code:Int}{ok:Bool}(h:Ck w b lo code ok)(hb:Below w.heap.size w w'):Ck w' b lo code ok:=by
 obtain⟨h1,h2,ev,h3,h4⟩:=h;have hlt:b<w.heap.size:=eu h1;refine⟨(hb.cell (p:=⟨b,0,none⟩) hlt).trans h1,(hb.frozen (p:=⟨b,1,none⟩) hlt).trans h2,ev,(hb.cell (p:=⟨b,1,none⟩) hlt).trans h3,?_⟩;rcases h4 with h4|⟨h4,n,h5⟩
 ·exact .inl h4
 ·exact .inr ⟨h4,n,h5.below hb⟩
theorem Ck.keep{w w':World}{b lo:Nat}{code:Int}{ok:Bool}(h:Ck w b lo code ok)(hb:w'.heap[b]?=w.heap[b]?)(hk:∀k,k<w.heap.size→lo≤k→w'.heap[k]?=w.heap[k]?):Ck w' b lo code ok:=by
 obtain⟨h1,h2,ev,h3,h4⟩:=h;refine⟨(cell?_of_block (a:=⟨b,0,none⟩) hb).trans h1,(World.frozen?_of_block (a:=⟨b,1,none⟩) hb).trans h2,ev,(cell?_of_block (a:=⟨b,1,none⟩) hb).trans h3,?_⟩;rcases h4 with h4|⟨h4,n,h5⟩
 ·exact .inl h4
 ·exact .inr ⟨h4,n,h5.keep fun k o v hl hc=>(cell?_of_block (a:=⟨k,o,none⟩) (hk k (eu hc) hl)).trans hc⟩
theorem Ck.grown{w w':World}{b lo g:Nat}{code:Int}{ok:Bool}(h:Ck w b lo code ok)(hg:w.grownBy w' (some g))(hne:b≠g)(hl:g<lo):Ck w' b lo code ok:=
 h.keep (hg.block b h.lt (by simp;omega)) (fun k hk hlo=>hg.block k hk (by simp;omega))
theorem Ck.Dj{w:World}{b lo lo':Nat}{code:Int}(h:Ck w b lo code true):Ck w b lo' code true:=by
 obtain⟨h1,h2,ev,h3,h4⟩:=h;rcases h4 with h4|⟨h4,_⟩
 ·exact⟨h1,h2,ev,h3,.inl h4⟩
 ·cases h4
theorem Ck.fresh(w:World)(code:Int)(t:TypeId):Ck (w.alloc (.cells #[.int .i64 code,.nilIface] t)) w.heap.size (w.heap.size+1) code true:=
 ⟨by simp,by simp,.nilIface,by simp,.inl ⟨rfl,rfl⟩⟩
theorem wB(b lo:Nat)(place:ByteArray)(code:Int)(ok:Bool)(w:World)(h:Ck w b lo code ok):
 Calls prog 82 #[.pointer (some ⟨b,0,none⟩),.string place,.nilIface] w fun e w'=>e=.returned (.tuple #[])∧w'=w:=by
 obtain⟨h1,h2,ev,h3,h4⟩:=h;rcases h4 with⟨rfl,rfl⟩|⟨rfl,n,h5⟩
 ·go_enter func82,ntmps82;go_wp2;go_end0;exact⟨rfl,rfl⟩
 ·obtain⟨t',x',rfl⟩:=h5.iface;clear h5;go_enter func82,ntmps82;go_wp2;go_end0;exact⟨rfl,rfl⟩
theorem sN(b lo:Nat)(place:ByteArray)(code:Int)(ok:Bool)(n:Nat)(v:Value)(w:World)(h:Ck w b lo code ok)(hv:bU w lo n v code)(hlo:b<lo)(hsz:lo≤w.heap.size):
 Calls prog 82 #[.pointer (some ⟨b,0,none⟩),.string place,v] w fun e w'=>e=.returned (.tuple #[])∧Ck w' b lo code false∧eI b w w':=by
 have hlt:=h.lt;obtain⟨h1,h2,ev,h3,h4⟩:=h;rcases h4 with⟨rfl,rfl⟩|⟨rfl,m,h5⟩
 ·have HW:Hid (∀w',w'=(w.setCell ⟨b,1,none⟩ (.iface 203 (.pointer (some ⟨w.heap.size,0,none⟩)))).alloc (.cells #[.string place,v] 205)→Ck w' b lo code false∧eI b w w'):=by
   rintro w' rfl;have hnb:(⟨b,1,none⟩:Addr).block≠w.heap.size:=(by show b≠_;omega);have hk:∀k o u,lo≤k→w.cell? ⟨k,o,none⟩=some u→((w.setCell ⟨b,1,none⟩ (.iface 203 (.pointer (some ⟨w.heap.size,0,none⟩)))).alloc (.cells #[.string place,v] 205)).cell? ⟨k,o,none⟩=some u:=by
    intro k o u hk hc;have:=eu hc;rw[cell?_alloc_lt _ _ ⟨k,o,none⟩ (by simpa using this),cell?_setCell_other _ _ _ _ (by intro e;injection e with e1;omega)];exact hc
   refine⟨⟨?_,?_,_,?_,.inr ⟨rfl,n+1,⟨w.heap.size,v,rfl,hsz,?_,hv.keep hk⟩⟩⟩,⟨⟨rfl,rfl,rfl,by simp,fun k hk hn=>?_⟩,fun o ho=>?_,fun o=>?_⟩⟩
   ·rw[cell?_alloc_lt _ _ ⟨b,0,none⟩ (by simpa using hlt),cell?_setCell_other _ _ _ _ (by intro e;injection e with e1 e2;omega)];exact h1
   ·rw[frozen?_alloc_old _ _ ⟨b,1,none⟩ (by simpa using hnb)];simpa using h2
   ·rw[cell?_alloc_lt _ _ ⟨b,1,none⟩ (by simpa using hlt)];exact World.cell?_setCell_same _ _ _ h3
   ·rw[World.cell?_alloc_at _ _ _ _ (by simp)];rfl
   ·rw[Below.heap_alloc _ _ k (by simpa using hk)];exact Below.heap_setCell w _ _ k (fun h=>hn (by rw[h]))
   ·rw[cell?_alloc_lt _ _ ⟨b,o,none⟩ (by simpa using hlt),cell?_setCell_other _ _ _ _ (by intro e;injection e with e1 e2;omega)]
   ·rw[frozen?_alloc_old _ _ ⟨b,o,none⟩ (by simpa using hnb)];simp
  obtain⟨t',x',rfl⟩:=hv.iface;clear hv;go_enter func82,ntmps82;go_wp2;go_end0;exact⟨rfl,HW.out _ rfl⟩
 ·obtain⟨t',x',rfl⟩:=h5.iface;have HK:Hid (Ck w b lo code false):=⟨h1,h2,_,h3,.inr ⟨rfl,m,h5⟩⟩;obtain⟨t2,x2,rfl⟩:=hv.iface;clear h5 hv;go_enter func82,ntmps82;go_wp2;go_end0;exact⟨rfl,HK.out,eI.refl _ _⟩
theorem eB(b lo:Nat)(place:ByteArray)(code:Int)(ok hd:Bool)(w:World)(h:Ck w b lo code ok)(hlo:b<lo)(hsz:lo≤w.heap.size):
 Calls prog 46 #[.pointer (some ⟨b,0,none⟩),.string place,.bool hd] w fun e w'=>e=.returned (.tuple #[])∧Ck w' b lo code (ok&&hd)∧eI b w w':=by
 cases hd with
 |true=>
  have HK:Hid (Ck w b lo code (ok&&true)):=by show Ck w b lo code (ok&&true);simpa using h
  clear h;go_enter func46,ntmps46;go_wp2;go_end0;exact⟨rfl,HK.out,eI.refl _ _⟩
 |false=>
  have hlt:=h.lt;have hb0:Below w.heap.size w (w.alloc (.cells #[.int .i64 code] 100)):=(Below.refl _ _).alloc (le_refl _) _;have HK:Hid (Ck (w.alloc (.cells #[.int .i64 code] 100)) b lo code ok∧bU (w.alloc (.cells #[.int .i64 code] 100)) lo 0 (.iface 96 (.pointer (some ⟨w.heap.size,0,none⟩))) code):=
   ⟨h.below hb0,w.heap.size,rfl,hsz,by simp⟩
  have h1:=h.1;clear h;go_enter func46,ntmps46;go_wp2_with (go_at_call 82;refine(sN b lo place code ok 0 _ _ HK.out.1 HK.out.2 hlo (by simp;omega)).mono ?_;rintro e w' ⟨rfl,r1,r2⟩);go_end0;refine⟨rfl,by simpa using r1,(eI.cV hlt hb0).trans r2⟩
theorem nF(b bl:Nat)(place:ByteArray)(code n lo hi:Int)(ok:Bool)(w:World)(h:Ck w b bl code ok)(hlo:b<bl)(hsz:bl≤w.heap.size):
 Calls prog 45 #[.pointer (some ⟨b,0,none⟩),.string place,.int .i64 n,.int .i64 lo,.int .i64 hi] w fun e w'=>e=.returned (.tuple #[])∧Ck w' b bl code (ok&&(decide (lo≤n)&&decide (n≤hi)))∧eI b w w':=by
 have HK:Hid (Ck w b bl code ok):=h;clear h;by_cases h1:lo≤n<;>by_cases h2:n≤hi;all_goals
  go_enter func45,ntmps45;go_wp2_with (go_at_call 46;refine(eB b bl place code ok _ _ HK.out hlo hsz).mono ?_;rintro e w' ⟨rfl,r1,r2⟩);go_end0;refine⟨rfl,?_,r2⟩;first
  |(rw[show(decide (lo≤n)&&decide (n≤hi))=true by rw[Bool.and_eq_true];simp;omega];exact r1)
  |(rw[show(decide (lo≤n)&&decide (n≤hi))=false by rw[Bool.and_eq_false_iff];simp;omega];exact r1)
def fB(w:World)(lo:Nat)(ok:Bool)(ev:Value)(code:Int):Prop:=(ok=true∧ev=.nilIface)∨(ok=false∧∃m,bU w lo m ev code)
theorem fB.mono{w:World}{lo lo':Nat}{ok:Bool}{ev:Value}{code:Int}(h:fB w lo ok ev code)(hl:lo'≤lo):fB w lo' ok ev code:=by
 rcases h with h|⟨h,m,h2⟩
 ·exact .inl h
 ·exact .inr ⟨h,m,h2.mono hl⟩
theorem qp(b lo:Nat)(place:ByteArray)(code:Int)(ok ok1:Bool)(ev:Value)(w:World)(h:Ck w b lo code ok)(hf:fB w lo ok1 ev code)(hlo:b<lo)(hsz:lo≤w.heap.size):
 Calls prog 82 #[.pointer (some ⟨b,0,none⟩),.string place,ev] w fun e w'=>e=.returned (.tuple #[])∧Ck w' b lo code (ok&&ok1)∧eI b w w':=by
 rcases hf with⟨rfl,rfl⟩|⟨rfl,m,hm⟩
 ·refine(wB b lo place code ok w h).mono ?_;rintro e w' ⟨rfl,rfl⟩;exact⟨rfl,by rw[Bool.and_true];exact h,eI.refl _ _⟩
 ·refine(sN b lo place code ok m ev w h hm hlo hsz).mono ?_;rintro e w' ⟨rfl,h1,h2⟩;exact⟨rfl,by rw[Bool.and_false];exact h1,h2⟩
theorem fB.below{w w':World}{lo:Nat}{ok:Bool}{ev:Value}{code:Int}(h:fB w lo ok ev code)(hb:Below w.heap.size w w'):fB w' lo ok ev code:=by
 rcases h with h|⟨h,m,h2⟩
 ·exact .inl h
 ·exact .inr ⟨h,m,h2.below hb⟩
theorem Ck.fault{w:World}{b lo:Nat}{code:Int}{ok:Bool}(h:Ck w b lo code ok):∃ev,w.cell? ⟨b,1,none⟩=some ev∧fB w lo ok ev code:=by
 obtain⟨_,_,ev,c3,c4⟩:=h;exact⟨ev,c3,c4⟩
def an(ds:List Int):Array Value:=(ds.map (Value.int .i64)).toArray
theorem ct(ds:List Int):(an ds).size=ds.length:=by simp[an]
theorem qq(ds:List Int)(k:Nat)(h:k<ds.length):(an ds)[k]?=some (.int .i64 (ds.getD k 0)):=by simp[an,getD,h]
theorem mT(ds:List Int):(an ds).all (·.oneCell')=true:=by
 rw[Array.all_eq_true_iff_forall_mem];intro v hv;simp[an] at hv;obtain⟨z,_,rfl⟩:=hv;rfl
def af(w:World)(b:Nat)(C:Array Value)(t:TypeId):Prop:=w.heap[b]?=some (.cells C t (0,0))
theorem af.lt{w:World}{b:Nat}{C:Array Value}{t:TypeId}(h:af w b C t):b<w.heap.size:=(Array.getElem?_eq_some_iff.1 h).1
theorem af.cell{w:World}{b:Nat}{C:Array Value}{t:TypeId}(h:af w b C t)(k:Nat):w.cell? ⟨b,k,none⟩=C[k]?:=cell_of_row w b k C t (0,0) h
theorem af.frozen{w:World}{b:Nat}{C:Array Value}{t:TypeId}(h:af w b C t)(k:Nat):w.frozen? ⟨b,k,none⟩=false:=frozen_of_row w b k C t h
theorem af.below{w w':World}{b B:Nat}{C:Array Value}{t:TypeId}(h:af w b C t)(hb:Below B w w')(hB:b<B):af w' b C t:=(hb.block b hB).trans h
theorem af.set{w:World}{b:Nat}{C:Array Value}{t:TypeId}(h:af w b C t)(k:Nat)(v:Value):af (w.setCell ⟨b,k,none⟩ v) b (C.setIfInBounds k v) t:=heap_setCell_same w b k C t v h
theorem af.other{w:World}{b:Nat}{C:Array Value}{t:TypeId}(h:af w b C t)(a:Addr)(v:Value)(hne:b≠a.block):af (w.setCell a v) b C t:=(heap_setCell_other w a b v hne).trans h
theorem af.alloc{w:World}{b:Nat}{C:Array Value}{t:TypeId}(h:af w b C t)(o:Obj):af (w.alloc o) b C t:=(Below.heap_alloc w o b h.lt).trans h
theorem af.new(w:World)(C:Array Value)(t:TypeId):af (w.alloc (.cells C t)) w.heap.size C t:=heap_alloc_new w _
theorem af.range{w:World}{b:Nat}{ds:List Int}{t:TypeId}(h:af w b (an ds) t)(o n:Nat)(hn:o+n≤ds.length):w.rangeAt b o (((ds.drop o).take n).map (Value.int .i64)):=by
 intro j v hv;rw[h.cell (o+j)];have hj:j<n:=by
  rcases Nat.lt_or_ge j n with h1|h1
  ·exact h1
  ·rw[List.getElem?_eq_none (by simp;omega)] at hv;cases hv
 simp[an,hj] at hv⊢;exact hv
theorem af.row{w:World}{b:Nat}{C:Array Value}{t:TypeId}(h:af w b C t)(cs:Array Value):af (w.setRow b cs) b cs t:=by
 have h':w.heap[b]?=some (.cells C t (0,0)):=h;show(w.setRow b cs).heap[b]?=_;simp[World.setRow,Array.getElem?_modify,h']
def over(xs:List Int)(o:Nat)(ds:List Int):List Int:=xs.take o++ds++xs.drop (o+ds.length)
theorem qt(xs:List Int)(o:Nat)(ds:List Int)(h:o+ds.length≤xs.length):(over xs o ds).length=xs.length:=by simp[over];omega
theorem Dk(xs:List Int)(o:Nat)(d:Int)(ds:List Int)(h:o+(d::ds).length≤xs.length):over (xs.set o d) (o+1) ds=over xs o (d::ds):=by
 have hl:o<xs.length:=by simp at h;omega
 unfold over;rw[List.take_succ_eq_append_getElem (by simpa using hl),List.take_set_of_le (le_refl _),List.getElem_set_self,List.drop_set_of_lt (by omega)];simp[Nat.add_assoc,Nat.add_comm 1]
theorem Dl(xs:List Int)(o:Nat)(d:Int):(an xs).setIfInBounds o (.int .i64 d)=an (xs.set o d):=by
 unfold an;apply Array.ext';rw[Array.toList_setIfInBounds];show(xs.map (Value.int .i64)).set o (Value.int .i64 d)=_;rw[←List.map_set]
theorem af.cells{b:Nat}{t:TypeId}:∀(ds:List Int) {w:World} {xs:List Int} (o:Nat),af w b (an xs) t→o+ds.length≤xs.length→af (w.setCells b o (ds.map (Value.int .i64))) b (an (over xs o ds)) t
 |[],w,xs,o,h,_=>by simpa [over,World.setCells] using h
 |d::ds,w,xs,o,h,hl=>by
  have h1:=h.set o (.int .i64 d);rw[Dl] at h1;have h2:=af.cells ds (o+1) h1 (by simp at hl⊢;omega);rw[Dk xs o d ds hl] at h2;exact h2
theorem af.sO{b b':Nat}{t:TypeId}{C:Array Value}:∀(vs:List Value) {w:World} (o:Nat),af w b' C t→b'≠b→af (w.setCells b o vs) b' C t
 |[],_,_,h,_=>h
 |v::vs,_,o,h,hne=>af.sO vs (o+1) (h.other ⟨b,o,none⟩ v hne) hne
theorem sQ{B b:Nat}{w0:World}(hB:B≤b):∀(vs:List Value) {w:World} (o:Nat),Below B w0 w→Below B w0 (w.setCells b o vs)
 |[],_,_,h=>h
 |v::vs,_,o,h=>sQ hB vs (o+1) (h.setCell (p:=⟨b,o,none⟩) hB v)
theorem af.there{w:World}{b:Nat}{C:Array Value}{t:TypeId}(h:af w b C t)(o n:Nat)(hn:o+n≤C.size):w.there b o n:=fun j hj=>
 ⟨by rw[h.cell (o+j),Array.getElem?_eq_getElem (by omega)];rfl,h.frozen _⟩
theorem jv{P:Program}{fn:Func}{p u:Tmp}{ty:TypeId}(h:fn.results=#[.cell p ty,.tmp u])(tmps:Array Value)(w:World)(g:Nat)(t:TypeId)(cs:Array Value)(fr:Nat×Nat)(d:TypeDesc)(x:Value)
 (hp:tmps.getD p undef=.pointer (some ⟨g,0,none⟩)) (hx:tmps.getD u undef=x) (hg:w.heap[g]?=some (.cells cs t fr))
 (hu:P.underlying ty=some d) (hd:(match d with|.struct _|.array _ _=>true|_=>false)=true) (hi:(P.info? ty).map (·.size)=some cs.size):
 (results fn tmps).run P w=.ok (.tuple #[.agg cs,x]) w:=by
 rw[results_cell_tmp h,hp,hx];simp[asAddr,run_loadVar_row w g t ty cs fr d hg hu hd hi,Result.andThen]
end
end Go.Proofs.YtpplnhkpcpieoaaGreatDoor
