/- The mark that a conversion puts behind a row: what it keeps -/
import Derived.Test.YtpplnhkpcpieoaaGreatDoorZx46
import Derived.Lib.ConvBytes
import Derived.Lib.SmallJoins
import Derived.Test.YtpplnhkpcpieoaaGreatDoorZx29
import Derived.Test.YtpplnhkpcpieoaaGreatDoorZx41
import Derived.Test.YtpplnhkpcpieoaaGreatDoorZx45
namespace Go.Proofs.YtpplnhkpcpieoaaGreatDoor
open Go.Proofs.Tryz
open _root_.List (replicate range length_map)
open _root_.Array (getElem?_modify ext getD_eq_getD_getElem?)
open _root_.Int (eq_ofNat_of_zero_le)
set_option linter.all false
set_option maxRecDepth 100000
set_option maxHeartbeats 16000000
section
open Go.RowKit
theorem vW(w:World)(g k:Nat)(a:Addr):(w.freeze ⟨g,k,none⟩ 1).cell? a=w.cell? a:=by
 unfold World.freeze World.cell?;rw[if_neg (by decide)];simp only[getElem?_modify];by_cases h:g=a.block
 ·rw[if_pos h];cases e:w.heap[a.block]? with
  |none=>rfl
  |some o=>cases o<;>rfl
 ·rw[if_neg h]
theorem oW(w:World)(g k:Nat):(w.freeze ⟨g,k,none⟩ 1).heap.size=w.heap.size:=by
 unfold World.freeze;rw[if_neg (by decide)];simp
theorem Cg(w:World)(g k:Nat){b:Nat}{C:Array Value}{t:TypeId}(h:∃fr,w.heap[b]?=some (.cells C t fr)):∃fr,(w.freeze ⟨g,k,none⟩ 1).heap[b]?=some (.cells C t fr):=by
 obtain⟨fr,h⟩:=h;unfold World.freeze;rw[if_neg (by decide)];simp only[getElem?_modify];by_cases e:g=b
 ·rw[if_pos e,h];exact⟨_,rfl⟩
 ·rw[if_neg e];exact⟨fr,h⟩
theorem Mz{B:Nat}{w0 w:World}(h:Below B w0 w)(g k:Nat)(hg:B≤g):Below B w0 (w.freeze ⟨g,k,none⟩ 1):=by
 refine h.trans ⟨?_,?_,?_,by rw[oW];exact aj,fun j hj=>?_⟩
 ·unfold World.freeze;rw[if_neg (by decide)]
 ·unfold World.freeze;rw[if_neg (by decide)]
 ·unfold World.freeze;rw[if_neg (by decide)]
 ·unfold World.freeze;rw[if_neg (by decide)];simp only[getElem?_modify];rw[if_neg (show ¬g=j by omega)]
theorem Rd.freeze{k:IntKind}{w:World}{v:Value}{zs:List Int}(h:Rd k w v zs)(g m:Nat):Rd k (w.freeze ⟨g,m,none⟩ 1) v zs:=by
 obtain⟨a,cap,rfl,hm,hc,hcap⟩:=h;refine⟨a,cap,rfl,hm,fun hne=>?_,hcap⟩;obtain⟨b,off,rfl,hlt,hcell⟩:=hc hne;exact⟨b,off,rfl,by rw[oW];exact hlt,fun i hi=>by rw[vW];exact hcell i hi⟩
theorem dB.freeze{w:World}(g m:Nat):∀{vs:List Value} {bs:List (List Int)},dB w vs bs→dB (w.freeze ⟨g,m,none⟩ 1) vs bs
 |[],[],_=>trivial
 |_::_,_::_,h=>⟨h.1.freeze g m,dB.freeze g m h.2⟩
 |[],_::_,h=>h.elim
 |_::_,[],h=>h.elim
theorem run_mark{P:Program}(w:World)(t e:TypeId)(g n c:Nat){C:Array Value}(hg:∃fr,w.heap[g]?=some (.cells C e fr))(ht:P.underlying t=some (.slice e))(he:P.underlying e=some (.int .u8)):
 (convert t t (.slice (some ⟨g,0,none⟩) n c)).run P w=.ok (.slice (some ⟨g,0,none⟩) n c) (w.freeze ⟨g,C.size,none⟩ 1):=by
 obtain⟨fr,hg⟩:=hg;have hsh:w.shape? g=some (e,C.size):=by unfold World.shape?;rw[hg]
 simp[convert,run_underlying ht,run_underlying he,markStringish,hsh]
theorem MB{P:Program}{o:Oper}{a:Act}{w:World}{K:Act→World→Prop}{Q:Exit→Act→World→Prop}(t e:TypeId)(x:Operand)(ho:o.op=.convert t t x)(g n c:Nat){C:Array Value}(hx:a.eval x=.slice (some ⟨g,0,none⟩) n c)(hg:∃fr,w.heap[g]?=some (.cells C e fr))(ht:P.underlying t=some (.slice e))(he:P.underlying e=some (.int .u8))
 (h:K (a.put o.dst (.slice (some ⟨g,0,none⟩) n c)) (w.freeze ⟨g,C.size,none⟩ 1)):o.wp P a w K Q:=by
 unfold Oper.wp execOp;simp only[ho,hx,Sem.run_bind,Sem.run_pure,Result.andThen_ok,run_mark w t e g n c hg ht he];exact h
def Sl(n:Nat)(fS:List Int)(v:Value)(w:World):Prop:=(∃g cp,v=.slice (some ⟨g,0,none⟩) n cp)∧Rd .u8 w v fS
theorem Sl.below{n:Nat}{fS:List Int}{v:Value}{w w':World}(h:Sl n fS v w)(hb:Below w.heap.size w w'):Sl n fS v w':=⟨h.1,h.2.below hb⟩
def VS(B b:Nat)(A:Nat)(nm:ByteArray)(i:Nat)(v:Value)(w:World):Prop:=match i with
 |0=>∃g,v=.slice (some ⟨g,0,none⟩) 8 8∧B≤g∧g<w.heap.size∧Rd .u8 w v nC∧∃fr,w.heap[g]?=some (.cells #[.int .u8 115,.int .u8 110,.int .u8 97,.int .u8 112,.int .u8 115,.int .u8 104,.int .u8 111,.int .u8 116] 5 fr)
 |1=>Sl 8 nC v w
 |2=>v=.pointer (some ⟨b,0,none⟩)
 |3=>v=.int .i64 (A:Int)
 |4=>Sl 1 (le 1 A) v w
 |5=>v=.pointer (some ⟨b,1,none⟩)
 |6=>v=.string nm
 |7=>v=.int .i64 (nm.size:Int)
 |8=>Sl 1 (le 1 nm.size) v w
 |9=>v=.pointer (some ⟨b,1,none⟩)
 |10=>v=.string nm
 |11=>Rd .u8 w v (lD nm)
 |12=>Sl 26 (lD nm++replicate (26-(lD nm).length) 0) v w
 |13=>Sl 4 (le 4 0) v w
 |14=>∃g,v=.slice (some ⟨g,0,none⟩) 5 5∧g<w.heap.size∧∃vs,(∀j u,vs[j]?=some u→w.cell? ⟨g,j,none⟩=some u)∧dB w vs [nC,le 1 A,le 1 nm.size,lD nm++replicate (26-(lD nm).length) 0,le 4 0]
 |15=>Rd .u8 w v ([nC,le 1 A,le 1 nm.size,lD nm++replicate (26-(lD nm).length) 0,le 4 0]:List (List Int)).flatten
 |16=>Rd .u8 w v ([nC,le 1 A,le 1 nm.size,lD nm++replicate (26-(lD nm).length) 0,le 4 0]:List (List Int)).flatten
 |_=>False
theorem VS.below{B b A:Nat}{nm:ByteArray}{w w':World}(hb:Below w.heap.size w w'):∀(j:Nat) (u:Value),VS B b A nm j u w→VS B b A nm j u w'
 |0,_,⟨g,h1,h2,h3,h4,h5⟩=>⟨g,h1,h2,Nat.lt_of_lt_of_le h3 hb.size,h4.below hb,by rw[hb.block g h3];exact h5⟩
 |1,_,h=>Sl.below h hb
 |2,_,h=>h
 |3,_,h=>h
 |4,_,h=>Sl.below h hb
 |5,_,h=>h
 |6,_,h=>h
 |7,_,h=>h
 |8,_,h=>Sl.below h hb
 |9,_,h=>h
 |10,_,h=>h
 |11,_,h=>Rd.below h hb
 |12,_,h=>Sl.below h hb
 |13,_,h=>Sl.below h hb
 |14,_,⟨g,h1,h2,vs,h3,h4⟩=>⟨g,h1,Nat.lt_of_lt_of_le h2 hb.size,vs,fun j u hu=>(hb.cell (p:=⟨g,j,none⟩) h2).trans (h3 j u hu),h4.below hb⟩
 |15,_,h=>Rd.below h hb
 |16,_,h=>Rd.below h hb
 |_+17,_,h=>h
theorem VS.freeze{B b A:Nat}{nm:ByteArray}{w:World}(g' m:Nat):∀(j:Nat) (u:Value),VS B b A nm j u w→VS B b A nm j u (w.freeze ⟨g',m,none⟩ 1)
 |0,_,⟨g,h1,h2,h3,h4,h5⟩=>⟨g,h1,h2,by rw[oW];exact h3,h4.freeze g' m,Cg w g' m h5⟩
 |1,_,h=>⟨h.1,h.2.freeze g' m⟩
 |2,_,h=>h
 |3,_,h=>h
 |4,_,h=>⟨h.1,h.2.freeze g' m⟩
 |5,_,h=>h
 |6,_,h=>h
 |7,_,h=>h
 |8,_,h=>⟨h.1,h.2.freeze g' m⟩
 |9,_,h=>h
 |10,_,h=>h
 |11,_,h=>Rd.freeze h g' m
 |12,_,h=>⟨h.1,h.2.freeze g' m⟩
 |13,_,h=>⟨h.1,h.2.freeze g' m⟩
 |14,_,⟨g,h1,h2,vs,h3,h4⟩=>⟨g,h1,by rw[oW];exact h2,vs,fun j u hu=>by rw[vW];exact h3 j u hu,h4.freeze g' m⟩
 |15,_,h=>Rd.freeze h g' m
 |16,_,h=>Rd.freeze h g' m
 |_+17,_,h=>h
def VT(B b:Nat)(J:List Int)(a:Nat)(nm:ByteArray)(x y:Nat)(s:Int)(ds:List Int)(p q:Int)(x4:Value)(i:Nat)(v:Value)(w:World):Prop:=match i with
 |0=>v=x4
 |1=>v=.pointer (some ⟨b,2,none⟩)
 |2=>v=.int .i64 (x:Int)
 |3=>Sl 8 (le 8 x) v w
 |4=>v=.pointer (some ⟨b,3,none⟩)
 |5=>v=.int .i64 (y:Int)
 |6=>Sl 8 (le 8 y) v w
 |7=>v=.pointer (some ⟨b,4,none⟩)
 |8=>v=.agg (an (aD s ds p q))
 |9=>Sl 64 (dH s ds p q) v w
 |10=>∃g,v=.slice (some ⟨g,0,none⟩) 4 4∧g<w.heap.size∧∃vs,(∀j u,vs[j]?=some u→w.cell? ⟨g,j,none⟩=some u)∧dB w vs [J,le 8 x,le 8 y,dH s ds p q]
 |11=>Rd .u8 w v ([J,le 8 x,le 8 y,dH s ds p q]:List (List Int)).flatten
 |12=>w.ownsRow B 5 1 v 512 ((iU (AV a nm x y s ds p q)).map (Value.int .u8))
 |13=>w.ownsRow B 5 1 v 512 ((iU (AV a nm x y s ds p q)).map (Value.int .u8))
 |14=>v=.int .i64 0
 |_=>False
theorem VT.below{B b:Nat}{J:List Int}{a:Nat}{nm:ByteArray}{x y:Nat}{s:Int}{ds:List Int}{p q:Int}{x4:Value}{w w':World}(hb:Below w.heap.size w w'):∀(j:Nat) (u:Value),VT B b J a nm x y s ds p q x4 j u w→VT B b J a nm x y s ds p q x4 j u w'
 |0,_,h=>h
 |1,_,h=>h
 |2,_,h=>h
 |3,_,h=>Sl.below h hb
 |4,_,h=>h
 |5,_,h=>h
 |6,_,h=>Sl.below h hb
 |7,_,h=>h
 |8,_,h=>h
 |9,_,h=>Sl.below h hb
 |10,_,⟨g,h1,h2,vs,h3,h4⟩=>⟨g,h1,Nat.lt_of_lt_of_le h2 hb.size,vs,fun j u hu=>(hb.cell (p:=⟨g,j,none⟩) h2).trans (h3 j u hu),h4.below hb⟩
 |11,_,h=>Rd.below h hb
 |12,_,h=>cC h hb
 |13,_,h=>cC h hb
 |14,_,h=>h
 |_+15,_,h=>h
theorem Ch{w:World}{base:Nat}{e:TypeId}{v:Value}{xs:List Value}{C:Array Value}{t:TypeId}{n:Nat}(h:w.ownsRow base e 1 v n xs)(g k:Nat)(hg:∃fr,w.heap[g]?=some (.cells C t fr))(hn:C.size<n):(w.freeze ⟨g,k,none⟩ 1).ownsRow base e 1 v n xs:=by
 refine⟨h.1,?_⟩;rcases h.2 with h|⟨g',cap,cur,rfl,hb,hg',h1,h2,h3,h4⟩
 ·exact .inl h
 ·refine .inr ⟨g',cap,cur,rfl,hb,?_,h1,h2,h3,h4⟩;have hne:g≠g':=by
   rintro rfl;obtain⟨fr,hg⟩:=hg;rw[hg] at hg';injection hg' with hg';injection hg' with hg' _ _;subst hg';omega
  unfold World.freeze;rw[if_neg (by decide)];simp only[getElem?_modify];rw[if_neg hne];exact hg'
def VF(B b gen bl cu ck op ev lg:Nat)(s1:Int)(ds1:List Int)(p1 q1 s2:Int)(aq:List Int)(p2 q2:Int)(i:Nat)(v:Value)(w:World):Prop:=match i with
 |0=>∃g,v=.slice (some ⟨g,0,none⟩) 8 8∧B≤g∧g<w.heap.size∧Rd .u8 w v iV∧∃fr,w.heap[g]?=some (.cells #[.int .u8 114,.int .u8 111,.int .u8 111,.int .u8 116,.int .u8 114,.int .u8 101,.int .u8 99,.int .u8 49] 5 fr)
 |1=>Sl 8 iV v w
 |2=>v=.pointer (some ⟨b,0,none⟩)
 |3=>v=.int .i64 (gen:Int)
 |4=>Sl 8 (le 8 gen) v w
 |5=>v=.pointer (some ⟨b,1,none⟩)
 |6=>v=.int .i64 (bl:Int)
 |7=>Sl 4 (le 4 bl) v w
 |8=>v=.pointer (some ⟨b,2,none⟩)
 |9=>v=.int .i64 (cu:Int)
 |10=>Sl 4 (le 4 cu) v w
 |11=>v=.pointer (some ⟨b,3,none⟩)
 |12=>v=.int .i64 (ck:Int)
 |13=>Sl 8 (le 8 ck) v w
 |14=>v=.pointer (some ⟨b,4,none⟩)
 |15=>v=.int .i64 (op:Int)
 |16=>Sl 8 (le 8 op) v w
 |17=>v=.pointer (some ⟨b,5,none⟩)
 |18=>v=.int .i64 (ev:Int)
 |19=>Sl 4 (le 4 ev) v w
 |20=>v=.pointer (some ⟨b,6,none⟩)
 |21=>v=.int .i64 (lg:Int)
 |22=>Sl 4 (le 4 lg) v w
 |23=>v=.pointer (some ⟨b,7,none⟩)
 |24=>v=.agg (an (aD s1 ds1 p1 q1))
 |25=>Sl 64 (dH s1 ds1 p1 q1) v w
 |26=>v=.pointer (some ⟨b,22,none⟩)
 |27=>v=.agg (an (aD s2 aq p2 q2))
 |28=>Sl 64 (dH s2 aq p2 q2) v w
 |29=>∃g,v=.slice (some ⟨g,0,none⟩) 10 10∧g<w.heap.size∧∃vs,(∀j u,vs[j]?=some u→w.cell? ⟨g,j,none⟩=some u)∧dB w vs [iV,le 8 gen,le 4 bl,le 4 cu,le 8 ck,le 8 op,le 4 ev,le 4 lg,dH s1 ds1 p1 q1,dH s2 aq p2 q2]
 |30=>w.ownsRow B 5 1 v 176 ((iW gen bl cu ck op ev lg s1 ds1 p1 q1 s2 aq p2 q2).map (Value.int .u8))
 |31=>w.ownsRow B 5 1 v 176 ((iW gen bl cu ck op ev lg s1 ds1 p1 q1 s2 aq p2 q2).map (Value.int .u8))
 |_=>False
theorem VF.below{B b gen bl cu ck op ev lg:Nat}{s1:Int}{ds1:List Int}{p1 q1 s2:Int}{aq:List Int}{p2 q2:Int}{w w':World}(hb:Below w.heap.size w w'):∀(j:Nat) (u:Value),VF B b gen bl cu ck op ev lg s1 ds1 p1 q1 s2 aq p2 q2 j u w→VF B b gen bl cu ck op ev lg s1 ds1 p1 q1 s2 aq p2 q2 j u w'
 |0,_,⟨g,h1,h2,h3,h4,h5⟩=>⟨g,h1,h2,Nat.lt_of_lt_of_le h3 hb.size,h4.below hb,by rw[hb.block g h3];exact h5⟩
 |1,_,h=>Sl.below h hb
 |2,_,h=>h
 |3,_,h=>h
 |4,_,h=>Sl.below h hb
 |5,_,h=>h
 |6,_,h=>h
 |7,_,h=>Sl.below h hb
 |8,_,h=>h
 |9,_,h=>h
 |10,_,h=>Sl.below h hb
 |11,_,h=>h
 |12,_,h=>h
 |13,_,h=>Sl.below h hb
 |14,_,h=>h
 |15,_,h=>h
 |16,_,h=>Sl.below h hb
 |17,_,h=>h
 |18,_,h=>h
 |19,_,h=>Sl.below h hb
 |20,_,h=>h
 |21,_,h=>h
 |22,_,h=>Sl.below h hb
 |23,_,h=>h
 |24,_,h=>h
 |25,_,h=>Sl.below h hb
 |26,_,h=>h
 |27,_,h=>h
 |28,_,h=>Sl.below h hb
 |29,_,⟨g,h1,h2,vs,h3,h4⟩=>⟨g,h1,Nat.lt_of_lt_of_le h2 hb.size,vs,fun j u hu=>(hb.cell (p:=⟨g,j,none⟩) h2).trans (h3 j u hu),h4.below hb⟩
 |30,_,h=>cC h hb
 |31,_,h=>cC h hb
 |_+32,_,h=>h
theorem VF.freeze{B b gen bl cu ck op ev lg:Nat}{s1:Int}{ds1:List Int}{p1 q1 s2:Int}{aq:List Int}{p2 q2:Int}{w:World}(g' m:Nat)(hg:∃fr,w.heap[g']?=some (.cells #[.int .u8 114,.int .u8 111,.int .u8 111,.int .u8 116,.int .u8 114,.int .u8 101,.int .u8 99,.int .u8 49] 5 fr)):∀(j:Nat) (u:Value),VF B b gen bl cu ck op ev lg s1 ds1 p1 q1 s2 aq p2 q2 j u w→VF B b gen bl cu ck op ev lg s1 ds1 p1 q1 s2 aq p2 q2 j u (w.freeze ⟨g',m,none⟩ 1)
 |0,_,⟨g,h1,h2,h3,h4,h5⟩=>⟨g,h1,h2,by rw[oW];exact h3,h4.freeze g' m,Cg w g' m h5⟩
 |1,_,h=>⟨h.1,h.2.freeze g' m⟩
 |2,_,h=>h
 |3,_,h=>h
 |4,_,h=>⟨h.1,h.2.freeze g' m⟩
 |5,_,h=>h
 |6,_,h=>h
 |7,_,h=>⟨h.1,h.2.freeze g' m⟩
 |8,_,h=>h
 |9,_,h=>h
 |10,_,h=>⟨h.1,h.2.freeze g' m⟩
 |11,_,h=>h
 |12,_,h=>h
 |13,_,h=>⟨h.1,h.2.freeze g' m⟩
 |14,_,h=>h
 |15,_,h=>h
 |16,_,h=>⟨h.1,h.2.freeze g' m⟩
 |17,_,h=>h
 |18,_,h=>h
 |19,_,h=>⟨h.1,h.2.freeze g' m⟩
 |20,_,h=>h
 |21,_,h=>h
 |22,_,h=>⟨h.1,h.2.freeze g' m⟩
 |23,_,h=>h
 |24,_,h=>h
 |25,_,h=>⟨h.1,h.2.freeze g' m⟩
 |26,_,h=>h
 |27,_,h=>h
 |28,_,h=>⟨h.1,h.2.freeze g' m⟩
 |29,_,⟨g,h1,h2,vs,h3,h4⟩=>⟨g,h1,by rw[oW];exact h2,vs,fun j u hu=>by rw[vW];exact h3 j u hu,h4.freeze g' m⟩
 |30,_,h=>Ch h g' m hg (by simp)
 |31,_,h=>Ch h g' m hg (by simp)
 |_+32,_,h=>h
theorem MC(gen bl cu ck op ev lg:Nat)(s1:Int)(ds1:List Int)(p1 q1 s2:Int)(aq:List Int)(p2 q2:Int):([iV,le 8 gen,le 4 bl,le 4 cu,le 8 ck,le 8 op,le 4 ev,le 4 lg,dH s1 ds1 p1 q1,dH s2 aq p2 q2]:List (List Int)).flatten=(iW gen bl cu ck op ev lg s1 ds1 p1 q1 s2 aq p2 q2):=by
 simp[iW,List.append_assoc]
theorem MH(a:Array Value)(h:a.size=53):a=#[a.getD 0 undef,a.getD 1 undef,a.getD 2 undef,a.getD 3 undef,a.getD 4 undef,a.getD 5 undef,a.getD 6 undef,a.getD 7 undef,a.getD 8 undef,a.getD 9 undef,a.getD 10 undef,a.getD 11 undef,a.getD 12 undef,a.getD 13 undef,a.getD 14 undef,a.getD 15 undef,a.getD 16 undef,a.getD 17 undef,a.getD 18 undef,a.getD 19 undef,a.getD 20 undef,a.getD 21 undef,a.getD 22 undef,a.getD 23 undef,a.getD 24 undef,a.getD 25 undef,a.getD 26 undef,a.getD 27 undef,a.getD 28 undef,a.getD 29 undef,a.getD 30 undef,a.getD 31 undef,a.getD 32 undef,a.getD 33 undef,a.getD 34 undef,a.getD 35 undef,a.getD 36 undef,a.getD 37 undef,a.getD 38 undef,a.getD 39 undef,a.getD 40 undef,a.getD 41 undef,a.getD 42 undef,a.getD 43 undef,a.getD 44 undef,a.getD 45 undef,a.getD 46 undef,a.getD 47 undef,a.getD 48 undef,a.getD 49 undef,a.getD 50 undef,a.getD 51 undef,a.getD 52 undef]:=by
 have e:a=((range 53).map fun i=>a.getD i undef).toArray:=ext (by simp[h]) (fun i h1 h2=>by simp[Array.getD,h1]);exact e
theorem MI(gen bl cu ck op ev lg s1:Int)(ds1:List Int)(p1 q1 s2:Int)(aq:List Int)(p2 q2:Int)(sn:List Int)(w:World)(hd1:ds1.length=12)(hd2:aq.length=12)(hsn:sn.length=31)(hr:dM gen bl cu ck op ev lg s1 ds1 p1 q1 s2 aq p2 q2 sn=false):
 Calls prog 15 #[.agg (an (bC gen bl cu ck op ev lg s1 ds1 p1 q1 s2 aq p2 q2 sn))] w fun e w'=>e=.returned (.tuple #[.slice none 0 0,.int .i64 7])∧Below w.heap.size w w':=by
 have HR:=aa hr;have HZ:=ae ((an (bC gen bl cu ck op ev lg s1 ds1 p1 q1 s2 aq p2 q2 sn)).size=68) (by rw[ct];exact sq _ _ _ _ _ _ _ _ _ _ _ _ _ _ _ _ hd1 hd2 hsn);have HC:=aa (fun w=>Cf gen bl cu ck op ev lg s1 ds1 p1 q1 s2 aq p2 q2 sn w hd1 hd2 hsn);have K0:=aa (ai (af.new w (an (bC gen bl cu ck op ev lg s1 ds1 p1 q1 s2 aq p2 q2 sn)) 52) (show Below w.heap.size w (w.alloc (.cells (an (bC gen bl cu ck op ev lg s1 ds1 p1 q1 s2 aq p2 q2 sn)) 52)) from ak.alloc aj _));clear hd1 hd2 hsn hr;go_enter func15,ntmps15;go_wp2_with (first|(refine wpList_load_row rfl 52 _ rfl w.heap.size rfl 52 (an (bC gen bl cu ck op ev lg s1 ds1 p1 q1 s2 aq p2 q2 sn)) (0,0) _ K0.out.1 underlying52 rfl (by rw[HZ.out];exact vv) ?_)|(go_at_call 41;fail));refine(HC.out _).mono ?_;rintro e w1 ⟨rfl,b1⟩;have B1:=aa (K0.out.2.trans (b1.mono K0.out.2.size));rw[HR.out];clear b1;go_wp2;go_ret2;exact⟨rfl,B1.out⟩
theorem MJ(gen bl cu ck op ev lg:Nat)(s1:Int)(ds1:List Int)(p1 q1 s2:Int)(aq:List Int)(p2 q2:Int)(sn:List Int)(w:World)(hd1:ds1.length=12)(hd2:aq.length=12)(hsn:sn.length=31)(hB:AY (gen:Int) (bl:Int) (cu:Int) (ck:Int) (op:Int) (ev:Int) (lg:Int) s1 ds1 p1 q1 s2 aq p2 q2 sn)(hr:dM (gen:Int) (bl:Int) (cu:Int) (ck:Int) (op:Int) (ev:Int) (lg:Int) s1 ds1 p1 q1 s2 aq p2 q2 sn=true):
 Calls prog 15 #[.agg (an (bC (gen:Int) (bl:Int) (cu:Int) (ck:Int) (op:Int) (ev:Int) (lg:Int) s1 ds1 p1 q1 s2 aq p2 q2 sn))] w fun e w'=>∃v',e=.returned (.tuple #[v',.int .i64 0])∧w'.ownsRow w.heap.size 5 1 v' 512 ((iU (jL gen bl cu ck op ev lg s1 ds1 p1 q1 s2 aq p2 q2 sn)).map (Value.int .u8))∧Below w.heap.size w w':=by
 obtain⟨i0,hi0,hz0,hz1,hz2⟩:=info_parts eO;have HR:=aa hr;have HD:=aa (ai hd1 (ai hd2 hsn));have Rr:=aa hB;have No:=ae ((an (aD s1 ds1 p1 q1)).size=15) (by rw[ct];exact dw _ _ _ _ HD.out.1);have NJ:=ae ((an (aD s2 aq p2 q2)).size=15) (by rw[ct];exact dw _ _ _ _ HD.out.2.1);have HZ:=ae ((an (bC (gen:Int) (bl:Int) (cu:Int) (ck:Int) (op:Int) (ev:Int) (lg:Int) s1 ds1 p1 q1 s2 aq p2 q2 sn)).size=68) (by rw[ct];exact sq _ _ _ _ _ _ _ _ _ _ _ _ _ _ _ _ hd1 hd2 hsn);have HC:=aa (fun w=>Cf (gen:Int) (bl:Int) (cu:Int) (ck:Int) (op:Int) (ev:Int) (lg:Int) s1 ds1 p1 q1 s2 aq p2 q2 sn w hd1 hd2 hsn);have HX:=aa (fun k hk w=>AL sn k HD.out.2.2 hk w);have a0:gen<281474976710656:=by have:=hB.g0;omega
 have a1:bl<2049:=by have:=hB.g1;omega
 have a2:cu<2049:=by have:=hB.g2;omega
 have a3:ck<281474976710656:=by have:=hB.g3;omega
 have a4:op<281474976710656:=by have:=hB.g4;omega
 have a5:ev<2049:=by have:=hB.g5;omega
 have a6:lg<65537:=by have:=hB.g6;omega
 have K0:=aa (ai (af.new w (an (bC (gen:Int) (bl:Int) (cu:Int) (ck:Int) (op:Int) (ev:Int) (lg:Int) s1 ds1 p1 q1 s2 aq p2 q2 sn)) 52) (show Below w.heap.size w (w.alloc (.cells (an (bC (gen:Int) (bl:Int) (cu:Int) (ck:Int) (op:Int) (ev:Int) (lg:Int) s1 ds1 p1 q1 s2 aq p2 q2 sn)) 52)) from ak.alloc aj _));clear hd1 hd2 hsn hr hB;go_enter func15,ntmps15;go_wp2_with (first|(refine wpList_load_row rfl 52 _ rfl w.heap.size rfl 52 (an (bC (gen:Int) (bl:Int) (cu:Int) (ck:Int) (op:Int) (ev:Int) (lg:Int) s1 ds1 p1 q1 s2 aq p2 q2 sn)) (0,0) _ K0.out.1 underlying52 rfl (by rw[HZ.out];exact vv) ?_)|(go_at_call 41;fail));refine(HC.out _).mono ?_;rintro e W ⟨rfl,b1⟩;have B2:=aa (K0.out.2.trans (b1.mono K0.out.2.size));have KW:=aa (K0.out.1.below b1 K0.out.1.lt);rw[HR.out];clear b1 K0;go_wp2;have hlw:w.heap.size<W.heap.size:=KW.out.lt;have Np:=ae (∀w',Below W.heap.size W w'→af w' w.heap.size (an (bC (gen:Int) (bl:Int) (cu:Int) (ck:Int) (op:Int) (ev:Int) (lg:Int) s1 ds1 p1 q1 s2 aq p2 q2 sn)) 52) (fun w' h=>KW.out.below h KW.out.lt);have NU:=aa (MC gen bl cu ck op ev lg s1 ds1 p1 q1 s2 aq p2 q2);have HHL:=aa (AW gen bl cu ck op ev lg s1 ds1 p1 q1 s2 aq p2 q2 HD.out.1 HD.out.2.1);have WC:=ae ((∀z∈([iV,le 8 gen,le 4 bl,le 4 cu,le 8 ck,le 8 op,le 4 ev,le 4 lg,dH s1 ds1 p1 q1,dH s2 aq p2 q2]:List (List Int)),0<z.length)∧([iV,le 8 gen,le 4 bl,le 4 cu,le 8 ck,le 8 op,le 4 ev,le 4 lg,dH s1 ds1 p1 q1,dH s2 aq p2 q2]:List (List Int)).flatten.length≤100000) (by
  constructor
  ·intro z hz;simp only[List.mem_cons,List.not_mem_nil,or_false] at hz;rcases hz with rfl|rfl|rfl|rfl|rfl|rfl|rfl|rfl|rfl|rfl
   ·decide
   ·rw[fR];omega
   ·rw[fR];omega
   ·rw[fR];omega
   ·rw[fR];omega
   ·rw[fR];omega
   ·rw[fR];omega
   ·rw[fR];omega
   ·rw[mu _ _ _ _ HD.out.1];omega
   ·rw[mu _ _ _ _ HD.out.2.1];omega
  ·rw[NU.out,HHL.out];omega)
 refine wp_region_noPanic ?_;refine wp_region_any (by kernel_rfl) ?_;refine EO [(1,.pointer (some ⟨w.heap.size,0,none⟩))] (fun w'=>Below W.heap.size W w') (VF W.heap.size w.heap.size gen bl cu ck op ev lg s1 ds1 p1 q1 s2 aq p2 q2) 53 [] (by kernel_rfl) ?hstep ?hfin _ _ (by rfl) (by rfl) (ak.drew) (by intro t v h;simp at h;obtain⟨rfl,rfl⟩:=h;rfl)
 case hstep=>
  intro i o listed ac wz hi hall hI;have f1:ac.tmps.getD 1 undef=.pointer (some ⟨w.heap.size,0,none⟩):=hI.fix 1 _ (by simp);match i,hi with
  |0,hi=>
   obtain rfl:=Option.some.inj hi;have Wo:=hI.held.size;refine⟨by rfl,?_⟩;go_simp;have bN:=(Below.refl wz.heap.size wz).alloc aj (.cells #[.int .u8 114,.int .u8 111,.int .u8 111,.int .u8 116,.int .u8 114,.int .u8 101,.int .u8 99,.int .u8 49] 5);have HV:=ae (VF W.heap.size w.heap.size gen bl cu ck op ev lg s1 ds1 p1 q1 s2 aq p2 q2 0 (.slice (some ⟨wz.heap.size,0,none⟩) 8 8) (wz.alloc (.cells #[.int .u8 114,.int .u8 111,.int .u8 111,.int .u8 116,.int .u8 114,.int .u8 101,.int .u8 99,.int .u8 49] 5))) (⟨wz.heap.size,rfl,Wo,by simp,Rd.own (World.ownsRow_lit (base:=wz.heap.size) (e:=5) (size:=1) wz #[.int .u8 114,.int .u8 111,.int .u8 111,.int .u8 116,.int .u8 114,.int .u8 101,.int .u8 99,.int .u8 49] 8 aj (by unfold maxLen;omega) rfl),(0,0),heap_alloc_new wz _⟩);exact⟨_,rfl,HV.out,hI.held.trans (bN.mono hI.held.size),VF.below bN⟩
  |1,hi=>
   obtain rfl:=Option.some.inj hi;obtain⟨gx,ex,hgx,hgl,v0,hfr⟩:VF W.heap.size w.heap.size gen bl cu ck op ev lg s1 ds1 p1 q1 s2 aq p2 q2 0 (ac.tmps.getD 10 undef) wz:=hI.at hall 0 10 rfl rfl (by rfl);rw[ex] at v0;refine⟨by rfl,MB 22 5 (.tmp 10) rfl gx 8 8 ex hfr underlying22 underlying5 ?_⟩;exact⟨_,rfl,⟨⟨_,_,rfl⟩,v0.freeze gx _⟩,Mz hI.held gx _ hgx,VF.freeze gx _ hfr⟩
  |2,hi=>
   obtain rfl:=Option.some.inj hi;refine⟨by rfl,?_⟩;go_simp;exact⟨_,rfl,rfl,hI.held⟩
  |3,hi=>
   obtain rfl:=Option.some.inj hi;have va:ac.tmps.getD 12 undef=.pointer (some ⟨w.heap.size,0,none⟩):=hI.at hall 2 12 rfl rfl (by rfl);have hc:=((Np.out wz hI.held).cell 0).trans (show(an (bC (gen:Int) (bl:Int) (cu:Int) (ck:Int) (op:Int) (ev:Int) (lg:Int) s1 ds1 p1 q1 s2 aq p2 q2 sn))[0]?=some (.int .i64 (gen:Int)) from rfl);refine⟨by rfl,?_⟩;go_simp;exact⟨_,rfl,rfl,hI.held⟩
  |4,hi=>
   obtain rfl:=Option.some.inj hi;have vb:ac.tmps.getD 13 undef=.int .i64 (gen:Int):=hI.at hall 3 13 rfl rfl (by rfl);refine⟨by rfl,?_⟩;go_simp;refine(jl gen 8 _ (by omega) (by omega) (by omega)).mono ?_;rintro e w' ⟨gN,cN,rfl,oN,bN⟩;exact⟨_,rfl,⟨⟨_,_,rfl⟩,Rd.own oN⟩,hI.held.trans (bN.mono hI.held.size),VF.below bN⟩
  |5,hi=>
   obtain rfl:=Option.some.inj hi;refine⟨by rfl,?_⟩;go_simp;exact⟨_,rfl,rfl,hI.held⟩
  |6,hi=>
   obtain rfl:=Option.some.inj hi;have va:ac.tmps.getD 15 undef=.pointer (some ⟨w.heap.size,1,none⟩):=hI.at hall 5 15 rfl rfl (by rfl);have hc:=((Np.out wz hI.held).cell 1).trans (show(an (bC (gen:Int) (bl:Int) (cu:Int) (ck:Int) (op:Int) (ev:Int) (lg:Int) s1 ds1 p1 q1 s2 aq p2 q2 sn))[1]?=some (.int .i64 (bl:Int)) from rfl);refine⟨by rfl,?_⟩;go_simp;exact⟨_,rfl,rfl,hI.held⟩
  |7,hi=>
   obtain rfl:=Option.some.inj hi;have vb:ac.tmps.getD 16 undef=.int .i64 (bl:Int):=hI.at hall 6 16 rfl rfl (by rfl);refine⟨by rfl,?_⟩;go_simp;refine(jl bl 4 _ (by omega) (by omega) (by omega)).mono ?_;rintro e w' ⟨gN,cN,rfl,oN,bN⟩;exact⟨_,rfl,⟨⟨_,_,rfl⟩,Rd.own oN⟩,hI.held.trans (bN.mono hI.held.size),VF.below bN⟩
  |8,hi=>
   obtain rfl:=Option.some.inj hi;refine⟨by rfl,?_⟩;go_simp;exact⟨_,rfl,rfl,hI.held⟩
  |9,hi=>
   obtain rfl:=Option.some.inj hi;have va:ac.tmps.getD 18 undef=.pointer (some ⟨w.heap.size,2,none⟩):=hI.at hall 8 18 rfl rfl (by rfl);have hc:=((Np.out wz hI.held).cell 2).trans (show(an (bC (gen:Int) (bl:Int) (cu:Int) (ck:Int) (op:Int) (ev:Int) (lg:Int) s1 ds1 p1 q1 s2 aq p2 q2 sn))[2]?=some (.int .i64 (cu:Int)) from rfl);refine⟨by rfl,?_⟩;go_simp;exact⟨_,rfl,rfl,hI.held⟩
  |10,hi=>
   obtain rfl:=Option.some.inj hi;have vb:ac.tmps.getD 19 undef=.int .i64 (cu:Int):=hI.at hall 9 19 rfl rfl (by rfl);refine⟨by rfl,?_⟩;go_simp;refine(jl cu 4 _ (by omega) (by omega) (by omega)).mono ?_;rintro e w' ⟨gN,cN,rfl,oN,bN⟩;exact⟨_,rfl,⟨⟨_,_,rfl⟩,Rd.own oN⟩,hI.held.trans (bN.mono hI.held.size),VF.below bN⟩
  |11,hi=>
   obtain rfl:=Option.some.inj hi;refine⟨by rfl,?_⟩;go_simp;exact⟨_,rfl,rfl,hI.held⟩
  |12,hi=>
   obtain rfl:=Option.some.inj hi;have va:ac.tmps.getD 21 undef=.pointer (some ⟨w.heap.size,3,none⟩):=hI.at hall 11 21 rfl rfl (by rfl);have hc:=((Np.out wz hI.held).cell 3).trans (show(an (bC (gen:Int) (bl:Int) (cu:Int) (ck:Int) (op:Int) (ev:Int) (lg:Int) s1 ds1 p1 q1 s2 aq p2 q2 sn))[3]?=some (.int .i64 (ck:Int)) from rfl);refine⟨by rfl,?_⟩;go_simp;exact⟨_,rfl,rfl,hI.held⟩
  |13,hi=>
   obtain rfl:=Option.some.inj hi;have vb:ac.tmps.getD 22 undef=.int .i64 (ck:Int):=hI.at hall 12 22 rfl rfl (by rfl);refine⟨by rfl,?_⟩;go_simp;refine(jl ck 8 _ (by omega) (by omega) (by omega)).mono ?_;rintro e w' ⟨gN,cN,rfl,oN,bN⟩;exact⟨_,rfl,⟨⟨_,_,rfl⟩,Rd.own oN⟩,hI.held.trans (bN.mono hI.held.size),VF.below bN⟩
  |14,hi=>
   obtain rfl:=Option.some.inj hi;refine⟨by rfl,?_⟩;go_simp;exact⟨_,rfl,rfl,hI.held⟩
  |15,hi=>
   obtain rfl:=Option.some.inj hi;have va:ac.tmps.getD 24 undef=.pointer (some ⟨w.heap.size,4,none⟩):=hI.at hall 14 24 rfl rfl (by rfl);have hc:=((Np.out wz hI.held).cell 4).trans (show(an (bC (gen:Int) (bl:Int) (cu:Int) (ck:Int) (op:Int) (ev:Int) (lg:Int) s1 ds1 p1 q1 s2 aq p2 q2 sn))[4]?=some (.int .i64 (op:Int)) from rfl);refine⟨by rfl,?_⟩;go_simp;exact⟨_,rfl,rfl,hI.held⟩
  |16,hi=>
   obtain rfl:=Option.some.inj hi;have vb:ac.tmps.getD 25 undef=.int .i64 (op:Int):=hI.at hall 15 25 rfl rfl (by rfl);refine⟨by rfl,?_⟩;go_simp;refine(jl op 8 _ (by omega) (by omega) (by omega)).mono ?_;rintro e w' ⟨gN,cN,rfl,oN,bN⟩;exact⟨_,rfl,⟨⟨_,_,rfl⟩,Rd.own oN⟩,hI.held.trans (bN.mono hI.held.size),VF.below bN⟩
  |17,hi=>
   obtain rfl:=Option.some.inj hi;refine⟨by rfl,?_⟩;go_simp;exact⟨_,rfl,rfl,hI.held⟩
  |18,hi=>
   obtain rfl:=Option.some.inj hi;have va:ac.tmps.getD 27 undef=.pointer (some ⟨w.heap.size,5,none⟩):=hI.at hall 17 27 rfl rfl (by rfl);have hc:=((Np.out wz hI.held).cell 5).trans (show(an (bC (gen:Int) (bl:Int) (cu:Int) (ck:Int) (op:Int) (ev:Int) (lg:Int) s1 ds1 p1 q1 s2 aq p2 q2 sn))[5]?=some (.int .i64 (ev:Int)) from rfl);refine⟨by rfl,?_⟩;go_simp;exact⟨_,rfl,rfl,hI.held⟩
  |19,hi=>
   obtain rfl:=Option.some.inj hi;have vb:ac.tmps.getD 28 undef=.int .i64 (ev:Int):=hI.at hall 18 28 rfl rfl (by rfl);refine⟨by rfl,?_⟩;go_simp;refine(jl ev 4 _ (by omega) (by omega) (by omega)).mono ?_;rintro e w' ⟨gN,cN,rfl,oN,bN⟩;exact⟨_,rfl,⟨⟨_,_,rfl⟩,Rd.own oN⟩,hI.held.trans (bN.mono hI.held.size),VF.below bN⟩
  |20,hi=>
   obtain rfl:=Option.some.inj hi;refine⟨by rfl,?_⟩;go_simp;exact⟨_,rfl,rfl,hI.held⟩
  |21,hi=>
   obtain rfl:=Option.some.inj hi;have va:ac.tmps.getD 30 undef=.pointer (some ⟨w.heap.size,6,none⟩):=hI.at hall 20 30 rfl rfl (by rfl);have hc:=((Np.out wz hI.held).cell 6).trans (show(an (bC (gen:Int) (bl:Int) (cu:Int) (ck:Int) (op:Int) (ev:Int) (lg:Int) s1 ds1 p1 q1 s2 aq p2 q2 sn))[6]?=some (.int .i64 (lg:Int)) from rfl);refine⟨by rfl,?_⟩;go_simp;exact⟨_,rfl,rfl,hI.held⟩
  |22,hi=>
   obtain rfl:=Option.some.inj hi;have vb:ac.tmps.getD 31 undef=.int .i64 (lg:Int):=hI.at hall 21 31 rfl rfl (by rfl);refine⟨by rfl,?_⟩;go_simp;refine(jl lg 4 _ (by omega) (by omega) (by omega)).mono ?_;rintro e w' ⟨gN,cN,rfl,oN,bN⟩;exact⟨_,rfl,⟨⟨_,_,rfl⟩,Rd.own oN⟩,hI.held.trans (bN.mono hI.held.size),VF.below bN⟩
  |23,hi=>
   obtain rfl:=Option.some.inj hi;refine⟨by rfl,?_⟩;go_simp;exact⟨_,rfl,rfl,hI.held⟩
  |24,hi=>
   obtain rfl:=Option.some.inj hi;have va:ac.tmps.getD 33 undef=.pointer (some ⟨w.heap.size,7,none⟩):=hI.at hall 23 33 rfl rfl (by rfl);refine⟨by rfl,wp_load_mid 31 (.tmp 33) rfl w.heap.size 7 va ((aD s1 ds1 p1 q1).map (Value.int .i64)) _ (mM (gen:Int) (bl:Int) (cu:Int) (ck:Int) (op:Int) (ev:Int) (lg:Int) s1 ds1 p1 q1 s2 aq p2 q2 sn HD.out.1 (Np.out wz hI.held)) underlying31 rfl (by rw[length_map, ←ct,No.out];exact dV) ?_⟩;exact⟨_,rfl,rfl,hI.held,fun _ _ h=>h⟩
  |25,hi=>
   obtain rfl:=Option.some.inj hi;have vb:ac.tmps.getD 34 undef=.agg (an (aD s1 ds1 p1 q1)):=hI.at hall 24 34 rfl rfl (by rfl);refine⟨by rfl,?_⟩;go_simp;refine(vL s1 ds1 p1 q1 _ HD.out.1 Rr.out.r1 Rr.out.q1).mono ?_;rintro e w' ⟨gN,cN,rfl,oN,bN⟩;exact⟨_,rfl,⟨⟨_,_,rfl⟩,Rd.own oN⟩,hI.held.trans (bN.mono hI.held.size),VF.below bN⟩
  |26,hi=>
   obtain rfl:=Option.some.inj hi;refine⟨by rfl,?_⟩;go_simp;exact⟨_,rfl,rfl,hI.held⟩
  |27,hi=>
   obtain rfl:=Option.some.inj hi;have va:ac.tmps.getD 36 undef=.pointer (some ⟨w.heap.size,22,none⟩):=hI.at hall 26 36 rfl rfl (by rfl);refine⟨by rfl,wp_load_mid 31 (.tmp 36) rfl w.heap.size 22 va ((aD s2 aq p2 q2).map (Value.int .i64)) _ (oH (gen:Int) (bl:Int) (cu:Int) (ck:Int) (op:Int) (ev:Int) (lg:Int) s1 ds1 p1 q1 s2 aq p2 q2 sn HD.out.1 HD.out.2.1 (Np.out wz hI.held)) underlying31 rfl (by rw[length_map, ←ct,NJ.out];exact dV) ?_⟩;exact⟨_,rfl,rfl,hI.held,fun _ _ h=>h⟩
  |28,hi=>
   obtain rfl:=Option.some.inj hi;have vb:ac.tmps.getD 37 undef=.agg (an (aD s2 aq p2 q2)):=hI.at hall 27 37 rfl rfl (by rfl);refine⟨by rfl,?_⟩;go_simp;refine(vL s2 aq p2 q2 _ HD.out.2.1 Rr.out.r2 Rr.out.q2).mono ?_;rintro e w' ⟨gN,cN,rfl,oN,bN⟩;exact⟨_,rfl,⟨⟨_,_,rfl⟩,Rd.own oN⟩,hI.held.trans (bN.mono hI.held.size),VF.below bN⟩
  |29,hi=>
   obtain rfl:=Option.some.inj hi;obtain⟨⟨x0,y0,e0'⟩,r0⟩:Sl 8 iV (ac.tmps.getD 11 undef) wz:=hI.at hall 1 11 rfl rfl (by rfl);rw[e0'] at r0;have R0:=aa r0;clear r0;have n0:=e0';rw[getD_eq_getD_getElem?] at n0;obtain⟨⟨x1,y1,Xk⟩,r1⟩:Sl 8 (le 8 gen) (ac.tmps.getD 14 undef) wz:=hI.at hall 4 14 rfl rfl (by rfl);rw[Xk] at r1;have R1:=aa r1;clear r1;have n1:=Xk;rw[getD_eq_getD_getElem?] at n1;obtain⟨⟨x2,y2,e2'⟩,r2⟩:Sl 4 (le 4 bl) (ac.tmps.getD 17 undef) wz:=hI.at hall 7 17 rfl rfl (by rfl);rw[e2'] at r2;have R2:=aa r2;clear r2;have n2:=e2';rw[getD_eq_getD_getElem?] at n2;obtain⟨⟨x3,y3,e3'⟩,r3⟩:Sl 4 (le 4 cu) (ac.tmps.getD 20 undef) wz:=hI.at hall 10 20 rfl rfl (by rfl);rw[e3'] at r3;have R3:=aa r3;clear r3;have n3:=e3';rw[getD_eq_getD_getElem?] at n3;obtain⟨⟨x4,y4,e4'⟩,r4⟩:Sl 8 (le 8 ck) (ac.tmps.getD 23 undef) wz:=hI.at hall 13 23 rfl rfl (by rfl);rw[e4'] at r4;have R4:=aa r4;clear r4;have n4:=e4';rw[getD_eq_getD_getElem?] at n4;obtain⟨⟨x5,y5,e5'⟩,r5⟩:Sl 8 (le 8 op) (ac.tmps.getD 26 undef) wz:=hI.at hall 16 26 rfl rfl (by rfl);rw[e5'] at r5;have R5:=aa r5;clear r5;have n5:=e5';rw[getD_eq_getD_getElem?] at n5;obtain⟨⟨x6,y6,e6'⟩,r6⟩:Sl 4 (le 4 ev) (ac.tmps.getD 29 undef) wz:=hI.at hall 19 29 rfl rfl (by rfl);rw[e6'] at r6;have R6:=aa r6;clear r6;have n6:=e6';rw[getD_eq_getD_getElem?] at n6;obtain⟨⟨x7,y7,e7'⟩,r7⟩:Sl 4 (le 4 lg) (ac.tmps.getD 32 undef) wz:=hI.at hall 22 32 rfl rfl (by rfl);rw[e7'] at r7;have R7:=aa r7;clear r7;have n7:=e7';rw[getD_eq_getD_getElem?] at n7;obtain⟨⟨x8,y8,e8'⟩,r8⟩:Sl 64 (dH s1 ds1 p1 q1) (ac.tmps.getD 35 undef) wz:=hI.at hall 25 35 rfl rfl (by rfl);rw[e8'] at r8;have R8:=aa r8;clear r8;have n8:=e8';rw[getD_eq_getD_getElem?] at n8;obtain⟨⟨x9,y9,e9'⟩,r9⟩:Sl 64 (dH s2 aq p2 q2) (ac.tmps.getD 38 undef) wz:=hI.at hall 28 38 rfl rfl (by rfl);rw[e9'] at r9;have R9:=aa r9;clear r9;have n9:=e9';rw[getD_eq_getD_getElem?] at n9;refine⟨by rfl,?_⟩;go_simp;have bN:=(Below.refl wz.heap.size wz).alloc aj (.cells #[.slice (some ⟨x0,0,none⟩) 8 y0,.slice (some ⟨x1,0,none⟩) 8 y1,.slice (some ⟨x2,0,none⟩) 4 y2,.slice (some ⟨x3,0,none⟩) 4 y3,.slice (some ⟨x4,0,none⟩) 8 y4,.slice (some ⟨x5,0,none⟩) 8 y5,.slice (some ⟨x6,0,none⟩) 4 y6,.slice (some ⟨x7,0,none⟩) 4 y7,.slice (some ⟨x8,0,none⟩) 64 y8,.slice (some ⟨x9,0,none⟩) 64 y9] 22);have HV:=ae (VF W.heap.size w.heap.size gen bl cu ck op ev lg s1 ds1 p1 q1 s2 aq p2 q2 29 (.slice (some ⟨wz.heap.size,0,none⟩) 10 10) (wz.alloc (.cells #[.slice (some ⟨x0,0,none⟩) 8 y0,.slice (some ⟨x1,0,none⟩) 8 y1,.slice (some ⟨x2,0,none⟩) 4 y2,.slice (some ⟨x3,0,none⟩) 4 y3,.slice (some ⟨x4,0,none⟩) 8 y4,.slice (some ⟨x5,0,none⟩) 8 y5,.slice (some ⟨x6,0,none⟩) 4 y6,.slice (some ⟨x7,0,none⟩) 4 y7,.slice (some ⟨x8,0,none⟩) 64 y8,.slice (some ⟨x9,0,none⟩) 64 y9] 22))) (⟨wz.heap.size,rfl,by simp,[.slice (some ⟨x0,0,none⟩) 8 y0,.slice (some ⟨x1,0,none⟩) 8 y1,.slice (some ⟨x2,0,none⟩) 4 y2,.slice (some ⟨x3,0,none⟩) 4 y3,.slice (some ⟨x4,0,none⟩) 8 y4,.slice (some ⟨x5,0,none⟩) 8 y5,.slice (some ⟨x6,0,none⟩) 4 y6,.slice (some ⟨x7,0,none⟩) 4 y7,.slice (some ⟨x8,0,none⟩) 64 y8,.slice (some ⟨x9,0,none⟩) 64 y9],fun j u hu=>by
    rw[cell_of_row _ _ j _ _ _ (heap_alloc_new wz _)];simpa using hu,R0.out.below bN,R1.out.below bN,R2.out.below bN,R3.out.below bN,R4.out.below bN,R5.out.below bN,R6.out.below bN,R7.out.below bN,R8.out.below bN,R9.out.below bN,trivial⟩)
   exact⟨_,rfl,HV.out,hI.held.trans (bN.mono hI.held.size),VF.below bN⟩
  |30,hi=>
   obtain rfl:=Option.some.inj hi;obtain⟨g,e14,hg14,vs,WD,WG⟩:VF W.heap.size w.heap.size gen bl cu ck op ev lg s1 ds1 p1 q1 s2 aq p2 q2 29 (ac.tmps.getD 39 undef) wz:=hI.at hall 29 39 rfl rfl (by rfl);have WH:=aa (ai WD WG);clear WD WG;refine⟨by rfl,?_⟩;go_simp;refine(xL g 10 10 vs ([iV,le 8 gen,le 4 bl,le 4 cu,le 8 ck,le 8 op,le 4 ev,le 4 lg,dH s1 ds1 p1 q1,dH s2 aq p2 q2]:List (List Int)) _ WH.out.1 WH.out.2 rfl (by omega) WC.out.1 WC.out.2 hg14).mono ?_;rintro e w' ⟨vJ,rfl,oN,bN⟩;rw[NU.out,HHL.out] at oN;exact⟨_,rfl,cH oN hI.held.size,hI.held.trans (bN.mono hI.held.size),VF.below bN⟩
  |31,hi=>
   obtain rfl:=Option.some.inj hi;have v15:wz.ownsRow W.heap.size 5 1 (ac.tmps.getD 40 undef) 176 ((iW gen bl cu ck op ev lg s1 ds1 p1 q1 s2 aq p2 q2).map (Value.int .u8)):=hI.at hall 30 40 rfl rfl (by rfl);generalize hx:ac.tmps.getD 40 undef=x at v15;have HV15:=aa v15;clear v15;refine⟨by rfl,?_⟩;go_simp;exact⟨_,rfl,HV15.out,hI.held⟩
  |i+32,hi=>cases hi
 case hfin=>
  intro listed ac wz hl hI;refine NoPanic.normal ?_;have v4:wz.ownsRow W.heap.size 5 1 (ac.tmps.getD 4 undef) 176 ((iW gen bl cu ck op ev lg s1 ds1 p1 q1 s2 aq p2 q2).map (Value.int .u8)):=hI.vals 31 _ 4 rfl (hl 31 (by decide)) rfl;have f1:ac.tmps.getD 1 undef=.pointer (some ⟨w.heap.size,0,none⟩):=hI.fix 1 _ (by simp);have hsz:=hI.sz;have hdf:=hI.df;have hBz:=hI.held;clear hI hl;obtain⟨tm,dfs⟩:=ac;simp only at v4 f1 hsz hdf;subst hdf;have hT:=MH tm hsz;rw[f1] at hT;generalize tm.getD 4 undef=x4 at v4 hT;generalize tm.getD 0 undef=t0 at hT;generalize tm.getD 2 undef=t2 at hT;generalize tm.getD 3 undef=t3 at hT;generalize tm.getD 5 undef=t5 at hT;generalize tm.getD 6 undef=t6 at hT;generalize tm.getD 7 undef=t7 at hT;generalize tm.getD 8 undef=t8 at hT;generalize tm.getD 9 undef=t9 at hT;generalize tm.getD 10 undef=t10 at hT;generalize tm.getD 11 undef=t11 at hT;generalize tm.getD 12 undef=t12 at hT;generalize tm.getD 13 undef=t13 at hT;generalize tm.getD 14 undef=t14 at hT;generalize tm.getD 15 undef=t15 at hT;generalize tm.getD 16 undef=t16 at hT;generalize tm.getD 17 undef=t17 at hT;generalize tm.getD 18 undef=t18 at hT;generalize tm.getD 19 undef=t19 at hT;generalize tm.getD 20 undef=t20 at hT;generalize tm.getD 21 undef=t21 at hT;generalize tm.getD 22 undef=t22 at hT;generalize tm.getD 23 undef=t23 at hT;generalize tm.getD 24 undef=t24 at hT;generalize tm.getD 25 undef=t25 at hT;generalize tm.getD 26 undef=t26 at hT;generalize tm.getD 27 undef=t27 at hT;generalize tm.getD 28 undef=t28 at hT;generalize tm.getD 29 undef=t29 at hT;generalize tm.getD 30 undef=t30 at hT;generalize tm.getD 31 undef=t31 at hT;generalize tm.getD 32 undef=t32 at hT;generalize tm.getD 33 undef=t33 at hT;generalize tm.getD 34 undef=t34 at hT;generalize tm.getD 35 undef=t35 at hT;generalize tm.getD 36 undef=t36 at hT;generalize tm.getD 37 undef=t37 at hT;generalize tm.getD 38 undef=t38 at hT;generalize tm.getD 39 undef=t39 at hT;generalize tm.getD 40 undef=t40 at hT;generalize tm.getD 41 undef=t41 at hT;generalize tm.getD 42 undef=t42 at hT;generalize tm.getD 43 undef=t43 at hT;generalize tm.getD 44 undef=t44 at hT;generalize tm.getD 45 undef=t45 at hT;generalize tm.getD 46 undef=t46 at hT;generalize tm.getD 47 undef=t47 at hT;generalize tm.getD 48 undef=t48 at hT;generalize tm.getD 49 undef=t49 at hT;generalize tm.getD 50 undef=t50 at hT;generalize tm.getD 51 undef=t51 at hT;generalize tm.getD 52 undef=t52 at hT;clear hsz f1;subst hT;have V4:=aa v4;have HBZ:=aa hBz;have HR:=aa (su (gen:Int) (bl:Int) (cu:Int) (ck:Int) (op:Int) (ev:Int) (lg:Int) s1 ds1 p1 q1 s2 aq p2 q2 sn HD.out.1 HD.out.2.1 HD.out.2.2 (Np.out wz hBz));obtain⟨bf,hbf⟩:∃bf,bf=jL gen bl cu ck op ev lg s1 ds1 p1 q1 s2 aq p2 q2 sn:=⟨_,rfl⟩;have UH:=ae (bf=(iW gen bl cu ck op ev lg s1 ds1 p1 q1 s2 aq p2 q2)++dA sn) hbf;have HBG:=aa hbf;have vX:=ae (bf.length=300) (by rw[hbf];exact sC gen bl cu ck op ev lg s1 ds1 p1 q1 s2 aq p2 q2 sn HD.out.1 HD.out.2.1 HD.out.2.2);have Pu:=ae (∀z∈bf,0≤z∧z<256) (by rw[hbf];exact vF gen bl cu ck op ev lg s1 ds1 p1 q1 s2 aq p2 q2 sn);clear v4 hBz hbf;generalize (iW gen bl cu ck op ev lg s1 ds1 p1 q1 s2 aq p2 q2)=hf at V4 UH HHL NU;go_wp2_with (refine wpList_load_mid rfl 50 _ rfl w.heap.size 37 rfl (sn.map (Value.int .i64)) _ HR.out underlying50 rfl (by rw[length_map,HD.out.2.2];exact AJ) ?_);go_loopw [4,43] (fun o i wr=>∃j:Nat,j≤31∧i=.int .i64 j∧wr.ownsRow W.heap.size 5 1 o (176+4*j) ((hf++dA (sn.take j)).map (Value.int .u8))∧Below W.heap.size W wr) (fun _ i _=>31-(intOf i).toNat)
  case atStart=>exact⟨0,by omega,rfl,by simpa [dA] using V4.out,HBZ.out⟩
  case round=>
   clear V4 HBZ HR;obtain⟨j,hj,rfl,hown,hb⟩:=hrel;have hszb:=hb.size;by_cases hlt:j<31
   ·have hjl:j<sn.length:=(by rw[HD.out.2.2];exact hlt);have hix:∀w,(Instr.index 50 (.agg (sn.map (Value.int .i64)).toArray) (.int .i64 j)).run prog w=.ok (.int .i64 (sn.getD j 0)) w:=fun w=>HX.out j hlt w;have hz1':=Rr.out.sn (sn.getD j 0) (by simp[List.getD,hjl]);have HT:=aa (pG sn j hjl);have HC:=aa (ai hown hb);clear hown hb hjl;generalize sn.getD j 0=z at hix HT hz1';obtain⟨y,rfl⟩:=eq_ofNat_of_zero_le hz1'.1;obtain⟨_,hy2⟩:=hz1';have hy:y<2048:=(by omega);clear hy2;rw[Int.toNat_natCast] at HT;go_wp2_with (go_at_call 40;fail);refine(jl y 4 _ (by omega) (by omega) (by omega)).mono ?_;rintro e w3 ⟨g3,SW,rfl,o3,b3⟩;have hs3:=b3.size;have hop:=cC HC.out.1 b3;go_wp2_with (at_builtin;refine kP _ rfl (.tmp 46) (.tmp 48) 22 rfl W.heap.size 5 i0 (.int .u8 0) 1 1 underlying22 hi0 hz0 hz1 hz2 rfl (by decide) _ _ _ rfl hop ⟨g3,0,none⟩ 4 SW ((le 4 y).map (Value.int .u8)) rfl (by simp[fR]) (o3.cells rfl) (ints_oneCell _ _) (by omega) (by unfold maxLen;omega) (by omega) (by omega) ?_;intro v5 w5 o5 g5 f5);have HW:=ae (w5.ownsRow W.heap.size 5 1 v5 (176+4*(j+1)) ((hf++dA (sn.take (j+1))).map (Value.int .u8))∧Below W.heap.size W w5) (by
     refine⟨?_,(HC.out.2.trans (b3.mono hszb)).grown g5 (by omega) (fun r h=>(hop.lt r h).1)⟩;rw[HT.out, ←List.append_assoc,List.map_append,show 176+4*(j+1)=176+4*j+4 by omega];exact o5)
    clear o3 b3 hop o5 g5 f5;go_roundw
    case rel=>exact⟨j+1,by omega,by go_num,HW.out.1,HW.out.2⟩
    case measure=>simp[intOf];omega
   ·have e31:j=31:=(by omega);subst e31;rw[List.take_of_length_le (by rw[HD.out.2.2];omega), ←UH.out] at hown;have HO:=aa (ai (Rd.own hown) hb);clear hown hb;go_wp2_with (go_at_call 44;fail);refine(Kh _ bf _ HO.out.1 (by rw[vX.out];omega) (by rw[vX.out];omega) Pu.out).mono ?_;rintro e w5 ⟨v5,rfl,o5,b5⟩;have H5:=aa (ai (cH o5 (show w.heap.size≤wr.heap.size by omega)) (B2.out.trans ((HO.out.2.trans (b5.mono HO.out.2.size)).mono B2.out.size)));clear o5 b5;go_wp2;go_ret2;exact⟨_,rfl,by rw[←HBG.out];exact H5.out.1,H5.out.2⟩
theorem MK(gen bl cu ck op ev lg s1:Int)(ds1:List Int)(p1 q1 s2:Int)(aq:List Int)(p2 q2:Int)(sn:List Int)(w:World)(hd1:ds1.length=12)(hd2:aq.length=12)(hsn:sn.length=31):
 Calls prog 15 #[.agg (an (bC gen bl cu ck op ev lg s1 ds1 p1 q1 s2 aq p2 q2 sn))] w fun e w'=>∃v',e=.returned (.tuple #[v',.int .i64 (p6 gen bl cu ck op ev lg s1 ds1 p1 q1 s2 aq p2 q2 sn)])∧w'.ownsRow w.heap.size 5 1 v' (oJ gen bl cu ck op ev lg s1 ds1 p1 q1 s2 aq p2 q2 sn).length ((oJ gen bl cu ck op ev lg s1 ds1 p1 q1 s2 aq p2 q2 sn).map (Value.int .u8))∧Below w.heap.size w w':=by
 cases hr:dM gen bl cu ck op ev lg s1 ds1 p1 q1 s2 aq p2 q2 sn with
 |false=>
  refine(MI gen bl cu ck op ev lg s1 ds1 p1 q1 s2 aq p2 q2 sn w hd1 hd2 hsn hr).mono ?_;rintro e w' ⟨rfl,hb⟩;refine⟨_,by unfold p6;rw[hr];rfl,?_,hb⟩;unfold oJ;rw[hr];exact World.ownsRow_nil _ _ _ _
 |true=>
  have hB:=AZ gen bl cu ck op ev lg s1 ds1 p1 q1 s2 aq p2 q2 sn hd1 hd2 hr;obtain⟨a0,rfl⟩:=eq_ofNat_of_zero_le hB.g0.1;obtain⟨a1,rfl⟩:=eq_ofNat_of_zero_le hB.g1.1;obtain⟨a2,rfl⟩:=eq_ofNat_of_zero_le hB.g2.1;obtain⟨a3,rfl⟩:=eq_ofNat_of_zero_le hB.g3.1;obtain⟨a4,rfl⟩:=eq_ofNat_of_zero_le hB.g4.1;obtain⟨a5,rfl⟩:=eq_ofNat_of_zero_le hB.g5.1;obtain⟨a6,rfl⟩:=eq_ofNat_of_zero_le hB.g6.1;refine(MJ a0 a1 a2 a3 a4 a5 a6 s1 ds1 p1 q1 s2 aq p2 q2 sn w hd1 hd2 hsn hB hr).mono ?_;rintro e w' ⟨v',rfl,ho,hb⟩;refine⟨v',by unfold p6;rw[hr];rfl,?_,hb⟩;unfold oJ;rw[if_pos hr];simp only[Int.toNat_natCast];rw[AT _ (by rw[sC _ _ _ _ _ _ _ _ _ _ _ _ _ _ _ _ hd1 hd2 hsn];omega)];exact ho
def fy(N:Nat):List (Int×List Int):=(range (bR (aL N))).map (dG (aL N) (cU N (3+bR (aL N))) (iq (aL N)))
def fA(N:Nat)(ev lg:Int):List Int:=iU (jL 1 N (3+bR (aL N)) 1 0 ev.toNat lg.toNat 256 aq 0 0 (4*(N:Int)) (ey (aL N)) (eA (aL N)) 0 iX)
def jj(N:Nat)(ev lg:Int):List (Int×List Int):=([(2,dj)]++[(0,fA N ev lg),(1,fA N ev lg)])++fy N
def jQ(N:Nat)(ev lg:Int):List (Int×List Int):=([(2,dj)]++fy N)++[(0,fA N ev lg),(1,fA N ev lg)]
def kH(N:Nat)(ev lg:Int):List Int:=eH (eG N) (jj N ev lg)
theorem gS(N:Nat):(eG N).length=N*512:=by simp[eG]
theorem sI(N:Nat):∀z∈eG N,0≤z∧z<256:=fun z hz=>by rw[List.eq_of_mem_replicate hz];omega
theorem nE{N:Nat}(h:64≤N∧N≤2048):aL N≤16∧bR (aL N)≤17∧0<bR (aL N):=by
 have:aL N≤16∧0<aL N:=by unfold aL;omega
 unfold bR;split<;>omega
theorem ML:∀z∈dj,0≤z∧z<256:=by
 have h:dj.all (fun z=>decide (0≤z)&&decide (z<256))=true:=by kernel_rfl
 intro z hz;rw[List.all_eq_true] at h;simpa using h z hz
theorem MM:ir++replicate (512-ir.length) 0=dj:=by kernel_rfl
theorem MN:ji (ir++replicate (512-ir.length) 0)=false:=by kernel_rfl
theorem qi(N:Nat)(ev lg:Int):(fA N ev lg).length=512:=AT _ (by rw[sC _ _ _ _ _ _ _ _ _ _ _ _ _ _ _ _ rfl (jN _) (by simp[iX])];omega)
theorem MP(zs:List Int)(h:∀z∈zs,0≤z∧z<256):∀z∈iU zs,0≤z∧z<256:=by
 intro z hz;unfold iU at hz;rcases List.mem_append.1 hz with hz|hz
 ·exact vC zs h z hz
 ·exact jt _ _ z hz
theorem Ci(N:Nat)(ev lg:Int):∀z∈fA N ev lg,0≤z∧z<256:=MP _ (vF _ _ _ _ _ _ _ _ _ _ _ _ _ _ _ _)
theorem MQ(n j:Nat):∀z∈cU n j,0≤z∧z<4294967296:=by
 intro z hz;obtain⟨i,_,rfl⟩:=List.mem_map.1 hz;split<;>omega
theorem MR{N:Nat}(h:64≤N∧N≤2048)(j:Nat):0≤iq (aL N) j∧iq (aL N) j<4294967296:=by
 have:=nE h;unfold iq;split<;>omega
theorem sJ{N:Nat}(h:64≤N∧N≤2048):∀p∈fy N,gy N p∧3≤p.1:=by
 intro p hp;obtain⟨k,hk,rfl⟩:=List.mem_map.1 hp;have hk:=List.mem_range.1 hk;have ht:=nE h;have hg:=Ab (m:=aL N) (k:=k) (ws:=cU N (3+bR (aL N))) (g:=iq (aL N)) (MQ _ _) (fun j _=>MR h j);have e:(dG (aL N) (cU N (3+bR (aL N))) (iq (aL N)) k).1=((3+k:Nat):Int):=by
  show iq (aL N) k=_;unfold iq;rw[if_pos hk]
 have e2:(dG (aL N) (cU N (3+bR (aL N))) (iq (aL N)) k).2=dA (fU (aL N) (cU N (3+bR (aL N))) (iq (aL N)) k):=by
  show eE _=_;unfold eE;rw[if_pos hg]
 refine⟨⟨by rw[e];omega,by rw[e];omega,by rw[e2,pF,nr],fun z hz=>?_⟩,by rw[e];omega⟩;rw[e2] at hz;unfold dA at hz;obtain⟨v,_,hv⟩:=List.mem_flatMap.1 hz;exact jt _ _ z hv
theorem sK{N:Nat}(h:64≤N∧N≤2048)(ev lg:Int):∀p∈[((0:Int),fA N ev lg),(1,fA N ev lg)],gy N p∧p.1<2:=by
 intro p hp;have:p=(0,fA N ev lg)∨p=(1,fA N ev lg):=by simpa using hp
 rcases this with rfl|rfl
 ·exact⟨⟨by simp,by simp;omega,qi _ _ _,Ci _ _ _⟩,by simp⟩
 ·exact⟨⟨by simp,by simp;omega,qi _ _ _,Ci _ _ _⟩,by simp⟩
theorem vY{N:Nat}(h:64≤N∧N≤2048):∀p∈[((2:Int),dj)],gy N p:=by
 intro p hp;have:p=(2,dj):=by simpa using hp
 subst this;exact⟨by simp,by simp;omega,Lw,ML⟩
theorem Cj{N:Nat}(h:64≤N∧N≤2048)(ev lg:Int):∀p∈jj N ev lg,gy N p:=by
 intro p hp;unfold jj at hp;rcases List.mem_append.1 hp with hp|hp
 ·rcases List.mem_append.1 hp with hp|hp
  ·exact vY h p hp
  ·exact(sK h ev lg p hp).1
 ·exact(sJ h p hp).1
theorem MS{N:Nat}(h:64≤N∧N≤2048)(ev lg:Int):∀p∈jQ N ev lg,gy N p:=by
 intro p hp;unfold jQ at hp;rcases List.mem_append.1 hp with hp|hp
 ·rcases List.mem_append.1 hp with hp|hp
  ·exact vY h p hp
  ·exact(sJ h p hp).1
 ·exact(sK h ev lg p hp).1
theorem MT{N:Nat}(h:64≤N∧N≤2048)(ev lg:Int):eH (eG N) (jQ N ev lg)=kH N ev lg:=by
 unfold kH jQ jj;rw[qf,qf,qf,qf];refine Bu (n:=N) (fy N) _ _ (fun p hp=>(sJ h p hp).1) (fun q hq=>⟨(sK h ev lg q hq).1,fun p hp=>?_⟩) (qc _ _ (vY h) (gS N));have h1:=(sK h ev lg q hq).2;have h2:=(sJ h p hp).2;omega
theorem sL{N:Nat}(h:64≤N∧N≤2048)(ev lg:Int):(kH N ev lg).length=N*512:=qc _ _ (Cj h ev lg) (gS N)
theorem vZ(N:Nat)(ev lg:Int):(jj N ev lg).length=3+bR (aL N):=by simp[jj,fy];omega
theorem we(N:Nat)(ev lg:Int):(jQ N ev lg).length=3+bR (aL N):=by simp[jQ,fy];omega
theorem mR(N:Nat):(fy N).length=bR (aL N):=by simp[fy]
theorem Cl{N:Nat}(h:64≤N∧N≤2048){w w':World}{e:Ending}(hm:uY w w' (eG N) 0 jM 0 0 (cU N 3) 3 e):∃wv pv vs,e=.returned (.tuple #[.agg (((aD (4*(N:Int)) (ey (aL N)) (eA (aL N)) 0).map (Value.int .i64)++[wv,.int .i64 ((3+bR (aL N):Nat):Int),pv]).toArray),.int .i64 0])∧w'.ownsRow w.heap.size 3 1 wv N ((cU N (3+bR (aL N))).map (Value.int .i64))∧aZ w' w.heap.size 55 1 pv ((fy N).map bu) vs∧Below w.heap.size w w':=by
 obtain⟨hm,hb⟩:=hm;rcases hm with⟨h1,_⟩|⟨_,wv,pv,vs,he,ho,hp⟩
 ·exact absurd (Kt h) h1
 ·rw[jr] at he ho hp;rw[vI h] at he ho hp;rw[Ku h] at he hp;refine⟨wv,pv,vs,?_,ho,hp,hb⟩;rw[←Kv];exact he
end
end Go.Proofs.YtpplnhkpcpieoaaGreatDoor
