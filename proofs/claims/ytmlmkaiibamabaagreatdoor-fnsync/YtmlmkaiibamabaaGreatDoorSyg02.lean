import Derived.Test.YtmlmkaiibamabaaGreatDoorSyg01
set_option linter.unusedVariables false
set_option linter.unusedSimpArgs false
set_option maxRecDepth 100000
set_option maxHeartbeats 40000000
namespace Go.Proofs.YtmlmkaiibamabaaGreatDoor
open Go.ChangeShapes Go.WideShapes Go.ChangeAt Go.RowKit Go.Maps Go.Proofs.Tryz
open Go.Value renaming slice → Uf, int → Ug, pointer → Uk, tuple → Ul, string → Um, agg → Uo
open Go.IntKind renaming i64 → Uh
open Go.Ending renaming returned → Ui
open Go.Obj renaming cells → Uj
open Option renaming none → Up, some → Uq
open Go renaming World → Ur, Addr → Us
open Nat renaming lt_of_lt_of_le → Ut, le_refl → Uv, add_assoc → UQ, mul_le_mul_right → UR, pow_succ → Uu
open Go.World renaming cell?_setCell_far → UJ, frozen?_setCell → UK, setCell → UL, cell?_setCell_same → UM, cell?_setCell_other → UN, cell?_of_block → US, frozen?_of_block → UT
open Go.IntKind renaming wrap_u64 → UU
open List renaming getD → UA, getElem?_append_right → UV, range → UW, getElem?_eq_none → UX, length_append → UB, map_append → UC, getElem_mem → UG
variable {B V b bm c cb i m n p s x x':Nat}{L:Int ->List (Int×Int)}{U W:List Int}{a:Option Us}{b' b0 v v0 v1:Value}{e:TypeId}{f:Nat ->Int}{l:List (Int×Int)}{w w' w1 w2 wr:Ur}{xs:List Value}{z:Int}
theorem QaP.gt{p:List ByteArray}(h:QaP w a p)(hg:Gt B w w1):QaP w1 a p:=by
 refine h.imp id ?_;rintro⟨b,off,e,k,j⟩;exact⟨b,off,e,Ut k hg.size,fun i hi=>hg.cell (j i hi)⟩
theorem Qe9.gt{l:List Lf}(h:Qe9 w a l)(hg:Gt B w w1):Qe9 w1 a l:=by
 refine h.imp id ?_;rintro⟨b,off,e,v,u⟩;refine⟨b,off,e,Ut v hg.size,fun i hi=> ?_⟩;obtain⟨y,pc,j,s,k,m,q,r⟩:=u i hi;exact⟨y,pc,hg.cell j,s.gt hg,hg.cell k,hg.cell m,hg.cell q,hg.cell r⟩
def Qav (p:List ByteArray)(k:Int)(i:Nat):Ky:=(gS p i,if i+1<p.length then 3 else k)
theorem QkI (p:List ByteArray)(a:Option Us)(c:Nat)(k:Int)(i:Nat)(w:Ur)(hp:p.length<=1048576)(hi:i<p.length)(h:QaP w a p):
  Cl 123 #[Uf a p.length c,Ud i,Ud k] w (Rt w (Qa9 (Qav p k i))):=by
 rcases h with h|⟨b,off,rfl,t,y⟩
 ·omega
 have x0:=y i hi;have A:(0:Int)<=(i:Int):=Int.natCast_nonneg _;have E:(i:Int)<(p.length:Int):=oM;obtain⟨s,u⟩:=zE (gS p i);rw [u] at x0;have j:Hid (Qav p k i=(s,if i+1<p.length then 3 else k)):=hid (by unfold Qav;rw [u]);obtain⟨m,z⟩:∃m:Nat,p.length=m+1:=⟨p.length - 1,oM⟩;have o:IntKind.i64.wrap ((p.length:Int) - 1)=(m:Int):=by rw [IntKind.wrap_i64];omega
 clear u y;by_cases q:i+1<p.length
 ·have g:decide (i<m)=true:=oS;have r:=hid (show Qav p k i=(s,3) by rw [j.out,if_pos q]);clear j q z;go_enter func123,ntmps123;go_wp2_with fail;refine zF (v:=Uo #[Um s,Ud 3]) (by simp [results,results123,go_sem]) ⟨by rw [r.out];rfl,?_⟩;exact zO _ _
 ·have g:decide (i<m)=false:=oS;have r:=hid (show Qav p k i=(s,k) by rw [j.out,if_neg q]);clear j q z;go_enter func123,ntmps123;go_wp2_with fail;refine zF (v:=Uo #[Um s,Ud k]) (by simp [results,results123,go_sem]) ⟨by rw [r.out];rfl,?_⟩;exact zO _ _
theorem Qel (w:Ur):
  Cl 97 #[] w fun e w'=>∃s s',e=Ui (Uo #[.map (Uq s),.map (Uq s')])/\ s≠s'/\ w.heap.size<=s/\ w.heap.size<=s'/\ Qa0 w' 174 (α:=Ky) Qa9 Qbl s 0 (fun _=>Up)/\ Qa0 w' 83 (α:=Dt) dtV Qb8 s' 0 (fun _=>Up)/\ Bl w w':=by
 have m:=@run_makeMap prog;have j:=hid ((Qa0.made (α:=Ky) (w.alloc (Uj #[.map (Uq (w.heap.size+1)),.map (Uq (w.heap.size+1+1))] 124)) 174 Qa9 Qbl).same (w':=(((w.alloc (Uj #[.map (Uq (w.heap.size+1)),.map (Uq (w.heap.size+1+1))] 124)).alloc (.map #[] 0)).alloc (.map #[] 0))) (Below.heap_alloc _ _ _ oP));have k:=hid (Qa0.made (α:=Dt) ((w.alloc (Uj #[.map (Uq (w.heap.size+1)),.map (Uq (w.heap.size+1+1))] 124)).alloc (.map #[] 0)) 83 dtV Qb8);go_enter func97,ntmps97;go_wp2_with fail;refine zF (v:=Uo #[.map (Uq (w.heap.size+1)),.map (Uq (w.heap.size+1+1))]) (by simp [results,results97,go_sem]) ⟨_,_,rfl,oM,oM,oM,oU j,by simpa using k.out,?_⟩;exact((zO _ _).alloc oP _).alloc oS _
structure Bx2 (w:Ur)(b:Nat)(v0 v1:Value):Prop where
 c0:w.cell? (Ub b)=Uq v0
 c1:w.cell? (Ua b 1)=Uq v1
 f:∀i,w.frozen? (Ua b i)=false
 lt:b<w.heap.size
theorem Bx2.q2(h:Bx2 w b v0 v1):w.cell? (Ub b)=Uq v0/\ w.cell? (Ua b 1)=Uq v1:=⟨h.c0,h.c1⟩
theorem Bx2.p2(h:Bx2 w b v0 v1):w.cell? (Ub b)=Uq v0/\ w.cell? (Ua b 1)=Uq v1/\ ∀i,w.frozen? (Ua b i)=false:=⟨h.c0,h.c1,h.f⟩
theorem Bx2.bw(h:Bx2 w b v0 v1)(hb:Below B w w')(hB:b<B):Bx2 w' b v0 v1:=
 ⟨(hb.cell (p:=(Ub b)) hB).trans h.c0,(hb.cell (p:=(Ua b 1)) hB).trans h.c1,fun i=>(hb.frozen (p:=(Ua b i)) hB).trans (h.f i),Ut h.lt hb.size⟩
theorem Bx2.gt(h:Bx2 w b v0 v1)(hg:Gt B w w'):Bx2 w' b v0 v1:=
 ⟨hg.cell h.c0,hg.cell h.c1,fun i=>(hg.frozen (q:=(Ua b i)) h.c0 rfl).trans (h.f i),Ut h.lt hg.size⟩
theorem Bx2.setAt(h:Bx2 w b v0 v1)(q:Us)(u:Value)(hq:q.block≠b):Bx2 (w.setCell q u) b v0 v1:=
 ⟨by rw [UJ _ _ _ _ hq];exact h.c0,by rw [UJ _ _ _ _ hq];exact h.c1,fun i=>by rw [UK];exact h.f i,by simp [UL];exact h.lt⟩
theorem Bx2.set0(h:Bx2 w b v0 v1)(u:Value):Bx2 (w.setCell (Ub b) u) b u v1:=
 ⟨UM _ _ _ h.c0,by simp [UN,h.c1],fun i=>by rw [UK];exact h.f i,by simp [UL];exact h.lt⟩
theorem Bx2.set1(h:Bx2 w b v0 v1)(u:Value):Bx2 (w.setCell (Ua b 1) u) b v0 u:=
 ⟨by simp [UN,h.c0],UM _ _ _ h.c1,fun i=>by rw [UK];exact h.f i,by simp [UL];exact h.lt⟩
theorem Bx2.set(h:Bx2 w b v0 v1)(u u':Value):Bx2 ((w.setCell (Ub b) u).setCell (Ua b 1) u') b u u':=(h.set0 u).set1 u'
theorem Bx2.made (w:Ur)(v0 v1:Value)(t:TypeId):Bx2 (w.alloc (Uj #[v0,v1] t)) w.heap.size v0 v1:=⟨oP,oP,fun i=>oP,oP⟩
theorem Bx2.allocs(h:Bx2 w b v0 v1)(o:Obj):Bx2 (w.alloc o) b v0 v1:=h.bw (zO _ o) h.lt
structure Bx1 (w:Ur)(b:Nat)(v0:Value):Prop where
 c0:w.cell? (Ub b)=Uq v0
 f:∀i,w.frozen? (Ua b i)=false
 lt:b<w.heap.size
theorem Bx1.bw(h:Bx1 w b v0)(hb:Below B w w')(hB:b<B):Bx1 w' b v0:=
 ⟨(hb.cell (p:=(Ub b)) hB).trans h.c0,fun i=>(hb.frozen (p:=(Ua b i)) hB).trans (h.f i),Ut h.lt hb.size⟩
theorem Bx1.gt(h:Bx1 w b v0)(hg:Gt B w w'):Bx1 w' b v0:=
 ⟨hg.cell h.c0,fun i=>(hg.frozen (q:=(Ua b i)) h.c0 rfl).trans (h.f i),Ut h.lt hg.size⟩
theorem Bx1.setAt(h:Bx1 w b v0)(q:Us)(u:Value)(hq:q.block≠b):Bx1 (w.setCell q u) b v0:=
 ⟨by rw [UJ _ _ _ _ hq];exact h.c0,fun i=>by rw [UK];exact h.f i,by simp [UL];exact h.lt⟩
theorem Bx1.made (w:Ur)(v0:Value)(t:TypeId):Bx1 (w.alloc (Uj #[v0] t)) w.heap.size v0:=⟨oP,fun i=>oP,oP⟩
theorem Gt.set(h:Gt B w wr)(q:Us)(u:Value)(hq:w.heap.size<=q.block):Gt B w (wr.setCell q u):=
 ⟨h.os,h.tape,h.output,by simpa [UL] using h.size,fun g hg ho=>(zH _ _ _ _ oM).trans (h.block g hg ho)⟩
theorem Gt.keep(h:Gt B w wr)(hb:Bl wr w1):Gt B w w1:=h.trans (Gt.of_below hb)
theorem Qax {α β:Type}(w:Ur){ops:Array Oper}{rest:List Oper}{o:Oper}{a:Act}{Q:Exit ->Act ->Ur ->Prop}
  (hg:o.guard=Up) (m x v:Operand) (mt:TypeId) (hop:o.op=Op.mapUpdate mt m x v) (t e:TypeId) (K:Keyed prog t) (kv:α ->Value) (hi:∀x y,kv x=kv y ->x=y) (ht:prog.underlying mt=Uq (.map t e)) (vo:Option β ->Value) (b c:Nat) (f:α ->Option β)
  (hm:a.eval m=.map (Uq b)) (h:Qa0 w t kv vo b c f) (hc:c<maxLen) (k:α) (y:β) (kl:Lit) (hx:a.eval x=kv k) (hv:a.eval v=vo (Uq y)) (hk:keyOf prog t (kv k)=Uq kl)
  (hK:∀w',Qa0 w' t kv vo b (c+1) (QbX f k (Uq y)) ->w.grownBy w' (Uq b) ->wpList prog ops Q rest (a.put o.dst undef) w'):
  wpList prog ops Q (o::rest) a w:=by
 refine wpList_plain hg fun K' hK'=> ?_;obtain⟨w',j,q,r⟩:=h.store K hi ht hc (y:=y) hk;unfold Oper.wp;simp [execOp,hop,hm,hx,hv,j,Result.andThen];exact hK' _ _ (hK w' q r)
variable {EX : Nat -> Option Value}
def Cur (EX:Nat ->Option Value)(w:Ur)(cb:Nat)(a:Option Us)(n c:Nat)(x:Int):Prop:=w.cell? (Ub cb)=Uq (Uf a n c)/\ w.cell? (Ua cb 1)=Uq (Ud x)/\ w.frozen? (Ua cb 1)=false/\∀i,2<=i ->w.cell? (Ua cb i)=EX i/\ w.frozen? (Ua cb i)=false
theorem Cur.lt{x:Int}(h:Cur EX w cb a n c x):cb<w.heap.size:=by
 rcases Nat.lt_or_ge cb w.heap.size with j|j
 ·exact j
 ·have:=h.1;simp [World.cell?,Array.getElem?_eq_none j] at this
theorem Cur.bw{x:Int}(h:Cur EX w cb a n c x)(hb:Below B w w')(hB:cb<B):Cur EX w' cb a n c x:=
 ⟨(hb.cell (p:=(Ub cb)) hB).trans h.1,(hb.cell (p:=(Ua cb 1)) hB).trans h.2.1,(hb.frozen (p:=(Ua cb 1)) hB).trans h.2.2.1,fun i hi=>⟨(hb.cell (p:=(Ua cb i)) hB).trans (h.2.2.2 i hi).1,(hb.frozen (p:=(Ua cb i)) hB).trans (h.2.2.2 i hi).2⟩⟩
theorem Cur.set{x:Int}(h:Cur EX w cb a n c x)(y:Int):Cur EX (w.setCell (Ua cb 1) (Ud y)) cb a n c y:=by
 obtain⟨j,k,m,q⟩:=h;refine⟨?_,?_,?_,fun i hi=> ?_⟩
 ·simp [UN,j]
 ·exact UM _ _ _ k
 ·rw [UK];exact m
 ·rw [UN _ _ _ _ (by intro e;injection e with _ e;omega),UK];exact q i hi
theorem Cur.at'{x:Int}(h:Cur EX w cb a n c x)(hb:w'.heap[cb]? =w.heap[cb]?):Cur EX w' cb a n c x:=
 ⟨(US (a:=(Ub cb)) hb).trans h.1,(US (a:=(Ua cb 1)) hb).trans h.2.1,(UT (a:=(Ua cb 1)) hb).trans h.2.2.1,fun i hi=>⟨(US (a:=(Ua cb i)) hb).trans (h.2.2.2 i hi).1,(UT (a:=(Ua cb i)) hb).trans (h.2.2.2 i hi).2⟩⟩
theorem QdZ(h:w.grownBy w1 Up)(v:Value):w.grownBy (w1.setCell (Ua cb i) v) (Uq cb):=by
 refine⟨h.os,h.tape,h.output,?_,fun k hk hne=> ?_⟩
 ·have:=h.size;simpa [UL] using this
 ·exact(zH _ _ _ _ (fun e=>hne (by rw [e]))).trans (h.block k hk oP)
theorem Qb1 (w:Ur)(n:Nat)(row:Option Nat):w.grownBy (w.drewN n) row:=⟨rfl,rfl,rfl,Uv _,fun _ _ _=>rfl⟩
theorem QdL{a:Ur}(h:Below B a w)(n:Nat):Below B a (w.drewN n):=⟨h.os,h.tape,h.output,h.size,h.block⟩
theorem Qno (cb b off n c p:Nat)(z:Int)(w:Ur)(hn:n<=1048576)(hcur:Cur EX w cb (Uq (Ua b off)) n c (p:Int))(hp:p<n)(hc:w.cell? (Ua b (off+p))=Uq (Ug .u8 z)):
  Cl 212 #[Uk (Uc cb)] w fun e w'=>e=Ui (Ul #[Ug .u8 z,.nilIface])/\ Cur EX w' cb (Uq (Ua b off)) n c ((p+1:Nat):Int)/\ w.grownBy w' (Uq cb):=by
 have j:=hid hcur;obtain⟨u,v,y,_⟩:=hcur;have m:decide ((p:Int)<0)=false:=oP;have k:decide ((n:Int)<=(p:Int))=false:=oS;have q:(0:Int)<=(p:Int):=Int.natCast_nonneg _;have r:(p:Int)<(n:Int):=oM;go_enter func212,ntmps212;go_wp2_with fail;go_quiet (fail);go_wp2_with fail;go_quiet (fail);go_wp2_with fail;go_ret2;refine⟨rfl,?_,?_⟩
 ·first|exact j.set _|(simp;exact j.set _)
 ·first|exact QdZ (Qb1 _ _ _) _|(simp;exact QdZ (Qb1 _ _ _) _)
theorem Qqx (z j:Nat)(w:Ur)(hz:z<256)(h9:9<=j ->z<=1)(h0:0<j ->0<z)(hj:j<=9):
  Cl 213 #[Ug .u8 (z:Int),Ud (j:Int)] w fun e w'=>e=Ui .nilIface/\ w'=w:=by
 by_cases m:9<=j
 ·have r:=h9 m;have q:=h0 oM;clear h9 h0;go_enter func213,ntmps213;go_wp2_with fail;go_ret;exact⟨rfl,rfl⟩
 ·by_cases k:0<j
  ·have q:=h0 k;clear h9 h0;go_enter func213,ntmps213;go_wp2_with fail;go_ret;exact⟨rfl,rfl⟩
  ·clear h9 h0;go_enter func213,ntmps213;go_wp2_with fail;go_ret;exact⟨rfl,rfl⟩
theorem Qan(h1:w.grownBy w1 (Uq cb))(h2:w1.grownBy w2 (Uq cb)):w.grownBy w2 (Uq cb):=
 h1.andThen h2 (fun j hj=> .inr hj)
theorem Qa7(h1:w.grownBy w1 (Uq cb))(h2:Bl w1 w2):w.grownBy w2 (Uq cb):=
 Qan h1 ⟨h2.os,h2.tape,h2.output,h2.size,fun k hk _=>h2.block k hk⟩
theorem Qbe (w:Ur)(row:Option Nat):w.grownBy w row:=⟨rfl,rfl,rfl,Uv _,fun _ _ _=>rfl⟩
theorem Qmr (z:Nat)(h:z<256):bits BinOp.and IntKind.u8 (z:Int) 127=((z%128:Nat):Int):=by
 have:=u8_and_nat z 127 oM oM;rw [show (127:Nat)=2^7 - 1 from rfl,Nat.and_two_pow_sub_one_eq_mod] at this;exact this
theorem Qpa (x y j:Nat)(hx:x<128^j)(h:x+y*128^j<18446744073709551616):bits BinOp.or IntKind.u64 (x:Int) ((y*128^j:Nat):Int)=((x+y*128^j:Nat):Int):=by
 have e:=u64_or_nat x (y*128^j) oM oM;have m:x|||(y*128^j)=x+y*128^j:=by
  have k:128^j=2^(7*j):=by rw [Nat.pow_mul]
  rw [k] at hx ⊢;have:=Nat.two_pow_add_eq_or_of_lt (i:=7*j) (b:=x) hx y;rw [Nat.or_comm,Nat.mul_comm y];omega
 rw [m] at e;exact e
theorem Qlk (x z j:Nat)(hz:z<256)(hx:x<128^j)(h:x+z%128*128^j<18446744073709551616):
  bits BinOp.or IntKind.u64 (x:Int) (IntKind.u64.wrap (IntKind.u64.wrap (bits BinOp.and IntKind.u8 (z:Int) 127)*2^(7*j)))=((x+z%128*128^j:Nat):Int):=by
 have k:((2:Int)^(7*j))=((128^j:Nat):Int):=by
  rw [Int.pow_mul];push_cast;rfl
 have m:IntKind.u64.wrap ((z%128:Nat):Int)=((z%128:Nat):Int):=by rw [UU];omega
 have r:((z%128:Nat):Int)*((128^j:Nat):Int)=((z%128*128^j:Nat):Int):=by push_cast;rfl
 have u:IntKind.u64.wrap ((z%128*128^j:Nat):Int)=((z%128*128^j:Nat):Int):=by
  obtain⟨q,v⟩:∃q:Nat,q=z%128*128^j:=⟨_,rfl⟩;rw [<- v] at h ⊢;rw [UU];omega
 rw [Qmr z hz,k,m,r,u];exact Qpa x (z%128) j hx h
def At (f:Nat ->Int)(p:Nat)(U:List Int):Prop:=∀i,i<U.length ->f (p+i)=U.getD i 0
theorem At.tail(h:At f p (z::U)):At f (p+1) U:=by
 intro i hi;have:=h (i+1) oS;rw [show p+1+i=p+(i+1) from by omega,this];simp
theorem At.head(h:At f p (z::U)):f p=z:=by simpa using h 0 oP
theorem QcV(h:i<U.length):(U++W).getD i 0=U.getD i 0:=by
 simp [UA,h,List.getElem?_append_left]
theorem At.app:At f x (U++W)↔At f x U/\ At f (x+U.length) W:=by
 constructor
 ·intro h;refine⟨fun i hi=> ?_,fun i hi=> ?_⟩
  ·have:=h i oS;rw [this,QcV hi]
  ·have:=h (U.length+i) oS;rw [UQ,this];simp [UA,UV]
 ·rintro⟨k,m⟩ i hi;by_cases j:i<U.length
  ·rw [k i j,QcV j]
  ·have:=m (i - U.length) (by simp at hi;omega);rw [show x+U.length+(i - U.length)=x+i from by omega] at this;rw [this];simp [UA,UV (show U.length<=i by omega)]
theorem Seg.grown(h:Seg w a n f)(g:w.grownBy w1 (Uq cb))(hab:∀y,a=Uq y ->y.block≠cb):Seg w1 a n f:=by
 rcases h with h|⟨b,off,rfl,j,k⟩
 ·exact .inl h
 ·refine .inr ⟨b,off,rfl,Ut j g.size,fun i hi=> ?_⟩;rw [US (g.block b j (by have:=hab _ rfl;simpa using this))];exact k i hi
def Qdg (f:Nat ->Int)(p L:Nat):ByteArray:=⟨((UW L).map fun i=>UInt8.ofNat (f (p+i)).toNat).toArray⟩
theorem Qe0{off L cap:Nat}(hf:Byt f)(hc:∀i,i<L ->w.cell? (Ua b (off+p+i))=Uq (Ug .u8 (f (p+i)))):
  (convert 22 9 (Uf (Uq (Ua b (off+p))) L cap)).run prog w=.ok (Um (Qdg f p L)) w:=by
 have r:((UW L).map fun i=>UInt8.ofNat (f (p+i)).toNat).length=L:=oP;have:=run_convert_bytes_back (P:=prog) w 22 9 5 (Ua b (off+p)) cap ((UW L).map fun i=>UInt8.ofNat (f (p+i)).toNat) underlying22 underlying5 underlying9 (fun j hj=>by
  have q:j<L:=oU hj;have e:(Addr.add (Ua b (off+p)) j)=(Ua b (off+p+j)):=by
   by_cases k:j=0
   ·subst k;simp [Addr.add]
   ·simp [Addr.add,k]
  rw [e,hc j q];have:=hf (p+j);simp only [List.getElem_map,List.getElem_range,Option.some.injEq,Value.int.injEq,true_and];have m:(UInt8.ofNat (f (p+j)).toNat).toNat=(f (p+j)).toNat%256:=oP;rw [m];omega)
 rw [r] at this;exact this
theorem Qe1(ad:Us)(p cap:Nat)(f:Nat ->Int):(convert 22 9 (Uf (Uq ad) 0 cap)).run prog w=.ok (Um (Qdg f p 0)) w:=
 run_convert_bytes_back (P:=prog) w 22 9 5 ad cap [] underlying22 underlying5 underlying9 (fun j hj=>by simp at hj)
theorem QiO(hf:Byt f)(i:Nat):((UInt8.ofNat (f i).toNat).toNat:Int)=f i:=by
 have:=hf i;have h:(UInt8.ofNat (f i).toNat).toNat=(f i).toNat:=oS;rw [h];omega
theorem Qcn(hf:Byt f)(p L:Nat):Qa2 (Qdg f p L)=(UW L).map fun i=>f (p+i):=by
 unfold Qa2 Qdg;simp only [List.map_map];apply List.map_congr_left;intro i _;exact QiO hf (p+i)
theorem Qd3:∀{a b:List UInt8},(a.map fun x=>(x.toNat:Int))=(b.map fun x=>(x.toNat:Int)) ->a=b
 | [],[],_=>rfl
 | [],_::_,h=>by simp at h
 | _::_,[],h=>by simp at h
 | x::a,y::b,h=>by
  simp only [List.map_cons,List.cons.injEq] at h;have e:x=y:=UInt8.toNat_inj.1 (Int.ofNat.inj h.1);rw [e,Qd3 h.2]
theorem Qhw {s t:ByteArray}(h:Qa2 s=Qa2 t):s=t:=by
 obtain⟨⟨s⟩⟩:=s;obtain⟨⟨t⟩⟩:=t;have e:s=t:=Qd3 h;rw [e]
theorem QjY(hf:Byt f){s:ByteArray}(h:At f p (Qa2 s)):Qdg f p s.size=s:=by
 apply Qhw;rw [Qcn hf];apply List.ext_getElem?;intro i;by_cases hi:i<s.size
 ·have:=h i (by rw [Qas];exact hi);have j:i<(Qa2 s).length:=by rw [Qas];exact hi
  simp [hi,j,this,UA]
 ·have j:(Qa2 s).length<=i:=by rw [Qas];omega
  rw [UX j,UX oS]
theorem Bx2.sm(h:Bx2 w b v0 v1)(e:w'.heap[b]? =w.heap[b]?)(hs:w.heap.size<=w'.heap.size):Bx2 w' b v0 v1:=
 ⟨(US (a:=(Ub b)) e).trans h.c0,(US (a:=(Ua b 1)) e).trans h.c1,fun i=>(UT (a:=(Ua b i)) e).trans (h.f i),Ut h.lt hs⟩
def Rb (f:Nat ->Int)(n x:Nat)(U:List Int)(x':Nat):Prop:=At f x U/\ x'=x+U.length/\ x'<=n
theorem Rb.app(h:Rb f n x (U++W) x'):∃y,Rb f n x U y/\ Rb f n y W x':=by
 obtain⟨j,k,m⟩:=h;rw [At.app] at j;rw [UB] at k;exact⟨_,⟨j.1,rfl,oM⟩,j.2,oM,m⟩
theorem Rb.cons(h:Rb f n x (z::U) x'):f x=z/\ x<n/\ Rb f n (x+1) U x':=by
 obtain⟨j,k,m⟩:=h;rw [List.length_cons] at k;exact⟨j.head,oM,j.tail,oM,m⟩
theorem Rb.nil(h:Rb f n x [] x'):x'=x:=h.2.1
structure Cu (EX:Nat ->Option Value)(w:Ur)(cb:Nat)(a:Option Us)(n c:Nat)(f:Nat ->Int)(x:Nat):Prop where
 cur:Cur EX w cb a n c (x:Int)
 seg:Seg w a n f
 ab:∀y,a=Uq y ->y.block≠cb
 hn:n<=1048576
 nc:n<=c
 cc:c<=9223372036854775807
 byt:Byt f
section
variable {w w' : Ur} {cb n c x x' : Nat} {a : Option Us} {f : Nat -> Int} {v : Value}
theorem Cu.mv (h:Cu EX w cb a n c f x)(g:w.grownBy w' (Uq cb))(k:Cur EX w' cb a n c (x':Int)):Cu EX w' cb a n c f x':=⟨k,h.seg.grown g h.ab,h.ab,h.hn,h.nc,h.cc,h.byt⟩
theorem Cu.bw (h:Cu EX w cb a n c f x)(hb:Bl w w'):Cu EX w' cb a n c f x:=⟨h.cur.bw hb h.cur.lt,h.seg.bw hb,h.ab,h.hn,h.nc,h.cc,h.byt⟩
theorem Cu.lt (h:Cu EX w cb a n c f x):cb<w.heap.size:=h.cur.lt
def CuP (EX:Nat ->Option Value)(w:Ur)(cb:Nat)(a:Option Us)(n c:Nat)(f:Nat ->Int)(x':Nat)(v:Value)(e:Ending)(w':Ur):Prop:=e=Ui v/\ w.grownBy w' (Uq cb)/\ Cu EX w' cb a n c f x'
theorem QoR (h:Cu EX w cb a n c f x)(hx:x<n):Cl 212 #[Uk (Uc cb)] w fun e w'=>CuP EX w cb a n c f (x+1) (Ul #[Ug .u8 (f x),.nilIface]) e w':=by
 rcases h.seg with k|⟨b,off,rfl,m,j⟩
 ·omega
 exact(Qno cb b off n c x (f x) w h.hn h.cur hx (j x hx)).mono fun e w' ⟨h1,cu,g⟩=>⟨h1,g,h.mv g cu⟩
end
theorem Qpb {j acc:Nat}(hV:V<18446744073709551616)(e:V=acc+m*128^j)(h9:9<=j):m<=1:=by
 have k:128^9<=128^j:=Nat.pow_le_pow_right oM h9;rcases Nat.lt_or_ge 1 m with h|h
 ·have q:2*128^9<=m*128^j:=Nat.mul_le_mul h k;have r:(128:Nat)^9=9223372036854775808:=oD;omega
 ·exact h
theorem uvC(h:Cu EX w cb a n c f x)(hV:V<18446744073709551616)(g:Rb f n x (uvF 9 V) x'):
  Cl 187 #[Uk (Uc cb)] w fun e w'=>CuP EX w cb a n c f x' (Ul #[Ug .u64 (V:Int),.nilIface]) e w':=by
 have F:=hid h;have R:=hid g;obtain⟨k0,k1,k2,_⟩:=h.cur;clear h g;go_enter func187,ntmps187;go_wp2_with fail;go_loopw [5,6] (fun v i wr=>∃(j k m q y:Nat),j+k=9/\ y=x+j/\ i=Ud (j:Int)/\ v=Ug .u64 (q:Int)/\ Hid (V=q+m*128^j/\ q<128^j/\ m<128^(k+1)/\ (0<j ->0<m)/\ Rb f n y (uvF k m) x')/\ Hid (Cu EX wr cb a n c f y)/\ Hid (w.grownBy wr (Uq cb))) (fun _ i _=>9 - (intOf i).toNat);case atStart=>exact⟨0,9,V,0,x,rfl,rfl,rfl,rfl,hid ⟨oP,oP,oS,oM,R⟩,F,hid (Qbe _ _)⟩
 case round=>
  clear k0 k1 k2;obtain⟨j,k,m,q,y,Hg,hy,rfl,rfl,Y,Ha,Hb⟩:=hrel;obtain⟨A,E,M,D,t⟩:=Y.out;obtain⟨z,o,C,Hc⟩:∃z:Nat,(f y=(z:Int)/\ y<n)/\ z<256/\ ((z<128/\ z=m/\ x'=y+1) \/(128<=z/\ z%128=m%128/\ 128<=m/\∃r,k=r+1/\ Rb f n (y+1) (uvF r (m/128)) x')):=by
   by_cases s:m<128
   ·rw [Qe4 _ _ s] at t;obtain⟨O,Q,U⟩:=t.cons;exact⟨m,⟨O,Q⟩,oM,.inl ⟨s,rfl,U.nil⟩⟩
   ·cases k with
    | zero=>simp at M;omega
    | succ r=>
     rw [Qe3 _ _ s] at t;obtain⟨O,Q,U⟩:=t.cons;exact⟨128+m%128,⟨O,Q⟩,oM,.inr ⟨oM,oM,oM,r,rfl,U⟩⟩
  have p:9<=j ->m<=1:=fun h=>Qpb hV A h;have b:=hid (QoR Ha o.2);rw [o.1] at b;have L:=hid (Qlk q z j C E (by
   have W:z%128<=m:=oM;have:=UR (128^j) W;omega))
  have G:=hid (fun w=>Qqx z j w C (fun h=>oH (p h)) (fun h=>oH (D h)) oM);have Z:=hid (And.intro A (And.intro E (And.intro M p)));have Hf:j<=9:=oM;clear A E M D t p Y;go_wp2_with fail;refine b.mono ?_;rintro e w1 ⟨rfl,I,H⟩;have J:=hid H;have K:=hid (Qan Hb I);clear H I b;rcases Hc with ⟨X,rfl,N⟩|⟨X,B,Hd,r,rfl,g⟩
  ·have T:=hid N;have u:Hid (q+z%128*128^j=V):=hid (by rw [Nat.mod_eq_of_lt X];exact Z.1.symm);clear N o;go_wp2_with fail;refine(G _).mono ?_;rintro e w2 ⟨rfl,rfl⟩;go_wp2_with fail;go_ret2;refine⟨?_,K,by rw [T.out];exact J⟩;rw [<- u.out,<- L.out];rfl
  ·have S:=hid g;have u:Hid (V=(q+z%128*128^j)+m/128*128^(j+1)/\ q+z%128*128^j<128^(j+1)/\ m/128<128^(r+1)):=hid (by
    obtain⟨q1,q2,q3,_⟩:=Z.out;refine⟨?_,?_,?_⟩
    ·rw [B,q1,Uu,UQ,Nat.mul_comm (128^j) 128,<- Nat.mul_assoc,<- Nat.add_mul];congr 2;omega
    ·rw [Uu];have:=UR (128^j) (show z%128<=127 by omega);omega
    ·rw [Uu] at q3;omega)
   have P:Hid (0<m/128):=hid oM;have He:j<=8:=oM;clear g o B Hd;go_wp2_with fail;refine(G _).mono ?_;rintro e w2 ⟨rfl,rfl⟩;go_wp2_with fail;exact⟨⟨j+1,r,m/128,q+z%128*128^j,y+1,oM,oM,oN,by rw [L.out],hid ⟨u.1,u.2.1,u.2.2,fun _=>P.out,S⟩,J,K⟩,oE⟩
theorem QbN{most:Int}(h:Cu EX w cb a n c f x)(hV:(V:Int)<=most)(hm:most<=1000000000000)(hR:Rb f n x (uvF 9 V) x'):
  Cl 155 #[Uk (Uc cb),Ud most] w fun e w'=>CuP EX w cb a n c f x' (Ul #[Ud (V:Int),.nilIface]) e w':=by
 have j:=hid (uvC h oM hR);have z:IntKind.u64.wrap most=most:=by rw [UU];omega
 have v:decide (most<0)=false:=oS;have y:decide (most<(V:Int))=false:=oU hV;have u:IntKind.i64.wrap (V:Int)=(V:Int):=by rw [IntKind.wrap_i64];omega
 clear h hR;go_enter func155,ntmps155;go_wp2_with fail;refine j.mono ?_;rintro e w1 ⟨rfl,m,k⟩;have r:=hid m;have q:=hid k;clear m k j;go_wp2_with fail;go_ret2;exact⟨by first|rfl|rw [u],r,q⟩
theorem Qar {P:Program}{ops:Array Oper}{rest:List Oper}{o:Oper}{a:Act}{Q:Exit ->Act ->Ur ->Prop}(hgd:o.guard=Up)(s x:Operand)(t:TypeId)
  (ho:o.op=.call {callee:=.builtin .append,args:=#[s,x],argTypes:=#[t,t]})
  (base:Nat) (e:TypeId) (i:TypeInfo) (z:Value) (size bytes:Nat) (ht:P.underlying t=Uq (.slice e)) (hi:P.info? e=Uq i) (hz:i.zero=Uq z)
  (hsize:i.size=size) (hby:i.bytes=bytes) (hzs:z.cells.size=size) (hsz:0<size)
  (v:Value) (n:Nat) (xs:List Value) (hs:a.eval s=v) (hown:w.ownsRow base e size v n xs)
  (ad:Us) (m c:Nat) (news:List Value) (hx:a.eval x=Uf (Uq ad) m c) (hl:news.length=m*size) (hnews:∀j u,news[j]? =Uq u ->w.cell? (ad.add j)=Uq u) (h1:∀u∈news,u.oneCell'=true)
  (h63:n+m<=maxLen) (hbytes:(n+m)*bytes<=140737488355328) (hbase:base<=w.heap.size)
  (h:∀v' w',w'.ownsRow base e size v' (n+m) (xs++news) ->w.grownBy w' v.ownBlock ->(v'.ownBlock=v.ownBlock \/v'.ownBlock=Uq w.heap.size) ->wpList P ops Q rest (a.put o.dst v') w'):wpList P ops Q (o::rest) a w:=
 wpList_plain hgd fun _ hK=>Qdf s x t ho base e i z size bytes ht hi hz hsize hby hzs hsz v n xs hs hown ad m c news hx hl hnews h1 h63 hbytes hbase fun v' w' h2 h3 h4=>hK _ _ (h v' w' h2 h3 h4)
structure Gr (w w':Ur)(b0 b:Value):Prop where
 g:w.grownBy w' b0.ownBlock
 l:b.ownBlock=b0.ownBlock \/∃k,b.ownBlock=Uq k/\ w.heap.size<=k
theorem Gr.refl (w:Ur)(b:Value):Gr w w b b:=⟨⟨rfl,rfl,rfl,Uv _,fun _ _ _=>rfl⟩,.inl rfl⟩
theorem Gr.trans{b1 b2:Value}(h1:Gr w w1 b0 b1)(h2:Gr w1 w2 b1 b2):Gr w w2 b0 b2:=by
 refine⟨h1.g.andThen h2.g (fun j hj=> ?_),?_⟩
 ·rcases h1.l with e|⟨k,e,m⟩
  ·exact .inr (e▸hj)
  ·rw [e] at hj;injection hj with hj;exact .inl oM
 ·rcases h2.l with e|⟨k,e,m⟩
  ·rw [e];exact h1.l
  ·exact .inr ⟨k,e,Nat.le_trans h1.g.size m⟩
theorem Gr.alloc{b:Value}(h:Gr w w1 b0 b)(o:Obj):Gr w (w1.alloc o) b0 b:=
 h.trans ⟨World.grownBy_alloc w1 o _,.inl rfl⟩
theorem Gr.app{b:Value}(h:w.grownBy w1 b.ownBlock)(hl:b'.ownBlock=b.ownBlock \/b'.ownBlock=Uq w.heap.size):Gr w w1 b b':=
 ⟨h,hl.imp id (fun e=>⟨_,e,Uv _⟩)⟩
theorem Gr.bw{b:Value}(h:Gr w w1 b b')(hB:B<=w.heap.size)(hb:∀k,b.ownBlock=Uq k ->B<=k):Below B w w1:=
 (Below.refl B w).grown h.g hB hb
theorem Gr.of_below{b:Value}(h:Bl w w1):Gr w w1 b b:=
 ⟨⟨h.os,h.tape,h.output,h.size,fun k hk _=>h.block k hk⟩,.inl rfl⟩
theorem QaU (B m0:Nat)(bv:Value)(zs0:List Int)(w:Ur)(hm:m0<18446744073709551616)(hB:B<=w.heap.size)(hl:zs0.length<=1000000000000)(ho:Own w B bv zs0):
  Cl 101 #[bv,Ug .u64 (m0:Int)] w fun e w'=>∃v,e=Ui v/\ Own w' B v (zs0++uvF 9 m0)/\ Gr w w' bv v/\ w.heap.size<w'.heap.size:=by
 obtain⟨Z,hi,U,V,Y⟩:=info_parts Tryz.infoByte;go_enter func101,ntmps101;go_wp2_with fail;go_loopw [0,1] (fun b v wr=>∃(k m:Nat) (r:List Int),k<=9/\ m<128^(k+1)/\ m<18446744073709551616/\ v=Ug .u64 (m:Int)/\ Own wr B b r/\ Gr w wr bv b/\ w.heap.size<=wr.heap.size/\ r.length+k<=zs0.length+9/\ r++uvF k m=zs0++uvF 9 m0) (fun _ v _=>(intOf v).toNat);case atStart=>exact⟨9,m0,zs0,Uv _,oM,hm,rfl,ho,Gr.refl _ _,Uv _,Uv _,rfl⟩
 case round=>
  obtain⟨k,m,r,L,Q,K,rfl,z,E,C,X,M⟩:=hrel;have i:Hid (r++uvF k m=zs0++uvF 9 m0):=M;have p:Hid (m<128^(k+1)):=Q;have o:=hid E;clear M ho Q E;unfold Own at z;by_cases O:m<128
  ·go_wp2_with (at_builtin;refine Qar rfl _ _ 22 rfl B 5 Z (Ug .u8 0) 1 1 underlying22 hi U V Y rfl oD _ _ _ rfl (z.alloc _) (Ub wr.heap.size) 1 1 [Ug .u8 (m:Int)] rfl rfl ?c1 ?c2 ?c3 ?c4 ?c5 ?_);case c1=>exact cell_one_new _ _ _
   case c2=>intro u t;simp at t;subst t;rfl
   case c3=>unfold maxLen;omega
   case c4=>omega
   case c5=>simp;omega
   ·intro v' w1 g q y;have R:Own w1 B v' (zs0++uvF 9 m0):=by
     rw [<- i.out,Qe4 k m O];unfold Own;rw [UB,UC];exact g
    have s:=hid ((o.alloc _).trans (Gr.app (b':=v') q (oU y)));have A:=q.size;simp at A;clear g q z y o;go_wp2;go_ret;exact⟨v',rfl,R,s,oM⟩
  ·have I:=Ql3 m K;have J:bits BinOp.or IntKind.u8 ((m:Int)%128) 128=128+(m:Int)%128:=by
    have:=QoZ (m%128) oM;simpa using this
   go_wp2_with (at_builtin;refine Qar rfl _ _ 22 rfl B 5 Z (Ug .u8 0) 1 1 underlying22 hi U V Y rfl oD _ _ _ rfl (z.alloc _) (Ub wr.heap.size) 1 1 [Ug .u8 (128+(m:Int)%128)] rfl rfl ?d1 ?d2 ?d3 ?d4 ?d5 ?_);case d1=>exact cell_one_new _ _ _
   case d2=>intro u t;simp at t;subst t;rfl
   case d3=>unfold maxLen;omega
   case d4=>omega
   case d5=>simp;omega
   ·intro v' w1 g q y;have N:1<=k:=by
     have:=p.out;rcases Nat.eq_zero_or_pos k with rfl|h
     ·simp at this;omega
     ·exact h
    obtain⟨j,rfl⟩:∃j,k=j+1:=⟨k - 1,oM⟩;have R:Own w1 B v' (r++[128+(m:Int)%128]):=by
     unfold Own;rw [UB,UC];exact g
    have G:Hid (r++[128+(m:Int)%128]++uvF j (m/128)=zs0++uvF 9 m0):=by
     have:=i.out;rw [Qe3 j m O] at this;show _=_;rw [<- this];simp
    have H:Hid (m/128<128^(j+1)):=by
     have:=p.out;rw [Uu] at this;show _<_;omega
    have s:=hid ((o.alloc _).trans (Gr.app (b':=v') q (oU y)));have A:=q.size;simp at A;clear g q z i p J I y o;go_wp2;go_roundw;case rel=>exact⟨j,m/128,_,oM,H,oM,oN,R,s,oM,oS,G⟩
    case measure=>exact oE
def sF (l:List (Int×Int))(i:Nat):Int:=(l.getD i (0,0)).1
def sT (l:List (Int×Int))(i:Nat):Int:=(l.getD i (0,0)).2
def loK (l:List (Int×Int)):Nat ->Int
 | 0=>1
 | k+1=>sT l k+2
def spK (l:List (Int×Int)):Nat ->List Int
 | 0=>[]
 | k+1=>spK l k++(uvF 9 (sF l k - loK l k).toNat++uvF 9 (sT l k - sF l k).toNat)
def Qko (l:List (Int×Int)):List Int:=uvF 9 l.length++spK l l.length
theorem Qex (l:List (Int×Int)):∀k,(spK l k).length<=20*k
 | 0=>by simp [spK]
 | k+1=>by
  have:=Qex l k;have j:=(Qah 9 (sF l k - loK l k).toNat).1;have m:=(Qah 9 (sT l k - sF l k).toNat).1;simp only [spK,UB];omega
theorem Qk9 (l:List (Int×Int)):(Qko l).length<=10+20*l.length:=by
 have j:=(Qah 9 l.length).1;have:=Qex l l.length;simp only [Qko,UB];omega
theorem Qmd(h:Srt l){k:Nat}(hk:k<l.length):1<=loK l k/\ loK l k<=sF l k/\ sF l k<=sT l k/\ sT l k<=1000000000:=by
 have e:l.getD k (0,0)=l[k]:=by simp [UA,hk]
 have j:=h.2 _ (UG hk);rw [<- e] at j;have m:loK l k<=sF l k/\ 1<=loK l k:=by
  cases k with
  | zero=>exact⟨j.1,Int.le_refl _⟩
  | succ k=>
   have u:=Qht h (show k<k+1 by omega) hk;have q:l.getD k (0,0)=l[k]:=(by simp [UA,show k<l.length by omega]);have r:=h.2 _ (UG (show k<l.length by omega));rw [<- q] at r;show (l.getD k (0,0)).2+2<=(l.getD (k+1) (0,0)).1/\ 1<=(l.getD k (0,0)).2+2;exact⟨oM,oM⟩
 exact⟨m.2,m.1,j.2.1,j.2.2⟩
theorem Qe8 (x:Int)(h0:0<=x)(h1:x<=1000000000):IntKind.u64.wrap x=x:=by
 unfold IntKind.wrap;simp [IntKind.bits,IntKind.signed];omega
theorem QgG (B:Nat)(bv:Value)(zs0:List Int)(a:Option Us)(c:Nat)(l:List (Int×Int))(w:Ur)(hB:B<=w.heap.size)(hl:zs0.length<=100000000)(ho:Own w B bv zs0)
  (hs:SS w a l.length (sF l) (sT l)) (hne:∀x,a=Uq x ->Uq x.block≠bv.ownBlock) (hok:Srt l) (hn:l.length<=1000):
  Cl 106 #[bv,Uf a l.length c] w fun e w'=>∃v,e=Ui v/\ Own w' B v (zs0++Qko l)/\ Gr w w' bv v:=by
 obtain⟨n,U⟩:=zE l.length;have H:Hid (Qko l=uvF 9 n++spK l n):=by unfold Qko;rw [U];exact rfl
 rw [U] at hs hn ⊢;have Hb:Hid (∀k,k<n ->1<=loK l k/\ loK l k<=sF l k/\ sF l k<=sT l k/\ sT l k<=1000000000):=fun k hk=>Qmd hok oM;have HU:=Qah 9 n;have HS:=Qex l;clear hok U;go_enter func106,ntmps106;go_wp2_with fail;refine(QaU B n bv zs0 w oM hB oM ho).mono ?_;rintro e w1 ⟨v1,rfl,V,O,Hj⟩;have Z:=hid O;rcases hs with h0|⟨b,off,rfl,hb,L⟩
 ·subst h0;clear O;go_wp2_with fail;refine wp_loop_rounds 1 ?_;rw [rounds_succ];go_wp2_with fail;go_ret;exact⟨v1,rfl,by rw [H.out];simpa [spK] using V,Z⟩
 have C:=hne _ rfl;have N:Hid (∀i,i<n ->w.cell? (Ua b (off+i*2))=Uq (Ud (sF l i))/\ w.cell? (Ua b (off+i*2+1))=Uq (Ud (sT l i))):=L;have Hd:=hid V;clear O L V hne ho;go_wp2_with fail;go_loopw [0,5,15] (fun b' lo i wr=>∃(k:Nat) (z:List Int),k<=n/\ i=Ud k/\ lo=Ud (loK l k)/\ Own wr B b' z/\ Hid (z=zs0++uvF 9 n++spK l k)/\ Hid (Gr w wr bv b')/\ w.heap.size<=wr.heap.size/\ z.length<=100000000+10+20*k) (fun _ _ i _=>n - (intOf i).toNat);case atStart=>exact⟨0,_,Nat.zero_le _,rfl,rfl,Hd,hid (by simp [spK]),Z,oM,oS⟩
 case round=>
  obtain⟨k,z,hk,rfl,rfl,o,P,s,Hi,Hh⟩:=hrel;by_cases A:k<n
  ·have Hg:wr.cell? (Ua b (off+k*2))=Uq (Ud (sF l k)):=s.g.cell (N k A).1 C;have Ha:wr.cell? (Ua b (off+k*2+1))=Uq (Ud (sT l k)):=s.g.cell (N k A).2 C;obtain⟨q1,q2,q3,q4⟩:=Hb k A;obtain⟨y,q⟩:=zE (wr.alloc (Uj #[Ud (sF l k),Ud (sT l k)] 226));have zW:y.heap.size=wr.heap.size+1:=q▸oP;have R:y.cell? (Ub wr.heap.size)=Uq (Ud (sF l k)):=q▸oP;have S:y.cell? (Ua wr.heap.size 1)=Uq (Ud (sT l k)):=q▸oP;have K:Own y B u0 z:=q▸World.ownsRow.alloc o _;have Y:Hid (Gr w y bv u0):=q▸s.alloc _;have Q:Uq wr.heap.size≠u0.ownBlock:=fun e=>by have:=(World.ownsRow.lt o _ e.symm).2;omega
   obtain⟨r,E⟩:∃m:Nat,sF l k - loK l k=(m:Int):=⟨(sF l k - loK l k).toNat,oM⟩;obtain⟨u,M⟩:∃m:Nat,sT l k - sF l k=(m:Int):=⟨(sT l k - sF l k).toNat,oM⟩;have x1:IntKind.i64.wrap (sF l k - loK l k)=(r:Int):=(by rw [E];exact Qat _ oM oM);have x2:IntKind.i64.wrap (sT l k - sF l k)=(u:Int):=(by rw [M];exact Qat _ oM oM);have x3:IntKind.u64.wrap (r:Int)=(r:Int):=Qe8 _ oM oM;have x4:IntKind.u64.wrap (u:Int)=(u:Int):=Qe8 _ oM oM;have Hf:Hid (spK l (k+1)=spK l k++(uvF 9 r++uvF 9 u)):=(by show spK l k++_=_;rw [E,M];rfl);have y1:r<=1000000000:=oM;have y2:u<=1000000000:=oM;clear E M;have x5:IntKind.i64.wrap (sT l k+2)=sT l k+2:=Qat _ oM oM;have J:=hid K;clear K o;go_wp2_with fail;try rw [q]
   refine(QaU B r u0 z y oM oM oM J).mono ?_;rintro e w2 ⟨v2,rfl,D,t,Hk⟩;have T:=t.g.cell R Q;have W:=t.g.cell S Q;have l2:=(Qah 9 r).1;have l3:=(Qah 9 u).1;have X:Uq wr.heap.size≠v2.ownBlock:=fun e=>by
    rcases t.l with h|⟨j,h,hj⟩
    ·exact Q (e.trans h)
    ·rw [h] at e;injection e with e;omega
   have G:=hid (Y.trans t);have I:=hid D;clear q Hg Ha R S t D Y J;go_wp2_with fail;refine(QaU B u v2 _ w2 oM oM oS I).mono ?_;rintro e w3 ⟨v3,rfl,F,p,Hl⟩;have t0:=p.g.cell T X;have t1:=p.g.cell W X;have Hc:=hid (G.trans p);have He:=hid F;clear T W p F G I;go_wp2_with fail;go_roundw;case rel=>exact⟨k+1,_,A,oN,rfl,He,hid (by rw [Hf.out,P.out];simp),Hc,oM,oS⟩
   case measure=>exact oE
  ·obtain rfl:k=n:=oM;have HO:=hid o;clear o;go_wp2_with fail;go_ret;refine⟨u0,rfl,?_,s⟩;rw [H.out,<- List.append_assoc,<- P.out];exact HO
theorem Gr.drew{b:Value}(h:Gr w w1 b0 b):Gr w w1.drew b0 b:=h.trans ⟨⟨rfl,rfl,rfl,Uv _,fun _ _ _=>rfl⟩,.inl rfl⟩
def SR (w:Ur)(B:Nat)(v:Value)(l:List (Int×Int)):Prop:=w.ownsRow B 226 2 v l.length (Qak l)
theorem Qbt (l:List (Int×Int)):(Qak l).length=l.length*2:=by
 induction l with
 | nil=>rfl
 | cons a l ih=>simp [Qak] at*;omega
theorem Qm8 (w:Ur)(x y:Value)(t:TypeId):∀j u,[x,y][j]? =Uq u ->(w.alloc (Uj #[x,y] t)).cell? (((Ub w.heap.size):Us).add j)=Uq u:=by
 intro j u k;match j,k with
 | 0,k=>simp at k;subst k;simp [Addr.add]
 | 1,k=>simp at k;subst k;simp [Addr.add]
theorem Qa6 (w:Ur)(p:Us)(u:Value):w.grownBy (w.setCell p u) (Uq p.block):=
 ⟨rfl,rfl,rfl,by simp [UL],fun k hk hne=>zH _ _ _ _ (fun e=>hne (by rw [e]))⟩
structure QcK (w:Ur)(bm n:Nat)(D:DataW Value)(G:Int ->Value)(L:Int ->List (Int×Int)):Prop where
 own:w.ownsMap prog 3 Qc5 bm n D
 at':∀r,D.atKey (kI r) (.held Ue)=.held (G r)
 has':∀r,Maps.has D (kI r)= !(L r).isEmpty
 rows:∀r,w.ownsRow 0 226 2 (G r) (L r).length (Qak (L r))
theorem QdF(h:w.ownsRow B e s v n xs):w.ownsRow 0 e s v n xs:=by
 obtain⟨k,m⟩:=h;refine⟨k,m.imp id ?_⟩;rintro⟨g,cap,j,e,_,r⟩;exact⟨g,cap,j,e,Nat.zero_le _,r⟩
theorem QfH{D:DataW Value}(h:w.ownsRow B e s v m xs)(hm:w.ownsMap prog 3 Qc5 bm n D):v.ownBlock=Up \/v.ownBlock≠Uq bm:=by
 obtain⟨_,k⟩:=h;rcases k with ⟨rfl,_⟩|⟨g,cap,u,rfl,_,j,_⟩
 ·exact .inl rfl
 ·refine .inr (fun e=> ?_);obtain⟨y,r,q,_⟩:=hm;have e:g=bm:=by simpa [Value.ownBlock] using e
  rw [e,q] at j;cases j
theorem Qdc(h:w.ownsRow B e s v n xs)(hb:Bl w w1):w1.ownsRow B e s v n xs:=
 QeV h hb (fun k hk=>(h.lt k hk).2)
theorem Qdd(h:w.ownsRow B 226 2 v l.length (Qak l)):
  ∃a c,v=Uf a l.length c/\ SS w a l.length (sF l) (sT l)/\ l.length<=c/\ c<=9223372036854775807:=by
 rcases h.2 with ⟨e,j⟩|⟨g,cap,q,e,r,_,m,k,_⟩
 ·exact⟨Up,0,by rw [e,j],.inl j,oM,oM⟩
 ·exact⟨_,cap,e,by rw [e] at h;exact QjU h rfl,m,by unfold maxLen at k;omega⟩
theorem Qbs{size:Nat}(h:w.ownsRow B e size v n xs):∃y m c,v=Uf y m c:=by
 rcases h.2 with ⟨rfl,_⟩|⟨g,cap,j,rfl,_⟩
 ·exact⟨_,_,_,rfl⟩
 ·exact⟨_,_,_,rfl⟩
theorem QcK.gr{D:DataW Value}{G:Int ->Value}(h:QcK w bm n D G L){row:Option Nat}(hg:w.grownBy w1 row)(hr:Uq bm≠row)(hro:∀r g,(G r).ownBlock=Uq g ->Uq g≠row):QcK w1 bm n D G L:=
 ⟨h.own.kept hg hr,h.at',h.has',fun r=>(h.rows r).kept hg (by
  cases e:(G r).ownBlock with
  | none=>exact .inl rfl
  | some g=>exact .inr (hro r g e))⟩
theorem QcK.bw{D:DataW Value}{G:Int ->Value}(h:QcK w bm n D G L)(hb:Bl w w1):QcK w1 bm n D G L:=
 h.gr (row:=Up) ⟨hb.os,hb.tape,hb.output,hb.size,fun k hk _=>hb.block k hk⟩ oP oP
end Go.Proofs.YtmlmkaiibamabaaGreatDoor
