import Derived.Test.YtmlmkaiibamabaaGreatDoorRows
import Derived.WalkKit
import Derived.ProofKit
import Derived.OpenShut
import Derived.ShutString
import Derived.ChangeOld
import Derived.Below
import Derived.WalkLawsBesides
import Derived.WalkSpells
import Derived.Outline
import Derived.Deep.RegionHeld3
import Derived.Laws.BitsAllLaws
import Derived.Lib.AppendStr
import Derived.Laws.IdiomStrings
import Derived.Deep.QuietTactic
import Derived.BigQuiet
import Derived.Maps.Own
import Derived.Maps.OwnSet
import Derived.Maps.OwnOps
import Derived.Maps.AppendAt
import Derived.Maps.Views
import Derived.Laws.StructEq
import Derived.DeepKeys4
import Derived.Maps.Range
set_option linter.unusedVariables false
set_option linter.unusedSimpArgs false
set_option maxRecDepth 100000
set_option maxHeartbeats 40000000
namespace Go.Proofs.YtmlmkaiibamabaaGreatDoor
open Go.ChangeShapes Go.WideShapes Go.ChangeAt Go.RowKit Go.Proofs.Tryz
open Go.Value renaming slice → Uf, int → Ug, tuple → Ul, string → Um, bool → Un, agg → Uo
open Go.IntKind renaming i64 → Uh
open Go.Ending renaming returned → Ui
open Go.Obj renaming cells → Uj
open Option renaming none → Up, some → Uq
open Go renaming World → Ur, Addr → Us
open Nat renaming lt_of_lt_of_le → Ut, pow_succ → Uu, le_refl → Uv, le_trans → Uw, zero_le → Ux, add_sub_cancel → Uy, le_succ → Uz
open List renaming getD → UA, length_append → UB, map_append → UC, map_cons → UD, drop_eq_nil_of_le → UE, mem_singleton → UF, getElem_mem → UG
open _root_.Array renaming replicate → UH
open Int renaming natCast_nonneg → UI
open Go.World renaming cell?_setCell_far → UJ, frozen?_setCell → UK, setCell → UL, cell?_setCell_same → UM, cell?_setCell_other → UN, drewN_drewN → UO, ownsMap_made → UP
variable {B C b bm cap fuel g i j k n:Nat}{F R T:Nat ->Int}{L:Int ->List (Int×Int)}{P:Program}{a:Act}{e:TypeId}{f' r r' x:Int}{l:List (Int×Int)}{p q:List ByteArray}{s:ByteArray}{v v0 v1 v2 v3 v4:Value}{w w' w1 w2:Ur}{xs:List Value}{zs:List Int}
abbrev Ua (b o:Nat):Us:=⟨b,o,Up⟩
abbrev Ub (b:Nat):Us:=⟨b,0,Up⟩
abbrev Uc (b:Nat):Option Us:=Uq ⟨b,0,Up⟩
abbrev Ud (x:Int):Value:=Ug Uh x
abbrev Ue:Value:=Uf Up 0 0
abbrev Bl (w w':Ur):=Below w.heap.size w w'
abbrev Rt (w:Ur)(v:Value)(e:Ending)(w':Ur):Prop:=e=Ui v/\ Bl w w'
abbrev Cl:=@Calls prog
theorem zE {α:Type _}(a:α):∃b,a=b:=⟨a,rfl⟩
theorem oM {zQ:Prop}(h:zQ:=by omega):zQ:=h
theorem oS {zQ:Prop}(h:zQ:=by simp;omega):zQ:=h
theorem oP {zQ:Prop}(h:zQ:=by simp):zQ:=h
theorem oK {zQ:Prop}(h:zQ:=by kernel_rfl):zQ:=h
theorem oD {zQ:Prop}(h:zQ:=by decide):zQ:=h
theorem oL {zQ:Prop}(h:zQ:=by unfold maxLen;omega):zQ:=h
theorem oN {zQ:Prop}(h:zQ:=by go_num):zQ:=h
theorem oE {zQ:Prop}(h:zQ:=by simp [intOf];omega):zQ:=h
theorem oH {zQ zR:Prop}(x:Hid zR)(h:zR ->zQ:=by intro h;omega):zQ:=h x
theorem oJ {zQ zR zT:Prop}(x:Hid zR)(y:Hid zT)(h:zR ->zT ->zQ:=by intro h j;omega):zQ:=h x y
theorem oU {zQ zR:Prop}(x:zR)(h:zR ->zQ:=by intro h;first|simpa using h|(unfold Hid at h;simpa using h)):zQ:=h x
theorem oI {zQ zR:Prop}(x:Hid zR)(h:zR ->zQ:=by intro e;injection e with e;omega):zQ:=h x
theorem oQ {zQ:Prop}(h:zQ:=by first|omega|(dsimp only;omega)|(simp;omega)|simp):zQ:=h
def Ck (b:Value)(P:Prop):Prop:=(b=Un true/\ P) \/(b=Un false/\¬P)
theorem Ck.t {P:Prop}(h:P):Ck (Un true) P:=.inl ⟨rfl,h⟩
theorem Ck.f {P:Prop}(h:¬P):Ck (Un false) P:=.inr ⟨rfl,h⟩
theorem hid {p:Prop}(h:p):Hid p:=h
def I64 (f:Nat ->Int):Prop:=∀i, -9223372036854775808<=f i/\ f i<=9223372036854775807
def QaT (w:Ur)(a:Option Us)(n:Nat)(R F T:Nat ->Int):Prop:=
 n=0 \/∃b off,a=Uq (Ua b off)/\ b<w.heap.size/\∀i,i<n ->w.cell? (Ua b (off+i*3))=Uq (Ud (R i))/\ w.cell? (Ua b (off+i*3+1))=Uq (Ud (F i))/\ w.cell? (Ua b (off+i*3+2))=Uq (Ud (T i))
theorem QaT.kept{a:Option Us}(h:QaT w a n R F T)(hb:Below B w w1)(hc:∀x,a=Uq x ->x.block<B):QaT w1 a n R F T:=by
 rcases h with h|⟨b,off,rfl,u,r⟩
 ·exact .inl h
 ·have j:b<B:=hc (Ua b off) rfl;refine .inr ⟨b,off,rfl,Ut u hb.size,fun i hi=> ?_⟩;obtain⟨k,m,q⟩:=r i hi;exact⟨(hb.cell (p:=(Ua b _)) j).trans k,(hb.cell (p:=(Ua b _)) j).trans m,(hb.cell (p:=(Ua b _)) j).trans q⟩
theorem QaT.bw{a:Option Us}(h:QaT w a n R F T)(hb:Bl w w1):QaT w1 a n R F T:=by
 rcases h with h|⟨b,off,rfl,j,k⟩
 ·exact .inl h
 ·exact QaT.kept (.inr ⟨b,off,rfl,j,k⟩) hb (fun x hx=>by simp at hx;subst hx;exact j)
def QaF (r f t:Int):Bool:=decide (0<=r/\ r<8/\ 1<=f/\ f<=t/\ t<=1000000000)
def QaD (r t r' f':Int):Bool:=decide (r<r' \/(r=r'/\ t+1<f'))
theorem Qcw {f t:Int}(h:0<=r/\ r<8/\ 1<=f/\ f<=t/\ t<=1000000000):QaF r f t=true:=by unfold QaF;exact decide_eq_true h
theorem Qa4 {f t:Int}(h:¬(0<=r/\ r<8/\ 1<=f/\ f<=t/\ t<=1000000000)):QaF r f t=false:=by unfold QaF;exact decide_eq_false h
theorem Qbm {f t:Int}:QaF r f t=true↔(0<=r/\ r<8/\ 1<=f/\ f<=t/\ t<=1000000000):=by unfold QaF;simp
theorem QbU {a b:Bool}(h:a=b):Ending.returned (Un a)=Ui (Un b):=by rw [h]
theorem Qeu {k:IntKind}{a b:Int}(h:a=b):Ending.returned (.int k a)=Ui (.int k b):=by rw [h]
theorem Tryz.infoRun:(prog.info? 89).map (fun i=>(i.zero,i.size,i.bytes))=Uq (Uq (Uo #[Ud 0,Ud 0,Ud 0]),3,24):=oK
theorem Qc0 {W:Ur}(hb:Bl W w1):(∀b o,b<W.heap.size ->w1.cell? (Ua b o)=W.cell? (Ua b o))/\ (∀b o,b<W.heap.size ->w1.frozen? (Ua b o)=W.frozen? (Ua b o)):=
 ⟨fun b o h=>hb.cell (p:=(Ua b o)) h,fun b o h=>hb.frozen (p:=(Ua b o)) h⟩
theorem QeV{size:Nat}(h:w.ownsRow B e size v n xs)(hb:Below C w w1)(hc:∀k,v.ownBlock=Uq k ->k<C):w1.ownsRow B e size v n xs:=by
 obtain⟨q,j⟩:=h;refine⟨q,?_⟩;rcases j with j|⟨g,cap,m,rfl,u,y,r⟩
 ·exact .inl j
 ·exact .inr ⟨g,cap,m,rfl,u,by rw [hb.block g (hc g rfl)];exact y,r⟩
theorem QjI{size:Nat}(h:w.ownsRow B e size (Uf (Uc g) n cap) n xs)(j:Nat)(hj:j<n*size):∃u,w.cell? (Ua g j)=Uq u:=by
 rw [h.cellAt j hj];have:=h.1;exact⟨_,List.getElem?_eq_getElem oM⟩
def Seg (w:Ur)(a:Option Us)(n:Nat)(f:Nat ->Int):Prop:=
 n=0 \/∃b off,a=Uq (Ua b off)/\ b<w.heap.size/\∀i,i<n ->w.cell? (Ua b (off+i))=Uq (Ug .u8 (f i))
def Byt (f:Nat ->Int):Prop:=∀i,0<=f i/\ f i<256
theorem Seg.bw{a:Option Us}{f:Nat ->Int}(h:Seg w a n f)(hb:Bl w w'):Seg w' a n f:=by
 rcases h with h|⟨b,off,rfl,j,k⟩
 ·exact .inl h
 ·exact .inr ⟨b,off,rfl,Ut j hb.size,fun i hi=>(hb.cell (p:=(Ua b (off+i))) j).trans (k i hi)⟩
theorem Tryz.infoByte:(prog.info? 5).map (fun i=>(i.zero,i.size,i.bytes))=Uq (Uq (Ug .u8 0),1,1):=oK
theorem Qpj{a0:Option Us}{len0 cap0:Nat}{z0:List Int}
  (w0:(a0=Up/\ len0=0/\ cap0=0/\ z0=[]) \/
   ∃x,a0=Uq x/\ len0<=cap0/\ cap0<=maxLen/\ z0.length=cap0/\ (∀i,i<z0.length ->w.cell? (x.add i)=Uq (Ug .u8 (z0.getD i 0)))/\∀n∈z0,(Lit.int .u8 n).wf=true):
  Seg w a0 len0 (fun i=>z0.getD i 0)/\ Byt (fun i=>z0.getD i 0)/\ len0<=9223372036854775807:=by
 rcases w0 with ⟨rfl,rfl,rfl,rfl⟩|⟨⟨b,off,y⟩,rfl,z,r,g,k,v⟩
 ·exact⟨.inl rfl,fun i=>oP,oM⟩
 ·refine⟨?_,fun i=> ?_,by unfold maxLen at r;omega⟩
  ·by_cases q:len0=0
   ·exact .inl q
   ·have j:=k 0 oM;have u:y=Up:=(by simpa [Addr.add] using World.cell?_spot j);subst u;refine .inr ⟨b,off,rfl,block_lt_of_cell j,fun i hi=> ?_⟩;have h:=k i oM;by_cases m:i=0
    ·subst m;simpa [Addr.add] using h
    ·simpa [Addr.add,m] using h
  ·by_cases hi:i<z0.length
   ·have:=v (z0.getD i 0) (by simp [UA,hi]);have b:=bounds_u8 this;show 0<=z0.getD i 0/\ z0.getD i 0<256;omega
   ·simp [UA,hi]
def uvF:Nat ->Nat ->List Int
 | 0,v=>[(v:Int)]
 | k+1,v=>if v<128 then [(v:Int)] else((128+v%128:Nat):Int)::uvF k (v/128)
def Own (w:Ur)(B:Nat)(v:Value)(zs:List Int):Prop:=w.ownsRow B 5 1 v zs.length (zs.map (Value.int .u8))
theorem Qe4 (k v:Nat)(h:v<128):uvF k v=[(v:Int)]:=by
 cases k<;>simp [uvF,h]
theorem Qe3 (k v:Nat)(h:¬v<128):uvF (k+1) v=((128+v%128:Nat):Int)::uvF k (v/128):=by
 simp [uvF,h]
theorem Qah (k:Nat):∀v,(uvF k v).length<=k+1/\ 0<(uvF k v).length:=by
 induction k with
 | zero=>intro v;simp [uvF]
 | succ k ih=>
  intro v;by_cases h:v<128
  ·rw [Qe4 _ _ h];simp
  ·rw [Qe3 _ _ h];have:=ih (v/128);simp;omega
theorem Qlw (k:Nat):∀v,v<128^(k+1) ->∀z∈uvF k v,0<=z/\ z<256:=by
 induction k with
 | zero=>intro v h z j;simp [uvF] at j;subst j;simp at h;omega
 | succ k ih=>
  intro v h z j;by_cases m:v<128
  ·rw [Qe4 _ _ m] at j;simp at j;subst j;omega
  ·rw [Qe3 _ _ m] at j;rcases List.mem_cons.1 j with j|j
   ·subst j;omega
   ·exact ih (v/128) (by rw [Uu] at h;omega) z j
theorem Ql3 (m:Nat)(h:m<18446744073709551616):bits BinOp.and IntKind.u64 (m:Int) 127=((m%128:Nat):Int):=by
 have:=u64_and_nat m 127 h oM;rw [show (127:Nat)=2^7 - 1 from rfl,Nat.and_two_pow_sub_one_eq_mod] at this;exact this
theorem QoZ (a:Nat)(h:a<128):bits BinOp.or IntKind.u8 (a:Int) 128=((128+a:Nat):Int):=by
 have e:=u8_or_nat a 128 oM oM;have j:a|||128=128+a:=by
  have:=Nat.two_pow_add_eq_or_of_lt (i:=7) (b:=a) h 1;rw [Nat.or_comm];simpa using this.symm
 rw [j] at e;exact e
theorem QjH (w:Ur)(B:Nat)(z:Int)(hB:B<=w.heap.size):Own (w.alloc (Uj #[Ug .u8 z] 5)) B (Uf (Uc w.heap.size) 1 1) [z]:=by
 have:=World.ownsRow_lit (base:=B) (e:=5) (size:=1) w #[Ug .u8 z] 1 hB oL rfl;exact this
theorem Qku (B m0:Nat)(bv:Value)(zs0:List Int)(w:Ur)(hm:m0<18446744073709551616)(hB:B<=w.heap.size)(hl:zs0.length<=1000000000000)(ho:Own w B bv zs0):
  Cl 101 #[bv,Ug .u64 (m0:Int)] w fun e w'=>∃v,e=Ui v/\ Own w' B v (zs0++uvF 9 m0)/\ Below B w w'/\ w.heap.size<w'.heap.size:=by
 obtain⟨Y,hi,Q,U,V⟩:=info_parts Tryz.infoByte;go_enter func101,ntmps101;go_wp2_with fail;go_loopw [0,1] (fun b v wr=>∃(k m:Nat) (y:List Int),k<=9/\ m<128^(k+1)/\ m<18446744073709551616/\ v=Ug .u64 (m:Int)/\ Own wr B b y/\ Below B w wr/\ w.heap.size<=wr.heap.size/\ y.length+k<=zs0.length+9/\ y++uvF k m=zs0++uvF 9 m0) (fun _ v _=>(intOf v).toNat);case atStart=>exact⟨9,m0,zs0,Uv _,oM,hm,rfl,ho,Below.refl _ _,Uv _,Uv _,rfl⟩
 case round=>
  obtain⟨k,m,y,o,O,K,rfl,r,t,X,N,E⟩:=hrel;have i:Hid (y++uvF k m=zs0++uvF 9 m0):=E;have p:Hid (m<128^(k+1)):=O;clear E ho O;unfold Own at r;by_cases M:m<128
  ·go_wp2_with (at_builtin;refine wpList_append_own _ rfl _ _ 22 rfl B 5 Y (Ug .u8 0) 1 1 underlying22 hi Q U V rfl oD _ _ _ rfl (r.alloc _) (Ub wr.heap.size) 1 1 [Ug .u8 (m:Int)] rfl rfl ?c1 ?c2 ?c3 ?c4 ?c5 ?_);case c1=>exact cell_one_new _ _ _
   case c2=>intro u g;simp at g;subst g;rfl
   case c3=>unfold maxLen;omega
   case c4=>omega
   case c5=>simp;omega
   ·intro v' w1 z q _;have J:=t.size;have R:Own w1 B v' (zs0++uvF 9 m0):=by
     rw [<- i.out,Qe4 k m M];unfold Own;rw [UB,UC];exact z
    have s:Below B w w1:=(t.alloc oM _).grown q oS (fun k o=>(r.lt k o).1);have A:=q.size;simp at A;clear z q r;go_wp2;go_ret;exact⟨v',rfl,R,s,oM⟩
  ·have H:=Ql3 m K;have I:bits BinOp.or IntKind.u8 ((m:Int)%128) 128=128+(m:Int)%128:=by
    have:=QoZ (m%128) oM;simpa using this
   go_wp2_with (at_builtin;refine wpList_append_own _ rfl _ _ 22 rfl B 5 Y (Ug .u8 0) 1 1 underlying22 hi Q U V rfl oD _ _ _ rfl (r.alloc _) (Ub wr.heap.size) 1 1 [Ug .u8 (128+(m:Int)%128)] rfl rfl ?d1 ?d2 ?d3 ?d4 ?d5 ?_);case d1=>exact cell_one_new _ _ _
   case d2=>intro u g;simp at g;subst g;rfl
   case d3=>unfold maxLen;omega
   case d4=>omega
   case d5=>simp;omega
   ·intro v' w1 z q _;have L:1<=k:=by
     have:=p.out;rcases Nat.eq_zero_or_pos k with rfl|h
     ·simp at this;omega
     ·exact h
    obtain⟨j,rfl⟩:∃j,k=j+1:=⟨k - 1,oM⟩;have J:=t.size;have R:Own w1 B v' (y++[128+(m:Int)%128]):=by
     unfold Own;rw [UB,UC];exact z
    have Z:Hid (y++[128+(m:Int)%128]++uvF j (m/128)=zs0++uvF 9 m0):=by
     have:=i.out;rw [Qe3 j m M] at this;show _=_;rw [<- this];simp
    have G:Hid (m/128<128^(j+1)):=by
     have:=p.out;rw [Uu] at this;show _<_;omega
    have s:Below B w w1:=(t.alloc oM _).grown q oS (fun k o=>(r.lt k o).1);have A:=q.size;simp at A;clear z q r i p I H;go_wp2;go_roundw;case rel=>exact⟨j,m/128,_,oM,G,oM,oN,R,s,oM,oS,Z⟩
    case measure=>exact oE
theorem Own.kept(h:Own w B v zs)(hb:Below C w w1)(hc:∀k,v.ownBlock=Uq k ->k<C):Own w1 B v zs:=by
 obtain⟨q,j⟩:=h;refine⟨q,?_⟩;rcases j with j|⟨g,cap,m,rfl,u,y,r⟩
 ·exact .inl j
 ·exact .inr ⟨g,cap,m,rfl,u,by rw [hb.block g (hc g rfl)];exact y,r⟩
theorem Own.weak(h:Own w B v zs)(hc:C<=B):Own w C v zs:=by
 obtain⟨m,j⟩:=h;refine⟨m,?_⟩;rcases j with j|⟨g,cap,k,rfl,q,r⟩
 ·exact .inl j
 ·exact .inr ⟨g,cap,k,rfl,Uw hc q,r⟩
theorem Own.shape(h:Own w B v zs)(hz:zs≠[]):
  ∃g cap,v=Uf (Uc g) zs.length cap/\ B<=g/\ g<w.heap.size/\ zs.length<=cap/\ cap<=maxLen/\
   (∀j u,(zs.map (Value.int .u8))[j]? =Uq u ->w.cell? (((Ub g):Us).add j)=Uq u)/\ Seg w (Uc g) zs.length (fun i=>zs.getD i 0):=by
 have k:=h;obtain⟨b,m⟩:=h;rcases m with ⟨_,m⟩|⟨g,cap,o,rfl,y,p,t,z,r⟩
 ·exact absurd (List.eq_nil_of_length_eq_zero m) hz
 ·have q:=(k.lt g rfl).2;refine⟨g,cap,rfl,y,q,t,z,k.cells rfl,.inr ⟨g,0,rfl,q,fun i hi=> ?_⟩⟩;rw [Nat.zero_add,World.ownsRow.cellAt k i oM];simp [hi,UA]
theorem Qmv(h:∀z∈zs,0<=z/\ z<256):Byt (fun i=>zs.getD i 0):=by
 intro i;by_cases hi:i<zs.length
 ·have:=h (zs.getD i 0) (by simp [UA,hi]);exact this
 ·simp [UA,hi]
theorem Qmc (k:Nat):∀(m:Nat) (w:Ur),k<=9 ->Hid (m<128^(k+1)) ->m<18446744073709551616 ->
  Cl 114 #[Ug .u64 (m:Int)] w fun e w'=>∃v,e=Ui v/\ Own w' w.heap.size v (uvF k m)/\ Bl w w'/\ w.heap.size<w'.heap.size:=by
 obtain⟨J,hi,G,H,I⟩:=info_parts Tryz.infoByte;have z:∀(k m:Nat) (w:Ur),m<128 ->Cl 114 #[Ug .u64 (m:Int)] w fun e w'=>∃v,e=Ui v/\ Own w' w.heap.size v (uvF k m)/\ Bl w w'/\ w.heap.size<w'.heap.size:=by
  intro k m w q;have r:Hid (uvF k m=[(m:Int)]):=Qe4 k m q;go_enter func114,ntmps114;go_wp2_with fail;go_ret;refine⟨_,rfl,?_,(Below.refl _ _).alloc (Uv _) _,oP⟩;rw [r.out];exact QjH w _ _ (Uv _)
 induction k with
 | zero=>intro m w _ q _;exact z 0 m w (oH q)
 | succ k ih=>
  intro m w j E q;by_cases A:m<128
  ·exact z (k+1) m w A
  ·have r:Hid (uvF (k+1) m=((128+m%128:Nat):Int)::uvF k (m/128)):=Qe3 k m A;have t:=Qah k (m/128);have V:Hid (m/128<128^(k+1)):=by
    have:=E.out;rw [Uu] at this;show _<_;omega
   have i:=ih (m/128) (w.alloc (Uj #[Ug .u8 (128+(m:Int)%128)] 5)) oM V oM;have h:=hid i;clear i ih z E;go_enter func114,ntmps114;go_wp2_with fail;rw [show ((m:Int)/128)=((m/128:Nat):Int) from by omega];refine h.mono ?_;rintro e w1 ⟨v,rfl,M,b,Z⟩;obtain⟨g,cap,rfl,L,N,_,_,p,_⟩:=M.shape (by intro e;rw [e] at t;simp at t);have s:w1.ownsRow w.heap.size 5 1 (Uf (Uc w.heap.size) 1 1) 1 [Ug .u8 (128+(m:Int)%128)]:=
    (QjH w w.heap.size (128+(m:Int)%128) (Uv _)).kept b (fun k j=>by simp [Value.ownBlock] at j;simp;omega)
   have X:w.heap.size+1<w1.heap.size:=(by have:=Z;simp at this;exact this);have O:∀u∈(uvF k (m/128)).map (Value.int .u8),u.oneCell'=true:=ints_oneCell .u8 _;have o:=hid p;clear p h M;go_wp2_with (at_builtin;refine wpList_append_own _ rfl _ _ 22 rfl w.heap.size 5 J (Ug .u8 0) 1 1 underlying22 hi G H I rfl oD _ _ _ rfl s (Ub g) (uvF k (m/128)).length cap ((uvF k (m/128)).map (Value.int .u8)) rfl oP o O ?c3 ?c4 ?c5 ?_);case c3=>unfold maxLen;omega
   case c4=>omega
   case c5=>omega
   ·intro v' U Q y _;have R:Own U w.heap.size v' (uvF (k+1) m):=by
     rw [r.out];unfold Own;rw [List.length_cons,UD,Nat.add_comm];exact Q
    have Y:Bl w U:=((((Below.refl _ _).alloc (Uv _) _).trans (b.mono oP))).grown y oM (fun k j=>by simp [Value.ownBlock] at j;omega);have K:=y.size;clear Q y s o O;go_wp2_with fail;go_ret;exact⟨v',rfl,R,Y,oM⟩
def Qa2 (s:ByteArray):List Int:=s.data.toList.map fun b=>(b.toNat:Int)
theorem Qas (s:ByteArray):(Qa2 s).length=s.size:=by
 rw [Qa2,List.length_map,Array.length_toList];rfl
theorem QbP (s:ByteArray):(Qa2 s).map (Value.int .u8)=Lib.strCells s:=by
 simp [Qa2,Lib.strCells,List.map_map,Function.comp_def]
theorem Qd6 (s:ByteArray):∀z∈Qa2 s,0<=z/\ z<256:=by
 intro z j;simp only [Qa2,List.mem_map] at j;obtain⟨b,_,rfl⟩:=j;have:=b.toNat_lt;omega
theorem QeB (s:ByteArray)(w:Ur):∃cap w',(convert 9 22 (Um s)).run prog w=.ok (Uf (Uc w.heap.size) s.size cap) w'/\ Bl w w'/\ w.heap.size<w'.heap.size/\
  ∀j u,(Lib.strCells s)[j]? =Uq u ->w'.cell? (((Ub w.heap.size):Us).add j)=Uq u:=by
 refine⟨_,_,run_bytes_of_string (P:=prog) w 9 22 5 s underlying9 underlying22 underlying5,?_,?_,?_⟩
 ·exact(Below.refl _ _).drew.alloc (Uv _) _
 ·simp
 ·intro j u k;have v:j<s.size:=by
   have:=(List.getElem?_eq_some_iff.1 k).1;rw [Lib.strCells_length] at this;exact this
  have r:∀(C:Array Value) (m:Nat×Nat),(w.drew.alloc (.cells C 5 m)).cell? (Ua w.heap.size j)=C[j]? :=by
   intro C m;exact cell_of_row _ _ _ _ _ _ (heap_alloc_new w.drew _)
  have e:(((Ub w.heap.size):Us).add j)=(Ua w.heap.size j):=by
   by_cases q:j=0
   ·subst q;rfl
   ·simp [Addr.add,q]
  rw [e,r];simp only [bytesRow];rw [Array.getElem?_append_left (by simp;exact v)];simp only [Lib.strCells] at k;rw [<- k];simp
def Qae (s:ByteArray):List Int:=uvF 9 s.size++Qa2 s
theorem Qii (s:ByteArray)(w:Ur)(hs:s.size<=1048576):
  Cl 90 #[Um s] w fun e w'=>∃v,e=Ui v/\ Own w' w.heap.size v (Qae s)/\ Bl w w'/\ w.heap.size<w'.heap.size:=by
 obtain⟨Y,hi,Q,U,V⟩:=info_parts Tryz.infoByte;have G:=Qah 9 s.size;go_enter func90,ntmps90;go_wp2_with fail;refine(Qmc 9 s.size _ (Uv _) (hid oM) oM).mono ?_;rintro e w1 ⟨b,rfl,j,M,I⟩;obtain⟨cap,Z,O,y,J,z⟩:=QeB s w1;have h:Z.ownsRow w.heap.size 5 1 b (uvF 9 s.size).length ((uvF 9 s.size).map (Value.int .u8)):=j.kept y (fun k hk=>(j.lt k hk).2);have t:∀k,b.ownBlock=Uq k ->w.heap.size<=k:=fun k hk=>(j.lt k hk).1;have r:=hid z;have A:=hid t;have o:=Lib.strCells_oneCell s;have g:=Lib.strCells_length s;have u:=hid o;have q:=hid g;clear z j o g t;go_wp2_with (at_builtin;refine wpList_append_own _ rfl _ _ 22 rfl w.heap.size 5 Y (Ug .u8 0) 1 1 underlying22 hi Q U V rfl oD _ _ _ rfl h (Ub w1.heap.size) s.size cap (Lib.strCells s) rfl (by rw [q.out];omega) r u ?c3 ?c4 ?c5 ?_);case c3=>unfold maxLen;omega
 case c4=>omega
 case c5=>omega
 ·intro v' p i m _;have R:Own p w.heap.size v' (Qae s):=by
   unfold Own Qae;rw [UB,UC,Qas,QbP];exact i
  have E:Bl w p:=(M.trans (y.mono oM)).grown m oM A;have H:=m.size;clear i m h r u q O;go_wp2_with fail;go_ret;exact⟨v',rfl,R,E,oM⟩
theorem Qde (r f t:Int)(w:Ur):
  Cl 83 #[Uo #[Ud r,Ud f,Ud t]] w (Rt w (Un (QaF r f t))):=by
 by_cases k:0<=r
 ·by_cases m:r<8
  ·by_cases q:1<=f
   ·by_cases u:f<=t
    ·by_cases v:t<=1000000000
     ·have j:=hid (Qcw ⟨k,m,q,u,v⟩);go_enter func83,ntmps83;go_wp2_with fail;go_ret;exact⟨QbU j.symm,(Below.refl _ _).alloc (Uv _) _⟩
     ·have j:=hid (Qa4 (r:=r) (f:=f) (t:=t) oM);go_enter func83,ntmps83;go_wp2_with fail;go_ret;exact⟨QbU j.symm,(Below.refl _ _).alloc (Uv _) _⟩
    ·have j:=hid (Qa4 (r:=r) (f:=f) (t:=t) oM);go_enter func83,ntmps83;go_wp2_with fail;go_ret;exact⟨QbU j.symm,(Below.refl _ _).alloc (Uv _) _⟩
   ·have j:=hid (Qa4 (r:=r) (f:=f) (t:=t) oM);go_enter func83,ntmps83;go_wp2_with fail;go_ret;exact⟨QbU j.symm,(Below.refl _ _).alloc (Uv _) _⟩
  ·have j:=hid (Qa4 (r:=r) (f:=f) (t:=t) oM);go_enter func83,ntmps83;go_wp2_with fail;go_ret;exact⟨QbU j.symm,(Below.refl _ _).alloc (Uv _) _⟩
 ·have j:=hid (Qa4 (r:=r) (f:=f) (t:=t) oM);go_enter func83,ntmps83;go_wp2_with fail;go_ret;exact⟨QbU j.symm,(Below.refl _ _).alloc (Uv _) _⟩
theorem QjM (r:Int)(w:Ur)(h1:0<=r)(h2:r<8):
  Cl 68 #[Ud r] w fun e w'=>e=Ui (Un true)/\ w'=w:=by
 go_enter func68,ntmps68;go_wp2_with fail;go_ret;exact⟨rfl,rfl⟩
theorem Qle (r:Int)(w:Ur)(h:¬(0<=r/\ r<8)):
  Cl 68 #[Ud r] w fun e w'=>e=Ui (Un false)/\ w'=w:=by
 by_cases j:0<=r
 ·have k:decide (r<8)=false:=oS;go_enter func68,ntmps68;go_wp2_with fail;go_ret;exact⟨rfl,rfl⟩
 ·go_enter func68,ntmps68;go_wp2_with fail;go_ret;exact⟨rfl,rfl⟩
theorem Qeb (r f t:Int)(w:Ur):
  Cl 163 #[Uo #[Ud r,Ud f,Ud t]] w (Rt w (Un (QaF r f t))):=by
 by_cases m:0<=r/\ r<8
 ·obtain⟨q,u⟩:=m;have k:=hid (QjM r (w.alloc (Uj #[Ud r,Ud f,Ud t] 89)) q u);by_cases v:1<=f
  ·by_cases y:f<=t
   ·by_cases z:t<=1000000000
    ·have j:=hid (Qcw ⟨q,u,v,y,z⟩);go_enter func163,ntmps163;go_wp2_with fail;refine k.mono ?_;rintro e w1 ⟨rfl,rfl⟩;go_wp2_with fail;go_ret;exact⟨QbU j.symm,(Below.refl _ _).alloc (Uv _) _⟩
    ·have h:decide (t<=1000000000)=false:=oS;have j:=hid (Qa4 (r:=r) (f:=f) (t:=t) oM);go_enter func163,ntmps163;go_wp2_with fail;refine k.mono ?_;rintro e w1 ⟨rfl,rfl⟩;go_wp2_with fail;go_ret;exact⟨QbU j.symm,(Below.refl _ _).alloc (Uv _) _⟩
   ·have j:=hid (Qa4 (r:=r) (f:=f) (t:=t) oM);go_enter func163,ntmps163;go_wp2_with fail;refine k.mono ?_;rintro e w1 ⟨rfl,rfl⟩;go_wp2_with fail;go_ret;exact⟨QbU j.symm,(Below.refl _ _).alloc (Uv _) _⟩
  ·have j:=hid (Qa4 (r:=r) (f:=f) (t:=t) oM);go_enter func163,ntmps163;go_wp2_with fail;refine k.mono ?_;rintro e w1 ⟨rfl,rfl⟩;go_wp2_with fail;go_ret;exact⟨QbU j.symm,(Below.refl _ _).alloc (Uv _) _⟩
 ·have k:=hid (Qle r (w.alloc (Uj #[Ud r,Ud f,Ud t] 89)) m);have j:=hid (Qa4 (r:=r) (f:=f) (t:=t) oM);clear m;go_enter func163,ntmps163;go_wp2_with fail;refine k.mono ?_;rintro e w1 ⟨rfl,rfl⟩;go_wp2_with fail;go_ret;exact⟨QbU j.symm,(Below.refl _ _).alloc (Uv _) _⟩
theorem Qbv {t:Int}(h:r<r' \/(r=r'/\ t+1<f')):QaD r t r' f'=true:=by unfold QaD;exact decide_eq_true h
theorem Qbc {t:Int}(h:¬(r<r' \/(r=r'/\ t+1<f'))):QaD r t r' f'=false:=by unfold QaD;exact decide_eq_false h
theorem Qad (w:Ur)(o o':Obj):Bl w ((w.alloc o).alloc o'):=((Below.refl _ _).alloc (Uv _) _).alloc oP _
theorem QjS (r f t r' f' t':Int)(w:Ur)(h0:0<=t)(h1:t<=1000000000):
  Cl 84 #[Uo #[Ud r,Ud f,Ud t],Uo #[Ud r',Ud f',Ud t']] w (Rt w (Un (QaD r t r' f'))):=by
 by_cases q:r<r'
 ·have j:=hid (Qbv (t:=t) (f':=f') (.inl q));go_enter func84,ntmps84;go_wp2_with fail;go_ret;exact⟨QbU j.symm,Qad _ _ _⟩
 ·by_cases k:r=r'
  ·subst k;by_cases m:t+1<f'
   ·have j:=hid (Qbv (r:=r) (r':=r) (.inr ⟨rfl,m⟩));go_enter func84,ntmps84;go_wp2_with fail;go_ret;exact⟨QbU j.symm,Qad _ _ _⟩
   ·have j:=hid (Qbc (r:=r) (r':=r) (t:=t) (f':=f') oM);go_enter func84,ntmps84;go_wp2_with fail;go_ret;exact⟨QbU j.symm,Qad _ _ _⟩
  ·have m:(r==r')=false:=(by simp;exact k);have j:=hid (Qbc (r:=r) (r':=r') (t:=t) (f':=f') oM);go_enter func84,ntmps84;go_wp2_with fail;go_ret;exact⟨QbU j.symm,Qad _ _ _⟩
theorem QgT (r f t r' f' t':Int)(w:Ur)(h0:0<=t)(h1:t<=1000000000):
  Cl 164 #[Uo #[Ud r',Ud f',Ud t'],Uo #[Ud r,Ud f,Ud t]] w (Rt w (Un (QaD r t r' f'))):=by
 by_cases k:r'=r
 ·subst k;by_cases m:t+1<f'
  ·have j:=hid (Qbv (r:=r') (r':=r') (.inr ⟨rfl,m⟩));go_enter func164,ntmps164;go_wp2_with fail;go_ret;exact⟨QbU j.symm,Qad _ _ _⟩
  ·have j:=hid (Qbc (r:=r') (r':=r') (t:=t) (f':=f') oM);go_enter func164,ntmps164;go_wp2_with fail;go_ret;exact⟨QbU j.symm,Qad _ _ _⟩
 ·have m:(r' !=r)=true:=by simp;exact k
  by_cases q:r<r'
  ·have j:=hid (Qbv (t:=t) (f':=f') (.inl q));go_enter func164,ntmps164;go_wp2_with fail;go_ret;exact⟨QbU j.symm,Qad _ _ _⟩
  ·have j:=hid (Qbc (r:=r) (r':=r') (t:=t) (f':=f') oM);go_enter func164,ntmps164;go_wp2_with fail;go_ret;exact⟨QbU j.symm,Qad _ _ _⟩
def Qeo (R F T:Nat ->Int)(k:Nat):Prop:=∀i,i<k ->QaF (R i) (F i) (T i)=true/\ (0<i ->QaD (R (i - 1)) (T (i - 1)) (R i) (F i)=true)
def QjC (R F T:Nat ->Int):Nat ->Bool
 | 0=>true
 | k+1=>QjC R F T k && (QaF (R k) (F k) (T k) && (k==0||QaD (R (k - 1)) (T (k - 1)) (R k) (F k)))
def QcS (R F T:Nat ->Int)(n:Nat):Bool:=QjC R F T n && decide (n<=1000)
theorem Qgw {R F T:Nat ->Int}:∀k:Nat,QjC R F T k=true↔Qeo R F T k
 | 0=>⟨fun _ i hi=>oM,fun _=>rfl⟩
 | k+1=>by
  have q:=Qgw (R:=R) (F:=F) (T:=T) k;constructor
  ·intro h;simp only [QjC,Bool.and_eq_true,Bool.or_eq_true,beq_iff_eq] at h;intro i hi;by_cases e:i=k
   ·subst e;exact⟨h.2.1,fun m=>by rcases h.2.2 with j|j;omega;exact j⟩
   ·exact q.1 h.1 i oM
  ·intro h;simp only [QjC,Bool.and_eq_true,Bool.or_eq_true,beq_iff_eq];refine⟨q.2 (fun i hi=>h i oM),(h k oM).1,?_⟩;by_cases m:k=0
   ·exact .inl m
   ·exact .inr ((h k oM).2 oM)
theorem Qal:QcS R F T n=true↔Qeo R F T n/\ n<=1000:=by
 unfold QcS;rw [Bool.and_eq_true,Qgw,decide_eq_true_iff]
theorem Qcr(h:¬(Qeo R F T n/\ n<=1000)):QcS R F T n=false:=by
 cases e:QcS R F T n with
 | false=>rfl
 | true=>exact absurd (Qal.1 e) h
theorem Qda(h:Qeo R F T k)(h1:QaF (R k) (F k) (T k)=true)(h2:0<k ->QaD (R (k - 1)) (T (k - 1)) (R k) (F k)=true):Qeo R F T (k+1):=by
 intro i hi;by_cases e:i=k
 ·subst e;exact⟨h1,h2⟩
 ·exact h i oM
theorem Qaa {wr:Ur}(h1:Bl wr w1)(b2:Bl w1 w2):Bl wr w2:=h1.trans (b2.mono h1.size)
theorem Qqw{ops:Array Oper}{Q:Exit ->Act ->Ur ->Prop}{md:Region.Mode}{S:Ur ->Prop}{d:Option Tmp}{listed:Array Bool}
  (hd:ops[i]?.map (fun o=>o.dst)=Uq d) (hs:Region.noSelect ops=true) (hf:Region.free md ops listed i=true) (hr:(Region.ready md ops listed).contains i=true)
  (hQ:∀c a w,Q (.panic c) (a.put d v) w ->Q (.panic c) a w) (hy:∀o,ops[i]? =Uq o ->YieldsIf P ops S o v a) (hS:S w)
  (h:wpAnyH P md ops Q S fuel (listed.setIfInBounds i true) (a.put d v) w):wpAnyH P md ops Q S (fuel+1) listed a w:=by
 obtain⟨o,j,rfl⟩:=Option.map_eq_some_iff.1 hd;exact wpAnyH_take j hs hf hr hQ (hy o j) hS h
theorem QpB{ops:Array Oper}{Q:Exit ->Act ->Ur ->Prop}{md:Region.Mode}{S:Ur ->Prop}{d:Option Tmp}{listed:Array Bool}
  (hd:ops[i]?.map (fun o=>o.dst)=Uq d) (hr:Region.ready md ops listed=[i])
  (h:∀o,ops[i]? =Uq o ->o.dst=d ->∀K':Act ->Ur ->Prop,Shut (∀a w,S w ->(S w ->wpAnyH P md ops Q S fuel (listed.setIfInBounds i true) a w) ->K' a w) ->if Region.wanted o (yielded ops a.tmps)=true then Oper.wp P o a w K' Q else K' (a.put o.dst undef) w):
  wpAnyH P md ops Q S (fuel+1) listed a w:=by
 obtain⟨o,j,k⟩:=Option.map_eq_some_iff.1 hd;exact wpAnyH_ready hr oP (AllReadyH.cons j (h o j k) AllReadyH.nil)
theorem gZa {α:Type}{l:List α}:l.toArray[i]? =l[i]? :=List.getElem?_toArray
theorem gZb {α:Type}{a:α}{l:List α}:(a::l)[i+1]? =l[i]? :=List.getElem?_cons_succ
theorem gZc {α:Type}{a:α}{l:List α}:(a::l)[0]? =Uq a:=List.getElem?_cons_zero
theorem gZd {α:Type}{a b:α}:(Uq a=Uq b)=(a=b):=Option.some.injEq a b
theorem sZa {α:Type}(l:List α)(i:Nat)(a:α):l.toArray.setIfInBounds i a=(l.set i a).toArray:=oP
theorem sZb {α:Type}{a b:α}{l:List α}:(a::l).set 0 b=b::l:=List.set_cons_zero
theorem sZc {α:Type}{a b:α}{l:List α}:(a::l).set (i+1) b=a::l.set i b:=List.set_cons_succ
theorem tk{ops:Array Oper}{Q:Exit ->Act ->Ur ->Prop}{md:Region.Mode}{S:Ur ->Prop}(i:Nat)(d:Tmp)(v:Value){listed:Array Bool}
  (hb:((ops[i]?.map (fun o=>o.dst)==Uq (Uq d)) && (Region.noSelect ops && (Region.free md ops listed i && (Region.ready md ops listed).contains i)))=true)
  (hQ:∀c a w,Q (.panic c) (a.put (Uq d) v) w ->Q (.panic c) a w) (hy:∀o,ops[i]? =Uq o ->YieldsIf P ops S o v a) (hS:S w)
  (h:wpAnyH P md ops Q S fuel (listed.setIfInBounds i true) (a.put (Uq d) v) w):wpAnyH P md ops Q S (fuel+1) listed a w:=by
 rw [Bool.and_eq_true,Bool.and_eq_true,Bool.and_eq_true] at hb;exact Qqw (eq_of_beq hb.1) hb.2.1 hb.2.2.1 hb.2.2.2 hQ hy hS h
theorem tZ{ops:Array Oper}{Q:Exit ->Act ->Ur ->Prop}{md:Region.Mode}{S:Ur ->Prop}(i:Nat)(d:Tmp){listed:Array Bool}{b:Act}
  (h:wpAnyH P md ops Q S fuel (listed.setIfInBounds i true) b w) (hS:S w:=by assumption)
  (hb:((ops[i]?.map (fun o=>o.dst)==Uq (Uq d)) && (Region.noSelect ops && (Region.free md ops listed i && (Region.ready md ops listed).contains i)))=true:=by kernel_rfl)
  (hQ:∀c a w,Q (.panic c) (a.put (Uq d) v) w ->Q (.panic c) a w:=by exact fun _ _ _ h=>h)
  (hy:∀o,ops[i]? =Uq o ->YieldsIf P ops S o v a:=by intro o j;simp only [gZa,gZb,gZc,gZd] at j;subst j;refine Or.inl ⟨by rfl,?_⟩;intro w k;(try dsimp only at k);go_simp;try with_reducible rfl)
  (hp:a.put (Uq d) v=b:=by simp only [Act.put,sZa,sZb,sZc];rfl):wpAnyH P md ops Q S (fuel+1) listed a w:=tk i d v hb hQ hy hS (hp▸h)
theorem uZ{ops:Array Oper}{Q:Exit ->Act ->Ur ->Prop}{md:Region.Mode}{S:Ur ->Prop}(i:Nat)(d:Tmp){listed:Array Bool}{b:Act}
  (h:wpAnyH P md ops Q S fuel (listed.setIfInBounds i true) b w) (hS:S w:=by assumption)
  (hb:((ops[i]?.map (fun o=>o.dst)==Uq (Uq d)) && (Region.noSelect ops && (Region.free md ops listed i && (Region.ready md ops listed).contains i)))=true:=by kernel_rfl)
  (hQ:∀c a w,Q (.panic c) (a.put (Uq d) undef) w ->Q (.panic c) a w:=by exact fun _ _ _ h=>h)
  (hy:∀o,ops[i]? =Uq o ->YieldsIf P ops S o undef a:=by intro o j;simp only [gZa,gZb,gZc,gZd] at j;subst j;exact Or.inr ⟨by rfl,rfl⟩)
  (hp:a.put (Uq d) undef=b:=by simp only [Act.put,sZa,sZb,sZc];rfl):wpAnyH P md ops Q S (fuel+1) listed a w:=tk i d undef hb hQ hy hS (hp▸h)
theorem cZ{ops:Array Oper}{Q:Exit ->Act ->Ur ->Prop}{md:Region.Mode}{S:Ur ->Prop}(i:Nat){o:Oper}{listed:Array Bool}
  (h:∀K':Act ->Ur ->Prop,Shut (∀a w,S w ->(S w ->wpAnyH P md ops Q S fuel (listed.setIfInBounds i true) a w) ->K' a w) ->if Region.wanted o (yielded ops a.tmps)=true then Oper.wp P o a w K' Q else K' (a.put o.dst undef) w)
  (hr:Region.ready md ops listed=[i]:=by kernel_rfl) (ho:ops[i]? =Uq o:=by simp only [gZa,gZb,gZc];rfl):wpAnyH P md ops Q S (fuel+1) listed a w:=
 QpB (d:=o.dst) (by rw [ho];rfl) hr (fun o' h1 _=>by rw [ho] at h1;cases h1;exact h)
theorem zO (w:Ur)(o:Obj):Bl w (w.alloc o):=(Below.refl _ _).alloc (Uv _) o
theorem zL:n<=n:=Uv n
theorem zI:Below B w w:=Below.refl B w
theorem zH (w:Ur)(a:Us)(u:Value)(k:Nat)(h:k≠a.block):(w.setCell a u).heap[k]? =w.heap[k]? :=Below.heap_setCell w a u k h
theorem zP:(∀(a:Act) (v:Value),a.put Up v=a)/\ (∀(t:Array Value) (d) (i:Nat) (v:Value),(Act.mk t d).put (Uq i) v=Act.mk (t.setIfInBounds i v) d)/\ (∀(l:List Value) (i:Nat) (a:Value),l.toArray.setIfInBounds i a=(l.set i a).toArray)/\ (∀(a b:Value) (l:List Value),(a::l).set 0 b=b::l)/\∀(a b:Value) (l:List Value) (i:Nat),(a::l).set (i+1) b=a::l.set i b:=⟨fun _ _=>rfl,fun _ _ _ _=>rfl,fun _ _ _=>oP,fun _ _ _=>rfl,fun _ _ _ _=>rfl⟩
theorem zD{ops:Array Oper}{Q:Exit ->Act ->Ur ->Prop}{md:Region.Mode}{S:Ur ->Prop}{listed:Array Bool}(h:Q .normal a w)(hr:Region.ready md ops listed=[]:=by kernel_rfl):wpAnyH P md ops Q S fuel listed a w:=wpAnyH_done hr h fuel
theorem zR{ops:Array Oper}{Q:Exit ->Act ->Ur ->Prop}{S:Ur ->Prop}{id:Nat}(hS:S w.drew)(h:S w.drew ->wpAnyH P .any ops Q S ops.size (UH ops.size false) a w.drew)(hm:P.follows .mixedOrders=true:=by kernel_rfl):(Code.region id ops true).wp P Q a w:=wp_region_held_drew hm hS h
theorem zS{ops:Array Oper}{Q:Exit ->Act ->Ur ->Prop}{S:Ur ->Prop}{id:Nat}(N:Hid (∀w',Bl w w' ->S w'))(h:S w.drew ->wpAnyH P .any ops Q S ops.size (UH ops.size false) a w.drew)(hm:P.follows .mixedOrders=true:=by kernel_rfl):(Code.region id ops true).wp P Q a w:=wp_region_held_drew hm (N _ (Below.refl _ _).drew) h
theorem zA{ops:Array Oper}{Q:Exit ->Act ->Ur ->Prop}{S:Ur ->Prop}{id:Nat}{X0:Ur ->Prop}(N:Hid (∀w',X0 w' ->S w'))(h0:X0 w.drew)(h:S w.drew ->wpAnyH P .any ops Q S ops.size (UH ops.size false) a w.drew)(hm:P.follows .mixedOrders=true:=by kernel_rfl):(Code.region id ops true).wp P Q a w:=wp_region_held_drew hm (N _ h0) h
theorem zB{ops:Array Oper}{Q:Exit ->Act ->Ur ->Prop}{S:Ur ->Prop}{id:Nat}{X0 X1:Ur ->Prop}(N:Hid (∀w',X0 w' ->X1 w' ->S w'))(h0:X0 w.drew)(h1:X1 w.drew)(h:S w.drew ->wpAnyH P .any ops Q S ops.size (UH ops.size false) a w.drew)(hm:P.follows .mixedOrders=true:=by kernel_rfl):(Code.region id ops true).wp P Q a w:=wp_region_held_drew hm (N _ h0 h1) h
theorem zG{ops:Array Oper}{Q:Exit ->Act ->Ur ->Prop}{S:Ur ->Prop}{id:Nat}{X0 X1 X2 X3:Ur ->Prop}(N:Hid (∀w',X0 w' ->X1 w' ->X2 w' ->X3 w' ->S w'))(h0:X0 w.drew)(h1:X1 w.drew)(h2:X2 w.drew)(h3:X3 w.drew)(h:S w.drew ->wpAnyH P .any ops Q S ops.size (UH ops.size false) a w.drew)(hm:P.follows .mixedOrders=true:=by kernel_rfl):(Code.region id ops true).wp P Q a w:=wp_region_held_drew hm (N _ h0 h1 h2 h3) h
theorem zF{fn:Func}{R:Ending ->Ur ->Prop}(hr:(results fn a.tmps).run P w=.ok v w)(hR:R (Ui v) w)(hd:a.defers=[]:=by rfl):bodyPost P fn R .ret a w:=bodyPost_ret hr hd hR
theorem Qat (x:Int)(h0: -9223372036854775808<=x)(h1:x<=9223372036854775807):IntKind.i64.wrap x=x:=by
 rw [IntKind.wrap_i64];omega
theorem Qd4(hk:k<n)(h:QaF (R k) (F k) (T k)=false):QcS R F T n=false:=Qcr fun⟨h1,_⟩=>by
 have:=(h1 k hk).1;rw [h] at this;cases this
theorem Qc4(hk:k<n)(h0:0<k)(h:QaD (R (k - 1)) (T (k - 1)) (R k) (F k)=false):QcS R F T n=false:=Qcr fun⟨h1,_⟩=>by
 have:=(h1 k hk).2 h0;rw [h] at this;cases this
theorem Qg4 (a:Option Us)(n c:Nat)(R F T:Nat ->Int)(w:Ur)(hn:n<=1048576)(h:QaT w a n R F T):
  Cl 48 #[Uo #[Uf a n c]] w (Rt w (Un (QcS R F T n))):=by
 rcases h with h|⟨b,off,rfl,O,v⟩
 ·subst h;have U:Hid (QcS R F T 0=true):=Qal.2 ⟨fun i hi=>oM,oM⟩;go_enter func48,ntmps48;go_wp2_with fail;refine wp_loop_rounds 1 ?_;rw [rounds_succ];go_wp2_with fail;go_ret;exact⟨QbU U.symm,zO _ _⟩
 ·go_enter func48,ntmps48;go_wp2_with fail;go_loopw [3] (fun i wr=>∃k:Nat,k<=n/\ i=Ud k/\ Qeo R F T k/\ wr.cell? (Ub w.heap.size)=Uq (Uf (Uq (Ua b off)) n c)/\ Bl w wr/\ w.heap.size<wr.heap.size) (fun i _=>n - (intOf i).toNat);case atStart=>exact⟨0,Ux _,rfl,fun i hi=>oM,oP,zO _ _,oP⟩
  case round=>
   obtain⟨k,hk,rfl,A,g,r,V⟩:=hrel;have m:=Ut O r.size;by_cases Q:k<n
   ·have t:wr.cell? (Ua b (off+k*3))=Uq (Ud (R k)):=(r.cell (p:=(Ua b _)) O).trans (v k Q).1;have o:wr.cell? (Ua b (off+k*3+1))=Uq (Ud (F k)):=(r.cell (p:=(Ua b _)) O).trans (v k Q).2.1;have s:wr.cell? (Ua b (off+k*3+2))=Uq (Ud (T k)):=(r.cell (p:=(Ua b _)) O).trans (v k Q).2.2;have Ha:(0:Int)<=(k:Int):=UI _;have Hb:(k:Int)<(n:Int):=oM;have E:=hid r;have N:=hid A;cases hr:QaF (R k) (F k) (T k) with
    | false=>
     have M:=hid hr;clear hr v r A;go_wp2_with fail;refine zR (S:=fun w'=>Bl wr w'/\ w'.cell? (Ub w.heap.size)=Uq (Uf (Uq (Ua b off)) n c)/\ w'.cell? (Ua b (off+k*3))=Uq (Ud (R k))/\ w'.cell? (Ua b (off+k*3+1))=Uq (Ud (F k))/\ w'.cell? (Ua b (off+k*3+2))=Uq (Ud (T k))) ⟨zI.drew,g,t,o,s⟩ (fun qh=> ?_);refine tZ 0 11 ?_;refine tZ 1 12 ?_;refine tZ 2 13 ?_;refine tZ 3 14 ?_;refine tZ 4 15 ?_;refine cZ 5 ?_;intro K u;go_simp;refine(Qde _ _ _ _).mono ?_;rintro e D ⟨rfl,z⟩;rw [M.out];have j:=Qaa qh.1 z;refine u.out _ _ ⟨j,(j.cell (p:=(Ub w.heap.size)) V).trans g,(j.cell (p:=(Ua b _)) m).trans t,(j.cell (p:=(Ua b _)) m).trans o,(j.cell (p:=(Ua b _)) m).trans s⟩ (fun qh=> ?_);clear u K;try simp only [zP]
     refine tZ 6 17 ?_;refine tZ 7 18 ?_;refine uZ 8 19 ?_;refine uZ 9 20 ?_;refine uZ 10 21 ?_;refine uZ 11 22 ?_;refine uZ 12 23 ?_;refine uZ 13 24 ?_;refine uZ 14 25 ?_;refine uZ 15 26 ?_;refine uZ 16 27 ?_;refine uZ 17 28 ?_;refine uZ 18 29 ?_;refine uZ 19 30 ?_;refine uZ 20 31 ?_;refine uZ 21 32 ?_;refine uZ 22 33 ?_;refine uZ 23 34 ?_;refine uZ 24 35 ?_;refine tZ 25 36 ?_;refine zD ?_;have y:=hid (Qaa (wr:=wr) (w1:=wr) zI j);clear qh j z;go_wp2_with fail;go_ret;exact⟨QbU (Qd4 Q M).symm,E.trans (y.mono oM)⟩
    | true=>
     have M:=hid hr;clear hr;by_cases H:k=0
     ·have hg:decide (0<k)=false:=oS;have J:=hid H;clear v r A H;go_wp2_with fail;refine zR (S:=fun w'=>Bl wr w'/\ w'.cell? (Ub w.heap.size)=Uq (Uf (Uq (Ua b off)) n c)/\ w'.cell? (Ua b (off+k*3))=Uq (Ud (R k))/\ w'.cell? (Ua b (off+k*3+1))=Uq (Ud (F k))/\ w'.cell? (Ua b (off+k*3+2))=Uq (Ud (T k))) ⟨zI.drew,g,t,o,s⟩ (fun qh=> ?_);refine tZ 0 11 ?_;refine tZ 1 12 ?_;refine tZ 2 13 ?_;refine tZ 3 14 ?_;refine tZ 4 15 ?_;refine cZ 5 ?_;intro K u;go_simp;refine(Qde _ _ _ _).mono ?_;rintro e D ⟨rfl,z⟩;rw [M.out];have j:=Qaa qh.1 z;refine u.out _ _ ⟨j,(j.cell (p:=(Ub w.heap.size)) V).trans g,(j.cell (p:=(Ua b _)) m).trans t,(j.cell (p:=(Ua b _)) m).trans o,(j.cell (p:=(Ua b _)) m).trans s⟩ (fun qh=> ?_);clear u K;try simp only [zP]
      refine tZ 6 17 ?_;refine tZ 7 18 ?_;refine tZ 8 19 ?_;refine tZ 9 20 ?_;refine tZ 10 21 ?_;refine uZ 11 22 ?_;refine uZ 12 23 ?_;refine uZ 13 24 ?_;refine uZ 14 25 ?_;refine uZ 15 26 ?_;refine uZ 16 27 ?_;refine uZ 17 28 ?_;refine uZ 18 29 ?_;refine uZ 19 30 ?_;refine uZ 20 31 ?_;refine uZ 21 32 ?_;refine uZ 22 33 ?_;refine uZ 23 34 ?_;refine tZ 24 35 ?_;refine tZ 25 36 ?_;refine zD ?_;have L:=hid qh.2.1;have y:=hid j;clear qh j z;go_wp2_with fail;go_roundw;case rel=>exact⟨k+1,Q,oN,Qda N M (fun h=>oH J),L,E.trans (y.mono oM),oH y.size⟩
      case measure=>exact oE
     ·have hg:decide (0<k)=true:=oS;have Y:=(r.cell (p:=(Ua b (off+(k - 1)*3))) O).trans (v (k - 1) oM).1;have Z:=(r.cell (p:=(Ua b (off+(k - 1)*3+1))) O).trans (v (k - 1) oM).2.1;have G:=(r.cell (p:=(Ua b (off+(k - 1)*3+2))) O).trans (v (k - 1) oM).2.2;have P:IntKind.i64.wrap ((k:Int) - 1)=(k:Int) - 1:=Qat _ oM oM;have W:((k:Int) - 1).toNat=k - 1:=oM;have e2:(1:Int)<=(k:Int):=oM;have e3:(k:Int) - 1<(n:Int):=oM;have C:=Qbm.1 (A (k - 1) oM).1;have X:=hid C;have J:=hid H;clear v r A H C;go_wp2_with fail;refine zR (S:=fun w'=>Bl wr w'/\ w'.cell? (Ub w.heap.size)=Uq (Uf (Uq (Ua b off)) n c)/\ w'.cell? (Ua b (off+k*3))=Uq (Ud (R k))/\ w'.cell? (Ua b (off+k*3+1))=Uq (Ud (F k))/\ w'.cell? (Ua b (off+k*3+2))=Uq (Ud (T k))/\ w'.cell? (Ua b (off+(k - 1)*3))=Uq (Ud (R (k - 1)))/\ w'.cell? (Ua b (off+(k - 1)*3+1))=Uq (Ud (F (k - 1)))/\ w'.cell? (Ua b (off+(k - 1)*3+2))=Uq (Ud (T (k - 1)))) ⟨zI.drew,g,t,o,s,Y,Z,G⟩ (fun qh=> ?_);refine tZ 0 11 ?_;refine tZ 1 12 ?_;refine tZ 2 13 ?_;refine tZ 3 14 ?_;refine tZ 4 15 ?_;refine cZ 5 ?_;intro K u;go_simp;refine(Qde _ _ _ _).mono ?_;rintro e D ⟨rfl,z⟩;rw [M.out];have j:=Qaa qh.1 z;refine u.out _ _ ⟨j,(j.cell (p:=(Ub w.heap.size)) V).trans g,(j.cell (p:=(Ua b _)) m).trans t,(j.cell (p:=(Ua b _)) m).trans o,(j.cell (p:=(Ua b _)) m).trans s,(j.cell (p:=(Ua b _)) m).trans Y,(j.cell (p:=(Ua b _)) m).trans Z,(j.cell (p:=(Ua b _)) m).trans G⟩ (fun qh=> ?_);clear u K;try simp only [zP]
      refine tZ 6 17 ?_;refine tZ 7 18 ?_;refine tZ 8 19 ?_;refine tZ 9 20 ?_;refine tZ 10 21 ?_;refine tZ 11 22 ?_;refine tZ 12 23 ?_;refine tZ 13 24 ?_;refine tZ 14 25 ?_;refine tZ 15 26 ?_;refine tZ 16 27 ?_;refine tZ 17 28 ?_;refine tZ 18 29 ?_;refine tZ 19 30 ?_;refine tZ 20 31 ?_;refine tZ 21 32 ?_;refine cZ 22 ?_;intro K u;go_simp;refine(QjS (R (k - 1)) (F (k - 1)) (T (k - 1)) (R k) (F k) (T k) _ (oH X) (oH X)).mono ?_;rintro e w3 ⟨rfl,b3⟩;have q:=Qaa j b3;cases ha:QaD (R (k - 1)) (T (k - 1)) (R k) (F k) with
      | false=>
       have I:=hid ha;clear ha;refine u.out _ _ ⟨q,(q.cell (p:=(Ub w.heap.size)) V).trans g,(q.cell (p:=(Ua b _)) m).trans t,(q.cell (p:=(Ua b _)) m).trans o,(q.cell (p:=(Ua b _)) m).trans s,(q.cell (p:=(Ua b _)) m).trans Y,(q.cell (p:=(Ua b _)) m).trans Z,(q.cell (p:=(Ua b _)) m).trans G⟩ (fun qh=> ?_);clear u K;try simp only [zP]
       refine tZ 23 34 ?_;refine tZ 24 35 ?_;refine tZ 25 36 ?_;refine zD ?_;have y:=hid q;clear qh j z b3 q;go_wp2_with fail;go_ret;exact⟨QbU (Qc4 Q (oH J) I).symm,E.trans (y.mono oM)⟩
      | true=>
       have I:=hid ha;clear ha;refine u.out _ _ ⟨q,(q.cell (p:=(Ub w.heap.size)) V).trans g,(q.cell (p:=(Ua b _)) m).trans t,(q.cell (p:=(Ua b _)) m).trans o,(q.cell (p:=(Ua b _)) m).trans s,(q.cell (p:=(Ua b _)) m).trans Y,(q.cell (p:=(Ua b _)) m).trans Z,(q.cell (p:=(Ua b _)) m).trans G⟩ (fun qh=> ?_);clear u K;try simp only [zP]
       refine tZ 23 34 ?_;refine tZ 24 35 ?_;refine tZ 25 36 ?_;refine zD ?_;have L:=hid qh.2.1;have y:=hid q;clear qh j z b3 q P W e2 e3;go_wp2_with fail;go_roundw;case rel=>exact⟨k+1,Q,oN,Qda N M (fun _=>I.out),L,E.trans (y.mono oM),oH y.size⟩
       case measure=>exact oE
   ·obtain rfl:k=n:=oM;have E:=hid r;by_cases B:k<=1000
    ·have U:Hid (QcS R F T k=true):=Qal.2 ⟨A,B⟩;have hd:decide ((k:Int)<=1000)=true:=oS;clear v r A;go_wp2_with fail;go_ret;exact⟨QbU U.symm,E⟩
    ·have U:Hid (QcS R F T k=false):=Qcr fun h=>B h.2;have hd:decide ((k:Int)<=1000)=false:=oS;clear v r A;go_wp2_with fail;go_ret;exact⟨QbU U.symm,E⟩
theorem QlH (a:Option Us)(n c:Nat)(R F T:Nat ->Int)(w:Ur)(hn:n<=1048576)(h:QaT w a n R F T):
  Cl 138 #[Uo #[Uf a n c]] w (Rt w (Un (QcS R F T n))):=by
 by_cases hm:n<=1000;case neg=>
  have G:Hid (QcS R F T n=false):=Qcr fun h=>hm h.2;go_enter func138,ntmps138;go_wp2_with fail;go_ret;exact⟨QbU G.symm,zO _ _⟩
 rcases h with h|⟨b,off,rfl,Q,z⟩
 ·subst h;have G:Hid (QcS R F T 0=true):=Qal.2 ⟨fun i hi=>oM,oM⟩;go_enter func138,ntmps138;go_wp2_with fail;refine wp_loop_rounds 1 ?_;rw [rounds_succ];go_wp2_with fail;go_ret;exact⟨QbU G.symm,zO _ _⟩
 ·go_enter func138,ntmps138;go_wp2_with fail;go_loopw [12] (fun i wr=>∃k:Nat,k<=n/\ i=Ud k/\ Qeo R F T k/\ wr.cell? (Ub w.heap.size)=Uq (Uf (Uq (Ua b off)) n c)/\ Bl w wr/\ w.heap.size<wr.heap.size) (fun i _=>n - (intOf i).toNat);case atStart=>exact⟨0,Ux _,rfl,fun i hi=>oM,oP,zO _ _,oP⟩
  case round=>
   obtain⟨k,hk,rfl,V,L,y,He⟩:=hrel;have Hf:=Ut Q y.size;by_cases U:k<n
   ·have Hc:wr.cell? (Ua b (off+k*3))=Uq (Ud (R k)):=(y.cell (p:=(Ua b _)) Q).trans (z k U).1;have Ha:wr.cell? (Ua b (off+k*3+1))=Uq (Ud (F k)):=(y.cell (p:=(Ua b _)) Q).trans (z k U).2.1;have Hb:wr.cell? (Ua b (off+k*3+2))=Uq (Ud (T k)):=(y.cell (p:=(Ua b _)) Q).trans (z k U).2.2;have Y:=hid y;have HO:=hid V;obtain⟨u,v⟩:=zE (wr.alloc (Uj #[Ud (R k),Ud (F k),Ud (T k)] 89));have q:wr.heap.size<u.heap.size:=v▸oP;have H:w.heap.size<u.heap.size:=oM;have o:b<u.heap.size:=oM;have Z:Bl wr u:=v▸zO _ _;have s:u.cell? (Ub w.heap.size)=Uq (Uf (Uq (Ua b off)) n c):=(Z.cell (p:=(Ub w.heap.size)) He).trans L;have A:u.cell? (Ub wr.heap.size)=Uq (Ud (R k)):=v▸oP;have E:u.cell? (Ua wr.heap.size 1)=Uq (Ud (F k)):=v▸oP;have M:u.cell? (Ua wr.heap.size 2)=Uq (Ud (T k)):=v▸oP;have I:=hid Z;cases hr:QaF (R k) (F k) (T k) with
    | false=>
     have O:=hid hr;clear hr z y V Z;go_wp2_with fail;try rw [v]
     clear v L Hc Ha Hb;refine zR (S:=fun w'=>Bl u w'/\ w'.cell? (Ub w.heap.size)=Uq (Uf (Uq (Ua b off)) n c)/\ w'.cell? (Ub wr.heap.size)=Uq (Ud (R k))/\ w'.cell? (Ua wr.heap.size 1)=Uq (Ud (F k))/\ w'.cell? (Ua wr.heap.size 2)=Uq (Ud (T k))) ⟨zI.drew,s,A,E,M⟩ (fun qh=> ?_);refine tZ 0 17 ?_;refine cZ 1 ?_;intro K r;go_simp;refine(Qeb _ _ _ _).mono ?_;rintro e w2 ⟨rfl,t⟩;rw [O.out];have j:=Qaa qh.1 t;refine r.out _ _ ⟨j,(j.cell (p:=(Ub w.heap.size)) H).trans s,(j.cell (p:=(Ub wr.heap.size)) q).trans A,(j.cell (p:=(Ua wr.heap.size 1)) q).trans E,(j.cell (p:=(Ua wr.heap.size 2)) q).trans M⟩ (fun qh=> ?_);clear r K;try simp only [zP]
     refine tZ 2 19 ?_;refine tZ 3 20 ?_;refine uZ 4 21 ?_;refine uZ 5 22 ?_;refine uZ 6 23 ?_;refine uZ 7 24 ?_;refine uZ 8 25 ?_;refine uZ 9 26 ?_;refine uZ 10 27 ?_;refine uZ 11 28 ?_;refine uZ 12 29 ?_;refine uZ 13 30 ?_;refine uZ 14 31 ?_;refine uZ 15 32 ?_;refine uZ 16 33 ?_;refine tZ 17 34 ?_;refine zD ?_;have g:=hid j;clear qh j t;go_wp2_with fail;go_ret;exact⟨QbU (Qd4 U O).symm,Y.trans ((I.trans (g.mono oM)).mono oM)⟩
    | true=>
     have O:=hid hr;clear hr;by_cases C:k=0
     ·have hg:decide (0<k)=false:=oS;have P:=hid C;clear z y V C Z;go_wp2_with fail;try rw [v]
      clear v L Hc Ha Hb;refine zR (S:=fun w'=>Bl u w'/\ w'.cell? (Ub w.heap.size)=Uq (Uf (Uq (Ua b off)) n c)/\ w'.cell? (Ub wr.heap.size)=Uq (Ud (R k))/\ w'.cell? (Ua wr.heap.size 1)=Uq (Ud (F k))/\ w'.cell? (Ua wr.heap.size 2)=Uq (Ud (T k))) ⟨zI.drew,s,A,E,M⟩ (fun qh=> ?_);refine tZ 0 17 ?_;refine cZ 1 ?_;intro K r;go_simp;refine(Qeb _ _ _ _).mono ?_;rintro e w2 ⟨rfl,t⟩;rw [O.out];have j:=Qaa qh.1 t;refine r.out _ _ ⟨j,(j.cell (p:=(Ub w.heap.size)) H).trans s,(j.cell (p:=(Ub wr.heap.size)) q).trans A,(j.cell (p:=(Ua wr.heap.size 1)) q).trans E,(j.cell (p:=(Ua wr.heap.size 2)) q).trans M⟩ (fun qh=> ?_);clear r K;try simp only [zP]
      refine tZ 2 19 ?_;refine tZ 3 20 ?_;refine tZ 4 21 ?_;refine tZ 5 22 ?_;refine tZ 6 23 ?_;refine uZ 7 24 ?_;refine uZ 8 25 ?_;refine uZ 9 26 ?_;refine uZ 10 27 ?_;refine uZ 11 28 ?_;refine uZ 12 29 ?_;refine uZ 13 30 ?_;refine uZ 14 31 ?_;refine uZ 15 32 ?_;refine tZ 16 33 ?_;refine tZ 17 34 ?_;refine zD ?_;have W:=hid qh.2.1;have g:=hid j;clear qh j t;go_wp2_with fail;go_roundw;case rel=>exact⟨k+1,U,oN,Qda HO O (fun h=>oH P),W,Y.trans ((I.trans (g.mono oM)).mono oM),oH g.size⟩
      case measure=>exact oE
     ·have hg:decide (0<k)=true:=oS;have J:=y.trans (Z.mono oM);have N:=(J.cell (p:=(Ua b (off+(k - 1)*3))) Q).trans (z (k - 1) oM).1;have X:=(J.cell (p:=(Ua b (off+(k - 1)*3+1))) Q).trans (z (k - 1) oM).2.1;have B:=(J.cell (p:=(Ua b (off+(k - 1)*3+2))) Q).trans (z (k - 1) oM).2.2;have e0:IntKind.i64.wrap ((k:Int) - 1)=(k:Int) - 1:=Qat _ oM oM;have e1:((k:Int) - 1).toNat=k - 1:=oM;have e2:(1:Int)<=(k:Int):=oM;have e3:(k:Int) - 1<(n:Int):=oM;have Hd:=Qbm.1 (V (k - 1) oM).1;have HP:=hid Hd;have P:=hid C;clear z y V C Hd Z J;go_wp2_with fail;try rw [v]
      clear v L Hc Ha Hb;refine zR (S:=fun w'=>Bl u w'/\ w'.cell? (Ub w.heap.size)=Uq (Uf (Uq (Ua b off)) n c)/\ w'.cell? (Ub wr.heap.size)=Uq (Ud (R k))/\ w'.cell? (Ua wr.heap.size 1)=Uq (Ud (F k))/\ w'.cell? (Ua wr.heap.size 2)=Uq (Ud (T k))/\ w'.cell? (Ua b (off+(k - 1)*3))=Uq (Ud (R (k - 1)))/\ w'.cell? (Ua b (off+(k - 1)*3+1))=Uq (Ud (F (k - 1)))/\ w'.cell? (Ua b (off+(k - 1)*3+2))=Uq (Ud (T (k - 1)))) ⟨zI.drew,s,A,E,M,N,X,B⟩ (fun qh=> ?_);refine tZ 0 17 ?_;refine cZ 1 ?_;intro K r;go_simp;refine(Qeb _ _ _ _).mono ?_;rintro e w2 ⟨rfl,t⟩;rw [O.out];have j:=Qaa qh.1 t;refine r.out _ _ ⟨j,(j.cell (p:=(Ub w.heap.size)) H).trans s,(j.cell (p:=(Ub wr.heap.size)) q).trans A,(j.cell (p:=(Ua wr.heap.size 1)) q).trans E,(j.cell (p:=(Ua wr.heap.size 2)) q).trans M,(j.cell (p:=(Ua b _)) o).trans N,(j.cell (p:=(Ua b _)) o).trans X,(j.cell (p:=(Ua b _)) o).trans B⟩ (fun qh=> ?_);clear r K;try simp only [zP]
      refine tZ 2 19 ?_;refine tZ 3 20 ?_;refine tZ 4 21 ?_;refine tZ 5 22 ?_;refine tZ 6 23 ?_;refine tZ 7 24 ?_;refine tZ 8 25 ?_;refine tZ 9 26 ?_;refine tZ 10 27 ?_;refine tZ 11 28 ?_;refine tZ 12 29 ?_;refine tZ 13 30 ?_;refine cZ 14 ?_;intro K r;go_simp;refine(QgT (R (k - 1)) (F (k - 1)) (T (k - 1)) (R k) (F k) (T k) _ (oH HP) (oH HP)).mono ?_;rintro e w3 ⟨rfl,b3⟩;have m:=Qaa j b3;cases ha:QaD (R (k - 1)) (T (k - 1)) (R k) (F k) with
      | false=>
       have D:=hid ha;clear ha;refine r.out _ _ ⟨m,(m.cell (p:=(Ub w.heap.size)) H).trans s,(m.cell (p:=(Ub wr.heap.size)) q).trans A,(m.cell (p:=(Ua wr.heap.size 1)) q).trans E,(m.cell (p:=(Ua wr.heap.size 2)) q).trans M,(m.cell (p:=(Ua b _)) o).trans N,(m.cell (p:=(Ua b _)) o).trans X,(m.cell (p:=(Ua b _)) o).trans B⟩ (fun qh=> ?_);clear r K;try simp only [zP]
       refine tZ 15 32 ?_;refine tZ 16 33 ?_;refine tZ 17 34 ?_;refine zD ?_;have g:=hid m;clear qh j t b3 m;go_wp2_with fail;go_ret;exact⟨QbU (Qc4 U (oH P) D).symm,Y.trans ((I.trans (g.mono oM)).mono oM)⟩
      | true=>
       have D:=hid ha;clear ha;refine r.out _ _ ⟨m,(m.cell (p:=(Ub w.heap.size)) H).trans s,(m.cell (p:=(Ub wr.heap.size)) q).trans A,(m.cell (p:=(Ua wr.heap.size 1)) q).trans E,(m.cell (p:=(Ua wr.heap.size 2)) q).trans M,(m.cell (p:=(Ua b _)) o).trans N,(m.cell (p:=(Ua b _)) o).trans X,(m.cell (p:=(Ua b _)) o).trans B⟩ (fun qh=> ?_);clear r K;try simp only [zP]
       refine tZ 15 32 ?_;refine tZ 16 33 ?_;refine tZ 17 34 ?_;refine zD ?_;have W:=hid qh.2.1;have g:=hid m;clear qh j t b3 m e0 e1 e2 e3;go_wp2_with fail;go_roundw;case rel=>exact⟨k+1,U,oN,Qda HO O (fun _=>D.out),W,Y.trans ((I.trans (g.mono oM)).mono oM),oH g.size⟩
       case measure=>exact oE
   ·obtain rfl:k=n:=oM;have Y:=hid y;have G:Hid (QcS R F T k=true):=Qal.2 ⟨V,hm⟩;clear z y V;go_wp2_with fail;go_ret;exact⟨QbU G.symm,Y⟩
def gS (p:List ByteArray)(i:Nat):ByteArray:=p.getD i ByteArray.empty
def QaP (w:Ur)(a:Option Us)(p:List ByteArray):Prop:=
 p.length=0 \/∃b off,a=Uq (Ua b off)/\ b<w.heap.size/\∀i,i<p.length ->w.cell? (Ua b (off+i))=Uq (Um (gS p i))
theorem QaP.kept{a:Option Us}(h:QaP w a p)(hb:Below B w w1)(hB:w.heap.size<=B):QaP w1 a p:=by
 refine h.imp id ?_;rintro⟨b,off,e,j,k⟩;exact⟨b,off,e,Ut j hb.size,fun i hi=>(hb.cell (p:=(Ua b (off+i))) (Ut j hB)).trans (k i hi)⟩
theorem QaP.bw{a:Option Us}(h:QaP w a p)(hb:Bl w w1):QaP w1 a p:=h.kept hb zL
structure Lf where
 p:List ByteArray
 fl:Bool
 r:Int
 q:Int
 v:ByteArray
def gL (l:List Lf)(i:Nat):Lf:=l.getD i ⟨[],false,0,0,ByteArray.empty⟩
def Qe9 (w:Ur)(a:Option Us)(l:List Lf):Prop:=
 l.length=0 \/∃b off,a=Uq (Ua b off)/\ b<w.heap.size/\∀i,i<l.length ->∃pa pc,w.cell? (Ua b (off+i*5))=Uq (Uf pa (gL l i).p.length pc)/\ QaP w pa (gL l i).p/\ w.cell? (Ua b (off+i*5+1))=Uq (Un (gL l i).fl)/\ w.cell? (Ua b (off+i*5+2))=Uq (Ud (gL l i).r)/\ w.cell? (Ua b (off+i*5+3))=Uq (Ud (gL l i).q)/\ w.cell? (Ua b (off+i*5+4))=Uq (Um (gL l i).v)
theorem Qe9.bw{a:Option Us}{l:List Lf}(h:Qe9 w a l)(hb:Bl w w1):Qe9 w1 a l:=by
 refine h.imp id ?_;rintro⟨b,off,e,j,y⟩;refine⟨b,off,e,Ut j hb.size,fun i hi=> ?_⟩;obtain⟨z,pc,k,s,m,r,u,v⟩:=y i hi;have q:=fun o=>hb.cell (p:=(Ua b o)) j;exact⟨z,pc,(q _).trans k,s.bw hb,(q _).trans m,(q _).trans r,(q _).trans u,(q _).trans v⟩
def LfI (x:Lf):Prop:=(Lit.int Uh x.r).wf=true/\ (Lit.int Uh x.q).wf=true
theorem Qca (b off j:Nat):((Ua b off):Us).add j=(Ua b (off+j)):=by
 by_cases k:j=0
 ·subst k;rfl
 ·simp [Addr.add,k]
def LBd (l:List Lf):Prop:=∀i,(gL l i).p.length<=1048576
theorem Qo2(h:p.length<=i):gS p i=ByteArray.empty:=by simp [gS,UA,List.getElem?_eq_none h]
theorem Qdn:(prog.info? 9).map (fun i=>(i.zero,i.size,i.bytes))=Uq (Uq (Um ByteArray.empty),1,16):=oK
structure Bx5 (w:Ur)(b:Nat)(v0 v1 v2 v3 v4:Value):Prop where
 c0:w.cell? (Ub b)=Uq v0
 c1:w.cell? (Ua b 1)=Uq v1
 c2:w.cell? (Ua b 2)=Uq v2
 c3:w.cell? (Ua b 3)=Uq v3
 c4:w.cell? (Ua b 4)=Uq v4
 f:∀i,w.frozen? (Ua b i)=false
 lt:b<w.heap.size
theorem Bx5.q2(h:Bx5 w b v0 v1 v2 v3 v4):w.cell? (Ub b)=Uq v0/\ w.cell? (Ua b 1)=Uq v1:=⟨h.c0,h.c1⟩
theorem Bx5.p2(h:Bx5 w b v0 v1 v2 v3 v4):w.cell? (Ub b)=Uq v0/\ w.cell? (Ua b 1)=Uq v1/\ ∀i,w.frozen? (Ua b i)=false:=⟨h.c0,h.c1,h.f⟩
theorem Bx5.q3(h:Bx5 w b v0 v1 v2 v3 v4):w.cell? (Ub b)=Uq v0/\ w.cell? (Ua b 1)=Uq v1/\ w.cell? (Ua b 2)=Uq v2:=⟨h.c0,h.c1,h.c2⟩
theorem Bx5.p3(h:Bx5 w b v0 v1 v2 v3 v4):w.cell? (Ub b)=Uq v0/\ w.cell? (Ua b 1)=Uq v1/\ w.cell? (Ua b 2)=Uq v2/\ ∀i,w.frozen? (Ua b i)=false:=⟨h.c0,h.c1,h.c2,h.f⟩
theorem Bx5.q5(h:Bx5 w b v0 v1 v2 v3 v4):w.cell? (Ub b)=Uq v0/\ w.cell? (Ua b 1)=Uq v1/\ w.cell? (Ua b 2)=Uq v2/\ w.cell? (Ua b 3)=Uq v3/\ w.cell? (Ua b 4)=Uq v4:=⟨h.c0,h.c1,h.c2,h.c3,h.c4⟩
theorem Bx5.p5(h:Bx5 w b v0 v1 v2 v3 v4):w.cell? (Ub b)=Uq v0/\ w.cell? (Ua b 1)=Uq v1/\ w.cell? (Ua b 2)=Uq v2/\ w.cell? (Ua b 3)=Uq v3/\ w.cell? (Ua b 4)=Uq v4/\ ∀i,w.frozen? (Ua b i)=false:=⟨h.c0,h.c1,h.c2,h.c3,h.c4,h.f⟩
theorem Bx5.bw(h:Bx5 w b v0 v1 v2 v3 v4)(hb:Below B w w')(hB:b<B):Bx5 w' b v0 v1 v2 v3 v4:=
 ⟨(hb.cell (p:=(Ub b)) hB).trans h.c0,(hb.cell (p:=(Ua b 1)) hB).trans h.c1,(hb.cell (p:=(Ua b 2)) hB).trans h.c2,(hb.cell (p:=(Ua b 3)) hB).trans h.c3,(hb.cell (p:=(Ua b 4)) hB).trans h.c4,fun i=>(hb.frozen (p:=(Ua b i)) hB).trans (h.f i),Ut h.lt hb.size⟩
theorem Bx5.setAt(h:Bx5 w b v0 v1 v2 v3 v4)(q:Us)(u:Value)(hq:q.block≠b):Bx5 (w.setCell q u) b v0 v1 v2 v3 v4:=
 ⟨by rw [UJ _ _ _ _ hq];exact h.c0,by rw [UJ _ _ _ _ hq];exact h.c1,by rw [UJ _ _ _ _ hq];exact h.c2,by rw [UJ _ _ _ _ hq];exact h.c3,by rw [UJ _ _ _ _ hq];exact h.c4,fun i=>by rw [UK];exact h.f i,by simp [UL];exact h.lt⟩
theorem Bx5.set0(h:Bx5 w b v0 v1 v2 v3 v4)(u:Value):Bx5 (w.setCell (Ub b) u) b u v1 v2 v3 v4:=
 ⟨UM _ _ _ h.c0,by simp [UN,h.c1],by simp [UN,h.c2],by simp [UN,h.c3],by simp [UN,h.c4],fun i=>by rw [UK];exact h.f i,by simp [UL];exact h.lt⟩
theorem Bx5.set1(h:Bx5 w b v0 v1 v2 v3 v4)(u:Value):Bx5 (w.setCell (Ua b 1) u) b v0 u v2 v3 v4:=
 ⟨by simp [UN,h.c0],UM _ _ _ h.c1,by simp [UN,h.c2],by simp [UN,h.c3],by simp [UN,h.c4],fun i=>by rw [UK];exact h.f i,by simp [UL];exact h.lt⟩
theorem QcX:(prog.info? 85).map (fun i=>(i.zero,i.size,i.bytes))=Uq (Uq (Uo #[Ue,Un false,Ud 0,Ud 0,Um ByteArray.empty]),5,64):=oK
def QbY (w:Ur)(a:Option Us)(l:List Lf):Prop:=
 l.length=0 \/∃b off,a=Uq (Ua b off)/\ b<w.heap.size/\∀i,i<l.length ->∃pa pc,(w.cell? (Ua b (off+i*5))=Uq (Uf pa (gL l i).p.length pc)/\ (gL l i).p.length<=pc/\ pc<=9223372036854775807)/\ QaP w pa (gL l i).p/\ w.cell? (Ua b (off+i*5+1))=Uq (Un (gL l i).fl)/\ w.cell? (Ua b (off+i*5+2))=Uq (Ud (gL l i).r)/\ w.cell? (Ua b (off+i*5+3))=Uq (Ud (gL l i).q)/\ w.cell? (Ua b (off+i*5+4))=Uq (Um (gL l i).v)
theorem QbY.bw{a:Option Us}{l:List Lf}(h:QbY w a l)(hb:Bl w w1):QbY w1 a l:=by
 refine h.imp id ?_;rintro⟨b,off,e,j,z⟩;refine⟨b,off,e,Ut j hb.size,fun i hi=> ?_⟩;obtain⟨g,pc,⟨k,y⟩,s,m,r,u,v⟩:=z i hi;have q:=fun o=>hb.cell (p:=(Ua b o)) j;exact⟨g,pc,⟨(q _).trans k,y⟩,s.bw hb,(q _).trans m,(q _).trans r,(q _).trans u,(q _).trans v⟩
theorem QbY.seg{a:Option Us}{l:List Lf}(h:QbY w a l):Qe9 w a l:=by
 refine h.imp id ?_;rintro⟨b,off,e,v,u⟩;refine⟨b,off,e,v,fun i hi=> ?_⟩;obtain⟨y,pc,⟨j,_⟩,s,k,m,q,r⟩:=u i hi;exact⟨y,pc,j,s,k,m,q,r⟩
def ltS (s t:ByteArray):Bool:=Op.bytesLess s.toList t.toList
def eqS (s t:ByteArray):Bool:=s.toList==t.toList
def QbI (s t:ByteArray):Int:=if ltS s t=true then -1 else if eqS s t=true then 0 else 1
def QaC:List ByteArray ->List ByteArray ->Int
 | [],[]=>0
 | [],_::_=> -1
 | _::_,[]=>1
 | s::p,t::q=>if QbI s t=0 then QaC p q else QbI s t
theorem QaP.tail{o:Nat}(hb:b<w.heap.size)(h:∀i,i<(s::p).length ->w.cell? (Ua b (o+i))=Uq (Um (gS (s::p) i))):QaP w (Uq (Ua b (o+1))) p:=
 .inr ⟨b,o+1,rfl,hb,fun i hi=>by
  have e:=h (i+1) oS;rw [show o+(i+1)=o+1+i by omega] at e;exact e⟩
theorem QaP.drews{a:Option Us}(h:QaP w a p):QaP (w.drewN k) a p:=h
theorem QbF {y:Int}(h:x=y):Ending.returned (Ud x)=Ui (Ud y):=by rw [h]
theorem Qdj:∀(p q:List ByteArray) (a b:Option Us) (c d:Nat) (w:Ur),p.length<=c ->q.length<=d ->c<=9223372036854775807 ->d<=9223372036854775807 ->QaP w a p ->QaP w b q ->
  Cl 73 #[Uf a p.length c,Uf b q.length d] w fun e w'=>e=Ui (Ud (QaC p q))/\∃k,w'=w.drewN k
 | [],[],a,b,c,d,w,_,_,_,_,_,_=>by
  go_enter func73,ntmps73;go_wp2_with fail;go_ret;exact⟨rfl,0,rfl⟩
 | [],t::q,a,b,c,d,w,_,_,_,_,_,_=>by
  have N:(((t::q).length:Int)==0)=false:=oS;go_enter func73,ntmps73;go_wp2_with fail;go_ret;exact⟨rfl,0,rfl⟩
 | s::p,[],a,b,c,d,w,_,_,_,_,_,_=>by
  have N:(((s::p).length:Int)==0)=false:=oS;go_enter func73,ntmps73;go_wp2_with fail;go_ret;exact⟨rfl,0,rfl⟩
 | s::p,t::q,a,b,c,d,w,hc,hd,hc',hd',h,g=>by
  obtain⟨n,G⟩:=zE ((s::p).length);obtain⟨m,Z⟩:=zE ((t::q).length);rcases h with h|⟨o,E,rfl,D,h⟩
  ·simp at h
  rcases g with g|⟨i,M,rfl,F,g⟩
  ·simp at g
  have x0:w.cell? (Ua o E)=Uq (Um s):=by simpa [gS] using h 0 oP
  have S:w.cell? (Ua i M)=Uq (Um t):=by simpa [gS] using g 0 oP
  have C:n=p.length+1:=G▸oP;have X:m=q.length+1:=Z▸oP;have U:=hid (QaP.tail D h);have V:=hid (QaP.tail F g);have N:((n:Int)==0)=false:=oS;have d1:((m:Int)==0)=false:=oS;have I:=hid C;have H:=hid X;have Hf:(0:Int)<(n:Int):=oM;have Hd:(0:Int)<(m:Int):=oM;have Hb:n<=c:=G▸hc;have Hc:m<=d:=Z▸hd;rw [G,Z];clear C X G Z hc hd h g;by_cases Q:Op.bytesLess s.toList t.toList=true
  ·have v:Hid (QaC (s::p) (t::q)= -1):=hid (by simp [QaC,QbI,ltS,Q]);clear U V;go_enter func73,ntmps73;go_wp2_with fail;go_quiet (fail);go_wp2_with fail;go_ret;exact⟨QbF v.symm,_,rfl⟩
  ·have Q:Op.bytesLess s.toList t.toList=false:=oU Q;by_cases Y:(s.toList==t.toList)=true
   ·have v:Hid (QaC (s::p) (t::q)=QaC p q):=hid (by simp only [QaC,QbI,ltS,eqS,Q,Y];simp);have y:Hid (∀A B W,QaP W A p ->QaP W B q ->Cl 73 #[Uf A (n - 1) (c - 1),Uf B (m - 1) (d - 1)] W fun e w'=>e=Ui (Ud (QaC p q))/\∃m,w'=W.drewN m):=hid (fun A B W hA hB=>by
     have e1:=I.out;have e2:=H.out;rw [show n - 1=p.length by omega,show m - 1=q.length by omega];exact Qdj p q A B (c - 1) (d - 1) _ oM oM oM oM hA hB)
    have Hg:(1:Int)<=(n:Int):=oM;have He:(1:Int)<=(m:Int):=oM;go_enter func73,ntmps73;go_wp2_with fail;go_quiet (fail);obtain⟨J,O⟩:=zE (w.drewN nq);rw [O];have R:J.cell? (Ua o E)=Uq (Um s):=O▸x0;have T:J.cell? (Ua i M)=Uq (Um t):=O▸S;have L:=hid O;clear O;go_wp2_with fail;go_quiet (fail);obtain⟨u,K⟩:=zE (J.drewN nq);rw [K];have z:Hid (∃k,u=w.drewN k):=hid ⟨_,by rw [<- K,<- L.out,UO]⟩;clear K L R T;go_wp2_with fail;by_cases Ha:1<c
    ·skip;by_cases P:1<d
     ·skip;have j:Hid (QaP u (Uq (Ua o (E+1))) p):=hid (by obtain⟨k,e⟩:=z.out;rw [e];exact U);have r:Hid (QaP u (Uq (Ua i (M+1))) q):=hid (by obtain⟨k,e⟩:=z.out;rw [e];exact V);go_quiet ((go_at_call 73;exact Calls.quiet_of (y _ _ _ j.drews r.drews)));clear j r y;go_wp2_with fail;go_ret;obtain⟨k,e⟩:=z.out;exact⟨QbF v.symm,_,by rw [e,UO]⟩
     ·skip;have j:Hid (QaP u (Uq (Ua o (E+1))) p):=hid (by obtain⟨k,e⟩:=z.out;rw [e];exact U);have r:=hid (show QaP u (Uq (Ua i M)) q from .inl (oH H));go_quiet ((go_at_call 73;exact Calls.quiet_of (y _ _ _ j.drews r.drews)));clear j r y;go_wp2_with fail;go_ret;obtain⟨k,e⟩:=z.out;exact⟨QbF v.symm,_,by rw [e,UO]⟩
    ·skip;by_cases P:1<d
     ·skip;have j:=hid (show QaP u (Uq (Ua o E)) p from .inl (oH I));have r:Hid (QaP u (Uq (Ua i (M+1))) q):=hid (by obtain⟨k,e⟩:=z.out;rw [e];exact V);go_quiet ((go_at_call 73;exact Calls.quiet_of (y _ _ _ j.drews r.drews)));clear j r y;go_wp2_with fail;go_ret;obtain⟨k,e⟩:=z.out;exact⟨QbF v.symm,_,by rw [e,UO]⟩
     ·skip;have j:=hid (show QaP u (Uq (Ua o E)) p from .inl (oH I));have r:=hid (show QaP u (Uq (Ua i M)) q from .inl (oH H));go_quiet ((go_at_call 73;exact Calls.quiet_of (y _ _ _ j.drews r.drews)));clear j r y;go_wp2_with fail;go_ret;obtain⟨k,e⟩:=z.out;exact⟨QbF v.symm,_,by rw [e,UO]⟩
   ·have Y:(s.toList==t.toList)=false:=oU Y;have v:Hid (QaC (s::p) (t::q)=1):=hid (by simp [QaC,QbI,ltS,eqS,Q,Y]);clear U V;go_enter func73,ntmps73;go_wp2_with fail;go_quiet (fail);go_wp2_with fail;go_quiet (fail);go_wp2_with fail;go_ret;exact⟨QbF v.symm,_,UO _ _ _⟩
theorem QiT (s t:ByteArray)(w:Ur):Cl 146 #[Um s,Um t] w fun e w'=>e=Ui (Ud (QbI s t))/\ w'=w:=by
 have q:∀(s:ByteArray) (w:Ur),Cl 170 #[Um s] w fun e w'=>e=Ui (Un false)/\ w'=w:=fun s w=>by
  have e:(s.toList==s.toList)=true:=oP;go_enter func170,ntmps170;go_wp2_with fail;go_ret;exact⟨rfl,rfl⟩
 by_cases k:Op.bytesLess s.toList t.toList=true
 ·have j:Hid (QbI s t= -1):=hid (by simp [QbI,ltS,k]);go_enter func146,ntmps146;go_wp2_with (go_at_call 170;refine(q _ _).mono ?_;rintro e w' ⟨rfl,rfl⟩);go_ret;exact⟨QbF j.symm,rfl⟩
 ·have k:Op.bytesLess s.toList t.toList=false:=oU k;by_cases m:(s.toList==t.toList)=true
  ·have j:Hid (QbI s t=0):=hid (by simp only [QbI,ltS,eqS,k,m];simp);go_enter func146,ntmps146;go_wp2_with (go_at_call 170;refine(q _ _).mono ?_;rintro e w' ⟨rfl,rfl⟩);go_ret;exact⟨QbF j.symm,rfl⟩
  ·have m:(s.toList==t.toList)=false:=oU m;have j:Hid (QbI s t=1):=hid (by simp [QbI,ltS,eqS,k,m]);go_enter func146,ntmps146;go_wp2_with (go_at_call 170;refine(q _ _).mono ?_;rintro e w' ⟨rfl,rfl⟩);go_ret;exact⟨QbF j.symm,rfl⟩
theorem Qfs(h:k<p.length):p.drop k=gS p k::p.drop (k+1):=by
 rw [List.drop_eq_getElem_cons h];simp [gS,UA,h]
theorem Qky(h:k<p.length)(h':q.length<=k):QaC (p.drop k) (q.drop k)=1:=by
 rw [Qfs h,UE h'];rfl
theorem Qkw(h:p.length<=k)(h':k<q.length):QaC (p.drop k) (q.drop k)= -1:=by
 rw [Qfs h',UE h];rfl
theorem Qkx(h:p.length<=k)(h':q.length<=k):QaC (p.drop k) (q.drop k)=0:=by
 rw [UE h',UE h];rfl
theorem QmB(h:k<p.length)(h':k<q.length):QaC (p.drop k) (q.drop k)=if QbI (gS p k) (gS q k)=0 then QaC (p.drop (k+1)) (q.drop (k+1)) else QbI (gS p k) (gS q k):=by
 rw [Qfs h,Qfs h'];rfl
theorem QmA (p q:List ByteArray)(a b:Option Us)(c d:Nat)(w:Ur)(hp:p.length<=1048576)(hq:q.length<=1048576)(h:QaP w a p)(u:QaP w b q):
  Cl 167 #[Uf a p.length c,Uf b q.length d] w fun e w'=>e=Ui (Ud (QaC p q))/\ w'=w:=by
 go_enter func167,ntmps167;go_wp2_with fail;go_loop [11] (fun i=>∃k:Nat,k<=p.length/\ i=Ud (k:Int)/\ k<=q.length/\ Hid (QaC p q=QaC (p.drop k) (q.drop k))) (fun i=>p.length - (intOf i).toNat);case atStart=>exact⟨0,Ux _,rfl,Ux _,hid rfl⟩
 case round=>
  obtain⟨k,G,rfl,H,m⟩:=hrel;by_cases v:k<p.length
  ·rcases h with h|⟨U,N,rfl,Y,z⟩
   ·omega
   have x0:=z k v;have I:(0:Int)<=(k:Int):=UI _;have J:(k:Int)<(p.length:Int):=oM;by_cases r:k<q.length
   ·rcases u with u|⟨V,X,rfl,Z,M⟩
    ·omega
    have Q:=M k r;have K:(k:Int)<(q.length:Int):=oM;have A:decide ((q.length:Int)<=(k:Int))=false:=oS;have j:=hid (QmB v r);obtain⟨s,g⟩:=zE (gS p k);obtain⟨t,o⟩:=zE (gS q k);rw [g] at x0;rw [o] at Q;have j:Hid (QaC p q=if QbI s t=0 then QaC (p.drop (k+1)) (q.drop (k+1)) else QbI s t):=hid (by rw [m.out,j.out,g,o]);have E:=hid (QiT s t w);obtain⟨x,O⟩:=zE (QbI s t);rw [O] at E j;clear z M g o m O;go_wp2_with fail;refine E.mono ?_;rintro e w' ⟨rfl,rfl⟩;by_cases y:x=0
    ·subst y;have j:Hid (QaC p q=QaC (p.drop (k+1)) (q.drop (k+1))):=hid (by rw [j.out,if_pos rfl]);go_wp2_with fail;go_round;case rel=>exact⟨k+1,v,oN,r,j⟩
     case measure=>exact oE
    ·have j:Hid (QaC p q=x):=hid (by rw [j.out,if_neg y]);have L:(x !=0)=true:=oU y;go_wp2_with fail;go_ret;exact⟨QbF j.symm,rfl⟩
   ·have A:decide ((q.length:Int)<=(k:Int))=true:=oS;have j:Hid (QaC p q=1):=hid (by rw [m.out];exact Qky v oM);clear z m;go_wp2_with fail;go_ret;exact⟨QbF j.symm,rfl⟩
  ·obtain rfl:k=p.length:=oM;by_cases r:p.length<q.length
   ·have j:Hid (QaC p q= -1):=hid (by rw [m.out];exact Qkw zL r);have A:decide ((p.length:Int)<(q.length:Int))=true:=oS;clear h u m;go_wp2_with fail;go_ret;exact⟨QbF j.symm,rfl⟩
   ·have j:Hid (QaC p q=0):=hid (by rw [m.out];exact Qkx zL oM);have A:decide ((p.length:Int)<(q.length:Int))=false:=oS;clear h u m;go_wp2_with fail;go_ret;exact⟨QbF j.symm,rfl⟩
def Qbb (p:List ByteArray):Prop:=1<=p.length/\ p.length<=8/\∀i,i<p.length ->1<=(gS p i).size/\ (gS p i).size<=40
noncomputable def yes (P:Prop):Bool:=@decide P (Classical.propDecidable P)
theorem Qaj {P:Prop}(h:P):yes P=true:=by unfold yes;exact @decide_eq_true _ (Classical.propDecidable P) h
theorem Qag {P:Prop}(h:¬P):yes P=false:=by unfold yes;exact @decide_eq_false _ (Classical.propDecidable P) h
theorem QcJ {P:Prop}:yes P=true↔P:=⟨fun h=>by unfold yes at h;exact @of_decide_eq_true _ (Classical.propDecidable P) h,Qaj⟩
theorem Qaz {x y:Bool}(h:x=y):Ending.returned (Un x)=Ui (Un y):=by rw [h]
theorem QfC (p:List ByteArray)(a:Option Us)(c:Nat)(w:Ur)(hp:p.length<=1048576)(h:QaP w a p):
  Cl 49 #[Uf a p.length c] w fun e w'=>e=Ui (Un (yes (Qbb p)))/\ w'=w:=by
 go_enter func49,ntmps49;go_wp2_with fail;go_loop [3] (fun i=>∃k:Nat,k<=p.length/\ i=Ud (k:Int)/\ Hid (∀j,j<k ->1<=(gS p j).size/\ (gS p j).size<=40)) (fun i=>p.length - (intOf i).toNat);case atStart=>exact⟨0,Ux _,rfl,hid (fun j hj=>oM)⟩
 case round=>
  obtain⟨k,M,rfl,y⟩:=hrel;by_cases v:k<p.length
  ·rcases h with h|⟨A,U,rfl,E,b⟩
   ·omega
   have x0:=b k v;have O:(0:Int)<=(k:Int):=UI _;have Q:(k:Int)<(p.length:Int):=oM;obtain⟨s,o⟩:=zE (gS p k);rw [o] at x0;have z:=hid o;clear b o;by_cases r:(s.size:Int)<1
   ·have g:decide ((s.size:Int)<1)=true:=oU r;have m:Hid (yes (Qbb p)=false):=hid (Qag (fun h=>by have:=(h.2.2 k v).1;rw [z.out] at this;omega));go_wp2_with fail;go_ret;exact⟨Qaz m.symm,rfl⟩
   ·have g:decide ((s.size:Int)<1)=false:=oU r;by_cases u:(40:Int)<(s.size:Int)
    ·have t:decide ((40:Int)<(s.size:Int))=true:=oU u;have m:Hid (yes (Qbb p)=false):=hid (Qag (fun h=>by have:=(h.2.2 k v).2;rw [z.out] at this;omega));go_wp2_with fail;go_ret;exact⟨Qaz m.symm,rfl⟩
    ·have t:decide ((40:Int)<(s.size:Int))=false:=oU u;have m:Hid (∀j,j<k+1 ->1<=(gS p j).size/\ (gS p j).size<=40):=hid (fun j hj=>by
      by_cases e:j=k
      ·rw [e,z.out];omega
      ·exact y j oM)
     go_wp2_with fail;go_round;case rel=>exact⟨k+1,v,oN,m⟩
     case measure=>exact oE
  ·obtain rfl:k=p.length:=oM;have m:Hid (yes (Qbb p)=decide (1<=p.length/\ p.length<=8)):=hid (by
    by_cases q:1<=p.length/\ p.length<=8
    ·rw [Qaj ⟨q.1,q.2,y.out⟩,decide_eq_true q]
    ·rw [Qag (fun h=>q ⟨h.1,h.2.1⟩),decide_eq_false q])
   clear h y;by_cases r:(1:Int)<=(p.length:Int)
   ·have g:decide ((1:Int)<=(p.length:Int))=true:=oU r;by_cases u:(p.length:Int)<=8
    ·have t:decide ((p.length:Int)<=8)=true:=oU u;have m:Hid (yes (Qbb p)=true):=hid (by rw [m.out];exact decide_eq_true oM);go_wp2_with fail;go_ret;exact⟨Qaz m.symm,rfl⟩
    ·have t:decide ((p.length:Int)<=8)=false:=oU u;have m:Hid (yes (Qbb p)=false):=hid (by rw [m.out];exact decide_eq_false oM);go_wp2_with fail;go_ret;exact⟨Qaz m.symm,rfl⟩
   ·have g:decide ((1:Int)<=(p.length:Int))=false:=oU r;have m:Hid (yes (Qbb p)=false):=hid (by rw [m.out];exact decide_eq_false oM);go_wp2_with fail;go_ret;exact⟨Qaz m.symm,rfl⟩
theorem Qlb (p:List ByteArray)(a:Option Us)(c:Nat)(w:Ur)(hp:p.length<=1048576)(h:QaP w a p):
  Cl 165 #[Uf a p.length c] w fun e w'=>e=Ui (Un (yes (Qbb p)))/\ w'=w:=by
 by_cases q:(p.length:Int)<1
 ·have u:decide ((p.length:Int)<1)=true:=oU q;have m:Hid (yes (Qbb p)=false):=hid (Qag (fun h=>oH h.1));clear h;go_enter func165,ntmps165;go_wp2_with fail;go_ret;exact⟨Qaz m.symm,rfl⟩
 ·have u:decide ((p.length:Int)<1)=false:=oU q;by_cases r:(8:Int)<(p.length:Int)
  ·have v:decide ((8:Int)<(p.length:Int))=true:=oU r;have m:Hid (yes (Qbb p)=false):=hid (Qag (fun h=>oH h.2.1));clear h;go_enter func165,ntmps165;go_wp2_with fail;go_ret;exact⟨Qaz m.symm,rfl⟩
  ·have v:decide ((8:Int)<(p.length:Int))=false:=oU r;go_enter func165,ntmps165;go_wp2_with fail;clear u v;go_loop [15] (fun i=>∃k:Nat,k<=p.length/\ i=Ud (k:Int)/\ Hid (∀j,j<k ->1<=(gS p j).size/\ (gS p j).size<=40)) (fun i=>p.length - (intOf i).toNat);case atStart=>exact⟨0,Ux _,rfl,hid (fun j hj=>oM)⟩
   case round=>
    obtain⟨k,E,rfl,z⟩:=hrel;by_cases y:k<p.length
    ·rcases h with h|⟨b,Q,rfl,A,o⟩
     ·omega
     have x0:=o k y;have M:(0:Int)<=(k:Int):=UI _;have O:(k:Int)<(p.length:Int):=oM;obtain⟨s,t⟩:=zE (gS p k);rw [t] at x0;have g:=hid t;clear o t;by_cases q:(s.size:Int)<1
     ·have u:decide ((s.size:Int)<1)=true:=oU q;have m:Hid (yes (Qbb p)=false):=hid (Qag (fun h=>by have:=(h.2.2 k y).1;rw [g.out] at this;omega));go_wp2_with fail;go_ret;exact⟨Qaz m.symm,rfl⟩
     ·have u:decide ((s.size:Int)<1)=false:=oU q;by_cases r:(40:Int)<(s.size:Int)
      ·have v:decide ((40:Int)<(s.size:Int))=true:=oU r;have m:Hid (yes (Qbb p)=false):=hid (Qag (fun h=>by have:=(h.2.2 k y).2;rw [g.out] at this;omega));go_wp2_with fail;go_ret;exact⟨Qaz m.symm,rfl⟩
      ·have v:decide ((40:Int)<(s.size:Int))=false:=oU r;have m:Hid (∀j,j<k+1 ->1<=(gS p j).size/\ (gS p j).size<=40):=hid (fun j hj=>by
        by_cases e:j=k
        ·rw [e,g.out];omega
        ·exact z j oM)
       go_wp2_with fail;go_round;case rel=>exact⟨k+1,y,oN,m⟩
       case measure=>exact oE
    ·obtain rfl:k=p.length:=oM;have m:Hid (yes (Qbb p)=true):=hid (Qaj ⟨oM,oM,z⟩);clear h z;go_wp2_with fail;go_ret;exact⟨Qaz m.symm,rfl⟩
open Go.Maps
def Qc5 (v:Value):Option (DataW Value×List MemPlace):=match v with
 | Uf a n c=>Uq (.held (Uf a n c),[])
 | _=>Up
theorem QdE{d:DataW Value}{ps:List MemPlace}(h:Qc5 v=Uq (d,ps)):d=.held v/\∃a n c,v=Uf a n c:=by
 unfold Qc5 at h;split at h
 ·simp at h;exact⟨h.1.symm,_,_,_,rfl⟩
 ·cases h
theorem QfG{size:Nat}(h:w.ownsRow B e size v n xs):Qc5 v=Uq (.held v,[]):=by
 rcases h.2 with ⟨rfl,_⟩|⟨g,cap,j,rfl,_⟩<;>rfl
def kI (r:Int):Lit:=.int Uh r
def upd {α:Type}(G:Int ->α)(r:Int)(v:α)(x:Int):α:=if x=r then v else G x
theorem Qaq {α:Type}(G:Int ->α)(r:Int)(v:α):upd G r v r=v:=if_pos rfl
theorem Qai {α:Type}(G:Int ->α)(v:α)(h:x≠r):upd G r v x=G x:=if_neg h
theorem Qix(h:x≠r):kI x≠kI r:=fun e=>h (by unfold kI at e;injection e)
def Qak (l:List (Int×Int)):List Value:=l.flatMap fun p=>[Ud p.1,Ud p.2]
theorem Qa3 (l:List (Int×Int))(p:Int×Int):Qak (l++[p])=Qak l++[Ud p.1,Ud p.2]:=by simp [Qak]
structure QaH (w:Ur)(bm n:Nat)(D:DataW Value)(G:Int ->Value)(L:Int ->List (Int×Int)):Prop where
 own:w.ownsMap prog 3 Qc5 bm n D
 at':∀r,D.atKey (kI r) (.held Ue)=.held (G r)
 has':∀r,Maps.has D (kI r)= !(L r).isEmpty
 rows:∀r,w.ownsRow (bm+1) 226 2 (G r) (L r).length (Qak (L r))
 apart:∀r r' g,(G r).ownBlock=Uq g ->(G r').ownBlock=Uq g ->r=r'
theorem QaH.bw{D:DataW Value}{G:Int ->Value}(h:QaH w bm n D G L)(hb:Bl w w1):QaH w1 bm n D G L:=
 ⟨h.own.kept ⟨hb.os,hb.tape,hb.output,hb.size,fun k hk _=>hb.block k hk⟩ (by simp:Uq bm≠Up),h.at',h.has',fun r=>QeV (h.rows r) hb (fun k hk=>((h.rows r).lt k hk).2),h.apart⟩
theorem QaH.step {w3:Ur}{D:DataW Value}{G:Int ->Value}{v':Value}{f t:Int}(h:QaH w bm n D G L)
  (hb:Bl w w1) (hown:w2.ownsRow (bm+1) 226 2 v' ((L r).length+1) (Qak (L r)++[Ud f,Ud t]))
  (hgr:w1.grownBy w2 (G r).ownBlock) (hloc:v'.ownBlock=(G r).ownBlock \/v'.ownBlock=Uq w1.heap.size)
  (hD:w3.ownsMap prog 3 Qc5 bm (n+1) (D.put (kI r) (.held v'))) (hgr3:w2.grownBy w3 (Uq bm)):
  QaH w3 bm (n+1) (D.put (kI r) (.held v')) (upd G r v') (upd L r (L r++[(f,t)])):=by
 have M:=h.bw hb;have A:∀(w:Ur) (v:Value) (m:Nat) (E:List Value),w.ownsRow (bm+1) 226 2 v m E ->v.ownBlock=Up \/v.ownBlock≠Uq bm:=by
  intro w v m E Q;cases e:v.ownBlock with
  | none=>exact .inl rfl
  | some g=>exact .inr (fun e2=>by have:=(Q.lt g e).1;injection e2 with e2;omega)
 refine⟨hD,fun x=> ?_,fun x=> ?_,fun x=> ?_,?_⟩
 ·by_cases e:x=r
  ·subst e;rw [Qaq,atKey_put_same h.own.isMap (show WideAt.IsKeyLit (kI x) from trivial)]
  ·rw [Qai G v' e,atKey_put_other (Qix e)];exact h.at' x
 ·by_cases e:x=r
  ·subst e;rw [Qaq,has_put_same h.own.isMap (show WideAt.IsKeyLit (kI x) from trivial)];simp
  ·rw [Qai L _ e,has_put_other (Qix e)];exact h.has' x
 ·by_cases e:x=r
  ·subst e;rw [Qaq,Qaq,Qa3,UB];exact hown.kept hgr3 (A _ _ _ _ hown)
  ·rw [Qai G v' e,Qai L _ e];have j:=M.rows x;have O:(G x).ownBlock=Up \/(G x).ownBlock≠(G r).ownBlock:=by
    cases e1:(G x).ownBlock with
    | none=>exact .inl rfl
    | some g=>exact .inr (fun e2=>e (h.apart x r g e1 e2.symm))
   have p:=j.kept hgr O;exact p.kept hgr3 (A _ _ _ _ p)
 ·intro x y g j q;have s:∀z,z≠r ->∀g,(G z).ownBlock=Uq g ->v'.ownBlock=Uq g ->False:=by
   intro z U g b u;rcases hloc with i|i
   ·exact U (h.apart z r g b (i▸u))
   ·rw [i] at u;have V:=((h.rows z).lt g b).2;have Y:=hb.size;injection u with u;omega
  by_cases o:x=r
  ·subst o;rw [Qaq] at j;by_cases k:y=x
   ·exact k.symm
   ·rw [Qai G v' k] at q;exact(s y k g q j).elim
  ·rw [Qai G v' o] at j;by_cases k:y=r
   ·subst k;rw [Qaq] at q;exact(s x o g j q).elim
   ·rw [Qai G v' k] at q;exact h.apart x y g j q
def Lk (R F T:Nat ->Int):Nat ->Int ->List (Int×Int)
 | 0=>fun _=>[]
 | k+1=>upd (Lk R F T k) (R k) (Lk R F T k (R k)++[(F k,T k)])
theorem Qbx (R F T:Nat ->Int)(k:Nat):∀r,(Lk R F T k r).length<=k:=by
 induction k with
 | zero=>intro r;simp [Lk]
 | succ k ih=>
  intro r;by_cases e:r=R k
  ·subst e;simp only [Lk];rw [Qaq];have:=ih (R k);simp;omega
  ·simp only [Lk];rw [Qai _ _ e];have:=ih r;omega
theorem QgC (w:Ur):(zeroValue 182).run prog w=.ok Ue w:=oK
theorem wfI(h0: -9223372036854775808<=r)(h1:r<=9223372036854775807):(Lit.int Uh r).wf=true:=by
 have j:IntKind.i64.min= -9223372036854775808:=oD;have k:IntKind.i64.max=9223372036854775807:=oD;simp only [Lit.wf,j,k,Bool.and_eq_true,decide_eq_true_iff];exact⟨h0,h1⟩
theorem QaH.look{D:DataW Value}{G:Int ->Value}(h:QaH w bm n D G L)(r:Int)(hr:(Lit.int Uh r).wf=true):
  (Instr.lookup 126 (.map (Uq bm)) (Ud r) false).run prog w=.ok (G r) w:=by
 obtain⟨v,ps,k,m⟩:=h.own.lookup (int_keyed underlying3) underlying126 (QgC w) (zd:=.held Ue) (zp:=[]) rfl (keyOf_int_mk underlying3 hr);have:=h.at' r;obtain⟨j,_⟩:=QdE m;unfold kI at this;rw [this] at j;have e:v=G r:=by injection j with j;exact j.symm
 rw [k,e]
theorem Tryz.infoSpan:(prog.info? 226).map (fun i=>(i.zero,i.size,i.bytes))=Uq (Uq (Uo #[Ud 0,Ud 0]),2,16):=oK
theorem Qpd{ops:Array Oper}{Q:Exit ->Act ->Ur ->Prop}{md:Region.Mode}{S:Ur ->Prop}{d d':Option Tmp}{listed:Array Bool}
  (hd:ops[i]?.map (fun o=>o.dst)=Uq d) (hd':ops[j]?.map (fun o=>o.dst)=Uq d') (hr:Region.ready md ops listed=[i,j])
  (h:∀o,ops[i]? =Uq o ->o.dst=d ->∀K':Act ->Ur ->Prop,Shut (∀a w,S w ->(S w ->wpAnyH P md ops Q S fuel (listed.setIfInBounds i true) a w) ->K' a w) ->if Region.wanted o (yielded ops a.tmps)=true then Oper.wp P o a w K' Q else K' (a.put o.dst undef) w)
  (h':∀o,ops[j]? =Uq o ->o.dst=d' ->∀K':Act ->Ur ->Prop,Shut (∀a w,S w ->(S w ->wpAnyH P md ops Q S fuel (listed.setIfInBounds j true) a w) ->K' a w) ->if Region.wanted o (yielded ops a.tmps)=true then Oper.wp P o a w K' Q else K' (a.put o.dst undef) w):
  wpAnyH P md ops Q S (fuel+1) listed a w:=by
 obtain⟨o,k,q⟩:=Option.map_eq_some_iff.1 hd;obtain⟨u,m,r⟩:=Option.map_eq_some_iff.1 hd';exact wpAnyH_ready hr oP (AllReadyH.cons k (h o k q) (AllReadyH.cons m (h' u m r) AllReadyH.nil))
theorem Qdf{o:Oper}{K:Act ->Ur ->Prop}{Q:Exit ->Act ->Ur ->Prop}(s x:Operand)(t:TypeId)
  (ho:o.op=.call {callee:=.builtin .append,args:=#[s,x],argTypes:=#[t,t]})
  (base:Nat) (e:TypeId) (i:TypeInfo) (z:Value) (size bytes:Nat) (ht:P.underlying t=Uq (.slice e)) (hi:P.info? e=Uq i) (hz:i.zero=Uq z)
  (hsize:i.size=size) (hby:i.bytes=bytes) (hzs:z.cells.size=size) (hsz:0<size)
  (v:Value) (n:Nat) (xs:List Value) (hs:a.eval s=v) (hown:w.ownsRow base e size v n xs)
  (ad:Us) (m c:Nat) (news:List Value) (hx:a.eval x=Uf (Uq ad) m c) (hl:news.length=m*size) (hnews:∀j u,news[j]? =Uq u ->w.cell? (ad.add j)=Uq u) (h1:∀u∈news,u.oneCell'=true)
  (h63:n+m<=maxLen) (hbytes:(n+m)*bytes<=140737488355328) (hbase:base<=w.heap.size)
  (h:∀v' w',w'.ownsRow base e size v' (n+m) (xs++news) ->w.grownBy w' v.ownBlock ->(v'.ownBlock=v.ownBlock \/v'.ownBlock=Uq w.heap.size) ->K (a.put o.dst v') w'):o.wp P a w K Q:=by
 obtain⟨v',w',y,k,q,g,r⟩:=run_append_own_at (P:=P) w base t o.type e i z size bytes ht hi hz hsize hby hzs hsz v n xs hown ad m c news hl hnews h1 h63 hbytes hbase;unfold Oper.wp execOp;simp only [ho,resolve,invoke,builtin,Sem.run_bind,Sem.run_pure,Result.andThen_ok,List.map_toArray,UD,List.map_nil,hs,hx,y];exact h v' w' k q r
theorem Qfe {H:Type}(w:Ur){o:Oper}{K:Act ->Ur ->Prop}{Q:Exit ->Act ->Ur ->Prop}
  (m x v:Operand) (t:TypeId) (hop:o.op=Op.mapUpdate t m x v)
  (k e:TypeId) (Kd:Keyed P k) (ht:P.underlying t=Uq (.map k e)) (R:Value ->Option (DataW H×List MemPlace)) (b n:Nat) (D:DataW H)
  (hm:a.eval m=.map (Uq b)) (hown:w.ownsMap P k R b n D) (hn:n<maxLen) (key val:Value) (kl:Lit) (hx:a.eval x=key) (hv:a.eval v=val) (hkey:keyOf P k key=Uq kl)
  (d:DataW H) (ps:List MemPlace) (hval:R val=Uq (d,ps))
  (hK:∀w',w'.ownsMap P k R b (n+1) (D.put kl d) ->w.grownBy w' (Uq b) ->K (a.put o.dst undef) w'):o.wp P a w K Q:=by
 obtain⟨w',j,q,r⟩:=hown.update Kd ht hn hkey hval;unfold Oper.wp;simp [execOp,hop,hm,hx,hv,j,Result.andThen];exact hK _ q r
theorem Qfz (w:Ur):QaH (w.alloc (.map #[] 0)) w.heap.size 0 (.map []) (fun _=> Ue) (fun _=>[]):=
 ⟨UP w _ _ _,fun r=>rfl,fun r=>rfl,fun r=>World.ownsRow_nil _ _ _ _,fun r r' g h _=>by cases h⟩
theorem QkH{row:Option Nat}{x y z:Value}(hg:w.grownBy w' row)(h0:w.cell? (Ub B)=Uq x)(h1:w.cell? (Ua B 1)=Uq y)(h2:w.cell? (Ua B 2)=Uq z)(hne:Uq B≠row):
  w'.cell? (Ub B)=Uq x/\ w'.cell? (Ua B 1)=Uq y/\ w'.cell? (Ua B 2)=Uq z:=⟨hg.cell h0 hne,hg.cell h1 hne,hg.cell h2 hne⟩
theorem QoY (a:Option Us)(n c:Nat)(R F T:Nat ->Int)(w:Ur)(hn:n<=1048576)(h:QaT w a n R F T)(hok:QcS R F T n=true):
  Cl 121 #[Uo #[Uf a n c]] w fun e w'=>∃bm D G,e=Ui (Ul #[.map (Uq bm),Un true])/\ QaH w' bm n D G (Lk R F T n)/\ w.heap.size<=bm/\ Bl w w':=by
 have H0:=@run_makeMap prog;have Hf:=(Qal.1 hok);obtain⟨i0,hi,Hq,Hr,Hs⟩:=info_parts Tryz.infoSpan;have B0:Bl w (w.alloc (Uj #[Uf a n c] 26)):=zO _ _;have Hl:=hid Hf;clear Hf;go_enter func121,ntmps121;go_wp2_with fail;refine(QlH a n c R F T _ hn (h.bw B0)).mono ?_;rintro e w1 ⟨rfl,P⟩;rw [hok];have Ht:w1.cell? (Ub w.heap.size)=Uq (Uf a n c):=by rw [(Qc0 P).1 _ _ oP];simp
 have N:=Qaa B0 P;have z1:w.heap.size<w1.heap.size:=by have:=P.size;simp at this;omega
 clear P B0 hok;rcases h with h|⟨b,off,rfl,hb,Z⟩
 ·subst h;have Hh:=hid N;clear N;go_wp2_with fail;refine wp_loop_rounds 1 ?_;rw [rounds_succ];go_wp2_with fail;go_ret2;exact⟨w1.heap.size,_,_,rfl,Qfz w1,oM,(Hh.alloc oM _)⟩
 have Hh:=hid N;clear N;go_wp2_with fail;go_loopw [14] (fun i wr=>∃(k:Nat) (D:DataW Value) (G:Int ->Value),k<=n/\ i=Ud k/\ QaH wr w1.heap.size k D G (Lk R F T k)/\ Bl w wr/\ w1.heap.size<wr.heap.size) (fun i _=>n - (intOf i).toNat);case atStart=>exact⟨0,_,_,Ux _,rfl,Qfz w1,Hh.alloc oM _,oP⟩
 case round=>
  obtain⟨k,D,G,s,rfl,t,E,H1⟩:=hrel;by_cases O:k<n
  ·have Hu:wr.cell? (Ua b (off+k*3))=Uq (Ud (R k)):=(E.cell (p:=(Ua b _)) hb).trans (Z k O).1;have Hj:wr.cell? (Ua b (off+k*3+1))=Uq (Ud (F k)):=(E.cell (p:=(Ua b _)) hb).trans (Z k O).2.1;have Hk:wr.cell? (Ua b (off+k*3+2))=Uq (Ud (T k)):=(E.cell (p:=(Ua b _)) hb).trans (Z k O).2.2;have Hw:=Qbm.1 ((Hl.1 k O).1);have Hg:(Lit.int Uh (R k)).wf=true:=wfI oM oM;have Hz:=Hl.2;have hL:=Qbx R F T k (R k);obtain⟨z,A⟩:=zE (wr.alloc (Uj #[Ud (R k),Ud (F k),Ud (T k)] 89));have zW:z.heap.size=wr.heap.size+1:=A▸oP;have bW:Bl wr z:=A▸zO _ _;have r0:z.cell? (Ub wr.heap.size)=Uq (Ud (R k)):=A▸oP;have r1:z.cell? (Ua wr.heap.size 1)=Uq (Ud (F k)):=A▸oP;have r2:z.cell? (Ua wr.heap.size 2)=Uq (Ud (T k)):=A▸oP;have He:Uq w1.heap.size≠(G (R k)).ownBlock:=fun e=>by have:=((t.rows (R k)).lt _ e.symm).1;omega
   have Hp:Uq wr.heap.size≠(G (R k)).ownBlock:=fun e=>by have:=((t.rows (R k)).lt _ e.symm).2;omega
   have g1:=t.bw (bW.drew);have Hx:=g1.look (R k) Hg;obtain⟨U,Y⟩:=zE (z.alloc (Uj #[Ud (F k),Ud (T k)] 226));have V:Bl z U:=Y▸zO _ _;have Hd:U.drew.heap.size=wr.heap.size+2:=(by show U.heap.size=_;rw [<- Y];simp;omega);have b2:Bl wr U.drew:=(bW.trans (V.mono oM)).drew;have W:=t.bw b2;have Hy:=W.look (R k) Hg;have Hc:Hid (∀j u,[Value.int Uh (F k),Ud (T k)][j]? =Uq u ->U.drew.cell? (((Ua (wr.heap.size+1) 0):Us).add j)=Uq u):=(by rw [<- Y,<- zW];exact cell_two_new _ _ _ _);have C:=hid (W.rows (R k));have Hb:=hid W.own;have Ha:=hid t;have B:=hid b2;have X:=hid E;have Hm:=(V.cell (p:=(Ub wr.heap.size)) (show wr.heap.size<z.heap.size by omega)).trans r0;have Hn:=(V.cell (p:=(Ua wr.heap.size 1)) (show wr.heap.size<z.heap.size by omega)).trans r1;have Ho:=(V.cell (p:=(Ua wr.heap.size 2)) (show wr.heap.size<z.heap.size by omega)).trans r2;clear t E g1 W b2 bW V Hw Z;go_wp2_with fail;try rw [A]
   clear Hu Hj Hk A;refine zR (S:=fun w'=>w'.cell? (Ub wr.heap.size)=Uq (Ud (R k))/\ w'.cell? (Ua wr.heap.size 1)=Uq (Ud (F k))/\ w'.cell? (Ua wr.heap.size 2)=Uq (Ud (T k))) ⟨r0,r1,r2⟩ (fun qh=> ?_);refine tZ 0 18 ?_;refine tZ 1 19 ?_;refine tZ 2 20 ?_;refine tZ 3 21 ?_;refine tZ 4 22 ?_;refine tZ 5 23 ?_;refine tZ 7 25 ?_;refine tZ 8 26 ?_;refine tZ 9 27 ?_;refine tZ 10 28 ?_;refine tZ 11 29 ?_;refine Qpd (i:=6) (j:=12) (d:=Uq 24) (d':=Uq 30) oK oK oK ?_ ?_
   ·intro o I Hv K m;simp only [gZa,gZb,gZc,gZd] at I;subst I;go_simp;refine m.out _ _ ⟨r0,r1,r2⟩ (fun qh=> ?_);clear m K;try simp only [zP]
    refine cZ 12 ?_;intro K m;go_simp;try rw [Y]
    have q:=And.intro Hm (And.intro Hn Ho);refine m.out _ _ ⟨q.1,q.2.1,q.2.2⟩ (fun qh=> ?_);clear m K;try simp only [zP]
    refine cZ 13 ?_;intro K m;rw [if_pos (by rfl)];refine Qdf _ _ _ (by rfl) (w1.heap.size+1) 226 i0 _ 2 16 underlying182 hi Hq Hr Hs rfl oD (G (R k)) (Lk R F T k (R k)).length _ (by rfl) C (Ua (wr.heap.size+1) 0) 1 1 [Ud (F k),Ud (T k)] (by rfl) (by rfl) Hc (by intro u L;simp at L;rcases L with rfl|rfl<;>rfl) oL oM (by rw [Hd];omega) ?_;intro v' w3 M v H;have r:=QkH v q.1 q.2.1 q.2.2 Hp;refine m.out _ _ ⟨r.1,r.2.1,r.2.2⟩ (fun qh=> ?_);clear m K;try simp only [zP]
    refine cZ 14 ?_;intro K m;rw [if_pos (by rfl)];refine Qfe _ _ _ _ _ (by rfl) 3 182 (int_keyed underlying3) underlying126 Qc5 w1.heap.size k D (by rfl) (Hb.kept v He) oL (Ud (R k)) v' (kI (R k)) (by rfl) (by rfl) (keyOf_int_mk underlying3 Hg) (.held v') [] (QfG M) ?_;intro w4 J y;have g:=QkH y r.1 r.2.1 r.2.2 oS;refine m.out _ _ ⟨g.1,g.2.1,g.2.2⟩ (fun qh=> ?_);clear m K;try simp only [zP]
    refine zD ?_;have Q:=hid (Ha.step (v':=v') B M v H J y);have HZ:=hid (Uw v.size y.size);have Hi:=hid (((X.trans (B.mono oM)).grown v oM (fun k s=>oH ((C.lt k s).1))).grown y (oH v.size) (fun k s=>oI s));clear qh q r g M v H J y;go_wp2_with fail;go_roundw;case rel=>exact⟨k+1,_,_,O,oN,Q,Hi,oH HZ⟩
    case measure=>exact oE
   ·intro o I Hv K m;simp only [gZa,gZb,gZc,gZd] at I;subst I;go_simp;try rw [Y]
    have q:=And.intro Hm (And.intro Hn Ho);refine m.out _ _ ⟨q.1,q.2.1,q.2.2⟩ (fun qh=> ?_);clear m K;try simp only [zP]
    refine cZ 6 ?_;intro K m;go_simp;refine m.out _ _ ⟨q.1,q.2.1,q.2.2⟩ (fun qh=> ?_);clear m K;try simp only [zP]
    refine cZ 13 ?_;intro K m;rw [if_pos (by rfl)];refine Qdf _ _ _ (by rfl) (w1.heap.size+1) 226 i0 _ 2 16 underlying182 hi Hq Hr Hs rfl oD (G (R k)) (Lk R F T k (R k)).length _ (by rfl) C (Ua (wr.heap.size+1) 0) 1 1 [Ud (F k),Ud (T k)] (by rfl) (by rfl) Hc (by intro u L;simp at L;rcases L with rfl|rfl<;>rfl) oL oM (by rw [Hd];omega) ?_;intro v' w3 M v H;have r:=QkH v q.1 q.2.1 q.2.2 Hp;refine m.out _ _ ⟨r.1,r.2.1,r.2.2⟩ (fun qh=> ?_);clear m K;try simp only [zP]
    refine cZ 14 ?_;intro K m;rw [if_pos (by rfl)];refine Qfe _ _ _ _ _ (by rfl) 3 182 (int_keyed underlying3) underlying126 Qc5 w1.heap.size k D (by rfl) (Hb.kept v He) oL (Ud (R k)) v' (kI (R k)) (by rfl) (by rfl) (keyOf_int_mk underlying3 Hg) (.held v') [] (QfG M) ?_;intro w4 J y;have g:=QkH y r.1 r.2.1 r.2.2 oS;refine m.out _ _ ⟨g.1,g.2.1,g.2.2⟩ (fun qh=> ?_);clear m K;try simp only [zP]
    refine zD ?_;have Q:=hid (Ha.step (v':=v') B M v H J y);have HZ:=hid (Uw v.size y.size);have Hi:=hid (((X.trans (B.mono oM)).grown v oM (fun k s=>oH ((C.lt k s).1))).grown y (oH v.size) (fun k s=>oI s));clear qh q r g M v H J y;go_wp2_with fail;go_roundw;case rel=>exact⟨k+1,_,_,O,oN,Q,Hi,oH HZ⟩
    case measure=>exact oE
  ·obtain rfl:k=n:=oM;have Q:=hid t;have X:=hid E;clear t E Z;go_wp2_with fail;go_ret2;exact⟨w1.heap.size,D,G,rfl,Q,oM,X⟩
def Qbn (R T:Nat ->Int)(rep:Int):Nat ->Int
 | 0=>0
 | k+1=>if R k=rep/\ Qbn R T rep k<T k then T k else Qbn R T rep k
def Qci (l:List (Int×Int)):Int:=match l.getLast? with|none=>0|some p=>p.2
theorem QbM (l:List (Int×Int))(p:Int×Int):Qci (l++[p])=p.2:=by simp [Qci]
theorem Qi0:Qci []=0:=rfl
theorem QiE {R F T:Nat ->Int}:∀k:Nat,Qeo R F T k ->(∀r,Lk R F T k r≠[] ->0<k/\ r<=R (k - 1))/\ (0<k ->Qci (Lk R F T k (R (k - 1)))=T (k - 1))/\ (∀r,Qbn R T r k=Qci (Lk R F T k r))/\ (∀r,0<=Qci (Lk R F T k r)/\ Qci (Lk R F T k r)<=1000000000)
 | 0,_=>⟨fun r h=>absurd rfl h,fun h=>absurd h oM,fun r=>rfl,fun r=>by simp [Lk,Qci]⟩
 | k+1,h=>by
  have g:Qeo R F T k:=fun i hi=>h i oM;obtain⟨y,b,z,p⟩:=QiE k g;have A:=Qbm.1 (h k oM).1;have u:0<k ->(R (k - 1)<R k \/(R (k - 1)=R k/\ T (k - 1)+1<F k)):=fun j=>by
   have:=(h k oM).2 j;unfold QaD at this;exact of_decide_eq_true this
  have q:∀r,Lk R F T (k+1) r=upd (Lk R F T k) (R k) (Lk R F T k (R k)++[(F k,T k)]) r:=fun r=>rfl;have o:Qci (Lk R F T k (R k))<T k:=by
   by_cases v:Lk R F T k (R k)=[]
   ·rw [v,Qi0];omega
   ·obtain⟨j,t⟩:=y (R k) v;rcases u j with m|⟨m,s⟩
    ·omega
    ·rw [<- m,b j];omega
  refine⟨fun r hr=> ?_,fun _=> ?_,fun r=> ?_,fun r=> ?_⟩
  ·refine⟨oM,?_⟩;rw [Uy];rw [q] at hr;by_cases e:r=R k
   ·omega
   ·rw [Qai _ _ e] at hr;obtain⟨j,t⟩:=y r hr;rcases u j with m|⟨m,_⟩<;>omega
  ·rw [Uy,q,Qaq,QbM]
  ·rw [q];by_cases e:r=R k
   ·subst e;rw [Qaq,QbM];show (if R k=R k/\ Qbn R T (R k) k<T k then T k else Qbn R T (R k) k)=T k;rw [if_pos ⟨rfl,by rw [z];exact o⟩]
   ·rw [Qai _ _ e,<- z r];show (if R k=r/\ Qbn R T r k<T k then T k else Qbn R T r k)=Qbn R T r k;rw [if_neg (fun m=>e m.1.symm)]
  ·rw [q];by_cases e:r=R k
   ·subst e;rw [Qaq,QbM];show 0<=T k/\ T k<=1000000000;omega
   ·rw [Qai _ _ e];exact p r
def Srt (l:List (Int×Int)):Prop:=l.Pairwise (fun p q=>p.2+1<q.1)/\∀p∈l,1<=p.1/\ p.1<=p.2/\ p.2<=1000000000
theorem QbZ {R F T:Nat ->Int}:∀k:Nat,Qeo R F T k ->∀r,Srt (Lk R F T k r)/\∀p∈Lk R F T k r,p.2<=Qci (Lk R F T k r)
 | 0,_=>fun r=>⟨⟨List.Pairwise.nil,fun p j=>by cases j⟩,fun p j=>by cases j⟩
 | k+1,h=>by
  have v:Qeo R F T k:=fun i hi=>h i oM;have z:=QbZ k v;obtain⟨t,o,Q,U⟩:=QiE k v;have O:=Qbm.1 (h k oM).1;have g:0<k ->(R (k - 1)<R k \/(R (k - 1)=R k/\ T (k - 1)+1<F k)):=fun m=>by
   have:=(h k oM).2 m;unfold QaD at this;exact of_decide_eq_true this
  intro r;show Srt (upd (Lk R F T k) (R k) (Lk R F T k (R k)++[(F k,T k)]) r)/\∀p∈upd (Lk R F T k) (R k) (Lk R F T k (R k)++[(F k,T k)]) r,p.2<=Qci (upd (Lk R F T k) (R k) (Lk R F T k (R k)++[(F k,T k)]) r);by_cases e:r=R k
  ·subst e;rw [Qaq];obtain⟨⟨b,s⟩,A⟩:=z (R k);have y:∀p∈Lk R F T k (R k),p.2+1<F k:=by
    intro p j;obtain⟨m,M⟩:=t (R k) (List.ne_nil_of_mem j);have:=A p j;rcases g m with u|⟨u,E⟩
    ·omega
    ·rw [<- u,o m] at this;omega
   refine⟨⟨List.pairwise_append.2 ⟨b,List.pairwise_singleton _ _,fun p j q hq=> ?_⟩,fun p j=> ?_⟩,fun p j=> ?_⟩
   ·rw [UF] at hq;subst hq;exact y p j
   ·rcases List.mem_append.1 j with j|j
    ·exact s p j
    ·rw [UF] at j;subst j;exact⟨oM,oM,oM⟩
   ·rw [QbM];rcases List.mem_append.1 j with j|j
    ·have:=y p j;show p.2<=T k;omega
    ·rw [UF] at j;subst j;exact Int.le_refl _
  ·rw [Qai _ _ e];exact z r
def SS (w:Ur)(a:Option Us)(n:Nat)(f t:Nat ->Int):Prop:=
 n=0 \/∃b off,a=Uq (Ua b off)/\ b<w.heap.size/\∀i,i<n ->w.cell? (Ua b (off+i*2))=Uq (Ud (f i))/\ w.cell? (Ua b (off+i*2+1))=Uq (Ud (t i))
theorem QjU(h:w.ownsRow B 226 2 (Uf (Uc g) n cap) n (Qak l))(hl:l.length=n):
  SS w (Uc g) n (fun i=>(l.getD i (0,0)).1) (fun i=>(l.getD i (0,0)).2):=by
 refine .inr ⟨g,0,rfl,(h.lt g rfl).2,fun i hi=> ?_⟩;have j:∀(l:List (Int×Int)) (i:Nat),i<l.length ->(Qak l)[i*2]? =Uq (Ud (l.getD i (0,0)).1)/\ (Qak l)[i*2+1]? =Uq (Ud (l.getD i (0,0)).2):=by
  intro l;induction l with
  | nil=>intro i hi;simp at hi
  | cons a l ih=>
   intro i hi;cases i with
   | zero=>simp [Qak]
   | succ i=>
    have:=ih i (oU hi);have e:Qak (a::l)=Ud a.1::Ud a.2::Qak l:=(by simp [Qak]);rw [e,show (i+1)*2=i*2+1+1 from by omega];simpa using this
 rw [Nat.zero_add,h.cellAt _ oM,h.cellAt _ oM];exact j l i oM
theorem Qht(h:Srt l)(hij:i<j)(hj:j<l.length):(l.getD i (0,0)).2+1<(l.getD j (0,0)).1/\ (l.getD i (0,0)).1<=(l.getD i (0,0)).2/\ (l.getD j (0,0)).1<=(l.getD j (0,0)).2:=by
 have k:l.getD i (0,0)=l[i]:=by simp [UA,show i<l.length by omega]
 have m:l.getD j (0,0)=l[j]:=by simp [UA,hj]
 rw [k,m];exact⟨List.pairwise_iff_getElem.1 h.1 i j oM hj hij,(h.2 _ (UG _)).2.1,(h.2 _ (UG _)).2.1⟩
theorem QkY (a:Option Us)(n c:Nat)(R F T:Nat ->Int)(w:Ur)(hn:n<=1048576)(h:QaT w a n R F T)(hok:QcS R F T n=false):
  Cl 121 #[Uo #[Uf a n c]] w (Rt w (Ul #[.map Up,Un false])):=by
 have j:Bl w (w.alloc (Uj #[Uf a n c] 26)):=zO _ _;go_enter func121,ntmps121;go_wp2_with fail;refine(QlH a n c R F T _ hn (h.bw j)).mono ?_;rintro e w1 ⟨rfl,k⟩;rw [hok];have m:=hid (Qaa j k);clear k j hok h;go_wp2_with fail;go_ret2;exact⟨rfl,m⟩
def QaZ (x y:Int):Int:=if x<y then -1 else if y<x then 1 else 0
theorem Qcd (x y:Int)(w:Ur):Cl 147 #[Ud x,Ud y] w fun e w'=>e=Ui (Ud (QaZ x y))/\ w'=w:=by
 by_cases k:x<y
 ·have j:Hid (QaZ x y= -1):=if_pos k;go_enter func147,ntmps147;go_wp2;go_ret;exact⟨Qeu j.symm,rfl⟩
 ·by_cases m:y<x
  ·have j:Hid (QaZ x y=1):=(by unfold Hid QaZ;rw [if_neg k,if_pos m]);go_enter func147,ntmps147;go_wp2;go_ret;exact⟨Qeu j.symm,rfl⟩
  ·have j:Hid (QaZ x y=0):=(by unfold Hid QaZ;rw [if_neg k,if_neg m]);go_enter func147,ntmps147;go_wp2;go_ret;exact⟨Qeu j.symm,rfl⟩
theorem QlG (f t q:Int)(w:Ur):Cl 195 #[Uo #[Ud f,Ud t],Ud q] w (Rt w (Ud (QaZ t q))):=by
 go_enter func195,ntmps195;go_wp2_with fail;refine(Qcd t q _).mono ?_;rintro e w1 ⟨rfl,rfl⟩;go_wp2_with fail;go_ret;exact⟨rfl,zO _ _⟩
theorem Qmu (a:Option Us)(n c:Nat)(f t:Nat ->Int)(q:Int)(w:Ur)(hn:n<=1000000)(h:SS w a n f t)(hm:∀i j,i<j ->j<n ->t i<t j):
  Cl 194 #[Uf a n c,Ud q,.func (.func 195) #[] #[]] w fun e w'=>∃(i:Nat) (b:Bool),e=Ui (Ul #[Ud i,Un b])/\ i<=n/\ (∀j,j<i ->t j<q)/\ (∀j,i<=j ->j<n ->q<=t j)/\ Bl w w':=by
 go_enter func194,ntmps194;go_wp2_with fail;go_loopw [9,10] (fun vi vj wr=>∃i j:Nat,i<=j/\ j<=n/\ vi=Ud i/\ vj=Ud j/\ (∀k,k<i ->t k<q)/\ (∀k,j<=k ->k<n ->q<=t k)/\ Bl w wr) (fun vi vj _=>(intOf vj).toNat - (intOf vi).toNat);case atStart=>exact⟨0,n,Ux _,Uv _,rfl,rfl,fun k hk=>oM,fun k h1 h2=>oM,zI⟩
 case round=>
  obtain⟨i,j,L,I,rfl,rfl,M,E,r⟩:=hrel;have Q:=hid M;have O:=hid E;have V:=hid hm;have z:=hid r;rcases h with h|⟨b,off,rfl,A,u⟩
  ·have G:i=0:=oM;have H:j=0:=oM;subst h G H;clear M E r hm;go_wp2_with fail;go_ret2;exact⟨0,false,rfl,oM,fun k hk=>oM,fun k _ hk=>oM,z⟩
  by_cases X:i<j
  ·obtain⟨m,J⟩:∃m:Nat,m=(i+j)/2:=⟨_,rfl⟩;have Y:((i:Int)+(j:Int))/2=(m:Int):=oM;have o:=(r.cell (p:=(Ua b (off+m*2))) A).trans (u m oM).1;have s:=(r.cell (p:=(Ua b (off+m*2+1))) A).trans (u m oM).2;have B:i<=m:=oM;have C:m<j:=oM;clear M E r hm u J;go_wp2_with fail;refine(QlG (f m) (t m) q _).mono ?_;rintro e K ⟨rfl,v⟩;have g:=hid (Qaa z v);clear v;by_cases y:t m<q
   ·rw [show QaZ (t m) q= -1 from if_pos y];have U:Hid (∀k,k<m+1 ->t k<q):=fun k hk=>by
     by_cases e:k=m
     ·subst e;exact y
     ·have:=V k m oM oM;omega
    clear o s y Y;go_wp2_with fail;go_roundw;case rel=>exact⟨m+1,j,oM,I,oN,rfl,U,O,g⟩
    case measure=>exact oE
   ·have Z:0<=QaZ (t m) q:=(by unfold QaZ;rw [if_neg y];split<;>omega);generalize QaZ (t m) q=cv at Z;have U:Hid (∀k,m<=k ->k<n ->q<=t k):=fun k h1 h2=>by
     by_cases e:k=m
     ·subst e;omega
     ·have:=V m k oM oM;omega
    clear o s y Y;go_wp2_with fail;go_roundw;case rel=>exact⟨i,m,oM,oM,rfl,rfl,Q,U,g⟩
    case measure=>exact oE
  ·obtain rfl:i=j:=oM;clear M E hm;by_cases N:i<n
   ·have o:=(r.cell (p:=(Ua b (off+i*2))) A).trans (u i oM).1;have s:=(r.cell (p:=(Ua b (off+i*2+1))) A).trans (u i oM).2;clear u r;go_wp2_with fail;refine(QlG (f i) (t i) q _).mono ?_;rintro e K ⟨rfl,v⟩;have g:=hid (Qaa z v);clear v o s;generalize QaZ (t i) q=cv;go_wp2_with fail;go_ret2;exact⟨i,cv==0,rfl,oM,Q,O,g⟩
   ·clear u r;go_wp2_with fail;go_ret2;exact⟨i,false,rfl,oM,Q,O,z⟩
def inB (l:List (Int×Int))(f t:Int):Bool:=l.any fun p=>decide (p.1<=f/\ t<=p.2)
theorem Qo8(h:Srt l)(f t:Int)(i:Nat)(hi:i<=l.length)(hlo:∀j,j<i ->(l.getD j (0,0)).2<t)(hhi:∀j,i<=j ->j<l.length ->t<=(l.getD j (0,0)).2):
  inB l f t=(decide (i<l.length) && decide ((l.getD i (0,0)).1<=f)):=by
 rw [Bool.eq_iff_iff];simp only [inB,List.any_eq_true,decide_eq_true_iff,Bool.and_eq_true];constructor
 ·rintro⟨p,y,k,r⟩;obtain⟨j,u,rfl⟩:=List.getElem_of_mem y;have m:l.getD j (0,0)=l[j]:=by simp [UA,u]
  have z:i<=j:=by
   by_cases v:j<i
   ·have:=hlo j v;rw [m] at this;omega
   ·omega
  refine⟨oM,?_⟩;by_cases e:i=j
  ·subst e;rw [m];exact k
  ·have:=Qht h (show i<j by omega) u;rw [m] at this;omega
 ·rintro⟨k,r⟩;have q:l.getD i (0,0)=l[i]:=by simp [UA,k]
  refine⟨l[i],UG _,?_,?_⟩
  ·rw [<- q];exact r
  ·rw [<- q];exact hhi i zL k
def LkR (w:Ur)(bm:Nat)(r:Int)(v:Value)(l:List (Int×Int)):Prop:=∀w',Bl w w' ->(Instr.lookup 126 (.map (Uq bm)) (Ud r) false).run prog w'=.ok v w'/\∃B,w'.ownsRow B 226 2 v l.length (Qak l)
theorem LkR.bw(h:LkR w bm r v l)(hb:Bl w w1):LkR w1 bm r v l:=fun w' h'=>h w' (Qaa hb h')
theorem QmQ(h:LkR w bm r v l)(f t:Int)(hs:Srt l)(hl:l.length<=1000000):
  Cl 166 #[.map (Uq bm),Ud r,Uo #[Ud f,Ud t]] w (Rt w (Un (inB l f t))):=by
 obtain⟨k,u⟩:=zE (w.alloc (Uj #[Ud f,Ud t] 226));have o:Bl w k:=u▸zO _ _;have z0:k.heap.size=w.heap.size+1:=u▸oP;have x0:k.cell? (Ub w.heap.size)=Uq (Ud f):=u▸oP;have K:k.cell? (Ua w.heap.size 1)=Uq (Ud t):=u▸oP;obtain⟨Y,X,b⟩:=h k o;obtain⟨a,c,e,I,Ha⟩:∃a c,v=Uf a l.length c/\ SS k a l.length (fun i=>(l.getD i (0,0)).1) (fun i=>(l.getD i (0,0)).2)/\ (l.length≠0 ->∃g,a=Uq (Ub g)):=by
  rcases b.2 with ⟨e,O⟩|⟨g,cap,B,e,_⟩
  ·exact⟨Up,0,by rw [e,O],.inl O,fun h=>absurd O h⟩
  ·exact⟨_,cap,e,by rw [e] at b;exact QjU b rfl,fun _=>⟨g,rfl⟩⟩
 rw [e] at Y;have z:=hid I;have E:=hid (Qo8 hs f t);have M:Hid (∀i j,i<j ->j<l.length ->(fun i=>(l.getD i (0,0)).2) i<(fun i=>(l.getD i (0,0)).2) j):=fun i j hij hj=>by
  have:=Qht hs hij hj;show (l.getD i (0,0)).2<(l.getD j (0,0)).2;omega
 clear e b h hs I;generalize W:l.length=m at*;go_enter func166,ntmps166;go_wp2_with fail;try rw [u]
 refine(Qmu a m c _ _ t _ oM z M).mono ?_;rintro e J ⟨i,C,rfl,hi,Z,U,q⟩;clear u;have A:=hid (E i hi Z U);have G:=(q.cell (p:=(Ub w.heap.size)) (show w.heap.size<k.heap.size by omega)).trans x0;have s:=hid (Qaa o q);by_cases V:i<m
 ·have N:∃g off,a=Uq (Ua g off)/\ g<J.heap.size/\ J.cell? (Ua g (off+i*2))=Uq (Ud (l.getD i (0,0)).1):=by
   rcases z.out with h|⟨g,off,rfl,Q,L⟩
   ·omega
   ·exact⟨g,off,rfl,Ut Q q.size,(q.cell (p:=(Ua g (off+i*2))) Q).trans (L i V).1⟩
  obtain⟨g,off,rfl,Q,H⟩:=N;have F:(0:Int)<=(i:Int):=UI _;have P:(i:Int)<(m:Int):=oM;generalize D:(l.getD i (0,0)).1=fi at*;clear Z U q x0 K Y z M E o;cases hle:decide (fi<=f) with
  | false=>
   have y:Hid (inB l f t=false):=(by unfold Hid;rw [A.out,hle];simp);go_wp2_with fail;refine zR (S:=fun w'=>w'.cell? (Ub w.heap.size)=Uq (Ud f)/\ w'.cell? (Ua g (off+i*2))=Uq (Ud fi)) ⟨G,H⟩ (fun qh=> ?_);refine tZ 0 20 ?_;refine tZ 1 21 ?_;refine tZ 2 22 ?_;refine tZ 3 23 ?_;refine tZ 4 24 ?_;refine tZ 5 25 ?_;refine tZ 6 26 ?_;refine tZ 7 27 ?_;refine tZ 8 28 ?_;refine tZ 9 29 ?_;refine tZ 10 30 ?_;refine tZ 11 31 ?_;refine tZ 12 32 ?_;refine tZ 13 33 ?_;refine tZ 14 6 ?_;refine zD ?_;go_wp2_with fail;go_ret;exact⟨QbU y.symm,s.drew⟩
  | true=>
   have y:Hid (inB l f t=true):=(by unfold Hid;rw [A.out,hle];simp [V]);go_wp2_with fail;refine zR (S:=fun w'=>w'.cell? (Ub w.heap.size)=Uq (Ud f)/\ w'.cell? (Ua g (off+i*2))=Uq (Ud fi)) ⟨G,H⟩ (fun qh=> ?_);refine tZ 0 20 ?_;refine tZ 1 21 ?_;refine tZ 2 22 ?_;refine tZ 3 23 ?_;refine tZ 4 24 ?_;refine tZ 5 25 ?_;refine tZ 6 26 ?_;refine tZ 7 27 ?_;refine tZ 8 28 ?_;refine tZ 9 29 ?_;refine tZ 10 30 ?_;refine tZ 11 31 ?_;refine tZ 12 32 ?_;refine tZ 13 33 ?_;refine tZ 14 6 ?_;refine zD ?_;go_wp2_with fail;go_ret;exact⟨QbU y.symm,s.drew⟩
 ·have y:Hid (inB l f t=false):=by unfold Hid;rw [A.out];simp [V]
  have R:decide ((i:Int)<(m:Int))=false:=oS;have T:decide (i<m)=false:=oS;clear Z U q x0 K Y z M E o;go_wp2_with fail;refine zR (S:=fun w'=>w'.cell? (Ub w.heap.size)=Uq (Ud f)) G (fun qh=> ?_);refine tZ 0 20 ?_;refine tZ 1 21 ?_;refine tZ 2 22 ?_;refine tZ 3 23 ?_;refine tZ 4 24 ?_;refine uZ 5 25 ?_;refine uZ 6 26 ?_;refine uZ 7 27 ?_;refine uZ 8 28 ?_;refine uZ 9 29 ?_;refine uZ 10 30 ?_;refine uZ 11 31 ?_;refine uZ 12 32 ?_;refine tZ 13 33 ?_;refine tZ 14 6 ?_;refine zD ?_;go_wp2_with fail;go_ret;exact⟨QbU y.symm,s.drew⟩
theorem Qo6(h:LkR w bm r v l)(q:Int)(hs:Srt l)(hl:l.length<=1000000):
  Cl 140 #[.map (Uq bm),Uo #[Ud r,Ud q]] w (Rt w (Un (inB l q q))):=by
 have j:Bl w (w.alloc (Uj #[Ud r,Ud q] 83)):=zO _ _;have k:=hid (QmQ (h.bw j) q q hs hl);have u:=hid j;clear j h hs;go_enter func140,ntmps140;go_wp2_with fail;refine k.mono ?_;rintro e w1 ⟨rfl,m⟩;have y:=hid (Qaa u m);clear m k;go_wp2_with fail;go_ret;exact⟨rfl,y⟩
theorem QaH.lk{D:DataW Value}{G:Int ->Value}(h:QaH w bm n D G L)(r:Int)(hr:(Lit.int Uh r).wf=true):LkR w bm r (G r) (L r):=fun w' hb=>⟨(h.bw hb).look r hr,_,(h.bw hb).rows r⟩
theorem QpV{D:DataW Value}{G:Int ->Value}(h:QaH w bm n D G L)(r q:Int)(hr:(Lit.int Uh r).wf=true)(hs:Srt (L r))(hl:(L r).length<=1000000):
  Cl 140 #[.map (Uq bm),Uo #[Ud r,Ud q]] w (Rt w (Un (inB (L r) q q))):=Qo6 (h.lk r hr) q hs hl
def Qb6 (R F T:Nat ->Int)(r f t:Int):Nat ->Bool
 | 0=>false
 | k+1=>Qb6 R F T r f t k||decide (R k=r/\ F k<=f/\ t<=T k)
theorem Qec (R F T:Nat ->Int)(r f t:Int)(k:Nat):inB (Lk R F T k r) f t=Qb6 R F T r f t k:=by
 induction k with
 | zero=>rfl
 | succ k ih=>
  show inB (upd (Lk R F T k) (R k) (Lk R F T k (R k)++[(F k,T k)]) r) f t=(Qb6 R F T r f t k||decide (R k=r/\ F k<=f/\ t<=T k));by_cases e:r=R k
  ·subst e;rw [Qaq,<- ih];simp [inB]
  ·rw [Qai _ _ e,ih];have:decide (R k=r/\ F k<=f/\ t<=T k)=false:=(by simp;intro h;exact absurd h.symm e);rw [this];simp
theorem Qf1{f t:Int}(hk:k<n)(h:R k=r/\ F k<=f/\ t<=T k):Qb6 R F T r f t n=true:=by
 induction n with
 | zero=>omega
 | succ n ih=>
  simp only [Qb6,Bool.or_eq_true,decide_eq_true_iff];by_cases e:k=n
  ·subst e;exact .inr h
  ·exact .inl (ih oM)
theorem Qea{f t:Int}(h:Qb6 R F T r f t k=false)(h2:¬(R k=r/\ F k<=f/\ t<=T k)):Qb6 R F T r f t (k+1)=false:=by
 simp only [Qb6,h,Bool.false_or,decide_eq_false_iff_not];exact h2
theorem QmZ (a:Option Us)(n c:Nat)(R F T:Nat ->Int)(r q:Int)(w:Ur)(hn:n<=1048576)(h:QaT w a n R F T):
  Cl 50 #[Uo #[Uf a n c],Uo #[Ud r,Ud q]] w (Rt w (Un (Qb6 R F T r q q n))):=by
 obtain⟨j,v⟩:=zE ((w.alloc (Uj #[Uf a n c] 26)).alloc (Uj #[Ud r,Ud q] 83));have Y:Bl w j:=v▸Qad _ _ _;have H:j.cell? (Ub w.heap.size)=Uq (Uf a n c):=v▸oP;have x0:j.cell? (Ua (w.heap.size+1) 0)=Uq (Ud r):=v▸oP;have J:j.cell? (Ua (w.heap.size+1) 1)=Uq (Ud q):=v▸oP;have W:j.heap.size=w.heap.size+2:=v▸oP;have Z:=h.bw Y;clear h;go_enter func50,ntmps50;go_wp2_with fail;try rw [v]
 clear v;go_loopw [5] (fun i wr=>∃k:Nat,k<=n/\ i=Ud k/\ Qb6 R F T r q q k=false/\ Bl j wr) (fun i _=>n - (intOf i).toNat);case atStart=>exact⟨0,Ux _,rfl,rfl,zI⟩
 case round=>
  obtain⟨k,C,rfl,I,m⟩:=hrel;have A:=(m.cell (p:=(Ub w.heap.size)) (show w.heap.size<j.heap.size by omega)).trans H;have U:=(m.cell (p:=(Ua (w.heap.size+1) 0)) (show w.heap.size+1<j.heap.size by omega)).trans x0;have V:=(m.cell (p:=(Ua (w.heap.size+1) 1)) (show w.heap.size+1<j.heap.size by omega)).trans J;have g:=hid m;have s:=hid I;by_cases y:k<n
  ·rcases Z with Z|⟨b,off,rfl,G,Q⟩
   ·omega
   have E:=(m.cell (p:=(Ua b (off+k*3))) G).trans (Q k y).1;have M:=(m.cell (p:=(Ua b (off+k*3+1))) G).trans (Q k y).2.1;have O:=(m.cell (p:=(Ua b (off+k*3+2))) G).trans (Q k y).2.2;have D:(0:Int)<=(k:Int):=UI _;have P:(k:Int)<(n:Int):=oM;clear Q m I H x0 J;by_cases z:R k=r
   ·have N:(R k==r)=true:=(by simp;exact z);have K:=hid z;clear z;by_cases t:F k<=q
    ·have X:decide (F k<=q)=true:=(by simp;exact t);have L:=hid t;clear t;by_cases o:q<=T k
     ·have B:decide (q<=T k)=true:=(by simp;exact o);have u:=hid (Qf1 (n:=n) y ⟨K,L,o⟩);clear o;go_wp2_with fail;refine zR (S:=fun w'=>w'.cell? (Ub w.heap.size)=Uq (Uf (Uq (Ua b off)) n c)/\ w'.cell? (Ua (w.heap.size+1) 0)=Uq (Ud r)/\ w'.cell? (Ua (w.heap.size+1) 1)=Uq (Ud q)/\ w'.cell? (Ua b (off+k*3))=Uq (Ud (R k))/\ w'.cell? (Ua b (off+k*3+1))=Uq (Ud (F k))/\ w'.cell? (Ua b (off+k*3+2))=Uq (Ud (T k))) ⟨A,U,V,E,M,O⟩ (fun qh=> ?_);refine tZ 0 13 ?_;refine tZ 1 14 ?_;refine tZ 2 15 ?_;refine tZ 3 16 ?_;refine tZ 4 17 ?_;refine tZ 5 18 ?_;refine tZ 6 19 ?_;refine tZ 7 20 ?_;refine tZ 8 21 ?_;refine tZ 9 22 ?_;refine tZ 10 23 ?_;refine tZ 11 24 ?_;refine tZ 12 25 ?_;refine tZ 13 26 ?_;refine tZ 14 27 ?_;refine tZ 15 28 ?_;refine tZ 16 29 ?_;refine tZ 17 30 ?_;refine tZ 18 31 ?_;refine tZ 19 32 ?_;refine tZ 20 33 ?_;refine tZ 21 34 ?_;refine tZ 22 35 ?_;refine tZ 23 36 ?_;refine tZ 24 37 ?_;refine tZ 25 38 ?_;refine tZ 26 39 ?_;refine tZ 27 40 ?_;refine tZ 28 41 ?_;refine tZ 29 42 ?_;refine tZ 30 43 ?_;refine zD ?_;go_wp2_with fail;go_ret;exact⟨QbU u.symm,(Y.trans (g.mono oM)).drew⟩
     ·have B:decide (q<=T k)=false:=oS;have u:=hid (Qea s (fun hh=>o hh.2.2));clear o;go_wp2_with fail;refine zR (S:=fun w'=>w'.cell? (Ub w.heap.size)=Uq (Uf (Uq (Ua b off)) n c)/\ w'.cell? (Ua (w.heap.size+1) 0)=Uq (Ud r)/\ w'.cell? (Ua (w.heap.size+1) 1)=Uq (Ud q)/\ w'.cell? (Ua b (off+k*3))=Uq (Ud (R k))/\ w'.cell? (Ua b (off+k*3+1))=Uq (Ud (F k))/\ w'.cell? (Ua b (off+k*3+2))=Uq (Ud (T k))) ⟨A,U,V,E,M,O⟩ (fun qh=> ?_);refine tZ 0 13 ?_;refine tZ 1 14 ?_;refine tZ 2 15 ?_;refine tZ 3 16 ?_;refine tZ 4 17 ?_;refine tZ 5 18 ?_;refine tZ 6 19 ?_;refine tZ 7 20 ?_;refine tZ 8 21 ?_;refine tZ 9 22 ?_;refine tZ 10 23 ?_;refine tZ 11 24 ?_;refine tZ 12 25 ?_;refine tZ 13 26 ?_;refine tZ 14 27 ?_;refine tZ 15 28 ?_;refine tZ 16 29 ?_;refine tZ 17 30 ?_;refine tZ 18 31 ?_;refine tZ 19 32 ?_;refine tZ 20 33 ?_;refine tZ 21 34 ?_;refine tZ 22 35 ?_;refine tZ 23 36 ?_;refine tZ 24 37 ?_;refine tZ 25 38 ?_;refine tZ 26 39 ?_;refine tZ 27 40 ?_;refine tZ 28 41 ?_;refine tZ 29 42 ?_;refine tZ 30 43 ?_;refine zD ?_;go_wp2_with fail;go_roundw;case rel=>exact⟨k+1,y,oN,u,g.drew⟩
      case measure=>exact oE
    ·have X:decide (F k<=q)=false:=oS;have u:=hid (Qea s (fun hh=>t hh.2.1));clear t;go_wp2_with fail;refine zR (S:=fun w'=>w'.cell? (Ub w.heap.size)=Uq (Uf (Uq (Ua b off)) n c)/\ w'.cell? (Ua (w.heap.size+1) 0)=Uq (Ud r)/\ w'.cell? (Ua (w.heap.size+1) 1)=Uq (Ud q)/\ w'.cell? (Ua b (off+k*3))=Uq (Ud (R k))/\ w'.cell? (Ua b (off+k*3+1))=Uq (Ud (F k))/\ w'.cell? (Ua b (off+k*3+2))=Uq (Ud (T k))) ⟨A,U,V,E,M,O⟩ (fun qh=> ?_);refine tZ 0 13 ?_;refine tZ 1 14 ?_;refine tZ 2 15 ?_;refine tZ 3 16 ?_;refine tZ 4 17 ?_;refine tZ 5 18 ?_;refine tZ 6 19 ?_;refine tZ 7 20 ?_;refine tZ 8 21 ?_;refine tZ 9 22 ?_;refine tZ 10 23 ?_;refine tZ 11 24 ?_;refine tZ 12 25 ?_;refine tZ 13 26 ?_;refine tZ 14 27 ?_;refine tZ 15 28 ?_;refine tZ 16 29 ?_;refine tZ 17 30 ?_;refine tZ 18 31 ?_;refine tZ 19 32 ?_;refine tZ 20 33 ?_;refine uZ 21 34 ?_;refine uZ 22 35 ?_;refine uZ 23 36 ?_;refine uZ 24 37 ?_;refine uZ 25 38 ?_;refine uZ 26 39 ?_;refine uZ 27 40 ?_;refine uZ 28 41 ?_;refine uZ 29 42 ?_;refine tZ 30 43 ?_;refine zD ?_;go_wp2_with fail;go_roundw;case rel=>exact⟨k+1,y,oN,u,g.drew⟩
     case measure=>exact oE
   ·have N:(R k==r)=false:=(by simp;exact z);have u:=hid (Qea s (fun hh=>z hh.1));clear z;go_wp2_with fail;refine zR (S:=fun w'=>w'.cell? (Ub w.heap.size)=Uq (Uf (Uq (Ua b off)) n c)/\ w'.cell? (Ua (w.heap.size+1) 0)=Uq (Ud r)/\ w'.cell? (Ua (w.heap.size+1) 1)=Uq (Ud q)/\ w'.cell? (Ua b (off+k*3))=Uq (Ud (R k))/\ w'.cell? (Ua b (off+k*3+1))=Uq (Ud (F k))/\ w'.cell? (Ua b (off+k*3+2))=Uq (Ud (T k))) ⟨A,U,V,E,M,O⟩ (fun qh=> ?_);refine tZ 0 13 ?_;refine tZ 1 14 ?_;refine tZ 2 15 ?_;refine tZ 3 16 ?_;refine tZ 4 17 ?_;refine tZ 5 18 ?_;refine tZ 6 19 ?_;refine tZ 7 20 ?_;refine tZ 8 21 ?_;refine tZ 9 22 ?_;refine uZ 10 23 ?_;refine uZ 11 24 ?_;refine uZ 12 25 ?_;refine uZ 13 26 ?_;refine uZ 14 27 ?_;refine uZ 15 28 ?_;refine uZ 16 29 ?_;refine uZ 17 30 ?_;refine uZ 18 31 ?_;refine tZ 19 32 ?_;refine tZ 20 33 ?_;refine uZ 21 34 ?_;refine uZ 22 35 ?_;refine uZ 23 36 ?_;refine uZ 24 37 ?_;refine uZ 25 38 ?_;refine uZ 26 39 ?_;refine uZ 27 40 ?_;refine uZ 28 41 ?_;refine uZ 29 42 ?_;refine tZ 30 43 ?_;refine zD ?_;go_wp2_with fail;go_roundw;case rel=>exact⟨k+1,y,oN,u,g.drew⟩
    case measure=>exact oE
  ·obtain rfl:k=n:=oM;clear m I H x0 J Z;go_wp2_with fail;go_ret;exact⟨QbU s.symm,Y.trans (g.mono oM)⟩
def nz (f:Nat ->Int):Nat ->Nat ->Int
 | 0,_=>0
 | n+1,k=>if f k=0 then nz f n (k+1) else f k
theorem Qns {f:Nat ->Int}(h:k<n):nz f (n - k) k=if f k=0 then nz f (n - (k+1)) (k+1) else f k:=by
 rw [show n - k=(n - (k+1))+1 by omega];rfl
theorem QiR (b n c:Nat)(f:Nat ->Int)(w:Ur)(hn:n<=1000)(h:∀i,i<n ->w.cell? (Ua b i)=Uq (Ud (f i))):
  Cl 145 #[Uf (Uc b) n c] w fun e w'=>e=Ui (Ud (nz f n 0))/\ w'=w:=by
 go_enter func145,ntmps145;go_wp2_with fail;go_loop [8] (fun i=>∃k:Nat,k<=n/\ i=Ud (k:Int)/\ Hid (nz f n 0=nz f (n - k) k)) (fun i=>n - (intOf i).toNat);case atStart=>exact⟨0,Ux _,rfl,hid rfl⟩
 case round=>
  obtain⟨k,v,rfl,m⟩:=hrel;by_cases r:k<n
  ·have x0:=h k r;have y:(0:Int)<=(k:Int):=UI _;have z:(k:Int)<(n:Int):=oM;have j:Hid (nz f n 0=if f k=0 then nz f (n - (k+1)) (k+1) else f k):=hid (by rw [m.out,Qns r]);obtain⟨x,u⟩:=zE (f k);rw [u] at x0 j;clear h u m;by_cases q:x=0
   ·subst q;have j:Hid (nz f n 0=nz f (n - (k+1)) (k+1)):=hid (by rw [j.out,if_pos rfl]);go_wp2_with fail;go_round;case rel=>exact⟨k+1,r,oN,j⟩
    case measure=>exact oE
   ·have j:Hid (nz f n 0=x):=hid (by rw [j.out,if_neg q]);have g:(x !=0)=true:=oU q;go_wp2_with fail;go_ret;exact⟨QbF j.symm,rfl⟩
  ·obtain rfl:k=n:=oM;have j:Hid (nz f k 0=0):=hid (by rw [m.out,Nat.sub_self];rfl);clear h m;go_wp2_with fail;go_ret;exact⟨QbF j.symm,rfl⟩
def orI (x y:Int):Int:=if x=0 then y else x
theorem nz2 {f:Nat ->Int}:nz f 2 0=orI (f 0) (f 1):=by
 unfold orI nz;by_cases h:f 0=0
 ·rw [if_pos h,if_pos h];unfold nz;by_cases j:f 1=0
  ·rw [if_pos j,j];rfl
  ·rw [if_neg j]
 ·rw [if_neg h,if_neg h]
theorem nz3 {f:Nat ->Int}:nz f 3 0=orI (f 0) (orI (f 1) (f 2)):=by
 unfold orI nz;by_cases h:f 0=0
 ·rw [if_pos h,if_pos h];unfold nz;by_cases j:f 1=0
  ·rw [if_pos j,if_pos j];unfold nz;by_cases k:f 2=0
   ·rw [if_pos k,k];rfl
   ·rw [if_neg k]
  ·rw [if_neg j,if_neg j]
 ·rw [if_neg h,if_neg h]
def kd (fl:Bool):Int:=if fl=true then 2 else 1
def Qkv (r q r' q':Int):Int:=orI (QaZ r r') (QaZ q q')
def QaL (x y:Lf):Int:=orI (QaC x.p y.p) (orI (QaZ (kd x.fl) (kd y.fl)) (Qkv x.r x.q y.r y.q))
theorem Qf6 (v0:Value)(fl:Bool)(v2 v3 v4:Value)(w:Ur):Cl 99 #[Uo #[v0,Un fl,v2,v3,v4]] w (Rt w (Ud (kd fl))):=by
 have j:=hid (zO w (Uj #[v0,Un fl,v2,v3,v4] 85));cases fl
 ·go_enter func99,ntmps99;go_wp2_with fail;go_ret;exact⟨rfl,j⟩
 ·go_enter func99,ntmps99;go_wp2_with fail;go_ret;exact⟨rfl,j⟩
theorem QdO (r q r' q':Int)(w:Ur):Cl 150 #[Uo #[Ud r,Ud q],Uo #[Ud r',Ud q']] w (Rt w (Ud (Qkv r q r' q'))):=by
 obtain⟨W,m⟩:=zE ((w.alloc (Uj #[Ud r,Ud q] 83)).alloc (Uj #[Ud r',Ud q'] 83));have z:Bl w W:=m▸Qad _ _ _;have E:W.heap.size=w.heap.size+2:=m▸oP;have o:W.cell? (Ub w.heap.size)=Uq (Ud r):=m▸oP;have b:W.cell? (Ua w.heap.size 1)=Uq (Ud q):=m▸oP;have s:W.cell? (Ua (w.heap.size+1) 0)=Uq (Ud r'):=m▸oP;have A:W.cell? (Ua (w.heap.size+1) 1)=Uq (Ud q'):=m▸oP;have v:=hid z;have h:w.heap.size<W.heap.size:=oM;have g:w.heap.size+1<W.heap.size:=oM;clear z E;go_enter func150,ntmps150;go_wp2_with fail;try rw [m]
 clear m;have u:∀w',Bl W w' ->(Bl W w'/\ w'.cell? (Ub w.heap.size)=Uq (Ud r)/\ w'.cell? (Ua w.heap.size 1)=Uq (Ud q)/\ w'.cell? (Ua (w.heap.size+1) 0)=Uq (Ud r')/\ w'.cell? (Ua (w.heap.size+1) 1)=Uq (Ud q')):=fun w' k=>⟨k,(k.cell (p:=(Ub w.heap.size)) h).trans o,(k.cell (p:=(Ua w.heap.size 1)) h).trans b,(k.cell (p:=(Ua (w.heap.size+1) 0)) g).trans s,(k.cell (p:=(Ua (w.heap.size+1) 1)) g).trans A⟩;have y:=hid u;clear u;refine zS y (fun qh=> ?_);refine tZ 0 5 ?_;refine tZ 1 6 ?_;refine tZ 2 7 ?_;refine tZ 3 8 ?_;refine tZ 5 10 ?_;refine tZ 6 11 ?_;refine tZ 7 12 ?_;refine tZ 8 13 ?_;refine cZ 4 ?_;intro K j;go_simp;refine(Qcd r r' _).mono ?_;rintro e w1 ⟨rfl,rfl⟩;refine j.out _ _ qh (fun qh=> ?_);clear j K;try simp only [zP]
 refine cZ 9 ?_;intro K j;go_simp;refine(Qcd q q' _).mono ?_;rintro e M ⟨rfl,rfl⟩;refine j.out _ _ qh (fun qh=> ?_);clear j K;try simp only [zP]
 refine cZ 10 ?_;intro K j;go_simp;have k:=qh.1.alloc qh.1.size (Uj #[Ud (QaZ r r'),Ud (QaZ q q')] 3);refine j.out _ _ (y _ k) (fun qh=> ?_);clear j K;try simp only [zP]
 refine cZ 11 ?_;intro K j;go_simp;refine(QiR _ 2 2 (fun i=>if i=0 then QaZ r r' else QaZ q q') _ oM (fun i hi=> ?_)).mono ?_
 ·match i,hi with
  | 0,_=>simp
  | 1,_=>simp
 rintro e O ⟨rfl,rfl⟩;refine j.out _ _ qh (fun qh=> ?_);clear j K;try simp only [zP]
 refine tZ 12 4 ?_;refine zD ?_;have t:=hid (v.trans (qh.1.mono v.size));clear qh k;go_wp2_with fail;go_ret;exact⟨QbF nz2,t⟩
def emB (v:ByteArray):Bool:=v.toList.isEmpty
def Qcz (x:Lf):Prop:=Qbb x.p/\ x.v.size<=200/\ (x.fl=true ->emB x.v=true)
theorem QoI (a:Option Us)(c:Nat)(p:List ByteArray)(fl:Bool)(r q:Int)(v:ByteArray)(w:Ur)(hn:p.length<=1048576)(h:QaP w a p):
  Cl 139 #[Uo #[Uf a p.length c,Un fl,Ud r,Ud q,Um v]] w (Rt w (Un (yes (Qcz ⟨p,fl,r,q,v⟩)))):=by
 obtain⟨W,j⟩:=zE (w.alloc (Uj #[Uf a p.length c,Un fl,Ud r,Ud q,Um v] 85));have o:Bl w W:=j▸zO _ _;have Q:W.cell? (Ub w.heap.size)=Uq (Uf a p.length c):=j▸oP;have U:W.cell? (Ua w.heap.size 1)=Uq (Un fl):=j▸oP;have V:W.cell? (Ua w.heap.size 4)=Uq (Um v):=j▸oP;have t:=hid (Qlb p a c W hn (h.bw o));have y:=hid o;obtain⟨B,i⟩:=zE (yes (Qcz ⟨p,fl,r,q,v⟩));have g:=hid i;rw [i];clear o h i;by_cases m:fl=true/\ emB v=false
 ·have M:v.toList.isEmpty=false:=m.2;have k:Hid (B=false):=hid (by rw [<- g.out];exact Qag (fun h=>by have:=h.2.2 m.1;simp only at this;rw [m.2] at this;cases this));obtain⟨rfl,_⟩:=m;go_enter func139,ntmps139;go_wp2_with fail;try rw [j]
  clear j;go_wp2_with fail;go_ret;exact⟨Qaz k.symm,y⟩
 ·have k:Hid (B=(yes (Qbb p) && decide (v.size<=200))):=hid (by
   rw [<- g.out];have hi:fl=true ->emB v=true:=fun e=>by
    by_cases h:emB v=true
    ·exact h
    ·exact absurd ⟨e,oU h⟩ m
   by_cases u:Qbb p
   ·by_cases z:v.size<=200
    ·rw [Qaj ⟨u,z,hi⟩,Qaj u,decide_eq_true z];rfl
    ·rw [Qag (fun h=>z h.2.1),Qaj u,decide_eq_false z];rfl
   ·rw [Qag (fun h=>u h.1),Qag u];rfl)
  obtain⟨Y,A⟩:=zE (yes (Qbb p));rw [A] at k t;clear A g;have b:decide ((v.size:Int)<=200)=decide (v.size<=200):=decide_eq_decide.2 oM;obtain⟨Z,E⟩:=zE (decide (v.size<=200));rw [E] at k b;clear E;have s:∀(Y Z:Bool),B=(Y && Z) ->Y=false ->B=false:=fun Y Z h u=>by rw [h,u];rfl
  have O:=hid s;clear s;cases fl with
  | false=>
   clear m;go_enter func139,ntmps139;go_wp2_with fail;try rw [j]
   clear j;go_wp2_with fail;refine t.mono ?_;rintro e w1 ⟨rfl,rfl⟩;cases Y with
   | true=>
    go_wp2_with fail;go_ret;exact⟨Qaz (by rw [k.out];simp [b]),y⟩
   | false=>
    go_wp2_with fail;go_ret;exact⟨Qaz (by rw [k.out];rfl),y⟩
  | true=>
   have M:v.toList.isEmpty=true:=by
    by_cases h:emB v=true
    ·exact h
    ·exact absurd ⟨rfl,oU h⟩ m
   clear m;go_enter func139,ntmps139;go_wp2_with fail;try rw [j]
   clear j;go_wp2_with fail;refine t.mono ?_;rintro e w1 ⟨rfl,rfl⟩;cases Y with
   | true=>
    go_wp2_with fail;go_ret;exact⟨Qaz (by rw [k.out];simp [b]),y⟩
   | false=>
    go_wp2_with fail;go_ret;exact⟨Qaz (by rw [k.out];rfl),y⟩
theorem QqC:prog.fieldsOf 83=match prog.underlying 83 with|some (.struct fs)=>fs|_=>#[]:=rfl
theorem Qk4:prog.stoodInHeld 83=false:=oK
theorem Qk3:prog.eqGuardType prog.depth 83=false:=oK
theorem QlD (r q r' q':Int)(w:Ur):(binOp .eql 83 (Uo #[Ud r,Ud q]) (Uo #[Ud r',Ud q'])).run prog w=.ok (Un (r==r' && q==q')) w:=by
 rw [run_eql_struct,show (10000:Nat)=9999+1 from rfl,run_equalIn_agg _ _ _ _ _ oK Qk4,QqC,underlying83];cases h1:(r==r')<;>simp [Op.eqFields,go_sem,underlying3,h1];by_cases j:q=q'<;>simp [j]
theorem QhR:laidOutB prog=true:=oK
theorem Qau:Keyed prog 83:=Keyed.of_law (deep_law_laid QhR (m:=3) oM (of_decide_eq_true oK) oK oK)
def QfT (r q:Int):Value:=Uo #[Ud r,Ud q]
theorem QmE:prog.keyType 83=true:=oK
theorem QdP {q:Int}(hr:(Lit.int Uh r).wf=true)(hq:(Lit.int Uh q).wf=true):∃kl,keyOf prog 83 (QfT r q)=Uq kl:=by
 unfold keyOf;rw [underlying83];simp only [QmE,Bool.true_and];have v:0<prog.types.size:=of_decide_eq_true oK;obtain⟨m,u⟩:∃m,prog.types.size=m+1:=⟨prog.types.size - 1,oM⟩;rw [u];have j:prog.cellsOf 83=2:=oK;have k:prog.cellsOf 3=1:=oK;simp [Value.formed,QfT,underlying83,j,Program.keyLits,underlying3,k,Value.cells,hr,hq]
theorem QeE {q q':Int}{kl:Lit}(h:keyOf prog 83 (QfT r q)=Uq kl)(h':keyOf prog 83 (QfT r' q')=Uq kl):r=r'/\ q=q':=by
 have e:=Qau.inj h h';simpa [QfT] using e
structure Qkn (w:Ur)(bm k:Nat)(l:List Lf)(D:DataW Value):Prop where
 own:w.ownsMap prog 83 (plainElem prog 3) bm k D
 tidy:Tidy D
 has':∀r q kl,keyOf prog 83 (QfT r q)=Uq kl ->(has D kl=true↔∃j,j<k/\ (gL l j).r=r/\ (gL l j).q=q)
 le:size D<=k
 eq:size D=k↔∀i,i<k ->∀j,j<i ->¬((gL l j).r=(gL l i).r/\ (gL l j).q=(gL l i).q)
theorem Qkn.step{l:List Lf}{D:DataW Value}{kl:Lit}{d:DataW Value}(h:Qkn w bm k l D)(hk:keyOf prog 83 (QfT (gL l k).r (gL l k).q)=Uq kl)
  (ho:w'.ownsMap prog 83 (plainElem prog 3) bm (k+1) (D.put kl d)):Qkn w' bm (k+1) l (D.put kl d):=by
 have g:=Qau.key hk;have t:=size_put (k:=kl) h.tidy d;have z:=h.has' _ _ _ hk;refine⟨ho,h.tidy.put g d,fun r q kl' hk'=> ?_,?_,?_⟩
 ·by_cases e:kl'=kl
  ·subst e;obtain⟨o,b⟩:=QeE hk hk';rw [has_put_same h.tidy.isMap g];exact⟨fun _=>⟨k,oM,o,b⟩,fun _=>rfl⟩
  ·rw [has_put_other e,h.has' r q kl' hk'];constructor
   ·rintro⟨j,m,u⟩;exact⟨j,oM,u⟩
   ·rintro⟨j,m,u,v⟩;by_cases s:j=k
    ·subst s;rw [u,v,hk'] at hk;injection hk with hk;exact absurd hk e
    ·exact⟨j,oM,u,v⟩
 ·rw [t];have:=h.le;split<;>omega
 ·rw [t];have E:=h.le;by_cases y:has D kl=true
  ·rw [if_pos y];obtain⟨j,m,u,v⟩:=z.1 y;constructor
   ·intro e;omega
   ·intro e;exact absurd ⟨u,v⟩ (e k oM j m)
  ·rw [if_neg y];have A:=fun j m u v=>y (z.2 ⟨j,m,u,v⟩);constructor
   ·intro e i hi j m;by_cases p:i=k
    ·subst p;exact fun q=>A j m q.1 q.2
    ·exact h.eq.1 oM i oM j m
   ·intro e;have:=h.eq.2 (fun i hi j m=>e i oM j m);omega
theorem Qkn.made (w:Ur)(l:List Lf):Qkn (w.alloc (.map #[] 0)) w.heap.size 0 l (.map []):=
 ⟨UP w _ _ _,tidy_empty,fun r q kl hk=>⟨fun h=>by simp [has] at h,fun⟨j,hj,_⟩=>oM⟩,by simp [size],⟨fun _ i hi=>oM,fun _=>rfl⟩⟩
def QgE (v:Value):Option (DataW Value×List MemPlace):=Uq (.held v,[])
theorem QdA{d:DataW Value}{ps:List MemPlace}(h:QgE v=Uq (d,ps)):d=.held v:=by
 unfold QgE at h;simp at h;exact h.1.symm
abbrev Ky:=ByteArray×Int
abbrev Dt:=Int×Int
def Qa9 (x:Ky):Value:=Uo #[Um x.1,Ud x.2]
def dtV (d:Dt):Value:=QfT d.1 d.2
def Qb8:Option ByteArray ->Value
 | none=> Uo #[Um ByteArray.empty]
 | some s=> Uo #[Um s]
def Qbl:Option (Nat×Nat) ->Value
 | none=> Uo #[.map Up,.map Up]
 | some x=> Uo #[.map (Uq x.1),.map (Uq x.2)]
theorem Qb7 {x y:Ky}(h:Qa9 x=Qa9 y):x=y:=by
 obtain⟨a,b⟩:=x;obtain⟨c,d⟩:=y;simpa [Qa9] using h
theorem QcA {x y:Dt}(h:dtV x=dtV y):x=y:=by
 obtain⟨a,b⟩:=x;obtain⟨c,d⟩:=y;simpa [dtV,QfT] using h
theorem Qa1:Keyed prog 174:=Keyed.of_law (deep_law_laid QhR (m:=3) oM (of_decide_eq_true oK) oK oK)
theorem QoE:prog.keyType 174=true:=oK
theorem QhM{k:Int}(hs:s.size<=maxLen)(hk:(Lit.int Uh k).wf=true):∃kl,keyOf prog 174 (Qa9 (s,k))=Uq kl:=by
 unfold keyOf;rw [underlying174];simp only [QoE,Bool.true_and];have v:0<prog.types.size:=of_decide_eq_true oK;obtain⟨m,u⟩:∃m,prog.types.size=m+1:=⟨prog.types.size - 1,oM⟩;rw [u];have j:prog.cellsOf 174=2:=oK;have q:prog.cellsOf 3=1:=oK;have r:prog.cellsOf 9=1:=oK;simp [Value.formed,Qa9,underlying174,j,Program.keyLits,underlying3,underlying9,q,r,Value.cells,hs,hk]
structure FM {α β:Type}(w:Ur)(t:TypeId)(kv:α ->Value)(vo:Option β ->Value)(b c:Nat)(f:α ->Option β)(D:DataW Value):Prop where
 own:w.ownsMap prog t QgE b c D
 at':∀x kl,keyOf prog t (kv x)=Uq kl ->has D kl=(f x).isSome/\ D.atKey kl (.held (vo Up))=.held (vo (f x))
 cov:∀kl,has D kl=true ->∃x,keyOf prog t (kv x)=Uq kl
 ok:∀x,f x≠Up ->∃kl,keyOf prog t (kv x)=Uq kl
def Qa0 {α β:Type}(w:Ur)(t:TypeId)(kv:α ->Value)(vo:Option β ->Value)(b c:Nat)(f:α ->Option β):Prop:=∃D,FM w t kv vo b c f D
section
variable {α β : Type} {w : Ur} {t : TypeId} {kv : α -> Value} {vo : Option β -> Value} {b c : Nat} {f : α -> Option β}
theorem QbO {w w':Ur}{k:TypeId}{R:Value ->Option (DataW Value×List MemPlace)}{b n:Nat}{D:DataW Value}(h:w.ownsMap prog k R b n D)(e:w'.heap[b]? =w.heap[b]?):w'.ownsMap prog k R b n D:=by
 obtain⟨m,j,q,r⟩:=h;exact⟨m,j,e.trans q,r⟩
theorem Qa0.same {w':Ur}(h:Qa0 w t kv vo b c f)(e:w'.heap[b]? =w.heap[b]?):Qa0 w' t kv vo b c f:=by
 obtain⟨D,h⟩:=h;exact⟨D,QbO h.own e,h.at',h.cov,h.ok⟩
theorem Qa0.mono {c':Nat}(h:Qa0 w t kv vo b c f)(hc:c<=c'):Qa0 w t kv vo b c' f:=by
 obtain⟨D,h⟩:=h;exact⟨D,h.own.mono hc,h.at',h.cov,h.ok⟩
theorem Qa0.lt (h:Qa0 w t kv vo b c f):b<w.heap.size:=by
 obtain⟨D,h⟩:=h;exact h.own.lt
theorem Qa0.obj (h:Qa0 w t kv vo b c f):∃k j,w.heap[b]? =Uq (.map k j):=by
 obtain⟨D,h⟩:=h;obtain⟨k,j,m,_⟩:=h.own;exact⟨k,j,m⟩
theorem Qa0.ext {g:α ->Option β}(h:Qa0 w t kv vo b c f)(e:∀x,f x=g x):Qa0 w t kv vo b c g:=by
 obtain rfl:f=g:=funext e;exact h
theorem Qa0.look {mt e:TypeId}(h:Qa0 w t kv vo b c f)(K:Keyed prog t)(ht:prog.underlying mt=Uq (.map t e))(hz:(zeroValue e).run prog w=.ok (vo Up) w){x:α}{kl:Lit}(hk:keyOf prog t (kv x)=Uq kl):
  (Instr.lookup mt (.map (Uq b)) (kv x) false).run prog w=.ok (vo (f x)) w:=by
 obtain⟨D,h⟩:=h;obtain⟨v,ps,j,k⟩:=h.own.lookup K ht hz (zd:=.held (vo Up)) (zp:=[]) rfl hk;have:=QdA k;rw [(h.at' x kl hk).2] at this;injection this with this;rw [<- this] at j;exact j
theorem Qa0.look_ok {mt e:TypeId}(h:Qa0 w t kv vo b c f)(K:Keyed prog t)(ht:prog.underlying mt=Uq (.map t e))(hz:(zeroValue e).run prog w=.ok (vo Up) w){x:α}{kl:Lit}(hk:keyOf prog t (kv x)=Uq kl):
  (Instr.lookup mt (.map (Uq b)) (kv x) true).run prog w=.ok (Ul #[vo (f x),Un (f x).isSome]) w:=by
 obtain⟨D,h⟩:=h;obtain⟨v,ps,j,k⟩:=h.own.look_ok K ht hz (zd:=.held (vo Up)) (zp:=[]) rfl hk;have:=QdA k;rw [(h.at' x kl hk).2] at this;injection this with this;rw [<- this,(h.at' x kl hk).1] at j;exact j
theorem Qa0.made (w:Ur)(t:TypeId)(kv:α ->Value)(vo:Option β ->Value):Qa0 (w.alloc (.map #[] 0)) t kv vo w.heap.size 0 (fun _=>Up):=
 ⟨.map [],UP w _ _ _,fun x kl _=>⟨by simp [has],rfl⟩,fun kl h=>by simp [has] at h,fun x h=>absurd rfl h⟩
open Classical in
noncomputable def QbX {α β:Type}(f:α ->Option β)(x:α)(v:Option β)(y:α):Option β:=if y=x then v else f y
theorem Qaw (f:α ->Option β)(x:α)(v:Option β):QbX f x v x=v:=by unfold QbX;simp
theorem Qam (f:α ->Option β){x y:α}(v:Option β)(h:y≠x):QbX f x v y=f y:=by unfold QbX;simp [h]
theorem Qa0.store {mt e:TypeId}(h:Qa0 w t kv vo b c f)(K:Keyed prog t)(hi:∀x y,kv x=kv y ->x=y)(ht:prog.underlying mt=Uq (.map t e))(hc:c<maxLen){x:α}{y:β}{kl:Lit}(hk:keyOf prog t (kv x)=Uq kl):
  ∃w',(Instr.mapUpdate mt (.map (Uq b)) (kv x) (vo (Uq y))).run prog w=.ok () w'/\ Qa0 w' t kv vo b (c+1) (QbX f x (Uq y))/\ w.grownBy w' (Uq b):=by
 obtain⟨D,h⟩:=h;obtain⟨w',u,r,q⟩:=h.own.update K ht hc hk (val:=vo (Uq y)) (d:=.held (vo (Uq y))) (ps:=[]) rfl;have m:=K.key hk;refine⟨w',u,⟨_,r,fun x' kl' hk'=> ?_,fun kl' hh=> ?_,fun x' hx'=> ?_⟩,q⟩
 ·by_cases j:x'=x
  ·subst j;rw [hk] at hk';injection hk' with hk';subst hk';rw [Qaw,has_put_same h.own.isMap m,atKey_put_same h.own.isMap m];exact⟨rfl,rfl⟩
  ·have k:kl'≠kl:=fun e=>j (hi _ _ (K.inj (e▸hk') hk));rw [Qam _ _ j,has_put_other k,atKey_put_other k];exact h.at' x' kl' hk'
 ·by_cases k:kl'=kl
  ·subst k;exact⟨x,hk⟩
  ·rw [has_put_other k] at hh;exact h.cov kl' hh
 ·by_cases j:x'=x
  ·subst j;exact⟨kl,hk⟩
  ·rw [Qam _ _ j] at hx';exact h.ok x' hx'
theorem Qa0.len {mt e:TypeId}(h:Qa0 w t kv vo b c f)(K:Keyed prog t)(ht:prog.underlying mt=Uq (.map t e)):∃n:Nat,(∀ty,(Builtin.len_ #[mt] ty #[.map (Uq b)]).run prog w=.ok (Ud n) w)/\ n<=c/\ (0<n↔∃x,f x≠Up):=by
 obtain⟨D,h⟩:=h;refine⟨Maps.size D,fun ty=>h.own.len ht ty,h.own.size_le,?_⟩;obtain⟨q,rfl⟩:=h.own.isMap;constructor
 ·intro v;have z:∃k,has (DataW.map q) k=true:=by
   cases q with
   | nil=>simp [Maps.size] at v
   | cons p r=>
    obtain⟨o,u,_,j⟩:=h.own.entries K;have g:WideAt.IsKeyLit p.1:=j p (by injection u with u;rw [<- u];simp);refine⟨p.1,?_⟩;rw [has_eq];simp only [List.any_cons,Bool.or_eq_true];exact .inl (WideAt.sameKey_self g)
  obtain⟨k,j⟩:=z;obtain⟨x,m⟩:=h.cov k j;refine⟨x,fun e=> ?_⟩;have:=(h.at' x k m).1;rw [j,e] at this;cases this
 ·rintro⟨x,m⟩;obtain⟨k,j⟩:=h.ok x m;have:=(h.at' x k j).1;cases q with
  | nil=>cases e:f x with
   | none=>exact absurd e m
   | some y=>rw [e] at this;simp [has] at this
  | cons p r=>simp [Maps.size]
end
def Qac (p:List ByteArray)(k:Int):List Ky:=(List.range p.length).map fun i=>(gS p i,if i+1<p.length then 3 else k)
theorem QaM (p:List ByteArray)(k:Int):(Qac p k).length=p.length:=by simp [Qac]
theorem Qb4{k:Int}(h:i<p.length):(Qac p k)[i]? =Uq (gS p i,if i+1<p.length then 3 else k):=by simp [Qac,h]
theorem Qdy{k:Int}(h:i<p.length):(Qac p k).take (i+1)=(Qac p k).take i++[(gS p i,if i+1<p.length then 3 else k)]:=by
 have j:i<(Qac p k).length:=by rw [QaM];exact h
 rw [List.take_add_one,Qb4 h];rfl
theorem QlF(hl:p.length=q.length)(h:∀i,i<p.length ->gS p i=gS q i):p=q:=by
 refine List.ext_getElem hl fun i h1 h2=> ?_;have:=h i h1;simpa [gS,UA,h1,h2] using this
theorem QgB{k j:Int}(h:Qac p k=Qac q j)(h0:0<p.length):p=q/\ k=j:=by
 have r:p.length=q.length:=by have:=congrArg List.length h;simpa [QaM] using this
 have m:∀i,i<p.length ->(gS p i,if i+1<p.length then 3 else k)=(gS q i,if i+1<q.length then(3:Int) else j):=fun i hi=>by
  have:=Qb4 (k:=k) hi;rw [h,Qb4 oM] at this;injection this with this;exact this.symm
 refine⟨QlF r fun i hi=>(Prod.mk.inj (m i hi)).1,?_⟩;have:=(Prod.mk.inj (m (p.length - 1) oM)).2;rw [if_neg oM,if_neg oM] at this;exact this
theorem Qio {α:Type}{l:List α}{x:α}{q:List α}(h:l.take (k+1)=l.take k++[x]):q <+:l.take (k+1)↔q <+:l.take k \/q=l.take k++[x]:=by
 rw [h];constructor
 ·intro j;rcases List.prefix_concat_iff.1 j with e|e
  ·exact .inr e
  ·exact .inl e
 ·rintro(e|e)
  ·exact e.trans (List.prefix_append _ _)
  ·rw [e];exact List.prefix_refl _
structure Tre (w:Ur)(B:Nat)(N:List Ky ->Option (Nat×Nat))(M:List Ky ->Dt ->Option ByteArray)(c:Nat):Prop where
 kids:∀p x,N p=Uq x ->Qa0 w 174 Qa9 Qbl x.1 c (fun y=>N (p++[y]))
 marks:∀p x,N p=Uq x ->Qa0 w 83 dtV Qb8 x.2 c (M p)
 apart:∀p q x y,N p=Uq x ->N q=Uq y ->x.1≠y.2/\ (x.1=y.1 ->p=q)/\ (x.2=y.2 ->p=q)
 lo:∀p x,N p=Uq x ->B<=x.1/\ B<=x.2
 none':∀p,N p=Up ->M p=fun _=>Up
 up:∀p y,N p=Up ->N (p++[y])=Up
section
variable {w w' : Ur} {B c : Nat} {N : List Ky -> Option (Nat × Nat)} {M : List Ky -> Dt -> Option ByteArray}
theorem Tre.same (h:Tre w B N M c)(hs:∀p x,N p=Uq x ->w'.heap[x.1]? =w.heap[x.1]? /\ w'.heap[x.2]? =w.heap[x.2]?):Tre w' B N M c:=
 ⟨fun p x hx=>(h.kids p x hx).same (hs p x hx).1,fun p x hx=>(h.marks p x hx).same (hs p x hx).2,h.apart,h.lo,h.none',h.up⟩
theorem Tre.lt (h:Tre w B N M c){p:List Ky}{x:Nat×Nat}(hx:N p=Uq x):x.1<w.heap.size/\ x.2<w.heap.size:=⟨(h.kids p x hx).lt,(h.marks p x hx).lt⟩
theorem Tre.bw (h:Tre w B N M c)(hb:Bl w w'):Tre w' B N M c:=h.same fun p x hx=>⟨hb.block _ (h.lt hx).1,hb.block _ (h.lt hx).2⟩
theorem Tre.mono {c':Nat}(h:Tre w B N M c)(hc:c<=c'):Tre w B N M c':=⟨fun p x hx=>(h.kids p x hx).mono hc,fun p x hx=>(h.marks p x hx).mono hc,h.apart,h.lo,h.none',h.up⟩
theorem Qcq {w:Ur}{q:Us}{v:Value}(h:w.cell? q=Uq v):∀k j,w.heap[q.block]? ≠Uq (.map k j):=by
 intro k j e;simp [World.cell?,e] at h
theorem Tre.set (h:Tre w B N M c){q:Us}{v:Value}(u:Value)(hc:w.cell? q=Uq v):Tre (w.setCell q u) B N M c:=by
 refine h.same fun p x hx=>⟨zH _ _ _ _ fun e=> ?_,zH _ _ _ _ fun e=> ?_⟩
 ·obtain⟨m,k,j⟩:=(h.kids p x hx).obj;rw [e] at j;exact Qcq hc _ _ j
 ·obtain⟨m,k,j⟩:=(h.marks p x hx).obj;rw [e] at j;exact Qcq hc _ _ j
structure Gt (B:Nat)(w w':Ur):Prop where
 os:w'.os=w.os
 tape:w'.tape=w.tape
 output:w'.output=w.output
 size:w.heap.size<=w'.heap.size
 block:∀g,g<w.heap.size ->(g<B \/∀es cl,w.heap[g]? ≠Uq (.map es cl)) ->w'.heap[g]? =w.heap[g]?
theorem Gt.refl (B:Nat)(w:Ur):Gt B w w:=⟨rfl,rfl,rfl,Uv _,fun _ _ _=>rfl⟩
theorem Gt.trans {a b d:Ur}(h:Gt B a b)(k:Gt B b d):Gt B a d:=
 ⟨k.os.trans h.os,k.tape.trans h.tape,k.output.trans h.output,Uw h.size k.size,fun g hg ho=>by
  have e:=h.block g hg ho;exact(k.block g (Ut hg h.size) (ho.imp id fun hn es cl=>by rw [e];exact hn es cl)).trans e⟩
theorem Gt.of_below (h:Bl w w'):Gt B w w':=⟨h.os,h.tape,h.output,h.size,fun g hg _=>h.block g hg⟩
theorem Gt.bw (h:Gt B w w')(hB:B<=w.heap.size):Below B w w':=⟨h.os,h.tape,h.output,h.size,fun g hg=>h.block g oM (.inl hg)⟩
theorem Gt.cell (h:Gt B w w'){q:Us}{v:Value}(hc:w.cell? q=Uq v):w'.cell? q=Uq v:=
 (World.cell?_of_block (h.block q.block (block_lt_of_cell hc) (.inr (Qcq hc)))).trans hc
theorem Gt.frozen (h:Gt B w w'){q r:Us}{v:Value}(hc:w.cell? r=Uq v)(hr:r.block=q.block):w'.frozen? q=w.frozen? q:=
 World.frozen?_of_block (hr▸h.block r.block (block_lt_of_cell hc) (.inr (Qcq hc)))
theorem Gt.grown {b:Nat}(hg:w.grownBy w' (Uq b))(hB:B<=b)(k:∃q m,w.heap[b]? =Uq (.map q m)):Gt B w w':=
 ⟨hg.os,hg.tape,hg.output,hg.size,fun g h1 j=>hg.block g h1 fun e=>by
  injection e with e;subst e;obtain⟨q,m,k⟩:=k;rcases j with j|j
  ·omega
  ·exact j _ _ k⟩
theorem Tre.add {p:List Ky}{y:Ky}{x:Nat×Nat}{s s':Nat}(h:Tre w B N M c)(hN:N p=Uq x)(hn:N (p++[y])=Up)(hk:Qa0 w 174 (α:=Ky) Qa9 Qbl s 0 (fun _=>Up))(hm:Qa0 w 83 (α:=Dt) dtV Qb8 s' 0 (fun _=>Up))(hss:s≠s')
  (hs:∀p x,N p=Uq x ->x.1<s/\ x.2<s/\ x.1<s'/\ x.2<s') (hB:B<=s/\ B<=s')
  (hu:Qa0 w' 174 Qa9 Qbl x.1 (c+1) (QbX (fun z=>N (p++[z])) y (Uq (s,s')))) (hg:w.grownBy w' (Uq x.1)):Tre w' B (QbX N (p++[y]) (Uq (s,s'))) M (c+1):=by
 have b:∀q z,q≠p ->q++[z]≠p++[y]:=fun q z hq e=>hq (List.append_inj' e rfl).1;have t:∀g,g<w.heap.size ->g≠x.1 ->w'.heap[g]? =w.heap[g]? :=fun g h1 h2=>hg.block g h1 (fun e=>h2 (by injection e));have A:=hs p x hN;refine⟨fun q z hz=> ?_,fun q z hz=> ?_,fun q r u v hu' hv=> ?_,fun q z hz=> ?_,fun q hq=> ?_,fun q z hq=> ?_⟩
 ·by_cases e:q=p++[y]
  ·subst e;rw [Qaw] at hz;injection hz with hz;subst hz;refine((hk.same (t _ hk.lt oS)).mono (Ux _)).ext fun z=> ?_;rw [Qam _ _ (by intro e;have:=congrArg List.length e;simp at this)];exact(h.up _ z hn).symm
  ·rw [Qam _ _ e] at hz;by_cases j:q=p
   ·subst j;rw [hN] at hz;injection hz with hz;subst hz;refine hu.ext fun z=> ?_;by_cases k:z=y
    ·subst k;rw [Qaw,Qaw]
    ·rw [Qam _ _ k,Qam _ _ (fun e=>k (oU e))]
   ·have o:=h.kids q z hz;refine((o.same (t _ o.lt fun k=>j ((h.apart q p z x hz hN).2.1 k))).mono (Uz _)).ext fun z=> ?_;rw [Qam _ _ (b q z j)]
 ·by_cases e:q=p++[y]
  ·subst e;rw [Qaw] at hz;injection hz with hz;subst hz;refine((hm.same (t _ hm.lt oS)).mono (Ux _)).ext fun z=> ?_;rw [h.none' _ hn]
  ·rw [Qam _ _ e] at hz;have i:=h.marks q z hz;exact(i.same (t _ i.lt fun k=>(h.apart p q x z hN hz).1 k.symm)).mono (Uz _)
 ·by_cases e:q=p++[y]
  ·by_cases m:r=p++[y]
   ·subst e;subst m;rw [Qaw] at hu' hv;injection hu' with hu';injection hv with hv;subst hu';subst hv;exact⟨hss,fun _=>rfl,fun _=>rfl⟩
   ·subst e;rw [Qaw] at hu';rw [Qam _ _ m] at hv;injection hu' with hu';subst hu';have:=hs r v hv;exact⟨oS,fun e=>by simp at e;omega,fun e=>by simp at e;omega⟩
  ·rw [Qam _ _ e] at hu';by_cases m:r=p++[y]
   ·subst m;rw [Qaw] at hv;injection hv with hv;subst hv;have:=hs q u hu';exact⟨oS,fun e=>by simp at e;omega,fun e=>by simp at e;omega⟩
   ·rw [Qam _ _ m] at hv;exact h.apart q r u v hu' hv
 ·by_cases e:q=p++[y]
  ·subst e;rw [Qaw] at hz;injection hz with hz;subst hz;exact hB
  ·rw [Qam _ _ e] at hz;exact h.lo q z hz
 ·by_cases e:q=p++[y]
  ·subst e;rw [Qaw] at hq;cases hq
  ·rw [Qam _ _ e] at hq;exact h.none' q hq
 ·by_cases e:q=p++[y]
  ·subst e;rw [Qaw] at hq;cases hq
  ·rw [Qam _ _ e] at hq;have j:q≠p:=fun j=>by subst j;rw [hN] at hq;cases hq
   rw [Qam _ _ (b q z j)];exact h.up q z hq
noncomputable def Qkq (M:List Ky ->Dt ->Option ByteArray)(p:List Ky)(d:Dt)(s:ByteArray)(q:List Ky):Dt ->Option ByteArray:=if yes (q=p)=true then QbX (M p) d (Uq s) else M q
theorem QbH (M:List Ky ->Dt ->Option ByteArray)(p:List Ky)(d:Dt)(s:ByteArray):Qkq M p d s p=QbX (M p) d (Uq s):=by unfold Qkq;rw [if_pos (Qaj rfl)]
theorem Qbf (M:List Ky ->Dt ->Option ByteArray){p q:List Ky}(d:Dt)(s:ByteArray)(h:q≠p):Qkq M p d s q=M q:=by unfold Qkq;rw [if_neg (by rw [Qag h];simp)]
theorem Tre.mark {p:List Ky}{x:Nat×Nat}{d:Dt}{s:ByteArray}(h:Tre w B N M c)(hN:N p=Uq x)
  (hu:Qa0 w' 83 dtV Qb8 x.2 (c+1) (QbX (M p) d (Uq s))) (hg:w.grownBy w' (Uq x.2)):Tre w' B N (Qkq M p d s) (c+1):=by
 have j:∀g,g<w.heap.size ->g≠x.2 ->w'.heap[g]? =w.heap[g]? :=fun g h1 h2=>hg.block g h1 (fun e=>h2 (by injection e));refine⟨fun q z hz=> ?_,fun q z hz=> ?_,h.apart,h.lo,fun q hq=> ?_,h.up⟩
 ·exact((h.kids q z hz).same (j _ (h.lt hz).1 (h.apart q p z x hz hN).1)).mono (Uz _)
 ·by_cases e:q=p
  ·subst e;rw [hN] at hz;injection hz with hz;subst hz;rw [QbH];exact hu
  ·rw [Qbf _ _ _ e];exact((h.marks q z hz).same (j _ (h.lt hz).2 fun e2=>e ((h.apart q p z x hz hN).2.2 e2))).mono (Uz _)
 ·have e:q≠p:=fun e=>by subst e;rw [hN] at hq;cases hq
  rw [Qbf _ _ _ e];exact h.none' q hq
end
end Go.Proofs.YtmlmkaiibamabaaGreatDoor
