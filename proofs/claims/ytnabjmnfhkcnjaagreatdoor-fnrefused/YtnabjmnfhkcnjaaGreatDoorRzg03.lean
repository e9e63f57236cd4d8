import Derived.Test.YtnabjmnfhkcnjaaGreatDoorRows
import Derived.WalkKit
import Derived.ProofKit
import Derived.OpenShut
import Derived.ShutString
import Derived.ChangeOld
import Derived.Below
import Derived.WalkLawsBesides
import Derived.WalkSpells
import Derived.Outline
import Derived.Deep.RegionHeld3
import Derived.Laws.BitsAllLaws
import Derived.Lib.AppendStr
import Derived.Laws.IdiomStrings
import Derived.Deep.QuietTactic
import Derived.BigQuiet
import Derived.Maps.Own
import Derived.Maps.OwnSet
import Derived.Maps.OwnOps
import Derived.Maps.AppendAt
import Derived.Maps.Views
import Derived.Laws.StructEq
import Derived.DeepKeys4
import Derived.Maps.Range
import Derived.Test.YtnabjmnfhkcnjaaGreatDoorShelf
import Derived.Lib.SlKeysI
import Derived.Maps.RangeWalk
import Derived.Lib.SlMapMerge
import Derived.OwnWalk
import Derived.Deep.CutRange
set_option linter.unusedVariables false
set_option linter.unusedSimpArgs false
set_option maxRecDepth 100000
set_option maxHeartbeats 40000000
namespace Go.Proofs.YtnabjmnfhkcnjaaGreatDoor
open Go.ChangeShapes Go.WideShapes Go.ChangeAt Go.RowKit Go.Proofs.Tryz
open Go.Value renaming slice->Uf,int->Ug,pointer->Uk,tuple->Ul,string->Um,bool->Un,agg->Uo
open Go.IntKind renaming i64->Uh
open Go.Ending renaming returned->Ui
open Go.Obj renaming cells->Uj
open Option renaming none->Up,some->Uq
open Go.RowKit renaming Hid->aA
open Go renaming World->Ur,Addr->Us,Value->aB
open Nat renaming lt_of_lt_of_le->Ut,pow_succ->Uu,and_two_pow_sub_one_eq_mod->Uv,two_pow_add_eq_or_of_lt->Uw,le_refl->Ux,eq_zero_or_pos->Uy,le_trans->Uz,zero_add->UA,zero_le->UB,add_sub_cancel->UC,le_succ->UD,mul_comm->UE,add_assoc->UF,pow_le_pow_right->UG,mul_le_mul_right->UH,mod_eq_of_lt->UI,pow_zero->UJ,div_one->UK
open List renaming getD->UL,length_append->UM,map_append->UN,eq_nil_of_length_eq_zero->UO,length_cons->UP,map_cons->UQ,length_map->UR,map_map->US,getElem?_eq_none->UT,drop_eq_getElem_cons->UU,drop_eq_nil_of_le->UV,ne_nil_of_mem->UW,pairwise_singleton->UX,mem_singleton->UY,getElem_mem->UZ,getElem?_append_right->Va,range->Vb,take_add_one->Vc,append_assoc->Ve,mem_cons_self->Vf,mem_cons_of_mem->Vg,eq_nil_or_concat->Vh,concat_eq_append->Vi,take_length->Vj,length_take->Vk
open Go.IntKind renaming u8->Vl,wrap_i64->Vm,wrap_u64->Vn
open Go.World renaming ownsRow_lit->Vo,cell?_setCell_far->Vp,frozen?_setCell->Vq,setCell->Vr,cell?_setCell_same->Vs,cell?_setCell_other->Vt,drewN_drewN->Vu,ownsMap_made->Vv,ownsRow_nil->Vw,cell?->Vx,cell?_of_block->Vy,frozen?_of_block->Vz,grownBy_alloc->VA,cell?_alloc_at->VC,cell?_alloc_past->VD,frozen?_alloc_at->VE,frozen?_alloc_past->VF
open _root_.Array renaming replicate->VG
open Int renaming natCast_nonneg->VH,le_refl->VI,lt_or_le->VJ,le_trans->VK
variable {B C V b bm c cap cb fuel g i j k m n o x':Nat}{F R T:Nat->Int}{L:Int->List (Int×Int)}{P:Program}{U zs:List Int}{W w w' w1 w2 w7 wr:Ur}{a:Option Us}{b' b0 u0 u1 v v0 v1 v2 v3 v4:aB}{e:TypeId}{f' left r r' x y z:Int}{l la lb:List (Int×Int)}{ob:Obj}{p q:List ByteArray}{row:Option Nat}{s:ByteArray}{xs:List aB}
abbrev Ua(b o:Nat):Us:=⟨b,o,Up⟩
abbrev Ub(b:Nat):Us:=⟨b,0,Up⟩
abbrev Uc(b:Nat):Option Us:=Uq ⟨b,0,Up⟩
abbrev Ud(x:Int):aB:=Ug Uh x
abbrev Ue:aB:=Uf Up 0 0
abbrev Bl(w w':Ur):=Below w.1.size w w'
abbrev Rt(w:Ur)(v:aB)(e:Ending)(w':Ur):Prop:=e=Ui v/\Bl w w'
abbrev Cl:=@Calls prog
theorem zE{α:Type _}(a:α):∃b,a=b:=⟨a,rfl⟩
theorem oM{zQ:Prop}(h:zQ:=by omega):zQ:=h
theorem oS{zQ:Prop}(h:zQ:=by simp;omega):zQ:=h
theorem oP{zQ:Prop}(h:zQ:=by simp):zQ:=h
theorem oK{zQ:Prop}(h:zQ:=by kernel_rfl):zQ:=h
theorem oD{zQ:Prop}(h:zQ:=by decide):zQ:=h
theorem oL{zQ:Prop}(h:zQ:=by unfold maxLen;omega):zQ:=h
theorem oN{zQ:Prop}(h:zQ:=by go_num):zQ:=h
theorem oE{zQ:Prop}(h:zQ:=by simp[intOf];omega):zQ:=h
theorem oH{zQ zR:Prop}(x:aA zR)(h:zR->zQ:=by intro h;omega):zQ:=h x
theorem oJ{zQ zR zT:Prop}(x:aA zR)(y:aA zT)(h:zR->zT->zQ:=by intro h j;omega):zQ:=h x y
theorem oU{zQ zR:Prop}(x:zR)(h:zR->zQ:=by intro h;first|simpa using h|(unfold aA at h;simpa using h)):zQ:=h x
theorem oI{zQ zR:Prop}(x:aA zR)(h:zR->zQ:=by intro e;injection e with e;omega):zQ:=h x
theorem oQ{zQ:Prop}(h:zQ:=by first|omega|(dsimp only;omega)|(simp;omega)|simp):zQ:=h
def Ck(b:aB)(P:Prop):Prop:=(b=Un true/\P)\/(b=Un false/\¬P)
theorem Ck.t{P:Prop}(h:P):Ck (Un true) P:=.inl ⟨rfl,h⟩
theorem Ck.f{P:Prop}(h:¬P):Ck (Un false) P:=.inr ⟨rfl,h⟩
theorem aC{p:Prop}(h:p):aA p:=h
def lC(f:Nat->Int):Prop:=∀i, -9223372036854775808<=f i/\f i<=9223372036854775807
def bI(w:Ur)(a:Option Us)(n:Nat)(R F T:Nat->Int):Prop:=
 n=0\/∃b off,a=Uq (Ua b off)/\b<w.1.size/\∀i,i<n->w.cell? (Ua b (off+i*3))=Uq (Ud (R i))/\w.cell? (Ua b (off+i*3+1))=Uq (Ud (F i))/\w.cell? (Ua b (off+i*3+2))=Uq (Ud (T i))
theorem bI.kept(h:bI w a n R F T)(hb:Below B w w1)(hc:∀x,a=Uq x->x.block<B):bI w1 a n R F T:=by
 rcases h with h|⟨b,off,rfl,u,r⟩
 .exact .inl h
 .have j:b<B:=hc (Ua b off) rfl;refine .inr ⟨b,off,rfl,Ut u hb.size,λi hi=>?_⟩;have⟨k,m,q⟩:=r i hi;exact⟨(hb.cell (p:=(Ua b _)) j).trans k,(hb.cell (p:=(Ua b _)) j).trans m,(hb.cell (p:=(Ua b _)) j).trans q⟩
theorem bI.bw(h:bI w a n R F T)(hb:Bl w w1):bI w1 a n R F T:=by
 rcases h with h|⟨b,off,rfl,j,k⟩
 .exact .inl h
 .exact bI.kept (.inr ⟨b,off,rfl,j,k⟩) hb (λx hx=>by simp at hx;subst hx;exact j)
def fR(r f t:Int):Bool:=decide (0<=r/\r<8/\1<=f/\f<=t/\t<=1000000000)
def fT(r t r' f':Int):Bool:=decide (r<r'\/(r=r'/\t+1<f'))
theorem Dz{f t:Int}(h:0<=r/\r<8/\1<=f/\f<=t/\t<=1000000000):fR r f t=true:=by unfold fR;exact decide_eq_true h
theorem vB{f t:Int}(h:¬(0<=r/\r<8/\1<=f/\f<=t/\t<=1000000000)):fR r f t=false:=by unfold fR;exact decide_eq_false h
theorem qH{f t:Int}:fR r f t=true↔(0<=r/\r<8/\1<=f/\f<=t/\t<=1000000000):=by unfold fR;simp
theorem iF{a b:Bool}(h:a=b):Ending.returned (Un a)=Ui (Un b):=by rw[h]
theorem zN{k:IntKind}{a b:Int}(h:a=b):Ending.returned (.int k a)=Ui (.int k b):=by rw[h]
theorem Tryz.infoRun:(prog.info? 103).map (λi=>(i.zero,i.size,i.bytes))=Uq (Uq (Uo #[Ud 0,Ud 0,Ud 0]),3,24):=oK
theorem jG(hb:Bl W w1):(∀b o,b<W.1.size->w1.cell? (Ua b o)=W.cell? (Ua b o))/\(∀b o,b<W.1.size->w1.frozen? (Ua b o)=W.frozen? (Ua b o)):=
 ⟨λb o h=>hb.cell (p:=(Ua b o)) h,λb o h=>hb.frozen (p:=(Ua b o)) h⟩
theorem vO{Q:Prop}(h:Q:=by
 obtain⟨q,j⟩:=h;refine⟨q,?_⟩;rcases j with j|⟨g,cap,m,rfl,u,y,r⟩
 .exact .inl j
 .exact .inr ⟨g,cap,m,rfl,u,by rw[hb.block g (hc g rfl)];exact y,r⟩):Q:=h
theorem Zq{size:Nat}(h:w.ownsRow B e size v n xs)(hb:Below C w w1)(hc:∀k,v.ownBlock=Uq k->k<C):w1.ownsRow B e size v n xs:=by
 exact vO
def bY(w:Ur)(a:Option Us)(n:Nat)(f:Nat->Int):Prop:=
 n=0\/∃b off,a=Uq (Ua b off)/\b<w.1.size/\∀i,i<n->w.cell? (Ua b (off+i))=Uq (Ug .u8 (f i))
def dO(f:Nat->Int):Prop:=∀i,0<=f i/\f i<256
theorem bY.bw{f:Nat->Int}(h:bY w a n f)(hb:Bl w w'):bY w' a n f:=by
 rcases h with h|⟨b,off,rfl,j,k⟩
 .exact .inl h
 .exact .inr ⟨b,off,rfl,Ut j hb.size,λi hi=>(hb.cell (p:=(Ua b (off+i))) j).trans (k i hi)⟩
theorem Tryz.infoByte:(prog.info? 5).map (λi=>(i.zero,i.size,i.bytes))=Uq (Uq (Ug .u8 0),1,1):=oK
theorem GG{a0:Option Us}{len0 cap0:Nat}{z0:List Int}
  (w0:(a0=Up/\len0=0/\cap0=0/\z0=[])\/
   ∃x,a0=Uq x/\len0<=cap0/\cap0<=maxLen/\z0.length=cap0/\(∀i,i<z0.length->w.cell? (x.add i)=Uq (Ug .u8 (z0.getD i 0)))/\∀n∈z0,(Lit.int .u8 n).wf=true):
  bY w a0 len0 (λi=>z0.getD i 0)/\dO (λi=>z0.getD i 0)/\len0<=9223372036854775807:=by
 rcases w0 with⟨rfl,rfl,rfl,rfl⟩|⟨⟨b,off,y⟩,rfl,z,r,g,k,v⟩
 .exact⟨.inl rfl,λi=>oP,oM⟩
 .refine⟨?_,λi=>?_,by unfold maxLen at r;omega⟩
  .by_cases q:len0=0
   .exact .inl q
   .have j:=k 0 oM;have u:y=Up:=(by simpa[Addr.add]using World.cell?_spot j);subst u;refine .inr ⟨b,off,rfl,block_lt_of_cell j,λi hi=>?_⟩;have h:=k i oM;by_cases m:i=0
    .subst m;simpa[Addr.add]using h
    .simpa[Addr.add,m]using h
  .by_cases hi:i<z0.length
   .have:=v (z0.getD i 0) (by simp[UL,hi]);have b:=bounds_u8 this;show 0<=z0.getD i 0/\z0.getD i 0<256;omega
   .simp[UL,hi]
def aI:Nat->Nat->List Int
 |0,v=>[(v:Int)]
 |k+1,v=>if v<128 then [(v:Int)] else((128+v%128:Nat):Int)::aI k (v/128)
def Own(w:Ur)(B:Nat)(v:aB)(zs:List Int):Prop:=w.ownsRow B 5 1 v zs.length (zs.map (Value.int .u8))
theorem rW(k v:Nat)(h:v<128):aI k v=[(v:Int)]:=by
 cases k<;>simp[aI,h]
theorem rX(k v:Nat)(h:¬v<128):aI (k+1) v=((128+v%128:Nat):Int)::aI k (v/128):=by
 simp[aI,h]
theorem cF(k:Nat):∀v,(aI k v).length<=k+1/\0<(aI k v).length:=by
 induction k with
 |zero=>intro v;simp[aI]
 |succ k ih=>
  intro v;by_cases h:v<128
  .rw[rW _ _ h];simp
  .rw[rX _ _ h];have:=ih (v/128);simp;omega
theorem PU(k:Nat):∀v,v<128^(k+1)->∀z∈aI k v,0<=z/\z<256:=by
 induction k with
 |zero=>intro v h z j;simp[aI]at j;subst j;simp at h;omega
 |succ k ih=>
  intro v h z j;by_cases m:v<128
  .rw[rW _ _ m]at j;simp at j;subst j;omega
  .rw[rX _ _ m]at j;rcases List.mem_cons.1 j with j|j
   .subst j;omega
   .exact ih (v/128) (by rw[Uu]at h;omega) z j
theorem Sz(m:Nat)(h:m<18446744073709551616):bits BinOp.and IntKind.u64 (m:Int) 127=((m%128:Nat):Int):=by
 have:=u64_and_nat m 127 h oM;rw[show(127:Nat)=2^7-1 from rfl,Uv]at this;exact this
theorem Qq(a:Nat)(h:a<128):bits BinOp.or Vl (a:Int) 128=((128+a:Nat):Int):=by
 have e:=u8_or_nat a 128 oM oM;have j:a|||128=128+a:=by
  have:=Uw (i:=7) (b:=a) h 1;rw[Nat.or_comm];simpa using this.symm
 rw[j]at e;exact e
theorem Ty(w:Ur)(B:Nat)(z:Int)(hB:B<=w.1.size):Own (w.alloc (Uj #[Ug .u8 z] 5)) B (Uf (Uc w.1.size) 1 1) [z]:=by
 have:=Vo (base:=B) (e:=5) (size:=1) w #[Ug .u8 z] 1 hB oL rfl;exact this
theorem RW(B m0:Nat)(bv:aB)(zs0:List Int)(w:Ur)(hm:m0<18446744073709551616)(hB:B<=w.1.size)(hl:zs0.length<=1000000000000)(ho:Own w B bv zs0):
  Cl 108 #[bv,Ug .u64 (m0:Int)] w λe w'=>∃v,e=Ui v/\Own w' B v (zs0++aI 9 m0)/\Below B w w'/\w.1.size<w'.1.size:=by
 have⟨Y,hi,Q,U,V⟩:=info_parts Tryz.infoByte;go_enter func108,ntmps108;go_wp2_with fail;go_loopw [0,1] (λb v wr=>∃(k m:Nat) (y:List Int),k<=9/\m<128^(k+1)/\m<18446744073709551616/\v=Ug .u64 (m:Int)/\Own wr B b y/\Below B w wr/\w.1.size<=wr.1.size/\y.length+k<=zs0.length+9/\y++aI k m=zs0++aI 9 m0) (λ_ v _=>(intOf v).toNat);case atStart=>exact⟨9,m0,zs0,Ux _,oM,hm,rfl,ho,Below.refl _ _,Ux _,Ux _,rfl⟩
 case round=>
  obtain⟨k,m,y,o,O,K,rfl,r,t,X,N,E⟩:=hrel;have i:aA (y++aI k m=zs0++aI 9 m0):=E;have p:aA (m<128^(k+1)):=O;unfold Own at r;by_cases M:m<128
  .go_wp2_with (at_builtin;refine wpList_append_own _ rfl _ _ 22 rfl B 5 Y (Ug .u8 0) 1 1 underlying22 hi Q U V rfl oD _ _ _ rfl (r.alloc _) (Ub wr.1.size) 1 1 [Ug .u8 (m:Int)] rfl rfl ?c1 ?c2 ?c3 ?c4 ?c5 ?_);case c1=>exact cell_one_new _ _ _
   case c2=>intro u g;simp at g;subst g;rfl
   case c3=>unfold maxLen;omega
   case c4=>omega
   case c5=>simp;omega
   .intro v' w1 z q _;have R:Own w1 B v' (zs0++aI 9 m0):=by
     rw[<-i.out,rW k m M];unfold Own;rw[UM,UN];exact z
    have s:Below B w w1:=(t.alloc oM _).grown q oS<|λk o=>(r.lt k o).1;have A:=q.size;simp at A;go_wp2;go_ret;exact⟨v',rfl,R,s,oM⟩
  .have H:=Sz m K;have I:bits BinOp.or Vl ((m:Int)%128) 128=128+(m:Int)%128:=by
    have:=Qq (m%128) oM;simpa using this
   go_wp2_with (at_builtin;refine wpList_append_own _ rfl _ _ 22 rfl B 5 Y (Ug .u8 0) 1 1 underlying22 hi Q U V rfl oD _ _ _ rfl (r.alloc _) (Ub wr.1.size) 1 1 [Ug .u8 (128+(m:Int)%128)] rfl rfl ?d1 ?d2 ?d3 ?d4 ?d5 ?_);case d1=>exact cell_one_new _ _ _
   case d2=>intro u g;simp at g;subst g;rfl
   case d3=>unfold maxLen;omega
   case d4=>omega
   case d5=>simp;omega
   .intro v' w1 z q _;have L:1<=k:=by
     have:=p.out;rcases Uy k with rfl|h
     .simp at this;omega
     .exact h
    obtain⟨j,rfl⟩:∃j,k=j+1:=⟨k-1,oM⟩;have R:Own w1 B v' (y++[128+(m:Int)%128]):=by
     unfold Own;rw[UM,UN];exact z
    have Z:aA (y++[128+(m:Int)%128]++aI j (m/128)=zs0++aI 9 m0):=by
     have:=i.out;rw[rX j m M]at this;show _=_;rw[<-this];simp
    have G:aA (m/128<128^(j+1)):=by
     have:=p.out;rw[Uu]at this;show _<_;omega
    have s:Below B w w1:=(t.alloc oM _).grown q oS<|λk o=>(r.lt k o).1;have A:=q.size;simp at A;go_wp2;go_roundw;case rel=>exact⟨j,m/128,_,oM,G,oM,oN,R,s,oM,oS,Z⟩
    case measure=>exact oE
theorem Own.kept(h:Own w B v zs)(hb:Below C w w1)(hc:∀k,v.ownBlock=Uq k->k<C):Own w1 B v zs:=by
 exact vO
theorem Own.weak(h:Own w B v zs)(hc:C<=B):Own w C v zs:=by
 have⟨m,j⟩:=h;refine⟨m,?_⟩;rcases j with j|⟨g,cap,k,rfl,q,r⟩
 .exact .inl j
 .exact .inr ⟨g,cap,k,rfl,Uz hc q,r⟩
theorem Own.shape(h:Own w B v zs)(hz:zs≠[]):
  ∃g cap,v=Uf (Uc g) zs.length cap/\B<=g/\g<w.1.size/\zs.length<=cap/\cap<=maxLen/\
   (∀j u,(zs.map (Value.int .u8))[j]? =Uq u->w.cell? (((Ub g):Us).add j)=Uq u)/\bY w (Uc g) zs.length (λi=>zs.getD i 0):=by
 have k:=h;have⟨b,m⟩:=h;rcases m with⟨_,m⟩|⟨g,cap,o,rfl,y,p,t,z,r⟩
 .exact absurd (UO m) hz
 .have q:=(k.lt g rfl).2;refine⟨g,cap,rfl,y,q,t,z,k.cells rfl,.inr ⟨g,0,rfl,q,λi hi=>?_⟩⟩;rw[UA,World.ownsRow.cellAt k i oM];simp[hi,UL]
theorem OM(h:∀z∈zs,0<=z/\z<256):dO (λi=>zs.getD i 0):=by
 intro i;by_cases hi:i<zs.length
 .have:=h (zs.getD i 0) (by simp[UL,hi]);exact this
 .simp[UL,hi]
theorem Re(k:Nat):∀(m:Nat) (w:Ur),k<=9->aA (m<128^(k+1))->m<18446744073709551616->
  Cl 178 #[Ug .u64 (m:Int)] w λe w'=>∃v,e=Ui v/\Own w' w.1.size v (aI k m)/\Bl w w'/\w.1.size<w'.1.size:=by
 have⟨J,hi,G,H,I⟩:=info_parts Tryz.infoByte;have z:∀(k m:Nat) (w:Ur),m<128->Cl 178 #[Ug .u64 (m:Int)] w λe w'=>∃v,e=Ui v/\Own w' w.1.size v (aI k m)/\Bl w w'/\w.1.size<w'.1.size:=by
  intro k m w q;have r:aA (aI k m=[(m:Int)]):=rW k m q;go_enter func178,ntmps178;go_wp2_with fail;go_ret;refine⟨_,rfl,?_,(Below.refl _ _).alloc (Ux _) _,oP⟩;rw[r.out];exact Ty w _ _<|Ux _
 induction k with
 |zero=>intro m w _ q _;exact z 0 m w<|oH q
 |succ k ih=>
  intro m w j E q;by_cases A:m<128
  .exact z (k+1) m w A
  .have r:aA (aI (k+1) m=((128+m%128:Nat):Int)::aI k (m/128)):=rX k m A;have t:=cF k<|m/128;have V:aA (m/128<128^(k+1)):=by
    have:=E.out;rw[Uu]at this;show _<_;omega
   have i:=ih (m/128) (w.alloc (Uj #[Ug .u8 (128+(m:Int)%128)] 5)) oM V oM;have h:=aC i;go_enter func178,ntmps178;go_wp2_with fail;rw[show((m:Int)/128)=((m/128:Nat):Int)from by omega];refine h.mono ?_;rintro e w1⟨v,rfl,M,b,Z⟩;obtain⟨g,cap,rfl,L,N,_,_,p,_⟩:=M.shape (by intro e;rw[e]at t;simp at t);have s:w1.ownsRow w.1.size 5 1 (Uf (Uc w.1.size) 1 1) 1 [Ug .u8 (128+(m:Int)%128)]:=
    (Ty w w.1.size (128+(m:Int)%128) (Ux _)).kept b (λk j=>by simp[Value.ownBlock]at j;simp;omega)
   have X:w.1.size+1<w1.1.size:=(by have:=Z;simp at this;exact this);have O:∀u∈(aI k (m/128)).map (Value.int .u8),u.oneCell'=true:=ints_oneCell .u8 _;have o:=aC p;go_wp2_with (at_builtin;refine wpList_append_own _ rfl _ _ 22 rfl w.1.size 5 J (Ug .u8 0) 1 1 underlying22 hi G H I rfl oD _ _ _ rfl s (Ub g) (aI k (m/128)).length cap ((aI k (m/128)).map (Value.int .u8)) rfl oP o O ?c3 ?c4 ?c5 ?_);case c3=>unfold maxLen;omega
   case c4=>omega
   case c5=>omega
   .intro v' U Q y _;have R:Own U w.1.size v' (aI (k+1) m):=by
     rw[r.out];unfold Own;rw[UP,UQ,Nat.add_comm];exact Q
    have Y:Bl w U:=((((Below.refl _ _).alloc (Ux _) _).trans (b.mono oP))).grown y oM (λk j=>by simp[Value.ownBlock]at j;omega);have K:=y.size;go_wp2_with fail;go_ret;exact⟨v',rfl,R,Y,oM⟩
def gM(s:ByteArray):List Int:=s.data.toList.map λb=>(b.toNat:Int)
theorem mE(s:ByteArray):(gM s).length=s.size:=by
 rw[gM,UR,Array.length_toList];rfl
theorem Oj(s:ByteArray):(gM s).map (Value.int .u8)=Lib.strCells s:=by
 simp[gM,Lib.strCells,US,Function.comp_def]
theorem AZ(s:ByteArray):∀z∈gM s,0<=z/\z<256:=by
 intro z j;simp only[gM,List.mem_map]at j;obtain⟨b,_,rfl⟩:=j;have:=b.toNat_lt;omega
theorem Z6(s:ByteArray)(w:Ur):∃cap w',(convert 9 22 (Um s)).run prog w=.ok (Uf (Uc w.1.size) s.size cap) w'/\Bl w w'/\w.1.size<w'.1.size/\
  ∀j u,(Lib.strCells s)[j]? =Uq u->w'.cell? (((Ub w.1.size):Us).add j)=Uq u:=by
 refine⟨_,_,run_bytes_of_string (P:=prog) w 9 22 5 s underlying9 underlying22 underlying5,?_,?_,?_⟩
 .exact(Below.refl _ _).drew.alloc (Ux _) _
 .simp
 .intro j u k;have v:j<s.size:=by
   have:=(List.getElem?_eq_some_iff.1 k).1;rw[Lib.strCells_length]at this;exact this
  have r:∀(C:Array aB) (m:Nat×Nat),(w.drew.alloc (.cells C 5 m)).cell? (Ua w.1.size j)=C[j]? :=by
   intro C m;exact cell_of_row _ _ _ _ _ _<|heap_alloc_new w.drew _
  have e:(((Ub w.1.size):Us).add j)=(Ua w.1.size j):=by
   by_cases q:j=0
   .subst q;rfl
   .simp[Addr.add,q]
  rw[e,r];simp only[bytesRow];rw[Array.getElem?_append_left (by simp;exact v)];simp only[Lib.strCells]at k;rw[<-k];simp
def cM(s:ByteArray):List Int:=aI 9 s.size++gM s
theorem Xe(s:ByteArray)(w:Ur)(hs:s.size<=1048576):
  Cl 149 #[Um s] w λe w'=>∃v,e=Ui v/\Own w' w.1.size v (cM s)/\Bl w w'/\w.1.size<w'.1.size:=by
 have⟨Y,hi,Q,U,V⟩:=info_parts Tryz.infoByte;have G:=cF 9 s.size;go_enter func149,ntmps149;go_wp2_with fail;refine(Re 9 s.size _ (Ux _) (aC oM) oM).mono ?_;rintro e w1⟨b,rfl,j,M,I⟩;have⟨cap,Z,O,y,J,z⟩:=Z6 s w1;have h:Z.ownsRow w.1.size 5 1 b (aI 9 s.size).length ((aI 9 s.size).map (Value.int .u8)):=j.kept y<|λk hk=>(j.lt k hk).2;have t:∀k,b.ownBlock=Uq k->w.1.size<=k:=λk hk=>(j.lt k hk).1;have r:=aC z;have A:=aC t;have o:=Lib.strCells_oneCell s;have g:=Lib.strCells_length s;have u:=aC o;have q:=aC g;go_wp2_with (at_builtin;refine wpList_append_own _ rfl _ _ 22 rfl w.1.size 5 Y (Ug .u8 0) 1 1 underlying22 hi Q U V rfl oD _ _ _ rfl h (Ub w1.1.size) s.size cap (Lib.strCells s) rfl (by rw[q.out];omega) r u ?c3 ?c4 ?c5 ?_);case c3=>unfold maxLen;omega
 case c4=>omega
 case c5=>omega
 .intro v' p i m _;have R:Own p w.1.size v' (cM s):=by
   unfold Own cM;rw[UM,UN,mE,Oj];exact i
  have E:Bl w p:=(M.trans (y.mono oM)).grown m oM A;have H:=m.size;go_wp2_with fail;go_ret;exact⟨v',rfl,R,E,oM⟩
theorem qX{Q:Prop}(h:Q:=by go_wp2_with fail;go_ret;exact⟨iF j.symm,(Below.refl _ _).alloc (Ux _) _⟩):Q:=h
theorem lG{Q:Prop}(h:Q:=by have j:=aC (vB (r:=r) (f:=f) (t:=t) oM);go_enter func123,ntmps123;exact qX):Q:=h
theorem Od(r f t:Int)(w:Ur):
  Cl 123 #[Uo #[Ud r,Ud f,Ud t]] w (Rt w (Un (fR r f t))):=by
 by_cases k:0<=r
 .by_cases m:r<8
  .by_cases q:1<=f
   .by_cases u:f<=t
    .by_cases v:t<=1000000000
     .have j:=aC<|Dz ⟨k,m,q,u,v⟩;go_enter func123,ntmps123;exact qX
     .exact lG
    .exact lG
   .exact lG
  .exact lG
 .exact lG
theorem kL{Q:Prop}(h:Q:=by go_enter func30,ntmps30;go_wp2_with fail;go_ret;exact⟨rfl,rfl⟩):Q:=h
theorem N5(r:Int)(w:Ur)(h1:0<=r)(h2:r<8):
  Cl 30 #[Ud r] w λe w'=>e=Ui (Un true)/\w'=w:=by
 exact kL
theorem Ms(r:Int)(w:Ur)(h:¬(0<=r/\r<8)):
  Cl 30 #[Ud r] w λe w'=>e=Ui (Un false)/\w'=w:=by
 by_cases j:0<=r
 .have k:decide (r<8)=false:=oS;exact kL
 .exact kL
theorem lH{Q:Prop}(h:Q:=by go_enter func194,ntmps194;go_wp2_with fail;refine k.mono ?_;rintro e w1⟨rfl,rfl⟩;exact qX):Q:=h
theorem AI(r f t:Int)(w:Ur):
  Cl 194 #[Uo #[Ud r,Ud f,Ud t]] w (Rt w (Un (fR r f t))):=by
 by_cases m:0<=r/\r<8
 .have⟨q,u⟩:=m;have k:=aC<|N5 r (w.alloc (Uj #[Ud r,Ud f,Ud t] 103)) q u;by_cases v:1<=f
  .by_cases y:f<=t
   .by_cases z:t<=1000000000
    .have j:=aC<|Dz ⟨q,u,v,y,z⟩;exact lH
    .have h:decide (t<=1000000000)=false:=oS;have j:=aC<|vB (r:=r) (f:=f) (t:=t) oM;exact lH
   .have j:=aC<|vB (r:=r) (f:=f) (t:=t) oM;exact lH
  .have j:=aC<|vB (r:=r) (f:=f) (t:=t) oM;exact lH
 .have k:=aC<|Ms r (w.alloc (Uj #[Ud r,Ud f,Ud t] 103)) m;have j:=aC<|vB (r:=r) (f:=f) (t:=t) oM;exact lH
theorem Eb{t:Int}(h:r<r'\/(r=r'/\t+1<f')):fT r t r' f'=true:=by unfold fT;exact decide_eq_true h
theorem D8{t:Int}(h:¬(r<r'\/(r=r'/\t+1<f'))):fT r t r' f'=false:=by unfold fT;exact decide_eq_false h
theorem aU(w:Ur)(o o':Obj):Bl w ((w.alloc o).alloc o'):=((Below.refl _ _).alloc (Ux _) _).alloc oP _
theorem wZ{Q:Prop}(h:Q:=by
 by_cases q:r<r'
 .have j:=aC<|Eb (t:=t) (f':=f') (.inl q);go_enter func124,ntmps124;go_wp2_with fail;go_ret;exact⟨iF j.symm,aU _ _ _⟩
 .by_cases k:r=r'
  .subst k;by_cases m:t+1<f'
   .have j:=aC<|Eb (r:=r) (r':=r) (.inr ⟨rfl,m⟩);go_enter func124,ntmps124;go_wp2_with fail;go_ret;exact⟨iF j.symm,aU _ _ _⟩
   .have j:=aC<|D8 (r:=r) (r':=r) (t:=t) (f':=f') oM;go_enter func124,ntmps124;go_wp2_with fail;go_ret;exact⟨iF j.symm,aU _ _ _⟩
  .have m:(r==r')=false:=(by simp;exact k);have j:=aC (D8 (r:=r) (r':=r') (t:=t) (f':=f') oM);go_enter func124,ntmps124;go_wp2_with fail;go_ret;exact⟨iF j.symm,aU _ _ _⟩):Q:=h
theorem SI(r f t r' f' t':Int)(w:Ur)(h0:0<=t)(h1:t<=1000000000):
  Cl 124 #[Uo #[Ud r,Ud f,Ud t],Uo #[Ud r',Ud f',Ud t']] w (Rt w (Un (fT r t r' f'))):=by
 exact wZ
theorem nG{Q:Prop}(h:Q:=by go_enter func195,ntmps195;go_wp2_with fail;go_ret;exact⟨iF j.symm,aU _ _ _⟩):Q:=h
theorem WV(r f t r' f' t':Int)(w:Ur)(h0:0<=t)(h1:t<=1000000000):
  Cl 195 #[Uo #[Ud r',Ud f',Ud t'],Uo #[Ud r,Ud f,Ud t]] w (Rt w (Un (fT r t r' f'))):=by
 by_cases k:r'=r
 .subst k;by_cases m:t+1<f'
  .have j:=aC<|Eb (r:=r') (r':=r') (.inr ⟨rfl,m⟩);exact nG
  .have j:=aC<|D8 (r:=r') (r':=r') (t:=t) (f':=f') oM;exact nG
 .have m:(r' !=r)=true:=by simp;exact k
  by_cases q:r<r'
  .have j:=aC<|Eb (t:=t) (f':=f') (.inl q);exact nG
  .have j:=aC<|D8 (r:=r) (r':=r') (t:=t) (f':=f') oM;exact nG
def fQ(R F T:Nat->Int)(k:Nat):Prop:=∀i,i<k->fR (R i) (F i) (T i)=true/\(0<i->fT (R (i-1)) (T (i-1)) (R i) (F i)=true)
def yE(R F T:Nat->Int):Nat->Bool
 |0=>true
 |k+1=>yE R F T k&&(fR (R k) (F k) (T k)&&(k==0||fT (R (k-1)) (T (k-1)) (R k) (F k)))
def eQ(R F T:Nat->Int)(n:Nat):Bool:=yE R F T n&&decide (n<=1000)
theorem Zc{R F T:Nat->Int}:∀k:Nat,yE R F T k=true↔fQ R F T k
 |0=>⟨λ_ i hi=>oM,λ_=>rfl⟩
 |k+1=>by
  have q:=Zc (R:=R) (F:=F) (T:=T) k;constructor
  .intro h;simp only[yE,Bool.and_eq_true,Bool.or_eq_true,beq_iff_eq]at h;intro i hi;by_cases e:i=k
   .subst e;exact⟨h.2.1,λm=>by rcases h.2.2 with j|j;omega;exact j⟩
   .exact q.1 h.1 i oM
  .intro h;simp only[yE,Bool.and_eq_true,Bool.or_eq_true,beq_iff_eq];refine⟨q.2 (λi hi=>h i oM),(h k oM).1,?_⟩;by_cases m:k=0
   .exact .inl m
   .exact .inr<|(h k oM).2 oM
theorem dL:eQ R F T n=true↔fQ R F T n/\n<=1000:=by
 unfold eQ;rw[Bool.and_eq_true,Zc,decide_eq_true_iff]
theorem D3(h:¬(fQ R F T n/\n<=1000)):eQ R F T n=false:=by
 cases e:eQ R F T n with
 |false=>rfl
 |true=>exact absurd (dL.1 e) h
theorem Df(h:fQ R F T k)(h1:fR (R k) (F k) (T k)=true)(h2:0<k->fT (R (k-1)) (T (k-1)) (R k) (F k)=true):fQ R F T (k+1):=by
 intro i hi;by_cases e:i=k
 .subst e;exact⟨h1,h2⟩
 .exact h i oM
theorem aE(h1:Bl wr w1)(b2:Bl w1 w2):Bl wr w2:=h1.trans (b2.mono h1.size)
theorem DW{ops:Array Oper}{Q:Exit->Act->Ur->Prop}{md:Region.Mode}{S:Ur->Prop}{d:Option Tmp}{listed:Array Bool}{a:Act}
  (hd:ops[i]?.map (λo=>o.dst)=Uq d) (hs:Region.noSelect ops=true) (hf:Region.free md ops listed i=true) (hr:(Region.ready md ops listed).contains i=true)
  (hQ:∀c a w,Q (.panic c) (a.put d v) w->Q (.panic c) a w) (hy:∀o,ops[i]? =Uq o->YieldsIf P ops S o v a) (hS:S w)
  (h:wpAnyH P md ops Q S fuel (listed.setIfInBounds i true) (a.put d v) w):wpAnyH P md ops Q S (fuel+1) listed a w:=by
 obtain⟨o,j,rfl⟩:=Option.map_eq_some_iff.1 hd;exact wpAnyH_take j hs hf hr hQ (hy o j) hS h
theorem DK{ops:Array Oper}{Q:Exit->Act->Ur->Prop}{md:Region.Mode}{S:Ur->Prop}{d:Option Tmp}{listed:Array Bool}{a:Act}
  (hd:ops[i]?.map (λo=>o.dst)=Uq d) (hr:Region.ready md ops listed=[i])
  (h:∀o,ops[i]? =Uq o->o.dst=d->∀K':Act->Ur->Prop,Shut (∀a w,S w->(S w->wpAnyH P md ops Q S fuel (listed.setIfInBounds i true) a w)->K' a w)->if Region.wanted o (yielded ops a.tmps)=true then Oper.wp P o a w K' Q else K' (a.put o.dst undef) w):
  wpAnyH P md ops Q S (fuel+1) listed a w:=by
 have⟨o,j,k⟩:=Option.map_eq_some_iff.1 hd;exact wpAnyH_ready hr oP<|AllReadyH.cons j (h o j k) AllReadyH.nil
theorem eB{α:Type}{l:List α}:l.toArray[i]? =l[i]? :=List.getElem?_toArray
theorem dZ{α:Type}{a:α}{l:List α}:(a::l)[i+1]? =l[i]? :=List.getElem?_cons_succ
theorem dY{α:Type}{a:α}{l:List α}:(a::l)[0]? =Uq a:=List.getElem?_cons_zero
theorem eU{α:Type}{a b:α}:(Uq a=Uq b)=(a=b):=Option.some.injEq a b
theorem Au{α:Type}(l:List α)(i:Nat)(a:α):l.toArray.setIfInBounds i a=(l.set i a).toArray:=oP
theorem As{α:Type}{a b:α}{l:List α}:(a::l).set 0 b=b::l:=List.set_cons_zero
theorem Ar{α:Type}{a b:α}{l:List α}:(a::l).set (i+1) b=a::l.set i b:=List.set_cons_succ
theorem tk{ops:Array Oper}{Q:Exit->Act->Ur->Prop}{md:Region.Mode}{S:Ur->Prop}(i:Nat)(d:Tmp)(v:aB){listed:Array Bool}{a:Act}
  (hb:((ops[i]?.map (λo=>o.dst)==Uq (Uq d))&&(Region.noSelect ops&&(Region.free md ops listed i&&(Region.ready md ops listed).contains i)))=true)
  (hQ:∀c a w,Q (.panic c) (a.put (Uq d) v) w->Q (.panic c) a w) (hy:∀o,ops[i]? =Uq o->YieldsIf P ops S o v a) (hS:S w)
  (h:wpAnyH P md ops Q S fuel (listed.setIfInBounds i true) (a.put (Uq d) v) w):wpAnyH P md ops Q S (fuel+1) listed a w:=by
 rw[Bool.and_eq_true,Bool.and_eq_true,Bool.and_eq_true]at hb;exact DW (eq_of_beq hb.1) hb.2.1 hb.2.2.1 hb.2.2.2 hQ hy hS h
theorem tZ{ops:Array Oper}{Q:Exit->Act->Ur->Prop}{md:Region.Mode}{S:Ur->Prop}(i:Nat)(d:Tmp){listed:Array Bool}{a b:Act}
  (h:wpAnyH P md ops Q S fuel (listed.setIfInBounds i true) b w) (hS:S w:=by assumption)
  (hb:((ops[i]?.map (λo=>o.dst)==Uq (Uq d))&&(Region.noSelect ops&&(Region.free md ops listed i&&(Region.ready md ops listed).contains i)))=true:=by kernel_rfl)
  (hQ:∀c a w,Q (.panic c) (a.put (Uq d) v) w->Q (.panic c) a w:=by exact λ_ _ _ h=>h)
  (hy:∀o,ops[i]? =Uq o->YieldsIf P ops S o v a:=by intro o j;simp only[eB,dZ,dY,eU]at j;subst j;refine Or.inl ⟨by rfl,?_⟩;intro w k;(try dsimp only at k);go_simp;try with_reducible rfl)
  (hp:a.put (Uq d) v=b:=by simp only[Act.put,Au,As,Ar];rfl):wpAnyH P md ops Q S (fuel+1) listed a w:=tk i d v hb hQ hy hS (hp▸h)
theorem uZ{ops:Array Oper}{Q:Exit->Act->Ur->Prop}{md:Region.Mode}{S:Ur->Prop}(i:Nat)(d:Tmp){listed:Array Bool}{a b:Act}
  (h:wpAnyH P md ops Q S fuel (listed.setIfInBounds i true) b w) (hS:S w:=by assumption)
  (hb:((ops[i]?.map (λo=>o.dst)==Uq (Uq d))&&(Region.noSelect ops&&(Region.free md ops listed i&&(Region.ready md ops listed).contains i)))=true:=by kernel_rfl)
  (hQ:∀c a w,Q (.panic c) (a.put (Uq d) undef) w->Q (.panic c) a w:=by exact λ_ _ _ h=>h)
  (hy:∀o,ops[i]? =Uq o->YieldsIf P ops S o undef a:=by intro o j;simp only[eB,dZ,dY,eU]at j;subst j;exact Or.inr ⟨by rfl,rfl⟩)
  (hp:a.put (Uq d) undef=b:=by simp only[Act.put,Au,As,Ar];rfl):wpAnyH P md ops Q S (fuel+1) listed a w:=tk i d undef hb hQ hy hS (hp▸h)
theorem cZ{ops:Array Oper}{Q:Exit->Act->Ur->Prop}{md:Region.Mode}{S:Ur->Prop}(i:Nat){o:Oper}{listed:Array Bool}{a:Act}
  (h:∀K':Act->Ur->Prop,Shut (∀a w,S w->(S w->wpAnyH P md ops Q S fuel (listed.setIfInBounds i true) a w)->K' a w)->if Region.wanted o (yielded ops a.tmps)=true then Oper.wp P o a w K' Q else K' (a.put o.dst undef) w)
  (hr:Region.ready md ops listed=[i]:=by kernel_rfl) (ho:ops[i]? =Uq o:=by simp only[eB,dZ,dY];rfl):wpAnyH P md ops Q S (fuel+1) listed a w:=
 DK (d:=o.dst) (by rw[ho];rfl) hr (λo' h1 _=>by rw[ho]at h1;cases h1;exact h)
theorem zO(w:Ur)(o:Obj):Bl w (w.alloc o):=(Below.refl _ _).alloc (Ux _) o
theorem zL:n<=n:=Ux n
theorem zI:Below B w w:=Below.refl B w
theorem zH(w:Ur)(a:Us)(u:aB)(k:Nat)(h:k≠a.block):(w.setCell a u).1[k]? =w.1[k]? :=Below.heap_setCell w a u k h
theorem zP:(∀(a:Act) (v:aB),a.put Up v=a)/\(∀(t:Array aB) (d) (i:Nat) (v:aB),(Act.mk t d).put (Uq i) v=Act.mk (t.setIfInBounds i v) d)/\(∀(l:List aB) (i:Nat) (a:aB),l.toArray.setIfInBounds i a=(l.set i a).toArray)/\(∀(a b:aB) (l:List aB),(a::l).set 0 b=b::l)/\∀(a b:aB) (l:List aB) (i:Nat),(a::l).set (i+1) b=a::l.set i b:=⟨λ_ _=>rfl,λ_ _ _ _=>rfl,λ_ _ _=>oP,λ_ _ _=>rfl,λ_ _ _ _=>rfl⟩
theorem zD{ops:Array Oper}{Q:Exit->Act->Ur->Prop}{md:Region.Mode}{S:Ur->Prop}{listed:Array Bool}{a:Act}(h:Q .normal a w)(hr:Region.ready md ops listed=[]:=by kernel_rfl):wpAnyH P md ops Q S fuel listed a w:=wpAnyH_done hr h fuel
theorem bZ{ops:Array Oper}{Q:Exit->Act->Go.World->Prop}{md:Region.Mode}{S:Go.World->Prop}{f:Nat}{L:Array Bool}{K:Act->Go.World->Prop}{a b:Act}{u:Go.World}{P:Program}(m:Shut (∀a w,S w->(S w->wpAnyH P md ops Q S f L a w)->K a w))(hs:S u)(h:S u->wpAnyH P md ops Q S f L b u)(hp:a=b:=by first|(simp only[zP];rfl)|rfl):K a u:=m.out a u hs (by rw[hp];exact h)
theorem tY{ops:Array Oper}{Q:Exit->Act->Go.World->Prop}{md:Region.Mode}{S:Go.World->Prop}(i d:Nat){j e f:Nat}{v v':aB}{L:Array Bool}{a b c:Act}{u:Go.World}{P:Program}
  (h:wpAnyH P md ops Q S f ((L.setIfInBounds i true).setIfInBounds j true) c u)(hj:i+1=j:=by simp only[Nat.reduceAdd];rfl)(he:d+1=e:=by simp only[Nat.reduceAdd];rfl)(hS:S u:=by assumption)
  (hb:((ops[i]?.map (fun o=>o.dst)==Option.some (Option.some d))&&(Region.noSelect ops&&(Region.free md ops L i&&(Region.ready md ops L).contains i)))=true:=by kernel_rfl)
  (hQ:∀c a w,Q (.panic c) (a.put (Option.some d) v) w->Q (.panic c) a w:=by exact fun _ _ _ h=>h)
  (hy:∀o,ops[i]? =Option.some o->YieldsIf P ops S o v a:=by intro o j;simp only[eB,dZ,dY,eU]at j;subst j;refine Or.inl ⟨by rfl,?_⟩;intro w k;(try dsimp only at k);go_simp;try with_reducible rfl)
  (hp:a.put (Option.some d) v=b:=by simp only[Act.put,Au,As,Ar];rfl)
  (hb':((ops[j]?.map (fun o=>o.dst)==Option.some (Option.some e))&&(Region.noSelect ops&&(Region.free md ops (L.setIfInBounds i true) j&&(Region.ready md ops (L.setIfInBounds i true)).contains j)))=true:=by kernel_rfl)
  (hQ':∀c a w,Q (.panic c) (a.put (Option.some e) v') w->Q (.panic c) a w:=by exact fun _ _ _ h=>h)
  (hy':∀o,ops[j]? =Option.some o->YieldsIf P ops S o v' b:=by intro o j;simp only[eB,dZ,dY,eU]at j;subst j;refine Or.inl ⟨by rfl,?_⟩;intro w k;(try dsimp only at k);go_simp;try with_reducible rfl)
  (hp':b.put (Option.some e) v'=c:=by simp only[Act.put,Au,As,Ar];rfl):wpAnyH P md ops Q S (f+1+1) L a u:=tZ i d (tZ j e h hS hb' hQ' hy' hp') hS hb hQ hy hp
theorem rZ{ops:Array Oper}{Q:Exit->Act->Go.World->Prop}{md:Region.Mode}{S:Go.World->Prop}(i j:Nat){o o':Oper}{f:Nat}{L:Array Bool}{a:Act}{u:Go.World}{P:Program}
  (h:∀K':Act->Go.World->Prop,Shut (∀a w,S w->(S w->wpAnyH P md ops Q S f (L.setIfInBounds i true) a w)->K' a w)->if Region.wanted o (yielded ops a.tmps)=true then Oper.wp P o a u K' Q else K' (a.put o.dst undef) u)
  (h':∀K':Act->Go.World->Prop,Shut (∀a w,S w->(S w->wpAnyH P md ops Q S f (L.setIfInBounds j true) a w)->K' a w)->if Region.wanted o' (yielded ops a.tmps)=true then Oper.wp P o' a u K' Q else K' (a.put o'.dst undef) u)
  (hr:Region.ready md ops L=[i,j]:=by kernel_rfl) (ho:ops[i]? =Option.some o:=by simp only[eB,dZ,dY];rfl)(ho':ops[j]? =Option.some o':=by simp only[eB,dZ,dY];rfl):wpAnyH P md ops Q S (f+1) L a u:=
 wpAnyH_ready hr (by simp) (AllReadyH.cons ho h (AllReadyH.cons ho' h' AllReadyH.nil))
theorem zR{ops:Array Oper}{Q:Exit->Act->Ur->Prop}{S:Ur->Prop}{id:Nat}{a:Act}(hS:S w.drew)(h:S w.drew->wpAnyH P .any ops Q S ops.size (VG ops.size false) a w.drew)(hm:P.follows .mixedOrders=true:=by kernel_rfl):(Code.region id ops true).wp P Q a w:=wp_region_held_drew hm hS h
theorem zS{ops:Array Oper}{Q:Exit->Act->Ur->Prop}{S:Ur->Prop}{id:Nat}{a:Act}(N:aA (∀w',Bl w w'->S w'))(h:S w.drew->wpAnyH P .any ops Q S ops.size (VG ops.size false) a w.drew)(hm:P.follows .mixedOrders=true:=by kernel_rfl):(Code.region id ops true).wp P Q a w:=wp_region_held_drew hm (N _ (Below.refl _ _).drew) h
theorem zA{ops:Array Oper}{Q:Exit->Act->Ur->Prop}{S:Ur->Prop}{id:Nat}{a:Act}{X0:Ur->Prop}(N:aA (∀w',X0 w'->S w'))(h0:X0 w.drew)(h:S w.drew->wpAnyH P .any ops Q S ops.size (VG ops.size false) a w.drew)(hm:P.follows .mixedOrders=true:=by kernel_rfl):(Code.region id ops true).wp P Q a w:=wp_region_held_drew hm (N _ h0) h
theorem zB{ops:Array Oper}{Q:Exit->Act->Ur->Prop}{S:Ur->Prop}{id:Nat}{a:Act}{X0 X1:Ur->Prop}(N:aA (∀w',X0 w'->X1 w'->S w'))(h0:X0 w.drew)(h1:X1 w.drew)(h:S w.drew->wpAnyH P .any ops Q S ops.size (VG ops.size false) a w.drew)(hm:P.follows .mixedOrders=true:=by kernel_rfl):(Code.region id ops true).wp P Q a w:=wp_region_held_drew hm (N _ h0 h1) h
theorem zG{ops:Array Oper}{Q:Exit->Act->Ur->Prop}{S:Ur->Prop}{id:Nat}{a:Act}{X0 X1 X2 X3:Ur->Prop}(N:aA (∀w',X0 w'->X1 w'->X2 w'->X3 w'->S w'))(h0:X0 w.drew)(h1:X1 w.drew)(h2:X2 w.drew)(h3:X3 w.drew)(h:S w.drew->wpAnyH P .any ops Q S ops.size (VG ops.size false) a w.drew)(hm:P.follows .mixedOrders=true:=by kernel_rfl):(Code.region id ops true).wp P Q a w:=wp_region_held_drew hm (N _ h0 h1 h2 h3) h
theorem zF{fn:Func}{R:Ending->Ur->Prop}{a:Act}(hr:(results fn a.tmps).run P w=.ok v w)(hR:R (Ui v) w)(hd:a.defers=[]:=by rfl):bodyPost P fn R .ret a w:=bodyPost_ret hr hd hR
theorem cK(x:Int)(h0: -9223372036854775808<=x)(h1:x<=9223372036854775807):IntKind.i64.wrap x=x:=by
 rw[Vm];omega
theorem BC(hk:k<n)(h:fR (R k) (F k) (T k)=false):eQ R F T n=false:=D3 λ⟨h1,_⟩=>by
 have:=(h1 k hk).1;rw[h]at this;cases this
theorem BK(hk:k<n)(h0:0<k)(h:fT (R (k-1)) (T (k-1)) (R k) (F k)=false):eQ R F T n=false:=D3 λ⟨h1,_⟩=>by
 have:=(h1 k hk).2 h0;rw[h]at this;cases this
theorem Cn(a:Option Us)(n c:Nat)(R F T:Nat->Int)(w:Ur)(hn:n<=1048576)(h:bI w a n R F T):
  Cl 77 #[Uo #[Uf a n c]] w (Rt w (Un (eQ R F T n))):=by
 rcases h with h|⟨b,off,rfl,O,v⟩
 .subst h;have U:aA (eQ R F T 0=true):=dL.2 ⟨λi hi=>oM,oM⟩;go_enter func77,ntmps77;go_wp2_with fail;refine wp_loop_rounds 1 ?_;rw[rounds_succ];go_wp2_with fail;go_ret;exact⟨iF U.symm,zO _ _⟩
 .go_enter func77,ntmps77;go_wp2_with fail;go_loopw [3] (λi wr=>∃k:Nat,k<=n/\i=Ud k/\fQ R F T k/\wr.cell? (Ub w.1.size)=Uq (Uf (Uq (Ua b off)) n c)/\Bl w wr/\w.1.size<wr.1.size) (λi _=>n-(intOf i).toNat);case atStart=>exact⟨0,UB _,rfl,λi hi=>oM,oP,zO _ _,oP⟩
  case round=>
   obtain⟨k,hk,rfl,A,g,r,V⟩:=hrel;have m:=Ut O r.size;by_cases Q:k<n
   .have t:wr.cell? (Ua b (off+k*3))=Uq (Ud (R k)):=(r.cell (p:=(Ua b _)) O).trans (v k Q).1;have o:wr.cell? (Ua b (off+k*3+1))=Uq (Ud (F k)):=(r.cell (p:=(Ua b _)) O).trans (v k Q).2.1;have s:wr.cell? (Ua b (off+k*3+2))=Uq (Ud (T k)):=(r.cell (p:=(Ua b _)) O).trans (v k Q).2.2;have Ha:(0:Int)<=(k:Int):=VH _;have Hb:(k:Int)<(n:Int):=oM;have E:=aC r;have N:=aC A;cases hr:fR (R k) (F k) (T k)with
    |false=>have M:=aC hr;clear hr v r A;go_wp2_with fail;refine zR (S:=λw'=>Bl wr w'/\w'.cell? (Ub w.1.size)=Uq (Uf (Uq (Ua b off)) n c)/\w'.cell? (Ua b (off+k*3))=Uq (Ud (R k))/\w'.cell? (Ua b (off+k*3+1))=Uq (Ud (F k))/\w'.cell? (Ua b (off+k*3+2))=Uq (Ud (T k))) ⟨zI.drew,g,t,o,s⟩<|λqh=>?_;refine tY 0 11 ?_;refine tY 2 13 ?_;refine tZ 4 15 ?_;refine cZ 5 ?_;intro K u;go_simp;refine(Od _ _ _ _).mono ?_;rintro e D⟨rfl,z⟩;rw[M.out];have j:=aE qh.1 z;refine bZ u ⟨j,(j.cell (p:=(Ub w.1.size)) V).trans g,(j.cell (p:=(Ua b _)) m).trans t,(j.cell (p:=(Ua b _)) m).trans o,(j.cell (p:=(Ua b _)) m).trans s⟩<|λqh=>?_;clear u K;refine tY 6 17 ?_;refine uZ 8 19 ?_;refine uZ 9 20 ?_;refine uZ 10 21 ?_;refine uZ 11 22 ?_;refine uZ 12 23 ?_;refine uZ 13 24 ?_;refine uZ 14 25 ?_;refine uZ 15 26 ?_;refine uZ 16 27 ?_;refine uZ 17 28 ?_;refine uZ 18 29 ?_;refine uZ 19 30 ?_;refine uZ 20 31 ?_;refine uZ 21 32 ?_;refine uZ 22 33 ?_;refine uZ 23 34 ?_;refine uZ 24 35 ?_;refine tZ 25 36 ?_;refine zD ?_;have y:=aC<|aE (wr:=wr) (w1:=wr) zI j;clear qh j z;go_wp2_with fail;go_ret;exact⟨iF (BC Q M).symm,E.trans (y.mono oM)⟩
    |true=>
     have M:=aC hr;clear hr;by_cases H:k=0;focus have hg:decide (0<k)=false:=oS;have J:=aC H;clear v r A H;go_wp2_with fail;refine zR (S:=λw'=>Bl wr w'/\w'.cell? (Ub w.1.size)=Uq (Uf (Uq (Ua b off)) n c)/\w'.cell? (Ua b (off+k*3))=Uq (Ud (R k))/\w'.cell? (Ua b (off+k*3+1))=Uq (Ud (F k))/\w'.cell? (Ua b (off+k*3+2))=Uq (Ud (T k))) ⟨zI.drew,g,t,o,s⟩<|λqh=>?_
     rotate_left;focus have hg:decide (0<k)=true:=oS;have Y:=(r.cell (p:=(Ua b (off+(k-1)*3))) O).trans (v (k-1) oM).1;have Z:=(r.cell (p:=(Ua b (off+(k-1)*3+1))) O).trans (v (k-1) oM).2.1;have G:=(r.cell (p:=(Ua b (off+(k-1)*3+2))) O).trans (v (k-1) oM).2.2;have P:IntKind.i64.wrap ((k:Int)-1)=(k:Int)-1:=cK _ oM oM;have W:((k:Int)-1).toNat=k-1:=oM;have e2:(1:Int)<=(k:Int):=oM;have e3:(k:Int)-1<(n:Int):=oM;have C:=qH.1 (A (k-1) oM).1;have X:=aC C;have J:=aC H;clear v r A H C;go_wp2_with fail;refine zR (S:=λw'=>Bl wr w'/\w'.cell? (Ub w.1.size)=Uq (Uf (Uq (Ua b off)) n c)/\w'.cell? (Ua b (off+k*3))=Uq (Ud (R k))/\w'.cell? (Ua b (off+k*3+1))=Uq (Ud (F k))/\w'.cell? (Ua b (off+k*3+2))=Uq (Ud (T k))/\w'.cell? (Ua b (off+(k-1)*3))=Uq (Ud (R (k-1)))/\w'.cell? (Ua b (off+(k-1)*3+1))=Uq (Ud (F (k-1)))/\w'.cell? (Ua b (off+(k-1)*3+2))=Uq (Ud (T (k-1)))) ⟨zI.drew,g,t,o,s,Y,Z,G⟩<|λqh=>?_
     rotate_left;all_goals refine tY 0 11 ?_;refine tY 2 13 ?_;refine tZ 4 15 ?_;refine cZ 5 ?_;intro K u;go_simp;refine(Od _ _ _ _).mono ?_;rintro e D⟨rfl,z⟩;rw[M.out];have j:=aE qh.1 z
     refine u.out _ _ ⟨j,(j.cell (p:=(Ub w.1.size)) V).trans g,(j.cell (p:=(Ua b _)) m).trans t,(j.cell (p:=(Ua b _)) m).trans o,(j.cell (p:=(Ua b _)) m).trans s⟩<|λqh=>?_;rotate_left;refine u.out _ _ ⟨j,(j.cell (p:=(Ub w.1.size)) V).trans g,(j.cell (p:=(Ua b _)) m).trans t,(j.cell (p:=(Ua b _)) m).trans o,(j.cell (p:=(Ua b _)) m).trans s,(j.cell (p:=(Ua b _)) m).trans Y,(j.cell (p:=(Ua b _)) m).trans Z,(j.cell (p:=(Ua b _)) m).trans G⟩<|λqh=>?_;rotate_left;all_goals
      clear u K;try simp only[zP]
      refine tY 6 17 ?_;refine tY 8 19 ?_;refine tZ 10 21 ?_
     .refine uZ 11 22 ?_;refine uZ 12 23 ?_;refine uZ 13 24 ?_;refine uZ 14 25 ?_;refine uZ 15 26 ?_;refine uZ 16 27 ?_;refine uZ 17 28 ?_;refine uZ 18 29 ?_;refine uZ 19 30 ?_;refine uZ 20 31 ?_;refine uZ 21 32 ?_;refine uZ 22 33 ?_;refine uZ 23 34 ?_;refine tY 24 35 ?_;refine zD ?_;have L:=aC qh.2.1;have y:=aC j;clear qh j z;go_wp2_with fail;go_roundw;case rel=>exact⟨k+1,Q,oN,Df N M (λh=>oH J),L,E.trans (y.mono oM),oH y.size⟩
      case measure=>exact oE
     .refine tY 11 22 ?_;refine tY 13 24 ?_;refine tY 15 26 ?_;refine tY 17 28 ?_;refine tY 19 30 ?_;refine tZ 21 32 ?_;refine cZ 22 ?_;intro K u;go_simp;refine(SI (R (k-1)) (F (k-1)) (T (k-1)) (R k) (F k) (T k) _ (oH X) (oH X)).mono ?_;rintro e w3⟨rfl,b3⟩;have q:=aE j b3;cases ha:fT (R (k-1)) (T (k-1)) (R k) (F k);all_goals
       have I:=aC ha;clear ha;refine bZ u ⟨q,(q.cell (p:=(Ub w.1.size)) V).trans g,(q.cell (p:=(Ua b _)) m).trans t,(q.cell (p:=(Ua b _)) m).trans o,(q.cell (p:=(Ua b _)) m).trans s,(q.cell (p:=(Ua b _)) m).trans Y,(q.cell (p:=(Ua b _)) m).trans Z,(q.cell (p:=(Ua b _)) m).trans G⟩<|λqh=>?_;clear u K;refine tY 23 34 ?_;refine tZ 25 36 ?_;refine zD ?_
      .have y:=aC q;clear qh j z b3 q;go_wp2_with fail;go_ret;exact⟨iF (BK Q (oH J) I).symm,E.trans (y.mono oM)⟩
      .have L:=aC qh.2.1;have y:=aC q;clear qh j z b3 q P W e2 e3;go_wp2_with fail;go_roundw;case rel=>exact⟨k+1,Q,oN,Df N M (λ_=>I.out),L,E.trans (y.mono oM),oH y.size⟩
       case measure=>exact oE
   .obtain rfl:k=n:=oM;have E:=aC r;by_cases B:k<=1000;have U:aA (eQ R F T k=true):=dL.2 ⟨A,B⟩;have hd:decide ((k:Int)<=1000)=true:=oS;rotate_left;have U:aA (eQ R F T k=false):=D3 λh=>B h.2;have hd:decide ((k:Int)<=1000)=false:=oS;rotate_left;all_goals clear v r A;go_wp2_with fail;go_ret;exact⟨iF U.symm,E⟩
theorem Si(a:Option Us)(n c:Nat)(R F T:Nat->Int)(w:Ur)(hn:n<=1048576)(h:bI w a n R F T):
  Cl 170 #[Uo #[Uf a n c]] w (Rt w (Un (eQ R F T n))):=by
 by_cases hm:n<=1000;case neg=>have Y:aA (eQ R F T n=false):=D3 λh=>hm h.2;go_enter func170,ntmps170;go_wp2_with fail;go_ret;exact⟨iF Y.symm,zO _ _⟩
 rcases h with h|⟨b,off,rfl,M,z⟩
 .subst h;have Y:aA (eQ R F T 0=true):=dL.2 ⟨λi hi=>oM,oM⟩;go_enter func170,ntmps170;go_wp2_with fail;refine wp_loop_rounds 1 ?_;rw[rounds_succ];go_wp2_with fail;go_ret;exact⟨iF Y.symm,zO _ _⟩
 .go_enter func170,ntmps170;go_wp2_with fail;go_loopw [12] (λi wr=>∃k:Nat,k<=n/\i=Ud k/\fQ R F T k/\wr.cell? (Ub w.1.size)=Uq (Uf (Uq (Ua b off)) n c)/\Bl w wr/\w.1.size<wr.1.size) (λi _=>n-(intOf i).toNat);case atStart=>exact⟨0,UB _,rfl,λi hi=>oM,oP,zO _ _,oP⟩
  case round=>
   obtain⟨k,hk,rfl,Q,I,y,Hc⟩:=hrel;have Hd:=Ut M y.size;by_cases O:k<n
   .have P:wr.cell? (Ua b (off+k*3))=Uq (Ud (R k)):=(y.cell (p:=(Ua b _)) M).trans (z k O).1;have W:wr.cell? (Ua b (off+k*3+1))=Uq (Ud (F k)):=(y.cell (p:=(Ua b _)) M).trans (z k O).2.1;have Ha:wr.cell? (Ua b (off+k*3+2))=Uq (Ud (T k)):=(y.cell (p:=(Ua b _)) M).trans (z k O).2.2;have U:=aC y;have HO:=aC Q;generalize v:wr.alloc (Uj #[Ud (R k),Ud (F k),Ud (T k)] 103)=u;have q:wr.1.size<u.1.size:=v▸oP;have Z:w.1.size<u.1.size:=oM;have o:b<u.1.size:=oM;have V:Bl wr u:=v▸zO _ _;have s:u.cell? (Ub w.1.size)=Uq (Uf (Uq (Ua b off)) n c):=(V.cell (p:=(Ub w.1.size)) Hc).trans I;have A:u.cell? (Ub wr.1.size)=Uq (Ud (R k)):=v▸oP;have r1:u.cell? (Ua wr.1.size 1)=Uq (Ud (F k)):=v▸oP;have r2:u.cell? (Ua wr.1.size 2)=Uq (Ud (T k)):=v▸oP;have G:=aC V;cases hr:fR (R k) (F k) (T k)with
    |false=>have E:=aC hr;clear hr z y Q V;go_wp2_with fail;clear v I P W Ha;refine zR (S:=λw'=>Bl u w'/\w'.cell? (Ub w.1.size)=Uq (Uf (Uq (Ua b off)) n c)/\w'.cell? (Ub wr.1.size)=Uq (Ud (R k))/\w'.cell? (Ua wr.1.size 1)=Uq (Ud (F k))/\w'.cell? (Ua wr.1.size 2)=Uq (Ud (T k))) ⟨zI.drew,s,A,r1,r2⟩<|λqh=>?_;refine tZ 0 17 ?_;refine cZ 1 ?_;intro K r;go_simp;refine(AI _ _ _ _).mono ?_;rintro e w2⟨rfl,t⟩;rw[E.out];have j:=aE qh.1 t;refine bZ r ⟨j,(j.cell (p:=(Ub w.1.size)) Z).trans s,(j.cell (p:=(Ub wr.1.size)) q).trans A,(j.cell (p:=(Ua wr.1.size 1)) q).trans r1,(j.cell (p:=(Ua wr.1.size 2)) q).trans r2⟩<|λqh=>?_;clear r K;refine tY 2 19 ?_;refine uZ 4 21 ?_;refine uZ 5 22 ?_;refine uZ 6 23 ?_;refine uZ 7 24 ?_;refine uZ 8 25 ?_;refine uZ 9 26 ?_;refine uZ 10 27 ?_;refine uZ 11 28 ?_;refine uZ 12 29 ?_;refine uZ 13 30 ?_;refine uZ 14 31 ?_;refine uZ 15 32 ?_;refine uZ 16 33 ?_;refine tZ 17 34 ?_;refine zD ?_;have g:=aC j;clear qh j t;go_wp2_with fail;go_ret;exact⟨iF (BC O E).symm,U.trans ((G.trans (g.mono oM)).mono oM)⟩
    |true=>
     have E:=aC hr;clear hr;by_cases X:k=0;have hg:decide (0<k)=false:=oS;have C:=aC X;clear z y Q X V;rotate_left;have hg:decide (0<k)=true:=oS;have H:=y.trans<|V.mono oM;have J:=(H.cell (p:=(Ua b (off+(k-1)*3))) M).trans (z (k-1) oM).1;have L:=(H.cell (p:=(Ua b (off+(k-1)*3+1))) M).trans (z (k-1) oM).2.1;have N:=(H.cell (p:=(Ua b (off+(k-1)*3+2))) M).trans (z (k-1) oM).2.2;have e0:IntKind.i64.wrap ((k:Int)-1)=(k:Int)-1:=cK _ oM oM;have e1:((k:Int)-1).toNat=k-1:=oM;have e2:(1:Int)<=(k:Int):=oM;have e3:(k:Int)-1<(n:Int):=oM;have Hb:=qH.1 (Q (k-1) oM).1;have HP:=aC Hb;have C:=aC X;clear z y Q X Hb V H;rotate_left;all_goals
      go_wp2_with fail
      clear v I P W Ha
     refine zR (S:=λw'=>Bl u w'/\w'.cell? (Ub w.1.size)=Uq (Uf (Uq (Ua b off)) n c)/\w'.cell? (Ub wr.1.size)=Uq (Ud (R k))/\w'.cell? (Ua wr.1.size 1)=Uq (Ud (F k))/\w'.cell? (Ua wr.1.size 2)=Uq (Ud (T k))) ⟨zI.drew,s,A,r1,r2⟩<|λqh=>?_;rotate_left;refine zR (S:=λw'=>Bl u w'/\w'.cell? (Ub w.1.size)=Uq (Uf (Uq (Ua b off)) n c)/\w'.cell? (Ub wr.1.size)=Uq (Ud (R k))/\w'.cell? (Ua wr.1.size 1)=Uq (Ud (F k))/\w'.cell? (Ua wr.1.size 2)=Uq (Ud (T k))/\w'.cell? (Ua b (off+(k-1)*3))=Uq (Ud (R (k-1)))/\w'.cell? (Ua b (off+(k-1)*3+1))=Uq (Ud (F (k-1)))/\w'.cell? (Ua b (off+(k-1)*3+2))=Uq (Ud (T (k-1)))) ⟨zI.drew,s,A,r1,r2,J,L,N⟩<|λqh=>?_;rotate_left;all_goals refine tZ 0 17 ?_;refine cZ 1 ?_;intro K r;go_simp;refine(AI _ _ _ _).mono ?_;rintro e w2⟨rfl,t⟩;rw[E.out];have j:=aE qh.1 t
     refine r.out _ _ ⟨j,(j.cell (p:=(Ub w.1.size)) Z).trans s,(j.cell (p:=(Ub wr.1.size)) q).trans A,(j.cell (p:=(Ua wr.1.size 1)) q).trans r1,(j.cell (p:=(Ua wr.1.size 2)) q).trans r2⟩<|λqh=>?_;rotate_left;refine r.out _ _ ⟨j,(j.cell (p:=(Ub w.1.size)) Z).trans s,(j.cell (p:=(Ub wr.1.size)) q).trans A,(j.cell (p:=(Ua wr.1.size 1)) q).trans r1,(j.cell (p:=(Ua wr.1.size 2)) q).trans r2,(j.cell (p:=(Ua b _)) o).trans J,(j.cell (p:=(Ua b _)) o).trans L,(j.cell (p:=(Ua b _)) o).trans N⟩<|λqh=>?_;rotate_left;all_goals
      clear r K;try simp only[zP]
      refine tY 2 19 ?_;refine tY 4 21 ?_;refine tZ 6 23 ?_
     .refine uZ 7 24 ?_;refine uZ 8 25 ?_;refine uZ 9 26 ?_;refine uZ 10 27 ?_;refine uZ 11 28 ?_;refine uZ 12 29 ?_;refine uZ 13 30 ?_;refine uZ 14 31 ?_;refine uZ 15 32 ?_;refine tY 16 33 ?_;refine zD ?_;have D:=aC qh.2.1;have g:=aC j;clear qh j t;go_wp2_with fail;go_roundw;case rel=>exact⟨k+1,O,oN,Df HO E (λh=>oH C),D,U.trans ((G.trans (g.mono oM)).mono oM),oH g.size⟩
      case measure=>exact oE
     .refine tY 7 24 ?_;refine tY 9 26 ?_;refine tY 11 28 ?_;refine tZ 13 30 ?_;refine cZ 14 ?_;intro K r;go_simp;refine(WV (R (k-1)) (F (k-1)) (T (k-1)) (R k) (F k) (T k) _ (oH HP) (oH HP)).mono ?_;rintro e w3⟨rfl,b3⟩;have m:=aE j b3;cases ha:fT (R (k-1)) (T (k-1)) (R k) (F k);all_goals
       have B:=aC ha;clear ha;refine bZ r ⟨m,(m.cell (p:=(Ub w.1.size)) Z).trans s,(m.cell (p:=(Ub wr.1.size)) q).trans A,(m.cell (p:=(Ua wr.1.size 1)) q).trans r1,(m.cell (p:=(Ua wr.1.size 2)) q).trans r2,(m.cell (p:=(Ua b _)) o).trans J,(m.cell (p:=(Ua b _)) o).trans L,(m.cell (p:=(Ua b _)) o).trans N⟩<|λqh=>?_;clear r K;refine tY 15 32 ?_;refine tZ 17 34 ?_;refine zD ?_
      .have g:=aC m;clear qh j t b3 m;go_wp2_with fail;go_ret;exact⟨iF (BK O (oH C) B).symm,U.trans ((G.trans (g.mono oM)).mono oM)⟩
      .have D:=aC qh.2.1;have g:=aC m;clear qh j t b3 m e0 e1 e2 e3;go_wp2_with fail;go_roundw;case rel=>exact⟨k+1,O,oN,Df HO E (λ_=>B.out),D,U.trans ((G.trans (g.mono oM)).mono oM),oH g.size⟩
       case measure=>exact oE
   .obtain rfl:k=n:=oM;have U:=aC y;have Y:aA (eQ R F T k=true):=dL.2 ⟨Q,hm⟩;clear z y Q;go_wp2_with fail;go_ret;exact⟨iF Y.symm,U⟩
def gS(p:List ByteArray)(i:Nat):ByteArray:=p.getD i ByteArray.empty
def aV(w:Ur)(a:Option Us)(p:List ByteArray):Prop:=
 p.length=0\/∃b off,a=Uq (Ua b off)/\b<w.1.size/\∀i,i<p.length->w.cell? (Ua b (off+i))=Uq (Um (gS p i))
theorem aV.kept(h:aV w a p)(hb:Below B w w1)(hB:w.1.size<=B):aV w1 a p:=by
 refine h.imp id ?_;rintro⟨b,off,e,j,k⟩;exact⟨b,off,e,Ut j hb.size,λi hi=>(hb.cell (p:=(Ua b (off+i))) (Ut j hB)).trans (k i hi)⟩
theorem aV.bw(h:aV w a p)(hb:Bl w w1):aV w1 a p:=h.kept hb zL
structure Lf where
 p:List ByteArray
 fl:Bool
 r:Int
 q:Int
 v:ByteArray
def gL(l:List Lf)(i:Nat):Lf:=l.getD i ⟨[],false,0,0,ByteArray.empty⟩
def gA(w:Ur)(a:Option Us)(l:List Lf):Prop:=
 l.length=0\/∃b off,a=Uq (Ua b off)/\b<w.1.size/\∀i,i<l.length->∃pa pc,w.cell? (Ua b (off+i*5))=Uq (Uf pa (gL l i).p.length pc)/\aV w pa (gL l i).p/\w.cell? (Ua b (off+i*5+1))=Uq (Un (gL l i).fl)/\w.cell? (Ua b (off+i*5+2))=Uq (Ud (gL l i).r)/\w.cell? (Ua b (off+i*5+3))=Uq (Ud (gL l i).q)/\w.cell? (Ua b (off+i*5+4))=Uq (Um (gL l i).v)
theorem gA.bw{l:List Lf}(h:gA w a l)(hb:Bl w w1):gA w1 a l:=by
 refine h.imp id ?_;rintro⟨b,off,e,j,y⟩;refine⟨b,off,e,Ut j hb.size,λi hi=>?_⟩;have⟨z,pc,k,s,m,r,u,v⟩:=y i hi;have q:=λo=>hb.cell (p:=(Ua b o)) j;exact⟨z,pc,(q _).trans k,s.bw hb,(q _).trans m,(q _).trans r,(q _).trans u,(q _).trans v⟩
def eK(x:Lf):Prop:=(Lit.int Uh x.r).wf=true/\(Lit.int Uh x.q).wf=true
theorem zM(b off j:Nat):((Ua b off):Us).add j=(Ua b (off+j)):=by
 by_cases k:j=0
 .subst k;rfl
 .simp[Addr.add,k]
def iP(l:List Lf):Prop:=∀i,(gL l i).p.length<=1048576
theorem Sk(h:p.length<=i):gS p i=ByteArray.empty:=by simp[gS,UL,UT h]
theorem uE:(prog.info? 9).map (λi=>(i.zero,i.size,i.bytes))=Uq (Uq (Um ByteArray.empty),1,16):=oK
structure aF(w:Ur)(b:Nat)(v0 v1 v2 v3 v4:aB):Prop where
 c0:w.cell? (Ub b)=Uq v0
 c1:w.cell? (Ua b 1)=Uq v1
 c2:w.cell? (Ua b 2)=Uq v2
 c3:w.cell? (Ua b 3)=Uq v3
 c4:w.cell? (Ua b 4)=Uq v4
 f:∀i,w.frozen? (Ua b i)=false
 lt:b<w.1.size
theorem aF.q2(h:aF w b v0 v1 v2 v3 v4):w.cell? (Ub b)=Uq v0/\w.cell? (Ua b 1)=Uq v1:=⟨h.c0,h.c1⟩
theorem aF.p2(h:aF w b v0 v1 v2 v3 v4):w.cell? (Ub b)=Uq v0/\w.cell? (Ua b 1)=Uq v1/\∀i,w.frozen? (Ua b i)=false:=⟨h.c0,h.c1,h.f⟩
theorem aF.q3(h:aF w b v0 v1 v2 v3 v4):w.cell? (Ub b)=Uq v0/\w.cell? (Ua b 1)=Uq v1/\w.cell? (Ua b 2)=Uq v2:=⟨h.c0,h.c1,h.c2⟩
theorem aF.p3(h:aF w b v0 v1 v2 v3 v4):w.cell? (Ub b)=Uq v0/\w.cell? (Ua b 1)=Uq v1/\w.cell? (Ua b 2)=Uq v2/\∀i,w.frozen? (Ua b i)=false:=⟨h.c0,h.c1,h.c2,h.f⟩
theorem aF.q5(h:aF w b v0 v1 v2 v3 v4):w.cell? (Ub b)=Uq v0/\w.cell? (Ua b 1)=Uq v1/\w.cell? (Ua b 2)=Uq v2/\w.cell? (Ua b 3)=Uq v3/\w.cell? (Ua b 4)=Uq v4:=⟨h.c0,h.c1,h.c2,h.c3,h.c4⟩
theorem aF.p5(h:aF w b v0 v1 v2 v3 v4):w.cell? (Ub b)=Uq v0/\w.cell? (Ua b 1)=Uq v1/\w.cell? (Ua b 2)=Uq v2/\w.cell? (Ua b 3)=Uq v3/\w.cell? (Ua b 4)=Uq v4/\∀i,w.frozen? (Ua b i)=false:=⟨h.c0,h.c1,h.c2,h.c3,h.c4,h.f⟩
theorem aF.bw(h:aF w b v0 v1 v2 v3 v4)(hb:Below B w w')(hB:b<B):aF w' b v0 v1 v2 v3 v4:=
 ⟨(hb.cell (p:=(Ub b)) hB).trans h.c0,(hb.cell (p:=(Ua b 1)) hB).trans h.c1,(hb.cell (p:=(Ua b 2)) hB).trans h.c2,(hb.cell (p:=(Ua b 3)) hB).trans h.c3,(hb.cell (p:=(Ua b 4)) hB).trans h.c4,λi=>(hb.frozen (p:=(Ua b i)) hB).trans (h.f i),Ut h.lt hb.size⟩
theorem aF.setAt(h:aF w b v0 v1 v2 v3 v4)(q:Us)(u:aB)(hq:q.block≠b):aF (w.setCell q u) b v0 v1 v2 v3 v4:=
 ⟨by rw[Vp _ _ _ _ hq];exact h.c0,by rw[Vp _ _ _ _ hq];exact h.c1,by rw[Vp _ _ _ _ hq];exact h.c2,by rw[Vp _ _ _ _ hq];exact h.c3,by rw[Vp _ _ _ _ hq];exact h.c4,λi=>by rw[Vq];exact h.f i,by simp[Vr];exact h.lt⟩
theorem aF.set0(h:aF w b v0 v1 v2 v3 v4)(u:aB):aF (w.setCell (Ub b) u) b u v1 v2 v3 v4:=
 ⟨Vs _ _ _ h.c0,by simp[Vt,h.c1],by simp[Vt,h.c2],by simp[Vt,h.c3],by simp[Vt,h.c4],λi=>by rw[Vq];exact h.f i,by simp[Vr];exact h.lt⟩
theorem aF.set1(h:aF w b v0 v1 v2 v3 v4)(u:aB):aF (w.setCell (Ua b 1) u) b v0 u v2 v3 v4:=
 ⟨by simp[Vt,h.c0],Vs _ _ _ h.c1,by simp[Vt,h.c2],by simp[Vt,h.c3],by simp[Vt,h.c4],λi=>by rw[Vq];exact h.f i,by simp[Vr];exact h.lt⟩
theorem yZ:(prog.info? 101).map (λi=>(i.zero,i.size,i.bytes))=Uq (Uq (Uo #[Ue,Un false,Ud 0,Ud 0,Um ByteArray.empty]),5,64):=oK
def dH(w:Ur)(a:Option Us)(l:List Lf):Prop:=
 l.length=0\/∃b off,a=Uq (Ua b off)/\b<w.1.size/\∀i,i<l.length->∃pa pc,(w.cell? (Ua b (off+i*5))=Uq (Uf pa (gL l i).p.length pc)/\(gL l i).p.length<=pc/\pc<=9223372036854775807)/\aV w pa (gL l i).p/\w.cell? (Ua b (off+i*5+1))=Uq (Un (gL l i).fl)/\w.cell? (Ua b (off+i*5+2))=Uq (Ud (gL l i).r)/\w.cell? (Ua b (off+i*5+3))=Uq (Ud (gL l i).q)/\w.cell? (Ua b (off+i*5+4))=Uq (Um (gL l i).v)
theorem dH.bw{l:List Lf}(h:dH w a l)(hb:Bl w w1):dH w1 a l:=by
 refine h.imp id ?_;rintro⟨b,off,e,j,z⟩;refine⟨b,off,e,Ut j hb.size,λi hi=>?_⟩;have⟨g,pc,⟨k,y⟩,s,m,r,u,v⟩:=z i hi;have q:=λo=>hb.cell (p:=(Ua b o)) j;exact⟨g,pc,⟨(q _).trans k,y⟩,s.bw hb,(q _).trans m,(q _).trans r,(q _).trans u,(q _).trans v⟩
theorem dH.seg{l:List Lf}(h:dH w a l):gA w a l:=by
 refine h.imp id ?_;rintro⟨b,off,e,v,u⟩;refine⟨b,off,e,v,λi hi=>?_⟩;have⟨y,pc,⟨j,_⟩,s,k,m,q,r⟩:=u i hi;exact⟨y,pc,j,s,k,m,q,r⟩
def kA(s t:ByteArray):Bool:=Op.bytesLess s.toList t.toList
def pU(s t:ByteArray):Bool:=s.toList==t.toList
def dD(s t:ByteArray):Int:=if kA s t=true then -1 else if pU s t=true then 0 else 1
def aW:List ByteArray->List ByteArray->Int
 |[],[]=>0
 |[],_::_=> -1
 |_::_,[]=>1
 |s::p,t::q=>if dD s t=0 then aW p q else dD s t
theorem aV.tail(hb:b<w.1.size)(h:∀i,i<(s::p).length->w.cell? (Ua b (o+i))=Uq (Um (gS (s::p) i))):aV w (Uq (Ua b (o+1))) p:=
 .inr ⟨b,o+1,rfl,hb,λi hi=>by
  have e:=h (i+1) oS;rw[show o+(i+1)=o+1+i by omega]at e;exact e⟩
theorem aV.drews(h:aV w a p):aV (w.drewN k) a p:=h
theorem lA(h:x=y):Ending.returned (Ud x)=Ui (Ud y):=by rw[h]
theorem zJ:∀(p q:List ByteArray) (a b:Option Us) (c d:Nat) (w:Ur),p.length<=c->q.length<=d->c<=9223372036854775807->d<=9223372036854775807->aV w a p->aV w b q->
  Cl 93 #[Uf a p.length c,Uf b q.length d] w λe w'=>e=Ui (Ud (aW p q))/\∃k,w'=w.drewN k
 |[],[],a,b,c,d,w,_,_,_,_,_,_=>by
  go_enter func93,ntmps93;go_wp2_with fail;go_ret;exact⟨rfl,0,rfl⟩
 |[],t::q,a,b,c,d,w,_,_,_,_,_,_=>by
  have N:(((t::q).length:Int)==0)=false:=oS;go_enter func93,ntmps93;go_wp2_with fail;go_ret;exact⟨rfl,0,rfl⟩
 |s::p,[],a,b,c,d,w,_,_,_,_,_,_=>by
  have N:(((s::p).length:Int)==0)=false:=oS;go_enter func93,ntmps93;go_wp2_with fail;go_ret;exact⟨rfl,0,rfl⟩
 |s::p,t::q,a,b,c,d,w,hc,hd,hc',hd',h,g=>by
  have⟨n,G⟩:=zE ((s::p).length);have⟨m,Z⟩:=zE ((t::q).length);rcases h with h|⟨o,E,rfl,D,h⟩
  .simp at h
  rcases g with g|⟨i,M,rfl,F,g⟩
  .simp at g
  have x0:w.cell? (Ua o E)=Uq (Um s):=by simpa[gS]using h 0 oP
  have S:w.cell? (Ua i M)=Uq (Um t):=by simpa[gS]using g 0 oP
  have C:n=p.length+1:=G▸oP;have X:m=q.length+1:=Z▸oP;have U:=aC<|aV.tail D h;have V:=aC<|aV.tail F g;have N:((n:Int)==0)=false:=oS;have d1:((m:Int)==0)=false:=oS;have I:=aC C;have H:=aC X;have Hf:(0:Int)<(n:Int):=oM;have Hd:(0:Int)<(m:Int):=oM;have Hb:n<=c:=G▸hc;have Hc:m<=d:=Z▸hd;rw[G,Z];clear C X G Z hc hd h g;by_cases Q:Op.bytesLess s.toList t.toList=true
  .have v:aA (aW (s::p) (t::q)= -1):=aC (by simp[aW,dD,kA,Q]);clear U V;go_enter func93,ntmps93;go_wp2_with fail;go_quiet (fail);go_wp2_with fail;go_ret;exact⟨lA v.symm,_,rfl⟩
  .have Q:Op.bytesLess s.toList t.toList=false:=oU Q;by_cases Y:(s.toList==t.toList)=true
   .have v:aA (aW (s::p) (t::q)=aW p q):=aC (by simp only[aW,dD,kA,pU,Q,Y];simp);have y:aA (∀A B W,aV W A p->aV W B q->Cl 93 #[Uf A (n-1) (c-1),Uf B (m-1) (d-1)] W λe w'=>e=Ui (Ud (aW p q))/\∃m,w'=W.drewN m):=aC (λA B W hA hB=>by
     have e1:=I.out;have e2:=H.out;rw[show n-1=p.length by omega,show m-1=q.length by omega];exact zJ p q A B (c-1) (d-1) _ oM oM oM oM hA hB)
    have Hg:(1:Int)<=(n:Int):=oM;have He:(1:Int)<=(m:Int):=oM;go_enter func93,ntmps93;go_wp2_with fail;go_quiet (fail);have⟨J,O⟩:=zE (w.drewN nq);rw[O];have R:J.cell? (Ua o E)=Uq (Um s):=O▸x0;have T:J.cell? (Ua i M)=Uq (Um t):=O▸S;have L:=aC O;clear O;go_wp2_with fail;go_quiet (fail);have⟨u,K⟩:=zE (J.drewN nq);rw[K];have z:aA (∃k,u=w.drewN k):=aC ⟨_,by rw[<-K,<-L.out,Vu]⟩;clear K L R T;go_wp2_with fail;by_cases Ha:1<c
    .skip;by_cases P:1<d
     .skip;have j:aA (aV u (Uq (Ua o (E+1))) p):=aC (by have⟨k,e⟩:=z.out;rw[e];exact U);have r:aA (aV u (Uq (Ua i (M+1))) q):=aC (by have⟨k,e⟩:=z.out;rw[e];exact V);go_quiet ((go_at_call 93;exact Calls.quiet_of (y _ _ _ j.drews r.drews)));clear j r y;go_wp2_with fail;go_ret;have⟨k,e⟩:=z.out;exact⟨lA v.symm,_,by rw[e,Vu]⟩
     .skip;have j:aA (aV u (Uq (Ua o (E+1))) p):=aC (by have⟨k,e⟩:=z.out;rw[e];exact U);have r:=aC<|show aV u (Uq (Ua i M)) q from .inl (oH H);go_quiet ((go_at_call 93;exact Calls.quiet_of (y _ _ _ j.drews r.drews)));clear j r y;go_wp2_with fail;go_ret;have⟨k,e⟩:=z.out;exact⟨lA v.symm,_,by rw[e,Vu]⟩
    .skip;by_cases P:1<d
     .skip;have j:=aC<|show aV u (Uq (Ua o E)) p from .inl (oH I);have r:aA (aV u (Uq (Ua i (M+1))) q):=aC (by have⟨k,e⟩:=z.out;rw[e];exact V);go_quiet ((go_at_call 93;exact Calls.quiet_of (y _ _ _ j.drews r.drews)));clear j r y;go_wp2_with fail;go_ret;have⟨k,e⟩:=z.out;exact⟨lA v.symm,_,by rw[e,Vu]⟩
     .skip;have j:=aC<|show aV u (Uq (Ua o E)) p from .inl (oH I);have r:=aC<|show aV u (Uq (Ua i M)) q from .inl (oH H);go_quiet ((go_at_call 93;exact Calls.quiet_of (y _ _ _ j.drews r.drews)));clear j r y;go_wp2_with fail;go_ret;have⟨k,e⟩:=z.out;exact⟨lA v.symm,_,by rw[e,Vu]⟩
   .have Y:(s.toList==t.toList)=false:=oU Y;have v:aA (aW (s::p) (t::q)=1):=aC (by simp[aW,dD,kA,pU,Q,Y]);clear U V;go_enter func93,ntmps93;go_wp2_with fail;go_quiet (fail);go_wp2_with fail;go_quiet (fail);go_wp2_with fail;go_ret;exact⟨lA v.symm,_,Vu _ _ _⟩
theorem qU{Q:Prop}(h:Q:=by go_enter func176,ntmps176;go_wp2_with (go_at_call 200;refine(q _ _).mono ?_;rintro e w'⟨rfl,rfl⟩);go_ret;exact⟨lA j.symm,rfl⟩):Q:=h
theorem Wb(s t:ByteArray)(w:Ur):Cl 176 #[Um s,Um t] w λe w'=>e=Ui (Ud (dD s t))/\w'=w:=by
 have q:∀(s:ByteArray) (w:Ur),Cl 200 #[Um s] w λe w'=>e=Ui (Un false)/\w'=w:=λs w=>by
  have e:(s.toList==s.toList)=true:=oP;go_enter func200,ntmps200;go_wp2_with fail;go_ret;exact⟨rfl,rfl⟩
 by_cases k:Op.bytesLess s.toList t.toList=true
 .have j:aA (dD s t= -1):=aC (by simp[dD,kA,k]);exact qU
 .have k:Op.bytesLess s.toList t.toList=false:=oU k;by_cases m:(s.toList==t.toList)=true
  .have j:aA (dD s t=0):=aC (by simp only[dD,kA,pU,k,m];simp);exact qU
  .have m:(s.toList==t.toList)=false:=oU m;have j:aA (dD s t=1):=aC (by simp[dD,kA,pU,k,m]);exact qU
theorem Cw(h:k<p.length):p.drop k=gS p k::p.drop (k+1):=by
 rw[UU h];simp[gS,UL,h]
theorem RO(h:k<p.length)(h':q.length<=k):aW (p.drop k) (q.drop k)=1:=by
 rw[Cw h,UV h'];rfl
theorem RQ(h:p.length<=k)(h':k<q.length):aW (p.drop k) (q.drop k)= -1:=by
 rw[Cw h',UV h];rfl
theorem RP(h:p.length<=k)(h':q.length<=k):aW (p.drop k) (q.drop k)=0:=by
 rw[UV h',UV h];rfl
theorem NV(h:k<p.length)(h':k<q.length):aW (p.drop k) (q.drop k)=if dD (gS p k) (gS q k)=0 then aW (p.drop (k+1)) (q.drop (k+1))else dD (gS p k) (gS q k):=by
 rw[Cw h,Cw h'];rfl
theorem kK{Q:Prop}(h:Q:=by go_wp2_with fail;go_ret;exact⟨lA j.symm,rfl⟩):Q:=h
theorem NW(p q:List ByteArray)(a b:Option Us)(c d:Nat)(w:Ur)(hp:p.length<=1048576)(hq:q.length<=1048576)(h:aV w a p)(u:aV w b q):
  Cl 142 #[Uf a p.length c,Uf b q.length d] w λe w'=>e=Ui (Ud (aW p q))/\w'=w:=by
 go_enter func142,ntmps142;go_wp2_with fail;go_loop [11] (λi=>∃k:Nat,k<=p.length/\i=Ud (k:Int)/\k<=q.length/\aA (aW p q=aW (p.drop k) (q.drop k))) (λi=>p.length-(intOf i).toNat);case atStart=>exact⟨0,UB _,rfl,UB _,aC rfl⟩
 case round=>
  obtain⟨k,G,rfl,H,m⟩:=hrel;by_cases v:k<p.length
  .rcases h with h|⟨U,N,rfl,Y,z⟩
   .omega
   have x0:=z k v;have I:(0:Int)<=(k:Int):=VH _;have J:(k:Int)<(p.length:Int):=oM;by_cases r:k<q.length
   .rcases u with u|⟨V,X,rfl,Z,M⟩
    .omega
    have Q:=M k r;have K:(k:Int)<(q.length:Int):=oM;have A:decide ((q.length:Int)<=(k:Int))=false:=oS;have j:=aC<|NV v r;generalize g:gS p k=s;generalize o:gS q k=t;rw[g]at x0;rw[o]at Q;have j:aA (aW p q=if dD s t=0 then aW (p.drop (k+1)) (q.drop (k+1))else dD s t):=aC (by rw[m.out,j.out,g,o]);have E:=aC<|Wb s t w;generalize O:dD s t=x;rw[O]at E j;go_wp2_with fail;refine E.mono ?_;rintro e w'⟨rfl,rfl⟩;by_cases y:x=0
    .subst y;have j:aA (aW p q=aW (p.drop (k+1)) (q.drop (k+1))):=aC (by rw[j.out,if_pos rfl]);go_wp2_with fail;go_round;case rel=>exact⟨k+1,v,oN,r,j⟩
     case measure=>exact oE
    .have j:aA (aW p q=x):=aC (by rw[j.out,if_neg y]);have L:(x !=0)=true:=oU y;exact kK
   .have A:decide ((q.length:Int)<=(k:Int))=true:=oS;have j:aA (aW p q=1):=aC (by rw[m.out];exact RO v oM);exact kK
  .obtain rfl:k=p.length:=oM;by_cases r:p.length<q.length
   .have j:aA (aW p q= -1):=aC (by rw[m.out];exact RQ zL r);have A:decide ((p.length:Int)<(q.length:Int))=true:=oS;exact kK
   .have j:aA (aW p q=0):=aC (by rw[m.out];exact RP zL oM);have A:decide ((p.length:Int)<(q.length:Int))=false:=oS;exact kK
def dW(p:List ByteArray):Prop:=1<=p.length/\p.length<=8/\∀i,i<p.length->1<=(gS p i).size/\(gS p i).size<=40
noncomputable def yes(P:Prop):Bool:=@decide P (Classical.propDecidable P)
theorem aN{P:Prop}(h:P):yes P=true:=by unfold yes;exact @decide_eq_true _ (Classical.propDecidable P) h
theorem aJ{P:Prop}(h:¬P):yes P=false:=by unfold yes;exact @decide_eq_false _ (Classical.propDecidable P) h
theorem sM{P:Prop}:yes P=true↔P:=⟨λh=>by unfold yes at h;exact @of_decide_eq_true _ (Classical.propDecidable P) h,aN⟩
theorem cG{x y:Bool}(h:x=y):Ending.returned (Un x)=Ui (Un y):=by rw[h]
theorem gE{Q:Prop}(h:Q:=by go_wp2_with fail;go_ret;exact⟨cG m.symm,rfl⟩):Q:=h
theorem Mv(p:List ByteArray)(a:Option Us)(c:Nat)(w:Ur)(hp:p.length<=1048576)(h:aV w a p):
  Cl 74 #[Uf a p.length c] w λe w'=>e=Ui (Un (yes (dW p)))/\w'=w:=by
 go_enter func74,ntmps74;go_wp2_with fail;go_loop [3] (λi=>∃k:Nat,k<=p.length/\i=Ud (k:Int)/\aA (∀j,j<k->1<=(gS p j).size/\(gS p j).size<=40)) (λi=>p.length-(intOf i).toNat);case atStart=>exact⟨0,UB _,rfl,aC (λj hj=>oM)⟩
 case round=>
  obtain⟨k,M,rfl,y⟩:=hrel;by_cases v:k<p.length
  .rcases h with h|⟨A,U,rfl,E,b⟩
   .omega
   have x0:=b k v;have O:(0:Int)<=(k:Int):=VH _;have Q:(k:Int)<(p.length:Int):=oM;generalize o:gS p k=s;rw[o]at x0;have z:=aC o;by_cases r:(s.size:Int)<1
   .have m:aA (yes (dW p)=false):=aC (aJ (λh=>by have:=(h.2.2 k v).1;rw[z.out]at this;omega));exact gE
   .by_cases u:(40:Int)<(s.size:Int)
    .have m:aA (yes (dW p)=false):=aC (aJ (λh=>by have:=(h.2.2 k v).2;rw[z.out]at this;omega));exact gE
    .have m:aA (∀j,j<k+1->1<=(gS p j).size/\(gS p j).size<=40):=aC (λj hj=>by
      by_cases e:j=k
      .rw[e,z.out];omega
      .exact y j oM)
     go_wp2_with fail;go_round;case rel=>exact⟨k+1,v,oN,m⟩
     case measure=>exact oE
  .obtain rfl:k=p.length:=oM;have m:aA (yes (dW p)=decide (1<=p.length/\p.length<=8)):=aC (by
    by_cases q:1<=p.length/\p.length<=8
    .rw[aN ⟨q.1,q.2,y.out⟩,decide_eq_true q]
    .rw[aJ (λh=>q ⟨h.1,h.2.1⟩),decide_eq_false q])
   by_cases r:(1:Int)<=(p.length:Int)
   .by_cases u:(p.length:Int)<=8
    .have m:aA (yes (dW p)=true):=aC (by rw[m.out];exact decide_eq_true oM);exact gE
    .have m:aA (yes (dW p)=false):=aC (by rw[m.out];exact decide_eq_false oM);exact gE
   .have m:aA (yes (dW p)=false):=aC (by rw[m.out];exact decide_eq_false oM);exact gE
theorem Xk(p:List ByteArray)(a:Option Us)(c:Nat)(w:Ur)(hp:p.length<=1048576)(h:aV w a p):
  Cl 165 #[Uf a p.length c] w λe w'=>e=Ui (Un (yes (dW p)))/\w'=w:=by
 by_cases q:(p.length:Int)<1
 .have m:aA (yes (dW p)=false):=aC<|aJ (λh=>oH h.1);go_enter func165,ntmps165;exact gE
 .by_cases r:(8:Int)<(p.length:Int)
  .have m:aA (yes (dW p)=false):=aC<|aJ (λh=>oH h.2.1);go_enter func165,ntmps165;exact gE
  .go_enter func165,ntmps165;go_wp2_with fail;skip;go_loop [15] (λi=>∃k:Nat,k<=p.length/\i=Ud (k:Int)/\aA (∀j,j<k->1<=(gS p j).size/\(gS p j).size<=40)) (λi=>p.length-(intOf i).toNat);case atStart=>exact⟨0,UB _,rfl,aC (λj hj=>oM)⟩
   case round=>
    obtain⟨k,E,rfl,z⟩:=hrel;by_cases y:k<p.length
    .rcases h with h|⟨b,Q,rfl,A,o⟩
     .omega
     have x0:=o k y;have M:(0:Int)<=(k:Int):=VH _;have O:(k:Int)<(p.length:Int):=oM;generalize t:gS p k=s;rw[t]at x0;have g:=aC t;by_cases q:(s.size:Int)<1
     .have m:aA (yes (dW p)=false):=aC (aJ (λh=>by have:=(h.2.2 k y).1;rw[g.out]at this;omega));exact gE
     .by_cases r:(40:Int)<(s.size:Int)
      .have m:aA (yes (dW p)=false):=aC (aJ (λh=>by have:=(h.2.2 k y).2;rw[g.out]at this;omega));exact gE
      .have m:aA (∀j,j<k+1->1<=(gS p j).size/\(gS p j).size<=40):=aC (λj hj=>by
        by_cases e:j=k
        .rw[e,g.out];omega
        .exact z j oM)
       go_wp2_with fail;go_round;case rel=>exact⟨k+1,y,oN,m⟩
       case measure=>exact oE
    .obtain rfl:k=p.length:=oM;have m:aA (yes (dW p)=true):=aC<|aN ⟨oM,oM,z⟩;exact gE
open Go.Maps
def dT(v:aB):Option (DataW aB×List MemPlace):=match v with
 |Uf a n c=>Uq (.held (Uf a n c),[])
 |_=>Up
theorem Ns{d:DataW aB}{ps:List MemPlace}(h:dT v=Uq (d,ps)):d=.held v/\∃a n c,v=Uf a n c:=by
 unfold dT at h;split at h
 .simp at h;exact⟨h.1.symm,_,_,_,rfl⟩
 .cases h
theorem Nr{size:Nat}(h:w.ownsRow B e size v n xs):dT v=Uq (.held v,[]):=by
 rcases h.2 with⟨rfl,_⟩|⟨g,cap,j,rfl,_⟩<;>rfl
def kI(r:Int):Lit:=.int Uh r
def eS{α:Type}(G:Int->α)(r:Int)(v:α)(x:Int):α:=if x=r then v else G x
theorem dM{α:Type}(G:Int->α)(r:Int)(v:α):eS G r v r=v:=if_pos rfl
theorem cQ{α:Type}(G:Int->α)(v:α)(h:x≠r):eS G r v x=G x:=if_neg h
theorem qB(h:x≠r):kI x≠kI r:=λe=>h (by unfold kI at e;injection e)
def eW(l:List (Int×Int)):List aB:=l.flatMap λp=>[Ud p.1,Ud p.2]
theorem sX(l:List (Int×Int))(p:Int×Int):eW (l++[p])=eW l++[Ud p.1,Ud p.2]:=by simp[eW]
structure bP(w:Ur)(bm n:Nat)(D:DataW aB)(G:Int->aB)(L:Int->List (Int×Int)):Prop where
 own:w.ownsMap prog 3 dT bm n D
 at':∀r,D.atKey (kI r) (.held Ue)=.held (G r)
 has':∀r,Maps.has D (kI r)= !(L r).isEmpty
 rows:∀r,w.ownsRow (bm+1) 225 2 (G r) (L r).length (eW (L r))
 apart:∀r r' g,(G r).ownBlock=Uq g->(G r').ownBlock=Uq g->r=r'
theorem bP.bw{D:DataW aB}{G:Int->aB}(h:bP w bm n D G L)(hb:Bl w w1):bP w1 bm n D G L:=
 ⟨h.own.kept ⟨hb.os,hb.tape,hb.output,hb.size,λk hk _=>hb.block k hk⟩ (by simp:Uq bm≠Up),h.at',h.has',λr=>Zq (h.rows r) hb (λk hk=>((h.rows r).lt k hk).2),h.apart⟩
theorem qO{Q:Prop}(h:Q:=by subst e;rw[dM,atKey_put_same h.own.isMap (show WideAt.IsKeyLit (kI x)from trivial)]):Q:=h
theorem bP.step{w3:Ur}{D:DataW aB}{G:Int->aB}{v':aB}{f t:Int}(h:bP w bm n D G L)
  (hb:Bl w w1) (hown:w2.ownsRow (bm+1) 225 2 v' ((L r).length+1) (eW (L r)++[Ud f,Ud t]))
  (hgr:w1.grownBy w2 (G r).ownBlock) (hloc:v'.ownBlock=(G r).ownBlock\/v'.ownBlock=Uq w1.1.size)
  (hD:w3.ownsMap prog 3 dT bm (n+1) (D.put (kI r) (.held v'))) (hgr3:w2.grownBy w3 (Uq bm)):
  bP w3 bm (n+1) (D.put (kI r) (.held v')) (eS G r v') (eS L r (L r++[(f,t)])):=by
 have M:=h.bw hb;have A:∀(w:Ur) (v:aB) (m:Nat) (E:List aB),w.ownsRow (bm+1) 225 2 v m E->v.ownBlock=Up\/v.ownBlock≠Uq bm:=by
  intro w v m E Q;cases e:v.ownBlock with
  |none=>exact .inl rfl
  |some g=>exact .inr (λe2=>by have:=(Q.lt g e).1;injection e2 with e2;omega)
 refine⟨hD,λx=>?_,λx=>?_,λx=>?_,?_⟩
 .by_cases e:x=r
  .exact qO
  .rw[cQ G v' e,atKey_put_other (qB e)];exact h.at' x
 .by_cases e:x=r
  .subst e;rw[dM,has_put_same h.own.isMap (show WideAt.IsKeyLit (kI x)from trivial)];simp
  .rw[cQ L _ e,has_put_other (qB e)];exact h.has' x
 .by_cases e:x=r
  .subst e;rw[dM,dM,sX,UM];exact hown.kept hgr3<|A _ _ _ _ hown
  .rw[cQ G v' e,cQ L _ e];have j:=M.rows x;have O:(G x).ownBlock=Up\/(G x).ownBlock≠(G r).ownBlock:=by
    cases e1:(G x).ownBlock with
    |none=>exact .inl rfl
    |some g=>exact .inr (λe2=>e (h.apart x r g e1 e2.symm))
   have p:=j.kept hgr O;exact p.kept hgr3<|A _ _ _ _ p
 .intro x y g j q;have s:∀z,z≠r->∀g,(G z).ownBlock=Uq g->v'.ownBlock=Uq g->False:=by
   intro z U g b u;rcases hloc with i|i
   .exact U<|h.apart z r g b (i▸u)
   .rw[i]at u;have V:=((h.rows z).lt g b).2;have Y:=hb.size;injection u with u;omega
  by_cases o:x=r
  .subst o;rw[dM]at j;by_cases k:y=x
   .exact k.symm
   .rw[cQ G v' k]at q;exact(s y k g q j).elim
  .rw[cQ G v' o]at j;by_cases k:y=r
   .subst k;rw[dM]at q;exact(s x o g j q).elim
   .rw[cQ G v' k]at q;exact h.apart x y g j q
def Lk(R F T:Nat->Int):Nat->Int->List (Int×Int)
 |0=>λ_=>[]
 |k+1=>eS (Lk R F T k) (R k) (Lk R F T k (R k)++[(F k,T k)])
theorem jJ(R F T:Nat->Int)(k:Nat):∀r,(Lk R F T k r).length<=k:=by
 induction k with
 |zero=>intro r;simp[Lk]
 |succ k ih=>
  intro r;by_cases e:r=R k
  .subst e;simp only[Lk];rw[dM];have:=ih (R k);simp;omega
  .simp only[Lk];rw[cQ _ _ e];have:=ih r;omega
theorem WF(w:Ur):(zeroValue 183).run prog w=.ok Ue w:=oK
theorem eX(h0: -9223372036854775808<=r)(h1:r<=9223372036854775807):(Lit.int Uh r).wf=true:=by
 have j:IntKind.i64.min= -9223372036854775808:=oD;have k:IntKind.i64.max=9223372036854775807:=oD;simp only[Lit.wf,j,k,Bool.and_eq_true,decide_eq_true_iff];exact⟨h0,h1⟩
theorem wD{Q:Prop}(h:Q:=by
 obtain⟨v,ps,k,m⟩:=h.own.lookup (int_keyed underlying3) underlying109 (WF w) (zd:=.held Ue) (zp:=[]) rfl (keyOf_int_mk underlying3 hr);have:=h.at' r;obtain⟨j,_⟩:=Ns m;unfold kI at this;rw[this]at j;have e:v=G r:=by injection j with j;exact j.symm
 rw[k,e]):Q:=h
theorem bP.look{D:DataW aB}{G:Int->aB}(h:bP w bm n D G L)(r:Int)(hr:(Lit.int Uh r).wf=true):
  (Instr.lookup 109 (.map (Uq bm)) (Ud r) false).run prog w=.ok (G r) w:=by
 exact wD
theorem Tryz.infoSpan:(prog.info? 225).map (λi=>(i.zero,i.size,i.bytes))=Uq (Uq (Uo #[Ud 0,Ud 0]),2,16):=oK
theorem vT{Q:Prop}(h:Q:=by obtain⟨o,k,q⟩:=Option.map_eq_some_iff.1 hd;obtain⟨u,m,r⟩:=Option.map_eq_some_iff.1 hd';exact wpAnyH_ready hr oP (AllReadyH.cons k (h o k q) (AllReadyH.cons m (h' u m r) AllReadyH.nil))):Q:=h
theorem QqB{ops:Array Oper}{Q:Exit->Act->Ur->Prop}{md:Region.Mode}{S:Ur->Prop}{d d':Option Tmp}{listed:Array Bool}{a:Act}
  (hd:ops[i]?.map (λo=>o.dst)=Uq d) (hd':ops[j]?.map (λo=>o.dst)=Uq d') (hr:Region.ready md ops listed=[i,j])
  (h:∀o,ops[i]? =Uq o->o.dst=d->∀K':Act->Ur->Prop,Shut (∀a w,S w->(S w->wpAnyH P md ops Q S fuel (listed.setIfInBounds i true) a w)->K' a w)->if Region.wanted o (yielded ops a.tmps)=true then Oper.wp P o a w K' Q else K' (a.put o.dst undef) w)
  (h':∀o,ops[j]? =Uq o->o.dst=d'->∀K':Act->Ur->Prop,Shut (∀a w,S w->(S w->wpAnyH P md ops Q S fuel (listed.setIfInBounds j true) a w)->K' a w)->if Region.wanted o (yielded ops a.tmps)=true then Oper.wp P o a w K' Q else K' (a.put o.dst undef) w):
  wpAnyH P md ops Q S (fuel+1) listed a w:=by
 exact vT
theorem Oc{o:Oper}{a:Act}{K:Act->Ur->Prop}{Q:Exit->Act->Ur->Prop}(s x:Operand)(t:TypeId)
  (ho:o.op=.call {callee:=.builtin .append,args:=#[s,x],argTypes:=#[t,t]})
  (base:Nat) (e:TypeId) (i:TypeInfo) (z:aB) (size bytes:Nat) (ht:P.underlying t=Uq (.slice e)) (hi:P.info? e=Uq i) (hz:i.zero=Uq z)
  (hsize:i.size=size) (hby:i.bytes=bytes) (hzs:z.cells.size=size) (hsz:0<size)
  (v:aB) (n:Nat) (xs:List aB) (hs:a.eval s=v) (hown:w.ownsRow base e size v n xs)
  (ad:Us) (m c:Nat) (news:List aB) (hx:a.eval x=Uf (Uq ad) m c) (hl:news.length=m*size) (hnews:∀j u,news[j]? =Uq u->w.cell? (ad.add j)=Uq u) (h1:∀u∈news,u.oneCell'=true)
  (h63:n+m<=maxLen) (hbytes:(n+m)*bytes<=140737488355328) (hbase:base<=w.1.size)
  (h:∀v' w',w'.ownsRow base e size v' (n+m) (xs++news)->w.grownBy w' v.ownBlock->(v'.ownBlock=v.ownBlock\/v'.ownBlock=Uq w.1.size)->K (a.put o.dst v') w'):o.wp P a w K Q:=by
 have⟨v',w',y,k,q,g,r⟩:=run_append_own_at (P:=P) w base t o.type e i z size bytes ht hi hz hsize hby hzs hsz v n xs hown ad m c news hl hnews h1 h63 hbytes hbase;unfold Oper.wp execOp;simp only[ho,resolve,invoke,builtin,Sem.run_bind,Sem.run_pure,Result.andThen_ok,List.map_toArray,UQ,List.map_nil,hs,hx,y];exact h v' w' k q r
theorem BH{H:Type}(w:Ur){o:Oper}{a:Act}{K:Act->Ur->Prop}{Q:Exit->Act->Ur->Prop}
  (m x v:Operand) (t:TypeId) (hop:o.op=Op.mapUpdate t m x v)
  (k e:TypeId) (Kd:Keyed P k) (ht:P.underlying t=Uq (.map k e)) (R:aB->Option (DataW H×List MemPlace)) (b n:Nat) (D:DataW H)
  (hm:a.eval m=.map (Uq b)) (hown:w.ownsMap P k R b n D) (hn:n<maxLen) (key val:aB) (kl:Lit) (hx:a.eval x=key) (hv:a.eval v=val) (hkey:keyOf P k key=Uq kl)
  (d:DataW H) (ps:List MemPlace) (hval:R val=Uq (d,ps))
  (hK:∀w',w'.ownsMap P k R b (n+1) (D.put kl d)->w.grownBy w' (Uq b)->K (a.put o.dst undef) w'):o.wp P a w K Q:=by
 have⟨w',j,r1,r2⟩:=hown.update Kd ht hn hkey hval;unfold Oper.wp;simp[execOp,hop,hm,hx,hv,j,Result.andThen];exact hK _ r1 r2
theorem Dm(w:Ur):bP (w.alloc (.map #[] 0)) w.1.size 0 (.map []) (λ_=>Ue) (λ_=>[]):=
 ⟨Vv w _ _ _,λr=>rfl,λr=>rfl,λr=>Vw _ _ _ _,λr r' g h _=>by cases h⟩
theorem Te{x y z:aB}(hg:w.grownBy w' row)(h0:w.cell? (Ub B)=Uq x)(h1:w.cell? (Ua B 1)=Uq y)(h2:w.cell? (Ua B 2)=Uq z)(hne:Uq B≠row):
  w'.cell? (Ub B)=Uq x/\w'.cell? (Ua B 1)=Uq y/\w'.cell? (Ua B 2)=Uq z:=⟨hg.cell h0 hne,hg.cell h1 hne,hg.cell h2 hne⟩
theorem Pg{Q:Prop}(h:Q:=by
 refine m.out _ _ ⟨q.1,q.2.1,q.2.2⟩<|λqh=>?_;clear m K;try simp only[zP]
 refine cZ 13 ?_;intro K m;rw[if_pos (by rfl)];refine Oc _ _ _ (by rfl) (w1.1.size+1) 225 i0 _ 2 16 underlying183 hi Hq Hr Hs rfl oD (G (R k)) (Lk R F T k (R k)).length _ (by rfl) C (Ua (wr.1.size+1) 0) 1 1 [Ud (F k),Ud (T k)] (by rfl) (by rfl) Hc (by intro u L;simp at L;rcases L with rfl|rfl<;>rfl) oL oM (by rw[Hd];omega) ?_;intro v' w3 M v H;have r:=Te v q.1 q.2.1 q.2.2 Hp;refine m.out _ _ ⟨r.1,r.2.1,r.2.2⟩<|λqh=>?_;clear m K;try simp only[zP]
 refine cZ 14 ?_;intro K m;rw[if_pos (by rfl)];refine BH _ _ _ _ _ (by rfl) 3 183 (int_keyed underlying3) underlying109 dT w1.1.size k D (by rfl) (Hb.kept v He) oL (Ud (R k)) v' (kI (R k)) (by rfl) (by rfl) (keyOf_int_mk underlying3 Hg) (.held v') [] (Nr M) ?_;intro w4 J y;have g:=Te y r.1 r.2.1 r.2.2 oS;refine m.out _ _ ⟨g.1,g.2.1,g.2.2⟩<|λqh=>?_;clear m K;try simp only[zP]
 refine zD ?_;have Q:=aC<|Ha.step (v':=v') B M v H J y;have HZ:=aC<|Uz v.size y.size;have Hi:=aC<|((X.trans (B.mono oM)).grown v oM (λk s=>oH ((C.lt k s).1))).grown y (oH v.size) (λk s=>oI s);clear qh q r g M v H J y;go_wp2_with fail;go_roundw;case rel=>exact⟨k+1,_,_,O,oN,Q,Hi,oH HZ⟩
 case measure=>exact oE):Q:=h
theorem Qr(a:Option Us)(n c:Nat)(R F T:Nat->Int)(w:Ur)(hn:n<=1048576)(h:bI w a n R F T)(hok:eQ R F T n=true):
  Cl 131 #[Uo #[Uf a n c]] w λe w'=>∃bm D G,e=Ui (Ul #[.map (Uq bm),Un true])/\bP w' bm n D G (Lk R F T n)/\w.1.size<=bm/\Bl w w':=by
 have H0:=@run_makeMap prog;have Hf:=(dL.1 hok);have⟨i0,hi,Hq,Hr,Hs⟩:=info_parts Tryz.infoSpan;have B0:Bl w (w.alloc (Uj #[Uf a n c] 26)):=zO _ _;have Hl:=aC Hf;go_enter func131,ntmps131;go_wp2_with fail;refine(Si a n c R F T _ hn (h.bw B0)).mono ?_;rintro e w1⟨rfl,P⟩;rw[hok];have Ht:w1.cell? (Ub w.1.size)=Uq (Uf a n c):=by rw[(jG P).1 _ _ oP];simp
 have N:=aE B0 P;have z1:w.1.size<w1.1.size:=by have:=P.size;simp at this;omega
 rcases h with h|⟨b,off,rfl,hb,Z⟩
 .subst h;have Hh:=aC N;go_wp2_with fail;refine wp_loop_rounds 1 ?_;rw[rounds_succ];go_wp2_with fail;go_ret2;exact⟨w1.1.size,_,_,rfl,Dm w1,oM,(Hh.alloc oM _)⟩
 have Hh:=aC N;go_wp2_with fail;go_loopw [14] (λi wr=>∃(k:Nat) (D:DataW aB) (G:Int->aB),k<=n/\i=Ud k/\bP wr w1.1.size k D G (Lk R F T k)/\Bl w wr/\w1.1.size<wr.1.size) (λi _=>n-(intOf i).toNat);case atStart=>exact⟨0,_,_,UB _,rfl,Dm w1,Hh.alloc oM _,oP⟩
 case round=>
  obtain⟨k,D,G,s,rfl,t,E,H1⟩:=hrel;by_cases O:k<n
  .have Hu:wr.cell? (Ua b (off+k*3))=Uq (Ud (R k)):=(E.cell (p:=(Ua b _)) hb).trans (Z k O).1;have Hj:wr.cell? (Ua b (off+k*3+1))=Uq (Ud (F k)):=(E.cell (p:=(Ua b _)) hb).trans (Z k O).2.1;have Hk:wr.cell? (Ua b (off+k*3+2))=Uq (Ud (T k)):=(E.cell (p:=(Ua b _)) hb).trans (Z k O).2.2;have Hw:=qH.1<|(Hl.1 k O).1;have Hg:(Lit.int Uh (R k)).wf=true:=eX oM oM;have Hz:=Hl.2;have hL:=jJ R F T k<|R k;generalize A:wr.alloc (Uj #[Ud (R k),Ud (F k),Ud (T k)] 103)=z;have zW:z.1.size=wr.1.size+1:=A▸oP;have bW:Bl wr z:=A▸zO _ _;have r0:z.cell? (Ub wr.1.size)=Uq (Ud (R k)):=A▸oP;have r1:z.cell? (Ua wr.1.size 1)=Uq (Ud (F k)):=A▸oP;have r2:z.cell? (Ua wr.1.size 2)=Uq (Ud (T k)):=A▸oP;have He:Uq w1.1.size≠(G (R k)).ownBlock:=λe=>by have:=((t.rows (R k)).lt _ e.symm).1;omega
   have Hp:Uq wr.1.size≠(G (R k)).ownBlock:=λe=>by have:=((t.rows (R k)).lt _ e.symm).2;omega
   have g1:=t.bw<|bW.drew;have Hx:=g1.look (R k) Hg;generalize Y:z.alloc (Uj #[Ud (F k),Ud (T k)] 225)=U;have V:Bl z U:=Y▸zO _ _;have Hd:U.drew.1.size=wr.1.size+2:=(by show U.1.size=_;rw[<-Y];simp;omega);have b2:Bl wr U.drew:=(bW.trans (V.mono oM)).drew;have W:=t.bw b2;have Hy:=W.look (R k) Hg;have Hc:aA (∀j u,[Value.int Uh (F k),Ud (T k)][j]? =Uq u->U.drew.cell? (((Ua (wr.1.size+1) 0):Us).add j)=Uq u):=(by rw[<-Y,<-zW];exact cell_two_new _ _ _ _);have C:=aC<|W.rows (R k);have Hb:=aC W.own;have Ha:=aC t;have B:=aC b2;have X:=aC E;have Hm:=(V.cell (p:=(Ub wr.1.size)) (show wr.1.size<z.1.size by omega)).trans r0;have Hn:=(V.cell (p:=(Ua wr.1.size 1)) (show wr.1.size<z.1.size by omega)).trans r1;have Ho:=(V.cell (p:=(Ua wr.1.size 2)) (show wr.1.size<z.1.size by omega)).trans r2;go_wp2_with fail;refine zR (S:=λw'=>w'.cell? (Ub wr.1.size)=Uq (Ud (R k))/\w'.cell? (Ua wr.1.size 1)=Uq (Ud (F k))/\w'.cell? (Ua wr.1.size 2)=Uq (Ud (T k))) ⟨r0,r1,r2⟩<|λqh=>?_;refine tY 0 18 ?_;refine tY 2 20 ?_;refine tY 4 22 ?_;refine tY 7 25 ?_;refine tY 9 27 ?_;refine tZ 11 29 ?_;refine rZ 6 12 ?_ ?_;all_goals intro K m;go_simp
   .refine bZ m ⟨r0,r1,r2⟩<|λqh=>?_;refine cZ 12 ?_;intro K m;go_simp;try rw[Y]
    have q:=And.intro Hm<|And.intro Hn Ho;exact Pg
   .try rw[Y]
    have q:=And.intro Hm<|And.intro Hn Ho;refine bZ m ⟨q.1,q.2.1,q.2.2⟩<|λqh=>?_;refine cZ 6 ?_;intro K m;go_simp;exact Pg
  .obtain rfl:k=n:=oM;have Q:=aC t;have X:=aC E;go_wp2_with fail;go_ret2;exact⟨w1.1.size,D,G,rfl,Q,oM,X⟩
def bQ(R T:Nat->Int)(rep:Int):Nat->Int
 |0=>0
 |k+1=>if R k=rep/\bQ R T rep k<T k then T k else bQ R T rep k
def jI(l:List (Int×Int)):Int:=match l.getLast? with|none=>0|some p=>p.2
theorem Ae(l:List (Int×Int))(p:Int×Int):jI (l++[p])=p.2:=by simp[jI]
theorem TI:jI []=0:=rfl
theorem B9{R F T:Nat->Int}:∀k:Nat,fQ R F T k->(∀r,Lk R F T k r≠[]->0<k/\r<=R (k-1))/\(0<k->jI (Lk R F T k (R (k-1)))=T (k-1))/\(∀r,bQ R T r k=jI (Lk R F T k r))/\(∀r,0<=jI (Lk R F T k r)/\jI (Lk R F T k r)<=1000000000)
 |0,_=>⟨λr h=>absurd rfl h,λh=>absurd h oM,λr=>rfl,λr=>by simp[Lk,jI]⟩
 |k+1,h=>by
  have g:fQ R F T k:=λi hi=>h i oM;have⟨y,b,z,p⟩:=B9 k g;have A:=qH.1 (h k oM).1;have u:0<k->(R (k-1)<R k\/(R (k-1)=R k/\T (k-1)+1<F k)):=λj=>by
   have:=(h k oM).2 j;unfold fT at this;exact of_decide_eq_true this
  have q:∀r,Lk R F T (k+1) r=eS (Lk R F T k) (R k) (Lk R F T k (R k)++[(F k,T k)]) r:=λr=>rfl;have o:jI (Lk R F T k (R k))<T k:=by
   by_cases v:Lk R F T k (R k)=[]
   .rw[v,TI];omega
   .have⟨j,t⟩:=y (R k) v;rcases u j with m|⟨m,s⟩
    .omega
    .rw[<-m,b j];omega
  refine⟨λr hr=>?_,λ_=>?_,λr=>?_,λr=>?_⟩
  .refine⟨oM,?_⟩;rw[UC];rw[q]at hr;by_cases e:r=R k
   .omega
   .rw[cQ _ _ e]at hr;have⟨j,t⟩:=y r hr;rcases u j with m|⟨m,_⟩<;>omega
  .rw[UC,q,dM,Ae]
  .rw[q];by_cases e:r=R k
   .subst e;rw[dM,Ae];show(if R k=R k/\bQ R T (R k) k<T k then T k else bQ R T (R k) k)=T k;rw[if_pos ⟨rfl,by rw[z];exact o⟩]
   .rw[cQ _ _ e,<-z r];show(if R k=r/\bQ R T r k<T k then T k else bQ R T r k)=bQ R T r k;rw[if_neg (λm=>e m.1.symm)]
  .rw[q];by_cases e:r=R k
   .subst e;rw[dM,Ae];show 0<=T k/\T k<=1000000000;omega
   .rw[cQ _ _ e];exact p r
def bL(l:List (Int×Int)):Prop:=l.Pairwise (λp q=>p.2+1<q.1)/\∀p∈l,1<=p.1/\p.1<=p.2/\p.2<=1000000000
theorem kZ{R F T:Nat->Int}:∀k:Nat,fQ R F T k->∀r,bL (Lk R F T k r)/\∀p∈Lk R F T k r,p.2<=jI (Lk R F T k r)
 |0,_=>λr=>⟨⟨List.Pairwise.nil,λp j=>by cases j⟩,λp j=>by cases j⟩
 |k+1,h=>by
  have v:fQ R F T k:=λi hi=>h i oM;have z:=kZ k v;have⟨t,o,Q,U⟩:=B9 k v;have O:=qH.1 (h k oM).1;have g:0<k->(R (k-1)<R k\/(R (k-1)=R k/\T (k-1)+1<F k)):=λm=>by
   have:=(h k oM).2 m;unfold fT at this;exact of_decide_eq_true this
  intro r;show bL (eS (Lk R F T k) (R k) (Lk R F T k (R k)++[(F k,T k)]) r)/\∀p∈eS (Lk R F T k) (R k) (Lk R F T k (R k)++[(F k,T k)]) r,p.2<=jI (eS (Lk R F T k) (R k) (Lk R F T k (R k)++[(F k,T k)]) r);by_cases e:r=R k
  .subst e;rw[dM];have⟨⟨b,s⟩,A⟩:=z (R k);have y:∀p∈Lk R F T k (R k),p.2+1<F k:=by
    intro p j;have⟨m,M⟩:=t (R k) (UW j);have:=A p j;rcases g m with u|⟨u,E⟩
    .omega
    .rw[<-u,o m]at this;omega
   refine⟨⟨List.pairwise_append.2 ⟨b,UX _ _,λp j q hq=>?_⟩,λp j=>?_⟩,λp j=>?_⟩
   .rw[UY]at hq;subst hq;exact y p j
   .rcases List.mem_append.1 j with j|j
    .exact s p j
    .rw[UY]at j;subst j;exact⟨oM,oM,oM⟩
   .rw[Ae];rcases List.mem_append.1 j with j|j
    .have:=y p j;show p.2<=T k;omega
    .rw[UY]at j;subst j;exact VI _
  .rw[cQ _ _ e];exact z r
def SS(w:Ur)(a:Option Us)(n:Nat)(f t:Nat->Int):Prop:=
 n=0\/∃b off,a=Uq (Ua b off)/\b<w.1.size/\∀i,i<n->w.cell? (Ua b (off+i*2))=Uq (Ud (f i))/\w.cell? (Ua b (off+i*2+1))=Uq (Ud (t i))
theorem Fx(h:w.ownsRow B 225 2 (Uf (Uc g) n cap) n (eW l))(hl:l.length=n):
  SS w (Uc g) n (λi=>(l.getD i (0,0)).1) (λi=>(l.getD i (0,0)).2):=by
 refine .inr ⟨g,0,rfl,(h.lt g rfl).2,λi hi=>?_⟩;have j:∀(l:List (Int×Int)) (i:Nat),i<l.length->(eW l)[i*2]? =Uq (Ud (l.getD i (0,0)).1)/\(eW l)[i*2+1]? =Uq (Ud (l.getD i (0,0)).2):=by
  intro l;induction l with
  |nil=>intro i hi;simp at hi
  |cons a l ih=>
   intro i hi;cases i with
   |zero=>simp[eW]
   |succ i=>
    have:=ih i (oU hi);have e:eW (a::l)=Ud a.1::Ud a.2::eW l:=(by simp[eW]);rw[e,show(i+1)*2=i*2+1+1 from by omega];simpa using this
 rw[UA,h.cellAt _ oM,h.cellAt _ oM];exact j l i oM
theorem I8(h:bL l)(hij:i<j)(hj:j<l.length):(l.getD i (0,0)).2+1<(l.getD j (0,0)).1/\(l.getD i (0,0)).1<=(l.getD i (0,0)).2/\(l.getD j (0,0)).1<=(l.getD j (0,0)).2:=by
 have k:l.getD i (0,0)=l[i]:=by simp[UL,show i<l.length by omega]
 have m:l.getD j (0,0)=l[j]:=by simp[UL,hj]
 rw[k,m];exact⟨List.pairwise_iff_getElem.1 h.1 i j oM hj hij,(h.2 _ (UZ _)).2.1,(h.2 _ (UZ _)).2.1⟩
theorem PE(a:Option Us)(n c:Nat)(R F T:Nat->Int)(w:Ur)(hn:n<=1048576)(h:bI w a n R F T)(hok:eQ R F T n=false):
  Cl 131 #[Uo #[Uf a n c]] w (Rt w (Ul #[.map Up,Un false])):=by
 have j:Bl w (w.alloc (Uj #[Uf a n c] 26)):=zO _ _;go_enter func131,ntmps131;go_wp2_with fail;refine(Si a n c R F T _ hn (h.bw j)).mono ?_;rintro e w1⟨rfl,k⟩;rw[hok];have m:=aC<|aE j k;go_wp2_with fail;go_ret2;exact⟨rfl,m⟩
theorem RY(h:w.ownsRow B 225 2 (Uf (Uc g) n cap) n (eW l))(hl:l.length=n)(h0:0<n):
  w.cell? ⟨g,(n-1)*2+1,Up⟩=Uq (Ud (jI l)):=by
 rw[h.cellAt _ oM];obtain⟨j,p,rfl⟩:∃j p,l=j++[p]:=⟨l.dropLast,l.getLast (by intro e;rw[e]at hl;simp at hl;omega),(List.dropLast_concat_getLast _).symm⟩;have k:(eW j).length=j.length*2:=by
  clear h hl;induction j with
  |nil=>rfl
  |cons a l ih=>simp[eW]at*;omega
 simp at hl;rw[Ae,sX,Va (by rw[k];omega),k,show(n-1)*2+1-j.length*2=1 from by omega];rfl
theorem QX{D:DataW aB}{G:Int->aB}(h:bP w bm n D G L)(r:Int)(hr:(Lit.int Uh r).wf=true)(hl:(L r).length<=1000000):
  Cl 190 #[.map (Uq bm),Ud r] w λe w'=>e=Ui (Ud (jI (L r)))/\w'=w:=by
 have v:=h.look r hr;have j:=h.rows r;rcases j.2 with⟨e,y⟩|⟨g,cap,E,e,z,i,s,t,o,p⟩
 .have k:L r=[]:=UO y;have q:aA (jI (L r)=0):=by rw[k];rfl
  rw[e]at v;go_enter func190,ntmps190;go_wp2_with fail;go_ret;exact⟨zN q.symm,rfl⟩
 .rw[e]at v j;unfold maxLen at t;by_cases u:(L r).length=0
  .have k:L r=[]:=UO u;have q:aA (jI (L r)=0):=(by rw[k];rfl);rw[u]at v;go_enter func190,ntmps190;go_wp2_with fail;go_ret;exact⟨zN q.symm,rfl⟩
  .have U:=RY j rfl oM;generalize b:(L r).length=m at*;have A:=aC b;have M:((m:Int)-1).toNat=m-1:=oM;have O:(1:Int)<=(m:Int):=oM;have Q:((m:Int)==0)=false:=oS;go_enter func190,ntmps190;go_wp2_with fail;go_ret;exact⟨rfl,rfl⟩
def bN(x y:Int):Int:=if x<y then -1 else if y<x then 1 else 0
theorem lK{Q:Prop}(h:Q:=by go_enter func143,ntmps143;go_wp2;go_ret;exact⟨zN j.symm,rfl⟩):Q:=h
theorem sG(x y:Int)(w:Ur):Cl 143 #[Ud x,Ud y] w λe w'=>e=Ui (Ud (bN x y))/\w'=w:=by
 by_cases k:x<y
 .have j:aA (bN x y= -1):=if_pos k;exact lK
 .by_cases m:y<x
  .have j:aA (bN x y=1):=(by unfold aA bN;rw[if_neg k,if_pos m]);exact lK
  .have j:aA (bN x y=0):=(by unfold aA bN;rw[if_neg k,if_neg m]);exact lK
theorem Sj(f t q:Int)(w:Ur):Cl 221 #[Uo #[Ud f,Ud t],Ud q] w (Rt w (Ud (bN t q))):=by
 go_enter func221,ntmps221;go_wp2_with fail;refine(sG t q _).mono ?_;rintro e w1⟨rfl,rfl⟩;go_wp2_with fail;go_ret;exact⟨rfl,zO _ _⟩
theorem ON(a:Option Us)(n c:Nat)(f t:Nat->Int)(q:Int)(w:Ur)(hn:n<=1000000)(h:SS w a n f t)(hm:∀i j,i<j->j<n->t i<t j):
  Cl 220 #[Uf a n c,Ud q,.func (.func 221) #[] #[]] w λe w'=>∃(i:Nat) (b:Bool),e=Ui (Ul #[Ud i,Un b])/\i<=n/\(∀j,j<i->t j<q)/\(∀j,i<=j->j<n->q<=t j)/\Bl w w':=by
 go_enter func220,ntmps220;go_wp2_with fail;go_loopw [9,10] (λvi vj wr=>∃i j:Nat,i<=j/\j<=n/\vi=Ud i/\vj=Ud j/\(∀k,k<i->t k<q)/\(∀k,j<=k->k<n->q<=t k)/\Bl w wr) (λvi vj _=>(intOf vj).toNat-(intOf vi).toNat);case atStart=>exact⟨0,n,UB _,Ux _,rfl,rfl,λk hk=>oM,λk h1 h2=>oM,zI⟩
 case round=>
  obtain⟨i,j,L,I,rfl,rfl,M,E,r⟩:=hrel;have Q:=aC M;have O:=aC E;have V:=aC hm;have z:=aC r;rcases h with h|⟨b,off,rfl,A,u⟩
  .have G:i=0:=oM;have H:j=0:=oM;subst h G H;clear M E r hm;go_wp2_with fail;go_ret2;exact⟨0,false,rfl,oM,λk hk=>oM,λk _ hk=>oM,z⟩
  by_cases X:i<j
  .obtain⟨m,J⟩:∃m:Nat,m=(i+j)/2:=⟨_,rfl⟩;have Y:((i:Int)+(j:Int))/2=(m:Int):=oM;have o:=(r.cell (p:=(Ua b (off+m*2))) A).trans (u m oM).1;have s:=(r.cell (p:=(Ua b (off+m*2+1))) A).trans (u m oM).2;have B:i<=m:=oM;have C:m<j:=oM;clear M E r hm u J;go_wp2_with fail;refine(Sj (f m) (t m) q _).mono ?_;rintro e K⟨rfl,v⟩;have g:=aC<|aE z v;clear v;by_cases y:t m<q;rw[show bN (t m) q= -1 from if_pos y];have U:aA (∀k,k<m+1->t k<q):=λk hk=>by
    by_cases e:k=m
    .subst e;exact y
    .have:=V k m oM oM;omega
   rotate_left;have Z:0<=bN (t m) q:=(by unfold bN;rw[if_neg y];split<;>omega);generalize bN (t m) q=cv at Z;have U:aA (∀k,m<=k->k<n->q<=t k):=λk h1 h2=>by
    by_cases e:k=m
    .subst e;omega
    .have:=V m k oM oM;omega
   rotate_left;all_goals clear o s y Y;go_wp2_with fail;go_roundw;case measure=>exact oE
   .exact⟨m+1,j,oM,I,oN,rfl,U,O,g⟩
   .exact⟨i,m,oM,oM,rfl,rfl,Q,U,g⟩
  .obtain rfl:i=j:=oM;clear M E hm;by_cases N:i<n
   .have o:=(r.cell (p:=(Ua b (off+i*2))) A).trans (u i oM).1;have s:=(r.cell (p:=(Ua b (off+i*2+1))) A).trans (u i oM).2;clear u r;go_wp2_with fail;refine(Sj (f i) (t i) q _).mono ?_;rintro e K⟨rfl,v⟩;have g:=aC<|aE z v;clear v o s;generalize bN (t i) q=cv;go_wp2_with fail;go_ret2;exact⟨i,cv==0,rfl,oM,Q,O,g⟩
   .clear u r;go_wp2_with fail;go_ret2;exact⟨i,false,rfl,oM,Q,O,z⟩
def gQ(l:List (Int×Int))(f t:Int):Bool:=l.any λp=>decide (p.1<=f/\t<=p.2)
theorem FL(h:bL l)(f t:Int)(i:Nat)(hi:i<=l.length)(hlo:∀j,j<i->(l.getD j (0,0)).2<t)(hhi:∀j,i<=j->j<l.length->t<=(l.getD j (0,0)).2):
  gQ l f t=(decide (i<l.length)&&decide ((l.getD i (0,0)).1<=f)):=by
 rw[Bool.eq_iff_iff];simp only[gQ,List.any_eq_true,decide_eq_true_iff,Bool.and_eq_true];constructor
 .rintro⟨p,y,k,r⟩;obtain⟨j,u,rfl⟩:=List.getElem_of_mem y;have m:l.getD j (0,0)=l[j]:=by simp[UL,u]
  have z:i<=j:=by
   by_cases v:j<i
   .have:=hlo j v;rw[m]at this;omega
   .omega
  refine⟨oM,?_⟩;by_cases e:i=j
  .subst e;rw[m];exact k
  .have:=I8 h (show i<j by omega) u;rw[m]at this;omega
 .rintro⟨k,r⟩;have q:l.getD i (0,0)=l[i]:=by simp[UL,k]
  refine⟨l[i],UZ _,?_,?_⟩
  .rw[<-q];exact r
  .rw[<-q];exact hhi i zL k
def sY(w:Ur)(bm:Nat)(r:Int)(v:aB)(l:List (Int×Int)):Prop:=∀w',Bl w w'->(Instr.lookup 109 (.map (Uq bm)) (Ud r) false).run prog w'=.ok v w'/\∃B,w'.ownsRow B 225 2 v l.length (eW l)
theorem sY.bw(h:sY w bm r v l)(hb:Bl w w1):sY w1 bm r v l:=λw' h'=>h w' (aE hb h')
theorem wQ{Q:Prop}(h:Q:=by go_wp2_with fail;refine zR (S:=λw'=>w'.cell? (Ub w.1.size)=Uq (Ud f)/\w'.cell? (Ua g (off+i*2))=Uq (Ud fi)) ⟨G,H⟩ (λqh=>?_);refine tZ 0 20 ?_;refine tZ 1 21 ?_;refine tZ 2 22 ?_;refine tZ 3 23 ?_;refine tZ 4 24 ?_;refine tZ 5 25 ?_;refine tZ 6 26 ?_;refine tZ 7 27 ?_;refine tZ 8 28 ?_;refine tZ 9 29 ?_;refine tZ 10 30 ?_;refine tZ 11 31 ?_;refine tZ 12 32 ?_;refine tZ 13 33 ?_;refine tZ 14 6 ?_;refine zD ?_;go_wp2_with fail;go_ret;exact⟨iF y.symm,s.drew⟩):Q:=h
theorem LS(h:sY w bm r v l)(f t:Int)(hs:bL l)(hl:l.length<=1000000):
  Cl 196 #[.map (Uq bm),Ud r,Uo #[Ud f,Ud t]] w (Rt w (Un (gQ l f t))):=by
 generalize u:w.alloc (Uj #[Ud f,Ud t] 225)=k;have o:Bl w k:=u▸zO _ _;have z0:k.1.size=w.1.size+1:=u▸oP;have x0:k.cell? (Ub w.1.size)=Uq (Ud f):=u▸oP;have K:k.cell? (Ua w.1.size 1)=Uq (Ud t):=u▸oP;have⟨Y,X,b⟩:=h k o;obtain⟨a,c,e,I,Ha⟩:∃a c,v=Uf a l.length c/\SS k a l.length (λi=>(l.getD i (0,0)).1) (λi=>(l.getD i (0,0)).2)/\(l.length≠0->∃g,a=Uq (Ub g)):=by
  rcases b.2 with⟨e,O⟩|⟨g,cap,B,e,_⟩
  .exact⟨Up,0,by rw[e,O],.inl O,λh=>absurd O h⟩
  .exact⟨_,cap,e,by rw[e]at b;exact Fx b rfl,λ_=>⟨g,rfl⟩⟩
 rw[e]at Y;have z:=aC I;have E:=aC<|FL hs f t;have M:aA (∀i j,i<j->j<l.length->(λi=>(l.getD i (0,0)).2) i<(λi=>(l.getD i (0,0)).2) j):=λi j hij hj=>by
  have:=I8 hs hij hj;show(l.getD i (0,0)).2<(l.getD j (0,0)).2;omega
 generalize W:l.length=m at*;go_enter func196,ntmps196;go_wp2_with fail;refine(ON a m c _ _ t _ oM z M).mono ?_;rintro e J⟨i,C,rfl,hi,Z,U,q⟩;have A:=aC<|E i hi Z U;have G:=(q.cell (p:=(Ub w.1.size)) (show w.1.size<k.1.size by omega)).trans x0;have s:=aC<|aE o q;by_cases V:i<m
 .have N:∃g off,a=Uq (Ua g off)/\g<J.1.size/\J.cell? (Ua g (off+i*2))=Uq (Ud (l.getD i (0,0)).1):=by
   rcases z.out with h|⟨g,off,rfl,Q,L⟩
   .omega
   .exact⟨g,off,rfl,Ut Q q.size,(q.cell (p:=(Ua g (off+i*2))) Q).trans (L i V).1⟩
  obtain⟨g,off,rfl,Q,H⟩:=N;have F:(0:Int)<=(i:Int):=VH _;have P:(i:Int)<(m:Int):=oM;generalize D:(l.getD i (0,0)).1=fi at*;cases hle:decide (fi<=f)with
  |false=>have y:aA (gQ l f t=false):=(by unfold aA;rw[A.out,hle];simp);exact wQ
  |true=>have y:aA (gQ l f t=true):=(by unfold aA;rw[A.out,hle];simp[V]);exact wQ
 .have y:aA (gQ l f t=false):=by unfold aA;rw[A.out];simp[V]
  go_wp2_with fail;refine zR (S:=λw'=>w'.cell? (Ub w.1.size)=Uq (Ud f)) G<|λqh=>?_;refine tY 0 20 ?_;refine tY 2 22 ?_;refine tZ 4 24 ?_;refine uZ 5 25 ?_;refine uZ 6 26 ?_;refine uZ 7 27 ?_;refine uZ 8 28 ?_;refine uZ 9 29 ?_;refine uZ 10 30 ?_;refine uZ 11 31 ?_;refine uZ 12 32 ?_;refine tZ 13 33 ?_;refine tZ 14 6 ?_;refine zD ?_;go_wp2_with fail;go_ret;exact⟨iF y.symm,s.drew⟩
theorem Qf(h:sY w bm r v l)(q:Int)(hs:bL l)(hl:l.length<=1000000):
  Cl 172 #[.map (Uq bm),Uo #[Ud r,Ud q]] w (Rt w (Un (gQ l q q))):=by
 have j:Bl w (w.alloc (Uj #[Ud r,Ud q] 99)):=zO _ _;have k:=aC<|LS (h.bw j) q q hs hl;have u:=aC j;go_enter func172,ntmps172;go_wp2_with fail;refine k.mono ?_;rintro e w1⟨rfl,m⟩;have y:=aC<|aE u m;go_wp2_with fail;go_ret;exact⟨rfl,y⟩
theorem bP.lk{D:DataW aB}{G:Int->aB}(h:bP w bm n D G L)(r:Int)(hr:(Lit.int Uh r).wf=true):sY w bm r (G r) (L r):=λw' hb=>⟨(h.bw hb).look r hr,_,(h.bw hb).rows r⟩
theorem E4{D:DataW aB}{G:Int->aB}(h:bP w bm n D G L)(r q:Int)(hr:(Lit.int Uh r).wf=true)(hs:bL (L r))(hl:(L r).length<=1000000):
  Cl 172 #[.map (Uq bm),Uo #[Ud r,Ud q]] w (Rt w (Un (gQ (L r) q q))):=Qf (h.lk r hr) q hs hl
def cE(R F T:Nat->Int)(r f t:Int):Nat->Bool
 |0=>false
 |k+1=>cE R F T r f t k||decide (R k=r/\F k<=f/\t<=T k)
theorem yX(R F T:Nat->Int)(r f t:Int)(k:Nat):gQ (Lk R F T k r) f t=cE R F T r f t k:=by
 induction k with
 |zero=>rfl
 |succ k ih=>
  show gQ (eS (Lk R F T k) (R k) (Lk R F T k (R k)++[(F k,T k)]) r) f t=(cE R F T r f t k||decide (R k=r/\F k<=f/\t<=T k));by_cases e:r=R k
  .subst e;rw[dM,<-ih];simp[gQ]
  .rw[cQ _ _ e,ih];have:decide (R k=r/\F k<=f/\t<=T k)=false:=(by simp;intro h;exact absurd h.symm e);rw[this];simp
theorem Nc{f t:Int}(hk:k<n)(h:R k=r/\F k<=f/\t<=T k):cE R F T r f t n=true:=by
 induction n with
 |zero=>omega
 |succ n ih=>
  simp only[cE,Bool.or_eq_true,decide_eq_true_iff];by_cases e:k=n
  .subst e;exact .inr h
  .exact .inl<|ih oM
theorem Nm{f t:Int}(h:cE R F T r f t k=false)(h2:¬(R k=r/\F k<=f/\t<=T k)):cE R F T r f t (k+1)=false:=by
 simp only[cE,h,Bool.false_or,decide_eq_false_iff_not];exact h2
theorem wJ{Q:Prop}(h:Q:=by
 refine tZ 19 32 ?_;refine tZ 20 33 ?_;refine uZ 21 34 ?_;refine uZ 22 35 ?_;refine uZ 23 36 ?_;refine uZ 24 37 ?_;refine uZ 25 38 ?_;refine uZ 26 39 ?_;refine uZ 27 40 ?_;refine uZ 28 41 ?_;refine uZ 29 42 ?_;refine tZ 30 43 ?_;refine zD ?_;go_wp2_with fail;go_roundw;case rel=>exact⟨k+1,y,oN,u,g.drew⟩
 case measure=>exact oE):Q:=h
theorem E5(a:Option Us)(n c:Nat)(R F T:Nat->Int)(r q:Int)(w:Ur)(hn:n<=1048576)(h:bI w a n R F T):
  Cl 78 #[Uo #[Uf a n c],Uo #[Ud r,Ud q]] w (Rt w (Un (cE R F T r q q n))):=by
 generalize v:(w.alloc (Uj #[Uf a n c] 26)).alloc (Uj #[Ud r,Ud q] 99)=j;have Y:Bl w j:=v▸aU _ _ _;have H:j.cell? (Ub w.1.size)=Uq (Uf a n c):=v▸oP;have x0:j.cell? (Ua (w.1.size+1) 0)=Uq (Ud r):=v▸oP;have J:j.cell? (Ua (w.1.size+1) 1)=Uq (Ud q):=v▸oP;have W:j.1.size=w.1.size+2:=v▸oP;have Z:=h.bw Y;go_enter func78,ntmps78;go_wp2_with fail;go_loopw [5] (λi wr=>∃k:Nat,k<=n/\i=Ud k/\cE R F T r q q k=false/\Bl j wr) (λi _=>n-(intOf i).toNat);case atStart=>exact⟨0,UB _,rfl,rfl,zI⟩
 case round=>
  obtain⟨k,C,rfl,I,m⟩:=hrel;have A:=(m.cell (p:=(Ub w.1.size)) (show w.1.size<j.1.size by omega)).trans H;have U:=(m.cell (p:=(Ua (w.1.size+1) 0)) (show w.1.size+1<j.1.size by omega)).trans x0;have V:=(m.cell (p:=(Ua (w.1.size+1) 1)) (show w.1.size+1<j.1.size by omega)).trans J;have g:=aC m;have s:=aC I;by_cases y:k<n
  .rcases Z with Z|⟨b,off,rfl,G,Q⟩
   .omega
   have E:=(m.cell (p:=(Ua b (off+k*3))) G).trans (Q k y).1;have M:=(m.cell (p:=(Ua b (off+k*3+1))) G).trans (Q k y).2.1;have O:=(m.cell (p:=(Ua b (off+k*3+2))) G).trans (Q k y).2.2;have D:(0:Int)<=(k:Int):=VH _;have P:(k:Int)<(n:Int):=oM;by_cases z:R k=r
   .have N:(R k==r)=true:=(by simp;exact z);have K:=aC z;by_cases t:F k<=q
    .have X:decide (F k<=q)=true:=(by simp;exact t);have L:=aC t;by_cases o:q<=T k;have B:decide (q<=T k)=true:=(by simp;exact o);have u:=aC<|Nc (n:=n) y ⟨K,L,o⟩;rotate_left;have B:decide (q<=T k)=false:=oS;have u:=aC<|Nm s (λhh=>o hh.2.2);rotate_left;all_goals clear o;go_wp2_with fail;refine zR (S:=λw'=>w'.cell? (Ub w.1.size)=Uq (Uf (Uq (Ua b off)) n c)/\w'.cell? (Ua (w.1.size+1) 0)=Uq (Ud r)/\w'.cell? (Ua (w.1.size+1) 1)=Uq (Ud q)/\w'.cell? (Ua b (off+k*3))=Uq (Ud (R k))/\w'.cell? (Ua b (off+k*3+1))=Uq (Ud (F k))/\w'.cell? (Ua b (off+k*3+2))=Uq (Ud (T k))) ⟨A,U,V,E,M,O⟩<|λqh=>?_;refine tY 0 13 ?_;refine tY 2 15 ?_;refine tY 4 17 ?_;refine tY 6 19 ?_;refine tY 8 21 ?_;refine tY 10 23 ?_;refine tY 12 25 ?_;refine tY 14 27 ?_;refine tY 16 29 ?_;refine tY 18 31 ?_;refine tY 20 33 ?_;refine tY 22 35 ?_;refine tY 24 37 ?_;refine tY 26 39 ?_;refine tY 28 41 ?_;refine tZ 30 43 ?_;refine zD ?_;go_wp2_with fail
     .go_ret;exact⟨iF u.symm,(Y.trans (g.mono oM)).drew⟩
     .go_roundw;case rel=>exact⟨k+1,y,oN,u,g.drew⟩
      case measure=>exact oE
    .have X:decide (F k<=q)=false:=oS;have u:=aC<|Nm s (λhh=>t hh.2.1);go_wp2_with fail;refine zR (S:=λw'=>w'.cell? (Ub w.1.size)=Uq (Uf (Uq (Ua b off)) n c)/\w'.cell? (Ua (w.1.size+1) 0)=Uq (Ud r)/\w'.cell? (Ua (w.1.size+1) 1)=Uq (Ud q)/\w'.cell? (Ua b (off+k*3))=Uq (Ud (R k))/\w'.cell? (Ua b (off+k*3+1))=Uq (Ud (F k))/\w'.cell? (Ua b (off+k*3+2))=Uq (Ud (T k))) ⟨A,U,V,E,M,O⟩<|λqh=>?_;refine tY 0 13 ?_;refine tY 2 15 ?_;refine tY 4 17 ?_;refine tY 6 19 ?_;refine tY 8 21 ?_;refine tY 10 23 ?_;refine tY 12 25 ?_;refine tY 14 27 ?_;refine tY 16 29 ?_;refine tZ 18 31 ?_;exact wJ
   .have N:(R k==r)=false:=(by simp;exact z);have u:=aC<|Nm s (λhh=>z hh.1);go_wp2_with fail;refine zR (S:=λw'=>w'.cell? (Ub w.1.size)=Uq (Uf (Uq (Ua b off)) n c)/\w'.cell? (Ua (w.1.size+1) 0)=Uq (Ud r)/\w'.cell? (Ua (w.1.size+1) 1)=Uq (Ud q)/\w'.cell? (Ua b (off+k*3))=Uq (Ud (R k))/\w'.cell? (Ua b (off+k*3+1))=Uq (Ud (F k))/\w'.cell? (Ua b (off+k*3+2))=Uq (Ud (T k))) ⟨A,U,V,E,M,O⟩<|λqh=>?_;refine tY 0 13 ?_;refine tY 2 15 ?_;refine tY 4 17 ?_;refine tY 6 19 ?_;refine tY 8 21 ?_;refine uZ 10 23 ?_;refine uZ 11 24 ?_;refine uZ 12 25 ?_;refine uZ 13 26 ?_;refine uZ 14 27 ?_;refine uZ 15 28 ?_;refine uZ 16 29 ?_;refine uZ 17 30 ?_;refine uZ 18 31 ?_;exact wJ
  .obtain rfl:k=n:=oM;go_wp2_with fail;go_ret;exact⟨iF s.symm,Y.trans (g.mono oM)⟩
def nz(f:Nat->Int):Nat->Nat->Int
 |0,_=>0
 |n+1,k=>if f k=0 then nz f n (k+1)else f k
theorem MW{f:Nat->Int}(h:k<n):nz f (n-k) k=if f k=0 then nz f (n-(k+1)) (k+1)else f k:=by
 rw[show n-k=(n-(k+1))+1 by omega];rfl
theorem Br(b n c:Nat)(f:Nat->Int)(w:Ur)(hn:n<=1000)(h:∀i,i<n->w.cell? (Ua b i)=Uq (Ud (f i))):
  Cl 141 #[Uf (Uc b) n c] w λe w'=>e=Ui (Ud (nz f n 0))/\w'=w:=by
 go_enter func141,ntmps141;go_wp2_with fail;go_loop [8] (λi=>∃k:Nat,k<=n/\i=Ud (k:Int)/\aA (nz f n 0=nz f (n-k) k)) (λi=>n-(intOf i).toNat);case atStart=>exact⟨0,UB _,rfl,aC rfl⟩
 case round=>
  obtain⟨k,v,rfl,m⟩:=hrel;by_cases r:k<n
  .have x0:=h k r;have y:(0:Int)<=(k:Int):=VH _;have z:(k:Int)<(n:Int):=oM;have j:aA (nz f n 0=if f k=0 then nz f (n-(k+1)) (k+1)else f k):=aC (by rw[m.out,MW r]);generalize u:f k=x;rw[u]at x0 j;by_cases q:x=0
   .subst q;have j:aA (nz f n 0=nz f (n-(k+1)) (k+1)):=aC (by rw[j.out,if_pos rfl]);go_wp2_with fail;go_round;case rel=>exact⟨k+1,r,oN,j⟩
    case measure=>exact oE
   .have j:aA (nz f n 0=x):=aC (by rw[j.out,if_neg q]);have g:(x !=0)=true:=oU q;exact kK
  .obtain rfl:k=n:=oM;have j:aA (nz f k 0=0):=aC (by rw[m.out,Nat.sub_self];rfl);exact kK
def dX(x y:Int):Int:=if x=0 then y else x
theorem Eu{f:Nat->Int}:nz f 2 0=dX (f 0) (f 1):=by
 unfold dX nz;by_cases h:f 0=0
 .rw[if_pos h,if_pos h];unfold nz;by_cases j:f 1=0
  .rw[if_pos j,j];rfl
  .rw[if_neg j]
 .rw[if_neg h,if_neg h]
theorem BY{f:Nat->Int}:nz f 3 0=dX (f 0) (dX (f 1) (f 2)):=by
 unfold dX nz;by_cases h:f 0=0
 .rw[if_pos h,if_pos h];unfold nz;by_cases j:f 1=0
  .rw[if_pos j,if_pos j];unfold nz;by_cases k:f 2=0
   .rw[if_pos k,k];rfl
   .rw[if_neg k]
  .rw[if_neg j,if_neg j]
 .rw[if_neg h,if_neg h]
def kd(fl:Bool):Int:=if fl=true then 2 else 1
def nQ(r q r' q':Int):Int:=dX (bN r r') (bN q q')
def aY(x y:Lf):Int:=dX (aW x.p y.p) (dX (bN (kd x.fl) (kd y.fl)) (nQ x.r x.q y.r y.q))
theorem My(v0:aB)(fl:Bool)(v2 v3 v4:aB)(w:Ur):Cl 97 #[Uo #[v0,Un fl,v2,v3,v4]] w (Rt w (Ud (kd fl))):=by
 have j:=aC<|zO w (Uj #[v0,Un fl,v2,v3,v4] 101);cases fl;all_goals go_enter func97,ntmps97;go_wp2_with fail;go_ret;exact⟨rfl,j⟩
theorem AM(r q r' q':Int)(w:Ur):Cl 144 #[Uo #[Ud r,Ud q],Uo #[Ud r',Ud q']] w (Rt w (Ud (nQ r q r' q'))):=by
 generalize m:(w.alloc (Uj #[Ud r,Ud q] 99)).alloc (Uj #[Ud r',Ud q'] 99)=W;have z:Bl w W:=m▸aU _ _ _;have E:W.1.size=w.1.size+2:=m▸oP;have o:W.cell? (Ub w.1.size)=Uq (Ud r):=m▸oP;have b:W.cell? (Ua w.1.size 1)=Uq (Ud q):=m▸oP;have s:W.cell? (Ua (w.1.size+1) 0)=Uq (Ud r'):=m▸oP;have A:W.cell? (Ua (w.1.size+1) 1)=Uq (Ud q'):=m▸oP;have v:=aC z;have h:w.1.size<W.1.size:=oM;have g:w.1.size+1<W.1.size:=oM;clear z E;go_enter func144,ntmps144;go_wp2_with fail;clear m;have u:∀w',Bl W w'->(Bl W w'/\w'.cell? (Ub w.1.size)=Uq (Ud r)/\w'.cell? (Ua w.1.size 1)=Uq (Ud q)/\w'.cell? (Ua (w.1.size+1) 0)=Uq (Ud r')/\w'.cell? (Ua (w.1.size+1) 1)=Uq (Ud q')):=λw' k=>⟨k,(k.cell (p:=(Ub w.1.size)) h).trans o,(k.cell (p:=(Ua w.1.size 1)) h).trans b,(k.cell (p:=(Ua (w.1.size+1) 0)) g).trans s,(k.cell (p:=(Ua (w.1.size+1) 1)) g).trans A⟩;have y:=aC u;clear u;refine zS y<|λqh=>?_;refine tY 0 5 ?_;refine tY 2 7 ?_;refine tY 5 10 ?_;refine tY 7 12 ?_;refine cZ 4 ?_;intro K j;go_simp;refine(sG r r' _).mono ?_;rintro e w1⟨rfl,rfl⟩;refine bZ j qh<|λqh=>?_;clear j K;refine cZ 9 ?_;intro K j;go_simp;refine(sG q q' _).mono ?_;rintro e M⟨rfl,rfl⟩;refine bZ j qh<|λqh=>?_;clear j K;refine cZ 10 ?_;intro K j;go_simp;have k:=qh.1.alloc qh.1.size<|Uj #[Ud (bN r r'),Ud (bN q q')] 3;refine bZ j (y _ k)<|λqh=>?_;clear j K;refine cZ 11 ?_;intro K j;go_simp;refine(Br _ 2 2 (λi=>if i=0 then bN r r' else bN q q') _ oM (λi hi=>?_)).mono ?_
 .match i,hi with
  |0,_=>simp
  |1,_=>simp
 rintro e O⟨rfl,rfl⟩;refine bZ j qh<|λqh=>?_;clear j K;refine tZ 12 4 ?_;refine zD ?_;have t:=aC<|v.trans (qh.1.mono v.size);clear qh k;go_wp2_with fail;go_ret;exact⟨lA Eu,t⟩
def fO(v:ByteArray):Bool:=v.toList.isEmpty
def jH(x:Lf):Prop:=dW x.p/\x.v.size<=200/\(x.fl=true->fO x.v=true)
theorem wF{Q:Prop}(h:Q:=by
 clear m;go_enter func171,ntmps171;go_wp2_with fail;try rw[j]
 clear j;go_wp2_with fail;refine t.mono ?_;rintro e w1⟨rfl,rfl⟩;cases Y with
 |true=>go_wp2_with fail;go_ret;exact⟨cG (by rw[k.out];simp[b]),y⟩
 |false=>go_wp2_with fail;go_ret;exact⟨cG (by rw[k.out];rfl),y⟩):Q:=h
theorem FH(a:Option Us)(c:Nat)(p:List ByteArray)(fl:Bool)(r q:Int)(v:ByteArray)(w:Ur)(hn:p.length<=1048576)(h:aV w a p):
  Cl 171 #[Uo #[Uf a p.length c,Un fl,Ud r,Ud q,Um v]] w (Rt w (Un (yes (jH ⟨p,fl,r,q,v⟩)))):=by
 have⟨W,j⟩:=zE (w.alloc (Uj #[Uf a p.length c,Un fl,Ud r,Ud q,Um v] 101));have o:Bl w W:=j▸zO _ _;have Q:W.cell? (Ub w.1.size)=Uq (Uf a p.length c):=j▸oP;have U:W.cell? (Ua w.1.size 1)=Uq (Un fl):=j▸oP;have V:W.cell? (Ua w.1.size 4)=Uq (Um v):=j▸oP;have t:=aC<|Xk p a c W hn (h.bw o);have y:=aC o;have⟨B,i⟩:=zE (yes (jH ⟨p,fl,r,q,v⟩));have g:=aC i;rw[i];by_cases m:fl=true/\fO v=false
 .have M:v.toList.isEmpty=false:=m.2;have k:aA (B=false):=aC (by rw[<-g.out];exact aJ (λh=>by have:=h.2.2 m.1;simp only at this;rw[m.2]at this;cases this));obtain⟨rfl,_⟩:=m;go_enter func171,ntmps171;go_wp2_with fail;try rw[j]
  go_wp2_with fail;go_ret;exact⟨cG k.symm,y⟩
 .have k:aA (B=(yes (dW p)&&decide (v.size<=200))):=aC (by
   rw[<-g.out];have hi:fl=true->fO v=true:=λe=>by
    by_cases h:fO v=true
    .exact h
    .exact absurd ⟨e,oU h⟩ m
   by_cases u:dW p
   .by_cases z:v.size<=200
    .rw[aN ⟨u,z,hi⟩,aN u,decide_eq_true z];rfl
    .rw[aJ (λh=>z h.2.1),aN u,decide_eq_false z];rfl
   .rw[aJ (λh=>u h.1),aJ u];rfl)
  have⟨Y,A⟩:=zE (yes (dW p));rw[A]at k t;have b:decide ((v.size:Int)<=200)=decide (v.size<=200):=decide_eq_decide.2 oM;have⟨Z,E⟩:=zE (decide (v.size<=200));rw[E]at k b;have s:∀(Y Z:Bool),B=(Y&&Z)->Y=false->B=false:=λY Z h u=>by rw[h,u];rfl
  cases fl with
  |false=>exact wF
  |true=>
   have M:v.toList.isEmpty=true:=by
    by_cases h:fO v=true
    .exact h
    .exact absurd ⟨rfl,oU h⟩ m
   exact wF
theorem CH:prog.fieldsOf 99=match prog.underlying 99 with|some (.struct fs)=>fs|_=>#[]:=rfl
theorem RH:prog.stoodInHeld 99=false:=oK
theorem RJ:prog.eqGuardType prog.depth 99=false:=oK
theorem Sr(r q r' q':Int)(w:Ur):(binOp .eql 99 (Uo #[Ud r,Ud q]) (Uo #[Ud r',Ud q'])).run prog w=.ok (Un (r==r'&&q==q')) w:=by
 rw[run_eql_struct,show(10000:Nat)=9999+1 from rfl,run_equalIn_agg _ _ _ _ _ oK RH,CH,underlying99];cases h1:(r==r')<;>simp[Op.eqFields,go_sem,underlying3,h1];by_cases j:q=q'<;>simp[j]
theorem Xr:laidOutB prog=true:=oK
theorem gX:Keyed prog 99:=Keyed.of_law (deep_law_laid Xr (m:=3) oM (of_decide_eq_true oK) oK oK)
def iE(r q:Int):aB:=Uo #[Ud r,Ud q]
theorem Fg:prog.keyType 99=true:=oK
theorem rR{q:Int}(hr:(Lit.int Uh r).wf=true)(hq:(Lit.int Uh q).wf=true):∃kl,keyOf prog 99 (iE r q)=Uq kl:=by
 unfold keyOf;rw[underlying99];simp only[Fg,Bool.true_and];have v:0<prog.types.size:=of_decide_eq_true oK;obtain⟨m,u⟩:∃m,prog.types.size=m+1:=⟨prog.types.size-1,oM⟩;rw[u];have j:prog.cellsOf 99=2:=oK;have k:prog.cellsOf 3=1:=oK;simp[Value.formed,iE,underlying99,j,Program.keyLits,underlying3,k,Value.cells,hr,hq]
theorem Z4{q q':Int}{kl:Lit}(h:keyOf prog 99 (iE r q)=Uq kl)(h':keyOf prog 99 (iE r' q')=Uq kl):r=r'/\q=q':=by
 have e:=gX.inj h h';simpa[iE]using e
structure mR(w:Ur)(bm k:Nat)(l:List Lf)(D:DataW aB):Prop where
 own:w.ownsMap prog 99 (plainElem prog 3) bm k D
 tidy:Tidy D
 has':∀r q kl,keyOf prog 99 (iE r q)=Uq kl->(has D kl=true↔∃j,j<k/\(gL l j).r=r/\(gL l j).q=q)
 le:size D<=k
 eq:size D=k↔∀i,i<k->∀j,j<i->¬((gL l j).r=(gL l i).r/\(gL l j).q=(gL l i).q)
theorem mR.step{l:List Lf}{D:DataW aB}{kl:Lit}{d:DataW aB}(h:mR w bm k l D)(hk:keyOf prog 99 (iE (gL l k).r (gL l k).q)=Uq kl)
  (ho:w'.ownsMap prog 99 (plainElem prog 3) bm (k+1) (D.put kl d)):mR w' bm (k+1) l (D.put kl d):=by
 have y:=gX.key hk;have z:=size_put (k:=kl) h.tidy d;have v:=h.has' _ _ _ hk;refine⟨ho,h.tidy.put y d,λr q kl' hk'=>?_,?_,?_⟩
 .by_cases e:kl'=kl
  .subst e;have⟨g,t⟩:=Z4 hk hk';rw[has_put_same h.tidy.isMap y];exact⟨λ_=>⟨k,oM,g,t⟩,λ_=>rfl⟩
  .rw[has_put_other e,h.has' r q kl' hk'];constructor
   .rintro⟨j,m,r1⟩;exact⟨j,oM,r1⟩
   .rintro⟨j,m,r1,r2⟩;by_cases b:j=k
    .subst b;rw[r1,r2,hk']at hk;injection hk with hk;exact absurd hk e
    .exact⟨j,oM,r1,r2⟩
 .rw[z];have:=h.le;split<;>omega
 .rw[z];have s:=h.le;by_cases u:has D kl=true
  .rw[if_pos u];have⟨j,m,r1,r2⟩:=v.1 u;constructor
   .intro e;omega
   .intro e;exact absurd ⟨r1,r2⟩<|e k oM j m
  .rw[if_neg u];have p:=λj m r1 r2=>u (v.2 ⟨j,m,r1,r2⟩);constructor
   .intro e i hi j m;by_cases o:i=k
    .subst o;exact λq=>p j m q.1 q.2
    .exact h.eq.1 oM i oM j m
   .intro e;have:=h.eq.2 (λi hi j m=>e i oM j m);omega
theorem mR.made(w:Ur)(l:List Lf):mR (w.alloc (.map #[] 0)) w.1.size 0 l (.map []):=
 ⟨Vv w _ _ _,tidy_empty,λr q kl hk=>⟨λh=>by simp[has]at h,λ⟨j,hj,_⟩=>oM⟩,by simp[size],⟨λ_ i hi=>oM,λ_=>rfl⟩⟩
def jR(v:aB):Option (DataW aB×List MemPlace):=Uq (.held v,[])
theorem Du{d:DataW aB}{ps:List MemPlace}(h:jR v=Uq (d,ps)):d=.held v:=by
 unfold jR at h;simp at h;exact h.1.symm
abbrev Ky:=ByteArray×Int
abbrev Dt:=Int×Int
def aP(x:Ky):aB:=Uo #[Um x.1,Ud x.2]
def aX(d:Dt):aB:=iE d.1 d.2
def cH:Option ByteArray->aB
 |none=>Uo #[Um ByteArray.empty]
 |some s=>Uo #[Um s]
def bE:Option (Nat×Nat)->aB
 |none=>Uo #[.map Up,.map Up]
 |some x=>Uo #[.map (Uq x.1),.map (Uq x.2)]
theorem oB{x y:Ky}(h:aP x=aP y):x=y:=by
 have⟨a,b⟩:=x;have⟨c,d⟩:=y;simpa[aP]using h
theorem sL{x y:Dt}(h:aX x=aX y):x=y:=by
 have⟨a,b⟩:=x;have⟨c,d⟩:=y;simpa[aX,iE]using h
theorem gH:Keyed prog 175:=Keyed.of_law (deep_law_laid Xr (m:=3) oM (of_decide_eq_true oK) oK oK)
theorem Qa:prog.keyType 175=true:=oK
theorem yH{k:Int}(hs:s.size<=maxLen)(hk:(Lit.int Uh k).wf=true):∃kl,keyOf prog 175 (aP (s,k))=Uq kl:=by
 unfold keyOf;rw[underlying175];simp only[Qa,Bool.true_and];have v:0<prog.types.size:=of_decide_eq_true oK;obtain⟨m,u⟩:∃m,prog.types.size=m+1:=⟨prog.types.size-1,oM⟩;rw[u];have j:prog.cellsOf 175=2:=oK;have q:prog.cellsOf 3=1:=oK;have r:prog.cellsOf 9=1:=oK;simp[Value.formed,aP,underlying175,j,Program.keyLits,underlying3,underlying9,q,r,Value.cells,hs,hk]
structure FM{α β:Type}(w:Ur)(t:TypeId)(kv:α->aB)(vo:Option β->aB)(b c:Nat)(f:α->Option β)(D:DataW aB):Prop where
 own:w.ownsMap prog t jR b c D
 at':∀x kl,keyOf prog t (kv x)=Uq kl->has D kl=(f x).isSome/\D.atKey kl (.held (vo Up))=.held (vo (f x))
 cov:∀kl,has D kl=true->∃x,keyOf prog t (kv x)=Uq kl
 ok:∀x,f x≠Up->∃kl,keyOf prog t (kv x)=Uq kl
def aO{α β:Type}(w:Ur)(t:TypeId)(kv:α->aB)(vo:Option β->aB)(b c:Nat)(f:α->Option β):Prop:=∃D,FM w t kv vo b c f D
section
variable {α β : Type}{w : Ur}{t : TypeId}{kv : α-> aB}{vo : Option β-> aB}{b c : Nat}{f : α-> Option β}
theorem sH{w w':Ur}{k:TypeId}{R:aB->Option (DataW aB×List MemPlace)}{b n:Nat}{D:DataW aB}(h:w.ownsMap prog k R b n D)(e:w'.1[b]? =w.1[b]?):w'.ownsMap prog k R b n D:=by
 have⟨m,j,q,r⟩:=h;exact⟨m,j,e.trans q,r⟩
theorem aO.same{w':Ur}(h:aO w t kv vo b c f)(e:w'.1[b]? =w.1[b]?):aO w' t kv vo b c f:=by
 have⟨D,h⟩:=h;exact⟨D,sH h.own e,h.at',h.cov,h.ok⟩
theorem aO.mono{c':Nat}(h:aO w t kv vo b c f)(hc:c<=c'):aO w t kv vo b c' f:=by
 have⟨D,h⟩:=h;exact⟨D,h.own.mono hc,h.at',h.cov,h.ok⟩
theorem aO.lt(h:aO w t kv vo b c f):b<w.1.size:=by
 have⟨D,h⟩:=h;exact h.own.lt
theorem aO.obj(h:aO w t kv vo b c f):∃k j,w.1[b]? =Uq (.map k j):=by
 have⟨D,h⟩:=h;have⟨k,j,m,_⟩:=h.own;exact⟨k,j,m⟩
theorem aO.ext{g:α->Option β}(h:aO w t kv vo b c f)(e:∀x,f x=g x):aO w t kv vo b c g:=by
 obtain rfl:f=g:=funext e;exact h
theorem aO.look{mt e:TypeId}(h:aO w t kv vo b c f)(K:Keyed prog t)(ht:prog.underlying mt=Uq (.map t e))(hz:(zeroValue e).run prog w=.ok (vo Up) w){x:α}{kl:Lit}(hk:keyOf prog t (kv x)=Uq kl):
  (Instr.lookup mt (.map (Uq b)) (kv x) false).run prog w=.ok (vo (f x)) w:=by
 have⟨D,h⟩:=h;have⟨v,ps,j,k⟩:=h.own.lookup K ht hz (zd:=.held (vo Up)) (zp:=[]) rfl hk;have:=Du k;rw[(h.at' x kl hk).2]at this;injection this with this;rw[<-this]at j;exact j
theorem aO.look_ok{mt e:TypeId}(h:aO w t kv vo b c f)(K:Keyed prog t)(ht:prog.underlying mt=Uq (.map t e))(hz:(zeroValue e).run prog w=.ok (vo Up) w){x:α}{kl:Lit}(hk:keyOf prog t (kv x)=Uq kl):
  (Instr.lookup mt (.map (Uq b)) (kv x) true).run prog w=.ok (Ul #[vo (f x),Un (f x).isSome]) w:=by
 have⟨D,h⟩:=h;have⟨v,ps,j,k⟩:=h.own.look_ok K ht hz (zd:=.held (vo Up)) (zp:=[]) rfl hk;have:=Du k;rw[(h.at' x kl hk).2]at this;injection this with this;rw[<-this,(h.at' x kl hk).1]at j;exact j
theorem aO.made(w:Ur)(t:TypeId)(kv:α->aB)(vo:Option β->aB):aO (w.alloc (.map #[] 0)) t kv vo w.1.size 0 (λ_=>Up):=
 ⟨.map [],Vv w _ _ _,λx kl _=>⟨by simp[has],rfl⟩,λkl h=>by simp[has]at h,λx h=>absurd rfl h⟩
open Classical in
noncomputable def dE{α β:Type}(f:α->Option β)(x:α)(v:Option β)(y:α):Option β:=if y=x then v else f y
theorem iU(f:α->Option β)(x:α)(v:Option β):dE f x v x=v:=by unfold dE;simp
theorem gJ(f:α->Option β){x y:α}(v:Option β)(h:y≠x):dE f x v y=f y:=by unfold dE;simp[h]
theorem aO.store{mt e:TypeId}(h:aO w t kv vo b c f)(K:Keyed prog t)(hi:∀x y,kv x=kv y->x=y)(ht:prog.underlying mt=Uq (.map t e))(hc:c<maxLen){x:α}{y:β}{kl:Lit}(hk:keyOf prog t (kv x)=Uq kl):
  ∃w',(Instr.mapUpdate mt (.map (Uq b)) (kv x) (vo (Uq y))).run prog w=.ok () w'/\aO w' t kv vo b (c+1) (dE f x (Uq y))/\w.grownBy w' (Uq b):=by
 have⟨D,h⟩:=h;have⟨w',u,r,q⟩:=h.own.update K ht hc hk (val:=vo (Uq y)) (d:=.held (vo (Uq y))) (ps:=[]) rfl;have m:=K.key hk;refine⟨w',u,⟨_,r,λx' kl' hk'=>?_,λkl' hh=>?_,λx' hx'=>?_⟩,q⟩
 .by_cases j:x'=x
  .subst j;rw[hk]at hk';cases hk';rw[iU,has_put_same h.own.isMap m,atKey_put_same h.own.isMap m];exact⟨rfl,rfl⟩
  .have k:kl'≠kl:=λe=>j (hi _ _ (K.inj (e▸hk') hk));rw[gJ _ _ j,has_put_other k,atKey_put_other k];exact h.at' x' kl' hk'
 .by_cases k:kl'=kl
  .subst k;exact⟨x,hk⟩
  .rw[has_put_other k]at hh;exact h.cov kl' hh
 .by_cases j:x'=x
  .subst j;exact⟨kl,hk⟩
  .rw[gJ _ _ j]at hx';exact h.ok x' hx'
theorem aO.len{mt e:TypeId}(h:aO w t kv vo b c f)(K:Keyed prog t)(ht:prog.underlying mt=Uq (.map t e)):∃n:Nat,(∀ty,(Builtin.len_ #[mt] ty #[.map (Uq b)]).run prog w=.ok (Ud n) w)/\n<=c/\(0<n↔∃x,f x≠Up):=by
 have⟨D,h⟩:=h;refine⟨Maps.size D,λty=>h.own.len ht ty,h.own.size_le,?_⟩;obtain⟨q,rfl⟩:=h.own.isMap;constructor
 .intro v;have z:∃k,has (DataW.map q) k=true:=by
   cases q with
   |nil=>simp[Maps.size]at v
   |cons p r=>
    have⟨o,u,_,j⟩:=h.own.entries K;have g:WideAt.IsKeyLit p.1:=j p (by injection u with u;rw[<-u];simp);refine⟨p.1,?_⟩;rw[has_eq];simp only[List.any_cons,Bool.or_eq_true];exact .inl<|WideAt.sameKey_self g
  have⟨k,j⟩:=z;have⟨x,m⟩:=h.cov k j;refine⟨x,λe=>?_⟩;have:=(h.at' x k m).1;rw[j,e]at this;cases this
 .rintro⟨x,m⟩;have⟨k,j⟩:=h.ok x m;have:=(h.at' x k j).1;cases q with
  |nil=>cases e:f x with
   |none=>exact absurd e m
   |some y=>rw[e]at this;simp[has]at this
  |cons p r=>simp[Maps.size]
end
def aG(p:List ByteArray)(k:Int):List Ky:=(Vb p.length).map λi=>(gS p i,if i+1<p.length then 3 else k)
theorem jN(p:List ByteArray)(k:Int):(aG p k).length=p.length:=by simp[aG]
theorem oC{k:Int}(h:i<p.length):(aG p k)[i]? =Uq (gS p i,if i+1<p.length then 3 else k):=by simp[aG,h]
theorem Dy{k:Int}(h:i<p.length):(aG p k).take (i+1)=(aG p k).take i++[(gS p i,if i+1<p.length then 3 else k)]:=by
 have j:i<(aG p k).length:=by rw[jN];exact h
 rw[Vc,oC h];rfl
theorem Fv(hl:p.length=q.length)(h:∀i,i<p.length->gS p i=gS q i):p=q:=by
 refine List.ext_getElem hl λi h1 h2=>?_;have:=h i h1;simpa[gS,UL,h1,h2]using this
theorem Nt{k j:Int}(h:aG p k=aG q j)(h0:0<p.length):p=q/\k=j:=by
 have r:p.length=q.length:=by have:=congrArg List.length h;simpa[jN]using this
 have m:∀i,i<p.length->(gS p i,if i+1<p.length then 3 else k)=(gS q i,if i+1<q.length then(3:Int)else j):=λi hi=>by
  have:=oC (k:=k) hi;rw[h,oC oM]at this;injection this with this;exact this.symm
 refine⟨Fv r λi hi=>(Prod.mk.inj (m i hi)).1,?_⟩;have:=(Prod.mk.inj (m (p.length-1) oM)).2;rw[if_neg oM,if_neg oM]at this;exact this
theorem Xb{α:Type}{l:List α}{x:α}{q:List α}(h:l.take (k+1)=l.take k++[x]):q <+:l.take (k+1)↔q <+:l.take k\/q=l.take k++[x]:=by
 rw[h];constructor
 .intro j;rcases List.prefix_concat_iff.1 j with e|e
  .exact .inr e
  .exact .inl e
 .rintro(e|e)
  .exact e.trans<|List.prefix_append _ _
  .rw[e];exact List.prefix_refl _
structure bB(w:Ur)(B:Nat)(N:List Ky->Option (Nat×Nat))(M:List Ky->Dt->Option ByteArray)(c:Nat):Prop where
 kids:∀p x,N p=Uq x->aO w 175 aP bE x.1 c (λy=>N (p++[y]))
 marks:∀p x,N p=Uq x->aO w 99 aX cH x.2 c (M p)
 apart:∀p q x y,N p=Uq x->N q=Uq y->x.1≠y.2/\(x.1=y.1->p=q)/\(x.2=y.2->p=q)
 lo:∀p x,N p=Uq x->B<=x.1/\B<=x.2
 none':∀p,N p=Up->M p=λ_=>Up
 up:∀p y,N p=Up->N (p++[y])=Up
section
variable {w w' : Ur}{B c : Nat}{N : List Ky-> Option (Nat × Nat)}{M : List Ky-> Dt-> Option ByteArray}
theorem bB.same(h:bB w B N M c)(hs:∀p x,N p=Uq x->w'.1[x.1]? =w.1[x.1]? /\w'.1[x.2]? =w.1[x.2]?):bB w' B N M c:=
 ⟨λp x hx=>(h.kids p x hx).same (hs p x hx).1,λp x hx=>(h.marks p x hx).same (hs p x hx).2,h.apart,h.lo,h.none',h.up⟩
theorem bB.lt(h:bB w B N M c){p:List Ky}{x:Nat×Nat}(hx:N p=Uq x):x.1<w.1.size/\x.2<w.1.size:=⟨(h.kids p x hx).lt,(h.marks p x hx).lt⟩
theorem bB.bw(h:bB w B N M c)(hb:Bl w w'):bB w' B N M c:=h.same λp x hx=>⟨hb.block _ (h.lt hx).1,hb.block _ (h.lt hx).2⟩
theorem bB.mono{c':Nat}(h:bB w B N M c)(hc:c<=c'):bB w B N M c':=⟨λp x hx=>(h.kids p x hx).mono hc,λp x hx=>(h.marks p x hx).mono hc,h.apart,h.lo,h.none',h.up⟩
theorem uP{w:Ur}{q:Us}{v:aB}(h:w.cell? q=Uq v):∀k j,w.1[q.block]? ≠Uq (.map k j):=by
 intro k j e;simp[Vx,e]at h
theorem bB.set(h:bB w B N M c){q:Us}{v:aB}(u:aB)(hc:w.cell? q=Uq v):bB (w.setCell q u) B N M c:=by
 refine h.same λp x hx=>⟨zH _ _ _ _ λe=>?_,zH _ _ _ _ λe=>?_⟩
 .have⟨m,k,j⟩:=(h.kids p x hx).obj;rw[e]at j;exact uP hc _ _ j
 .have⟨m,k,j⟩:=(h.marks p x hx).obj;rw[e]at j;exact uP hc _ _ j
structure Gt(B:Nat)(w w':Ur):Prop where
 os:w'.os=w.os
 tape:w'.tape=w.tape
 output:w'.output=w.output
 size:w.1.size<=w'.1.size
 block:∀g,g<w.1.size->(g<B\/∀es cl,w.1[g]? ≠Uq (.map es cl))->w'.1[g]? =w.1[g]?
theorem Gt.refl(B:Nat)(w:Ur):Gt B w w:=⟨rfl,rfl,rfl,Ux _,λ_ _ _=>rfl⟩
theorem Gt.trans{a b d:Ur}(h:Gt B a b)(k:Gt B b d):Gt B a d:=
 ⟨k.os.trans h.os,k.tape.trans h.tape,k.output.trans h.output,Uz h.size k.size,λg hg ho=>by
  have e:=h.block g hg ho;exact(k.block g (Ut hg h.size) (ho.imp id λhn es cl=>by rw[e];exact hn es cl)).trans e⟩
theorem Gt.of_below(h:Bl w w'):Gt B w w':=⟨h.os,h.tape,h.output,h.size,λg hg _=>h.block g hg⟩
theorem Gt.bw(h:Gt B w w')(hB:B<=w.1.size):Below B w w':=⟨h.os,h.tape,h.output,h.size,λg hg=>h.block g oM (.inl hg)⟩
theorem Gt.cell(h:Gt B w w'){q:Us}{v:aB}(hc:w.cell? q=Uq v):w'.cell? q=Uq v:=
 (Vy (h.block q.block (block_lt_of_cell hc) (.inr (uP hc)))).trans hc
theorem Gt.frozen(h:Gt B w w'){q r:Us}{v:aB}(hc:w.cell? r=Uq v)(hr:r.block=q.block):w'.frozen? q=w.frozen? q:=
 Vz (hr▸h.block r.block (block_lt_of_cell hc) (.inr (uP hc)))
theorem Gt.grown{b:Nat}(hg:w.grownBy w' (Uq b))(hB:B<=b)(k:∃q m,w.1[b]? =Uq (.map q m)):Gt B w w':=
 ⟨hg.os,hg.tape,hg.output,hg.size,λg h1 j=>hg.block g h1 λe=>by
  cases e;have⟨q,m,k⟩:=k;rcases j with j|j
  .omega
  .exact j _ _ k⟩
theorem bB.add{p:List Ky}{y:Ky}{x:Nat×Nat}{s s':Nat}(h:bB w B N M c)(hN:N p=Uq x)(hn:N (p++[y])=Up)(hk:aO w 175 (α:=Ky) aP bE s 0 (λ_=>Up))(hm:aO w 99 (α:=Dt) aX cH s' 0 (λ_=>Up))(hss:s≠s')
  (hs:∀p x,N p=Uq x->x.1<s/\x.2<s/\x.1<s'/\x.2<s') (hB:B<=s/\B<=s')
  (hu:aO w' 175 aP bE x.1 (c+1) (dE (λz=>N (p++[z])) y (Uq (s,s')))) (hg:w.grownBy w' (Uq x.1)):bB w' B (dE N (p++[y]) (Uq (s,s'))) M (c+1):=by
 have b:∀q z,q≠p->q++[z]≠p++[y]:=λq z hq e=>hq (List.append_inj' e rfl).1;have t:∀g,g<w.1.size->g≠x.1->w'.1[g]? =w.1[g]? :=λg h1 h2=>hg.block g h1 (λe=>h2 (by injection e));have A:=hs p x hN;refine⟨λq z hz=>?_,λq z hz=>?_,λq r u v hu' hv=>?_,λq z hz=>?_,λq hq=>?_,λq z hq=>?_⟩
 .by_cases e:q=p++[y]
  .subst e;rw[iU]at hz;cases hz;refine((hk.same (t _ hk.lt oS)).mono (UB _)).ext λz=>?_;rw[gJ _ _ (by intro e;have:=congrArg List.length e;simp at this)];exact(h.up _ z hn).symm
  .rw[gJ _ _ e]at hz;by_cases j:q=p
   .subst j;rw[hN]at hz;cases hz;refine hu.ext λz=>?_;by_cases k:z=y
    .subst k;rw[iU,iU]
    .rw[gJ _ _ k,gJ _ _ (λe=>k (oU e))]
   .have o:=h.kids q z hz;refine((o.same (t _ o.lt λk=>j ((h.apart q p z x hz hN).2.1 k))).mono (UD _)).ext λz=>?_;rw[gJ _ _ (b q z j)]
 .by_cases e:q=p++[y]
  .subst e;rw[iU]at hz;cases hz;refine((hm.same (t _ hm.lt oS)).mono (UB _)).ext λz=>?_;rw[h.none' _ hn]
  .rw[gJ _ _ e]at hz;have i:=h.marks q z hz;exact(i.same (t _ i.lt λk=>(h.apart p q x z hN hz).1 k.symm)).mono (UD _)
 .by_cases e:q=p++[y]
  .by_cases m:r=p++[y]
   .subst e;subst m;rw[iU]at hu' hv;injection hu' with hu';injection hv with hv;subst hu';subst hv;exact⟨hss,λ_=>rfl,λ_=>rfl⟩
   .subst e;rw[iU]at hu';rw[gJ _ _ m]at hv;cases hu';have:=hs r v hv;exact⟨oS,λe=>by simp at e;omega,λe=>by simp at e;omega⟩
  .rw[gJ _ _ e]at hu';by_cases m:r=p++[y]
   .subst m;rw[iU]at hv;cases hv;have:=hs q u hu';exact⟨oS,λe=>by simp at e;omega,λe=>by simp at e;omega⟩
   .rw[gJ _ _ m]at hv;exact h.apart q r u v hu' hv
 .by_cases e:q=p++[y]
  .subst e;rw[iU]at hz;cases hz;exact hB
  .rw[gJ _ _ e]at hz;exact h.lo q z hz
 .by_cases e:q=p++[y]
  .subst e;rw[iU]at hq;cases hq
  .rw[gJ _ _ e]at hq;exact h.none' q hq
 .by_cases e:q=p++[y]
  .subst e;rw[iU]at hq;cases hq
  .rw[gJ _ _ e]at hq;have j:q≠p:=λj=>by subst j;rw[hN]at hq;cases hq
   rw[gJ _ _ (b q z j)];exact h.up q z hq
noncomputable def mO(M:List Ky->Dt->Option ByteArray)(p:List Ky)(d:Dt)(s:ByteArray)(q:List Ky):Dt->Option ByteArray:=if yes (q=p)=true then dE (M p) d (Uq s)else M q
theorem uQ(M:List Ky->Dt->Option ByteArray)(p:List Ky)(d:Dt)(s:ByteArray):mO M p d s p=dE (M p) d (Uq s):=by unfold mO;rw[if_pos (aN rfl)]
theorem sN(M:List Ky->Dt->Option ByteArray){p q:List Ky}(d:Dt)(s:ByteArray)(h:q≠p):mO M p d s q=M q:=by unfold mO;rw[if_neg (by rw[aJ h];simp)]
theorem bB.mark{p:List Ky}{x:Nat×Nat}{d:Dt}{s:ByteArray}(h:bB w B N M c)(hN:N p=Uq x)
  (hu:aO w' 99 aX cH x.2 (c+1) (dE (M p) d (Uq s))) (hg:w.grownBy w' (Uq x.2)):bB w' B N (mO M p d s) (c+1):=by
 have j:∀g,g<w.1.size->g≠x.2->w'.1[g]? =w.1[g]? :=λg h1 h2=>hg.block g h1 (λe=>h2 (by injection e));refine⟨λq z hz=>?_,λq z hz=>?_,h.apart,h.lo,λq hq=>?_,h.up⟩
 .exact((h.kids q z hz).same (j _ (h.lt hz).1 (h.apart q p z x hz hN).1)).mono (UD _)
 .by_cases e:q=p
  .subst e;rw[hN]at hz;cases hz;rw[uQ];exact hu
  .rw[sN _ _ _ e];exact((h.marks q z hz).same (j _ (h.lt hz).2 λe2=>e ((h.apart q p z x hz hN).2.2 e2))).mono (UD _)
 .have e:q≠p:=λe=>by subst e;rw[hN]at hq;cases hq
  rw[sN _ _ _ e];exact h.none' q hq
end
theorem aV.gt(h:aV w a p)(hg:Gt B w w1):aV w1 a p:=by
 refine h.imp id ?_;rintro⟨b,off,e,k,j⟩;exact⟨b,off,e,Ut k hg.size,λi hi=>hg.cell (j i hi)⟩
theorem gA.gt{l:List Lf}(h:gA w a l)(hg:Gt B w w1):gA w1 a l:=by
 refine h.imp id ?_;rintro⟨b,off,e,v,u⟩;refine⟨b,off,e,Ut v hg.size,λi hi=>?_⟩;have⟨y,pc,j,s,k,m,q,r⟩:=u i hi;exact⟨y,pc,hg.cell j,s.gt hg,hg.cell k,hg.cell m,hg.cell q,hg.cell r⟩
def bO(p:List ByteArray)(k:Int)(i:Nat):Ky:=(gS p i,if i+1<p.length then 3 else k)
theorem Wl(p:List ByteArray)(a:Option Us)(c:Nat)(k:Int)(i:Nat)(w:Ur)(hp:p.length<=1048576)(hi:i<p.length)(h:aV w a p):
  Cl 133 #[Uf a p.length c,Ud i,Ud k] w (Rt w (aP (bO p k i))):=by
 rcases h with h|⟨b,off,rfl,t,y⟩
 .omega
 have x0:=y i hi;have A:(0:Int)<=(i:Int):=VH _;have E:(i:Int)<(p.length:Int):=oM;generalize u:gS p i=s;rw[u]at x0;have j:aA (bO p k i=(s,if i+1<p.length then 3 else k)):=aC (by unfold bO;rw[u]);obtain⟨m,z⟩:∃m:Nat,p.length=m+1:=⟨p.length-1,oM⟩;have o:IntKind.i64.wrap ((p.length:Int)-1)=(m:Int):=by rw[Vm];omega
 by_cases q:i+1<p.length;have g:decide (i<m)=true:=oS;have r:=aC (show bO p k i=(s,3) by rw[j.out,if_pos q]);rotate_left;have g:decide (i<m)=false:=oS;have r:=aC (show bO p k i=(s,k) by rw[j.out,if_neg q]);rotate_left;all_goals clear j q z;go_enter func133,ntmps133;go_wp2_with fail
 .refine zF (v:=Uo #[Um s,Ud 3]) (by simp[results,results133,go_sem]) ⟨by rw[r.out];rfl,?_⟩;exact zO _ _
 .refine zF (v:=Uo #[Um s,Ud k]) (by simp[results,results133,go_sem]) ⟨by rw[r.out];rfl,?_⟩;exact zO _ _
theorem sK(w:Ur):
  Cl 95 #[] w λe w'=>∃s s',e=Ui (Uo #[.map (Uq s),.map (Uq s')])/\s≠s'/\w.1.size<=s/\w.1.size<=s'/\aO w' 175 (α:=Ky) aP bE s 0 (λ_=>Up)/\aO w' 99 (α:=Dt) aX cH s' 0 (λ_=>Up)/\Bl w w':=by
 have m:=@run_makeMap prog;have j:=aC<|(aO.made (α:=Ky) (w.alloc (Uj #[.map (Uq (w.1.size+1)),.map (Uq (w.1.size+1+1))] 107)) 175 aP bE).same (w':=(((w.alloc (Uj #[.map (Uq (w.1.size+1)),.map (Uq (w.1.size+1+1))] 107)).alloc (.map #[] 0)).alloc (.map #[] 0))) (Below.heap_alloc _ _ _ oP);have k:=aC<|aO.made (α:=Dt) ((w.alloc (Uj #[.map (Uq (w.1.size+1)),.map (Uq (w.1.size+1+1))] 107)).alloc (.map #[] 0)) 99 aX cH;go_enter func95,ntmps95;go_wp2_with fail;refine zF (v:=Uo #[.map (Uq (w.1.size+1)),.map (Uq (w.1.size+1+1))]) (by simp[results,results95,go_sem]) ⟨_,_,rfl,oM,oM,oM,oU j,by simpa using k.out,?_⟩;exact((zO _ _).alloc oP _).alloc oS _
structure aD(w:Ur)(b:Nat)(v0 v1:aB):Prop where
 c0:w.cell? (Ub b)=Uq v0
 c1:w.cell? (Ua b 1)=Uq v1
 f:∀i,w.frozen? (Ua b i)=false
 lt:b<w.1.size
theorem aD.q2(h:aD w b v0 v1):w.cell? (Ub b)=Uq v0/\w.cell? (Ua b 1)=Uq v1:=⟨h.c0,h.c1⟩
theorem aD.p2(h:aD w b v0 v1):w.cell? (Ub b)=Uq v0/\w.cell? (Ua b 1)=Uq v1/\∀i,w.frozen? (Ua b i)=false:=⟨h.c0,h.c1,h.f⟩
theorem aD.bw(h:aD w b v0 v1)(hb:Below B w w')(hB:b<B):aD w' b v0 v1:=
 ⟨(hb.cell (p:=(Ub b)) hB).trans h.c0,(hb.cell (p:=(Ua b 1)) hB).trans h.c1,λi=>(hb.frozen (p:=(Ua b i)) hB).trans (h.f i),Ut h.lt hb.size⟩
theorem aD.gt(h:aD w b v0 v1)(hg:Gt B w w'):aD w' b v0 v1:=
 ⟨hg.cell h.c0,hg.cell h.c1,λi=>(hg.frozen (q:=(Ua b i)) h.c0 rfl).trans (h.f i),Ut h.lt hg.size⟩
theorem aD.setAt(h:aD w b v0 v1)(q:Us)(u:aB)(hq:q.block≠b):aD (w.setCell q u) b v0 v1:=
 ⟨by rw[Vp _ _ _ _ hq];exact h.c0,by rw[Vp _ _ _ _ hq];exact h.c1,λi=>by rw[Vq];exact h.f i,by simp[Vr];exact h.lt⟩
theorem aD.set0(h:aD w b v0 v1)(u:aB):aD (w.setCell (Ub b) u) b u v1:=
 ⟨Vs _ _ _ h.c0,by simp[Vt,h.c1],λi=>by rw[Vq];exact h.f i,by simp[Vr];exact h.lt⟩
theorem aD.set1(h:aD w b v0 v1)(u:aB):aD (w.setCell (Ua b 1) u) b v0 u:=
 ⟨by simp[Vt,h.c0],Vs _ _ _ h.c1,λi=>by rw[Vq];exact h.f i,by simp[Vr];exact h.lt⟩
theorem aD.set(h:aD w b v0 v1)(u u':aB):aD ((w.setCell (Ub b) u).setCell (Ua b 1) u') b u u':=(h.set0 u).set1 u'
theorem aD.made(w:Ur)(v0 v1:aB)(t:TypeId):aD (w.alloc (Uj #[v0,v1] t)) w.1.size v0 v1:=⟨oP,oP,λi=>oP,oP⟩
theorem aD.allocs(h:aD w b v0 v1)(o:Obj):aD (w.alloc o) b v0 v1:=h.bw (zO _ o) h.lt
structure gO(w:Ur)(b:Nat)(v0:aB):Prop where
 c0:w.cell? (Ub b)=Uq v0
 f:∀i,w.frozen? (Ua b i)=false
 lt:b<w.1.size
theorem gO.bw(h:gO w b v0)(hb:Below B w w')(hB:b<B):gO w' b v0:=
 ⟨(hb.cell (p:=(Ub b)) hB).trans h.c0,λi=>(hb.frozen (p:=(Ua b i)) hB).trans (h.f i),Ut h.lt hb.size⟩
theorem gO.gt(h:gO w b v0)(hg:Gt B w w'):gO w' b v0:=
 ⟨hg.cell h.c0,λi=>(hg.frozen (q:=(Ua b i)) h.c0 rfl).trans (h.f i),Ut h.lt hg.size⟩
theorem gO.setAt(h:gO w b v0)(q:Us)(u:aB)(hq:q.block≠b):gO (w.setCell q u) b v0:=
 ⟨by rw[Vp _ _ _ _ hq];exact h.c0,λi=>by rw[Vq];exact h.f i,by simp[Vr];exact h.lt⟩
theorem gO.made(w:Ur)(v0:aB)(t:TypeId):gO (w.alloc (Uj #[v0] t)) w.1.size v0:=⟨oP,λi=>oP,oP⟩
theorem Gt.set(h:Gt B w wr)(q:Us)(u:aB)(hq:w.1.size<=q.block):Gt B w (wr.setCell q u):=
 ⟨h.os,h.tape,h.output,by simpa[Vr]using h.size,λg hg ho=>(zH _ _ _ _ oM).trans (h.block g hg ho)⟩
theorem Gt.keep(h:Gt B w wr)(hb:Bl wr w1):Gt B w w1:=h.trans (Gt.of_below hb)
theorem Ag{α β:Type}(w:Ur){ops:Array Oper}{rest:List Oper}{o:Oper}{a:Act}{Q:Exit->Act->Ur->Prop}
  (hg:o.guard=Up) (m x v:Operand) (mt:TypeId) (hop:o.op=Op.mapUpdate mt m x v) (t e:TypeId) (K:Keyed prog t) (kv:α->aB) (hi:∀x y,kv x=kv y->x=y) (ht:prog.underlying mt=Uq (.map t e)) (vo:Option β->aB) (b c:Nat) (f:α->Option β)
  (hm:a.eval m=.map (Uq b)) (h:aO w t kv vo b c f) (hc:c<maxLen) (k:α) (y:β) (kl:Lit) (hx:a.eval x=kv k) (hv:a.eval v=vo (Uq y)) (hk:keyOf prog t (kv k)=Uq kl)
  (hK:∀w',aO w' t kv vo b (c+1) (dE f k (Uq y))->w.grownBy w' (Uq b)->wpList prog ops Q rest (a.put o.dst undef) w'):
  wpList prog ops Q (o::rest) a w:=by
 refine wpList_plain hg λK' hK'=>?_;have⟨w',j,r1,r2⟩:=h.store K hi ht hc (y:=y) hk;unfold Oper.wp;simp[execOp,hop,hm,hx,hv,j,Result.andThen];exact hK' _ _<|hK w' r1 r2
variable {EX : Nat-> Option aB}
def fV(EX:Nat->Option aB)(w:Ur)(cb:Nat)(a:Option Us)(n c:Nat)(x:Int):Prop:=w.cell? (Ub cb)=Uq (Uf a n c)/\w.cell? (Ua cb 1)=Uq (Ud x)/\w.frozen? (Ua cb 1)=false/\∀i,2<=i->w.cell? (Ua cb i)=EX i/\w.frozen? (Ua cb i)=false
theorem pG{Q:Prop}(h:Q:=by
 rcases Nat.lt_or_ge cb w.1.size with j|j
 .exact j
 .have:=h.1;simp[Vx,Array.getElem?_eq_none j]at this):Q:=h
theorem fV.lt(h:fV EX w cb a n c x):cb<w.1.size:=by
 exact pG
theorem fV.bw(h:fV EX w cb a n c x)(hb:Below B w w')(hB:cb<B):fV EX w' cb a n c x:=
 ⟨(hb.cell (p:=(Ub cb)) hB).trans h.1,(hb.cell (p:=(Ua cb 1)) hB).trans h.2.1,(hb.frozen (p:=(Ua cb 1)) hB).trans h.2.2.1,λi hi=>⟨(hb.cell (p:=(Ua cb i)) hB).trans (h.2.2.2 i hi).1,(hb.frozen (p:=(Ua cb i)) hB).trans (h.2.2.2 i hi).2⟩⟩
theorem fV.set(h:fV EX w cb a n c x)(y:Int):fV EX (w.setCell (Ua cb 1) (Ud y)) cb a n c y:=by
 have⟨j,k,m,q⟩:=h;refine⟨?_,?_,?_,λi hi=>?_⟩
 .simp[Vt,j]
 .exact Vs _ _ _ k
 .rw[Vq];exact m
 .rw[Vt _ _ _ _ (by intro e;injection e with _ e;omega),Vq];exact q i hi
theorem fV.at'(h:fV EX w cb a n c x)(hb:w'.1[cb]? =w.1[cb]?):fV EX w' cb a n c x:=
 ⟨(Vy (a:=(Ub cb)) hb).trans h.1,(Vy (a:=(Ua cb 1)) hb).trans h.2.1,(Vz (a:=(Ua cb 1)) hb).trans h.2.2.1,λi hi=>⟨(Vy (a:=(Ua cb i)) hb).trans (h.2.2.2 i hi).1,(Vz (a:=(Ua cb i)) hb).trans (h.2.2.2 i hi).2⟩⟩
theorem vN{Q:Prop}(h:Q:=by
 refine⟨h.os,h.tape,h.output,?_,λk hk hne=>?_⟩
 .have:=h.size;simpa[Vr]using this
 .exact(zH _ _ _ _ (λe=>hne (by rw[e]))).trans (h.block k hk oP)):Q:=h
theorem Nn(h:w.grownBy w1 Up)(v:aB):w.grownBy (w1.setCell (Ua cb i) v) (Uq cb):=by
 exact vN
theorem Af(w:Ur)(n:Nat)(row:Option Nat):w.grownBy (w.drewN n) row:=⟨rfl,rfl,rfl,Ux _,λ_ _ _=>rfl⟩
theorem AN{a:Ur}(h:Below B a w)(n:Nat):Below B a (w.drewN n):=⟨h.os,h.tape,h.output,h.size,h.block⟩
theorem NC(cb b off n c p:Nat)(z:Int)(w:Ur)(hn:n<=1048576)(hcur:fV EX w cb (Uq (Ua b off)) n c (p:Int))(hp:p<n)(hc:w.cell? (Ua b (off+p))=Uq (Ug .u8 z)):
  Cl 255 #[Uk (Uc cb)] w λe w'=>e=Ui (Ul #[Ug .u8 z,.nilIface])/\fV EX w' cb (Uq (Ua b off)) n c ((p+1:Nat):Int)/\w.grownBy w' (Uq cb):=by
 have j:=aC hcur;have⟨u,v,y,_⟩:=hcur;have m:decide ((p:Int)<0)=false:=oP;have q:(0:Int)<=(p:Int):=VH _;have r:(p:Int)<(n:Int):=oM;go_enter func255,ntmps255;go_wp2_with fail;go_quiet (fail);go_wp2_with fail;go_quiet (fail);go_wp2_with fail;go_ret2;refine⟨rfl,?_,?_⟩
 .first|exact j.set _|(simp;exact j.set _)
 .first|exact Nn (Af _ _ _) _|(simp;exact Nn (Af _ _ _) _)
theorem qM{Q:Prop}(h:Q:=by clear h9 h0;go_enter func256,ntmps256;go_wp2_with fail;go_ret;exact⟨rfl,rfl⟩):Q:=h
theorem DT(z j:Nat)(w:Ur)(hz:z<256)(h9:9<=j->z<=1)(h0:0<j->0<z)(hj:j<=9):
  Cl 256 #[Ug .u8 (z:Int),Ud (j:Int)] w λe w'=>e=Ui .nilIface/\w'=w:=by
 by_cases m:9<=j
 .have r:=h9 m;have q:=h0 oM;exact qM
 .by_cases k:0<j
  .have q:=h0 k;exact qM
  .exact qM
theorem iN(h1:w.grownBy w1 (Uq cb))(h2:w1.grownBy w2 (Uq cb)):w.grownBy w2 (Uq cb):=
 h1.andThen h2 (λj hj=> .inr hj)
theorem oY(h1:w.grownBy w1 (Uq cb))(h2:Bl w1 w2):w.grownBy w2 (Uq cb):=
 iN h1 ⟨h2.os,h2.tape,h2.output,h2.size,λk hk _=>h2.block k hk⟩
theorem sP(w:Ur)(row:Option Nat):w.grownBy w row:=⟨rfl,rfl,rfl,Ux _,λ_ _ _=>rfl⟩
theorem OP(z:Nat)(h:z<256):bits BinOp.and Vl (z:Int) 127=((z%128:Nat):Int):=by
 have:=u8_and_nat z 127 oM oM;rw[show(127:Nat)=2^7-1 from rfl,Uv]at this;exact this
theorem GN(x y j:Nat)(hx:x<128^j)(h:x+y*128^j<18446744073709551616):bits BinOp.or IntKind.u64 (x:Int) ((y*128^j:Nat):Int)=((x+y*128^j:Nat):Int):=by
 have e:=u64_or_nat x (y*128^j) oM oM;have m:x|||(y*128^j)=x+y*128^j:=by
  have k:128^j=2^(7*j):=by rw[Nat.pow_mul]
  rw[k]at hx⊢;have:=Uw (i:=7*j) (b:=x) hx y;rw[Nat.or_comm,UE y];omega
 rw[m]at e;exact e
theorem QE(x z j:Nat)(hz:z<256)(hx:x<128^j)(h:x+z%128*128^j<18446744073709551616):
  bits BinOp.or IntKind.u64 (x:Int) (IntKind.u64.wrap (IntKind.u64.wrap (bits BinOp.and Vl (z:Int) 127)*2^(7*j)))=((x+z%128*128^j:Nat):Int):=by
 have k:((2:Int)^(7*j))=((128^j:Nat):Int):=by
  rw[Int.pow_mul];push_cast;rfl
 have m:IntKind.u64.wrap ((z%128:Nat):Int)=((z%128:Nat):Int):=by rw[Vn];omega
 have r:((z%128:Nat):Int)*((128^j:Nat):Int)=((z%128*128^j:Nat):Int):=by push_cast;rfl
 have u:IntKind.u64.wrap ((z%128*128^j:Nat):Int)=((z%128*128^j:Nat):Int):=by
  obtain⟨q,v⟩:∃q:Nat,q=z%128*128^j:=⟨_,rfl⟩;rw[<-v]at h⊢;rw[Vn];omega
 rw[OP z hz,k,m,r,u];exact GN x (z%128) j hx h
def At(f:Nat->Int)(p:Nat)(U:List Int):Prop:=∀i,i<U.length->f (p+i)=U.getD i 0
theorem At.tail{f:Nat->Int}{p:Nat}(h:At f p (z::U)):At f (p+1) U:=by
 intro i hi;have:=h (i+1) oS;rw[show p+1+i=p+(i+1)from by omega,this];simp
theorem At.head{f:Nat->Int}{p:Nat}(h:At f p (z::U)):f p=z:=by simpa using h 0 oP
theorem AV{W:List Int}(h:i<U.length):(U++W).getD i 0=U.getD i 0:=by
 simp[UL,h,List.getElem?_append_left]
theorem At.app{f:Nat->Int}{x:Nat}{W:List Int}:At f x (U++W)↔At f x U/\At f (x+U.length) W:=by
 constructor
 .intro h;refine⟨λi hi=>?_,λi hi=>?_⟩
  .have:=h i oS;rw[this,AV hi]
  .have:=h (U.length+i) oS;rw[UF,this];simp[UL,Va]
 .rintro⟨k,m⟩ i hi;by_cases j:i<U.length
  .rw[k i j,AV j]
  .have:=m (i-U.length) (by simp at hi;omega);rw[show x+U.length+(i-U.length)=x+i from by omega]at this;rw[this];simp[UL,Va (show U.length<=i by omega)]
theorem bY.grown{f:Nat->Int}(h:bY w a n f)(g:w.grownBy w1 (Uq cb))(hab:∀y,a=Uq y->y.block≠cb):bY w1 a n f:=by
 rcases h with h|⟨b,off,rfl,j,k⟩
 .exact .inl h
 .refine .inr ⟨b,off,rfl,Ut j g.size,λi hi=>?_⟩;rw[Vy (g.block b j (by have:=hab _ rfl;simpa using this))];exact k i hi
def gW(f:Nat->Int)(p L:Nat):ByteArray:=⟨((Vb L).map λi=>UInt8.ofNat (f (p+i)).toNat).toArray⟩
theorem Nv{off p L:Nat}{f:Nat->Int}(hf:dO f)(hc:∀i,i<L->w.cell? (Ua b (off+p+i))=Uq (Ug .u8 (f (p+i)))):
  (convert 22 9 (Uf (Uq (Ua b (off+p))) L cap)).run prog w=.ok (Um (gW f p L)) w:=by
 have r:((Vb L).map λi=>UInt8.ofNat (f (p+i)).toNat).length=L:=oP;have:=run_convert_bytes_back (P:=prog) w 22 9 5 (Ua b (off+p)) cap ((Vb L).map λi=>UInt8.ofNat (f (p+i)).toNat) underlying22 underlying5 underlying9 (λj hj=>by
  have q:j<L:=oU hj;have e:(Addr.add (Ua b (off+p)) j)=(Ua b (off+p+j)):=by
   by_cases k:j=0
   .subst k;simp[Addr.add]
   .simp[Addr.add,k]
  rw[e,hc j q];have:=hf (p+j);simp only[List.getElem_map,List.getElem_range,Option.some.injEq,Value.int.injEq,true_and];have m:(UInt8.ofNat (f (p+j)).toNat).toNat=(f (p+j)).toNat%256:=oP;rw[m];omega)
 rw[r]at this;exact this
theorem Nu(ad:Us)(p cap:Nat)(f:Nat->Int):(convert 22 9 (Uf (Uq ad) 0 cap)).run prog w=.ok (Um (gW f p 0)) w:=
 run_convert_bytes_back (P:=prog) w 22 9 5 ad cap [] underlying22 underlying5 underlying9 (λj hj=>by simp at hj)
theorem WB{f:Nat->Int}(hf:dO f)(i:Nat):((UInt8.ofNat (f i).toNat).toNat:Int)=f i:=by
 have:=hf i;have h:(UInt8.ofNat (f i).toNat).toNat=(f i).toNat:=oS;rw[h];omega
theorem WH{f:Nat->Int}(hf:dO f)(p L:Nat):gM (gW f p L)=(Vb L).map λi=>f (p+i):=by
 unfold gM gW;simp only[US];apply List.map_congr_left;intro i _;exact WB hf<|p+i
theorem BD:∀{a b:List UInt8},(a.map λx=>(x.toNat:Int))=(b.map λx=>(x.toNat:Int))->a=b
 |[],[],_=>rfl
 |[],_::_,h=>by simp at h
 |_::_,[],h=>by simp at h
 |x::a,y::b,h=>by
  simp only[UQ,List.cons.injEq]at h;have e:x=y:=UInt8.toNat_inj.1<|Int.ofNat.inj h.1;rw[e,BD h.2]
theorem WK{t:ByteArray}(h:gM s=gM t):s=t:=by
 have⟨⟨s⟩⟩:=s;have⟨⟨t⟩⟩:=t;have e:s=t:=BD h;rw[e]
theorem Td{f:Nat->Int}(hf:dO f){p:Nat}(h:At f p (gM s)):gW f p s.size=s:=by
 apply WK;rw[WH hf];apply List.ext_getElem?;intro i;by_cases hi:i<s.size
 .have:=h i (by rw[mE];exact hi);have j:i<(gM s).length:=by rw[mE];exact hi
  simp[hi,j,this,UL]
 .have j:(gM s).length<=i:=by rw[mE];omega
  rw[UT j,UT oS]
theorem aD.sm(h:aD w b v0 v1)(e:w'.1[b]? =w.1[b]?)(hs:w.1.size<=w'.1.size):aD w' b v0 v1:=
 ⟨(Vy (a:=(Ub b)) e).trans h.c0,(Vy (a:=(Ua b 1)) e).trans h.c1,λi=>(Vz (a:=(Ua b i)) e).trans (h.f i),Ut h.lt hs⟩
def Rb(f:Nat->Int)(n x:Nat)(U:List Int)(x':Nat):Prop:=At f x U/\x'=x+U.length/\x'<=n
theorem Rb.app{f:Nat->Int}{x:Nat}{W:List Int}(h:Rb f n x (U++W) x'):∃y,Rb f n x U y/\Rb f n y W x':=by
 have⟨j,k,m⟩:=h;rw[At.app]at j;rw[UM]at k;exact⟨_,⟨j.1,rfl,oM⟩,j.2,oM,m⟩
theorem Rb.cons{f:Nat->Int}{x:Nat}(h:Rb f n x (z::U) x'):f x=z/\x<n/\Rb f n (x+1) U x':=by
 have⟨j,k,m⟩:=h;rw[UP]at k;exact⟨j.head,oM,j.tail,oM,m⟩
theorem Rb.nil{f:Nat->Int}{x:Nat}(h:Rb f n x [] x'):x'=x:=h.2.1
structure Cu(EX:Nat->Option aB)(w:Ur)(cb:Nat)(a:Option Us)(n c:Nat)(f:Nat->Int)(x:Nat):Prop where
 cur:fV EX w cb a n c (x:Int)
 seg:bY w a n f
 ab:∀y,a=Uq y->y.block≠cb
 hn:n<=1048576
 nc:n<=c
 cc:c<=9223372036854775807
 byt:dO f
section
variable {w w' : Ur}{cb n c x x' : Nat}{a : Option Us}{f : Nat-> Int}{v : aB}
theorem Cu.mv(h:Cu EX w cb a n c f x)(g:w.grownBy w' (Uq cb))(k:fV EX w' cb a n c (x':Int)):Cu EX w' cb a n c f x':=⟨k,h.seg.grown g h.ab,h.ab,h.hn,h.nc,h.cc,h.byt⟩
theorem Cu.bw(h:Cu EX w cb a n c f x)(hb:Bl w w'):Cu EX w' cb a n c f x:=⟨h.cur.bw hb h.cur.lt,h.seg.bw hb,h.ab,h.hn,h.nc,h.cc,h.byt⟩
theorem Cu.lt(h:Cu EX w cb a n c f x):cb<w.1.size:=h.cur.lt
def kH(EX:Nat->Option aB)(w:Ur)(cb:Nat)(a:Option Us)(n c:Nat)(f:Nat->Int)(x':Nat)(v:aB)(e:Ending)(w':Ur):Prop:=e=Ui v/\w.grownBy w' (Uq cb)/\Cu EX w' cb a n c f x'
theorem Qu(h:Cu EX w cb a n c f x)(hx:x<n):Cl 255 #[Uk (Uc cb)] w λe w'=>kH EX w cb a n c f (x+1) (Ul #[Ug .u8 (f x),.nilIface]) e w':=by
 rcases h.seg with k|⟨b,off,rfl,m,j⟩
 .omega
 exact(NC cb b off n c x (f x) w h.hn h.cur hx (j x hx)).mono λe w' ⟨h1,cu,g⟩=>⟨h1,g,h.mv g cu⟩
end
theorem GM{acc:Nat}(hV:V<18446744073709551616)(e:V=acc+m*128^j)(h9:9<=j):m<=1:=by
 have k:128^9<=128^j:=UG oM h9;rcases Nat.lt_or_ge 1 m with h|h
 .have q:2*128^9<=m*128^j:=Nat.mul_le_mul h k;omega
 .exact h
theorem Pl{x:Nat}{f:Nat->Int}(h:Cu EX w cb a n c f x)(hV:V<18446744073709551616)(g:Rb f n x (aI 9 V) x'):
  Cl 238 #[Uk (Uc cb)] w λe w'=>kH EX w cb a n c f x' (Ul #[Ug .u64 (V:Int),.nilIface]) e w':=by
 have C:=aC h;have F:=aC g;have⟨k0,k1,k2,_⟩:=h.cur;go_enter func238,ntmps238;go_wp2_with fail;go_loopw [5,6] (λv i wr=>∃(j k m q y:Nat),j+k=9/\y=x+j/\i=Ud (j:Int)/\v=Ug .u64 (q:Int)/\aA (V=q+m*128^j/\q<128^j/\m<128^(k+1)/\(0<j->0<m)/\Rb f n y (aI k m) x')/\aA (Cu EX wr cb a n c f y)/\aA (w.grownBy wr (Uq cb))) (λ_ i _=>9-(intOf i).toNat);case atStart=>exact⟨0,9,V,0,x,rfl,rfl,rfl,rfl,aC ⟨oP,oP,oS,oM,F⟩,C,aC (sP _ _)⟩
 case round=>
  obtain⟨j,k,m,q,y,He,hy,rfl,rfl,Q,T,W⟩:=hrel;have⟨A,E,M,B,t⟩:=Q.out;obtain⟨z,o,X,Ha⟩:∃z:Nat,(f y=(z:Int)/\y<n)/\z<256/\((z<128/\z=m/\x'=y+1)\/(128<=z/\z%128=m%128/\128<=m/\∃r,k=r+1/\Rb f n (y+1) (aI r (m/128)) x')):=by
   by_cases s:m<128
   .rw[rW _ _ s]at t;have⟨r1,r2,O⟩:=t.cons;exact⟨m,⟨r1,r2⟩,oM,.inl ⟨s,rfl,O.nil⟩⟩
   .cases k with
    |zero=>simp at M;omega
    |succ r=>
     rw[rX _ _ s]at t;have⟨r1,r2,O⟩:=t.cons;exact⟨128+m%128,⟨r1,r2⟩,oM,.inr ⟨oM,oM,oM,r,rfl,O⟩⟩
  have p:9<=j->m<=1:=λh=>GM hV A h;have b:=aC (Qu T o.2);rw[o.1]at b;have J:=aC (QE q z j X E (by
   have S:z%128<=m:=oM;have:=UH (128^j) S;omega))
  have Y:=aC (λw=>DT z j w X (λh=>oH (p h)) (λh=>oH (B h)) oM);have U:=aC (And.intro A (And.intro E (And.intro M p)));have Hd:j<=9:=oM;go_wp2_with fail;refine b.mono ?_;rintro e w1⟨rfl,G,Z⟩;have H:=aC Z;have I:=aC (iN W G);rcases Ha with⟨L,rfl,K⟩|⟨L,N,Hb,r,rfl,g⟩;have R:=aC K;have u:aA (q+z%128*128^j=V):=aC (by rw[UI L];exact U.1.symm);rotate_left;have P:=aC g;have u:aA (V=(q+z%128*128^j)+m/128*128^(j+1)/\q+z%128*128^j<128^(j+1)/\m/128<128^(r+1)):=aC (by
   have⟨q1,q2,q3,_⟩:=U.out;refine⟨?_,?_,?_⟩
   .rw[N,q1,Uu,UF,UE (128^j) 128,<-Nat.mul_assoc,<-Nat.add_mul];congr 2;omega
   .rw[Uu];have:=UH (128^j) (show z%128<=127 by omega);omega
   .rw[Uu]at q3;omega)
  have D:aA (0<m/128):=aC oM;rotate_left;all_goals go_wp2_with fail;refine(Y _).mono ?_;rintro e w2⟨rfl,rfl⟩;go_wp2_with fail
  .go_ret2;refine⟨?_,I,by rw[R.out];exact H⟩;rw[<-u.out,<-J.out];rfl
  .exact⟨⟨j+1,r,m/128,q+z%128*128^j,y+1,oM,oM,oN,by rw[J.out],aC ⟨u.1,u.2.1,u.2.2,λ_=>D.out,P⟩,H,I⟩,oE⟩
theorem oT{x:Nat}{f:Nat->Int}{most:Int}(h:Cu EX w cb a n c f x)(hV:(V:Int)<=most)(hm:most<=1000000000000)(hR:Rb f n x (aI 9 V) x'):
  Cl 215 #[Uk (Uc cb),Ud most] w λe w'=>kH EX w cb a n c f x' (Ul #[Ud (V:Int),.nilIface]) e w':=by
 have j:=aC<|Pl h oM hR;have z:IntKind.u64.wrap most=most:=by rw[Vn];omega
 have v:decide (most<0)=false:=oS;have y:decide (most<(V:Int))=false:=oU hV;have u:IntKind.i64.wrap (V:Int)=(V:Int):=by rw[Vm];omega
 go_enter func215,ntmps215;go_wp2_with fail;refine j.mono ?_;rintro e w1⟨rfl,m,k⟩;have r:=aC m;have q:=aC k;go_wp2_with fail;go_ret2;exact⟨by first|rfl|rw[u],r,q⟩
theorem kU{ops:Array Oper}{rest:List Oper}{o:Oper}{a:Act}{Q:Exit->Act->Ur->Prop}(hgd:o.guard=Up)(s x:Operand)(t:TypeId)
  (ho:o.op=.call {callee:=.builtin .append,args:=#[s,x],argTypes:=#[t,t]})
  (base:Nat) (e:TypeId) (i:TypeInfo) (z:aB) (size bytes:Nat) (ht:P.underlying t=Uq (.slice e)) (hi:P.info? e=Uq i) (hz:i.zero=Uq z)
  (hsize:i.size=size) (hby:i.bytes=bytes) (hzs:z.cells.size=size) (hsz:0<size)
  (v:aB) (n:Nat) (xs:List aB) (hs:a.eval s=v) (hown:w.ownsRow base e size v n xs)
  (ad:Us) (m c:Nat) (news:List aB) (hx:a.eval x=Uf (Uq ad) m c) (hl:news.length=m*size) (hnews:∀j u,news[j]? =Uq u->w.cell? (ad.add j)=Uq u) (h1:∀u∈news,u.oneCell'=true)
  (h63:n+m<=maxLen) (hbytes:(n+m)*bytes<=140737488355328) (hbase:base<=w.1.size)
  (h:∀v' w',w'.ownsRow base e size v' (n+m) (xs++news)->w.grownBy w' v.ownBlock->(v'.ownBlock=v.ownBlock\/v'.ownBlock=Uq w.1.size)->wpList P ops Q rest (a.put o.dst v') w'):wpList P ops Q (o::rest) a w:=
 wpList_plain hgd λ_ hK=>Oc s x t ho base e i z size bytes ht hi hz hsize hby hzs hsz v n xs hs hown ad m c news hx hl hnews h1 h63 hbytes hbase λv' w' h2 h3 h4=>hK _ _ (h v' w' h2 h3 h4)
structure Gr(w w':Ur)(b0 b:aB):Prop where
 g:w.grownBy w' b0.ownBlock
 l:b.ownBlock=b0.ownBlock\/∃k,b.ownBlock=Uq k/\w.1.size<=k
theorem Gr.refl(w:Ur)(b:aB):Gr w w b b:=⟨⟨rfl,rfl,rfl,Ux _,λ_ _ _=>rfl⟩,.inl rfl⟩
theorem Gr.trans{b1 b2:aB}(h1:Gr w w1 b0 b1)(h2:Gr w1 w2 b1 b2):Gr w w2 b0 b2:=by
 refine⟨h1.g.andThen h2.g (λj hj=>?_),?_⟩
 .rcases h1.l with e|⟨k,e,m⟩
  .exact .inr<|e▸hj
  .rw[e]at hj;injection hj with hj;exact .inl oM
 .rcases h2.l with e|⟨k,e,m⟩
  .rw[e];exact h1.l
  .exact .inr ⟨k,e,Uz h1.g.size m⟩
theorem Gr.alloc{b:aB}(h:Gr w w1 b0 b)(o:Obj):Gr w (w1.alloc o) b0 b:=
 h.trans ⟨VA w1 o _,.inl rfl⟩
theorem Gr.app{b:aB}(h:w.grownBy w1 b.ownBlock)(hl:b'.ownBlock=b.ownBlock\/b'.ownBlock=Uq w.1.size):Gr w w1 b b':=
 ⟨h,hl.imp id (λe=>⟨_,e,Ux _⟩)⟩
theorem Gr.bw{b:aB}(h:Gr w w1 b b')(hB:B<=w.1.size)(hb:∀k,b.ownBlock=Uq k->B<=k):Below B w w1:=
 (Below.refl B w).grown h.g hB hb
theorem Gr.of_below{b:aB}(h:Bl w w1):Gr w w1 b b:=
 ⟨⟨h.os,h.tape,h.output,h.size,λk hk _=>h.block k hk⟩,.inl rfl⟩
theorem oR(B m0:Nat)(bv:aB)(zs0:List Int)(w:Ur)(hm:m0<18446744073709551616)(hB:B<=w.1.size)(hl:zs0.length<=1000000000000)(ho:Own w B bv zs0):
  Cl 108 #[bv,Ug .u64 (m0:Int)] w λe w'=>∃v,e=Ui v/\Own w' B v (zs0++aI 9 m0)/\Gr w w' bv v/\w.1.size<w'.1.size:=by
 have⟨Z,hi,U,V,Y⟩:=info_parts Tryz.infoByte;go_enter func108,ntmps108;go_wp2_with fail;go_loopw [0,1] (λb v wr=>∃(k m:Nat) (r:List Int),k<=9/\m<128^(k+1)/\m<18446744073709551616/\v=Ug .u64 (m:Int)/\Own wr B b r/\Gr w wr bv b/\w.1.size<=wr.1.size/\r.length+k<=zs0.length+9/\r++aI k m=zs0++aI 9 m0) (λ_ v _=>(intOf v).toNat);case atStart=>exact⟨9,m0,zs0,Ux _,oM,hm,rfl,ho,Gr.refl _ _,Ux _,Ux _,rfl⟩
 case round=>
  obtain⟨k,m,r,L,Q,K,rfl,z,E,C,X,M⟩:=hrel;have i:aA (r++aI k m=zs0++aI 9 m0):=M;have p:aA (m<128^(k+1)):=Q;have o:=aC E;unfold Own at z;by_cases O:m<128
  .go_wp2_with (at_builtin;refine kU rfl _ _ 22 rfl B 5 Z (Ug .u8 0) 1 1 underlying22 hi U V Y rfl oD _ _ _ rfl (z.alloc _) (Ub wr.1.size) 1 1 [Ug .u8 (m:Int)] rfl rfl ?c1 ?c2 ?c3 ?c4 ?c5 ?_);case c1=>exact cell_one_new _ _ _
   case c2=>intro u t;simp at t;subst t;rfl
   case c3=>unfold maxLen;omega
   case c4=>omega
   case c5=>simp;omega
   .intro v' w1 g q y;have R:Own w1 B v' (zs0++aI 9 m0):=by
     rw[<-i.out,rW k m O];unfold Own;rw[UM,UN];exact g
    have s:=aC<|(o.alloc _).trans (Gr.app (b':=v') q (oU y));have A:=q.size;simp at A;go_wp2;go_ret;exact⟨v',rfl,R,s,oM⟩
  .have I:=Sz m K;have J:bits BinOp.or Vl ((m:Int)%128) 128=128+(m:Int)%128:=by
    have:=Qq (m%128) oM;simpa using this
   go_wp2_with (at_builtin;refine kU rfl _ _ 22 rfl B 5 Z (Ug .u8 0) 1 1 underlying22 hi U V Y rfl oD _ _ _ rfl (z.alloc _) (Ub wr.1.size) 1 1 [Ug .u8 (128+(m:Int)%128)] rfl rfl ?d1 ?d2 ?d3 ?d4 ?d5 ?_);case d1=>exact cell_one_new _ _ _
   case d2=>intro u t;simp at t;subst t;rfl
   case d3=>unfold maxLen;omega
   case d4=>omega
   case d5=>simp;omega
   .intro v' w1 g q y;have N:1<=k:=by
     have:=p.out;rcases Uy k with rfl|h
     .simp at this;omega
     .exact h
    obtain⟨j,rfl⟩:∃j,k=j+1:=⟨k-1,oM⟩;have R:Own w1 B v' (r++[128+(m:Int)%128]):=by
     unfold Own;rw[UM,UN];exact g
    have G:aA (r++[128+(m:Int)%128]++aI j (m/128)=zs0++aI 9 m0):=by
     have:=i.out;rw[rX j m O]at this;show _=_;rw[<-this];simp
    have H:aA (m/128<128^(j+1)):=by
     have:=p.out;rw[Uu]at this;show _<_;omega
    have s:=aC<|(o.alloc _).trans (Gr.app (b':=v') q (oU y));have A:=q.size;simp at A;go_wp2;go_roundw;case rel=>exact⟨j,m/128,_,oM,H,oM,oN,R,s,oM,oS,G⟩
    case measure=>exact oE
def sF(l:List (Int×Int))(i:Nat):Int:=(l.getD i (0,0)).1
def sT(l:List (Int×Int))(i:Nat):Int:=(l.getD i (0,0)).2
def fI(l:List (Int×Int)):Nat->Int
 |0=>1
 |k+1=>sT l k+2
def fW(l:List (Int×Int)):Nat->List Int
 |0=>[]
 |k+1=>fW l k++(aI 9 (sF l k-fI l k).toNat++aI 9 (sT l k-sF l k).toNat)
def mQ(l:List (Int×Int)):List Int:=aI 9 l.length++fW l l.length
theorem C9(l:List (Int×Int)):∀k,(fW l k).length<=20*k
 |0=>by simp[fW]
 |k+1=>by
  have:=C9 l k;have j:=(cF 9 (sF l k-fI l k).toNat).1;have m:=(cF 9 (sT l k-sF l k).toNat).1;simp only[fW,UM];omega
theorem QV(l:List (Int×Int)):(mQ l).length<=10+20*l.length:=by
 have j:=(cF 9 l.length).1;have:=C9 l l.length;simp only[mQ,UM];omega
theorem Rd(h:bL l)(hk:k<l.length):1<=fI l k/\fI l k<=sF l k/\sF l k<=sT l k/\sT l k<=1000000000:=by
 have e:l.getD k (0,0)=l[k]:=by simp[UL,hk]
 have j:=h.2 _<|UZ hk;rw[<-e]at j;have m:fI l k<=sF l k/\1<=fI l k:=by
  cases k with
  |zero=>exact⟨j.1,VI _⟩
  |succ k=>
   have u:=I8 h (show k<k+1 by omega) hk;have q:l.getD k (0,0)=l[k]:=(by simp[UL,show k<l.length by omega]);have r:=h.2 _ (UZ (show k<l.length by omega));rw[<-q]at r;show(l.getD k (0,0)).2+2<=(l.getD (k+1) (0,0)).1/\1<=(l.getD k (0,0)).2+2;exact⟨oM,oM⟩
 exact⟨m.2,m.1,j.2.1,j.2.2⟩
theorem nT(x:Int)(h0:0<=x)(h1:x<=1000000000):IntKind.u64.wrap x=x:=by
 unfold IntKind.wrap;simp[IntKind.bits,IntKind.signed];omega
theorem WE(B:Nat)(bv:aB)(zs0:List Int)(a:Option Us)(c:Nat)(l:List (Int×Int))(w:Ur)(hB:B<=w.1.size)(hl:zs0.length<=100000000)(ho:Own w B bv zs0)
  (hs:SS w a l.length (sF l) (sT l)) (hne:∀x,a=Uq x->Uq x.block≠bv.ownBlock) (hok:bL l) (hn:l.length<=1000):
  Cl 113 #[bv,Uf a l.length c] w λe w'=>∃v,e=Ui v/\Own w' B v (zs0++mQ l)/\Gr w w' bv v:=by
 have⟨n,U⟩:=zE l.length;have H:aA (mQ l=aI 9 n++fW l n):=by unfold mQ;rw[U];exact rfl
 rw[U]at hs hn⊢;have Hb:aA (∀k,k<n->1<=fI l k/\fI l k<=sF l k/\sF l k<=sT l k/\sT l k<=1000000000):=λk hk=>Rd hok oM;have HU:=cF 9 n;go_enter func113,ntmps113;go_wp2_with fail;refine(oR B n bv zs0 w oM hB oM ho).mono ?_;rintro e w1⟨v1,rfl,V,O,Hj⟩;have Z:=aC O;rcases hs with h0|⟨b,off,rfl,hb,L⟩
 .subst h0;go_wp2_with fail;refine wp_loop_rounds 1 ?_;rw[rounds_succ];go_wp2_with fail;go_ret;exact⟨v1,rfl,by rw[H.out];simpa[fW]using V,Z⟩
 have C:=hne _ rfl;have N:aA (∀i,i<n->w.cell? (Ua b (off+i*2))=Uq (Ud (sF l i))/\w.cell? (Ua b (off+i*2+1))=Uq (Ud (sT l i))):=L;have Hd:=aC V;go_wp2_with fail;go_loopw [0,5,15] (λb' lo i wr=>∃(k:Nat) (z:List Int),k<=n/\i=Ud k/\lo=Ud (fI l k)/\Own wr B b' z/\aA (z=zs0++aI 9 n++fW l k)/\aA (Gr w wr bv b')/\w.1.size<=wr.1.size/\z.length<=100000000+10+20*k) (λ_ _ i _=>n-(intOf i).toNat);case atStart=>exact⟨0,_,UB _,rfl,rfl,Hd,aC (by simp[fW]),Z,oM,oS⟩
 case round=>
  obtain⟨k,z,hk,rfl,rfl,o,P,s,Hi,Hh⟩:=hrel;by_cases A:k<n
  .have Hg:wr.cell? (Ua b (off+k*2))=Uq (Ud (sF l k)):=s.g.cell (N k A).1 C;have Ha:wr.cell? (Ua b (off+k*2+1))=Uq (Ud (sT l k)):=s.g.cell (N k A).2 C;have⟨q1,q2,q3,q4⟩:=Hb k A;generalize q:wr.alloc (Uj #[Ud (sF l k),Ud (sT l k)] 225)=y;have zW:y.1.size=wr.1.size+1:=q▸oP;have R:y.cell? (Ub wr.1.size)=Uq (Ud (sF l k)):=q▸oP;have r1:y.cell? (Ua wr.1.size 1)=Uq (Ud (sT l k)):=q▸oP;have K:Own y B u0 z:=q▸World.ownsRow.alloc o _;have Y:aA (Gr w y bv u0):=q▸s.alloc _;have Q:Uq wr.1.size≠u0.ownBlock:=λe=>by have:=(World.ownsRow.lt o _ e.symm).2;omega
   obtain⟨r,E⟩:∃m:Nat,sF l k-fI l k=(m:Int):=⟨(sF l k-fI l k).toNat,oM⟩;obtain⟨u,M⟩:∃m:Nat,sT l k-sF l k=(m:Int):=⟨(sT l k-sF l k).toNat,oM⟩;have x1:IntKind.i64.wrap (sF l k-fI l k)=(r:Int):=(by rw[E];exact cK _ oM oM);have x2:IntKind.i64.wrap (sT l k-sF l k)=(u:Int):=(by rw[M];exact cK _ oM oM);have x3:IntKind.u64.wrap (r:Int)=(r:Int):=nT _ oM oM;have x4:IntKind.u64.wrap (u:Int)=(u:Int):=nT _ oM oM;have Hf:aA (fW l (k+1)=fW l k++(aI 9 r++aI 9 u)):=(by show fW l k++_=_;rw[E,M];rfl);have y1:r<=1000000000:=oM;have y2:u<=1000000000:=oM;have x5:IntKind.i64.wrap (sT l k+2)=sT l k+2:=cK _ oM oM;have J:=aC K;go_wp2_with fail;refine(oR B r u0 z y oM oM oM J).mono ?_;rintro e w2⟨W,rfl,D,t,Hk⟩;have S:=t.g.cell R Q;have T:=t.g.cell r1 Q;have l2:=(cF 9 r).1;have l3:=(cF 9 u).1;have X:Uq wr.1.size≠W.ownBlock:=λe=>by
    rcases t.l with h|⟨j,h,hj⟩
    .exact Q<|e.trans h
    .rw[h]at e;injection e with e;omega
   have G:=aC<|Y.trans t;have I:=aC D;go_wp2_with fail;refine(oR B u W _ w2 oM oM oS I).mono ?_;rintro e w3⟨v3,rfl,F,p,Hl⟩;have t1:=p.g.cell T X;have Hc:=aC<|G.trans p;have He:=aC F;go_wp2_with fail;go_roundw;case rel=>exact⟨k+1,_,A,oN,rfl,He,aC (by rw[Hf.out,P.out];simp),Hc,oM,oS⟩
   case measure=>exact oE
  .obtain rfl:k=n:=oM;have HO:=aC o;go_wp2_with fail;go_ret;refine⟨u0,rfl,?_,s⟩;rw[H.out,<-Ve,<-P.out];exact HO
theorem Gr.drew{b:aB}(h:Gr w w1 b0 b):Gr w w1.drew b0 b:=h.trans ⟨⟨rfl,rfl,rfl,Ux _,λ_ _ _=>rfl⟩,.inl rfl⟩
def SR(w:Ur)(B:Nat)(v:aB)(l:List (Int×Int)):Prop:=w.ownsRow B 225 2 v l.length (eW l)
theorem Ed(l:List (Int×Int)):(eW l).length=l.length*2:=by
 induction l with
 |nil=>rfl
 |cons a l ih=>simp[eW]at*;omega
theorem Fh(w:Ur)(x y:aB)(t:TypeId):∀j u,[x,y][j]? =Uq u->(w.alloc (Uj #[x,y] t)).cell? (((Ub w.1.size):Us).add j)=Uq u:=by
 intro j u k;match j,k with
 |0,k=>simp at k;subst k;simp[Addr.add]
 |1,k=>simp at k;subst k;simp[Addr.add]
theorem eZ(w:Ur)(p:Us)(u:aB):w.grownBy (w.setCell p u) (Uq p.block):=
 ⟨rfl,rfl,rfl,by simp[Vr],λk hk hne=>zH _ _ _ _ (λe=>hne (by rw[e]))⟩
structure eJ(w:Ur)(bm n:Nat)(D:DataW aB)(G:Int->aB)(L:Int->List (Int×Int)):Prop where
 own:w.ownsMap prog 3 dT bm n D
 at':∀r,D.atKey (kI r) (.held Ue)=.held (G r)
 has':∀r,Maps.has D (kI r)= !(L r).isEmpty
 rows:∀r,w.ownsRow 0 225 2 (G r) (L r).length (eW (L r))
theorem yY{s:Nat}(h:w.ownsRow B e s v n xs):w.ownsRow 0 e s v n xs:=by
 have⟨k,m⟩:=h;refine⟨k,m.imp id ?_⟩;rintro⟨g,cap,j,e,_,r⟩;exact⟨g,cap,j,e,UB _,r⟩
theorem yS{s:Nat}{D:DataW aB}(h:w.ownsRow B e s v m xs)(hm:w.ownsMap prog 3 dT bm n D):v.ownBlock=Up\/v.ownBlock≠Uq bm:=by
 have⟨_,k⟩:=h;rcases k with⟨rfl,_⟩|⟨g,cap,u,rfl,_,j,_⟩
 .exact .inl rfl
 .refine .inr<|λe=>?_;have⟨y,r,q,_⟩:=hm;have e:g=bm:=by simpa[Value.ownBlock]using e
  rw[e,q]at j;cases j
theorem uR{s:Nat}(h:w.ownsRow B e s v n xs)(hb:Bl w w1):w1.ownsRow B e s v n xs:=
 Zq h hb (λk hk=>(h.lt k hk).2)
theorem De(h:w.ownsRow B 225 2 v l.length (eW l)):
  ∃a c,v=Uf a l.length c/\SS w a l.length (sF l) (sT l)/\l.length<=c/\c<=9223372036854775807:=by
 rcases h.2 with⟨e,j⟩|⟨g,cap,q,e,r,_,m,k,_⟩
 .exact⟨Up,0,by rw[e,j],.inl j,oM,oM⟩
 .exact⟨_,cap,e,by rw[e]at h;exact Fx h rfl,m,by unfold maxLen at k;omega⟩
theorem jY{size:Nat}(h:w.ownsRow B e size v n xs):∃y m c,v=Uf y m c:=by
 rcases h.2 with⟨rfl,_⟩|⟨g,cap,j,rfl,_⟩;all_goals exact⟨_,_,_,rfl⟩
theorem eJ.gr{D:DataW aB}{G:Int->aB}(h:eJ w bm n D G L)(hg:w.grownBy w1 row)(hr:Uq bm≠row)(hro:∀r g,(G r).ownBlock=Uq g->Uq g≠row):eJ w1 bm n D G L:=
 ⟨h.own.kept hg hr,h.at',h.has',λr=>(h.rows r).kept hg (by
  cases e:(G r).ownBlock with
  |none=>exact .inl rfl
  |some g=>exact .inr (hro r g e))⟩
theorem eJ.bw{D:DataW aB}{G:Int->aB}(h:eJ w bm n D G L)(hb:Bl w w1):eJ w1 bm n D G L:=
 h.gr (row:=Up) ⟨hb.os,hb.tape,hb.output,hb.size,λk hk _=>hb.block k hk⟩ oP oP
open Go.Sort Go.Shelf
theorem GF(m:Nat):AnyZI.SortsIn prog Tryz.sortedA_ren Fence.wide m:=
 ⟨λblk off cap ss W hH hblk hsz=>callsIn_wide.2 (AnyM.slices_Sort_int Tryz.sortA blk off cap ss W hH hblk hsz),
  λp cap W=>callsIn_wide.2 (AnyM.slices_Sort_int_none Tryz.sortA p cap W)⟩
theorem P9(mb:Option Nat)(W:Ur):Cl 112 #[.map mb] W λe w'=>e=Ui (.func (.func 155) #[] #[Uk (Uc W.1.size)])/\w'=W.alloc (Uj #[.map mb] 109):=
 (callsIn_wide (n:=5)).1 (AnyZI.keys_in Tryz.keysA Fence.wide 5 trivial rfl mb W)
theorem Tu{H:Type}(b nn:Nat)(D0:DataW H)(R:aB->Option (DataW H×List MemPlace))(w:Ur)(hown:w.ownsMap prog 3 R b nn D0)(hmax:Maps.size D0<=maxLen)(hbytes:Maps.size D0*8<=140737488355328):
  Cl 111 #[.func (.func 155) #[] #[Uk (Uc w.1.size)]] (w.alloc (Uj #[.map (Uq b)] 109)) λe w'=>∃(v:aB) (j:List Int),e=Ui v/\j.Perm (intKeys D0)/\
   w'.ownsRow (w.1.size+1) 3 1 v j.length ((j.mergeSort (λx y=>decide (x<=y))).map encZ)/\Bl w w':=by
 have t:=hown.lt;have i:SeqGives Fence.wide 2 prog 155 #[Uk (Uc w.1.size)] encZ (λj=>j.Perm (intKeys D0)) (Maps.size D0) (w.alloc (Uj #[.map (Uq b)] 109)):=
  AnyZI.keys_gives (ρ:=Tryz.keysA_ren) {Tryz.keysA with} Fence.wide _ trivial rfl oM w.1.size b nn D0 _ oP oP (by
   have⟨z,u,k,r,o,h⟩:=hown;exact⟨z,u,(Below.heap_alloc _ _ b t).trans k,r,o,h⟩)
 have m:=AnyZI.sorted_in Tryz.sortedA Fence.wide 5 trivial trivial trivial trivial rfl oM (GF _) (enters_of func154 oK rfl) 155 #[Uk (Uc w.1.size)] trivial (enters_of func155 oK rfl) _ _ hmax hbytes _ i;change CallsIn _ _ prog 111 _ _ _ at m;refine((callsIn_wide (n:=5)).1 m).mono ?_;rintro e w'⟨v,j,rfl,g,q,p,k⟩;refine⟨v,j,rfl,g,?_,((Below.refl _ w).alloc zL _).trans (k.mono oP)⟩;have e:(w.alloc (Uj #[.map (Uq b)] 109)).1.size=w.1.size+1:=oP;rw[e]at q;exact q
def KS(L:Int->List (Int×Int)):Nat->List Int
 |0=>[]
 |k+1=>KS L k++(if (L (k:Int)).isEmpty then [] else [(k:Int)])
theorem sD(L:Int->List (Int×Int))(k:Nat):∀x,x∈KS L k↔(0<=x/\x<k/\(L x).isEmpty=false):=by
 induction k with
 |zero=>intro x;simp[KS];omega
 |succ k ih=>
  intro x;simp only[KS,List.mem_append,ih];by_cases e:(L (k:Int)).isEmpty=true
  .rw[if_pos e];constructor
   .rintro(⟨a,b,c⟩|h)
    .exact⟨a,oM,c⟩
    .simp at h
   .rintro⟨a,b,c⟩;refine .inl ⟨a,?_,c⟩;rcases VJ x k with h|h
    .exact h
    .have:x=(k:Int):=oM;rw[this,e]at c;cases c
  .rw[if_neg e];simp only[Bool.not_eq_true]at e;constructor
   .rintro(⟨a,b,c⟩|h)
    .exact⟨a,oM,c⟩
    .rw[UY]at h;subst h;exact⟨oM,oM,e⟩
   .rintro⟨a,b,c⟩;rcases VJ x k with h|h
    .exact .inl ⟨a,h,c⟩
    .exact .inr<|List.mem_singleton.2 oM
theorem Fp(L:Int->List (Int×Int))(k:Nat):(KS L k).Pairwise (λx y=>x<y):=by
 induction k with
 |zero=>exact List.Pairwise.nil
 |succ k ih=>
  simp only[KS];refine List.pairwise_append.2 ⟨ih,?_,λx hx y hy=>?_⟩
  .split
   .exact List.Pairwise.nil
   .exact UX _ _
  .have:=(sD L k x).1 hx;split at hy
   .cases hy
   .rw[UY]at hy;omega
theorem yK(L:Int->List (Int×Int))(k:Nat):(KS L k).length<=k:=by
 induction k with
 |zero=>simp[KS]
 |succ k ih=>simp only[KS,UM];split<;>simp<;>omega
theorem wY{Q:Prop}(h:Q:=by
 obtain⟨u,j,g,_⟩:=h.own.entries (int_keyed underlying3);obtain⟨y,k,z⟩:=h.own.keysOf;obtain rfl:u=y:=by rw[j]at k;simpa using k
 have q:(KS L 8).Perm (intKeys D):=by
  have m:=h.has';rw[j]at m⊢;refine perm_intKeys g (λp hp=>by obtain⟨v,t⟩:=z p hp;obtain⟨x,_,o,_⟩:=Maps.keyOf_i64 underlying3 t;exact⟨x,o⟩) ((Fp L 8).imp (λh=>oM))<|λx=>?_;have:=m x;unfold kI at this;rw[this,sD];constructor
  .rintro⟨_,_,c⟩;rw[c];rfl
  .intro c;have c':(L x).isEmpty=false:=oU c;have:=hL x (by intro e;rw[e]at c';cases c');exact⟨this.1,this.2,c'⟩
 refine⟨q,?_⟩;rw[q.length_eq,j];simp[Maps.size_eq,intKeys]):Q:=h
theorem SB{D:DataW aB}{G:Int->aB}(h:bP w bm n D G L)(hL:∀r,L r≠[]->0<=r/\r<8):(KS L 8).Perm (intKeys D)/\Maps.size D=(KS L 8).length:=by
 exact wY
theorem Zp{ss ks:List Int}(h1:(KS L 8).Perm ks)(h2:ss.Perm ks):ss.mergeSort (λx y=>decide (x<=y))=KS L 8:=by
 rw[mergeSort_of_perm_i (h2.trans h1.symm)];refine List.mergeSort_of_pairwise<|(Fp L 8).imp (λh=>?_);simp;omega
theorem nZ{R F T:Nat->Int}:∀k:Nat,fQ R F T k->∀r,Lk R F T k r≠[]->0<=r/\r<8
 |0,_=>λr h=>absurd rfl h
 |k+1,h=>λr hr=>by
  have j:=qH.1 (h k oM).1;by_cases e:r=R k
  .subst e;exact⟨j.1,j.2.1⟩
  .have m:Lk R F T (k+1) r=Lk R F T k r:=cQ _ _ e;rw[m]at hr;exact nZ k (λi hi=>h i oM) r hr
def rJ(L:Int->List (Int×Int))(r:Int):List Int:=aI 9 r.toNat++mQ (L r)
def iJ(L:Int->List (Int×Int))(ks:List Int):Nat->List Int
 |0=>[]
 |k+1=>iJ L ks k++rJ L (ks.getD k 0)
def fF(L:Int->List (Int×Int)):List Int:=aI 9 (KS L 8).length++iJ L (KS L 8) (KS L 8).length
theorem Xh{L:Int->List (Int×Int)}(hL:∀r,(L r).length<=1000)(ks:List Int):∀k,(iJ L ks k).length<=30000*k
 |0=>by simp[iJ]
 |k+1=>by
  have:=Xh hL ks k;have j:=(cF 9 (ks.getD k 0).toNat).1;have m:=QV<|L (ks.getD k 0);have q:=hL<|ks.getD k 0;simp only[iJ,rJ,UM];omega
theorem bP.gr{D:DataW aB}{G:Int->aB}(h:bP w bm n D G L)(hg:w.grownBy w1 row)(hr:Uq bm≠row)(hro:∀r g,(G r).ownBlock=Uq g->Uq g≠row):bP w1 bm n D G L:=
 ⟨h.own.kept hg hr,h.at',h.has',λr=>(h.rows r).kept hg (by
  cases e:(G r).ownBlock with
  |none=>exact .inl rfl
  |some g=>exact .inr (hro r g e)),h.apart⟩
theorem Xg(h:w.ownsRow B 3 1 (Uf (Uc g) m cap) m (zs.map encZ))(hl:zs.length=m):∀i,i<m->w.cell? (Ua g i)=Uq (Ud (zs.getD i 0)):=by
 intro i hi;rw[h.cellAt i oM];simp[UL,show i<zs.length by omega]
theorem WC{D:DataW aB}{G:Int->aB}(hgrp:bP w bm n D G L)(HLen:aA (∀r,(L r).length<=1000))(HSrt:aA (∀r,bL (L r)))(HRep:aA (∀r,L r≠[]->0<=r/\r<8)):
  Cl 66 #[.map (Uq bm),Ue] w λe w'=>∃v,e=Ui v/\Own w' w.1.size v (fF L)/\Bl w w':=by
 have⟨T,Z⟩:=SB hgrp HRep;generalize o:KS L 8=q;have Ho:aA (fF L=aI 9 q.length++iJ L q q.length):=by unfold fF;rw[o];exact rfl
 have Gn:q.length<=8:=o▸yK L 8;have Hk:aA (∀x∈q,0<=x/\x<8/\L x≠[]):=λx hx=>by
  rw[<-o]at hx;have:=(sD L 8 x).1 hx;exact⟨this.1,oM,λe=>by rw[e]at this;simp at this⟩
 have Hp:aA (∀b:List Int,b.Perm (intKeys D)->b.mergeSort (λx y=>decide (x<=y))=q/\b.length=q.length):=λb hs=>by rw[<-o];exact⟨Zp T hs,by rw[hs.length_eq,<-T.length_eq]⟩
 rw[o]at Z;have Hd:=hgrp.own.len underlying109;rw[Z]at Hd;have O:=aC hgrp;have HU:=cF 9 q.length;have x0:IntKind.u64.wrap ((q.length:Nat):Int)=(q.length:Int):=nT _ oM oM;go_enter func66,ntmps66;go_wp2_with fail;refine(RW w.1.size q.length _ [] w oM zL oP (Vw _ _ _ _)).mono ?_;rintro e H⟨M,rfl,Hu,X,Gq⟩;have Q:=aC Hu;have W:=aC X;have H7:=O.own.lt;have I:=aC<|O.bw X;go_wp2_with fail;refine(P9 (Uq bm) H).mono ?_;rintro e w3⟨rfl,rfl⟩;go_wp2_with fail;refine(Tu bm n D dT H I.own (by rw[Z];unfold maxLen;omega) (by rw[Z];omega)).mono ?_;rintro e z⟨v4,b,rfl,Ha,u,A⟩;have⟨Hq,N⟩:=Hp b Ha;rw[Hq,N]at u;have Ga:=N;have Hv:Own z w.1.size M (aI 9 q.length):=Q.kept A<|λk t=>(World.ownsRow.lt Q k t).2;have Hz:∀k,M.ownBlock=Uq k->w.1.size<=k/\k<H.1.size:=λk t=>World.ownsRow.lt Q k t;have s:=aC Hz;have g4:bP z bm n D G L:=I.bw A;have H0:=aC g4;have Hb:aA (∀r g,(G r).ownBlock=Uq g->g<w.1.size):=λr g E=>((O.rows r).lt g E).2;have Hm:=aC<|W.trans (A.mono oM);have z4:H.1.size<=z.1.size:=A.size;have Hn:=aC Hv;rcases u.2 with⟨rfl,J⟩|⟨g,cap,Gj,rfl,Gk,E,Gp,H8,H9,Hh⟩
 .have HE:aA (fF L=aI 9 q.length):=by show fF L=_;rw[Ho.out,J];simp[iJ]
  go_wp2_with fail;refine wp_loop_rounds 1 ?_;rw[rounds_succ];go_wp2_with fail;go_ret;exact⟨M,rfl,by rw[HE.out];exact Hn,Hm⟩
 have HC:aA (∀i,i<q.length->z.cell? (Ua g i)=Uq (Ud (q.getD i 0))):=Xg u rfl;have Hl:Uq g≠M.ownBlock:=λe=>oH ((s g e.symm).2);unfold maxLen at H8;go_wp2_with fail;go_loopw [1,16] (λb' i wr=>∃(k:Nat) (p:List Int),k<=q.length/\i=Ud k/\aA (Own wr w.1.size b' p)/\aA (p=aI 9 q.length++iJ L q k)/\aA (Gr z wr M b')/\z.1.size<=wr.1.size) (λ_ i _=>q.length-(intOf i).toNat);case atStart=>exact⟨0,_,UB _,rfl,Hn,aC (by simp[iJ]),aC (Gr.refl _ _),Ux _⟩
 case round=>
  obtain⟨k,p,t,rfl,Hf,S,C,Gi⟩:=hrel;by_cases F:k<q.length
  .have R:=Hk (q.getD k 0) (by simp[UL,F]);obtain⟨m,P⟩:∃m:Nat,q.getD k 0=(m:Int):=⟨(q.getD k 0).toNat,oM⟩;have Hr:=C.g.cell (HC k F) Hl;have Gu:p.length<=10+30000*k:=(by rw[S.out];have:=Xh HLen q k;simp;omega);have H3:aA (iJ L q (k+1)=iJ L q k++(aI 9 m++mQ (L (m:Int)))):=(by show iJ L q k++rJ L (q.getD k 0)=_;rw[P];rfl);rw[P]at R Hr;have Go:m<8:=oM;have He:=R.2.2;have x3:IntKind.u64.wrap (m:Int)=(m:Int):=nT _ oM oM;go_wp2_with fail;refine(oR w.1.size m u1 p wr oM oM oM Hf).mono ?_;rintro e w5⟨v5,rfl,Hw,Hs,Gs⟩;have V:=C.trans Hs;have K:bP w5 bm n D G L:=H0.gr V.g (λe=>by have:=(s _ e.symm).1;omega) (λr g E e=>by have:=(s _ e.symm).1;have:=Hb r g E;omega);have Ht:=K.look (m:Int)<|eX oM oM;have Y:=K.rows (m:Int);rcases Y.2 with⟨_,J⟩|⟨U,cs,cu,eG,Gc,Gd,Ge,Gf,Gg,Gh⟩
   .exact absurd (UO J) He
   have Gl:=Hb (m:Int) U (by rw[eG];rfl);rw[eG]at Ht Y;have Hy:=Fx Y rfl;have Hc:Uq U≠v5.ownBlock:=λe=>by
    rcases V.l with h|⟨j,h,hj⟩
    .have:=(s U (h▸e.symm)).1;omega
    .rw[h]at e;injection e with e;omega
   have l5:=(cF 9 m).1;have Hg:=HSrt (m:Int);have Gb:=HLen (m:Int);have H1:=aC Hw;have Hi:=aC V;have H5:=aC Hy;have H6:=aC Hg;go_wp2_with fail;refine(WE w.1.size v5 (p++aI 9 m) (Uc U) cs (L (m:Int)) w5 oM oS H1 H5 (λx hx=>by cases hx;exact Hc) H6 Gb).mono ?_;rintro e w6⟨v6,rfl,Hx,B⟩;have H2:=aC Hx;have Hj:=aC<|Hi.trans B;have Gt:=B.g.size;go_wp2_with fail;go_roundw;case rel=>exact⟨k+1,_,F,oN,H2,aC (by rw[H3.out,S.out];simp),Hj,oM⟩
   case measure=>exact oE
  .obtain rfl:k=q.length:=oM;go_wp2_with fail;go_ret;refine⟨_,rfl,?_,Hm.trans (C.bw oM (λk t=>oH ((s k t).1)))⟩;rw[Ho.out,<-S.out];exact Hf
theorem vK{Q:Prop}(h:Q:=by
 intro j u k;match j,k with
 |0,k=>simp at k;subst k;simp[Addr.add]
 |1,k=>simp at k;subst k;simp[Addr.add]
 |2,k=>simp at k;subst k;simp[Addr.add]):Q:=h
theorem vA(w:Ur)(x y z:aB)(t:TypeId):∀j u,[x,y,z][j]? =Uq u->(w.alloc (Uj #[x,y,z] t)).cell? (((Ub w.1.size):Us).add j)=Uq u:=by
 exact vK
def jX(r:Int)(l:List (Int×Int)):List aB:=l.flatMap λp=>[Ud r,Ud p.1,Ud p.2]
theorem WZ(r:Int)(l:List (Int×Int))(p:Int×Int):jX r (l++[p])=jX r l++[Ud r,Ud p.1,Ud p.2]:=by simp[jX]
theorem bI.at(h:bI w a n R F T)(hk:k<n):∃b off,a=Uq (Ua b off)/\b<w.1.size/\w.cell? (Ua b (off+k*3))=Uq (Ud (R k))/\w.cell? (Ua b (off+k*3+1))=Uq (Ud (F k))/\w.cell? (Ua b (off+k*3+2))=Uq (Ud (T k)):=by
 rcases h with h|⟨b,off,rfl,j,m⟩
 .omega
 .exact⟨b,off,rfl,j,m k hk⟩
theorem FY(a:Option Us)(n c:Nat)(R F T:Nat->Int)(rep:Int)(w:Ur)(hn:n<=1048576)(h:bI w a n R F T):
  Cl 145 #[Uo #[Uf a n c],Ud rep] w λe w'=>∃v,e=Ui v/\w'.ownsRow w.1.size 103 3 v (Lk R F T n rep).length (jX rep (Lk R F T n rep))/\Bl w w':=by
 have⟨i0,hi,Hb,Hc,Hd⟩:=info_parts Tryz.infoRun;obtain⟨L,j⟩:∃L:Nat->List (Int×Int),(λk=>Lk R F T k rep)=L:=⟨_,rfl⟩;have E:Lk R F T n rep=L n:=by rw[<-j]
 have U:aA (L 0=[]):=by show L 0=[];rw[<-j];rfl
 have Z:aA (∀k,R k=rep->L (k+1)=L k++[(F k,T k)]):=λk e=>by
  rw[<-j];show eS _ _ _ _=_;rw[<-e,dM]
 have Y:aA (∀k,R k≠rep->L (k+1)=L k):=λk e=>by
  rw[<-j];show eS _ _ _ _=_;rw[cQ _ _ (λh=>e h.symm)]
 have V:aA (∀k,(L k).length<=k):=λk=>j▸jJ R F T k rep;rw[E];have Ha:(w.alloc (Uj #[Uf a n c] 26)).cell? (Ub w.1.size)=Uq (Uf a n c):=oP;go_enter func145,ntmps145;go_wp2_with fail;go_loopw [5,6] (λv i wr=>∃k:Nat,k<=n/\i=Ud k/\aA (wr.ownsRow (w.1.size+1) 103 3 v (L k).length (jX rep (L k)))/\aA (Bl w wr)/\wr.cell? (Ub w.1.size)=Uq (Uf a n c)/\w.1.size+1<=wr.1.size) (λ_ i _=>n-(intOf i).toNat);case atStart=>refine⟨0,UB _,rfl,?_,aC (aU _ _ _),oP,oP⟩;rw[U.out];have:=Vo (base:=w.1.size+1) (e:=103) (size:=3) (w.alloc (Uj #[Uf a n c] 26)) #[] 0 oP oL rfl;exact aC (by simpa[jX]using this)
 case round=>
  obtain⟨k,M,rfl,y,z,p,W⟩:=hrel;by_cases s:k<n
  .obtain⟨b,off,rfl,hb,C,D,P⟩:=(h.bw z).at s;have Hf:=V k;by_cases q:R k=rep
   .have N:(R k==rep)=true:=(by simp[q]);have m:=Z k q;subst q;have o:=aC m;have X:Uq w.1.size≠u5.ownBlock:=λe=>by have:=(y.lt _ e.symm).1;omega
    go_wp2_with (at_builtin;refine kU rfl _ _ 24 rfl (w.1.size+1) 103 i0 _ 3 24 underlying24 hi Hb Hc Hd rfl oD _ _ _ rfl (y.alloc _) (Ub wr.1.size) 1 1 [Ud (R k),Ud (F k),Ud (T k)] rfl rfl ?c1 ?c2 ?c3 ?c4 ?c5 ?_);case c1=>exact vA _ _ _ _ _
    case c2=>intro u Q;simp at Q;rcases Q with rfl|rfl|rfl<;>rfl
    case c3=>unfold maxLen;omega
    case c4=>omega
    case c5=>simp;omega
    .intro v' w1 O t S;have G:aA (w1.ownsRow (w.1.size+1) 103 3 v' (L (k+1)).length (jX (R k) (L (k+1)))):=by
      rw[o.out,WZ,UM];exact O
     have H:aA (Bl w w1):=(z.alloc oM _).grown t oS<|λk M=>oH ((y.lt k M).1);have I:w1.cell? (Ub w.1.size)=Uq (Uf (Uq (Ua b off)) n c):=t.cell (by rw[Below.cell (B:=wr.1.size) (zO _ _) (show w.1.size<wr.1.size by omega)];exact p) X;have J:=t.size;simp at J;go_wp2_with fail;go_roundw;case rel=>exact⟨k+1,s,oN,G,H,I,oM⟩
     case measure=>exact oE
   .have N:(R k==rep)=false:=(by simp[q]);have m:=Y k q;have o:=aC m;go_wp2_with fail;go_roundw;case rel=>exact⟨k+1,s,oN,by rw[o.out];exact y,z,p,W⟩
    case measure=>exact oE
  .obtain rfl:k=n:=oM;go_wp2_with fail;go_ret;refine⟨_,rfl,?_,z⟩;have⟨q1,A⟩:=y.out;refine⟨q1,?_⟩;rcases A with A|⟨g,cap,K,rfl,He,r⟩
   .exact .inl A
   .exact .inr ⟨g,cap,K,rfl,oM,r⟩
theorem lB(m:Nat)(w:Ur)(hm:m<=1000000000):
  Cl 146 #[Ud (m:Int)] w λe w'=>∃v,e=Ui v/\Own w' w.1.size v (aI 9 m)/\Bl w w'/\w.1.size<w'.1.size:=by
 have r:IntKind.u64.wrap (m:Int)=(m:Int):=nT _ oM oM;go_enter func146,ntmps146;go_wp2_with fail;refine(Re 9 m w zL (show m<128^(9+1) by omega) oM).mono ?_;rintro e w1⟨v,rfl,k,j,q⟩;go_wp2_with fail;go_ret;exact⟨v,rfl,k,j,q⟩
abbrev Rn:=Int×Int×Int
def fB(p q:Rn):Prop:=p.1<q.1\/(p.1=q.1/\p.2.2+1<q.2.1)
instance (p q:Rn):Decidable (fB p q):=by unfold fB;infer_instance
def dG(p:Rn):Prop:=0<=p.1/\p.1<8/\1<=p.2.1/\p.2.1<=p.2.2/\p.2.2<=1000000000
def dI(l:List Rn):Prop:=l.Pairwise fB/\∀p∈l,dG p
def kG(p:Rn)(r x:Int):Prop:=p.1=r/\p.2.1<=x/\x<=p.2.2
def RI(l:List Rn)(r x:Int):Prop:=∃p∈l,kG p r x
theorem fB.trans{p q s:Rn}(h1:fB p q)(hq:dG q)(h2:fB q s):fB p s:=by
 unfold fB dG at*;omega
theorem Cy{p:Rn}{l:List Rn}:RI (p::l) r x↔kG p r x\/RI l r x:=by simp[RI]
theorem wA{Q:Prop}(h:Q:=by
 constructor
 .rintro⟨p,j,h⟩;rcases List.mem_append.1 j with j|j
  .exact .inl ⟨p,j,h⟩
  .exact .inr ⟨p,j,h⟩
 .rintro(⟨p,j,h⟩|⟨p,j,h⟩)
  .exact⟨p,List.mem_append.2 (.inl j),h⟩
  .exact⟨p,List.mem_append.2 (.inr j),h⟩):Q:=h
theorem sS{l l':List Rn}:RI (l++l') r x↔RI l r x\/RI l' r x:=by
 exact wA
theorem B8{p:Rn}:RI [p] r x↔kG p r x:=by simp[RI]
theorem Ij:¬RI [] r x:=by simp[RI]
theorem Wt{p q:Rn}{l:List Rn}(h:dI (p::l))(j:q∈p::l):p.1<q.1\/(p.1=q.1/\p.2.1<=q.2.1):=by
 rcases List.mem_cons.1 j with rfl|j
 .exact .inr ⟨rfl,VI _⟩
 .have k:=(List.pairwise_cons.1 h.1).1 q j;have m:=h.2 p<|Vf;unfold fB dG at*;omega
theorem S5{p p':Rn}{t t':List Rn}(h:dI (p::t))(h':dI (p'::t'))(he:∀r x,RI (p::t) r x->RI (p'::t') r x)(hf:p.1=p'.1/\p.2.1=p'.2.1):p.2.2<=p'.2.2:=by
 have o:=h'.2 p' Vf;rcases VJ p'.2.2 p.2.2 with z|m
 .exfalso;have k:RI (p::t) p.1 (p'.2.2+1):=⟨p,Vf,rfl,by unfold dG at*;omega,oM⟩;have⟨q,j,u,v,y⟩:=he _ _ k;rcases List.mem_cons.1 j with rfl|j
  .omega
  .have:=(List.pairwise_cons.1 h'.1).1 q j;unfold fB at this;omega
 .exact m
theorem uniq:∀{l l':List Rn},dI l->dI l'->(∀r x,RI l r x↔RI l' r x)->l=l'
 |[],[],_,_,_=>rfl
 |[],p'::t',_,h',he=>by
  have y:=h'.2 p' Vf;exact absurd ((he p'.1 p'.2.1).2 ⟨p',Vf,rfl,VI _,y.2.2.2.1⟩) Ij
 |p::t,[],h,_,he=>by
  have v:=h.2 p Vf;exact absurd ((he p.1 p.2.1).1 ⟨p,Vf,rfl,VI _,v.2.2.2.1⟩) Ij
 |p::t,p'::t',h,h',he=>by
  have v:=h.2 p Vf;have y:=h'.2 p' Vf;have m:p.1=p'.1/\p.2.1=p'.2.1:=by
   have⟨q,j,Q,V,Z⟩:=(he p.1 p.2.1).1 ⟨p,Vf,rfl,VI _,v.2.2.2.1⟩;have⟨X,A,U,Y,G⟩:=(he p'.1 p'.2.1).2 ⟨p',Vf,rfl,VI _,y.2.2.2.1⟩;have a:=Wt h' j;have b:=Wt h A;omega
  have g:=S5 h h' (λr x=>(he r x).1) m;have o:=S5 h' h (λr x=>(he r x).2) ⟨m.1.symm,m.2.symm⟩;have i:p=p':=by
   have⟨a,b,c⟩:=p;have⟨O,b',c'⟩:=p';simp at m g o;obtain⟨rfl,rfl⟩:=m;have:c=c':=oM;rw[this]
  subst i;have z:∀{s:List Rn},dI (p::s)->∀{r x},RI s r x->¬kG p r x:=by
   rintro s E r x⟨q,j,H,I,J⟩⟨K,L,N⟩;have:=(List.pairwise_cons.1 E.1).1 q j;unfold fB at this;omega
  have M:t=t':=by
   refine uniq ⟨(List.pairwise_cons.1 h.1).2,λq j=>h.2 q (Vg _ j)⟩ ⟨(List.pairwise_cons.1 h'.1).2,λq j=>h'.2 q (Vg _ j)⟩<|λr x=>?_;have e:=he r x;rw[Cy,Cy]at e;constructor
   .intro u;rcases e.1 (.inr u)with k|k
    .exact absurd k<|z h u
    .exact k
   .intro u;rcases e.2 (.inr u)with k|k
    .exact absurd k<|z h' u
    .exact k
  rw[M]
def iV(s:List Rn×Rn×List Rn)(q:Rn):List Rn×Rn×List Rn:=
 if fB q s.2.1 then(s.1++[q],s.2.1,s.2.2)else if fB s.2.1 q then(s.1,s.2.1,s.2.2++[q])else(s.1,(s.2.1.1,min q.2.1 s.2.1.2.1,max q.2.2 s.2.1.2.2),s.2.2)
def rP(l:List Rn)(r:Rn):List Rn×Rn×List Rn:=l.foldl iV ([],r,[])
def fM(l:List Rn)(r:Rn):List Rn:=(rP l r).1++[(rP l r).2.1]++(rP l r).2.2
structure nD(s:List Rn×Rn×List Rn)(t:List Rn):Prop where
 b:dI s.1
 a:dI s.2.2
 r:dG s.2.1
 br:∀p∈s.1,fB p s.2.1
 ra:∀p∈s.2.2,fB s.2.1 p
 bt:∀p∈s.1,∀q∈t,fB p q
 at':∀p∈s.2.2,∀q∈t,fB p q
 t:dI t
def RS(s:List Rn×Rn×List Rn)(r x:Int):Prop:=RI s.1 r x\/kG s.2.1 r x\/RI s.2.2 r x
theorem dI.snoc{l:List Rn}{q:Rn}(h:dI l)(hq:dG q)(ha:∀p∈l,fB p q):dI (l++[q]):=
 ⟨List.pairwise_append.2 ⟨h.1,UX _ _,λp j q' hq'=>by rw[UY]at hq';subst hq';exact ha p j⟩,λp j=>by
  rcases List.mem_append.1 j with j|j
  .exact h.2 p j
  .rw[UY]at j;subst j;exact hq⟩
theorem nD.step{s:List Rn×Rn×List Rn}{q:Rn}{t:List Rn}(h:nD s (q::t)):nD (iV s q) t/\∀r x,RS (iV s q) r x↔(RS s r x\/kG q r x):=by
 have v:=h.t.2 q Vf;have y:=(List.pairwise_cons.1 h.t.1).1;have u:dI t:=⟨(List.pairwise_cons.1 h.t.1).2,λp j=>h.t.2 p (Vg _ j)⟩;have m:=λp j q' (hq':q'∈t)=>h.bt p j q' (Vg _ hq');have k:=λp j q' (hq':q'∈t)=>h.at' p j q' (Vg _ hq');unfold iV;split
 .rename_i hA;refine⟨⟨h.b.snoc v (λp j=>h.bt p j q Vf),h.a,h.r,λp j=>?_,h.ra,λp j=>?_,k,u⟩,λr x=>?_⟩
  .rcases List.mem_append.1 j with j|j
   .exact h.br p j
   .rw[UY]at j;subst j;exact hA
  .rcases List.mem_append.1 j with j|j
   .exact m p j
   .rw[UY]at j;subst j;exact y
  .simp only[RS,sS,B8];constructor
   .rintro((a|a)|a|a)
    .exact .inl<|.inl a
    .exact .inr a
    .exact .inl<|.inr (.inl a)
    .exact .inl<|.inr (.inr a)
   .rintro((a|a|a)|a)
    .exact .inl<|.inl a
    .exact .inr<|.inl a
    .exact .inr<|.inr a
    .exact .inl<|.inr a
 .rename_i hA;split
  .rename_i hB;refine⟨⟨h.b,h.a.snoc v (λp j=>h.at' p j q Vf),h.r,h.br,λp j=>?_,m,λp j=>?_,u⟩,λr x=>?_⟩
   .rcases List.mem_append.1 j with j|j
    .exact h.ra p j
    .rw[UY]at j;subst j;exact hB
   .rcases List.mem_append.1 j with j|j
    .exact k p j
    .rw[UY]at j;subst j;exact y
   .simp only[RS,sS,B8];constructor
    .rintro(a|a|a|a)
     .exact .inl<|.inl a
     .exact .inl<|.inr (.inl a)
     .exact .inl<|.inr (.inr a)
     .exact .inr a
    .rintro((a|a|a)|a)
     .exact .inl a
     .exact .inr<|.inl a
     .exact .inr<|.inr (.inl a)
     .exact .inr<|.inr (.inr a)
  .rename_i hB;have i:=h.r;have nil:∀p∈s.2.2,False:=λp j=>hB ((h.ra p j).trans (h.a.2 p j) (h.at' p j q Vf));refine⟨⟨h.b,h.a,?_,λp j=>?_,λp j=>(nil p j).elim,m,k,u⟩,λr x=>?_⟩
   .unfold fB dG at*;simp only;omega
   .have g:=h.br p j;have o:=h.bt p j q Vf;unfold fB at*;simp only;omega
   .have z:kG (s.2.1.1,min q.2.1 s.2.1.2.1,max q.2.2 s.2.1.2.2) r x↔(kG s.2.1 r x\/kG q r x):=by
     unfold kG fB dG at*;simp only;omega
    simp only[RS,z];constructor
    .rintro(a|(a|a)|a)
     .exact .inl<|.inl a
     .exact .inl<|.inr (.inl a)
     .exact .inr a
     .exact .inl<|.inr (.inr a)
    .rintro((a|a|a)|a)
     .exact .inl a
     .exact .inr<|.inl (.inl a)
     .exact .inr<|.inr a
     .exact .inr<|.inl (.inr a)
theorem nD.fold:∀(t:List Rn) (s:List Rn×Rn×List Rn),nD s t->nD (t.foldl iV s) []/\∀r x,RS (t.foldl iV s) r x↔(RS s r x\/RI t r x)
 |[],s,h=>⟨h,λr x=>by simp[RI]⟩
 |q::t,s,h=>by
  have⟨j,k⟩:=h.step;have⟨m,u⟩:=nD.fold t _ j;refine⟨m,λr x=>?_⟩;rw[List.foldl_cons,u r x,k r x,Cy,or_assoc]
theorem FK{l:List Rn}{r:Rn}(hl:dI l)(hr:dG r):dI (fM l r)/\∀y x,RI (fM l r) y x↔(RI l y x\/kG r y x):=by
 have m:nD ([],r,[]) l:=⟨⟨List.Pairwise.nil,(λp j=>by cases j)⟩,⟨List.Pairwise.nil,(λp j=>by cases j)⟩,hr,(λp j=>by cases j),(λp j=>by cases j),(λp j=>by cases j),(λp j=>by cases j),hl⟩;have⟨h,u⟩:=nD.fold l _ m;change nD (rP l r) []at h;refine⟨⟨?_,λp j=>?_⟩,λy x=>?_⟩
 .unfold fM;rw[Ve];refine List.pairwise_append.2 ⟨h.b.1,List.pairwise_append.2 ⟨UX _ _,h.a.1,λp j q k=>?_⟩,λp j q k=>?_⟩
  .rw[UY]at j;subst j;exact h.ra q k
  .rcases List.mem_append.1 k with k|k
   .rw[UY]at k;subst k;exact h.br p j
   .exact(h.br p j).trans h.r (h.ra q k)
 .unfold fM at j;rcases List.mem_append.1 j with j|j
  .rcases List.mem_append.1 j with j|j
   .exact h.b.2 p j
   .rw[UY]at j;subst j;exact h.r
  .exact h.a.2 p j
 .have:=u y x;unfold fM;rw[sS,sS,B8];change RS (rP l r) y x↔_ at this;unfold RS at this;rw[or_assoc,this];simp[RI];exact or_comm
def fC(l b:List Rn):List Rn:=b.foldl fM l
theorem nX:∀(b l:List Rn),dI l->(∀p∈b,dG p)->dI (fC l b)/\∀y x,RI (fC l b) y x↔(RI l y x\/RI b y x)
 |[],l,h,_=>⟨h,λy x=>by simp[fC,RI]⟩
 |q::b,l,h,hb=>by
  have⟨j,k⟩:=FK h (hb q Vf);have⟨m,r⟩:=nX b (fM l q) j (λp hp=>hb p (Vg _ hp));refine⟨m,λy x=>?_⟩;show RI (fC (fM l q) b) y x↔_;rw[r,k,Cy,or_assoc]
def In(l:List (Int×Int))(x:Int):Prop:=∃p∈l,p.1<=x/\x<=p.2
theorem Dj{l':List (Int×Int)}:In (l++l') x↔In l x\/In l' x:=by
 exact wA
theorem Ca{p:Int×Int}:In [p] x↔p.1<=x/\x<=p.2:=by simp[In]
theorem OS{p:Int×Int}:In (p::l) x↔(p.1<=x/\x<=p.2)\/In l x:=by simp[In]
theorem Im:¬In [] x:=by simp[In]
def gG(l:List (Int×Int))(p:Int×Int):List (Int×Int):=match l.getLast? with
 |none=>[p]
 |some q=>if q.2+1<p.1 then l++[p] else l.dropLast++[(q.1,max q.2 p.2)]
theorem Do(p:Int×Int):gG [] p=[p]:=rfl
theorem Dp{q p:Int×Int}(h:q.2+1<p.1):gG (l++[q]) p=l++[q]++[p]:=by
 simp[gG,h]
theorem Cx{q p:Int×Int}(h:¬q.2+1<p.1):gG (l++[q]) p=l++[(q.1,max q.2 p.2)]:=by
 simp[gG,h]
def rF(p:Int×Int):Prop:=1<=p.1/\p.1<=p.2/\p.2<=1000000000
theorem bL.snoc{p:Int×Int}(h:bL l)(hp:rF p)(ha:∀q∈l,q.2+1<p.1):bL (l++[p]):=
 ⟨List.pairwise_append.2 ⟨h.1,UX _ _,λq j p' hp'=>by rw[UY]at hp';subst hp';exact ha q j⟩,λq j=>by
  rcases List.mem_append.1 j with j|j
  .exact h.2 q j
  .rw[UY]at j;subst j;exact hp⟩
theorem bL.split{q:Int×Int}(h:bL (l++[q])):bL l/\rF q/\∀p∈l,p.2+1<q.1:=by
 have⟨k,j⟩:=h;have⟨a,_,c⟩:=List.pairwise_append.1 k;exact⟨⟨a,λp hp=>j p (List.mem_append.2 (.inl hp))⟩,j q oP,λp hp=>c p hp q oP⟩
theorem Wg{p:Int×Int}(h:bL l)(hp:rF p)(hle:∀q∈l,q.1<=p.1):
  bL (gG l p)/\(∀x,In (gG l p) x↔(In l x\/(p.1<=x/\x<=p.2)))/\(∀q∈gG l p,q.1<=p.1)/\(gG l p).length<=l.length+1:=by
 rcases Vh l with rfl|⟨y,q,rfl⟩
 .rw[Do];exact⟨⟨UX _ _,λq k=>by rw[UY]at k;subst k;exact hp⟩,λx=>by simp[In],λq k=>by rw[UY]at k;subst k;exact VI _,oP⟩
 .simp only[Vi]at*;have⟨u,v,r⟩:=h.split;have k:=hle q oP;by_cases m:q.2+1<p.1
  .rw[Dp m];refine⟨h.snoc hp (λp' j=>?_),λx=>by rw[Dj,Ca],λp' j=>?_,oP⟩
   .rcases List.mem_append.1 j with j|j
    .have:=r p' j;unfold rF at v;omega
    .rw[UY]at j;subst j;exact m
   .rcases List.mem_append.1 j with j|j
    .exact hle p' j
    .rw[UY]at j;subst j;exact VI _
  .rw[Cx m];refine⟨u.snoc ?_ r,λx=>?_,λp' j=>?_,oP⟩
   .unfold rF at*;simp only;omega
   .rw[Dj,Dj,Ca,Ca,or_assoc];have:(q.1<=x/\x<=max q.2 p.2)↔((q.1<=x/\x<=q.2)\/(p.1<=x/\x<=p.2)):=(by unfold rF at*;omega);simp only[this]
   .rcases List.mem_append.1 j with j|j
    .exact hle p'<|List.mem_append.2 (.inl j)
    .rw[UY]at j;subst j;exact k
structure iT(la lb m:List (Int×Int))(i j:Nat):Prop where
 s:bL m
 le:∀q∈m,(∀p∈la.drop i,q.1<=p.1)/\(∀p∈lb.drop j,q.1<=p.1)
 in':∀x,(In m x\/In (la.drop i) x\/In (lb.drop j) x)↔(In la x\/In lb x)
 len:m.length+(la.length-i)+(lb.length-j)<=la.length+lb.length
theorem iT.start(la lb:List (Int×Int)):iT la lb [] 0 0:=
 ⟨⟨List.Pairwise.nil,λp hp=>by cases hp⟩,(λq hq=>by cases hq),λx=>by simp[In],oP⟩
theorem Iw(hi:i<l.length):l.drop i=l.getD i (0,0)::l.drop (i+1):=by
 rw[UU hi];simp[UL,hi]
theorem Xc(h:bL l)(hi:i<l.length):rF (l.getD i (0,0))/\∀p∈l.drop (i+1),(l.getD i (0,0)).1<=p.1:=by
 have k:l.getD i (0,0)∈l:=by simp[UL,hi]
 refine⟨h.2 _ k,λp hp=>?_⟩;have j:=List.Pairwise.sublist (List.drop_sublist i l) h.1;rw[Iw hi]at j;have:=(List.pairwise_cons.1 j).1 p hp;have:=h.2 _ k;omega
theorem iT.stepA{m:List (Int×Int)}(ha:bL la)(hb:bL lb)(h:iT la lb m i j)(hi:i<la.length)(hab:j<lb.length->(la.getD i (0,0)).1<=(lb.getD j (0,0)).1):iT la lb (gG m (la.getD i (0,0))) (i+1) j:=by
 have⟨k,y⟩:=Xc ha hi;have e:=Iw hi;have⟨z,g,u,t⟩:=Wg h.s k (λq hq=>(h.le q hq).1 _ (by rw[e];simp));refine⟨z,λq hq=>⟨λp k=>VK (u q hq) (y p k),λp k=>VK (u q hq) ?_⟩,λx=>?_,?_⟩
 .by_cases r:j<lb.length
  .have v:=Iw r;rw[v]at k;rcases List.mem_cons.1 k with rfl|k
   .exact hab r
   .exact VK (hab r)<|(Xc hb r).2 p k
  .rw[UV oM]at k;cases k
 .rw[<-h.in' x,g x,e,OS,or_assoc,or_assoc]
 .have:=h.len;omega
theorem iT.stepB{m:List (Int×Int)}(ha:bL la)(hb:bL lb)(h:iT la lb m i j)(hj:j<lb.length)(hab:i<la.length->(lb.getD j (0,0)).1<=(la.getD i (0,0)).1):iT la lb (gG m (lb.getD j (0,0))) i (j+1):=by
 have r:iT lb la m j i:=⟨h.s,λq hq=>⟨(h.le q hq).2,(h.le q hq).1⟩,λx=>by rw[or_comm (a:=In lb x),<-h.in' x,or_comm (a:=In (la.drop i) x)],oH h.len⟩;have k:=iT.stepA hb ha r hj hab;exact⟨k.s,λq hq=>⟨(k.le q hq).2,(k.le q hq).1⟩,λx=>by rw[or_comm (a:=In la x),<-k.in' x,or_comm (a:=In (la.drop i) x)],oH k.len⟩
theorem iT.done{m:List (Int×Int)}(h:iT la lb m la.length lb.length):bL m/\(∀x,In m x↔(In la x\/In lb x))/\m.length<=la.length+lb.length:=by
 refine⟨h.s,λx=>?_,oH h.len⟩;rw[<-h.in' x];simp[In]
def flat(R F T:Nat->Int)(n:Nat):List Rn:=(Vb n).map λi=>(R i,F i,T i)
def eM(r:Int)(l:List (Int×Int)):List Rn:=l.map λp=>(r,p.1,p.2)
def eV(L:Int->List (Int×Int))(k:Nat):List Rn:=(KS L k).flatMap λr=>eM r (L r)
theorem Dg(R F T:Nat->Int)(n:Nat):flat R F T (n+1)=flat R F T n++[(R n,F n,T n)]:=by simp[flat,List.range_succ]
theorem uG(R F T:Nat->Int):∀(n:Nat) (r x:Int),RI (flat R F T n) r x↔In (Lk R F T n r) x
 |0,r,x=>by simp[flat,Lk,RI,In]
 |n+1,r,x=>by
  rw[Dg,sS,B8,uG R F T n r x];by_cases e:r=R n
  .subst e;have:Lk R F T (n+1) (R n)=Lk R F T n (R n)++[(F n,T n)]:=dM _ _ _;rw[this,Dj,Ca];simp[kG]
  .have:Lk R F T (n+1) r=Lk R F T n r:=cQ _ _ e;rw[this];simp[kG,Ne.symm e]
theorem mU{R F T:Nat->Int}:∀(n:Nat),fQ R F T n->dI (flat R F T n)
 |0,_=>⟨by simp[flat],λp j=>by simp[flat]at j⟩
 |n+1,h=>by
  have q:=mU n<|λi hi=>h i oM;have v:=qH.1 (h n oM).1;rw[Dg];refine q.snoc v<|λp j=>?_;cases n with
  |zero=>simp[flat]at j
  |succ m=>
   have k:=(h (m+1) oM).2 oM;unfold fT at k;have k:=of_decide_eq_true k;rw[UC]at k;have r:fB (R m,F m,T m) (R (m+1),F (m+1),T (m+1)):=k;rw[Dg]at j q;rcases List.mem_append.1 j with j|j
   .have u:=(List.pairwise_append.1 q.1).2.2 p j _<|List.mem_singleton.2 rfl;exact u.trans (q.2 _ oP) r
   .rw[UY]at j;subst j;exact r
theorem I5(h:bL l)(h0:0<=r)(h8:r<8):dI (eM r l):=by
 refine⟨List.pairwise_map.2 (h.1.imp (λhh=> .inr ⟨rfl,hh⟩)),λp hp=>?_⟩;obtain⟨q,j,rfl⟩:=List.mem_map.1 hp;have:=h.2 q j;exact⟨h0,h8,this⟩
theorem Fl:RI (eM r l) y x↔(r=y/\In l x):=by
 constructor
 .rintro⟨p,u,k,m⟩;obtain⟨q,j,rfl⟩:=List.mem_map.1 u;exact⟨k,q,j,m⟩
 .rintro⟨rfl,q,j,h⟩;exact⟨_,List.mem_map.2 ⟨q,j,rfl⟩,rfl,h⟩
theorem AQ(h:(L (k:Int)).isEmpty=false):eV L (k+1)=eV L k++eM (k:Int) (L (k:Int)):=by
 simp[eV,KS,h]
theorem AR(h:(L (k:Int)).isEmpty=true):eV L (k+1)=eV L k:=by
 simp[eV,KS,h]
theorem yT{L:Int->List (Int×Int)}(hL:∀r,bL (L r)):∀k:Nat,k<=8->dI (eV L k)/\(∀y x,RI (eV L k) y x↔(0<=y/\y<k/\In (L y) x))/\∀p∈eV L k,p.1<k
 |0,_=>⟨⟨by simp[eV,KS],λp j=>by simp[eV,KS]at j⟩,λy x=>by simp[eV,KS,RI];omega,λp j=>by simp[eV,KS]at j⟩
 |k+1,hk=>by
  have⟨m,z,u⟩:=yT hL k oM;by_cases e:(L (k:Int)).isEmpty=true
  .rw[AR e];refine⟨m,λy x=>?_,λp j=>oH (u p j)⟩;rw[z];constructor
   .rintro⟨a,b,c⟩;exact⟨a,oM,c⟩
   .rintro⟨a,b,c⟩;refine⟨a,?_,c⟩;rcases VJ y k with h|h
    .exact h
    .have:y=(k:Int):=oM;subst this;have:L (k:Int)=[]:=oU e;rw[this]at c;exact absurd c Im
  .have e:(L (k:Int)).isEmpty=false:=oU e;rw[AQ e];have v:=I5 (hL (k:Int)) (by omega:(0:Int)<=k) oM;refine⟨⟨List.pairwise_append.2 ⟨m.1,v.1,λp j q hq=>?_⟩,λp j=>?_⟩,λy x=>?_,λp j=>?_⟩
   .obtain⟨g,_,rfl⟩:=List.mem_map.1 hq;exact .inl<|u p j
   .rcases List.mem_append.1 j with j|j
    .exact m.2 p j
    .exact v.2 p j
   .rw[sS,z,Fl];constructor
    .rintro(⟨a,b,c⟩|⟨rfl,c⟩)
     .exact⟨a,oM,c⟩
     .exact⟨oM,oM,c⟩
    .rintro⟨a,b,c⟩;rcases VJ y k with h|h
     .exact .inl ⟨a,h,c⟩
     .have:y=(k:Int):=oM;subst this;exact .inr ⟨rfl,c⟩
   .rcases List.mem_append.1 j with j|j
    .have:=u p j;omega
    .obtain⟨g,_,rfl⟩:=List.mem_map.1 j;show(k:Int)<_;omega
theorem PV{R' F' T':Nat->Int}{n':Nat}(h:fQ R F T n)(h':fQ R' F' T' n')(hS:∀r,bL (L r))(hI:∀r x,In (L r) x↔(In (Lk R F T n r) x\/In (Lk R' F' T' n' r) x)):
  fC (flat R F T n) (flat R' F' T' n')=eV L 8:=by
 have⟨v,y⟩:=nX (flat R' F' T' n') (flat R F T n) (mU n h) (mU n' h').2;have⟨q,u,_⟩:=yT hS 8 zL;refine uniq v q<|λr x=>?_;rw[y,u,uG,uG,hI];constructor
 .intro j;have m:0<=r/\r<8:=by
   rcases j with⟨p,k,_⟩|⟨p,k,_⟩
   .exact nZ n h r<|UW k
   .exact nZ n' h' r<|UW k
  exact⟨m.1,m.2,j⟩
 .exact λj=>j.2.2
theorem XF(l:List (Int×Int))(q:Int×Int)(z:Int):(eW (l++[q])).set (l.length*2+1) (Ud z)=eW (l++[(q.1,z)]):=by
 rw[sX,sX,List.set_append_right _ _ (by rw[Ed];omega),Ed,show l.length*2+1-l.length*2=1 from by omega];rfl
theorem pN{Q:Prop}(h:Q:=by have b:=aC ((Y.alloc _).drew.trans (Gr.app (b':=v') E (oU O)));clear U E O x0 i;go_wp2_with fail;go_ret;exact⟨v',rfl,R,b⟩):Q:=h
theorem Ac(B:Nat)(rv:aB)(l:List (Int×Int))(f t:Int)(w:Ur)(hB:B<=w.1.size)(hl:l.length<=1000000)(ho:SR w B rv l)(hlo:∀q∈l,0<=q.2/\q.2<=1000000000):
  Cl 173 #[rv,Uo #[Ud f,Ud t]] w λe w'=>∃v,e=Ui v/\SR w' B v (gG l (f,t))/\Gr w w' rv v:=by
 have⟨D,hi,N,X,C⟩:=info_parts Tryz.infoSpan;generalize r:w.alloc (Uj #[Ud f,Ud t] 225)=k;have x0:k.cell? (Ub w.1.size)=Uq (Ud f):=r▸oP;have i:k.cell? (Ua w.1.size 1)=Uq (Ud t):=r▸oP;have Hc:aA (k.1.size=w.1.size+1):=r▸aC oP;have L:aA (B<=k.1.size):=by have:=Hc.out;exact aC oM
 have o:aA (SR k B rv l):=r▸World.ownsRow.alloc ho _;have Y:aA (Gr w k rv rv):=r▸(Gr.refl _ _).alloc _;rcases Vh l with rfl|⟨y,q,rfl⟩
 .have G:aA (SR k.drew B rv []):=o.out;obtain⟨a,cap,rfl⟩:∃a cap,rv=Uf a 0 cap:=by
   rcases ho.2 with⟨rfl,_⟩|⟨g,cap,Hd,rfl,_⟩
   .exact⟨_,_,rfl⟩
   .exact⟨_,_,rfl⟩
  .go_enter func173,ntmps173;go_wp2_with fail;try rw[r]
   refine zR (S:=λw'=>w'.cell? (Ub w.1.size)=Uq (Ud f)) x0<|λqh=>?_;refine tY 0 9 ?_;refine tZ 2 11 ?_;refine uZ 3 12 ?_;refine uZ 4 13 ?_;refine uZ 5 14 ?_;refine uZ 6 15 ?_;refine uZ 7 16 ?_;refine uZ 8 17 ?_;refine uZ 9 18 ?_;refine uZ 10 19 ?_;refine uZ 11 20 ?_;refine tZ 12 21 ?_;refine zD ?_;go_wp2_with (at_builtin;refine kU rfl _ _ 183 rfl B 225 D _ 2 16 underlying183 hi N X C rfl oD _ _ _ rfl (World.ownsRow.alloc G _) (Ub k.1.size) 1 1 [Ud f,Ud t] rfl rfl ?c1 ?c2 ?c3 ?c4 ?c5 ?_);case c1=>exact Fh _ _ _ _
   case c2=>intro u V;simp at V;rcases V with rfl|rfl<;>rfl
   case c3=>unfold maxLen;simp
   case c4=>simp
   case c5=>have:=L.out;simp;omega
   intro v' w1 U E O;have R:aA (SR w1 B v' (gG [] (f,t))):=(by rw[Do];exact U);exact pN
 .simp only[Vi]at*;have⟨z,j⟩:=q;have hq:=hlo (z,j) oP;have⟨m,Q⟩:=zE y.length;have M:(y++[(z,j)]).length=m+1:=by simp[Q]
  rcases ho.2 with⟨_,e0⟩|⟨g,cap,Hd,rfl,Hh,_,Hg,He,_,_⟩
  .simp at e0
  have Ha:g≠w.1.size:=λe=>oH ((World.ownsRow.lt ho g rfl).2);have I:k.cell? (Ua g (m*2+1))=Uq (Ud j):=by
   rw[World.ownsRow.cellAt o.out _ (by rw[M];omega),sX,Va (by rw[Ed];omega),Ed,Q,show m*2+1-m*2=1 from by omega];rfl
  have Hf:=World.ownsRow.frozenAt o<|m*2+1;have Hb:=aC<|fun(h:¬j+1<f)=>Cx (l:=y) (q:=(z,j)) (p:=(f,t)) h;have P:=aC<|fun(h:j+1<f)=>Dp (l:=y) (q:=(z,j)) (p:=(f,t)) h;have J:=aC<|XF y (z,j) (max j t);have H:=aC<|World.ownsRow.stored o (m*2+1) (Ud (max j t));have G:aA (k.drew.ownsRow B 225 2 (Uf (Uc g) (m+1) cap) (m+1) (eW (y++[(z,j)]))):=by
   have:=o.out;unfold SR at this;rw[M]at this;exact this
  rw[Q]at J;rw[M]at Hg hl H Y⊢;unfold maxLen at He;have W:=aC Q;have T:=aC M;have x2:IntKind.i64.wrap (j+1)=j+1:=cK _ oM oM;have Hi:decide ((m:Int)<0)=false:=oP;have Hj:(m:Int)<(m:Int)+1:=oM;by_cases A:j+1<f;have t1:decide (j+1<f)=true:=(by simp;exact A);have Z:=aC<|P A;rotate_left;have t1:decide (j+1<f)=false:=oS;have Z:=aC<|Hb A;rotate_left;all_goals
   go_enter func173,ntmps173;go_wp2_with fail
   refine zR (S:=λw'=>w'.cell? (Ub w.1.size)=Uq (Ud f)/\w'.cell? (Ua g (m*2+1))=Uq (Ud j)) ⟨x0,I⟩<|λqh=>?_;refine tY 0 9 ?_;refine tY 2 11 ?_;refine tY 4 13 ?_;refine tY 6 15 ?_;refine tY 8 17 ?_;refine tY 10 19 ?_;refine tZ 12 21 ?_;refine zD ?_
  .go_wp2_with (at_builtin;refine kU rfl _ _ 183 rfl B 225 D _ 2 16 underlying183 hi N X C rfl oD _ _ _ rfl (World.ownsRow.alloc G _) (Ub k.1.size) 1 1 [Ud f,Ud t] rfl rfl ?c1 ?c2 ?c3 ?c4 ?c5 ?_);case c1=>exact Fh _ _ _ _
   case c2=>intro u V;simp at V;rcases V with rfl|rfl<;>rfl
   case c3=>unfold maxLen;omega
   case c4=>omega
   case c5=>have:=L.out;simp;omega
   intro v' w1 U E O;have R:aA (SR w1 B v' (gG (y++[(z,j)]) (f,t))):=by
    rw[Z.out];unfold SR;rw[sX,UM,T.out];exact U
   exact pN
  .go_wp2_with fail;refine zR (S:=λw'=>w'.cell? (Ua w.1.size 1)=Uq (Ud t)) i<|λqh=>?_;refine tY 0 26 ?_;refine tY 2 28 ?_;refine tY 4 30 ?_;refine tY 7 33 ?_;refine cZ 6 ?_;intro K s;go_simp;refine bZ s i<|λqh=>?_;refine tY 9 35 ?_;refine tZ 11 37 ?_;refine cZ 12 ?_;intro K s;go_simp;have F:(k.setCell (Ua g (m*2+1)) (Ud (max j t))).drew.drew.cell? (Ua w.1.size 1)=Uq (Ud t):=by
    rw[<-i];exact Vy<|zH _ _ _ _ (λe=>Ha e.symm)
   refine bZ s F<|λqh=>?_;refine zD ?_;have R:aA (SR (k.setCell (Ua g (m*2+1)) (Ud (max j t))) B (Uf (Uc g) (m+1) cap) (gG (y++[(z,j)]) (f,t))):=by
    rw[Z.out];unfold SR;show World.ownsRow _ _ _ _ _ (y++[(z,max j t)]).length _;rw[<-J.out,show(y++[(z,max j t)]).length=m+1 from by simp[W.out]];exact H.1
   have b:aA (Gr w (k.setCell (Ua g (m*2+1)) (Ud (max j t))).drew.drew (Uf (Uc g) (m+1) cap) (Uf (Uc g) (m+1) cap)):=
    ((Y.trans ⟨eZ k (Ua g (m*2+1)) (Ud (max j t)),.inl rfl⟩).drew).drew
   go_wp2_with fail;go_ret;exact⟨_,rfl,R,b⟩
def jE(w:Ur)(l:List (Int×Int))(i k:Nat)(x:Option Us):Prop:=
 i+k=l.length/\(k=0\/∃g o,x=Uq (Ua g o)/\g<w.1.size/\∀j,j<k->w.cell? (Ua g (o+j*2))=Uq (Ud (sF l (i+j)))/\w.cell? (Ua g (o+j*2+1))=Uq (Ud (sT l (i+j))))
theorem jE.start(h:SS w a l.length (sF l) (sT l)):jE w l 0 l.length a:=by
 refine⟨oM,?_⟩;rcases h with h|⟨b,off,rfl,k,m⟩
 .exact .inl h
 .exact .inr ⟨b,off,rfl,k,λj hj=>by rw[UA];exact m j hj⟩
theorem jE.next(h:jE w l i (k+1) (Uq (Ua g o))):jE w l (i+1) k (Uq (Ua g (o+2))):=by
 have⟨v,m⟩:=h;refine⟨oM,?_⟩;rcases m with m|⟨u,y,e,r,q⟩
 .omega
 .injection e with e;cases e;refine .inr ⟨g,o+2,rfl,r,λj hj=>?_⟩;have:=q (j+1) oM;rw[show o+(j+1)*2=o+2+j*2 from by omega,show i+(j+1)=i+1+j from by omega]at this;exact this
theorem jE.bw{x:Option Us}(h:jE w l i k x)(hb:Bl w w1):jE w1 l i k x:=by
 have⟨r,u⟩:=h;refine⟨r,u.imp id ?_⟩;rintro⟨g,o,e,m,q⟩;exact⟨g,o,e,Ut m hb.size,λj hj=>⟨(hb.cell (p:=(Ua g _)) m).trans (q j hj).1,(hb.cell (p:=(Ua g _)) m).trans (q j hj).2⟩⟩
theorem jE.block{x:Option Us}(h:jE w l i k x)(hk:0<k):∃g o,x=Uq (Ua g o)/\g<w.1.size/\w.cell? (Ua g o)=Uq (Ud (sF l i))/\w.cell? (Ua g (o+1))=Uq (Ud (sT l i)):=by
 rcases h.2 with h|⟨g,o,e,m,j⟩
 .omega
 .have:=j 0 hk;simp at this;exact⟨g,o,e,m,this⟩
theorem SR.bw{w0:Ur}(h:SR w B v l)(hb:Below B w0 w)(hB:B<=w.1.size)(hg:Gr w w1 v v1):Below B w0 w1:=
 hb.trans (hg.bw hB (λk hk=>(World.ownsRow.lt h k hk).1))
def lenOf:aB->Nat
 |Uf _ n _=>n
 |_=>0
theorem TG(a:Option Us)(ca:Nat)(b:Option Us)(cb:Nat)(la lb:List (Int×Int))(w:Ur)(A:SS w a la.length (sF la) (sT la))(y:SS w b lb.length (sF lb) (sT lb))
  (hca:la.length<=ca) (hca':ca<=9223372036854775807) (hcb:lb.length<=cb) (hcb':cb<=9223372036854775807) (ha:bL la) (hb:bL lb) (hna:la.length<=2000) (hnb:lb.length<=2000):
  Cl 138 #[Uf a la.length ca,Uf b lb.length cb] w λe w'=>∃v l,e=Ui v/\SR w' w.1.size v l/\Bl w w'/\bL l/\(∀x,In l x↔(In la x\/In lb x))/\l.length<=la.length+lb.length:=by
 have⟨i0,hi,Gt,Gu,Gv⟩:=info_parts Tryz.infoSpan;have H9:=aC<|jE.start A;have Ga:=aC<|jE.start y;have Hu:=aC ha;have Hv:=aC hb;have Hr:aA (∀m,bL m->∀q∈m,0<=q.2/\q.2<=1000000000):=λm hm q hq=>oH (hm.2 q hq);clear A y ha hb;have⟨na,Hc⟩:=zE la.length;have⟨nb,Hd⟩:=zE lb.length;rw[Hc]at H9 hca hna;rw[Hd]at Ga hcb hnb;rw[Hc,Hd];have Hs:=aC Hc;have Ht:=aC Hd;clear Hc Hd;have⟨cc,Gb⟩:=zE (na+nb:Nat);have hw:IntKind.i64.wrap ((na:Int)+(nb:Int))=(cc:Int):=Gb▸cK _ oM oM;have Go:=run_makeSlice_owned (P:=prog) w w.1.size 183 225 i0 _ 2 underlying183 hi Gt Gu Uh Uh cc oM (by rw[Gv];omega) oL zL;have⟨w1,H4,Hm,Hn⟩:=Go;have Gg:aA (Bl w w1):=zI.grown Hn zL (λ_ h=>by cases h);have Gl:aA (SR w1 w.1.size (Uf (Uc w.1.size) 0 cc) []):=Hm;clear Hm Hn;clear Gb;go_enter func138,ntmps138;go_wp2_with fail;go_loopw [0,1,5] (λu0 u1 u5 wr=>∃(i u Hi:Nat) (xa:Option Us) (j z Hj:Nat) (xb:Option Us) (m:List (Int×Int)),u0=Uf xa u Hi/\u1=Uf xb z Hj/\u<=Hi/\Hi<=9223372036854775807/\z<=Hj/\Hj<=9223372036854775807/\u<=2000/\z<=2000/\aA (jE w la i u xa)/\aA (jE w lb j z xb)/\aA (iT la lb m i j)/\aA (SR wr w.1.size u5 m)/\aA (Bl w wr))
  (λu0 u1 _ _=>lenOf u0+lenOf u1)
 case atStart=>exact⟨0,na,ca,a,0,nb,cb,b,[],rfl,rfl,hca,hca',hcb,hcb',hna,hnb,H9,Ga,aC (iT.start la lb),Gl,Gg⟩
 case round=>
  clear H4;obtain⟨i,u,Hi,xa,j,z,Hj,xb,m,rfl,rfl,Gw,Gx,Gz,G0,Gy,G1,A,y,F,W,C⟩:=hrel;have H5:m.length<=1000000:=by
   have h1:=F.len;have h2:=A.1;have:=Hs.out;have:=Ht.out;omega
  have Hq:=C.size;by_cases Hf:0<u/\0<z
  .have⟨Gq,Gs⟩:=Hf;obtain⟨E,J,rfl,Gm,Hg,Hw⟩:=(A.bw C).block Gq;obtain⟨M,L,rfl,Gn,Hh,Hx⟩:=(y.bw C).block Gs;obtain⟨ka,rfl⟩:∃ka,u=ka+1:=⟨u-1,oM⟩;obtain⟨kb,rfl⟩:∃kb,z=kb+1:=⟨z-1,oM⟩;obtain⟨Hz,rfl⟩:∃k,Hi=k+1:=⟨Hi-1,oM⟩;obtain⟨H0,rfl⟩:∃k,Hj=k+1:=⟨Hj-1,oM⟩;have Gh:aA (E<w.1.size):=by
    rcases A.2 with h|⟨g,o,e,hg,_⟩
    .omega
    .injection e with e;injection e with e1 e2;subst e1;exact aC hg
   have Gi:aA (M<w.1.size):=by
    rcases y.2 with h|⟨g,o,e,hg,_⟩
    .omega
    .injection e with e;injection e with e1 e2;subst e1;exact aC hg
   have H8:aA (SR wr.drew.drew w.1.size u5 m):=W.out;have Gj:aA (i<la.length):=(by have:=A.1;exact aC oM);have Gk:aA (j<lb.length):=(by have:=y.1;exact aC oM);have Ho:Uq E≠u5.ownBlock:=λe=>oJ ((World.ownsRow.lt W E e.symm).1) Gh;have Hp:Uq M≠u5.ownBlock:=λe=>oJ ((World.ownsRow.lt W M e.symm).1) Gi;clear Gm Gn;by_cases Hy:sF la i<=sF lb j;have t1:decide (sF la i<=sF lb j)=true:=(by simp;exact Hy);have⟨Ge,Gc⟩:=zE ((if Hz=0 then Uq ((Ua E J):Us)else Uq (Ua E (J+2))));have Gp:(1:Int)<=(ka:Int)+1:=oM;have H1:aA (jE w la (i+1) ka Ge):=by
    by_cases h0:Hz=0
    .exact aC ⟨oH A.1,.inl oM⟩
    .rw[if_neg h0]at Gc;subst Gc;exact aC A.next
   have X:=aC<|F.stepA Hu Hv Gj (λ_=>Hy);rotate_left;have t1:decide (sF la i<=sF lb j)=false:=oS;have⟨Gf,Gd⟩:=zE ((if H0=0 then Uq ((Ua M L):Us)else Uq (Ua M (L+2))));have Gp:(1:Int)<=(kb:Int)+1:=oM;have H1:aA (jE w lb (j+1) kb Gf):=by
    by_cases h0:H0=0
    .exact aC ⟨oH y.1,.inl oM⟩
    .rw[if_neg h0]at Gd;subst Gd;exact aC y.next
   have X:=aC (F.stepB Hu Hv Gk (λ_=>by show sF lb j<=sF la i;omega));rotate_left;all_goals clear Hy;go_wp2_with fail;refine zR (S:=λw'=>w'.cell? (Ua E J)=Uq (Ud (sF la i))/\w'.cell? (Ua M L)=Uq (Ud (sF lb j))) ⟨Hg,Hh⟩<|λqh=>?_;refine tY 0 24 ?_;refine tY 2 26 ?_;refine tY 4 28 ?_;refine tY 6 30 ?_;refine tZ 8 32 ?_;refine zD ?_;clear qh;go_wp2_with fail
   focus refine zR (S:=λw'=>w'.cell? (Ua E J)=Uq (Ud (sF la i))/\w'.cell? (Ua E (J+1))=Uq (Ud (sT la i))) ⟨Hg,Hw⟩ (λqh=>?_);refine tY 0 33 ?_;refine tY 2 35 ?_;refine tY 5 38 ?_;refine cZ 4 ?_;intro K hK;go_simp;refine(Ac w.1.size _ m (sF la i) (sT la i) wr.drew.drew Hq H5 H8 (Hr m F.s)).mono ?_
   rotate_left;focus refine zR (S:=λw'=>w'.cell? (Ua M L)=Uq (Ud (sF lb j))/\w'.cell? (Ua M (L+1))=Uq (Ud (sT lb j))) ⟨Hh,Hx⟩ (λqh=>?_);refine tY 0 40 ?_;refine tY 2 42 ?_;refine tY 5 45 ?_;refine cZ 4 ?_;intro K hK;go_simp;refine(Ac w.1.size _ m (sF lb j) (sT lb j) wr.drew.drew Hq H5 H8 (Hr m F.s)).mono ?_
   rotate_left;all_goals rintro e H⟨v2,rfl,U,O⟩;have Y:Gr wr H u5 v2:=((Gr.refl wr u5).drew.drew).trans O;have N:=aC<|W.bw C Hq Y;have B:=aC U
   have d0:H.cell? (Ua E J)=Uq (Ud (sF la i)):=Y.g.cell Hg Ho;have d1:H.cell? (Ua E (J+1))=Uq (Ud (sT la i)):=Y.g.cell Hw Ho;rotate_left;have d0:H.cell? (Ua M L)=Uq (Ud (sF lb j)):=Y.g.cell Hh Hp;have d1:H.cell? (Ua M (L+1))=Uq (Ud (sT lb j)):=Y.g.cell Hx Hp;rotate_left;all_goals
    clear U O Y;refine bZ hK ⟨d0,d1⟩<|λqh=>?_;clear hK K;refine tZ 7 5 ?_
   refine tZ 8 0 ?_;rotate_left;refine tZ 8 1 ?_;rotate_left;all_goals refine zD ?_;clear qh d0 d1 Hg Hw Hh Hx;go_wp2_with fail;go_roundw;case measure=>simp[lenOf]
   .exact⟨i+1,ka,Hz,Ge,j,kb+1,H0+1,_,_,rfl,rfl,oM,oM,oM,oM,oM,oM,H1,y,X,B,N⟩
   .exact⟨i,ka+1,Hz+1,_,j+1,kb,H0,Gf,_,rfl,rfl,oM,oM,oM,oM,oM,oM,A,H1,X,B,N⟩
  .have H6:aA (u=0\/z=0):=aC oM;clear Hf;rcases Uy u with Hl|Hl;case' inl=>
    have e1:decide (0<u)=false:=(by simp;exact Hl);clear Hl;go_wp2_with fail
   case' inr=>
    have e1:decide (0<u)=true:=(by simp;exact Hl);have e2:decide (0<z)=false:=(by simp;have:=H6.out;omega);clear Hl;go_wp2_with fail
   all_goals (
    go_loopw [5,49] (λv5 iv wr2=>∃(k:Nat) (r:List (Int×Int)),k<=u/\iv=Ud k/\aA (iT la lb r (i+k) j)/\aA (SR wr2 w.1.size v5 r)/\aA (Bl w wr2)) (λ_ iv _=>u-(intOf iv).toNat);case atStart=>exact⟨0,m,UB _,rfl,F,W,C⟩
    case round=>
     clear F W C Hq H5;obtain⟨k,r,hk,rfl,Q,I,V⟩:=hrel;have Hb:r.length<=1000000:=by
      have h1:=Q.len;have:=Hs.out;have:=Ht.out;omega
     have He:=V.size;by_cases D:k<u
     .have Ha:∃g o,xa=Uq (Ua g o)/\wr.cell? (Ua g (o+k*2))=Uq (Ud (sF la (i+k)))/\wr.cell? (Ua g (o+k*2+1))=Uq (Ud (sT la (i+k))):=by
       rcases (A.bw V.out).2 with h|⟨g,o,e,hg,hc⟩
       .omega
       .exact⟨g,o,e,hc k D⟩
      obtain⟨g,o,rfl,c0,c1⟩:=Ha;have X:=aC<|Q.stepA Hu Hv (oH A.1) (λhj=>oJ y.1 H6);have⟨Z,R⟩:=zE (sF la (i+k));have⟨G,T⟩:=zE (sT la (i+k));have HQ:aA (la.getD (i+k) (0,0)=(Z,G)):=(by rw[<-R,<-T];exact rfl);rw[R]at c0;rw[T]at c1;clear R T;have⟨t,p⟩:=zE (wr.alloc (Uj #[Ud Z,Ud G] 225));have r0:t.cell? (Ub wr.1.size)=Uq (Ud Z):=p▸oP;have r1:t.cell? (Ua wr.1.size 1)=Uq (Ud G):=p▸oP;have H2:aA (SR t w.1.size u5 r):=p▸World.ownsRow.alloc I _;have Hk:aA (Gr wr t u5 u5):=p▸(Gr.refl _ _).alloc _;have H3:aA (w.1.size<=t.1.size):=(by have:=Hk.g.size;exact aC oM);go_wp2_with fail
      refine(Ac w.1.size u5 r Z G t H3 Hb H2 (Hr r Q.s)).mono ?_;rintro e H⟨v2,rfl,U,O⟩;have N:=aC<|I.bw V He (Hk.trans O);have B:=aC U;clear U O p c0 c1 r0 r1;go_wp2_with fail;go_roundw;case rel=>exact⟨k+1,_,D,oN,by have:=X;rw[HQ.out]at this;exact this,B,N⟩
      case measure=>exact oE
     .obtain rfl:k=u:=oM;have H7:aA (iT la lb r la.length j):=by
       have h1:=A.1;have h2:=Q.out;rw[h1]at h2;exact aC h2
      clear D Q;go_wp2_with fail;go_loopw [5,59] (λv5 iv wr2=>∃(k:Nat) (r:List (Int×Int)),k<=z/\iv=Ud k/\aA (iT la lb r la.length (j+k))/\aA (SR wr2 w.1.size v5 r)/\aA (Bl w wr2)) (λ_ iv _=>z-(intOf iv).toNat);case atStart=>exact⟨0,r,UB _,rfl,H7,I,V⟩
      case round=>
       clear H7 I V He Hb hk;obtain⟨k,r,hk,rfl,Q,I,V⟩:=hrel;have Hb:r.length<=1000000:=by
        have h1:=Q.len;have:=Hs.out;have:=Ht.out;omega
       have He:=V.size;by_cases D:k<z
       .have Ha:∃g o,xb=Uq (Ua g o)/\wr.cell? (Ua g (o+k*2))=Uq (Ud (sF lb (j+k)))/\wr.cell? (Ua g (o+k*2+1))=Uq (Ud (sT lb (j+k))):=by
         rcases (y.bw V.out).2 with h|⟨g,o,e,hg,hc⟩
         .omega
         .exact⟨g,o,e,hc k D⟩
        obtain⟨g,o,rfl,c0,c1⟩:=Ha;have X:=aC<|Q.stepB Hu Hv (oH y.1) (λhj=>oM);have⟨Z,R⟩:=zE (sF lb (j+k));have⟨G,T⟩:=zE (sT lb (j+k));have HQ:aA (lb.getD (j+k) (0,0)=(Z,G)):=(by rw[<-R,<-T];exact rfl);rw[R]at c0;rw[T]at c1;clear R T;have⟨t,p⟩:=zE (wr.alloc (Uj #[Ud Z,Ud G] 225));have r0:t.cell? (Ub wr.1.size)=Uq (Ud Z):=p▸oP;have r1:t.cell? (Ua wr.1.size 1)=Uq (Ud G):=p▸oP;have H2:aA (SR t w.1.size u5 r):=p▸World.ownsRow.alloc I _;have Hk:aA (Gr wr t u5 u5):=p▸(Gr.refl _ _).alloc _;have H3:aA (w.1.size<=t.1.size):=(by have:=Hk.g.size;exact aC oM);go_wp2_with fail
        refine(Ac w.1.size u5 r Z G t H3 Hb H2 (Hr r Q.s)).mono ?_;rintro e H⟨v2,rfl,U,O⟩;have N:=aC<|I.bw V He (Hk.trans O);have B:=aC U;clear U O p c0 c1 r0 r1;go_wp2_with fail;go_roundw;case rel=>exact⟨k+1,_,D,oN,by have:=X;rw[HQ.out]at this;exact this,B,N⟩
        case measure=>exact oE
       .obtain rfl:k=z:=oM;have HD:aA (bL r/\(∀x,In r x↔(In la x\/In lb x))/\r.length<=la.length+lb.length):=by
         have h1:=y.1;have h2:=Q.out;rw[h1]at h2;exact aC h2.done
        clear Q D;go_wp2_with fail;go_ret;refine⟨_,r,rfl,I,V,HD.1,HD.2.1,?_⟩;have:=HD.2.2;have:=Hs.out;have:=Ht.out;omega)
theorem Ox(w:Ur){ops:Array Oper}{rest:List Oper}{o:Oper}{a:Act}{Q:Exit->Act->Ur->Prop}(hg:o.guard=Up)(it:Operand)(hop:o.op=Op.next it false)(k:TypeId)(K:Keyed P k)(hk:P.underlying k=Uq (.int Uh))
  (b r n:Nat) (D:DataW aB) (left:Lit->Bool) (cnt:Nat) (hit:a.eval it=Uk (Uc r)) (h:w.ranges P k dT b r n D left cnt)
  (hDone:(∀kl,left kl=false)->wpList P ops Q rest (a.put o.dst (Ul #[Un false])) w)
  (hMore:∀(x:Int) (va:Option Us) (vn vc:Nat) (w':Ur) (cnt':Nat),(Lit.int Uh x).wf=true->left (kI x)=true->(∀zd,D.atKey (kI x) zd=.held (Uf va vn vc))->w'.ranges P k dT b r n D (λz=>left z&&!z.sameKey (kI x)) cnt'->cnt'<cnt->
   w.grownBy w' (Uq r)->w'.1.size=w.1.size->(Instr.entry (Uk (Uc r))).run P w'=.ok (Ul #[Ud x,Uf va vn vc]) w'->wpList P ops Q rest (a.put o.dst (Ul #[Un true,Ud x,Uf va vn vc])) w'):
  wpList P ops Q (o::rest) a w:=
 wpList_next_ranges w hg it hop k K dT (Value.int Uh) (λp:Option Us×Nat×Nat=>Uf p.1 p.2.1 p.2.2) (λkey kl hkey=>by obtain⟨x,rfl,_⟩:=Maps.keyOf_int_inv hk hkey;exact⟨x,rfl⟩) (λv y hv=>by obtain⟨_,a,n,c,rfl⟩:=Ns (d:=y.1) (ps:=y.2) hv;exact⟨(a,n,c),rfl⟩)
  b r n D left cnt hit h (λ_ hl=>hDone hl) (λx p kl y w' cnt' hkey hlk hv hat hrg hlt hgr hsz hen=>by
   obtain⟨x',j,rfl,q⟩:=Maps.keyOf_int_inv hk hkey;cases j;have m:=(Ns (d:=y.1) (ps:=y.2) hv).1;exact hMore x p.1 p.2.1 p.2.2 w' cnt' q hlk (λzd=>m▸hat zd) hrg hlt hgr hsz hen)
theorem Aa(x y:Int):(kI x).sameKey (kI y)=decide (x=y):=by
 rw[Bool.eq_iff_iff,WideAt.sameKey_iff (show WideAt.IsKeyLit (kI y)from trivial),decide_eq_true_iff];constructor
 .intro h;unfold kI at h;injection h
 .intro h;rw[h]
theorem DF(bd bs nd ns:Nat)(Dd Ds:DataW aB)(w:Ur)(hd:w.ownsMap prog 3 dT bd nd Dd)(hs:w.ownsMap prog 3 dT bs ns Ds)(hne:bd≠bs)(hroom:nd+Maps.size Ds<=maxLen):
  Cl 137 #[.map (Uq bd),.map (Uq bs)] w λe w'=>e=Ui (Ul #[])/\(∃D,w'.ownsMap prog 3 dT bd (nd+Maps.size Ds) D/\Merged D Dd Ds (λ_=>false))/\w.grownBy w' (Uq bd):=by
 have G:=hd.lt;go_enter func137,ntmps137;go_wp2_with (at_range;refine wpList_range_own _ rfl _ 109 rfl 3 183 (int_keyed underlying3) underlying109 dT bs ns Ds rfl hs ?_;intro B O h N);go_frame;go_loopw [8] (λ_ wr=>∃(r:Lit->Bool) (m:Nat) (k:DataW aB),wr.ranges prog 3 dT bs w.1.size ns Ds r m/\m<=Maps.size Ds/\
   wr.ownsMap prog 3 dT bd (nd+(Maps.size Ds-m)) k/\Merged k Dd Ds r/\w.grownBy wr (Uq bd))
  (λ_ wr=>wr.rangeLeft bs w.1.size)
 case atStart=>exact⟨_,_,Dd,O,Ux _,(hd.kept h oP).mono oM,merged_start Dd Ds,h.but _⟩
 case round=>
  have⟨r,m,k,y,J,q,u,v⟩:=hrel;go_wp2_with (at_next;refine Ox _ rfl _ rfl 3 (int_keyed underlying3) underlying3 bs w.1.size ns _ _ _ rfl y ?_ ?_)
  .intro s;have z:Merged k Dd Ds (λ_=>false):=by
    have e:r=λ_=>false:=funext s;rw[<-e];exact u
   have H:=aC<|And.intro q (And.intro z v);go_wp2;go_end0;exact⟨rfl,⟨k,H.1.mono oM,H.2.1⟩,H.2.2⟩
  .intro x V Z Y w1 i U L b Q A g X K;have E:=q.kept g<|λe=>oH (Option.some.inj e);have p:keyOf prog 3 (Ud x)=Uq (kI x):=keyOf_int_mk underlying3 U;go_wp2_with (at_mapUpdate;refine wpList_mapUpdate_own _ rfl _ _ _ 109 rfl 3 183 (int_keyed underlying3) underlying109 dT bd _ _ rfl E oM _ _ _ rfl rfl p (.held (Uf V Z Y)) [] rfl ?_;intro C M t;go_frame);have o:=Q.kept t (λe=>hne (Option.some.inj e).symm)<|λe=>oH (Option.some.inj e);go_roundw;case rel=>exact⟨_,i,_,o,oM,M.mono oM,merged_step u q.isMap (show WideAt.IsKeyLit (kI x)from trivial) b,(v.andThen g (λj hj=> .inl (by cases hj;exact Ux _))).andThen t (λj hj=> .inr hj)⟩
   case measure=>rw[o.left_eq,y.left_eq];exact A
theorem OX{r:Nat}{s:Nat}{D:DataW aB}{left:Lit->Bool}(h:w.ownsRow B e s v m xs)(hm:w.ranges prog 3 dT b r n D left c):v.ownBlock=Up\/v.ownBlock≠Uq r:=by
 have⟨_,k⟩:=h;rcases k with⟨rfl,_⟩|⟨g,cap,z,rfl,_,j,_⟩
 .exact .inl rfl
 .refine .inr<|λe=>?_;have⟨t,y,i,o,u,_,_,_,_,q,_⟩:=hm;have e:g=r:=by simpa[Value.ownBlock]using e
  rw[e,q]at j;cases j
theorem Fi(h:In l x):l≠[]:=λe=>by rw[e]at h;exact Im h
theorem bL.inh(h:bL l)(hne:l≠[]):∃x,In l x:=by
 cases l with
 |nil=>exact absurd rfl hne
 |cons p t=>exact⟨p.1,p,Vf,VI _,(h.2 p Vf).2.1⟩
structure Be(La Lb L:Int->List (Int×Int))(left:Int->Bool):Prop where
 s:∀r,bL (L r)
 done:∀r,left r=false->∀x,In (L r) x↔(In (La r) x\/In (Lb r) x)
 todo:∀r,left r=true->L r=La r
 len:∀r,(L r).length<=(La r).length+(Lb r).length
theorem MH{ba na bb nb:Nat}{Da Db:DataW aB}{Ga Gb:Int->aB}{La Lb:Int->List (Int×Int)}(ha:bP w ba na Da Ga La)(hb:bP w bb nb Db Gb Lb)
  (hsa:∀r,bL (La r)) (hsb:∀r,bL (Lb r)) (hla:∀r,(La r).length<=2000) (hlb:∀r,(Lb r).length<=2000) (hza:Maps.size Da<=2000) (hzb:Maps.size Db<=2000):
  Cl 99 #[.map (Uq ba),.map (Uq bb)] w λe w'=>∃bd n D G L,e=Ui (.map (Uq bd))/\n<=4000/\eJ w' bd n D G L/\Be La Lb L (λ_=>false)/\Bl w w':=by
 have Gp:=ha.own.lt;have Gq:=hb.own.lt;have o:=aC ha;have M:=aC hb;have Hv:=aC hsa;have Hw:=aC hsb;have Ge:=aC hla;have Gf:=aC hlb;have Gk:=@run_makeMap prog;generalize O:w.alloc (.map #[] 0)=Z;have E:aA (Bl w Z):=O▸aC (zO _ _);have Ht:aA (Z.ownsMap prog 3 dT w.1.size 0 (.map [])):=O▸aC (Vv w _ _ _);have Hz:aA (Z.1.size=w.1.size+1):=O▸aC oP;go_enter func99,ntmps99;go_wp2_with fail;refine(DF w.1.size ba 0 na (.map []) Da Z Ht (o.bw E).own oM oL).mono ?_;rintro e V⟨rfl,⟨X,H0,C⟩,R⟩;have B2:Bl w V:=E.grown R (oH Hz)<|λk hk=>oI hk;have Hc:=(M.bw B2).own;have z2:w.1.size<V.1.size:=oJ R.size Hz;have Hx:aA (Be La Lb La (λr=>Maps.has Db (kI r))):=by
  refine aC ⟨Hv,λr q x=>?_,λ_ _=>rfl,λr=>oM⟩;have q:Maps.has Db (kI r)=false:=q;rw[M.has' r]at q;have:Lb r=[]:=oU q;rw[this];simp[In]
 have Hp:aA (∀r,X.atKey (kI r) (.held Ue)=.held (Ga r)):=by
  refine aC<|λr=>?_;rw[C.2,<-o.at' r];cases e:Maps.has Da (kI r)with
  |true=>rfl
  |false=>
   rw[atKey_of_not_has e];rfl
 have Hs:aA (∀r,Maps.has X (kI r)= !(La r).isEmpty):=by
  refine aC<|λr=>?_;rw[C.1,o.has' r];have:Maps.has (.map []:DataW aB) (kI r)=false:=rfl;rw[this];simp
 have Hr:=aC H0;have B:=aC B2;go_wp2_with (at_range;refine wpList_range_own _ rfl _ 109 rfl 3 183 (int_keyed underlying3) underlying109 dT bb nb Db rfl Hc ?_;intro w0 Hd I Gm);go_frame;have b0:Bl w w0:=B.grown I oM (λ_ h=>by cases h);go_loopw [6] (λ_ wr=>∃(N:Lit->Bool) (b:Nat) (A:DataW aB) (u:Int->aB) (j:Int->List (Int×Int)),wr.ranges prog 3 dT bb V.1.size nb Db N b/\b<=Maps.size Db/\aA (eJ wr w.1.size (Maps.size Da+(Maps.size Db-b)) A u j)/\aA (Be La Lb j (λr=>N (kI r)))/\aA (Bl w wr))
  (λ_ wr=>wr.rangeLeft bb V.1.size)
 case atStart=>
  refine⟨_,_,X,Ga,La,Hd,Ux _,aC ⟨(Hr.kept I oP).mono oM,Hp,Hs,λr=>yY (((o.bw B).rows r).kept I ?_)⟩,Hx,aC b0⟩;cases e:(Ga r).ownBlock with
  |none=>exact .inl rfl
  |some g=>exact .inr oP
 case round=>
  have⟨N,b,A,u,j,Q,Gr,p,U,P⟩:=hrel;go_wp2_with (at_next;refine Ox _ rfl _ rfl 3 (int_keyed underlying3) underlying3 bb V.1.size nb _ _ _ rfl Q ?_ ?_)
  .intro H2;have HU:aA (Be La Lb j (λ_=>false)):=by
    have e:(λr=>N (kI r))=λ_=>false:=funext λr=>H2 (kI r);have:=U.out;rw[e]at this;exact aC this
   go_wp2_with fail;go_ret;exact⟨w.1.size,_,A,u,j,rfl,oM,p,HU,P⟩
  .intro x va vn vc w1 Hi H9 H5 F He Gi J Gn Gs;have hG:Gb x=Uf va vn vc:=by
    have z:=M.at' x;rw[F]at z;injection z with z;exact z.symm
   have H1:Lb x≠[]:=by
    have z:=has_true_of_atKey F;rw[M.has' x]at z;intro e;rw[e]at z;cases z
   have t:Bl w w1:=P.grown J P.size<|λk hk=>oI hk;have H7:=(M.bw t).rows x;have H6:=(o.bw t).rows x;have H4:=(o.bw t).look x H9;have⟨xb,cb,H,Gd,Hl,Hm⟩:=De H7;have⟨xa,ca,e2,Gc,Hj,Hk⟩:=De H6;rw[hG]at H;cases H;rw[e2]at H4;have g1:eJ w1 w.1.size (Maps.size Da+(Maps.size Db-b)) A u j:=⟨p.own.kept J (λe=>oI e),p.at',p.has',λr=>(p.rows r).kept J (OX (p.rows r) Q)⟩;have HC:=aC<|TG xa ca va vc (La x) (Lb x) w1 Gc Gd Hj Hk Hl Hm (Hv x) (Hw x) (Ge x) (Gf x);have i:=aC g1;have E:=aC t;have Ha:=aC He;have Gg:=aC Q.left_eq;have Go:=aC H5;have Gh:=aC H1;go_wp2_with fail;refine HC.mono ?_;rintro e W⟨v,l,rfl,T,m,H8,Hb,H3⟩;have Hf:=Ha.kept (row:=Up) ⟨m.os,m.tape,m.output,m.size,λk hk _=>m.block k hk⟩ oP oP;have Hn:keyOf prog 3 (Ud x)=Uq (kI x):=keyOf_int_mk underlying3 H9;have Gl:dT v=Uq (.held v,[]):=Nr T;have S:W.ownsMap prog 3 dT w.1.size (Maps.size Da+(Maps.size Db-b)) A:=i.own.kept (row:=Up) ⟨m.os,m.tape,m.output,m.size,λk hk _=>m.block k hk⟩ oP;have Hu:aA (∀r,W.ownsRow 0 225 2 (u r) (j r).length (eW (j r))):=aC λr=>uR (i.rows r) m;have Hy:aA (W.ownsRow 0 225 2 v l.length (eW l)):=aC<|yY T;have Hq:=aC<|aE E m;have Y:=aC<|And.intro H8 (And.intro Hb H3);have Hh:=aC Hf;go_wp2_with (at_mapUpdate;refine wpList_mapUpdate_own _ rfl _ _ _ 109 rfl 3 183 (int_keyed underlying3) underlying109 dT w.1.size _ _ rfl S oL _ _ _ rfl rfl Hn (.held v) [] Gl ?_;intro w4 Gj K;go_frame);have Hg:=Hh.kept K (λe=>oI e)<|λe=>oI e;have Ho:l≠[]:=by
    have⟨y,hy⟩:=(Hw x).inh Gh;exact Fi<|(Y.2.1 y).2 (.inr hy)
   go_roundw;case rel=>
    refine⟨_,Hi,_,eS u x v,eS j x l,Hg,oM,aC ⟨Gj.mono oM,λr=>?_,λr=>?_,λr=>?_⟩,aC ⟨λr=>?_,λr q=>?_,λr q=>?_,λr=>?_⟩,aC (Hq.grown K (oH Hq.size) (λk hk=>oI hk))⟩
    .by_cases e:r=x
     .subst e;rw[dM,atKey_put_same i.own.isMap (show WideAt.IsKeyLit (kI r)from trivial)]
     .rw[cQ u v e,atKey_put_other (qB e)];exact i.at' r
    .by_cases e:r=x
     .subst e;rw[dM,has_put_same i.own.isMap (show WideAt.IsKeyLit (kI r)from trivial)];cases l with
      |nil=>exact absurd rfl Ho
      |cons _ _=>rfl
     .rw[cQ j l e,has_put_other (qB e)];exact i.has' r
    .by_cases e:r=x
     .subst e;rw[dM,dM];exact Hy.kept K<|yS Hy S
     .rw[cQ u v e,cQ j l e];exact(Hu r).kept K (yS (Hu r) S)
    .by_cases e:r=x
     .subst e;rw[dM];exact Y.1
     .rw[cQ j l e];exact U.s r
    .by_cases e:r=x
     .subst e;rw[dM];exact Y.2.1
     .rw[cQ j l e];exact U.done r (by rw[Aa]at q;simpa[e]using q)
    .by_cases e:r=x
     .subst e;rw[Aa]at q;simp at q
     .rw[cQ j l e];exact U.todo r (by rw[Aa]at q;simpa[e]using q)
    .by_cases e:r=x
     .subst e;rw[dM];exact Y.2.2
     .rw[cQ j l e];exact U.len r
   case measure=>rw[Hg.left_eq,Gg.out];exact Gi
def SK(f:Int->Nat):Nat->Nat
 |0=>0
 |k+1=>SK f k+f (k:Int)
theorem Wh{f:Int->Nat}(h:∀r,f r=0):∀k,SK f k=0
 |0=>rfl
 |k+1=>by simp only[SK];rw[Wh h k,h]
theorem Wi{f f':Int->Nat}{x:Int}(ho:∀r,r≠x->f' r=f r):∀k:Nat,((k:Int)<=x\/x<0)->SK f' k=SK f k
 |0,_=>rfl
 |k+1,h=>by simp only[SK];rw[Wi ho k oM,ho k oM]
theorem S0{f f':Int->Nat}{x:Int}(ho:∀r,r≠x->f' r=f r)(h0:0<=x):∀k:Nat,x<k->SK f' k+f x=SK f k+f' x
 |0,h=>oM
 |k+1,h=>by
  simp only[SK];by_cases e:x=(k:Int)
  .rw[Wi ho k oM,<-e];omega
  .have:=S0 ho h0 k oM;rw[ho k (λh=>e h.symm)];omega
theorem W6{f:Int->Nat}{c:Nat}(h:∀r,f r<=c):∀k,SK f k<=c*k
 |0=>Ux _
 |k+1=>by have:=W6 h k;have:=h (k:Int);simp only[SK];rw[Nat.mul_succ];omega
theorem Mw(L:Int->List (Int×Int)):∀k,(eV L k).length=SK (λr=>(L r).length) k
 |0=>rfl
 |k+1=>by
  by_cases e:(L (k:Int)).isEmpty=true
  .rw[AR e,Mw L k];have:L (k:Int)=[]:=oU e;simp[SK,this]
  .rw[AQ (oU e),UM,Mw L k];simp[SK,eM]
theorem NS{D:DataW aB}{G:Int->aB}(h:eJ w bm n D G L)(hL:∀r,L r≠[]->0<=r/\r<8)(hl:∀r,(L r).length<=4000):
  Cl 101 #[.map (Uq bm)] w (Rt w (Ud (((eV L 8).length:Nat):Int))):=by
 have K:=h.own;have z:=aC h;have R:=aC hL;have A:=aC hl;have E:=aC<|Mw L 8;have⟨Hd,B⟩:=zE ((eV L 8).length);rw[B]at E⊢;go_enter func101,ntmps101;go_wp2_with (at_range;refine wpList_range_own _ rfl _ 109 rfl 3 183 (int_keyed underlying3) underlying109 dT bm n D rfl K ?_;intro w0 N Y Hb);go_frame;have O:Bl w w0:=zI.grown Y zL (λ_ h=>by cases h);go_loopw [3] (λv wr=>∃(m:Lit->Bool) (Q q:Nat),v=Ud (q:Int)/\wr.ranges prog 3 dT bm w.1.size n D m Q/\aA (q=SK (λr=>if m (kI r) then 0 else(L r).length) 8)/\aA (Bl w wr))
  (λ_ wr=>wr.rangeLeft bm w.1.size)
 case atStart=>
  refine⟨_,_,0,rfl,N,aC ?_,aC O⟩;rw[Wh (λr=>?_)];cases e:Maps.has D (kI r)with
  |true=>rfl
  |false=>rw[z.has' r]at e;have:L r=[]:=oU e;simp[this]
 case round=>
  obtain⟨m,Q,q,rfl,g,b,s⟩:=hrel;have He:q<=32000:=by
   rw[b.out];have:=W6 (f:=λr=>if m (kI r) then 0 else(L r).length) (c:=4000) (λr=>by have:=A r;show(if _ then _ else _)<=_;split<;>omega) 8;omega
  go_wp2_with (at_next;refine Ox _ rfl _ rfl 3 (int_keyed underlying3) underlying3 bm w.1.size n _ _ _ rfl g ?_ ?_)
  .intro H;have P:aA (q=Hd):=by
    have j:=b.out;rw[show(λr=>if m (kI r) then 0 else(L r).length)=λr=>(L r).length from funext λr=>by rw[H (kI r)];rfl]at j;exact aC<|j.trans E.symm
   go_wp2_with fail;go_ret;exact⟨zN (by rw[P.out]),s⟩
  .intro x va t vc w1 Ha Hi J p X I Z Hc Hg;have V:G x=Uf va t vc:=by
    have j:=z.at' x;rw[p]at j;injection j with j;exact j.symm
   have⟨a',c',U,_⟩:=De (z.rows x);rw[V]at U;injection U with ea en ec;subst ea ec;have C:0<=x/\x<8:=by
    have j:=has_true_of_atKey p;rw[z.has' x]at j;exact R x (λe=>by rw[e]at j;cases j)
   have Hh:t<=4000:=(by rw[en];exact A x);have W:aA (q+t=SK (λr=>if (m (kI r)&&!(kI r).sameKey (kI x)) then 0 else(L r).length) 8):=by
    obtain⟨u,o⟩:∃u:Int->Nat,u=λr=>if m (kI r) then 0 else(L r).length:=⟨_,rfl⟩;obtain⟨y,i⟩:∃y:Int->Nat,y=λr=>if (m (kI r)&&!(kI r).sameKey (kI x)) then 0 else(L r).length:=⟨_,rfl⟩;have j:=S0 (f:=u) (f':=y) (x:=x) (λr hr=>by rw[o,i];show(if _ then _ else _)=(if _ then _ else _);rw[Aa];simp[hr]) C.1 8 C.2;have h2:u x=0:=(by rw[o];show(if _ then _ else _)=_;rw[J];rfl);have h3:y x=(L x).length:=(by rw[i];show(if _ then _ else _)=_;rw[Aa];simp);have h4:=b.out;rw[<-o]at h4;rw[<-i];exact aC oM
   have F:aA (Bl w w1):=aC<|s.grown Z s.size (λk hk=>oI hk);have S:=aC g.left_eq;have M:=aC X;have T:=aC I;go_wp2_with fail;go_roundw;case rel=>exact⟨_,Ha,q+t,oN,M,W,F⟩
   case measure=>rw[M.left_eq,S.out];exact T
def bC(l:List Rn):List aB:=l.flatMap λp=>[Ud p.1,Ud p.2.1,Ud p.2.2]
theorem Ou(l:List Rn)(p:Rn):bC (l++[p])=bC l++[Ud p.1,Ud p.2.1,Ud p.2.2]:=by simp[bC]
def FR(w:Ur)(B:Nat)(v:aB)(l:List Rn):Prop:=w.ownsRow B 103 3 v l.length (bC l)
theorem eJ.look{D:DataW aB}{G:Int->aB}(h:eJ w bm n D G L)(r:Int)(hr:(Lit.int Uh r).wf=true):
  (Instr.lookup 109 (.map (Uq bm)) (Ud r) false).run prog w=.ok (G r) w:=by
 exact wD
theorem TM{D:DataW aB}{G:Int->aB}(h:eJ w bm n D G L)(hL:∀r,L r≠[]->0<=r/\r<8):(KS L 8).Perm (intKeys D)/\Maps.size D=(KS L 8).length:=by
 exact wY
def iK(L:Int->List (Int×Int))(ks:List Int):Nat->List Rn
 |0=>[]
 |k+1=>iK L ks k++eM (ks.getD k 0) (L (ks.getD k 0))
theorem Zb(L:Int->List (Int×Int))(ks:List Int):∀k,k<=ks.length->iK L ks k=(ks.take k).flatMap λr=>eM r (L r)
 |0,_=>by simp[iK]
 |k+1,h=>by
  have e:ks.take (k+1)=ks.take k++[ks.getD k 0]:=by
   rw[Vc];simp[UL,show k<ks.length by omega]
  rw[e,List.flatMap_append,<-Zb L ks k oM];simp[iK]
theorem Xn{L:Int->List (Int×Int)}(hL:∀r,(L r).length<=4000)(ks:List Int):∀k,(iK L ks k).length<=4000*k
 |0=>by simp[iK]
 |k+1=>by
  have:=Xn hL ks k;have:=hL (ks.getD k 0);simp only[iK,UM,eM,UR];omega
theorem PX{t:Nat}(h:t<l.length):(eM r l).take (t+1)=(eM r l).take t++[(r,sF l t,sT l t)]:=by
 rw[Vc];simp[eM,sF,sT,UL,h]
theorem nE{Q:Prop}(h:Q:=by intro u hu;simp at hu;rcases hu with rfl|rfl|rfl<;>rfl):Q:=h
theorem WA{D:DataW aB}{G:Int->aB}(h:eJ w bm n D G L)(hL:∀r,L r≠[]->0<=r/\r<8)(hl:∀r,(L r).length<=4000):
  Cl 103 #[.map (Uq bm)] w λe w'=>∃v,e=Ui (Uo #[v])/\FR w' w.1.size v (eV L 8)/\Bl w w':=by
 have⟨i0,hi,G2,G3,G4⟩:=info_parts Tryz.infoRun;have G8:=h.own.lt;have⟨kp,Hz⟩:=TM h hL;generalize R:KS L 8=q;have Gu:aA (eV L 8=iK L q q.length):=by
  refine aC ?_;rw[Zb L q _ zL,Vj,<-R];rfl
 have Kb:q.length<=8:=R▸yK L 8;have Hr:aA (∀x∈q,0<=x/\x<8/\L x≠[]):=λx S=>by
  rw[<-R]at S;have:=(sD L 8 x).1 S;exact⟨this.1,oM,λe=>by rw[e]at this;simp at this⟩
 have H9:aA (∀ss:List Int,ss.Perm (intKeys D)->ss.mergeSort (λx y=>decide (x<=y))=q/\ss.length=q.length):=λss hs=>by rw[<-R];exact⟨Zp kp hs,by rw[hs.length_eq,<-kp.length_eq]⟩
 rw[R]at Hz;have HG:=aC h;have H7:=aC hl;have Hg:aA (∀r g,(G r).ownBlock=Uq g->g<w.1.size):=λr g M=>((h.rows r).lt g M).2;generalize I:(w.alloc (Uj #[Ue] 26)).alloc (Uj #[Ue] 26)=V;have H2:aA (Bl w V):=I▸aC (aU _ _ _);have X:aA (V.1.size=w.1.size+2):=I▸aC oP;have c2:V.cell? (Ub w.1.size)=Uq Ue:=I▸oP;have c3:V.cell? (Ua (w.1.size+1) 0)=Uq Ue:=I▸oP;have f2:V.frozen? (Ub w.1.size)=false:=I▸oP;have f3:V.frozen? (Ua (w.1.size+1) 0)=false:=I▸oP;have Hf:=aC<|HG.bw H2;go_enter func103,ntmps103;go_wp2_with fail;refine(P9 (Uq bm) V).mono ?_;rintro e w3⟨rfl,rfl⟩;go_wp2_with fail;refine(Tu bm n D dT V Hf.own (by rw[Hz];unfold maxLen;omega) (by rw[Hz];omega)).mono ?_;rintro e o⟨v4,ss,rfl,He,Hc,K⟩;have⟨Gd,Ge⟩:=H9 ss He;rw[Gd,Ge]at Hc;have z4:w.1.size+2<=o.1.size:=oJ K.size X;have d2:=(K.cell (p:=(Ub w.1.size)) (by have:=X.out;show w.1.size<_;omega)).trans c2;have d3:=(K.cell (p:=(Ua (w.1.size+1) 0)) (by have:=X.out;show w.1.size+1<_;omega)).trans c3;have k2:=((jG K).2 w.1.size 0 (oH X)).trans f2;have k3:=((jG K).2 (w.1.size+1) 0 (oH X)).trans f3;have H3:=aC<|aE H2 K;have H5:=aC<|HG.bw H3;have Gz:aA (q.length=0\/∃g cap,v4=Uf (Uc g) q.length cap/\g<o.1.size/\w.1.size+2<=g/\q.length<=cap/\cap<=9223372036854775807/\∀i,i<q.length->o.cell? (Ua g i)=Uq (Ud (q.getD i 0))):=by
  refine aC ?_;have hr:=Hc;rcases Hc.2 with⟨_,e0⟩|⟨g,cap,Ht,rfl,G7,M,G1,Gx,G9,Gk⟩
  .exact .inl e0
  .have:=X.out;unfold maxLen at Gx;exact .inr ⟨g,cap,rfl,(hr.lt g rfl).2,oM,G1,oM,Xg hr rfl⟩
 obtain⟨x4,Ga,e4⟩:∃x c,v4=Uf x q.length c:=by
  rcases Hc.2 with⟨rfl,e0⟩|⟨g,cap,Ht,rfl,_⟩
  .exact⟨Up,0,by rw[e0]⟩
  .exact⟨_,_,rfl⟩
 subst e4;go_wp2_with fail;go_loopw [12] (λiv wr=>∃(k:Nat) (v:aB),k<=q.length/\iv=Ud k/\wr.cell? (Ua (w.1.size+1) 0)=Uq v/\wr.cell? (Ub w.1.size)=Uq Ue/\wr.frozen? (Ub w.1.size)=false/\wr.frozen? (Ua (w.1.size+1) 0)=false/\aA (FR wr o.1.size v (iK L q k))/\aA (o.grownBy wr (Uq (w.1.size+1)))) (λiv _=>q.length-(intOf iv).toNat);case atStart=>exact⟨0,_,UB _,rfl,d3,d2,k2,k3,aC (Vw _ _ _ _),aC ⟨rfl,rfl,rfl,Ux _,λ_ _ _=>rfl⟩⟩
 case round=>
  obtain⟨k,v,hk,rfl,Y,z,T,W,Hj,Hm⟩:=hrel;by_cases Hy:k<q.length
  .have Hb:∃g,x4=Uq (Ub g)/\q.length<=Ga/\Ga<=9223372036854775807/\wr.cell? (Ua g k)=Uq (Ud (q.getD k 0)):=by
    rcases Gz.out with h|⟨g,cap,e,M,Ka,q1,q2,hc⟩
    .omega
    .injection e with e1 z Y;subst e1 Y;have Hl:Uq g≠Uq (w.1.size+1):=λe=>oI e;exact⟨g,rfl,q1,q2,Hm.cell (hc k Hy) Hl⟩
   obtain⟨g,rfl,Kd,Ke,Gg⟩:=Hb;have Hk:=Hr (q.getD k 0) (by simp[UL,Hy]);have Hh:aA (iK L q (k+1)=iK L q k++eM (q.getD k 0) (L (q.getD k 0))):=aC rfl;have Kc:=Xn H7 q k;generalize S:q.getD k 0=x;rw[S]at Hk Gg Hh;have Gm:(Lit.int Uh x).wf=true:=eX oM oM;have gw:eJ wr bm n D G L:=H5.gr Hm (λe=>oI e) (λr g M e=>by injection e with e;have:=Hg r g M;omega);have Hx:=gw.look x Gm;have⟨xs,cs,eG,Gj,Hu,Gy⟩:=De (H5.rows x);rw[eG]at Hx;have Hw:=H7 x;generalize hm:(L x).length=m;have H8:=aC Gj;have Gv:aA (∀a,xs=Uq a->a.block<w.1.size):=aC λa ha=>by
    have:=Hg x a.block (by rw[eG,ha];rfl);exact this
   rw[hm]at Hx Hu Hw H8;have HM:=aC hm;go_wp2_with fail;go_loopw [20] (λiv wr2=>∃(t:Nat) (Q:aB),t<=m/\iv=Ud t/\wr2.cell? (Ua (w.1.size+1) 0)=Uq Q/\wr2.cell? (Ub w.1.size)=Uq Ue/\wr2.frozen? (Ub w.1.size)=false/\wr2.frozen? (Ua (w.1.size+1) 0)=false/\aA (FR wr2 o.1.size Q (iK L q k++(eM x (L x)).take t))/\aA (o.grownBy wr2 (Uq (w.1.size+1)))) (λiv _=>m-(intOf iv).toNat);case atStart=>exact⟨0,v,UB _,rfl,Y,z,T,W,aC (oU Hj),Hm⟩
   case round=>
    obtain⟨t,Q,ht,rfl,Y,z,T,W,F,P⟩:=hrel;have zr:=P.size;have G0:(iK L q k++(eM x (L x)).take t).length<=4000*k+4000:=(by simp only[UM,Vk];omega);generalize Hv:iK L q k++(eM x (L x)).take t=fl;rw[Hv]at F G0;have H4:=aC Hv;by_cases H0:t<m;focus
     have Hb:∃Z off,xs=Uq (Ua Z off)/\wr.cell? (Ua Z (off+t*2))=Uq (Ud (sF (L x) t))/\wr.cell? (Ua Z (off+t*2+1))=Uq (Ud (sT (L x) t)):=by
      rcases H8.out with h|⟨Z,off,e,M,hc⟩
      .omega
      .have H:=Gv _ e;have Hl:Uq Z≠Uq (w.1.size+1):=λe=>by injection e with e;have H:Z<w.1.size:=H;omega
       exact⟨Z,off,e,P.cell (hc t H0).1 Hl,P.cell (hc t H0).2 Hl⟩
     obtain⟨Z,off,rfl,s0,s1⟩:=Hb;have Hs:=aC<|PX (r:=x) (l:=L x) (t:=t) (oH HM);generalize Gh:sF (L x) t=qf;generalize Gi:sT (L x) t=qt;rw[Gh]at s0 Hs;rw[Gi]at s1 Hs;generalize J:wr.alloc (Uj #[Ud qf,Ud qt] 225)=s;have B:Bl wr s:=J▸zO _ _;have r0:s.cell? (Ub wr.1.size)=Uq (Ud qf):=J▸oP;have r1:s.cell? (Ua wr.1.size 1)=Uq (Ud qt):=J▸oP;have Gc:=(B.cell (p:=(Ua (w.1.size+1) 0)) (show w.1.size+1<wr.1.size by omega)).trans Y;have Gq:aA (FR s o.1.size Q fl):=J▸World.ownsRow.alloc F _;have Gs:aA (o.grownBy s (Uq (w.1.size+1))):=(by rw[<-J];exact aC (P.andThen (VA wr _ Up) (λj hj=>by cases hj)));have Hn:=aC ((B.cell (p:=(Ub w.1.size)) (show w.1.size<wr.1.size by omega)).trans z);have Hp:=aC<|((jG B).2 w.1.size 0 oM).trans T;have Hq:=aC<|((jG B).2 (w.1.size+1) 0 oM).trans W;have z5:=B.size;have H1:aA (∀g,Q.ownBlock=Uq g->o.1.size<=g):=aC λg M=>(World.ownsRow.lt F g M).1;go_wp2_with (at_builtin;(try rw[J]);refine kU rfl _ _ 24 rfl o.1.size 103 i0 _ 3 24 underlying24 hi G2 G3 G4 rfl oD _ _ _ rfl (World.ownsRow.alloc Gq _) (Ub s.1.size) 1 1 [Ud x,Ud qf,Ud qt] rfl rfl ?c1 ?c2 ?c3 ?c4 ?c5 ?_);case c1=>exact vA _ _ _ _ _
     case c2=>exact nE
     case c3=>unfold maxLen;omega
     case c4=>omega
     case c5=>simp;omega
     intro b A Ha N Hd;obtain⟨y7,n7,c7,rfl⟩:=jY Ha;obtain⟨b,Gl⟩:∃b,b=Value.slice y7 n7 c7:=⟨_,rfl⟩;rw[<-Gl]at Ha Hd;have Gf:Uq (w.1.size+1)≠Q.ownBlock:=λe=>by have:=H1 _ e.symm;omega
     have Hi:Uq w.1.size≠Q.ownBlock:=λe=>by have:=H1 _ e.symm;omega
     have C:Bl s (s.alloc (Uj #[Ud x,Ud qf,Ud qt] 103)):=zO _ _;have Gw:=N.cell ((C.cell (p:=(Ua (w.1.size+1) 0)) (show w.1.size+1<s.1.size by omega)).trans Gc) Gf;have Gb:=N.cell ((C.cell (p:=(Ub w.1.size)) (show w.1.size<s.1.size by omega)).trans Hn) Hi;have z6:=C.size;have G6:A.frozen? (Ua (w.1.size+1) 0)=false:=(Vz (N.block (w.1.size+1) oM Gf)).trans<|((jG C).2 (w.1.size+1) 0 oM).trans Hq;have G5:A.frozen? (Ub w.1.size)=false:=(Vz (N.block w.1.size oM Hi)).trans<|((jG C).2 w.1.size 0 oM).trans Hp;have Ho:aA (FR A o.1.size b (iK L q k++(eM x (L x)).take (t+1))):=by
      rw[Hs.out,<-Ve,H4.out];unfold FR;rw[Ou,UM];exact aC Ha
     have H6:aA (o.grownBy A (Uq (w.1.size+1))):=aC ((Gs.andThen (VA s _ Up) (λj hj=>by cases hj)).andThen N (λj hj=> .inl (H1 j hj)));have Gr:aA (FR (A.setCell (Ua (w.1.size+1) 0) b) o.1.size b (iK L q k++(eM x (L x)).take (t+1))):=by
      refine aC ?_;refine World.ownsRow.kept Ho (eZ A (Ua (w.1.size+1) 0) b) ?_;cases e:b.ownBlock with
      |none=>exact .inl rfl
      |some g=>exact .inr (λz=>by have:=(World.ownsRow.lt Ho g e).1;injection z with z;have z:g=w.1.size+1:=z;omega)
     have Gt:aA (o.grownBy (A.setCell (Ua (w.1.size+1) 0) b) (Uq (w.1.size+1))):=aC<|H6.andThen (eZ A (Ua (w.1.size+1) 0) b) (λj hj=> .inr hj);have Go:=Vs A (Ua (w.1.size+1) 0) b Gw;have Gn:(A.setCell (Ua (w.1.size+1) 0) b).cell? (Ub w.1.size)=Uq Ue:=(Vp A (Ua (w.1.size+1) 0) (Ub w.1.size) b oQ).trans Gb;have HK:=aC<|And.intro Go Gn;subst Gl
    rotate_left;obtain rfl:t=m:=oM;have Gp:aA (FR wr o.1.size Q (iK L q (k+1))):=by
     rw[Hh.out];have H:=F.out;rw[<-H4.out,List.take_of_length_le (by simp only[eM,UR];have:=HM.out;omega)]at H;exact aC H
    rotate_left;all_goals go_wp2_with fail;go_roundw;case measure=>exact oE
    .exact⟨t+1,_,H0,oN,HK.1,HK.2,oU G5,by simpa using G6,Gr,Gt⟩
    .exact⟨k+1,Q,Hy,oN,Y,z,T,W,Gp,P⟩
  .obtain rfl:k=q.length:=oM;obtain⟨U,O,E,rfl⟩:=jY Hj;have HF:aA (FR (wr.setCell (Ub w.1.size) (Uf U O E)) w.1.size (Uf U O E) (eV L 8)):=by
    rw[Gu.out];have H:=Hj.out;have h2:FR wr w.1.size (Uf U O E) (iK L q q.length):=by
     have⟨q1,q2⟩:=H;refine⟨q1,q2.imp id ?_⟩;rintro⟨g,cap,Ht,e,M,r⟩;exact⟨g,cap,Ht,e,oM,r⟩
    refine aC<|World.ownsRow.kept h2 (eZ wr (Ub w.1.size) (Uf U O E)) ?_;cases e:(Value.slice U O E).ownBlock with
    |none=>exact .inl rfl
    |some g=>exact .inr (λz=>by have:=(World.ownsRow.lt H g e).1;injection z with z;have z:g=w.1.size:=z;omega)
   have HB:aA (Bl w (wr.setCell (Ub w.1.size) (Uf U O E))):=aC<|(H3.grown Hm oM (λk hk=>oI hk)).setCell (p:=(Ub w.1.size)) zL (Uf U O E);have k2:=Vs wr (Ub w.1.size) (Uf U O E) z;go_wp2_with fail;refine zF (v:=Uo #[Uf U O E]) (by simp[results,results103,go_sem,k2]) ⟨_,rfl,HF,HB⟩
variable {EX : Nat-> Option aB}
theorem Qv(v0 v1:aB)(g:w.grownBy w2 (Uq cb))(cu:fV EX w2 cb a n c y)(hcl:cb<w.1.size)(hb:w.1.size<=b)
  (k0:w2.cell? (Ub b)=Uq u0) (k1:w2.cell? (Ua b 1)=Uq u1):
  ∃Z,Z=(w2.setCell (Ub b) v0).setCell (Ua b 1) v1/\Z.cell? (Ub b)=Uq v0/\Z.cell? (Ua b 1)=Uq v1/\w.grownBy Z (Uq cb)/\fV EX Z cb a n c y:=by
 have j:∀k,k≠b->((w2.setCell (Ub b) v0).setCell (Ua b 1) v1).1[k]? =w2.1[k]? :=λk hk=>(zH _ _ _ _ hk).trans (zH _ _ _ _ hk);refine⟨_,rfl,?_,?_,⟨g.os,g.tape,g.output,by simpa[Vr]using g.size,λk hk hne=>(j k oM).trans (g.block k hk hne)⟩,cu.at' (j cb oM)⟩
 .rw[Vt _ _ _ _ oP];exact Vs _ _ _ k0
 .exact Vs _ _ _ (by rw[Vt _ _ _ _ oP];exact k1)
theorem E0(v0 v1:aB)(g:w.grownBy w2 (Uq cb))(cu:fV EX w2 cb a n c y)(hcl:cb<w.1.size)
  (k0:w2.cell? (Ub w.1.size)=Uq u0) (k1:w2.cell? (Ua w.1.size 1)=Uq u1):
  ∃Z,Z=(w2.setCell (Ub w.1.size) v0).setCell (Ua w.1.size 1) v1/\Z.cell? (Ub w.1.size)=Uq v0/\Z.cell? (Ua w.1.size 1)=Uq v1/\w.grownBy Z (Uq cb)/\fV EX Z cb a n c y:=Qv v0 v1 g cu hcl zL k0 k1
def gU:Int->List (Int×Int)->List Int
 |_,[]=>[]
 |least,p::l=>aI 9 (p.1-least).toNat++aI 9 (p.2-p.1).toNat++gU (p.2+2) l
def nJ:Int->List (Int×Int)->Prop
 |_,[]=>True
 |least,p::l=>least<=p.1/\p.1<=p.2/\p.2<=1000000000/\nJ (p.2+2) l
def iS:List (Int×List (Int×Int))->List Int
 |[]=>[]
 |p::g=>aI 9 p.1.toNat++aI 9 p.2.length++gU 1 p.2++iS g
def nK:Int->Int->List (Int×List (Int×Int))->Prop
 |_,_,[]=>True
 |before,left,p::g=>before<p.1/\0<=p.1/\p.1<=7/\p.2≠[]/\(p.2.length:Int)<=left/\nJ 1 p.2/\nK p.1 (left-p.2.length) g
def pW(g:List (Int×List (Int×Int))):List Int:=aI 9 g.length++iS g
theorem T3:∀(g:List (Int×List (Int×Int))) (j k:Int),nK j k g-> -1<=j->j<=7->(g.length:Int)<=7-j:=by
 intro g;induction g with
 |nil=>intro j k _ m q;simp;omega
 |cons p g ih=>rintro j k⟨u,v,y,z,h,t,r⟩m q;have:=ih p.1 _ r oM oM;simp only[UP];omega
theorem EA{x:Nat}{f:Nat->Int}{M:Nat}{least:Int}(h:Cu EX w cb a n c f x)(hl:1<=least)(hb:least+(V:Int)+(M:Int)<=1000000000)(hR:Rb f n x (aI 9 V++aI 9 M) x'):
  Cl 263 #[Uk (Uc cb),Ud least] w λe w'=>kH EX w cb a n c f x' (Ul #[Uo #[Ud (least+(V:Int)),Ud (least+(V:Int)+(M:Int))],.nilIface]) e w':=by
 have⟨y,r1,r2⟩:=hR.app;have K:=h.lt;generalize j:w.alloc (Uj #[Ud 0,Ud 0] 225)=W;have k:Bl w W:=j▸zO _ _;have C:W.1.size=w.1.size+1:=j▸oP;have A:w.grownBy W (Uq cb):=oY (sP w (Uq cb)) k;have o:aD W w.1.size (Ud 0) (Ud 0):=j▸aD.made _ _ _ _;have O:aA (∀w1,W.grownBy w1 (Uq cb)->aD w1 w.1.size (Ud 0) (Ud 0)):=aC<|λw1 g=>o.sm (g.block w.1.size oM oS) g.size;have u:=aC<|oT (most:=1000000000-least) (h.bw k) oM oM r1;have z:=aC<|λw1(h1:Cu EX w1 cb a n c f y)=>oT (most:=1000000000-(least+(V:Int))) h1 oM oM r2;have H:=aC A;have Q:=aC h;have I:IntKind.i64.wrap (1000000000-least)=1000000000-least:=cK _ oM oM;have D:IntKind.i64.wrap (least+(V:Int))=least+(V:Int):=cK _ oM oM;have J:IntKind.i64.wrap (1000000000-(least+(V:Int)))=1000000000-(least+(V:Int)):=cK _ oM oM;have F:IntKind.i64.wrap (least+(V:Int)+(M:Int))=least+(V:Int)+(M:Int):=cK _ oM oM;go_enter func263,ntmps263;go_wp2_with fail;refine u.mono ?_;rintro e w1⟨rfl,s,b⟩;have q:=aC<|z w1 b;have r:=aC s;go_wp2_with fail;refine q.mono ?_;rintro e R⟨rfl,m,p⟩;have i:=O _<|iN r m;have⟨L,N,P⟩:=i.p2;have G:=aC<|iN H (iN r m);have U:=aC p;go_wp2_with fail;have⟨Z,E,X,B,t,Y⟩:=E0 (Ud (least+(V:Int))) (Ud (least+(V:Int)+(M:Int))) G U.cur K L N;rw[<-E];exact bodyPost_ret (v:=Ul #[Uo #[Ud (least+(V:Int)),Ud (least+(V:Int)+(M:Int))],.nilIface]) (by simp[results,results263,go_sem,X,B]) rfl ⟨rfl,t,Q.mv t Y⟩
theorem SR.grown(h:SR w B v l)(g:w.grownBy w1 (Uq cb))(hB:cb<B):SR w1 B v l:=by
 refine World.ownsRow.kept h g ?_;cases e:v.ownBlock with
 |none=>exact .inl rfl
 |some k=>exact .inr (λe2=>by have:=(World.ownsRow.lt h k e).1;injection e2 with e2;omega)
theorem qG{α:Type}{l:List α}(h:k<l.length):∃p,l.drop k=p::l.drop (k+1)/\l.take (k+1)=l.take k++[p]:=⟨l[k],oP,by rw[List.take_append_getElem h]⟩
theorem FZ{x:Nat}{f:Nat->Int}(h:Cu EX w cb a n c f x)(hl:(l.length:Int)<=left)(Hd:left<=1000)(h0:l≠[])(J:nJ 1 l)(hR:Rb f n x (aI 9 l.length++gU 1 l) x'):
  Cl 254 #[Uk (Uc cb),Ud left] w λe w'=>∃v,kH EX w cb a n c f x' (Ul #[v,.nilIface]) e w'/\SR w' w.1.size v l:=by
 have⟨i0,hi,Ho,Hp,Hq⟩:=info_parts Tryz.infoSpan;have⟨y0,r1,r2⟩:=hR.app;have Hm:=h.lt;have H:=aC<|oT h hl oM r1;have Hi:=aC h;have⟨V,M⟩:=zE l.length;have A:=aC M;have Hr:0<V:=M▸List.length_pos_iff.2 h0;have HR:=aC<|And.intro J r2;rw[M]at H hl;have d0:((V:Int)==0)=false:=oS;go_enter func254,ntmps254;go_wp2_with fail;refine H.mono ?_;rintro e w1⟨rfl,g1,cu⟩;have HG:=aC g1;have HC:=aC cu;go_wp2_with fail;go_loopw [8,9,26] (λsv lv iv wr=>∃(k y:Nat) (r:Int),k<=V/\iv=Ud (k:Int)/\lv=Ud r/\1<=r/\r<=1000000002/\aA (SR wr w.1.size sv (l.take k))/\aA (Cu EX wr cb a n c f y)/\aA (w.grownBy wr (Uq cb))/\aA (nJ r (l.drop k)/\Rb f n y (gU r (l.drop k)) x')) (λ_ _ iv _=>V-(intOf iv).toNat);case atStart=>exact⟨0,y0,1,UB _,rfl,rfl,oM,oM,aC (by simp;exact Vw _ _ _ _),HC,HG,HR⟩
 case round=>
  obtain⟨k,y,r,J,rfl,rfl,Hd,Hs,o,O,Q,Y⟩:=hrel;have zr:=Q.size;by_cases He:k<V
  .have⟨p,hp,ht⟩:=qG (l:=l) (k:=k) (by rw[A.out];exact He);have⟨Hf,L⟩:=Y.out;rw[hp]at Hf L;have⟨o1,o2,o3,X⟩:=Hf;have⟨x2,B,C⟩:=(show Rb f n y ((aI 9 (p.1-r).toNat++aI 9 (p.2-p.1).toNat)++gU (p.2+2) (l.drop (k+1))) x' from L).app;have e1:r+(((p.1-r).toNat:Nat):Int)=p.1:=oM;have e2:p.1+(((p.2-p.1).toNat:Nat):Int)=p.2:=oM;have b:=aC<|EA O Hd oM B;rw[e1,e2]at b;have⟨s,t⟩:=p;dsimp only at b o1 o2 o3 X C;have G:=aC<|And.intro X (And.intro C ht);have Hh:(l.take k).length=k:=(by rw[Vk,A.out];omega);have T:=aC Hh;generalize K:l.take k=Z;rw[K]at o T;have Hk:=aC K;have⟨c0,c1,c2,_⟩:=O.cur;go_wp2_with fail;refine b.mono ?_;rintro e m⟨rfl,E,Hc⟩;have N:=o.grown E Hm;have I:aA (∀g,u8.ownBlock=Uq g->w.1.size<=g/\g<m.1.size):=aC λg hg=>World.ownsRow.lt N g hg;generalize z:m.alloc (Uj #[Ud s,Ud t] 225)=q;have b3:Bl m q:=z▸zO _ _;have W:aA (q.1.size=m.1.size+1):=z▸aC oP;have r0:q.cell? (Ub m.1.size)=Uq (Ud s):=z▸oP;have r1:q.cell? (Ua m.1.size 1)=Uq (Ud t):=z▸oP;have S:aA (SR q w.1.size u8 Z):=z▸World.ownsRow.alloc N _;have F:=aC<|Hc.bw b3;have P:=aC<|oY (iN Q E) b3;have z2:=E.size;have zz:w.1.size<=m.1.size:=oM;have e3:IntKind.i64.wrap (t+2)=t+2:=cK _ oM oM;have Hn:Z.length=k:=T.out;subst Hn;go_wp2_with (at_builtin;go_loud ((try rw[z]);refine kU rfl _ _ 183 rfl w.1.size 225 i0 _ 2 16 underlying183 hi Ho Hp Hq rfl oD _ _ _ rfl (World.ownsRow.alloc S _) (Ub q.1.size) 1 1 [Ud s,Ud t] rfl rfl ?c1 ?c2 ?c3 ?c4 ?c5 ?_));case c1=>exact Fh _ _ _ _
   case c2=>intro u hu;simp at hu;rcases hu with rfl|rfl<;>rfl
   case c3=>unfold maxLen;omega
   case c4=>omega
   case c5=>have:=W.out;simp;omega
   intro v4 D Ha U Hb;have z3:=W.out;have i:aA (Bl q (q.alloc (Uj #[Ud s,Ud t] 225))):=aC<|zO _ _;have n1:Uq m.1.size≠u8.ownBlock:=λe=>by have:=(I _ e.symm).2;omega
   have n2:Uq cb≠u8.ownBlock:=λe=>by have:=(I _ e.symm).1;omega
   have B:=U.cell ((i.cell (p:=(Ua m.1.size 1)) (show m.1.size<q.1.size by omega)).trans r1) n1;have R:aA (w.grownBy D (Uq cb)):=aC<|(oY P i).andThen U (λj hj=> .inl (I j hj).1);have Hj:aA (Cu EX D cb a n c f x2):=by
    have h:=F.bw i;exact aC<|Hi.mv R (h.cur.at' (U.block cb h.lt n2))
   have Hl:aA (SR D w.1.size v4 (l.take (Z.length+1))):=by
    rw[G.2.2,Hk.out];unfold SR;rw[sX,UM];exact aC Ha
   go_wp2_with fail;go_roundw;case rel=>exact⟨Z.length+1,x2,t+2,He,oN,rfl,oM,oM,Hl,Hj,R,aC ⟨G.1,G.2.1⟩⟩
   case measure=>exact oE
  .obtain rfl:k=V:=oM;have hd:l.drop k=[]:=(by rw[<-A.out];simp);have Hg:l.take k=l:=(by rw[<-A.out];simp);have HX:aA (x'=y):=aC (by have:=Y.2;rw[hd]at this;exact this.nil);rw[Hg]at o;go_wp2_with fail;go_ret2;exact⟨_,⟨rfl,Q,by rw[HX.out];exact O⟩,o⟩
theorem OY{x:Nat}{f:Nat->Int}{before:Int}(h:Cu EX w cb a n c f x)(hr:before<r)(h0:0<=r)(h7:r<=7)(hl:(l.length:Int)<=left)(hl1:left<=1000)(hl0:l≠[])(hk:nJ 1 l)(hR:Rb f n x (aI 9 r.toNat++(aI 9 l.length++gU 1 l)) x'):
  Cl 237 #[Uk (Uc cb),Ud before,Ud left] w λe w'=>∃v,kH EX w cb a n c f x' (Ul #[Ud r,v,.nilIface]) e w'/\SR w' w.1.size v l:=by
 have⟨O,r1,r2⟩:=hR.app;have j:=aC<|oT (most:=7) h oM oM r1;rw[show((r.toNat:Nat):Int)=r by omega]at j;have q:=aC<|λw1(h1:Cu EX w1 cb a n c f O)=>FZ h1 hl hl1 hl0 hk r2;have U:decide (r<=before)=false:=oU hr;go_enter func237,ntmps237;go_wp2_with fail;refine j.mono ?_;rintro e w1⟨rfl,k,u⟩;have i:=aC k;have Y:=k.size;have m:=aC<|q w1 u;go_wp2_with fail;refine m.mono ?_;rintro e M⟨v,⟨rfl,z,y⟩,t⟩;have b:=aC<|iN i z;have o:=aC y;have p:aA (SR M w.1.size v l):=by
  have⟨A,E⟩:=t;refine aC ⟨A,E.imp id ?_⟩;rintro⟨g,cap,s,e,V,r⟩;exact⟨g,cap,s,e,oM,r⟩
 go_wp2_with fail;go_ret3;exact⟨v,⟨rfl,b,o⟩,p⟩
theorem eJ.step{D:DataW aB}{G:Int->aB}(h:eJ w bm n D G L)(ho:w.ownsRow 0 225 2 v l.length (eW l))(hl:l≠[])
  (hD:w1.ownsMap prog 3 dT bm (n+1) (D.put (kI r) (.held v))) (hg:w.grownBy w1 (Uq bm)):
  eJ w1 bm (n+1) (D.put (kI r) (.held v)) (eS G r v) (eS L r l):=by
 refine⟨hD,λx=>?_,λx=>?_,λx=>?_⟩
 .by_cases e:x=r
  .exact qO
  .rw[cQ G v e,atKey_put_other (qB e)];exact h.at' x
 .by_cases e:x=r
  .subst e;rw[dM,has_put_same h.own.isMap (show WideAt.IsKeyLit (kI x)from trivial)];cases l with
   |nil=>exact absurd rfl hl
   |cons _ _=>rfl
  .rw[cQ L _ e,has_put_other (qB e)];exact h.has' x
 .by_cases e:x=r
  .subst e;rw[dM,dM];exact ho.kept hg<|yS ho h.own
  .rw[cQ G v e,cQ L _ e];exact(h.rows x).kept hg (yS (h.rows x) h.own)
def rB(g:List (Int×List (Int×Int)))(r:Int):List (Int×Int):=g.foldl (λL p=>eS L p.1 p.2) (λ_=>[]) r
theorem PL(g:List (Int×List (Int×Int)))(p:Int×List (Int×Int)):rB (g++[p])=eS (rB g) p.1 p.2:=by
 funext r;unfold rB;rw[List.foldl_append];rfl
theorem LK(k:Nat)(w:Ur)(hk:k<=9):
  Cl 241 #[Ud (k:Int)] w λe w'=>e=Ui (Ug .u64 ((128^k:Nat):Int))/\w'=w:=by
 go_enter func241,ntmps241;go_wp2_with fail;go_loop [3,4] (λv i=>∃(j x:Nat),j<=k/\aA (x=128^j)/\i=Ud (j:Int)/\v=Ug .u64 (x:Int)) (λ_ i=>k-(intOf i).toNat);case atStart=>exact⟨0,1,UB _,aC oP,rfl,rfl⟩
 case round=>
  obtain⟨j,x,r,m,rfl,rfl⟩:=hrel;by_cases q:j<k
  .have u:x<=72057594037927936:=by
    have:=UG (n:=128) oM (show j<=8 by omega);have e:=m.out;simp at this;omega
   go_wp2_with fail;go_round;case rel=>exact⟨j+1,x*128,q,aC (by have:=m.out;rw[Uu,this]),oN,oN⟩
   case measure=>exact oE
  .obtain rfl:j=k:=oM;go_wp2_with fail;go_ret;exact⟨zN (by rw[m.out];simp),rfl⟩
theorem CT{a b c a' b' c':Int}(h1:a=a')(h2:b=b')(h3:c=c'):Ending.returned (Ul #[Ug .u64 a,Ud b,Ud c])=Ui (Ul #[Ug .u64 a',Ud b',Ud c']):=by rw[h1,h2,h3]
theorem CQ{f:Nat->Int}:∀(k V x:Nat),V<128^(k+1)->Rb f n x (aI k V) x'->∃m,m<=k/\x'=x+m+1/\(∀i,i<m->128<=f (x+i))/\f (x+m)<128/\(0<m->0<f (x+m))/\(∀i,i<=m->f (x+i)%128=((V/128^i%128:Nat):Int))/\V<128^(m+1)/\0<=f (x+m):=by
 have M:∀(k V x:Nat),V<128->Rb f n x (aI k V) x'->x'=x+0+1/\f (x+0)=(V:Int):=λk V x h j=>by
  rw[rW _ _ h]at j;have⟨r1,r2,u⟩:=j.cons;exact⟨u.nil,r1⟩
 have v:∀(k V x:Nat),V<128->Rb f n x (aI k V) x'->∃m,m<=k/\x'=x+m+1/\(∀i,i<m->128<=f (x+i))/\f (x+m)<128/\(0<m->0<f (x+m))/\(∀i,i<=m->f (x+i)%128=((V/128^i%128:Nat):Int))/\V<128^(m+1)/\0<=f (x+m):=λk V x h j=>by
  have⟨y,z⟩:=M k V x h j;refine⟨0,UB _,y,λi hi=>oM,oM,λh=>oM,λi hi=>?_,oU h,oM⟩;obtain rfl:i=0:=oM;rw[z,UJ,UK];omega
 intro k;induction k with
 |zero=>intro V x r j;exact v 0 V x (oU r) j
 |succ k ih=>
  intro V x r j;by_cases t:V<128
  .exact v _ V x t j
  .rw[rX _ _ t]at j;have⟨r1,r2,u⟩:=j.cons;have⟨m,y,z,o,b,p,g,s,A⟩:=ih (V/128) (x+1) (by rw[Uu]at r;omega) u;have e:∀i,x+(i+1)=x+1+i:=λi=>oM;refine⟨m+1,oM,oM,λi hi=>?_,by rw[e];exact b,λ_=>?_,λi hi=>?_,by rw[Uu];omega,by rw[e];exact A⟩
   .cases i with
    |zero=>rw[Nat.add_zero,r1];omega
    |succ i=>rw[e];exact o i oM
   .rw[e];rcases Uy m with q|q
    .subst q;have E:=g 0 zL;rw[UJ,UK]at E;omega
    .exact p q
   .cases i with
    |zero=>rw[Nat.add_zero,r1,UJ,UK];omega
    |succ i=>rw[e,g i oM,Nat.div_div_eq_div_mul,Uu,UE 128]
theorem PH(V j:Nat):V%128^(j+1)=V%128^j+V/128^j%128*128^j:=by
 rw[Uu,Nat.mod_mul,UE (128^j)]
theorem Pr(a:Option Us)(n c p x' V:Nat)(f:Nat->Int)(w:Ur)(hn:n<=1048576)(hf:dO f)(h:bY w a n f)(hV:V<18446744073709551616)(hR:Rb f n p (aI 9 V) x'):
  Cl 218 #[Uf a n c,Ud (p:Int)] w (Rt w (Ul #[Ug .u64 (V:Int),Ud (x':Int),Ud 0])):=by
 have⟨m,Hv,R,X,Hk,C,Q,J,Hb⟩:=CQ 9 V p oM hR;have Hz:=hR.2.2;rcases h with h|⟨b,off,rfl,L,s⟩
 .omega
 obtain⟨z,E⟩:∃z:Nat,f (p+m)=(z:Int):=⟨(f (p+m)).toNat,oM⟩;have H1:z<128:=oM;have Hp:9<=m->z<=1:=λo=>by
  obtain rfl:m=9:=oM;have:=Q 9 zL;rw[E]at this;simp only[Nat.reducePow]at this;omega
 have Ho:0<m->0<z:=λh=>oH (C h);have HL:=aC X;have W:=aC Q;have Hf:=aC J;have HX:=aC R;have Hl:p+m<n:=oM;clear Hk C Q J X hR R Hb;go_enter func218,ntmps218;go_wp2_with fail;go_loop [7] (λi=>∃k:Nat,k<=m/\i=Ud (k:Int)) (λi=>m-(intOf i).toNat);case atStart=>exact⟨0,UB _,rfl⟩
 case round=>
  obtain⟨k,hk,rfl⟩:=hrel;by_cases B:k<m
  .have Hg:w.cell? (Ua b (off+(p+k)))=Uq (Ug .u8 (f (p+k))):=s (p+k) oM;have Ht:128<=f (p+k):=HL k B;have Hx:p+k<n:=oM;have Hu:k<9:=oM;go_wp2_with fail;go_round;case rel=>exact⟨k+1,B,oN⟩
   case measure=>exact oE
  .obtain rfl:k=m:=oM;have Hg:w.cell? (Ua b (off+(p+k)))=Uq (Ug .u8 (z:Int)):=(by rw[s (p+k) Hl,E]);have He:=aC s;clear E s;go_upto_region 4 with fail;go_cut [38]from 11 to 38 (λbb wx=>bb=Un false/\w=wx);case first=>
    by_cases o:k<9
    .have O:decide ((128:Int)<=(z:Int))=false:=oS;go_wp2_with fail;go_meet;exact⟨rfl,rfl⟩
    .have H:decide ((k:Int)<9)=false:=oS;clear o;go_wp2_with fail;go_meet;exact⟨rfl,rfl⟩
   case rest=>
   obtain⟨rfl,rfl⟩:=hcut;go_upto_region 9 with fail;go_cut [59]from 11 to 59 (λbb wx=>bb=Un false/\w=wx);case first=>
    by_cases o:k<9
    .have H:((k:Int)==9)=false:=oS;go_wp2_with fail;go_meet;exact⟨rfl,rfl⟩
    .have H:((k:Int)==9)=true:=oS;have O:decide ((1:Int)<(z:Int))=false:=(by have:=Hp oM;simp;omega);clear o;go_wp2_with fail;go_meet;exact⟨rfl,rfl⟩
   case rest=>
   obtain⟨rfl,rfl⟩:=hcut;go_upto_region 11 with fail;go_cut [66]from 11 to 66 (λbb wx=>bb=Un false/\w=wx);case first=>
    by_cases h0:0<k
    .have O:((z:Int)==0)=false:=(by have:=Ho h0;simp;omega);go_wp2_with fail;go_meet;exact⟨by first|rfl|rw[O],rfl⟩
    .go_wp2_with fail;go_meet;exact⟨by first|rfl|omega,rfl⟩
   case rest=>
   obtain⟨rfl,rfl⟩:=hcut;go_wp2_with fail;go_loopw [9,10] (λv i wr=>∃(j x:Nat),j<=k+1/\aA (x=V%128^j)/\i=Ud (j:Int)/\v=Ug .u64 (x:Int)/\aA (Bl w wr)) (λ_ i _=>k+1-(intOf i).toNat);case atStart=>exact⟨0,0,UB _,aC (by simp[Nat.mod_one]),rfl,rfl,aC zI⟩
   case round=>
    obtain⟨j,x,hj,P,rfl,rfl,g⟩:=hrel;by_cases Hi:j<=k
    .have Hj:p+j<n:=oM;obtain⟨y,G⟩:∃y:Nat,f (p+j)=(y:Int):=⟨(f (p+j)).toNat,oH ((hf (p+j)).1)⟩;have H0:y<256:=oH<|(hf (p+j)).2;have N:wr.cell? (Ua b (off+(p+j)))=Uq (Ug .u8 (y:Int)):=(by rw[g.cell (p:=(Ua b _)) L,He.out (p+j) Hj,G]);obtain⟨t,Y⟩:∃t:Nat,t=128^j:=⟨_,rfl⟩;have A:V%128^(j+1)=x+y%128*t:=by
      have e:=W j Hi;rw[G]at e;rw[PH,P.out,Y];congr 2;omega
     have Hn:x+y%128*t<18446744073709551616:=A▸Nat.lt_of_le_of_lt (Nat.mod_le _ _) hV;have HT:=aC Y;have Hh:j<=9:=oM;obtain⟨q,D⟩:∃q:Nat,q=p+j:=⟨_,rfl⟩;have Hy:IntKind.i64.wrap ((p:Int)+(j:Int))=(q:Int):=(by rw[cK _ oM oM];omega);have Hw:(0:Int)<=(q:Int):=VH _;have Hm:(q:Int)<(n:Int):=oM;rw[<-D]at N;obtain⟨r,U⟩:∃r:Nat,r=y%128*t:=⟨_,rfl⟩;obtain⟨M,F⟩:∃M:Nat,M=x+r:=⟨_,rfl⟩;have Ha:IntKind.u64.wrap ((x:Int)+(r:Int))=(M:Int):=(by rw[Vn];omega);obtain⟨u,Z⟩:∃u:Nat,u=y%128:=⟨_,rfl⟩;have Hc:IntKind.u64.wrap ((y:Int).tmod 128)=(u:Int):=(by rw[Int.tmod_eq_emod_of_nonneg oM,Vn];omega);have Hd:IntKind.u64.wrap ((u:Int)*(t:Int))=(r:Int):=by
      have e:((u*t:Nat):Int)=(u:Int)*(t:Int):=(by push_cast;rfl);rw[Z,<-U]at e;rw[Vn,Z,<-e];omega
     rw[<-U,<-F]at A;have HS:=aC A;clear G A Y D U Hn F Z;go_wp2_with fail;refine zR (S:=λw'=>Bl wr w'/\w'.cell? (Ua b (off+q))=Uq (Ug .u8 (y:Int))) ⟨zI.drew,N⟩<|λqh=>?_;refine tY 0 73 ?_;refine tY 2 75 ?_;refine tY 4 77 ?_;refine tY 6 79 ?_;refine tY 8 81 ?_;refine cZ 10 ?_;intro K I;go_simp;refine(LK j _ Hh).mono ?_;rintro e w2⟨rfl,rfl⟩;rw[<-HT.out];refine bZ I ⟨qh.1,qh.2⟩<|λqh=>?_;clear I K;refine tY 11 84 ?_;refine tZ 13 9 ?_;refine zD ?_;have T:=aC qh.1;clear qh;go_wp2_with fail;go_roundw;case rel=>exact⟨j+1,M,oM,aC (HS.symm),oN,by first|rfl|(simp only[Hc,Hd,Ha]),aC (g.trans (T.mono g.size))⟩
     case measure=>exact oE
    .obtain rfl:j=k+1:=oM;go_wp2_with fail;go_ret3;exact⟨CT (by rw[P.out,UI Hf.out]) (by rw[HX.out];simp<;>omega) rfl,g⟩
theorem nY(a:Option Us)(n c p x' V:Nat)(most:Int)(f:Nat->Int)(w:Ur)(hn:n<=1048576)(hf:dO f)(hs:bY w a n f)(hV:(V:Int)<=most)(hm1:most<=1000000000000)(hR:Rb f n p (aI 9 V) x'):
  Cl 187 #[Uf a n c,Ud (p:Int),Ud most] w (Rt w (Ul #[Ud (V:Int),Ud (x':Int),Un true])):=by
 have j:=aC<|Pr a n c p x' V f w hn hf hs oM hR;have u:IntKind.u64.wrap most=most:=by rw[Vn];omega
 have r:decide (most<(V:Int))=false:=oU hV;have q:IntKind.i64.wrap (V:Int)=(V:Int):=by rw[Vm];omega
 go_enter func187,ntmps187;go_wp2_with fail;refine j.mono ?_;rintro e w1⟨rfl,k⟩;have m:=aC k;go_wp2_with fail;go_ret3;exact⟨by first|rfl|rw[q],m⟩
theorem Wq(a:Option Us)(n c p x' M:Nat)(s:ByteArray)(f:Nat->Int)(w:Ur)(hn:n<=1048576)(hnc:n<=c)(hf:dO f)(h:bY w a n f)(hV:s.size<=M)(hm1:M<=1000000)(hR:Rb f n p (cM s) x'):
  Cl 188 #[Uf a n c,Ud (p:Int),Ud (M:Int)] w (Rt w (Ul #[Um s,Ud (x':Int),Ud 0])):=by
 have⟨q,r1,r2⟩:=hR.app;have⟨g,m,U⟩:=r2;rw[mE]at m;have k:=Td hf g;have⟨V,o⟩:=zE s.size;rw[o]at m k r1 hV;have y:=aC<|Pr a n c p q V f w hn hf h oM r1;have J:0<n:=by have:=r1.2.1;have:=(cF 9 V).2;have:=r1.2.2;omega
 have z:aA ((x':Int)=(q:Int)+(V:Int)):=aC oM;have E:=aC h;have v:=aC k;have A:=aC hf;have L:q+V<=n:=oM;obtain⟨r,Q⟩:∃r:Nat,(r:Int)=(n:Int)-(q:Int):=⟨n-q,oM⟩;have F:IntKind.u64.wrap (IntKind.i64.wrap ((n:Int)-(q:Int)))=(r:Int):=by rw[cK _ oM oM,Vn];omega
 have P:IntKind.u64.wrap ((n:Int)-(q:Int))=(r:Int):=by rw[Vn];omega
 have X:V<=r:=oM;have D:IntKind.u64.wrap (M:Int)=(M:Int):=by rw[Vn];omega
 have I:decide ((M:Int)<0)=false:=oP;have C:IntKind.i64.wrap (V:Int)=(V:Int):=cK _ oM oM;have R:IntKind.i64.wrap ((q:Int)+(V:Int))=(q:Int)+(V:Int):=cK _ oM oM;go_enter func188,ntmps188;go_wp2_with fail;refine y.mono ?_;rintro e w1⟨rfl,j⟩;have u:=aC j;rcases E.bw j with h|⟨b,off,rfl,Y,t⟩
 .omega
 have O:∀cap,(convert 22 9 (Uf (Uq (Ua b (off+q))) V cap)).run prog w1=.ok (Um s) w1:=λcap=>by rw[<-v.out];exact Nv A (λi hi=>by rw[UF];exact t (q+i) oM)
 have K:(0:Int)<=(q:Int):=VH _;have N:(q:Int)<=(q:Int)+(V:Int):=oM;have B:(q:Int)+(V:Int)<=(c:Int):=oM;by_cases Z:q<c;rotate_left;have G:c<=q:=oM;have H:∀ad cap,(convert 22 9 (Uf (Uq ad) V cap)).run prog w1=.ok (Um s) w1:=λad cap=>by
  obtain rfl:V=0:=oM;rw[<-v.out];exact Nu (w:=w1) ad q cap f
 rotate_left;all_goals go_wp2_with fail;go_ret3;exact⟨by rw[z.out];rfl,u⟩
structure St(w wr:Ur)(v:aB)(l:List Rn):Prop where
 c:wr.cell? (Ua (w.1.size+2) 0)=Uq v
 r:wr.cell? (Ub w.1.size)=Uq Ue
 fc:wr.frozen? (Ua (w.1.size+2) 0)=false
 fr:wr.frozen? (Ub w.1.size)=false
 o:FR wr (w.1.size+1) v l
 n:v.ownBlock≠Uq (w.1.size+2)
 b:Bl w wr
 z:w.1.size+3<=wr.1.size
theorem St.bw{l:List Rn}(h:St w wr v l)(hb:Bl wr w1):St w w1 v l:=by
 have j:=h.z;exact⟨(hb.cell (p:=(Ua (w.1.size+2) 0)) (show w.1.size+2<wr.1.size by omega)).trans h.c,(hb.cell (p:=(Ub w.1.size)) (show w.1.size<wr.1.size by omega)).trans h.r,
  ((jG hb).2 (w.1.size+2) 0 oM).trans h.fc,((jG hb).2 w.1.size 0 oM).trans h.fr,uR h.o hb,h.n,h.b.trans (hb.mono oM),Uz j hb.size⟩
theorem St.mid{l:List Rn}(h:St w W v l)(hg:(W.alloc ob).grownBy w7 v.ownBlock):w7.cell? (Ua (w.1.size+2) 0)=Uq v/\w7.frozen? (Ua (w.1.size+2) 0)=false:=by
 have m:Bl W (W.alloc ob):=zO _ _;have j:=h.bw m;have k:=hg.block (w.1.size+2) (oH j.z)<|λe=>h.n e.symm;exact⟨(Vy k).trans j.c,(Vz k).trans j.fc⟩
theorem St.app{v7:aB}{l:List Rn}(h:St w W v l)(hown:w7.ownsRow (w.1.size+1) 103 3 v7 (l.length+1) (bC l++[Ud x,Ud y,Ud z]))
  (hg:(W.alloc ob).grownBy w7 v.ownBlock) (hloc:v7.ownBlock=v.ownBlock\/v7.ownBlock=Uq (W.alloc ob).1.size):St w (w7.setCell (Ua (w.1.size+2) 0) v7) v7 (l++[(x,y,z)]):=by
 have t:Bl W (W.alloc ob):=zO _ _;have m:=h.bw t;have E:=h.z;have M:=hg.size;have O:=m.z;have u:v7.ownBlock≠Uq (w.1.size+2):=by
  rcases hloc with e|e
  .rw[e];exact h.n
  .rw[e];intro j;injection j with j;simp at j;omega
 have i:Uq w.1.size≠v.ownBlock:=λe=>by have:=(World.ownsRow.lt h.o _ e.symm).1;omega
 have q:=hg.block w.1.size oM i;have⟨s,A⟩:=h.mid hg;refine⟨Vs _ _ _ s,?_,?_,?_,?_,u,?_,?_⟩
 .rw[Vp _ _ _ _ oP];exact(Vy q).trans m.r
 .rw[Vq];exact A
 .rw[Vq];exact(Vz q).trans m.fr
 .unfold FR;rw[Ou,UM];refine World.ownsRow.kept hown (eZ w7 (Ua (w.1.size+2) 0) v7) ?_;cases e:v7.ownBlock with
  |none=>exact .inl rfl
  |some g=>exact .inr (λj=>u (e.trans j))
 .refine Below.setCell (p:=(Ua (w.1.size+2) 0)) (m.b.grown hg oM (λk hk=>oH ((World.ownsRow.lt h.o k hk).1))) oQ v7
 .simp[Vr];omega
def pT(g:List (Int×List (Int×Int))):List Rn:=g.flatMap λp=>eM p.1 p.2
theorem T4:∀(g:List (Int×List (Int×Int))) (b l:Int),nK b l g->∀p∈g,(0<=p.1/\p.1<=7)/\(p.2.length:Int)<=l/\nJ 1 p.2
 |[],_,_,_,_,j=>by simp at j
 |q::g,b,l,h,p,j=>by
  have⟨t,k,m,o,r,u,v⟩:=h;rcases List.mem_cons.1 j with rfl|j
  .exact⟨⟨k,m⟩,r,u⟩
  .have⟨y,i,z⟩:=T4 g _ _ v p j;exact⟨y,oM,z⟩
theorem PY(r:Int)(l:List (Int×Int))(p:Int×Int):eM r (l++[p])=eM r l++[(r,p.1,p.2)]:=by simp[eM]
theorem LJ(a:Option Us)(n c x x':Nat)(f:Nat->Int)(g:List (Int×List (Int×Int)))(w:Ur)(hn:n<=1048576)(hf:dO f)(hs:bY w a n f)(F:nK (-1) 1000 g)(hR:Rb f n x (pW g) x'):
  Cl 162 #[Uf a n c,Ud (x:Int)] w λe w'=>∃v,e=Ui (Ul #[Uo #[v],Ud (x':Int),Un true])/\FR w' w.1.size v (pT g)/\Bl w w':=by
 have⟨i0,hi,H5,H6,H7⟩:=info_parts Tryz.infoRun;have⟨W,E⟩:=zE (((w.alloc (Uj #[Ue] 26)).alloc (Uj #[] 103)).alloc (Uj #[Uf (Uq (Ua (w.1.size+1) 0)) 0 0] 26));have bW:Bl w W:=E▸(aU _ _ _).alloc oS _;have HZ:aA (W.1.size=w.1.size+3):=E▸aC oP;have Hg:aA (St w W (Uf (Uq (Ua (w.1.size+1) 0)) 0 0) []):=by
  have s1:W.cell? (Ua (w.1.size+2) 0)=Uq (Uf (Uq (Ua (w.1.size+1) 0)) 0 0):=by rw[<-E,VC _ _ _ _ oP];rfl
  have s2:W.cell? (Ub w.1.size)=Uq Ue:=by rw[<-E,VD _ _ _ oS,VD _ _ _ oP,VC _ _ _ _ rfl];rfl
  have s3:W.frozen? (Ua (w.1.size+2) 0)=false:=by rw[<-E,VE _ _ _ _ oP]
  have s4:W.frozen? (Ub w.1.size)=false:=by rw[<-E,VF _ _ _ oS,VF _ _ _ oP,VE _ _ _ _ rfl]
  refine aC ⟨s1,s2,s3,s4,?_,by simp[Value.ownBlock],bW,oH HZ⟩;have q:=Vo (base:=w.1.size+1) (e:=103) (size:=3) (w.alloc (Uj #[Ue] 26)) #[] 0 oP oL rfl;have q':((w.alloc (Uj #[Ue] 26)).alloc (Uj #[] 103)).ownsRow (w.1.size+1) 103 3 (Uf (Uq (Ua (w.1.size+1) 0)) 0 0) 0 []:=oU q;rw[<-E];exact World.ownsRow.alloc q' _
 have⟨x1,r1,r2⟩:=Rb.app hR;have⟨V,hV⟩:=zE g.length;have Ga:V<=8:=by have:=T3 g _ _ F oM oM;omega
 rw[hV]at r1;have HU:=aC<|nY a n c x x1 V 8 f W hn hf (hs.bw bW) oM oM r1;have B:=aC hs;have HI:=aC r2;have HV:=aC hV;have Hj:=aC<|T4 g _ _ F;clear hs bW hR r1 r2 hV F;go_enter func162,ntmps162;go_wp2_with fail;clear E;refine HU.mono ?_;rintro e w1⟨rfl,b1⟩;have Hh:=aC<|Hg.bw b1;clear b1 HU Hg HZ;go_wp2_with fail;go_loopw [9,10,11] (λav okv iv wr=>∃(k y:Nat) (v:aB) (l:List Rn),k<=V/\iv=Ud (k:Int)/\okv=Un true/\av=Ud (y:Int)/\l.length<=1000*k/\aA (St w wr v l)/\aA (l=pT (g.take k)/\Rb f n y (iS (g.drop k)) x')) (λ_ _ iv _=>V-(intOf iv).toNat);case atStart=>exact⟨0,x1,_,[],UB _,rfl,rfl,rfl,oP,Hh,aC ⟨rfl,HI⟩⟩
 case round=>
  clear Hh;obtain⟨k,y,v,l,F,rfl,rfl,rfl,Gb,h,A⟩:=hrel;by_cases Hr:k<V
  .have⟨⟨r,ls⟩,J,L⟩:=qG (l:=g) (k:=k) (by rw[HV.out];exact Hr);have⟨i1,i2⟩:=A.out;rw[J]at i2;have⟨⟨H3,H4⟩,Hy,Hf⟩:=Hj (r,ls) (by
    have:(r,ls)∈g.drop k:=(by rw[J];simp);exact List.mem_of_mem_drop this)
   dsimp only at H3 H4 Hy Hf;have⟨y3,m,q4⟩:=Rb.app i2;have⟨y2,m,I⟩:=Rb.app m;have⟨y1,m,s⟩:=Rb.app m;dsimp only at m s I q4;obtain⟨R,rfl⟩:∃R:Nat,r=(R:Int):=⟨r.toNat,oM⟩;rw[show((R:Int)).toNat=R from by omega]at m;have Hm:=aC<|nY a n c y y1 R 8 f wr hn hf (B.bw h.b) oM oM m;have N:=aC<|And.intro s (And.intro I (And.intro q4 Hf));have Hl:=aC<|And.intro i1 L;clear A i1 i2 m s I q4 J L Hf;go_wp2_with fail;refine Hm.mono ?_;rintro e w2⟨rfl,b2⟩;have Hc:=aC<|h.bw b2;have⟨C,hC⟩:=zE ls.length;have Hn:=aC<|nY a n c y1 y2 C 1000 f w2 hn hf (B.bw Hc.b) oM oM (hC▸N.1);have S:=aC hC;have H9:C<=1000:=oM;clear b2 Hm h;go_wp2_with fail;refine Hn.mono ?_;rintro e w3⟨rfl,b3⟩;have Hi:=aC<|Hc.bw b3;clear b3 Hn Hc hC;go_wp2_with fail;go_loopw [9,10,14,15] (λav okv lv iv wq=>∃(t y:Nat) (v:aB) (i:List Rn) (j:Int),t<=C/\iv=Ud (t:Int)/\lv=Ud j/\okv=Un true/\av=Ud (y:Int)/\-1<=j/\j<=1000000000/\i.length<=1000*k+t/\aA (St w wq v i)/\aA (i=l++eM (R:Int) (ls.take t)/\Rb f n y (gU (j+2) (ls.drop t)) y3/\nJ (j+2) (ls.drop t))) (λ_ _ _ iv _=>C-(intOf iv).toNat);case atStart=>exact⟨0,y2,v,l, -1,UB _,rfl,rfl,rfl,rfl,oM,oM,oM,Hi,aC ⟨by simp[eM],N.2.1,N.2.2.2⟩⟩
   case round=>
    clear Hi;obtain⟨t,P,v,i,j,ht,rfl,rfl,rfl,rfl,H0,H1,H2,h,A⟩:=hrel;by_cases Hs:t<C
    .have⟨⟨u,z⟩,J,L⟩:=qG (l:=ls) (k:=t) (by rw[S.out];exact Hs);have⟨Q,M,j3⟩:=A.out;rw[J]at M j3;have⟨o1,o2,o3,o4⟩:=j3;have⟨p2,m,I⟩:=Rb.app M;have⟨p1,m,s⟩:=Rb.app m;dsimp only at o1 o2 o3 o4 m s I;have⟨G,hG⟩:=zE ((u-(j+2)).toNat:Nat);have⟨Z,hZ⟩:=zE ((z-u).toNat:Nat);rw[hG]at m;rw[hZ]at s;have eu:j+2+(G:Int)=u:=oM;have ez:j+2+(G:Int)+(Z:Int)=z:=oM;have Ho:=aC (nY a n c P p1 G 1000000000 f wr hn hf (B.bw h.b) oM oM m);have HN:aA (i++[((R:Int),j+2+(G:Int),j+2+(G:Int)+(Z:Int))]=l++eM (R:Int) (ls.take (t+1))/\Rb f n p2 (gU (j+2+(G:Int)+(Z:Int)+2) (ls.drop (t+1))) y3/\nJ (j+2+(G:Int)+(Z:Int)+2) (ls.drop (t+1))):=aC (by
      rw[eu,show u+(Z:Int)=z from by omega];exact⟨by rw[L,PY,<-Ve,Q],I,o4⟩)
     have Gc:j+2+(G:Int)+(Z:Int)<=1000000000:=oM;have Hv:=aC s;clear A Q M m s I J L o1 o2 o3 o4 hG hZ eu ez;go_wp2_with fail;refine Ho.mono ?_;rintro e w4⟨rfl,b4⟩;have Hd:=aC<|h.bw b4;have Hp:=aC<|nY a n c p1 p2 Z 1000000000 f w4 hn hf (B.bw Hd.b) oM oM Hv;clear b4 Ho h;go_wp2_with fail;refine Hp.mono ?_;rintro e w5⟨rfl,b5⟩;have e1:IntKind.i64.wrap (j+2)=j+2:=cK _ oM oM;have H:IntKind.i64.wrap (j+2+(G:Int))=j+2+(G:Int):=cK _ oM oM;have e3:IntKind.i64.wrap (j+2+(G:Int)+(Z:Int))=j+2+(G:Int)+(Z:Int):=cK _ oM oM;have K:=Hd.bw b5;have T:=aC K;have c5:=K.c;have z5:=K.z;clear b5 Hp Hd K;go_wp2_with (at_builtin;refine kU rfl _ _ 24 rfl (w.1.size+1) 103 i0 _ 3 24 underlying24 hi H5 H6 H7 rfl oD _ _ _ rfl (World.ownsRow.alloc T.o _) (Ub w5.1.size) 1 1 [Ud (R:Int),Ud (j+2+(G:Int)),Ud (j+2+(G:Int)+(Z:Int))] rfl rfl ?c1 ?c2 ?c3 ?c4 ?c5 ?_);case c1=>exact vA _ _ _ _ _
     case c2=>exact nE
     case c3=>unfold maxLen;omega
     case c4=>omega
     case c5=>simp;omega
     intro v7 w7 Ha He Hb;obtain⟨y7,m7,c7,rfl⟩:=jY Ha;have⟨m,s⟩:=T.mid He;have Hk:=aC<|T.app Ha He (oU Hb);have Hq:(i++[((R:Int),j+2+(G:Int),j+2+(G:Int)+(Z:Int))]).length=i.length+1:=oP;have HW:=aC Hq;clear Ha He Hb c5 Hq;go_wp2_with fail;go_roundw;case rel=>exact⟨t+1,p2,_,_,_,Hs,oN,rfl,rfl,rfl,oM,oM,by rw[HW.out];omega,Hk,HN⟩
     case measure=>exact oE
    .obtain rfl:t=C:=oM;have X:aA (i=pT (g.take (k+1))/\P=y3):=aC (by
      have⟨Q,M,_⟩:=A.out;have e1:ls.take t=ls:=(by rw[<-S.out];simp);have H:ls.drop t=[]:=(by rw[<-S.out];simp);rw[e1]at Q;rw[H]at M;refine⟨?_,M.nil.symm⟩;rw[Hl.2,Q,Hl.1];simp[pT])
     have Hz:i.length<=1000*(k+1):=oM;have Hu:aA (i=pT (g.take (k+1))/\Rb f n P (iS (g.drop (k+1))) x'):=aC ⟨X.1,by rw[X.2];exact N.2.2.1⟩;clear A;go_wp2_with fail;go_roundw;case rel=>exact⟨k+1,P,v,i,Hr,oN,rfl,rfl,Hz,h,Hu⟩
     case measure=>exact oE
  .obtain rfl:k=V:=oM;have X:aA (l=pT g/\y=x'):=aC (by
    have⟨Q,M⟩:=A.out;rw[<-HV.out,Vj]at Q;rw[<-HV.out,List.drop_length]at M;exact⟨Q,M.nil.symm⟩)
   obtain⟨Y,U,O,rfl⟩:=jY h.o;have c5:=h.c;have r5:=h.r;have H8:=h.fr;clear A;go_wp2_with fail;have k4:=Vs wr (Ub w.1.size) (Uf Y U O) r5;have HF:aA (FR (wr.setCell (Ub w.1.size) (Uf Y U O)) w.1.size (Uf Y U O) l):=by
    have D:=h.o;have h2:FR wr w.1.size (Uf Y U O) l:=by
     have⟨m,s⟩:=D;refine⟨m,s.imp id ?_⟩;rintro⟨g',cap,Hw,e,hg,r⟩;exact⟨g',cap,Hw,e,oM,r⟩
    refine aC<|World.ownsRow.kept h2 (eZ wr (Ub w.1.size) (Uf Y U O)) ?_;cases e:(Value.slice Y U O).ownBlock with
    |none=>exact .inl rfl
    |some t=>exact .inr (λH=>by have h3:=(World.ownsRow.lt D t e).1;injection H with H;have H:t=w.1.size:=H;omega)
   have Ht:=aC<|h.b.setCell (p:=(Ub w.1.size)) zL (Uf Y U O);refine zF (v:=Ul #[Uo #[Uf Y U O],Ud (y:Int),Un true]) (by simp[results,results162,go_sem,k4]) ?_;have⟨D,h2⟩:=X.out;exact⟨_,by rw[h2],D▸HF.out,Ht⟩
end Go.Proofs.YtnabjmnfhkcnjaaGreatDoor
