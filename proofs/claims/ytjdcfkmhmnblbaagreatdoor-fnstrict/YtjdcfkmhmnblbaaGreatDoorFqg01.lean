import Derived.Test.YtjdcfkmhmnblbaaGreatDoorRows
import Derived.WalkKit
import Derived.ProofKit
import Derived.OpenShut
import Derived.ShutString
import Derived.ChangeOld
import Derived.Below
import Derived.WalkLawsBesides
import Derived.WalkSpells
import Derived.Outline
import Derived.Deep.RegionHeld3
import Derived.Laws.BitsAllLaws
import Derived.Lib.AppendStr
import Derived.Laws.IdiomStrings
import Derived.Maps.Own
import Derived.Maps.OwnSet
import Derived.Maps.OwnOps
import Derived.Maps.AppendAt
import Derived.Maps.Views
set_option linter.unusedVariables false
set_option linter.unusedSimpArgs false
set_option maxRecDepth 100000
set_option maxHeartbeats 40000000
namespace Go.Proofs.YtjdcfkmhmnblbaaGreatDoor
open Go.ChangeShapes Go.WideShapes Go.ChangeAt Go.RowKit
theorem hid {p:Prop}(h:p):Hid p:=h
def I64 (f:Nat ->Int):Prop:=∀i, -9223372036854775808<=f i/\ f i<=9223372036854775807
def Qb5 (w:World)(a:Option Addr)(n:Nat)(R F T:Nat ->Int):Prop:=
 n=0 \/∃b off,a=some ⟨b,off,none⟩/\ b<w.heap.size/\∀i,i<n ->w.cell? ⟨b,off+i*3,none⟩=some (.int .i64 (R i))/\ w.cell? ⟨b,off+i*3+1,none⟩=some (.int .i64 (F i))/\ w.cell? ⟨b,off+i*3+2,none⟩=some (.int .i64 (T i))
theorem Qb5.kept {w w1:World}{B:Nat}{a:Option Addr}{n:Nat}{R F T:Nat ->Int}(h:Qb5 w a n R F T)(hb:Below B w w1)(hc:∀x,a=some x ->x.block<B):Qb5 w1 a n R F T:=by
 rcases h with h|⟨b,off,rfl,u,r⟩
 ·exact .inl h
 ·have j:b<B:=hc ⟨b,off,none⟩ rfl;refine .inr ⟨b,off,rfl,Nat.lt_of_lt_of_le u hb.size,fun i hi=> ?_⟩;obtain⟨k,m,q⟩:=r i hi;exact⟨(hb.cell (p:=⟨b,_,none⟩) j).trans k,(hb.cell (p:=⟨b,_,none⟩) j).trans m,(hb.cell (p:=⟨b,_,none⟩) j).trans q⟩
theorem Qb5.below {w w1:World}{a:Option Addr}{n:Nat}{R F T:Nat ->Int}(h:Qb5 w a n R F T)(hb:Below w.heap.size w w1):Qb5 w1 a n R F T:=by
 rcases h with h|⟨b,off,rfl,j,k⟩
 ·exact .inl h
 ·exact Qb5.kept (.inr ⟨b,off,rfl,j,k⟩) hb (fun x hx=>by simp at hx;subst hx;exact j)
def QaL (r f t:Int):Bool:=decide (0<=r/\ r<8/\ 1<=f/\ f<=t/\ t<=1000000000)
def QaE (r t r' f':Int):Bool:=decide (r<r' \/(r=r'/\ t+1<f'))
theorem QbF {r f t:Int}(h:0<=r/\ r<8/\ 1<=f/\ f<=t/\ t<=1000000000):QaL r f t=true:=by unfold QaL;exact decide_eq_true h
theorem Qa7 {r f t:Int}(h:¬(0<=r/\ r<8/\ 1<=f/\ f<=t/\ t<=1000000000)):QaL r f t=false:=by unfold QaL;exact decide_eq_false h
theorem Qbg {r f t:Int}:QaL r f t=true↔(0<=r/\ r<8/\ 1<=f/\ f<=t/\ t<=1000000000):=by unfold QaL;simp
theorem QbD {a b:Bool}(h:a=b):Ending.returned (.bool a)=.returned (.bool b):=by rw [h]
theorem Qft {k:IntKind}{a b:Int}(h:a=b):Ending.returned (.int k a)=.returned (.int k b):=by rw [h]
theorem Tryz.infoRun:(Tryz.prog.info? 79).map (fun i=>(i.zero,i.size,i.bytes))=some (some (.agg #[.int .i64 0,.int .i64 0,.int .i64 0]),3,24):=by kernel_rfl
theorem Qcs {W w1:World}(hb:Below W.heap.size W w1):(∀b o,b<W.heap.size ->w1.cell? ⟨b,o,none⟩=W.cell? ⟨b,o,none⟩)/\ (∀b o,b<W.heap.size ->w1.frozen? ⟨b,o,none⟩=W.frozen? ⟨b,o,none⟩):=
 ⟨fun b o h=>hb.cell (p:=⟨b,o,none⟩) h,fun b o h=>hb.frozen (p:=⟨b,o,none⟩) h⟩
theorem QeD {w w1:World}{B C:Nat}{e:TypeId}{size:Nat}{v:Value}{n:Nat}{xs:List Value}(h:w.ownsRow B e size v n xs)(hb:Below C w w1)(hc:∀k,v.ownBlock=some k ->k<C):w1.ownsRow B e size v n xs:=by
 obtain⟨q,j⟩:=h;refine⟨q,?_⟩;rcases j with j|⟨g,cap,m,rfl,u,y,r⟩
 ·exact .inl j
 ·exact .inr ⟨g,cap,m,rfl,u,by rw [hb.block g (hc g rfl)];exact y,r⟩
def Seg (w:World)(a:Option Addr)(n:Nat)(f:Nat ->Int):Prop:=
 n=0 \/∃b off,a=some ⟨b,off,none⟩/\ b<w.heap.size/\∀i,i<n ->w.cell? ⟨b,off+i,none⟩=some (.int .u8 (f i))
def Byt (f:Nat ->Int):Prop:=∀i,0<=f i/\ f i<256
theorem Seg.below {w w':World}{a:Option Addr}{n:Nat}{f:Nat ->Int}(h:Seg w a n f)(hb:Below w.heap.size w w'):Seg w' a n f:=by
 rcases h with h|⟨b,off,rfl,j,k⟩
 ·exact .inl h
 ·exact .inr ⟨b,off,rfl,Nat.lt_of_lt_of_le j hb.size,fun i hi=>(hb.cell (p:=⟨b,off+i,none⟩) j).trans (k i hi)⟩
theorem Tryz.infoByte:(Tryz.prog.info? 5).map (fun i=>(i.zero,i.size,i.bytes))=some (some (.int .u8 0),1,1):=by kernel_rfl
theorem QlB {w:World}{a0:Option Addr}{len0 cap0:Nat}{z0:List Int}
  (w0:(a0=none/\ len0=0/\ cap0=0/\ z0=[]) \/
   ∃x,a0=some x/\ len0<=cap0/\ cap0<=maxLen/\ z0.length=cap0/\ (∀i,i<z0.length ->w.cell? (x.add i)=some (.int .u8 (z0.getD i 0)))/\∀n∈z0,(Lit.int .u8 n).wf=true):
  Seg w a0 len0 (fun i=>z0.getD i 0)/\ Byt (fun i=>z0.getD i 0)/\ len0<=9223372036854775807:=by
 rcases w0 with ⟨rfl,rfl,rfl,rfl⟩|⟨⟨b,off,z⟩,rfl,g,u,t,m,y⟩
 ·exact⟨.inl rfl,fun i=>by simp,by omega⟩
 ·refine⟨?_,fun i=> ?_,by unfold maxLen at u;omega⟩
  ·by_cases r:len0=0
   ·exact .inl r
   ·have k:=m 0 (by omega);have v:z=none:=by simpa [Addr.add] using World.cell?_spot k
    subst v;refine .inr ⟨b,off,rfl,block_lt_of_cell k,fun i j=> ?_⟩;have h:=m i (by omega);by_cases q:i=0
    ·subst q;simpa [Addr.add] using h
    ·simpa [Addr.add,q] using h
  ·by_cases j:i<z0.length
   ·have:=y (z0.getD i 0) (by simp [List.getD,j]);have b:=bounds_u8 this;show 0<=z0.getD i 0/\ z0.getD i 0<256;omega
   ·simp [List.getD,j]
def uvF:Nat ->Nat ->List Int
 | 0,v=>[(v:Int)]
 | k+1,v=>if v<128 then [(v:Int)] else((128+v%128:Nat):Int)::uvF k (v/128)
def Own (w:World)(B:Nat)(v:Value)(zs:List Int):Prop:=w.ownsRow B 5 1 v zs.length (zs.map (Value.int .u8))
theorem QcO (k v:Nat)(h:v<128):uvF k v=[(v:Int)]:=by
 cases k<;>simp [uvF,h]
theorem Qet (k v:Nat)(h:¬v<128):uvF (k+1) v=((128+v%128:Nat):Int)::uvF k (v/128):=by
 simp [uvF,h]
theorem Qah (k:Nat):∀v,(uvF k v).length<=k+1/\ 0<(uvF k v).length:=by
 induction k with
 | zero=>intro v;simp [uvF]
 | succ k ih=>
  intro v;by_cases h:v<128
  ·rw [QcO _ _ h];simp
  ·rw [Qet _ _ h];have:=ih (v/128);simp;omega
theorem QkS (k:Nat):∀v,v<128^(k+1) ->∀z∈uvF k v,0<=z/\ z<256:=by
 induction k with
 | zero=>intro v h z j;simp [uvF] at j;subst j;simp at h;omega
 | succ k ih=>
  intro v h z j;by_cases m:v<128
  ·rw [QcO _ _ m] at j;simp at j;subst j;omega
  ·rw [Qet _ _ m] at j;rcases List.mem_cons.1 j with j|j
   ·subst j;omega
   ·exact ih (v/128) (by rw [Nat.pow_succ] at h;omega) z j
theorem Qlh (m:Nat)(h:m<18446744073709551616):bits BinOp.and IntKind.u64 (m:Int) 127=((m%128:Nat):Int):=by
 have:=u64_and_nat m 127 h (by omega);rw [show (127:Nat)=2^7 - 1 from rfl,Nat.and_two_pow_sub_one_eq_mod] at this;exact this
theorem QnU (a:Nat)(h:a<128):bits BinOp.or IntKind.u8 (a:Int) 128=((128+a:Nat):Int):=by
 have e:=u8_or_nat a 128 (by omega) (by omega);have j:a|||128=128+a:=by
  have:=Nat.two_pow_add_eq_or_of_lt (i:=7) (b:=a) h 1;rw [Nat.or_comm];simpa using this.symm
 rw [j] at e;exact e
theorem Qjs (w:World)(B:Nat)(z:Int)(hB:B<=w.heap.size):Own (w.alloc (.cells #[.int .u8 z] 5)) B (.slice (some ⟨w.heap.size,0,none⟩) 1 1) [z]:=by
 have:=World.ownsRow_lit (base:=B) (e:=5) (size:=1) w #[.int .u8 z] 1 hB (by unfold maxLen;omega) rfl;exact this
theorem QjZ (B m0:Nat)(bv:Value)(zs0:List Int)(w:World)(hm:m0<18446744073709551616)(hB:B<=w.heap.size)(hl:zs0.length<=1000000000000)(ho:Own w B bv zs0):
  Calls Tryz.prog 43 #[bv,.int .u64 (m0:Int)] w fun e w'=>∃v,e=.returned v/\ Own w' B v (zs0++uvF 9 m0)/\ Below B w w'/\ w.heap.size<w'.heap.size:=by
 obtain⟨Z,M,U,V,Y⟩:=info_parts Tryz.infoByte;go_enter Tryz.func43,Tryz.ntmps43;go_wp2_with fail;go_loopw [0,1] (fun b v wr=>∃(k m:Nat) (y:List Int),k<=9/\ m<128^(k+1)/\ m<18446744073709551616/\ v=.int .u64 (m:Int)/\ Own wr B b y/\ Below B w wr/\ w.heap.size<=wr.heap.size/\ y.length+k<=zs0.length+9/\ y++uvF k m=zs0++uvF 9 m0) (fun _ v _=>(intOf v).toNat);case atStart=>exact⟨9,m0,zs0,Nat.le_refl _,by omega,hm,rfl,ho,Below.refl _ _,Nat.le_refl _,Nat.le_refl _,rfl⟩
 case round=>
  obtain⟨k,m,y,o,Q,L,rfl,r,t,C,X,E⟩:=hrel;have i:Hid (y++uvF k m=zs0++uvF 9 m0):=E;have p:Hid (m<128^(k+1)):=Q;clear E ho Q;unfold Own at r;by_cases O:m<128
  ·go_wp2_with (at_builtin;refine wpList_append_own _ rfl _ _ 22 rfl B 5 Z (.int .u8 0) 1 1 Tryz.underlying22 M U V Y rfl (by decide) _ _ _ rfl (r.alloc _) ⟨wr.heap.size,0,none⟩ 1 1 [.int .u8 (m:Int)] rfl rfl ?c1 ?c2 ?c3 ?c4 ?c5 ?_);case c1=>exact cell_one_new _ _ _
   case c2=>intro u g;simp at g;subst g;rfl
   case c3=>unfold maxLen;omega
   case c4=>omega
   case c5=>simp;omega
   ·intro v' w1 z q _;have K:=t.size;have R:Own w1 B v' (zs0++uvF 9 m0):=by
     rw [<- i.out,QcO k m O];unfold Own;rw [List.length_append,List.map_append];exact z
    have s:Below B w w1:=(t.alloc (by omega) _).grown q (by simp;omega) (fun k o=>(r.lt k o).1);have A:=q.size;simp at A;clear z q r;go_wp2;go_ret;exact⟨v',rfl,R,s,by omega⟩
  ·have I:=Qlh m L;have J:bits BinOp.or IntKind.u8 ((m:Int)%128) 128=128+(m:Int)%128:=by
    have:=QnU (m%128) (by omega);simpa using this
   go_wp2_with (at_builtin;refine wpList_append_own _ rfl _ _ 22 rfl B 5 Z (.int .u8 0) 1 1 Tryz.underlying22 M U V Y rfl (by decide) _ _ _ rfl (r.alloc _) ⟨wr.heap.size,0,none⟩ 1 1 [.int .u8 (128+(m:Int)%128)] rfl rfl ?d1 ?d2 ?d3 ?d4 ?d5 ?_);case d1=>exact cell_one_new _ _ _
   case d2=>intro u g;simp at g;subst g;rfl
   case d3=>unfold maxLen;omega
   case d4=>omega
   case d5=>simp;omega
   ·intro v' w1 z q _;have N:1<=k:=by
     have:=p.out;rcases Nat.eq_zero_or_pos k with rfl|h
     ·simp at this;omega
     ·exact h
    obtain⟨j,rfl⟩:∃j,k=j+1:=⟨k - 1,by omega⟩;have K:=t.size;have R:Own w1 B v' (y++[128+(m:Int)%128]):=by
     unfold Own;rw [List.length_append,List.map_append];exact z
    have G:Hid (y++[128+(m:Int)%128]++uvF j (m/128)=zs0++uvF 9 m0):=by
     have:=i.out;rw [Qet j m O] at this;show _=_;rw [<- this];simp
    have H:Hid (m/128<128^(j+1)):=by
     have:=p.out;rw [Nat.pow_succ] at this;show _<_;omega
    have s:Below B w w1:=(t.alloc (by omega) _).grown q (by simp;omega) (fun k o=>(r.lt k o).1);have A:=q.size;simp at A;clear z q r i p J I;go_wp2;go_roundw;case rel=>exact⟨j,m/128,_,by omega,H.out,by omega,by go_num,R,s,by omega,by simp;omega,G.out⟩
    case measure=>simp [intOf];omega
theorem Own.kept {w w1:World}{B C:Nat}{v:Value}{zs:List Int}(h:Own w B v zs)(hb:Below C w w1)(hc:∀k,v.ownBlock=some k ->k<C):Own w1 B v zs:=by
 obtain⟨q,j⟩:=h;refine⟨q,?_⟩;rcases j with j|⟨g,cap,m,rfl,u,y,r⟩
 ·exact .inl j
 ·exact .inr ⟨g,cap,m,rfl,u,by rw [hb.block g (hc g rfl)];exact y,r⟩
theorem Own.weak {w:World}{B C:Nat}{v:Value}{zs:List Int}(h:Own w B v zs)(hc:C<=B):Own w C v zs:=by
 obtain⟨m,j⟩:=h;refine⟨m,?_⟩;rcases j with j|⟨g,cap,k,rfl,q,r⟩
 ·exact .inl j
 ·exact .inr ⟨g,cap,k,rfl,Nat.le_trans hc q,r⟩
theorem Own.shape {w:World}{B:Nat}{v:Value}{zs:List Int}(h:Own w B v zs)(hz:zs≠[]):
  ∃g cap,v=.slice (some ⟨g,0,none⟩) zs.length cap/\ B<=g/\ g<w.heap.size/\ zs.length<=cap/\ cap<=maxLen/\
   (∀j u,(zs.map (Value.int .u8))[j]? =some u ->w.cell? ((⟨g,0,none⟩:Addr).add j)=some u)/\ Seg w (some ⟨g,0,none⟩) zs.length (fun i=>zs.getD i 0):=by
 have k:=h;obtain⟨b,m⟩:=h;rcases m with ⟨_,m⟩|⟨g,cap,o,rfl,y,p,t,z,r⟩
 ·exact absurd (List.eq_nil_of_length_eq_zero m) hz
 ·have q:=(k.lt g rfl).2;refine⟨g,cap,rfl,y,q,t,z,k.cells rfl,.inr ⟨g,0,rfl,q,fun i hi=> ?_⟩⟩;rw [Nat.zero_add,World.ownsRow.cellAt k i (by omega)];simp [hi,List.getD]
theorem QcT {zs:List Int}(h:∀z∈zs,0<=z/\ z<256):Byt (fun i=>zs.getD i 0):=by
 intro i;by_cases j:i<zs.length
 ·have:=h (zs.getD i 0) (by simp [List.getD,j]);exact this
 ·simp [List.getD,j]
theorem QlC (k:Nat):∀(m:Nat) (w:World),k<=9 ->Hid (m<128^(k+1)) ->m<18446744073709551616 ->
  Calls Tryz.prog 94 #[.int .u64 (m:Int)] w fun e w'=>∃v,e=.returned v/\ Own w' w.heap.size v (uvF k m)/\ Below w.heap.size w w'/\ w.heap.size<w'.heap.size:=by
 obtain⟨K,Z,H,I,J⟩:=info_parts Tryz.infoByte;have z:∀(k m:Nat) (w:World),m<128 ->Calls Tryz.prog 94 #[.int .u64 (m:Int)] w fun e w'=>∃v,e=.returned v/\ Own w' w.heap.size v (uvF k m)/\ Below w.heap.size w w'/\ w.heap.size<w'.heap.size:=by
  intro k m w q;have r:Hid (uvF k m=[(m:Int)]):=QcO k m q;go_enter Tryz.func94,Tryz.ntmps94;go_wp2_with fail;go_ret;refine⟨_,rfl,?_,(Below.refl _ _).alloc (Nat.le_refl _) _,by simp⟩;rw [r.out];exact Qjs w _ _ (Nat.le_refl _)
 induction k with
 | zero=>intro m w _ q _;exact z 0 m w (by have:=q.out;omega)
 | succ k ih=>
  intro m w j E q;by_cases A:m<128
  ·exact z (k+1) m w A
  ·have r:Hid (uvF (k+1) m=((128+m%128:Nat):Int)::uvF k (m/128)):=Qet k m A;have t:=Qah k (m/128);have V:Hid (m/128<128^(k+1)):=by
    have:=E.out;rw [Nat.pow_succ] at this;show _<_;omega
   have i:=ih (m/128) (w.alloc (.cells #[.int .u8 (128+(m:Int)%128)] 5)) (by omega) V (by omega);have h:=hid i;clear i ih z E;go_enter Tryz.func94,Tryz.ntmps94;go_wp2_with fail;rw [show ((m:Int)/128)=((m/128:Nat):Int) from by omega];refine h.mono ?_;rintro e w1 ⟨v,rfl,M,b,G⟩;obtain⟨g,cap,rfl,N,X,_,_,p,_⟩:=M.shape (by intro e;rw [e] at t;simp at t);have s:w1.ownsRow w.heap.size 5 1 (.slice (some ⟨w.heap.size,0,none⟩) 1 1) 1 [.int .u8 (128+(m:Int)%128)]:=
    (Qjs w w.heap.size (128+(m:Int)%128) (Nat.le_refl _)).kept b (fun k j=>by simp [Value.ownBlock] at j;simp;omega)
   have B:w.heap.size+1<w1.heap.size:=by have:=G;simp at this;exact this
   have O:∀u∈(uvF k (m/128)).map (Value.int .u8),u.oneCell'=true:=ints_oneCell .u8 _;have o:=hid p;clear p h M;go_wp2_with (at_builtin;refine wpList_append_own _ rfl _ _ 22 rfl w.heap.size 5 K (.int .u8 0) 1 1 Tryz.underlying22 Z H I J rfl (by decide) _ _ _ rfl s ⟨g,0,none⟩ (uvF k (m/128)).length cap ((uvF k (m/128)).map (Value.int .u8)) rfl (by simp) o.out O ?c3 ?c4 ?c5 ?_);case c3=>unfold maxLen;omega
   case c4=>omega
   case c5=>omega
   ·intro v' U Q y _;have R:Own U w.heap.size v' (uvF (k+1) m):=by
     rw [r.out];unfold Own;rw [List.length_cons,List.map_cons,Nat.add_comm];exact Q
    have Y:Below w.heap.size w U:=((((Below.refl _ _).alloc (Nat.le_refl _) _).trans (b.mono (by simp)))).grown y (by omega) (fun k j=>by simp [Value.ownBlock] at j;omega);have L:=y.size;clear Q y s o O;go_wp2_with fail;go_ret;exact⟨v',rfl,R,Y,by omega⟩
def Qa5 (s:ByteArray):List Int:=s.data.toList.map fun b=>(b.toNat:Int)
theorem Qar (s:ByteArray):(Qa5 s).length=s.size:=by
 rw [Qa5,List.length_map,Array.length_toList];rfl
theorem QbO (s:ByteArray):(Qa5 s).map (Value.int .u8)=Lib.strCells s:=by
 simp [Qa5,Lib.strCells,List.map_map,Function.comp_def]
theorem Qdr (s:ByteArray):∀z∈Qa5 s,0<=z/\ z<256:=by
 intro z j;simp only [Qa5,List.mem_map] at j;obtain⟨b,_,rfl⟩:=j;have:=b.toNat_lt;omega
theorem Qey (s:ByteArray)(w:World):∃cap w',(convert 9 22 (.string s)).run Tryz.prog w=.ok (.slice (some ⟨w.heap.size,0,none⟩) s.size cap) w'/\ Below w.heap.size w w'/\ w.heap.size<w'.heap.size/\
  ∀j u,(Lib.strCells s)[j]? =some u ->w'.cell? ((⟨w.heap.size,0,none⟩:Addr).add j)=some u:=by
 refine⟨_,_,run_bytes_of_string (P:=Tryz.prog) w 9 22 5 s Tryz.underlying9 Tryz.underlying22 Tryz.underlying5,?_,?_,?_⟩
 ·exact(Below.refl _ _).drew.alloc (Nat.le_refl _) _
 ·simp
 ·intro j u k;have v:j<s.size:=by
   have:=(List.getElem?_eq_some_iff.1 k).1;rw [Lib.strCells_length] at this;exact this
  have r:∀(C:Array Value) (m:Nat×Nat),(w.drew.alloc (.cells C 5 m)).cell? ⟨w.heap.size,j,none⟩=C[j]? :=by
   intro C m;exact cell_of_row _ _ _ _ _ _ (heap_alloc_new w.drew _)
  have e:((⟨w.heap.size,0,none⟩:Addr).add j)=⟨w.heap.size,j,none⟩:=by
   by_cases q:j=0
   ·subst q;rfl
   ·simp [Addr.add,q]
  rw [e,r];simp only [bytesRow];rw [Array.getElem?_append_left (by simp;exact v)];simp only [Lib.strCells] at k;rw [<- k];simp
def Qae (s:ByteArray):List Int:=uvF 9 s.size++Qa5 s
theorem QhP (s:ByteArray)(w:World)(hs:s.size<=1048576):
  Calls Tryz.prog 63 #[.string s] w fun e w'=>∃v,e=.returned v/\ Own w' w.heap.size v (Qae s)/\ Below w.heap.size w w'/\ w.heap.size<w'.heap.size:=by
 obtain⟨Z,O,U,V,Y⟩:=info_parts Tryz.infoByte;have H:=Qah 9 s.size;go_enter Tryz.func63,Tryz.ntmps63;go_wp2_with fail;refine(QlC 9 s.size _ (Nat.le_refl _) (hid (by omega)) (by omega)).mono ?_;rintro e w1 ⟨b,rfl,j,M,J⟩;obtain⟨cap,G,Q,y,K,z⟩:=Qey s w1;have h:G.ownsRow w.heap.size 5 1 b (uvF 9 s.size).length ((uvF 9 s.size).map (Value.int .u8)):=j.kept y (fun k hk=>(j.lt k hk).2);have t:∀k,b.ownBlock=some k ->w.heap.size<=k:=fun k hk=>(j.lt k hk).1;have r:=hid z;have A:=hid t;have o:=Lib.strCells_oneCell s;have g:=Lib.strCells_length s;have u:=hid o;have q:=hid g;clear z j o g t;go_wp2_with (at_builtin;refine wpList_append_own _ rfl _ _ 22 rfl w.heap.size 5 Z (.int .u8 0) 1 1 Tryz.underlying22 O U V Y rfl (by decide) _ _ _ rfl h ⟨w1.heap.size,0,none⟩ s.size cap (Lib.strCells s) rfl (by rw [q.out];omega) r.out u.out ?c3 ?c4 ?c5 ?_);case c3=>unfold maxLen;omega
 case c4=>omega
 case c5=>omega
 ·intro v' p i m _;have R:Own p w.heap.size v' (Qae s):=by
   unfold Own Qae;rw [List.length_append,List.map_append,Qar,QbO];exact i
  have E:Below w.heap.size w p:=(M.trans (y.mono (by omega))).grown m (by omega) A.out;have I:=m.size;clear i m h r u q Q;go_wp2_with fail;go_ret;exact⟨v',rfl,R,E,by omega⟩
theorem QcL (r f t:Int)(w:World):
  Calls Tryz.prog 92 #[.agg #[.int .i64 r,.int .i64 f,.int .i64 t]] w fun e w'=>e=.returned (.bool (QaL r f t))/\ Below w.heap.size w w':=by
 by_cases k:0<=r
 ·by_cases m:r<8
  ·by_cases q:1<=f
   ·by_cases u:f<=t
    ·by_cases v:t<=1000000000
     ·have j:=hid (QbF ⟨k,m,q,u,v⟩);go_enter Tryz.func92,Tryz.ntmps92;go_wp2_with fail;go_ret;exact⟨QbD j.symm,(Below.refl _ _).alloc (Nat.le_refl _) _⟩
     ·have j:=hid (Qa7 (r:=r) (f:=f) (t:=t) (by omega));go_enter Tryz.func92,Tryz.ntmps92;go_wp2_with fail;go_ret;exact⟨QbD j.symm,(Below.refl _ _).alloc (Nat.le_refl _) _⟩
    ·have j:=hid (Qa7 (r:=r) (f:=f) (t:=t) (by omega));go_enter Tryz.func92,Tryz.ntmps92;go_wp2_with fail;go_ret;exact⟨QbD j.symm,(Below.refl _ _).alloc (Nat.le_refl _) _⟩
   ·have j:=hid (Qa7 (r:=r) (f:=f) (t:=t) (by omega));go_enter Tryz.func92,Tryz.ntmps92;go_wp2_with fail;go_ret;exact⟨QbD j.symm,(Below.refl _ _).alloc (Nat.le_refl _) _⟩
  ·have j:=hid (Qa7 (r:=r) (f:=f) (t:=t) (by omega));go_enter Tryz.func92,Tryz.ntmps92;go_wp2_with fail;go_ret;exact⟨QbD j.symm,(Below.refl _ _).alloc (Nat.le_refl _) _⟩
 ·have j:=hid (Qa7 (r:=r) (f:=f) (t:=t) (by omega));go_enter Tryz.func92,Tryz.ntmps92;go_wp2_with fail;go_ret;exact⟨QbD j.symm,(Below.refl _ _).alloc (Nat.le_refl _) _⟩
theorem Qj1 (r:Int)(w:World)(h1:0<=r)(h2:r<8):
  Calls Tryz.prog 144 #[.int .i64 r] w fun e w'=>e=.returned (.bool true)/\ w'=w:=by
 go_enter Tryz.func144,Tryz.ntmps144;go_wp2_with fail;go_ret;exact⟨rfl,rfl⟩
theorem QkF (r:Int)(w:World)(h:¬(0<=r/\ r<8)):
  Calls Tryz.prog 144 #[.int .i64 r] w fun e w'=>e=.returned (.bool false)/\ w'=w:=by
 by_cases j:0<=r
 ·have k:decide (r<8)=false:=by simp;omega
  go_enter Tryz.func144,Tryz.ntmps144;go_wp2_with fail;go_ret;exact⟨rfl,rfl⟩
 ·go_enter Tryz.func144,Tryz.ntmps144;go_wp2_with fail;go_ret;exact⟨rfl,rfl⟩
theorem QdO (r f t:Int)(w:World):
  Calls Tryz.prog 113 #[.agg #[.int .i64 r,.int .i64 f,.int .i64 t]] w fun e w'=>e=.returned (.bool (QaL r f t))/\ Below w.heap.size w w':=by
 by_cases m:0<=r/\ r<8
 ·obtain⟨q,u⟩:=m;have k:=hid (Qj1 r (w.alloc (.cells #[.int .i64 r,.int .i64 f,.int .i64 t] 79)) q u);by_cases v:1<=f
  ·by_cases y:f<=t
   ·by_cases z:t<=1000000000
    ·have j:=hid (QbF ⟨q,u,v,y,z⟩);go_enter Tryz.func113,Tryz.ntmps113;go_wp2_with fail;refine k.mono ?_;rintro e w1 ⟨rfl,rfl⟩;go_wp2_with fail;go_ret;exact⟨QbD j.symm,(Below.refl _ _).alloc (Nat.le_refl _) _⟩
    ·have h:decide (t<=1000000000)=false:=by simp;omega
     have j:=hid (Qa7 (r:=r) (f:=f) (t:=t) (by omega));go_enter Tryz.func113,Tryz.ntmps113;go_wp2_with fail;refine k.mono ?_;rintro e w1 ⟨rfl,rfl⟩;go_wp2_with fail;go_ret;exact⟨QbD j.symm,(Below.refl _ _).alloc (Nat.le_refl _) _⟩
   ·have j:=hid (Qa7 (r:=r) (f:=f) (t:=t) (by omega));go_enter Tryz.func113,Tryz.ntmps113;go_wp2_with fail;refine k.mono ?_;rintro e w1 ⟨rfl,rfl⟩;go_wp2_with fail;go_ret;exact⟨QbD j.symm,(Below.refl _ _).alloc (Nat.le_refl _) _⟩
  ·have j:=hid (Qa7 (r:=r) (f:=f) (t:=t) (by omega));go_enter Tryz.func113,Tryz.ntmps113;go_wp2_with fail;refine k.mono ?_;rintro e w1 ⟨rfl,rfl⟩;go_wp2_with fail;go_ret;exact⟨QbD j.symm,(Below.refl _ _).alloc (Nat.le_refl _) _⟩
 ·have k:=hid (QkF r (w.alloc (.cells #[.int .i64 r,.int .i64 f,.int .i64 t] 79)) m);have j:=hid (Qa7 (r:=r) (f:=f) (t:=t) (by omega));clear m;go_enter Tryz.func113,Tryz.ntmps113;go_wp2_with fail;refine k.mono ?_;rintro e w1 ⟨rfl,rfl⟩;go_wp2_with fail;go_ret;exact⟨QbD j.symm,(Below.refl _ _).alloc (Nat.le_refl _) _⟩
theorem Qbl {r t r' f':Int}(h:r<r' \/(r=r'/\ t+1<f')):QaE r t r' f'=true:=by unfold QaE;exact decide_eq_true h
theorem Qba {r t r' f':Int}(h:¬(r<r' \/(r=r'/\ t+1<f'))):QaE r t r' f'=false:=by unfold QaE;exact decide_eq_false h
theorem Qak (w:World)(o o':Obj):Below w.heap.size w ((w.alloc o).alloc o'):=((Below.refl _ _).alloc (Nat.le_refl _) _).alloc (by simp) _
theorem Qj9 (r f t r' f' t':Int)(w:World)(h0:0<=t)(h1:t<=1000000000):
  Calls Tryz.prog 93 #[.agg #[.int .i64 r,.int .i64 f,.int .i64 t],.agg #[.int .i64 r',.int .i64 f',.int .i64 t']] w fun e w'=>e=.returned (.bool (QaE r t r' f'))/\ Below w.heap.size w w':=by
 by_cases q:r<r'
 ·have j:=hid (Qbl (t:=t) (f':=f') (.inl q));go_enter Tryz.func93,Tryz.ntmps93;go_wp2_with fail;go_ret;exact⟨QbD j.symm,Qak _ _ _⟩
 ·by_cases k:r=r'
  ·subst k;by_cases m:t+1<f'
   ·have j:=hid (Qbl (r:=r) (r':=r) (.inr ⟨rfl,m⟩));go_enter Tryz.func93,Tryz.ntmps93;go_wp2_with fail;go_ret;exact⟨QbD j.symm,Qak _ _ _⟩
   ·have j:=hid (Qba (r:=r) (r':=r) (t:=t) (f':=f') (by omega));go_enter Tryz.func93,Tryz.ntmps93;go_wp2_with fail;go_ret;exact⟨QbD j.symm,Qak _ _ _⟩
  ·have m:(r==r')=false:=by simp;exact k
   have j:=hid (Qba (r:=r) (r':=r') (t:=t) (f':=f') (by omega));go_enter Tryz.func93,Tryz.ntmps93;go_wp2_with fail;go_ret;exact⟨QbD j.symm,Qak _ _ _⟩
theorem Qg2 (r f t r' f' t':Int)(w:World)(h0:0<=t)(h1:t<=1000000000):
  Calls Tryz.prog 114 #[.agg #[.int .i64 r',.int .i64 f',.int .i64 t'],.agg #[.int .i64 r,.int .i64 f,.int .i64 t]] w fun e w'=>e=.returned (.bool (QaE r t r' f'))/\ Below w.heap.size w w':=by
 by_cases k:r'=r
 ·subst k;by_cases m:t+1<f'
  ·have j:=hid (Qbl (r:=r') (r':=r') (.inr ⟨rfl,m⟩));go_enter Tryz.func114,Tryz.ntmps114;go_wp2_with fail;go_ret;exact⟨QbD j.symm,Qak _ _ _⟩
  ·have j:=hid (Qba (r:=r') (r':=r') (t:=t) (f':=f') (by omega));go_enter Tryz.func114,Tryz.ntmps114;go_wp2_with fail;go_ret;exact⟨QbD j.symm,Qak _ _ _⟩
 ·have m:(r' !=r)=true:=by simp;exact k
  by_cases q:r<r'
  ·have j:=hid (Qbl (t:=t) (f':=f') (.inl q));go_enter Tryz.func114,Tryz.ntmps114;go_wp2_with fail;go_ret;exact⟨QbD j.symm,Qak _ _ _⟩
  ·have j:=hid (Qba (r:=r) (r':=r') (t:=t) (f':=f') (by omega));go_enter Tryz.func114,Tryz.ntmps114;go_wp2_with fail;go_ret;exact⟨QbD j.symm,Qak _ _ _⟩
def Qeu (R F T:Nat ->Int)(k:Nat):Prop:=∀i,i<k ->QaL (R i) (F i) (T i)=true/\ (0<i ->QaE (R (i - 1)) (T (i - 1)) (R i) (F i)=true)
def Qjo (R F T:Nat ->Int):Nat ->Bool
 | 0=>true
 | k+1=>Qjo R F T k && (QaL (R k) (F k) (T k) && (k==0||QaE (R (k - 1)) (T (k - 1)) (R k) (F k)))
def QcR (R F T:Nat ->Int)(n:Nat):Bool:=Qjo R F T n && decide (n<=1000)
theorem QfV {R F T:Nat ->Int}:∀k:Nat,Qjo R F T k=true↔Qeu R F T k
 | 0=>⟨fun _ i q=>by omega,fun _=>rfl⟩
 | k+1=>by
  have r:=QfV (R:=R) (F:=F) (T:=T) k;constructor
  ·intro h;simp only [Qjo,Bool.and_eq_true,Bool.or_eq_true,beq_iff_eq] at h;intro i q;by_cases e:i=k
   ·subst e;exact⟨h.2.1,fun m=>by rcases h.2.2 with j|j;omega;exact j⟩
   ·exact r.1 h.1 i (by omega)
  ·intro h;simp only [Qjo,Bool.and_eq_true,Bool.or_eq_true,beq_iff_eq];refine⟨r.2 (fun i q=>h i (by omega)),(h k (by omega)).1,?_⟩;by_cases m:k=0
   ·exact .inl m
   ·exact .inr ((h k (by omega)).2 (by omega))
theorem Qao {R F T:Nat ->Int}{n:Nat}:QcR R F T n=true↔Qeu R F T n/\ n<=1000:=by
 unfold QcR;rw [Bool.and_eq_true,QfV,decide_eq_true_iff]
theorem Qcn {R F T:Nat ->Int}{n:Nat}(h:¬(Qeu R F T n/\ n<=1000)):QcR R F T n=false:=by
 cases e:QcR R F T n with
 | false=>rfl
 | true=>exact absurd (Qao.1 e) h
theorem QcH {R F T:Nat ->Int}{k:Nat}(h:Qeu R F T k)(h1:QaL (R k) (F k) (T k)=true)(h2:0<k ->QaE (R (k - 1)) (T (k - 1)) (R k) (F k)=true):Qeu R F T (k+1):=by
 intro i j;by_cases e:i=k
 ·subst e;exact⟨h1,h2⟩
 ·exact h i (by omega)
theorem Qac {wr w1 w2:World}(h1:Below wr.heap.size wr w1)(b2:Below w1.heap.size w1 w2):Below wr.heap.size wr w2:=h1.trans (b2.mono h1.size)
theorem Qpc {P:Program}{ops:Array Oper}{Q:Exit ->Act ->World ->Prop}{md:Region.Mode}{S:World ->Prop}{i:Nat}{d:Option Tmp}{v:Value}{fuel:Nat}{listed:Array Bool}{a:Act}{w:World}
  (hd:ops[i]?.map (fun o=>o.dst)=some d) (hs:Region.noSelect ops=true) (hf:Region.free md ops listed i=true) (hr:(Region.ready md ops listed).contains i=true)
  (hQ:∀c a w,Q (.panic c) (a.put d v) w ->Q (.panic c) a w) (hy:∀o,ops[i]? =some o ->YieldsIf P ops S o v a) (hS:S w)
  (h:wpAnyH P md ops Q S fuel (listed.setIfInBounds i true) (a.put d v) w):wpAnyH P md ops Q S (fuel+1) listed a w:=by
 obtain⟨o,j,rfl⟩:=Option.map_eq_some_iff.1 hd;exact wpAnyH_take j hs hf hr hQ (hy o j) hS h
theorem Qoy {P:Program}{ops:Array Oper}{Q:Exit ->Act ->World ->Prop}{md:Region.Mode}{S:World ->Prop}{i:Nat}{d:Option Tmp}{fuel:Nat}{listed:Array Bool}{a:Act}{w:World}
  (hd:ops[i]?.map (fun o=>o.dst)=some d) (hr:Region.ready md ops listed=[i])
  (h:∀o,ops[i]? =some o ->o.dst=d ->∀K':Act ->World ->Prop,Shut (∀a w,S w ->(S w ->wpAnyH P md ops Q S fuel (listed.setIfInBounds i true) a w) ->K' a w) ->if Region.wanted o (yielded ops a.tmps)=true then Oper.wp P o a w K' Q else K' (a.put o.dst undef) w):
  wpAnyH P md ops Q S (fuel+1) listed a w:=by
 obtain⟨o,j,k⟩:=Option.map_eq_some_iff.1 hd;exact wpAnyH_ready hr (by simp) (AllReadyH.cons j (h o j k) AllReadyH.nil)
theorem gZa {α:Type}{l:List α}{i:Nat}:l.toArray[i]? =l[i]? :=List.getElem?_toArray
theorem gZb {α:Type}{a:α}{l:List α}{i:Nat}:(a::l)[i+1]? =l[i]? :=List.getElem?_cons_succ
theorem gZc {α:Type}{a:α}{l:List α}:(a::l)[0]? =some a:=List.getElem?_cons_zero
theorem gZd {α:Type}{a b:α}:(some a=some b)=(a=b):=Option.some.injEq a b
theorem sZa {α:Type}(l:List α)(i:Nat)(a:α):l.toArray.setIfInBounds i a=(l.set i a).toArray:=by simp
theorem sZb {α:Type}{a b:α}{l:List α}:(a::l).set 0 b=b::l:=List.set_cons_zero
theorem sZc {α:Type}{a b:α}{l:List α}{i:Nat}:(a::l).set (i+1) b=a::l.set i b:=List.set_cons_succ
theorem tk {P:Program}{ops:Array Oper}{Q:Exit ->Act ->World ->Prop}{md:Region.Mode}{S:World ->Prop}(i:Nat)(d:Tmp)(v:Value){fuel:Nat}{listed:Array Bool}{a:Act}{w:World}
  (hb:((ops[i]?.map (fun o=>o.dst)==some (some d)) && (Region.noSelect ops && (Region.free md ops listed i && (Region.ready md ops listed).contains i)))=true)
  (hQ:∀c a w,Q (.panic c) (a.put (some d) v) w ->Q (.panic c) a w) (hy:∀o,ops[i]? =some o ->YieldsIf P ops S o v a) (hS:S w)
  (h:wpAnyH P md ops Q S fuel (listed.setIfInBounds i true) (a.put (some d) v) w):wpAnyH P md ops Q S (fuel+1) listed a w:=by
 rw [Bool.and_eq_true,Bool.and_eq_true,Bool.and_eq_true] at hb;exact Qpc (eq_of_beq hb.1) hb.2.1 hb.2.2.1 hb.2.2.2 hQ hy hS h
theorem tZ {P:Program}{ops:Array Oper}{Q:Exit ->Act ->World ->Prop}{md:Region.Mode}{S:World ->Prop}(i:Nat)(d:Tmp){v:Value}{fuel:Nat}{listed:Array Bool}{a b:Act}{w:World}
  (h:wpAnyH P md ops Q S fuel (listed.setIfInBounds i true) b w) (hS:S w:=by assumption)
  (hb:((ops[i]?.map (fun o=>o.dst)==some (some d)) && (Region.noSelect ops && (Region.free md ops listed i && (Region.ready md ops listed).contains i)))=true:=by kernel_rfl)
  (hQ:∀c a w,Q (.panic c) (a.put (some d) v) w ->Q (.panic c) a w:=by exact fun _ _ _ h=>h)
  (hy:∀o,ops[i]? =some o ->YieldsIf P ops S o v a:=by intro o j;simp only [gZa,gZb,gZc,gZd] at j;subst j;refine Or.inl ⟨by rfl,?_⟩;intro w k;(try dsimp only at k);go_simp;try with_reducible rfl)
  (hp:a.put (some d) v=b:=by simp only [Act.put,sZa,sZb,sZc];rfl):wpAnyH P md ops Q S (fuel+1) listed a w:=tk i d v hb hQ hy hS (hp ▸ h)
theorem uZ {P:Program}{ops:Array Oper}{Q:Exit ->Act ->World ->Prop}{md:Region.Mode}{S:World ->Prop}(i:Nat)(d:Tmp){fuel:Nat}{listed:Array Bool}{a b:Act}{w:World}
  (h:wpAnyH P md ops Q S fuel (listed.setIfInBounds i true) b w) (hS:S w:=by assumption)
  (hb:((ops[i]?.map (fun o=>o.dst)==some (some d)) && (Region.noSelect ops && (Region.free md ops listed i && (Region.ready md ops listed).contains i)))=true:=by kernel_rfl)
  (hQ:∀c a w,Q (.panic c) (a.put (some d) undef) w ->Q (.panic c) a w:=by exact fun _ _ _ h=>h)
  (hy:∀o,ops[i]? =some o ->YieldsIf P ops S o undef a:=by intro o j;simp only [gZa,gZb,gZc,gZd] at j;subst j;exact Or.inr ⟨by rfl,rfl⟩)
  (hp:a.put (some d) undef=b:=by simp only [Act.put,sZa,sZb,sZc];rfl):wpAnyH P md ops Q S (fuel+1) listed a w:=tk i d undef hb hQ hy hS (hp ▸ h)
theorem cZ {P:Program}{ops:Array Oper}{Q:Exit ->Act ->World ->Prop}{md:Region.Mode}{S:World ->Prop}(i:Nat){o:Oper}{fuel:Nat}{listed:Array Bool}{a:Act}{w:World}
  (h:∀K':Act ->World ->Prop,Shut (∀a w,S w ->(S w ->wpAnyH P md ops Q S fuel (listed.setIfInBounds i true) a w) ->K' a w) ->if Region.wanted o (yielded ops a.tmps)=true then Oper.wp P o a w K' Q else K' (a.put o.dst undef) w)
  (hr:Region.ready md ops listed=[i]:=by kernel_rfl) (ho:ops[i]? =some o:=by simp only [gZa,gZb,gZc];rfl):wpAnyH P md ops Q S (fuel+1) listed a w:=
 Qoy (d:=o.dst) (by rw [ho];rfl) hr (fun o' h1 _=>by rw [ho] at h1;cases h1;exact h)
theorem zO (w:World)(o:Obj):Below w.heap.size w (w.alloc o):=(Below.refl _ _).alloc (Nat.le_refl _) o
theorem zL {n:Nat}:n<=n:=Nat.le_refl n
theorem zI {B:Nat}{w:World}:Below B w w:=Below.refl B w
theorem zH (w:World)(a:Addr)(u:Value)(k:Nat)(h:k≠a.block):(w.setCell a u).heap[k]? =w.heap[k]? :=Below.heap_setCell w a u k h
theorem zP:(∀(a:Act) (v:Value),a.put none v=a)/\ (∀(t:Array Value) (d) (i:Nat) (v:Value),(Act.mk t d).put (some i) v=Act.mk (t.setIfInBounds i v) d)/\ (∀(l:List Value) (i:Nat) (a:Value),l.toArray.setIfInBounds i a=(l.set i a).toArray)/\ (∀(a b:Value) (l:List Value),(a::l).set 0 b=b::l)/\∀(a b:Value) (l:List Value) (i:Nat),(a::l).set (i+1) b=a::l.set i b:=⟨fun _ _=>rfl,fun _ _ _ _=>rfl,fun _ _ _=>by simp,fun _ _ _=>rfl,fun _ _ _ _=>rfl⟩
theorem zD {P:Program}{ops:Array Oper}{Q:Exit ->Act ->World ->Prop}{md:Region.Mode}{S:World ->Prop}{fuel:Nat}{listed:Array Bool}{a:Act}{w:World}(h:Q .normal a w)(hr:Region.ready md ops listed=[]:=by kernel_rfl):wpAnyH P md ops Q S fuel listed a w:=wpAnyH_done hr h fuel
theorem zR {P:Program}{ops:Array Oper}{Q:Exit ->Act ->World ->Prop}{S:World ->Prop}{id:Nat}{a:Act}{w:World}(hS:S w.drew)(h:S w.drew ->wpAnyH P .any ops Q S ops.size (Array.replicate ops.size false) a w.drew)(hm:P.follows .mixedOrders=true:=by kernel_rfl):(Code.region id ops true).wp P Q a w:=wp_region_held_drew hm hS h
theorem zF {P:Program}{fn:Func}{R:Ending ->World ->Prop}{a:Act}{w:World}{v:Value}(hr:(results fn a.tmps).run P w=.ok v w)(hR:R (.returned v) w)(hd:a.defers=[]:=by rfl):bodyPost P fn R .ret a w:=bodyPost_ret hr hd hR
theorem Qan (x:Int)(h0: -9223372036854775808<=x)(h1:x<=9223372036854775807):IntKind.i64.wrap x=x:=by
 rw [IntKind.wrap_i64];omega
theorem Qdq {R F T:Nat ->Int}{n k:Nat}(hk:k<n)(h:QaL (R k) (F k) (T k)=false):QcR R F T n=false:=Qcn fun⟨h1,_⟩=>by
 have:=(h1 k hk).1;rw [h] at this;cases this
theorem Qcx {R F T:Nat ->Int}{n k:Nat}(hk:k<n)(h0:0<k)(h:QaE (R (k - 1)) (T (k - 1)) (R k) (F k)=false):QcR R F T n=false:=Qcn fun⟨h1,_⟩=>by
 have:=(h1 k hk).2 h0;rw [h] at this;cases this
theorem Qgf (a:Option Addr)(n c:Nat)(R F T:Nat ->Int)(w:World)(hn:n<=1048576)(h:Qb5 w a n R F T):
  Calls Tryz.prog 58 #[.agg #[.slice a n c]] w fun e w'=>e=.returned (.bool (QcR R F T n))/\ Below w.heap.size w w':=by
 rcases h with h|⟨b,off,rfl,O,v⟩
 ·subst h;have U:Hid (QcR R F T 0=true):=Qao.2 ⟨fun i hi=>by omega,by omega⟩;go_enter Tryz.func58,Tryz.ntmps58;go_wp2_with fail;refine wp_loop_rounds 1 ?_;rw [rounds_succ];go_wp2_with fail;go_ret;exact⟨QbD U.symm,zO _ _⟩
 ·go_enter Tryz.func58,Tryz.ntmps58;go_wp2_with fail;go_loopw [3] (fun i wr=>∃k:Nat,k<=n/\ i=.int .i64 k/\ Qeu R F T k/\ wr.cell? ⟨w.heap.size,0,none⟩=some (.slice (some ⟨b,off,none⟩) n c)/\ Below w.heap.size w wr/\ w.heap.size<wr.heap.size) (fun i _=>n - (intOf i).toNat);case atStart=>exact⟨0,Nat.zero_le _,rfl,fun i hi=>by omega,by simp,zO _ _,by simp⟩
  case round=>
   obtain⟨k,hk,rfl,A,g,r,V⟩:=hrel;have m:=Nat.lt_of_lt_of_le O r.size;by_cases Q:k<n
   ·have t:wr.cell? ⟨b,off+k*3,none⟩=some (.int .i64 (R k)):=(r.cell (p:=⟨b,_,none⟩) O).trans (v k Q).1;have o:wr.cell? ⟨b,off+k*3+1,none⟩=some (.int .i64 (F k)):=(r.cell (p:=⟨b,_,none⟩) O).trans (v k Q).2.1;have s:wr.cell? ⟨b,off+k*3+2,none⟩=some (.int .i64 (T k)):=(r.cell (p:=⟨b,_,none⟩) O).trans (v k Q).2.2;have Ha:(0:Int)<=(k:Int):=Int.natCast_nonneg _;have Hb:(k:Int)<(n:Int):=by omega
    have E:=hid r;have X:=hid A;cases hr:QaL (R k) (F k) (T k) with
    | false=>
     have M:=hid hr;clear hr v r A;go_wp2_with fail;refine zR (S:=fun w'=>Below wr.heap.size wr w'/\ w'.cell? ⟨w.heap.size,0,none⟩=some (.slice (some ⟨b,off,none⟩) n c)/\ w'.cell? ⟨b,off+k*3,none⟩=some (.int .i64 (R k))/\ w'.cell? ⟨b,off+k*3+1,none⟩=some (.int .i64 (F k))/\ w'.cell? ⟨b,off+k*3+2,none⟩=some (.int .i64 (T k))) ⟨zI.drew,g,t,o,s⟩ (fun qh=> ?_);refine tZ 0 11 ?_;refine tZ 1 12 ?_;refine tZ 2 13 ?_;refine tZ 3 14 ?_;refine tZ 4 15 ?_;refine cZ 5 ?_;intro K u;go_simp;refine(QcL _ _ _ _).mono ?_;rintro e P ⟨rfl,z⟩;rw [M.out];have j:=Qac qh.1 z;refine u.out _ _ ⟨j,(j.cell (p:=⟨w.heap.size,0,none⟩) V).trans g,(j.cell (p:=⟨b,_,none⟩) m).trans t,(j.cell (p:=⟨b,_,none⟩) m).trans o,(j.cell (p:=⟨b,_,none⟩) m).trans s⟩ (fun qh=> ?_);clear u K;try simp only [zP]
     refine tZ 6 17 ?_;refine tZ 7 18 ?_;refine uZ 8 19 ?_;refine uZ 9 20 ?_;refine uZ 10 21 ?_;refine uZ 11 22 ?_;refine uZ 12 23 ?_;refine uZ 13 24 ?_;refine uZ 14 25 ?_;refine uZ 15 26 ?_;refine uZ 16 27 ?_;refine uZ 17 28 ?_;refine uZ 18 29 ?_;refine uZ 19 30 ?_;refine uZ 20 31 ?_;refine uZ 21 32 ?_;refine uZ 22 33 ?_;refine uZ 23 34 ?_;refine uZ 24 35 ?_;refine tZ 25 36 ?_;refine zD ?_;have y:=hid (Qac (wr:=wr) (w1:=wr) zI j);clear qh j z;go_wp2_with fail;go_ret;exact⟨QbD (Qdq Q M.out).symm,E.trans (y.mono (by omega))⟩
    | true=>
     have M:=hid hr;clear hr;by_cases H:k=0
     ·have hg:decide (0<k)=false:=by simp;omega
      have J:=hid H;clear v r A H;go_wp2_with fail;refine zR (S:=fun w'=>Below wr.heap.size wr w'/\ w'.cell? ⟨w.heap.size,0,none⟩=some (.slice (some ⟨b,off,none⟩) n c)/\ w'.cell? ⟨b,off+k*3,none⟩=some (.int .i64 (R k))/\ w'.cell? ⟨b,off+k*3+1,none⟩=some (.int .i64 (F k))/\ w'.cell? ⟨b,off+k*3+2,none⟩=some (.int .i64 (T k))) ⟨zI.drew,g,t,o,s⟩ (fun qh=> ?_);refine tZ 0 11 ?_;refine tZ 1 12 ?_;refine tZ 2 13 ?_;refine tZ 3 14 ?_;refine tZ 4 15 ?_;refine cZ 5 ?_;intro K u;go_simp;refine(QcL _ _ _ _).mono ?_;rintro e P ⟨rfl,z⟩;rw [M.out];have j:=Qac qh.1 z;refine u.out _ _ ⟨j,(j.cell (p:=⟨w.heap.size,0,none⟩) V).trans g,(j.cell (p:=⟨b,_,none⟩) m).trans t,(j.cell (p:=⟨b,_,none⟩) m).trans o,(j.cell (p:=⟨b,_,none⟩) m).trans s⟩ (fun qh=> ?_);clear u K;try simp only [zP]
      refine tZ 6 17 ?_;refine tZ 7 18 ?_;refine tZ 8 19 ?_;refine tZ 9 20 ?_;refine tZ 10 21 ?_;refine uZ 11 22 ?_;refine uZ 12 23 ?_;refine uZ 13 24 ?_;refine uZ 14 25 ?_;refine uZ 15 26 ?_;refine uZ 16 27 ?_;refine uZ 17 28 ?_;refine uZ 18 29 ?_;refine uZ 19 30 ?_;refine uZ 20 31 ?_;refine uZ 21 32 ?_;refine uZ 22 33 ?_;refine uZ 23 34 ?_;refine tZ 24 35 ?_;refine tZ 25 36 ?_;refine zD ?_;have L:=hid qh.2.1;have y:=hid j;clear qh j z;go_wp2_with fail;go_roundw;case rel=>exact⟨k+1,Q,by go_num,QcH X.out M.out (fun h=>by have:=J.out;omega),L.out,E.trans (y.mono (by omega)),by have:=y.size;omega⟩
      case measure=>simp [intOf];omega
     ·have hg:decide (0<k)=true:=by simp;omega
      have Y:=(r.cell (p:=⟨b,off+(k - 1)*3,none⟩) O).trans (v (k - 1) (by omega)).1;have Z:=(r.cell (p:=⟨b,off+(k - 1)*3+1,none⟩) O).trans (v (k - 1) (by omega)).2.1;have G:=(r.cell (p:=⟨b,off+(k - 1)*3+2,none⟩) O).trans (v (k - 1) (by omega)).2.2;have W:IntKind.i64.wrap ((k:Int) - 1)=(k:Int) - 1:=Qan _ (by omega) (by omega);have e1:((k:Int) - 1).toNat=k - 1:=by omega
      have e2:(1:Int)<=(k:Int):=by omega
      have e3:(k:Int) - 1<(n:Int):=by omega
      have D:=Qbg.1 (A (k - 1) (by omega)).1;have B:=hid D;have J:=hid H;clear v r A H D;go_wp2_with fail;refine zR (S:=fun w'=>Below wr.heap.size wr w'/\ w'.cell? ⟨w.heap.size,0,none⟩=some (.slice (some ⟨b,off,none⟩) n c)/\ w'.cell? ⟨b,off+k*3,none⟩=some (.int .i64 (R k))/\ w'.cell? ⟨b,off+k*3+1,none⟩=some (.int .i64 (F k))/\ w'.cell? ⟨b,off+k*3+2,none⟩=some (.int .i64 (T k))/\ w'.cell? ⟨b,off+(k - 1)*3,none⟩=some (.int .i64 (R (k - 1)))/\ w'.cell? ⟨b,off+(k - 1)*3+1,none⟩=some (.int .i64 (F (k - 1)))/\ w'.cell? ⟨b,off+(k - 1)*3+2,none⟩=some (.int .i64 (T (k - 1)))) ⟨zI.drew,g,t,o,s,Y,Z,G⟩ (fun qh=> ?_);refine tZ 0 11 ?_;refine tZ 1 12 ?_;refine tZ 2 13 ?_;refine tZ 3 14 ?_;refine tZ 4 15 ?_;refine cZ 5 ?_;intro K u;go_simp;refine(QcL _ _ _ _).mono ?_;rintro e P ⟨rfl,z⟩;rw [M.out];have j:=Qac qh.1 z;refine u.out _ _ ⟨j,(j.cell (p:=⟨w.heap.size,0,none⟩) V).trans g,(j.cell (p:=⟨b,_,none⟩) m).trans t,(j.cell (p:=⟨b,_,none⟩) m).trans o,(j.cell (p:=⟨b,_,none⟩) m).trans s,(j.cell (p:=⟨b,_,none⟩) m).trans Y,(j.cell (p:=⟨b,_,none⟩) m).trans Z,(j.cell (p:=⟨b,_,none⟩) m).trans G⟩ (fun qh=> ?_);clear u K;try simp only [zP]
      refine tZ 6 17 ?_;refine tZ 7 18 ?_;refine tZ 8 19 ?_;refine tZ 9 20 ?_;refine tZ 10 21 ?_;refine tZ 11 22 ?_;refine tZ 12 23 ?_;refine tZ 13 24 ?_;refine tZ 14 25 ?_;refine tZ 15 26 ?_;refine tZ 16 27 ?_;refine tZ 17 28 ?_;refine tZ 18 29 ?_;refine tZ 19 30 ?_;refine tZ 20 31 ?_;refine tZ 21 32 ?_;refine cZ 22 ?_;intro K u;go_simp;refine(Qj9 (R (k - 1)) (F (k - 1)) (T (k - 1)) (R k) (F k) (T k) _ (by have:=B.out;omega) (by have:=B.out;omega)).mono ?_;rintro e w3 ⟨rfl,N⟩;have q:=Qac j N;cases ha:QaE (R (k - 1)) (T (k - 1)) (R k) (F k) with
      | false=>
       have I:=hid ha;clear ha;refine u.out _ _ ⟨q,(q.cell (p:=⟨w.heap.size,0,none⟩) V).trans g,(q.cell (p:=⟨b,_,none⟩) m).trans t,(q.cell (p:=⟨b,_,none⟩) m).trans o,(q.cell (p:=⟨b,_,none⟩) m).trans s,(q.cell (p:=⟨b,_,none⟩) m).trans Y,(q.cell (p:=⟨b,_,none⟩) m).trans Z,(q.cell (p:=⟨b,_,none⟩) m).trans G⟩ (fun qh=> ?_);clear u K;try simp only [zP]
       refine tZ 23 34 ?_;refine tZ 24 35 ?_;refine tZ 25 36 ?_;refine zD ?_;have y:=hid q;clear qh j z N q;go_wp2_with fail;go_ret;exact⟨QbD (Qcx Q (by have:=J.out;omega) I.out).symm,E.trans (y.mono (by omega))⟩
      | true=>
       have I:=hid ha;clear ha;refine u.out _ _ ⟨q,(q.cell (p:=⟨w.heap.size,0,none⟩) V).trans g,(q.cell (p:=⟨b,_,none⟩) m).trans t,(q.cell (p:=⟨b,_,none⟩) m).trans o,(q.cell (p:=⟨b,_,none⟩) m).trans s,(q.cell (p:=⟨b,_,none⟩) m).trans Y,(q.cell (p:=⟨b,_,none⟩) m).trans Z,(q.cell (p:=⟨b,_,none⟩) m).trans G⟩ (fun qh=> ?_);clear u K;try simp only [zP]
       refine tZ 23 34 ?_;refine tZ 24 35 ?_;refine tZ 25 36 ?_;refine zD ?_;have L:=hid qh.2.1;have y:=hid q;clear qh j z N q W e1 e2 e3;go_wp2_with fail;go_roundw;case rel=>exact⟨k+1,Q,by go_num,QcH X.out M.out (fun _=>I.out),L.out,E.trans (y.mono (by omega)),by have:=y.size;omega⟩
       case measure=>simp [intOf];omega
   ·obtain rfl:k=n:=by omega
    have E:=hid r;by_cases C:k<=1000
    ·have U:Hid (QcR R F T k=true):=Qao.2 ⟨A,C⟩;have hd:decide ((k:Int)<=1000)=true:=by simp;omega
     clear v r A;go_wp2_with fail;go_ret;exact⟨QbD U.symm,E.out⟩
    ·have U:Hid (QcR R F T k=false):=Qcn fun h=>C h.2;have hd:decide ((k:Int)<=1000)=false:=by simp;omega
     clear v r A;go_wp2_with fail;go_ret;exact⟨QbD U.symm,E.out⟩
theorem Qlu (a:Option Addr)(n c:Nat)(R F T:Nat ->Int)(w:World)(hn:n<=1048576)(h:Qb5 w a n R F T):
  Calls Tryz.prog 81 #[.agg #[.slice a n c]] w fun e w'=>e=.returned (.bool (QcR R F T n))/\ Below w.heap.size w w':=by
 by_cases hm:n<=1000;case neg=>
  have Y:Hid (QcR R F T n=false):=Qcn fun h=>hm h.2;go_enter Tryz.func81,Tryz.ntmps81;go_wp2_with fail;go_ret;exact⟨QbD Y.symm,zO _ _⟩
 rcases h with h|⟨b,off,rfl,M,z⟩
 ·subst h;have Y:Hid (QcR R F T 0=true):=Qao.2 ⟨fun i hi=>by omega,by omega⟩;go_enter Tryz.func81,Tryz.ntmps81;go_wp2_with fail;refine wp_loop_rounds 1 ?_;rw [rounds_succ];go_wp2_with fail;go_ret;exact⟨QbD Y.symm,zO _ _⟩
 ·go_enter Tryz.func81,Tryz.ntmps81;go_wp2_with fail;go_loopw [12] (fun i wr=>∃k:Nat,k<=n/\ i=.int .i64 k/\ Qeu R F T k/\ wr.cell? ⟨w.heap.size,0,none⟩=some (.slice (some ⟨b,off,none⟩) n c)/\ Below w.heap.size w wr/\ w.heap.size<wr.heap.size) (fun i _=>n - (intOf i).toNat);case atStart=>exact⟨0,Nat.zero_le _,rfl,fun i hi=>by omega,by simp,zO _ _,by simp⟩
  case round=>
   obtain⟨k,hk,rfl,Q,I,y,Hd⟩:=hrel;have He:=Nat.lt_of_lt_of_le M y.size;by_cases O:k<n
   ·have W:wr.cell? ⟨b,off+k*3,none⟩=some (.int .i64 (R k)):=(y.cell (p:=⟨b,_,none⟩) M).trans (z k O).1;have Ha:wr.cell? ⟨b,off+k*3+1,none⟩=some (.int .i64 (F k)):=(y.cell (p:=⟨b,_,none⟩) M).trans (z k O).2.1;have Hb:wr.cell? ⟨b,off+k*3+2,none⟩=some (.int .i64 (T k)):=(y.cell (p:=⟨b,_,none⟩) M).trans (z k O).2.2;have U:=hid y;have HO:=hid Q;obtain⟨q,v⟩:∃q,wr.alloc (.cells #[.int .i64 (R k),.int .i64 (F k),.int .i64 (T k)] 79)=q:=⟨_,rfl⟩;have r:wr.heap.size<q.heap.size:=by rw [<- v];simp
    have Z:w.heap.size<q.heap.size:=by omega
    have o:b<q.heap.size:=by omega
    have V:Below wr.heap.size wr q:=by rw [<- v];exact zO _ _
    have s:q.cell? ⟨w.heap.size,0,none⟩=some (.slice (some ⟨b,off,none⟩) n c):=(V.cell (p:=⟨w.heap.size,0,none⟩) Hd).trans I;have A:q.cell? ⟨wr.heap.size,0,none⟩=some (.int .i64 (R k)):=by rw [<- v];simp
    have r1:q.cell? ⟨wr.heap.size,1,none⟩=some (.int .i64 (F k)):=by rw [<- v];simp
    have r2:q.cell? ⟨wr.heap.size,2,none⟩=some (.int .i64 (T k)):=by rw [<- v];simp
    have G:=hid V;cases hr:QaL (R k) (F k) (T k) with
    | false=>
     have E:=hid hr;clear hr z y Q V;go_wp2_with fail;try rw [v]
     clear v I W Ha Hb;refine zR (S:=fun w'=>Below q.heap.size q w'/\ w'.cell? ⟨w.heap.size,0,none⟩=some (.slice (some ⟨b,off,none⟩) n c)/\ w'.cell? ⟨wr.heap.size,0,none⟩=some (.int .i64 (R k))/\ w'.cell? ⟨wr.heap.size,1,none⟩=some (.int .i64 (F k))/\ w'.cell? ⟨wr.heap.size,2,none⟩=some (.int .i64 (T k))) ⟨zI.drew,s,A,r1,r2⟩ (fun qh=> ?_);refine tZ 0 17 ?_;refine cZ 1 ?_;intro K u;go_simp;refine(QdO _ _ _ _).mono ?_;rintro e w2 ⟨rfl,t⟩;rw [E.out];have j:=Qac qh.1 t;refine u.out _ _ ⟨j,(j.cell (p:=⟨w.heap.size,0,none⟩) Z).trans s,(j.cell (p:=⟨wr.heap.size,0,none⟩) r).trans A,(j.cell (p:=⟨wr.heap.size,1,none⟩) r).trans r1,(j.cell (p:=⟨wr.heap.size,2,none⟩) r).trans r2⟩ (fun qh=> ?_);clear u K;try simp only [zP]
     refine tZ 2 19 ?_;refine tZ 3 20 ?_;refine uZ 4 21 ?_;refine uZ 5 22 ?_;refine uZ 6 23 ?_;refine uZ 7 24 ?_;refine uZ 8 25 ?_;refine uZ 9 26 ?_;refine uZ 10 27 ?_;refine uZ 11 28 ?_;refine uZ 12 29 ?_;refine uZ 13 30 ?_;refine uZ 14 31 ?_;refine uZ 15 32 ?_;refine uZ 16 33 ?_;refine tZ 17 34 ?_;refine zD ?_;have g:=hid j;clear qh j t;go_wp2_with fail;go_ret;exact⟨QbD (Qdq O E.out).symm,U.trans ((G.trans (g.mono (by omega))).mono (by omega))⟩
    | true=>
     have E:=hid hr;clear hr;by_cases X:k=0
     ·have hg:decide (0<k)=false:=by simp;omega
      have C:=hid X;clear z y Q X V;go_wp2_with fail;try rw [v]
      clear v I W Ha Hb;refine zR (S:=fun w'=>Below q.heap.size q w'/\ w'.cell? ⟨w.heap.size,0,none⟩=some (.slice (some ⟨b,off,none⟩) n c)/\ w'.cell? ⟨wr.heap.size,0,none⟩=some (.int .i64 (R k))/\ w'.cell? ⟨wr.heap.size,1,none⟩=some (.int .i64 (F k))/\ w'.cell? ⟨wr.heap.size,2,none⟩=some (.int .i64 (T k))) ⟨zI.drew,s,A,r1,r2⟩ (fun qh=> ?_);refine tZ 0 17 ?_;refine cZ 1 ?_;intro K u;go_simp;refine(QdO _ _ _ _).mono ?_;rintro e w2 ⟨rfl,t⟩;rw [E.out];have j:=Qac qh.1 t;refine u.out _ _ ⟨j,(j.cell (p:=⟨w.heap.size,0,none⟩) Z).trans s,(j.cell (p:=⟨wr.heap.size,0,none⟩) r).trans A,(j.cell (p:=⟨wr.heap.size,1,none⟩) r).trans r1,(j.cell (p:=⟨wr.heap.size,2,none⟩) r).trans r2⟩ (fun qh=> ?_);clear u K;try simp only [zP]
      refine tZ 2 19 ?_;refine tZ 3 20 ?_;refine tZ 4 21 ?_;refine tZ 5 22 ?_;refine tZ 6 23 ?_;refine uZ 7 24 ?_;refine uZ 8 25 ?_;refine uZ 9 26 ?_;refine uZ 10 27 ?_;refine uZ 11 28 ?_;refine uZ 12 29 ?_;refine uZ 13 30 ?_;refine uZ 14 31 ?_;refine uZ 15 32 ?_;refine tZ 16 33 ?_;refine tZ 17 34 ?_;refine zD ?_;have D:=hid qh.2.1;have g:=hid j;clear qh j t;go_wp2_with fail;go_roundw;case rel=>exact⟨k+1,O,by go_num,QcH HO.out E.out (fun h=>by have:=C.out;omega),D.out,U.trans ((G.trans (g.mono (by omega))).mono (by omega)),by have:=g.size;omega⟩
      case measure=>simp [intOf];omega
     ·have hg:decide (0<k)=true:=by simp;omega
      have H:=y.trans (V.mono (by omega));have J:=(H.cell (p:=⟨b,off+(k - 1)*3,none⟩) M).trans (z (k - 1) (by omega)).1;have L:=(H.cell (p:=⟨b,off+(k - 1)*3+1,none⟩) M).trans (z (k - 1) (by omega)).2.1;have N:=(H.cell (p:=⟨b,off+(k - 1)*3+2,none⟩) M).trans (z (k - 1) (by omega)).2.2;have e0:IntKind.i64.wrap ((k:Int) - 1)=(k:Int) - 1:=Qan _ (by omega) (by omega);have e1:((k:Int) - 1).toNat=k - 1:=by omega
      have e2:(1:Int)<=(k:Int):=by omega
      have e3:(k:Int) - 1<(n:Int):=by omega
      have Hc:=Qbg.1 (Q (k - 1) (by omega)).1;have HP:=hid Hc;have C:=hid X;clear z y Q X Hc V H;go_wp2_with fail;try rw [v]
      clear v I W Ha Hb;refine zR (S:=fun w'=>Below q.heap.size q w'/\ w'.cell? ⟨w.heap.size,0,none⟩=some (.slice (some ⟨b,off,none⟩) n c)/\ w'.cell? ⟨wr.heap.size,0,none⟩=some (.int .i64 (R k))/\ w'.cell? ⟨wr.heap.size,1,none⟩=some (.int .i64 (F k))/\ w'.cell? ⟨wr.heap.size,2,none⟩=some (.int .i64 (T k))/\ w'.cell? ⟨b,off+(k - 1)*3,none⟩=some (.int .i64 (R (k - 1)))/\ w'.cell? ⟨b,off+(k - 1)*3+1,none⟩=some (.int .i64 (F (k - 1)))/\ w'.cell? ⟨b,off+(k - 1)*3+2,none⟩=some (.int .i64 (T (k - 1)))) ⟨zI.drew,s,A,r1,r2,J,L,N⟩ (fun qh=> ?_);refine tZ 0 17 ?_;refine cZ 1 ?_;intro K u;go_simp;refine(QdO _ _ _ _).mono ?_;rintro e w2 ⟨rfl,t⟩;rw [E.out];have j:=Qac qh.1 t;refine u.out _ _ ⟨j,(j.cell (p:=⟨w.heap.size,0,none⟩) Z).trans s,(j.cell (p:=⟨wr.heap.size,0,none⟩) r).trans A,(j.cell (p:=⟨wr.heap.size,1,none⟩) r).trans r1,(j.cell (p:=⟨wr.heap.size,2,none⟩) r).trans r2,(j.cell (p:=⟨b,_,none⟩) o).trans J,(j.cell (p:=⟨b,_,none⟩) o).trans L,(j.cell (p:=⟨b,_,none⟩) o).trans N⟩ (fun qh=> ?_);clear u K;try simp only [zP]
      refine tZ 2 19 ?_;refine tZ 3 20 ?_;refine tZ 4 21 ?_;refine tZ 5 22 ?_;refine tZ 6 23 ?_;refine tZ 7 24 ?_;refine tZ 8 25 ?_;refine tZ 9 26 ?_;refine tZ 10 27 ?_;refine tZ 11 28 ?_;refine tZ 12 29 ?_;refine tZ 13 30 ?_;refine cZ 14 ?_;intro K u;go_simp;refine(Qg2 (R (k - 1)) (F (k - 1)) (T (k - 1)) (R k) (F k) (T k) _ (by have:=HP.out;omega) (by have:=HP.out;omega)).mono ?_;rintro e w3 ⟨rfl,P⟩;have m:=Qac j P;cases ha:QaE (R (k - 1)) (T (k - 1)) (R k) (F k) with
      | false=>
       have B:=hid ha;clear ha;refine u.out _ _ ⟨m,(m.cell (p:=⟨w.heap.size,0,none⟩) Z).trans s,(m.cell (p:=⟨wr.heap.size,0,none⟩) r).trans A,(m.cell (p:=⟨wr.heap.size,1,none⟩) r).trans r1,(m.cell (p:=⟨wr.heap.size,2,none⟩) r).trans r2,(m.cell (p:=⟨b,_,none⟩) o).trans J,(m.cell (p:=⟨b,_,none⟩) o).trans L,(m.cell (p:=⟨b,_,none⟩) o).trans N⟩ (fun qh=> ?_);clear u K;try simp only [zP]
       refine tZ 15 32 ?_;refine tZ 16 33 ?_;refine tZ 17 34 ?_;refine zD ?_;have g:=hid m;clear qh j t P m;go_wp2_with fail;go_ret;exact⟨QbD (Qcx O (by have:=C.out;omega) B.out).symm,U.trans ((G.trans (g.mono (by omega))).mono (by omega))⟩
      | true=>
       have B:=hid ha;clear ha;refine u.out _ _ ⟨m,(m.cell (p:=⟨w.heap.size,0,none⟩) Z).trans s,(m.cell (p:=⟨wr.heap.size,0,none⟩) r).trans A,(m.cell (p:=⟨wr.heap.size,1,none⟩) r).trans r1,(m.cell (p:=⟨wr.heap.size,2,none⟩) r).trans r2,(m.cell (p:=⟨b,_,none⟩) o).trans J,(m.cell (p:=⟨b,_,none⟩) o).trans L,(m.cell (p:=⟨b,_,none⟩) o).trans N⟩ (fun qh=> ?_);clear u K;try simp only [zP]
       refine tZ 15 32 ?_;refine tZ 16 33 ?_;refine tZ 17 34 ?_;refine zD ?_;have D:=hid qh.2.1;have g:=hid m;clear qh j t P m e0 e1 e2 e3;go_wp2_with fail;go_roundw;case rel=>exact⟨k+1,O,by go_num,QcH HO.out E.out (fun _=>B.out),D.out,U.trans ((G.trans (g.mono (by omega))).mono (by omega)),by have:=g.size;omega⟩
       case measure=>simp [intOf];omega
   ·obtain rfl:k=n:=by omega
    have U:=hid y;have Y:Hid (QcR R F T k=true):=Qao.2 ⟨Q,hm⟩;clear z y Q;go_wp2_with fail;go_ret;exact⟨QbD Y.symm,U.out⟩
open Go.Maps
def Qii (v:Value):Option (DataW Value×List MemPlace):=match v with
 | .slice a n c=>some (.held (.slice a n c),[])
 | _=>none
theorem QhC {v:Value}{d:DataW Value}{ps:List MemPlace}(h:Qii v=some (d,ps)):d=.held v/\∃a n c,v=.slice a n c:=by
 unfold Qii at h;split at h
 ·simp at h;exact⟨h.1.symm,_,_,_,rfl⟩
 ·cases h
theorem QhD {w:World}{B:Nat}{e:TypeId}{size:Nat}{v:Value}{n:Nat}{xs:List Value}(h:w.ownsRow B e size v n xs):Qii v=some (.held v,[]):=by
 rcases h.2 with ⟨rfl,_⟩|⟨g,cap,j,rfl,_⟩<;>rfl
def kI (r:Int):Lit:=.int .i64 r
def upd {α:Type}(G:Int ->α)(r:Int)(v:α)(x:Int):α:=if x=r then v else G x
theorem Qay {α:Type}(G:Int ->α)(r:Int)(v:α):upd G r v r=v:=if_pos rfl
theorem Qap {α:Type}(G:Int ->α){r x:Int}(v:α)(h:x≠r):upd G r v x=G x:=if_neg h
theorem Qkw {r x:Int}(h:x≠r):kI x≠kI r:=fun e=>h (by unfold kI at e;injection e)
def Qaw (l:List (Int×Int)):List Value:=l.flatMap fun p=>[.int .i64 p.1,.int .i64 p.2]
theorem QbU (l:List (Int×Int))(p:Int×Int):Qaw (l++[p])=Qaw l++[.int .i64 p.1,.int .i64 p.2]:=by simp [Qaw]
structure QaY (w:World)(bm n:Nat)(D:DataW Value)(G:Int ->Value)(L:Int ->List (Int×Int)):Prop where
 own:w.ownsMap Tryz.prog 3 Qii bm n D
 at':∀r,D.atKey (kI r) (.held (.slice none 0 0))=.held (G r)
 has':∀r,Maps.has D (kI r)= !(L r).isEmpty
 rows:∀r,w.ownsRow (bm+1) 157 2 (G r) (L r).length (Qaw (L r))
 apart:∀r r' g,(G r).ownBlock=some g ->(G r').ownBlock=some g ->r=r'
theorem QaY.below {w w1:World}{bm n:Nat}{D:DataW Value}{G:Int ->Value}{L:Int ->List (Int×Int)}(h:QaY w bm n D G L)(hb:Below w.heap.size w w1):QaY w1 bm n D G L:=
 ⟨h.own.kept ⟨hb.os,hb.tape,hb.output,hb.size,fun k hk _=>hb.block k hk⟩ (by simp:some bm≠none),h.at',h.has',fun r=>QeD (h.rows r) hb (fun k hk=>((h.rows r).lt k hk).2),h.apart⟩
theorem QaY.step {w w1 w2 w3:World}{bm n:Nat}{D:DataW Value}{G:Int ->Value}{L:Int ->List (Int×Int)}{v':Value}{r f t:Int}(h:QaY w bm n D G L)
  (hb:Below w.heap.size w w1) (hown:w2.ownsRow (bm+1) 157 2 v' ((L r).length+1) (Qaw (L r)++[.int .i64 f,.int .i64 t]))
  (hgr:w1.grownBy w2 (G r).ownBlock) (hloc:v'.ownBlock=(G r).ownBlock \/v'.ownBlock=some w1.heap.size)
  (hD:w3.ownsMap Tryz.prog 3 Qii bm (n+1) (D.put (kI r) (.held v'))) (hgr3:w2.grownBy w3 (some bm)):
  QaY w3 bm (n+1) (D.put (kI r) (.held v')) (upd G r v') (upd L r (L r++[(f,t)])):=by
 have M:=h.below hb;have A:∀(w:World) (v:Value) (m:Nat) (E:List Value),w.ownsRow (bm+1) 157 2 v m E ->v.ownBlock=none \/v.ownBlock≠some bm:=by
  intro w v m E Q;cases e:v.ownBlock with
  | none=>exact .inl rfl
  | some g=>exact .inr (fun e2=>by have:=(Q.lt g e).1;injection e2 with e2;omega)
 refine⟨hD,fun x=> ?_,fun x=> ?_,fun x=> ?_,?_⟩
 ·by_cases e:x=r
  ·subst e;rw [Qay,atKey_put_same h.own.isMap (show WideAt.IsKeyLit (kI x) from trivial)]
  ·rw [Qap G v' e,atKey_put_other (Qkw e)];exact h.at' x
 ·by_cases e:x=r
  ·subst e;rw [Qay,has_put_same h.own.isMap (show WideAt.IsKeyLit (kI x) from trivial)];simp
  ·rw [Qap L _ e,has_put_other (Qkw e)];exact h.has' x
 ·by_cases e:x=r
  ·subst e;rw [Qay,Qay,QbU,List.length_append];exact hown.kept hgr3 (A _ _ _ _ hown)
  ·rw [Qap G v' e,Qap L _ e];have j:=M.rows x;have O:(G x).ownBlock=none \/(G x).ownBlock≠(G r).ownBlock:=by
    cases e1:(G x).ownBlock with
    | none=>exact .inl rfl
    | some g=>exact .inr (fun e2=>e (h.apart x r g e1 e2.symm))
   have p:=j.kept hgr O;exact p.kept hgr3 (A _ _ _ _ p)
 ·intro x y g j q;have s:∀z,z≠r ->∀g,(G z).ownBlock=some g ->v'.ownBlock=some g ->False:=by
   intro z U g b u;rcases hloc with i|i
   ·exact U (h.apart z r g b (i ▸ u))
   ·rw [i] at u;have V:=((h.rows z).lt g b).2;have Y:=hb.size;injection u with u;omega
  by_cases o:x=r
  ·subst o;rw [Qay] at j;by_cases k:y=x
   ·exact k.symm
   ·rw [Qap G v' k] at q;exact(s y k g q j).elim
  ·rw [Qap G v' o] at j;by_cases k:y=r
   ·subst k;rw [Qay] at q;exact(s x o g j q).elim
   ·rw [Qap G v' k] at q;exact h.apart x y g j q
def Lk (R F T:Nat ->Int):Nat ->Int ->List (Int×Int)
 | 0=>fun _=>[]
 | k+1=>upd (Lk R F T k) (R k) (Lk R F T k (R k)++[(F k,T k)])
theorem Qdl (R F T:Nat ->Int)(k:Nat):∀r,(Lk R F T k r).length<=k:=by
 induction k with
 | zero=>intro r;simp [Lk]
 | succ k ih=>
  intro r;by_cases e:r=R k
  ·subst e;simp only [Lk];rw [Qay];have:=ih (R k);simp;omega
  ·simp only [Lk];rw [Qap _ _ e];have:=ih r;omega
theorem Qgl (w:World):(zeroValue 121).run Tryz.prog w=.ok (.slice none 0 0) w:=by kernel_rfl
theorem wfI {r:Int}(h0: -9223372036854775808<=r)(h1:r<=9223372036854775807):(Lit.int .i64 r).wf=true:=by
 have j:IntKind.i64.min= -9223372036854775808:=by decide
 have k:IntKind.i64.max=9223372036854775807:=by decide
 simp only [Lit.wf,j,k,Bool.and_eq_true,decide_eq_true_iff];exact⟨h0,h1⟩
theorem QaY.look {w:World}{bm n:Nat}{D:DataW Value}{G:Int ->Value}{L:Int ->List (Int×Int)}(h:QaY w bm n D G L)(r:Int)(hr:(Lit.int .i64 r).wf=true):
  (Instr.lookup 55 (.map (some bm)) (.int .i64 r) false).run Tryz.prog w=.ok (G r) w:=by
 obtain⟨v,ps,k,m⟩:=h.own.lookup (int_keyed Tryz.underlying3) Tryz.underlying55 (Qgl w) (zd:=.held (.slice none 0 0)) (zp:=[]) rfl (keyOf_int_mk Tryz.underlying3 hr);have:=h.at' r;obtain⟨j,_⟩:=QhC m;unfold kI at this;rw [this] at j;have e:v=G r:=by injection j with j;exact j.symm
 rw [k,e]
theorem Tryz.infoSpan:(Tryz.prog.info? 157).map (fun i=>(i.zero,i.size,i.bytes))=some (some (.agg #[.int .i64 0,.int .i64 0]),2,16):=by kernel_rfl
theorem QnY {P:Program}{ops:Array Oper}{Q:Exit ->Act ->World ->Prop}{md:Region.Mode}{S:World ->Prop}{i j:Nat}{d d':Option Tmp}{fuel:Nat}{listed:Array Bool}{a:Act}{w:World}
  (hd:ops[i]?.map (fun o=>o.dst)=some d) (hd':ops[j]?.map (fun o=>o.dst)=some d') (hr:Region.ready md ops listed=[i,j])
  (h:∀o,ops[i]? =some o ->o.dst=d ->∀K':Act ->World ->Prop,Shut (∀a w,S w ->(S w ->wpAnyH P md ops Q S fuel (listed.setIfInBounds i true) a w) ->K' a w) ->if Region.wanted o (yielded ops a.tmps)=true then Oper.wp P o a w K' Q else K' (a.put o.dst undef) w)
  (h':∀o,ops[j]? =some o ->o.dst=d' ->∀K':Act ->World ->Prop,Shut (∀a w,S w ->(S w ->wpAnyH P md ops Q S fuel (listed.setIfInBounds j true) a w) ->K' a w) ->if Region.wanted o (yielded ops a.tmps)=true then Oper.wp P o a w K' Q else K' (a.put o.dst undef) w):
  wpAnyH P md ops Q S (fuel+1) listed a w:=by
 obtain⟨o,k,q⟩:=Option.map_eq_some_iff.1 hd;obtain⟨u,m,r⟩:=Option.map_eq_some_iff.1 hd';exact wpAnyH_ready hr (by simp) (AllReadyH.cons k (h o k q) (AllReadyH.cons m (h' u m r) AllReadyH.nil))
theorem QaN {P:Program}{o:Oper}{a:Act}{w:World}{K:Act ->World ->Prop}{Q:Exit ->Act ->World ->Prop}(s x:Operand)(t:TypeId)
  (ho:o.op=.call {callee:=.builtin .append,args:=#[s,x],argTypes:=#[t,t]})
  (base:Nat) (e:TypeId) (i:TypeInfo) (z:Value) (size bytes:Nat) (ht:P.underlying t=some (.slice e)) (hi:P.info? e=some i) (hz:i.zero=some z)
  (hsize:i.size=size) (hby:i.bytes=bytes) (hzs:z.cells.size=size) (hsz:0<size)
  (v:Value) (n:Nat) (xs:List Value) (hs:a.eval s=v) (hown:w.ownsRow base e size v n xs)
  (ad:Addr) (m c:Nat) (news:List Value) (hx:a.eval x=.slice (some ad) m c) (hl:news.length=m*size) (hnews:∀j u,news[j]? =some u ->w.cell? (ad.add j)=some u) (h1:∀u∈news,u.oneCell'=true)
  (h63:n+m<=maxLen) (hbytes:(n+m)*bytes<=140737488355328) (hbase:base<=w.heap.size)
  (h:∀v' w',w'.ownsRow base e size v' (n+m) (xs++news) ->w.grownBy w' v.ownBlock ->(v'.ownBlock=v.ownBlock \/v'.ownBlock=some w.heap.size) ->K (a.put o.dst v') w'):o.wp P a w K Q:=by
 obtain⟨v',w',y,k,q,g,r⟩:=run_append_own_at (P:=P) w base t o.type e i z size bytes ht hi hz hsize hby hzs hsz v n xs hown ad m c news hl hnews h1 h63 hbytes hbase;unfold Oper.wp execOp;simp only [ho,resolve,invoke,builtin,Sem.run_bind,Sem.run_pure,Result.andThen_ok,List.map_toArray,List.map_cons,List.map_nil,hs,hx,y];exact h v' w' k q r
theorem QeL {H:Type}{P:Program}(w:World){o:Oper}{a:Act}{K:Act ->World ->Prop}{Q:Exit ->Act ->World ->Prop}
  (m x v:Operand) (t:TypeId) (hop:o.op=Op.mapUpdate t m x v)
  (k e:TypeId) (Kd:Keyed P k) (ht:P.underlying t=some (.map k e)) (R:Value ->Option (DataW H×List MemPlace)) (b n:Nat) (D:DataW H)
  (hm:a.eval m=.map (some b)) (hown:w.ownsMap P k R b n D) (hn:n<maxLen) (key val:Value) (kl:Lit) (hx:a.eval x=key) (hv:a.eval v=val) (hkey:keyOf P k key=some kl)
  (d:DataW H) (ps:List MemPlace) (hval:R val=some (d,ps))
  (hK:∀w',w'.ownsMap P k R b (n+1) (D.put kl d) ->w.grownBy w' (some b) ->K (a.put o.dst undef) w'):o.wp P a w K Q:=by
 obtain⟨w',j,r1,r2⟩:=hown.update Kd ht hn hkey hval;unfold Oper.wp;simp [execOp,hop,hm,hx,hv,j,Result.andThen];exact hK _ r1 r2
theorem Qff (w:World):QaY (w.alloc (.map #[] 0)) w.heap.size 0 (.map []) (fun _=> .slice none 0 0) (fun _=>[]):=
 ⟨World.ownsMap_made w _ _ _,fun r=>rfl,fun r=>rfl,fun r=>World.ownsRow_nil _ _ _ _,fun r r' g h _=>by cases h⟩
theorem Qkx {w w':World}{row:Option Nat}{B:Nat}{x y z:Value}(hg:w.grownBy w' row)(h0:w.cell? ⟨B,0,none⟩=some x)(h1:w.cell? ⟨B,1,none⟩=some y)(h2:w.cell? ⟨B,2,none⟩=some z)(hne:some B≠row):
  w'.cell? ⟨B,0,none⟩=some x/\ w'.cell? ⟨B,1,none⟩=some y/\ w'.cell? ⟨B,2,none⟩=some z:=⟨hg.cell h0 hne,hg.cell h1 hne,hg.cell h2 hne⟩
theorem QnT (a:Option Addr)(n c:Nat)(R F T:Nat ->Int)(w:World)(hn:n<=1048576)(h:Qb5 w a n R F T)(hok:QcR R F T n=true):
  Calls Tryz.prog 49 #[.agg #[.slice a n c]] w fun e w'=>∃bm D G,e=.returned (.tuple #[.map (some bm),.bool true])/\ QaY w' bm n D G (Lk R F T n)/\ w.heap.size<=bm/\ Below w.heap.size w w':=by
 have H0:=@run_makeMap Tryz.prog;have Hf:=(Qao.1 hok);obtain⟨i0,hi,Hq,Hr,Hs⟩:=info_parts Tryz.infoSpan;have B0:Below w.heap.size w (w.alloc (.cells #[.slice a n c] 27)):=zO _ _;have Hl:=hid Hf;clear Hf;go_enter Tryz.func49,Tryz.ntmps49;go_wp2_with fail;refine(Qlu a n c R F T _ hn (h.below B0)).mono ?_;rintro e w1 ⟨rfl,P⟩;rw [hok];have Ht:w1.cell? ⟨w.heap.size,0,none⟩=some (.slice a n c):=by rw [(Qcs P).1 _ _ (by simp)];simp
 have N:=Qac B0 P;have z1:w.heap.size<w1.heap.size:=by have:=P.size;simp at this;omega
 clear P B0 hok;rcases h with h|⟨b,off,rfl,hb,Z⟩
 ·subst h;have Hh:=hid N;clear N;go_wp2_with fail;refine wp_loop_rounds 1 ?_;rw [rounds_succ];go_wp2_with fail;go_ret2;exact⟨w1.heap.size,_,_,rfl,Qff w1,by omega,(Hh.alloc (by omega) _)⟩
 have Hh:=hid N;clear N;go_wp2_with fail;go_loopw [14] (fun i wr=>∃(k:Nat) (D:DataW Value) (G:Int ->Value),k<=n/\ i=.int .i64 k/\ QaY wr w1.heap.size k D G (Lk R F T k)/\ Below w.heap.size w wr/\ w1.heap.size<wr.heap.size) (fun i _=>n - (intOf i).toNat);case atStart=>exact⟨0,_,_,Nat.zero_le _,rfl,Qff w1,Hh.alloc (by omega) _,by simp⟩
 case round=>
  obtain⟨k,D,G,g,rfl,s,M,H1⟩:=hrel;by_cases Q:k<n
  ·have Hu:wr.cell? ⟨b,off+k*3,none⟩=some (.int .i64 (R k)):=(M.cell (p:=⟨b,_,none⟩) hb).trans (Z k Q).1;have Hj:wr.cell? ⟨b,off+k*3+1,none⟩=some (.int .i64 (F k)):=(M.cell (p:=⟨b,_,none⟩) hb).trans (Z k Q).2.1;have Hk:wr.cell? ⟨b,off+k*3+2,none⟩=some (.int .i64 (T k)):=(M.cell (p:=⟨b,_,none⟩) hb).trans (Z k Q).2.2;have Hw:=Qbg.1 ((Hl.1 k Q).1);have Hg:(Lit.int .i64 (R k)).wf=true:=wfI (by omega) (by omega);have Hz:=Hl.2;have hL:=Qdl R F T k (R k);obtain⟨y,E⟩:∃y,wr.alloc (.cells #[.int .i64 (R k),.int .i64 (F k),.int .i64 (T k)] 79)=y:=⟨_,rfl⟩;have zW:y.heap.size=wr.heap.size+1:=by rw [<- E];simp
   have bW:Below wr.heap.size wr y:=by rw [<- E];exact zO _ _
   have r0:y.cell? ⟨wr.heap.size,0,none⟩=some (.int .i64 (R k)):=by rw [<- E];simp
   have r1:y.cell? ⟨wr.heap.size,1,none⟩=some (.int .i64 (F k)):=by rw [<- E];simp
   have r2:y.cell? ⟨wr.heap.size,2,none⟩=some (.int .i64 (T k)):=by rw [<- E];simp
   have He:some w1.heap.size≠(G (R k)).ownBlock:=fun e=>by have:=((s.rows (R k)).lt _ e.symm).1;omega
   have Hp:some wr.heap.size≠(G (R k)).ownBlock:=fun e=>by have:=((s.rows (R k)).lt _ e.symm).2;omega
   have g1:=s.below (bW.drew);have Hx:=g1.look (R k) Hg;obtain⟨A,Y⟩:∃A,y.alloc (.cells #[.int .i64 (F k),.int .i64 (T k)] 157)=A:=⟨_,rfl⟩;have V:Below y.heap.size y A:=by rw [<- Y];exact zO _ _
   have Hd:A.drew.heap.size=wr.heap.size+2:=by show A.heap.size=_;rw [<- Y];simp;omega
   have b2:Below wr.heap.size wr A.drew:=(bW.trans (V.mono (by omega))).drew;have W:=s.below b2;have Hy:=W.look (R k) Hg;have Hc:Hid (∀j u,[Value.int .i64 (F k),.int .i64 (T k)][j]? =some u ->A.drew.cell? ((⟨wr.heap.size+1,0,none⟩:Addr).add j)=some u):=by rw [<- Y,<- zW];exact cell_two_new _ _ _ _
   have C:=hid (W.rows (R k));have Hb:=hid W.own;have Ha:=hid s;have B:=hid b2;have X:=hid M;have Hm:=(V.cell (p:=⟨wr.heap.size,0,none⟩) (show wr.heap.size<y.heap.size by omega)).trans r0;have Hn:=(V.cell (p:=⟨wr.heap.size,1,none⟩) (show wr.heap.size<y.heap.size by omega)).trans r1;have Ho:=(V.cell (p:=⟨wr.heap.size,2,none⟩) (show wr.heap.size<y.heap.size by omega)).trans r2;clear s M g1 W b2 bW V Hw Z;go_wp2_with fail;try rw [E]
   clear Hu Hj Hk E;refine zR (S:=fun w'=>w'.cell? ⟨wr.heap.size,0,none⟩=some (.int .i64 (R k))/\ w'.cell? ⟨wr.heap.size,1,none⟩=some (.int .i64 (F k))/\ w'.cell? ⟨wr.heap.size,2,none⟩=some (.int .i64 (T k))) ⟨r0,r1,r2⟩ (fun qh=> ?_);refine tZ 0 18 ?_;refine tZ 1 19 ?_;refine tZ 2 20 ?_;refine tZ 3 21 ?_;refine tZ 4 22 ?_;refine tZ 5 23 ?_;refine tZ 7 25 ?_;refine tZ 8 26 ?_;refine tZ 9 27 ?_;refine tZ 10 28 ?_;refine tZ 11 29 ?_;refine QnY (i:=6) (j:=12) (d:=some 24) (d':=some 30) (by kernel_rfl) (by kernel_rfl) (by kernel_rfl) ?_ ?_
   ·intro o I Hv K m;simp only [gZa,gZb,gZc,gZd] at I;subst I;go_simp;refine m.out _ _ ⟨r0,r1,r2⟩ (fun qh=> ?_);clear m K;try simp only [zP]
    refine cZ 12 ?_;intro K m;go_simp;try rw [Y]
    have q:=And.intro Hm (And.intro Hn Ho);refine m.out _ _ ⟨q.1,q.2.1,q.2.2⟩ (fun qh=> ?_);clear m K;try simp only [zP]
    refine cZ 13 ?_;intro K m;rw [if_pos (by rfl)];refine QaN _ _ _ (by rfl) (w1.heap.size+1) 157 i0 _ 2 16 Tryz.underlying121 hi Hq Hr Hs rfl (by decide) (G (R k)) (Lk R F T k (R k)).length _ (by rfl) C.out ⟨wr.heap.size+1,0,none⟩ 1 1 [.int .i64 (F k),.int .i64 (T k)] (by rfl) (by rfl) Hc.out (by intro u L;simp at L;rcases L with rfl|rfl<;>rfl) (by unfold maxLen;omega) (by omega) (by rw [Hd];omega) ?_;intro v' w3 O v H;have r:=Qkx v q.1 q.2.1 q.2.2 Hp;refine m.out _ _ ⟨r.1,r.2.1,r.2.2⟩ (fun qh=> ?_);clear m K;try simp only [zP]
    refine cZ 14 ?_;intro K m;rw [if_pos (by rfl)];refine QeL _ _ _ _ _ (by rfl) 3 121 (int_keyed Tryz.underlying3) Tryz.underlying55 Qii w1.heap.size k D (by rfl) (Hb.kept v He) (by unfold maxLen;omega) (.int .i64 (R k)) v' (kI (R k)) (by rfl) (by rfl) (keyOf_int_mk Tryz.underlying3 Hg) (.held v') [] (QhD O) ?_;intro w4 J z;have t:=Qkx z r.1 r.2.1 r.2.2 (by simp;omega);refine m.out _ _ ⟨t.1,t.2.1,t.2.2⟩ (fun qh=> ?_);clear m K;try simp only [zP]
    refine zD ?_;have U:=hid (Ha.step (v':=v') B.out O v H J z);have HZ:=hid (Nat.le_trans v.size z.size);have Hi:=hid (((X.trans (B.mono (by omega))).grown v (by omega) (fun k g=>by have:=(C.lt k g).1;omega)).grown z (by have:=v.size;omega) (fun k g=>by injection g with g;omega));clear qh q r t O v H J z;go_wp2_with fail;go_roundw;case rel=>exact⟨k+1,_,_,Q,by go_num,U.out,Hi.out,by have:=HZ.out;omega⟩
    case measure=>simp [intOf];omega
   ·intro o I Hv K m;simp only [gZa,gZb,gZc,gZd] at I;subst I;go_simp;try rw [Y]
    have q:=And.intro Hm (And.intro Hn Ho);refine m.out _ _ ⟨q.1,q.2.1,q.2.2⟩ (fun qh=> ?_);clear m K;try simp only [zP]
    refine cZ 6 ?_;intro K m;go_simp;refine m.out _ _ ⟨q.1,q.2.1,q.2.2⟩ (fun qh=> ?_);clear m K;try simp only [zP]
    refine cZ 13 ?_;intro K m;rw [if_pos (by rfl)];refine QaN _ _ _ (by rfl) (w1.heap.size+1) 157 i0 _ 2 16 Tryz.underlying121 hi Hq Hr Hs rfl (by decide) (G (R k)) (Lk R F T k (R k)).length _ (by rfl) C.out ⟨wr.heap.size+1,0,none⟩ 1 1 [.int .i64 (F k),.int .i64 (T k)] (by rfl) (by rfl) Hc.out (by intro u L;simp at L;rcases L with rfl|rfl<;>rfl) (by unfold maxLen;omega) (by omega) (by rw [Hd];omega) ?_;intro v' w3 O v H;have r:=Qkx v q.1 q.2.1 q.2.2 Hp;refine m.out _ _ ⟨r.1,r.2.1,r.2.2⟩ (fun qh=> ?_);clear m K;try simp only [zP]
    refine cZ 14 ?_;intro K m;rw [if_pos (by rfl)];refine QeL _ _ _ _ _ (by rfl) 3 121 (int_keyed Tryz.underlying3) Tryz.underlying55 Qii w1.heap.size k D (by rfl) (Hb.kept v He) (by unfold maxLen;omega) (.int .i64 (R k)) v' (kI (R k)) (by rfl) (by rfl) (keyOf_int_mk Tryz.underlying3 Hg) (.held v') [] (QhD O) ?_;intro w4 J z;have t:=Qkx z r.1 r.2.1 r.2.2 (by simp;omega);refine m.out _ _ ⟨t.1,t.2.1,t.2.2⟩ (fun qh=> ?_);clear m K;try simp only [zP]
    refine zD ?_;have U:=hid (Ha.step (v':=v') B.out O v H J z);have HZ:=hid (Nat.le_trans v.size z.size);have Hi:=hid (((X.trans (B.mono (by omega))).grown v (by omega) (fun k g=>by have:=(C.lt k g).1;omega)).grown z (by have:=v.size;omega) (fun k g=>by injection g with g;omega));clear qh q r t O v H J z;go_wp2_with fail;go_roundw;case rel=>exact⟨k+1,_,_,Q,by go_num,U.out,Hi.out,by have:=HZ.out;omega⟩
    case measure=>simp [intOf];omega
  ·obtain rfl:k=n:=by omega
   have U:=hid s;have X:=hid M;clear s M Z;go_wp2_with fail;go_ret2;exact⟨w1.heap.size,D,G,rfl,U.out,by omega,X.out⟩
theorem Qai {P:Program}{w:World}{ops:Array Oper}{rest:List Oper}{o:Oper}{a:Act}{Q:Exit ->Act ->World ->Prop}(hgd:o.guard=none)(s x:Operand)(t:TypeId)
  (ho:o.op=.call {callee:=.builtin .append,args:=#[s,x],argTypes:=#[t,t]})
  (base:Nat) (e:TypeId) (i:TypeInfo) (z:Value) (size bytes:Nat) (ht:P.underlying t=some (.slice e)) (hi:P.info? e=some i) (hz:i.zero=some z)
  (hsize:i.size=size) (hby:i.bytes=bytes) (hzs:z.cells.size=size) (hsz:0<size)
  (v:Value) (n:Nat) (xs:List Value) (hs:a.eval s=v) (hown:w.ownsRow base e size v n xs)
  (ad:Addr) (m c:Nat) (news:List Value) (hx:a.eval x=.slice (some ad) m c) (hl:news.length=m*size) (hnews:∀j u,news[j]? =some u ->w.cell? (ad.add j)=some u) (h1:∀u∈news,u.oneCell'=true)
  (h63:n+m<=maxLen) (hbytes:(n+m)*bytes<=140737488355328) (hbase:base<=w.heap.size)
  (h:∀v' w',w'.ownsRow base e size v' (n+m) (xs++news) ->w.grownBy w' v.ownBlock ->(v'.ownBlock=v.ownBlock \/v'.ownBlock=some w.heap.size) ->wpList P ops Q rest (a.put o.dst v') w'):wpList P ops Q (o::rest) a w:=
 wpList_plain hgd fun _ hK=>QaN s x t ho base e i z size bytes ht hi hz hsize hby hzs hsz v n xs hs hown ad m c news hx hl hnews h1 h63 hbytes hbase fun v' w' h2 h3 h4=>hK _ _ (h v' w' h2 h3 h4)
structure Gr (w w':World)(b0 b:Value):Prop where
 g:w.grownBy w' b0.ownBlock
 l:b.ownBlock=b0.ownBlock \/∃k,b.ownBlock=some k/\ w.heap.size<=k
theorem Gr.refl (w:World)(b:Value):Gr w w b b:=⟨⟨rfl,rfl,rfl,Nat.le_refl _,fun _ _ _=>rfl⟩,.inl rfl⟩
theorem Gr.trans {w w1 w2:World}{b0 b1 b2:Value}(h1:Gr w w1 b0 b1)(h2:Gr w1 w2 b1 b2):Gr w w2 b0 b2:=by
 refine⟨h1.g.andThen h2.g (fun j hj=> ?_),?_⟩
 ·rcases h1.l with e|⟨k,e,m⟩
  ·exact .inr (e ▸ hj)
  ·rw [e] at hj;injection hj with hj;exact .inl (by omega)
 ·rcases h2.l with e|⟨k,e,m⟩
  ·rw [e];exact h1.l
  ·exact .inr ⟨k,e,Nat.le_trans h1.g.size m⟩
theorem Gr.alloc {w w1:World}{b0 b:Value}(h:Gr w w1 b0 b)(o:Obj):Gr w (w1.alloc o) b0 b:=
 h.trans ⟨World.grownBy_alloc w1 o _,.inl rfl⟩
theorem Gr.app {w w1:World}{b b':Value}(h:w.grownBy w1 b.ownBlock)(hl:b'.ownBlock=b.ownBlock \/b'.ownBlock=some w.heap.size):Gr w w1 b b':=
 ⟨h,hl.imp id (fun e=>⟨_,e,Nat.le_refl _⟩)⟩
theorem Gr.below {w w1:World}{b b':Value}{B:Nat}(h:Gr w w1 b b')(hB:B<=w.heap.size)(hb:∀k,b.ownBlock=some k ->B<=k):Below B w w1:=
 (Below.refl B w).grown h.g hB hb
theorem Gr.of_below {w w1:World}{b:Value}(h:Below w.heap.size w w1):Gr w w1 b b:=
 ⟨⟨h.os,h.tape,h.output,h.size,fun k hk _=>h.block k hk⟩,.inl rfl⟩
end Go.Proofs.YtjdcfkmhmnblbaaGreatDoor
