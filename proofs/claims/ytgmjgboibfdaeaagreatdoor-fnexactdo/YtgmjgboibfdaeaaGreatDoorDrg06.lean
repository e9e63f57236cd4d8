import Derived.Test.YtgmjgboibfdaeaaGreatDoorDrg05
import Derived.Laws.BitsAllLaws
import Derived.Lib.AppendStr
import Derived.Laws.IdiomStrings
import Derived.Laws.BytesArg
import Derived.Laws.Concat
set_option linter.unusedVariables false
set_option linter.unusedSimpArgs false
set_option maxRecDepth 100000
set_option maxHeartbeats 40000000
namespace Go.Proofs.YtgmjgboibfdaeaaGreatDoor
open Go.ChangeShapes Go.WideShapes Go.ChangeAt Go.RowKit
variable {B C b e g hi i j k lo m n off:Nat}{b' b0 u v:Value}{l:List Lf}{p:List ByteArray}{s:ByteArray}{t:TypeId}{w w' w1:World}{x:Lf}{y:Ky}{zs:List Int}
def uvF:Nat ->Nat ->List Int
 | 0,v=>[(v:Int)]
 | k+1,v=>if v<128 then [(v:Int)] else((128+v%128:Nat):Int)::uvF k (v/128)
def Own (w:World)(B:Nat)(v:Value)(zs:List Int):Prop:=w.ownsRow B 5 1 v zs.length (zs.map (Value.int .u8))
theorem Qhp (k v:Nat)(h:v<128):uvF k v=[(v:Int)]:=by
 cases k<;>simp [uvF,h]
theorem Qho (k v:Nat)(h:¬v<128):uvF (k+1) v=((128+v%128:Nat):Int)::uvF k (v/128):=by
 simp [uvF,h]
theorem Qag (k:Nat):∀v,(uvF k v).length<=k+1/\ 0<(uvF k v).length:=by
 induction k with
 | zero=>intro v;simp [uvF]
 | succ k ih=>
  intro v;by_cases h:v<128
  ·rw [Qhp _ _ h];simp
  ·rw [Qho _ _ h];have:=ih (v/128);simp;omega
theorem Qkk (m:Nat)(h:m<18446744073709551616):bits BinOp.and IntKind.u64 (m:Int) 127=((m%128:Nat):Int):=by
 have:=u64_and_nat m 127 h (by omega);rw [show (127:Nat)=2^7 - 1 from rfl,Nat.and_two_pow_sub_one_eq_mod] at this;exact this
theorem Qna (a:Nat)(h:a<128):bits BinOp.or IntKind.u8 (a:Int) 128=((128+a:Nat):Int):=by
 have e:=u8_or_nat a 128 (by omega) (by omega);have j:a|||128=128+a:=by
  have:=Nat.two_pow_add_eq_or_of_lt (i:=7) (b:=a) h 1;rw [Nat.or_comm];simpa using this.symm
 rw [j] at e;exact e
theorem QiJ (w:World)(B:Nat)(z:Int)(hB:B<=w.heap.size):Own (w.alloc (.cells #[.int .u8 z] 5)) B (.slice (some ⟨w.heap.size,0,none⟩) 1 1) [z]:=by
 have:=World.ownsRow_lit (base:=B) (e:=5) (size:=1) w #[.int .u8 z] 1 hB (by unfold maxLen;omega) rfl;exact this
theorem Qjn (B m0:Nat)(bv:Value)(zs0:List Int)(w:World)(hm:m0<18446744073709551616)(hB:B<=w.heap.size)(hl:zs0.length<=1000000000000)(ho:Own w B bv zs0):
  Cl 133 #[bv,.int .u64 (m0:Int)] w fun e w'=>∃v,e=.returned v/\ Own w' B v (zs0++uvF 9 m0)/\ Below B w w'/\ w.heap.size<w'.heap.size:=by
 obtain⟨Y,hi,Q,U,V⟩:=info_parts Tryz.infoByte;go_enter Tryz.func133,Tryz.ntmps133;go_wp2_with fail;go_loopw [0,1] (fun b v wr=>∃(k m:Nat) (y:List Int),k<=9/\ m<128^(k+1)/\ m<18446744073709551616/\ v=.int .u64 (m:Int)/\ Own wr B b y/\ Below B w wr/\ w.heap.size<=wr.heap.size/\ y.length+k<=zs0.length+9/\ y++uvF k m=zs0++uvF 9 m0) (fun _ v _=>(intOf v).toNat);case atStart=>exact⟨9,m0,zs0,Nat.le_refl _,by omega,hm,rfl,ho,Below.refl _ _,Nat.le_refl _,Nat.le_refl _,rfl⟩
 case round=>
  obtain⟨k,m,y,o,O,K,rfl,r,t,X,N,E⟩:=hrel;have i:Hid (y++uvF k m=zs0++uvF 9 m0):=E;have p:Hid (m<128^(k+1)):=O;clear E ho O;unfold Own at r;by_cases M:m<128
  ·go_wp2_with (at_builtin;refine wpList_append_own _ rfl _ _ 78 rfl B 5 Y (.int .u8 0) 1 1 Tryz.underlying78 hi Q U V rfl (by decide) _ _ _ rfl (r.alloc _) ⟨wr.heap.size,0,none⟩ 1 1 [.int .u8 (m:Int)] rfl rfl ?c1 ?c2 ?c3 ?c4 ?c5 ?_);case c1=>exact cell_one_new _ _ _
   case c2=>intro u g;simp at g;subst g;rfl
   case c3=>unfold maxLen;omega
   case c4=>omega
   case c5=>simp;omega
   ·intro v' w1 z q _;have J:=t.size;have R:Own w1 B v' (zs0++uvF 9 m0):=by
     rw [<- i.out,Qhp k m M];unfold Own;rw [List.length_append,List.map_append];exact z
    have s:Below B w w1:=(t.alloc (by omega) _).grown q (by simp;omega) (fun k o=>(r.lt k o).1);have A:=q.size;simp at A;clear z q r;go_wp2;go_ret;exact⟨v',rfl,R,s,by omega⟩
  ·have H:=Qkk m K;have I:bits BinOp.or IntKind.u8 ((m:Int)%128) 128=128+(m:Int)%128:=by
    have:=Qna (m%128) (by omega);simpa using this
   go_wp2_with (at_builtin;refine wpList_append_own _ rfl _ _ 78 rfl B 5 Y (.int .u8 0) 1 1 Tryz.underlying78 hi Q U V rfl (by decide) _ _ _ rfl (r.alloc _) ⟨wr.heap.size,0,none⟩ 1 1 [.int .u8 (128+(m:Int)%128)] rfl rfl ?d1 ?d2 ?d3 ?d4 ?d5 ?_);case d1=>exact cell_one_new _ _ _
   case d2=>intro u g;simp at g;subst g;rfl
   case d3=>unfold maxLen;omega
   case d4=>omega
   case d5=>simp;omega
   ·intro v' w1 z q _;have L:1<=k:=by
     have:=p.out;rcases Nat.eq_zero_or_pos k with rfl|h
     ·simp at this;omega
     ·exact h
    obtain⟨j,rfl⟩:∃j,k=j+1:=⟨k - 1,by omega⟩;have J:=t.size;have R:Own w1 B v' (y++[128+(m:Int)%128]):=by
     unfold Own;rw [List.length_append,List.map_append];exact z
    have Z:Hid (y++[128+(m:Int)%128]++uvF j (m/128)=zs0++uvF 9 m0):=by
     have:=i.out;rw [Qho j m M] at this;show _=_;rw [<- this];simp
    have G:Hid (m/128<128^(j+1)):=by
     have:=p.out;rw [Nat.pow_succ] at this;show _<_;omega
    have s:Below B w w1:=(t.alloc (by omega) _).grown q (by simp;omega) (fun k o=>(r.lt k o).1);have A:=q.size;simp at A;clear z q r i p I H;go_wp2;go_roundw;case rel=>exact⟨j,m/128,_,by omega,G,by omega,by go_num,R,s,by omega,by simp;omega,Z⟩
    case measure=>simp [intOf];omega
theorem Own.kept(h:Own w B v zs)(hb:Below C w w1)(hc:∀k,v.ownBlock=some k ->k<C):Own w1 B v zs:=by
 obtain⟨u,j⟩:=h;refine⟨u,?_⟩;rcases j with j|⟨g,m,q,rfl,y,z,r⟩
 ·exact .inl j
 ·exact .inr ⟨g,m,q,rfl,y,by rw [hb.block g (hc g rfl)];exact z,r⟩
theorem Own.weak(h:Own w B v zs)(hc:C<=B):Own w C v zs:=by
 obtain⟨q,j⟩:=h;refine⟨q,?_⟩;rcases j with j|⟨g,k,m,rfl,u,r⟩
 ·exact .inl j
 ·exact .inr ⟨g,k,m,rfl,Nat.le_trans hc u,r⟩
theorem Own.shape(h:Own w B v zs)(hz:zs≠[]):
  ∃g k,v=.slice (some ⟨g,0,none⟩) zs.length k/\ B<=g/\ g<w.heap.size/\ zs.length<=k/\ k<=maxLen/\
   (∀j u,(zs.map (Value.int .u8))[j]? =some u ->w.cell? ((⟨g,0,none⟩:Addr).add j)=some u)/\ Seg w (some ⟨g,0,none⟩) zs.length (fun i=>zs.getD i 0):=by
 have m:=h;obtain⟨p,q⟩:=h;rcases q with ⟨_,q⟩|⟨g,k,b,rfl,z,s,o,t,r⟩
 ·exact absurd (List.eq_nil_of_length_eq_zero q) hz
 ·have y:=(m.lt g rfl).2;refine⟨g,k,rfl,z,y,o,t,m.cells rfl,.inr ⟨g,0,rfl,y,fun i hi=> ?_⟩⟩;rw [Nat.zero_add,World.ownsRow.cellAt m i (by omega)];simp [hi,List.getD]
theorem QkA (k:Nat):∀(m:Nat) (w:World),k<=9 ->Hid (m<128^(k+1)) ->m<18446744073709551616 ->
  Cl 145 #[.int .u64 (m:Int)] w fun e w'=>∃v,e=.returned v/\ Own w' w.heap.size v (uvF k m)/\ Bl w w'/\ w.heap.size<w'.heap.size:=by
 obtain⟨K,hi,H,I,J⟩:=info_parts Tryz.infoByte;have z:∀(k m:Nat) (w:World),m<128 ->Cl 145 #[.int .u64 (m:Int)] w fun e w'=>∃v,e=.returned v/\ Own w' w.heap.size v (uvF k m)/\ Bl w w'/\ w.heap.size<w'.heap.size:=by
  intro k m w q;have r:Hid (uvF k m=[(m:Int)]):=Qhp k m q;go_enter Tryz.func145,Tryz.ntmps145;go_wp2_with fail;go_ret;refine⟨_,rfl,?_,(Below.refl _ _).alloc (Nat.le_refl _) _,by simp⟩;rw [r.out];exact QiJ w _ _ (Nat.le_refl _)
 induction k with
 | zero=>intro m w _ q _;exact z 0 m w (by have:=q.out;omega)
 | succ k ih=>
  intro m w j E q;by_cases A:m<128
  ·exact z (k+1) m w A
  ·have r:Hid (uvF (k+1) m=((128+m%128:Nat):Int)::uvF k (m/128)):=Qho k m A;have t:=Qag k (m/128);have V:Hid (m/128<128^(k+1)):=by
    have:=E.out;rw [Nat.pow_succ] at this;show _<_;omega
   have i:=ih (m/128) (w.alloc (.cells #[.int .u8 (128+(m:Int)%128)] 5)) (by omega) V (by omega);have h:=hid i;clear i ih z E;go_enter Tryz.func145,Tryz.ntmps145;go_wp2_with fail;rw [show ((m:Int)/128)=((m/128:Nat):Int) from by omega];refine h.mono ?_;rintro e w1 ⟨v,rfl,M,b,G⟩;obtain⟨g,Z,rfl,N,X,_,_,p,_⟩:=M.shape (by intro e;rw [e] at t;simp at t);have s:w1.ownsRow w.heap.size 5 1 (.slice (some ⟨w.heap.size,0,none⟩) 1 1) 1 [.int .u8 (128+(m:Int)%128)]:=
    (QiJ w w.heap.size (128+(m:Int)%128) (Nat.le_refl _)).kept b (fun k j=>by simp [Value.ownBlock] at j;simp;omega)
   have B:w.heap.size+1<w1.heap.size:=by have:=G;simp at this;exact this
   have O:∀u∈(uvF k (m/128)).map (Value.int .u8),u.oneCell'=true:=ints_oneCell .u8 _;have o:=hid p;clear p h M;go_wp2_with (at_builtin;refine wpList_append_own _ rfl _ _ 78 rfl w.heap.size 5 K (.int .u8 0) 1 1 Tryz.underlying78 hi H I J rfl (by decide) _ _ _ rfl s ⟨g,0,none⟩ (uvF k (m/128)).length Z ((uvF k (m/128)).map (Value.int .u8)) rfl (by simp) o O ?c3 ?c4 ?c5 ?_);case c3=>unfold maxLen;omega
   case c4=>omega
   case c5=>omega
   ·intro v' U Q y _;have R:Own U w.heap.size v' (uvF (k+1) m):=by
     rw [r.out];unfold Own;rw [List.length_cons,List.map_cons,Nat.add_comm];exact Q
    have Y:Bl w U:=((((Below.refl _ _).alloc (Nat.le_refl _) _).trans (b.mono (by simp)))).grown y (by omega) (fun k j=>by simp [Value.ownBlock] at j;omega);have L:=y.size;clear Q y s o O;go_wp2_with fail;go_ret;exact⟨v',rfl,R,Y,by omega⟩
def QcW (s:ByteArray):List Int:=s.data.toList.map fun b=>(b.toNat:Int)
theorem Qbw (s:ByteArray):(QcW s).length=s.size:=by
 rw [QcW,List.length_map,Array.length_toList];rfl
theorem QcC (s:ByteArray):(QcW s).map (Value.int .u8)=Lib.strCells s:=by
 simp [QcW,Lib.strCells,List.map_map,Function.comp_def]
theorem Qhs (s:ByteArray)(w:World):∃cap w',(convert 9 78 (.string s)).run Tryz.prog w=.ok (.slice (some ⟨w.heap.size,0,none⟩) s.size cap) w'/\ Bl w w'/\ w.heap.size<w'.heap.size/\
  ∀j u,(Lib.strCells s)[j]? =some u ->w'.cell? ((⟨w.heap.size,0,none⟩:Addr).add j)=some u:=by
 refine⟨_,_,run_bytes_of_string (P:=Tryz.prog) w 9 78 5 s Tryz.underlying9 Tryz.underlying78 Tryz.underlying5,?_,?_,?_⟩
 ·exact(Below.refl _ _).drew.alloc (Nat.le_refl _) _
 ·simp
 ·intro j u k;have v:j<s.size:=by
   have:=(List.getElem?_eq_some_iff.1 k).1;rw [Lib.strCells_length] at this;exact this
  have r:∀(C:Array Value) (m:Nat×Nat),(w.drew.alloc (.cells C 5 m)).cell? ⟨w.heap.size,j,none⟩=C[j]? :=by
   intro C m;exact cell_of_row _ _ _ _ _ _ (heap_alloc_new w.drew _)
  have e:((⟨w.heap.size,0,none⟩:Addr).add j)=⟨w.heap.size,j,none⟩:=by
   by_cases q:j=0
   ·subst q;rfl
   ·simp [Addr.add,q]
  rw [e,r];simp only [bytesRow];rw [Array.getElem?_append_left (by simp;exact v)];simp only [Lib.strCells] at k;rw [<- k];simp
def Qaj (s:ByteArray):List Int:=uvF 9 s.size++QcW s
theorem Qhh (s:ByteArray)(w:World)(hs:s.size<=1048576):
  Cl 122 #[.string s] w fun e w'=>∃v,e=.returned v/\ Own w' w.heap.size v (Qaj s)/\ Bl w w'/\ w.heap.size<w'.heap.size:=by
 obtain⟨Y,hi,Q,U,V⟩:=info_parts Tryz.infoByte;have G:=Qag 9 s.size;go_enter Tryz.func122,Tryz.ntmps122;go_wp2_with fail;refine(QkA 9 s.size _ (Nat.le_refl _) (hid (by omega)) (by omega)).mono ?_;rintro e w1 ⟨v1,rfl,j,E,I⟩;obtain⟨M,Z,O,y,J,z⟩:=Qhs s w1;have h:Z.ownsRow w.heap.size 5 1 v1 (uvF 9 s.size).length ((uvF 9 s.size).map (Value.int .u8)):=j.kept y (fun k hk=>(j.lt k hk).2);have t:∀k,v1.ownBlock=some k ->w.heap.size<=k:=fun k hk=>(j.lt k hk).1;have r:=hid z;have p:=hid t;have o:=Lib.strCells_oneCell s;have g:=Lib.strCells_length s;have u:=hid o;have q:=hid g;clear z j o g t;go_wp2_with (at_builtin;refine wpList_append_own _ rfl _ _ 78 rfl w.heap.size 5 Y (.int .u8 0) 1 1 Tryz.underlying78 hi Q U V rfl (by decide) _ _ _ rfl h ⟨w1.heap.size,0,none⟩ s.size M (Lib.strCells s) rfl (by rw [q.out];omega) r u ?c3 ?c4 ?c5 ?_);case c3=>unfold maxLen;omega
 case c4=>omega
 case c5=>omega
 ·intro v' b i m _;have R:Own b w.heap.size v' (Qaj s):=by
   unfold Own Qaj;rw [List.length_append,List.map_append,Qbw,QcC];exact i
  have A:Bl w b:=(E.trans (y.mono (by omega))).grown m (by omega) p;have H:=m.size;clear i m h r u q O;go_wp2_with fail;go_ret;exact⟨v',rfl,R,A,by omega⟩
noncomputable def dsK (l:List Lf)(p:List ByteArray)(y:Ky):Nat ->List Lf
 | 0=>[]
 | k+1=>if yes (nx p (gL l k)=some y)=true then dsK l p y k++[gL l k] else dsK l p y k
theorem Qb7(h:nx p (gL l k)=some y):dsK l p y (k+1)=dsK l p y k++[gL l k]:=by simp only [dsK];rw [if_pos (Qah h)]
theorem QbL(h:nx p (gL l k)≠some y):dsK l p y (k+1)=dsK l p y k:=by simp only [dsK];rw [if_neg (by rw [Qaf h];simp)]
theorem Qbs {l:List Lf}{p:List ByteArray}{y:Ky}{x:Lf}:∀{k:Nat},x∈dsK l p y k↔∃j,j<k/\ nx p (gL l j)=some y/\ gL l j=x
 | 0=>by simp [dsK]
 | k+1=>by
  have v:=Qbs (l:=l) (p:=p) (y:=y) (x:=x) (k:=k);by_cases h:nx p (gL l k)=some y
  ·rw [Qb7 h,List.mem_append,List.mem_singleton,v];constructor
   ·rintro(⟨j,u,e⟩|rfl)
    ·exact⟨j,by omega,e⟩
    ·exact⟨k,by omega,h,rfl⟩
   ·rintro⟨j,u,m,q⟩;by_cases r:j=k
    ·subst r;exact .inr q.symm
    ·exact .inl ⟨j,by omega,m,q⟩
  ·rw [QbL h,v];constructor
   ·rintro⟨j,u,e⟩;exact⟨j,by omega,e⟩
   ·rintro⟨j,u,m,q⟩;by_cases r:j=k
    ·subst r;exact absurd m h
    ·exact⟨j,by omega,m,q⟩
theorem Qid (l:List Lf)(p:List ByteArray)(y:Ky):∀k,(dsK l p y k).length<=k
 | 0=>by simp [dsK]
 | k+1=>by
  have j:=Qid l p y k;by_cases h:nx p (gL l k)=some y
  ·rw [Qb7 h];simp;exact j
  ·rw [QbL h];omega
def lfB (k:Int)(x:Lf):List Int:=uvF 9 x.r.toNat++(uvF 9 x.q.toNat++if k=1 then Qaj x.v else [])
def mB (ls:List Lf)(k:Int):List Int:=uvF 9 ls.length++ls.flatMap (lfB k)
noncomputable def tB (l:List Lf):Nat ->List ByteArray ->List Int
 | 0,_=>[]
 | f+1,p=>uvF 9 (kS l p l.length).length++(kS l p l.length).flatMap fun y=>Qaj y.1++([y.2]++if y.2=3 then tB l f (p++[y.1]) else mB (dsK l p y l.length) y.2)
noncomputable def kB (l:List Lf)(f:Nat)(p:List ByteArray)(y:Ky):List Int:=Qaj y.1++([y.2]++if y.2=3 then tB l f (p++[y.1]) else mB (dsK l p y l.length) y.2)
theorem QjZ (l:List Lf)(f:Nat)(p:List ByteArray):tB l (f+1) p=uvF 9 (kS l p l.length).length++(kS l p l.length).flatMap (kB l f p):=rfl
theorem Qb8:nx p x=some y↔(p <+:x.p/\ p.length<x.p.length)/\ Qar x.p (kd x.fl) p.length=y:=by
 unfold nx;by_cases h:p <+:x.p/\ p.length<x.p.length
 ·rw [if_pos (Qah h)];simp [h]
 ·rw [if_neg (by rw [Qaf h];simp)];simp [h]
theorem Qgn:nx p x≠none↔p <+:x.p/\ p.length<x.p.length:=by
 unfold nx;by_cases h:p <+:x.p/\ p.length<x.p.length
 ·rw [if_pos (Qah h)];simp [h]
 ·rw [if_neg (by rw [Qaf h];simp)];simp [h]
theorem QdQ (b:Bool):kd b=1 \/kd b=2:=by cases b<;>simp [kd]
theorem Qhc {q:List ByteArray}:p++[s] <+:q↔(p <+:q/\ p.length<q.length)/\ gS q p.length=s:=by
 constructor
 ·rintro⟨r,rfl⟩;refine⟨⟨⟨s::r,by simp⟩,by simp⟩,?_⟩;simp [gS,List.getD]
 ·rintro⟨⟨⟨r,rfl⟩,h⟩,e⟩;cases r with
  | nil=>simp at h
  | cons t r=>
   simp [gS,List.getD] at e;subst e;exact⟨r,by simp⟩
theorem Qfz:nx p x=some (s,3)↔nx (p++[s]) x≠none:=by
 rw [Qb8,Qgn,Qhc];unfold Qar;constructor
 ·rintro⟨h,e⟩;have q:=congrArg Prod.fst e;have j:=congrArg Prod.snd e;dsimp only at q j;by_cases m:p.length+1<x.p.length
  ·exact⟨⟨h,q⟩,by simpa using m⟩
  ·rw [if_neg m] at j;rcases QdQ x.fl with k|k<;>rw [k] at j<;>exact absurd j (by decide)
 ·rintro⟨⟨h,e⟩,m⟩;refine⟨h,?_⟩;rw [if_pos (by simpa using m),e]
theorem Qgl(hy:y.2≠3):nx p x=some y↔Way x=Qac p 3++[y]:=by
 rw [<- QgY];constructor
 ·intro h;have k:=QgY.1 h;rw [Qb8] at k;obtain⟨⟨_,m⟩,e⟩:=k;have j:=congrArg Prod.snd e;unfold Qar at j;dsimp only at j;have q:¬p.length+1<x.p.length:=fun hh=>by rw [if_pos hh] at j;exact hy j.symm
  refine(h.eq_of_length ?_).symm;simp [Way,Qav];omega
 ·intro h;rw [h];exact List.prefix_refl _
theorem QbQ(hy:y.2≠3)(h:nx p x=some y):x.p=p++[y.1]/\ kd x.fl=y.2:=by
 rw [Qb8] at h;obtain⟨⟨r,m⟩,e⟩:=h;have k:=congrArg Prod.fst e;have j:=congrArg Prod.snd e;unfold Qar at k j;dsimp only at k j;have q:¬p.length+1<x.p.length:=fun hh=>by rw [if_pos hh] at j;exact hy j.symm
 rw [if_neg q] at j;exact⟨((Qhc.2 ⟨⟨r,m⟩,k⟩).eq_of_length (by simp;omega)).symm,j⟩
theorem Qiw {a b:Bool}(h:kd a=kd b):a=b:=by cases a<;>cases b<;>simp [kd] at h ⊢
theorem QdY {R F T:Nat ->Int}{n:Nat}{l:List Lf}{p:List ByteArray}{y:Ky}(h:QbT R F T n l l.length)(hy:y.2≠3):∀k,k<=l.length ->((dsK l p y k).map fun x=>((x.r,x.q):Dt)).Pairwise (fun x y=>Qb6 x y<0)
 | 0,_=>by simp [dsK]
 | k+1,hk=>by
  have u:=QdY (p:=p) h hy k (by omega);by_cases e:nx p (gL l k)=some y
  ·rw [Qb7 e,List.map_append];refine List.pairwise_append.2 ⟨u,by simp,fun a ha b hb=> ?_⟩;simp only [List.map_cons,List.map_nil,List.mem_singleton] at hb;subst hb;obtain⟨x,g,rfl⟩:=List.mem_map.1 ha;obtain⟨j,z,v,rfl⟩:=Qbs.1 g;have m:=h.lt (i:=j) k z (by omega);obtain⟨s,t⟩:=QbQ hy v;obtain⟨A,o⟩:=QbQ hy e;unfold QaM at m;rw [s,A,t,o,Qds.2 rfl,show QaU y.2 y.2=0 from QaX.int.irr _] at m;simpa [orI,Qla,Qb6] using m
  ·rw [QbL e];exact u
theorem Qfi {R F T:Nat ->Int}{ts:List Dt}(h:QbT R F T n l l.length)(hy:y.2≠3)(h1:ts.Pairwise (fun x y=>Qb6 x y<0))(h2:∀d,d∈ts↔Mk l l.length (Qac p 3++[y]) d≠none):ts=(dsK l p y l.length).map fun x=>((x.r,x.q):Dt):=by
 refine QaX.dot.uniq h1 (QdY h hy _ zL) fun d=> ?_;rw [h2,Qdp,List.mem_map];constructor
 ·rintro⟨j,m,k,u⟩;exact⟨gL l j,Qbs.2 ⟨j,m,(Qgl hy).2 k,rfl⟩,u⟩
 ·rintro⟨x,v,e⟩;obtain⟨j,m,k,rfl⟩:=Qbs.1 v;exact⟨j,m,(Qgl hy).1 k,e⟩
theorem Qfy(hy:y.2≠3)(hd:Dis l l.length)(hx:x∈dsK l p y l.length):Mk l l.length (Qac p 3++[y]) (x.r,x.q)=some x.v:=by
 obtain⟨j,m,k,rfl⟩:=Qbs.1 hx;exact(QhF hd).2 ⟨j,m,(Qgl hy).1 k,rfl,rfl⟩
theorem QeR (p:List ByteArray)(s:ByteArray):Qac (p++[s]) 3=Qac p 3++[(s,3)]:=by
 rw [Qjh,Qjh,List.length_append,List.length_singleton,List.range_succ,List.map_append];congr 1
 ·refine List.map_congr_left fun i hi=> ?_;rw [Qim (List.prefix_append p [s]) (by simpa using hi)]
 ·simp [gS,List.getD]
noncomputable def uK (l:List Lf)(p:List ByteArray):Nat ->Nat
 | 0=>0
 | k+1=>uK l p k+(if yes (nx p (gL l k)≠none)=true then 1 else 0)
theorem Qnu (l:List Lf)(p:List ByteArray):∀k,uK l p k<=k
 | 0=>Nat.le_refl _
 | k+1=>by have:=Qnu l p k;simp only [uK];split<;>omega
theorem QiY (f:Ky ->Nat)(z:Ky):∀ys:List Ky,ys.Nodup ->(ys.map fun y=>f y+if y=z then 1 else 0).sum<=(ys.map f).sum+(if yes (z∈ys)=true then 1 else 0)
 | [],_=>by simp
 | a::r,h=>by
  have j:=QiY f z r (List.nodup_cons.1 h).2;have k:=(List.nodup_cons.1 h).1;simp only [List.map_cons,List.sum_cons];by_cases e:a=z
  ·subst e;rw [Qaf k] at j;rw [Qah (List.mem_cons_self),if_pos rfl,if_pos rfl];simp at j;omega
  ·rw [if_neg e];have:(z∈a::r)=(z∈r):=by simp [show z≠a from fun h=>e h.symm]
   rw [this];omega
theorem QkC (l:List Lf)(p:List ByteArray)(ys:List Ky)(hn:ys.Nodup):∀k,(ys.map fun y=>(dsK l p y k).length).sum<=uK l p k
 | 0=>by
  have:(ys.map fun y=>(dsK l p y 0).length)=ys.map fun _=>0:=by simp [dsK]
  have u:∀ys:List Ky,(ys.map fun _=>0).sum=0:=fun ys=>by
   induction ys with
   | nil=>rfl
   | cons a r m=>simp only [List.map_cons,List.sum_cons,m]
  rw [this,u];exact Nat.zero_le _
 | k+1=>by
  have m:=QkC l p ys hn k;cases h:nx p (gL l k) with
  | none=>
   have e:(ys.map fun y=>(dsK l p y (k+1)).length)=ys.map fun y=>(dsK l p y k).length:=List.map_congr_left fun y _=>by rw [QbL (by rw [h];simp)]
   rw [e];simp only [uK];omega
  | some z=>
   have e:(ys.map fun y=>(dsK l p y (k+1)).length)=ys.map fun y=>(dsK l p y k).length+if y=z then 1 else 0:=List.map_congr_left fun y _=>by
    by_cases j:y=z
    ·subst j;rw [Qb7 h,if_pos rfl];simp
    ·rw [QbL (by rw [h];simpa using fun e=>j e.symm),if_neg j];omega
   have v:=QiY (fun y=>(dsK l p y k).length) z ys hn;have q:uK l p (k+1)=uK l p k+1:=by simp only [uK];rw [if_pos (Qah (by rw [h];simp))]
   rw [e,q];have g:(if yes (z∈ys)=true then 1 else 0)<=1:=by split<;>omega
   omega
theorem QkF (l:List Lf)(p:List ByteArray)(s:ByteArray):∀k,uK l (p++[s]) k=(dsK l p (s,3) k).length
 | 0=>rfl
 | k+1=>by
  have j:=QkF l p s k;by_cases h:nx p (gL l k)=some (s,3)
  ·rw [Qb7 h];simp only [uK];rw [if_pos (Qah (Qfz.1 h)),j];simp
  ·rw [QbL h];simp only [uK];rw [if_neg (by rw [Qaf (fun hh=>h (Qfz.2 hh))];simp),j];rfl
theorem QbX {α:Type}(f:α ->List Int)(g:α ->Nat)(C:Nat):∀ys:List α,(∀y∈ys,(f y).length<=C*g y) ->(ys.flatMap f).length<=C*(ys.map g).sum
 | [],_=>by simp
 | a::r,h=>by
  have k:=QbX f g C r (fun y hy=>h y (List.mem_cons_of_mem _ hy));have j:=h a (List.mem_cons_self);simp only [List.flatMap_cons,List.length_append,List.map_cons,List.sum_cons,Nat.mul_add];omega
theorem QaF (s:ByteArray):(Qaj s).length<=10+s.size:=by
 have:=(Qag 9 s.size).1;simp only [Qaj,List.length_append,Qbw];omega
theorem QmP {ls:List Lf}(k:Int)(h:∀x∈ls,x.v.size<=200):(mB ls k).length<=10+230*ls.length:=by
 have t:=(Qag 9 ls.length).1;have j:=QbX (lfB k) (fun _=>1) 230 ls (fun x hx=>by
  have u:=(Qag 9 x.r.toNat).1;have y:=(Qag 9 x.q.toNat).1;have z:=QaF x.v;have g:=h x hx;unfold lfB;simp only [List.length_append];split
  ·omega
  ·simp;omega)
 have m:∀ls:List Lf,(ls.map fun _=>1).sum=ls.length:=fun ls=>by
  induction ls with
  | nil=>rfl
  | cons a r ih=>simp only [List.map_cons,List.sum_cons,ih,List.length_cons];omega
 rw [m] at j;unfold mB;simp only [List.length_append];omega
theorem Qgm(hx:Qc1 x)(h:nx p x=some y):y.1.size<=40:=by
 rw [Qb8] at h;obtain⟨⟨_,k⟩,e⟩:=h;have j:=congrArg Prod.fst e;unfold Qar at j;dsimp only at j;rw [<- j];exact(hx.1.2.2 _ k).2
theorem QkD {R F T:Nat ->Int}{n:Nat}{l:List Lf}(h:QbT R F T n l l.length):∀f p,(tB l f p).length<=10+(400+100*f)*uK l p l.length
 | 0,p=>by simp [tB]
 | f+1,p=>by
  have u:=QkD h f;obtain⟨v,z⟩:=Qfs p h l.length zL;have r:(kS l p l.length).Nodup:=v.imp fun{a b} hab e=>by subst e;rw [QaX.key.irr] at hab;omega
  have t:=(Qag 9 (kS l p l.length).length).1;have o:=QbX (kB l f p) (fun y=>(dsK l p y l.length).length) (500+100*f) (kS l p l.length) (fun y hy=>by
   obtain⟨j,m,e⟩:=(z y).1 hy;have M:1<=(dsK l p y l.length).length:=List.length_pos_of_mem (Qbs.2 ⟨j,m,e,rfl⟩);have O:=QaF y.1;have Q:=Qgm (h j m).1 e;have g:(if y.2=3 then tB l f (p++[y.1]) else mB (dsK l p y l.length) y.2).length<=10+(400+100*f)*(dsK l p y l.length).length:=by
    by_cases k:y.2=3
    ·rw [if_pos k];have:=u (p++[y.1]);rw [QkF,show (y.1,(3:Int))=y by rw [<- k]] at this;exact this
    ·rw [if_neg k];have:=QmP (ls:=dsK l p y l.length) y.2 (fun x hx=>by
      obtain⟨i,hi,_,rfl⟩:=Qbs.1 hx;exact(h i hi).1.2.1)
     have A:230*(dsK l p y l.length).length<=(400+100*f)*(dsK l p y l.length).length:=Nat.mul_le_mul_right _ (by omega);omega
   unfold kB;simp only [List.length_append,List.length_singleton];have E:(500+100*f)*(dsK l p y l.length).length=(400+100*f)*(dsK l p y l.length).length+100*(dsK l p y l.length).length:=by rw [<- Nat.add_mul];congr 1;omega
   omega)
  have q:=QkC l p _ r l.length;have s:(500+100*f)*((kS l p l.length).map fun y=>(dsK l p y l.length).length).sum<=(500+100*f)*uK l p l.length:=Nat.mul_le_mul_left _ q;rw [QjZ,List.length_append,show 400+100*(f+1)=500+100*f by omega];omega
def Iv (l:List Lf)(p:List ByteArray)(i e:Nat):Prop:=(∀j,j<l.length ->(nx p (gL l j)≠none↔i<=j/\ j<e))/\ i<=e/\ e<=l.length
theorem Iv.start(h:Iv l p i e):∀k,k<=i ->kS l p k=[]
 | 0,_=>rfl
 | k+1,hk=>by
  rw [QcQ]
  ·exact h.start k (by omega)
  ·have:=h.1 k (by have:=h.2;omega);cases e1:nx p (gL l k) with
   | none=>rfl
   | some y=>rw [e1] at this;have:=this.1 (by simp);omega
theorem Iv.stop(h:Iv l p i e):∀k,e<=k ->k<=l.length ->kS l p k=kS l p e:=by
 intro k m q;induction k with
 | zero=>rw [show e=0 by omega]
 | succ k ih=>
  by_cases j:e=k+1
  ·rw [j]
  ·rw [QcQ,ih (by omega) (by omega)];have:=h.1 k (by omega);cases e1:nx p (gL l k) with
   | none=>rfl
   | some y=>rw [e1] at this;have:=this.1 (by simp);omega
section
variable {R F T : Nat -> Int} {n : Nat} {l : List Lf} {p : List ByteArray} {i e j g : Nat} {y : Ky}
theorem Qe3 (hy:y ∉ kS l p j)(hg:∀t,t<g ->nx p (gL l (j+t))=some y):∀t,t<g ->kS l p (j+(t+1))=kS l p j++[y]
 | 0,h=>by
  show kS l p (j+1)=_;have k:=hg 0 h;rw [Nat.add_zero] at k;rw [QcR k,if_neg (by rw [Qaf (fun e=>hy (List.mem_of_getLast? e))];simp)]
 | t+1,h=>by
  have m:=Qe3 hy hg t (by omega);show kS l p (j+(t+1)+1)=_;rw [QcR (hg (t+1) h),m,if_pos (Qah (by simp))]
theorem Qj7 (hl:QbT R F T n l l.length)(hI:Iv l p i e)(hj:i<=j)(hy:y ∉ kS l p j)(h1:1<=g)(hge:j+g<=e)(hg:∀t,t<g ->nx p (gL l (j+t))=some y)(hs:j+g<e ->nx p (gL l (j+g))≠some y):
  ∀t,t<l.length ->(nx p (gL l t)=some y↔j<=t/\ t<j+g):=fun t ht=>by
 have M:=hI.2.2;constructor
 ·intro k;obtain⟨_,u⟩:=Qfs p hl j (by omega);refine⟨Nat.le_of_not_lt fun h=>hy ((u y).2 ⟨t,h,k⟩),Nat.lt_of_not_le fun h=> ?_⟩;have O:=(hI.1 t ht).1 (by rw [k];simp);have m:=hs (by omega);cases ez:nx p (gL l (j+g)) with
  | none=>have:=(hI.1 (j+g) (by omega)).2 (by omega);exact this ez
  | some z=>
   have r:z≠y:=fun e=>m (by rw [ez,e]);have v:=QbZ (hl.lt (i:=j+(g - 1)) (j+g) (by omega) (by omega)) (hg (g - 1) (by omega)) ez;have o:QeW y z≠0:=fun e=>r ((QaX.key.z y z).1 e).symm;by_cases q:t=j+g
   ·subst q;exact m k
   ·have b:=QbZ (hl.lt (i:=j+g) t (by omega) ht) ez k;have s:=(QaX.key.neg y z).1 (by omega);omega
 ·rintro⟨A,E⟩;have:=hg (t - j) (by omega);rwa [show j+(t - j)=t by omega] at this
theorem Qj6 (hl:QbT R F T n l l.length)(hI:Iv l p i e)(hy:y ∉ kS l p j)(h1:1<=g)(hge:j+g<=e)(hg:∀t,t<g ->nx p (gL l (j+t))=some y)(hs:j+g<e ->nx p (gL l (j+g))≠some y){z:Ky}(hlt:j+g<e)(hz:nx p (gL l (j+g))=some z):z ∉ kS l p (j+g):=fun k=>by
 have E:=hI.2.2;have q:=Qe3 hy hg (g - 1) (by omega);rw [show j+(g - 1+1)=j+g by omega] at q;rw [q,List.mem_append,List.mem_singleton] at k;have r:z≠y:=fun e=>hs hlt (by rw [hz,e]);rcases k with k|k
 ·obtain⟨_,h⟩:=Qfs p hl j (by omega);obtain⟨t,v,u⟩:=(h z).1 k;have m:=hg 0 (by omega);rw [Nat.add_zero] at m;have o:=QbZ (hl.lt (i:=t) j v (by omega)) u m;have b:=QbZ (hl.lt (i:=j) (j+g) (by omega) (by omega)) m hz;have s:QeW z y≠0:=fun e=>r ((QaX.key.z z y).1 e);have A:=(QaX.key.neg z y).1 (by omega);omega
 ·exact r k
theorem Qj5 (ho:∀t,t<l.length ->(nx p (gL l t)=some y↔j<=t/\ t<j+g))(hge:j+g<=l.length):dsK l p y l.length=(List.range g).map fun t=>gL l (j+t):=by
 have q:∀k,k<=l.length ->dsK l p y k=(List.range (min (k - j) g)).map fun t=>gL l (j+t):=by
  intro k;induction k with
  | zero=>intro _;simp [dsK]
  | succ k m=>
   intro u;have m:=m (by omega);by_cases h:nx p (gL l k)=some y
   ·have:=(ho k (by omega)).1 h;rw [Qb7 h,m,show min (k+1 - j) g=(k - j)+1 by omega,show min (k - j) g=k - j by omega,List.range_succ,List.map_append];simp [show j+(k - j)=k by omega]
   ·have r:¬(j<=k/\ k<j+g):=fun hh=>h ((ho k (by omega)).2 hh);rw [QbL h,m];congr 2;omega
 rw [q _ zL,show min (l.length - j) g=g by omega]
theorem Qlo {s:ByteArray}(ho:∀t,t<l.length ->(nx p (gL l t)=some (s,3)↔j<=t/\ t<j+g))(hge:j+g<=l.length):Iv l (p++[s]) j (j+g):=
 ⟨fun t ht=>by rw [<- Qfz,ho t ht],by omega,hge⟩
end
def mk3 (k0 c:Nat)(i:Nat):Int:=((k0+3*i+c:Nat):Int)
theorem QjM (B g n cap:Nat)(k0:Nat)(ys:List Value)(w:World)(hk0:k0<=9000000000000)(hn1:n<=1000000000)(ho:w.ownsRow B 124 3 (.slice (some ⟨g,0,none⟩) n cap) n ys):
  Cl 89 #[.slice (some ⟨g,0,none⟩) n cap,.int .i64 (k0:Int)] w fun e w'=>e=.returned (.int .i64 ((k0+3*n:Nat):Int))/\ Below B w w'/\ w'.heap.size=w.heap.size/\ Qa7 w' (some ⟨g,0,none⟩) n (mk3 k0 0) (mk3 k0 1) (mk3 k0 2)/\ (∀b,b≠g ->w'.heap[b]? =w.heap[b]?):=by
 go_enter Tryz.func89,Tryz.ntmps89;go_wp2_with fail;go_loopw [1,5] (fun k i wr=>∃(j m:Nat),j<=n/\ m=k0+3*j/\ i=.int .i64 (j:Int)/\ k=.int .i64 (m:Int)/\ Hid (Below B w wr)/\ Hid (wr.heap.size=w.heap.size)/\ Hid (∀b,b≠g ->wr.heap[b]? =w.heap[b]?)/\∃xs:List Value,Hid (wr.ownsRow B 124 3 (.slice (some ⟨g,0,none⟩) n cap) n xs)/\ Hid (∀t,t<j ->xs[t*3]? =some (.int .i64 (mk3 k0 0 t))/\ xs[t*3+1]? =some (.int .i64 (mk3 k0 1 t))/\ xs[t*3+2]? =some (.int .i64 (mk3 k0 2 t)))) (fun _ i _=>n - (intOf i).toNat);case atStart=>exact⟨0,k0,Nat.zero_le _,rfl,rfl,rfl,hid (Below.refl _ _),hid rfl,hid (fun _ _=>rfl),_,hid ho,hid (fun t G=>by omega)⟩
 case round=>
  clear ho;obtain⟨j,m,L,v,rfl,rfl,h,A,o,xs,q,E⟩:=hrel;by_cases Z:j<n
  ·have I:=q.frozenAt (j*3);have J:=q.frozenAt (j*3+1);have K:=q.frozenAt (j*3+2);obtain⟨F,X⟩:=QaA q (j*3) (by omega);obtain⟨P,C⟩:=QaA q (j*3+1) (by omega);obtain⟨R,D⟩:=QaA q (j*3+2) (by omega);have Y:=q.1;have u:=hid (((q.stored (j*3) (.int .i64 (m:Int))).1.stored (j*3+1) (.int .i64 ((m:Int)+1))).1.stored (j*3+2) (.int .i64 ((m:Int)+1+1))).1;have U:Hid (∀t,t<j+1 ->(((xs.set (j*3) (.int .i64 (m:Int))).set (j*3+1) (.int .i64 ((m:Int)+1))).set (j*3+2) (.int .i64 ((m:Int)+1+1)))[t*3]? =some (.int .i64 (mk3 k0 0 t))/\ (((xs.set (j*3) (.int .i64 (m:Int))).set (j*3+1) (.int .i64 ((m:Int)+1))).set (j*3+2) (.int .i64 ((m:Int)+1+1)))[t*3+1]? =some (.int .i64 (mk3 k0 1 t))/\ (((xs.set (j*3) (.int .i64 (m:Int))).set (j*3+1) (.int .i64 ((m:Int)+1))).set (j*3+2) (.int .i64 ((m:Int)+1+1)))[t*3+2]? =some (.int .i64 (mk3 k0 2 t))):=by
    intro t G;by_cases H:t=j
    ·subst H;refine⟨?_,?_,?_⟩
     ·rw [List.getElem?_set_ne (by omega),List.getElem?_set_ne (by omega),List.getElem?_set_self (by omega)];unfold mk3;congr 2;omega
     ·rw [List.getElem?_set_ne (by omega),List.getElem?_set_self (by simp;omega)];unfold mk3;congr 2;omega
     ·rw [List.getElem?_set_self (by simp;omega)];unfold mk3;congr 2;omega
    ·obtain⟨x0,y,z⟩:=E t (by omega);refine⟨?_,?_,?_⟩
     ·rw [List.getElem?_set_ne (by omega),List.getElem?_set_ne (by omega),List.getElem?_set_ne (by omega)];exact x0
     ·rw [List.getElem?_set_ne (by omega),List.getElem?_set_ne (by omega),List.getElem?_set_ne (by omega)];exact y
     ·rw [List.getElem?_set_ne (by omega),List.getElem?_set_ne (by omega),List.getElem?_set_ne (by omega)];exact z
   have r:=(q.lt g rfl).1;have M:=hid (((h.setCell (p:=⟨g,j*3,none⟩) r (.int .i64 (m:Int))).setCell (p:=⟨g,j*3+1,none⟩) r (.int .i64 ((m:Int)+1))).setCell (p:=⟨g,j*3+2,none⟩) r (.int .i64 ((m:Int)+1+1)));have V:Hid ((((wr.setCell ⟨g,j*3,none⟩ (.int .i64 (m:Int))).setCell ⟨g,j*3+1,none⟩ (.int .i64 ((m:Int)+1))).setCell ⟨g,j*3+2,none⟩ (.int .i64 ((m:Int)+1+1))).heap.size=w.heap.size):=by show _=_;rw [<- A.out];simp [World.setCell]
   have Q:Hid (∀b,b≠g ->(((wr.setCell ⟨g,j*3,none⟩ (.int .i64 (m:Int))).setCell ⟨g,j*3+1,none⟩ (.int .i64 ((m:Int)+1))).setCell ⟨g,j*3+2,none⟩ (.int .i64 ((m:Int)+1+1))).heap[b]? =w.heap[b]?):=fun b hb=>(Below.heap_setCell _ _ _ _ hb).trans ((Below.heap_setCell _ _ _ _ hb).trans ((Below.heap_setCell _ _ _ _ hb).trans (o b hb)));clear Y r;have N:m<=9000000000000+3000000000:=by omega
   have O:=hid v;clear v;go_wp2_with fail;go_roundw;case rel=>exact⟨j+1,m+3,Z,by have:=O.out;omega,by go_num,by go_num,M,V,Q,_,u,U⟩
   case measure=>simp [intOf];omega
  ·obtain rfl:j=n:=by omega
   have s:Qa7 wr (some ⟨g,0,none⟩) j (mk3 k0 0) (mk3 k0 1) (mk3 k0 2):=.inr ⟨g,0,rfl,(q.lt g rfl).2,fun i hi=>by
    obtain⟨x0,y,z⟩:=E i hi;rw [Nat.zero_add,q.cellAt _ (by omega),q.cellAt _ (by omega),q.cellAt _ (by omega)];exact⟨x0,y,z⟩⟩
   have u:=hid s;clear s;subst v;go_wp2_with fail;go_ret;exact⟨by simp,h,A,u,o⟩
theorem Qd6 (B g n cap:Nat)(k0:Nat)(ys:List Value)(w:World)(hB:B<=w.heap.size)(hk0:k0<=9000000000000)(hn1:n<=1000000000)(ho:w.ownsRow B 124 3 (.slice (some ⟨g,0,none⟩) n cap) n ys):
  Cl 54 #[.agg #[.slice (some ⟨g,0,none⟩) n cap],.int .i64 (k0:Int)] w fun e w'=>e=.returned (.int .i64 ((k0+3*n:Nat):Int))/\ Below B w w'/\ Qa7 w' (some ⟨g,0,none⟩) n (mk3 k0 0) (mk3 k0 1) (mk3 k0 2)/\ w.heap.size<=w'.heap.size/\ (∀b,b<w.heap.size ->b≠g ->w'.heap[b]? =w.heap[b]?):=by
 have k:Hid (Bl w (w.alloc (.cells #[.slice (some ⟨g,0,none⟩) n cap] 38))):=(Below.refl _ _).alloc (Nat.le_refl _) _;go_enter Tryz.func54,Tryz.ntmps54;go_wp2_with fail;refine(QjM B g n cap k0 ys _ hk0 hn1 (ho.alloc _)).mono ?_;rintro e w1 ⟨rfl,m,r,q,j⟩;have h:w1.cell? ⟨w.heap.size,0,none⟩=some (.slice (some ⟨g,0,none⟩) n cap):=by
  have t:=(ho.lt g rfl).2;rw [World.cell?_of_block (j w.heap.size (by omega))];simp
 have u:=hid m;have z:=hid r;have y:=hid q;have v:=hid j;clear m r q j;go_wp2_with fail;go_ret;refine⟨by simp,?_,y,?_,fun b hb hg=>(v b hg).trans (k.block b hb)⟩
 ·exact(k.mono hB).trans u
 ·have:=z.out;simp at this;omega
def QhX:Nat ->Nat ->ByteArray ->ByteArray
 | 0,_,s=>s
 | n+1,k,s=>if k=0 then s else QhX n (k/10) (strOfNums [48+(k:Int)%10]++s)
def mkT (k:Nat):ByteArray:=if k=0 then⟨#[109,48]⟩ else⟨#[109]⟩++QhX k k ByteArray.empty
theorem QhZ:QhX n 0 s=s:=by cases n<;>simp [QhX]
theorem QhY(hk:0<k)(hn:k<=n):QhX n k s=QhX (n - 1) (k/10) (strOfNums [48+(k:Int)%10]++s):=by
 obtain⟨m,rfl⟩:∃m,n=m+1:=⟨n - 1,by omega⟩;simp only [QhX,Nat.add_sub_cancel];rw [if_neg (by omega)]
theorem QbO (k:Nat)(w:World)(hk:k<=10000000000000):
  Cl 55 #[.int .i64 (k:Int)] w (Rt w (.string (mkT k))):=by
 by_cases h:k=0
 ·subst h;go_enter Tryz.func55,Tryz.ntmps55;go_wp2_with fail;go_ret;exact⟨rfl,zI⟩
 ·have Q:decide ((k:Int)<=0)=false:=by simp;omega
  have U:decide (k<=0)=false:=by simp;omega
  go_enter Tryz.func55,Tryz.ntmps55;go_wp2_with fail;go_loopw [0,3] (fun q s wr=>∃(j n:Nat) (t:ByteArray),j<=n/\ j<=k/\ q=.int .i64 (j:Int)/\ s=.string t/\ Hid (QhX k k ByteArray.empty=QhX n j t)/\ t.size+n<=10000000000000+1/\ Hid (Bl w wr)) (fun q _ _=>(intOf q).toNat);case atStart=>exact⟨k,k,ByteArray.empty,Nat.le_refl _,Nat.le_refl _,rfl,rfl,hid rfl,by simp;omega,hid zI⟩
  case round=>
   obtain⟨j,n,t,M,V,rfl,rfl,z,H,r⟩:=hrel;by_cases O:0<j
   ·have I:decide (0<(j:Int))=true:=by simp;omega
    have J:decide (0<j)=true:=by simp;omega
    have E:=run_convert_bytes_arg (P:=Tryz.prog) (wr.alloc (.cells #[.int .u8 (48+(j:Int)%10)] 5)) 78 5 Tryz.underlying78 Tryz.underlying5 wr.heap.size 0 1 1 [48+(j:Int)%10] rfl (fun i hi=>by(obtain rfl:i=0:=(by omega));simp) 9 Tryz.underlying9;have y:=strOfNums_size [48+(j:Int)%10];have u:Hid (QhX k k ByteArray.empty=QhX (n - 1) (j/10) (strOfNums [48+(j:Int)%10]++t)):=hid (by rw [z.out,QhY O M]);obtain⟨D,g⟩:=zE (strOfNums [48+(j:Int)%10]);rw [g] at E y u;have G:D.size=1:=y;obtain⟨m,v⟩:=zE (j/10);have Z:IntKind.i64.wrap ((j:Int).tdiv 10)=(m:Int):=by rw [IntKind.wrap_i64,Int.tdiv_eq_ediv_of_nonneg (by omega)];omega
    rw [v] at u;have Y:m<j:=by omega
    have b:=hid v;clear v;have A:=fun w=>run_string_add_sum (P:=Tryz.prog) (w:=w) D t (by omega);have o:=hid (r.alloc r.size (.cells #[.int .u8 (48+(j:Int)%10)] 5));clear g y;go_wp2_with fail;go_roundw;case rel=>exact⟨m,n - 1,D++t,by omega,by omega,by have:=b.out;congr 1;omega,rfl,u,by rw [ByteArray.size_append];omega,o⟩
    case measure=>simp [intOf];omega
   ·obtain rfl:j=0:=by omega
    have p:Hid (mkT k=⟨#[109]⟩++t):=hid (by unfold mkT;rw [if_neg h,z.out,QhZ]);have A:=fun w=>run_string_add_sum (P:=Tryz.prog) (w:=w) ⟨#[109]⟩ t (by have:(⟨#[109]⟩:ByteArray).size=1:=rfl;omega);go_wp2_with fail;go_ret;exact⟨by rw [p.out];rfl,r⟩
theorem Qc7{cur:Array Value}{f:Nat×Nat}(h:w.heap[g]? =some (.cells cur t f)):(w.setCell ⟨g,i,none⟩ u).heap[g]? =some (.cells (cur.setIfInBounds i u) t f):=by
 simp [World.setCell,Array.getElem?_modify,h]
def Wr (w:World)(g:Nat)(t:TypeId)(n:Nat)(C:Nat ->Value):Prop:=∃cur,w.heap[g]? =some (.cells cur t (0,0))/\ n<=cur.size/\∀i,i<n ->cur[i]? =some (C i)
theorem Wr.cell{C:Nat ->Value}(h:Wr w g t n C)(hi:i<n):w.cell? ⟨g,i,none⟩=some (C i):=by
 obtain⟨m,j,q,k⟩:=h;simp [World.cell?,j,k i hi]
theorem Wr.frozen{C:Nat ->Value}(h:Wr w g t n C)(i:Nat):w.frozen? ⟨g,i,none⟩=false:=by
 obtain⟨k,j,m,q⟩:=h;simp [World.frozen?,j]
theorem Wr.set{C:Nat ->Value}(h:Wr w g t n C)(i:Nat)(u:Value):Wr (w.setCell ⟨g,i,none⟩ u) g t n (fun j=>if j=i then u else C j):=by
 obtain⟨k,m,q,r⟩:=h;refine⟨_,Qc7 m,by simpa using q,fun j hj=> ?_⟩;rw [Array.getElem?_setIfInBounds];by_cases e:i=j
 ·subst e;rw [if_pos rfl,if_pos (by omega)];simp
 ·rw [if_neg e];show k[j]? =some (if j=i then u else C j);rw [if_neg (Ne.symm e)];exact r j hj
theorem Wr.same{C:Nat ->Value}(h:Wr w g t n C)(e:w'.heap[g]? =w.heap[g]?):Wr w' g t n C:=by
 obtain⟨j,k,r⟩:=h;exact⟨j,e.trans k,r⟩
theorem Wr.ext{C C':Nat ->Value}(h:Wr w g t n C)(e:∀i,i<n ->C i=C' i):Wr w g t n C':=by
 obtain⟨j,k,m,q⟩:=h;exact⟨j,k,m,fun i hi=>by rw [<- e i hi];exact q i hi⟩
theorem Wr.lt{C:Nat ->Value}(h:Wr w g t n C):g<w.heap.size:=by
 obtain⟨k,j,_⟩:=h;exact(Array.getElem?_eq_some_iff.1 j).1
theorem PMk.wr(h:PMk w g n):∃C,Wr w g 9 n C:=by
 obtain⟨j,k,m⟩:=h;exact⟨fun i=>j.getD i default,j,k,m,fun i hi=>by simp [Array.getD,show i<j.size by omega]⟩
theorem Wr.pmk{C:Nat ->Value}(h:Wr w g 9 n C):PMk w g n:=by
 obtain⟨j,k,m,_⟩:=h;exact⟨j,k,m⟩
theorem PMk.any(h:PMk w g n):PMk (w.setCell ⟨b,i,none⟩ u) g n:=by
 by_cases e:b=g
 ·subst e;obtain⟨m,j,k⟩:=h;exact⟨_,Qc7 j,by simpa using k⟩
 ·exact h.set _ _ (Ne.symm e)
theorem Qhu(h:w.grownBy w' (some g))(i:Nat)(u:Value):w.grownBy (w'.setCell ⟨g,i,none⟩ u) (some g):=
 ⟨h.os,h.tape,h.output,by simpa [World.setCell] using h.size,fun k hk hne=>(zH _ _ _ _ (fun e=>hne (by rw [e]))).trans (h.block k hk hne)⟩
theorem Qfm(h:w.grownBy w1 (some g))(hb:Bl w1 w'):w.grownBy w' (some g):=
 ⟨hb.os.trans h.os,hb.tape.trans h.tape,hb.output.trans h.output,Nat.le_trans h.size hb.size,fun k hk hne=>(hb.block k (Nat.lt_of_lt_of_le hk h.size)).trans (h.block k hk hne)⟩
theorem QfU(r:Option Nat):w.grownBy w r:=⟨rfl,rfl,rfl,Nat.le_refl _,fun _ _ _=>rfl⟩
theorem Qcs (g n c k0:Nat)(C:Nat ->Value)(w:World)(hk:k0+n<=10000000000000)(h:Wr w g 9 n C):
  Cl 30 #[.slice (some ⟨g,0,none⟩) n c,.int .i64 (k0:Int)] w fun e w'=>e=.returned (.int .i64 ((k0+n:Nat):Int))/\ w.grownBy w' (some g)/\ Wr w' g 9 n (fun i=> .string (mkT (k0+i)))/\∀g' n',PMk w g' n' ->PMk w' g' n':=by
 have G:=hid h;clear h;go_enter Tryz.func30,Tryz.ntmps30;go_wp2_with fail;go_loopw [1,5] (fun q i wr=>∃(j m:Nat),j<=n/\ m=k0+j/\ i=.int .i64 (j:Int)/\ q=.int .i64 (m:Int)/\ Hid (w.grownBy wr (some g))/\ Hid (Wr wr g 9 n (fun t=>if t<j then .string (mkT (k0+t)) else C t))/\ Hid (∀g' n',PMk w g' n' ->PMk wr g' n')) (fun _ i _=>n - (intOf i).toNat);case atStart=>exact⟨0,k0,Nat.zero_le _,rfl,rfl,rfl,hid (QfU _),hid (G.ext fun i _=>by simp),hid (fun _ _ h=>h)⟩
 case round=>
  obtain⟨j,m,L,y,rfl,rfl,p,r,A⟩:=hrel;by_cases Q:j<n
  ·have X:(0:Int)<=(j:Int):=Int.natCast_nonneg _;have B:(j:Int)<(n:Int):=by omega
   have o:=hid (QbO m wr (by omega));have k:=hid y;obtain⟨s,b⟩:=zE (mkT m);rw [b] at o;have Z:=hid b;clear b y;go_wp2_with fail;refine o.mono ?_;rintro e w1 ⟨rfl,v⟩;have u:=r.same (v.block g r.lt);have E:=u.cell Q;have K:=u.frozen j;rw [if_neg (by omega)] at E;have V:=hid (Qhu (Qfm p v) j (.string s));have z:=hid (u.set j (.string s));have Y:Hid (∀g' n',PMk w g' n' ->PMk (w1.setCell ⟨g,j,none⟩ (.string s)) g' n'):=hid (fun g' n' h=>by
    have I:=A g' n' h;obtain⟨H,O,J⟩:=I;exact PMk.any ⟨H,(v.block g' (Array.getElem?_eq_some_iff.1 O).1).trans O,J⟩)
   have N:(m:Int)+1<=9223372036854775807:=by have:=k.out;omega
   clear v o u;obtain⟨v0,U⟩:=zE (C j);rw [U] at E;clear U;go_wp2_with fail;go_roundw;case rel=>
    refine⟨j+1,m+1,Q,by have:=k.out;omega,by go_num,by go_num,V,hid (z.ext fun i hi=> ?_),Y⟩;by_cases e:i=j
    ·subst e;rw [if_pos rfl,if_pos (by omega),<- Z.out,k.out]
    ·rw [if_neg e];by_cases M:i<j
     ·rw [if_pos M,if_pos (by omega)]
     ·rw [if_neg M,if_neg (by omega)]
   case measure=>simp [intOf];omega
  ·obtain rfl:j=n:=by omega
   have z:=hid (r.ext (C':=fun i=> .string (mkT (k0+i))) fun i hi=>if_pos hi);have k:=hid y;clear y r;go_wp2_with fail;go_ret;exact⟨by rw [<- k.out];rfl,p,z,A⟩
structure Btw (lo hi:Nat)(w w':World):Prop where
 os:w'.os=w.os
 tape:w'.tape=w.tape
 output:w'.output=w.output
 size:w.heap.size<=w'.heap.size
 block:∀g,g<w.heap.size ->(g<lo \/hi<=g) ->w'.heap[g]? =w.heap[g]?
theorem Btw.refl (lo hi:Nat)(w:World):Btw lo hi w w:=⟨rfl,rfl,rfl,Nat.le_refl _,fun _ _ _=>rfl⟩
theorem Btw.trans{a b c:World}(h:Btw lo hi a b)(k:Btw lo hi b c):Btw lo hi a c:=
 ⟨k.os.trans h.os,k.tape.trans h.tape,k.output.trans h.output,Nat.le_trans h.size k.size,fun g hg ho=>(k.block g (Nat.lt_of_lt_of_le hg h.size) ho).trans (h.block g hg ho)⟩
theorem Btw.of(h:w.grownBy w' (some g))(h1:lo<=g)(h2:g<hi):Btw lo hi w w':=
 ⟨h.os,h.tape,h.output,h.size,fun k hk ho=>h.block k hk (fun e=>by injection e with e;omega)⟩
theorem Btw.bw(h:Bl w w'):Btw lo hi w w':=⟨h.os,h.tape,h.output,h.size,fun k hk _=>h.block k hk⟩
theorem Btw.set(h:Btw lo hi w w')(q:Addr)(u:Value)(h1:lo<=q.block)(h2:q.block<hi):Btw lo hi w (w'.setCell q u):=
 ⟨h.os,h.tape,h.output,by simpa [World.setCell] using h.size,fun g hg ho=>(zH _ _ _ _ (by omega)).trans (h.block g hg ho)⟩
theorem Btw.low(h:Btw lo hi w w')(hl:lo<=w.heap.size):Below lo w w':=⟨h.os,h.tape,h.output,h.size,fun g hg=>h.block g (by omega) (.inl hg)⟩
structure LTo (w:World)(lo hi b:Nat)(l:List Lf)(j:Nat):Prop where
 wr:∃C,Wr w b 106 (l.length*5) C
 paths:∀i,j<=i ->i<l.length ->∃g,w.cell? ⟨b,i*5,none⟩=some (.slice (some ⟨g,0,none⟩) (gL l i).p.length (gL l i).p.length)/\ g≠b/\ lo<=g/\ g<hi
 str:∀i,j<=i ->i<l.length ->∀g n c,w.cell? ⟨b,i*5,none⟩=some (.slice (some ⟨g,0,none⟩) n c) ->PMk w g (gL l i).p.length
theorem LMk.to(h:LMk w lo hi b l):LTo w lo hi b l 0:=by
 obtain⟨o,⟨j,y,z⟩,v⟩:=h;refine⟨⟨fun i=>j.getD i default,j,y,z,fun i hi=>by simp [Array.getD,show i<j.size by omega]⟩,fun i _ hi'=> ?_,fun i _ hi' g n c hc=> ?_⟩
 ·obtain⟨g,k,m,q,r,u⟩:=v i hi';exact⟨g,k,m,q,r⟩
 ·obtain⟨t,k,m,q,r,u⟩:=v i hi';rw [k] at hc;simp at hc;obtain⟨rfl,_⟩:=hc;exact u
theorem LTo.btw(h:LTo w lo hi b l j):LTo w lo hi b l (j+1):=⟨h.wr,fun i hi=>h.paths i (by omega),fun i hi=>h.str i (by omega)⟩
theorem LTo.set{o:Nat}(h:LTo w lo hi b l j)(u:Value)(ho:o<j*5):LTo (w.setCell ⟨b,o,none⟩ u) lo hi b l j:=by
 obtain⟨C,k⟩:=h.wr;have q:∀i,j<=i ->(w.setCell ⟨b,o,none⟩ u).cell? ⟨b,i*5,none⟩=w.cell? ⟨b,i*5,none⟩:=fun i hi=>by
  have:o≠i*5:=by omega
  simp [World.cell?_setCell_other,this]
 refine⟨⟨_,k.set o u⟩,fun i h1 h2=> ?_,fun i h1 h2 g n c hc=> ?_⟩
 ·rw [q i h1];exact h.paths i h1 h2
 ·rw [q i h1] at hc;exact(h.str i h1 h2 g n c hc).any
theorem LTo.grown(h:LTo w lo hi b l j)(hg:w.grownBy w' (some g))(hb:g≠b)(hp:∀g' n',PMk w g' n' ->PMk w' g' n'):LTo w' lo hi b l j:=by
 obtain⟨C,k⟩:=h.wr;have e:w'.heap[b]? =w.heap[b]? :=hg.block b k.lt (fun e=>hb (by injection e with e;exact e.symm));have q:∀i,w'.cell? ⟨b,i*5,none⟩=w.cell? ⟨b,i*5,none⟩:=fun i=>World.cell?_of_block (a:=⟨b,i*5,none⟩) e;refine⟨⟨C,k.same e⟩,fun i h1 h2=> ?_,fun i h1 h2 g n c hc=> ?_⟩
 ·rw [q i];exact h.paths i h1 h2
 ·rw [q i] at hc;exact hp _ _ (h.str i h1 h2 g n c hc)
theorem LTo.bw(h:LTo w lo hi b l j)(hb:Bl w w'):LTo w' lo hi b l j:=by
 obtain⟨C,m⟩:=h.wr;have e:=hb.block b m.lt;have q:∀i,w'.cell? ⟨b,i*5,none⟩=w.cell? ⟨b,i*5,none⟩:=fun i=>World.cell?_of_block (a:=⟨b,i*5,none⟩) e;refine⟨⟨C,m.same e⟩,fun i h1 h2=> ?_,fun i h1 h2 g n c hc=> ?_⟩
 ·rw [q i];exact h.paths i h1 h2
 ·rw [q i] at hc;obtain⟨r,k,u⟩:=h.str i h1 h2 g n c hc;exact⟨r,(hb.block g (Array.getElem?_eq_some_iff.1 k).1).trans k,u⟩
theorem Qh2 (lo hi b c k0:Nat)(l:List Lf)(w:World)(hk:k0<=4000000000000)(hn:l.length<=1048576)(hp:∀i,(gL l i).p.length<=1048576)(hb:lo<=b/\ b<hi)(h:LTo w lo hi b l 0):
  Cl 53 #[.slice (some ⟨b,0,none⟩) l.length c,.int .i64 (k0:Int)] w fun e w'=>(∃k1:Nat,k1<=k0+2000000000000/\ e=.returned (.int .i64 (k1:Int)))/\ Btw lo hi w w'/\∀(q:Nat) (cur:Array Value),w.heap[q]? =some (Obj.cells cur 124 (0,0)) ->w'.heap[q]? =w.heap[q]? :=by
 have HW:=hid h;have u:=hid hb;clear h hb;go_enter Tryz.func53,Tryz.ntmps53;go_wp2_with fail;go_loopw [1,5] (fun q i wr=>∃(j m:Nat),j<=l.length/\ m<=k0+j*1048580/\ i=.int .i64 (j:Int)/\ q=.int .i64 (m:Int)/\ Hid (Btw lo hi w wr)/\ Hid (LTo wr lo hi b l j)/\ Hid (∀(q:Nat) (cur:Array Value),w.heap[q]? =some (Obj.cells cur 124 (0,0)) ->wr.heap[q]? =w.heap[q]?)) (fun _ i _=>l.length - (intOf i).toNat);case atStart=>exact⟨0,k0,Nat.zero_le _,by omega,rfl,rfl,hid (Btw.refl _ _ _),HW,hid (fun _ _ _=>rfl)⟩
 case round=>
  obtain⟨j,m,hj,hm,rfl,rfl,U,z,V⟩:=hrel;by_cases I:j<l.length
  ·have i1:(0:Int)<=(j:Int):=Int.natCast_nonneg _;have i2:(j:Int)<(l.length:Int):=by omega
   obtain⟨g,G,g2,g3,g4⟩:=z.paths j zL I;obtain⟨PC,M⟩:=(z.str j zL I _ _ _ G).wr;have Hh:=hp j;obtain⟨L,Hd⟩:=zE ((gL l j).p.length);rw [Hd] at G M Hh;have P:=hid (Qcs g L L m PC wr (by omega) M);have Hg:Hid (∀(q:Nat) (cur:Array Value),w.heap[q]? =some (Obj.cells cur 124 (0,0)) ->q≠g):=hid (fun q cur h e=>by
    subst e;obtain⟨Ha,r,_⟩:=M;rw [V _ _ h,h] at r;injection r with r;injection r with _ h2;exact absurd h2 (by decide))
   clear M Hd;go_wp2_with fail;refine P.mono ?_;rintro e w1 ⟨rfl,O,Hi,He⟩;have R:Hid (∀(q:Nat) (cur:Array Value),w.heap[q]? =some (Obj.cells cur 124 (0,0)) ->w1.heap[q]? =w.heap[q]?):=hid (fun q cur h=>(O.block q (Nat.lt_of_lt_of_le (Array.getElem?_eq_some_iff.1 h).1 U.size) (fun e=>Hg.out q cur h (by injection e))).trans (V q cur h));have s:=z.btw.grown O g2 He;have S:Hid (∀(q:Nat) (cur:Array Value),w.heap[q]? =some (Obj.cells cur 124 (0,0)) ->q≠b):=hid (fun q cur h e=>by
    subst e;obtain⟨C',Ha,r,_⟩:=s.wr;rw [R _ _ h,h] at r;injection r with r;injection r with _ h2;exact absurd h2 (by decide))
   have N:=hid (U.trans (Btw.of O g3 g4));obtain⟨C,y⟩:=s.wr;have D:=hid s;obtain⟨k,Hc⟩:=zE (m+L);have Hj:k<=k0+j*1048580+1048576:=by omega
   have c1:=y.cell (i:=j*5+1) (by omega);have c2:=y.cell (i:=j*5+2) (by omega);have c3:=y.cell (i:=j*5+3) (by omega);have f1:=y.frozen (j*5+1);have f2:=y.frozen (j*5+2);have f3:=y.frozen (j*5+3);rw [Hc];clear y s O Hi He P Hc G z;go_wp2_with fail;obtain⟨A,t⟩:=zE (((w1.setCell ⟨b,j*5+1,none⟩ (.bool ((k:Int)%3==0))).setCell ⟨b,j*5+2,none⟩ (.int .i64 ((k:Int)+1))).setCell ⟨b,j*5+2+1,none⟩ (.int .i64 ((k:Int)+1+1)));rw [t];have T:LTo A lo hi b l (j+1):=by rw [<- t];exact((D.set _ (by omega)).set _ (by omega)).set _ (by omega)
   have Q:Btw lo hi w A:=by rw [<- t];exact((N.set _ _ u.1 u.2).set _ _ u.1 u.2).set _ _ u.1 u.2
   have W:∀(q:Nat) (cur:Array Value),w.heap[q]? =some (Obj.cells cur 124 (0,0)) ->A.heap[q]? =w.heap[q]? :=fun q cur h=>by
    have J:=S q cur h;rw [<- t,zH _ _ _ _ J,zH _ _ _ _ J,zH _ _ _ _ J];exact R q cur h
   have Z:=QbO (k+3) A (by omega);have e3:((k+3:Nat):Int)=(k:Int)+1+1+1:=by omega
   rw [e3] at Z;clear t c1 c2 c3 f1 f2 f3 D N e3;refine Z.mono ?_;rintro e w4 ⟨rfl,E⟩;have Y:=T.bw E;have Hf:Hid (∀(q:Nat) (cur:Array Value),w.heap[q]? =some (Obj.cells cur 124 (0,0)) ->∀v,(w4.setCell ⟨b,j*5+4,none⟩ v).heap[q]? =w.heap[q]?):=hid (fun q cur h v=>by
    rw [zH _ _ _ _ (S q cur h),E.block q (Nat.lt_of_lt_of_le (Array.getElem?_eq_some_iff.1 h).1 Q.size)];exact W q cur h)
   have X:=hid (Q.trans (Btw.bw E));obtain⟨C4,H⟩:=Y.wr;have c4:=H.cell (i:=j*5+4) (by omega);have f4:=H.frozen (j*5+4);have F:=hid (Y.set (o:=j*5+4) (.string (mkT (k+3))) (by omega));have B:=hid (X.set ⟨b,j*5+4,none⟩ (.string (mkT (k+3))) u.1 u.2);obtain⟨t4,K⟩:=zE (mkT (k+3));rw [K] at F B;rw [K];clear H Y T Q W E X Z K;go_wp2_with fail;go_roundw;case rel=>exact⟨j+1,k+4,I,by omega,by go_num,by go_num,B,F,hid (fun q cur h=>Hf.out q cur h _)⟩
   case measure=>simp [intOf];omega
  ·obtain rfl:j=l.length:=by omega
   clear z;go_wp2_with fail;go_ret;exact⟨⟨m,by omega,rfl⟩,U,V⟩
theorem Qeg (lo hi b g n k0:Nat)(l:List Lf)(ys:List Value)(w:World)(hk:k0<=4000000000000)(hn:l.length<=1048576)(hp:∀i,(gL l i).p.length<=1048576)(hm:n<=1048576)(hh:hi<=w.heap.size)(hg:lo<=g/\ g<hi)(h:LMk w lo hi b l)(ho:w.ownsRow lo 124 3 (.slice (some ⟨g,0,none⟩) n n) n ys):
  Cl 29 #[.agg #[.slice (some ⟨b,0,none⟩) l.length l.length,.slice (some ⟨g,0,none⟩) n n],.int .i64 (k0:Int)] w fun e w'=>(∃k1:Nat,k1<=k0+3000000000000/\ e=.returned (.int .i64 (k1:Int)))/\ Btw lo hi w w':=by
 obtain⟨W,j⟩:=zE (w.alloc (.cells #[.slice (some ⟨b,0,none⟩) l.length l.length,.slice (some ⟨g,0,none⟩) n n] 40));have u:Bl w W:=by rw [<- j];exact zO _ _
 have P:w.heap.size<W.heap.size:=by rw [<- j];simp
 have B:W.cell? ⟨w.heap.size,0,none⟩=some (.slice (some ⟨b,0,none⟩) l.length l.length):=by rw [<- j];simp
 have Z:W.cell? ⟨w.heap.size,1,none⟩=some (.slice (some ⟨g,0,none⟩) n n):=by rw [<- j];simp
 have s:=hid (Qh2 lo hi b l.length k0 l W (by omega) hn hp h.1 (h.to.bw u));have A:=hid (Qbc ho u (fun k hk=>by simp [Value.ownBlock] at hk;omega));have I:=hid (Btw.bw (lo:=lo) (hi:=hi) u);clear h ho u;go_enter Tryz.func29,Tryz.ntmps29;go_wp2_with fail;try rw [j]
 clear j;refine s.mono ?_;rintro e w1 ⟨⟨m,R,rfl⟩,z,y⟩;have K:=(World.cell?_of_block (a:=⟨w.heap.size,1,none⟩) (z.block w.heap.size P (.inr hh))).trans Z;have E:Hid (∃ys,w1.ownsRow lo 124 3 (.slice (some ⟨g,0,none⟩) n n) n ys):=hid (by
  obtain⟨C,t⟩:=A.out;refine⟨ys,C,?_⟩;rcases t with ⟨t,_⟩|⟨O,L,M,e,N,Q,r⟩
  ·cases t
  ·exact .inr ⟨O,L,M,e,N,(y O M Q).trans Q,r⟩)
 have o:=hid (I.trans z);clear z y s A B Z;go_wp2_with fail;obtain⟨F,H⟩:=E.out;refine(Qd6 lo g n n m F w1 (by have:=o.size;omega) (by omega) (by omega) H).mono ?_;rintro e D ⟨rfl,v,_,Y,U⟩;have J:=hid (o.trans (⟨v.os,v.tape,v.output,Y,fun q y ho=>U q y (by omega)⟩:Btw lo hi w1 D));obtain⟨G,V⟩:=zE (m+3*n);rw [V];have X:G<=k0+3000000000000:=by omega
 clear v Y U H E V K;go_wp2_with fail;go_ret;exact⟨⟨G,X,rfl⟩,J⟩
def LAt (w:World)(b off:Nat)(l:List Lf)(i m:Nat):Prop:=b<w.heap.size/\∀t,t<m ->∃qa qc,w.cell? ⟨b,off+t*5,none⟩=some (.slice qa (gL l (i+t)).p.length qc)/\ Qaw w qa (gL l (i+t)).p/\ w.cell? ⟨b,off+t*5+1,none⟩=some (.bool (gL l (i+t)).fl)/\ w.cell? ⟨b,off+t*5+2,none⟩=some (.int .i64 (gL l (i+t)).r)/\ w.cell? ⟨b,off+t*5+3,none⟩=some (.int .i64 (gL l (i+t)).q)/\ w.cell? ⟨b,off+t*5+4,none⟩=some (.string (gL l (i+t)).v)
theorem LAt.bw(h:LAt w b off l i m)(hb:Bl w w'):LAt w' b off l i m:=
 ⟨Nat.lt_of_lt_of_le h.1 hb.size,fun t ht=>by
  obtain⟨y,z,j,k,q,r,u,v⟩:=h.2 t ht;exact⟨y,z,(hb.cell (p:=⟨b,_,none⟩) h.1).trans j,k.bw hb,(hb.cell (p:=⟨b,_,none⟩) h.1).trans q,(hb.cell (p:=⟨b,_,none⟩) h.1).trans r,(hb.cell (p:=⟨b,_,none⟩) h.1).trans u,(hb.cell (p:=⟨b,_,none⟩) h.1).trans v⟩⟩
theorem LAt.take(h:LAt w b off l i m)(hk:k<=m):LAt w b off l i k:=⟨h.1,fun t ht=>h.2 t (by omega)⟩
theorem LAt.drop(h:LAt w b off l i m)(hk:k<=m):LAt w b (off+k*5) l (i+k) (m - k):=⟨h.1,fun t ht=>by
 have:=h.2 (k+t) (by omega);rw [show off+(k+t)*5=off+k*5+t*5 by omega,show i+(k+t)=i+k+t by omega] at this;exact this⟩
def kAt (d n:Nat)(fl:Bool):Int:=if d+1<n then 3 else kd fl
theorem Qgh (pa:Option Addr)(n pc:Nat)(fl:Bool)(r q:Int)(v:ByteArray)(d:Nat)(w:World)(hn:n<=1048576)(hd:d<=1000):
  Cl 121 #[.agg #[.slice pa n pc,.bool fl,.int .i64 r,.int .i64 q,.string v],.int .i64 (d:Int)] w (Rt w (.int .i64 (kAt d n fl))):=by
 have k:=hid (zO w (.cells #[.slice pa n pc,.bool fl,.int .i64 r,.int .i64 q,.string v] 106));by_cases h:d+1<n
 ·have m:(d:Int)+1<(n:Int):=by omega
  have j:Hid (kAt d n fl=3):=hid (if_pos h);go_enter Tryz.func121,Tryz.ntmps121;go_wp2_with fail;go_ret;exact⟨by rw [j.out];rfl,k⟩
 ·have m:¬(d:Int)+1<(n:Int):=by omega
  cases fl with
  | true=>
   have j:Hid (kAt d n true=2):=hid (if_neg h);go_enter Tryz.func121,Tryz.ntmps121;go_wp2_with fail;go_ret;exact⟨by rw [j.out];rfl,k⟩
  | false=>
   have j:Hid (kAt d n false=1):=hid (if_neg h);go_enter Tryz.func121,Tryz.ntmps121;go_wp2_with fail;go_ret;exact⟨by rw [j.out];rfl,k⟩
theorem QjI (l:List Lf)(b off i m c d:Nat)(w:World)(hm:1<=m)(hm2:m<=1048576)(hd:d<=1000)(hp:∀t,t<m ->d<(gL l (i+t)).p.length/\ (gL l (i+t)).p.length<=1048576)(h:LAt w b off l i m):
  Cl 120 #[.slice (some ⟨b,off,none⟩) m c,.int .i64 (d:Int)] w fun e w'=>(∃g:Nat,e=.returned (.int .i64 (g:Int))/\ 1<=g/\ g<=m/\ (∀t,t<g ->Qar (gL l (i+t)).p (kd (gL l (i+t)).fl) d=Qar (gL l i).p (kd (gL l i).fl) d)/\ (g<m ->Qar (gL l (i+g)).p (kd (gL l (i+g)).fl) d≠Qar (gL l i).p (kd (gL l i).fl) d))/\ Bl w w':=by
 have HL:=hid h;have HP:=hid hp;clear h hp;go_enter Tryz.func120,Tryz.ntmps120;go_wp2_with fail;go_loopw [5] (fun i' wr=>∃k:Nat,k<=m/\ i'=.int .i64 k/\ Hid (∀t,t<k ->Qar (gL l (i+t)).p (kd (gL l (i+t)).fl) d=Qar (gL l i).p (kd (gL l i).fl) d)/\ Hid (Bl w wr)) (fun i' _=>m - (intOf i').toNat);case atStart=>exact⟨0,Nat.zero_le _,rfl,hid (fun t ht=>by omega),hid zI⟩
 case round=>
  obtain⟨k,hk,rfl,T,u⟩:=hrel;by_cases Hd:k<m
  ·have Z:=HL.bw u;obtain⟨qa,kc,Q,hs,G,H,I,J⟩:=Z.2 k Hd;obtain⟨qz,zc,r,gs,o,A,E,M⟩:=Z.2 0 (by omega);have B:=HP k Hd;have Y:=HP 0 (by omega);simp only [Nat.add_zero,Nat.zero_mul] at r gs o A E M Y;rcases hs with hs|⟨C,ko,rfl,Hs,Hl⟩
   ·omega
   rcases gs with gs|⟨F,zo,rfl,Ht,Ho⟩
   ·omega
   have U:=Hl d B.1;have O:=Ho d Y.1;have Ha:Hid (k=0 ->gL l (i+k)=gL l i):=hid (fun e=>by rw [e,Nat.add_zero]);have q:Hid (Qar (gL l (i+k)).p (kd (gL l (i+k)).fl) d=Qar (gL l i).p (kd (gL l i).fl) d↔gS (gL l (i+k)).p d=gS (gL l i).p d/\ kAt d (gL l (i+k)).p.length (gL l (i+k)).fl=kAt d (gL l i).p.length (gL l i).fl):=hid (by unfold Qar kAt;exact Prod.mk.injEq _ _ _ _ ▸ Iff.rfl);have Hb:Hid (Qar (gL l (i+k)).p (kd (gL l (i+k)).fl) d≠Qar (gL l i).p (kd (gL l i).fl) d ->1<=k):=hid (fun hne=>by
    rcases Nat.eq_zero_or_pos k with e|e
    ·exact absurd (by rw [Ha e]) hne
    ·exact e)
   have Hi:Hid (∀v,Qar (gL l (i+k)).p (kd (gL l (i+k)).fl) d≠Qar (gL l i).p (kd (gL l i).fl) d ->v=k ->(1<=v/\ v<=m/\ (∀t,t<v ->Qar (gL l (i+t)).p (kd (gL l (i+t)).fl) d=Qar (gL l i).p (kd (gL l i).fl) d)/\ (v<m ->Qar (gL l (i+v)).p (kd (gL l (i+v)).fl) d≠Qar (gL l i).p (kd (gL l i).fl) d))):=hid (fun v h e=>by subst e;exact⟨Hb h,hk,T,fun _=>h⟩);have Hp:Hid (Qar (gL l (i+k)).p (kd (gL l (i+k)).fl) d=Qar (gL l i).p (kd (gL l i).fl) d ->∀t,t<k+1 ->Qar (gL l (i+t)).p (kd (gL l (i+t)).fl) d=Qar (gL l i).p (kd (gL l i).fl) d):=hid (fun h t ht=>by
    by_cases e:t=k
    ·subst e;exact h
    ·exact T t (by omega))
   obtain⟨X,hX⟩:=zE ((Qar (gL l (i+k)).p (kd (gL l (i+k)).fl) d=Qar (gL l i).p (kd (gL l i).fl) d));have W:=hid hX;rw [hX] at q;clear Hl Ho;obtain⟨yk,Hm⟩:=zE (gL l (i+k));obtain⟨yz,Hn⟩:=zE (gL l i);rw [Hm] at Q G H I J U B q;rw [Hn] at r o A E M O Y q;clear Hm Hn;obtain⟨kp,kf,kr,kq,kv⟩:=yk;obtain⟨zp,zf,zr,zq,zv⟩:=yz;dsimp only at Q G H I J U B r o A E M O Y q;clear hX;obtain⟨s,He⟩:=zE (gS kp d);obtain⟨z,Hf⟩:=zE (gS zp d);obtain⟨D,Hc⟩:=zE kp.length;obtain⟨P,Hg⟩:=zE zp.length;rw [He,Hf,Hc,Hg] at q;rw [He] at U;rw [Hf] at O;rw [Hc] at Q B;rw [Hg] at r Y;have i1:(0:Int)<=(k:Int):=Int.natCast_nonneg _;have i2:(k:Int)<(m:Int):=by omega
   have i3:(0:Int)<=(d:Int):=Int.natCast_nonneg _;have i4:(d:Int)<(D:Int):=by omega
   have i5:(d:Int)<(P:Int):=by omega
   have i6:(0:Int)<(m:Int):=by omega
   have i7:0<m:=by omega
   have j:b<wr.heap.size:=Z.1;clear He Hf Hc Hg Z;have dk:decide ((k:Int)<(m:Int))=true:=by simp;omega
   have Hr:decide (k<m)=true:=by simp;omega
   go_wp2_with fail;cases hsz:(s.toList==z.toList) with
   | false=>
    have y:Hid (¬X):=hid (fun h=>by rw [(q.1 h).1] at hsz;simp at hsz);go_quiet (fail);have R:=hid (Qat u nq);go_wp2_with fail;go_ret;exact⟨⟨k,rfl,Hi k (fun h=>y.out (by rw [<- W.out];exact h)) rfl⟩,R⟩
   | true=>
    have Hq:Hid (s=z):=hid (Qbd (by simpa using hsz));have S:Hid (∀w',Bl wr w' ->(Bl wr w'/\ w'.cell? ⟨b,off+k*5,none⟩=some (.slice (some ⟨C,ko,none⟩) D kc)/\ w'.cell? ⟨b,off+k*5+1,none⟩=some (.bool kf)/\ w'.cell? ⟨b,off+k*5+2,none⟩=some (.int .i64 kr)/\ w'.cell? ⟨b,off+k*5+3,none⟩=some (.int .i64 kq)/\ w'.cell? ⟨b,off+k*5+4,none⟩=some (.string kv)/\ w'.cell? ⟨C,ko+d,none⟩=some (.string s)/\ w'.cell? ⟨b,off,none⟩=some (.slice (some ⟨F,zo,none⟩) P zc)/\ w'.cell? ⟨b,off+1,none⟩=some (.bool zf)/\ w'.cell? ⟨b,off+2,none⟩=some (.int .i64 zr)/\ w'.cell? ⟨b,off+3,none⟩=some (.int .i64 zq)/\ w'.cell? ⟨b,off+4,none⟩=some (.string zv)/\ w'.cell? ⟨F,zo+d,none⟩=some (.string z))):=hid (fun w' hB=>⟨hB,(hB.cell (p:=⟨b,_,none⟩) j).trans Q,(hB.cell (p:=⟨b,_,none⟩) j).trans G,(hB.cell (p:=⟨b,_,none⟩) j).trans H,(hB.cell (p:=⟨b,_,none⟩) j).trans I,(hB.cell (p:=⟨b,_,none⟩) j).trans J,(hB.cell (p:=⟨C,_,none⟩) Hs).trans U,(hB.cell (p:=⟨b,_,none⟩) j).trans r,(hB.cell (p:=⟨b,_,none⟩) j).trans o,(hB.cell (p:=⟨b,_,none⟩) j).trans A,(hB.cell (p:=⟨b,_,none⟩) j).trans E,(hB.cell (p:=⟨b,_,none⟩) j).trans M,(hB.cell (p:=⟨F,_,none⟩) Ht).trans O⟩);clear Q G H I J U r o A E M O;refine zS S (fun qh=> ?_);refine tZ 0 6 ?_;refine tZ 1 7 ?_;refine tZ 2 8 ?_;refine tZ 3 9 ?_;refine tZ 4 10 ?_;refine tZ 5 11 ?_;refine tZ 6 12 ?_;refine tZ 7 13 ?_;refine tZ 8 14 ?_;refine tZ 9 15 ?_;refine tZ 10 16 ?_;refine tZ 11 17 ?_;refine tZ 12 18 ?_;refine tZ 13 19 ?_;refine tZ 14 20 ?_;refine tZ 15 21 ?_;refine tZ 16 22 ?_;refine tZ 17 23 ?_;refine tZ 18 24 ?_;refine tZ 19 25 ?_;refine tZ 20 26 ?_;refine tZ 21 27 ?_;refine tZ 22 28 ?_;refine tZ 23 29 ?_;refine tZ 24 30 ?_;refine tZ 25 31 ?_;refine tZ 26 32 ?_;refine tZ 27 33 ?_;refine tZ 29 35 ?_;refine tZ 30 36 ?_;refine tZ 31 37 ?_;refine tZ 32 38 ?_;refine cZ 28 ?_;intro K V;go_simp;refine(Qgh (some ⟨C,ko,none⟩) D kc kf kr kq kv d _ (by omega) hd).mono ?_;rintro e w1 ⟨rfl,b1⟩;have L:=Qaa qh.1 b1;refine V.out _ _ (S _ L) (fun qh=> ?_);clear V K;try simp only [zP]
    refine cZ 33 ?_;intro K V;go_simp;refine(Qgh (some ⟨F,zo,none⟩) P zc zf zr zq zv d _ (by omega) hd).mono ?_;rintro e w2 ⟨rfl,b2⟩;have N:=Qaa L b2;refine V.out _ _ (S _ N) (fun qh=> ?_);clear V K;try simp only [zP]
    have Hh:=hid (u.trans (N.mono u.size));obtain⟨K1,Hj⟩:=zE (kAt d D kf);obtain⟨K2,Hk⟩:=zE (kAt d P zf);rw [Hj,Hk] at q ⊢;clear Hj Hk b1 b2;cases hkk:(K1==K2) with
    | false=>
     refine tZ 34 40 ?_;refine tZ 35 41 ?_;refine zD ?_;have y:Hid (¬X):=hid (fun h=>by rw [(q.1 h).2] at hkk;simp at hkk);clear qh L N;go_wp2_with fail;go_ret;exact⟨⟨k,rfl,Hi k (fun h=>y.out (by rw [<- W.out];exact h)) rfl⟩,Hh⟩
    | true=>
     refine tZ 34 40 ?_;refine tZ 35 41 ?_;refine zD ?_;have y:Hid X:=hid (q.2 ⟨Hq,by simpa using hkk⟩);clear qh L N;go_wp2_with fail;go_roundw;case rel=>exact⟨k+1,Hd,by go_num,hid (Hp (by rw [W.out];exact y)),Hh⟩
     case measure=>simp [intOf];omega
  ·obtain rfl:k=m:=by omega
   have dk:decide ((k:Int)<(k:Int))=false:=by simp
   have Hr:decide (k<k)=false:=by simp
   go_wp2_with fail;go_quiet (fail);have R:=hid (Qat u nq);go_wp2_with fail;go_ret;exact⟨⟨k,rfl,hm,Nat.le_refl _,T,fun h=>by omega⟩,R⟩
theorem Qao {P:Program}{ops:Array Oper}{rest:List Oper}{o:Oper}{a:Act}{Q:Exit ->Act ->World ->Prop}(hgd:o.guard=none)(s x:Operand)(t:TypeId)
  (ho:o.op=.call {callee:=.builtin .append,args:=#[s,x],argTypes:=#[t,t]})
  (base:Nat) (e:TypeId) (i:TypeInfo) (z:Value) (size bytes:Nat) (ht:P.underlying t=some (.slice e)) (hi:P.info? e=some i) (hz:i.zero=some z)
  (hsize:i.size=size) (hby:i.bytes=bytes) (hzs:z.cells.size=size) (hsz:0<size)
  (v:Value) (n:Nat) (xs:List Value) (hs:a.eval s=v) (hown:w.ownsRow base e size v n xs)
  (ad:Addr) (m c:Nat) (news:List Value) (hx:a.eval x=.slice (some ad) m c) (hl:news.length=m*size) (hnews:∀j u,news[j]? =some u ->w.cell? (ad.add j)=some u) (h1:∀u∈news,u.oneCell'=true)
  (h63:n+m<=maxLen) (hbytes:(n+m)*bytes<=140737488355328) (hbase:base<=w.heap.size)
  (h:∀v' w',w'.ownsRow base e size v' (n+m) (xs++news) ->w.grownBy w' v.ownBlock ->(v'.ownBlock=v.ownBlock \/v'.ownBlock=some w.heap.size) ->wpList P ops Q rest (a.put o.dst v') w'):wpList P ops Q (o::rest) a w:=
 wpList_plain hgd fun _ hK=>QcE s x t ho base e i z size bytes ht hi hz hsize hby hzs hsz v n xs hs hown ad m c news hx hl hnews h1 h63 hbytes hbase fun v' w' h2 h3 h4=>hK _ _ (h v' w' h2 h3 h4)
structure Gr (w w':World)(b0 b:Value):Prop where
 g:w.grownBy w' b0.ownBlock
 l:b.ownBlock=b0.ownBlock \/∃k,b.ownBlock=some k/\ w.heap.size<=k
theorem Gr.refl (w:World)(b:Value):Gr w w b b:=⟨⟨rfl,rfl,rfl,Nat.le_refl _,fun _ _ _=>rfl⟩,.inl rfl⟩
theorem Gr.trans {w2:World}{b1 b2:Value}(h1:Gr w w1 b0 b1)(h2:Gr w1 w2 b1 b2):Gr w w2 b0 b2:=by
 refine⟨h1.g.andThen h2.g (fun j hj=> ?_),?_⟩
 ·rcases h1.l with e|⟨k,e,m⟩
  ·exact .inr (e ▸ hj)
  ·rw [e] at hj;injection hj with hj;exact .inl (by omega)
 ·rcases h2.l with e|⟨k,e,m⟩
  ·rw [e];exact h1.l
  ·exact .inr ⟨k,e,Nat.le_trans h1.g.size m⟩
theorem Gr.alloc{b:Value}(h:Gr w w1 b0 b)(o:Obj):Gr w (w1.alloc o) b0 b:=
 h.trans ⟨World.grownBy_alloc w1 o _,.inl rfl⟩
theorem Gr.app{b:Value}(h:w.grownBy w1 b.ownBlock)(hl:b'.ownBlock=b.ownBlock \/b'.ownBlock=some w.heap.size):Gr w w1 b b':=
 ⟨h,hl.imp id (fun e=>⟨_,e,Nat.le_refl _⟩)⟩
theorem Gr.bw{b:Value}(h:Gr w w1 b b')(hB:B<=w.heap.size)(hb:∀k,b.ownBlock=some k ->B<=k):Below B w w1:=
 (Below.refl B w).grown h.g hB hb
theorem Gr.of_below{b:Value}(h:Bl w w1):Gr w w1 b b:=
 ⟨⟨h.os,h.tape,h.output,h.size,fun k hk _=>h.block k hk⟩,.inl rfl⟩
end Go.Proofs.YtgmjgboibfdaeaaGreatDoor
