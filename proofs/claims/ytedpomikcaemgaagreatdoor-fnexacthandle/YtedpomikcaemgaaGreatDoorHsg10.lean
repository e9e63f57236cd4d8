import Derived.Test.YtedpomikcaemgaaGreatDoorHsg09
set_option linter.unusedVariables false
set_option linter.unusedSimpArgs false
set_option maxRecDepth 100000
set_option maxHeartbeats 40000000
namespace Go.Proofs.YtedpomikcaemgaaGreatDoor
open Go.ChangeShapes Go.WideShapes Go.ChangeAt Go.RowKit Go.Deep Go.Proofs.Tryz
open Go.Value renaming slice → Uf, int → Ug, pointer → Uk, tuple → Ul, string → Um, bool → Un, agg → Uo
open Go.IntKind renaming i64 → Uh
open Go.Ending renaming returned → Ui
open Go.Obj renaming cells → Uj
open Option renaming none → Up, some → Uq
open Go renaming World → Ur, Addr → Us
open Nat renaming lt_of_lt_of_le → Ut, le_trans → Ux, le_refl → Uu
open Go.World renaming cell?_of_block → UB, setCell → UC, cell? → UE, cell?_alloc_lt → JG, cell?_alloc_at → UJ, frozen?_alloc_old → JI, cell?_setCell_same → UH, cell?_setCell_far → UF, cell?_setCell_other → UI, cell?_alloc_past → YM, frozen?_alloc_at → UK, frozen?_of_block → Ys
variable {B B' T b b0 base c c' d d' g h1 h2 hi l1 l2 lo n r rb:Nat}{C k:Int}{D S X Z:Sx}{W w w' w1:Ur}{a a' x x':Option Us}{e:Ending}{f:Nat ->Int}{held:Bool}{v v0 v1:Value}{zs:List Int}
theorem QfI{e:TypeId}{z:Nat}{xs:List Value}(h:w.ownsRow B e z v n xs)(hq:∀q,B<=q ->q<w.heap.size ->w'.heap[q]? =w.heap[q]?):w'.ownsRow B e z v n xs:=by
 obtain⟨u,y⟩:=h;refine⟨u,y.imp id ?_⟩;rintro⟨g,cap,m,e,j,k,r⟩;exact⟨g,cap,m,e,j,(hq g j (Array.getElem?_eq_some_iff.1 k).1).trans k,r⟩
theorem Own.stay(h:Own w B v zs)(hq:∀q,B<=q ->q<w.heap.size ->w'.heap[q]? =w.heap[q]?):Own w' B v zs:=QfI h hq
theorem Qey(hb:Bl w w')(h:Own w B v zs):Own w' B v zs:=h.stay (fun q _ h2=>hb.block q h2)
theorem FxR.stay{l:List Fx}(h:FxR w B v l)(hq:∀q,B<=q ->q<w.heap.size ->w'.heap[q]? =w.heap[q]?):FxR w' B v l:=⟨QfI h.row hq,fun i hi=>(h.pay i hi).stay hq,h.far,h.dis⟩
theorem FxR.bw{l:List Fx}(h:FxR w B v l)(hb:Bl w w'):FxR w' B v l:=h.stay (fun q _ h2=>hb.block q h2)
theorem Qmz (w:Ur)(B:Nat):FxR w B Ue []:=⟨World.ownsRow_nil _ _ _ _,fun i hi=>by simp at hi,fun i hi=>by simp at hi,fun i j hi=>by simp at hi⟩
theorem Qnt(K:Int)(ho:Own w B v zs)(hB:B<=w.heap.size):FxR (w.alloc (Uj #[Ud K,v] 47)) B (Uf (Uc w.heap.size) 1 1) [(K,v,zs)]:=by
 refine⟨World.ownsRow_lit (base:=B) (e:=47) (size:=2) w #[Ud K,v] 1 hB oL rfl,fun i hi=> ?_,fun i hi b hb e=> ?_,fun i j hi hj hne=> ?_⟩
 ·obtain rfl:i=0:=by simp at hi;omega
  exact World.ownsRow.alloc ho _
 ·obtain rfl:i=0:=by simp at hi;omega
  have k:=(World.ownsRow.lt ho b hb).2;have m:w.heap.size=b:=by simpa [Value.ownBlock] using e
  omega
 ·simp at hi hj;omega
def FNu (w:Ur)(lo:Nat)(a:Option Us)(l:List Fx):Prop:=∀w':Ur,w.heap.size<=w'.heap.size ->(∀q,lo<=q ->q<w.heap.size ->w'.heap[q]? =w.heap[q]?) ->FxS w' a l
theorem FNu.nil (w:Ur)(lo:Nat)(a:Option Us):FNu w lo a []:=fun _ _ _=> .inl rfl
theorem FNu.one{K:Int}(h0:w.cell? (Ub g)=Uq (Ud K))(h1:w.cell? (Ua g 1)=Uq v)(hl:lo<=g)(ho:Own w lo v zs):FNu w lo (Uc g) [(K,v,zs)]:=by
 intro w' q k;have j:g<w.heap.size:=block_lt_of_cell h0;refine .inr ⟨g,0,rfl,Ut j q,fun i hi=> ?_⟩;obtain rfl:i=0:=by simp at hi;omega
 have e:=k g hl j;obtain⟨r,cap,m,u⟩:=(ho.stay k).any;exact⟨(UB (a:=(Ub g)) e).trans h0,(UB (a:=(Ua g 1)) e).trans h1,r,cap,m,u⟩
theorem FNu.move{lo':Nat}{l:List Fx}(h:FNu w lo a l)(hl:lo'<=lo)(hs:w.heap.size<=w1.heap.size)(hq:∀q,lo<=q ->q<w.heap.size ->w1.heap[q]? =w.heap[q]?):FNu w1 lo' a l:=
 fun w' h1 h2=>h w' (Ux hs h1) (fun q h3 h4=>(h2 q (Ux hl h3) (Ut h4 hs)).trans (hq q h3 h4))
noncomputable def dgB (S:Sx)(f:Nat ->Int):Bool:=(Qby f 0 8).toList==(Qby (gz (eB (sxD S) 8)) 0 8).toList
noncomputable def hjB (S Y:Sx):Bool:=jnB S Y && QeI (jnZ S Y)
noncomputable def hnR (id:Int)(S D:Sx)(K:Int)(f:Nat ->Int)(n:Nat):Sx×List (Int×List Int)×Int:=
 if rpB id S D=true then
  if K=1/\ n=8 then(if dgB S f=true then(S,[],0) else(S,[(2,(sxZ S).1)],0))
  else if (K=2 \/K=3)/\ gsK f n=0 then
   if hjB S (gsX f n)=true then(jnZ S (gsX f n),[],0) else(S,[],3)
  else(S,[],2)
 else(S,[],1)
section
variable {id : Int} {S D : Sx} {K : Int} {f : Nat -> Int} {n : Nat}
theorem QqS (h:rpB id S D=false):hnR id S D K f n=(S,[],1):=by unfold hnR;rw [h];rfl
theorem QqV (h:rpB id S D=true)(h1:K=1)(h2:n=8)(h3:dgB S f=true):hnR id S D K f n=(S,[],0):=by
 unfold hnR;rw [if_pos h,if_pos ⟨h1,h2⟩,if_pos h3]
theorem QqU (h:rpB id S D=true)(h1:K=1)(h2:n=8)(h3:dgB S f=false):hnR id S D K f n=(S,[(2,(sxZ S).1)],0):=by
 unfold hnR;rw [if_pos h,if_pos ⟨h1,h2⟩,h3];rfl
theorem Qqd (h:rpB id S D=true)(h1:¬(K=1/\ n=8))(h2:¬((K=2 \/K=3)/\ gsK f n=0)):hnR id S D K f n=(S,[],2):=by
 unfold hnR;rw [if_pos h,if_neg h1,if_neg h2]
theorem QqT (h:rpB id S D=true)(h2:K=2 \/K=3)(h3:gsK f n=0)(h4:hjB S (gsX f n)=false):hnR id S D K f n=(S,[],3):=by
 unfold hnR;rw [if_pos h,if_neg oM,if_pos ⟨h2,h3⟩,h4];rfl
theorem QqR (h:rpB id S D=true)(h2:K=2 \/K=3)(h3:gsK f n=0)(h4:hjB S (gsX f n)=true):hnR id S D K f n=(jnZ S (gsX f n),[],0):=by
 unfold hnR;rw [if_pos h,if_neg oM,if_pos ⟨h2,h3⟩,if_pos h4]
theorem Qpp (hS:SmI S){X:Sx}{R:List (Int×List Int)}{C:Int}(h:hnR id S D K f n=(X,R,C)):SmI X:=by
 unfold hnR at h;split at h
 ·split at h
  ·split at h
   ·injection h with e1 e2;subst e1;exact hS
   ·injection h with e1 e2;subst e1;exact hS
  ·split at h
   ·split at h
    ·injection h with e1 e2;subst e1;exact QjL _ _
    ·injection h with e1 e2;subst e1;exact hS
   ·injection h with e1 e2;subst e1;exact hS
 ·injection h with e1 e2;subst e1;exact hS
theorem Qpo {X:Sx}{R:List (Int×List Int)}{C:Int}(h:hnR id S D K f n=(X,R,C)):R=[] \/R=[(2,(sxZ S).1)]:=by
 unfold hnR at h;split at h
 ·split at h
  ·split at h
   ·injection h with e1 e2;injection e2 with e2 e3;exact .inl e2.symm
   ·injection h with e1 e2;injection e2 with e2 e3;exact .inr e2.symm
  ·split at h
   ·split at h
    ·injection h with e1 e2;injection e2 with e2 e3;exact .inl e2.symm
    ·injection h with e1 e2;injection e2 with e2 e3;exact .inl e2.symm
   ·injection h with e1 e2;injection e2 with e2 e3;exact .inl e2.symm
 ·injection h with e1 e2;injection e2 with e2 e3;exact .inl e2.symm
end
theorem Qm2 (f:Nat ->Int)(n:Nat):gsK f n=0 \/gsK f n=1:=by
 unfold gsK;split
 ·exact .inr rfl
 ·exact .inl rfl
theorem Qj9(hf:Byt f)(n:Nat):SmI (gsX f n):=by
 cases h:gsS f n with
 | none=>
  have e:gsX f n=Sx.mt:=by unfold gsX;rw [h];rfl
  rw [e];exact QmH
 | some r=>
  have e:gsX f n=⟨r.2,r.1.length,lR r.1,lF r.1,lT r.1⟩:=by unfold gsX;rw [h]
  rw [e];rw [Qny hf] at h;cases h2:gsR f n with
  | none=>rw [h2] at h;cases h
  | some q=>
   rw [h2] at h;simp only [Option.map_some,Option.some.injEq] at h;subst h;have j:=Qm3 hf (g:=q.1) (J:=q.2) h2;have k:=Qax.1 j.1;exact QmM j.2.1 (by have:=k.2;show (Qau q.1).length<=1000;omega) (fun x hx=>QkG j.w x hx)
theorem QfQ{cap:Nat}(hf:Byt f)(h:Seg w a n f)(h0:0<n):(convert 30 9 (Uf a n cap)).run prog w=.ok (Um (Qby f 0 n)) w:=by
 rcases h with h|⟨b,off,rfl,k,j⟩
 ·omega
 ·exact Qdj (p:=0) hf (fun i hi=>by rw [Nat.add_zero,Nat.zero_add];exact j i hi)
theorem QgT (V:Nat):∀k,∀z∈eB V k,0<=z/\ z<256
 | 0=>by simp [eB]
 | k+1=>by
  intro z j;simp only [eB,List.mem_cons] at j;rcases j with rfl|j
  ·omega
  ·exact QgT V k z j
theorem QqZ (a a':Us)(L q1 q2:Nat)(s1 s2:ByteArray)(w:Ur)(v1:(convert 30 9 (Uf (Uq a) L q1)).run prog w=.ok (Um s1) w)(v2:(convert 30 9 (Uf (Uq a') L q2)).run prog w=.ok (Um s2) w):
  Cl 110 #[Uf (Uq a) L q1,Uf (Uq a') L q2] w fun e w'=>e=Ui (Un (s1.toList==s2.toList))/\ w'=w:=by
 obtain⟨r,j⟩:=zE ((s1.toList==s2.toList));rw [j];cases r with
 | true=>
  go_enter func110,ntmps110;go_wp2_with fail;go_ret;exact⟨rfl,rfl⟩
 | false=>
  go_enter func110,ntmps110;go_wp2_with fail;go_ret;exact⟨rfl,rfl⟩
open Go.Maps
def hdV:Option Value ->Value
 | none=> .nilFunc
 | some v=>v
abbrev HdM (w:Ur)(b c:Nat)(f:Int ->Option Value):Prop:=Qa1 w 3 (Value.int Uh) hdV b c f
theorem HdM.made (w:Ur):HdM (w.alloc (.map #[] 0)) w.heap.size 0 (fun _=>Up):=Qa1.made w _ _ _
theorem Qm6(hk:(Lit.int Uh k).wf=true):keyOf prog 3 (Ud k)=Uq (.int Uh k):=keyOf_int_mk underlying3 hk
theorem Qh7{f:Int ->Option Value}(h:HdM w b c f)(hc:c<1000)(hk:(Lit.int Uh k).wf=true){fv:Value}{o:Oper}{a:Act}{K:Act ->Ur ->Prop}{Q:Exit ->Act ->Ur ->Prop}{F:Unit ->Ur ->Result Next}
  (hK:∀w',HdM w' b (c+1) (QbX f k (Uq fv)) ->w.grownBy w' (Uq b) ->Oper.upon prog o a K Q ((Result.ok () w').andThen F)):
  Oper.upon prog o a K Q ((Sem.run prog (Instr.mapUpdate 101 (.map (Uq b)) (Ud k) fv) w).andThen F):=by
 obtain⟨w',j,m,q⟩:=h.store (int_keyed underlying3) (fun x y e=>by injection e) underlying101 oL (x:=k) (y:=fv) (Qm6 hk);have j:Sem.run prog (Instr.mapUpdate 101 (.map (Uq b)) (Ud k) fv) w=.ok () w':=j;rw [j];exact hK w' m q
theorem HdM.look{f:Int ->Option Value}(h:HdM w b c f)(hk:(Lit.int Uh k).wf=true):
  (Instr.lookup 101 (.map (Uq b)) (Ud k) true).run prog w=.ok (Ul #[hdV (f k),Un (f k).isSome]) w:=
 h.look_ok (int_keyed underlying3) underlying101 oK (x:=k) (Qm6 hk)
theorem QqG(h:SOw w lo hi a x d S)(hr:rb<lo)(v1 v2 v3 v4:Value):SOw ((((w.setCell (Ua rb 1) v1).setCell (Ua rb 2) v2).setCell (Ua rb 3) v3).setCell (Ua rb 4) v4) lo hi a x d S:=
 (((h.set (Ua rb 1) _ (.inl hr)).set (Ua rb 2) _ (.inl hr)).set (Ua rb 3) _ (.inl hr)).set (Ua rb 4) _ (.inl hr)
theorem QpM(h:SOw w lo hi a x d S)(hr:r<lo)(v0 v1 v2 v3 v4:Value):SOw (((((w.setCell (Ub r) v0).setCell (Ua r 1) v1).setCell (Ua r 2) v2).setCell (Ua r 3) v3).setCell (Ua r 4) v4) lo hi a x d S:=QqG (h.set (Ub r) v0 (.inl hr)) hr _ _ _ _
theorem rsK(hf:Byt f)(h:RsP f n w e w'):Bl w w'/\
  ((gsK f n=0/\∃m0 m1 m2,e=Ui (Ul #[Uo #[.map m0,.map m1,.map m2],.nilIface])/\∀u,Bl w' u ->Cl 115 #[Uo #[.map m0,.map m1,.map m2]] u fun e m=>∃a c x d,e=Ui (Uo #[Uf a (gsX f n).l.length c,Uf x (gsX f n).n d])/\ SOw m u.heap.size m.heap.size a x d (gsX f n)/\ Bl u m) \/
   (gsK f n=1/\∃t v,e=Ui (Ul #[Uo #[.map Up,.map Up,.map Up],.iface t v]))):=by
 obtain⟨b,⟨g,J,z0,s,k,rfl,p,A⟩|⟨k,t,v,rfl⟩⟩:=h
 ·have j:gsS f n=Uq (Qau g,J):=by rw [Qny hf,k];rfl
  have y:gsX f n=⟨J,(Qau g).length,lR (Qau g),lF (Qau g),lT (Qau g)⟩:=by unfold gsX;rw [j]
  have z:gsK f n=0:=by unfold gsK;rw [j]
  have r:=Qm3 hf k;refine⟨b,.inl ⟨z,_,_,_,rfl,fun u hu=>(QmQ u (p.bw hu) r.2.2.1 r.lvB).mono ?_⟩⟩;rintro e m ⟨⟨a,c,x,d,rfl,i,o,E⟩,q⟩;rw [y];exact⟨a,c,x,d,rfl,SOw.of (S:=⟨J,(Qau g).length,lR (Qau g),lF (Qau g),lT (Qau g)⟩) (i.low oM) (FR.weak o oM) rfl rfl rfl rfl q.size,q⟩
 ·have j:gsS f n=Up:=by rw [Qny hf,k];rfl
  exact⟨b,.inr ⟨by unfold gsK;rw [j],t,v,rfl⟩⟩
structure RpD (w:Ur)(rb:Nat)(id:Int)(B T l1 h1 l2 h2:Nat)(a x a' x':Option Us)(c d c' d':Nat)(S D:Sx):Prop where
 bx:Bx5 w rb (Ud id) (Uf a S.l.length c) (Uf x S.n d) (Uf a' D.l.length c') (Uf x' D.n d')
 s:SOw w l1 h1 a x d S
 t:SOw w l2 h2 a' x' d' D
 dj:h1<=l2 \/h2<=l1
 bd:B<=l1/\ B<=l2/\ h1<=T/\ h2<=T/\ T<=w.heap.size
theorem RpD.bw{id:Int}(h:RpD w rb id B T l1 h1 l2 h2 a x a' x' c d c' d' S D)(hb:Bl w w1):RpD w1 rb id B T l1 h1 l2 h2 a x a' x' c d c' d' S D:=
 ⟨h.bx.bw hb h.bx.lt,h.s.bw hb,h.t.bw hb,h.dj,oJ h.bd hb.size⟩
def ErC (C:Int)(er:Value)(w:Ur):Prop:=C=0/\ er=.nilIface \/∃b,er=.iface 95 (Uk (Uc b))/\ w.cell? (Ub b)=Uq (Ud C)
theorem ErC.made (w:Ur)(C:Int)(er:Value):ErC C (.iface 95 (Uk (Uc w.heap.size))) (w.alloc (Uj #[Ud C,er] 97)):=.inr ⟨_,rfl,oP⟩
def HdP (rb:Nat)(id:Int)(B:Nat)(X Z:Sx)(R:List (Int×List Int))(C:Int)(w:Ur)(e:Ending)(w':Ur):Prop:=
 ∃fv l er T l1 h1 l2 h2 a x a' x' c d c' d',e=Ui (Ul #[fv,er])/\ ErC C er w'/\ RpD w' rb id B T l1 h1 l2 h2 a x a' x' c d c' d' X Z/\ (l.map QiN=R/\ FxR w' T fv l)/\ w.grownBy w' (Uq rb)
theorem QjD{id:Int}(C:Int)(h:RpD w1 rb id B T l1 h1 l2 h2 a x a' x' c d c' d' S D)(hb:Bl w w1)(er:Value):HdP rb id B S D [] C w (Ui (Ul #[Ue,.iface 95 (Uk (Uc w1.heap.size))])) (w1.alloc (Uj #[Ud C,er] 97)):=by
 have m:Bl w1 (w1.alloc (Uj #[Ud C,er] 97)):=zO _ _;have j:=Qaa hb m;exact⟨_,[],_,T,l1,h1,l2,h2,a,x,a',x',c,d,c',d',rfl,ErC.made _ _ _,h.bw m,⟨rfl,Qmz _ _⟩,j.os,j.tape,j.output,j.size,fun k hk _=>j.block k hk⟩
theorem Qpl{id:Int}(h:RpD w1 rb id B T l1 h1 l2 h2 a x a' x' c d c' d' S D)(hb:w.grownBy w1 (Uq rb)):HdP rb id B S D [] 0 w (Ui (Ul #[Ue,.nilIface])) w1:=
 ⟨_,[],_,T,l1,h1,l2,h2,a,x,a',x',c,d,c',d',rfl,.inl ⟨rfl,rfl⟩,h,⟨rfl,Qmz _ _⟩,hb⟩
theorem QnY(h:Own w B v zs)(hB:B'<=B):Own w B' v zs:=by
 obtain⟨m,q⟩:=h;refine⟨m,q.imp id ?_⟩;rintro⟨g,cap,j,e,k,r⟩;exact⟨g,cap,j,e,Ux hB k,r⟩
theorem Qgv(h:Bl w w')(row:Option Nat):w.grownBy w' row:=⟨h.os,h.tape,h.output,h.size,fun k hk _=>h.block k hk⟩
theorem Qlc (rb:Nat)(id:Int)(B T l1 h1 l2 h2:Nat)(a x a' x' pa:Option Us)(c d c' d' n pc:Nat)(S D:Sx)(f:Nat ->Int)(R:List (Int×List Int))(C:Int)(w:Ur)(hr:rpB id S D=true)(hm:SmI S)(hm':SmI D)(h:RpD w rb id B T l1 h1 l2 h2 a x a' x' c d c' d' S D)(hf:Byt f)(hs:Seg w pa n f)(hn:n<=9223372036854775807)(t:TypeId)(u:Value)(hg:w.cell? (Ub 3)=Uq (.iface t u))
  (hq:(n≠8/\ R=[]/\ C=2) \/(n=8/\ C=0/\∃G,dgB S f=G/\ R=(bif G then [] else [(2,(sxZ S).1)]))):
  Cl 83 #[Uk (Uc rb),Uf pa n pc] w fun e w'=>HdP rb id B S D R C w e w':=by
 have z:=hid h;rcases hq with ⟨Hr,rfl,rfl⟩|⟨rfl,rfl,G,hG,rfl⟩
 ·have d0:((n:Int) !=8)=true:=oS;have W:Hid (∀w',Bl w w' ->w'.cell? (Ub 3)=Uq (.iface t u)):=hid (fun w' hb=>(hb.cell (p:=(Ub 3)) (block_lt_of_cell hg)).trans hg);clear h hs Hr hg hn hm hm' hr;go_enter func83,ntmps83;go_wp2_with fail;refine zS W (fun qh=> ?_);refine tZ 0 11 ?_;refine tZ 1 12 ?_;refine tZ 4 4 ?_;obtain⟨z0,J⟩:=zE w.drew;have b:Bl w z0:=J▸zI.drew;rw [J] at qh ⊢;clear J;refine cZ 2 ?_;intro K hK;go_simp;have Hg:Bl z0 (z0.alloc (Uj #[Ud 2,.iface t u] 97)):=zO _ _;refine hK.out _ _ (W _ (Qaa b Hg)) (fun qh=> ?_);clear hK K;try simp only [zP]
  refine tZ 3 14 ?_;refine tZ 5 5 ?_;refine zD ?_;have y:=hid (QjD 2 (z.bw b) b (.iface t u));clear qh b Hg;go_wp2_with fail;go_ret2;exact y
 ·have Hf:Hid (whZ id S D=(2,(sxZ S).1,true)):=hid (if_pos hr);have HO:=hid (QjH id a x a' x' c d c' d' S D w hm.2 hm'.2 hm.1 hm'.1 h.s.at h.t.at);obtain⟨L,N,rfl,Hh,Hi⟩:=hs.resolve_left oM;have Hp:Hid (Seg w (Uq (Ua L N)) 8 f):=hid (.inr ⟨L,N,rfl,Hh,Hi⟩);have HV:=hid (QmV S);have M:=hid (QmU S);have P:=hid (Qix S);have Hd:=hid (Qh3 S);have HF:=hid hf;have H:((Qby f 0 8).toList==(Qby (gz (eB (sxD S) 8)) 0 8).toList)=G:=hG;obtain⟨V,hV⟩:=zE (sxD S);rw [hV] at HV M H;have Hc:=hid H;obtain⟨k0,k1,k2,k3,k4⟩:=h.bx.q5;have d0:(((8:Nat):Int) !=8)=false:=oD;clear h hs hg hm hm' hr hV hG H Hh Hi hf;go_enter func83,ntmps83;go_wp2_with fail;refine HO.mono ?_;rintro e w1 ⟨K,v,j,B1,rfl,I,k,b1⟩;obtain⟨rfl,hzz,rfl⟩:K=2/\ (sxZ S).1=j/\ B1=true:=by rw [Hf.out] at I;injection I with e1 e2;injection e2 with e2 e3;exact⟨e1.symm,e2,e3.symm⟩
  rw [hzz] at M P Hd;have Hq:=hid hzz;have Hn:=hid k;obtain⟨q,r,rfl,Ha⟩:=k.any;obtain⟨U,A⟩:=zE (w1.alloc (Uj #[Ud 2,Uf q j.length r] 47));have g:Bl w1 U:=A▸zO _ _;have E:Bx2 U w1.heap.size (Ud 2) (Uf q j.length r):=A▸Bx2.made _ _ _ _;have Hm:=hid (Qaa b1 g);have Q:=hid E;have He:=hid (Qey g k);have Y:=hid (Qi8 q j.length r (fun i=>j.getD i 0) U (oH Hd) P.byt (Ha.bw g));rw [M.out] at Y;obtain⟨m0,m1⟩:=E.q2;clear b1 g k I hzz Ha HO k0 k1 k2 k3 k4 E Hf Hn;go_wp2_with fail;try rw [A]
  clear A;refine Y.mono ?_;rintro e w2 ⟨rfl,rfl⟩;have Hb:=hid (QjF V w2 HV);clear Y;go_wp2_with fail;refine Hb.mono ?_;rintro e w3 ⟨v,rfl,k,o⟩;obtain⟨Hu,Ht,Hl,X⟩:=k.any;rw [QeX] at Hl X;subst Hl;obtain⟨qb,qo,rfl,Hj,Hk⟩:=X.resolve_left oM;have m:=hid (Qaa Hm o);have O:=hid (QqZ (Ua L N) (Ua qb qo) 8 pc Ht _ _ w3 (QfQ HF (Hp.bw m) oM) (QfQ (QjA (QgT V 8)) (.inr ⟨qb,qo,rfl,Hj,Hk⟩) oM));rw [Hc.out] at O;have F:=Q.bw o Q.lt;have Ho:=hid (Qey o He);obtain⟨m2,m3⟩:=F.q2;clear k o F Hb Hj Hk m0 m1 X Q He;go_wp2_with fail;refine O.mono ?_;rintro e w4 ⟨rfl,rfl⟩;clear O Hc;cases G with
  | true=>
   have y:=hid (Qpl (z.bw m) (Qgv m (Uq rb)));go_wp2_with fail;go_ret2;exact y
  | false=>
   have Z:Bl w4 (w4.alloc (Uj #[Ud 2,Uf q j.length r] 47)):=zO _ _;have hT:=z.bd;have Hs:=m.size;have y:Hid (HdP rb id B S D [(2,(sxZ S).1)] 0 w (Ui (Ul #[Uf (Uc w4.heap.size) 1 1,.nilIface])) (w4.alloc (Uj #[Ud 2,Uf q j.length r] 47))):=hid ⟨_,[(2,Uf q j.length r,j)],_,T,l1,h1,l2,h2,a,x,a',x',c,d,c',d',rfl,.inl ⟨rfl,rfl⟩,(z.bw m).bw Z,⟨by rw [Hq.out];rfl,Qnt 2 (QnY Ho oM) oM⟩,Qgv (Qaa m Z) _⟩;clear Z hT Hs;go_wp2_with fail;go_ret2;exact y
theorem Qre(h:Bl w w1)(v1 v2:Value):w.grownBy ((w1.setCell (Ua rb 1) v1).setCell (Ua rb 2) v2) (Uq rb):=
 ⟨h.os,h.tape,h.output,by simpa [UC] using h.size,fun k hk hne=>by
  have e:∀i,k≠((Ua rb i):Us).block:=fun i e=>hne (by rw [e]);rw [zH _ _ _ _ (e _),zH _ _ _ _ (e _)];exact h.block k hk⟩
theorem Qng (rb:Nat)(id:Int)(B T l1 h1 l2 h2:Nat)(a x a' x' pa:Option Us)(c d c' d' n pc:Nat)(S D:Sx)(f:Nat ->Int)(X:Sx)(C:Int)(w:Ur)(E:Nat)(aT aS aL aE:Us)(hm:SmI S)(h:RpD w rb id B T l1 h1 l2 h2 a x a' x' c d c' d' S D)(hT:T<=rb)(hf:Byt f)(hs:Seg w pa n f)(hn:n<=9223372036854775807)(hnc:n<=pc)(hcc:pc<=9223372036854775807)(hE:QcL w E aT aS aL aE)(hEB:E<=w.heap.size)(hab:∀y,pa=Uq y ->y.block<w.heap.size)(t:TypeId)(u:Value)(hg:w.cell? (Ub 6)=Uq (.iface t u))
  (hq:(gsK f n=1/\ X=S/\ C=2) \/(gsK f n=0/\ ((hjB S (gsX f n)=false/\ X=S/\ C=3) \/(hjB S (gsX f n)=true/\ X=jnZ S (gsX f n)/\ C=0)))):
  Cl 84 #[Uk (Uc rb),Uf pa n pc] w fun e w'=>HdP rb id B X D [] C w e w':=by
 have Hl:=hid ((QiO E pa n pc f aT aS aL aE w hn hnc hcc hf hs hE hEB hab).mono (fun e w' h=>rsK hf h));have HY:=hid (Qj9 hf n);have HR:=hid h;have HM:=hid hm;have HG:=hid hg;have HT:=hid hT;have HQ:=hid hq;obtain⟨Y,hY⟩:=zE (gsX f n);obtain⟨KK,Hs⟩:=zE (gsK f n);rw [hY,Hs] at Hl HQ;rw [hY] at HY;clear h hT hs hE hab hg hq hY Hs hf hm;go_enter func84,ntmps84;go_wp2_with fail;refine Hl.mono ?_;rintro e w1 ⟨b1,⟨hk,m0,m1,m2,rfl,Hv⟩|⟨hk,et,ev,rfl⟩⟩;rotate_left
 ·obtain⟨rfl,rfl⟩:X=S/\ C=2:=by
   rcases HQ.out with h|⟨h,_⟩
   ·exact h.2
   ·rw [hk] at h;cases h
  have b2:Bl w1 (w1.alloc (Uj #[.map Up,.map Up,.map Up] 176)):=zO _ _;have HE:=hid (QjD 2 (HR.bw (Qaa b1 b2)) (Qaa b1 b2) (.iface et ev));rw [show (w1.alloc (Uj #[.map Up,.map Up,.map Up] 176)).heap.size=w1.heap.size+1 by simp] at HE;clear b1 b2 Hl HQ hk;go_wp2_with fail;go_ret2;exact HE
 obtain⟨U,hU⟩:=zE (w1.alloc (Uj #[.map m0,.map m1,.map m2] 176));have b2:Bl w1 U:=hU▸zO _ _;have V0:Bx3 U w1.heap.size (.map m0) (.map m1) (.map m2):=hU▸Bx3.made _ _ _ _ _;have HU:=hid (Qaa b1 b2);have HV:=hid V0;have L:Hid (∀w',Bl U w' ->(w'.cell? (Ua rb 1)=Uq (Uf a S.l.length c)/\ w'.cell? (Ua rb 2)=Uq (Uf x S.n d)/\ w'.cell? (Ub w1.heap.size)=Uq (.map m0)/\ w'.cell? (Ua w1.heap.size 1)=Uq (.map m1)/\ w'.cell? (Ua w1.heap.size 2)=Uq (.map m2))):=hid (fun w' hb=>by
  have R2:=HR.bx.bw (Qaa HU hb) HR.bx.lt;have Y2:=HV.bw hb HV.lt;exact⟨R2.c1,R2.c2,Y2.c0,Y2.c1,Y2.c2⟩)
 have Hm:=hid (fun u hb=>Hv u (Qaa b2 hb));have Hq:=hid (fun(u:Ur)(ya yx:Option Us)(yc yd:Nat)(hb:Bl U u)(hy:SAt u ya yx Y)=>Qlv a x ya yx c d yc yd S Y u HM HY (HR.s.at.bw (Qaa HU hb)) hy t _ (((Qaa HU hb).cell (p:=(Ub 6)) (block_lt_of_cell HG)).trans HG));obtain⟨G,hG⟩:=zE (hjB S Y);have HJ:=hid Hq;rw [show (jnB S Y && QeI (jnZ S Y))=G from hG] at HJ;have Hp:=hid hG;have Hr:=hid hk;clear b1 b2 V0 Hv hG Hl Hq hk;go_upto_region 4 with fail;try rw [hU]
 clear hU;go_cut [7,8] from 20 to 29 (fun v7 v8 wx=>∃A v z b g Q J,v8=Uk (Uc A)/\ (G=true/\ v7=.nilIface \/G=false/\∃t u,v7=.iface t u)/\ Hid (Bx2 wx A (Uf v J.l.length z) (Uf b J.n g)/\ (G=true ->J=jnZ S Y)/\ SOw wx Q wx.heap.size v b g J/\ U.heap.size<=Q/\ Bl U wx/\ U.heap.size<=A));case first=>
  refine zS L (fun qh=> ?_);refine tZ 0 21 ?_;refine tZ 1 22 ?_;refine tZ 2 23 ?_;refine tZ 3 24 ?_;refine tZ 4 25 ?_;obtain⟨z0,Ho⟩:=zE U.drew;have Hk:Bl U z0:=Ho▸zI.drew;rw [Ho];clear Ho;refine Qba (i:=5) (j:=10) (d:=Uq 26) (d':=Uq 8) oK oK oK ?_ ?_
  ·skip;intro o W Hn K q;simp only [gZa,gZb,gZc,gZd] at W;subst W;go_simp;refine(Hm _ Hk).mono ?_;rintro e H ⟨ya,yc,yx,yd,rfl,oy,m⟩;replace oy:=oy.at
   have P:=Qaa Hk m;have H4:=m.size;have H6:=Hk.size;refine q.out _ _ (L _ P) (fun qh=> ?_);clear q K;try simp only [zP]
   clear m;refine Qba (i:=6) (j:=10) (d:=Uq 27) (d':=Uq 8) oK oK oK ?_ ?_
   ·skip;intro o W Hn K q;simp only [gZa,gZb,gZc,gZd] at W;subst W;go_simp;obtain⟨Q,Hb⟩:=zE H.heap.size;refine(HJ _ _ _ _ _ P oy).mono ?_;rintro e O ⟨J,v,z,b,g,er,rfl,hJ,He,Z,m⟩;obtain⟨R,Hd⟩:=zE O.heap.size;have N:=Qaa P m;have Ht:=m.size;have Hw:=P.size;rw [Hb,Hd] at Z;replace Hb:H.heap.size<=Q/\ Q<=H.heap.size:=oM
    replace Hd:O.heap.size<=R/\ R<=O.heap.size:=oM
    refine q.out _ _ (L _ N) (fun qh=> ?_);clear q K;try simp only [zP]
    clear m;refine tZ 7 20 ?_;refine tZ 8 28 ?_;refine tZ 9 29 ?_;refine cZ 10 ?_;intro K q;go_simp;obtain⟨I,V⟩:=zE (O.alloc (Uj #[Ue,Ue] 40));have m:Bl O I:=V▸zO _ _;have r:Bx2 I O.heap.size Ue Ue:=V▸Bx2.made _ _ _ _;have Hu:=N.size;have Hx:I.heap.size<=O.heap.size+1/\ O.heap.size+1<=I.heap.size:=V▸oP;have Hc:=Qaa N m;obtain⟨k,Ha⟩:=zE O.heap.size;rw [Ha] at r ⊢;rw [V];clear V;replace Ha:O.heap.size<=k/\ k<=O.heap.size:=oM
    replace Z:=Z.bw m
    refine q.out _ _ (L _ Hc) (fun qh=> ?_);clear q K;try simp only [zP]
    clear m;obtain⟨Hh,Hi,Hj⟩:=r.p2;refine cZ 11 ?_;intro K q;go_simp;have G1:=r.set (Uf v J.l.length z) (Uf b J.n g);have G2:=((Z.set (Ub k) (Uf v J.l.length z) oQ).set (Ua k 1) (Uf b J.n g) oQ).wide zL (show R<=((I.setCell (Ub k) (Uf v J.l.length z)).setCell (Ua k 1) (Uf b J.n g)).heap.size by simp [UC];omega) zL;have F:=(Hc.setCell (p:=(Ub k)) oQ (Uf v J.l.length z)).setCell (p:=(Ua k 1)) oQ (Uf b J.n g);refine q.out _ _ (L _ F) (fun qh=> ?_);clear q K;try simp only [zP]
    refine tZ 12 7 ?_;refine zD ?_;have Hf:=hid (And.intro G1 (And.intro hJ (And.intro G2 (And.intro (show U.heap.size<=Q by omega) (And.intro F (show U.heap.size<=k by omega))))));clear G1 G2 F Hh Hi Hj r Z qh hJ;go_wp2_with fail;go_meet;exact⟨k,v,z,b,g,Q,J,rfl,He,Hf⟩
   ·skip;intro o W Hn K q;simp only [gZa,gZb,gZc,gZd] at W;subst W;go_simp;obtain⟨O,V⟩:=zE (H.alloc (Uj #[Ue,Ue] 40));have m:Bl H O:=V▸zO _ _;have r:Bx2 O H.heap.size Ue Ue:=V▸Bx2.made _ _ _ _;have Hu:=P.size;have Hx:O.heap.size<=H.heap.size+1/\ H.heap.size+1<=O.heap.size:=V▸oP;have N:=Qaa P m;obtain⟨k,Ha⟩:=zE H.heap.size;rw [Ha] at r ⊢;rw [V];clear V;replace Ha:H.heap.size<=k/\ k<=H.heap.size:=oM
    replace oy:=oy.bw m
    refine q.out _ _ (L _ N) (fun qh=> ?_);clear q K;try simp only [zP]
    clear m;refine cZ 6 ?_;intro K q;go_simp;obtain⟨Q,Hb⟩:=zE O.heap.size;refine(HJ _ _ _ _ _ N oy).mono ?_;rintro e I ⟨J,v,z,b,g,er,rfl,hJ,He,Z,m⟩;obtain⟨R,Hd⟩:=zE I.heap.size;have Hc:=Qaa N m;have Ht:=m.size;have Hw:=N.size;have H1:=r.lt;replace r:=r.bw m r.lt
    rw [Hb,Hd] at Z;replace Hb:O.heap.size<=Q/\ Q<=O.heap.size:=oM
    replace Hd:I.heap.size<=R/\ R<=I.heap.size:=oM
    refine q.out _ _ (L _ Hc) (fun qh=> ?_);clear q K;try simp only [zP]
    clear m;refine tZ 7 20 ?_;refine tZ 8 28 ?_;refine tZ 9 29 ?_;obtain⟨Hh,Hi,Hj⟩:=r.p2;refine cZ 11 ?_;intro K q;go_simp;have G1:=r.set (Uf v J.l.length z) (Uf b J.n g);have G2:=((Z.set (Ub k) (Uf v J.l.length z) oQ).set (Ua k 1) (Uf b J.n g) oQ).wide zL (show R<=((I.setCell (Ub k) (Uf v J.l.length z)).setCell (Ua k 1) (Uf b J.n g)).heap.size by simp [UC];omega) zL;have F:=(Hc.setCell (p:=(Ub k)) oQ (Uf v J.l.length z)).setCell (p:=(Ua k 1)) oQ (Uf b J.n g);refine q.out _ _ (L _ F) (fun qh=> ?_);clear q K;try simp only [zP]
    refine tZ 12 7 ?_;refine zD ?_;have Hf:=hid (And.intro G1 (And.intro hJ (And.intro G2 (And.intro (show U.heap.size<=Q by omega) (And.intro F (show U.heap.size<=k by omega))))));clear G1 G2 F Hh Hi Hj r Z qh hJ;go_wp2_with fail;go_meet;exact⟨k,v,z,b,g,Q,J,rfl,He,Hf⟩
  ·skip;intro o W Hn K q;simp only [gZa,gZb,gZc,gZd] at W;subst W;go_simp;obtain⟨H,V⟩:=zE (z0.alloc (Uj #[Ue,Ue] 40));have m:Bl z0 H:=V▸zO _ _;have r:Bx2 H z0.heap.size Ue Ue:=V▸Bx2.made _ _ _ _;have Hu:=Hk.size;have Hx:H.heap.size<=z0.heap.size+1/\ z0.heap.size+1<=H.heap.size:=V▸oP;have P:=Qaa Hk m;obtain⟨k,Ha⟩:=zE z0.heap.size;rw [Ha] at r ⊢;rw [V];clear V;replace Ha:z0.heap.size<=k/\ k<=z0.heap.size:=oM
   refine q.out _ _ (L _ P) (fun qh=> ?_);clear q K;try simp only [zP]
   clear m;refine cZ 5 ?_;intro K q;go_simp;refine(Hm _ P).mono ?_;rintro e O ⟨ya,yc,yx,yd,rfl,oy,m⟩;replace oy:=oy.at
   have N:=Qaa P m;have H4:=m.size;have H6:=P.size;have Ga:=r.lt;replace r:=r.bw m r.lt
   refine q.out _ _ (L _ N) (fun qh=> ?_);clear q K;try simp only [zP]
   clear m;refine cZ 6 ?_;intro K q;go_simp;obtain⟨Q,Hb⟩:=zE O.heap.size;refine(HJ _ _ _ _ _ N oy).mono ?_;rintro e I ⟨J,v,z,b,g,er,rfl,hJ,He,Z,m⟩;obtain⟨R,Hd⟩:=zE I.heap.size;have Hc:=Qaa N m;have Ht:=m.size;have Hw:=N.size;have H1:=r.lt;replace r:=r.bw m r.lt
   rw [Hb,Hd] at Z;replace Hb:O.heap.size<=Q/\ Q<=O.heap.size:=oM
   replace Hd:I.heap.size<=R/\ R<=I.heap.size:=oM
   refine q.out _ _ (L _ Hc) (fun qh=> ?_);clear q K;try simp only [zP]
   clear m;refine tZ 7 20 ?_;refine tZ 8 28 ?_;refine tZ 9 29 ?_;obtain⟨Hh,Hi,Hj⟩:=r.p2;refine cZ 11 ?_;intro K q;go_simp;have G1:=r.set (Uf v J.l.length z) (Uf b J.n g);have G2:=((Z.set (Ub k) (Uf v J.l.length z) oQ).set (Ua k 1) (Uf b J.n g) oQ).wide zL (show R<=((I.setCell (Ub k) (Uf v J.l.length z)).setCell (Ua k 1) (Uf b J.n g)).heap.size by simp [UC];omega) zL;have F:=(Hc.setCell (p:=(Ub k)) oQ (Uf v J.l.length z)).setCell (p:=(Ua k 1)) oQ (Uf b J.n g);refine q.out _ _ (L _ F) (fun qh=> ?_);clear q K;try simp only [zP]
   refine tZ 12 7 ?_;refine zD ?_;have Hf:=hid (And.intro G1 (And.intro hJ (And.intro G2 (And.intro (show U.heap.size<=Q by omega) (And.intro F (show U.heap.size<=k by omega))))));clear G1 G2 F Hh Hi Hj r Z qh hJ;go_wp2_with fail;go_meet;exact⟨k,v,z,b,g,Q,J,rfl,He,Hf⟩
 case rest=>
 obtain⟨k,v,z,b,g,Q,J,rfl,He,Hg⟩:=hcut;have H5:=hid (Qaa HU Hg.2.2.2.2.1);clear L HJ Hm;rcases He with ⟨rfl,rfl⟩|⟨rfl,et,ev,rfl⟩
 ·obtain⟨rfl,rfl⟩:X=J/\ C=0:=by
   rcases HQ.out with ⟨h,_⟩|⟨_,⟨h,_⟩|⟨_,h1,h2⟩⟩
   ·rw [Hr.out] at h;cases h
   ·rw [Hp.out] at h;cases h
   ·exact⟨h1.trans (Hg.2.1 rfl).symm,h2⟩
  obtain⟨j8,Hy,Z,Hb,bj,Ha⟩:=Hg.out;have R5:=HR.bw H5;have M:=(R5.bx.set1 (Uf v X.l.length z)).set2 (Uf b X.n g);obtain⟨p0,p1⟩:=j8.q2;have r1:=R5.bx.c1;have r2:=(R5.bx.set1 (Uf v X.l.length z)).c2;have r3:=R5.bx.c2;have rf:=R5.bx.f;have rg:=(R5.bx.set1 (Uf v X.l.length z)).f;have H0:=R5.bd;have Hz:=HR.bd;have H3:=HT.out;have H2:=HR.bx.lt;have hz:=HU.size;have H7:=bj.size;have H8:=Z.hl;have H9:=HR.s.hl;have HE:Hid (HdP rb id B X D [] 0 w (Ui (Ul #[Ue,.nilIface])) ((wc.setCell (Ua rb 1) (Uf v X.l.length z)).setCell (Ua rb 2) (Uf b X.n g))):=hid (Qpl (T:=wc.heap.size) ⟨M,(Z.set (Ua rb 1) _ (by show rb<Q \/_<=rb;omega)).set (Ua rb 2) _ (by show rb<Q \/_<=rb;omega),(R5.t.set (Ua rb 1) _ oQ).set (Ua rb 2) _ oQ,.inr oM,⟨oM,oM,Uu _,oM,by simp [UC]⟩⟩ (Qre H5 _ _));clear R5 M H0 Hz H3 H2 hz H7 H8 H9 j8 Hy Z Hb bj Ha Hg HQ;go_wp2_with fail;go_ret2;exact HE
 ·obtain⟨rfl,rfl⟩:X=S/\ C=3:=by
   rcases HQ.out with ⟨h,_⟩|⟨_,h|⟨h,_⟩⟩
   ·rw [Hr.out] at h;cases h
   ·exact h.2
   ·rw [Hp.out] at h;cases h
  have HE:=hid (QjD 3 (HR.bw H5) H5 (.iface et ev));clear HQ Hg;go_wp2_with fail;go_ret2;exact HE
open Go.Extern.Stop Go.Stop Go.Extern
theorem Er.valueOfPP (t:Us)(w:Ur):(ReflectliteValue.unpack (.iface 104 (Uk (Uq t)))).run prog w
  =.ok (Uo #[Uk (Uq (Ua 19 104)),Uk (Uc w.heap.size),Ug .u64 150]) (w.alloc (Uj #[Uk (Uq t)] 104)):=oK
theorem Er.typePP (a:Us)(w:Ur):(ReflectliteValue.methodAny (ReflectliteValue.valueError "reflectlite.Value.Type" 0) (fun t _ _ _=>ReflectliteType.toType t) #[Uo #[Uk (Uq (Ua 19 104)),Uk (Uq a),Ug .u64 150]]).run prog w
  =.ok (.iface 183 (Uo #[Uk (Uq (Ua 19 104))])) w:=oK
theorem Er.methodKind (h:Value)(w:Ur):(Go.method 495 183 (Uo #[h]) "Kind").run prog w=.ok (275,h) w:=oK
theorem Er.kindPP (w:Ur):((ReflectliteType.abiMethod fun t=>(fun a:Nat=>Value.int IntKind.u8 (a:Int))<$>Rtype.kind t) #[Uk (Uq (Ua 19 104))]).run prog w=.ok (Ug .u8 22) w:=oK
theorem Er.kindP (w:Ur):((ReflectliteType.abiMethod fun t=>(fun a:Nat=>Value.int IntKind.u8 (a:Int))<$>Rtype.kind t) #[Uk (Uq (Ua 19 95))]).run prog w=.ok (Ug .u8 22) w:=oK
theorem Er.partsPP (a:Us)(w:Ur):(ReflectliteValue.parts (Uo #[Uk (Uq (Ua 19 104)),Uk (Uq a),Ug .u64 150])).run prog w=.ok (Uq (104,a,150)) w:=oK
theorem Er.isNilPP (a q:Us)(W:Ur)(ha:W.cell? a=Uq (Uk (Uq q))):
  (ReflectliteValue.method (ReflectliteValue.valueError "reflectlite.Value.IsNil" 0) ReflectliteValue.isNil #[Uo #[Uk (Uq (Ua 19 104)),Uk (Uq a),Ug .u64 150]]).run prog W=.ok (Un false) W:=by
 show Sem.run prog (ReflectliteValue.parts (Uo #[Uk (Uq (Ua 19 104)),Uk (Uq a),Ug .u64 150])>>=_) W=_;simp only [Sem.run_bind,Er.partsPP,Result.andThen];simp [ReflectliteValue.isNil,loadVar,isAgg,underlying,underlying104,ha,Result.andThen]
theorem Er.methodElem (h:Value)(w:Ur):(Go.method 495 183 (Uo #[h]) "Elem").run prog w=.ok (286,Uo #[h]) w:=oK
theorem Er.methodImplements (h:Value)(w:Ur):(Go.method 495 183 (Uo #[h]) "Implements").run prog w=.ok (287,Uo #[h]) w:=oK
theorem Er.methodAssignableTo (h:Value)(w:Ur):(Go.method 495 183 (Uo #[h]) "AssignableTo").run prog w=.ok (284,Uo #[h]) w:=oK
theorem Er.elemPP (w:Ur):(ReflectliteType.method ReflectliteType.elem #[Uo #[Uk (Uq (Ua 19 104))]]).run prog w=.ok (.iface 183 (Uo #[Uk (Uq (Ua 19 95))])) w:=oK
theorem Er.implementsP (w:Ur):(ReflectliteType.relation "Implements" ReflectliteType.implements_ #[Uo #[Uk (Uq (Ua 19 95))],.iface 183 (Uo #[Uk (Uq (Ua 19 73))])]).run prog w=.ok (Un true) w:=oK
theorem Er.typeOfP (v:Value)(w:Ur):(ReflectliteType.typeOf #[.iface 95 v]).run prog w=.ok (.iface 183 (Uo #[Uk (Uq (Ua 19 95))])) w:=oK
theorem Er.assignableP (w:Ur):(ReflectliteType.relation "AssignableTo" ReflectliteType.assignableTo #[Uo #[Uk (Uq (Ua 19 95))],.iface 183 (Uo #[Uk (Uq (Ua 19 95))])]).run prog w=.ok (Un true) w:=oK
theorem Er.valueOfP (e:Us)(w:Ur):(ReflectliteValue.unpack (.iface 95 (Uk (Uq e)))).run prog w
  =.ok (Uo #[Uk (Uq (Ua 19 95)),Uk (Uc w.heap.size),Ug .u64 150]) (w.alloc (Uj #[Uk (Uq e)] 95)):=oK
theorem Er.elemOfPP (w:Ur):(Rtype.elem? 104).run prog w=.ok (Uq 95) w:=oK
theorem Er.mkP (q:Us)(w:Ur):(ReflectliteValue.mk 95 q ReflectliteValue.flagAddr).run prog w=.ok (Uo #[Uk (Uq (Ua 19 95)),Uk (Uq q),Ug .u64 406]) w:=oK
theorem Er.elemVPP (a q:Us)(W:Ur)(ha:W.cell? a=Uq (Uk (Uq q))):
  (ReflectliteValue.method (ReflectliteValue.valueError "reflectlite.Value.Elem" 0) ReflectliteValue.elem #[Uo #[Uk (Uq (Ua 19 104)),Uk (Uq a),Ug .u64 150]]).run prog W
   =.ok (Uo #[Uk (Uq (Ua 19 95)),Uk (Uq q),Ug .u64 406]) W:=by
 show Sem.run prog (ReflectliteValue.parts (Uo #[Uk (Uq (Ua 19 104)),Uk (Uq a),Ug .u64 150])>>=_) W=_;simp only [Sem.run_bind,Er.partsPP,Result.andThen];simp [ReflectliteValue.elem,loadVar,isAgg,underlying,underlying104,ha,Result.andThen,Er.elemOfPP,Er.mkP]
theorem Er.partsPa (a:Us)(w:Ur):(ReflectliteValue.parts (Uo #[Uk (Uq (Ua 19 95)),Uk (Uq a),Ug .u64 406])).run prog w=.ok (Uq (95,a,406)) w:=oK
theorem Er.partsP (a:Us)(w:Ur):(ReflectliteValue.parts (Uo #[Uk (Uq (Ua 19 95)),Uk (Uq a),Ug .u64 150])).run prog w=.ok (Uq (95,a,150)) w:=oK
theorem Er.directP (w:Ur):(Rtype.directlyAssignable 95 95).run prog w=.ok true w:=oK
theorem Er.setP (ta b e:Us)(old:Value)(W:Ur)(hb:W.cell? b=Uq (Uk (Uq e)))(ht:W.cell? ta=Uq old)(hf:W.frozen? ta=false):
  (ReflectliteValue.set #[Uo #[Uk (Uq (Ua 19 95)),Uk (Uq ta),Ug .u64 406],Uo #[Uk (Uq (Ua 19 95)),Uk (Uq b),Ug .u64 150]]).run prog W
   =.ok (Ul #[]) (W.setCell ta (Uk (Uq e))):=by
 show Sem.run prog (ReflectliteValue.parts (Uo #[Uk (Uq (Ua 19 95)),Uk (Uq ta),Ug .u64 406])>>=fun _=>ReflectliteValue.parts (Uo #[Uk (Uq (Ua 19 95)),Uk (Uq b),Ug .u64 150])>>=_) W=_;simp only [Sem.run_bind,Er.partsPa,Er.partsP,Result.andThen];simp [ReflectliteValue.flagAddr,loadVar,isAgg,underlying,underlying95,hb,Result.andThen,Er.directP,storeVar,Value.cells,storeCells,Addr.add];rw [run_store prog W ta _ _ (by rfl)];simp [ht,hf]
theorem Qo2 (e t:Us)(old:Value)(w:Ur)(hg:w.cell? (Ub 2)=Uq (.iface 183 (Uo #[Uk (Uq (Ua 19 73))])))(ht0:w.cell? t=Uq old)(hf0:w.frozen? t=false):
  Cl 54 #[.iface 95 (Uk (Uq e)),.iface 104 (Uk (Uq t))] w fun ev w'=>ev=Ui (Un true)/\ w'=((((w.alloc (Uj #[Uk (Uq t)] 104)).alloc (Uj #[Uk (Uq (Ua 19 104)),Uk (Uc w.heap.size),Ug .u64 150] 143)).alloc (Uj #[Uk (Uq (Ua 19 104)),Uk (Uc w.heap.size),Ug .u64 150] 143)).alloc (Uj #[Uk (Uq e)] 95)).setCell t (Uk (Uq e)):=by
 have b:=@run_callFunc_extern prog 85 _ (fun args=>ReflectliteValue.unpack (args.getD 0 (Ul #[]))) func85 oK oK oK oK;have s:=@run_callFunc_extern prog 86 _ (ReflectliteValue.methodAny (ReflectliteValue.valueError "reflectlite.Value.Type" 0) (fun t _ _ _=>ReflectliteType.toType t)) func86 oK oK oK oK;have i:=@run_callFunc_extern prog 87 _ (ReflectliteValue.method (ReflectliteValue.valueError "reflectlite.Value.IsNil" 0) ReflectliteValue.isNil) func87 oK oK oK oK;have u:=@run_callFunc_extern prog 275 _ (ReflectliteType.abiMethod fun t=>do pure (Ug .u8 (<- Rtype.kind t))) func275 oK oK oK oK;have y:=@run_callFunc_extern prog 286 _ (ReflectliteType.method ReflectliteType.elem) func286 oK oK oK oK;have z:=@run_callFunc_extern prog 287 _ (ReflectliteType.relation "Implements" ReflectliteType.implements_) func287 oK oK oK oK;have g:=@run_callFunc_extern prog 116 _ ReflectliteType.typeOf func116 oK oK oK oK;have v:=@run_callFunc_extern prog 284 _ (ReflectliteType.relation "AssignableTo" ReflectliteType.assignableTo) func284 oK oK oK oK;have o:=@run_callFunc_extern prog 117 _ (ReflectliteValue.method (ReflectliteValue.valueError "reflectlite.Value.Elem" 0) ReflectliteValue.elem) func117 oK oK oK oK;have p:=@run_callFunc_extern prog 118 _ ReflectliteValue.set func118 oK oK oK oK;have H:=Er.typeOfP;have Q:=Er.methodAssignableTo;have m:=Er.assignableP;have J:=Er.valueOfP;have K:=Er.valueOfPP;have I:=Er.typePP;have Y:=Er.methodKind;have U:=Er.methodElem;have V:=Er.methodImplements;have O:=Er.kindPP;have M:=Er.kindP;have q:=Er.elemPP;have E:=Er.implementsP;have Z:=Er.isNilPP (Ub w.heap.size) t ((w.alloc (Uj #[Uk (Uq t)] 104)).alloc (Uj #[Uk (Uq (Ua 19 104)),Uk (Uc w.heap.size),Ug .u64 150] 143)) oP;have k:2<w.heap.size:=by
  rcases Nat.lt_or_ge 2 w.heap.size with h|h
  ·exact h
  ·simp [UE,Array.getElem?_eq_none h] at hg
 have A:((w.alloc (Uj #[Uk (Uq t)] 104)).alloc (Uj #[Uk (Uq (Ua 19 104)),Uk (Uc w.heap.size),Ug .u64 150] 143)).cell? (Ub 2)=Uq (.iface 183 (Uo #[Uk (Uq (Ua 19 73))])):=by
  rw [JG _ _ (Ub 2) (by first|(simp;omega)|simp),JG _ _ (Ub 2) k];exact hg
 have j:t.block<w.heap.size:=by
  rcases Nat.lt_or_ge t.block w.heap.size with h|h
  ·exact h
  ·simp [UE,Array.getElem?_eq_none h] at ht0
 have r:=Er.elemVPP (Ub w.heap.size) t (((w.alloc (Uj #[Uk (Uq t)] 104)).alloc (Uj #[Uk (Uq (Ua 19 104)),Uk (Uc w.heap.size),Ug .u64 150] 143)).alloc (Uj #[Uk (Uq (Ua 19 104)),Uk (Uc w.heap.size),Ug .u64 150] 143)) (by rw [JG _ _ (Ub w.heap.size) oS];simp);have G:=Er.setP t (Ua (w.heap.size+1+1+1) 0) e old ((((w.alloc (Uj #[Uk (Uq t)] 104)).alloc (Uj #[Uk (Uq (Ua 19 104)),Uk (Uc w.heap.size),Ug .u64 150] 143)).alloc (Uj #[Uk (Uq (Ua 19 104)),Uk (Uc w.heap.size),Ug .u64 150] 143)).alloc (Uj #[Uk (Uq e)] 95))
  (by rw [UJ _ _ _ _ oP];rfl)
  (by rw [JG _ _ t oS,JG _ _ t oS,JG _ _ t oS,JG _ _ t j];exact ht0)
  (by rw [JI _ _ t oS,JI _ _ t oS,JI _ _ t oS,JI _ _ t (Nat.ne_of_lt j)];exact hf0)
 go_enter func54,ntmps54;go_wp2;refine wp_loop_rounds 1 ?_;rw [rounds_succ];go_wp2;go_ret;exact⟨rfl,rfl⟩
theorem Qo3 (t:Us)(w:Ur):
  Cl 54 #[.nilIface,.iface 104 (Uk (Uq t))] w fun ev w'=>ev=Ui (Un false)/\ w'=w:=by
 go_enter func54,ntmps54;go_wp2;go_ret;exact⟨rfl,rfl⟩
theorem QqE (w:Ur):Cl 32 #[.nilIface] w (Rt w (Ud 0)):=by
 have j:=hid (zO w (Uj #[.pointer Up] 95));obtain⟨W,k⟩:=zE (w.alloc (Uj #[.pointer Up] 95));rw [k] at j;go_enter func32,ntmps32;go_wp2_with fail;try rw [k]
 refine(Qo3 _ W).mono ?_;rintro e w1 ⟨rfl,rfl⟩;go_wp2_with fail;go_ret;exact⟨rfl,j⟩
theorem QpG (b:Nat)(C:Int)(w:Ur)(hg:w.cell? (Ub 2)=Uq (.iface 183 (Uo #[Uk (Uq (Ua 19 73))])))(hC:w.cell? (Ub b)=Uq (Ud C)):
  Cl 32 #[.iface 95 (Uk (Uc b))] w (Rt w (Ud C)):=by
 have m:Bl w (w.alloc (Uj #[.pointer Up] 95)):=zO w _;obtain⟨W,j⟩:=zE (w.alloc (Uj #[.pointer Up] 95));have g:W.heap.size=w.heap.size+1:=j▸oP;have v:W.cell? (Ub w.heap.size)=Uq (.pointer Up):=j▸oP;have z:W.frozen? (Ub w.heap.size)=false:=j▸oP;rw [j] at m;have h:W.cell? (Ub 2)=Uq (.iface 183 (Uo #[Uk (Uq (Ua 19 73))])):=(m.cell (p:=(Ub 2)) (block_lt_of_cell hg)).trans hg;have y:=hid (Qo2 (Ub b) (Ub w.heap.size) (.pointer Up) W h v z);have A:Hid (b<w.heap.size):=hid (block_lt_of_cell hC);have i:=hid hC;have t:=hid m;have k:=hid g;have s:=hid v;clear m g v z h hg hC;go_enter func32,ntmps32;go_wp2_with fail;try rw [j]
 clear j;refine y.mono ?_;rintro e w1 ⟨rfl,q⟩;have r:Bl w w1:=by
  rw [q];exact(((((t.alloc (oH k) _).alloc (by simp;have:=k.out;omega) _).alloc (by simp;have:=k.out;omega) _).alloc (by simp;have:=k.out;omega) _).setCell (p:=(Ub w.heap.size)) zL _)
 have M:w1.cell? (Ub w.heap.size)=Uq (Uk (Uc b)):=by
  rw [q];refine UH _ _ _ (u:=.pointer Up) ?_;have E:=k.out;rw [JG _ _ _ oS,JG _ _ _ oS,JG _ _ _ oS,JG _ _ _ oS];exact s
 have O:w1.cell? (Ub b)=Uq (Ud C):=(r.cell (p:=(Ub b)) A).trans i;have o:=hid r;clear q r y;go_wp2_with fail;go_ret;exact⟨rfl,o⟩
def HsP (rb:Nat)(w:Ur)(e:Ending)(w':Ur):Prop:=∃b c f,e=Ui (.map (Uq b))/\ HdM w' b c f/\ (f 1=Uq (.func (.func 83) #[Uk (Uc rb)] #[])/\ f 2=Uq (.func (.func 84) #[Uk (Uc rb)] #[])/\ f 3=Uq (.func (.func 84) #[Uk (Uc rb)] #[])/\∀k,k≠1 ->k≠2 ->k≠3 ->f k=Up)/\ Bl w w'
theorem QjB (rb:Nat)(w:Ur):Cl 53 #[Uk (Uc rb)] w fun e w'=>HsP rb w e w':=by
 obtain⟨W,j⟩:=zE (w.alloc (.map #[] 0));have z:HdM W w.heap.size 0 (fun _=>Up):=j▸HdM.made w;have h:Bl w W:=j▸zO _ _;have u:=hid z;have m:=hid h;have E:=@run_makeMap prog;clear z h;go_enter func53,ntmps53;go_wp2_with fail;try rw [j]
 clear j E;refine Qh7 (k:=1) u oD oD ?_;intro w1 i g;have v:=hid i;have q:=hid (m.grown g m.size (fun k e=>oI e));clear i g u m;go_wp2_with fail;refine Qh7 (k:=2) v oD oD ?_;intro w2 b t;have y:=hid b;have r:=hid (q.grown t q.size (fun k e=>oI e));clear b t v q;go_wp2_with fail;refine Qh7 (k:=3) y oD oD ?_;intro M p o;have A:=hid p;have s:=hid (r.grown o r.size (fun k e=>oI e));clear p o y r;go_wp2_with fail;go_ret;exact⟨_,_,_,rfl,A,⟨by simp [QbX],by simp [QbX],by simp [QbX],fun k h1 h2 h3=>by simp [QbX,h1,h2,h3]⟩,s⟩
section
variable {id : Int} {S D X : Sx} {K C : Int} {f : Nat -> Int} {n : Nat} {R : List (Int × List Int)}
theorem Qqy (hr:rpB id S D=true)(hK:K=1)(hq:hnR id S D K f n=(X,R,C)):X=S/\ ((n≠8/\ R=[]/\ C=2) \/(n=8/\ C=0/\∃G,dgB S f=G/\ R=(bif G then [] else [(2,(sxZ S).1)]))):=by
 by_cases j:n=8
 ·cases hd:dgB S f with
  | true=>rw [QqV hr hK j hd] at hq;injection hq with e1 e2;injection e2 with e2 e3;exact⟨e1.symm,.inr ⟨j,e3.symm,true,rfl,e2.symm⟩⟩
  | false=>rw [QqU hr hK j hd] at hq;injection hq with e1 e2;injection e2 with e2 e3;exact⟨e1.symm,.inr ⟨j,e3.symm,false,rfl,e2.symm⟩⟩
 ·rw [Qqd hr (fun h=>j h.2) (fun h=>oM)] at hq;injection hq with e1 e2;injection e2 with e2 e3;exact⟨e1.symm,.inl ⟨j,e2.symm,e3.symm⟩⟩
theorem Qpn (hr:rpB id S D=true)(hK:K=2 \/K=3)(hq:hnR id S D K f n=(X,R,C)):R=[]/\ ((gsK f n=1/\ X=S/\ C=2) \/(gsK f n=0/\ ((hjB S (gsX f n)=false/\ X=S/\ C=3) \/(hjB S (gsX f n)=true/\ X=jnZ S (gsX f n)/\ C=0)))):=by
 rcases Qm2 f n with j|k
 ·cases hd:hjB S (gsX f n) with
  | true=>rw [QqR hr hK j hd] at hq;injection hq with e1 e2;injection e2 with e2 e3;exact⟨e2.symm,.inr ⟨j,.inr ⟨rfl,e1.symm,e3.symm⟩⟩⟩
  | false=>rw [QqT hr hK j hd] at hq;injection hq with e1 e2;injection e2 with e2 e3;exact⟨e2.symm,.inr ⟨j,.inl ⟨rfl,e1.symm,e3.symm⟩⟩⟩
 ·rw [Qqd hr (fun h=>oM) (fun h=>oM)] at hq;injection hq with e1 e2;injection e2 with e2 e3;exact⟨e2.symm,.inl ⟨k,e1.symm,e3.symm⟩⟩
theorem Qqz (hr:rpB id S D=true)(h1:K≠1)(h2:K≠2)(h3:K≠3)(hq:hnR id S D K f n=(X,R,C)):X=S/\ R=[]/\ C=2:=by
 rw [Qqd hr (fun h=>h1 h.1) (fun h=>oM)] at hq;injection hq with e1 e2;injection e2 with e2 e3;exact⟨e1.symm,e2.symm,e3.symm⟩
end
structure ErH (w:Ur):Prop where
 e1:∃t u,w.cell? (Ub 0)=Uq (.iface t u)
 e2:∃t u,w.cell? (Ub 1)=Uq (.iface t u)
 e3:∃t u,w.cell? (Ub 3)=Uq (.iface t u)
 e4:∃t u,w.cell? (Ub 6)=Uq (.iface t u)
 gY:w.cell? (Ub 2)=Uq (.iface 183 (Uo #[Uk (Uq (Ua 19 73))]))
theorem ErH.bw(h:ErH w)(hb:Bl w w'):ErH w':=by
 have k:∀g,(∃t u,w.cell? (Ub g)=Uq (.iface t u)) ->∃t u,w'.cell? (Ub g)=Uq (.iface t u):=fun g ⟨t,u,e⟩=>⟨t,u,(hb.cell (p:=(Ub g)) (block_lt_of_cell e)).trans e⟩;exact⟨k _ h.e1,k _ h.e2,k _ h.e3,k _ h.e4,(hb.cell (p:=(Ub 2)) (block_lt_of_cell h.gY)).trans h.gY⟩
theorem QgW{row:Option Nat}(h:Bl w W)(g:W.grownBy w' row):w.grownBy w' row:=
 ⟨g.os.trans h.os,g.tape.trans h.tape,g.output.trans h.output,Ux h.size g.size,fun k hk hne=>(g.block k (Ut hk h.size) hne).trans (h.block k hk)⟩
theorem HdP.after{id:Int}{R:List (Int×List Int)}(hb:Bl w W)(h:HdP rb id B X Z R C W e w'):HdP rb id B X Z R C w e w':=by
 obtain⟨y,l,v,T,t,z,o,g,a,x,j,x',c,d,c',d',k,m,q,r,u⟩:=h;exact⟨y,l,v,T,t,z,o,g,a,x,j,x',c,d,c',d',k,m,q,r,QgW hb u⟩
theorem Qnz (rb:Nat)(id:Int)(B T l1 A l2 h2:Nat)(a x a' x' pa:Option Us)(c d c' d' n pc:Nat)(S D:Sx)(K:Int)(f:Nat ->Int)(X:Sx)(R:List (Int×List Int))(C:Int)(w:Ur)(E:Nat)(aT aS aL aE:Us)(hq:hnR id S D K f n=(X,R,C))(hm:SmI S)(hm':SmI D)(h:RpD w rb id B T l1 A l2 h2 a x a' x' c d c' d' S D)(hT:T<=rb)(hf:Byt f)(hs:Seg w pa n f)(hn:n<=9223372036854775807)(hnc:n<=pc)(hcc:pc<=9223372036854775807)(hE:QcL w E aT aS aL aE)(hEB:E<=w.heap.size)(hab:∀y,pa=Uq y ->y.block<w.heap.size)(hG:ErH w)(hk:(Lit.int Uh K).wf=true):
  Cl 31 #[Uk (Uc rb),Uo #[Ud K,Uf pa n pc]] w fun e w'=>HdP rb id B X D R C w e w':=by
 obtain⟨W,hW⟩:=zE (w.alloc (Uj #[Ud K,Uf pa n pc] 47));have o:Bl w W:=hW▸zO _ _;have F0:Bx2 W w.heap.size (Ud K) (Uf pa n pc):=hW▸Bx2.made _ _ _ _;have Q:=h.bw o;have Hm:=hid (QcY id a x a' x' c d c' d' S D W hm.2 hm'.2 hm.1 hm'.1 Q.s.at Q.t.at);have HR:=hid Q;have H:=hid F0;have HB:=hid o;have HG:=hid (hG.bw o);have z:=hid hq;have Ha:Hid (∀u R C,rpB id S D=true ->Bl W u ->((n≠8/\ R=[]/\ C=2) \/(n=8/\ C=0/\∃G,dgB S f=G/\ R=(bif G then [] else [(2,(sxZ S).1)]))) ->Cl 83 #[Uk (Uc rb),Uf pa n pc] u fun e w'=>HdP rb id B S D R C u e w'):=hid (fun u R C hr hb r=>by
  obtain⟨t,v,g⟩:=((hG.bw o).bw hb).e3;exact Qlc rb id B T l1 A l2 h2 a x a' x' pa c d c' d' n pc S D f R C u hr hm hm' (Q.bw hb) hf ((hs.bw o).bw hb) hn t v g r)
 have P:Hid (∀u X C,Bl W u ->((gsK f n=1/\ X=S/\ C=2) \/(gsK f n=0/\ ((hjB S (gsX f n)=false/\ X=S/\ C=3) \/(hjB S (gsX f n)=true/\ X=jnZ S (gsX f n)/\ C=0)))) ->Cl 84 #[Uk (Uc rb),Uf pa n pc] u fun e w'=>HdP rb id B X D [] C u e w'):=hid (fun u X C hb r=>by
  obtain⟨t,v,g⟩:=((hG.bw o).bw hb).e4;have b9:=Qaa o hb;exact Qng rb id B T l1 A l2 h2 a x a' x' pa c d c' d' n pc S D f X C u E aT aS aL aE hm (Q.bw hb) hT hf (hs.bw b9) hn hnc hcc (hE.bw (b9.mono hEB)) (Ux hEB b9.size) (fun y hy=>Ut (hab y hy) b9.size) t v g r)
 obtain⟨k0,k1,k2,k3,k4⟩:=Q.bx.q5;clear o F0 Q h hT hs hE hab hG hq hm hm' hf;go_enter func31,ntmps31;go_wp2_with fail;try rw [hW]
 clear hW;refine Hm.mono ?_;rintro e w1 ⟨rfl,b1⟩;have F:=hid b1;clear b1 Hm k0 k1 k2 k3 k4;cases hr:rpB id S D with
 | false=>
  obtain⟨rfl,rfl,rfl⟩:X=S/\ R=[]/\ C=1:=by
   have e:=z.out;rw [QqS hr] at e;injection e with e1 k;injection k with k i;exact⟨e1.symm,k.symm,i.symm⟩
  clear z Ha P;obtain⟨Y,Z,U⟩:=(HG.bw F).e1;have Hb:Hid (∀w',Bl w1 w' ->w'.cell? (Ub 0)=Uq (.iface Y Z)):=hid (fun w' hb=>(hb.cell (p:=(Ub 0)) (block_lt_of_cell U)).trans U);clear U;go_wp2_with fail;refine zS Hb (fun qh=> ?_);refine tZ 0 13 ?_;refine tZ 1 14 ?_;refine tZ 4 4 ?_;obtain⟨z0,V⟩:=zE w1.drew;have q:Bl w1 z0:=V▸zI.drew;rw [V] at qh ⊢;clear V;refine cZ 2 ?_;intro K j;go_simp;have Hc:Bl z0 (z0.alloc (Uj #[Ud 1,.iface Y Z] 97)):=zO _ _;refine j.out _ _ (Hb _ (Qaa q Hc)) (fun qh=> ?_);clear j K;try simp only [zP]
  refine tZ 3 16 ?_;refine tZ 5 5 ?_;refine zD ?_;have M:=hid (QjD 1 (HR.bw (Qaa F q)) (Qaa HB (Qaa F q)) (.iface Y Z));clear qh q Hc;go_wp2_with fail;go_ret2;exact M
 | true=>
 have He:Hid (∀w',Bl w1 w' ->w'.cell? (Ub w.heap.size)=Uq (Ud K)):=hid (fun w' hb=>(H.bw (Qaa F hb) H.lt).c0);have Hd:=hid hr;clear hr;go_wp2_with fail;refine zS He (fun qh=> ?_);refine tZ 0 18 ?_;refine tZ 2 20 ?_;refine tZ 3 21 ?_;refine cZ 1 ?_;intro K j;go_simp;refine(QjB rb _).mono ?_;rintro e w2 ⟨b,cc,ff,rfl,hM,Hn,b2⟩;have Hf:Bl w1 w2:=Qaa zI.drew b2;have Ho:=hM.look hk;refine j.out _ _ (He _ Hf) (fun qh=> ?_);clear j K;try simp only [zP]
 obtain⟨lv,Hj⟩:=zE (hdV (ff K));obtain⟨lb,Hi⟩:=zE ((ff K).isSome);rw [Hj,Hi] at Ho;refine cZ 4 ?_;intro K j;go_simp;refine j.out _ _ (He _ Hf) (fun qh=> ?_);clear j K;try simp only [zP]
 refine tZ 5 17 ?_;refine tZ 6 23 ?_;refine tZ 7 24 ?_;refine tZ 8 6 ?_;refine tZ 9 7 ?_;refine zD ?_;have m:=hid (Qaa F Hf);have I:=hid (And.intro Hj Hi);have O:=hid Hn;clear qh Hf Ho Hj Hi Hn hM b2 He;by_cases A:K=1
 ·obtain⟨rfl,r⟩:=Qqy Hd A z;obtain⟨rfl,rfl⟩:lv=.func (.func 83) #[Uk (Uc rb)] #[]/\ lb=true:=by
   have e:=I.out;rw [A,O.1] at e;exact⟨e.1.symm,e.2.symm⟩
  have N:=H.bw m H.lt;have f1:=N.c1;have HC:=hid (Ha w2 _ _ Hd m r);clear N z r Ha P I O;go_wp2_with fail;refine HC.mono ?_;intro e w3 h3;have h4:=HdP.after (Qaa HB m) h3;obtain⟨fv,l,er,T',Hk,Hg,Hl,Hh,a1,x1,a2,x2,c1,d1,c2,d2,rfl,k,i,J,e5⟩:=h4;have M:Hid (HdP rb id B X D R C w (Ui (Ul #[fv,er])) w3):=hid ⟨fv,l,er,T',Hk,Hg,Hl,Hh,a1,x1,a2,x2,c1,d1,c2,d2,rfl,k,i,J,e5⟩;clear h3 k i J e5 f1 HC;go_wp2_with fail;go_ret2;exact M
 by_cases L:K=2 \/K=3
 ·obtain⟨rfl,r⟩:=Qpn Hd L z;obtain⟨rfl,rfl⟩:lv=.func (.func 84) #[Uk (Uc rb)] #[]/\ lb=true:=by
   have e:=I.out;rcases L with h|h
   ·rw [h,O.2.1] at e;exact⟨e.1.symm,e.2.symm⟩
   ·rw [h,O.2.2.1] at e;exact⟨e.1.symm,e.2.symm⟩
  have N:=H.bw m H.lt;have f1:=N.c1;have HC:=hid (P w2 _ _ m r);clear N z r Ha P I O;go_wp2_with fail;refine HC.mono ?_;intro e w3 h3;have h4:=HdP.after (Qaa HB m) h3;obtain⟨fv,l,er,T',Hk,Hg,Hl,Hh,a1,x1,a2,x2,c1,d1,c2,d2,rfl,k,i,J,e5⟩:=h4;have M:Hid (HdP rb id B X D [] C w (Ui (Ul #[fv,er])) w3):=hid ⟨fv,l,er,T',Hk,Hg,Hl,Hh,a1,x1,a2,x2,c1,d1,c2,d2,rfl,k,i,J,e5⟩;clear h3 k i J e5 f1 HC;go_wp2_with fail;go_ret2;exact M
 obtain⟨rfl,rfl,rfl⟩:=Qqz Hd A (fun h=>L (.inl h)) (fun h=>L (.inr h)) z;obtain⟨rfl,rfl⟩:lv=.nilFunc/\ lb=false:=by
  have e:=I.out;rw [O.2.2.2 K A (fun h=>L (.inl h)) (fun h=>L (.inr h))] at e;exact⟨e.1.symm,e.2.symm⟩
 clear z Ha P I O;obtain⟨Y,Z,U⟩:=(HG.bw m).e2;have Hb:Hid (∀w',Bl w2 w' ->w'.cell? (Ub 1)=Uq (.iface Y Z)):=hid (fun w' hb=>(hb.cell (p:=(Ub 1)) (block_lt_of_cell U)).trans U);clear U;go_wp2_with fail;refine zS Hb (fun qh=> ?_);refine tZ 0 27 ?_;refine tZ 1 28 ?_;refine tZ 4 4 ?_;obtain⟨z0,V⟩:=zE w2.drew;have q:Bl w2 z0:=V▸zI.drew;rw [V] at qh ⊢;clear V;refine cZ 2 ?_;intro K j;go_simp;have Hc:Bl z0 (z0.alloc (Uj #[Ud 2,.iface Y Z] 97)):=zO _ _;refine j.out _ _ (Hb _ (Qaa q Hc)) (fun qh=> ?_);clear j K;try simp only [zP]
 refine tZ 3 30 ?_;refine tZ 5 5 ?_;refine zD ?_;have M:=hid (QjD 2 (HR.bw (Qaa m q)) (Qaa HB (Qaa m q)) (.iface Y Z));clear qh q Hc;go_wp2_with fail;go_ret2;exact M
def HnI (id:Int)(X Z:Sx)(R:List (Int×List Int))(C:Int)(w:Ur)(e:Ending)(w':Ur):Prop:=∃a ca x dx a' ca' x' dx' fv l T l1 h1 l2 h2,e=Ui (Ul #[Uo #[Ud id,Uf a X.l.length ca,Uf x X.n dx,Uf a' Z.l.length ca',Uf x' Z.n dx'],fv,Ud C])/\ SOw w' l1 h1 a x dx X/\ SOw w' l2 h2 a' x' dx' Z/\ (h1<=l2 \/h2<=l1)/\ (w.heap.size<=l1/\ w.heap.size<=l2/\ h1<=T/\ h2<=T/\ T<=w'.heap.size)/\ l.map QiN=R/\ FxR w' T fv l/\ Bl w w'
theorem Qi9 (id:Int)(g h g' h' lo mid hi n pc:Nat)(S D:Sx)(K:Int)(pa:Option Us)(f:Nat ->Int)(X:Sx)(R:List (Int×List Int))(C:Int)(w:Ur)(E:Nat)(aT aS aL aE:Us)(hq:hnR id S D K f n=(X,R,C))(hm:SmI S)(hm':SmI D)(hS:SNw w lo mid g h S)(hD:SNw w mid hi g' h' D)(hf:Byt f)(hs:Seg w pa n f)(hn:n<=9223372036854775807)(hnc:n<=pc)(hcc:pc<=9223372036854775807)(hE:QcL w E aT aS aL aE)(hEB:E<=w.heap.size)(hab:∀y,pa=Uq y ->y.block<w.heap.size)(hG:ErH w)(hk:(Lit.int Uh K).wf=true):
  Cl 9 #[Uo #[Ud id,Uf (Uc g) S.l.length S.l.length,Uf (Uc h) S.n S.n,Uf (Uc g') D.l.length D.l.length,Uf (Uc h') D.n D.n],Uo #[Ud K,Uf pa n pc]] w fun e w'=>HnI id X D R C w e w':=by
 obtain⟨W,A⟩:=zE (((w.alloc (Uj #[Ud id,Uf (Uc g) S.l.length S.l.length,Uf (Uc h) S.n S.n,Uf (Uc g') D.l.length D.l.length,Uf (Uc h') D.n D.n] 42)).alloc (Uj #[Ud K,Uf pa n pc] 47)).alloc (Uj #[Ud 0,Ue,Ue,Ue,Ue] 42));have o:Bl w W:=A▸(Qak _ _ _).alloc oS _;have zW:W.heap.size=w.heap.size+3:=A▸oP;have A0:Bx5 W w.heap.size (Ud id) (Uf (Uc g) S.l.length S.l.length) (Uf (Uc h) S.n S.n) (Uf (Uc g') D.l.length D.l.length) (Uf (Uc h') D.n D.n):=A▸((Bx5.new w _ _ _ _ _ _).up _).up _;have O0:Bx2 W (w.heap.size+1) (Ud K) (Uf pa n pc):=by
  rw [<- A];have:=Bx2.made (w.alloc (Uj #[Ud id,Uf (Uc g) S.l.length S.l.length,Uf (Uc h) S.n S.n,Uf (Uc g') D.l.length D.l.length,Uf (Uc h') D.n D.n] 42)) (Ud K) (Uf pa n pc) 47;exact(by simpa using this:Bx2 _ (w.heap.size+1) _ _).allocs _
 have R0:Bx5 W (w.heap.size+1+1) (Ud 0) Ue Ue Ue Ue:=by
  rw [<- A];simpa using Bx5.new ((w.alloc (Uj #[Ud id,Uf (Uc g) S.l.length S.l.length,Uf (Uc h) S.n S.n,Uf (Uc g') D.l.length D.l.length,Uf (Uc h') D.n D.n] 42)).alloc (Uj #[Ud K,Uf pa n pc] 47)) (Ud 0) Ue Ue Ue Ue 42
 have Hd:=hid (Qgo id g h g' h' lo mid hi S.l.length S.n D.l.length D.n S D W hm.1 hm'.1 (hS.bw o) (hD.bw o));have Hc:Hid (∀(u:Ur) (rb l m:Nat) (a x j x':Option Us) (c d c' d':Nat),Bl W u ->SOw u l m a x d S ->SOw u m rb j x' d' D ->Bx5 u rb (Ud id) (Uf a S.l.length c) (Uf x S.n d) (Uf j D.l.length c') (Uf x' D.n d') ->Cl 31 #[Uk (Uc rb),Uo #[Ud K,Uf pa n pc]] u fun e w'=>HdP rb id l X D R C u e w'):=hid (fun u rb l m a x j x' c d c' d' hb Y O hx=>Qnz rb id l rb l m m rb a x j x' pa c d c' d' n pc S D K f X R C u E aT aS aL aE hq hm hm' ⟨hx,Y,O,.inl zL,Uu _,Y.hl.1,O.hl.1,Uu _,O.hl.2⟩ zL hf (hs.bw (Qaa o hb)) hn hnc hcc (hE.bw ((Qaa o hb).mono hEB)) (Ux hEB (Qaa o hb).size) (fun y hy=>Ut (hab y hy) (Qaa o hb).size) (hG.bw (Qaa o hb)) hk);have HG:=hid hG;have HO:=hid O0;have HR:=hid R0;have HB:=hid o;have Hm:Hid (w.heap.size+3<=W.heap.size):=hid oM;obtain⟨k0,k1,k2,k3,k4⟩:=A0.q5;clear o zW A0 O0 R0 hS hD hs hq hG hE hab hf;go_enter func9,ntmps9;go_wp2_with fail;try rw [A]
 clear A;refine Hd.mono ?_;rintro e w1 ⟨a,P,x,dx,j,Ha,x',Hb,m2,rfl,Y,O,F⟩;obtain⟨U,I⟩:=zE (w1.alloc (Uj #[Ud id,Uf a S.l.length P,Uf x S.n dx,Uf j D.l.length Ha,Uf x' D.n Hb] 42));have G:Bl w1 U:=I▸zO _ _;have N2:Bx5 U w1.heap.size (Ud id) (Uf a S.l.length P) (Uf x S.n dx) (Uf j D.l.length Ha) (Uf x' D.n Hb):=I▸Bx5.new _ _ _ _ _ _ _;have Z:=hid (Qaa F G);have O2:=HO.bw Z HO.lt;obtain⟨o0,o1⟩:=O2.q2;have HC:=hid (Hc U w1.heap.size _ _ a x j x' P dx Ha Hb Z (Y.bw G) (O.bw G) N2);have HN:Hid (W.heap.size<=w1.heap.size):=hid F.size;clear Y O F G N2 O2 Hd Hc k0 k1 k2 k3 k4;go_wp2_with fail;try rw [I]
 clear I;refine HC.mono ?_;rintro e J ⟨H,l,er,T,l1,h1,l2,h2,a,x,j,x',c,d,c',d',rfl,Hi,hR,⟨Hg,Hf⟩,hg⟩;have N:Hid (Bl W J):=hid (Z.grown hg Z.size (fun k e=>by injection e with e;have:=HN.out;omega));have z:=hid hR;have Hj:=hid Hf;have HL:=hid Hg;have Hl:Hid (∀u,Bl J u ->Cl 32 #[er] u (Rt u (Ud C))):=hid (fun u hb=>by
  rcases Hi with ⟨rfl,rfl⟩|⟨b,rfl,hc⟩
  ·exact QqE u
  ·exact QpG b C u (HG.bw (Qaa HB (Qaa N hb))).gY ((hb.cell (p:=(Ub b)) (block_lt_of_cell hc)).trans hc))
 have He:Hid (∀u,Bl J u ->(u.cell? (Ub w1.heap.size)=Uq (Ud id)/\ u.cell? (Ua w1.heap.size 1)=Uq (Uf a X.l.length c)/\ u.cell? (Ua w1.heap.size 2)=Uq (Uf x X.n d)/\ u.cell? (Ua w1.heap.size 3)=Uq (Uf j D.l.length c')/\ u.cell? (Ua w1.heap.size 4)=Uq (Uf x' D.n d'))):=hid (fun u hb=>by
  have Q:=z.bx.bw hb z.bx.lt;exact⟨Q.c0,Q.c1,Q.c2,Q.c3,Q.c4⟩)
 clear Hi hR Hf Hg hg HC o0 o1;go_wp2_with fail;refine zS He (fun qh=> ?_);refine tZ 0 17 ?_;refine tZ 1 18 ?_;refine tZ 2 19 ?_;refine cZ 3 ?_;intro K V;go_simp;refine(Hl _ zI.drew).mono ?_;rintro e L ⟨rfl,b5⟩;have i:Bl J L:=Qaa zI.drew b5;refine V.out _ _ (He _ i) (fun qh=> ?_);clear V K;try simp only [zP]
 have B:=HR.bw (Qaa N i) HR.lt;obtain⟨r0,r1,r2,r3,r4,rf⟩:=B.p5;refine cZ 4 ?_;intro K V;go_simp;have hz:=Hm.out;have hn:=HN.out;have Hn:=z.bd;have Ho:=z.s.hl;have Hp:=i.size;have hX:=z.s.bw i;have hZ:=z.t.bw i;have GX:=QpM hX (r:=w.heap.size+1+1) oM (Ud id) (Uf a X.l.length c) (Uf x X.n d) (Uf j D.l.length c') (Uf x' D.n d');have GZ:=QpM hZ (r:=w.heap.size+1+1) oM (Ud id) (Uf a X.l.length c) (Uf x X.n d) (Uf j D.l.length c') (Uf x' D.n d');have GF:FxR (((((L.setCell (Ua (w.heap.size+1+1) 0) (Ud id)).setCell (Ua (w.heap.size+1+1) 1) (Uf a X.l.length c)).setCell (Ua (w.heap.size+1+1) 2) (Uf x X.n d)).setCell (Ua (w.heap.size+1+1) 3) (Uf j D.l.length c')).setCell (Ua (w.heap.size+1+1) 4) (Uf x' D.n d')) T H l:=(Hj.bw i).stay (fun q q1 q2=>by rw [zH _ _ _ _ oQ,zH _ _ _ _ oQ,zH _ _ _ _ oQ,zH _ _ _ _ oQ,zH _ _ _ _ oQ]);have Hh:=Qaa HB (Qaa N i);have GB:Bl w (((((L.setCell (Ua (w.heap.size+1+1) 0) (Ud id)).setCell (Ua (w.heap.size+1+1) 1) (Uf a X.l.length c)).setCell (Ua (w.heap.size+1+1) 2) (Uf x X.n d)).setCell (Ua (w.heap.size+1+1) 3) (Uf j D.l.length c')).setCell (Ua (w.heap.size+1+1) 4) (Uf x' D.n d')):=((((Hh.setCell (p:=(Ua (w.heap.size+1+1) 0)) oS _).setCell (p:=(Ua (w.heap.size+1+1) 1)) oS _).setCell (p:=(Ua (w.heap.size+1+1) 2)) oS _).setCell (p:=(Ua (w.heap.size+1+1) 3)) oS _).setCell (p:=(Ua (w.heap.size+1+1) 4)) oS _;have M:Bx5 (((((L.setCell (Ua (w.heap.size+1+1) 0) (Ud id)).setCell (Ua (w.heap.size+1+1) 1) (Uf a X.l.length c)).setCell (Ua (w.heap.size+1+1) 2) (Uf x X.n d)).setCell (Ua (w.heap.size+1+1) 3) (Uf j D.l.length c')).setCell (Ua (w.heap.size+1+1) 4) (Uf x' D.n d')) w1.heap.size (Ud id) (Uf a X.l.length c) (Uf x X.n d) (Uf j D.l.length c') (Uf x' D.n d'):=(((((z.bx.bw i z.bx.lt).setAt _ _ (by show w.heap.size+1+1≠_;omega)).setAt _ _ (by show w.heap.size+1+1≠_;omega)).setAt _ _ (by show w.heap.size+1+1≠_;omega)).setAt _ _ (by show w.heap.size+1+1≠_;omega)).setAt _ _ (by show w.heap.size+1+1≠_;omega);have Q5:=((((B.set0 (Ud id)).set1 (Uf a X.l.length c)).set2 (Uf x X.n d)).set3 (Uf j D.l.length c')).set4 (Uf x' D.n d');refine V.out _ _ ⟨M.c0,M.c1,M.c2,M.c3,M.c4⟩ (fun qh=> ?_);clear V K;try simp only [zP]
 refine tZ 5 5 ?_;refine tZ 6 6 ?_;refine zD ?_;have HE:Hid (HnI id X D R C w (Ui (Ul #[Uo #[Ud id,Uf a X.l.length c,Uf x X.n d,Uf j D.l.length c',Uf x' D.n d'],H,Ud C])) _):=hid ⟨a,c,x,d,j,c',x',d',H,l,T,l1,h1,l2,h2,rfl,GX,GZ,z.dj,⟨oM,oM,oM,oM,by simp [UC];omega⟩,HL,GF,GB⟩;have Hk:=hid Q5;clear GX GZ GF GB M Q5 B hX hZ Hh i b5 qh Hn Ho;go_wp2_with fail;obtain⟨q0,q1,q2,q3,q4⟩:=Hk.q5;refine zF (v:=Ul #[Uo #[Ud id,Uf a X.l.length c,Uf x X.n d,Uf j D.l.length c',Uf x' D.n d'],H,Ud C]) (by simp [results,results9,go_sem,q0,q1,q2,q3,q4]) ?_;exact HE
theorem Qko {H:Type}{enc:TypeId×Value ->H}{r:Reach}{d:DataW H}{p:List MemPlace}
  (hval:Value.okWide prog W r b0 32 v) (h:DataW.Trod enc prog W base (fun _=>true) held 32 v d p):
  ∃k a n c f,v=Uo #[Ud k,Uf a n c]/\ (Lit.int Uh k).wf=true/\ n<=9223372036854775807/\ Seg W a n f/\ Byt f:=by
 obtain⟨O,Q,U,V,m,rfl,rfl,rfl,z,g⟩:=Go.Joins.open_agg2 underlying32 oK (show prog.cellsOf 32=2 by kernel_rfl) hval h;obtain⟨z0,u,_,y⟩:=DataW.trod_int underlying3 z;simp at u;subst u;rcases open_ints underlying30 underlying5 oK g with ⟨j,_⟩|⟨x,l,c,M,j,_,i,A,q,_,o,E⟩
 ·simp at j;subst j;exact⟨z0,Up,0,0,fun _=>0,rfl,y,oM,.inl rfl,fun _=>⟨oP,oP⟩⟩
 ·simp at j;subst j;obtain⟨s,t,b⟩:=QpK (w:=W) (a0:=Uq x) (len0:=l) (cap0:=c) (z0:=M) (.inr ⟨x,rfl,i,A,by first|exact q|simpa using q|omega,o,E⟩);exact⟨z0,Uq x,l,c,_,rfl,y,b,s,t⟩
theorem Qra {w4:Ur}{k0:Nat}{u0 u1:Value}(sl:Value)(r0:w4.cell? (Ua (B+1) 0)=Uq u0)(r1:w4.cell? (Ua (B+1) 1)=Uq u1)(o1:w4.cell? (Ua (B+2) 1)=Uq Ue):
  ∃Z,Z=((w4.setCell (Ua (B+2) 1) sl).setCell (Ua (B+1) 0) (Ud k)).setCell (Ua (B+1) 1) sl/\ Z.cell? (Ua (B+1) 0)=Uq (Ud k)/\ Z.cell? (Ua (B+1) 1)=Uq sl/\ Z.heap.size=w4.heap.size/\ (Z.os=w4.os/\ Z.tape=w4.tape/\ Z.output=w4.output)/\∀b,b≠B+1 ->b≠B+2 ->Z.heap[b]? =w4.heap[b]? :=by
 refine⟨_,rfl,?_,?_,?_,⟨rfl,rfl,rfl⟩,fun b h1 h2=> ?_⟩
 ·have a0:(w4.setCell (Ua (B+2) 1) sl).cell? (Ua (B+1) 0)=Uq u0:=(UF _ _ _ _ oP).trans r0;exact(UI _ _ _ _ oP).trans (UH _ _ _ a0)
 ·have j:((w4.setCell (Ua (B+2) 1) sl).setCell (Ua (B+1) 0) (Ud k)).cell? (Ua (B+1) 1)=Uq u1:=(UI _ _ _ _ oP).trans ((UF _ _ _ _ oP).trans r1);exact UH _ _ _ j
 ·simp [UC]
 ·exact(zH _ _ _ _ h1).trans ((zH _ _ _ _ h1).trans (zH _ _ _ _ h2))
theorem QlT (k:Int)(a:Option Us)(n c:Nat)(f:Nat ->Int)(w:Ur)(hn:n<=1048576)(hf:Byt f)(h:Seg w a n f):
  Cl 8 #[Uo #[Ud k,Uf a n c]] w fun e w'=>∃g xs,e=Ui (Uo #[Ud k,Uf (Uc g) n n])/\ w.heap.size<=g/\ g<w'.heap.size/\ Seg w' (Uc g) n f/\ w'.ownsRow w.heap.size 5 1 (Uf (Uc g) n n) n xs/\ Bl w w':=by
 have C:Hid (∀w',Bl w w' ->Cl 29 #[Uf a n c] w' fun e w2=>e=Ui (Uf (Uc w'.heap.size) n n)/\ Seg w2 (Uc w'.heap.size) n f/\ Bl w' w2/\ w'.heap.size<w2.heap.size/\∃xs,w2.ownsRow w'.heap.size 5 1 (Uf (Uc w'.heap.size) n n) n xs):=fun w' m=>Qom a n c f w' hn hf (h.bw m);obtain⟨W,j⟩:=zE (((w.alloc (Uj #[Ud k,Uf a n c] 32)).alloc (Uj #[Ud 0,Ue] 47)).alloc (Uj #[Ud k,Ue] 47));have E:Bl w W:=j▸(QqP _ _ _).alloc oS _;have A:Hid (W.heap.size=w.heap.size+3):=j▸hid oP;have G:W.cell? (Ua (w.heap.size+2) 0)=Uq (Ud k):=by rw [<- j,UJ _ _ _ _ oP];rfl
 have H:W.cell? (Ua (w.heap.size+2) 1)=Uq Ue:=by rw [<- j,UJ _ _ _ _ oP];rfl
 have J:W.cell? (Ua (w.heap.size+1) 0)=Uq (Ud 0):=by rw [<- j,YM _ _ _ oP,UJ _ _ _ _ oP];rfl
 have K:W.cell? (Ua (w.heap.size+1) 1)=Uq Ue:=by rw [<- j,YM _ _ _ oP,UJ _ _ _ _ oP];rfl
 have x1:W.cell? (Ua w.heap.size 1)=Uq (Uf a n c):=by rw [<- j,YM _ _ _ oS,YM _ _ _ oP,UJ _ _ _ _ rfl];rfl
 have O:∀i,W.frozen? (Ua (w.heap.size+2) i)=false:=fun i=>by rw [<- j,UK _ _ _ _ oP]
 have t:∀i,W.frozen? (Ua (w.heap.size+1) i)=false:=fun i=>by rw [<- j,World.frozen?_alloc_past _ _ _ oP,UK _ _ _ _ oP]
 have s:=hid E;clear h hf E;go_enter func8,ntmps8;go_wp2_with fail;try rw [j]
 clear j;refine(C W s).mono ?_;rintro e w4 ⟨rfl,I,y,z4,Ha,V⟩;have U:=A.out;have u:=fun(b i:Nat) (m:b<W.heap.size)=>y.cell (p:=(Ua b i)) m;have z:=fun(b i:Nat) (m:b<W.heap.size)=>y.frozen (p:=(Ua b i)) m;have u0:=(u (w.heap.size+2) 0 oM).trans G;have u1:=(u (w.heap.size+2) 1 oM).trans H;have v0:=(u (w.heap.size+1) 0 oM).trans J;have v1:=(u (w.heap.size+1) 1 oM).trans K;have Hb:=(z (w.heap.size+2) 1 oM).trans (O 1);have Hc:=(z (w.heap.size+1) 0 oM).trans (t 0);have Hd:=(z (w.heap.size+1) 1 oM).trans (t 1);have X:=hid I;have N:=hid V;have L:=hid y;clear I V y u z G H J K O t U;go_wp2_with fail;obtain⟨Z,Q,q0,q1,qs,o,Y⟩:=Qra (w4:=w4) (B:=w.heap.size) (k0:=0) (k:=k) (Uf (Uc W.heap.size) n n) v0 v1 u1;show bodyPost _ _ _ _ _ (((w4.setCell (Ua (w.heap.size+2) 1) (Uf (Uc W.heap.size) n n)).setCell (Ua (w.heap.size+1) 0) (Ud k)).setCell (Ua (w.heap.size+1) 1) (Uf (Uc W.heap.size) n n));rw [<- Q];clear Q;have U:=A.out;have M:∀b,W.heap.size<=b ->Z.heap[b]? =w4.heap[b]? :=fun b m=>Y b oM oM;refine zF (v:=Uo #[Ud k,Uf (Uc W.heap.size) n n]) (by simp [results,results8,go_sem,q0,q1]) ⟨W.heap.size,Ha,rfl,oM,oM,?_,?_,?_⟩
 ·rcases X.out with h|⟨b,off,e,m,F⟩
  ·exact .inl h
  ·injection e with e;injection e with e1 e2 _;subst e1 e2;exact .inr ⟨_,_,rfl,oM,fun i hi=>(UB (M _ zL)).trans (F i hi)⟩
 ·obtain⟨S,T⟩:=N.out;refine⟨S,T.imp id ?_⟩;rintro⟨g,cap,D,e,P,R,r⟩;exact⟨g,cap,D,e,oM,(M g P).trans R,r⟩
 ·have q:=s.trans (L.mono oM);refine⟨o.1.trans q.os,o.2.1.trans q.tape,o.2.2.trans q.output,by rw [qs];exact q.size,fun b m=>(Y b oM oM).trans (q.block b m)⟩
theorem Qok (a:Option Us)(n c:Nat)(m:Int)(w:Ur)(hn:n<=9223372036854775807)(h0:0<=m)(h1:m<=1048576):
  Cl 19 #[Uf a n c,Ud m] w fun e w'=>(∃k',e=Ui (Ud k')/\ (0<=k' ->n<=1048576))/\ w'=w:=by
 have q:IntKind.i64.wrap (m - (n:Int))=m - (n:Int):=by rw [IntKind.wrap_i64];omega
 by_cases h:(n:Int)<=m
 ·have k:decide (m - (n:Int)<0)=false:=oS;have j:Hid ((n:Int)<=m/\ m<=1048576):=hid ⟨h,h1⟩;clear h h0 h1;go_enter func19,ntmps19;go_wp2_with fail;go_ret;exact⟨⟨_,rfl,fun _=>oH j⟩,rfl⟩
 ·have k:decide (m - (n:Int)<0)=true:=oS;clear h h0 h1;go_enter func19,ntmps19;go_wp2_with fail;go_ret;exact⟨⟨_,rfl,fun h=>oM⟩,rfl⟩
theorem QlP (k:Int)(a:Option Us)(n c:Nat)(m:Int)(w:Ur)(hn:n<=9223372036854775807)(h0:0<=m)(h1:m<=1048576):
  Cl 5 #[Uo #[Ud k,Uf a n c],Ud m] w fun e w'=>(∃j,e=Ui (Ud j)/\ (0<=j ->n<=1048576))/\ Bl w w':=by
 have v:=hid (fun w'=>Qok a n c m w' hn h0 h1);have r:Hid (Bl w (w.alloc (Uj #[Ud k,Uf a n c] 32))):=zO _ _;clear h0 h1 hn;go_enter func5,ntmps5;go_wp2_with fail;refine(v _).mono ?_;rintro e w' ⟨⟨j,rfl,y⟩,rfl⟩;have u:=hid y;clear y v;by_cases q:j<0
 ·have z:decide (j<0)=true:=oW q;clear q;go_wp2_with fail;go_ret;first|exact⟨⟨_,rfl,u⟩,r⟩|exact⟨⟨_,rfl,fun h=>oM⟩,r⟩
 ·have z:decide (j<0)=false:=oW q;clear q;go_wp2_with fail;go_ret;exact⟨⟨_,rfl,u⟩,r⟩
structure FrN (w:Ur)(lo hi g n:Nat)(f:Nat ->Int):Prop where
 sg:Seg w (Uc g) n f
 ow:∃xs,w.ownsRow lo 5 1 (Uf (Uc g) n n) n xs
 l1:lo<=g
 l2:g<hi
 l3:hi<=w.heap.size
theorem FrN.same(h:FrN w lo hi g n f)(hs:w.heap.size<=w'.heap.size)(e:w'.heap[g]? =w.heap[g]?):FrN w' lo hi g n f:=by
 obtain⟨xs,y,z⟩:=h.ow;refine⟨Qis (cap:=n) h.sg hs (fun b k=> ?_),⟨xs,y,z.imp id ?_⟩,h.l1,h.l2,Ux h.l3 hs⟩
 ·have k:g=b:=by simpa [Value.ownBlock] using k
  rw [<- k];exact e
 ·rintro⟨q,cap,m,j,u,v,r⟩;have:g=q:=by injection j with j;injection j with j;injection j
  exact⟨q,cap,m,j,u,by rw [<- this,e,this];exact v,r⟩
theorem FrN.bw(h:FrN w lo hi g n f)(hb:Bl w w'):FrN w' lo hi g n f:=h.same hb.size (hb.block g (Ut h.l2 h.l3))
theorem QlU (k:Int)(a:Option Us)(n c:Nat)(f:Nat ->Int)(w:Ur)(hn:n<=1048576)(hf:Byt f)(h:Seg w a n f):
  Cl 8 #[Uo #[Ud k,Uf a n c]] w fun e w'=>∃g,e=Ui (Uo #[Ud k,Uf (Uc g) n n])/\ FrN w' w.heap.size w'.heap.size g n f/\ Bl w w':=
 (QlT k a n c f w hn hf h).mono fun e w' ⟨g,xs,e1,h1,h2,h3,h4,h5⟩=>⟨g,e1,⟨h3,⟨xs,h4⟩,h1,h2,Uu _⟩,h5⟩
theorem QiH (lo hi g n m:Nat)(k:Int)(f:Nat ->Int)(w:Ur)(hm:m<=9000000000000)(hn:n<=1048576)(h:FrN w lo hi g n f):
  Cl 14 #[Uo #[Ud k,Uf (Uc g) n n],Ud (m:Int)] w fun e w'=>(∃k1:Nat,e=Ui (Ud (k1:Int)))/\ Btw lo hi w w':=by
 obtain⟨xs,r⟩:=h.ow;have y:=hid (And.intro h.l1 (And.intro h.l2 h.l3));have j:Hid (Bl w (w.alloc (Uj #[Ud k,Uf (Uc g) n n] 47))):=zO _ _;have z:=hid (QmF lo g n n m xs _ hm oM (r.alloc (Uj #[Ud k,Uf (Uc g) n n] 47)));clear r h;go_enter func14,ntmps14;go_wp2_with fail;refine z.mono ?_;rintro e w1 ⟨rfl,q,t,_,u⟩;have v:Hid (Btw lo hi w w1):=hid ⟨q.os.trans j.os,q.tape.trans j.tape,q.output.trans j.output,oH j.size,fun b hb hne=>(u b (fun e=>oH y)).trans (j.block b hb)⟩;clear q t u;go_wp2_with fail;go_ret;exact⟨⟨_,rfl⟩,v⟩
theorem QmG (id:Int){mid:Nat}(hm:S.Sm)(hm':D.Sm)(h:SOw w lo mid a x d S)(h':SOw w mid hi a' x' d' D):
  Cl 13 #[Uo #[Ud id,Uf a S.l.length c,Uf x S.n d,Uf a' D.l.length c',Uf x' D.n d'],Ud 1] w fun e w'=>e=Ui (Ud (mE D (mE S 1):Int))/\ Btw lo hi w w'/\ Qjg w' lo mid a x S 1/\ Qjg w' mid hi a' x' D (mE S 1):=by
 obtain⟨W,y⟩:=zE (w.alloc (Uj #[Ud id,Uf a S.l.length c,Uf x S.n d,Uf a' D.l.length c',Uf x' D.n d'] 42));have j:Bl w W:=y▸zO _ _;have r:Bx5 W w.heap.size (Ud id) (Uf a S.l.length c) (Uf x S.n d) (Uf a' D.l.length c') (Uf x' D.n d'):=y▸Bx5.new _ _ _ _ _ _ _;have k:Hid (lo<=mid/\ mid<=hi/\ hi<=w.heap.size):=hid ⟨h.hl.1,h'.hl.1,h'.hl.2⟩;have I:=(Qho hm 1).1;have g:=hid (Qcx (c:=c) (h.bw j) hm 1 oM);have u:=hid (fun w1(t:Btw lo mid W w1)=>Qcx (c:=c') ((h'.bw j).same t.size (fun q h1 h2=>t.block q (Ut h2 (h'.bw j).hl.2) (.inr h1))) hm' (mE S 1) oM);have M:=hid (Btw.bw (lo:=lo) (hi:=hi) j);have v:=hid r;have U:Hid (w.heap.size<=W.heap.size):=hid j.size;obtain⟨E,i⟩:=zE (mE S 1);rw [i] at g u I ⊢;have H:mE S 1=E:=i;obtain⟨X,p⟩:=zE (mE D E);rw [p] at u ⊢;have J:=r.c1;have K:=r.c2;clear h h' j r i p H;go_enter func13,ntmps13;go_wp2_with fail;try rw [y]
 clear y;refine g.mono ?_;rintro e w1 ⟨rfl,m,s⟩;have o:=m.block w.heap.size v.lt (.inr (oH k));have L:=(UB (a:=(Ua w.heap.size 3)) o).trans v.c3;have N:=(UB (a:=(Ua w.heap.size 4)) o).trans v.c4;have b:=hid (u w1 m);have V:=hid s;have O:=hid (M.trans (m.wide zL k.2.1));have G:Hid (hi<=w1.heap.size):=hid (by have:=m.size;have:=k.out;have:=U.out;omega);clear m s o g u J K v;go_wp2_with fail;refine b.mono ?_;rintro e w2 ⟨rfl,z,A⟩;have Q:=hid (O.trans (z.wide k.1 zL));have Z:=hid A;have Y:=hid (V.move z.size (fun q h1 h2=>z.block q (oJ G k) (.inl h2)));clear z A b L N;go_wp2_with fail;go_ret;exact⟨rfl,Q,Y,Z⟩
theorem Qgw (id:Int)(hm:S.Sm)(hm':D.Sm)(h:SMk w a x S 1)(h':SMk w a' x' D (mE S 1)):
  Cl 16 #[Uo #[Ud id,Uf a S.l.length c,Uf x S.n d,Uf a' D.l.length c',Uf x' D.n d'],Ud 1] w (Rt w (Ud (mE D (mE S 1):Int))):=by
 obtain⟨W,r⟩:=zE (w.alloc (Uj #[Ud id,Uf a S.l.length c,Uf x S.n d,Uf a' D.l.length c',Uf x' D.n d'] 42));have m:Bl w W:=r▸zO _ _;have j:Bx5 W w.heap.size (Ud id) (Uf a S.l.length c) (Uf x S.n d) (Uf a' D.l.length c') (Uf x' D.n d'):=r▸Bx5.new _ _ _ _ _ _ _;have A:=(Qho hm 1).1;have u:=hid (Qfd (c:=c) (d:=d) hm 1 oM (h.bw m));have k:=hid (fun w1(hb:Bl W w1)=>Qfd (c:=c') (d:=d') hm' (mE S 1) oM (h'.bw (Qaa m hb)));have b:=hid m;have v:=hid j;obtain⟨E,t⟩:=zE (mE S 1);rw [t] at u k A ⊢;obtain⟨i,o⟩:=zE (mE D E);rw [o] at k ⊢;have V:decide ((E:Int)<0)=false:=oP;have Y:decide ((i:Int)<0)=false:=oP;have M:=j.c1;have O:=j.c2;clear h h' m j t o;go_enter func16,ntmps16;go_wp2_with fail;try rw [r]
 clear r;refine u.mono ?_;rintro e w1 ⟨rfl,q⟩;have y:=v.bw q v.lt;have Q:=y.c3;have U:=y.c4;have z:=hid (k w1 q);have p:=hid (Qaa b q);clear q y u k M O v;go_wp2_with fail;refine z.mono ?_;rintro e w2 ⟨rfl,g⟩;have s:=hid (Qaa p g);clear g z Q U;go_wp2_with fail;go_ret;exact⟨rfl,s⟩
theorem Qg5 (id:Int)(hm:S.Sm)(hm':D.Sm)(h:SOw w l1 h1 a x d S)(h':SOw w l2 h2 a' x' d' D)(hd:h1<=l2 \/h2<=l1)(hT:B<=l1/\ B<=l2/\ h1<=T/\ h2<=T/\ T<=w.heap.size):
  Cl 13 #[Uo #[Ud id,Uf a S.l.length c,Uf x S.n d,Uf a' D.l.length c',Uf x' D.n d'],Ud 1] w fun e w'=>e=Ui (Ud (mE D (mE S 1):Int))/\ Btw B T w w'/\ Qjg w' l1 h1 a x S 1/\ Qjg w' l2 h2 a' x' D (mE S 1):=by
 obtain⟨W,y⟩:=zE (w.alloc (Uj #[Ud id,Uf a S.l.length c,Uf x S.n d,Uf a' D.l.length c',Uf x' D.n d'] 42));have k:Bl w W:=y▸zO _ _;have r:Bx5 W w.heap.size (Ud id) (Uf a S.l.length c) (Uf x S.n d) (Uf a' D.l.length c') (Uf x' D.n d'):=y▸Bx5.new _ _ _ _ _ _ _;have j:Hid ((l1<=h1/\ h1<=w.heap.size)/\ (l2<=h2/\ h2<=w.heap.size)/\ (h1<=l2 \/h2<=l1)/\ B<=l1/\ B<=l2/\ h1<=T/\ h2<=T/\ T<=w.heap.size):=hid ⟨h.hl,h'.hl,hd,hT⟩;have K:=(Qho hm 1).1;have o:=hid (Qcx (c:=c) (h.bw k) hm 1 oM);have u:=hid (fun w1(t:Btw l1 h1 W w1)=>Qcx (c:=c') ((h'.bw k).same t.size (fun q p z=>t.block q (Ut z (h'.bw k).hl.2) oM)) hm' (mE S 1) oM);have Q:=hid (Btw.bw (lo:=B) (hi:=T) k);have v:=hid r;have Y:Hid (w.heap.size<=W.heap.size):=hid k.size;obtain⟨E,b⟩:=zE (mE S 1);rw [b] at o u K ⊢;have J:mE S 1=E:=b;obtain⟨X,A⟩:=zE (mE D E);rw [A] at u ⊢;have p:=r.c1;have z:=r.c2;clear h h' k r b A J hd hT;go_enter func13,ntmps13;go_wp2_with fail;try rw [y]
 clear y;refine o.mono ?_;rintro e w1 ⟨rfl,m,M⟩;have i:=m.block w.heap.size v.lt (.inr (oH j));have L:=(UB (a:=(Ua w.heap.size 3)) i).trans v.c3;have N:=(UB (a:=(Ua w.heap.size 4)) i).trans v.c4;have s:=hid (u w1 m);have Z:=hid M;have U:=hid (Q.trans (m.wide j.2.2.2.1 j.2.2.2.2.2.1));have I:Hid (w.heap.size<=w1.heap.size):=hid (by have:=m.size;have:=j.out;have:=Y.out;omega);clear m M i o u p z v;go_wp2_with fail;refine s.mono ?_;rintro e w2 ⟨rfl,g,O⟩;have V:=hid (U.trans (g.wide j.2.2.2.2.1 j.2.2.2.2.2.2.1));have H:=hid O;have G:=hid (Z.move g.size (fun q p z=>g.block q (oJ I j) (oH j)));clear g O s L N;go_wp2_with fail;go_ret;exact⟨rfl,V,G,H⟩
def HnP (id:Int)(X Z:Sx)(R:List (Int×List Int))(C:Int)(w:Ur)(e:Ending)(w':Ur):Prop:=∃a ca x dx a' ca' x' dx' ra l rc,e=Ui (Ul #[Uo #[Ud id,Uf a X.l.length ca,Uf x X.n dx,Uf a' Z.l.length ca',Uf x' Z.n dx'],Uf ra (List.length (α:=Fx) l) rc,Ud C])/\ SNu w' w.heap.size a x X/\ SNu w' w.heap.size a' x' Z/\ (l.map QiN=R/\ FNu w' w.heap.size ra l)/\ Bl w w'
theorem Qkv(h:Own w B v zs)(hB:B'<=B):Own w B' v zs:=by
 obtain⟨m,q⟩:=h;refine⟨m,q.imp id ?_⟩;rintro⟨g,cap,j,e,k,r⟩;exact⟨g,cap,j,e,Ux hB k,r⟩
theorem Qcd (V:Ur){q:Nat}(h:q≠r)(v0 v1 v2 v3 v4:Value):(((((V.setCell (Ub r) v0).setCell (Ua r 1) v1).setCell (Ua r 2) v2).setCell (Ua r 3) v3).setCell (Ua r 4) v4).heap[q]? =V.heap[q]? :=by
 rw [zH _ _ _ _ h,zH _ _ _ _ h,zH _ _ _ _ h,zH _ _ _ _ h,zH _ _ _ _ h]
theorem QjE {u1 u2 V:Ur}{id:Int}{ra:Option Us}{l:List Fx}{R:List (Int×List Int)}(ca dx ca' dx' rc:Nat)(s1:SNu u1 l1 a x X)(s2:SNu u2 l2 a' x' Z)(z1:u1.heap.size<=V.heap.size)(z2:u2.heap.size<=V.heap.size)(q1:∀q,l1<=q ->q<u1.heap.size ->V.heap[q]? =u1.heap[q]?)(q2:∀q,l2<=q ->q<u2.heap.size ->V.heap[q]? =u2.heap[q]?)(h1:r<l1)(h2:r<l2)(hw:w.heap.size<=r)(hB:Bl w V)(hF:FNu V (r+1) ra l)(hl:l.map QiN=R):
  HnP id X Z R C w (Ui (Ul #[Uo #[Ud id,Uf a X.l.length ca,Uf x X.n dx,Uf a' Z.l.length ca',Uf x' Z.n dx'],Uf ra l.length rc,Ud C])) (((((V.setCell (Ub r) (Ud id)).setCell (Ua r 1) (Uf a X.l.length ca)).setCell (Ua r 2) (Uf x X.n dx)).setCell (Ua r 3) (Uf a' Z.l.length ca')).setCell (Ua r 4) (Uf x' Z.n dx')):=
 ⟨a,ca,x,dx,a',ca',x',dx',ra,l,rc,rfl,s1.move oM (by simpa [UC] using z1) (fun q h3 h4=>(Qcd V oM _ _ _ _ _).trans (q1 q h3 h4)),s2.move oM (by simpa [UC] using z2) (fun q h3 h4=>(Qcd V oM _ _ _ _ _).trans (q2 q h3 h4)),⟨hl,hF.move oM (by simp [UC]) (fun q h3 h4=>Qcd V oM _ _ _ _ _)⟩,((((hB.setCell (p:=(Ub r)) hw _).setCell (p:=(Ua r 1)) hw _).setCell (p:=(Ua r 2)) hw _).setCell (p:=(Ua r 3)) hw _).setCell (p:=(Ua r 4)) hw _⟩
theorem Bx5.atC {wk wk':Ur}{v2 v3 v4:Value}(h:Bx5 wk b v0 v1 v2 v3 v4)(e:wk'.heap[b]? =wk.heap[b]?)(hs:wk.heap.size<=wk'.heap.size):Bx5 wk' b v0 v1 v2 v3 v4:=
 ⟨(UB (a:=(Ub b)) e).trans h.c0,(UB (a:=(Ua b 1)) e).trans h.c1,(UB (a:=(Ua b 2)) e).trans h.c2,(UB (a:=(Ua b 3)) e).trans h.c3,(UB (a:=(Ua b 4)) e).trans h.c4,fun i=>(Ys (a:=(Ua b i)) e).trans (h.f i),Ut h.lt hs⟩
theorem Qog (a:Option Us)(n c:Nat)(f:Nat ->Int)(w:Ur)(hn:n<=9223372036854775807)(hnc:n<=c)(hf:Byt f)(hs:Seg w a n f)(hab:∀y,a=Uq y ->y.block<w.heap.size):
  Cl 25 #[Uf a n c] w fun e w'=>Bl w w'/\∃k r m u,e=Ui (Ul #[Uo #[Uf k (gsX f n).l.length r,Uf m (gsX f n).n u],Ud (gsK f n)])/\ SCt w' k m (gsX f n):=by
 refine(QlM a n c f w hn hnc hf hs hab).mono ?_;rintro e w1 ⟨b,⟨j,l,k,r,m,u,q,rfl,v,z,_⟩|⟨q,rfl⟩⟩
 ·unfold gsX gsK;rw [q];exact⟨b,k,r,m,u,rfl,v.caps.1,(SOw.of (S:=⟨l,j.length,lR j,lF j,lT j⟩) (v.low (Nat.le_succ _)) (FR.weak z (Nat.le_succ _)) rfl rfl rfl rfl b.size).rn⟩
 ·unfold gsX gsK;rw [q];exact⟨b,Up,0,Up,0,rfl,.inl rfl,(SOw.mt w1 ⟨[],0,fun _=>0,fun _=>0,fun _=>0⟩ rfl rfl w1.heap.size w1.heap.size ⟨Uu _,Uu _⟩ Up Up 0).rn⟩
theorem Qn2:(prog.info? 47).map (fun i=>(i.zero,i.size,i.bytes))=Uq (Uq (Uo #[Ud 0,Ue]),2,32):=oK
theorem Qo8 (w:Ur)(a b:Value)(t:TypeId):∀j u,[a,b][j]? =Uq u ->(w.alloc (Uj #[a,b] t)).cell? (((Ub w.heap.size):Us).add j)=Uq u:=by
 intro j u k;match j,k with
 | 0,k=>simp at k;subst k;simp [Addr.add]
 | 1,k=>simp at k;subst k;simp [Addr.add]
theorem Qqw{e0:Nat}(K:Int)(va:Option Us)(m vc:Nat)(h:w.ownsRow e0 47 2 (Uf (Uc e0) 0 0) 0 []):
  ∃q cap j,(Builtin.append_ #[43,43] 43 #[Uf (Uc e0) 0 0,Uf (Uc w.heap.size) 1 1]).run prog (w.alloc (Uj #[Ud K,Uf va m vc] 47))=.ok (Uf (Uc q) 1 cap) j/\ e0<=q/\ j.cell? (Ub q)=Uq (Ud K)/\ j.cell? (Ua q 1)=Uq (Uf va m vc)/\ w.grownBy j (Uq e0):=by
 obtain⟨U,E,M,O,Q⟩:=info_parts Qn2;have Z:=(h.lt e0 rfl).2;have o:=h.alloc (Uj #[Ud K,Uf va m vc] 47);have i:=Qo8 w (Ud K) (Uf va m vc) 47;have v:Bl w (w.alloc (Uj #[Ud K,Uf va m vc] 47)):=zO _ _;obtain⟨t,A⟩:=zE (w.alloc (Uj #[Ud K,Uf va m vc] 47));rw [A] at o i v ⊢;have b:=v.size;obtain⟨v',j,h,y,p,s,Y⟩:=run_append_own_at (P:=prog) t e0 43 43 47 U _ 2 32 underlying43 E M O Q rfl oD (Uf (Uc e0) 0 0) 0 [] o (Ub w.heap.size) 1 1 [Ud K,Uf va m vc] rfl i (fun u hu=>by
  simp only [List.mem_cons,List.not_mem_nil,or_false] at hu;rcases hu with e|e<;>rw [e]<;>rfl) oL oM oM
 rcases y.2 with ⟨g,_⟩|⟨q,cap,V,g,r⟩
 ·have:=s.1 g;exact absurd this.1 oP
 rw [g] at h y;have z:t.grownBy j (Uq e0):=p;refine⟨q,cap,j,h,(y.lt q rfl).1,?_,?_,z.os.trans v.os,z.tape.trans v.tape,z.output.trans v.output,Ux b z.size,fun k hk hne=>(z.block k (Ut hk b) hne).trans (v.block k hk)⟩
 ·rw [y.cellAt 0 oM];rfl
 ·rw [y.cellAt 1 oM];rfl
theorem QiR (id:Int)(g h g' h' lo mid hi n pc:Nat)(S D:Sx)(K:Int)(pa:Option Us)(f:Nat ->Int)(X:Sx)(R:List (Int×List Int))(C:Int)(w:Ur)(hq:hnR id S D K f n=(X,R,C))(hm:SmI S)(hm':SmI D)(hS:SNw w lo mid g h S)(hD:SNw w mid hi g' h' D)(hf:Byt f)(hs:Seg w pa n f)(hn:n<=9223372036854775807)(hnc:n<=pc)(hab:∀y,pa=Uq y ->y.block<w.heap.size):
  Cl 6 #[Uo #[Ud id,Uf (Uc g) S.l.length S.l.length,Uf (Uc h) S.n S.n,Uf (Uc g') D.l.length D.l.length,Uf (Uc h') D.n D.n],Uo #[Ud K,Uf pa n pc]] w fun e w'=>HnP id X D R C w e w':=by
 obtain⟨W,hW⟩:=zE ((((w.alloc (Uj #[Ud id,Uf (Uc g) S.l.length S.l.length,Uf (Uc h) S.n S.n,Uf (Uc g') D.l.length D.l.length,Uf (Uc h') D.n D.n] 42)).alloc (Uj #[Ud K,Uf pa n pc] 47)).alloc (Uj #[Ud 0,Ue,Ue,Ue,Ue] 42)).alloc (Uj #[] 47));have j:Bl w W:=hW▸((Qak _ _ _).alloc oS _).alloc oS _;have zW:W.heap.size=w.heap.size+4:=hW▸oP;have A0:Bx5 W w.heap.size (Ud id) (Uf (Uc g) S.l.length S.l.length) (Uf (Uc h) S.n S.n) (Uf (Uc g') D.l.length D.l.length) (Uf (Uc h') D.n D.n):=by rw [<- hW];exact(((Bx5.new w _ _ _ _ _ _).up _).up _).up _
 have F0:Bx2 W (w.heap.size+1) (Ud K) (Uf pa n pc):=by
  rw [<- hW];have:=Bx2.made (w.alloc (Uj #[Ud id,Uf (Uc g) S.l.length S.l.length,Uf (Uc h) S.n S.n,Uf (Uc g') D.l.length D.l.length,Uf (Uc h') D.n D.n] 42)) (Ud K) (Uf pa n pc) 47;exact((by simpa using this:Bx2 _ (w.heap.size+1) _ _).allocs _).allocs _
 have R0:Bx5 W (w.heap.size+1+1) (Ud 0) Ue Ue Ue Ue:=by
  rw [<- hW];have:=Bx5.new ((w.alloc (Uj #[Ud id,Uf (Uc g) S.l.length S.l.length,Uf (Uc h) S.n S.n,Uf (Uc g') D.l.length D.l.length,Uf (Uc h') D.n D.n] 42)).alloc (Uj #[Ud K,Uf pa n pc] 47)) (Ud 0) Ue Ue Ue Ue 42;exact(by simpa using this:Bx5 _ (w.heap.size+1+1) _ _ _ _ _).up _
 have E0:W.ownsRow (w.heap.size+1+1+1) 47 2 (Uf (Uq (Ua (w.heap.size+1+1+1) 0)) 0 0) 0 []:=by
  rw [<- hW];have:=World.ownsRow_lit (base:=(((w.alloc (Uj #[Ud id,Uf (Uc g) S.l.length S.l.length,Uf (Uc h) S.n S.n,Uf (Uc g') D.l.length D.l.length,Uf (Uc h') D.n D.n] 42)).alloc (Uj #[Ud K,Uf pa n pc] 47)).alloc (Uj #[Ud 0,Ue,Ue,Ue,Ue] 42)).heap.size) (e:=47) (size:=2) (((w.alloc (Uj #[Ud id,Uf (Uc g) S.l.length S.l.length,Uf (Uc h) S.n S.n,Uf (Uc g') D.l.length D.l.length,Uf (Uc h') D.n D.n] 42)).alloc (Uj #[Ud K,Uf pa n pc] 47)).alloc (Uj #[Ud 0,Ue,Ue,Ue,Ue] 42)) #[] 0 zL oL rfl;simpa using this
 have hl:=hm.1.l1;have Kg:=hm'.1.l1;have Gq:=hid (QnL id g h g' h' lo mid hi S.l.length S.n D.l.length D.n S D W hm.1 hm'.1 (hS.bw j) (hD.bw j));have Gv:Hid (∀u,Bl W u ->Cl 21 #[Uo #[Ud id,Uf (Uc g) S.l.length S.l.length,Uf (Uc h) S.n S.n,Uf (Uc g') D.l.length D.l.length,Uf (Uc h') D.n D.n]] u (Rt u (Un (rpB id S D)))):=hid (fun u hb=>Qdi id _ _ _ _ S.l.length S.n D.l.length D.n S D u zL oM zL oM hm.1 hm'.1 (hS.bw (Qaa j hb)).cap.cap (hS.bw (Qaa j hb)).rn (hD.bw (Qaa j hb)).cap.cap (hD.bw (Qaa j hb)).rn);have G1:Hid (∀u,Bl W u ->Cl 24 #[Uo #[Ud id,Uf (Uc g) S.l.length S.l.length,Uf (Uc h) S.n S.n,Uf (Uc g') D.l.length D.l.length,Uf (Uc h') D.n D.n]] u fun e w'=>∃K v zs B,e=Ui (Ul #[Uo #[Ud K,v],Un B])/\ whZ id S D=(K,zs,B)/\ Own w' u.heap.size v zs/\ Bl u w'):=hid (fun u hb=>QkB id _ _ _ _ S.l.length S.n D.l.length D.n S D u zL oM zL oM hm.1 hm'.1 (hS.bw (Qaa j hb)).cap.cap (hS.bw (Qaa j hb)).rn (hD.bw (Qaa j hb)).cap.cap (hD.bw (Qaa j hb)).rn);have Ht:=hid (fun u(hb:Bl W u)=>Qp1 _ _ S.l.length S.n S u zL oM hm.1 (hS.bw (Qaa j hb)).cap.cap (hS.bw (Qaa j hb)).rn);have Gs:=hid (fun u(hb:Bl W u)=>Qog pa n pc f u hn hnc hf (hs.bw (Qaa j hb)) (fun y hy=>Ut (hab y hy) (Qaa j hb).size));have H5:=hid (fun u va vc xa xc(hb:Bl W u)(hc:SCt u va xa (gsX f n))=>QkA _ _ va xa S.l.length S.n vc xc S (gsX f n) u hm.1 (Qj9 hf n).1 ⟨(hS.bw (Qaa j hb)).cap.cap,(hS.bw (Qaa j hb)).rn⟩ hc);have Gd:Hid (∀u,Bl W u ->0<n ->(convert 30 9 (Uf pa n pc)).run prog u=.ok (Um (Qby f 0 n)) u):=hid (fun u hb h0=>QfQ hf (hs.bw (Qaa j hb)) h0);have HQ:=hid hq;have HA:=hid A0;have HF:=hid F0;have HR:=hid R0;have HB:=hid j;have G9:=hid E0;have Hz:Hid (w.heap.size+4<=W.heap.size):=hid oM;obtain⟨k0,k1,k2,k3,k4⟩:=A0.q5;clear j zW A0 F0 R0 E0 hS hD hs hab hq hl Kg hm hm' hf hn hnc;go_enter func6,ntmps6;go_wp2_with fail;try rw [hW]
 clear hW;refine Gq.mono ?_;rintro e w1 ⟨oa,Z,ox,H,M,i,I,s,rfl,s1,s2,b1⟩;obtain⟨U,hU⟩:=zE (w1.alloc (Uj #[Ud id,Uf oa S.l.length Z,Uf ox S.n H,Uf M D.l.length i,Uf I D.n s] 42));have bU:Bl w1 U:=hU▸zO _ _;have O0:Bx5 U w1.heap.size (Ud id) (Uf oa S.l.length Z) (Uf ox S.n H) (Uf M D.l.length i) (Uf I D.n s):=hU▸Bx5.new _ _ _ _ _ _ _;have Hn:=hid (Qaa b1 bU);have Gx:=hid s1;have Gb:=hid s2;have HO:=hid O0;have Hu:Hid (W.heap.size<=w1.heap.size/\ w1.heap.size<U.heap.size):=hid ⟨b1.size,O0.lt⟩;have Hl:=hid bU;have Gw:=hid (Gv U Hn);have AU:=HA.bw Hn HA.lt;clear k0 k1 k2 k3 k4;obtain⟨k0,k1,k2,k3,k4⟩:=AU.q5;have Hs:Hid (∀u,Bl U u ->(Bx5 u (w.heap.size+1+1) (Ud 0) Ue Ue Ue Ue/\ Bx5 u w1.heap.size (Ud id) (Uf oa S.l.length Z) (Uf ox S.n H) (Uf M D.l.length i) (Uf I D.n s))/\ Hid (∀C,HnP id S D [] C w (Ui (Ul #[Uo #[Ud id,Uf oa S.l.length Z,Uf ox S.n H,Uf M D.l.length i,Uf I D.n s],Uf (Uq (Ua (w.heap.size+1+1+1) 0)) 0 0,Ud C])) (((((u.setCell (Ua (w.heap.size+1+1) 0) (Ud id)).setCell (Ua (w.heap.size+1+1) 1) (Uf oa S.l.length Z)).setCell (Ua (w.heap.size+1+1) 2) (Uf ox S.n H)).setCell (Ua (w.heap.size+1+1) 3) (Uf M D.l.length i)).setCell (Ua (w.heap.size+1+1) 4) (Uf I D.n s)))):=hid (fun u hb=>⟨⟨HR.bw (Qaa Hn hb) HR.lt,HO.bw hb HO.lt⟩,hid fun C=>by
  have o:=Hz.out;have h2:=Hu.out;have h3:=hb.size;exact QjE (l:=[]) Z H i s 0 Gx Gb oM oM (fun q _ h4=>(hb.block q oM).trans (Hl.block q h4)) (fun q _ h4=>(hb.block q oM).trans (Hl.block q h4)) oM oM oM (Qaa HB (Qaa Hn hb)) (FNu.nil _ _ _) rfl⟩)
 clear b1 bU O0 s1 s2 AU Gq Gv;go_wp2_with fail;try rw [hU]
 clear hU;refine Gw.mono ?_;rintro e w2 ⟨rfl,b2⟩;have Ge:=hid b2;have Hc:=hid (Qaa Hn b2);clear b2 Gw k0 k1 k2 k3 k4;cases hr:rpB id S D with
 | false=>
  have e:=HQ.out;rw [QqS hr] at e;injection e with e1 e2;injection e2 with e2 e3;subst e1 e2 e3;clear HQ;obtain⟨⟨Rb,Ob⟩,Hf⟩:=Hs _ Ge;obtain⟨L,P,T,r3,r4,rf⟩:=Rb.p5;obtain⟨o0,o1,o2,o3,o4⟩:=Ob.q5;clear Rb Ob;go_wp2_with fail;refine zF (v:=Ul #[Uo #[Ud id,Uf oa S.l.length Z,Uf ox S.n H,Uf M D.l.length i,Uf I D.n s],Uf (Uq (Ua (w.heap.size+1+1+1) 0)) 0 0,Ud 1]) (by simp [results,results6,go_sem,L,P,T,r3,r4]) ?_;exact Hf _
 | true=>
 have G0:Hid (whZ id S D=(2,(sxZ S).1,true)):=hid (if_pos hr);have F2:=HF.bw Hc HF.lt;obtain⟨f0,f1⟩:=F2.q2;clear F2;go_upto_region 5 with fail;go_cut [31] from 23 to 31 (fun b wx=>Ck b (K=1/\ n=8)/\ wx=w2);case first=>
  by_cases o:K=1
  ·subst o;by_cases h8:n=8
   ·have d8:((n:Int)==8)=true:=oS;have H8:=hid h8;clear h8;go_wp2_with fail;go_meet;exact⟨Ck.t (by have:=H8.out;first|omega|(simp;omega)|simp_all),rfl⟩
   ·have d8:((n:Int)==8)=false:=oS;go_wp2_with fail;go_meet;exact⟨Ck.f (by first|omega|(simp;done)|(simp;omega)),rfl⟩
  ·have d1:(K==1)=false:=oW o;go_wp2_with fail;go_meet;exact⟨Ck.f (by first|omega|(simp;done)|(simp;omega)),rfl⟩
 case rest=>
 obtain⟨⟨rfl,rfl,rfl⟩|⟨rfl,Kf⟩,rfl⟩:=hcut
 ·obtain⟨V,hV⟩:=zE (sxD S);obtain⟨s1,Gm⟩:=zE (Qby f 0 8);obtain⟨s2,Gn⟩:=zE (Qby (gz (eB V 8)) 0 8);have Gr:Hid (dgB S f=(s1.toList==s2.toList)):=hid (by unfold dgB;rw [hV,Gm,Gn]);have HV:Hid (V<18446744073709551616):=hid (hV▸QmV S);have Gy:Hid (∀u va vc,Seg u va 8 (gz (eB V 8)) ->(convert 30 9 (Uf va 8 vc)).run prog u=.ok (Um s2) u):=hid (fun u va vc h=>Gn▸QfQ (QjA (QgT V 8)) h oM);rw [hV] at Ht;have Ha:Hid (∀u,Bl wc u ->(u.cell? (Ua (w.heap.size+1) 1)=Uq (Uf pa 8 pc)/\ u.cell? (Ua w.heap.size 1)=Uq (Uf (Uc g) S.l.length S.l.length)/\ u.cell? (Ua w.heap.size 2)=Uq (Uf (Uc h) S.n S.n)/\ (convert 30 9 (Uf pa 8 pc)).run prog u=.ok (Um s1) u)):=hid (fun u hb=>by
   have A:=HA.bw (Qaa Hc hb) HA.lt;have F:=HF.bw (Qaa Hc hb) HF.lt;refine⟨F.c1,A.c1,A.c2,?_⟩;have:=Gd u (Qaa Hc hb) oM;rw [Gm] at this;exact this)
  clear hV Gm Gn f0 f1 Gd;go_wp2_with fail;refine zS Ha (fun qh=> ?_);refine tZ 0 32 ?_;refine tZ 1 33 ?_;refine tZ 2 34 ?_;refine tZ 3 35 ?_;refine tZ 4 36 ?_;refine cZ 5 ?_;intro K E;go_simp;refine(Ht _ (Hc.drew)).mono ?_;rintro e w3 ⟨rfl,b3⟩;have Gl:Bl wc w3:=Qaa zI.drew b3;refine E.out _ _ (Ha _ Gl) (fun qh=> ?_);clear E K;try simp only [zP]
  refine cZ 6 ?_;intro K E;go_simp;refine(Qk8 V _ HV).mono ?_;rintro e w4 ⟨v,rfl,ho,b4⟩;have Hp:=Qaa Gl b4;obtain⟨va,vc,G8,Gp⟩:=ho.any;rw [QeX] at G8 Gp;subst G8;have Ke:=Gy w4 va vc Gp;refine E.out _ _ (Ha _ Hp) (fun qh=> ?_);clear E K;try simp only [zP]
  refine cZ 7 ?_;intro K E;go_simp;refine E.out _ _ (Ha _ Hp) (fun qh=> ?_);clear E K;try simp only [zP]
  refine tZ 8 40 ?_;refine zD ?_;have G2:=hid (Qaa Ge Hp);have Hx:=hid (Qaa Hc Hp);obtain⟨G,hG⟩:=zE ((s1.toList==s2.toList));have HG:=hid (Gr.trans hG);try rw [hG]
  clear qh Gl Hp b3 b4 Ke ho Gp Gr Gy Ha HV Ht hG;cases G with
  | true=>
   have e:=HQ.out;rw [QqV hr rfl rfl HG.out] at e;injection e with e1 e2;injection e2 with e2 e3;subst e1 e2 e3;clear HQ HG;obtain⟨⟨Rb,Ob⟩,Hf⟩:=Hs _ G2;obtain⟨L,P,T,r3,r4,rf⟩:=Rb.p5;obtain⟨o0,o1,o2,o3,o4⟩:=Ob.q5;clear Rb Ob;go_wp2_with fail;refine zF (v:=Ul #[Uo #[Ud id,Uf oa S.l.length Z,Uf ox S.n H,Uf M D.l.length i,Uf I D.n s],Uf (Uq (Ua (w.heap.size+1+1+1) 0)) 0 0,Ud 0]) (by simp [results,results6,go_sem,L,P,T,r3,r4]) ?_;exact Hf _
  | false=>
   have e:=HQ.out;rw [QqU hr rfl rfl HG.out] at e;injection e with e1 e2;injection e2 with e2 e3;subst e1 e2 e3;clear HQ HG;have A4:=HA.bw Hx HA.lt;obtain⟨k0,k1,k2,k3,k4⟩:=A4.q5;have Gz:=hid (G1 w4 Hx);clear A4;go_wp2_with fail;refine Gz.mono ?_;rintro e m ⟨K5,v5,zs,B5,rfl,hz,ho,b5⟩;obtain⟨rfl,hzz,rfl⟩:K5=2/\ (sxZ S).1=zs/\ B5=true:=(by rw [G0.out] at hz;injection hz with e1 e2;injection e2 with e2 e3;exact⟨e1.symm,e2,e3.symm⟩);have Kd:=hid hzz;have Kk:=hid ho;obtain⟨Hi,Hj,rfl,_⟩:=ho.any;obtain⟨z,Hd⟩:=zE (m.alloc (Uj #[Ud 2,Uf Hi zs.length Hj] 47));have b6:Bl m z:=Hd▸zO _ _;have Q5:Bx2 z m.heap.size (Ud 2) (Uf Hi zs.length Hj):=Hd▸Bx2.made _ _ _ _;have Gj:=Qaa b5 b6;have Hg:=hid (Qaa G2 Gj);have Hh:=hid (Qaa Hx Gj);have H7:=hid Q5;have Kb:=hid (Qey b6 ho);have Hy:Hid (W.heap.size<=w4.heap.size/\ w4.heap.size<=m.heap.size/\ m.heap.size<=z.heap.size):=hid ⟨Hx.size,b5.size,b6.size⟩;have Ha:Hid (∀u:Ur,z.heap.size<=u.heap.size ->(∀q,q<z.heap.size ->q≠w.heap.size+1+1+1 ->q≠w.heap.size+1+1 ->u.heap[q]? =z.heap[q]?) ->(u.cell? (Ub w1.heap.size)=Uq (Ud id)/\ u.cell? (Ua w1.heap.size 1)=Uq (Uf oa S.l.length Z)/\ u.cell? (Ua w1.heap.size 2)=Uq (Uf ox S.n H)/\ u.cell? (Ua w1.heap.size 3)=Uq (Uf M D.l.length i)/\ u.cell? (Ua w1.heap.size 4)=Uq (Uf I D.n s)/\ u.cell? (Ub m.heap.size)=Uq (Ud 2)/\ u.cell? (Ua m.heap.size 1)=Uq (Uf Hi zs.length Hj))):=hid (fun u hz hq=>by
    have h0:=Hz.out;have o:=Hu.out;have h2:=Hy.out;have O:=(HO.bw Hg HO.lt).atC (hq w1.heap.size (oH ((HO.bw Hg HO.lt).lt)) oM oM) hz;have e5:=hq m.heap.size H7.lt oM oM;exact⟨O.c0,O.c1,O.c2,O.c3,O.c4,(UB (a:=(Ub m.heap.size)) e5).trans H7.c0,(UB (a:=(Ua m.heap.size 1)) e5).trans H7.c1⟩)
   clear hz hzz ho b5 b6 Gj Q5 k0 k1 k2 k3 k4 Gz;go_wp2_with fail;try rw [Hd]
   clear Hd;refine zR (S:=fun u=>u.cell? (Ub w1.heap.size)=Uq (Ud id)/\ u.cell? (Ua w1.heap.size 1)=Uq (Uf oa S.l.length Z)/\ u.cell? (Ua w1.heap.size 2)=Uq (Uf ox S.n H)/\ u.cell? (Ua w1.heap.size 3)=Uq (Uf M D.l.length i)/\ u.cell? (Ua w1.heap.size 4)=Uq (Uf I D.n s)/\ u.cell? (Ub m.heap.size)=Uq (Ud 2)/\ u.cell? (Ua m.heap.size 1)=Uq (Uf Hi zs.length Hj)) (Ha _ zL (fun _ _ _ _=>rfl)) (fun qh=> ?_);refine tZ 0 48 ?_;refine tZ 1 49 ?_;refine tZ 2 50 ?_;obtain⟨z0,Go⟩:=zE z.drew;have Hb:Bl z z0:=Go▸zI.drew;rw [Go] at qh ⊢;clear Go;obtain⟨q6,Ho,w6,Hq,Ki,p0,p1,gg⟩:=Qqw 2 Hi zs.length Hj (QfI G9 (fun q _ h2=>(Qaa Hh Hb).block q h2));refine cZ 3 ?_;intro K E;go_simp;have Gk:Bl z0 (z0.alloc (Uj #[Ud 2,Uf Hi zs.length Hj] 47)):=zO _ _;refine E.out _ _ (Ha _ (Qaa Hb Gk).size (fun q o _ _=>(Qaa Hb Gk).block q o)) (fun qh=> ?_);clear E K;try simp only [zP]
   refine cZ 4 ?_;intro K E;refine Qcl _ _ _ _ rfl Hq (by rfl) (by rfl) rfl ?_;have He:∀q,q<z.heap.size ->q≠w.heap.size+1+1+1 ->w6.heap[q]? =z.heap[q]? :=fun q o h2=>(gg.block q (Ut o Hb.size) (fun e=>h2 (by injection e with e))).trans (Hb.block q o);have Hr:z.heap.size<=w6.heap.size:=Ux Hb.size gg.size;refine E.out _ _ (Ha _ Hr (fun q o h2 _=>He q o h2)) (fun qh=> ?_);clear E K;try simp only [zP]
   have h0:=Hz.out;have o:=Hu.out;have h5:=Hy.out;have Kj:=Hg.size;have R6:=(HR.bw Hh HR.lt).atC (He (w.heap.size+1+1) (HR.bw Hh HR.lt).lt oM) Hr;obtain⟨L,P,T,r3,r4,rf⟩:=R6.p5;refine cZ 5 ?_;intro K E;go_simp;have H2:=hid (QjE (w:=w) (V:=w6) (r:=w.heap.size+1+1) (id:=id) (C:=0) (R:=[(2,(sxZ S).1)]) (l:=[(2,Uf Hi zs.length Hj,zs)]) Z H i s Ho Gx Gb oM oM (fun q _ h4=>(He q oM oM).trans ((Hg.block q oM).trans (Hl.block q h4))) (fun q _ h4=>(He q oM oM).trans ((Hg.block q oM).trans (Hl.block q h4))) oM oM oM ((Qaa HB Hh).grown ⟨gg.os.trans Hb.os,gg.tape.trans Hb.tape,gg.output.trans Hb.output,Hr,fun k hk hne=>He k hk (fun e=>hne (by rw [e]))⟩ (Qaa HB Hh).size (fun k e=>oI e)) (FNu.one p0 p1 Ki (Qkv (Kb.stay (fun q o h2=>He q h2 oM)) oM)) (by rw [Kd.out];rfl));refine E.out _ _ (Ha _ (by simpa [UC] using Hr) (fun q o h2 h3=>(Qcd w6 h3 _ _ _ _ _).trans (He q o h2))) (fun qh=> ?_);clear E K;try simp only [zP]
   refine tZ 6 5 ?_;refine tZ 7 6 ?_;refine zD ?_;have Q9:=((((R6.set0 (Ud id)).set1 (Uf oa S.l.length Z)).set2 (Uf ox S.n H)).set3 (Uf M D.l.length i)).set4 (Uf I D.n s);have H9:=hid Q9;clear L P T r3 r4 rf;clear qh Hb Gk Hq gg He Hr R6 Q9 h0 o h5 Kj p0 p1;go_wp2_with fail;obtain⟨L,P,T,r3,r4⟩:=H9.q5;refine zF (v:=Ul #[Uo #[Ud id,Uf oa S.l.length Z,Uf ox S.n H,Uf M D.l.length i,Uf I D.n s],Uf (Uc q6) 1 Ho,Ud 0]) (by simp [results,results6,go_sem,L,P,T,r3,r4]) ?_;exact H2
 have F2:=HF.bw Hc HF.lt;clear f0 f1;obtain⟨f0,f1⟩:=F2.q2;have H3:=hid (Gs wc Hc);have H4:Hid (SmI (jnZ S (gsX f n))):=hid (QjL _ _);have Hk:Hid (hjB S (gsX f n)=(jnB S (gsX f n) && QeI (jnZ S (gsX f n)))):=hid rfl;obtain⟨Y,hY⟩:=zE (gsX f n);obtain⟨Q,hQ⟩:=zE (gsK f n);have Ga:=hid hQ;have G3:=hid hY;have Hm:Hid (Q=0 \/Q=1):=hid (hQ▸Qm2 f n);rw [hY,hQ] at H3;rw [hY] at H4 H5 Hk;clear F2 hY hQ Gs Gd Ht G1 G0;go_wp2_with fail;refine H3.mono ?_;rintro e w3 ⟨b3,va,vc,xa,xc,rfl,G7⟩;obtain⟨U3,H0⟩:=zE (w3.alloc (Uj #[Uf va Y.l.length vc,Uf xa Y.n xc] 40));have b4:Bl w3 U3:=H0▸zO _ _;have Y3:Bx2 U3 w3.heap.size (Uf va Y.l.length vc) (Uf xa Y.n xc):=H0▸Bx2.made _ _ _ _;have Gf:=hid (Qaa Ge (Qaa b3 b4));have Hw:=hid (Qaa Hc (Qaa b3 b4));have Gu:=hid (H5 U3 va vc xa xc Hw (G7.bw b4));have Gg:=hid Y3;have F3:=HF.bw Hw HF.lt;clear f0 f1;have f0:=F3.c0;clear b3 b4 G7 Y3 F3 H3 H5;go_upto_region 11 with fail;try rw [H0]
 clear H0;go_cut [70] from 59 to 70 (fun b wx=>Ck b (¬((K=2 \/K=3)/\ Q=0))/\ wx=U3);case first=>
  by_cases h2:K=2
  ·subst h2;rcases Hm.out with rfl|rfl
   ·go_wp2_with fail;go_meet;exact⟨Ck.f (by first|omega|(simp;done)|(simp;omega)),rfl⟩
   ·go_wp2_with fail;go_meet;exact⟨Ck.t (by first|omega|(simp;done)|(simp;omega)),rfl⟩
  ·have d2:(K !=2)=true:=oW h2;by_cases h3:K=3
   ·subst h3;rcases Hm.out with rfl|rfl
    ·go_wp2_with fail;go_meet;exact⟨Ck.f (by first|omega|(simp;done)|(simp;omega)),rfl⟩
    ·go_wp2_with fail;go_meet;exact⟨Ck.t (by first|omega|(simp;done)|(simp;omega)),rfl⟩
   ·have d3:(K !=3)=true:=oW h3;go_wp2_with fail;go_meet;exact⟨Ck.t (by first|omega|(simp;done)|(simp;omega)),rfl⟩
 case rest=>
 obtain⟨⟨rfl,Kh⟩|⟨rfl,hy⟩,rfl⟩:=hcut
 ·have e:=HQ.out;rw [Qqd hr Kf (fun h=>Kh (by rw [<- Ga.out];exact h))] at e;injection e with e1 e2;injection e2 with e2 e3;subst e1 e2 e3;clear HQ;obtain⟨⟨Rb,Ob⟩,Hf⟩:=Hs _ Gf;obtain⟨L,P,T,r3,r4,rf⟩:=Rb.p5;obtain⟨o0,o1,o2,o3,o4⟩:=Ob.q5;clear Rb Ob;go_wp2_with fail;refine zF (v:=Ul #[Uo #[Ud id,Uf oa S.l.length Z,Uf ox S.n H,Uf M D.l.length i,Uf I D.n s],Uf (Uq (Ua (w.heap.size+1+1+1) 0)) 0 0,Ud 2]) (by simp [results,results6,go_sem,L,P,T,r3,r4]) ?_;exact Hf _
 obtain⟨hK23,rfl⟩:(K=2 \/K=3)/\ Q=0:=oM;have A3:=HA.bw Hw HA.lt;have k1:=A3.c1;have k2:=A3.c2;obtain⟨y0,y1⟩:=Gg.q2;clear A3 f0;go_wp2_with fail;refine Gu.mono ?_;rintro e m ⟨ja,jm,jx,jt,rfl,s5,b5,jc⟩;obtain⟨J,hJ⟩:=zE (jnZ S Y);obtain⟨B,G4⟩:=zE (jnB S Y);have Ka:=hid hJ;rw [hJ] at s5 jc H4 Hk ⊢;rw [G4] at Hk ⊢;obtain⟨z,Hd⟩:=zE (m.alloc (Uj #[Uf ja J.l.length jm,Uf jx J.n jt] 40));have b6:Bl m z:=Hd▸zO _ _;have J5:Bx2 z m.heap.size (Uf ja J.l.length jm) (Uf jx J.n jt):=Hd▸Bx2.made _ _ _ _;have Hg:=hid (Qaa Gf (Qaa b5 b6));have Hh:=hid (Qaa Hw (Qaa b5 b6));have Gt:=hid J5;have Gc:=hid s5;have H1:=hid b6;have Hy:Hid (wc.heap.size<=m.heap.size/\ m.heap.size<=z.heap.size/\ U.heap.size<=wc.heap.size):=hid ⟨b5.size,b6.size,Gf.size⟩;have H6:=hid (fun u(hu:Bl z u)=>QjX ja jx jm jt J u jc.1 jc.2 H4.1 ((Gc.bw H1).bw hu).at.1 ((Gc.bw H1).bw hu).at.2);obtain⟨F1,G6⟩:=zE (QeI J);rw [G6] at H6 Hk;obtain⟨j0,j1⟩:=J5.q2;clear hJ G4 G6 s5 b5 b6 J5 jc Gu k1 k2 y0 y1;go_upto_region 14 with fail;try rw [Hd]
 clear Hd;go_cut [86] from 80 to 86 (fun b wx=>b=Un (!(B && F1))/\ Hid (Bl z wx));case first=>
  cases B with
  | false=>go_wp2_with fail;go_meet;exact⟨rfl,hid zI⟩
  | true=>
   go_wp2_with fail;refine(H6 z zI).mono ?_;rintro e u1 ⟨rfl,c1⟩;have Kc:=hid c1;clear c1;go_wp2_with fail;go_meet;exact⟨by cases F1<;>rfl,Kc⟩
 case rest=>
 obtain⟨rfl,HV⟩:=hcut;have Hv:=hid (Qaa Hg HV);have Gh:=hid (Qaa Hh HV);have Gi:Hid (hjB S (gsX f n)=(B && F1)):=hid (by rw [G3.out];exact Hk);obtain⟨BF,G5⟩:=zE ((B && F1));rw [G5] at Gi ⊢;clear G5 Hk H6 j0 j1;cases BF with
 | false=>
  have e:=HQ.out;rw [QqT hr hK23 Ga.out Gi.out] at e;injection e with e1 e2;injection e2 with e2 e3;subst e1 e2 e3;clear HQ;obtain⟨⟨Rb,Ob⟩,Hf⟩:=Hs _ Hv;obtain⟨L,P,T,r3,r4,rf⟩:=Rb.p5;obtain⟨o0,o1,o2,o3,o4⟩:=Ob.q5;clear Rb Ob;go_wp2_with fail;refine zF (v:=Ul #[Uo #[Ud id,Uf oa S.l.length Z,Uf ox S.n H,Uf M D.l.length i,Uf I D.n s],Uf (Uq (Ua (w.heap.size+1+1+1) 0)) 0 0,Ud 3]) (by simp [results,results6,go_sem,L,P,T,r3,r4]) ?_;exact Hf _
 | true=>
  have e:=HQ.out;rw [QqR hr hK23 Ga.out Gi.out,G3.out,Ka.out] at e;injection e with e1 e2;injection e2 with e2 e3;subst e1 e2 e3;clear HQ;obtain⟨N,hN⟩:∃N:Ur,N=wc:=⟨_,rfl⟩;rw [<- hN] at Hv Gh HV ⊢;clear hN;have J6:=Gt.bw HV Gt.lt;obtain⟨j0,j1⟩:=J6.q2;have O6:=HO.bw Hv HO.lt;have R6:=HR.bw Gh HR.lt;obtain⟨o0,o1,o2,o3,o4,of⟩:=O6.p5;obtain⟨V,hV⟩:=zE ((N.setCell (Ua w1.heap.size 1) (Uf ja J.l.length jm)).setCell (Ua w1.heap.size 2) (Uf jx J.n jt));have h0:=Hz.out;have o:=Hu.out;have h5:=Hy.out;have h6:=HV.size;have OV:=(O6.set1 (Uf ja J.l.length jm)).set2 (Uf jx J.n jt);have RV:=(R6.setAt (Ua w1.heap.size 1) (Uf ja J.l.length jm) (by show w1.heap.size≠_;omega)).setAt (Ua w1.heap.size 2) (Uf jx J.n jt) (by show w1.heap.size≠_;omega);have qV:∀q,q≠w1.heap.size ->V.heap[q]? =N.heap[q]? :=fun q hq=>by rw [<- hV,zH _ _ _ _ hq,zH _ _ _ _ hq]
  have zV:V.heap.size=N.heap.size:=by rw [<- hV];simp [UC]
  have bV:Bl w V:=by rw [<- hV];exact((Qaa HB Gh).setCell (p:=(Ua w1.heap.size 1)) oQ _).setCell (p:=(Ua w1.heap.size 2)) oQ _
  rw [hV] at OV RV;have H2:=hid (QjE (w:=w) (V:=V) (r:=w.heap.size+1+1) (id:=id) (C:=0) (l:=[]) (ra:=Uq (Ua (w.heap.size+1+1+1) 0)) jm jt i s 0 (Gc.nj:SNu m _ ja jx J) Gb oM oM (fun q h3 h4=>(qV q oM).trans ((HV.block q oM).trans (H1.block q h4))) (fun q h3 h4=>(qV q oM).trans ((Hv.block q oM).trans (Hl.block q h4))) oM oM oM bV (FNu.nil _ _ _) rfl);obtain⟨p0,p1,p2,p3,p4⟩:=OV.q5;obtain⟨L,P,T,r3,r4,rf⟩:=RV.p5;have H9:=hid (((((RV.set0 (Ud id)).set1 (Uf ja J.l.length jm)).set2 (Uf jx J.n jt)).set3 (Uf M D.l.length i)).set4 (Uf I D.n s));clear J6 O6 R6 OV RV qV zV bV h0 o h5 h6;go_wp2_with fail;clear L P T r3 r4;obtain⟨L,P,T,r3,r4⟩:=H9.q5;refine zF (v:=Ul #[Uo #[Ud id,Uf ja J.l.length jm,Uf jx J.n jt,Uf M D.l.length i,Uf I D.n s],Uf (Uq (Ua (w.heap.size+1+1+1) 0)) 0 0,Ud 0]) (by simp [results,results6,go_sem,L,P,T,r3,r4]) ?_;exact H2
theorem QiT (id:Int)(a x a' x':Option Us)(c d c' d':Nat)(S S':Sx)(w:Ur)(hb:S.Big)(hb':S'.Big)(h:SAt w a x S)(h':SAt w a' x' S'):
  Cl 4 #[Uo #[Ud id,Uf a S.l.length c,Uf x S.n d,Uf a' S'.l.length c',Uf x' S'.n d'],Ud 1048576] w fun e w'=>(∃k',e=Ui (Ud k')/\ (0<=k' ->(S.Sm/\ S'.Sm)/\ k'<=1048576))/\ Bl w w':=by
 obtain⟨W,v⟩:=zE (w.alloc (Uj #[Ud id,Uf a S.l.length c,Uf x S.n d,Uf a' S'.l.length c',Uf x' S'.n d'] 29));have u:Bl w W:=v▸zO _ _;have y:Bx5 W w.heap.size (Ud id) (Uf a S.l.length c) (Uf x S.n d) (Uf a' S'.l.length c') (Uf x' S'.n d'):=v▸Bx5.new _ _ _ _ _ _ _;have z:=hid (Qiy a c S.l x S.n d 1048576 W oM oM hb.l1 hb.n1 hb.b1 (h.lf.bw u));have s:=hid (fun k w1(h0:0<=k)(h1:k<=1048576)(hb1:Bl W w1)=>Qiy a' c' S'.l x' S'.n d' k w1 h0 h1 hb'.l1 hb'.n1 hb'.b1 (h'.lf.bw (Qaa u hb1)));obtain⟨k0,Q,U,V,Y⟩:=y.q5;have Z:=hid u;have m:=hid y;clear u y h h' hb hb';go_enter func4,ntmps4;go_wp2_with fail;try rw [v]
 clear v;refine z.mono ?_;rintro e w1 ⟨⟨q,rfl,R,K,g⟩,j⟩;have r:=m.bw j m.lt;have F:=r.c3;have P:=r.c4;have o:=hid (Qaa Z j);have G:=hid g;by_cases E:q<0
 ·have I:decide (q<0)=true:=oW E;clear g r m z k0 Q U V Y j;go_wp2_with fail;go_ret;exact⟨⟨_,rfl,fun h=>oM⟩,o⟩
 ·have I:decide (q<0)=false:=oW E;have p:=hid (s q w1 oM K j);clear g r m z k0 Q U V Y j s;go_wp2_with fail;refine p.mono ?_;rintro e w2 ⟨⟨t,rfl,T,Ha,O⟩,A⟩;have b:=hid (Qaa o A);have H:=hid O;clear O A p F P;by_cases M:t<0
  ·have J:decide (t<0)=true:=oW M;go_wp2_with fail;go_ret;exact⟨⟨_,rfl,fun h=>oM⟩,b⟩
  ·have J:decide (t<0)=false:=oW M;go_wp2_with fail;go_ret;refine⟨⟨_,rfl,fun h=> ?_⟩,b⟩;obtain⟨⟨L,N⟩,X⟩:=G oM;obtain⟨⟨B,C⟩,D⟩:=H oM;exact⟨⟨⟨L,fun i=>(N i).1.1,X⟩,⟨B,fun i=>(C i).1.1,D⟩⟩,oM⟩
theorem Qg6 (id:Int)(g k g' k' lo mid hi:Nat)(S S':Sx)(w:Ur)(hm:S.Sm)(hm':S'.Sm)(h:SNw w lo mid g k S)(h':SNw w mid hi g' k' S'):
  Cl 13 #[Uo #[Ud id,Uf (Uc g) S.l.length S.l.length,Uf (Uc k) S.n S.n,Uf (Uc g') S'.l.length S'.l.length,Uf (Uc k') S'.n S'.n],Ud 1] w fun e w'=>(∃j:Nat,e=Ui (Ud (j:Int))/\ j<=7000000000000)/\ Btw lo hi w w':=by
 obtain⟨W,t⟩:=zE (w.alloc (Uj #[Ud id,Uf (Uc g) S.l.length S.l.length,Uf (Uc k) S.n S.n,Uf (Uc g') S'.l.length S'.l.length,Uf (Uc k') S'.n S'.n] 42));have z:Bl w W:=t▸zO _ _;have v:Bx5 W w.heap.size (Ud id) (Uf (Uc g) S.l.length S.l.length) (Uf (Uc k) S.n S.n) (Uf (Uc g') S'.l.length S'.l.length) (Uf (Uc k') S'.n S'.n):=t▸Bx5.new _ _ _ _ _ _ _;have m:=h.bw z;have s:=h'.bw z;have o:Hid (lo<=mid/\ mid<=hi/\ hi<=w.heap.size):=hid ⟨oJ h.k1 h.k2,by have:=h'.k1;have:=h'.k2;omega,h'.hl⟩;obtain⟨I,A⟩:=m.ro;have b:=hid (Qfj lo mid g k S.n 1 S.l I W oM hm.l1 hm.p1 hm.n1 m.hl ⟨m.k1,m.k2⟩ m.lm A);have q:=hid s;have Q:=hid (Btw.bw (lo:=lo) (hi:=hi) z);have y:=hid v;have Y:=v.c1;have Z:=v.c2;clear h h' z v m s A;go_enter func13,ntmps13;go_wp2_with fail;try rw [t]
 clear t;refine b.mono ?_;rintro e w1 ⟨⟨j,K,rfl⟩,u⟩;have i:=u.block w.heap.size y.lt (.inr (oH o));have G:=(UB (a:=(Ua w.heap.size 3)) i).trans y.c3;have H:=(UB (a:=(Ua w.heap.size 4)) i).trans y.c4;obtain⟨⟨J,E⟩,M⟩:=q.btw u zL;have p:=hid (Qfj mid hi g' k' S'.n j S'.l J w1 oM hm'.l1 hm'.p1 hm'.n1 (Ux q.hl u.size) ⟨q.k1,q.k2⟩ M E);have U:=hid (Q.trans (u.wide zL o.2.1));clear u i E M b Y Z y q;go_wp2_with fail;refine p.mono ?_;rintro e w2 ⟨⟨r,L,rfl⟩,O⟩;have V:=hid (U.trans (O.wide o.1 zL));clear O p G H;go_wp2_with fail;go_ret;exact⟨⟨r,rfl,oM⟩,V⟩
theorem Qks {H:Type}{enc:TypeId×Value ->H}{fuel:Nat}{spare:Nat ->Bool}{y:DataW H×List MemPlace}
  (h:DataW.trod enc prog W base spare held fuel 27 [v0,v1]=Uq y):∃a c x d S,v0=Uf a (Sx.l S).length c/\ v1=Uf x S.n d/\ S.Big/\ I64 S.T/\ SAt W a x S:=by
 obtain⟨Q,U,n,_,_,j,k⟩:=trod_struct2 underlying27 h;have u:prog.cellsOf 22=1:=oK;have v:prog.cellsOf 25=1:=oK;have z:prog.cellsOf 23=1:=oK;simp [Value.cells,u,v] at j k;obtain⟨V,E,_,_,q⟩:=trod_struct1 underlying25 k;simp [z] at q;obtain⟨a,l,c,r,t,o,i,b⟩:=QiM j;obtain⟨x,m,e,R,F,T,g,p,s,M,O,A⟩:=Qkr q;simp at r;subst r g;exact⟨a,c,x,e,⟨l,m,R,F,T⟩,rfl,rfl,⟨t,i,b,p⟩,A,⟨o,s⟩⟩
theorem QgA {H:Type}{enc:TypeId×Value ->H}{r:Reach}{spare:Nat ->Bool}{d:DataW H}{p:List MemPlace}
  (hval:Value.okWide prog W r b0 29 v) (h:DataW.Trod enc prog W base spare held 29 v d p):
  ∃id a c x e S k c' x' e' j,v=Uo #[Ud id,Uf a (Sx.l S).length c,Uf x S.n e,Uf k (Sx.l j).length c',Uf x' j.n e']/\ (Lit.int Uh id).wf=true/\ S.Big/\ j.Big/\ I64 S.T/\ SAt W a x S/\ SAt W k x' j:=by
 obtain⟨O,rfl,E⟩:=okWide_struct underlying29 hval;obtain⟨v0,v1,v2,v3,v4,rfl⟩:=Qp4 (E.trans (show prog.cellsOf 29=5 by kernel_rfl));obtain⟨Q,b⟩:=h;obtain⟨U,V,Y,n,_,_,m,q,u⟩:=trod_struct3 underlying29 b;have z:prog.cellsOf 3=1:=oK;have g:prog.cellsOf 27=2:=oK;simp [Value.cells,z,g] at m q u;obtain⟨z0,y,_,M⟩:=DataW.trod_int underlying3 m;simp at y;subst y;obtain⟨a,c,x,d,S,rfl,rfl,o,t,s⟩:=Qks q;obtain⟨k,c',x',d',j,rfl,rfl,i,_,A⟩:=Qks u;exact⟨z0,a,c,x,d,S,k,c',x',d',j,rfl,M,o,i,t,s,A⟩
section
variable {w wk wk' : Ur} {id K : Int} {a x a' x' pa : Option Us} {c d c' d' n pc : Nat} {S D X Z : Sx} {l : List Fx}
structure KH (w wk:Ur)(id K:Int)(a x a' x' pa:Option Us)(c d c' d' n pc:Nat)(S D:Sx):Prop where
 low:Bl w wk
 rb:Bx5 wk w.heap.size (Ud id) (Uf a S.l.length c) (Uf x S.n d) (Uf a' D.l.length c') (Uf x' D.n d')
 ob:Bx2 wk (w.heap.size+1) (Ud K) (Uf pa n pc)
theorem KH.bw (h:KH w wk id K a x a' x' pa c d c' d' n pc S D)(hb:Bl wk wk'):KH w wk' id K a x a' x' pa c d c' d' n pc S D:=⟨Qaa h.low hb,h.rb.bw hb h.rb.lt,h.ob.bw hb h.ob.lt⟩
structure AnH (wk:Ur)(id:Int)(A:Nat)(sa sx sa' sx':Option Us)(sc sd sc' sd':Nat)(X Z:Sx)(ra:Option Us)(l:List Fx):Prop where
 wb:Bx5 wk A (Ud id) (Uf sa X.l.length sc) (Uf sx X.n sd) (Uf sa' Z.l.length sc') (Uf sx' Z.n sd')
 s1:SAt wk sa sx X
 s2:SAt wk sa' sx' Z
 fx:FxS wk ra l
theorem AnH.bw {A sc sd sc' sd':Nat}{sa sx sa' sx' ra:Option Us}(h:AnH wk id A sa sx sa' sx' sc sd sc' sd' X Z ra l)(hb:Bl wk wk'):AnH wk' id A sa sx sa' sx' sc sd sc' sd' X Z ra l:=⟨h.wb.bw hb h.wb.lt,h.s1.bw hb,h.s2.bw hb,h.fx.bw hb⟩
structure KA (wk:Ur)(id:Int)(bG B T l1 h1 l2 h2:Nat)(ia ix ia' ix':Option Us)(ic ie ic' ie':Nat)(X Z:Sx)(ra:Option Us)(rc:Nat)(l:List Fx):Prop where
 gb:Bx5 wk bG (Ud id) (Uf ia X.l.length ic) (Uf ix X.n ie) (Uf ia' Z.l.length ic') (Uf ix' Z.n ie')
 s1:SOw wk l1 h1 ia ix ie X
 s2:SOw wk l2 h2 ia' ix' ie' Z
 fx:FxR wk T (Uf ra l.length rc) l
 dj:h1<=l2 \/h2<=l1
 bd:B<=l1/\ B<=l2/\ h1<=T/\ h2<=T/\ T<=bG
theorem FxR.fx {B rc:Nat}{ra:Option Us}(h:FxR wk B (Uf ra l.length rc) l):FxS wk ra l:=by
 obtain⟨a,c,e,s⟩:=h.fxs;injection e with e1 e2 e3;rw [e1];exact s
theorem KA.same {bG B T l1 h1 l2 h2 ic ie ic' ie' rc:Nat}{ia ix ia' ix' ra:Option Us}(h:KA wk id bG B T l1 h1 l2 h2 ia ix ia' ix' ic ie ic' ie' X Z ra rc l)(hs:wk.heap.size<=wk'.heap.size)(hq:∀q,B<=q ->q<wk.heap.size ->wk'.heap[q]? =wk.heap[q]?):KA wk' id bG B T l1 h1 l2 h2 ia ix ia' ix' ic ie ic' ie' X Z ra rc l:=by
 have k:=h.s1.hl;have m:=h.s2.hl;have j:=h.bd;exact⟨h.gb.atC (hq _ oM h.gb.lt) hs,h.s1.same hs (fun q k1 k2=>hq q oM oM),h.s2.same hs (fun q k1 k2=>hq q oM oM),h.fx.stay (fun q k1 k2=>hq q oM k2),h.dj,h.bd⟩
theorem KA.bw {bG B T l1 h1 l2 h2 ic ie ic' ie' rc:Nat}{ia ix ia' ix' ra:Option Us}(h:KA wk id bG B T l1 h1 l2 h2 ia ix ia' ix' ic ie ic' ie' X Z ra rc l)(hb:Bl wk wk'):KA wk' id bG B T l1 h1 l2 h2 ia ix ia' ix' ic ie ic' ie' X Z ra rc l:=h.same hb.size (fun q _ k=>hb.block q k)
theorem Bx2.atC {b:Nat}{v0 v1:Value}(h:Bx2 wk b v0 v1)(e:wk'.heap[b]? =wk.heap[b]?)(hs:wk.heap.size<=wk'.heap.size):Bx2 wk' b v0 v1:=
 ⟨(UB (a:=(Ub b)) e).trans h.c0,(UB (a:=(Ua b 1)) e).trans h.c1,fun i=>(Ys (a:=(Ua b i)) e).trans (h.f i),Ut h.lt hs⟩
theorem AnH.made {v W6:Ur}{lo A sc sd sc' sd':Nat}{sa sx sa' sx' ra:Option Us}{u0 u1 u2 u3 u4:Value}(n1:SNu v lo sa sx X)(n2:SNu v lo sa' sx' Z)(n3:FNu v lo ra l)(hb:Bx5 W6 A u0 u1 u2 u3 u4)(hs:Bl v W6 \/W6=v)(hA:A<lo \/v.heap.size<=A):
  AnH (((((W6.setCell (Ub A) (Ud id)).setCell (Ua A 1) (Uf sa X.l.length sc)).setCell (Ua A 2) (Uf sx X.n sd)).setCell (Ua A 3) (Uf sa' Z.l.length sc')).setCell (Ua A 4) (Uf sx' Z.n sd')) id A sa sx sa' sx' sc sd sc' sd' X Z ra l:=by
 have k:v.heap.size<=W6.heap.size:=by
  rcases hs with h|h
  ·exact h.size
  ·rw [h];exact Uu _
 have j:∀q,q≠A ->q<v.heap.size ->(((((W6.setCell (Ub A) (Ud id)).setCell (Ua A 1) (Uf sa X.l.length sc)).setCell (Ua A 2) (Uf sx X.n sd)).setCell (Ua A 3) (Uf sa' Z.l.length sc')).setCell (Ua A 4) (Uf sx' Z.n sd')).heap[q]? =v.heap[q]? :=fun q h1 h2=>by
  rw [Qcd _ h1];rcases hs with h|h
  ·exact h.block q h2
  ·rw [h]
 exact⟨((((hb.set0 _).set1 _).set2 _).set3 _).set4 _,n1.box (by simpa [UC] using k) hA j,n2.box (by simpa [UC] using k) hA j,n3 _ (by simpa [UC] using k) (fun q h1 h2=>j q oM h2)⟩
theorem FxR.nu {T lo:Nat}{ra:Option Us}{rc:Nat}(h:FxR wk T (Uf ra l.length rc) l)(hl:lo<=T):FNu wk lo ra l:=fun w' h1 h2=>(h.stay (fun q q1 q2=>h2 q oM q2)).fx
theorem Qj4 {R:List (Int×List Int)}{zs:List Int}(he:l.map QiN=R)(hR:R=[] \/R=[(2,zs)])(hz:zs.length<=4000):l.length<=1/\ (∀i,(gFx l i).2.2.length<=4000)/\∀k,Qbt k l l.length<=k+4001:=by
 rcases hR with rfl|rfl
 ·obtain rfl:l=[]:=oW he;exact⟨oP,fun i=>by simp [gFx],fun k=>by simp [Qbt]⟩
 ·cases l with
  | nil=>simp at he
  | cons y t=>
   cases t with
   | cons y2 t=>simp at he
   | nil=>
    have e:y.2.2=zs:=(by simp [QiN] at he;exact he.2);refine⟨oP,fun i=> ?_,fun k=>by simp [Qbt,e];omega⟩;cases i with
    | zero=>simp [gFx,e];exact hz
    | succ i=>simp [gFx]
end
theorem Qpi (id:Int)(a x a' x' pa:Option Us)(c d c' d' n pc:Nat)(S D:Sx)(K:Int)(f:Nat ->Int)(w:Ur)(E:Nat)(aT aS aL aE:Us)(hb:S.Big)(hb':D.Big)(h:SAt w a x S)(h':SAt w a' x' D)(hk:(Lit.int Uh K).wf=true)(hn:n<=9223372036854775807)(hf:Byt f)(hs:Seg w pa n f)(hE:QcL w E aT aS aL aE)(hEB:E<=w.heap.size)(hG:ErH w):
  Cl 3 #[Uo #[Ud id,Uf a S.l.length c,Uf x S.n d,Uf a' D.l.length c',Uf x' D.n d'],Uo #[Ud K,Uf pa n pc]] w (Rt w (Un true)):=by
 obtain⟨W,hW⟩:=zE ((w.alloc (Uj #[Ud id,Uf a S.l.length c,Uf x S.n d,Uf a' D.l.length c',Uf x' D.n d'] 29)).alloc (Uj #[Ud K,Uf pa n pc] 32));have b0:Bl w W:=hW▸Qak _ _ _;have K0:KH w W id K a x a' x' pa c d c' d' n pc S D:=⟨b0,hW▸(Bx5.new w _ _ _ _ _ _).up _,by
  rw [<- hW];simpa using Bx2.made (w.alloc (Uj #[Ud id,Uf a S.l.length c,Uf x S.n d,Uf a' D.l.length c',Uf x' D.n d'] 29)) (Ud K) (Uf pa n pc) 32⟩
 have Ls:=hid (QiT id a x a' x' c d c' d' S D W hb hb' (h.bw b0) (h'.bw b0));have Lq:=hid (fun m u(h0:0<=m)(h1:m<=1048576)(hu:Bl w u)=>QlP K pa n pc m u hn h0 h1);have G4:Hid (S.Sm/\ D.Sm ->∀u,Bl w u ->Cl 7 #[Uo #[Ud id,Uf a S.l.length c,Uf x S.n d,Uf a' D.l.length c',Uf x' D.n d']] u fun e w'=>∃g k g' k' Hj,e=Ui (Uo #[Ud id,Uf (Uc g) S.l.length S.l.length,Uf (Uc k) S.n S.n,Uf (Uc g') D.l.length D.l.length,Uf (Uc k') D.n D.n])/\ SNw w' u.heap.size Hj g k S/\ SNw w' Hj w'.heap.size g' k' D/\ Bl u w'):=hid (fun hm u hu=>QiW id a x a' x' c d c' d' S D u hm.1 hm.2 (h.bw hu) (h'.bw hu));have G3:Hid (n<=1048576 ->∀u,Bl w u ->Cl 8 #[Uo #[Ud K,Uf pa n pc]] u fun e w'=>∃g,e=Ui (Uo #[Ud K,Uf (Uc g) n n])/\ FrN w' u.heap.size w'.heap.size g n f/\ Bl u w'):=hid (fun hp u hu=>QlU K pa n pc f u hp hf (hs.bw hu));have HI:=hid (And.intro hb.i1 hb'.i1);have HG:=hid (And.intro hG hE);have Ld:=hid K0;obtain⟨k0,k1,k2,k3,k4⟩:=K0.rb.q5;clear h h' hs b0 K0 hG hE hb hb';go_enter func3,ntmps3;go_wp2_with fail;try rw [hW]
 clear hW;refine Ls.mono ?_;rintro e w1 ⟨⟨I,rfl,Kg⟩,b1⟩;have H1:=hid (Ld.bw b1);have Ge:=hid Kg;clear Kg b1 Ls Ld k0 k1 k2 k3 k4;by_cases Kd:I<0
 ·have d0:decide (I<0)=true:=oW Kd;clear Ge;go_wp2_with fail;go_ret;exact⟨rfl,H1.low⟩
 ·have d0:decide (I<0)=false:=oW Kd;obtain⟨hm,Mk⟩:=Ge oM;have Lr:=hid (Lq I w1 oM Mk H1.low);obtain⟨o0,o1⟩:=H1.ob.q2;clear Ge Lq;go_wp2_with fail;refine Lr.mono ?_;rintro e U ⟨⟨L,rfl,Kg⟩,b2⟩;have Hl:=hid (H1.bw b2);have Ge:=hid Kg;clear Kg b2 Lr H1 o0 o1;by_cases H5:L<0
  ·have d1:decide (L<0)=true:=oW H5;clear Ge;go_wp2_with fail;go_ret;exact⟨rfl,Hl.low⟩
  ·have d1:decide (L<0)=false:=oW H5;have Jt:=Ge oM;obtain⟨X,R,C,hq⟩:∃X R C,hnR id S D K f n=(X,R,C):=⟨_,_,_,rfl⟩;have Kr:SmI S:=⟨hm.1,HI.1⟩;have Jp:SmI D:=⟨hm.2,HI.2⟩;have HX:=hid (Qpp Kr hq);have Ja:=hid (Qpo hq);have Jc:=hid (Qh3 S);have HM:=hid hm;have Lo:=hid Jt;have Go:=hid (G4 hm);have H4:=hid (G3 Jt);have G2:=hid (fun(g h g' h' lo Hj hi ol oh g4:Nat)(u:Ur)(hu:Bl w u)(Z:SNw u lo Hj g h S)(H:SNw u Hj hi g' h' D)(t3:FrN u ol oh g4 n f)=>QiR id g h g' h' lo Hj hi n n S D K (Uc g4) f X R C u hq Kr Jp Z H hf t3.sg oM zL (fun y hy=>by injection hy with hy;rw [<- hy];exact Ut t3.l2 t3.l3));have Lc:Hid (∀(g h g' h' lo Hj hi ol oh g4:Nat) (u:Ur),Bl w u ->SNw u lo Hj g h S ->SNw u Hj hi g' h' D ->FrN u ol oh g4 n f ->Cl 9 #[Uo #[Ud id,Uf (Uc g) S.l.length S.l.length,Uf (Uc h) S.n S.n,Uf (Uc g') D.l.length D.l.length,Uf (Uc h') D.n D.n],Uo #[Ud K,Uf (Uc g4) n n]] u fun e w'=>HnI id X D R C u e w'):=hid (fun g h g' h' lo Hj hi ol oh g4 u hu Z H t3=>Qi9 id g h g' h' lo Hj hi n n S D K (Uc g4) f X R C u E aT aS aL aE hq Kr Jp Z H hf t3.sg oM zL oM (HG.2.bw (hu.mono hEB)) (Ux hEB hu.size) (fun y hy=>by injection hy with hy;rw [<- hy];exact Ut t3.l2 t3.l3) (HG.1.bw hu) hk);have Kl:Hid (∀(g h g' h' lo Hj hi ol oh g4:Nat) (u:Ur),Bl w u ->SNw u lo Hj g h S ->SNw u Hj hi g' h' D ->FrN u ol oh g4 n f ->Cl 9 #[Uo #[Ud id,Uf (Uc g) S.l.length S.l.length,Uf (Uc h) S.n S.n,Uf (Uc g') D.l.length D.l.length,Uf (Uc h') D.n D.n],Uo #[Ud K,Uf (Uc g4) n n]] u fun e w'=>HnP id X D R C u e w'):=hid (fun g h g' h' lo Hj hi ol oh g4 u hu Z H t3=>(Lc g h g' h' lo Hj hi ol oh g4 u hu Z H t3).mono fun e w' hh=>by
    obtain⟨a,ca,x,dx,a',Me,x',Mf,fv,l,T,l1,h1,l2,h2,e1,s1,s2,dj,bd,hl,hF,b⟩:=hh;obtain⟨ra,rc,rfl,_⟩:=hF.fxs;exact⟨a,ca,x,dx,a',Me,x',Mf,ra,l,rc,e1,s1.nu oM,s2.nu oM,⟨hl,hF.nu (oH s1.hl)⟩,b⟩)
   have G1:Hid (∀(V:Ur),KH w V id K a x a' x' pa c d c' d' n pc S D ->∀w',Bl V w' ->(w'.cell? (Ub w.heap.size)=Uq (Ud id)/\ w'.cell? (Ua w.heap.size 1)=Uq (Uf a S.l.length c)/\ w'.cell? (Ua w.heap.size 2)=Uq (Uf x S.n d)/\ w'.cell? (Ua w.heap.size 3)=Uq (Uf a' D.l.length c')/\ w'.cell? (Ua w.heap.size 4)=Uq (Uf x' D.n d')/\ w'.cell? (Ua (w.heap.size+1) 0)=Uq (Ud K)/\ w'.cell? (Ua (w.heap.size+1) 1)=Uq (Uf pa n pc))):=hid (fun V hV w' hb=>by
    have R2:=hV.rb.bw hb hV.rb.lt;have O2:=hV.ob.bw hb hV.ob.lt;exact⟨R2.c0,R2.c1,R2.c2,R2.c3,R2.c4,O2.c0,O2.c1⟩)
   have dC:(C !=C)=false:=oP;have Q:=hid (G1 U Hl);clear Ge G4 G3 hq Kr Jp hm Jt HG;go_upto_region 8 with fail;go_cut [6,7,8] from 30 to 38 (fun v6 v7 v8 wx=>∃A sa sc sx sd Hb sc' Hc sd' ra rl rc,v6=Uk (Uc A)/\ v7=Uf ra (List.length (α:=Fx) rl) rc/\ v8=Ud C/\ Hid (rl.map QiN=R)/\ Hid (AnH wx id A sa sx Hb Hc sc sd sc' sd' X D ra rl)/\ Hid (Bl U wx));case first=>
    refine zS Q (fun qh=> ?_);refine tZ 0 31 ?_;refine tZ 2 33 ?_;obtain⟨z0,Gl⟩:=zE U.drew;have Hx:Bl U z0:=Gl▸zI.drew;rw [Gl];clear Gl;refine Qba (i:=1) (j:=9) (d:=Uq 32) (d':=Uq 6) oK oK oK ?_ ?_
    ·skip;intro o J Ht K r;simp only [gZa,gZb,gZc,gZd] at J;subst J;go_simp;refine(Go _ (Qaa Hl.low Hx)).mono ?_;rintro e F ⟨g2,h2,g3,h3,Hj,rfl,Z,H,v⟩;have Hk:=Qaa Hx v;have Jw:=v.size;refine r.out _ _ (Q _ Hk) (fun qh=> ?_);clear r K;try simp only [zP]
     clear v;refine Qba (i:=3) (j:=9) (d:=Uq 34) (d':=Uq 6) oK oK oK ?_ ?_
     ·skip;intro o J Ht K r;simp only [gZa,gZb,gZc,gZd] at J;subst J;go_simp;refine(H4 _ (Qaa Hl.low Hk)).mono ?_;rintro e O ⟨g4,rfl,t3,v⟩;replace Z:=Z.bw v
      replace H:=H.bw v
      have He:=Qaa Hk v;have Kf:=v.size;refine r.out _ _ (Q _ He) (fun qh=> ?_);clear r K;try simp only [zP]
      clear v;refine Qba (i:=4) (j:=9) (d:=Uq 35) (d':=Uq 6) oK oK oK ?_ ?_
      ·skip;intro o J Ht K r;simp only [gZa,gZb,gZc,gZd] at J;subst J;go_simp;obtain⟨l,hl⟩:=zE O.heap.size;have Ho:=Hl.low;refine(G2 _ _ _ _ _ _ _ _ _ _ _ (Qaa Hl.low He) Z H t3).mono ?_;rintro e t ⟨sa,sc,sx,sd,Hb,sc',Hc,sd',ra,rl,rc,rfl,I,L,⟨Hh,n3⟩,v⟩;rw [hl] at I L n3;replace hl:O.heap.size<=l/\ l<=O.heap.size:=oM
       clear Ho;have P:=Qaa He v;have Gj:=v.size;refine r.out _ _ (Q _ P) (fun qh=> ?_);clear r K;try simp only [zP]
       clear v;refine tZ 5 30 ?_;refine tZ 6 36 ?_;refine tZ 7 37 ?_;refine tZ 8 38 ?_;refine cZ 9 ?_;intro K r;go_simp;obtain⟨z4,s⟩:=zE (t.alloc (Uj #[Ud 0,Ue,Ue,Ue,Ue] 42));have N:Bl t z4:=s▸zO _ _;have z:Bx5 z4 t.heap.size (Ud 0) Ue Ue Ue Ue:=s▸Bx5.new _ _ _ _ _ _ _;have Gm:z4.heap.size<=t.heap.size+1/\ t.heap.size+1<=z4.heap.size:=s▸oP;have Gk:=P.size;have Hg:=Qaa P N;obtain⟨A,Hf⟩:=zE t.heap.size;rw [Hf] at z ⊢;rw [s];clear s;replace Hf:t.heap.size<=A/\ A<=t.heap.size:=oM
       refine r.out _ _ (Q _ Hg) (fun qh=> ?_);clear r K;try simp only [zP]
       obtain⟨c0,c1,c2,c3,c4,cf⟩:=z.p5;refine cZ 10 ?_;intro K r;go_simp;have G:=AnH.made (id:=id) (sc:=sc) (sd:=sd) (sc':=sc') (sd':=sd') I L n3 z (.inl N) oM;have M:=((((Hg.setCell (p:=(Ub A)) oQ (Ud id)).setCell (p:=(Ua A 1)) oQ (Uf sa X.l.length sc)).setCell (p:=(Ua A 2)) oQ (Uf sx X.n sd)).setCell (p:=(Ua A 3)) oQ (Uf Hb D.l.length sc')).setCell (p:=(Ua A 4)) oQ (Uf Hc D.n sd');refine r.out _ _ (Q _ M) (fun qh=> ?_);clear r K;try simp only [zP]
       refine tZ 11 7 ?_;refine tZ 12 8 ?_;refine zD ?_;have Hn:=hid G;have Hm:=hid M;have Hi:=hid Hh;clear G M c0 c1 c2 c3 c4 cf z I L n3 Hh qh;go_wp2_with fail;go_meet;exact⟨A,sa,sc,sx,sd,Hb,sc',Hc,sd',ra,rl,rc,rfl,rfl,rfl,Hi,Hn,Hm⟩
      ·skip;intro o J Ht K r;simp only [gZa,gZb,gZc,gZd] at J;subst J;go_simp;obtain⟨t,s⟩:=zE (O.alloc (Uj #[Ud 0,Ue,Ue,Ue,Ue] 42));have N:Bl O t:=s▸zO _ _;have z:Bx5 t O.heap.size (Ud 0) Ue Ue Ue Ue:=s▸Bx5.new _ _ _ _ _ _ _;have Gm:t.heap.size<=O.heap.size+1/\ O.heap.size+1<=t.heap.size:=s▸oP;have Gk:=He.size;have P:=Qaa He N;obtain⟨A,Hf⟩:=zE O.heap.size;rw [Hf] at z ⊢;rw [s];clear s;replace Hf:O.heap.size<=A/\ A<=O.heap.size:=oM
       replace Z:=Z.bw N
       replace H:=H.bw N
       replace t3:=t3.bw N
       refine r.out _ _ (Q _ P) (fun qh=> ?_);clear r K;try simp only [zP]
       clear N;refine cZ 4 ?_;intro K r;go_simp;obtain⟨l,hl⟩:=zE t.heap.size;have Ho:=Hl.low;refine(G2 _ _ _ _ _ _ _ _ _ _ _ (Qaa Hl.low P) Z H t3).mono ?_;rintro e z4 ⟨sa,sc,sx,sd,Hb,sc',Hc,sd',ra,rl,rc,rfl,I,L,⟨Hh,n3⟩,v⟩;rw [hl] at I L n3;replace hl:t.heap.size<=l/\ l<=t.heap.size:=oM
       clear Ho;have Hg:=Qaa P v;have Gj:=v.size;have Hs:=z.lt;replace z:=z.bw v z.lt
       refine r.out _ _ (Q _ Hg) (fun qh=> ?_);clear r K;try simp only [zP]
       clear v;refine tZ 5 30 ?_;refine tZ 6 36 ?_;refine tZ 7 37 ?_;refine tZ 8 38 ?_;obtain⟨c0,c1,c2,c3,c4,cf⟩:=z.p5;refine cZ 10 ?_;intro K r;go_simp;have G:=AnH.made (id:=id) (sc:=sc) (sd:=sd) (sc':=sc') (sd':=sd') I L n3 z (.inr rfl) oM;have M:=((((Hg.setCell (p:=(Ub A)) oQ (Ud id)).setCell (p:=(Ua A 1)) oQ (Uf sa X.l.length sc)).setCell (p:=(Ua A 2)) oQ (Uf sx X.n sd)).setCell (p:=(Ua A 3)) oQ (Uf Hb D.l.length sc')).setCell (p:=(Ua A 4)) oQ (Uf Hc D.n sd');refine r.out _ _ (Q _ M) (fun qh=> ?_);clear r K;try simp only [zP]
       refine tZ 11 7 ?_;refine tZ 12 8 ?_;refine zD ?_;have Hn:=hid G;have Hm:=hid M;have Hi:=hid Hh;clear G M c0 c1 c2 c3 c4 cf z I L n3 Hh qh;go_wp2_with fail;go_meet;exact⟨A,sa,sc,sx,sd,Hb,sc',Hc,sd',ra,rl,rc,rfl,rfl,rfl,Hi,Hn,Hm⟩
     ·skip;intro o J Ht K r;simp only [gZa,gZb,gZc,gZd] at J;subst J;go_simp;obtain⟨O,s⟩:=zE (F.alloc (Uj #[Ud 0,Ue,Ue,Ue,Ue] 42));have N:Bl F O:=s▸zO _ _;have z:Bx5 O F.heap.size (Ud 0) Ue Ue Ue Ue:=s▸Bx5.new _ _ _ _ _ _ _;have Gm:O.heap.size<=F.heap.size+1/\ F.heap.size+1<=O.heap.size:=s▸oP;have Gk:=Hk.size;have He:=Qaa Hk N;obtain⟨A,Hf⟩:=zE F.heap.size;rw [Hf] at z ⊢;rw [s];clear s;replace Hf:F.heap.size<=A/\ A<=F.heap.size:=oM
      replace Z:=Z.bw N
      replace H:=H.bw N
      refine r.out _ _ (Q _ He) (fun qh=> ?_);clear r K;try simp only [zP]
      clear N;refine cZ 3 ?_;intro K r;go_simp;refine(H4 _ (Qaa Hl.low He)).mono ?_;rintro e t ⟨g4,rfl,t3,v⟩;replace Z:=Z.bw v
      replace H:=H.bw v
      have P:=Qaa He v;have Kf:=v.size;have Gi:=z.lt;replace z:=z.bw v z.lt
      refine r.out _ _ (Q _ P) (fun qh=> ?_);clear r K;try simp only [zP]
      clear v;refine cZ 4 ?_;intro K r;go_simp;obtain⟨l,hl⟩:=zE t.heap.size;have Ho:=Hl.low;refine(G2 _ _ _ _ _ _ _ _ _ _ _ (Qaa Hl.low P) Z H t3).mono ?_;rintro e z4 ⟨sa,sc,sx,sd,Hb,sc',Hc,sd',ra,rl,rc,rfl,I,L,⟨Hh,n3⟩,v⟩;rw [hl] at I L n3;replace hl:t.heap.size<=l/\ l<=t.heap.size:=oM
      clear Ho;have Hg:=Qaa P v;have Gj:=v.size;have Hs:=z.lt;replace z:=z.bw v z.lt
      refine r.out _ _ (Q _ Hg) (fun qh=> ?_);clear r K;try simp only [zP]
      clear v;refine tZ 5 30 ?_;refine tZ 6 36 ?_;refine tZ 7 37 ?_;refine tZ 8 38 ?_;obtain⟨c0,c1,c2,c3,c4,cf⟩:=z.p5;refine cZ 10 ?_;intro K r;go_simp;have G:=AnH.made (id:=id) (sc:=sc) (sd:=sd) (sc':=sc') (sd':=sd') I L n3 z (.inr rfl) oM;have M:=((((Hg.setCell (p:=(Ub A)) oQ (Ud id)).setCell (p:=(Ua A 1)) oQ (Uf sa X.l.length sc)).setCell (p:=(Ua A 2)) oQ (Uf sx X.n sd)).setCell (p:=(Ua A 3)) oQ (Uf Hb D.l.length sc')).setCell (p:=(Ua A 4)) oQ (Uf Hc D.n sd');refine r.out _ _ (Q _ M) (fun qh=> ?_);clear r K;try simp only [zP]
      refine tZ 11 7 ?_;refine tZ 12 8 ?_;refine zD ?_;have Hn:=hid G;have Hm:=hid M;have Hi:=hid Hh;clear G M c0 c1 c2 c3 c4 cf z I L n3 Hh qh;go_wp2_with fail;go_meet;exact⟨A,sa,sc,sx,sd,Hb,sc',Hc,sd',ra,rl,rc,rfl,rfl,rfl,Hi,Hn,Hm⟩
    ·skip;intro o J Ht K r;simp only [gZa,gZb,gZc,gZd] at J;subst J;go_simp;obtain⟨F,s⟩:=zE (z0.alloc (Uj #[Ud 0,Ue,Ue,Ue,Ue] 42));have N:Bl z0 F:=s▸zO _ _;have z:Bx5 F z0.heap.size (Ud 0) Ue Ue Ue Ue:=s▸Bx5.new _ _ _ _ _ _ _;have Gm:F.heap.size<=z0.heap.size+1/\ z0.heap.size+1<=F.heap.size:=s▸oP;have Gk:=Hx.size;have Hk:=Qaa Hx N;obtain⟨A,Hf⟩:=zE z0.heap.size;rw [Hf] at z ⊢;rw [s];clear s;replace Hf:z0.heap.size<=A/\ A<=z0.heap.size:=oM
     refine r.out _ _ (Q _ Hk) (fun qh=> ?_);clear r K;try simp only [zP]
     clear N;refine cZ 1 ?_;intro K r;go_simp;refine(Go _ (Qaa Hl.low Hk)).mono ?_;rintro e O ⟨g2,h2,g3,h3,Hj,rfl,Z,H,v⟩;have He:=Qaa Hk v;have Jw:=v.size;have Jr:=z.lt;replace z:=z.bw v z.lt
     refine r.out _ _ (Q _ He) (fun qh=> ?_);clear r K;try simp only [zP]
     clear v;refine cZ 3 ?_;intro K r;go_simp;refine(H4 _ (Qaa Hl.low He)).mono ?_;rintro e t ⟨g4,rfl,t3,v⟩;replace Z:=Z.bw v
     replace H:=H.bw v
     have P:=Qaa He v;have Kf:=v.size;have Gi:=z.lt;replace z:=z.bw v z.lt
     refine r.out _ _ (Q _ P) (fun qh=> ?_);clear r K;try simp only [zP]
     clear v;refine cZ 4 ?_;intro K r;go_simp;obtain⟨l,hl⟩:=zE t.heap.size;have Ho:=Hl.low;refine(G2 _ _ _ _ _ _ _ _ _ _ _ (Qaa Hl.low P) Z H t3).mono ?_;rintro e z4 ⟨sa,sc,sx,sd,Hb,sc',Hc,sd',ra,rl,rc,rfl,I,L,⟨Hh,n3⟩,v⟩;rw [hl] at I L n3;replace hl:t.heap.size<=l/\ l<=t.heap.size:=oM
     clear Ho;have Hg:=Qaa P v;have Gj:=v.size;have Hs:=z.lt;replace z:=z.bw v z.lt
     refine r.out _ _ (Q _ Hg) (fun qh=> ?_);clear r K;try simp only [zP]
     clear v;refine tZ 5 30 ?_;refine tZ 6 36 ?_;refine tZ 7 37 ?_;refine tZ 8 38 ?_;obtain⟨c0,c1,c2,c3,c4,cf⟩:=z.p5;refine cZ 10 ?_;intro K r;go_simp;have G:=AnH.made (id:=id) (sc:=sc) (sd:=sd) (sc':=sc') (sd':=sd') I L n3 z (.inr rfl) oM;have M:=((((Hg.setCell (p:=(Ub A)) oQ (Ud id)).setCell (p:=(Ua A 1)) oQ (Uf sa X.l.length sc)).setCell (p:=(Ua A 2)) oQ (Uf sx X.n sd)).setCell (p:=(Ua A 3)) oQ (Uf Hb D.l.length sc')).setCell (p:=(Ua A 4)) oQ (Uf Hc D.n sd');refine r.out _ _ (Q _ M) (fun qh=> ?_);clear r K;try simp only [zP]
     refine tZ 11 7 ?_;refine tZ 12 8 ?_;refine zD ?_;have Hn:=hid G;have Hm:=hid M;have Hi:=hid Hh;clear G M c0 c1 c2 c3 c4 cf z I L n3 Hh qh;go_wp2_with fail;go_meet;exact⟨A,sa,sc,sx,sd,Hb,sc',Hc,sd',ra,rl,rc,rfl,rfl,rfl,Hi,Hn,Hm⟩
   case rest=>
   obtain⟨bW,sa,sc,sx,sd,Hb,sc',Hc,sd',ra,rl,rc,rfl,rfl,rfl,Hi,Ki,Kk⟩:=hcut;have Hr:=hid (Hl.bw Kk);obtain⟨Y,hY⟩:=zE wc;rw [hY] at Ki Hr ⊢;clear hY Q Kk Hl G2;have Mv:=hid (Qj4 Hi Ja Jc);obtain⟨rn,Jv⟩:=zE rl.length;have Jb:=hid Jv;rw [Jv];clear Jv;obtain⟨k0,k1,k2,k3,k4⟩:=Hr.rb.q5;go_wp2_with fail;refine(Go Y Hr.low).mono ?_;rintro e w6 ⟨g4,h4,g5,h5,Jx,rfl,s4,s5,b4⟩;obtain⟨W6,Ka⟩:=zE (w6.alloc (Uj #[Ud id,Uf (Uc g4) S.l.length S.l.length,Uf (Uc h4) S.n S.n,Uf (Uc g5) D.l.length D.l.length,Uf (Uc h5) D.n D.n] 42));have b5:Bl w6 W6:=Ka▸zO _ _;have z6:W6.heap.size=w6.heap.size+1:=Ka▸oP;have X6:Bx5 W6 w6.heap.size (Ud id) (Uf (Uc g4) S.l.length S.l.length) (Uf (Uc h4) S.n S.n) (Uf (Uc g5) D.l.length D.l.length) (Uf (Uc h5) D.n D.n):=Ka▸Bx5.new _ _ _ _ _ _ _;have Lk:=hid (s4.bw b5);have Ll:=hid (s5.bw b5);have K4:=hid (Qaa b4 b5);have Jd:=hid X6;have Gd:Hid (w.heap.size<Y.heap.size/\ Y.heap.size<=w6.heap.size/\ W6.heap.size=w6.heap.size+1):=hid ⟨Hr.rb.lt,b4.size,z6⟩;have K3:=hid (Hr.bw K4);clear b4 s4 s5 b5 X6 k0 k1 k2 k3 k4 z6;obtain⟨o0,o1⟩:=K3.ob.q2;go_wp2_with fail;try rw [Ka]
   clear Ka;refine(H4 W6 K3.low).mono ?_;rintro e w7 ⟨go,rfl,s7,b7⟩;obtain⟨W7,Kb⟩:=zE (w7.alloc (Uj #[Ud K,Uf (Uc go) n n] 47));have b8:Bl w7 W7:=Kb▸zO _ _;have z7:W7.heap.size=w7.heap.size+1:=Kb▸oP;have X7:Bx2 W7 w7.heap.size (Ud K) (Uf (Uc go) n n):=Kb▸Bx2.made _ _ _ _;have G9:=Qaa b7 b8;have K7:=hid (s7.bw b8);have Kq:=hid X7;have Kv:=hid (Lk.bw G9);have Kx:=hid (Ll.bw G9);have Kp:=hid (Jd.bw G9 Jd.lt);have H6:=hid (Qaa K4 G9);have Gb:Hid (W6.heap.size<=w7.heap.size/\ W7.heap.size=w7.heap.size+1):=hid ⟨b7.size,z7⟩;have La:=hid (Lc g4 h4 g5 h5 _ _ _ _ _ go W7 (Qaa Hr.low H6) Kv Kx K7);clear b7 s7 b8 G9 z7 X7 o0 o1 Lk Ll Jd K4 K3;obtain⟨x0,x1,x2,x3,x4⟩:=Kp.q5;obtain⟨y0,y1⟩:=Kq.q2;go_wp2_with fail;try rw [Kb]
   clear Kb;refine La.mono ?_;rintro e w8 ⟨ia,ic,ix,ie,Ks,Gp,Kt,Kh,fv,il,T,l1,h1,l2,h2,rfl,u1,u2,dj,bd,Jq,uf,b8⟩;obtain⟨fa,fc,rfl,_⟩:=uf.fxs;have Lb:=hid Jq;have H0:=hid (Qj4 Jq Ja Jc);obtain⟨V,hV⟩:=zE (w8.alloc (Uj #[Ud id,Uf ia X.l.length ic,Uf ix X.n ie,Uf Ks D.l.length Gp,Uf Kt D.n Kh] 42));have b9:Bl w8 V:=hV▸zO _ _;have Gn:Hid (KA V id w8.heap.size W7.heap.size T l1 h1 l2 h2 ia ix Ks Kt ic ie Gp Kh X D fa fc il):=hid ⟨hV▸Bx5.new _ _ _ _ _ _ _,u1.bw b9,u2.bw b9,uf.bw b9,dj,oM⟩;obtain⟨rm,Ke⟩:=zE il.length;have Ko:=hid Ke;have Lf:Hid ((Value.slice fa rm fc).ownBlock≠Uq w8.heap.size/\∀j,j<rm ->(gFx il j).2.1.ownBlock≠Uq w8.heap.size):=hid ⟨fun e=>by have:=uf.row.lt w8.heap.size (by rw [Ke];exact e);omega,fun j hj e=>by have:=World.ownsRow.lt (uf.pay j (by rw [Ke];exact hj)) w8.heap.size e;omega⟩;have Gg:=Qaa b8 b9;have H7:=hid (Qaa H6 Gg);have J1:=hid (Kv.bw Gg);have J4:=hid (Kx.bw Gg);have Je:=hid (Kp.bw Gg Kp.lt);have Jg:=hid (Kq.bw Gg Kq.lt);have Lm:=hid (K7.bw Gg);have Gc:Hid (W7.heap.size<=w8.heap.size):=hid b8.size;have Gq:=hid (Ki.bw H7);rw [Ke];clear Ke Jq;have HE:=hid (Qct id ia ix Ks Kt sa sx Hb Hc ic ie Gp Kh sc sd sc' sd' X D V HX.1 HM.2 Gn.s1.at Gn.s2.at Gq.s1 Gq.s2);have Hy:Hid (∀u,Bl V u ->Cl 11 #[Uf fa rm fc,Uf ra rn rc] u (Rt u (Un true))):=hid (fun u hu=>by
    have hh:=Qea fa ra fc rc il rl u (oH H0.1) (fun i=>oH (H0.2.1 i)) ((Gn.bw hu).fx.fx) ((Gq.bw hu).fx) (Lb.trans Hi.symm);rw [Ko.out,Jb.out] at hh;exact hh)
   clear b8 b9 Gg u1 u2 uf dj bd x0 x1 x2 x3 x4 y0 y1 Kv Kx Kp Kq K7 H6 La;obtain⟨y0,y1,y2,y3,y4⟩:=Gn.gb.q5;obtain⟨z0,F,O,t,z4⟩:=Gq.wb.q5;go_wp2_with fail;try rw [hV]
   clear hV;refine HE.mono ?_;rintro e Mt ⟨rfl,Jm⟩;have Hz:=hid (Hy Mt Jm);go_wp2_with fail;refine Hz.mono ?_;rintro e w9 ⟨rfl,L1⟩;have b9:=Qaa Jm L1;have Gs:=hid (Gn.bw b9);have Kw:=hid (J1.bw b9);have Ky:=hid (J4.bw b9);have G5:=hid (Je.bw b9 Je.lt);have Jh:=hid (Jg.bw b9 Jg.lt);have Ln:=hid (Lm.bw b9);have Hv:=hid (Qaa H7 b9);clear b9 Jm L1 HE Hy Hz Gn J1 J4 Je Jg Lm H7 Gq y0 y1 y2 y3 y4 z0 F O t z4;go_wp2_with fail;have Hu:Hid (∀w',Bl w9 w' ->(w'.cell? (Ub w6.heap.size)=Uq (Ud id)/\ w'.cell? (Ua w6.heap.size 1)=Uq (Uf (Uc g4) S.l.length S.l.length)/\ w'.cell? (Ua w6.heap.size 2)=Uq (Uf (Uc h4) S.n S.n)/\ w'.cell? (Ua w6.heap.size 3)=Uq (Uf (Uc g5) D.l.length D.l.length)/\ w'.cell? (Ua w6.heap.size 4)=Uq (Uf (Uc h5) D.n D.n)/\ w'.cell? (Ub w.heap.size)=Uq (Ud id)/\ w'.cell? (Ua w.heap.size 1)=Uq (Uf a S.l.length c)/\ w'.cell? (Ua w.heap.size 2)=Uq (Uf x S.n d)/\ w'.cell? (Ua w.heap.size 3)=Uq (Uf a' D.l.length c')/\ w'.cell? (Ua w.heap.size 4)=Uq (Uf x' D.n d'))):=hid (fun w' hB=>by
    have K:=Hr.bw (Qaa Hv hB);have X:=G5.bw hB G5.lt;exact⟨X.c0,X.c1,X.c2,X.c3,X.c4,K.rb.c0,K.rb.c1,K.rb.c2,K.rb.c3,K.rb.c4⟩)
   refine zS Hu (fun qh=> ?_);refine tZ 0 65 ?_;refine tZ 1 66 ?_;refine cZ 2 ?_;intro K r;go_simp;have Gh:Bl w9 w9.drew:=zI.drew;refine(Go _ (Hr.bw (Qaa Hv Gh)).low).mono ?_;rintro e Mz ⟨g7,h7,g8,My,Mp,rfl,s7,s8,Lv⟩;have M:=Qaa Gh Lv;refine r.out _ _ (Hu _ M) (fun qh=> ?_);clear r K;try simp only [zP]
   refine cZ 3 ?_;intro K r;go_simp;refine(Qct id _ _ _ _ _ _ _ _ S.l.length S.n D.l.length D.n S.l.length S.n D.l.length D.n S D _ HM.1 HM.2 (Kw.bw M).at (Ky.bw M).at s7.at s8.at).mono ?_;rintro e Jy ⟨rfl,Lw⟩;have Ha:=Qaa M Lw;refine r.out _ _ (Hu _ Ha) (fun qh=> ?_);clear r K;try simp only [zP]
   refine tZ 4 69 ?_;refine zD ?_;have Gt:=hid (Gs.bw Ha);have J2:=hid (Kw.bw Ha);have J5:=hid (Ky.bw Ha);have Jf:=hid (G5.bw Ha G5.lt);have G6:=hid (Jh.bw Ha Jh.lt);have K8:=hid (Ln.bw Ha);have Hw:=hid (Qaa Hv Ha);clear qh Gh M Ha Lv Lw s7 s8 Hu Gs Hv G5 Jh Ln Kw Ky;go_wp2_with fail;have Hu:Hid (∀w',Bl Jy w' ->(w'.cell? (Ub w7.heap.size)=Uq (Ud K)/\ w'.cell? (Ua w7.heap.size 1)=Uq (Uf (Uc go) n n)/\ w'.cell? (Ua (w.heap.size+1) 0)=Uq (Ud K)/\ w'.cell? (Ua (w.heap.size+1) 1)=Uq (Uf pa n pc))):=hid (fun w' hB=>by
    have K:=Hr.bw (Qaa Hw hB);have X:=G6.bw hB G6.lt;exact⟨X.c0,X.c1,K.ob.c0,K.ob.c1⟩)
   refine zS Hu (fun qh=> ?_);refine tZ 0 70 ?_;refine tZ 1 71 ?_;refine cZ 2 ?_;intro K r;go_simp;have Gh:Bl Jy Jy.drew:=zI.drew;refine(H4 _ (Hr.bw (Qaa Hw Gh)).low).mono ?_;rintro e M0 ⟨gq,rfl,sq,Lx⟩;have M:=Qaa Gh Lx;refine r.out _ _ (Hu _ M) (fun qh=> ?_);clear r K;try simp only [zP]
   refine cZ 3 ?_;intro K r;go_simp;refine(QhN _ (Uc go) (Uc gq) n n n f _ Lo (K8.bw M).sg sq.sg).mono ?_;rintro e Mq ⟨rfl,Ly⟩;have Ha:=Qaa M Ly;refine r.out _ _ (Hu _ Ha) (fun qh=> ?_);clear r K;try simp only [zP]
   refine tZ 4 74 ?_;refine zD ?_;have Gu:=hid (Gt.bw Ha);have J3:=hid (J2.bw Ha);have J6:=hid (J5.bw Ha);have Lt:=hid (Jf.bw Ha Jf.lt);have Ji:=hid (G6.bw Ha G6.lt);have G0:=hid (K8.bw Ha);have H8:=hid (Qaa Hw Ha);have Lh:=hid (Qg6 id g4 h4 g5 h5 Y.heap.size Jx w6.heap.size S D Mq HM.1 HM.2 J3 J6);obtain⟨x0,x1,x2,x3,x4⟩:=Lt.q5;clear qh Gh M Ha Lx Ly sq Hu Gt Hw Jf G6 K8 J2 J5;go_wp2_with fail;refine Lh.mono ?_;rintro e L7 ⟨⟨m1,rfl,Mj⟩,bt⟩;have e1:=Gd.out;have e2:=Gb.out;have e3:=Gc.out;have Gv:=hid (Gu.same bt.size (fun q q1 q2=>bt.block q q2 (.inr oM)));have H9:Hid (Bl Y L7):=hid (H8.trans (bt.low (oH H8.size)));have Lu:=hid (Ji.atC (bt.block _ Ji.lt (.inr oM)) bt.size);have K9:=hid (G0.same bt.size (bt.block _ (Ut G0.l2 G0.l3) (.inr (oH G0.l1))));have Lj:=hid (QiH _ _ go n m1 K f L7 oM Lo K9);clear bt e1 e2 e3 x0 x1 x2 x3 x4 Lh Gu H8 Ji G0 J3 J6 Lt Mj;obtain⟨y0,y1⟩:=Lu.q2;go_wp2_with fail;refine Lj.mono ?_;rintro e Jz ⟨⟨m2,rfl⟩,bt⟩;have e1:=Gd.out;have e2:=Gb.out;have e3:=Gc.out;have Hq:=hid (Gv.same bt.size (fun q q1 q2=>bt.block q q2 (.inr oM)));have Ga:Hid (Bl Y Jz):=hid (H9.trans ((bt.low (oJ H9.size K9.l3)).mono oM));have Gr:=hid (Ki.bw Ga);have HE:=hid (Qct id ia ix Ks Kt sa sx Hb Hc ic ie Gp Kh sc sd sc' sd' X D Jz HX.1 HM.2 Hq.s1.at Hq.s2.at Gr.s1 Gr.s2);have Hy:Hid (∀u,Bl Jz u ->Cl 11 #[Uf fa rm fc,Uf ra rn rc] u (Rt u (Un true))):=hid (fun u hu=>by
    have hh:=Qea fa ra fc rc il rl u (oH H0.1) (fun i=>oH (H0.2.1 i)) ((Hq.bw hu).fx.fx) ((Gr.bw hu).fx) (Lb.trans Hi.symm);rw [Ko.out,Jb.out] at hh;exact hh)
   have dm:decide ((m2:Int)<0)=false:=oP;clear bt e1 e2 e3 y0 y1 Lj Gv H9 Lu K9;obtain⟨y0,y1,y2,y3,y4⟩:=Hq.gb.q5;obtain⟨z0,F,O,t,z4⟩:=Gr.wb.q5;go_wp2_with fail;refine HE.mono ?_;rintro e J0 ⟨rfl,Gf⟩;have Hz:=hid (Hy J0 Gf);go_wp2_with fail;refine Hz.mono ?_;rintro e M1 ⟨rfl,G7⟩;have Jj:=Qaa Gf G7;have Hd:=hid (Hq.bw Jj);have Gw:=hid (Qaa Ga Jj);have K5:=hid (Qg5 id (c:=ic) (c':=Gp) (B:=W7.heap.size) (T:=T) HX.1 HM.2 Hd.s1 Hd.s2 Hd.dj (oJ Hd.bd Hd.gb.lt));have Js:=(Qho HX.1 1).1;have Kc:=(Qho HM.2 (mE X 1)).1;obtain⟨E2,Jn⟩:=zE (mE D (mE X 1));rw [Jn] at K5 Kc;have L9:=hid Jn;have Lg:Hid (E2<=5000000000000):=hid oM;clear Jj Gf G7 HE Hy Hz Hq Ga Gr Jn Js Kc y0 y1 y2 y3 y4 z0 F O t z4;obtain⟨y0,y1,y2,y3,y4⟩:=Hd.gb.q5;go_wp2_with fail;refine K5.mono ?_;rintro e Ku ⟨rfl,bt,L4,L5⟩;have e1:=Gd.out;have e2:=Gb.out;have e3:=Gc.out;have Mi:=Hd.bd;have Kz:=hid (Hd.gb.atC (bt.block _ Hd.gb.lt (.inr oM)) bt.size);have J7:=hid (Hd.fx.stay (w':=Ku) (fun q q1 q2=>bt.block q q2 (.inr q1)));have Gx:Hid (Bl Y Ku):=hid (Gw.trans ((bt.low (oH Hd.s1.hl)).mono oM));have Kn:=hid (Qhp J7 E2 (oH H0.1) (oJ (H0.2.2 E2) Lg));rw [Ko.out] at Kn;obtain⟨E3,Jo⟩:=zE (Qbt E2 il rm);rw [Jo] at Kn;have Ma:=hid Jo;have H1:=hid L4;have Le:=hid L5;have K6:Hid (Y.heap.size<=T/\ h1<=T/\ h2<=T/\ T<=w8.heap.size/\ w8.heap.size<Ku.heap.size):=hid (oJ Kz.lt Hd.s1.hl);clear bt L4 L5 e1 e2 e3 Mi Jo K5 Hd Gw y0 y1 y2 y3 y4;go_wp2_with fail;refine Kn.mono ?_;rintro e L8 ⟨rfl,G8,Mu,L6,Mg,Mh,L2,L3⟩;obtain⟨rfl,rfl⟩:fa=Mg/\ fc=Mh:=(by injection L2 with e1 e2 e3;exact⟨e1,e3⟩);have e4:=K6.out;have J9:=hid (Kz.atC (L6 w8.heap.size (Lf.1∘fun e=>e) (fun j hj=>Lf.2 j hj)) oM);have Mb:Hid (Below T Ku L8):=hid G8;have H2:Hid (Bl Y L8):=hid (Gx.trans (G8.mono oM));have K2:=hid (Qgw id (c:=ic) (d:=ie) (c':=Gp) (d':=Kh) HX.1 HM.2 (H1.move oM (fun q q1 q2=>G8.block q oM)).at (Le.move oM (fun q q1 q2=>G8.block q oM)).at);rw [L9.out] at K2;have Li:=hid L3;have dE:decide ((E2:Int)<0)=false:=oP;have Mx:decide ((E3:Int)<0)=false:=oP;have Mw:((E3:Int) !=(E3:Int))=false:=oP;clear G8 Mu L6 L2 L3 e4 Kn Kz J7 Gx H1 Le;obtain⟨y0,y1,y2,y3,y4⟩:=J9.q5;go_wp2_with fail;refine K2.mono ?_;rintro e Mr ⟨rfl,Jk⟩;have K1:=hid (QgZ fa fc E2 il Mr (oH H0.1) (oJ (H0.2.2 E2) Lg) (Li.bw Jk));rw [Ko.out,Ma.out] at K1;have H3:=hid (Qaa H2 Jk);clear Jk K2 J9 H2 Mb Li y0 y1 y2 y3 y4;go_wp2_with fail;refine K1.mono ?_;rintro e U2 ⟨rfl,Lz⟩;have Gy:=hid (Qaa H3 Lz);have Hp:=hid (Hr.bw Gy);have Q:=hid (G1 U2 Hp);clear Lz K1 H3;go_upto_region 35 with fail;go_cut [17,18,19] from 119 to 127 (fun v6 v7 v8 wx=>∃A sa sc sx sd Hb sc' Hc sd' ra rl rc,v6=Uk (Uc A)/\ v7=Uf ra (List.length (α:=Fx) rl) rc/\ v8=Ud C/\ Hid (rl.map QiN=R)/\ Hid (AnH wx id A sa sx Hb Hc sc sd sc' sd' X D ra rl)/\ Hid (Bl U2 wx));case first=>
    refine zS Q (fun qh=> ?_);refine tZ 0 120 ?_;refine tZ 2 122 ?_;obtain⟨z0,Gl⟩:=zE U2.drew;have Hx:Bl U2 z0:=Gl▸zI.drew;rw [Gl];clear Gl;refine Qba (i:=1) (j:=9) (d:=Uq 121) (d':=Uq 17) oK oK oK ?_ ?_
    ·skip;intro o J Ht K r;simp only [gZa,gZb,gZc,gZd] at J;subst J;go_simp;refine(Go _ (Qaa Hp.low Hx)).mono ?_;rintro e F ⟨g2,h2,g3,h3,Hj,rfl,Z,H,v⟩;have Hk:=Qaa Hx v;have Jw:=v.size;refine r.out _ _ (Q _ Hk) (fun qh=> ?_);clear r K;try simp only [zP]
     clear v;refine Qba (i:=3) (j:=9) (d:=Uq 123) (d':=Uq 17) oK oK oK ?_ ?_
     ·skip;intro o J Ht K r;simp only [gZa,gZb,gZc,gZd] at J;subst J;go_simp;refine(H4 _ (Qaa Hp.low Hk)).mono ?_;rintro e O ⟨g4,rfl,t3,v⟩;replace Z:=Z.bw v
      replace H:=H.bw v
      have He:=Qaa Hk v;have Kf:=v.size;refine r.out _ _ (Q _ He) (fun qh=> ?_);clear r K;try simp only [zP]
      clear v;refine Qba (i:=4) (j:=9) (d:=Uq 124) (d':=Uq 17) oK oK oK ?_ ?_
      ·skip;intro o J Ht K r;simp only [gZa,gZb,gZc,gZd] at J;subst J;go_simp;obtain⟨l,hl⟩:=zE O.heap.size;have Ho:=Hp.low;refine(Kl _ _ _ _ _ _ _ _ _ _ _ (Qaa Hp.low He) Z H t3).mono ?_;rintro e t ⟨sa,sc,sx,sd,Hb,sc',Hc,sd',ra,rl,rc,rfl,I,L,⟨Hh,n3⟩,v⟩;rw [hl] at I L n3;replace hl:O.heap.size<=l/\ l<=O.heap.size:=oM
       clear Ho;have P:=Qaa He v;have Gj:=v.size;refine r.out _ _ (Q _ P) (fun qh=> ?_);clear r K;try simp only [zP]
       clear v;refine tZ 5 119 ?_;refine tZ 6 125 ?_;refine tZ 7 126 ?_;refine tZ 8 127 ?_;refine cZ 9 ?_;intro K r;go_simp;obtain⟨z4,s⟩:=zE (t.alloc (Uj #[Ud 0,Ue,Ue,Ue,Ue] 42));have N:Bl t z4:=s▸zO _ _;have z:Bx5 z4 t.heap.size (Ud 0) Ue Ue Ue Ue:=s▸Bx5.new _ _ _ _ _ _ _;have Gm:z4.heap.size<=t.heap.size+1/\ t.heap.size+1<=z4.heap.size:=s▸oP;have Gk:=P.size;have Hg:=Qaa P N;obtain⟨A,Hf⟩:=zE t.heap.size;rw [Hf] at z ⊢;rw [s];clear s;replace Hf:t.heap.size<=A/\ A<=t.heap.size:=oM
       refine r.out _ _ (Q _ Hg) (fun qh=> ?_);clear r K;try simp only [zP]
       obtain⟨c0,c1,c2,c3,c4,cf⟩:=z.p5;refine cZ 10 ?_;intro K r;go_simp;have G:=AnH.made (id:=id) (sc:=sc) (sd:=sd) (sc':=sc') (sd':=sd') I L n3 z (.inl N) oM;have M:=((((Hg.setCell (p:=(Ub A)) oQ (Ud id)).setCell (p:=(Ua A 1)) oQ (Uf sa X.l.length sc)).setCell (p:=(Ua A 2)) oQ (Uf sx X.n sd)).setCell (p:=(Ua A 3)) oQ (Uf Hb D.l.length sc')).setCell (p:=(Ua A 4)) oQ (Uf Hc D.n sd');refine r.out _ _ (Q _ M) (fun qh=> ?_);clear r K;try simp only [zP]
       refine tZ 11 18 ?_;refine tZ 12 19 ?_;refine zD ?_;have Hn:=hid G;have Hm:=hid M;have Hi:=hid Hh;clear G M c0 c1 c2 c3 c4 cf z I L n3 Hh qh;go_wp2_with fail;go_meet;exact⟨A,sa,sc,sx,sd,Hb,sc',Hc,sd',ra,rl,rc,rfl,rfl,rfl,Hi,Hn,Hm⟩
      ·skip;intro o J Ht K r;simp only [gZa,gZb,gZc,gZd] at J;subst J;go_simp;obtain⟨t,s⟩:=zE (O.alloc (Uj #[Ud 0,Ue,Ue,Ue,Ue] 42));have N:Bl O t:=s▸zO _ _;have z:Bx5 t O.heap.size (Ud 0) Ue Ue Ue Ue:=s▸Bx5.new _ _ _ _ _ _ _;have Gm:t.heap.size<=O.heap.size+1/\ O.heap.size+1<=t.heap.size:=s▸oP;have Gk:=He.size;have P:=Qaa He N;obtain⟨A,Hf⟩:=zE O.heap.size;rw [Hf] at z ⊢;rw [s];clear s;replace Hf:O.heap.size<=A/\ A<=O.heap.size:=oM
       replace Z:=Z.bw N
       replace H:=H.bw N
       replace t3:=t3.bw N
       refine r.out _ _ (Q _ P) (fun qh=> ?_);clear r K;try simp only [zP]
       clear N;refine cZ 4 ?_;intro K r;go_simp;obtain⟨l,hl⟩:=zE t.heap.size;have Ho:=Hp.low;refine(Kl _ _ _ _ _ _ _ _ _ _ _ (Qaa Hp.low P) Z H t3).mono ?_;rintro e z4 ⟨sa,sc,sx,sd,Hb,sc',Hc,sd',ra,rl,rc,rfl,I,L,⟨Hh,n3⟩,v⟩;rw [hl] at I L n3;replace hl:t.heap.size<=l/\ l<=t.heap.size:=oM
       clear Ho;have Hg:=Qaa P v;have Gj:=v.size;have Hs:=z.lt;replace z:=z.bw v z.lt
       refine r.out _ _ (Q _ Hg) (fun qh=> ?_);clear r K;try simp only [zP]
       clear v;refine tZ 5 119 ?_;refine tZ 6 125 ?_;refine tZ 7 126 ?_;refine tZ 8 127 ?_;obtain⟨c0,c1,c2,c3,c4,cf⟩:=z.p5;refine cZ 10 ?_;intro K r;go_simp;have G:=AnH.made (id:=id) (sc:=sc) (sd:=sd) (sc':=sc') (sd':=sd') I L n3 z (.inr rfl) oM;have M:=((((Hg.setCell (p:=(Ub A)) oQ (Ud id)).setCell (p:=(Ua A 1)) oQ (Uf sa X.l.length sc)).setCell (p:=(Ua A 2)) oQ (Uf sx X.n sd)).setCell (p:=(Ua A 3)) oQ (Uf Hb D.l.length sc')).setCell (p:=(Ua A 4)) oQ (Uf Hc D.n sd');refine r.out _ _ (Q _ M) (fun qh=> ?_);clear r K;try simp only [zP]
       refine tZ 11 18 ?_;refine tZ 12 19 ?_;refine zD ?_;have Hn:=hid G;have Hm:=hid M;have Hi:=hid Hh;clear G M c0 c1 c2 c3 c4 cf z I L n3 Hh qh;go_wp2_with fail;go_meet;exact⟨A,sa,sc,sx,sd,Hb,sc',Hc,sd',ra,rl,rc,rfl,rfl,rfl,Hi,Hn,Hm⟩
     ·skip;intro o J Ht K r;simp only [gZa,gZb,gZc,gZd] at J;subst J;go_simp;obtain⟨O,s⟩:=zE (F.alloc (Uj #[Ud 0,Ue,Ue,Ue,Ue] 42));have N:Bl F O:=s▸zO _ _;have z:Bx5 O F.heap.size (Ud 0) Ue Ue Ue Ue:=s▸Bx5.new _ _ _ _ _ _ _;have Gm:O.heap.size<=F.heap.size+1/\ F.heap.size+1<=O.heap.size:=s▸oP;have Gk:=Hk.size;have He:=Qaa Hk N;obtain⟨A,Hf⟩:=zE F.heap.size;rw [Hf] at z ⊢;rw [s];clear s;replace Hf:F.heap.size<=A/\ A<=F.heap.size:=oM
      replace Z:=Z.bw N
      replace H:=H.bw N
      refine r.out _ _ (Q _ He) (fun qh=> ?_);clear r K;try simp only [zP]
      clear N;refine cZ 3 ?_;intro K r;go_simp;refine(H4 _ (Qaa Hp.low He)).mono ?_;rintro e t ⟨g4,rfl,t3,v⟩;replace Z:=Z.bw v
      replace H:=H.bw v
      have P:=Qaa He v;have Kf:=v.size;have Gi:=z.lt;replace z:=z.bw v z.lt
      refine r.out _ _ (Q _ P) (fun qh=> ?_);clear r K;try simp only [zP]
      clear v;refine cZ 4 ?_;intro K r;go_simp;obtain⟨l,hl⟩:=zE t.heap.size;have Ho:=Hp.low;refine(Kl _ _ _ _ _ _ _ _ _ _ _ (Qaa Hp.low P) Z H t3).mono ?_;rintro e z4 ⟨sa,sc,sx,sd,Hb,sc',Hc,sd',ra,rl,rc,rfl,I,L,⟨Hh,n3⟩,v⟩;rw [hl] at I L n3;replace hl:t.heap.size<=l/\ l<=t.heap.size:=oM
      clear Ho;have Hg:=Qaa P v;have Gj:=v.size;have Hs:=z.lt;replace z:=z.bw v z.lt
      refine r.out _ _ (Q _ Hg) (fun qh=> ?_);clear r K;try simp only [zP]
      clear v;refine tZ 5 119 ?_;refine tZ 6 125 ?_;refine tZ 7 126 ?_;refine tZ 8 127 ?_;obtain⟨c0,c1,c2,c3,c4,cf⟩:=z.p5;refine cZ 10 ?_;intro K r;go_simp;have G:=AnH.made (id:=id) (sc:=sc) (sd:=sd) (sc':=sc') (sd':=sd') I L n3 z (.inr rfl) oM;have M:=((((Hg.setCell (p:=(Ub A)) oQ (Ud id)).setCell (p:=(Ua A 1)) oQ (Uf sa X.l.length sc)).setCell (p:=(Ua A 2)) oQ (Uf sx X.n sd)).setCell (p:=(Ua A 3)) oQ (Uf Hb D.l.length sc')).setCell (p:=(Ua A 4)) oQ (Uf Hc D.n sd');refine r.out _ _ (Q _ M) (fun qh=> ?_);clear r K;try simp only [zP]
      refine tZ 11 18 ?_;refine tZ 12 19 ?_;refine zD ?_;have Hn:=hid G;have Hm:=hid M;have Hi:=hid Hh;clear G M c0 c1 c2 c3 c4 cf z I L n3 Hh qh;go_wp2_with fail;go_meet;exact⟨A,sa,sc,sx,sd,Hb,sc',Hc,sd',ra,rl,rc,rfl,rfl,rfl,Hi,Hn,Hm⟩
    ·skip;intro o J Ht K r;simp only [gZa,gZb,gZc,gZd] at J;subst J;go_simp;obtain⟨F,s⟩:=zE (z0.alloc (Uj #[Ud 0,Ue,Ue,Ue,Ue] 42));have N:Bl z0 F:=s▸zO _ _;have z:Bx5 F z0.heap.size (Ud 0) Ue Ue Ue Ue:=s▸Bx5.new _ _ _ _ _ _ _;have Gm:F.heap.size<=z0.heap.size+1/\ z0.heap.size+1<=F.heap.size:=s▸oP;have Gk:=Hx.size;have Hk:=Qaa Hx N;obtain⟨A,Hf⟩:=zE z0.heap.size;rw [Hf] at z ⊢;rw [s];clear s;replace Hf:z0.heap.size<=A/\ A<=z0.heap.size:=oM
     refine r.out _ _ (Q _ Hk) (fun qh=> ?_);clear r K;try simp only [zP]
     clear N;refine cZ 1 ?_;intro K r;go_simp;refine(Go _ (Qaa Hp.low Hk)).mono ?_;rintro e O ⟨g2,h2,g3,h3,Hj,rfl,Z,H,v⟩;have He:=Qaa Hk v;have Jw:=v.size;have Jr:=z.lt;replace z:=z.bw v z.lt
     refine r.out _ _ (Q _ He) (fun qh=> ?_);clear r K;try simp only [zP]
     clear v;refine cZ 3 ?_;intro K r;go_simp;refine(H4 _ (Qaa Hp.low He)).mono ?_;rintro e t ⟨g4,rfl,t3,v⟩;replace Z:=Z.bw v
     replace H:=H.bw v
     have P:=Qaa He v;have Kf:=v.size;have Gi:=z.lt;replace z:=z.bw v z.lt
     refine r.out _ _ (Q _ P) (fun qh=> ?_);clear r K;try simp only [zP]
     clear v;refine cZ 4 ?_;intro K r;go_simp;obtain⟨l,hl⟩:=zE t.heap.size;have Ho:=Hp.low;refine(Kl _ _ _ _ _ _ _ _ _ _ _ (Qaa Hp.low P) Z H t3).mono ?_;rintro e z4 ⟨sa,sc,sx,sd,Hb,sc',Hc,sd',ra,rl,rc,rfl,I,L,⟨Hh,n3⟩,v⟩;rw [hl] at I L n3;replace hl:t.heap.size<=l/\ l<=t.heap.size:=oM
     clear Ho;have Hg:=Qaa P v;have Gj:=v.size;have Hs:=z.lt;replace z:=z.bw v z.lt
     refine r.out _ _ (Q _ Hg) (fun qh=> ?_);clear r K;try simp only [zP]
     clear v;refine tZ 5 119 ?_;refine tZ 6 125 ?_;refine tZ 7 126 ?_;refine tZ 8 127 ?_;obtain⟨c0,c1,c2,c3,c4,cf⟩:=z.p5;refine cZ 10 ?_;intro K r;go_simp;have G:=AnH.made (id:=id) (sc:=sc) (sd:=sd) (sc':=sc') (sd':=sd') I L n3 z (.inr rfl) oM;have M:=((((Hg.setCell (p:=(Ub A)) oQ (Ud id)).setCell (p:=(Ua A 1)) oQ (Uf sa X.l.length sc)).setCell (p:=(Ua A 2)) oQ (Uf sx X.n sd)).setCell (p:=(Ua A 3)) oQ (Uf Hb D.l.length sc')).setCell (p:=(Ua A 4)) oQ (Uf Hc D.n sd');refine r.out _ _ (Q _ M) (fun qh=> ?_);clear r K;try simp only [zP]
     refine tZ 11 18 ?_;refine tZ 12 19 ?_;refine zD ?_;have Hn:=hid G;have Hm:=hid M;have Hi:=hid Hh;clear G M c0 c1 c2 c3 c4 cf z I L n3 Hh qh;go_wp2_with fail;go_meet;exact⟨A,sa,sc,sx,sd,Hb,sc',Hc,sd',ra,rl,rc,rfl,rfl,rfl,Hi,Hn,Hm⟩
   case rest=>
   obtain⟨bH,ja,jc,jx,je,Ml,Mm,Mo,Mn,qa,ql,qc,rfl,rfl,rfl,Lp,Km,Kk⟩:=hcut;have J8:=hid (Qj4 Lp Ja Jc);obtain⟨qn,Ju⟩:=zE ql.length;have Mc:=hid Ju;rw [Ju];clear Ju;have Gz:=hid (Qaa Gy Kk);have Kj:=hid (Ki.bw Gz);have HE:=hid (Qct id ja jx Ml Mo sa sx Hb Hc jc je Mm Mn sc sd sc' sd' X D wc HX.1 HM.2 Km.s1 Km.s2 Kj.s1 Kj.s2);have Hy:Hid (∀u,Bl wc u ->Cl 11 #[Uf qa qn qc,Uf ra rn rc] u (Rt u (Un true))):=hid (fun u hu=>by
    have hh:=Qea qa ra qc rc ql rl u (oH J8.1) (fun i=>oH (J8.2.1 i)) ((Km.bw hu).fx) ((Kj.bw hu).fx) (Lp.trans Hi.symm);rw [Mc.out,Jb.out] at hh;exact hh)
   obtain⟨y0,y1,y2,y3,y4⟩:=Km.wb.q5;obtain⟨z0,F,O,t,z4⟩:=Kj.wb.q5;clear Q;go_wp2_with fail;refine HE.mono ?_;rintro e Ms ⟨rfl,Jl⟩;have Hz:=hid (Hy Ms Jl);go_wp2_with fail;refine Hz.mono ?_;rintro e M2 ⟨rfl,L0⟩;have Md:=hid (Hr.bw (Qaa Gz (Qaa Jl L0))).low;clear Jl L0 HE Hy Hz y0 y1 y2 y3 y4 z0 F O t z4;go_wp2_with fail;go_ret;exact⟨rfl,Md⟩
end Go.Proofs.YtedpomikcaemgaaGreatDoor
