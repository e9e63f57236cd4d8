import Derived.Test.YtgmjgboibfdaeaaGreatDoorDrg15
import Derived.Shelf.SlIter.Collect
import Derived.RegionTactic
import Derived.ChangeAlike
set_option linter.unusedVariables false
set_option linter.unusedSimpArgs false
set_option maxRecDepth 100000
set_option maxHeartbeats 40000000
namespace Go.Proofs.YtgmjgboibfdaeaaGreatDoor
open Go.ChangeShapes Go.WideShapes Go.ChangeAt Go.RowKit
variable {J l:List Lf}{b c j:Nat}{row:Option Nat}{v0 v1:Value}{w w':World}
noncomputable def cW (J:List Lf)(z:List Ky):Nat:=(J.filter (fun x=>yes (z <+:Way x))).length
noncomputable def mW (J:List Lf)(z:List Ky):Nat:=(J.filter (fun x=>yes (Way x=z))).length
theorem QiW (f:Ky ->Nat)(y:Ky):∀ks:List Ky,ks.Nodup ->y∈ks ->(ks.map fun u=>f u+if u=y then 1 else 0).sum=(ks.map f).sum+1
 | [],_,h=>by cases h
 | a::r,hn,h=>by
  have j:=List.nodup_cons.1 hn;simp only [List.map_cons,List.sum_cons];by_cases e:a=y
  ·have m:(r.map fun u=>f u+if u=y then 1 else 0)=r.map f:=List.map_congr_left fun u hu=>by
    have:u≠y:=fun e2=>j.1 (by rw [e,<- e2];exact hu);rw [if_neg this];rfl
   rw [m,if_pos e];omega
  ·have k:y∈r:=by
    rcases List.mem_cons.1 h with h|h
    ·exact absurd h.symm e
    ·exact h
   rw [QiW f y r j.2 k,if_neg e];omega
theorem QeP (f g:Ky ->Nat)(ks:List Ky)(h:∀u∈ks,f u=g u):(ks.map f).sum=(ks.map g).sum:=by
 rw [List.map_congr_left h]
theorem QhQ (z:List Ky)(ks:List Ky)(hn:ks.Nodup):∀J:List Lf,(∀x∈J,∀y,z++[y] <+:Way x ->y∈ks) ->cW J z=mW J z+(ks.map fun y=>cW J (z++[y])).sum
 | [],_=>by
  have:(ks.map fun y=>cW [] (z++[y])).sum=0:=by
   have Q:∀ks:List Ky,(ks.map fun y=>cW [] (z++[y])).sum=0:=fun ks=>by
    induction ks with
    | nil=>rfl
    | cons a r m=>simp only [List.map_cons,List.sum_cons,m];rfl
   exact Q ks
  rw [this];rfl
 | x::J,h=>by
  have m:=QhQ z ks hn J (fun u i=>h u (List.mem_cons_of_mem _ i));have A:∀(P:Lf ->Bool),((x::J).filter P).length=(J.filter P).length+if P x=true then 1 else 0:=fun P=>by
   cases j:P x with
   | true=>simp [j]
   | false=>simp [j]
  have q:cW (x::J) z=cW J z+if yes (z <+:Way x)=true then 1 else 0:=A _;have v:mW (x::J) z=mW J z+if yes (Way x=z)=true then 1 else 0:=A _;have g:∀y,cW (x::J) (z++[y])=cW J (z++[y])+if yes (z++[y] <+:Way x)=true then 1 else 0:=fun y=>A _;by_cases j:z <+:Way x
  ·obtain⟨s,k⟩:=j;cases s with
   | nil=>
    have o:Way x=z:=by rw [<- k];simp
    have p:∀y,¬z++[y] <+:Way x:=fun y hh=>by
     have:=hh.length_le;rw [o] at this;simp at this;omega
    rw [q,v,if_pos (Qah (by rw [o];exact List.prefix_refl _)),if_pos (Qah o),m,QeP (fun y=>cW (x::J) (z++[y])) (fun y=>cW J (z++[y])) ks (fun y _=>by rw [g y,if_neg (by rw [Qaf (p y)];simp)];rfl)];omega
   | cons y s=>
    have M:z++[y] <+:Way x:=by rw [<- k,show z++y::s=(z++[y])++s by simp];exact List.prefix_append _ _
    have b:Way x≠z:=fun e=>by
     have:=congrArg List.length (k.trans e);simp at this
    have only:∀u,z++[u] <+:Way x↔u=y:=fun u=>by
     constructor
     ·intro i;obtain⟨t,E⟩:=i;rw [<- k] at E;have:[u]++t=y::s:=List.append_cancel_left (by rw [<- List.append_assoc];exact E);injection this
     ·intro e;rw [e];exact M
    rw [q,v,if_pos (Qah ⟨y::s,k⟩),if_neg (by rw [Qaf b];simp),m];have O:(ks.map fun u=>cW (x::J) (z++[u])).sum=(ks.map fun u=>cW J (z++[u])+if u=y then 1 else 0).sum:=QeP _ _ ks (fun u _=>by
     rw [g u];by_cases e:u=y
     ·rw [if_pos e,if_pos (Qah ((only u).2 e))]
     ·rw [if_neg e,if_neg (by rw [Qaf (fun hh=>e ((only u).1 hh))];simp)])
    rw [O,QiW (fun u=>cW J (z++[u])) y ks hn (h x (List.mem_cons_self) y M)];omega
  ·have b:Way x≠z:=fun e=>j (by rw [e];exact List.prefix_refl _);have p:∀y,¬z++[y] <+:Way x:=fun y hh=>j (List.IsPrefix.trans (List.prefix_append _ _) hh);rw [q,v,if_neg (by rw [Qaf j];simp),if_neg (by rw [Qaf b];simp),m,QeP (fun y=>cW (x::J) (z++[y])) (fun y=>cW J (z++[y])) ks (fun y _=>by rw [g y,if_neg (by rw [Qaf (p y)];simp)];rfl)];omega
theorem Qmq (J:List Lf):cW J []=J.length:=by
 unfold cW;rw [List.filter_eq_self.2 (fun x _=>Qah List.nil_prefix)]
open Go.Maps
section
variable {α β : Type} {w : World} {t : TypeId} {kv : α -> Value} {vo : Option β -> Value} {b c : Nat} {f : α -> Option β} {D : DataW Value}
theorem Qly {es:List (Lit×DataW Value)}(hp:es.Pairwise (fun p q=>p.1≠q.1))(hc:∀p∈es,∃x,keyOf Tryz.prog t (kv x)=some p.1):∃xs:List α,xs.length=es.length/\ xs.Nodup/\ (∀x,x∈xs ->∃p∈es,keyOf Tryz.prog t (kv x)=some p.1)/\∀p∈es,∃x∈xs,keyOf Tryz.prog t (kv x)=some p.1:=by
 induction es with
 | nil=>exact⟨[],rfl,List.nodup_nil,fun x k=>(by cases k),fun p hp=>(by cases hp)⟩
 | cons p r ih=>
  have z:=List.pairwise_cons.1 hp;obtain⟨xs,h,g,v,o⟩:=ih z.2 (fun q j=>hc q (List.mem_cons_of_mem _ j));obtain⟨x,k⟩:=hc p (List.mem_cons_self);refine⟨x::xs,by simp [h],List.nodup_cons.2 ⟨fun hm=> ?_,g⟩,fun y u=> ?_,fun q j=> ?_⟩
  ·obtain⟨q,j,e⟩:=v x hm;rw [k] at e;exact z.1 q j (Option.some.inj e)
  ·rcases List.mem_cons.1 u with e|e
   ·rw [e];exact⟨p,List.mem_cons_self,k⟩
   ·obtain⟨q,j,m⟩:=v y e;exact⟨q,List.mem_cons_of_mem _ j,m⟩
  ·rcases List.mem_cons.1 j with e|e
   ·rw [e];exact⟨x,List.mem_cons_self,k⟩
   ·obtain⟨y,u,m⟩:=o q e;exact⟨y,List.mem_cons_of_mem _ u,m⟩
theorem FM.size (h:FM w t kv vo b c f D)(K:Keyed Tryz.prog t)(hi:∀x y,kv x=kv y ->x=y){ks:List α}(hk:QbF f ks):Maps.size D=ks.length:=by
 obtain⟨k,rfl,Q,O⟩:=h.own.entries K;have q:∀p∈k,has (DataW.map k) p.1=true:=fun p j=>by
  rw [has_eq];exact List.any_eq_true.2 ⟨p,j,WideAt.sameKey_self (O p j)⟩
 obtain⟨xs,s,A,E,M⟩:=Qly (t:=t) (kv:=kv) Q (fun p j=>h.cov p.1 (q p j));have o:∀x,x∈xs ->x∈ks:=fun x hx=>by
  obtain⟨p,j,e⟩:=E x hx;refine(hk.2 x).2 fun hn=> ?_;have:=(h.at' x p.1 e).1;rw [q p j,hn] at this;cases this
 have Z:Maps.size (DataW.map k)=k.length:=by simp [Maps.size]
 rw [Z,<- s];have i:∀x,x∈ks ->x∈xs:=fun x hx=>by
  obtain⟨g,u⟩:=h.ok x ((hk.2 x).1 hx);have r:=(h.at' x g u).1;have V:(f x).isSome=true:=by
   cases hv:f x with
   | none=>exact absurd hv ((hk.2 x).1 hx)
   | some v=>rfl
  rw [V,has_eq] at r;obtain⟨p,j,z⟩:=List.any_eq_true.1 r;have U:p.1=g:=by
   first
    | exact WideAt.sameKey_eq z
    | exact(WideAt.sameKey_eq z).symm
  obtain⟨y,Y,m⟩:=M p j;rw [U] at m;have:=hi _ _ (K.inj u m);rw [this];exact Y
 exact((List.perm_ext_iff_of_nodup A hk.1).2 (fun x=>⟨o x,i x⟩)).length_eq
end
theorem Qjx(hd:Dis J J.length):J.Pairwise (fun x y=>((x.r,x.q):Dt)≠(y.r,y.q)):=by
 refine List.pairwise_iff_getElem.2 fun i j hi hj hij e=> ?_;have k:=hd j hj i hij;have m:gL J i=J[i]:=by simp [gL,List.getD,hi]
 have u:gL J j=J[j]:=by simp [gL,List.getD,hj]
 rw [m,u] at k;exact k ⟨congrArg Prod.fst e,congrArg Prod.snd e⟩
theorem Qei(hd:Dis J J.length)(z:List Ky):QbF (Mk J J.length z) ((J.filter (fun x=>yes (Way x=z))).map fun x=>((x.r,x.q):Dt)):=by
 refine⟨?_,fun d=> ?_⟩
 ·rw [List.Nodup,List.pairwise_map];exact(Qjx hd).sublist List.filter_sublist
 ·rw [List.mem_map];constructor
  ·rintro⟨x,t,e⟩;have u:=List.mem_filter.1 t;obtain⟨j,k,m⟩:=Qai.1 u.1;have g:Way x=z:=by
    refine Classical.byContradiction fun hn=> ?_;have:=u.2;rw [Qaf hn] at this;cases this
   exact Qdp.2 ⟨j,k,by rw [m];exact g,by rw [m];exact e⟩
  ·intro h;obtain⟨j,k,v,y⟩:=Qdp.1 h;exact⟨gL J j,List.mem_filter.2 ⟨Qai.2 ⟨j,k,rfl⟩,Qah v⟩,y⟩
theorem Qi7(hd:Dis J J.length){z:List Ky}{D:DataW Value}(h:FM w 104 dtV Qb1 b c (Mk J J.length z) D):Maps.size D=mW J z:=by
 rw [h.size Qa1 (fun _ _=>Qco) (Qei hd z),List.length_map];rfl
def MO {α β:Type}(w:World)(t:TypeId)(kv:α ->Value)(vo:Option β ->Value)(mo:Option Nat)(c:Nat)(f:α ->Option β):Prop:=
 match mo with
 | some b=>Qa3 w t kv vo b c f
 | none=>∀x,f x=none
def Rng {α β:Type}(w:World)(t:TypeId)(kv:α ->Value)(vo:Option β ->Value)(mo:Option Nat)(r c:Nat)(f:α ->Option β)(ds:List α)(cnt:Nat):Prop:=
 match mo with
 | some b=>∃D left,w.ranges Tryz.prog t QhK b r c D left cnt/\ FM w t kv vo b c f D/\ QcJ t kv f left ds/\ ds.length+cnt<=Maps.size D
 | none=>w.heap[r]? =some (.mapIter none 0 #[] 0)/\ ds=[]/\ cnt=0/\∀x,f x=none
section
variable {α β : Type} {w w' : World} {t : TypeId} {kv : α -> Value} {vo : Option β -> Value} {mo : Option Nat} {r c cnt : Nat} {f : α -> Option β} {ds : List α}
theorem MO.lt (h:MO w t kv vo mo c f):∀b,mo=Option.some b ->b<w.heap.size:=fun b e=>by subst e;exact Qa3.lt h
theorem MO.kept {row:Option Nat}(h:MO w t kv vo mo c f)(hg:w.grownBy w' row)(hne:∀b,mo=Option.some b ->row≠Option.some b):MO w' t kv vo mo c f:=by
 cases mo with
 | none=>exact h
 | some b=>exact Qa3.same h (hg.block b (Qa3.lt h) (fun e=>hne b rfl e.symm))
theorem MO.bw {B:Nat}(h:MO w t kv vo mo c f)(hb:Below B w w')(hne:∀b,mo=Option.some b ->b<B):MO w' t kv vo mo c f:=by
 cases mo with
 | none=>exact h
 | some b=>exact Qa3.same h (hb.block b (hne b rfl))
theorem Rng.left_eq {b:Nat}(h:Rng w t kv vo (Option.some b) r c f ds cnt):w.rangeLeft b r=cnt:=by
 obtain⟨D,j,h,_⟩:=h;exact h.left_eq
theorem Rng.lt (h:Rng w t kv vo mo r c f ds cnt):r<w.heap.size:=by
 cases mo with
 | none=>exact(Array.getElem?_eq_some_iff.1 h.1).1
 | some b=>obtain⟨D,j,h,_⟩:=h;exact h.lt
theorem Rng.mlt (h:Rng w t kv vo mo r c f ds cnt):∀b,mo=Option.some b ->b<w.heap.size:=fun b e=>by
 subst e;obtain⟨D,j,h,_⟩:=h;exact h.owns.lt
theorem Rng.len (h:Rng w t kv vo mo r c f ds cnt):ds.length+cnt<=c:=by
 cases mo with
 | none=>rw [h.2.1,h.2.2.1];simp
 | some b=>obtain⟨D,m,h,j,_,k⟩:=h;have:=h.owns.size_le;omega
theorem Rng.kept {row:Option Nat}(h:Rng w t kv vo mo r c f ds cnt)(hg:w.grownBy w' row)(hne:∀b,mo=Option.some b ->row≠Option.some b)(hr:row≠Option.some r):Rng w' t kv vo mo r c f ds cnt:=by
 have q:=h.lt;cases mo with
 | none=>exact⟨(hg.block r q (fun e=>hr e.symm)).trans h.1,h.2⟩
 | some b=>
  obtain⟨D,u,h,j,m⟩:=h;have k:=h.kept hg (fun e=>hne b rfl e.symm) (fun e=>hr e.symm);exact⟨D,u,k,⟨k.owns,j.at',j.cov,j.ok⟩,m⟩
theorem Rng.same (h:Rng w t kv vo mo r c f ds cnt)(hg:∀b,mo=Option.some b ->w'.heap[b]? =w.heap[b]?)(hr:w'.heap[r]? =w.heap[r]?):Rng w' t kv vo mo r c f ds cnt:=by
 cases mo with
 | none=>exact⟨hr.trans h.1,h.2⟩
 | some b=>
  obtain⟨D,m,⟨v,u,A,s,q,g,F,i,z,o,p⟩,j,y⟩:=h;have k:w'.ranges Tryz.prog t QhK b r c D m cnt:=⟨v,u,A,s,q,(hg b rfl).trans g,F,i,z,hr.trans o,p⟩;exact⟨D,m,k,⟨k.owns,j.at',j.cov,j.ok⟩,y⟩
end
theorem QeL{r:Nat}(h:w.heap[r]? =some (.mapIter none 0 #[] 0))(ty:TypeId):(Instr.next (.pointer (some ⟨r,0,none⟩)) false ty).run Tryz.prog w=.ok (.tuple #[.bool false]) w:=by
 simp only [Instr.next,getObj,Sem.run_bind,Sem.run,h,Result.andThen];rfl
section
variable {α β : Type} {t : TypeId} {kv : α -> Value} {vo : Option β -> Value} {mo : Option Nat} {r c cnt : Nat} {f : α -> Option β} {ds : List α}
variable (w : World) {ops : Array Oper} {rest : List Oper} {o : Oper} {a : Act} {Q : Exit -> Act -> World -> Prop}
theorem QaB (hg:o.guard=none)(m:Operand)(mt:TypeId)(hop:o.op=Op.range mt m)(t e:TypeId)(K:Keyed Tryz.prog t)(ht:Tryz.prog.underlying mt=some (.map t e))(kv:α ->Value)(vo:Option β ->Value)(mo:Option Nat)(c:Nat)(f:α ->Option β)
  (hm:a.eval m=.map mo) (h:MO w t kv vo mo c f)
  (hK:∀w' cnt,Rng w' t kv vo mo w.heap.size c f ([]:List α) cnt ->w.grownBy w' none ->w'.heap.size=w.heap.size+1 ->wpList Tryz.prog ops Q rest (a.put o.dst (.pointer (some ⟨w.heap.size,0,none⟩))) w'):
  wpList Tryz.prog ops Q (o::rest) a w:=by
 cases mo with
 | some b=>
  obtain⟨D,h⟩:=h;refine wpList_range_own w hg m mt hop t e K ht QhK b c D hm h.own ?_;intro r k j q;have u:=j.block b (Qa3.lt ⟨D,h⟩) (by simp);exact hK r _ ⟨D,_,k,⟨k.owns,h.at',h.cov,h.ok⟩,QcJ.start h,by simp⟩ j q
 | none=>
  refine wpList_plain hg fun K' hK'=> ?_;unfold Oper.wp;simp [execOp,hop,hm,run_range_nilMap w mt t e ht,Result.andThen];exact hK' _ _ (hK _ 0 ⟨heap_alloc_new w _,rfl,rfl,h⟩ (World.grownBy_alloc w _ none) (by simp))
theorem QaG (hg:o.guard=none)(it:Operand)(hop:o.op=Op.next it false)(t:TypeId)(K:Keyed Tryz.prog t)(kv:α ->Value)(hi:∀x y,kv x=kv y ->x=y)(invK:∀key j,keyOf Tryz.prog t key=some j ->∃x,key=kv x)(vo:Option β ->Value)(mo:Option Nat)(r c:Nat)(f:α ->Option β)(ds:List α)(cnt:Nat)
  (hit:a.eval it=.pointer (some ⟨r,0,none⟩)) (h:Rng w t kv vo mo r c f ds cnt)
  (hDone:QbF f ds ->wpList Tryz.prog ops Q rest (a.put o.dst (.tuple #[.bool false])) w)
  (hMore:∀(x:α) (y:β) (w':World) (cnt' b:Nat),mo=some b ->f x=some y ->x ∉ ds ->(∃j,keyOf Tryz.prog t (kv x)=some j) ->Rng w' t kv vo mo r c f (ds++[x]) cnt' ->cnt'<cnt ->w.grownBy w' (some r) ->w'.heap.size=w.heap.size ->
   (Instr.entry (.pointer (some ⟨r,0,none⟩))).run Tryz.prog w'=.ok (.tuple #[kv x,vo (some y)]) w' ->wpList Tryz.prog ops Q rest (a.put o.dst (.tuple #[.bool true,kv x,vo (some y)])) w'):
  wpList Tryz.prog ops Q (o::rest) a w:=by
 cases mo with
 | none=>
  refine wpList_plain hg fun K' hK'=> ?_;unfold Oper.wp;simp [execOp,hop,hit,QeL h.1,Result.andThen];refine hK' _ _ (hDone ?_);rw [h.2.1];exact⟨List.nodup_nil,fun x=>⟨fun hx=>(by cases hx),fun hx=>absurd (h.2.2.2 x) hx⟩⟩
 | some b=>
  obtain⟨D,L,G,k,u,N⟩:=h;refine wpList_next_ranges (α:=α) (β:=Value) w hg it hop t K QhK kv id invK (fun v _ _=>⟨v,rfl⟩) b r c D L cnt hit G (fun h0 hl=>hDone (u.done k hl)) ?_;intro x v j y w1 E m p I g s Y U H O;have V:=has_true_of_atKey g;have i:=(k.at' x j m).1;rw [V] at i;obtain⟨z,A⟩:∃z,f x=some z:=by
   cases e:f x with
   | none=>rw [e] at i;cases i
   | some z=>exact⟨z,rfl⟩
  have J:v=vo (some z):=by
   have q:=(k.at' x j m).2;rw [g,A] at q;have M:=Qeq I;rw [M] at q;injection q
  subst J;have Z:x ∉ ds:=fun hx=>by have:=(u.old x hx).2 j m;rw [p] at this;cases this
  exact hMore x z w1 E b rfl A Z ⟨j,m⟩ ⟨D,_,s,⟨s.owns,k.at',k.cov,k.ok⟩,u.step k K hi m p g,by simp;omega⟩ Y U H O
end
section
variable {α β : Type} {w w' : World} {t : TypeId} {kv : α -> Value} {vo : Option β -> Value} {mo : Option Nat} {r c cnt : Nat} {f : α -> Option β} {ds : List α}
theorem MO.look_ok {mt e:TypeId}(h:MO w t kv vo mo c f)(K:Keyed Tryz.prog t)(ht:Tryz.prog.underlying mt=Option.some (.map t e))(hz:(zeroValue e).run Tryz.prog w=.ok (vo none) w){x:α}{kl:Lit}(hk:keyOf Tryz.prog t (kv x)=Option.some kl):
  (Instr.lookup mt (.map mo) (kv x) true).run Tryz.prog w=.ok (.tuple #[vo (f x),.bool (f x).isSome]) w:=by
 cases mo with
 | some b=>exact Qa3.look_ok h K ht hz hk
 | none=>
  rw [h x];exact Maps.look_nil true K ht hz hk
end
theorem QcZ {r q:Int}{kl:Lit}(h:keyOf Tryz.prog 104 (dtV (r,q))=some kl):(Lit.int .i64 r).wf=true/\ (Lit.int .i64 q).wf=true:=by
 unfold keyOf at h;rw [Tryz.underlying104] at h;simp only [Qlf,Bool.true_and] at h;have z:0<Tryz.prog.types.size:=of_decide_eq_true (by kernel_rfl);obtain⟨m,y⟩:∃m,Tryz.prog.types.size=m+1:=⟨Tryz.prog.types.size - 1,by omega⟩;rw [y] at h;have u:Tryz.prog.cellsOf 104=2:=by kernel_rfl
 have v:Tryz.prog.cellsOf 3=1:=by kernel_rfl
 simp [dtV,QgF,Value.formed,Tryz.underlying104,u,Program.keyLits,Tryz.underlying3,v,Value.cells] at h;by_cases j:(Lit.int .i64 r).wf=true
 ·by_cases k:(Lit.int .i64 q).wf=true
  ·exact⟨j,k⟩
  ·simp [j,k] at h
 ·simp [j] at h
theorem Qoo:Tryz.prog.fieldsOf 165=match Tryz.prog.underlying 165 with|some (.struct fs)=>fs|_=>#[]:=rfl
theorem QjP:Tryz.prog.stoodInHeld 165=false:=by kernel_rfl
theorem Qlj (s s':ByteArray)(w:World):(binOp .eql 165 (.agg #[.string s]) (.agg #[.string s'])).run Tryz.prog w=.ok (.bool (s.toList==s'.toList)) w:=by
 rw [run_eql_struct,show (10000:Nat)=9999+1 from rfl,run_equalIn_agg _ _ _ _ _ (by kernel_rfl) QjP,Qoo,Tryz.underlying165];cases h1:(s.toList==s'.toList)<;>simp [Op.eqFields,go_sem,Tryz.underlying9,h1]
theorem Qed (ka ma kb mb kj na:Option Nat)(bj bm ca cb c:Nat)(fa fb f:Dt ->Option ByteArray)(hb:Dt ->Bool)(w:World)
  (hA:MO w 104 dtV Qb1 ma ca fa) (hB:MO w 104 dtV Qb1 mb cb fb) (hJ:Qa3 w 104 dtV Qb1 bj c f) (hna:ma≠some bj) (hnb:mb≠some bj) (hc:c+ca<=1048576)
  (hH:∀w',w.grownBy w' (some bj) ->∀r q N,keyOf Tryz.prog 104 (dtV (r,q))=some N ->Cl 177 #[.map (some bm),.agg #[.int .i64 r,.int .i64 q]] w' fun e w''=>e=.returned (.bool (hb (r,q)))/\ Bl w' w''):
  Cl 163 #[.agg #[.map ka,.map ma,.map na],.agg #[.map kb,.map mb,.map (some bm)],.agg #[.map kj,.map (some bj)]] w fun e w'=>e=.returned (.tuple #[])/\ Qa3 w' 104 dtV Qb1 bj (c+ca) (kmF fa fb hb f)/\ w.grownBy w' (some bj):=by
 obtain⟨W,D⟩:=zE (((w.alloc (.cells #[.map ka,.map ma,.map na] 160)).alloc (.cells #[.map kb,.map mb,.map (some bm)] 160)).alloc (.cells #[.map kj,.map (some bj)] 156));have g0:w.grownBy W (some bj):=by rw [<- D];exact((World.grownBy_alloc w _ _).trans (World.grownBy_alloc _ _ _)).trans (World.grownBy_alloc _ _ _)
 have b0:Bl w W:=by rw [<- D];exact((zO _ _).alloc (by simp) _).alloc (by simp;omega) _
 have X0:Bx3 W w.heap.size (.map ka) (.map ma) (.map na):=by
  rw [<- D];exact((Bx3.made w (.map ka) (.map ma) (.map na) 160).bw (zO _ _) (Bx3.made w (.map ka) (.map ma) (.map na) 160).lt).bw (zO _ _) (by simp;omega)
 have X1:Bx3 W (w.heap.size+1) (.map kb) (.map mb) (.map (some bm)):=by
  rw [<- D];have:=Bx3.made (w.alloc (.cells #[.map ka,.map ma,.map na] 160)) (.map kb) (.map mb) (.map (some bm)) 160;exact(by simpa using this:Bx3 _ (w.heap.size+1) _ _ _).bw (zO _ _) (by simp)
 have X2:Bx2 W (w.heap.size+2) (.map kj) (.map (some bj)):=by
  rw [<- D];simpa using Bx2.made ((w.alloc (.cells #[.map ka,.map ma,.map na] 160)).alloc (.cells #[.map kb,.map mb,.map (some bm)] 160)) (.map kj) (.map (some bj)) 156
 have HA:=hid (hA.kept g0 (fun b e h=>hna (by rw [e];exact h.symm)));have HB:=hid (hB.kept g0 (fun b e h=>hnb (by rw [e];exact h.symm)));have HJ:=hid (Qa3.same hJ (b0.block bj hJ.lt));have i:=hid (⟨hna,hnb,hJ.lt,hc⟩:ma≠some bj/\ mb≠some bj/\ bj<w.heap.size/\ c+ca<=1048576);have HH:=hid (fun w' (hg:W.grownBy w' (some bj))=>hH w' (g0.trans hg));have Ge:=hid g0;have Gj:=hid (fun b (e:ma=some b)=>hA.lt b e);have H8:W.heap.size=w.heap.size+3:=by rw [<- D];simp
 have Hq:=hid H8;have K:=hid (⟨X1,X2⟩:Bx3 W (w.heap.size+1) (.map kb) (.map mb) (.map (some bm))/\ Bx2 W (w.heap.size+2) (.map kj) (.map (some bj)));have k1:=X0.c1;clear hA hB hJ hna hnb hc hH g0 b0 X0 X1 X2 H8;go_enter Tryz.func163,Tryz.ntmps163;go_wp2_with (at_range;refine QaB _ rfl _ 154 rfl 104 165 Qa1 Tryz.underlying154 dtV Qb1 ma ca fa rfl HA ?_;intro w0 Gg Hj Hz Gh);have H2:Hid (W.grownBy w0 (some bj)):=hid (Hz.but _);have H6:Hid (Qa3 w0 104 dtV Qb1 bj (c+([]:List Dt).length) (kmS fa fb hb f [])):=hid (by rw [Qiz];exact Qa3.same HJ (Hz.block bj HJ.lt (by simp)));clear Hz Gh HJ HA k1 D;try go_frame
 go_loopw [] (fun wr=>∃(m:List Dt) (Hw:Nat),Rng wr 104 dtV Qb1 ma W.heap.size ca fa m Hw/\ Hid (Qa3 wr 104 dtV Qb1 bj (c+m.length) (kmS fa fb hb f m))/\ Hid (W.grownBy wr (some bj))) (fun wr=>wr.rangeLeft (ma.getD 0) W.heap.size);case atStart=>exact⟨[],_,Hj,H6,H2⟩
 case round=>
  clear Hj H6 H2;obtain⟨m,Hw,Hr,Hv,H5⟩:=hrel;have Ha:=hid Hr;go_wp2_with (at_next;refine QaG _ rfl _ rfl 104 Qa1 dtV (fun _ _=>Qco) (fun key N g=>Qft g) Qb1 ma W.heap.size ca fa m Hw rfl Hr ?_ ?_)
  ·intro g;have HE:Hid (Qa3 wr 104 dtV Qb1 bj (c+ca) (kmF fa fb hb f)):=hid (by rw [<- QjG g];exact Hv.mono (by have:=Ha.len;omega));have Gd:=hid (Ge.trans H5);clear g Hr;go_wp2_with fail;go_end0;exact⟨rfl,HE,Gd⟩
  ·intro v u s Z Hx b1 Gb H9 Gc N Ga Hk Hb H0 Gi Hy;have He:=hid H9;have H7:=hid Gc;have T:=hid Ga;have Hu:Hid (c+m.length<maxLen):=hid (by have A:=Ha.len;have h2:=i.2.2.2;have h3:=Hb;unfold maxLen;omega);have Hh:Hid (∀p,Rng p 104 dtV Qb1 ma W.heap.size ca fa (m++[(v,u)]) Hx ->p.rangeLeft (ma.getD 0) W.heap.size<wr.rangeLeft (ma.getD 0) W.heap.size):=hid (fun p h9=>by
    have A:=Ha.out;rw [Gb] at h9 A ⊢;show p.rangeLeft b1 _<wr.rangeLeft b1 _;rw [h9.left_eq,A.left_eq];exact Hb)
   have H3:Hid (W.grownBy Z (some bj)):=hid (H5.andThen H0 (fun j e=>by cases e;exact .inl zL));have Gk:Hid (W.heap.size<=Z.heap.size):=hid H3.size;have Ho:Hid (Qa3 Z 104 dtV Qb1 bj (c+m.length) (kmS fa fb hb f m)):=hid (Qa3.same Hv (H0.block bj Hv.lt (fun e=>by have A:=i.2.2.1;have h2:=Hq.out;injection e with e;omega)));have Hc:=hid Hk;clear H9 Gc Ga Hr Hk Hb H0 Gi Gb;obtain⟨M,Hl⟩:=zE ((Z.alloc (.cells #[.int .i64 v,.int .i64 u] 104)).alloc (.cells #[.string s] 165));have C:Bl Z M:=by rw [<- Hl];exact Qae _ _ _
   have D6:Bx2 M Z.heap.size (.int .i64 v) (.int .i64 u):=by rw [<- Hl];exact(Bx2.made Z _ _ _).allocs _
   have M6:Bx1 M (Z.heap.size+1) (.string s):=by rw [<- Hl];simpa using Bx1.made (Z.alloc (.cells #[.int .i64 v,.int .i64 u] 104)) (.string s) 165
   have G6:W.grownBy M (some bj):=H3.andThen (row':=none) ⟨C.os,C.tape,C.output,C.size,fun k g _=>C.block k g⟩ (fun j e=>by cases e);have o:∀k,w.heap.size<=k ->some k≠some bj:=fun k g e=>by have A:=i.2.2.1;injection e with e;omega
   have o1:=G6.cell K.1.c1 (o _ (by simp));have o2:=G6.cell K.1.c2 (o _ (by simp));obtain⟨d0,d1⟩:=D6.q2;have m0:=M6.c0;have Hm:=hid D6;have Hp:=hid M6;have H4:=hid G6;have H1:=hid C;have F:=(HB.kept G6 (fun b e h=>i.2.1 (by rw [e,h]))).look_ok Qa1 Tryz.underlying154 (QeU M) (x:=(v,u)) T;dsimp only [dtV,QgF,Qb1] at Hy F ⊢;clear C D6 M6 G6 o;cases hfb:fb (v,u) with
   | none=>
    rw [hfb] at F;have Hn:=hid hfb;dsimp only [Qb1,Option.isSome] at F;clear hfb;obtain⟨G,P⟩:=zE (M.alloc (.cells #[.string ByteArray.empty] 165));have z:Bl M G:=by rw [<- P];exact zO _ _
    have T7:Bx1 G M.heap.size (.string ByteArray.empty):=by rw [<- P];exact Bx1.made _ _ _
    have U:Hid (W.grownBy G (some bj)):=hid (H4.andThen (row':=none) ⟨z.os,z.tape,z.output,z.size,fun k g _=>z.block k g⟩ (fun j e=>by cases e));have Ht:=hid (Qaa H1 z);have X:=Hm.bw z Hm.lt;have M7:=Hp.bw z Hp.lt;have Q:=hid X;have Hg:=hid M7;have Hi:=hid T7;have Hd:=hid (HH G U v u N T);have o:∀k,w.heap.size<=k ->some k≠some bj:=fun k g e=>by have A:=i.2.2.1;injection e with e;omega
    have p1:=U.cell K.1.c1 (o _ (by simp));have p2:=U.cell K.1.c2 (o _ (by simp));obtain⟨q0,q1⟩:=X.q2;clear z T7 X M7 o;go_wp2_with fail;refine Hd.mono ?_;rintro e R ⟨rfl,y⟩;have H:Hid (W.grownBy R (some bj)):=hid (U.andThen (row':=none) ⟨y.os,y.tape,y.output,y.size,fun k g _=>y.block k g⟩ (fun j e=>by cases e));have O:=Qaa Ht y;have S:=hid (Qa3.same Ho (O.block bj Ho.lt));have I:=hid (Hc.same (fun b e=>O.block b (Hc.mlt b e)) (O.block _ Hc.lt));have o:∀k,w.heap.size<=k ->some k≠some bj:=fun k g e=>by have A:=i.2.2.1;injection e with e;omega
    have r1:=H.cell K.2.c1 (o _ (by simp));have s0:=(Q.bw y Q.lt).c0;have s1:=(Q.bw y Q.lt).c1;have s2:=(Hg.bw y Hg.lt).c0;have s3:=(Hi.bw y Hi.lt).c0;clear y O o F Hy o1 o2 d0 d1 m0 p1 p2 q0 q1 Hl P Hd;cases hhb:hb (v,u) with
    | false=>
     have B:=hid hhb;clear hhb;have Y:Hid (kmS fa fb hb f (m++[(v,u)])=QcI (kmS fa fb hb f m) (v,u) (some s)):=hid (QeA He (.inl B));go_wp2_with (refine Qap _ rfl _ _ _ 154 rfl 104 165 Qa1 dtV (fun _ _=>Qco) Tryz.underlying154 Qb1 bj (c+m.length) (kmS fa fb hb f m) rfl S Hu (v,u) s N rfl rfl T ?_;intro p L E);have J:=hid (I.kept E (fun b e h=>i.1 (by rw [e,h])) (fun h=>by have A:=i.2.2.1;have h2:=Hq.out;injection h with h;omega));have V:Hid (Qa3 p 104 dtV Qb1 bj (c+(m++[(v,u)]).length) (kmS fa fb hb f (m++[(v,u)]))):=hid (by rw [Y.out];simpa [Nat.add_assoc] using L);have Hf:=hid (H.trans E);clear L E;simp only [Act.put];go_roundw;case rel=>exact⟨_,_,J,V,Hf⟩
     case measure=>exact Hh p J
    | true=>
     have B:=hid hhb;clear hhb;have Y:Hid (kmS fa fb hb f (m++[(v,u)])=kmS fa fb hb f m):=hid (QgP He H7 (fun h=>h.elim (fun h=>by rw [B.out] at h;cases h) (fun h=>by rw [Hn.out] at h;cases h)));have V:Hid (Qa3 R 104 dtV Qb1 bj (c+(m++[(v,u)]).length) (kmS fa fb hb f (m++[(v,u)]))):=hid (by rw [Y.out];exact S.mono (by simp));go_wp2_with fail;go_roundw;case rel=>exact⟨_,_,I,V,H⟩
     case measure=>exact Hh R I
   | some t=>
    rw [hfb] at F;have Hn:=hid hfb;dsimp only [Qb1,Option.isSome] at F;clear hfb;obtain⟨G,P⟩:=zE (M.alloc (.cells #[.string t] 165));have z:Bl M G:=by rw [<- P];exact zO _ _
    have T7:Bx1 G M.heap.size (.string t):=by rw [<- P];exact Bx1.made _ _ _
    have U:Hid (W.grownBy G (some bj)):=hid (H4.andThen (row':=none) ⟨z.os,z.tape,z.output,z.size,fun k g _=>z.block k g⟩ (fun j e=>by cases e));have Ht:=hid (Qaa H1 z);have X:=Hm.bw z Hm.lt;have M7:=Hp.bw z Hp.lt;have Q:=hid X;have Hg:=hid M7;have Hi:=hid T7;have Hd:=hid (HH G U v u N T);have o:∀k,w.heap.size<=k ->some k≠some bj:=fun k g e=>by have A:=i.2.2.1;injection e with e;omega
    have p1:=U.cell K.1.c1 (o _ (by simp));have p2:=U.cell K.1.c2 (o _ (by simp));obtain⟨q0,q1⟩:=X.q2;clear z T7 X M7 o;go_wp2_with fail;refine Hd.mono ?_;rintro e R ⟨rfl,y⟩;have H:Hid (W.grownBy R (some bj)):=hid (U.andThen (row':=none) ⟨y.os,y.tape,y.output,y.size,fun k g _=>y.block k g⟩ (fun j e=>by cases e));have O:=Qaa Ht y;have S:=hid (Qa3.same Ho (O.block bj Ho.lt));have I:=hid (Hc.same (fun b e=>O.block b (Hc.mlt b e)) (O.block _ Hc.lt));have o:∀k,w.heap.size<=k ->some k≠some bj:=fun k g e=>by have A:=i.2.2.1;injection e with e;omega
    have r1:=H.cell K.2.c1 (o _ (by simp));have s0:=(Q.bw y Q.lt).c0;have s1:=(Q.bw y Q.lt).c1;have s2:=(Hg.bw y Hg.lt).c0;have s3:=(Hi.bw y Hi.lt).c0;clear y O o F Hy o1 o2 d0 d1 m0 p1 p2 q0 q1 Hl P Hd;cases hhb:hb (v,u) with
    | false=>
     have B:=hid hhb;clear hhb;have Y:Hid (kmS fa fb hb f (m++[(v,u)])=QcI (kmS fa fb hb f m) (v,u) (some s)):=hid (QeA He (.inl B));go_wp2_with (refine Qap _ rfl _ _ _ 154 rfl 104 165 Qa1 dtV (fun _ _=>Qco) Tryz.underlying154 Qb1 bj (c+m.length) (kmS fa fb hb f m) rfl S Hu (v,u) s N rfl rfl T ?_;intro p L E);have J:=hid (I.kept E (fun b e h=>i.1 (by rw [e,h])) (fun h=>by have A:=i.2.2.1;have h2:=Hq.out;injection h with h;omega));have V:Hid (Qa3 p 104 dtV Qb1 bj (c+(m++[(v,u)]).length) (kmS fa fb hb f (m++[(v,u)]))):=hid (by rw [Y.out];simpa [Nat.add_assoc] using L);have Hf:=hid (H.trans E);clear L E;simp only [Act.put];go_roundw;case rel=>exact⟨_,_,J,V,Hf⟩
     case measure=>exact Hh p J
    | true=>
     have B:=hid hhb;have EQ:∀w:World,(binOp .eql 165 (.agg #[.string t]) (.agg #[.string s])).run Tryz.prog w=.ok (.bool (t.toList==s.toList)) w:=fun w=>Qlj t s w;clear hhb;by_cases Hs:t=s
     ·subst Hs;have hz:(t.toList==t.toList)=true:=by simp
      rw [hz] at EQ;clear hz;have Y:Hid (kmS fa fb hb f (m++[(v,u)])=QcI (kmS fa fb hb f m) (v,u) (some t)):=hid (QeA He (.inr Hn));go_wp2_with (refine Qap _ rfl _ _ _ 154 rfl 104 165 Qa1 dtV (fun _ _=>Qco) Tryz.underlying154 Qb1 bj (c+m.length) (kmS fa fb hb f m) rfl S Hu (v,u) t N rfl rfl T ?_;intro p L E);have J:=hid (I.kept E (fun b e h=>i.1 (by rw [e,h])) (fun h=>by have A:=i.2.2.1;have h2:=Hq.out;injection h with h;omega));have V:Hid (Qa3 p 104 dtV Qb1 bj (c+(m++[(v,u)]).length) (kmS fa fb hb f (m++[(v,u)]))):=hid (by rw [Y.out];simpa [Nat.add_assoc] using L);have Hf:=hid (H.trans E);clear L E;simp only [Act.put];go_roundw;case rel=>exact⟨_,_,J,V,Hf⟩
      case measure=>exact Hh p J
     ·have hz:(t.toList==s.toList)=false:=by simpa using fun h=>Hs (Qbd h)
      have Gf:=hid Hs;rw [hz] at EQ;clear hz Hs;have Y:Hid (kmS fa fb hb f (m++[(v,u)])=kmS fa fb hb f m):=hid (QgP He H7 (fun h=>h.elim (fun h=>by rw [B.out] at h;cases h) (fun h=>by rw [Hn.out] at h;exact Gf (Option.some.inj h))));have V:Hid (Qa3 R 104 dtV Qb1 bj (c+(m++[(v,u)]).length) (kmS fa fb hb f (m++[(v,u)]))):=hid (by rw [Y.out];exact S.mono (by simp));go_wp2_with fail;go_roundw;case rel=>exact⟨_,_,I,V,H⟩
      case measure=>exact Hh R I
theorem QkH (z:List Ky)(s:ByteArray)(k:Int)(kn:Option Nat)(B c:Nat)(N:List Ky ->Option (Nat×Nat))(M:List Ky ->Dt ->Option ByteArray)(w:World)(kl:Lit)(hk:keyOf Tryz.prog 208 (Qa5 (s,k))=some kl)(hT:Tre w B N M c):
  Cl 165 #[.agg #[.map (mF (N z)),.map (mS (N z)),.map kn],.agg #[.string s,.int .i64 k]] w (Rt w (.agg #[.map (mF (N (z++[(s,k)]))),.map (mS (N (z++[(s,k)]))),.map kn])):=by
 have y:Hid (∀w',Bl w w' ->(Instr.lookup 153 (.map (mF (N z))) (.agg #[.string s,.int .i64 k]) false).run Tryz.prog w'=.ok (.agg #[.map (mF (N (z++[(s,k)]))),.map (mS (N (z++[(s,k)])))]) w'):=hid (fun w' b=>(hT.bw b).look z (s,k) hk);obtain⟨m,g⟩:=zE (mF (N z));obtain⟨r,p⟩:=zE (mS (N z));obtain⟨v0,t⟩:=zE (mF (N (z++[(s,k)])));obtain⟨v1,o⟩:=zE (mS (N (z++[(s,k)])));rw [g,t,o] at y;rw [g,p,t,o];obtain⟨W,u⟩:=zE (((w.alloc (.cells #[.map m,.map r,.map kn] 160)).alloc (.cells #[.string s,.int .i64 k] 208)).alloc (.cells #[.map none,.map none,.map none] 160));have j:Bl w W:=by rw [<- u];exact((zO _ _).alloc (by simp) _).alloc (by simp;omega) _
 have h:Bx3 W w.heap.size (.map m) (.map r) (.map kn):=by
  rw [<- u];exact((Bx3.made w (.map m) (.map r) (.map kn) 160).bw (zO _ _) (Bx3.made w (.map m) (.map r) (.map kn) 160).lt).bw (zO _ _) (by simp;omega)
 have i:Bx2 W (w.heap.size+1) (.string s) (.int .i64 k):=by
  rw [<- u];have:=Bx2.made (w.alloc (.cells #[.map m,.map r,.map kn] 160)) (.string s) (.int .i64 k) 208;exact(by simpa using this:Bx2 _ (w.heap.size+1) _ _).bw (zO _ _) (by simp)
 have q:Bx3 W (w.heap.size+1+1) (.map none) (.map none) (.map none):=by
  rw [<- u];simpa using Bx3.made ((w.alloc (.cells #[.map m,.map r,.map kn] 160)).alloc (.cells #[.string s,.int .i64 k] 208)) (.map none) (.map none) (.map none) 160
 have U:(Instr.lookup 153 (.map m) (.agg #[.string s,.int .i64 k]) false).run Tryz.prog W.drew=.ok (.agg #[.map v0,.map v1]) W.drew:=y _ ⟨j.os,j.tape,j.output,j.size,j.block⟩;have x0:=h.c0;have G:=h.c2;obtain⟨H,I⟩:=i.q2;obtain⟨J,K,L⟩:=q.q3;have V:=q.f 0;have Y:=q.f 1;have Z:=q.f 2;have O:=hid j;have E:=hid q;clear j h i q g p t o hT y;go_enter Tryz.func165,Tryz.ntmps165;go_wp2_with fail;go_region;have A:=hid (E.set (.map v0) (.map v1) (.map kn));go_wp2_with fail;obtain⟨Q,r1,r2⟩:=A.q3;refine zF (v:=.agg #[.map v0,.map v1,.map kn]) (by simp [results,Tryz.results165,go_sem,Q,r1,r2]) ⟨rfl,?_⟩;exact(((O.setCell (by simp;omega) _).setCell (by simp;omega) _).setCell (by simp;omega) _).drew
def Qcl (g1:Ky ->Option (Nat×Nat))(g2:Dt ->Option ByteArray):Prop:=(∃y,g1 y≠none) \/(∃d,g2 d≠none)
theorem QmA (x0 x1:Nat×Nat)(s:ByteArray)(k:Int)(c:Nat)(f g1:Ky ->Option (Nat×Nat))(g2:Dt ->Option ByteArray)(w:World)(kl:Lit)(hk:keyOf Tryz.prog 208 (Qa5 (s,k))=some kl)
  (hF:Qa3 w 208 Qa5 QaQ x0.1 c f) (h1:Qa3 w 208 Qa5 QaQ x1.1 c g1) (h2:Qa3 w 104 dtV Qb1 x1.2 c g2) (hc:c<1048576):
  Cl 164 #[.agg #[.map (some x0.1),.map (some x0.2)],.agg #[.string s,.int .i64 k],.agg #[.map (some x1.1),.map (some x1.2)]] w fun e w'=>e=.returned (.tuple #[])/\ w.grownBy w' (some x0.1)/\
   (Qcl g1 g2 ->Qa3 w' 208 Qa5 QaQ x0.1 (c+1) (QcI f (s,k) (some x1)))/\ (¬Qcl g1 g2 ->Bl w w'):=by
 obtain⟨W,g⟩:=zE (((w.alloc (.cells #[.map (some x0.1),.map (some x0.2)] 156)).alloc (.cells #[.string s,.int .i64 k] 208)).alloc (.cells #[.map (some x1.1),.map (some x1.2)] 156));have j:Bl w W:=by rw [<- g];exact((zO _ _).alloc (by simp) _).alloc (by simp;omega) _
 have Q:Bx2 W w.heap.size (.map (some x0.1)) (.map (some x0.2)):=by
  rw [<- g];exact((Bx2.made w (.map (some x0.1)) (.map (some x0.2)) 156).allocs _).allocs _
 have U:Bx2 W (w.heap.size+1) (.string s) (.int .i64 k):=by
  rw [<- g];have:=Bx2.made (w.alloc (.cells #[.map (some x0.1),.map (some x0.2)] 156)) (.string s) (.int .i64 k) 208;exact(by simpa using this:Bx2 _ (w.heap.size+1) _ _).allocs _
 have V:Bx2 W (w.heap.size+1+1) (.map (some x1.1)) (.map (some x1.2)):=by
  rw [<- g];simpa using Bx2.made ((w.alloc (.cells #[.map (some x0.1),.map (some x0.2)] 156)).alloc (.cells #[.string s,.int .i64 k] 208)) (.map (some x1.1)) (.map (some x1.2)) 156
 obtain⟨t,J,K,Y⟩:=(Qa3.same h1 (j.block _ h1.lt)).len Qas Tryz.underlying153;obtain⟨o,L,N,Z⟩:=(Qa3.same h2 (j.block _ h2.lt)).len Qa1 Tryz.underlying154;have p:=hid (Qa3.same hF (j.block _ hF.lt));have z:=hid (And.intro Y Z);have A:Hid (w.grownBy W (some x0.1)):=hid ⟨j.os,j.tape,j.output,j.size,fun k hk _=>j.block k hk⟩;have G:=hid j;have b:Hid (c<maxLen):=hid (by unfold maxLen;omega);have E:=hid hk;have C:=Q.c0;obtain⟨D,F⟩:=U.q2;obtain⟨P,R⟩:=V.q2;have X:(0:Int)<=(t:Int):=Int.natCast_nonneg _;have B:(0:Int)<=(o:Int):=Int.natCast_nonneg _;have O:∀m,Qa3 m 208 Qa5 QaQ x0.1 (c+1) (QcI f (s,k) (some x1)) ->W.grownBy m (some x0.1) ->Qcl g1 g2 ->w.grownBy m (some x0.1)/\
   (Qcl g1 g2 ->Qa3 m 208 Qa5 QaQ x0.1 (c+1) (QcI f (s,k) (some x1)))/\ (¬Qcl g1 g2 ->Bl w m):=fun m h9 g9 hh=>⟨A.trans g9,fun _=>h9,fun hn=>absurd hh hn⟩
 have M:=hid O;clear j Q U V hF h1 h2 hc hk Y Z O;by_cases q:0<t
 ·have H:decide (0<t)=true:=by simpa using q
  have r:Hid (Qcl g1 g2):=hid (Or.inl (z.1.1 q));clear q;go_enter Tryz.func164,Tryz.ntmps164;go_wp2_with (refine Qap _ rfl _ _ _ 153 rfl 208 156 Qas Qa5 (fun _ _=>QaZ) Tryz.underlying153 QaQ x0.1 c f rfl p b (s,k) x1 kl rfl rfl E ?_;intro m y v);have i:=hid (M m y v r);clear y v;go_end0;exact⟨rfl,i⟩
 ·obtain rfl:t=0:=by omega
  by_cases u:0<o
  ·have I:decide (0<o)=true:=by simpa using u
   have r:Hid (Qcl g1 g2):=hid (Or.inr (z.2.1 u));clear q u;go_enter Tryz.func164,Tryz.ntmps164;go_wp2_with (refine Qap _ rfl _ _ _ 153 rfl 208 156 Qas Qa5 (fun _ _=>QaZ) Tryz.underlying153 QaQ x0.1 c f rfl p b (s,k) x1 kl rfl rfl E ?_;intro m y v);have i:=hid (M m y v r);clear y v;go_end0;exact⟨rfl,i⟩
  ·obtain rfl:o=0:=by omega
   have r:Hid (¬Qcl g1 g2):=hid (fun h=>Or.elim h (fun h=>q (z.1.2 h)) (fun h=>u (z.2.2 h)));clear q u;go_enter Tryz.func164,Tryz.ntmps164;go_wp2_with fail;go_end0;exact⟨rfl,A,fun h=>absurd h r,fun _=>G.out⟩
theorem Qfk{a:Addr}(hg:w.grownBy w' row)(hlt:a.block<w.heap.size)(hne:some a.block≠row):w'.frozen? a=w.frozen? a:=by
 unfold World.frozen?;rw [hg.block a.block hlt hne]
theorem Bx3.gr{v2:Value}(h:Bx3 w b v0 v1 v2)(hg:w.grownBy w' row)(hr:∀k,row=some k ->k≠b):Bx3 w' b v0 v1 v2:=
 have j:some b≠row:=fun e=>hr b e.symm rfl
 ⟨hg.cell h.c0 j,hg.cell h.c1 j,hg.cell h.c2 j,fun i=>(Qfk hg h.lt j).trans (h.f i),Nat.lt_of_lt_of_le h.lt hg.size⟩
theorem Bx2.gr(h:Bx2 w b v0 v1)(hg:w.grownBy w' row)(hr:∀k,row=some k ->k≠b):Bx2 w' b v0 v1:=
 have j:some b≠row:=fun e=>hr b e.symm rfl
 ⟨hg.cell h.c0 j,hg.cell h.c1 j,fun i=>(Qfk hg h.lt j).trans (h.f i),Nat.lt_of_lt_of_le h.lt hg.size⟩
theorem Qb4(b:Bl w w')(row:Option Nat):w.grownBy w' row:=⟨b.os,b.tape,b.output,b.size,fun k hk _=>b.block k hk⟩
structure JB (w:World)(s t:Nat)(a0 a1 a2 b0 b1 b2:Option Nat)(x0:Nat×Nat):Prop where
 a:Bx3 w s (.map a0) (.map a1) (.map a2)
 b:Bx3 w (s+1) (.map b0) (.map b1) (.map b2)
 r:Bx2 w (s+1+1) (.map none) (.map none)
 j:Bx2 w t (.map (some x0.1)) (.map (some x0.2))
section
variable {w w' : World} {s t : Nat} {a0 a1 a2 b0 b1 b2 : Option Nat} {x0 : Nat × Nat}
theorem JB.gr {row:Option Nat}(h:JB w s t a0 a1 a2 b0 b1 b2 x0)(hg:w.grownBy w' row)(hr:∀k,row=some k ->k≠s/\ k≠s+1/\ k≠s+1+1/\ k≠t):JB w' s t a0 a1 a2 b0 b1 b2 x0:=
 ⟨h.a.gr hg (fun k e=>(hr k e).1),h.b.gr hg (fun k e=>(hr k e).2.1),h.r.gr hg (fun k e=>(hr k e).2.2.1),h.j.gr hg (fun k e=>(hr k e).2.2.2)⟩
theorem JB.bw (h:JB w s t a0 a1 a2 b0 b1 b2 x0)(hb:Bl w w'):JB w' s t a0 a1 a2 b0 b1 b2 x0:=h.gr (Qb4 hb none) (fun k e=>by cases e)
end
section
variable {w w' : World} {B c : Nat} {N : List Ky -> Option (Nat × Nat)} {M : List Ky -> Dt -> Option ByteArray}
theorem Tre.lower {B':Nat}(h:Tre w B N M c)(hB:B'<=B):Tre w B' N M c:=⟨h.kids,h.marks,h.apart,fun p x hx=>by have:=h.lo p x hx;omega,h.none',h.up⟩
theorem Tre.mo_marks (h:Tre w B N M c)(z:List Ky):MO w 104 dtV Qb1 (mS (N z)) c (M z):=by
 cases e:N z with
 | none=>exact fun x=>by rw [h.none' z e]
 | some x=>exact h.marks z x e
theorem Tre.mo_kids (h:Tre w B N M c)(z:List Ky):MO w 208 Qa5 QaQ (mF (N z)) c (fun y=>N (z++[y])):=by
 cases e:N z with
 | none=>exact fun x=>h.up z x e
 | some x=>exact h.kids z x e
end
section
variable {w w' : World} {B c : Nat} {J : List Lf} {z : List Ky} {K : Ky -> Prop} {N N1 : List Ky -> Option (Nat × Nat)} {x0 x1 : Nat × Nat}
theorem JT.congr {K':Ky ->Prop}(h:JT w B J z K N c x0)(hK:∀u,K u↔K' u):JT w B J z K' N c x0:=by
 have:K=K':=funext fun u=>propext (hK u);rw [<- this];exact h
theorem JT.mono {c':Nat}(h:JT w B J z K N c x0)(hc:c<=c'):JT w B J z K N c' x0:=⟨h.tre.mono hc,h.root,h.there⟩
theorem JT.bw (h:JT w B J z K N c x0)(hb:Bl w w'):JT w' B J z K N c x0:=⟨h.tre.bw hb,h.root,h.there⟩
theorem JT.kept' {r:Nat}(h:JT w B J z K N c x0)(hg:w.grownBy w' (some r))(hr:∀k j,w.heap[r]? ≠some (.map k j)):JT w' B J z K N c x0:=
 ⟨h.tre.same fun p x hx=>⟨hg.block _ (h.tre.lt hx).1 (fun e=>by obtain⟨k,j,m⟩:=(h.tre.kids p x hx).obj;injection e with e;rw [e] at m;exact hr k j m),hg.block _ (h.tre.lt hx).2 (fun e=>by obtain⟨k,j,m⟩:=(h.tre.marks p x hx).obj;injection e with e;rw [e] at m;exact hr k j m)⟩,h.root,h.there⟩
theorem JT.round {w8 w9 w10:World}{y:Ky}(h:JT w8 B J z K N c x0)(b9:Bl w8 w9)(h1:JF w9 w8.heap.size J (z++[y]) N1 c x1)(hB:B<=w8.heap.size)(hy:¬K y)(hg:w9.grownBy w10 (some x0.1))
  (hm:Qcl (fun u=>N1 [u]) (Mk J J.length (z++[y])) ->Qa3 w10 208 Qa5 QaQ x0.1 (c+1) (QcI (fun u=>N [u]) y (some x1))) (hn:¬Qcl (fun u=>N1 [u]) (Mk J J.length (z++[y])) ->Bl w9 w10):
  ∃N',JT w10 B J z (fun u=>K u \/u=y) N' (c+1) x0:=by
 by_cases e:Qcl (fun u=>N1 [u]) (Mk J J.length (z++[y]))
 ·refine⟨_,(h.bw b9).hang ⟨h1.tre.lower hB,h1.root,h1.there⟩ hy (h1.bears.2 e) (fun p q a b ha hb=> ?_) hg ((hm e).ext fun u=> ?_)⟩
  ·have j:=h.tre.lt ha;have k:=h1.tre.lo q b hb;omega
  ·unfold QcI;by_cases e:u=y<;>simp [e]
 ·exact⟨N,((h.bw b9).skip hy (fun ha=>e (h1.bears.1 ha))).bw (hn e)|>.mono (Nat.le_succ _)⟩
end
theorem JB.sees{s t u:Nat}{a0 a1 a2 b0 b1 b2:Option Nat}{x0:Nat×Nat}{ks:ByteArray}{kk:Int}(h:JB w s t a0 a1 a2 b0 b1 b2 x0)(hk:Bx2 w u (.string ks) (.int .i64 kk)):
  w.cell? ⟨t,0,none⟩=some (.map (some x0.1))/\ w.cell? ⟨t,1,none⟩=some (.map (some x0.2))/\ w.cell? ⟨u,0,none⟩=some (.string ks)/\ w.cell? ⟨u,1,none⟩=some (.int .i64 kk)/\ w.cell? ⟨s,0,none⟩=some (.map a0)/\ w.cell? ⟨s,1,none⟩=some (.map a1)/\ w.cell? ⟨s,2,none⟩=some (.map a2)/\ w.cell? ⟨s+1,0,none⟩=some (.map b0)/\ w.cell? ⟨s+1,1,none⟩=some (.map b1)/\ w.cell? ⟨s+1,2,none⟩=some (.map b2):=
 ⟨h.j.c0,h.j.c1,hk.c0,hk.c1,h.a.c0,h.a.c1,h.a.c2,h.b.c0,h.b.c1,h.b.c2⟩
open Go.Deep
noncomputable def cDR (g:Lf ->Prop)(l P:List Lf)(j k:Nat):List Rn:=unF [] ((goL g (l.take j)).map dtR++(P.take k).map dtR)
def cNR (S:Sx)(P:List Lf)(k:Nat):List Rn:=unF (Qbn S.R S.F S.T S.n) ((P.take k).map dtR)
noncomputable def cNL (g:Lf ->Prop)(l P:List Lf)(j k:Nat):List Lf:=(P.take k).foldl (fun o y=>Qcq y o) (stL g (l.take j))
noncomputable def cDL (P:List Lf)(k:Nat):List Lf:=(P.take k).foldl (fun o y=>Qcq y o) []
theorem QbB(h:j<l.length):l.take (j+1)=l.take j++[gL l j]:=by
 rw [List.take_add_one,List.getElem?_eq_getElem h];simp [gL,List.getD,h]
theorem Qcd{x:Lf}(h:x∈l.take j):x∈l:=List.mem_of_mem_take h
section
variable {g : Lf -> Prop} {l P : List Lf} {j k : Nat}
theorem QnC (h:j<l.length)(hg:g (gL l j)):goL g (l.take (j+1))=goL g (l.take j)++[gL l j]:=by
 unfold goL;rw [QbB h,List.filter_append];congr 1;simp [Qah hg]
theorem QnB (h:j<l.length)(hg:¬g (gL l j)):goL g (l.take (j+1))=goL g (l.take j):=by
 unfold goL;rw [QbB h,List.filter_append];simp [Qaf hg]
theorem QnR (h:j<l.length)(hg:g (gL l j)):stL g (l.take (j+1))=stL g (l.take j):=by
 unfold stL;rw [QbB h,List.filter_append];simp [Qah hg]
theorem QnQ (h:j<l.length)(hg:¬g (gL l j)):stL g (l.take (j+1))=stL g (l.take j)++[gL l j]:=by
 unfold stL;rw [QbB h,List.filter_append];congr 1;simp [Qaf hg]
theorem Qmk (h:j<l.length)(hg:g (gL l j)):cDR g l P (j+1) 0=ins (cDR g l P j 0) (dtR (gL l j)):=by
 unfold cDR;rw [QnC h hg,List.take_zero,List.map_append,List.map_nil,List.append_nil,List.append_nil];exact Qdn _ _ _
theorem Qmm (h:j<l.length)(hg:¬g (gL l j)):cDR g l P (j+1) 0=cDR g l P j 0:=by unfold cDR;rw [QnB h hg]
theorem Qmn (h:j<l.length)(hg:g (gL l j)):cNL g l P (j+1) 0=cNL g l P j 0:=by unfold cNL;rw [QnR h hg]
theorem Qmo (h:j<l.length)(hg:¬g (gL l j)):cNL g l P (j+1) 0=cNL g l P j 0++[gL l j]:=by
 unfold cNL;rw [QnQ h hg,List.take_zero];rfl
theorem QkT (h:k<P.length):cDR g l P j (k+1)=ins (cDR g l P j k) (dtR (gL P k)):=by
 unfold cDR;rw [QbB h,List.map_append,<- List.append_assoc];exact Qdn _ _ _
theorem QkZ {S:Sx}(h:k<P.length):cNR S P (k+1)=ins (cNR S P k) (dtR (gL P k)):=by
 unfold cNR;rw [QbB h,List.map_append];exact Qdn _ _ _
theorem QkX (h:k<P.length):cNL g l P j (k+1)=Qcq (gL P k) (cNL g l P j k):=by
 unfold cNL;rw [QbB h,List.foldl_append];rfl
theorem QkR (h:k<P.length):cDL P (k+1)=Qcq (gL P k) (cDL P k):=by
 unfold cDL;rw [QbB h,List.foldl_append];rfl
theorem QfI:cDR g l P l.length P.length=dlU g l P:=by unfold cDR dlU;rw [List.take_length,List.take_length]
theorem QfK {S:Sx}:cNR S P P.length=nxU S P:=by unfold cNR nxU;rw [List.take_length]
theorem QfJ:cNL g l P l.length P.length=nxL g l P:=by unfold cNL nxL;rw [List.take_length,List.take_length]
theorem QhP (h:P.length<=1):cDL P P.length=P:=by
 unfold cDL;rw [List.take_length];match P,h with
 | [],_=>rfl
 | [y],_=>rfl
 | _::_::_,h=>simp at h
theorem Qe1:∀(P o:List Lf),(P.foldl (fun o y=>Qcq y o) o).length=o.length+P.length
 | [],o=>rfl
 | y::P,o=>by rw [List.foldl_cons,Qe1 P,Qbq,List.length_cons];omega
theorem QkU:(cNL g l P j k).length<=l.length+P.length:=by
 unfold cNL;rw [Qe1];have m:(stL g (l.take j)).length<=(l.take j).length:=List.length_filter_le _ _;rw [List.length_take] at m ⊢;omega
theorem QkO:(cDL P k).length<=P.length:=by
 unfold cDL;rw [Qe1,List.length_take,List.length_nil];omega
theorem QkS:(cDR g l P j k).length<=l.length+P.length:=by
 have m:=QcX ((goL g (l.take j)).map dtR++(P.take k).map dtR) [];have q:(goL g (l.take j)).length<=(l.take j).length:=List.length_filter_le _ _;rw [List.length_append,List.length_map,List.length_map,List.length_take,List.length_nil] at m;rw [List.length_take] at q;show (unF [] _).length<=_;omega
theorem QkY {S:Sx}:(cNR S P k).length<=S.n+P.length:=by
 have j:=QcX ((P.take k).map dtR) (Qbn S.R S.F S.T S.n);rw [List.length_map,List.length_take,Qbh] at j;show (unF _ _).length<=_;omega
theorem QkV {z:Lf}(h:z∈cNL g l P j k):z∈l \/z∈P:=by
 unfold cNL at h;rcases (QeD (l:=l)).1 h with h|h
 ·exact .inl (Qcd (Qg1.1 h).1)
 ·exact .inr (Qcd h)
theorem QkP {z:Lf}(h:z∈cDL P k):z∈P:=by
 unfold cDL at h;rcases (QeD (l:=P)).1 h with h|h
 ·cases h
 ·exact Qcd h
end
section
variable {g : Lf -> Prop} {S : Sx} {P : List Lf}
theorem Qml (h:QaT S.R S.F S.T S.n S.l)(hp:PtO S P)(j k:Nat):Qcz (cDR g S.l P j k):=(Qdb _ [] Qkt (fun p m=>by
 refine Qkq (g:=g) h hp p ?_;rcases List.mem_append.1 m with m|m
 ·obtain⟨x,q,rfl⟩:=List.mem_map.1 m;exact List.mem_append.2 (.inl (List.mem_map.2 ⟨x,QcN.2 ⟨Qcd (QcN.1 q).1,(QcN.1 q).2⟩,rfl⟩))
 ·obtain⟨x,q,rfl⟩:=List.mem_map.1 m;exact List.mem_append.2 (.inr (List.mem_map.2 ⟨x,Qcd q,rfl⟩)))).1
theorem Qmp (h:QaT S.R S.F S.T S.n S.l)(hp:PtO S P)(k:Nat):Qcz (cNR S P k):=(Qdb _ _ (Qbp S.n (Qbu h)) (fun p hq=>by
 obtain⟨x,j,rfl⟩:=List.mem_map.1 hq;exact hp.dot x (Qcd j))).1
theorem Qk7 {l:List Lf}(h:∀z∈l,1<=z.p.length/\ z.p.length<=8):∀i,i<l.length ->1<=(gL l i).p.length/\ (gL l i).p.length<=8:=fun i hi=>h _ (Qai.2 ⟨i,hi,rfl⟩)
theorem QnK (h:QaT S.R S.F S.T S.n S.l):∀z∈S.l,1<=z.p.length/\ z.p.length<=8:=fun z hz=>by
 obtain⟨j,k,e⟩:=Qai.1 hz;have:=(h.2.2.1 j k).1;rw [e] at this;exact⟨this.1.1,this.1.2.1⟩
theorem PtO.pm (hp:PtO S P):∀z∈P,1<=z.p.length/\ z.p.length<=8:=fun z hz=>⟨(hp.ok z hz).1.1,(hp.ok z hz).1.2.1⟩
theorem QkW (h:QaT S.R S.F S.T S.n S.l)(hp:PtO S P)(j k:Nat):∀i,i<(cNL g S.l P j k).length ->1<=(gL (cNL g S.l P j k) i).p.length/\ (gL (cNL g S.l P j k) i).p.length<=8:=Qk7 fun z m=>by
 rcases QkV m with m|m
 ·exact QnK h z m
 ·exact hp.pm z m
theorem QkQ (hp:PtO S P)(k:Nat):∀i,i<(cDL P k).length ->1<=(gL (cDL P k) i).p.length/\ (gL (cDL P k) i).p.length<=8:=Qk7 fun z hz=>hp.pm z (QkP hz)
end
theorem QmS{lo g:Nat}{ra:Option Addr}{rc:Nat}{u:List Rn}{P Q:Nat ->Nat}(h:LC w lo (.slice (some ⟨g,0,none⟩) l.length c) l P Q)(hf:FR w lo (.slice ra u.length rc) u):SNc w lo (some ⟨g,0,none⟩) c ra (mkS l u):=⟨fun w' h1 h2=>by
 have k:=h.move h1 h2;have j:FR w' lo (.slice ra u.length rc) u:=Qa6 hf (fun q hq=>h2 q (World.ownsRow.lt hf q hq).1 (World.ownsRow.lt hf q hq).2);obtain⟨a,c',e,s,_,_⟩:=j.fs;injection e with e1 e2 e3;subst e1;exact⟨k.lcap rfl,s.rseg⟩,h.cp rfl⟩
structure CS (w wr:World)(t1 t2:Nat)(va0 va1:Value)(gD cD:Nat)(DL:List Lf)(DP DQ:Nat ->Nat)(vr1:Value)(DU:List Rn)(gN cN:Nat)(NL:List Lf)(NP NQ:Nat ->Nat)(vr2:Value)(NU:List Rn):Prop where
 low:Bl w wr
 a:Bx2 wr w.heap.size va0 va1
 r1:Bx2 wr (w.heap.size+1) (.slice none 0 0) (.slice none 0 0)
 r2:Bx2 wr (w.heap.size+1+1) (.slice none 0 0) (.slice none 0 0)
 d:Bx2 wr t1 (.slice (some ⟨gD,0,none⟩) DL.length cD) vr1
 n:Bx2 wr t2 (.slice (some ⟨gN,0,none⟩) NL.length cN) vr2
 ld:LC wr (w.heap.size+3) (.slice (some ⟨gD,0,none⟩) DL.length cD) DL DP DQ
 ln:LC wr (w.heap.size+3) (.slice (some ⟨gN,0,none⟩) NL.length cN) NL NP NQ
 fd:FR wr (w.heap.size+3) vr1 DU
 fn:FR wr (w.heap.size+3) vr2 NU
 h1:w.heap.size+3<=t1
 h2:w.heap.size+3<=t2
 h12:t1≠t2
 sd:gD≠t1/\ gD≠t2/\ gD≠gN
 sn:gN≠t1/\ gN≠t2
 s1:∀b,vr1.ownBlock=some b ->b≠t1/\ b≠t2/\ b≠gN
 s2:∀b,vr2.ownBlock=some b ->b≠t1/\ b≠t2/\ b≠gN
 pd:∀i,i<DL.length ->DP i≠t1/\ DP i≠t2
 pn:∀i,i<NL.length ->NP i≠t1/\ NP i≠t2
section
variable {w wr w1 : World} {t1 t2 : Nat} {va0 va1 : Value} {gD cD : Nat} {DL : List Lf} {DP DQ : Nat -> Nat} {vr1 : Value} {DU : List Rn} {gN cN : Nat} {NL : List Lf} {NP NQ : Nat -> Nat} {vr2 : Value} {NU : List Rn}
theorem CS.bw (h:CS w wr t1 t2 va0 va1 gD cD DL DP DQ vr1 DU gN cN NL NP NQ vr2 NU)(hb:Bl wr w1):CS w w1 t1 t2 va0 va1 gD cD DL DP DQ vr1 DU gN cN NL NP NQ vr2 NU:=
 ⟨h.low.trans (hb.mono h.low.size),h.a.bw hb h.a.lt,h.r1.bw hb h.r1.lt,h.r2.bw hb h.r2.lt,h.d.bw hb h.d.lt,h.n.bw hb h.n.lt,h.ld.bw hb,h.ln.bw hb,h.fd.bw hb,h.fn.bw hb,h.h1,h.h2,h.h12,h.sd,h.sn,h.s1,h.s2,h.pd,h.pn⟩
theorem Qbt {a b:Nat}{n c:Nat}(h:a≠b):(Value.slice (some ⟨a,0,none⟩) n c).ownBlock≠some b:=fun e=>h (by simpa [Value.ownBlock] using e)
theorem CS.setD1 {v:Value}{U:List Rn}(h:CS w wr t1 t2 va0 va1 gD cD DL DP DQ vr1 DU gN cN NL NP NQ vr2 NU)(hb:Bl wr w1)(hf:FR w1 wr.heap.size v U):CS w (w1.setCell ⟨t1,1,none⟩ v) t1 t2 va0 va1 gD cD DL DP DQ v U gN cN NL NP NQ vr2 NU:=by
 have k:=h.bw hb;have m:=h.d.lt;have q:=h.n.lt;have r:=(h.ln.row.lt gN rfl).2;have u:=h.h1;have j:∀b,v.ownBlock=some b ->wr.heap.size<=b:=fun b e=>(World.ownsRow.lt hf b e).1;refine⟨k.low.setCell (by show w.heap.size<=t1;omega) _,k.a.setAt _ _ (by show t1≠w.heap.size;omega),k.r1.setAt _ _ (by show t1≠w.heap.size+1;omega),k.r2.setAt _ _ (by show t1≠w.heap.size+1+1;omega),k.d.set1 _,k.n.setAt _ _ h.h12,k.ld.set _ _ (Qbt h.sd.1) (fun i hi=>(h.pd i hi).1),k.ln.set _ _ (Qbt h.sn.1) (fun i hi=>(h.pn i hi).1),(hf.weak (by omega)).setFar _ _ (fun e=>by have:=j _ e;have:wr.heap.size<=t1:=this;omega),k.fn.setFar _ _ (fun e=>(h.s2 _ e).1 rfl),h.h1,h.h2,h.h12,h.sd,h.sn,fun b e=> ?_,h.s2,h.pd,h.pn⟩;have:=j b e;exact⟨by omega,by omega,by omega⟩
theorem CS.setN1 {v:Value}{U:List Rn}(h:CS w wr t1 t2 va0 va1 gD cD DL DP DQ vr1 DU gN cN NL NP NQ vr2 NU)(hb:Bl wr w1)(hf:FR w1 wr.heap.size v U):CS w (w1.setCell ⟨t2,1,none⟩ v) t1 t2 va0 va1 gD cD DL DP DQ vr1 DU gN cN NL NP NQ v U:=by
 have k:=h.bw hb;have m:=h.d.lt;have q:=h.n.lt;have r:=(h.ln.row.lt gN rfl).2;have u:=h.h2;have j:∀b,v.ownBlock=some b ->wr.heap.size<=b:=fun b e=>(World.ownsRow.lt hf b e).1;refine⟨k.low.setCell (by show w.heap.size<=t2;omega) _,k.a.setAt _ _ (by show t2≠w.heap.size;omega),k.r1.setAt _ _ (by show t2≠w.heap.size+1;omega),k.r2.setAt _ _ (by show t2≠w.heap.size+1+1;omega),k.d.setAt _ _ (Ne.symm h.h12),k.n.set1 _,k.ld.set _ _ (Qbt h.sd.2.1) (fun i hi=>(h.pd i hi).2),k.ln.set _ _ (Qbt h.sn.2) (fun i hi=>(h.pn i hi).2),k.fd.setFar _ _ (fun e=>(h.s1 _ e).2.1 rfl),(hf.weak (by omega)).setFar _ _ (fun e=>by have:=j _ e;have:wr.heap.size<=t2:=this;omega),h.h1,h.h2,h.h12,h.sd,h.sn,h.s1,fun b e=> ?_,h.pd,h.pn⟩;have:=j b e;exact⟨by omega,by omega,by omega⟩
theorem Qee {g n c:Nat}{l:List Lf}{P Q:Nat ->Nat}{lo t:Nat}{n0 c0:Nat}{a0:Option Addr}{u:Value}(h:LC w lo (.slice (some ⟨g,0,none⟩) n c) l P Q)(hp:∀i,i<l.length ->1<=(gL l i).p.length)(hb:Bx2 w t (.slice a0 n0 c0) u):∀i,i<l.length ->P i≠t:=fun i hi e=>by
 have j:=(h.pt i hi).2.2.2.1.cell (i:=0) (by have:=hp i hi;omega);rw [e,hb.c0] at j;cases j
theorem CS.setD0 {g2 c2 n2:Nat}{l2:List Lf}{P2 Q2:Nat ->Nat}(h:CS w wr t1 t2 va0 va1 gD cD DL DP DQ vr1 DU gN cN NL NP NQ vr2 NU)(hb:Bl wr w1)(hl:LC w1 (w.heap.size+3) (.slice (some ⟨g2,0,none⟩) n2 c2) l2 P2 Q2)(hn:n2=l2.length)(hg:wr.heap.size<=g2)(hp:∀i,i<l2.length ->1<=(gL l2 i).p.length):CS w (w1.setCell ⟨t1,0,none⟩ (.slice (some ⟨g2,0,none⟩) n2 c2)) t1 t2 va0 va1 g2 c2 l2 P2 Q2 vr1 DU gN cN NL NP NQ vr2 NU:=by
 subst hn;have k:=h.bw hb;have q:=h.d.lt;have r:=h.n.lt;have v:=(h.ln.row.lt gN rfl).2;have u:=h.h1;have j:=Qee hl hp k.d;have m:=Qee hl hp k.n;exact⟨k.low.setCell (by show w.heap.size<=t1;omega) _,k.a.setAt _ _ (by show t1≠w.heap.size;omega),k.r1.setAt _ _ (by show t1≠w.heap.size+1;omega),k.r2.setAt _ _ (by show t1≠w.heap.size+1+1;omega),k.d.set0 _,k.n.setAt _ _ h.h12,hl.set _ _ (Qbt (show g2≠t1 by omega)) j,k.ln.set _ _ (Qbt h.sn.1) (fun i hi=>(h.pn i hi).1),k.fd.setFar _ _ (fun e=>(h.s1 _ e).1 rfl),k.fn.setFar _ _ (fun e=>(h.s2 _ e).1 rfl),h.h1,h.h2,h.h12,⟨by omega,by omega,by omega⟩,h.sn,h.s1,h.s2,fun i hi=>⟨j i hi,m i hi⟩,h.pn⟩
theorem CS.setN0 {g2 c2 n2:Nat}{l2:List Lf}{P2 Q2:Nat ->Nat}(h:CS w wr t1 t2 va0 va1 gD cD DL DP DQ vr1 DU gN cN NL NP NQ vr2 NU)(hb:Bl wr w1)(hl:LC w1 (w.heap.size+3) (.slice (some ⟨g2,0,none⟩) n2 c2) l2 P2 Q2)(hn:n2=l2.length)(hg:wr.heap.size<=g2)(hp:∀i,i<l2.length ->1<=(gL l2 i).p.length):CS w (w1.setCell ⟨t2,0,none⟩ (.slice (some ⟨g2,0,none⟩) n2 c2)) t1 t2 va0 va1 gD cD DL DP DQ vr1 DU g2 c2 l2 P2 Q2 vr2 NU:=by
 subst hn;have k:=h.bw hb;have q:=h.d.lt;have r:=h.n.lt;have v:=(h.ld.row.lt gD rfl).2;have u:=h.h2;have m:=Qee hl hp k.d;have j:=Qee hl hp k.n;refine⟨k.low.setCell (by show w.heap.size<=t2;omega) _,k.a.setAt _ _ (by show t2≠w.heap.size;omega),k.r1.setAt _ _ (by show t2≠w.heap.size+1;omega),k.r2.setAt _ _ (by show t2≠w.heap.size+1+1;omega),k.d.setAt _ _ (Ne.symm h.h12),k.n.set0 _,k.ld.set _ _ (Qbt h.sd.2.1) (fun i hi=>(h.pd i hi).2),hl.set _ _ (Qbt (show g2≠t2 by omega)) j,k.fd.setFar _ _ (fun e=>(h.s1 _ e).2.1 rfl),k.fn.setFar _ _ (fun e=>(h.s2 _ e).2.1 rfl),h.h1,h.h2,h.h12,⟨h.sd.1,h.sd.2.1,by omega⟩,⟨by omega,by omega⟩,fun b e=> ?_,fun b e=> ?_,h.pd,fun i hi=>⟨m i hi,j i hi⟩⟩
 ·have:=(World.ownsRow.lt h.fd b e).2;exact⟨(h.s1 b e).1,(h.s1 b e).2.1,by omega⟩
 ·have:=(World.ownsRow.lt h.fn b e).2;exact⟨(h.s2 b e).1,(h.s2 b e).2.1,by omega⟩
theorem CS.appN {y:Lf}{p pc:Nat}(h:CS w wr t1 t2 va0 va1 gD cD [] DP DQ vr1 DU gN cN NL NP NQ vr2 NU)(hb:Bl wr w1)(hk:NL.length<=1048576)(hy:1<=y.p.length)(hp:∀i,i<NL.length ->1<=(gL NL i).p.length)(hp1:wr.heap.size<=p)(hp2:p<w1.heap.size)(hw:Wr w1 p 9 y.p.length (fun t=> .string (gS y.p t)))(hpc:y.p.length<=pc/\ pc<=9223372036854775807):
  ∃m s u,(Builtin.append_ #[35,35] 35 #[.slice (some ⟨gN,0,none⟩) NL.length cN,.slice (some ⟨w1.heap.size,0,none⟩) 1 1]).run Tryz.prog (w1.alloc (.cells #[.slice (some ⟨p,0,none⟩) y.p.length pc,.bool y.fl,.int .i64 y.r,.int .i64 y.q,.string y.v] 106))=.ok (.slice (some ⟨m,0,none⟩) (NL.length+1) s) u/\ Bl w u/\ Bx2 u w.heap.size va0 va1/\ Bx2 u t2 (.slice (some ⟨gN,0,none⟩) NL.length cN) vr2/\
   ∃P' Q',CS w (u.setCell ⟨t2,0,none⟩ (.slice (some ⟨m,0,none⟩) (NL.length+1) s)) t1 t2 va0 va1 gD cD [] DP DQ vr1 DU m s (NL++[y]) P' Q' vr2 NU:=by
 have k:=h.bw hb;have R:=h.low.size;have S:=hb.size;have T:=h.d.lt;have W:=h.n.lt;have l3:=h.a.lt;have l4:=h.r1.lt;have l5:=h.r2.lt;have l6:=h.ln.row.lt gN rfl;have l7:=h.ld.row.lt gD rfl;have V:=h.h1;have Y:=h.h2;obtain⟨m,s,u,X,A,z⟩:=h.ln.app hb (by omega) hk y p pc (by omega) hp2 (fun e=>by simp [Value.ownBlock] at e;omega) hw hpc;have O:m=gN \/w1.heap.size<=m:=by
  rcases z.l with e|⟨b,e,F⟩
  ·exact .inl (by simpa [Value.ownBlock] using e)
  ·have D:m=b:=by simpa [Value.ownBlock] using e
   exact .inr (by omega)
 have P:=(A.row.lt m rfl).2;have row:∀b,(Value.slice (some ⟨gN,0,none⟩) NL.length cN).ownBlock=some b ->b=gN:=fun b e=>by
  have:gN=b:=by simpa [Value.ownBlock] using e
  exact this.symm
 have o:∀{b:Nat} {u0 u1:Value},Bx2 w1 b u0 u1 ->b≠gN ->Bx2 u b u0 u1:=fun hB hne=>hB.gr z.g (fun b e=>by rw [row b e];exact fun j=>hne j.symm);have Q:=o k.a (by omega);have L:=o k.r1 (by omega);have N:=o k.r2 (by omega);have U:=o k.d (fun e=>h.sn.1 e.symm);have M:=o k.n (fun e=>h.sn.2 e.symm);have I:FR u (w.heap.size+3) vr1 DU:=k.fd.gr z.g (fun b e j=>(h.s1 b e).2.2 (row b j.symm));have J:FR u (w.heap.size+3) vr2 NU:=k.fn.gr z.g (fun b e j=>(h.s2 b e).2.2 (row b j.symm));have K:LC u (w.heap.size+3) (.slice (some ⟨gD,0,none⟩) ([]:List Lf).length cD) [] DP DQ:=⟨Qa6 k.ld.row (fun b e=>by
  have e:gD=b:=by simpa [Value.ownBlock] using e
  subst e;exact z.g.block gD (by omega) (fun j=>h.sd.2.2 (row gD j.symm))),fun i hi=>by simp at hi⟩
 have G:Bl w u:=k.low.grown z.g k.low.size (fun b e=>by rw [row b e];omega);have Z:∀i,i<(NL++[y]).length ->1<=(gL (NL++[y]) i).p.length:=fun i hi=>by
  by_cases e:i=NL.length
  ·rw [e,Qij];exact hy
  ·have hi':i<NL.length:=by simp at hi;omega
   rw [Qik NL y hi'];exact hp i hi'
 have C:=Qee A Z U;have H:=Qee A Z M;have E:m≠t1/\ m≠t2/\ gD≠m:=by
  rcases O with e|e
  ·rw [e];exact⟨h.sn.1,h.sn.2,h.sd.2.2⟩
  ·exact⟨by omega,by omega,by omega⟩
 have B:NL.length+1=(NL++[y]).length:=by simp
 refine⟨m,s,u,X,G,Q,M,(fun i=>if i=NL.length then p else NP i),(fun i=>if i=NL.length then pc else NQ i),?_⟩;rw [B] at A ⊢;refine⟨G.setCell (by show w.heap.size<=t2;omega) _,Q.setAt _ _ (by show t2≠w.heap.size;omega),L.setAt _ _ (by show t2≠w.heap.size+1;omega),N.setAt _ _ (by show t2≠w.heap.size+1+1;omega),U.setAt _ _ (Ne.symm h.h12),M.set0 _,K.set _ _ (Qbt h.sd.2.1) (fun i hi=>by simp at hi),A.set _ _ (Qbt E.2.1) H,I.setFar _ _ (fun e=>(h.s1 _ e).2.1 rfl),J.setFar _ _ (fun e=>(h.s2 _ e).2.1 rfl),h.h1,h.h2,h.h12,⟨h.sd.1,h.sd.2.1,E.2.2⟩,⟨E.1,E.2.1⟩,fun b e=>⟨(h.s1 b e).1,(h.s1 b e).2.1,?_⟩,fun b e=>⟨(h.s2 b e).1,(h.s2 b e).2.1,?_⟩,fun i hi=>by simp at hi,fun i hi=>⟨C i hi,H i hi⟩⟩
 ·have:=(World.ownsRow.lt h.fd b e).2;rcases O with j|j
  ·rw [j];exact(h.s1 b e).2.2
  ·omega
 ·have:=(World.ownsRow.lt h.fn b e).2;rcases O with j|j
  ·rw [j];exact(h.s2 b e).2.2
  ·omega
end
theorem Qoi {G T:Prop}(h:Hid T ->G)(k:T):G:=h k
theorem Qd4 (gn:Lf ->Prop)(P:List Lf)(a:Option Addr)(c:Nat)(xa:Option Addr)(d gg gc:Nat)(pa:Option Addr)(ppc:Nat)(S:Sx)(w:World)(hs:QaT S.R S.F S.T S.n S.l)(hP:PtO S P)(h1:QcF w a S.l)(h3:Qa7 w xa S.n S.R S.F S.T)(hgg:gg<w.heap.size)(hgo:∀i,i<S.l.length ->w.cell? ⟨gg,i,none⟩=some (.bool (yes (gn (gL S.l i)))))(h2:QcF w pa P):
  Cl 64 #[.agg #[.slice a S.l.length c,.slice xa S.n d],.slice (some ⟨gg,0,none⟩) S.l.length gc,.slice pa P.length ppc] w fun e w'=>∃a m x t a' m' x' t',e=.returned (.tuple #[.agg #[.slice a (chX S (dlS gn S.l P)).l.length m,.slice x (chX S (dlS gn S.l P)).n t],.agg #[.slice a' (chY S (dlS gn S.l P)).l.length m',.slice x' (chY S (dlS gn S.l P)).n t'],.int .i64 (chC S (dlS gn S.l P))])/\ SNc w' w.heap.size a m x (chX S (dlS gn S.l P))/\ SNc w' w.heap.size a' m' x' (chY S (dlS gn S.l P))/\ Bl w w':=by
 obtain⟨s,Gu⟩:=zE (((w.alloc (.cells #[.slice a S.l.length c,.slice xa S.n d] 40)).alloc (.cells #[.slice none 0 0,.slice none 0 0] 40)).alloc (.cells #[.slice none 0 0,.slice none 0 0] 40));obtain⟨W,hW⟩:=zE ((((s.alloc (.cells #[] 106)).alloc (.cells #[] 124)).alloc (.cells #[.slice (some ⟨s.heap.size,0,none⟩) 0 0,.slice (some ⟨s.heap.size+1,0,none⟩) 0 0] 40)).alloc (.cells #[] 106));have zA:s.heap.size=w.heap.size+1+1+1:=by rw [<- Gu];simp
 have bA:Bl w s:=by rw [<- Gu];exact(Qae _ _ _).alloc (by simp;omega) _
 have al:∀(v:World) (o:Obj),Bl v (v.alloc o):=fun v o=>zO _ _;have Kk:Bl s W:=by rw [<- hW];exact(Qaa (Qaa (Qaa (al _ _) (al _ _)) (al _ _)) (al _ _))
 have b0:Bl w W:=Qaa bA Kk;have zW:W.heap.size=w.heap.size+7:=by rw [<- hW];simp;omega
 have A0:Bx2 W w.heap.size (.slice a S.l.length c) (.slice xa S.n d):=by
  have:Bx2 s w.heap.size (.slice a S.l.length c) (.slice xa S.n d):=by rw [<- Gu];exact((Bx2.made w _ _ _).allocs _).allocs _
  exact this.bw Kk this.lt
 have J2:Bx2 W (w.heap.size+1) (.slice none 0 0) (.slice none 0 0):=by
  have:Bx2 s (w.heap.size+1) (.slice none 0 0) (.slice none 0 0):=by
   rw [<- Gu];have:=Bx2.made (w.alloc (.cells #[.slice a S.l.length c,.slice xa S.n d] 40)) (.slice none 0 0) (.slice none 0 0) 40;exact(by simpa using this:Bx2 _ (w.heap.size+1) _ _).allocs _
  exact this.bw Kk this.lt
 have J3:Bx2 W (w.heap.size+1+1) (.slice none 0 0) (.slice none 0 0):=by
  have:Bx2 s (w.heap.size+1+1) (.slice none 0 0) (.slice none 0 0):=by
   rw [<- Gu];simpa using Bx2.made ((w.alloc (.cells #[.slice a S.l.length c,.slice xa S.n d] 40)).alloc (.cells #[.slice none 0 0,.slice none 0 0] 40)) (.slice none 0 0) (.slice none 0 0) 40
  exact this.bw Kk this.lt
 have J0:LC W (w.heap.size+3) (.slice (some ⟨s.heap.size,0,none⟩) 0 0) [] (fun _=>0) (fun _=>0):=by
  refine⟨?_,fun i hi=>by simp at hi⟩;have q:=World.ownsRow_lit (base:=w.heap.size+3) (e:=106) (size:=5) s #[] 0 (by omega) (by unfold maxLen;omega) rfl;have q3:=((World.ownsRow.alloc q (.cells #[] 124)).alloc (.cells #[.slice (some ⟨s.heap.size,0,none⟩) 0 0,.slice (some ⟨s.heap.size+1,0,none⟩) 0 0] 40)).alloc (.cells #[] 106);rw [hW] at q3;exact q3
 have Js:FR W (w.heap.size+3) (.slice (some ⟨s.heap.size+1,0,none⟩) 0 0) []:=by
  have q:=World.ownsRow_lit (base:=w.heap.size+3) (e:=124) (size:=3) (s.alloc (.cells #[] 106)) #[] 0 (by simp;omega) (by unfold maxLen;omega) rfl;have zz:(s.alloc (.cells #[] 106)).heap.size=s.heap.size+1:=by simp
  rw [zz] at q;have q3:=(World.ownsRow.alloc q (.cells #[.slice (some ⟨s.heap.size,0,none⟩) 0 0,.slice (some ⟨s.heap.size+1,0,none⟩) 0 0] 40)).alloc (.cells #[] 106);rw [hW] at q3;exact q3
 have D0:Bx2 W (s.heap.size+1+1) (.slice (some ⟨s.heap.size,0,none⟩) 0 0) (.slice (some ⟨s.heap.size+1,0,none⟩) 0 0):=by
  have q:=Bx2.made ((s.alloc (.cells #[] 106)).alloc (.cells #[] 124)) (.slice (some ⟨s.heap.size,0,none⟩) 0 0) (.slice (some ⟨s.heap.size+1,0,none⟩) 0 0) 40;have zz:((s.alloc (.cells #[] 106)).alloc (.cells #[] 124)).heap.size=s.heap.size+1+1:=by simp
  rw [zz] at q;have q3:=q.allocs (.cells #[] 106);rw [hW] at q3;exact q3
 have J1:LC W (w.heap.size+3) (.slice (some ⟨s.heap.size+1+1+1,0,none⟩) 0 0) [] (fun _=>0) (fun _=>0):=by
  refine⟨?_,fun i hi=>by simp at hi⟩;have q:=World.ownsRow_lit (base:=w.heap.size+3) (e:=106) (size:=5) (((s.alloc (.cells #[] 106)).alloc (.cells #[] 124)).alloc (.cells #[.slice (some ⟨s.heap.size,0,none⟩) 0 0,.slice (some ⟨s.heap.size+1,0,none⟩) 0 0] 40)) #[] 0 (by simp;omega) (by unfold maxLen;omega) rfl;have zz:(((s.alloc (.cells #[] 106)).alloc (.cells #[] 124)).alloc (.cells #[.slice (some ⟨s.heap.size,0,none⟩) 0 0,.slice (some ⟨s.heap.size+1,0,none⟩) 0 0] 40)).heap.size=s.heap.size+1+1+1:=by simp
  rw [zz,hW] at q;exact q
 have Km:=Qax.1 hs.1;have HU:=hid (Qem xa S.n d S.R S.F S.T (some ⟨s.heap.size+1,0,none⟩) 0 0 (fun _=>0) (fun _=>0) (fun _=>0) W Km.2 (by omega) (h3.bw b0) (.inl rfl) Km.1 (fun i hi=>absurd hi (by omega)));have Jy:Hid (unL S.R S.F S.T S.n (fun _=>0) (fun _=>0) (fun _=>0) 0=cNR S P 0):=hid (by unfold unL cNR;simp [Qbn]);rw [Jy.out] at HU;have Lg:Hid (s.heap.size=w.heap.size+3):=hid (by omega);have H1:=hid h1;have H2:=hid h2;have K6:=hid hs;have Jk:=hid hP;have Le:Hid (∀wr,Bl w wr ->∀i,i<S.l.length ->wr.cell? ⟨gg,i,none⟩=some (.bool (yes (gn (gL S.l i))))):=hid (fun wr b i hi=>(b.cell (p:=⟨gg,i,none⟩) hgg).trans (hgo i hi));have Ke:Hid (S.l.length<=1000/\ S.n<=1000/\ P.length<=1):=hid ⟨hs.2.1,Km.2,hP.one⟩;have Jb:=hid A0;have Gr:=hid J2;have Gs:=hid J3;have Jf:=hid D0;have Kc:=hid J0;have Kb:=hid Js;have Kf:=hid J1;have Jt:=hid b0;have Jz:=hid zW;obtain⟨X,hX⟩:=zE (chX S (dlS gn S.l P));obtain⟨Y,hY⟩:=zE (chY S (dlS gn S.l P));obtain⟨CC,hC⟩:=zE (chC S (dlS gn S.l P));have Hg:=hid (And.intro hX (And.intro hY hC));rw [hX,hY,hC];have k1:=A0.c1;have k2:=D0.c1;have Ht:Hid (∀j k,Qcz (cDR gn S.l P j k)/\ (cDR gn S.l P j k).length<=1001):=hid (fun j k=>⟨Qml hs hP j k,by have:=QkS (g:=gn) (l:=S.l) (P:=P) (j:=j) (k:=k);have:=hs.2.1;have:=hP.one;omega⟩);have Gk:Hid (∀k,Qcz (cNR S P k)/\ (cNR S P k).length<=1001):=hid (fun k=>⟨Qmp hs hP k,by have:=QkY (P:=P) (k:=k) (S:=S);have:=Km.2;have:=hP.one;omega⟩);have Hm:Hid (∀j k,(cNL gn S.l P j k).length<=1001/\∀i,i<(cNL gn S.l P j k).length ->1<=(gL (cNL gn S.l P j k) i).p.length/\ (gL (cNL gn S.l P j k) i).p.length<=8):=hid (fun j k=>⟨by have:=QkU (g:=gn) (l:=S.l) (P:=P) (j:=j) (k:=k);have:=hs.2.1;have:=hP.one;omega,QkW hs hP j k⟩);have H5:Hid (∀k,(cDL P k).length<=1/\∀i,i<(cDL P k).length ->1<=(gL (cDL P k) i).p.length/\ (gL (cDL P k) i).p.length<=8):=hid (fun k=>⟨by have:=QkO (P:=P) (k:=k);have:=hP.one;omega,QkQ hP k⟩);clear A0 J2 J3 D0 J0 Js J1 b0 bA Kk al zA zW h1 h2 h3 hs hP hgo hgg Km hX hY hC Jy;go_enter Tryz.func64,Tryz.ntmps64;go_wp2_with fail;try rw [Gu]
 try rw [hW]
 clear hW Gu;refine HU.mono ?_;rintro e w1 ⟨vr,rfl,f1,b1⟩;obtain⟨ra,rc,Lt,_⟩:=f1.fs;subst Lt;obtain⟨nu,J8⟩:=zE ((cNR S P 0).length);rw [J8] at f1 ⊢;clear J8;obtain⟨w2,K8⟩:=zE (w1.alloc (.cells #[.slice (some ⟨s.heap.size+1+1+1,0,none⟩) 0 0,.slice ra nu rc] 40));have b2:Bl w1 w2:=by rw [<- K8];exact zO _ _
 have Gb:=Qaa b1 b2;have Hu:Hid (CS w w2 (s.heap.size+1+1) w1.heap.size (.slice a S.l.length c) (.slice xa S.n d) s.heap.size 0 [] (fun _=>0) (fun _=>0) (.slice (some ⟨s.heap.size+1,0,none⟩) 0 0) (cDR gn S.l P 0 0) (s.heap.size+1+1+1) 0 (cNL gn S.l P 0 0) (fun _=>0) (fun _=>0) (.slice ra nu rc) (cNR S P 0)):=hid (by
  have hz:=Jz.out;have L0:=b1.size;have Lw:=Lg.out;have e1:cDR gn S.l P 0 0=[]:=by unfold cDR goL;simp [unF]
  have e2:cNL gn S.l P 0 0=[]:=by unfold cNL stL;simp
  rw [e1,e2];refine⟨Qaa Jt Gb,Jb.bw Gb Jb.lt,Gr.bw Gb Gr.lt,Gs.bw Gb Gs.lt,Jf.bw Gb Jf.lt,?_,Kc.bw Gb,Kf.bw Gb,Kb.bw Gb,(f1.bw b2).weak (by omega),by omega,by omega,by omega,⟨by omega,by omega,by omega⟩,⟨by omega,by omega⟩,fun b e=> ?_,fun b e=> ?_,fun i hi=>by simp at hi,fun i hi=>by simp at hi⟩
  ·rw [<- K8];exact Bx2.made _ _ _ _
  ·have e:s.heap.size+1=b:=by simpa [Value.ownBlock] using e
   exact⟨by omega,by omega,by omega⟩
  ·have:=World.ownsRow.lt f1 b e;exact⟨by omega,by omega,by omega⟩)
 clear f1 b1 b2 Gb k1 k2 HU Jb Gr Gs Jf Kc Kb Kf Jt Jz;go_wp2_with fail;try rw [K8]
 clear K8;obtain⟨t2,J5⟩:=zE w1.heap.size;rw [J5] at Hu ⊢;clear J5;obtain⟨t1,J9⟩:=zE (s.heap.size+1+1);rw [J9] at Hu ⊢;clear J9;obtain⟨gD,J7⟩:=zE s.heap.size;rw [J7] at Hu;clear J7;go_loopw [11] (fun i wr=>∃(j C B:Nat) (NP NQ:Nat ->Nat) (Gj:Value),j<=S.l.length/\ i=.int .i64 j/\ Hid (CS w wr t1 t2 (.slice a S.l.length c) (.slice xa S.n d) gD 0 [] (fun _=>0) (fun _=>0) Gj (cDR gn S.l P j 0) C B (cNL gn S.l P j 0) NP NQ (.slice ra nu rc) (cNR S P 0))) (fun i _=>S.l.length - (intOf i).toNat);case atStart=>exact⟨0,_,_,_,_,_,Nat.zero_le _,rfl,Hu⟩
 case round=>
  clear Hu;obtain⟨j,C,B,NP,NQ,Gj,hj,rfl,U⟩:=hrel;have Lx:S.l.length<=1000:=Ke.1;have a0:=U.a.c0;by_cases Hr:j<S.l.length
  ·have i1:(0:Int)<=(j:Int):=Int.natCast_nonneg _;have i2:(j:Int)<(S.l.length:Int):=by omega
   obtain⟨ab,ao,rfl,G2,Kl⟩:=(H1).resolve_left (by omega);obtain⟨Lu,pc,⟨E,d0⟩,sg,c1,c2,c3,c4⟩:=Kl j Hr;have Gf:=QiE K6 j Hr;obtain⟨pb,po,rfl,G1,Gd⟩:=sg.resolve_left (by omega);have Gg:Hid (Rok (dtR (gL S.l j))):=hid (Qcp (Qbu K6) (Qci K6 _ (Qai.2 ⟨j,Hr,rfl⟩)));have K1:=hid (fun wr b=>Le.out wr b j Hr);obtain⟨y,hy⟩:=zE (gL S.l j);rw [hy] at E c1 c2 c3 c4 d0 Gd Gf Gg K1;have HY:=hid hy;obtain⟨z,H,Q,M,I⟩:=y;dsimp only at E c1 c2 c3 c4 d0 Gd Gf Gg K1;have H4:Hid (∀w',Bl w w' ->(w'.cell? ⟨ab,ao+j*5,none⟩=some (.slice (some ⟨pb,po,none⟩) z.length pc)/\ w'.cell? ⟨ab,ao+j*5+1,none⟩=some (.bool H)/\ w'.cell? ⟨ab,ao+j*5+2,none⟩=some (.int .i64 Q)/\ w'.cell? ⟨ab,ao+j*5+3,none⟩=some (.int .i64 M)/\ w'.cell? ⟨ab,ao+j*5+4,none⟩=some (.string I))):=hid (fun w' b=>⟨(b.cell (p:=⟨ab,_,none⟩) G2).trans E,(b.cell (p:=⟨ab,_,none⟩) G2).trans c1,(b.cell (p:=⟨ab,_,none⟩) G2).trans c2,(b.cell (p:=⟨ab,_,none⟩) G2).trans c3,(b.cell (p:=⟨ab,_,none⟩) G2).trans c4⟩);have Ki:Hid (∀w',Bl w w' ->pb<w'.heap.size/\∀t,t<z.length ->w'.cell? ⟨pb,po+t,none⟩=some (.string (gS z t))):=hid (fun w' b=>⟨Nat.lt_of_lt_of_le G1 b.size,fun t ht=>(b.cell (p:=⟨pb,po+t,none⟩) G1).trans (Gd t ht)⟩);have Gt:=hid Gf;obtain⟨w5,Ge⟩:=zE (wr.alloc (.cells #[.int .i64 Q,.int .i64 M] 104));have b5:Bl wr w5:=by rw [<- Ge];exact zO _ _
   have X5:Bx2 w5 wr.heap.size (.int .i64 Q) (.int .i64 M):=by rw [<- Ge];exact Bx2.made _ _ _ _
   have V:=hid (U.bw b5);have m2:=(H4 wr U.low).2.2.1;have m3:=(H4 wr U.low).2.2.2.1;have m5:=K1 w5 V.low;obtain⟨x0,x1⟩:=X5.q2;clear hy Kl sg Gd G1 G2 b5 X5 d0 Gf U K1 E c1 c2 c3 c4;cases hgj:yes (gn ⟨z,H,Q,M,I⟩) with
   | true=>
    rw [hgj] at m5;have Gw:gn (gL S.l j):=by rw [HY.out];exact Qcy.1 hgj
    have H6:Hid (ins (cDR gn S.l P j 0) (Q,M,M)=cDR gn S.l P (j+1) 0):=hid (by rw [Qmk Hr Gw,HY.out];rfl);have H7:Hid (cNL gn S.l P j 0=cNL gn S.l P (j+1) 0):=hid (Qmn Hr Gw).symm;obtain⟨fx,fc,Kt,J6,_,_⟩:=V.fd.fs;subst Kt;have Jh:=hid (QeM fx fc (cDR gn S.l P j 0) Q M M w5 (by have:=(Ht j 0).2;omega) J6 (Ht j 0).1 Gg);have d1:=V.d.c1;obtain⟨ln,Hx⟩:=zE ((cDR gn S.l P j 0).length);rw [Hx] at Jh d1;clear J6 Gw hgj;go_wp2_with fail;refine Jh.mono ?_;rintro e w6 ⟨v6,rfl,Gv,b6⟩;obtain⟨vy,vm,vc,rfl⟩:=QaK Gv;have D6:=V.d.bw b6 V.d.lt;have o1:=D6.c1;have of:=D6.f;rw [Hx] at o1;have Hw:=hid (V.setD1 b6 Gv);rw [H6.out,H7.out] at Hw;clear Gv b6 D6 Jh x0 x1 m2 m3 m5 d1 a0 Ge Hx V;go_wp2_with fail;go_roundw;case rel=>exact⟨j+1,C,B,NP,NQ,_,Hr,by go_num,Hw⟩
    case measure=>simp [intOf];omega
   | false=>
    rw [hgj] at m5;have Gw:¬gn (gL S.l j):=by rw [HY.out];intro h;rw [Qah h] at hgj;cases hgj
    have H6:Hid (cDR gn S.l P j 0=cDR gn S.l P (j+1) 0):=hid (Qmm Hr Gw).symm;have H7:Hid (cNL gn S.l P j 0++[⟨z,H,Q,M,I⟩]=cNL gn S.l P (j+1) 0):=hid (by rw [Qmo Hr Gw,HY.out]);have Hi:Hid (∀w',Bl w w' ->w'.cell? ⟨w.heap.size,0,none⟩=some (.slice (some ⟨ab,ao,none⟩) S.l.length c) ->(Bl w w'/\ w'.cell? ⟨w.heap.size,0,none⟩=some (.slice (some ⟨ab,ao,none⟩) S.l.length c)/\ w'.cell? ⟨ab,ao+j*5,none⟩=some (.slice (some ⟨pb,po,none⟩) z.length pc)/\ w'.cell? ⟨ab,ao+j*5+1,none⟩=some (.bool H)/\ w'.cell? ⟨ab,ao+j*5+2,none⟩=some (.int .i64 Q)/\ w'.cell? ⟨ab,ao+j*5+3,none⟩=some (.int .i64 M)/\ w'.cell? ⟨ab,ao+j*5+4,none⟩=some (.string I))):=hid (fun w' hB h0=>⟨hB,h0,H4 w' hB⟩);have Kd:Hid (∀w',Bl w5 w' ->Cl 60 #[.agg #[.slice (some ⟨pb,po,none⟩) z.length pc,.bool H,.int .i64 Q,.int .i64 M,.string I]] w' fun e w''=>∃q cap,e=.returned (.agg #[.slice (some ⟨q,0,none⟩) z.length cap,.bool H,.int .i64 Q,.int .i64 M,.string I])/\ Bl w' w''/\ w'.heap.size<=q/\ q<w''.heap.size/\ Wr w'' q 9 z.length (fun t=> .string (gS z t))/\ z.length<=cap/\ cap<=9223372036854775807):=hid (fun w' b=>by
     have hq:=Ki w' (Qaa V.low b);exact QcS pb po z.length pc ⟨z,H,Q,M,I⟩ w' rfl (by have:=Gt.2;omega) hq.1 hq.2)
    have Kj:Hid (∀A p pc',Bl w5 A ->w5.heap.size<=p ->p<A.heap.size ->Wr A p 9 z.length (fun t=> .string (gS z t)) ->z.length<=pc'/\ pc'<=9223372036854775807 ->_):=hid (fun A p pc' u p1 p2 hw hcap=>V.appN (y:=⟨z,H,Q,M,I⟩) (p:=p) (pc:=pc') u (by have:=(Hm j 0).1;omega) Gt.1 (fun i hi=>((Hm j 0).2 i hi).1) p1 p2 hw hcap);obtain⟨ln,Hx⟩:=zE ((cNL gn S.l P j 0).length);have H9:=hid Hx;clear Gw hgj H4 Ki;go_wp2_with fail;try rw [Ge]
    clear Ge x0 x1 m2 m3 m5 a0;refine zB Hi V.low.drew (V.a.bw zI.drew V.a.lt).c0 (fun qh=> ?_);refine tZ 0 56 ?_;refine tZ 2 58 ?_;refine tZ 3 59 ?_;refine tZ 4 60 ?_;refine tZ 5 61 ?_;refine tZ 6 62 ?_;refine Qa0 (i:=1) (j:=7) (d:=some 57) (d':=some 63) (by kernel_rfl) (by kernel_rfl) (by kernel_rfl) ?_ ?_
    ·
     have Z:=(V.n.bw zI.drew V.n.lt).c0;rw [Hx] at Z;intro o L G0 K r;simp only [gZa,gZb,gZc,gZd] at L;subst L;go_simp;refine r.out _ _ (Hi _ V.low.drew (V.a.bw zI.drew V.a.lt).c0) (fun qh=> ?_);clear r K;try simp only [zP]
     clear Z;refine cZ 7 ?_;intro K r;go_simp;refine(Kd _ zI.drew).mono ?_;rintro e A ⟨p7,Ku,rfl,u,G7,G8,Hk,G3⟩;have O:Bl w5 A:=⟨u.os,u.tape,u.output,u.size,u.block⟩;have L1:=V.bw O;have L2:=L1.bw (zO A (.cells #[.slice (some ⟨p7,0,none⟩) z.length Ku,.bool H,.int .i64 Q,.int .i64 M,.string I] 106));obtain⟨q8,Gc,w8,Hf,l8,A8,G,P8,Q8,h8⟩:=Kj A p7 Ku O G7 G8 Hk G3;have Gl:=hid h8;refine r.out _ _ (Hi _ L1.low L1.a.c0) (fun qh=> ?_);clear r K;try simp only [zP]
     refine cZ 8 ?_;intro K r;go_simp;refine r.out _ _ (Hi _ L2.low L2.a.c0) (fun qh=> ?_);clear r K;try simp only [zP]
     rw [H9.out] at Hf;refine cZ 9 ?_;intro K r;refine QaP _ _ _ _ rfl Hf (by rfl) (by rfl) rfl ?_;refine r.out _ _ (Hi _ l8 A8.c0) (fun qh=> ?_);clear r K;try simp only [zP]
     refine tZ 10 66 ?_;have Z:=G.c0;have tf:=G.f;rw [H9.out] at Z;refine cZ 11 ?_;intro K r;go_simp;have h9:=Gl.out;rw [H9.out] at h9;refine r.out _ _ (Hi _ h9.low h9.a.c0) (fun qh=> ?_);clear r K;try simp only [zP]
     refine zD ?_;have Gh:=hid h9;rw [H6.out,H7.out] at Gh;clear qh u O L1 L2 Hf l8 A8 G h8 h9 Z tf Hk G3 G7 G8 Kj Kd Hi Gl V Hx;go_wp2_with fail;go_roundw;case rel=>exact⟨j+1,q8,Gc,P8,Q8,Gj,Hr,by go_num,Gh⟩
     case measure=>simp [intOf];omega
    ·
     intro o L G0 K r;simp only [gZa,gZb,gZc,gZd] at L;subst L;go_simp;refine(Kd _ zI.drew).mono ?_;rintro e A ⟨p7,Ku,rfl,u,G7,G8,Hk,G3⟩;have O:Bl w5 A:=⟨u.os,u.tape,u.output,u.size,u.block⟩;have L1:=V.bw O;have L2:=L1.bw (zO A (.cells #[.slice (some ⟨p7,0,none⟩) z.length Ku,.bool H,.int .i64 Q,.int .i64 M,.string I] 106));obtain⟨q8,Gc,w8,Hf,l8,A8,G,P8,Q8,h8⟩:=Kj A p7 Ku O G7 G8 Hk G3;have Gl:=hid h8;refine r.out _ _ (Hi _ L1.low L1.a.c0) (fun qh=> ?_);clear r K;try simp only [zP]
     refine Qa0 (i:=1) (j:=8) (d:=some 57) (d':=some 64) (by kernel_rfl) (by kernel_rfl) (by kernel_rfl) ?_ ?_
     ·
      have Z:=L1.n.c0;rw [Hx] at Z;intro o L G0 K r;simp only [gZa,gZb,gZc,gZd] at L;subst L;go_simp;refine r.out _ _ (Hi _ L1.low L1.a.c0) (fun qh=> ?_);clear r K;try simp only [zP]
      clear Z;refine cZ 8 ?_;intro K r;go_simp;refine r.out _ _ (Hi _ L2.low L2.a.c0) (fun qh=> ?_);clear r K;try simp only [zP]
      rw [H9.out] at Hf;refine cZ 9 ?_;intro K r;refine QaP _ _ _ _ rfl Hf (by rfl) (by rfl) rfl ?_;refine r.out _ _ (Hi _ l8 A8.c0) (fun qh=> ?_);clear r K;try simp only [zP]
      refine tZ 10 66 ?_;have Z:=G.c0;have tf:=G.f;rw [H9.out] at Z;refine cZ 11 ?_;intro K r;go_simp;have h9:=Gl.out;rw [H9.out] at h9;refine r.out _ _ (Hi _ h9.low h9.a.c0) (fun qh=> ?_);clear r K;try simp only [zP]
      refine zD ?_;have Gh:=hid h9;rw [H6.out,H7.out] at Gh;clear qh u O L1 L2 Hf l8 A8 G h8 h9 Z tf Hk G3 G7 G8 Kj Kd Hi Gl V Hx;go_wp2_with fail;go_roundw;case rel=>exact⟨j+1,q8,Gc,P8,Q8,Gj,Hr,by go_num,Gh⟩
      case measure=>simp [intOf];omega
     ·
      intro o L G0 K r;simp only [gZa,gZb,gZc,gZd] at L;subst L;go_simp;refine r.out _ _ (Hi _ L2.low L2.a.c0) (fun qh=> ?_);clear r K;try simp only [zP]
      have Z:=L2.n.c0;rw [Hx] at Z;refine cZ 1 ?_;intro K r;go_simp;refine r.out _ _ (Hi _ L2.low L2.a.c0) (fun qh=> ?_);clear r K;try simp only [zP]
      clear Z;rw [H9.out] at Hf;refine cZ 9 ?_;intro K r;refine QaP _ _ _ _ rfl Hf (by rfl) (by rfl) rfl ?_;refine r.out _ _ (Hi _ l8 A8.c0) (fun qh=> ?_);clear r K;try simp only [zP]
      refine tZ 10 66 ?_;have Z:=G.c0;have tf:=G.f;rw [H9.out] at Z;refine cZ 11 ?_;intro K r;go_simp;have h9:=Gl.out;rw [H9.out] at h9;refine r.out _ _ (Hi _ h9.low h9.a.c0) (fun qh=> ?_);clear r K;try simp only [zP]
      refine zD ?_;have Gh:=hid h9;rw [H6.out,H7.out] at Gh;clear qh u O L1 L2 Hf l8 A8 G h8 h9 Z tf Hk G3 G7 G8 Kj Kd Hi Gl V Hx;go_wp2_with fail;go_roundw;case rel=>exact⟨j+1,q8,Gc,P8,Q8,Gj,Hr,by go_num,Gh⟩
      case measure=>simp [intOf];omega
  ·obtain rfl:j=S.l.length:=by omega
   go_wp2_with fail;go_loopw [13] (fun i wr=>∃(k gD cD C B:Nat) (DP DQ NP NQ:Nat ->Nat) (Gj Lc:Value),k<=P.length/\ i=.int .i64 k/\ Hid (CS w wr t1 t2 (.slice a S.l.length c) (.slice xa S.n d) gD cD (cDL P k) DP DQ Gj (cDR gn S.l P S.l.length k) C B (cNL gn S.l P S.l.length k) NP NQ Lc (cNR S P k))) (fun i _=>P.length - (intOf i).toNat);case atStart=>exact⟨0,_,_,_,_,_,_,_,_,_,_,Nat.zero_le _,rfl,U⟩
   case round=>
    clear U a0;obtain⟨k,gD,cD,C,B,DP,DQ,NP,NQ,Gj,Lc,hk,rfl,U⟩:=hrel;have Ly:P.length<=1:=Ke.2.2;by_cases Hl:k<P.length
    ·skip;have i1:(0:Int)<=(k:Int):=Int.natCast_nonneg _;have i2:(k:Int)<(P.length:Int):=by omega
     obtain⟨D,qo,rfl,G5,Kl⟩:=(H2).resolve_left (by omega);obtain⟨Lu,pc,⟨E,d0⟩,sg,c1,c2,c3,c4⟩:=Kl k Hl;have Gz:gL P k∈P:=Qai.2 ⟨k,Hl,rfl⟩;have Gf:=Jk.pm _ Gz;obtain⟨pb,po,rfl,G1,Gd⟩:=sg.resolve_left (by omega);have Gg:Hid (Rok (dtR (gL P k))):=hid (Jk.dot _ Gz);have H6:Hid (ins (cDR gn S.l P S.l.length k) (dtR (gL P k))=cDR gn S.l P S.l.length (k+1)):=hid (QkT Hl).symm;have H7:Hid (ins (cNR S P k) (dtR (gL P k))=cNR S P (k+1)):=hid (QkZ Hl).symm;have Kz:Hid (Qcq (gL P k) (cDL P k)=cDL P (k+1)):=hid (QkR Hl).symm;have K0:Hid (Qcq (gL P k) (cNL gn S.l P S.l.length k)=cNL gn S.l P S.l.length (k+1)):=hid (QkX Hl).symm;obtain⟨y,hy⟩:=zE (gL P k);rw [hy] at E c1 c2 c3 c4 d0 Gd Gf Gg H6 H7 Kz K0;obtain⟨z,H,Q,M,I⟩:=y;dsimp only [dtR] at E c1 c2 c3 c4 d0 Gd Gf Gg H6 H7 Kz K0;have H4:Hid (∀w',Bl w w' ->(w'.cell? ⟨D,qo+k*5,none⟩=some (.slice (some ⟨pb,po,none⟩) z.length pc)/\ w'.cell? ⟨D,qo+k*5+1,none⟩=some (.bool H)/\ w'.cell? ⟨D,qo+k*5+2,none⟩=some (.int .i64 Q)/\ w'.cell? ⟨D,qo+k*5+3,none⟩=some (.int .i64 M)/\ w'.cell? ⟨D,qo+k*5+4,none⟩=some (.string I))):=hid (fun w' b=>⟨(b.cell (p:=⟨D,_,none⟩) G5).trans E,(b.cell (p:=⟨D,_,none⟩) G5).trans c1,(b.cell (p:=⟨D,_,none⟩) G5).trans c2,(b.cell (p:=⟨D,_,none⟩) G5).trans c3,(b.cell (p:=⟨D,_,none⟩) G5).trans c4⟩);have Ki:Hid (∀w',Bl w w' ->pb<w'.heap.size/\∀t,t<z.length ->w'.cell? ⟨pb,po+t,none⟩=some (.string (gS z t))):=hid (fun w' b=>⟨Nat.lt_of_lt_of_le G1 b.size,fun t ht=>(b.cell (p:=⟨pb,po+t,none⟩) G1).trans (Gd t ht)⟩);have Gt:=hid Gf;obtain⟨w5,Ge⟩:=zE (wr.alloc (.cells #[.int .i64 Q,.int .i64 M] 104));have b5:Bl wr w5:=by rw [<- Ge];exact zO _ _
     have X5:Bx2 w5 wr.heap.size (.int .i64 Q) (.int .i64 M):=by rw [<- Ge];exact Bx2.made _ _ _ _
     have V:=hid (U.bw b5);have Jm:=hid X5;have Li:Hid (t1≠wr.heap.size/\ t2≠wr.heap.size):=hid ⟨by have:=U.d.lt;omega,by have:=U.n.lt;omega⟩;have m2:=(H4 wr U.low).2.2.1;have m3:=(H4 wr U.low).2.2.2.1;obtain⟨x0,x1⟩:=X5.q2;clear hy Kl sg Gd G1 G5 b5 X5 d0 Gf U E c1 c2 c3 c4 Gz;obtain⟨Lp,Ln,Kt,Kp,_,_⟩:=V.fd.fs;subst Kt;have Gm:=hid (QeM Lp Ln (cDR gn S.l P S.l.length k) Q M M w5 (by have:=(Ht S.l.length k).2;omega) Kp (Ht S.l.length k).1 Gg);have d1:=V.d.c1;obtain⟨L3,Gx⟩:=zE (((cDR gn S.l P S.l.length k)).length);rw [Gx] at Gm d1;clear Kp;go_wp2_with fail;refine Gm.mono ?_;rintro e w6 ⟨v6,rfl,Gv,b6⟩;obtain⟨vy,vm,vc,rfl⟩:=QaK Gv;have D6:=V.d.bw b6 V.d.lt;have o1:=D6.c1;have of:=D6.f;rw [Gx] at o1;have Hw:=hid (V.setD1 b6 Gv);rw [H6.out] at Hw;have X6:=(Jm.bw b6 Jm.lt).setAt ⟨t1,1,none⟩ (.slice vy vm vc) Li.1;obtain⟨wb,La⟩:=zE (w6.setCell ⟨t1,1,none⟩ (.slice vy vm vc));rw [La] at Hw X6;have Ll:=hid X6;clear x0 x1 m2 m3 d1 Ge Gv b6 D6 Gm Gx V Jm;obtain⟨x0,x1⟩:=X6.q2;clear X6;obtain⟨Lq,Lo,Jq,Kq,_,_⟩:=Hw.fn.fs;subst Jq;have Gn:=hid (QeM Lq Lo (cNR S P k) Q M M wb (by have:=(Gk k).2;omega) Kq (Gk k).1 Gg);have d2:=Hw.n.c1;obtain⟨L4,Gy⟩:=zE (((cNR S P k)).length);rw [Gy] at Gn d2;clear Kq;go_wp2_with fail;clear o1 of;refine Gn.mono ?_;rintro e Lv ⟨v7,rfl,Jo,u⟩;obtain⟨uy,um,uc,rfl⟩:=QaK Jo;have D7:=Hw.n.bw u Hw.n.lt;have o1:=D7.c1;have of:=D7.f;rw [Gy] at o1;have J:=hid (Hw.setN1 u Jo);rw [H7.out] at J;obtain⟨wc,Jr⟩:=zE (Lv.setCell ⟨t2,1,none⟩ (.slice uy um uc));rw [Jr] at J;clear La x0 x1 d2 Jo u D7 Gn Gy Hw Ll;have He:Hid (∀w',Bl w w' ->(Bl w w'/\ w'.cell? ⟨D,qo+k*5,none⟩=some (.slice (some ⟨pb,po,none⟩) z.length pc)/\ w'.cell? ⟨D,qo+k*5+1,none⟩=some (.bool H)/\ w'.cell? ⟨D,qo+k*5+2,none⟩=some (.int .i64 Q)/\ w'.cell? ⟨D,qo+k*5+3,none⟩=some (.int .i64 M)/\ w'.cell? ⟨D,qo+k*5+4,none⟩=some (.string I))):=hid (fun w' b=>⟨b,H4 w' b⟩);have Go:Hid (∀w',Bl wc w' ->Cl 60 #[.agg #[.slice (some ⟨pb,po,none⟩) z.length pc,.bool H,.int .i64 Q,.int .i64 M,.string I]] w' fun e w''=>∃q cap,e=.returned (.agg #[.slice (some ⟨q,0,none⟩) z.length cap,.bool H,.int .i64 Q,.int .i64 M,.string I])/\ Bl w' w''/\ w'.heap.size<=q/\ q<w''.heap.size/\ Wr w'' q 9 z.length (fun t=> .string (gS z t))/\ z.length<=cap/\ cap<=9223372036854775807):=hid (fun w' b=>by
      have hq:=Ki w' (Qaa J.low b);exact QcS pb po z.length pc ⟨z,H,Q,M,I⟩ w' rfl (by have:=Gt.2;omega) hq.1 hq.2)
     obtain⟨G6,Ho⟩:=zE ((cDL P k).length);have Gq:Hid (∀A q cap,Bl wc A ->wc.heap.size<=q ->q<A.heap.size ->Wr A q 9 z.length (fun t=> .string (gS z t)) ->(z.length<=cap/\ cap<=9223372036854775807) ->Cl 70 #[.slice (some ⟨gD,0,none⟩) G6 cD,.agg #[.slice (some ⟨q,0,none⟩) z.length cap,.bool H,.int .i64 Q,.int .i64 M,.string I]] A fun e w'=>(∃g' cap' P' Q',e=.returned (.slice (some ⟨g',0,none⟩) (G6+1) cap')/\ A.heap.size<=g'/\ LC w' (w.heap.size+3) (.slice (some ⟨g',0,none⟩) (G6+1) cap') (cDL P (k+1)) P' Q')/\ Bl A w'):=hid (fun A q cap u hq1 hq2 hw hcap=>by
      have hJ:=J.bw u;have Lr:=J.r2.lt;have Ls:=u.size;rw [<- Kz.out,<- Ho];exact Qfu gD cD (cDL P k) DP DQ A (w.heap.size+3) q cap z H Q M I hJ.ld (by omega) (by have:=(H5 k).1;omega) (fun i hi=>by have:=((H5 k).2 i hi).2;omega) (by have:=Gt.2;omega) ⟨by omega,hq2⟩ hw hcap)
     have Gp:Hid (G6+1=(cDL P (k+1)).length):=hid (by rw [<- Kz.out,Qbq,Ho]);go_wp2_with fail;try rw [Jr]
     clear Jr o1 of;apply Qoi
     ·intro Lb;refine zA He J.low.drew (fun qh=> ?_);refine tZ 0 104 ?_;refine tZ 2 106 ?_;refine tZ 3 107 ?_;refine tZ 4 108 ?_;refine tZ 5 109 ?_;refine Qa0 (i:=1) (j:=6) (d:=some 105) (d':=some 110) (by kernel_rfl) (by kernel_rfl) (by kernel_rfl) ?_ ?_
      ·
       have Z:=(J.d.bw zI.drew J.d.lt).c0;rw [Ho] at Z;intro o L G0 K r;simp only [gZa,gZb,gZc,gZd] at L;subst L;go_simp;refine r.out _ _ (He _ J.low.drew) (fun qh=> ?_);clear r K;try simp only [zP]
       clear Z;refine cZ 6 ?_;intro K r;go_simp;refine(Go _ zI.drew).mono ?_;rintro e A ⟨q7,Hh,rfl,u,Hc,Hd,Hk,Ha⟩;have O:Bl wc A:=⟨u.os,u.tape,u.output,u.size,u.block⟩;refine r.out _ _ (He _ (Qaa J.low O)) (fun qh=> ?_);clear r K;try simp only [zP]
       have H0:=hid (Gq A q7 Hh O Hc Hd Hk Ha);clear Hk Ha Hc Hd;refine cZ 7 ?_;intro K r;go_simp;refine H0.mono ?_;rintro e w8 ⟨⟨g8,c8,P8,Q8,rfl,G4,l8⟩,b8⟩;have Hj:=Qaa O b8;have Hp:=hid (J.setD0 Hj l8 Gp (by have:=O.size;omega) (fun i hi=>((H5 (k+1)).2 i hi).1));have G:=J.d.bw Hj J.d.lt;refine r.out _ _ (He _ (Qaa J.low Hj)) (fun qh=> ?_);clear r K;try simp only [zP]
       refine tZ 8 112 ?_;have o0:=G.c0;have of:=G.f 0;rw [Ho] at o0;clear G;refine cZ 9 ?_;intro K r;go_simp;clear qh;refine r.out _ _ (He _ Hp.low) (fun qh=> ?_);clear r K;try simp only [zP]
       refine zD ?_;obtain⟨wz,K9⟩:=zE (w8.setCell ⟨t1,0,none⟩ (.slice (some ⟨g8,0,none⟩) (G6+1) c8));rw [K9] at Hp ⊢;clear qh K9 u O b8 Hj l8 G4 o0 of H0;revert Hp;revert wz;revert Q8;revert P8;revert c8;revert g8;revert Hh;revert q7;exact Lb
      ·
       intro o L G0 K r;simp only [gZa,gZb,gZc,gZd] at L;subst L;go_simp;refine(Go _ zI.drew).mono ?_;rintro e A ⟨q7,Hh,rfl,u,Hc,Hd,Hk,Ha⟩;have O:Bl wc A:=⟨u.os,u.tape,u.output,u.size,u.block⟩;refine r.out _ _ (He _ (Qaa J.low O)) (fun qh=> ?_);clear r K;try simp only [zP]
       have Z:=(J.d.bw O J.d.lt).c0;rw [Ho] at Z;refine cZ 1 ?_;intro K r;go_simp;refine r.out _ _ (He _ (Qaa J.low O)) (fun qh=> ?_);clear r K;try simp only [zP]
       clear Z;have H0:=hid (Gq A q7 Hh O Hc Hd Hk Ha);clear Hk Ha Hc Hd;refine cZ 7 ?_;intro K r;go_simp;refine H0.mono ?_;rintro e w8 ⟨⟨g8,c8,P8,Q8,rfl,G4,l8⟩,b8⟩;have Hj:=Qaa O b8;have Hp:=hid (J.setD0 Hj l8 Gp (by have:=O.size;omega) (fun i hi=>((H5 (k+1)).2 i hi).1));have G:=J.d.bw Hj J.d.lt;refine r.out _ _ (He _ (Qaa J.low Hj)) (fun qh=> ?_);clear r K;try simp only [zP]
       refine tZ 8 112 ?_;have o0:=G.c0;have of:=G.f 0;rw [Ho] at o0;clear G;refine cZ 9 ?_;intro K r;go_simp;clear qh;refine r.out _ _ (He _ Hp.low) (fun qh=> ?_);clear r K;try simp only [zP]
       refine zD ?_;obtain⟨wz,K9⟩:=zE (w8.setCell ⟨t1,0,none⟩ (.slice (some ⟨g8,0,none⟩) (G6+1) c8));rw [K9] at Hp ⊢;exact Lb q7 Hh g8 c8 P8 Q8 wz Hp
     intro q3 Lm g3 c3 P3 Q3 wd N;clear J He Go Gq Ho Gp;have Hb:Hid (∀w',Bl w w' ->(Bl w w'/\ w'.cell? ⟨D,qo+k*5,none⟩=some (.slice (some ⟨pb,po,none⟩) z.length pc)/\ w'.cell? ⟨D,qo+k*5+1,none⟩=some (.bool H)/\ w'.cell? ⟨D,qo+k*5+2,none⟩=some (.int .i64 Q)/\ w'.cell? ⟨D,qo+k*5+3,none⟩=some (.int .i64 M)/\ w'.cell? ⟨D,qo+k*5+4,none⟩=some (.string I))):=hid (fun w' b=>⟨b,H4 w' b⟩);have H8:Hid (∀w',Bl wd w' ->Cl 60 #[.agg #[.slice (some ⟨pb,po,none⟩) z.length pc,.bool H,.int .i64 Q,.int .i64 M,.string I]] w' fun e w''=>∃q cap,e=.returned (.agg #[.slice (some ⟨q,0,none⟩) z.length cap,.bool H,.int .i64 Q,.int .i64 M,.string I])/\ Bl w' w''/\ w'.heap.size<=q/\ q<w''.heap.size/\ Wr w'' q 9 z.length (fun t=> .string (gS z t))/\ z.length<=cap/\ cap<=9223372036854775807):=hid (fun w' b=>by
      have hq:=Ki w' (Qaa N.low b);exact QcS pb po z.length pc ⟨z,H,Q,M,I⟩ w' rfl (by have:=Gt.2;omega) hq.1 hq.2)
     obtain⟨Ja,Hq⟩:=zE ((cNL gn S.l P S.l.length k).length);have Ga:Hid (∀A q cap,Bl wd A ->wd.heap.size<=q ->q<A.heap.size ->Wr A q 9 z.length (fun t=> .string (gS z t)) ->(z.length<=cap/\ cap<=9223372036854775807) ->Cl 70 #[.slice (some ⟨C,0,none⟩) Ja B,.agg #[.slice (some ⟨q,0,none⟩) z.length cap,.bool H,.int .i64 Q,.int .i64 M,.string I]] A fun e w'=>(∃g' cap' P' Q',e=.returned (.slice (some ⟨g',0,none⟩) (Ja+1) cap')/\ A.heap.size<=g'/\ LC w' (w.heap.size+3) (.slice (some ⟨g',0,none⟩) (Ja+1) cap') (cNL gn S.l P S.l.length (k+1)) P' Q')/\ Bl A w'):=hid (fun A q cap u hq1 hq2 hw hcap=>by
      have hJ:=N.bw u;have Lr:=N.r2.lt;have Ls:=u.size;rw [<- K0.out,<- Hq];exact Qfu C B (cNL gn S.l P S.l.length k) NP NQ A (w.heap.size+3) q cap z H Q M I hJ.ln (by omega) (by have:=(Hm S.l.length k).1;omega) (fun i hi=>by have:=((Hm S.l.length k).2 i hi).2;omega) (by have:=Gt.2;omega) ⟨by omega,hq2⟩ hw hcap)
     have Kh:Hid (Ja+1=(cNL gn S.l P S.l.length (k+1)).length):=hid (by rw [<- K0.out,Qbq,Hq]);go_wp2_with fail;refine zA Hb N.low.drew (fun qh=> ?_);refine tZ 0 113 ?_;refine tZ 2 115 ?_;refine tZ 3 116 ?_;refine tZ 4 117 ?_;refine tZ 5 118 ?_;refine Qa0 (i:=1) (j:=6) (d:=some 114) (d':=some 119) (by kernel_rfl) (by kernel_rfl) (by kernel_rfl) ?_ ?_
     ·
      have Z:=(N.n.bw zI.drew N.n.lt).c0;rw [Hq] at Z;intro o L G0 K r;simp only [gZa,gZb,gZc,gZd] at L;subst L;go_simp;refine r.out _ _ (Hb _ N.low.drew) (fun qh=> ?_);clear r K;try simp only [zP]
      clear Z;refine cZ 6 ?_;intro K r;go_simp;refine(H8 _ zI.drew).mono ?_;rintro e A ⟨q7,Hh,rfl,u,Hc,Hd,Hk,Ha⟩;have O:Bl wd A:=⟨u.os,u.tape,u.output,u.size,u.block⟩;refine r.out _ _ (Hb _ (Qaa N.low O)) (fun qh=> ?_);clear r K;try simp only [zP]
      have H0:=hid (Ga A q7 Hh O Hc Hd Hk Ha);clear Hk Ha Hc Hd;refine cZ 7 ?_;intro K r;go_simp;refine H0.mono ?_;rintro e w8 ⟨⟨g8,c8,P8,Q8,rfl,G4,l8⟩,b8⟩;have Hj:=Qaa O b8;have Hp:=hid (N.setN0 Hj l8 Kh (by have:=O.size;omega) (fun i hi=>((Hm S.l.length (k+1)).2 i hi).1));have G:=N.n.bw Hj N.n.lt;refine r.out _ _ (Hb _ (Qaa N.low Hj)) (fun qh=> ?_);clear r K;try simp only [zP]
      refine tZ 8 121 ?_;have o0:=G.c0;have of:=G.f 0;rw [Hq] at o0;clear G;refine cZ 9 ?_;intro K r;go_simp;clear qh;refine r.out _ _ (Hb _ Hp.low) (fun qh=> ?_);clear r K;try simp only [zP]
      refine zD ?_;clear qh u O b8 Hj l8 G4 o0 of H0 Ga H8 Hb;go_wp2_with fail;go_roundw;case rel=>exact⟨k+1,g3,c3,g8,c8,P3,Q3,P8,Q8,_,_,Hl,by go_num,Hp⟩
      case measure=>simp [intOf];omega
     ·
      intro o L G0 K r;simp only [gZa,gZb,gZc,gZd] at L;subst L;go_simp;refine(H8 _ zI.drew).mono ?_;rintro e A ⟨q7,Hh,rfl,u,Hc,Hd,Hk,Ha⟩;have O:Bl wd A:=⟨u.os,u.tape,u.output,u.size,u.block⟩;refine r.out _ _ (Hb _ (Qaa N.low O)) (fun qh=> ?_);clear r K;try simp only [zP]
      have Z:=(N.n.bw O N.n.lt).c0;rw [Hq] at Z;refine cZ 1 ?_;intro K r;go_simp;refine r.out _ _ (Hb _ (Qaa N.low O)) (fun qh=> ?_);clear r K;try simp only [zP]
      clear Z;have H0:=hid (Ga A q7 Hh O Hc Hd Hk Ha);clear Hk Ha Hc Hd;refine cZ 7 ?_;intro K r;go_simp;refine H0.mono ?_;rintro e w8 ⟨⟨g8,c8,P8,Q8,rfl,G4,l8⟩,b8⟩;have Hj:=Qaa O b8;have Hp:=hid (N.setN0 Hj l8 Kh (by have:=O.size;omega) (fun i hi=>((Hm S.l.length (k+1)).2 i hi).1));have G:=N.n.bw Hj N.n.lt;refine r.out _ _ (Hb _ (Qaa N.low Hj)) (fun qh=> ?_);clear r K;try simp only [zP]
      refine tZ 8 121 ?_;have o0:=G.c0;have of:=G.f 0;rw [Hq] at o0;clear G;refine cZ 9 ?_;intro K r;go_simp;clear qh;refine r.out _ _ (Hb _ Hp.low) (fun qh=> ?_);clear r K;try simp only [zP]
      refine zD ?_;clear qh u O b8 Hj l8 G4 o0 of H0 Ga H8 Hb;go_wp2_with fail;go_roundw;case rel=>exact⟨k+1,g3,c3,g8,c8,P3,Q3,P8,Q8,_,_,Hl,by go_num,Hp⟩
      case measure=>simp [intOf];omega
    ·obtain rfl:k=P.length:=by omega
     have e1:=U.ld;have e2:=U.ln;obtain⟨Hy,H3,Kt,_⟩:=U.fd.fs;subst Kt;obtain⟨Hs,Hz,Jq,_⟩:=U.fn.fs;subst Jq;have Jw:Hid (SNc wr (w.heap.size+3) (some ⟨gD,0,none⟩) cD Hy (mkS (cDL P P.length) (cDR gn S.l P S.l.length P.length))):=hid (QmS U.ld U.fd);have Jx:Hid (SNc wr (w.heap.size+3) (some ⟨C,0,none⟩) B Hs (mkS (cNL gn S.l P S.l.length P.length) (cNR S P P.length))):=hid (QmS U.ln U.fn);rw [QhP Ke.2.2,QfI] at Jw;rw [QfJ,QfK] at Jx;have Ky:Hid (dlS gn S.l P=mkS P (dlU gn S.l P)/\ jnS S (dlS gn S.l P)=mkS (nxL gn S.l P) (nxU S P)):=hid ⟨rfl,Qn4 K6 Jk⟩;have D1:=U.d;have N1:=U.n;rw [QhP Ke.2.2,QfI] at D1;rw [QfJ,QfK] at N1;obtain⟨d1,Kn⟩:=zE P.length;obtain⟨d2,Ko⟩:=zE ((dlU gn S.l P).length);obtain⟨n1,Kr⟩:=zE ((nxL gn S.l P).length);obtain⟨n2,Ks⟩:=zE ((nxU S P).length);have Kw:Hid (d1<=1/\ d2<=1001/\ n1<=1001/\ n2<=1001):=hid (by
      refine⟨by rw [<- Kn];exact Ke.2.2,?_,?_,?_⟩
      ·rw [<- Ko,<- QfI];exact(Ht _ _).2
      ·rw [<- Kr,<- QfJ];exact(Hm _ _).1
      ·rw [<- Ks,<- QfK];exact(Gk _).2)
     have G9:Hid (chF S (dlS gn S.l P)=((decide (n1<=1000) && decide (n2<=1000)) && (decide (d1<=1000) && decide (d2<=1000)))):=hid (by
      unfold chF jnF;rw [Ky.2,Ky.1,<- Kr,<- Ks,<- Kn,<- Ko];rfl)
     rw [Kn,Ko] at D1;rw [Kr,Ks] at N1;have Lh:=hid (And.intro Kn (And.intro Ko (And.intro Kr Ks)));have Jg:=hid (Qgg (some ⟨gD,0,none⟩) Hy d1 d2 cD H3 wr (by have:=Kw.out;omega) (by have:=Kw.out;omega));have Jv:=hid (fun w3=>Qgg (some ⟨C,0,none⟩) Hs n1 n2 B Hz w3 (by have:=Kw.out;omega) (by have:=Kw.out;omega));have Ju:=hid D1;have K2:=hid N1;have Kg:=hid U.low;have K4:=hid U.r1;have K5:=hid U.r2;have Lk:Hid (w.heap.size+3<=t1/\ w.heap.size+3<=t2/\ t1≠t2):=hid ⟨U.h1,U.h2,U.h12⟩;obtain⟨B1,J4⟩:=zE ((decide (d1<=1000) && decide (d2<=1000)));obtain⟨B2,Jn⟩:=zE ((decide (n1<=1000) && decide (n2<=1000)));rw [J4] at Jg G9;rw [Jn] at G9;have Ka:Hid (∀w3,Cl 40 #[.agg #[.slice (some ⟨C,0,none⟩) n1 B,.slice Hs n2 Hz]] w3 (Rt w3 (.bool B2))):=hid (fun w3=>by rw [<- Jn];exact Jv w3);obtain⟨x0,x1⟩:=D1.q2;clear J4 Jn Jv D1 N1 U e1 e2 Kn Ko Kr Ks;go_wp2_with fail;refine Jg.mono ?_;rintro e w3 ⟨rfl,b3⟩;clear x0 x1 Jg;cases B1 with
     | false=>
      have HZ:Hid (X=Sx.mt/\ Y=Sx.mt/\ CC=4):=hid (by
       have e:chF S (dlS gn S.l P)=false:=by rw [G9.out];simp
       obtain⟨z1,z2,z3⟩:=Qmt e;exact⟨Hg.1.symm.trans z1,Hg.2.1.symm.trans z2,Hg.2.2.symm.trans z3⟩)
      have Kv:=hid (Qaa Kg b3);have Hn:=hid (K4.bw b3 K4.lt);have Hv:=hid (K5.bw b3 K5.lt);clear b3;obtain⟨r0,r1,rf⟩:=Hn.p2;have Jd:=hid (Hn.set (.slice none 0 0) (.slice none 0 0));have Q3:=(Hv.setAt ⟨w.heap.size+1,0,none⟩ (.slice none 0 0) (by show w.heap.size+1≠w.heap.size+1+1;omega)).setAt ⟨w.heap.size+1,1,none⟩ (.slice none 0 0) (by show w.heap.size+1≠w.heap.size+1+1;omega);obtain⟨q0,q1,qf⟩:=Q3.p2;have Jl:=hid (Q3.set (.slice none 0 0) (.slice none 0 0));have Je:=hid ((Jd.setAt ⟨w.heap.size+1+1,0,none⟩ (.slice none 0 0) (by show w.heap.size+1+1≠w.heap.size+1;omega)).setAt ⟨w.heap.size+1+1,1,none⟩ (.slice none 0 0) (by show w.heap.size+1+1≠w.heap.size+1;omega));clear Q3;go_wp2_with fail;obtain⟨s0,s1⟩:=Je.q2;obtain⟨s2,s3⟩:=Jl.q2;refine zF (v:=.tuple #[.agg #[.slice none 0 0,.slice none 0 0],.agg #[.slice none 0 0,.slice none 0 0],.int .i64 4]) (by simp [results,Tryz.results64,go_sem,s0,s1,s2,s3]) ⟨none,0,none,0,none,0,none,0,by rw [HZ.1,HZ.2.1,HZ.2.2];rfl,?_,?_,?_⟩
      ·rw [HZ.1];exact SNc.mt _ _ _ _
      ·rw [HZ.2.1];exact SNc.mt _ _ _ _
      ·exact(((Kv.setCell (by simp) _).setCell (by simp) _).setCell (by simp;omega) _).setCell (by simp;omega) _
     | true=>
      have N3:=K2.bw b3 K2.lt;obtain⟨x0,x1⟩:=N3.q2;have Ld:=hid b3;clear b3 N3;go_wp2_with fail;refine(Ka w3).mono ?_;rintro e w4 ⟨rfl,b4⟩;have Gi:=Qaa Ld b4;have Kv:=hid (Qaa Kg Gi);have Hn:=hid (K4.bw Gi K4.lt);have Hv:=hid (K5.bw Gi K5.lt);have Kx:=hid (Ju.bw Gi Ju.lt);have K3:=hid (K2.bw Gi K2.lt);have Ji:=hid (Jw.bw Gi);have Jj:=hid (Jx.bw Gi);clear b4 Gi x0 x1 Ka;cases B2 with
      | false=>
       have HZ:Hid (X=Sx.mt/\ Y=Sx.mt/\ CC=4):=hid (by
        have e:chF S (dlS gn S.l P)=false:=by rw [G9.out];simp
        obtain⟨z1,z2,z3⟩:=Qmt e;exact⟨Hg.1.symm.trans z1,Hg.2.1.symm.trans z2,Hg.2.2.symm.trans z3⟩)
       obtain⟨r0,r1,rf⟩:=Hn.p2;have Jd:=hid (Hn.set (.slice none 0 0) (.slice none 0 0));have Q3:=(Hv.setAt ⟨w.heap.size+1,0,none⟩ (.slice none 0 0) (by show w.heap.size+1≠w.heap.size+1+1;omega)).setAt ⟨w.heap.size+1,1,none⟩ (.slice none 0 0) (by show w.heap.size+1≠w.heap.size+1+1;omega);obtain⟨q0,q1,qf⟩:=Q3.p2;have Jl:=hid (Q3.set (.slice none 0 0) (.slice none 0 0));have Je:=hid ((Jd.setAt ⟨w.heap.size+1+1,0,none⟩ (.slice none 0 0) (by show w.heap.size+1+1≠w.heap.size+1;omega)).setAt ⟨w.heap.size+1+1,1,none⟩ (.slice none 0 0) (by show w.heap.size+1+1≠w.heap.size+1;omega));clear Q3;go_wp2_with fail;obtain⟨s0,s1⟩:=Je.q2;obtain⟨s2,s3⟩:=Jl.q2;refine zF (v:=.tuple #[.agg #[.slice none 0 0,.slice none 0 0],.agg #[.slice none 0 0,.slice none 0 0],.int .i64 4]) (by simp [results,Tryz.results64,go_sem,s0,s1,s2,s3]) ⟨none,0,none,0,none,0,none,0,by rw [HZ.1,HZ.2.1,HZ.2.2];rfl,?_,?_,?_⟩
       ·rw [HZ.1];exact SNc.mt _ _ _ _
       ·rw [HZ.2.1];exact SNc.mt _ _ _ _
       ·exact(((Kv.setCell (by simp) _).setCell (by simp) _).setCell (by simp;omega) _).setCell (by simp;omega) _
      | true=>
       have HZ:Hid (X=mkS (nxL gn S.l P) (nxU S P)/\ Y=mkS P (dlU gn S.l P)/\ CC=0):=hid (by
        have e:chF S (dlS gn S.l P)=true:=by rw [G9.out];rfl
        obtain⟨z1,z2,z3⟩:=Qn2 e;exact⟨Hg.1.symm.trans (z1.trans Ky.2),Hg.2.1.symm.trans (z2.trans Ky.1),Hg.2.2.symm.trans z3⟩)
       have K7:Hid (∀w',Bx2 w' t1 (.slice (some ⟨gD,0,none⟩) d1 cD) (.slice Hy d2 H3) ->Bx2 w' t2 (.slice (some ⟨C,0,none⟩) n1 B) (.slice Hs n2 Hz) ->(w'.cell? ⟨t1,0,none⟩=some (.slice (some ⟨gD,0,none⟩) d1 cD)/\ w'.cell? ⟨t1,1,none⟩=some (.slice Hy d2 H3)/\ w'.cell? ⟨t2,0,none⟩=some (.slice (some ⟨C,0,none⟩) n1 B)/\ w'.cell? ⟨t2,1,none⟩=some (.slice Hs n2 Hz))):=hid (fun w' h1 h2=>⟨h1.c0,h1.c1,h2.c0,h2.c1⟩);go_wp2_with fail;refine zB K7 (Kx.bw zI.drew Kx.lt) (K3.bw zI.drew K3.lt) (fun qh=> ?_);refine tZ 0 132 ?_;refine tZ 1 133 ?_;obtain⟨u0,Jp⟩:=zE w4.drew;have bu:Bl w4 u0:=by rw [<- Jp];exact zI.drew
       rw [Jp];clear Jp;have R1:=Hn.bw bu Hn.lt;have R2:=Hv.bw bu Hv.lt;obtain⟨r0,r1,rf⟩:=R1.p2;have Lz:=Lk.out;have DA:=((Kx.bw bu Kx.lt).setAt ⟨w.heap.size+1,0,none⟩ (.slice (some ⟨C,0,none⟩) n1 B) (by show w.heap.size+1≠t1;omega)).setAt ⟨w.heap.size+1,1,none⟩ (.slice Hs n2 Hz) (by show w.heap.size+1≠t1;omega);have NA:=((K3.bw bu K3.lt).setAt ⟨w.heap.size+1,0,none⟩ (.slice (some ⟨C,0,none⟩) n1 B) (by show w.heap.size+1≠t2;omega)).setAt ⟨w.heap.size+1,1,none⟩ (.slice Hs n2 Hz) (by show w.heap.size+1≠t2;omega);have RA:=R1.set (.slice (some ⟨C,0,none⟩) n1 B) (.slice Hs n2 Hz);have QA:=(R2.setAt ⟨w.heap.size+1,0,none⟩ (.slice (some ⟨C,0,none⟩) n1 B) (by show w.heap.size+1≠w.heap.size+1+1;omega)).setAt ⟨w.heap.size+1,1,none⟩ (.slice Hs n2 Hz) (by show w.heap.size+1≠w.heap.size+1+1;omega);have DB:=(DA.setAt ⟨w.heap.size+1+1,0,none⟩ (.slice (some ⟨gD,0,none⟩) d1 cD) (by show w.heap.size+1+1≠t1;omega)).setAt ⟨w.heap.size+1+1,1,none⟩ (.slice Hy d2 H3) (by show w.heap.size+1+1≠t1;omega);have NB:=(NA.setAt ⟨w.heap.size+1+1,0,none⟩ (.slice (some ⟨gD,0,none⟩) d1 cD) (by show w.heap.size+1+1≠t2;omega)).setAt ⟨w.heap.size+1+1,1,none⟩ (.slice Hy d2 H3) (by show w.heap.size+1+1≠t2;omega);have RB:=hid ((RA.setAt ⟨w.heap.size+1+1,0,none⟩ (.slice (some ⟨gD,0,none⟩) d1 cD) (by show w.heap.size+1+1≠w.heap.size+1;omega)).setAt ⟨w.heap.size+1+1,1,none⟩ (.slice Hy d2 H3) (by show w.heap.size+1+1≠w.heap.size+1;omega));have QB:=hid (QA.set (.slice (some ⟨gD,0,none⟩) d1 cD) (.slice Hy d2 H3));have Lj:=hid QA;clear R1 R2 RA QA;refine cZ 2 ?_;intro K r;go_simp;refine r.out _ _ (K7 _ DA NA) (fun qh=> ?_);clear r K;try simp only [zP]
       clear r0 r1 rf;obtain⟨r0,r1,rf⟩:=Lj.p2;refine cZ 3 ?_;intro K r;go_simp;refine r.out _ _ (K7 _ DB NB) (fun qh=> ?_);clear r K;try simp only [zP]
       refine tZ 4 8 ?_;refine zD ?_;have Jc:=hid bu;clear qh r0 r1 rf DA NA DB NB bu K7;go_wp2_with fail;obtain⟨s0,s1⟩:=RB.q2;obtain⟨s2,s3⟩:=QB.q2;refine zF (v:=.tuple #[.agg #[.slice (some ⟨C,0,none⟩) n1 B,.slice Hs n2 Hz],.agg #[.slice (some ⟨gD,0,none⟩) d1 cD,.slice Hy d2 H3],.int .i64 0]) (by simp [results,Tryz.results64,go_sem,s0,s1,s2,s3]) ?_;first|refine⟨some ⟨C,0,none⟩,B,Hs,Hz,some ⟨gD,0,none⟩,cD,Hy,⟨H3,?_⟩,?_,?_,?_⟩|refine⟨some ⟨C,0,none⟩,B,Hs,Hz,some ⟨gD,0,none⟩,cD,Hy,H3,?_,?_,?_,?_⟩
       ·obtain⟨z1,z2,z3⟩:=HZ.out;obtain⟨l1,l2,l3,l4⟩:=Lh.out;rw [z1,z2,z3];show _=Ending.returned (.tuple #[.agg #[.slice _ (nxL gn S.l P).length _,.slice _ (nxU S P).length _],.agg #[.slice _ P.length _,.slice _ (dlU gn S.l P).length _],_]);rw [l1,l2,l3,l4]
       ·rw [HZ.1];refine(Jj.bw Jc).move (by omega) (by simp [World.setCell]) (fun q h1 h2=> ?_);rw [zH _ _ _ _ (by simp;omega),zH _ _ _ _ (by simp;omega),zH _ _ _ _ (by simp;omega),zH _ _ _ _ (by simp;omega)]
       ·rw [HZ.2.1];refine(Ji.bw Jc).move (by omega) (by simp [World.setCell]) (fun q h1 h2=> ?_);rw [zH _ _ _ _ (by simp;omega),zH _ _ _ _ (by simp;omega),zH _ _ _ _ (by simp;omega),zH _ _ _ _ (by simp;omega)]
       ·exact((((Qaa Kv Jc).setCell (by simp) _).setCell (by simp) _).setCell (by simp;omega) _).setCell (by simp;omega) _
theorem Qjc (p q:List ByteArray)(a b:Option Addr)(c d:Nat)(w:World)(y:p.length<=c)(hd:q.length<=d)(hc':c<=9223372036854775807)(hd':d<=9223372036854775807)(h:Qaw w a p)(v:Qaw w b q):
  Cl 63 #[.slice a p.length c,.slice b q.length d] w fun e w'=>e=.returned (.bool (yes (p <+:q)))/\∃k,w'=w.drewN k:=by
 by_cases O:p.length<=q.length
 ·have s:decide ((p.length:Int)<=(q.length:Int))=true:=by simp;omega
  have A:decide (p.length<=q.length)=true:=by simp;omega
  have o:(q.take p.length).length=p.length:=by simp;omega
  have t:Qaw w b (q.take p.length):=by
   rcases v with v|⟨b,Q,rfl,M,y⟩
   ·exact .inl (by omega)
   ·refine .inr ⟨b,Q,rfl,M,fun i hi=> ?_⟩;have e:gS (q.take p.length) i=gS q i:=by simp [gS,List.getD,List.getElem?_take_of_lt (show i<p.length by omega)]
    rw [e];exact y i (by omega)
  have u:=hid (QcL p (q.take p.length) a b c d w y (by omega) hc' hd' h t);rw [o] at u;have m:Hid (QaD p (q.take p.length)=0↔p <+:q):=hid (by rw [Qds];exact⟨fun e=>by rw [e];exact List.take_prefix _ _,fun e=>List.prefix_iff_eq_take.1 e⟩);obtain⟨C,g⟩:=zE (QaD p (q.take p.length));rw [g] at u m;have U:(0:Int)<=(p.length:Int):=Int.natCast_nonneg _;have V:(p.length:Int)<=(d:Int):=by omega
  clear h v t g o;go_enter Tryz.func63,Tryz.ntmps63;go_wp2_with fail;refine u.mono ?_;rintro e w1 ⟨rfl,z,rfl⟩;clear u;by_cases j:C=0
  ·have E:(C==0)=true:=by simpa using j
   have r:=hid (Qah (m.1 j));clear j m;go_wp2_with fail;go_ret;exact⟨Qay r.symm,z,rfl⟩
  ·have E:(C==0)=false:=by simpa using j
   have r:=hid (Qaf (fun h=>j (m.2 h)));clear j m;go_wp2_with fail;go_ret;exact⟨Qay r.symm,z,rfl⟩
 ·have s:decide ((p.length:Int)<=(q.length:Int))=false:=by simp;omega
  have A:decide (p.length<=q.length)=false:=by simp;omega
  have r:Hid (yes (p <+:q)=false):=hid (Qaf (fun e=>O e.length_le));go_enter Tryz.func63,Tryz.ntmps63;go_wp2_with fail;go_ret;exact⟨Qay r.symm,0,rfl⟩
end Go.Proofs.YtgmjgboibfdaeaaGreatDoor
